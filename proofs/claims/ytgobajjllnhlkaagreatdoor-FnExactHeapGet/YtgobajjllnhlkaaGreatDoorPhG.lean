/- PhG: HpG1, HpG2. -/
import Derived.Test.YtgobajjllnhlkaaGreatDoorHpV3
import Derived.Test.YtgobajjllnhlkaaGreatDoorHpV12
import Derived.Test.YtgobajjllnhlkaaGreatDoorPhGen
import Derived.OwnWalkIn
namespace Go.Proofs.YtgobajjllnhlkaaGreatDoor
open Go.ChangeShapes Go.WideShapes Go.ChangeAt Go.RowKit Go.Shelf Go.Deep
set_option linter.unusedVariables false
set_option linter.unusedSimpArgs false
attribute [local go_sem] Oper.semAt_some
theorem thIn_own {β : Type} {B lo hi S sb : Nat} {gs : List (List Ty)} {ws : List Int} (x : HTh) : OwnFrom B (fun (_ : β) W => ThIn W lo hi S sb gs ws x) := fun s X Y row hs hg hr => by
 refine ⟨?_, hs.2⟩
 rcases hs.1 with h | h
 ·exact .inl (fields_own (β := Unit) () X Y row h hg hr)
 ·exact .inr ((fields_own (β := Unit) () X Y row h hg hr).wide' (Nat.le_refl _) hg.size)
theorem KpH.storeT {hi sb n₂ rb : Nat} {vs : List Value} {A : World} (hr : Rec A rb 89 vs) (h1 : hi ≤ rb) (h2 : rb ≠ sb) (h3 : rb < n₂) (o : Nat) (v : Value) : KpH hi sb n₂ A (A.setCell ⟨rb, o, none⟩ v) := by
 have hk : ∀ k, k ≠ rb → (A.setCell ⟨rb, o, none⟩ v).heap[k]? = A.heap[k]? := fun k hk => Below.heap_setCell _ _ _ _ hk
 have hr' : A.heap[rb]? = some (.cells vs.toArray 89 (0, 0)) := hr
 refine ⟨⟨by simp [World.setCell], fun k h => hk k (by omega), fun o' _ => World.cell?_of_block (w := A) (hk sb (fun e => h2 e.symm)), fun k c T hTT hn h => hk k fun e => ?_⟩, fun k o' _ h hc => (hk k fun e => ?_).trans h, fun k c hk' h => hk k (by omega)⟩
 ·subst e; rw [hr'] at h; cases h; exact hn rfl
 ·subst e; rw [hr'] at h; cases h; cases hc
/-- The cells of a thing's box. -/
def thC (gs : List (List Ty)) (ws : List Int) (x : HTh) : List Value := [.int .i64 (x.a : Int), .int .i64 (nAt ws x.a / 16), .slice x.fa (lenW gs ws x.a) x.fc, .slice x.wa (lenW gs ws x.a) x.wc]
/-- The thing was found. -/
def GotT (w0 : World) (lo hi S sb rb : Nat) (gs : List (List Ty)) (h : GHeap) (at' : Int) (W : World) : Prop :=
 (∃ x : HTh, (x.a : Int) = at' ∧ (x.a : Int) ∈ startsF gs h ∧ ThIn W lo hi S sb gs h.words x ∧ Rec W rb 89 (thC gs h.words x)) ∧ Below w0.heap.size w0 W ∧ Rec W (rb + 1) 4 [.bool true]
theorem gotT_own {β : Type} {w0 : World} {B lo hi S sb rb : Nat} {gs : List (List Ty)} {h : GHeap} {at' : Int} (hB : w0.heap.size ≤ B) : OwnFrom B (fun (_ : β) W => GotT w0 lo hi S sb rb gs h at' W) := fun s X Y row hs hg hr => by
 obtain ⟨⟨x, h1, h2, h3, h4⟩, h5, h6⟩ := hs
 exact ⟨⟨x, h1, h2, thIn_own (β := Unit) (B := B) x () X Y row h3 hg hr, rec_own' (β := Unit) B _ _ _ () X Y row h4 hg hr⟩, below_own (β := Unit) (Nat.le_refl _) () X Y row h5 hg (fun r e => ⟨Nat.le_trans hB (hr r e).1, (hr r e).2⟩), rec_own' (β := Unit) B _ _ _ () X Y row h6 hg hr⟩
theorem three_below (w : World) (a b c : Obj) : Below w.heap.size w (((w.alloc a).alloc b).alloc c) := (((Below.refl _ _).alloc (Nat.le_refl _) _).alloc (by simp) _).alloc (by simp; omega) _
theorem keepsFrom_trans {B : Nat} {A C D : World} (h : KeepsFrom B A C) (k : KeepsFrom B C D) : KeepsFrom B A D := ⟨Nat.le_trans h.size k.size, fun j o h1 h2 h3 => k.same j o h1 (h.same j o h1 h2 h3) h3⟩
theorem set4_rec {w : World} {b : Nat} {T : TypeId} {u0 u1 u2 u3 v0 v1 v2 v3 : Value} (h : Rec w b T [u0, u1, u2, u3]) : Rec ((((w.setCell ⟨b, 0, none⟩ v0).setCell ⟨b, 1, none⟩ v1).setCell ⟨b, 2, none⟩ v2).setCell ⟨b, 3, none⟩ v3) b T [v0, v1, v2, v3] := (((h.set 0 v0).set 1 v1).set 2 v2).set 3 v3
theorem set4_kp {w : World} {b B hi sb n₂ : Nat} {u0 u1 u2 u3 v0 v1 v2 v3 : Value} (h : Rec w b 89 [u0, u1, u2, u3]) (h1 : hi ≤ b) (h2 : b ≠ sb) (h3 : b < n₂) : KeepsFrom B w ((((w.setCell ⟨b, 0, none⟩ v0).setCell ⟨b, 1, none⟩ v1).setCell ⟨b, 2, none⟩ v2).setCell ⟨b, 3, none⟩ v3) ∧ KpH hi sb n₂ w ((((w.setCell ⟨b, 0, none⟩ v0).setCell ⟨b, 1, none⟩ v1).setCell ⟨b, 2, none⟩ v2).setCell ⟨b, 3, none⟩ v3) := by
 have r1 := h.set 0 v0
 have r2 := r1.set 1 v1
 have r3 := r2.set 2 v2
 exact ⟨keepsFrom_trans (keepsFrom_trans (keepsFrom_trans (keepsFrom_store h 0 v0) (keepsFrom_store r1 1 v1)) (keepsFrom_store r2 2 v2)) (keepsFrom_store r3 3 v3), (((KpH.storeT h h1 h2 h3 0 v0).trans (KpH.storeT r1 h1 h2 h3 1 v1)).trans (KpH.storeT r2 h1 h2 h3 2 v2)).trans (KpH.storeT r3 h1 h2 h3 3 v3)⟩
theorem set4_below {w : World} {b S : Nat} {v0 v1 v2 v3 : Value} (h : S ≤ b) : Below S w ((((w.setCell ⟨b, 0, none⟩ v0).setCell ⟨b, 1, none⟩ v1).setCell ⟨b, 2, none⟩ v2).setCell ⟨b, 3, none⟩ v3) :=
 ((((Below.refl _ _).setCell (p := ⟨b, 0, none⟩) h _).setCell (p := ⟨b, 1, none⟩) h _).setCell (p := ⟨b, 2, none⟩) h _).setCell (p := ⟨b, 3, none⟩) h _
theorem set4_off {w : World} {b k : Nat} {v0 v1 v2 v3 : Value} (h : k ≠ b) : ((((w.setCell ⟨b, 0, none⟩ v0).setCell ⟨b, 1, none⟩ v1).setCell ⟨b, 2, none⟩ v2).setCell ⟨b, 3, none⟩ v3).heap[k]? = w.heap[k]? :=
 (Below.heap_setCell _ _ _ _ h).trans ((Below.heap_setCell _ _ _ _ h).trans ((Below.heap_setCell _ _ _ _ h).trans (Below.heap_setCell _ _ _ _ h)))
theorem thIn_off {w w' : World} {lo hi S sb : Nat} {gs : List (List Ty)} {ws : List Int} {x : HTh} (h : ThIn w lo hi S sb gs ws x) (hk : ∀ k, (k < hi ∨ S ≤ k) → w'.heap[k]? = w.heap[k]?) (hs : w.heap.size ≤ w'.heap.size) : ThIn w' lo hi S sb gs ws x := by
 refine ⟨?_, h.2⟩
 rcases h.1 with h1 | h1
 ·exact .inl (h1.same (fun k _ h2 => hk k (.inl h2)) (Nat.le_refl _) (Nat.le_refl _))
 ·exact .inr (h1.same (fun k h2 _ => hk k (.inr h2)) (Nat.le_refl _) hs)
set_option maxRecDepth 100000 in
set_option maxHeartbeats 4000000 in
theorem thingFrom_any (lo hi sb : Nat) (ra : Option Addr) (rc cb co cc : Nat) (gs : List (List Ty)) (h : GHeap) (at' : Int) (H : HOk gs h) (w : World) (hs : SpA w lo hi sb gs h ra rc cb co cc) :
 Calls Tryz.prog 59 #[.pointer (some ⟨sb, 0, none⟩), .int .i64 at'] w fun e w' => ((¬ at' ∈ startsF gs h ∧ e = .returned (.tuple #[zeroTh, .bool false])) ∨ (∃ x : HTh, (x.a : Int) = at' ∧ (x.a : Int) ∈ startsF gs h ∧ ThIn w' lo hi (w.heap.size + 3) sb gs h.words x ∧ e = .returned (.tuple #[thV gs h.words x, .bool true]))) ∧ Below w.heap.size w w' := by
 obtain ⟨w1, hw1⟩ : ∃ w1, w1 = ((w.alloc (.cells #[.int .i64 at'] 3)).alloc (.cells #[.int .i64 0, .int .i64 0, .slice none 0 0, .slice none 0 0] 89)).alloc (.cells #[.bool false] 4) := ⟨_, rfl⟩
 have B1 : Hid (Below w.heap.size w w1) := by show Below _ _ _; rw [hw1]; exact three_below _ _ _ _
 have P1 : Rec w1 w.heap.size 3 [.int .i64 at'] := by rw [hw1]; exact ((Rec.new _ _ _).alloc _).alloc _
 have T1 : Rec w1 (w.heap.size + 1) 89 [.int .i64 0, .int .i64 0, .slice none 0 0, .slice none 0 0] := by rw [hw1]; exact (Rec.new' _ _ _ _ (by simp)).alloc _
 have R1 : Rec w1 (w.heap.size + 1 + 1) 4 [.bool false] := by rw [hw1]; exact Rec.new' _ _ _ _ (by simp)
 have hz1 : w1.heap.size ≤ w.heap.size + 3 := by rw [hw1]; simp
 have hz2 : w.heap.size + 3 ≤ w1.heap.size := by rw [hw1]; simp
 have hs1 := hs.keep B1.out
 have hlt := hs.lt
 have hhs := hs.hh
 have hhi : hi ≤ w1.heap.size := Nat.le_trans hs1.hh (Nat.le_of_lt hs1.lt)
 refine (callsIn_wide (n := 6)).1 ?_
 refine callsIn_of_wp_marks Tryz.func59 rfl trivial ?_ rfl
 simp only [Tryz.ntmps59, List.size_toArray, List.length_cons, List.length_nil, Nat.reduceAdd, Nat.reduceSub, Array.replicate_succ, Array.replicate_zero, List.push_toArray, List.append_toArray, List.nil_append, List.cons_append]
 refine wpIn_wide.2 ?_
 have hmo : Tryz.prog.follows .mixedOrders = true := by kernel_rfl
 have HS1 := hide hs1
 have HP1 := hide P1
 have HT1 := hide T1
 have HR1 := hide R1
 clear hs1 P1 R1 T1
 go_wp2_with fail
 rw [← hw1]
 clear hw1
 refine (wpIn_wide (n := 5)).1 ?_
 refine range_leave (F := Fence.wide) rfl (by omega) (gf := 55) (cap := #[.pointer (some ⟨sb, 0, none⟩)]) (lb := #[]) rfl trivial (enters_of Tryz.func55 (by kernel_rfl) rfl)
  (spSeq (5 - 1) lo hi sb (w.heap.size + 3) ra rc cb co cc gs h H w1 (by omega) HS1.out)
  KpH.trans (fun W o o' => KpH.put (by omega) (by omega) (by omega) W o o') (Below.refl _ _) (fun _ => rfl)
  (fun pre W' => (∀ x ∈ pre, ¬ (x.a : Int) = at') ∧ Below w1.heap.size w1 W') (fun c pre W' => c = .ret ∧ GotT w lo hi (w.heap.size + 3) sb (w.heap.size + 1) gs h at' W')
  (fun s X Y row h1 h2 h3 => ⟨h1.1, below_own (β := Unit) (Nat.le_refl _) () X Y row h1.2 h2 h3⟩) (fun c s X Y row h1 h2 h3 => ⟨h1.1, gotT_own (β := Unit) B1.out.size () X Y row h1.2 h2 h3⟩) (fun pre => gh_own pre) ⟨fun x hx => (by cases hx), Below.refl _ _⟩
  (fun x a' W' => ∃ b, a' = { tmps := #[.pointer (some ⟨sb, 0, none⟩), .int .i64 at', undef, .pointer (some ⟨w.heap.size, 0, none⟩), .pointer (some ⟨w.heap.size + 1, 0, none⟩), .pointer (some ⟨w.heap.size + 1 + 1, 0, none⟩), .pointer (some ⟨b, 0, none⟩), .pointer (some ⟨sb, 0, none⟩), .func (.func 55) #[.pointer (some ⟨sb, 0, none⟩)] #[], thV gs h.words x, undef, undef, undef, undef, undef, undef], defers := [] } ∧ Rec W' b 89 (thC gs h.words x)) (fun x a' s X Y row h1 h2 h3 => by
   obtain ⟨b, e, hr⟩ := h1
   exact ⟨b, e, rec_own' (β := Unit) _ _ _ _ () X Y row hr h2 h3⟩) ?assign ?body ?done ?stop
 case assign =>
  rintro l' pre ⟨xa, fa, fc, wa, wc⟩ Wx K ⟨hok, hbl⟩ hg hK
  simp only [thV]
  gi_wp2
  have hb := two_b Wx (.cells #[.int .i64 (xa : Int), .int .i64 (nAt h.words xa / 16), .slice fa (lenW gs h.words xa) fc, .slice wa (lenW gs h.words xa) wc] 89)
  have hbs := hbl.size
  exact hK _ _ (keepsFrom_below hb) (KpH.of_below hb (by omega) (by omega)) ⟨hok, hbl.trans (hb.mono hbs)⟩ ((gh_own (B := 0) pre).alloc _ hg) ⟨Wx.heap.size, rfl, Rec.new _ _ _⟩
 case body =>
  rintro l' pre ⟨xa, fa, fc, wa, wc⟩ a' Wx ⟨hok, hbw⟩ hg ⟨b, rfl, hrec⟩
  have hbs := hbw.size
  have hbl := hrec.lt
  have hsx : sb < Wx.heap.size := by omega
  have hpx := HP1.out.below hbw (by omega)
  have htx := HT1.out.below hbw (by omega)
  have hrx := HR1.out.below hbw (by omega)
  have p0 := hpx.cell (o := 0) rfl
  unfold thC at hrec
  have t0 := hrec.cell (o := 0) rfl
  have t1 := hrec.cell (o := 1) rfl
  have t2 := hrec.cell (o := 2) rfl
  have t3 := hrec.cell (o := 3) rfl
  have HOK := hide hok
  have HBW := hide hbw
  have HG := hide hg
  have HTX := hide htx
  have HRX := hide hrx
  have x0 := htx.cell (o := 0) rfl
  have x1 := htx.cell (o := 1) rfl
  have x2 := htx.cell (o := 2) rfl
  have x3 := htx.cell (o := 3) rfl
  have fx0 := htx.frozen 0
  have fx1 := htx.frozen 1
  have fx2 := htx.frozen 2
  have fx3 := htx.frozen 3
  have y0 := hrx.cell (o := 0) rfl
  have fy0 := hrx.frozen 0
  clear hok hbw hg hpx hrec htx hrx
  simp only [thV]
  by_cases he : (xa : Int) = at'
  ·have HE := hide he
   have HM := hide (mem_of_gh HG.out)
   subst he
   gi_wp2
   have hr4 : Rec ((((Wx.setCell ⟨w.heap.size + 1, 0, none⟩ (.int .i64 (xa : Int))).setCell ⟨w.heap.size + 1, 1, none⟩ (.int .i64 (nAt h.words xa / 16))).setCell ⟨w.heap.size + 1, 2, none⟩ (.slice fa (lenW gs h.words xa) fc)).setCell ⟨w.heap.size + 1, 3, none⟩ (.slice wa (lenW gs h.words xa) wc)) (w.heap.size + 1 + 1) 4 [.bool false] := (set4_off (by omega)).trans HRX.out
   have hb1 := set4_kp (B := w1.heap.size) (hi := hi) (sb := sb) (n₂ := w1.heap.size + 2) (v0 := .int .i64 (xa : Int)) (v1 := .int .i64 (nAt h.words xa / 16)) (v2 := .slice fa (lenW gs h.words xa) fc) (v3 := .slice wa (lenW gs h.words xa) wc) HTX.out (by omega) (by omega) (by omega)
   have hb2 := set4_rec (v0 := .int .i64 (xa : Int)) (v1 := .int .i64 (nAt h.words xa / 16)) (v2 := .slice fa (lenW gs h.words xa) fc) (v3 := .slice wa (lenW gs h.words xa) wc) HTX.out
   have hb3 := set4_below (w := Wx) (S := w.heap.size) (b := w.heap.size + 1) (v0 := .int .i64 (xa : Int)) (v1 := .int .i64 (nAt h.words xa / 16)) (v2 := .slice fa (lenW gs h.words xa) fc) (v3 := .slice wa (lenW gs h.words xa) wc) (Nat.le_succ _)
   have hth : ThIn Wx lo hi (w.heap.size + 3) sb gs h.words ⟨xa, fa, fc, wa, wc⟩ := HG.out.2
   have hth4 := thIn_off (w' := (((((Wx.setCell ⟨w.heap.size + 1, 0, none⟩ (.int .i64 (xa : Int))).setCell ⟨w.heap.size + 1, 1, none⟩ (.int .i64 (nAt h.words xa / 16))).setCell ⟨w.heap.size + 1, 2, none⟩ (.slice fa (lenW gs h.words xa) fc)).setCell ⟨w.heap.size + 1, 3, none⟩ (.slice wa (lenW gs h.words xa) wc)).setCell ⟨w.heap.size + 1 + 1, 0, none⟩ (.bool true))) hth (fun k hk => (Below.heap_setCell _ _ _ _ (by show k ≠ w.heap.size + 1 + 1; omega)).trans (set4_off (by omega))) (by simp [World.setCell])
   exact ⟨keepsFrom_trans hb1.1 (keepsFrom_store hr4 0 (.bool true)), hb1.2.trans (KpH.store hr4 (by decide) (by omega) (by omega) 0 _), rfl, ⟨⟨xa, fa, fc, wa, wc⟩, rfl, HM.out, hth4, (Below.heap_setCell _ _ _ _ (by show w.heap.size + 1 ≠ w.heap.size + 1 + 1; omega)).trans hb2⟩, ((B1.out.trans (HBW.out.mono B1.out.size)).trans hb3).setCell (p := ⟨w.heap.size + 1 + 1, 0, none⟩) (by show w.heap.size ≤ w.heap.size + 1 + 1; omega) _, hr4.set 0 _⟩
  ·have hne : ((xa : Int) == at') = false := beq_eq_false_iff_ne.2 he
   have HE := hide he
   clear he
   gi_wp2
   refine ⟨keepsFrom_below (Below.refl _ _), KpH.of_below (Below.refl _ _) (by omega) (by omega), fun x hx => ?_, HBW.out⟩
   rcases List.mem_append.1 hx with h1 | h1
   ·exact HOK.out x h1
   ·obtain rfl := List.mem_singleton.1 h1
    exact HE.out
 case stop =>
  rintro D c pre W8 hD hpre ⟨rfl, ⟨x, hx1, hx2, hx3, hx4⟩, hb8, hr8⟩ hD8
  have HDD := hide hD8
  have HB8 := hide hb8
  have hDw : w.heap.size + 3 ≤ D := Nat.le_trans hz2 hD
  have HX4 : Hid (Rec (W8.putObj D (.deferred none)) (w.heap.size + 1) 89 (thC gs h.words x)) := (World.putObj_heap_other (by omega)).trans hx4
  have HR8 : Hid (Rec (W8.putObj D (.deferred none)) (w.heap.size + 1 + 1) 4 [.bool true]) := (World.putObj_heap_other (by omega)).trans hr8
  have HTI := hide ((thIn_own (β := Unit) (B := w1.heap.size) x).putObj (s := ()) (.deferred none) hx3 hD hD8 rfl)
  have HX1 := hide hx1
  have HX2 := hide hx2
  clear hpre hx1 hx2 hx3 hx4 hb8 hr8 hD8 pre
  refine wpIn_wide.2 ?_
  go_wp2_with fail
  refine ⟨by simp, .inl ⟨_, _, rfl, run_takeDeferred HDD.out, ?_⟩⟩
  unfold thC at HX4
  have c0 := HX4.out.cell (o := 0) rfl
  have c1 := HX4.out.cell (o := 1) rfl
  have c2 := HX4.out.cell (o := 2) rfl
  have c3 := HX4.out.cell (o := 3) rfl
  have c4 := HR8.out.cell (o := 0) rfl
  refine ⟨.tuple #[thV gs h.words x, .bool true], ?_, .inr ⟨x, HX1.out, HX2.out, HTI.out, rfl⟩, below_put (Nat.le_refl _) (by omega) HB8.out HDD.out⟩
  simp [results, Tryz.f59, go_sem, c0, c1, c2, c3, c4, thV]
 case done =>
  rintro D xs W8 hD hxs ⟨hall, hb8⟩ hD8
  have HNI : Hid (¬ at' ∈ startsF gs h) := fun hm => by
   rw [← hxs] at hm
   obtain ⟨x, h1, h2⟩ := List.mem_map.1 hm
   exact hall x h1 h2
  have hr8 := HR1.out.below hb8 (by omega)
  have ht8 := HT1.out.below hb8 (by omega)
  have HDD := hide hD8
  have HB8 := hide (B1.out.trans (hb8.mono B1.out.size))
  have HR8 := hide hr8
  have HT8 := hide ht8
  have hDw : w.heap.size + 3 ≤ D := Nat.le_trans hz2 hD
  have x0 := ht8.cell (o := 0) rfl
  have x1 := ht8.cell (o := 1) rfl
  have x2 := ht8.cell (o := 2) rfl
  have x3 := ht8.cell (o := 3) rfl
  have fx0 := ht8.frozen 0
  have fx1 := ht8.frozen 1
  have fx2 := ht8.frozen 2
  have fx3 := ht8.frozen 3
  have y0 := hr8.cell (o := 0) rfl
  have fy0 := hr8.frozen 0
  clear hxs hall hb8 hr8 ht8 hD8 xs
  go_wp2_with fail
  have hr4 : Rec ((((W8.setCell ⟨w.heap.size + 1, 0, none⟩ (.int .i64 0)).setCell ⟨w.heap.size + 1, 1, none⟩ (.int .i64 0)).setCell ⟨w.heap.size + 1, 2, none⟩ (.slice none 0 0)).setCell ⟨w.heap.size + 1, 3, none⟩ (.slice none 0 0)) (w.heap.size + 1 + 1) 4 [.bool false] := (set4_off (by omega)).trans HR8.out
  have hb2 := set4_rec (v0 := .int .i64 0) (v1 := .int .i64 0) (v2 := .slice none 0 0) (v3 := .slice none 0 0) HT8.out
  have hb3 := set4_below (w := W8) (S := w.heap.size) (b := w.heap.size + 1) (v0 := .int .i64 0) (v1 := .int .i64 0) (v2 := .slice none 0 0) (v3 := .slice none 0 0) (Nat.le_succ _)
  have hd4 := set4_off (w := W8) (b := w.heap.size + 1) (k := D) (v0 := .int .i64 0) (v1 := .int .i64 0) (v2 := .slice none 0 0) (v3 := .slice none 0 0) (by omega)
  obtain ⟨W9, hW9⟩ : ∃ W9, W9 = (((((W8.setCell ⟨w.heap.size + 1, 0, none⟩ (.int .i64 0)).setCell ⟨w.heap.size + 1, 1, none⟩ (.int .i64 0)).setCell ⟨w.heap.size + 1, 2, none⟩ (.slice none 0 0)).setCell ⟨w.heap.size + 1, 3, none⟩ (.slice none 0 0)).setCell ⟨w.heap.size + 1 + 1, 0, none⟩ (.bool false)) := ⟨_, rfl⟩
  rw [← hW9]
  have HD9 : Hid (W9.heap[D]? = some (.deferred (some []))) := by show _ = _; rw [hW9]; exact (Below.heap_setCell _ _ _ _ (by show D ≠ w.heap.size + 1 + 1; omega)).trans (hd4.trans HDD.out)
  have HT9 : Rec W9 (w.heap.size + 1) 89 [.int .i64 0, .int .i64 0, .slice none 0 0, .slice none 0 0] := by rw [hW9]; exact (Below.heap_setCell _ _ _ _ (by show w.heap.size + 1 ≠ w.heap.size + 1 + 1; omega)).trans hb2
  have HR9 : Rec W9 (w.heap.size + 1 + 1) 4 [.bool false] := by rw [hW9]; exact hr4.set 0 _
  have HB9 : Below w.heap.size w W9 := by rw [hW9]; exact (HB8.out.trans hb3).setCell (p := ⟨w.heap.size + 1 + 1, 0, none⟩) (by show w.heap.size ≤ w.heap.size + 1 + 1; omega) _
  clear hW9 hr4 hb2 hb3 hd4
  refine ⟨by simp, .inl ⟨_, _, rfl, run_takeDeferred HD9.out, ?_⟩⟩
  have HX4 : Rec (W9.putObj D (.deferred none)) (w.heap.size + 1) 89 [.int .i64 0, .int .i64 0, .slice none 0 0, .slice none 0 0] := (World.putObj_heap_other (by omega)).trans HT9
  have HX5 : Rec (W9.putObj D (.deferred none)) (w.heap.size + 1 + 1) 4 [.bool false] := (World.putObj_heap_other (by omega)).trans HR9
  have c0 := HX4.cell (o := 0) rfl
  have c1 := HX4.cell (o := 1) rfl
  have c2 := HX4.cell (o := 2) rfl
  have c3 := HX4.cell (o := 3) rfl
  have c4 := HX5.cell (o := 0) rfl
  refine ⟨.tuple #[zeroTh, .bool false], ?_, .inl ⟨HNI.out, rfl⟩, below_put (Nat.le_refl _) (by omega) HB9 HD9.out⟩
  simp [results, Tryz.f59, go_sem, c0, c1, c2, c3, c4, zeroTh]
attribute [local go_sem] Oper.semAt_some
/-- Where things begin, in a heap that is right. -/
def thingsF (gs : List (List Ty)) (h : GHeap) : List Int := if heapOkF gs h = true then startsF gs h else []
/-- All that isn't numbers is kept. -/
def KeepI (A B : World) : Prop := A.heap.size ≤ B.heap.size ∧ ∀ (k : Nat) (ob : Obj), A.heap[k]? = some ob → (∀ cs, ob ≠ .cells cs 3 (0, 0)) → B.heap[k]? = some ob
theorem KeepI.rec {A B : World} (h : KeepI A B) {b : Nat} {T : TypeId} {vs : List Value} (hr : Rec A b T vs) (hT : T ≠ 3) : Rec B b T vs := h.2 b _ hr fun cs e => by cases e; exact hT rfl
theorem KeepI.keeps {A B : World} (h : KeepI A B) (S : Nat) : KeepsFrom S A B := ⟨h.1, fun k o _ hk hc => h.2 k o hk fun cs e => by rw [e] at hc; cases hc⟩
theorem KeepI.kp {A B : World} (h : KeepI A B) {hi sb n₂ S : Nat} (hb : Below S A B) (h1 : hi ≤ S) (h2 : sb < S) : KpH hi sb n₂ A B :=
 ⟨⟨h.1, fun k hk => hb.block k (by omega), fun o _ => hb.cell (p := ⟨sb, o, none⟩) h2, fun k c T hT _ hk => (h.2 k _ hk fun cs e => by cases e; exact absurd hT (by decide)).trans hk.symm⟩, fun k o _ hk hc => h.2 k o hk (fun cs e => by rw [e] at hc; cases hc), fun k c _ hk => (h.2 k _ hk fun cs e => by cases e).trans hk.symm⟩
theorem nrow_own {β : Type} {B S : Nat} {v : Value} {xs : List Int} : OwnFrom B (fun (_ : β) W => NRow W S v xs) := fun s X Y row hs hg hr => by
 refine owns_of_block hs fun k hk => hg.block k (owns_lt hs k hk) fun e => ?_
 obtain ⟨_, o, ho, hc⟩ := hr k e.symm
 rcases hs.2 with ⟨hv, _⟩ | ⟨g0, cap0, cur, hv, _, h7, _⟩
 ·rw [hv] at hk; simp [Value.ownBlock] at hk
 ·rw [hv] at hk
  simp [Value.ownBlock] at hk
  subst hk
  rw [h7] at ho
  cases ho
  cases hc
theorem nrow_set {A : World} {S b o : Nat} {v u : Value} {xs : List Int} (h : NRow A S v xs) (hb : b < S) : NRow (A.setCell ⟨b, o, none⟩ u) S v xs :=
 owns_of_block h fun k hk => Below.heap_setCell _ _ _ _ (by have := owns_base h k hk; show k ≠ b; omega)
/-- One number more, in a round. -/
theorem wpListIn_snoc_num {F : Fence} {n : Nat} {ops : Array Oper} {rest : List Oper} {o : Oper} {a : Act} {Q : Exit → Act → World → Prop} {w0 : World} (hgd : o.guard = none) (s x : Operand)
  (ho : o.op = .call { callee := .builtin .append, args := #[s, x], argTypes := #[23, 23] })
  (S : Nat) (v : Value) (xs : List Int) (l : Int) (hs : a.eval s = v) (hown : NRow w0 S v xs) (hx : a.eval x = .slice (some ⟨w0.heap.size, 0, none⟩) 1 1) (hn : xs.length ≤ 1000) (hS : S ≤ w0.heap.size)
  (h : ∀ g cap w', NRow w' S (.slice (some ⟨g, 0, none⟩) (xs.length + 1) cap) (xs ++ [l]) → Below S w0 w' → KeepI w0 w' → wpListIn F n Tryz.prog ops Q rest (a.put o.dst (.slice (some ⟨g, 0, none⟩) (xs.length + 1) cap)) w') :
  wpListIn F n Tryz.prog ops Q (o :: rest) a (w0.alloc (.cells #[.int .i64 l] 3)) := by
 obtain ⟨i0, hi0, hzz⟩ := Option.map_eq_some_iff.1 Tryz.infoNum
 simp only [Prod.mk.injEq] at hzz
 obtain ⟨hz0, hs0, hb0⟩ := hzz
 refine wpListIn_append_own _ hgd s x 23 ho S 3 i0 _ 1 8 Tryz.underlying23 hi0 hz0 hs0 hb0 rfl (by decide) v xs.length (numsV xs) hs (hown.alloc _) ⟨w0.heap.size, 0, none⟩ 1 1 [.int .i64 l] hx rfl (World.news_of_block (Deep.blk_alloc_new _ _)) (by intro u hu; simp at hu; subst hu; rfl) (by unfold maxLen; omega) (by omega) (by simp; omega) ?_
 intro v' w' h1 h2 h3
 have h1' : NRow w' S v' (xs ++ [l]) := by
  unfold NRow
  rw [numsV_app]
  have e : (xs ++ [l]).length = xs.length + 1 := by simp
  rw [e]
  exact h1
 obtain ⟨g, cap, rfl, _⟩ := h1'.form (by simp)
 rw [show (xs ++ [l]).length = xs.length + 1 by simp] at h1' ⊢
 refine h g cap w' h1' (((Below.refl S w0).alloc hS _).grown h2 (by simp; omega) (owns_base hown)) ⟨?_, fun k ob hk hne => ?_⟩
 ·have := h2.size
  simp at this
  omega
 ·have hkl : k < w0.heap.size := (Array.getElem?_eq_some_iff.1 hk).1
  have hno : v.ownBlock ≠ some k := by
   rcases hown.2 with ⟨hv, _⟩ | ⟨g0, cap0, cur, hv, _, h7, _⟩
   ·rw [hv]; simp [Value.ownBlock]
   ·rw [hv]
    intro e
    simp [Value.ownBlock] at e
    subst e
    rw [hk] at h7
    cases h7
    exact hne _ rfl
  exact ((h2.block k (by simp; omega) (fun e => hno e.symm)).trans (Below.heap_alloc _ _ _ hkl)).trans hk
/-- What the rounds keep. -/
def ThI (w0 w1 : World) (ab : Nat) (pre : List HTh) (W : World) : Prop :=
 (∃ a c, NRow W w1.heap.size (.slice a pre.length c) (pre.map fun y => (y.a : Int)) ∧ Rec W ab 23 [.slice a pre.length c]) ∧ Below w0.heap.size w0 W
theorem thI_own {w0 w1 : World} {ab : Nat} (h0 : w0.heap.size ≤ w1.heap.size) : OwnFrom w1.heap.size (ThI w0 w1 ab) := fun s X Y row hs hg hr => by
 obtain ⟨⟨a, c, h1, h2⟩, h3⟩ := hs
 exact ⟨⟨a, c, nrow_own (β := Unit) (B := w1.heap.size) () X Y row h1 hg hr, rec_own' (β := Unit) w1.heap.size _ _ _ () X Y row h2 hg hr⟩, below_own (β := Unit) (Nat.le_refl _) () X Y row h3 hg (fun r e => ⟨Nat.le_trans h0 (hr r e).1, (hr r e).2⟩)⟩
set_option maxRecDepth 100000 in
set_option maxHeartbeats 4000000 in
theorem implHeapThings_any (ga : Option Addr) (gc lo hi : Nat) (gs : List (List Ty)) (h : GHeap) (wa la : Option Addr) (wc lc hi' : Nat) (w : World) (hN : Few gs) (hl : lo ≤ hi) (hh : hi ≤ w.heap.size) (hx : GroupsIn w lo hi ga gs) (hp : pow10 w) (hW : HIn w 0 hi' h wa la wc lc) (hh' : hi' ≤ w.heap.size) :
 Calls Tryz.prog 18 #[.slice ga gs.length gc, heapV h wa la wc lc] w fun e w' => ∃ a c, e = .returned (.slice a (thingsF gs h).length c) ∧ NRow w' w.heap.size (.slice a (thingsF gs h).length c) (thingsF gs h) ∧ Below w.heap.size w w' := by
 obtain ⟨w1, hw1⟩ : ∃ w1, w1 = w.alloc (.cells #[.slice wa h.words.length wc, .int .i64 h.old, .int .i64 h.oldAt, .int .i64 h.youngAt, .slice la h.log.length lc] 31) := ⟨_, rfl⟩
 have B1 : Hid (Below w.heap.size w w1) := by show Below _ _ _; rw [hw1]; exact two_b _ _
 have HC := hide (heapSpaceOf_any ga gc lo hi gs h wa la wc lc hi' w1 hN hl (Nat.le_trans hh B1.out.size) (hx.keep (B1.out.mono hh)) (pow10_keep hp B1.out) (hW.keep (B1.out.mono hh')) (Nat.le_trans hh' B1.out.size))
 have HWB : Hid (∀ i, -9223372036854775808 ≤ nAt h.words i ∧ nAt h.words i ≤ 9223372036854775807) := hW.wb
 unfold heapV at HC ⊢
 clear hx hp hN hW
 subst hw1
 refine (callsIn_wide (n := 6)).1 ?_
 refine callsIn_of_wp_marks Tryz.func18 rfl trivial ?_ rfl
 simp only [Tryz.ntmps18, List.size_toArray, List.length_cons, List.length_nil, Nat.reduceAdd, Nat.reduceSub, Array.replicate_succ, Array.replicate_zero, List.push_toArray, List.append_toArray, List.nil_append, List.cons_append]
 refine wpIn_wide.2 ?_
 have hmo : Tryz.prog.follows .mixedOrders = true := by kernel_rfl
 go_wp2_with fail
 refine HC.out.mono ?_
 rintro e w2 ⟨b2, ⟨hf, rfl⟩ | ⟨hf, sb, S, lo', hi2, ra, rc, cb, cc, rfl, hsb, hsps, _⟩⟩
 ·have B2 := hide (B1.out.trans (b2.mono B1.out.size))
  have HF : Hid (thingsF gs h = []) := by show _ = _; unfold thingsF; rw [hf]; rfl
  clear b2 hf HC
  go_wp2_with fail
  rw [HF.out]
  refine ⟨.slice none 0 0, ?_, none, 0, rfl, NRow.nil _ _, B2.out⟩
  simp [results, Tryz.f18, go_sem]
 have B2 := hide (B1.out.trans (b2.mono B1.out.size))
 have HO : HOk gs h := by
  have h1 : kinOkF gs = true ∧ sizeF h = true := by
   unfold heapOkF at hf
   simp only [Bool.and_eq_true] at hf
   exact ⟨hf.1.1, hf.1.2.1⟩
  exact ⟨kinOk_parts h1.1, (sizeF_iff h).1 h1.2, HWB.out⟩
 have HF : Hid (thingsF gs h = startsF gs h) := by show _ = _; unfold thingsF; rw [if_pos hf]
 have hlt := hsps.lt
 have hhs := hsps.hh
 have hl160 := starts_len (gs := gs) HO.sz
 obtain ⟨w3, hw3⟩ : ∃ w3, w3 = w2.alloc (.cells #[.slice none 0 0] 23) := ⟨_, rfl⟩
 have b3 : Below w2.heap.size w2 w3 := by rw [hw3]; exact two_b _ _
 have A3 : Rec w3 w2.heap.size 23 [.slice none 0 0] := by rw [hw3]; exact Rec.new _ _ _
 have z3 : w2.heap.size + 1 ≤ w3.heap.size := by rw [hw3]; simp
 have z3b : w3.heap.size ≤ w2.heap.size + 1 := by rw [hw3]; simp
 have hs3 := hsps.toSpA.keep b3
 have HS3 := hide hs3
 have HA3 := hide A3
 have HB3 := hide b3
 have hw2 : w.heap.size ≤ w2.heap.size := B2.out.size
 clear hf hsps HC hs3 A3 b3 b2
 go_wp2_with fail
 rw [← hw3]
 clear hw3
 refine (wpIn_wide (n := 5)).1 ?_
 refine range_leave (F := Fence.wide) rfl (by omega) (gf := 55) (cap := #[.pointer (some ⟨sb, 0, none⟩)]) (lb := #[]) rfl trivial (enters_of Tryz.func55 (by kernel_rfl) rfl)
  (spSeq (5 - 1) lo' hi2 sb w3.heap.size ra rc cb 0 cc gs h HO w3 (Nat.le_refl _) HS3.out)
  KpH.trans (fun W o o' => KpH.put (by omega) (by omega) (by omega) W o o') (Below.refl _ _) (fun _ => rfl)
  (ThI w2 w3 w2.heap.size) (fun _ _ _ => False)
  (thI_own (by omega)) (fun c s X Y row h1 h2 h3 => h1) (fun pre => gh_own pre) ⟨⟨none, 0, NRow.nil _ _, HA3.out⟩, HB3.out⟩
  (fun x a' W' => ∃ b, a' = { tmps := #[.slice ga gs.length gc, .agg #[.slice wa h.words.length wc, .int .i64 h.old, .int .i64 h.oldAt, .int .i64 h.youngAt, .slice la h.log.length lc], undef, .pointer (some ⟨w.heap.size, 0, none⟩), .slice none 0 0, .pointer (some ⟨sb, 0, none⟩), .bool true, .pointer (some ⟨w2.heap.size, 0, none⟩), .pointer (some ⟨b, 0, none⟩), .tuple #[.pointer (some ⟨sb, 0, none⟩), .bool true], .slice ga gs.length gc, .agg #[.slice wa h.words.length wc, .int .i64 h.old, .int .i64 h.oldAt, .int .i64 h.youngAt, .slice la h.log.length lc], .tuple #[.pointer (some ⟨sb, 0, none⟩), .bool true], .pointer (some ⟨sb, 0, none⟩), .bool true, .bool true, .bool false, .pointer (some ⟨sb, 0, none⟩), .func (.func 55) #[.pointer (some ⟨sb, 0, none⟩)] #[], thV gs h.words x, undef, undef, undef, undef, undef, undef], defers := [] } ∧ Rec W' b 89 (thC gs h.words x)) (fun x a' s X Y row h1 h2 h3 => by
   obtain ⟨b, e, hr⟩ := h1
   exact ⟨b, e, rec_own' (β := Unit) _ _ _ _ () X Y row hr h2 h3⟩) ?assign ?body ?done ?stop
 case assign =>
  rintro l' pre ⟨xa, fa, fc, wa, wc⟩ Wx K hI hg hK
  simp only [thV]
  gi_wp2
  have hb := two_b Wx (.cells #[.int .i64 (xa : Int), .int .i64 (nAt h.words xa / 16), .slice fa (lenW gs h.words xa) fc, .slice wa (lenW gs h.words xa) wc] 89)
  have hbs := hI.2.size
  have hrl : w2.heap.size < Wx.heap.size := by
   obtain ⟨⟨a, c, _, h2⟩, _⟩ := hI
   exact h2.lt
  exact hK _ _ (keepsFrom_below hb) (KpH.of_below hb (by omega) (by omega)) ((thI_own (by omega)).alloc _ hI) ((gh_own (B := 0) pre).alloc _ hg) ⟨Wx.heap.size, rfl, Rec.new _ _ _⟩
 case body =>
  rintro l' pre ⟨xa, fa, fc, wa', wc'⟩ a' Wx hI hg ⟨b, rfl, hrec⟩
  obtain ⟨⟨a, c, hrow, hbox⟩, hbw⟩ := hI
  have hbs := hbw.size
  have hpl : pre.length ≤ 1000 := by
   have := hg.1.length_le
   simp at this
   omega
  have hbl := hrec.lt
  unfold thC at hrec
  have t0 := hrec.cell (o := 0) rfl
  have x0 := hbox.cell (o := 0) rfl
  have HW := hide hrow
  have HX := hide hbox
  have HBW := hide hbw
  have hxl := hbox.lt
  clear hrow hbox hbw hrec hg
  have hw3x : w3.heap.size ≤ Wx.heap.size := by omega
  have hpm : (pre.map (fun y : HTh => (y.a : Int))).length = pre.length := by simp
  have hpl2 : (pre.map (fun y : HTh => (y.a : Int))).length ≤ 1000 := by rw [hpm]; exact hpl
  have Hpm := hide hpm
  clear hpm
  simp only [thV]
  gi_wp2_with (first | (refine wpListIn_snoc_num rfl _ _ rfl w3.heap.size (.slice a pre.length c) (pre.map (fun y : HTh => (y.a : Int))) (xa : Int) rfl HW.out rfl hpl2 hw3x ?_))
  intro g7 cap7 W7 h7 b7 k7
  have HW7 := hide h7
  have HB7 := hide b7
  have HK7 := hide k7
  have hbox7 := k7.rec HX.out (by decide)
  have HX7 := hide hbox7
  have x7 := hbox7.cell (o := 0) rfl
  have fr7 := hbox7.frozen 0
  clear h7 b7 k7 hbox7 HX HW x0 t0
  gi_wp2
  have KS := keepsFrom_store (B := w3.heap.size) HX7.out 0 (.slice (some ⟨g7, 0, none⟩) (pre.length + 1) cap7)
  refine ⟨keepsFrom_trans (HK7.out.keeps _) KS, (HK7.out.kp HB7.out (by omega) (by omega)).trans (KpH.store HX7.out (by decide) (by omega) (by omega) 0 _), ⟨some ⟨g7, 0, none⟩, cap7, ?_, ?_⟩, ?_⟩
  ·have := nrow_set (o := 0) (u := .slice (some ⟨g7, 0, none⟩) (pre.length + 1) cap7) HW7.out (show w2.heap.size < w3.heap.size by omega)
   rw [List.length_append, List.map_append, List.length_singleton]
   exact this
  ·rw [List.length_append, List.length_singleton]
   exact HX7.out.set 0 _
  ·exact (HBW.out.trans (HB7.out.mono (by omega))).setCell (p := ⟨w2.heap.size, 0, none⟩) (Nat.le_refl _) _
 case stop =>
  rintro D c pre W8 hD hpre hF hD8
  exact hF.elim
 case done =>
  rintro D xs W8 hD hxs ⟨⟨a, c, hrow, hbox⟩, hbw⟩ hD8
  have hxl : xs.length = (startsF gs h).length := by rw [← hxs]; simp
  have x0 := hbox.cell (o := 0) rfl
  rw [hxs, hxl] at hrow
  rw [hxl] at x0
  have HROW := hide hrow
  have HDD := hide hD8
  have HB8 := hide (B2.out.trans (hbw.mono hw2))
  clear hxs hrow hbox hbw hD8 hxl
  go_wp2_with fail
  refine ⟨by simp, .inl ⟨_, _, rfl, run_takeDeferred HDD.out, ?_⟩⟩
  rw [HF.out]
  refine ⟨.slice a (startsF gs h).length c, ?_, a, c, rfl, ?_, below_put (Nat.le_refl _) (by omega) HB8.out HDD.out⟩
  ·simp [results, Tryz.f18, go_sem]
  ·exact (nrow_own (β := Unit) (B := w3.heap.size)).putObj (s := ()) _ (HROW.out.lower (by omega)) hD HDD.out rfl
end Go.Proofs.YtgobajjllnhlkaaGreatDoor
