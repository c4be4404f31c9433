/- heapSpace.findThings: where things begin. -/
import Derived.Test.YtembifoimiochaaGreatDoorHpV8
import Derived.Test.YtembifoimiochaaGreatDoorRegionL
namespace Go.Proofs.YtembifoimiochaaGreatDoor
open Go.ChangeShapes Go.WideShapes Go.ChangeAt Go.RowKit Go.Shelf Go.Deep
set_option linter.unusedVariables false
set_option linter.unusedSimpArgs false
attribute [local go_sem] Oper.semAt_some

def SbT (W : World) (sb : Nat) : Prop := ∃ cs : Array Value, W.heap[sb]? = some (.cells cs 106 (0, 0))
theorem SbT.fr {W : World} {sb : Nat} (h : SbT W sb) (o : Nat) : W.frozen? ⟨sb, o, none⟩ = false := by
 obtain ⟨cs, h⟩ := h
 simp [World.frozen?, h]
theorem SbT.block {W W' : World} {sb : Nat} (h : SbT W sb) (e : W'.heap[sb]? = W.heap[sb]?) : SbT W' sb := by
 obtain ⟨cs, h⟩ := h
 exact ⟨cs, e.trans h⟩
theorem SbT.set {W : World} {sb : Nat} (h : SbT W sb) (p : Addr) (v : Value) : SbT (W.setCell p v) sb := by
 obtain ⟨cs, h⟩ := h
 by_cases e : sb = p.block
 ·subst e
  unfold SbT
  simp [World.setCell, Array.getElem?_modify, h]
 ·exact ⟨cs, (Below.heap_setCell _ _ _ _ e).trans h⟩
theorem KpH.storeSb {hi sb n₂ : Nat} {A : World} {o : Nat} (h : SbT A sb) (h1 : hi ≤ sb) (ho : 162 ≤ o) (v : Value) : KpH hi sb n₂ A (A.setCell ⟨sb, o, none⟩ v) := by
 obtain ⟨cs, hr⟩ := h
 have hk : ∀ k, k ≠ sb → (A.setCell ⟨sb, o, none⟩ v).heap[k]? = A.heap[k]? := fun k hk => Below.heap_setCell _ _ _ _ hk
 refine ⟨⟨by simp [World.setCell], fun k h => hk k (by omega), fun o' ho' => cell_setCell_off A v (by omega), fun k c T hTT _ h => hk k fun e => ?_⟩, fun k o' _ h hc => (hk k fun e => ?_).trans h, fun k c _ h => hk k fun e => ?_⟩
 ·subst e; rw [hr] at h; cases h; exact absurd hTT (by decide)
 ·subst e; rw [hr] at h; cases h; cases hc
 ·subst e; rw [hr] at h; cases h
theorem kpf_grow {S sb : Nat} {A X Y : World} {row : Option Nat} (h : KpF S sb A X) (hSA : S ≤ A.heap.size) (hsb : sb < S) (hg : X.grownBy Y row) (hr : ∀ r, row = some r → S ≤ r) : KpF S sb A Y := by
 have b : ∀ k, k < S → Y.heap[k]? = X.heap[k]? := fun k hk => hg.block k (Nat.lt_of_lt_of_le hk (Nat.le_trans hSA h.sz)) (fun e => by have := hr k e.symm; omega)
 exact ⟨hg.os.trans h.os, hg.tape.trans h.tape, hg.output.trans h.output, Nat.le_trans h.sz hg.size, fun k hk hk' => (b k hk).trans (h.blk k hk hk'), fun o ho => (World.cell?_of_block (w := X) (b sb hsb)).trans (h.ws o ho), fun o => (frozen_block (b sb hsb) o).trans (h.fr o)⟩
/-- What a round keeps while it is noted where things begin. -/
def FtI (gs : List (List Ty)) (h : GHeap) (S sb vb fb : Nat) (L : List Int) (VV : List Value) (A : World) (pre : List HTh) (W : World) : Prop :=
 ((KpF S sb A W ∧ StAt W sb (stT h (L ++ pre.map (fun y => (y.a : Int))))) ∧ SbT W sb) ∧ Rec W vb 98 VV ∧ Rec W fb 3 [.int .i64 ((sumW gs h.words (pre.map (fun y => (y.a : Int))) : Nat) : Int)]
theorem FtI.own {gs : List (List Ty)} {h : GHeap} {S sb vb fb B : Nat} {L : List Int} {VV : List Value} {A : World} (h1 : S ≤ A.heap.size) (h2 : sb < S) (h3 : S ≤ B) : OwnFrom B (FtI gs h S sb vb fb L VV A) := by
 intro s X Y row hs hg hr
 have b : Y.heap[sb]? = X.heap[sb]? := hg.block sb (by have := hs.1.1.1.sz; omega) (fun e => by have := (hr sb e.symm).1; omega)
 exact ⟨⟨⟨kpf_grow hs.1.1.1 h1 h2 hg (fun r e => Nat.le_trans h3 (hr r e).1), hs.1.1.2.cells fun o => World.cell?_of_block (w := X) b⟩, hs.1.2.block b⟩, rec_own' (β := Unit) _ _ _ _ () X Y row hs.2.1 hg hr, rec_own' (β := Unit) _ _ _ _ () X Y row hs.2.2 hg hr⟩
theorem StAt.congr {w : World} {sb : Nat} {F G : Nat → Int} (H : StAt w sb F) (e : ∀ n, n < 160 → F n = G n) : StAt w sb G := fun n hn => ⟨by rw [← e n hn]; exact (H n hn).1, (H n hn).2⟩

set_option maxRecDepth 100000 in
set_option maxHeartbeats 8000000 in
theorem findThings_any (lo hi sb : Nat) (ra : Option Addr) (rc cb co cc : Nat) (gs : List (List Ty)) (h : GHeap) (H : HOk gs h) (F0 : Nat → Int) (w : World) (hs : SpA w lo hi sb gs h ra rc cb co cc) (hst : StAt w sb F0) (hT : SbT w sb) :
 Calls Tryz.prog 54 #[.pointer (some ⟨sb, 0, none⟩)] w fun e w' => e = .returned (.bool (wholeF gs h && zeroF h)) ∧ KpF w.heap.size sb w w' ∧ ((wholeF gs h && zeroF h) = true → StAt w' sb (stT h (startsF gs h))) := by
 obtain ⟨O, hO⟩ : ∃ O, h.old.toNat = O := ⟨_, rfl⟩
 obtain ⟨A, hA⟩ : ∃ A, h.oldAt.toNat = A := ⟨_, rfl⟩
 obtain ⟨Y, hYA⟩ : ∃ Y, h.youngAt.toNat = Y := ⟨_, rfl⟩
 obtain ⟨M, hM⟩ : ∃ M, h.words.length - O = M := ⟨_, rfl⟩
 have hlen := H.len
 have z1 : A ≤ O := by have := H.sz.a2; omega
 have z2 : O ≤ 120 := by have := H.sz.o2; omega
 have z3 : Y ≤ M := by have := H.sz.y2; have := H.sz.n1; have := H.sz.o1; omega
 have z4 : O + M = h.words.length := by have := H.sz.n1; have := H.sz.o1; omega
 have z5 : M ≤ 40 := by have := H.sz.n2; have := H.sz.n1; have := H.sz.o1; omega
 have HL1 : Hid ((partO gs h) = (part gs h.words (0 + A) 0)) := by show _ = _; unfold partO; rw [hA, Nat.zero_add]
 have HL2 : Hid ((partY gs h) = (part gs h.words (O + Y) O)) := by show _ = _; unfold partY; rw [hO, show (h.old + h.youngAt).toNat = O + Y by have := H.sz.o1; have := H.sz.y1; omega]
 have HST : Hid (startsF gs h = (part gs h.words (0 + A) 0).1 ++ (part gs h.words (O + Y) O).1) := by show _ = _; unfold startsF; rw [HL1.out, HL2.out]
 have HR : Hid ((wholeF gs h && zeroF h) = ((decide (sumW gs h.words (part gs h.words (0 + A) 0).1 = A) && clearF h.words (0 + A) (0 + O)) && (decide (sumW gs h.words (part gs h.words (O + Y) O).1 = Y) && clearF h.words (O + Y) (O + M)))) := by
  show _ = _
  unfold wholeF
  rw [zero_split H.sz, HL1.out, HL2.out, view_whole, view_whole, hO, hA, hYA, hM]
  generalize clearF h.words (0 + A) (0 + O) = c1
  generalize clearF h.words (O + Y) (O + M) = c2
  generalize decide (sumW gs h.words (part gs h.words (0 + A) 0).1 = A) = d1
  generalize decide (sumW gs h.words (part gs h.words (O + Y) O).1 = Y) = d2
  cases c1 <;> cases c2 <;> cases d1 <;> cases d2 <;> rfl
 generalize (wholeF gs h && zeroF h) = R at HR ⊢
 obtain ⟨w1, hw1⟩ : ∃ w1, w1 = w.alloc (.cells #[.pointer (some ⟨sb, 0, none⟩)] 52) := ⟨_, rfl⟩
 have B1 : Hid (Below w.heap.size w w1) := by show Below _ _ _; rw [hw1]; exact two_b _ _
 have P1 : Hid (Rec w1 w.heap.size 52 [.pointer (some ⟨sb, 0, none⟩)]) := by show Rec _ _ _ _; rw [hw1]; exact Rec.new _ _ _
 have hlt := hs.lt
 have hhs := hs.hh
 have hwl : w.heap.size < w1.heap.size := P1.out.lt
 have hs1 := hide (hs.keep B1.out)
 have hT1 := hide (hT.block (B1.out.block sb hlt))
 have hst1 := hide (hst.cells fun o => B1.out.cell (p := ⟨sb, o, none⟩) hlt)
 clear hs hst hT
 refine (callsIn_wide (n := 6)).1 ?_
 refine callsIn_of_wp_marks Tryz.func54 rfl trivial ?_ rfl
 simp only [Tryz.ntmps54, List.size_toArray, List.length_cons, List.length_nil, Nat.reduceAdd, Nat.reduceSub, Array.replicate_succ, Array.replicate_zero, List.push_toArray, List.append_toArray, List.nil_append, List.cons_append]
 refine wpIn_wide.2 ?_
 have hmo : Tryz.prog.follows .mixedOrders = true := by kernel_rfl
 have HVT := hide (fun (x0 x1 x2 y0 y1 : Value) (w : World) => callsIn_wide.1 (viewThings_in Fence.wide 0 trivial rfl x0 x1 x2 y0 y1 w))
 go_wp2_with fail
 rw [← hw1]
 clear hw1
 go_loopw [8] (fun v8 wr => ∃ k : Nat, k ≤ 160 ∧ v8 = .int .i64 (k : Int) ∧ Hid (StAt wr sb (fun n => if n < k then -1 else F0 n)) ∧ Hid (KpF w1.heap.size sb w1 wr) ∧ Hid (SbT wr sb)) (fun v8 wr => 160 - (intOf v8).toNat)
 case atStart => exact ⟨0, Nat.zero_le _, rfl, hst1.out.congr (fun n _ => by simp), KpF.refl _ _ _, hT1⟩
 case round =>
  obtain ⟨k, hk, rfl, HSt, HK, HT⟩ := hrel
  clear hst1 hT1
  have sz := HK.out.sz
  have p0 := (World.cell?_of_block (w := w1) (a := ⟨w.heap.size, 0, none⟩) (HK.out.blk w.heap.size hwl (by omega))).trans (P1.out.cell (o := 0) rfl)
  by_cases hlt160 : k < 160
  ·have q1 : (0 : Int) ≤ (k : Int) := by omega
   have q2 : (k : Int) < 160 := by omega
   have c0 := (HSt.out k hlt160).1
   have f0 := HT.out.fr (168 + k * 2)
   have ST2 : Hid (StAt (wr.setCell ⟨sb, 168 + k * 2, none⟩ (.int .i64 (-1))) sb (fun n => if n < k + 1 then -1 else F0 n)) := (HSt.out.set (-1) hlt160).congr fun n _ => by
    by_cases e : n = k
    ·simp [e]
    ·have : (n < k + 1) = (n < k) := by rw [eq_iff_iff]; omega
     simp [e, this]
   have K2 := hide (HK.out.trans (KpF.store (S := w1.heap.size) (sb := sb) (o := 168 + k * 2) (A := wr) (by omega) (by omega) (.int .i64 (-1))))
   have T2 := hide (HT.out.set ⟨sb, 168 + k * 2, none⟩ (.int .i64 (-1)))
   go_wp2_with fail
   exact ⟨⟨k + 1, by omega, by go_num, ST2, K2, T2⟩, by simp [intOf]; omega⟩
  ·have hk160 : k = 160 := by omega
   subst hk160
   have q2 : ¬ ((160 : Nat) : Int) < 160 := by omega
   have ST0 : Hid (StAt wr sb (stT h ([] ++ (([] : List HTh).map (fun y => (y.a : Int)))))) := HSt.out.congr fun n hn => by rw [if_pos hn]; exact (stT_nil (h := h) (n := n)).symm
   have SP := hide (HK.out.spa hs1.out hlen (by omega : hi ≤ w1.heap.size))
   have hsw : sb < wr.heap.size := SP.out.lt
   have hwr : w.heap.size < wr.heap.size := by omega
   have e0 := SP.out.o0
   have e2 := SP.out.o2
   have e3 := SP.out.y0
   have e4 := SP.out.y1
   have e5 := SP.out.y2
   rw [hO] at e0 e3 e4
   rw [hA] at e2
   rw [hYA] at e5
   rw [hM] at e3
   have HVW := hide (views_any sb O 160 M (160 - O) (some ⟨sb, 2 + 0, none⟩) (some ⟨sb, 2 + O, none⟩) ((0 : Nat) : Int) (A : Int) (O : Int) (Y : Int) wr hsw e0 SP.out.o1 e2 e3 e4 e5)
   clear e0 e2 e3 e4 e5 HSt
   have IX0 := fun w => index0 (.slice (some ⟨sb, 2, none⟩) O 160) (.int .i64 0) (.int .i64 (A : Int)) (.slice (some ⟨sb, 2 + O, none⟩) M (160 - O)) (.int .i64 (O : Int)) (.int .i64 (Y : Int)) w
   have IX1 := fun w => index1 (.slice (some ⟨sb, 2, none⟩) O 160) (.int .i64 0) (.int .i64 (A : Int)) (.slice (some ⟨sb, 2 + O, none⟩) M (160 - O)) (.int .i64 (O : Int)) (.int .i64 (Y : Int)) w
   go_wp2_with fail
   refine HVW.out.mono ?_
   rintro e W2 ⟨rfl, b2⟩
   have K2 := hide (HK.out.trans (KpF.of_below (b2.mono sz) (by omega)))
   have T2 := hide (HT.out.block (b2.block sb hsw))
   have ST2 := hide (ST0.out.cells fun o => b2.cell (p := ⟨sb, o, none⟩) hsw)
   have SP2 := hide (SP.out.keep b2)
   have P2 : Hid (Rec W2 w.heap.size 52 [.pointer (some ⟨sb, 0, none⟩)]) := (K2.out.blk w.heap.size hwl (by omega)).trans P1.out
   have hz2 : w1.heap.size ≤ W2.heap.size := K2.out.sz
   clear b2 ST0 SP HVW HK HT p0 q2 hlt160 hk sz hsw hwr
   go_wp2_with fail
   refine wp_loop_rounds 3 ?_
   unfold Code.rounds
   obtain ⟨Va0, hVa⟩ : ∃ X, X = (W2.alloc (.cells #[.slice (some ⟨sb, 2, none⟩) O 160, .int .i64 0, .int .i64 (A : Int)] 98)).alloc (.cells #[.int .i64 0] 3) := ⟨_, rfl⟩
   have hsbW0 : sb < W2.heap.size + 1 := by have := SP2.out.lt; omega
   go_wp2_with fail
   rw [← hVa]
   have BV0 : Hid (Below W2.heap.size W2 Va0) := by show Below _ _ _; rw [hVa]; exact two_below _ _ _
   have RV0 : Hid (Rec Va0 W2.heap.size 98 [.slice (some ⟨sb, 2, none⟩) O 160, .int .i64 0, .int .i64 (A : Int)]) := by show Rec _ _ _ _; rw [hVa]; exact (Rec.new _ _ _).alloc _
   have RF0 : Hid (Rec Va0 (W2.heap.size + 1) 3 [.int .i64 0]) := by show Rec _ _ _ _; rw [hVa]; exact Rec.new' _ _ _ _ (by simp)
   clear hVa hsbW0
   have SPa0 := hide (SP2.out.keep BV0.out)
   have Pa0 := hide (P2.out.below BV0.out P2.out.lt)
   have hVl : sb < Va0.heap.size := SPa0.out.lt
   have hPl : w.heap.size < Va0.heap.size := Pa0.out.lt
   have hRl : W2.heap.size < Va0.heap.size := RV0.out.lt
   have k0 := SPa0.out.k0
   have k1 := SPa0.out.k1
   have p0 := Pa0.out.cell (o := 0) rfl
   have v0 := RV0.out.cell (o := 0) rfl
   have v1 := RV0.out.cell (o := 1) rfl
   have v2 := RV0.out.cell (o := 2) rfl
   go_region_held3 (fun w' => w'.cell? ⟨W2.heap.size, 0, none⟩ = some (.slice (some ⟨sb, 2, none⟩) O 160) ∧ w'.cell? ⟨W2.heap.size, 1, none⟩ = some (.int .i64 0) ∧ w'.cell? ⟨W2.heap.size, 2, none⟩ = some (.int .i64 (A : Int)) ∧ w'.cell? ⟨w.heap.size, 0, none⟩ = some (.pointer (some ⟨sb, 0, none⟩)) ∧ w'.cell? ⟨sb, 0, none⟩ = some (.slice ra (kinCount gs) rc) ∧ w'.cell? ⟨sb, 1, none⟩ = some (.slice (some ⟨cb, co, none⟩) (kinCount gs) cc)) (first | exact ⟨v0, v1, v2, p0, k0, k1⟩ | go_keep) ((go_at_call 75; refine (HVT.out _ _ _ _ _ _).mono ?_; rintro e Vb0 ⟨rfl, hW4⟩; have b4 : Below Va0.drew.heap.size Va0.drew Vb0 := (by rw [hW4]; exact ((Below.refl _ _).alloc (Nat.le_refl _) _).alloc (by simp) _); have VB0 : Hid (Rec Vb0 Va0.heap.size 98 [.slice (some ⟨sb, 2, none⟩) O 160, .int .i64 0, .int .i64 (A : Int)]) := (by show Rec _ _ _ _; rw [hW4]; exact (Rec.new Va0.drew _ _).alloc _); have KB0 : Hid (Rec Vb0 (Va0.heap.size + 1) 93 [.slice ra (kinCount gs) rc, .slice (some ⟨cb, co, none⟩) (kinCount gs) cc]) := (by show Rec _ _ _ _; rw [hW4]; exact Rec.new' _ _ _ _ (by simp)); have HB0 : Hid (Below Va0.heap.size Va0 Vb0) := below_drew0 b4; clear hW4 b4; have k0 := (HB0.out.cell (p := ⟨sb, 0, none⟩) hVl).trans k0; have k1 := (HB0.out.cell (p := ⟨sb, 1, none⟩) hVl).trans k1; have p0 := (HB0.out.cell (p := ⟨w.heap.size, 0, none⟩) hPl).trans p0; have v0 := (HB0.out.cell (p := ⟨W2.heap.size, 0, none⟩) hRl).trans v0; have v1 := (HB0.out.cell (p := ⟨W2.heap.size, 1, none⟩) hRl).trans v1; have v2 := (HB0.out.cell (p := ⟨W2.heap.size, 2, none⟩) hRl).trans v2))
   rename_i hHeld
   clear hHeld k0 k1 v0 v1 v2 p0
   go_wp2_with fail
   have BB0 : Hid (Below W2.heap.size W2 Vb0) := BV0.out.trans (HB0.out.mono BV0.out.size)
   have SPb0 := hide (SPa0.out.keep HB0.out)
   have Pb0 := hide (Pa0.out.below HB0.out Pa0.out.lt)
   have hsW0 : sb < W2.heap.size := SP2.out.lt
   have hpW0 : w.heap.size < W2.heap.size := P2.out.lt
   have Tb0 := hide (T2.out.block (BB0.out.block sb hsW0))
   have STb0 := hide (ST2.out.cells fun o => BB0.out.cell (p := ⟨sb, o, none⟩) hsW0)
   have RVb0 := hide (RV0.out.below HB0.out RV0.out.lt)
   have RFb0 := hide (RF0.out.below HB0.out RF0.out.lt)
   have hVb0 : Va0.heap.size + 2 ≤ Vb0.heap.size := KB0.out.lt
   have hFa0 : W2.heap.size + 1 < Va0.heap.size := RF0.out.lt
   have hib0 : hi ≤ Vb0.heap.size := by omega
   clear RV0 RF0 SPa0 Pa0 BV0 hVl hPl hRl
   have HOW0 : OwnFrom Vb0.heap.size (FtI gs h W2.heap.size sb W2.heap.size (W2.heap.size + 1) ([] : List Int) [.slice (some ⟨sb, 2, none⟩) O 160, .int .i64 0, .int .i64 (A : Int)] Vb0) := FtI.own (by omega) hsW0 (by omega)
   refine (wpIn_wide (n := 5)).1 ?_
   refine range_leave (F := Fence.wide) rfl (by omega) (gf := 102) (cap := #[]) (lb := #[.pointer (some ⟨Va0.heap.size, 0, none⟩), .pointer (some ⟨Va0.heap.size + 1, 0, none⟩)]) rfl trivial (enters_of Tryz.func102 (by kernel_rfl) rfl)
    (viewSeq (5 - 1) Va0.heap.size (Va0.heap.size + 1) lo hi sb 0 O 160 A Vb0.heap.size (Vb0.heap.size + 2) ra rc cb co cc gs h.words (by omega) H.pa (by omega) (by omega) hlen (by omega) (by omega) H.wb Vb0 (Nat.le_refl _) (Nat.le_refl _) SPb0.out.tab hib0 SPb0.out.ws SPb0.out.lt VB0.out KB0.out)
    KpH.trans (fun W o o' => KpH.put (by omega) (by omega) (by omega) W o o') (Below.refl _ _) (fun _ => rfl)
    (FtI gs h W2.heap.size sb W2.heap.size (W2.heap.size + 1) ([] : List Int) [.slice (some ⟨sb, 2, none⟩) O 160, .int .i64 0, .int .i64 (A : Int)] Vb0) (fun c pre W' => False) HOW0 (fun c s X Y row h1 h2 h3 => h1) (fun pre => gh_own pre) ⟨⟨⟨KpF.refl _ _ _, STb0.out⟩, Tb0.out⟩, RVb0.out, RFb0.out⟩
    (fun x a' W' => ∃ b, a' = { tmps := #[.pointer (some ⟨sb, 0, none⟩), .pointer (some ⟨w.heap.size, 0, none⟩), .bool false, u3, undef, .pointer (some ⟨W2.heap.size, 0, none⟩), .pointer (some ⟨W2.heap.size + 1, 0, none⟩), .pointer (some ⟨b, 0, none⟩), .int .i64 160, .bool false, u10, u11, u12, u13, u14, u15, u16, u17, .pointer (some ⟨sb, 0, none⟩), .agg #[.slice (some ⟨sb, 2, none⟩) O 160, .int .i64 0, .int .i64 (A : Int), .slice (some ⟨sb, 2 + O, none⟩) M (160 - O), .int .i64 (O : Int), .int .i64 (Y : Int)], .int .i64 0, .bool true, .agg #[.slice (some ⟨sb, 2, none⟩) O 160, .int .i64 0, .int .i64 (A : Int)], .agg #[.slice (some ⟨sb, 2, none⟩) O 160, .int .i64 0, .int .i64 (A : Int)], .pointer (some ⟨sb, 0, none⟩), .pointer (some ⟨sb, 0, none⟩), .pointer (some ⟨sb, 0, none⟩), .agg #[.slice ra (kinCount gs) rc, .slice (some ⟨cb, co, none⟩) (kinCount gs) cc], .func (.func 102) #[] #[.pointer (some ⟨Va0.heap.size, 0, none⟩), .pointer (some ⟨Va0.heap.size + 1, 0, none⟩)], thV gs h.words x, undef, undef, undef, undef, undef, undef, undef, undef, undef, undef, undef, undef, undef, undef, undef, undef, undef, undef, undef, undef, undef, undef, undef], defers := [] } ∧ Rec W' b 131 [.int .i64 (x.a : Int), .int .i64 (nAt h.words x.a / 16), .slice x.fa (lenW gs h.words x.a) x.fc, .slice x.wa (lenW gs h.words x.a) x.wc]) (fun x a' s X Y row h1 h2 h3 => by
     obtain ⟨b, e, hr⟩ := h1
     exact ⟨b, e, rec_own' (β := Unit) _ _ _ _ () X Y row hr h2 h3⟩) ?assign ?body ?done ?stop
   case assign =>
    rintro l' pre ⟨xa, fa, fc, wa, wc⟩ Wx K hI hg hK
    simp only [thV]
    gi_wp2
    have hb := two_b Wx (.cells #[.int .i64 (xa : Int), .int .i64 (nAt h.words xa / 16), .slice fa (lenW gs h.words xa) fc, .slice wa (lenW gs h.words xa) wc] 131)
    have hbs := hI.1.1.1.sz
    exact hK _ _ (keepsFrom_below hb) (KpH.of_below hb (by omega) (by omega)) (own_below HOW0 hI hb) ((gh_own (B := 0) pre).alloc _ hg) ⟨Wx.heap.size, rfl, Rec.new _ _ _⟩
   case body =>
    rintro l' pre ⟨xa, fa, fc, wa, wc⟩ a' Wx ⟨⟨⟨hkf, hst⟩, hsbt⟩, hrv, hrf⟩ hg ⟨b, rfl, hrec⟩
    have hbs := hkf.sz
    have hbl := hrec.lt
    have hbv : b ≠ W2.heap.size := rec_ne hrec hrv (by decide)
    have hbf : b ≠ W2.heap.size + 1 := rec_ne hrec hrf (by decide)
    have hmem : (xa : Int) ∈ startsF gs h := by rw [HST.out]; exact List.mem_append.2 (.inl (mem_of_gh hg))
    obtain ⟨q0, q1, q2⟩ := thWords H.sz hmem
    have hx160 : xa < 160 := by omega
    have hsum : sumW gs h.words (pre.map (fun y => (y.a : Int))) + (1 + lenW gs h.words xa) ≤ A := by
     obtain ⟨t, ht⟩ := hg.1
     have h1 := sumW_le (gs := gs) (W := h.words) 0 A
     rw [← ht, List.map_append, sumW_app, sumW_app] at h1
     simp only [List.map_cons, List.map_nil, sumW, Int.toNat_natCast] at h1
     unfold lenW; omega
    have hap : (pre ++ [(⟨xa, fa, fc, wa, wc⟩ : HTh)]).map (fun y => (y.a : Int)) = pre.map (fun y => (y.a : Int)) ++ [(xa : Int)] := by simp
    have hsm : sumW gs h.words (pre.map (fun y => (y.a : Int)) ++ [(xa : Int)]) = sumW gs h.words (pre.map (fun y => (y.a : Int))) + (1 + lenW gs h.words xa) := by rw [sumW_app]; simp only [sumW, Int.toNat_natCast]; unfold lenW; omega
    have HG : Hid (∀ W', KpF W2.heap.size sb Vb0 W' → StAt W' sb (stT h ((([] : List Int) ++ pre.map (fun y => (y.a : Int))) ++ [(xa : Int)])) → SbT W' sb → Rec W' W2.heap.size 98 [.slice (some ⟨sb, 2, none⟩) O 160, .int .i64 0, .int .i64 (A : Int)] → Rec W' (W2.heap.size + 1) 3 [.int .i64 ((sumW gs h.words (pre.map (fun y => (y.a : Int))) + (1 + lenW gs h.words xa) : Nat) : Int)] → FtI gs h W2.heap.size sb W2.heap.size (W2.heap.size + 1) ([] : List Int) [.slice (some ⟨sb, 2, none⟩) O 160, .int .i64 0, .int .i64 (A : Int)] Vb0 (pre ++ [(⟨xa, fa, fc, wa, wc⟩ : HTh)]) W') := fun W' a1 a2 a3 a4 a5 => ⟨⟨⟨a1, by rw [hap, ← List.append_assoc]; exact a2⟩, a3⟩, a4, by rw [hap, hsm]; exact a5⟩
    clear hap hsm
    generalize sumW gs h.words (pre.map (fun y => (y.a : Int))) = fs at *
    generalize lenW gs h.words xa = n at *
    have p0 := (show Rec Wx w.heap.size 52 [.pointer (some ⟨sb, 0, none⟩)] from (hkf.blk w.heap.size hpW0 (by omega)).trans Pb0.out).cell (o := 0) rfl
    have t0 := hrec.cell (o := 0) rfl
    have t1 := hrec.cell (o := 1) rfl
    have c0 := (hst xa hx160).1
    have f0 := hsbt.fr (168 + xa * 2)
    have g0 : (0 : Int) ≤ (xa : Int) := by omega
    have g1 : (xa : Int) < 160 := by omega
    obtain ⟨X2, hX2⟩ : ∃ X2, X2 = (Wx.setCell ⟨sb, 168 + xa * 2, none⟩ (.int .i64 (nAt h.words xa / 16))).drew := ⟨_, rfl⟩
    have X2c : ∀ k, k ≠ sb → X2.heap[k]? = Wx.heap[k]? := fun k hk => by rw [hX2]; exact Below.heap_setCell _ _ _ _ hk
    have hsbx : sb < Wx.heap.size := by omega
    have hX2s : X2.heap.size = Wx.heap.size := by rw [hX2]; simp [World.setCell]
    have KP2 : Hid (KpH hi sb (Vb0.heap.size + 2) Wx X2) := by show KpH _ _ _ _ _; rw [hX2]; exact (KpH.storeSb hsbt (by omega) (by omega) _).trans (KpH.of_below ((Below.refl _ _).drew) (by simp [World.setCell]; omega) (by simp [World.setCell]; omega))
    have KF2 : Hid (KpF W2.heap.size sb Vb0 X2) := by show KpF _ _ _ _; rw [hX2]; exact hkf.trans ((KpF.store (by omega) (by omega) _).trans (KpF.of_below ((Below.refl _ _).drew) hsW0))
    have ST3 : Hid (StAt X2 sb (stT h ((([] : List Int) ++ pre.map (fun y => (y.a : Int))) ++ [(xa : Int)]))) := by show StAt _ _ _; rw [hX2]; exact (hst.set (nAt h.words xa / 16) hx160).congr fun n _ => (stT_snoc (h := h) (S := ([] : List Int) ++ pre.map (fun y => (y.a : Int)))).symm
    have SB3 : Hid (SbT X2 sb) := by show SbT _ _; rw [hX2]; exact hsbt.set _ _
    have RV3 : Hid (Rec X2 W2.heap.size 98 [.slice (some ⟨sb, 2, none⟩) O 160, .int .i64 0, .int .i64 (A : Int)]) := (X2c _ (by omega)).trans hrv
    have RF3 : Hid (Rec X2 (W2.heap.size + 1) 3 [.int .i64 (fs : Int)]) := (X2c _ (by omega)).trans hrf
    have RB3 : Hid (Rec X2 b 131 [.int .i64 (xa : Int), .int .i64 (nAt h.words xa / 16), .slice fa n fc, .slice wa n wc]) := (X2c _ (fun e => by rw [e] at hrec; obtain ⟨cs, hc⟩ := hsbt; rw [show Wx.heap[sb]? = _ from hrec] at hc; cases hc)).trans hrec
    have PB3 : Hid (Rec X2 w.heap.size 52 [.pointer (some ⟨sb, 0, none⟩)]) := (X2c _ (by omega)).trans ((hkf.blk w.heap.size hpW0 (by omega)).trans Pb0.out)
    have KX3 : Hid (KeepsFrom Vb0.heap.size Wx X2) := ⟨by omega, fun k o hk ho hc => (X2c k (by omega)).trans ho⟩
    clear X2c hkf hst hrv hrf hrec hg hmem q0 q1 q2
    simp only [thV]
    gi_wp2
    refine held_wide (S := (fun w' => w'.cell? ⟨w.heap.size, 0, none⟩ = some (.pointer (some ⟨sb, 0, none⟩)) ∧ w'.cell? ⟨b, 0, none⟩ = some (.int .i64 (xa : Int)) ∧ w'.cell? ⟨b, 1, none⟩ = some (.int .i64 (nAt h.words xa / 16)))) (by rintro ⟨x1, x2, hx⟩; exact hx) (by simp) hmo ?_
    have hHeld : (fun w' => w'.cell? ⟨w.heap.size, 0, none⟩ = some (.pointer (some ⟨sb, 0, none⟩)) ∧ w'.cell? ⟨b, 0, none⟩ = some (.int .i64 (xa : Int)) ∧ w'.cell? ⟨b, 1, none⟩ = some (.int .i64 (nAt h.words xa / 16))) Wx.drew := ⟨p0, t0, t1⟩
    refine takeL (i := 0) (v := ?vr0_0) rfl (by kernel_rfl) (by kernel_rfl) (by kernel_rfl) (fun _ _ _ h => h) (by kernel_rfl) (by assumption) ?yr0_0 ?rr0_0
    case yr0_0 => (intro w hSw; (try dsimp only at hSw); go_simp; try with_reducible rfl)
    (try simp only [Act.put, List.setIfInBounds_toArray, List.set_cons_zero, List.set_cons_succ])
    refine takeL (i := 1) (v := ?vr0_1) rfl (by kernel_rfl) (by kernel_rfl) (by kernel_rfl) (fun _ _ _ h => h) (by kernel_rfl) (by assumption) ?yr0_1 ?rr0_1
    case yr0_1 => (intro w hSw; (try dsimp only at hSw); go_simp; try with_reducible rfl)
    (try simp only [Act.put, List.setIfInBounds_toArray, List.set_cons_zero, List.set_cons_succ])
    refine takeL (i := 2) (v := ?vr0_2) rfl (by kernel_rfl) (by kernel_rfl) (by kernel_rfl) (fun _ _ _ h => h) (by kernel_rfl) (by assumption) ?yr0_2 ?rr0_2
    case yr0_2 => (intro w hSw; (try dsimp only at hSw); go_simp; try with_reducible rfl)
    (try simp only [Act.put, List.setIfInBounds_toArray, List.set_cons_zero, List.set_cons_succ])
    refine takeL (i := 3) (v := ?vr0_3) rfl (by kernel_rfl) (by kernel_rfl) (by kernel_rfl) (fun _ _ _ h => h) (by kernel_rfl) (by assumption) ?yr0_3 ?rr0_3
    case yr0_3 => (intro w hSw; (try dsimp only at hSw); go_simp; try with_reducible rfl)
    (try simp only [Act.put, List.setIfInBounds_toArray, List.set_cons_zero, List.set_cons_succ])
    refine takeL (i := 4) (v := ?vr0_4) rfl (by kernel_rfl) (by kernel_rfl) (by kernel_rfl) (fun _ _ _ h => h) (by kernel_rfl) (by assumption) ?yr0_4 ?rr0_4
    case yr0_4 => (intro w hSw; (try dsimp only at hSw); go_simp; try with_reducible rfl)
    (try simp only [Act.put, List.setIfInBounds_toArray, List.set_cons_zero, List.set_cons_succ])
    refine takeL (i := 5) (v := ?vr0_5) rfl (by kernel_rfl) (by kernel_rfl) (by kernel_rfl) (fun _ _ _ h => h) (by kernel_rfl) (by assumption) ?yr0_5 ?rr0_5
    case yr0_5 => (intro w hSw; (try dsimp only at hSw); go_simp; try with_reducible rfl)
    (try simp only [Act.put, List.setIfInBounds_toArray, List.set_cons_zero, List.set_cons_succ])
    refine takeL (i := 6) (v := ?vr0_6) rfl (by kernel_rfl) (by kernel_rfl) (by kernel_rfl) (fun _ _ _ h => h) (by kernel_rfl) (by assumption) ?yr0_6 ?rr0_6
    case yr0_6 => (intro w hSw; (try dsimp only at hSw); go_simp; try with_reducible rfl)
    (try simp only [Act.put, List.setIfInBounds_toArray, List.set_cons_zero, List.set_cons_succ])
    refine takeL (i := 7) (v := ?vr0_7) rfl (by kernel_rfl) (by kernel_rfl) (by kernel_rfl) (fun _ _ _ h => h) (by kernel_rfl) (by assumption) ?yr0_7 ?rr0_7
    case yr0_7 => (intro w hSw; (try dsimp only at hSw); go_simp; try with_reducible rfl)
    (try simp only [Act.put, List.setIfInBounds_toArray, List.set_cons_zero, List.set_cons_succ])
    refine takeL (i := 8) (v := ?vr0_8) rfl (by kernel_rfl) (by kernel_rfl) (by kernel_rfl) (fun _ _ _ h => h) (by kernel_rfl) (by assumption) ?yr0_8 ?rr0_8
    case yr0_8 => (intro w hSw; (try dsimp only at hSw); go_simp; try with_reducible rfl)
    (try simp only [Act.put, List.setIfInBounds_toArray, List.set_cons_zero, List.set_cons_succ])
    have c0' : Wx.drew.cell? ⟨sb, 168 + xa * 2, none⟩ = some (.int .i64 (stT h (([] : List Int) ++ pre.map (fun y => (y.a : Int))) xa)) := c0
    have f0' : Wx.drew.frozen? ⟨sb, 168 + xa * 2, none⟩ = false := f0
    refine doL (i := 9) rfl (by kernel_rfl) (fun K hK => ?_)
    go_simp
    rw [← hX2]
    have hX2l : Wx.heap.size ≤ X2.heap.size := by omega
    clear hX2 hX2s c0 f0 c0' f0'
    have p0 := PB3.out.cell (o := 0) rfl
    have t0 := RB3.out.cell (o := 0) rfl
    have t1 := RB3.out.cell (o := 1) rfl
    refine hK.out _ _ ?_ (fun hHeld2 => ?_)
    ·exact ⟨p0, t0, t1⟩
    clear hK K hHeld hHeld2
    (try simp only [Act.put, List.setIfInBounds_toArray, List.set_cons_zero, List.set_cons_succ])
    refine wpAnyH_done (by kernel_rfl) ?_ _
    have t2 := RB3.out.cell (o := 2) rfl
    have t3 := RB3.out.cell (o := 3) rfl
    have r0 := RF3.out.cell (o := 0) rfl
    gi_wp2
    refine wpIn_region_any hmo (any_wide (by rintro ⟨x1, x2, hx⟩; exact hx) (by simp) _ _ _ _ (AnyL.any (S := (fun w' => w'.cell? ⟨W2.heap.size + 1, 0, none⟩ = some (.int .i64 (fs : Int)) ∧ w'.cell? ⟨b, 0, none⟩ = some (.int .i64 (xa : Int)) ∧ w'.cell? ⟨b, 1, none⟩ = some (.int .i64 (nAt h.words xa / 16)) ∧ w'.cell? ⟨b, 2, none⟩ = some (.slice fa n fc) ∧ w'.cell? ⟨b, 3, none⟩ = some (.slice wa n wc))) (L := 4) _ _ _ _ ?_))
    have hHeld : (fun w' => w'.cell? ⟨W2.heap.size + 1, 0, none⟩ = some (.int .i64 (fs : Int)) ∧ w'.cell? ⟨b, 0, none⟩ = some (.int .i64 (xa : Int)) ∧ w'.cell? ⟨b, 1, none⟩ = some (.int .i64 (nAt h.words xa / 16)) ∧ w'.cell? ⟨b, 2, none⟩ = some (.slice fa n fc) ∧ w'.cell? ⟨b, 3, none⟩ = some (.slice wa n wc)) X2.drew := ⟨r0, t0, t1, t2, t3⟩
    refine takeA (i := 0) (v := ?vs0_0) rfl (by kernel_rfl) (by kernel_rfl) (by kernel_rfl) (fun _ _ _ h => h) (by kernel_rfl) (by kernel_rfl) (by assumption) ?ys0_0 ?rs0_0
    case ys0_0 => (intro w hSw; (try dsimp only at hSw); go_simp; try with_reducible rfl)
    (try simp only [Act.put, List.setIfInBounds_toArray, List.set_cons_zero, List.set_cons_succ])
    refine takeA (i := 1) (v := ?vs0_1) rfl (by kernel_rfl) (by kernel_rfl) (by kernel_rfl) (fun _ _ _ h => h) (by kernel_rfl) (by kernel_rfl) (by assumption) ?ys0_1 ?rs0_1
    case ys0_1 => (intro w hSw; (try dsimp only at hSw); go_simp; try with_reducible rfl)
    (try simp only [Act.put, List.setIfInBounds_toArray, List.set_cons_zero, List.set_cons_succ])
    refine readyA (rs := [2]) (by kernel_rfl) (by simp) ?_
    refine AllL.cons rfl (fun K hK => ?_) AllL.nil
    go_simp
    (go_at_call 76; refine (thSize_any (xa : Int) (nAt h.words xa / 16) fa wa n fc n wc _ (by omega)).mono ?_; rintro e X4 ⟨rfl, b4⟩)
    (try go_wp2_with fail)
    have B4 : Hid (Below X2.heap.size X2 X4) := below_drew0 b4
    have RB4 := hide (RB3.out.below B4.out RB3.out.lt)
    have RF4 := hide (RF3.out.below B4.out RF3.out.lt)
    clear b4 p0 t0 t1 t2 t3 r0
    have t0 := RB4.out.cell (o := 0) rfl
    have t1 := RB4.out.cell (o := 1) rfl
    have t2 := RB4.out.cell (o := 2) rfl
    have t3 := RB4.out.cell (o := 3) rfl
    have r0 := RF4.out.cell (o := 0) rfl
    have rf0 := RF4.out.frozen 0
    refine hK.out _ _ ⟨r0, t0, t1, t2, t3⟩ (fun hHeld2 => ?_)
    clear hK K hHeld
    have hHeld := hHeld2
    clear hHeld2
    (try simp only [Act.put, List.setIfInBounds_toArray, List.set_cons_zero, List.set_cons_succ])
    have hwr : IntKind.i64.wrap ((fs : Int) + (1 + (n : Int))) = (fs : Int) + (1 + (n : Int)) := by rw [IntKind.wrap_i64]; omega
    refine takeA (i := 3) (v := ?vs0_3) rfl (by kernel_rfl) (by kernel_rfl) (by kernel_rfl) (fun _ _ _ h => h) (by kernel_rfl) (by kernel_rfl) (by assumption) ?ys0_3 ?rs0_3
    case ys0_3 => (intro w hSw; (try dsimp only at hSw); go_simp; try with_reducible rfl)
    (try simp only [Act.put, List.setIfInBounds_toArray, List.set_cons_zero, List.set_cons_succ])
    refine readyA (rs := [4]) (by kernel_rfl) (by simp) ?_
    refine AllL.last rfl (fun K hK => ?_)
    go_simp
    refine hK.out _ _ ?_
    clear hK K hHeld
    (try simp only [Act.put, List.setIfInBounds_toArray, List.set_cons_zero, List.set_cons_succ])
    refine doneA (by kernel_rfl) ?_ _
    have hfbx : W2.heap.size + 1 < X4.heap.size := RF4.out.lt
    have cX : ∀ k, k ≠ W2.heap.size + 1 → (X4.setCell ⟨W2.heap.size + 1, 0, none⟩ (.int .i64 ((fs : Int) + (1 + (n : Int))))).heap[k]? = X4.heap[k]? := fun k hk => Below.heap_setCell _ _ _ _ hk
    have HX : Hid (KeepsFrom Vb0.heap.size Wx (X4.setCell ⟨W2.heap.size + 1, 0, none⟩ (.int .i64 ((fs : Int) + (1 + (n : Int))))) ∧ KpH hi sb (Vb0.heap.size + 2) Wx (X4.setCell ⟨W2.heap.size + 1, 0, none⟩ (.int .i64 ((fs : Int) + (1 + (n : Int)))))) := by
     have k4 := keepsFrom_below (B := Vb0.heap.size) B4.out
     have k5 := keepsFrom_store (B := Vb0.heap.size) RF4.out 0 (.int .i64 ((fs : Int) + (1 + (n : Int))))
     exact ⟨⟨Nat.le_trans KX3.out.size (Nat.le_trans k4.size k5.size), fun k o h1 h2 h3 => k5.same k o h1 (k4.same k o h1 (KX3.out.same k o h1 h2 h3) h3) h3⟩, KP2.out.trans ((KpH.of_below B4.out (by omega) (by omega)).trans (KpH.store RF4.out (by decide) (by omega) (by omega) _ _))⟩
    have HI : Hid (FtI gs h W2.heap.size sb W2.heap.size (W2.heap.size + 1) ([] : List Int) [.slice (some ⟨sb, 2, none⟩) O 160, .int .i64 0, .int .i64 (A : Int)] Vb0 (pre ++ [(⟨xa, fa, fc, wa, wc⟩ : HTh)]) (X4.setCell ⟨W2.heap.size + 1, 0, none⟩ (.int .i64 ((fs : Int) + (1 + (n : Int)))))) := by
     refine HG.out _ (KF2.out.trans ((KpF.of_below (B4.out.mono (by omega)) hsW0).trans (KpF.of_below ((Below.refl _ _).setCell (p := ⟨W2.heap.size + 1, 0, none⟩) (Nat.le_succ _) _) hsW0))) ?_ ?_ ?_ ?_
     ·exact (ST3.out.cells fun o => B4.out.cell (p := ⟨sb, o, none⟩) (by show sb < X2.heap.size; omega)).cells fun o => World.cell?_of_block (w := X4) (cX sb (by omega))
     ·exact (SB3.out.block (B4.out.block sb (by omega))).block (cX sb (by omega))
     ·exact (cX _ (by omega)).trans (RV3.out.below B4.out RV3.out.lt)
     ·have ev : ((fs + (1 + n) : Nat) : Int) = (fs : Int) + (1 + (n : Int)) := by omega
      rw [ev]; exact RF4.out.set 0 _
    clear r0 rf0 t0 t1 t2 t3 cX
    gi_wp2
    exact ⟨HX.out.1, HX.out.2, HI.out⟩
   case stop =>
    rintro D c pre W8 hD hpre hx
    exact hx.elim
   case done =>
    rintro D1 xs W6 hD1 hxs ⟨⟨⟨hkf, hst⟩, hsbt⟩, hrv, hrf⟩ hK1
    rw [hxs] at hst hrf
    have hbs0 := hkf.sz
    have HD1 := hide hK1
    have hD1l : D1 < W6.heap.size := (Array.getElem?_eq_some_iff.1 hK1).1
    have SP6 := hide (hkf.spa SPb0.out hlen (by omega : hi ≤ W2.heap.size))
    have P6 : Hid (Rec W6 w.heap.size 52 [.pointer (some ⟨sb, 0, none⟩)]) := (hkf.blk w.heap.size hpW0 (by omega)).trans Pb0.out
    have K6 := hide (K2.out.trans ((KpF.of_below (BB0.out.mono (by omega)) (by omega)).trans (hkf.mono (by omega))))
    have KE : Hid (KpF w.heap.size sb w W6) := (KpF.of_below B1.out hlt).trans (K6.out.mono (Nat.le_of_lt hwl))
    have T6 := hide hsbt
    have ST6 := hide hst
    have RV := hide hrv
    have RF := hide hrf
    have hsl6 : sb < W6.heap.size := SP6.out.lt
    have hIC := isClear_any sb 160 0 O A 0 h.words W6 SP6.out.ws hsl6 (by omega) (by omega) hlen (by omega) (by omega)
    have HIC := hide hIC
    clear hIC hkf hst hsbt hrv hrf hK1 hxs SPb0 Pb0 Tb0 STb0 RVb0 RFb0 VB0 KB0 HOW0 HB0
    clear BB0
    have v0 := RV.out.cell (o := 0) rfl
    have v1 := RV.out.cell (o := 1) rfl
    have v2 := RV.out.cell (o := 2) rfl
    have r0 := RF.out.cell (o := 0) rfl
    by_cases hS0 : ¬ sumW gs h.words (part gs h.words (0 + A) 0).1 = A
    ·have hsu := sumW_le (gs := gs) (W := h.words) 0 A
     have HSN := hide hS0
     have hne : ¬ ((sumW gs h.words (part gs h.words (0 + A) 0).1 : Nat) : Int) = (A : Int) := by omega
     generalize ((sumW gs h.words (part gs h.words (0 + A) 0).1 : Nat) : Int) = sm at r0 hne RF
     clear hS0 hsu
     go_wp2_with fail
     refine ⟨by simp, .inl ⟨_, _, rfl, run_takeDeferred HD1.out, ?_⟩⟩
     have EF : R = false := by rw [HR.out, decide_eq_false HSN.out]; simp
     refine ⟨.bool false, ?_, ret_bool EF.symm, KE.out.trans (KpF.of_below (below_put (Nat.le_refl _) (by omega) (Below.refl _ _) HD1.out) hlt), fun e => by rw [EF] at e; cases e⟩
     simp [results, Tryz.f54, go_sem]
    have hS0' : sumW gs h.words (part gs h.words (0 + A) 0).1 = A := Decidable.not_not.1 hS0
    clear hS0
    rw [hS0'] at r0 RF
    have HS0 := hide hS0'
    clear hS0'
    by_cases hC0 : clearF h.words (0 + A) (0 + O) = false
    ·rw [hC0] at HIC
     have HCN := hide hC0
     clear hC0
     go_wp2_with fail
     refine HIC.out.mono ?_
     rintro e Wz ⟨rfl, bz⟩
     have BZ := hide bz
     clear bz
     go_wp2_with fail
     have KE := hide (KE.out.trans (KpF.of_below (BZ.out.mono (by omega)) hlt))
     have HD1 : Hid (Wz.heap[D1]? = some (.deferred (some []))) := (BZ.out.block D1 hD1l).trans HD1.out
     refine ⟨by simp, .inl ⟨_, _, rfl, run_takeDeferred HD1.out, ?_⟩⟩
     have EF : R = false := by rw [HR.out, HCN.out]; simp
     refine ⟨.bool false, ?_, ret_bool EF.symm, KE.out.trans (KpF.of_below (below_put (Nat.le_refl _) (by omega) (Below.refl _ _) HD1.out) hlt), fun e => by rw [EF] at e; cases e⟩
     simp [results, Tryz.f54, go_sem]
    have hC0' : clearF h.words (0 + A) (0 + O) = true := by simpa using hC0
    rw [hC0'] at HIC
    have HC0 := hide hC0'
    clear hC0 hC0'
    go_wp2_with fail
    refine HIC.out.mono ?_
    rintro e W7 ⟨rfl, bz⟩
    have BZ := hide bz
    clear bz v0 v1 v2 r0 RV RF HIC
    have SP7 := hide (SP6.out.keep BZ.out)
    have P7 := hide (P6.out.below BZ.out P6.out.lt)
    have K7 := hide (K6.out.trans (KpF.of_below (BZ.out.mono (by omega)) (by omega)))
    have T7 := hide (T6.out.block (BZ.out.block sb hsl6))
    have ST7 : Hid (StAt W7 sb (stT h ((part gs h.words (0 + A) 0).1 ++ ([] : List HTh).map (fun y => (y.a : Int))))) := by
     have := ST6.out.cells fun o => BZ.out.cell (p := ⟨sb, o, none⟩) hsl6
     rw [List.nil_append] at this
     show StAt _ _ _
     rw [List.map_nil, List.append_nil]; exact this
    have hD1g : Vb0.heap.size ≤ D1 := hD1
    have HD17 : Hid (W7.heap[D1]? = some (.deferred (some []))) := (BZ.out.block D1 hD1l).trans HD1.out
    have hD17 : D1 < W7.heap.size := Nat.lt_of_lt_of_le hD1l BZ.out.size
    have hz7 : w1.heap.size ≤ W7.heap.size := K7.out.sz
    have hD1w : w.heap.size ≤ D1 := by omega
    clear SP6 P6 K6 T6 ST6 KE HD1 hD1l hD1 hbs0 hsl6 BZ hVb0 hFa0 hib0 hsW0 hpW0 SP2 P2 T2 ST2 K2 hD1g hz2
    have HD1 := HD17
    have hD1l := hD17
    clear HD17 hD17
    go_wp2_with fail
    unfold Code.rounds
    obtain ⟨Va1, hVa⟩ : ∃ X, X = (W7.alloc (.cells #[.slice (some ⟨sb, 2 + O, none⟩) M (160 - O), .int .i64 (O : Int), .int .i64 (Y : Int)] 98)).alloc (.cells #[.int .i64 0] 3) := ⟨_, rfl⟩
    have hsbW1 : sb < W7.heap.size + 1 := by have := SP7.out.lt; omega
    go_wp2_with fail
    rw [← hVa]
    have BV1 : Hid (Below W7.heap.size W7 Va1) := by show Below _ _ _; rw [hVa]; exact two_below _ _ _
    have RV1 : Hid (Rec Va1 W7.heap.size 98 [.slice (some ⟨sb, 2 + O, none⟩) M (160 - O), .int .i64 (O : Int), .int .i64 (Y : Int)]) := by show Rec _ _ _ _; rw [hVa]; exact (Rec.new _ _ _).alloc _
    have RF1 : Hid (Rec Va1 (W7.heap.size + 1) 3 [.int .i64 0]) := by show Rec _ _ _ _; rw [hVa]; exact Rec.new' _ _ _ _ (by simp)
    clear hVa hsbW1
    have SPa1 := hide (SP7.out.keep BV1.out)
    have Pa1 := hide (P7.out.below BV1.out P7.out.lt)
    have hVl : sb < Va1.heap.size := SPa1.out.lt
    have hPl : w.heap.size < Va1.heap.size := Pa1.out.lt
    have hRl : W7.heap.size < Va1.heap.size := RV1.out.lt
    have k0 := SPa1.out.k0
    have k1 := SPa1.out.k1
    have p0 := Pa1.out.cell (o := 0) rfl
    have v0 := RV1.out.cell (o := 0) rfl
    have v1 := RV1.out.cell (o := 1) rfl
    have v2 := RV1.out.cell (o := 2) rfl
    go_region_held3 (fun w' => w'.cell? ⟨W7.heap.size, 0, none⟩ = some (.slice (some ⟨sb, 2 + O, none⟩) M (160 - O)) ∧ w'.cell? ⟨W7.heap.size, 1, none⟩ = some (.int .i64 (O : Int)) ∧ w'.cell? ⟨W7.heap.size, 2, none⟩ = some (.int .i64 (Y : Int)) ∧ w'.cell? ⟨w.heap.size, 0, none⟩ = some (.pointer (some ⟨sb, 0, none⟩)) ∧ w'.cell? ⟨sb, 0, none⟩ = some (.slice ra (kinCount gs) rc) ∧ w'.cell? ⟨sb, 1, none⟩ = some (.slice (some ⟨cb, co, none⟩) (kinCount gs) cc)) (first | exact ⟨v0, v1, v2, p0, k0, k1⟩ | go_keep) ((go_at_call 75; refine (HVT.out _ _ _ _ _ _).mono ?_; rintro e Vb1 ⟨rfl, hW4⟩; have b4 : Below Va1.drew.heap.size Va1.drew Vb1 := (by rw [hW4]; exact ((Below.refl _ _).alloc (Nat.le_refl _) _).alloc (by simp) _); have VB1 : Hid (Rec Vb1 Va1.heap.size 98 [.slice (some ⟨sb, 2 + O, none⟩) M (160 - O), .int .i64 (O : Int), .int .i64 (Y : Int)]) := (by show Rec _ _ _ _; rw [hW4]; exact (Rec.new Va1.drew _ _).alloc _); have KB1 : Hid (Rec Vb1 (Va1.heap.size + 1) 93 [.slice ra (kinCount gs) rc, .slice (some ⟨cb, co, none⟩) (kinCount gs) cc]) := (by show Rec _ _ _ _; rw [hW4]; exact Rec.new' _ _ _ _ (by simp)); have HB1 : Hid (Below Va1.heap.size Va1 Vb1) := below_drew0 b4; clear hW4 b4; have k0 := (HB1.out.cell (p := ⟨sb, 0, none⟩) hVl).trans k0; have k1 := (HB1.out.cell (p := ⟨sb, 1, none⟩) hVl).trans k1; have p0 := (HB1.out.cell (p := ⟨w.heap.size, 0, none⟩) hPl).trans p0; have v0 := (HB1.out.cell (p := ⟨W7.heap.size, 0, none⟩) hRl).trans v0; have v1 := (HB1.out.cell (p := ⟨W7.heap.size, 1, none⟩) hRl).trans v1; have v2 := (HB1.out.cell (p := ⟨W7.heap.size, 2, none⟩) hRl).trans v2))
    rename_i hHeld
    clear hHeld k0 k1 v0 v1 v2 p0
    go_wp2_with fail
    have BB1 : Hid (Below W7.heap.size W7 Vb1) := BV1.out.trans (HB1.out.mono BV1.out.size)
    have SPb1 := hide (SPa1.out.keep HB1.out)
    have Pb1 := hide (Pa1.out.below HB1.out Pa1.out.lt)
    have hsW1 : sb < W7.heap.size := SP7.out.lt
    have hpW1 : w.heap.size < W7.heap.size := P7.out.lt
    have Tb1 := hide (T7.out.block (BB1.out.block sb hsW1))
    have STb1 := hide (ST7.out.cells fun o => BB1.out.cell (p := ⟨sb, o, none⟩) hsW1)
    have RVb1 := hide (RV1.out.below HB1.out RV1.out.lt)
    have RFb1 := hide (RF1.out.below HB1.out RF1.out.lt)
    have hVb1 : Va1.heap.size + 2 ≤ Vb1.heap.size := KB1.out.lt
    have hFa1 : W7.heap.size + 1 < Va1.heap.size := RF1.out.lt
    have hib1 : hi ≤ Vb1.heap.size := by omega
    clear RV1 RF1 SPa1 Pa1 BV1 hVl hPl hRl
    have HOW1 : OwnFrom Vb1.heap.size (FtI gs h W7.heap.size sb W7.heap.size (W7.heap.size + 1) (part gs h.words (0 + A) 0).1 [.slice (some ⟨sb, 2 + O, none⟩) M (160 - O), .int .i64 (O : Int), .int .i64 (Y : Int)] Vb1) := FtI.own (by omega) hsW1 (by omega)
    refine (wpIn_wide (n := 5)).1 ?_
    refine range_leave (F := Fence.wide) rfl (by omega) (gf := 102) (cap := #[]) (lb := #[.pointer (some ⟨Va1.heap.size, 0, none⟩), .pointer (some ⟨Va1.heap.size + 1, 0, none⟩)]) rfl trivial (enters_of Tryz.func102 (by kernel_rfl) rfl)
     (viewSeq (5 - 1) Va1.heap.size (Va1.heap.size + 1) lo hi sb O M (160 - O) Y Vb1.heap.size (Vb1.heap.size + 2) ra rc cb co cc gs h.words (by omega) H.pa (by omega) (by omega) hlen (by omega) (by omega) H.wb Vb1 (Nat.le_refl _) (Nat.le_refl _) SPb1.out.tab hib1 SPb1.out.ws SPb1.out.lt VB1.out KB1.out)
     KpH.trans (fun W o o' => KpH.put (by omega) (by omega) (by omega) W o o') (Below.refl _ _) (fun _ => rfl)
     (FtI gs h W7.heap.size sb W7.heap.size (W7.heap.size + 1) (part gs h.words (0 + A) 0).1 [.slice (some ⟨sb, 2 + O, none⟩) M (160 - O), .int .i64 (O : Int), .int .i64 (Y : Int)] Vb1) (fun c pre W' => False) HOW1 (fun c s X Y row h1 h2 h3 => h1) (fun pre => gh_own pre) ⟨⟨⟨KpF.refl _ _ _, STb1.out⟩, Tb1.out⟩, RVb1.out, RFb1.out⟩
     (fun x a' W' => ∃ b, a' = { tmps := #[.pointer (some ⟨sb, 0, none⟩), .pointer (some ⟨w.heap.size, 0, none⟩), .bool false, u3, undef, .pointer (some ⟨W7.heap.size, 0, none⟩), .pointer (some ⟨W7.heap.size + 1, 0, none⟩), .pointer (some ⟨b, 0, none⟩), .int .i64 160, .bool false, u10, u11, u12, u13, u14, u15, u16, u17, .pointer (some ⟨sb, 0, none⟩), .agg #[.slice (some ⟨sb, 2, none⟩) O 160, .int .i64 0, .int .i64 (A : Int), .slice (some ⟨sb, 2 + O, none⟩) M (160 - O), .int .i64 (O : Int), .int .i64 (Y : Int)], .int .i64 1, .bool true, .agg #[.slice (some ⟨sb, 2 + O, none⟩) M (160 - O), .int .i64 (O : Int), .int .i64 (Y : Int)], .agg #[.slice (some ⟨sb, 2 + O, none⟩) M (160 - O), .int .i64 (O : Int), .int .i64 (Y : Int)], .pointer (some ⟨sb, 0, none⟩), .pointer (some ⟨sb, 0, none⟩), .pointer (some ⟨sb, 0, none⟩), .agg #[.slice ra (kinCount gs) rc, .slice (some ⟨cb, co, none⟩) (kinCount gs) cc], .func (.func 102) #[] #[.pointer (some ⟨Va1.heap.size, 0, none⟩), .pointer (some ⟨Va1.heap.size + 1, 0, none⟩)], thV gs h.words x, undef, undef, undef, undef, undef, undef, undef, undef, undef, undef, undef, undef, undef, .int .i64 (A : Int), .pointer (some ⟨W2.heap.size, 2, none⟩), .int .i64 (A : Int), .bool false, .bool false, .agg #[.slice (some ⟨sb, 2, none⟩) O 160, .int .i64 0, .int .i64 (A : Int)], .bool true, .bool false, .bool false, .int .i64 1], defers := [] } ∧ Rec W' b 131 [.int .i64 (x.a : Int), .int .i64 (nAt h.words x.a / 16), .slice x.fa (lenW gs h.words x.a) x.fc, .slice x.wa (lenW gs h.words x.a) x.wc]) (fun x a' s X Y row h1 h2 h3 => by
      obtain ⟨b, e, hr⟩ := h1
      exact ⟨b, e, rec_own' (β := Unit) _ _ _ _ () X Y row hr h2 h3⟩) ?assign ?body ?done ?stop
    case assign =>
     rintro l' pre ⟨xa, fa, fc, wa, wc⟩ Wx K hI hg hK
     simp only [thV]
     gi_wp2
     have hb := two_b Wx (.cells #[.int .i64 (xa : Int), .int .i64 (nAt h.words xa / 16), .slice fa (lenW gs h.words xa) fc, .slice wa (lenW gs h.words xa) wc] 131)
     have hbs := hI.1.1.1.sz
     exact hK _ _ (keepsFrom_below hb) (KpH.of_below hb (by omega) (by omega)) (own_below HOW1 hI hb) ((gh_own (B := 0) pre).alloc _ hg) ⟨Wx.heap.size, rfl, Rec.new _ _ _⟩
    case body =>
     rintro l' pre ⟨xa, fa, fc, wa, wc⟩ a' Wx ⟨⟨⟨hkf, hst⟩, hsbt⟩, hrv, hrf⟩ hg ⟨b, rfl, hrec⟩
     have hbs := hkf.sz
     have hbl := hrec.lt
     have hbv : b ≠ W7.heap.size := rec_ne hrec hrv (by decide)
     have hbf : b ≠ W7.heap.size + 1 := rec_ne hrec hrf (by decide)
     have hmem : (xa : Int) ∈ startsF gs h := by rw [HST.out]; exact List.mem_append.2 (.inr (mem_of_gh hg))
     obtain ⟨q0, q1, q2⟩ := thWords H.sz hmem
     have hx160 : xa < 160 := by omega
     have hsum : sumW gs h.words (pre.map (fun y => (y.a : Int))) + (1 + lenW gs h.words xa) ≤ Y := by
      obtain ⟨t, ht⟩ := hg.1
      have h1 := sumW_le (gs := gs) (W := h.words) O Y
      rw [← ht, List.map_append, sumW_app, sumW_app] at h1
      simp only [List.map_cons, List.map_nil, sumW, Int.toNat_natCast] at h1
      unfold lenW; omega
     have hap : (pre ++ [(⟨xa, fa, fc, wa, wc⟩ : HTh)]).map (fun y => (y.a : Int)) = pre.map (fun y => (y.a : Int)) ++ [(xa : Int)] := by simp
     have hsm : sumW gs h.words (pre.map (fun y => (y.a : Int)) ++ [(xa : Int)]) = sumW gs h.words (pre.map (fun y => (y.a : Int))) + (1 + lenW gs h.words xa) := by rw [sumW_app]; simp only [sumW, Int.toNat_natCast]; unfold lenW; omega
     have HG : Hid (∀ W', KpF W7.heap.size sb Vb1 W' → StAt W' sb (stT h (((part gs h.words (0 + A) 0).1 ++ pre.map (fun y => (y.a : Int))) ++ [(xa : Int)])) → SbT W' sb → Rec W' W7.heap.size 98 [.slice (some ⟨sb, 2 + O, none⟩) M (160 - O), .int .i64 (O : Int), .int .i64 (Y : Int)] → Rec W' (W7.heap.size + 1) 3 [.int .i64 ((sumW gs h.words (pre.map (fun y => (y.a : Int))) + (1 + lenW gs h.words xa) : Nat) : Int)] → FtI gs h W7.heap.size sb W7.heap.size (W7.heap.size + 1) (part gs h.words (0 + A) 0).1 [.slice (some ⟨sb, 2 + O, none⟩) M (160 - O), .int .i64 (O : Int), .int .i64 (Y : Int)] Vb1 (pre ++ [(⟨xa, fa, fc, wa, wc⟩ : HTh)]) W') := fun W' a1 a2 a3 a4 a5 => ⟨⟨⟨a1, by rw [hap, ← List.append_assoc]; exact a2⟩, a3⟩, a4, by rw [hap, hsm]; exact a5⟩
     clear hap hsm
     generalize sumW gs h.words (pre.map (fun y => (y.a : Int))) = fs at *
     generalize lenW gs h.words xa = n at *
     have p0 := (show Rec Wx w.heap.size 52 [.pointer (some ⟨sb, 0, none⟩)] from (hkf.blk w.heap.size hpW1 (by omega)).trans Pb1.out).cell (o := 0) rfl
     have t0 := hrec.cell (o := 0) rfl
     have t1 := hrec.cell (o := 1) rfl
     have c0 := (hst xa hx160).1
     have f0 := hsbt.fr (168 + xa * 2)
     have g0 : (0 : Int) ≤ (xa : Int) := by omega
     have g1 : (xa : Int) < 160 := by omega
     obtain ⟨X2, hX2⟩ : ∃ X2, X2 = (Wx.setCell ⟨sb, 168 + xa * 2, none⟩ (.int .i64 (nAt h.words xa / 16))).drew := ⟨_, rfl⟩
     have X2c : ∀ k, k ≠ sb → X2.heap[k]? = Wx.heap[k]? := fun k hk => by rw [hX2]; exact Below.heap_setCell _ _ _ _ hk
     have hsbx : sb < Wx.heap.size := by omega
     have hX2s : X2.heap.size = Wx.heap.size := by rw [hX2]; simp [World.setCell]
     have KP2 : Hid (KpH hi sb (Vb1.heap.size + 2) Wx X2) := by show KpH _ _ _ _ _; rw [hX2]; exact (KpH.storeSb hsbt (by omega) (by omega) _).trans (KpH.of_below ((Below.refl _ _).drew) (by simp [World.setCell]; omega) (by simp [World.setCell]; omega))
     have KF2 : Hid (KpF W7.heap.size sb Vb1 X2) := by show KpF _ _ _ _; rw [hX2]; exact hkf.trans ((KpF.store (by omega) (by omega) _).trans (KpF.of_below ((Below.refl _ _).drew) hsW1))
     have ST3 : Hid (StAt X2 sb (stT h (((part gs h.words (0 + A) 0).1 ++ pre.map (fun y => (y.a : Int))) ++ [(xa : Int)]))) := by show StAt _ _ _; rw [hX2]; exact (hst.set (nAt h.words xa / 16) hx160).congr fun n _ => (stT_snoc (h := h) (S := (part gs h.words (0 + A) 0).1 ++ pre.map (fun y => (y.a : Int)))).symm
     have SB3 : Hid (SbT X2 sb) := by show SbT _ _; rw [hX2]; exact hsbt.set _ _
     have RV3 : Hid (Rec X2 W7.heap.size 98 [.slice (some ⟨sb, 2 + O, none⟩) M (160 - O), .int .i64 (O : Int), .int .i64 (Y : Int)]) := (X2c _ (by omega)).trans hrv
     have RF3 : Hid (Rec X2 (W7.heap.size + 1) 3 [.int .i64 (fs : Int)]) := (X2c _ (by omega)).trans hrf
     have RB3 : Hid (Rec X2 b 131 [.int .i64 (xa : Int), .int .i64 (nAt h.words xa / 16), .slice fa n fc, .slice wa n wc]) := (X2c _ (fun e => by rw [e] at hrec; obtain ⟨cs, hc⟩ := hsbt; rw [show Wx.heap[sb]? = _ from hrec] at hc; cases hc)).trans hrec
     have PB3 : Hid (Rec X2 w.heap.size 52 [.pointer (some ⟨sb, 0, none⟩)]) := (X2c _ (by omega)).trans ((hkf.blk w.heap.size hpW1 (by omega)).trans Pb1.out)
     have KX3 : Hid (KeepsFrom Vb1.heap.size Wx X2) := ⟨by omega, fun k o hk ho hc => (X2c k (by omega)).trans ho⟩
     clear X2c hkf hst hrv hrf hrec hg hmem q0 q1 q2
     simp only [thV]
     gi_wp2
     refine held_wide (S := (fun w' => w'.cell? ⟨w.heap.size, 0, none⟩ = some (.pointer (some ⟨sb, 0, none⟩)) ∧ w'.cell? ⟨b, 0, none⟩ = some (.int .i64 (xa : Int)) ∧ w'.cell? ⟨b, 1, none⟩ = some (.int .i64 (nAt h.words xa / 16)))) (by rintro ⟨x1, x2, hx⟩; exact hx) (by simp) hmo ?_
     have hHeld : (fun w' => w'.cell? ⟨w.heap.size, 0, none⟩ = some (.pointer (some ⟨sb, 0, none⟩)) ∧ w'.cell? ⟨b, 0, none⟩ = some (.int .i64 (xa : Int)) ∧ w'.cell? ⟨b, 1, none⟩ = some (.int .i64 (nAt h.words xa / 16))) Wx.drew := ⟨p0, t0, t1⟩
     refine takeL (i := 0) (v := ?vr1_0) rfl (by kernel_rfl) (by kernel_rfl) (by kernel_rfl) (fun _ _ _ h => h) (by kernel_rfl) (by assumption) ?yr1_0 ?rr1_0
     case yr1_0 => (intro w hSw; (try dsimp only at hSw); go_simp; try with_reducible rfl)
     (try simp only [Act.put, List.setIfInBounds_toArray, List.set_cons_zero, List.set_cons_succ])
     refine takeL (i := 1) (v := ?vr1_1) rfl (by kernel_rfl) (by kernel_rfl) (by kernel_rfl) (fun _ _ _ h => h) (by kernel_rfl) (by assumption) ?yr1_1 ?rr1_1
     case yr1_1 => (intro w hSw; (try dsimp only at hSw); go_simp; try with_reducible rfl)
     (try simp only [Act.put, List.setIfInBounds_toArray, List.set_cons_zero, List.set_cons_succ])
     refine takeL (i := 2) (v := ?vr1_2) rfl (by kernel_rfl) (by kernel_rfl) (by kernel_rfl) (fun _ _ _ h => h) (by kernel_rfl) (by assumption) ?yr1_2 ?rr1_2
     case yr1_2 => (intro w hSw; (try dsimp only at hSw); go_simp; try with_reducible rfl)
     (try simp only [Act.put, List.setIfInBounds_toArray, List.set_cons_zero, List.set_cons_succ])
     refine takeL (i := 3) (v := ?vr1_3) rfl (by kernel_rfl) (by kernel_rfl) (by kernel_rfl) (fun _ _ _ h => h) (by kernel_rfl) (by assumption) ?yr1_3 ?rr1_3
     case yr1_3 => (intro w hSw; (try dsimp only at hSw); go_simp; try with_reducible rfl)
     (try simp only [Act.put, List.setIfInBounds_toArray, List.set_cons_zero, List.set_cons_succ])
     refine takeL (i := 4) (v := ?vr1_4) rfl (by kernel_rfl) (by kernel_rfl) (by kernel_rfl) (fun _ _ _ h => h) (by kernel_rfl) (by assumption) ?yr1_4 ?rr1_4
     case yr1_4 => (intro w hSw; (try dsimp only at hSw); go_simp; try with_reducible rfl)
     (try simp only [Act.put, List.setIfInBounds_toArray, List.set_cons_zero, List.set_cons_succ])
     refine takeL (i := 5) (v := ?vr1_5) rfl (by kernel_rfl) (by kernel_rfl) (by kernel_rfl) (fun _ _ _ h => h) (by kernel_rfl) (by assumption) ?yr1_5 ?rr1_5
     case yr1_5 => (intro w hSw; (try dsimp only at hSw); go_simp; try with_reducible rfl)
     (try simp only [Act.put, List.setIfInBounds_toArray, List.set_cons_zero, List.set_cons_succ])
     refine takeL (i := 6) (v := ?vr1_6) rfl (by kernel_rfl) (by kernel_rfl) (by kernel_rfl) (fun _ _ _ h => h) (by kernel_rfl) (by assumption) ?yr1_6 ?rr1_6
     case yr1_6 => (intro w hSw; (try dsimp only at hSw); go_simp; try with_reducible rfl)
     (try simp only [Act.put, List.setIfInBounds_toArray, List.set_cons_zero, List.set_cons_succ])
     refine takeL (i := 7) (v := ?vr1_7) rfl (by kernel_rfl) (by kernel_rfl) (by kernel_rfl) (fun _ _ _ h => h) (by kernel_rfl) (by assumption) ?yr1_7 ?rr1_7
     case yr1_7 => (intro w hSw; (try dsimp only at hSw); go_simp; try with_reducible rfl)
     (try simp only [Act.put, List.setIfInBounds_toArray, List.set_cons_zero, List.set_cons_succ])
     refine takeL (i := 8) (v := ?vr1_8) rfl (by kernel_rfl) (by kernel_rfl) (by kernel_rfl) (fun _ _ _ h => h) (by kernel_rfl) (by assumption) ?yr1_8 ?rr1_8
     case yr1_8 => (intro w hSw; (try dsimp only at hSw); go_simp; try with_reducible rfl)
     (try simp only [Act.put, List.setIfInBounds_toArray, List.set_cons_zero, List.set_cons_succ])
     have c0' : Wx.drew.cell? ⟨sb, 168 + xa * 2, none⟩ = some (.int .i64 (stT h ((part gs h.words (0 + A) 0).1 ++ pre.map (fun y => (y.a : Int))) xa)) := c0
     have f0' : Wx.drew.frozen? ⟨sb, 168 + xa * 2, none⟩ = false := f0
     refine doL (i := 9) rfl (by kernel_rfl) (fun K hK => ?_)
     go_simp
     rw [← hX2]
     have hX2l : Wx.heap.size ≤ X2.heap.size := by omega
     clear hX2 hX2s c0 f0 c0' f0'
     have p0 := PB3.out.cell (o := 0) rfl
     have t0 := RB3.out.cell (o := 0) rfl
     have t1 := RB3.out.cell (o := 1) rfl
     refine hK.out _ _ ?_ (fun hHeld2 => ?_)
     ·exact ⟨p0, t0, t1⟩
     clear hK K hHeld hHeld2
     (try simp only [Act.put, List.setIfInBounds_toArray, List.set_cons_zero, List.set_cons_succ])
     refine wpAnyH_done (by kernel_rfl) ?_ _
     have t2 := RB3.out.cell (o := 2) rfl
     have t3 := RB3.out.cell (o := 3) rfl
     have r0 := RF3.out.cell (o := 0) rfl
     gi_wp2
     refine wpIn_region_any hmo (any_wide (by rintro ⟨x1, x2, hx⟩; exact hx) (by simp) _ _ _ _ (AnyL.any (S := (fun w' => w'.cell? ⟨W7.heap.size + 1, 0, none⟩ = some (.int .i64 (fs : Int)) ∧ w'.cell? ⟨b, 0, none⟩ = some (.int .i64 (xa : Int)) ∧ w'.cell? ⟨b, 1, none⟩ = some (.int .i64 (nAt h.words xa / 16)) ∧ w'.cell? ⟨b, 2, none⟩ = some (.slice fa n fc) ∧ w'.cell? ⟨b, 3, none⟩ = some (.slice wa n wc))) (L := 4) _ _ _ _ ?_))
     have hHeld : (fun w' => w'.cell? ⟨W7.heap.size + 1, 0, none⟩ = some (.int .i64 (fs : Int)) ∧ w'.cell? ⟨b, 0, none⟩ = some (.int .i64 (xa : Int)) ∧ w'.cell? ⟨b, 1, none⟩ = some (.int .i64 (nAt h.words xa / 16)) ∧ w'.cell? ⟨b, 2, none⟩ = some (.slice fa n fc) ∧ w'.cell? ⟨b, 3, none⟩ = some (.slice wa n wc)) X2.drew := ⟨r0, t0, t1, t2, t3⟩
     refine takeA (i := 0) (v := ?vs1_0) rfl (by kernel_rfl) (by kernel_rfl) (by kernel_rfl) (fun _ _ _ h => h) (by kernel_rfl) (by kernel_rfl) (by assumption) ?ys1_0 ?rs1_0
     case ys1_0 => (intro w hSw; (try dsimp only at hSw); go_simp; try with_reducible rfl)
     (try simp only [Act.put, List.setIfInBounds_toArray, List.set_cons_zero, List.set_cons_succ])
     refine takeA (i := 1) (v := ?vs1_1) rfl (by kernel_rfl) (by kernel_rfl) (by kernel_rfl) (fun _ _ _ h => h) (by kernel_rfl) (by kernel_rfl) (by assumption) ?ys1_1 ?rs1_1
     case ys1_1 => (intro w hSw; (try dsimp only at hSw); go_simp; try with_reducible rfl)
     (try simp only [Act.put, List.setIfInBounds_toArray, List.set_cons_zero, List.set_cons_succ])
     refine readyA (rs := [2]) (by kernel_rfl) (by simp) ?_
     refine AllL.cons rfl (fun K hK => ?_) AllL.nil
     go_simp
     (go_at_call 76; refine (thSize_any (xa : Int) (nAt h.words xa / 16) fa wa n fc n wc _ (by omega)).mono ?_; rintro e X4 ⟨rfl, b4⟩)
     (try go_wp2_with fail)
     have B4 : Hid (Below X2.heap.size X2 X4) := below_drew0 b4
     have RB4 := hide (RB3.out.below B4.out RB3.out.lt)
     have RF4 := hide (RF3.out.below B4.out RF3.out.lt)
     clear b4 p0 t0 t1 t2 t3 r0
     have t0 := RB4.out.cell (o := 0) rfl
     have t1 := RB4.out.cell (o := 1) rfl
     have t2 := RB4.out.cell (o := 2) rfl
     have t3 := RB4.out.cell (o := 3) rfl
     have r0 := RF4.out.cell (o := 0) rfl
     have rf0 := RF4.out.frozen 0
     refine hK.out _ _ ⟨r0, t0, t1, t2, t3⟩ (fun hHeld2 => ?_)
     clear hK K hHeld
     have hHeld := hHeld2
     clear hHeld2
     (try simp only [Act.put, List.setIfInBounds_toArray, List.set_cons_zero, List.set_cons_succ])
     have hwr : IntKind.i64.wrap ((fs : Int) + (1 + (n : Int))) = (fs : Int) + (1 + (n : Int)) := by rw [IntKind.wrap_i64]; omega
     refine takeA (i := 3) (v := ?vs1_3) rfl (by kernel_rfl) (by kernel_rfl) (by kernel_rfl) (fun _ _ _ h => h) (by kernel_rfl) (by kernel_rfl) (by assumption) ?ys1_3 ?rs1_3
     case ys1_3 => (intro w hSw; (try dsimp only at hSw); go_simp; try with_reducible rfl)
     (try simp only [Act.put, List.setIfInBounds_toArray, List.set_cons_zero, List.set_cons_succ])
     refine readyA (rs := [4]) (by kernel_rfl) (by simp) ?_
     refine AllL.last rfl (fun K hK => ?_)
     go_simp
     refine hK.out _ _ ?_
     clear hK K hHeld
     (try simp only [Act.put, List.setIfInBounds_toArray, List.set_cons_zero, List.set_cons_succ])
     refine doneA (by kernel_rfl) ?_ _
     have hfbx : W7.heap.size + 1 < X4.heap.size := RF4.out.lt
     have cX : ∀ k, k ≠ W7.heap.size + 1 → (X4.setCell ⟨W7.heap.size + 1, 0, none⟩ (.int .i64 ((fs : Int) + (1 + (n : Int))))).heap[k]? = X4.heap[k]? := fun k hk => Below.heap_setCell _ _ _ _ hk
     have HX : Hid (KeepsFrom Vb1.heap.size Wx (X4.setCell ⟨W7.heap.size + 1, 0, none⟩ (.int .i64 ((fs : Int) + (1 + (n : Int))))) ∧ KpH hi sb (Vb1.heap.size + 2) Wx (X4.setCell ⟨W7.heap.size + 1, 0, none⟩ (.int .i64 ((fs : Int) + (1 + (n : Int)))))) := by
      have k4 := keepsFrom_below (B := Vb1.heap.size) B4.out
      have k5 := keepsFrom_store (B := Vb1.heap.size) RF4.out 0 (.int .i64 ((fs : Int) + (1 + (n : Int))))
      exact ⟨⟨Nat.le_trans KX3.out.size (Nat.le_trans k4.size k5.size), fun k o h1 h2 h3 => k5.same k o h1 (k4.same k o h1 (KX3.out.same k o h1 h2 h3) h3) h3⟩, KP2.out.trans ((KpH.of_below B4.out (by omega) (by omega)).trans (KpH.store RF4.out (by decide) (by omega) (by omega) _ _))⟩
     have HI : Hid (FtI gs h W7.heap.size sb W7.heap.size (W7.heap.size + 1) (part gs h.words (0 + A) 0).1 [.slice (some ⟨sb, 2 + O, none⟩) M (160 - O), .int .i64 (O : Int), .int .i64 (Y : Int)] Vb1 (pre ++ [(⟨xa, fa, fc, wa, wc⟩ : HTh)]) (X4.setCell ⟨W7.heap.size + 1, 0, none⟩ (.int .i64 ((fs : Int) + (1 + (n : Int)))))) := by
      refine HG.out _ (KF2.out.trans ((KpF.of_below (B4.out.mono (by omega)) hsW1).trans (KpF.of_below ((Below.refl _ _).setCell (p := ⟨W7.heap.size + 1, 0, none⟩) (Nat.le_succ _) _) hsW1))) ?_ ?_ ?_ ?_
      ·exact (ST3.out.cells fun o => B4.out.cell (p := ⟨sb, o, none⟩) (by show sb < X2.heap.size; omega)).cells fun o => World.cell?_of_block (w := X4) (cX sb (by omega))
      ·exact (SB3.out.block (B4.out.block sb (by omega))).block (cX sb (by omega))
      ·exact (cX _ (by omega)).trans (RV3.out.below B4.out RV3.out.lt)
      ·have ev : ((fs + (1 + n) : Nat) : Int) = (fs : Int) + (1 + (n : Int)) := by omega
       rw [ev]; exact RF4.out.set 0 _
     clear r0 rf0 t0 t1 t2 t3 cX
     gi_wp2
     exact ⟨HX.out.1, HX.out.2, HI.out⟩
    case stop =>
     rintro D c pre W8 hD hpre hx
     exact hx.elim
    case done =>
     rintro D2 xs W8 hD2 hxs ⟨⟨⟨hkf, hst⟩, hsbt⟩, hrv, hrf⟩ hK1
     rw [hxs] at hst hrf
     have hbs1 := hkf.sz
     have HD2 := hide hK1
     have hD2l : D2 < W8.heap.size := (Array.getElem?_eq_some_iff.1 hK1).1
     have HD12 : Hid (W8.heap[D1]? = some (.deferred (some []))) := (hkf.blk D1 (by omega) (by omega)).trans ((BB1.out.block D1 hD1l).trans HD1.out)
     have SP8 := hide (hkf.spa SPb1.out hlen (by omega : hi ≤ W7.heap.size))
     have P8 : Hid (Rec W8 w.heap.size 52 [.pointer (some ⟨sb, 0, none⟩)]) := (hkf.blk w.heap.size hpW1 (by omega)).trans Pb1.out
     have K8 := hide (K7.out.trans ((KpF.of_below (BB1.out.mono (by omega)) (by omega)).trans (hkf.mono (by omega))))
     have KE : Hid (KpF w.heap.size sb w W8) := (KpF.of_below B1.out hlt).trans (K8.out.mono (Nat.le_of_lt hwl))
     have T8 := hide hsbt
     have ST8 := hide hst
     have RV := hide hrv
     have RF := hide hrf
     have hsl8 : sb < W8.heap.size := SP8.out.lt
     have hIC := isClear_any sb (160 - O) O M Y (O : Int) h.words W8 SP8.out.ws hsl8 (by omega) (by omega) hlen (by omega) (by omega)
     have HIC := hide hIC
     clear hIC hkf hst hsbt hrv hrf hK1 hxs SPb1 Pb1 Tb1 STb1 RVb1 RFb1 VB1 KB1 HOW1 HB1
     clear BB1
     have v0 := RV.out.cell (o := 0) rfl
     have v1 := RV.out.cell (o := 1) rfl
     have v2 := RV.out.cell (o := 2) rfl
     have r0 := RF.out.cell (o := 0) rfl
     by_cases hS1 : ¬ sumW gs h.words (part gs h.words (O + Y) O).1 = Y
     ·have hsu := sumW_le (gs := gs) (W := h.words) O Y
      have HSN := hide hS1
      have hne : ¬ ((sumW gs h.words (part gs h.words (O + Y) O).1 : Nat) : Int) = (Y : Int) := by omega
      generalize ((sumW gs h.words (part gs h.words (O + Y) O).1 : Nat) : Int) = sm at r0 hne RF
      clear hS1 hsu
      go_wp2_with fail
      refine ⟨by simp, .inl ⟨_, _, rfl, run_takeDeferred HD2.out, ?_⟩⟩
      have HD1b : (W8.putObj D2 (.deferred none)).heap[D1]? = some (.deferred (some [])) := (World.putObj_heap_other (by omega)).trans HD12.out
      refine ⟨by simp, .inl ⟨_, _, rfl, run_takeDeferred HD1b, ?_⟩⟩
      have EF : R = false := by rw [HR.out, decide_eq_false HSN.out]; simp
      refine ⟨.bool false, ?_, ret_bool EF.symm, KE.out.trans ((KpF.of_below (below_put (Nat.le_refl _) (by omega) (Below.refl _ _) HD2.out) hlt).trans (KpF.of_below (below_put (Nat.le_refl _) (by omega) (Below.refl _ _) HD1b) hlt)), fun e => by rw [EF] at e; cases e⟩
      simp [results, Tryz.f54, go_sem]
     have hS1' : sumW gs h.words (part gs h.words (O + Y) O).1 = Y := Decidable.not_not.1 hS1
     clear hS1
     rw [hS1'] at r0 RF
     have HS1 := hide hS1'
     clear hS1'
     by_cases hC1 : clearF h.words (O + Y) (O + M) = false
     ·rw [hC1] at HIC
      have HCN := hide hC1
      clear hC1
      go_wp2_with fail
      refine HIC.out.mono ?_
      rintro e Wz ⟨rfl, bz⟩
      have BZ := hide bz
      clear bz
      go_wp2_with fail
      have KE := hide (KE.out.trans (KpF.of_below (BZ.out.mono (by omega)) hlt))
      have HD2 : Hid (Wz.heap[D2]? = some (.deferred (some []))) := (BZ.out.block D2 hD2l).trans HD2.out
      have HD12 : Hid (Wz.heap[D1]? = some (.deferred (some []))) := (BZ.out.block D1 (by omega)).trans HD12.out
      refine ⟨by simp, .inl ⟨_, _, rfl, run_takeDeferred HD2.out, ?_⟩⟩
      have HD1b : (Wz.putObj D2 (.deferred none)).heap[D1]? = some (.deferred (some [])) := (World.putObj_heap_other (by omega)).trans HD12.out
      refine ⟨by simp, .inl ⟨_, _, rfl, run_takeDeferred HD1b, ?_⟩⟩
      have EF : R = false := by rw [HR.out, HCN.out]; simp
      refine ⟨.bool false, ?_, ret_bool EF.symm, KE.out.trans ((KpF.of_below (below_put (Nat.le_refl _) (by omega) (Below.refl _ _) HD2.out) hlt).trans (KpF.of_below (below_put (Nat.le_refl _) (by omega) (Below.refl _ _) HD1b) hlt)), fun e => by rw [EF] at e; cases e⟩
      simp [results, Tryz.f54, go_sem]
     have hC1' : clearF h.words (O + Y) (O + M) = true := by simpa using hC1
     rw [hC1'] at HIC
     have HC1 := hide hC1'
     clear hC1 hC1'
     go_wp2_with fail
     refine HIC.out.mono ?_
     rintro e W9 ⟨rfl, bz⟩
     have BZ := hide bz
     clear bz v0 v1 v2 r0 RV RF HIC
     go_wp2_with fail
     unfold Code.rounds
     go_wp2_with fail
     have HD29 : W9.heap[D2]? = some (.deferred (some [])) := (BZ.out.block D2 hD2l).trans HD2.out
     refine ⟨by simp, .inl ⟨_, _, rfl, run_takeDeferred HD29, ?_⟩⟩
     have HD19 : (W9.putObj D2 (.deferred none)).heap[D1]? = some (.deferred (some [])) := (World.putObj_heap_other (by omega)).trans ((BZ.out.block D1 (by omega)).trans HD12.out)
     refine ⟨by simp, .inl ⟨_, _, rfl, run_takeDeferred HD19, ?_⟩⟩
     have EF : R = true := by rw [HR.out, decide_eq_true HS0.out, HC0.out, decide_eq_true HS1.out, HC1.out]; rfl
     refine ⟨.bool true, ?_, ret_bool EF.symm, KE.out.trans ((KpF.of_below (BZ.out.mono (by omega)) hlt).trans ((KpF.of_below (below_put (Nat.le_refl _) (by omega) (Below.refl _ _) HD29) hlt).trans (KpF.of_below (below_put (Nat.le_refl _) (by omega) (Below.refl _ _) HD19) hlt))), fun _ => ?_⟩
     ·simp [results, Tryz.f54, go_sem]
     ·rw [HST.out]
      exact ((ST8.out.cells fun o => BZ.out.cell (p := ⟨sb, o, none⟩) hsl8).cells fun o => World.cell?_of_block (w := W9) (World.putObj_heap_other (by show sb ≠ D2; omega))).cells fun o => World.cell?_of_block (w := W9.putObj D2 (.deferred none)) (World.putObj_heap_other (by show sb ≠ D1; omega))
end Go.Proofs.YtembifoimiochaaGreatDoor
