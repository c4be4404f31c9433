/- heapSpace.valsFit: all that stands in things is of its sort. -/
import Derived.Test.YtembifoimiochaaGreatDoorHpV2
import Derived.Test.YtembifoimiochaaGreatDoorHpI7
import Derived.Test.YtembifoimiochaaGreatDoorWideRound
import Derived.Test.YtembifoimiochaaGreatDoorHeldL
namespace Go.Proofs.YtembifoimiochaaGreatDoor
open Go.ChangeShapes Go.WideShapes Go.ChangeAt Go.RowKit Go.Shelf Go.Deep
set_option linter.unusedVariables false
set_option linter.unusedSimpArgs false
attribute [local go_sem] Oper.semAt_some

/-- The words of a thing. -/
def wsL (ws : List Int) (a n : Nat) : List Int := (List.range n).map fun i => nAt ws (a + 1 + i)
theorem wsL_len (ws : List Int) (a n : Nat) : (wsL ws a n).length = n := by simp [wsL]
theorem wsL_at (ws : List Int) (a : Nat) {n i : Nat} (hi : i < n) : nAt (wsL ws a n) i = nAt ws (a + 1 + i) := by
 unfold wsL
 show List.getD _ _ _ = _
 rw [List.getD_eq_getElem?_getD, List.getElem?_map, List.getElem?_range hi]; rfl
theorem wsL_hi (ws : List Int) (a n : Nat) (hI : ∀ i, nAt ws i ≤ 9223372036854775807) (i : Nat) : nAt (wsL ws a n) i ≤ 9223372036854775807 := by
 by_cases hi : i < n
 ·rw [wsL_at ws a hi]; exact hI _
 ·have : nAt (wsL ws a n) i = 0 := by
   show List.getD _ _ _ = _
   rw [List.getD_eq_getElem?_getD, List.getElem?_eq_none (by rw [wsL_len]; omega)]; rfl
  omega
theorem fieldsT_len {gs : List (List Ty)} (hP : Parts gs) {head : Int} (h0 : 0 ≤ lenF gs head) : (fieldsT (tyN gs (head / 16).toNat) (lenF gs head).toNat).length = (lenF gs head).toNat := by
 obtain ⟨e1, e2, e3, e4, e5⟩ := lenF_pos h0
 unfold fieldsT
 rcases kind_of_parts hP (p := (head / 16).toNat) (by omega) with hk | ⟨hk, _⟩
 ·rw [if_neg (by omega)]; have := e4 hk; omega
 ·rw [if_pos hk, List.length_replicate]
theorem fitA_of {gs : List (List Ty)} {h : GHeap} {S : List Int} {a : Nat} (h0 : 0 ≤ lenF gs (nAt h.words a)) :
 allTo (fun i => fitsV gs (stL h S) (valAt' (valsTo (fun i => (wordVal (fdAt (fieldsT (tyA gs h a) (lenW gs h.words a)) i).kind (nAt (wsL h.words a (lenW gs h.words a)) i)).getD (0, 0)) (lenW gs h.words a)) i).kind (valAt' (valsTo (fun i => (wordVal (fdAt (fieldsT (tyA gs h a) (lenW gs h.words a)) i).kind (nAt (wsL h.words a (lenW gs h.words a)) i)).getD (0, 0)) (lenW gs h.words a)) i).n (fdAt (fieldsT (tyA gs h a) (lenW gs h.words a)) i)) (lenW gs h.words a) = fitA gs h S a := by
 unfold fitA
 rw [lenA_eq h0]
 refine allTo_congr fun i hi => ?_
 rw [valsTo_at _ _ hi]
 unfold fit1 valA
 rw [fieldsT_at hi, wsL_at _ _ hi]
theorem FldIn.all {w : World} {lo hi S : Nat} {a : Option Addr} {fs : List Fd} (h : FldIn w lo hi S a fs) (hh : hi ≤ w.heap.size) : FieldsIn w 0 w.heap.size a fs := by
 rcases h with h | h
 ·exact h.wide (Nat.zero_le _) hh
 ·exact h.wide (Nat.zero_le _) (Nat.le_refl _)
theorem intsWide {w : World} {lo hi lo' hi' : Nat} {a : Option Addr} {xs : List Int} (h : IntsIn w lo hi a xs) (h1 : lo' ≤ lo) (h2 : hi ≤ hi') : IntsIn w lo' hi' a xs := by
 rcases h with h0 | ⟨b, off, e, q1, q2, q3⟩
 ·exact .inl h0
 ·exact .inr ⟨b, off, e, Nat.le_trans h1 q1, Nat.lt_of_lt_of_le q2 h2, q3⟩
theorem mem_of_gh {lo hi S sb : Nat} {gs : List (List Ty)} {ws L : List Int} {pre : List HTh} {x : HTh} {W : World} (h : GH lo hi S sb gs ws L pre x W) : (x.a : Int) ∈ L := by
 obtain ⟨t, ht⟩ := h.1
 rw [← ht]
 simp
theorem thWords {gs : List (List Ty)} {h : GHeap} (hs : SizeOk h) {a : Nat} (ha : (a : Int) ∈ startsF gs h) : 0 ≤ lenF gs (nAt h.words a) ∧ a + 1 + lenW gs h.words a ≤ h.words.length ∧ lenW gs h.words a ≤ 6 := by
 obtain ⟨k, e, h0, h1, h2⟩ := starts_mem hs ha
 obtain rfl : a = k := by omega
 have := lenF_le gs (nAt h.words a)
 have n1 := hs.n1
 have y2 := hs.y2
 have a2 := hs.a2
 unfold lenW
 refine ⟨h0, ?_, by omega⟩
 unfold startsF at ha
 rcases List.mem_append.1 ha with hm | hm
 ·obtain ⟨k, e, _, _, h3⟩ := partO_mem hs hm
  obtain rfl : a = k := by omega
  omega
 ·obtain ⟨k, e, _, _, h3⟩ := partY_mem hs hm
  obtain rfl : a = k := by omega
  omega
theorem KpH.store {hi sb n₂ rb : Nat} {T0 : TypeId} {vs : List Value} {A : World} (hr : Rec A rb T0 vs) (hT : ¬ BoxT T0) (h1 : hi ≤ rb) (h2 : rb ≠ sb) (o : Nat) (v : Value) : KpH hi sb n₂ A (A.setCell ⟨rb, o, none⟩ v) := by
 have hk : ∀ k, k ≠ rb → (A.setCell ⟨rb, o, none⟩ v).heap[k]? = A.heap[k]? := fun k hk => Below.heap_setCell _ _ _ _ hk
 have hr' : A.heap[rb]? = some (.cells vs.toArray T0 (0, 0)) := hr
 refine ⟨⟨by simp [World.setCell], fun k h => hk k (by omega), fun o' _ => World.cell?_of_block (w := A) (hk sb (fun e => h2 e.symm)), fun k c T hTT _ h => hk k fun e => ?_⟩, fun k o' _ h hc => (hk k fun e => ?_).trans h, fun k c _ h => hk k fun e => ?_⟩
 ·subst e; rw [hr'] at h; cases h; exact hT hTT
 ·subst e; rw [hr'] at h; cases h; cases hc
 ·subst e; rw [hr'] at h; cases h; exact hT (.inl rfl)
theorem keepsFrom_store {B rb : Nat} {T0 : TypeId} {vs : List Value} {A : World} (hr : Rec A rb T0 vs) (o : Nat) (v : Value) : KeepsFrom B A (A.setCell ⟨rb, o, none⟩ v) := by
 have hr' : A.heap[rb]? = some (.cells vs.toArray T0 (0, 0)) := hr
 refine ⟨by simp [World.setCell], fun k o' _ h hc => (Below.heap_setCell _ _ _ _ fun e => ?_).trans h⟩
 subst e; rw [hr'] at h; cases h; cases hc
theorem allFits_no {gs : List (List Ty)} {h : GHeap} {pre : List HTh} {S : List Int} (hp : pre.map (fun y => (y.a : Int)) <+: S) {x : HTh} (hx : x ∈ pre) (hf : fitA gs h S x.a = false) : allFits gs h S = false := by
 obtain ⟨t, ht⟩ := hp
 have hm : (x.a : Int) ∈ S := by rw [← ht]; exact List.mem_append.2 (.inl (List.mem_map.2 ⟨x, hx, rfl⟩))
 obtain ⟨j, hj, e⟩ := List.mem_iff_getElem.1 hm
 unfold allFits
 refine allTo_false hj ?_
 have : nAt S j = (x.a : Int) := by show List.getD _ _ _ = _; rw [List.getD_eq_getElem?_getD, List.getElem?_eq_getElem hj, e]; rfl
 rw [this]
 exact hf
theorem allFits_yes {gs : List (List Ty)} {h : GHeap} {xs : List HTh} {S : List Int} (hp : xs.map (fun y => (y.a : Int)) = S) (hf : ∀ x ∈ xs, fitA gs h S x.a = true) : allFits gs h S = true := by
 unfold allFits
 refine allTo_of fun j hj => ?_
 have hj' : j < xs.length := by rw [← hp, List.length_map] at hj; exact hj
 have : nAt S j = ((xs[j]'hj').a : Int) := by show List.getD _ _ _ = _; rw [List.getD_eq_getElem?_getD, ← hp, List.getElem?_map, List.getElem?_eq_getElem hj']; rfl
 rw [this]
 exact hf _ (List.getElem_mem _)
instance (T : TypeId) : Decidable (BoxT T) := by unfold BoxT; infer_instance
theorem below_put {B D : Nat} {A W : World} {o o' : Obj} (_h1 : B ≤ B) (h2 : B ≤ D) (h : Below B A W) (hD : W.heap[D]? = some o) : Below B A (W.putObj D o') :=
 h.trans ⟨rfl, rfl, rfl, by simp [World.putObj], fun k hk => World.putObj_heap_other (by omega)⟩
theorem below_own {β : Type} {B : Nat} {A : World} (hBA : B ≤ A.heap.size) : OwnFrom B (fun (_ : β) W => Below B A W) := fun s X Y row hs hg hr =>
 ⟨hg.os.trans hs.os, hg.tape.trans hs.tape, hg.output.trans hs.output, Nat.le_trans hs.size hg.size, fun k hk => (hg.block k (Nat.lt_of_lt_of_le hk (Nat.le_trans hBA hs.size)) (fun e => by have := (hr k e.symm).1; omega)).trans (hs.block k hk)⟩

/-- The space of a heap, and what begins where. -/
structure SpS (w : World) (lo hi sb : Nat) (gs : List (List Ty)) (h : GHeap) (ra : Option Addr) (rc cb co cc : Nat) (L : List Int) : Prop extends SpA w lo hi sb gs h ra rc cb co cc where
 st : ThingsM false w 0 (sb + 1) (some ⟨sb, 168, none⟩) (stL h L)
theorem SpS.keep {w w' : World} {lo hi sb : Nat} {gs : List (List Ty)} {h : GHeap} {ra : Option Addr} {rc cb co cc : Nat} {L : List Int} (H : SpS w lo hi sb gs h ra rc cb co cc L) (hb : Below w.heap.size w w') : SpS w' lo hi sb gs h ra rc cb co cc L :=
 ⟨H.toSpA.keep hb, H.st.keep (hb.mono H.lt)⟩
theorem SpS.keepB {w w' : World} {lo hi sb : Nat} {gs : List (List Ty)} {h : GHeap} {ra : Option Addr} {rc cb co cc : Nat} {L : List Int} (H : SpS w lo hi sb gs h ra rc cb co cc L) (hb : Below w.heap.size w w') : SpS w' lo hi sb gs h ra rc cb co cc L := H.keep hb

theorem spSeq (n lo hi sb S : Nat) (ra : Option Addr) (rc cb co cc : Nat) (gs : List (List Ty)) (h : GHeap) (H : HOk gs h) (w : World) (hS : S ≤ w.heap.size) (hs : SpA w lo hi sb gs h ra rc cb co cc) :
 SeqL Fence.wide n Tryz.prog 78 #[.pointer (some ⟨sb, 0, none⟩)] #[] (fun x => #[thV gs h.words x]) (KpH hi sb (w.heap.size + 2)) (GH lo hi S sb gs h.words (startsF gs h)) (fun ys => ys.map (fun y => (y.a : Int)) = startsF gs h) (fun pre => pre.map (fun y => (y.a : Int)) <+: startsF gs h) w := fun l J Jx W hWb h2 hJ hJx hY h0 => by
 have := spThings n l lo hi sb S (w.heap.size + 2) ra rc cb co cc gs h J Jx H W h2 (Nat.le_trans hS hWb.size) (hs.keep hWb) hJ hJx hY h0
 simpa using this

theorem thFit (lo hi sb S : Nat) (ra : Option Addr) (rc cb co cc : Nat) (gs : List (List Ty)) (h : GHeap) (H : HOk gs h) (w : World) (hs : SpS w lo hi sb gs h ra rc cb co cc (startsF gs h)) (x : HTh) (hx : ThIn w lo hi S sb gs h.words x) (hm : (x.a : Int) ∈ startsF gs h) :
 Hid (∀ W, Below w.heap.size w W → Calls Tryz.prog 80 #[.agg #[.int .i64 (x.a : Int), .int .i64 (nAt h.words x.a / 16), .slice x.fa (lenW gs h.words x.a) x.fc, .slice x.wa (lenW gs h.words x.a) x.wc]] W fun e w' => ∃ va cap, e = .returned (.slice va (lenW gs h.words x.a) cap) ∧ Below W.heap.size W w' ∧
  Hid (∀ W3, Below w'.heap.size w' W3 → Calls Tryz.prog 79 #[.agg #[.slice ra (kinCount gs) rc, .slice (some ⟨cb, co, none⟩) (kinCount gs) cc], .slice (some ⟨sb, 168, none⟩) 160 160, .slice va (lenW gs h.words x.a) cap, .slice x.fa (lenW gs h.words x.a) x.fc] W3 fun e w'' => e = .returned (.bool (fitA gs h (startsF gs h) x.a)) ∧ Below W3.heap.size W3 w'')) := by
 obtain ⟨q0, q1, q2⟩ := thWords H.sz hm
 have hhi : hi ≤ w.heap.size := Nat.le_trans hs.hh (Nat.le_of_lt hs.lt)
 have hfl := fieldsT_len H.pa q0
 have hF := hx.1.all hhi
 have hXi : IntsIn w 0 w.heap.size x.wa (wsL h.words x.a (lenW gs h.words x.a)) := by
  rcases hx.2 with h0 | h0
  ·left; exact List.length_eq_zero_iff.1 (by rw [wsL_len]; exact h0)
  ·refine .inr ⟨sb, _, h0, Nat.zero_le _, hs.lt, fun i hi' => ?_⟩
   rw [wsL_len] at hi'
   rw [wsL_at _ _ hi', show 2 + (x.a + 1) + i = 2 + (x.a + 1 + i) by omega]
   exact hs.ws _ (by omega)
 obtain ⟨n, hn⟩ : ∃ n, n = lenW gs h.words x.a := ⟨_, rfl⟩
 have hfl' : (fieldsT (tyA gs h x.a) (lenW gs h.words x.a)).length = n := by rw [hn]; exact hfl
 have hF : FieldsIn w 0 w.heap.size x.fa (fieldsT (tyA gs h x.a) (lenW gs h.words x.a)) := hF
 have hfit := fitA_of (S := startsF gs h) q0
 intro W hb
 have hv := vals_any (x.a : Int) (nAt h.words x.a / 16) x.fa x.wa x.fc x.wc (fieldsT (tyA gs h x.a) (lenW gs h.words x.a)) (wsL h.words x.a (lenW gs h.words x.a)) W (by rw [wsL_len, hfl']; exact hn) (by rw [wsL_len]; exact q2) ((hF.keep hb).wide (Nat.le_refl _) hb.size) (intsWide (hXi.keep hb) (Nat.le_refl _) hb.size) (wsL_hi _ _ _ fun i => (H.wb i).2)
 rw [wsL_len, hfl'] at hv
 rw [← hn] at hv ⊢ hfit hfl' hF
 refine hv.mono ?_
 rintro e w' ⟨⟨va, cap, rfl, hr⟩, b'⟩
 refine ⟨va, cap, rfl, b', fun W3 b3 => ?_⟩
 have bw3 : Below w.heap.size w W3 := hb.trans ((b'.trans (b3.mono b'.size)).mono hb.size)
 have hr3 := hr.below b3
 have hs3 := hs.keep bw3
 have key := tabValsFit_any (md := false) rc cb co cc lo hi 160 0 (sb + 1) ra (some ⟨sb, 168, none⟩) gs (stL h (startsF gs h)) va x.fa cap x.fc W.heap.size W3.heap.size 0 w.heap.size _ (fieldsT (tyA gs h x.a) n) W3 H.pa hs3.tab (Nat.le_trans hs3.hh (Nat.le_of_lt hs3.lt)) (by rw [stL_len]; decide) hs3.st hs3.lt (by rw [valsTo_len, hfl']) (by rw [hfl']; omega) hr3.vals (Nat.le_refl _) (hF.keep bw3) bw3.size
 rw [valsTo_len, hfl', stL_len, hfit] at key
 exact key

set_option maxRecDepth 100000 in
set_option maxHeartbeats 4000000 in
theorem spValsFit_any (lo hi sb : Nat) (ra : Option Addr) (rc cb co cc : Nat) (gs : List (List Ty)) (h : GHeap) (H : HOk gs h) (w : World) (hs : SpS w lo hi sb gs h ra rc cb co cc (startsF gs h)) :
 Calls Tryz.prog 55 #[.pointer (some ⟨sb, 0, none⟩)] w fun e w' => e = .returned (.bool (allFits gs h (startsF gs h))) ∧ Below w.heap.size w w' := by
 obtain ⟨w1, hw1⟩ : ∃ w1, w1 = (w.alloc (.cells #[.pointer (some ⟨sb, 0, none⟩)] 52)).alloc (.cells #[.bool false] 4) := ⟨_, rfl⟩
 have B1 : Hid (Below w.heap.size w w1) := by show Below _ _ _; rw [hw1]; exact two_below _ _ _
 have P1 : Rec w1 w.heap.size 52 [.pointer (some ⟨sb, 0, none⟩)] := by rw [hw1]; exact (Rec.new _ _ _).alloc _
 have R1 : Rec w1 (w.heap.size + 1) 4 [.bool false] := by rw [hw1]; exact Rec.new' _ _ _ _ (by simp)
 have hz : w1.heap.size = w.heap.size + 2 := by rw [hw1]; simp
 have hs1 := hs.keep B1.out
 have hlt := hs.lt
 have hhs := hs.hh
 have hhi : hi ≤ w1.heap.size := Nat.le_trans hs1.hh (Nat.le_of_lt hs1.lt)
 refine (callsIn_wide (n := 6)).1 ?_
 refine callsIn_of_wp_marks Tryz.func55 rfl trivial ?_ rfl
 simp only [Tryz.ntmps55, List.size_toArray, List.length_cons, List.length_nil, Nat.reduceAdd, Nat.reduceSub, Array.replicate_succ, Array.replicate_zero, List.push_toArray, List.append_toArray, List.nil_append, List.cons_append]
 refine wpIn_wide.2 ?_
 have hmo : Tryz.prog.follows .mixedOrders = true := by kernel_rfl
 have c0 := P1.cell (o := 0) rfl
 have HS1 := hide hs1
 have HP1 := hide P1
 have HR1 := hide R1
 clear hs1 P1 R1
 rw [hw1] at c0
 go_wp2_with fail
 rw [← hw1]
 clear c0
 refine (wpIn_wide (n := 5)).1 ?_
 refine range_leave (F := Fence.wide) rfl (by omega) (gf := 78) (cap := #[.pointer (some ⟨sb, 0, none⟩)]) (lb := #[]) rfl trivial (enters_of Tryz.func78 (by kernel_rfl) rfl)
  (spSeq (5 - 1) lo hi sb w.heap.size ra rc cb co cc gs h H w1 (by omega) HS1.out.toSpA)
  KpH.trans (fun W o o' => KpH.put (by omega) (by omega) (by omega) W o o') (Below.refl _ _) (fun _ => rfl)
  (fun pre W' => (∀ x ∈ pre, fitA gs h (startsF gs h) x.a = true) ∧ Below w1.heap.size w1 W') (fun c pre W' => ((c = .ret ∧ ∃ x ∈ pre, fitA gs h (startsF gs h) x.a = false) ∧ Below w.heap.size w W') ∧ Rec W' (w.heap.size + 1) 4 [.bool false])
  (fun s X Y row h1 h2 h3 => ⟨h1.1, below_own (β := Unit) (Nat.le_refl _) () X Y row h1.2 h2 h3⟩) (fun c s X Y row h1 h2 h3 => ⟨⟨h1.1.1, below_own (β := Unit) (Nat.le_refl _) () X Y row h1.1.2 h2 fun r e => ⟨Nat.le_trans B1.out.size (h3 r e).1, (h3 r e).2⟩⟩, rec_own' (β := Unit) _ _ _ _ () X Y row h1.2 h2 h3⟩) (fun pre => gh_own pre) ⟨fun x hx => (by cases hx), Below.refl _ _⟩
  (fun x a' W' => ∃ b, a' = { tmps := #[.pointer (some ⟨sb, 0, none⟩), .pointer (some ⟨w.heap.size, 0, none⟩), .pointer (some ⟨w.heap.size + 1, 0, none⟩), .pointer (some ⟨b, 0, none⟩), .pointer (some ⟨sb, 0, none⟩), .func (.func 78) #[.pointer (some ⟨sb, 0, none⟩)] #[], thV gs h.words x, undef, undef, undef, undef, undef, undef, undef, undef, undef, undef, undef, undef, undef, undef], defers := [] } ∧ Rec W' b 131 [.int .i64 (x.a : Int), .int .i64 (nAt h.words x.a / 16), .slice x.fa (lenW gs h.words x.a) x.fc, .slice x.wa (lenW gs h.words x.a) x.wc]) (fun x a' s X Y row h1 h2 h3 => by
   obtain ⟨b, e, hr⟩ := h1
   exact ⟨b, e, rec_own' (β := Unit) _ _ _ _ () X Y row hr h2 h3⟩) ?assign ?body ?done ?stop
 case assign =>
  rintro l' pre ⟨xa, fa, fc, wa, wc⟩ Wx K ⟨hok, hbl⟩ hg hK
  simp only [thV]
  gi_wp2
  have hb := two_b Wx (.cells #[.int .i64 (xa : Int), .int .i64 (nAt h.words xa / 16), .slice fa (lenW gs h.words xa) fc, .slice wa (lenW gs h.words xa) wc] 131)
  have hbs := hbl.size
  exact hK _ _ (keepsFrom_below hb) (KpH.of_below hb (by omega) (by omega)) ⟨hok, hbl.trans (hb.mono hbs)⟩ ((gh_own (B := 0) pre).alloc _ hg) ⟨Wx.heap.size, rfl, Rec.new _ _ _⟩
 case body =>
  rintro l' pre ⟨xa, fa, fc, wa, wc⟩ a' Wx ⟨hok, hbw⟩ hg ⟨b, rfl, hrec⟩
  have hbs := hbw.size
  have hbl := hrec.lt
  have hsx : sb < Wx.heap.size := by omega
  have hp0 : w.heap.size < Wx.heap.size := by omega
  have hSX := HS1.out.keep hbw
  have HVF := thFit lo hi sb w.heap.size ra rc cb co cc gs h H Wx hSX ⟨xa, fa, fc, wa, wc⟩ hg.2 (mem_of_gh hg)
  have HWB := hide hbw
  have HOK := hide hok
  have hRl : w.heap.size + 1 < Wx.heap.size := by omega
  have HRX := hide ((HR1.out.below hbw (by omega)))
  have p0 := ((HP1.out.below hbw (by omega))).cell (o := 0) rfl
  have t0 := hrec.cell (o := 0) rfl
  have t1 := hrec.cell (o := 1) rfl
  have t2 := hrec.cell (o := 2) rfl
  have t3 := hrec.cell (o := 3) rfl
  have k0 := hSX.k0
  have k1 := hSX.k1
  have HFX : Hid (∀ W5, Below Wx.heap.size Wx W5 → KeepsFrom w1.heap.size Wx W5 ∧ KpH hi sb (w1.heap.size + 2) Wx W5 ∧ Below w1.heap.size w1 W5) := fun W5 hb => ⟨keepsFrom_below hb, KpH.of_below hb (by omega) (by omega), hbw.trans (hb.mono hbs)⟩
  have BX := hide ((Below.refl Wx.heap.size Wx).drew)
  have HRB : Hid ((pre ++ [(⟨xa, fa, fc, wa, wc⟩ : HTh)]).map (fun y => (y.a : Int)) <+: startsF gs h) := hg.1
  clear hok hbw hg hSX hrec
  simp only [thV] at HVF ⊢
  gi_wp2_with fail
  obtain ⟨R, hR⟩ : ∃ R, R = fitA gs h (startsF gs h) xa := ⟨_, rfl⟩
  rw [← hR] at HVF
  have HR := hide hR
  clear hR
  cases R with
  | false =>
   refine held_wide (S := (fun w' => w'.cell? ⟨w.heap.size, 0, none⟩ = some (.pointer (some ⟨sb, 0, none⟩)) ∧ w'.cell? ⟨b, 0, none⟩ = some (.int .i64 (xa : Int)) ∧ w'.cell? ⟨b, 1, none⟩ = some (.int .i64 (nAt h.words xa / 16)) ∧ w'.cell? ⟨b, 2, none⟩ = some (.slice fa (lenW gs h.words xa) fc) ∧ w'.cell? ⟨b, 3, none⟩ = some (.slice wa (lenW gs h.words xa) wc) ∧ w'.cell? ⟨sb, 0, none⟩ = some (.slice ra (kinCount gs) rc) ∧ w'.cell? ⟨sb, 1, none⟩ = some (.slice (some ⟨cb, co, none⟩) (kinCount gs) cc))) (by rintro ⟨x1, x2, hx⟩; exact hx) (by simp) hmo ?_
   have hHeld : (fun w' => w'.cell? ⟨w.heap.size, 0, none⟩ = some (.pointer (some ⟨sb, 0, none⟩)) ∧ w'.cell? ⟨b, 0, none⟩ = some (.int .i64 (xa : Int)) ∧ w'.cell? ⟨b, 1, none⟩ = some (.int .i64 (nAt h.words xa / 16)) ∧ w'.cell? ⟨b, 2, none⟩ = some (.slice fa (lenW gs h.words xa) fc) ∧ w'.cell? ⟨b, 3, none⟩ = some (.slice wa (lenW gs h.words xa) wc) ∧ w'.cell? ⟨sb, 0, none⟩ = some (.slice ra (kinCount gs) rc) ∧ w'.cell? ⟨sb, 1, none⟩ = some (.slice (some ⟨cb, co, none⟩) (kinCount gs) cc)) Wx.drew := ⟨p0, t0, t1, t2, t3, k0, k1⟩
   refine takeL (i := 0) (v := ?v0n1) rfl (by kernel_rfl) (by kernel_rfl) (by kernel_rfl) (fun _ _ _ h => h) (by kernel_rfl) (by assumption) ?y0n1 ?r0n1; case y0n1 => (intro w hSw; (try dsimp only at hSw); go_simp; try with_reducible rfl); (try simp only [Act.put, List.setIfInBounds_toArray, List.set_cons_zero, List.set_cons_succ])
   refine takeL (i := 1) (v := ?v1n2) rfl (by kernel_rfl) (by kernel_rfl) (by kernel_rfl) (fun _ _ _ h => h) (by kernel_rfl) (by assumption) ?y1n2 ?r1n2; case y1n2 => (intro w hSw; (try dsimp only at hSw); go_simp; try with_reducible rfl); (try simp only [Act.put, List.setIfInBounds_toArray, List.set_cons_zero, List.set_cons_succ])
   refine takeL (i := 2) (v := ?v2n3) rfl (by kernel_rfl) (by kernel_rfl) (by kernel_rfl) (fun _ _ _ h => h) (by kernel_rfl) (by assumption) ?y2n3 ?r2n3; case y2n3 => (intro w hSw; (try dsimp only at hSw); go_simp; try with_reducible rfl); (try simp only [Act.put, List.setIfInBounds_toArray, List.set_cons_zero, List.set_cons_succ])
   refine takeL (i := 3) (v := ?v3n4) rfl (by kernel_rfl) (by kernel_rfl) (by kernel_rfl) (fun _ _ _ h => h) (by kernel_rfl) (by assumption) ?y3n4 ?r3n4; case y3n4 => (intro w hSw; (try dsimp only at hSw); go_simp; try with_reducible rfl); (try simp only [Act.put, List.setIfInBounds_toArray, List.set_cons_zero, List.set_cons_succ])
   refine takeL (i := 4) (v := ?v4n5) rfl (by kernel_rfl) (by kernel_rfl) (by kernel_rfl) (fun _ _ _ h => h) (by kernel_rfl) (by assumption) ?y4n5 ?r4n5; case y4n5 => (intro w hSw; (try dsimp only at hSw); go_simp; try with_reducible rfl); (try simp only [Act.put, List.setIfInBounds_toArray, List.set_cons_zero, List.set_cons_succ])
   refine takeL (i := 5) (v := ?v5n6) rfl (by kernel_rfl) (by kernel_rfl) (by kernel_rfl) (fun _ _ _ h => h) (by kernel_rfl) (by assumption) ?y5n6 ?r5n6; case y5n6 => (intro w hSw; (try dsimp only at hSw); go_simp; try with_reducible rfl); (try simp only [Act.put, List.setIfInBounds_toArray, List.set_cons_zero, List.set_cons_succ])
   refine takeL (i := 6) (v := ?v6n7) rfl (by kernel_rfl) (by kernel_rfl) (by kernel_rfl) (fun _ _ _ h => h) (by kernel_rfl) (by assumption) ?y6n7 ?r6n7; case y6n7 => (intro w hSw; (try dsimp only at hSw); go_simp; try with_reducible rfl); (try simp only [Act.put, List.setIfInBounds_toArray, List.set_cons_zero, List.set_cons_succ])
   refine takeL (i := 7) (v := ?v7n8) rfl (by kernel_rfl) (by kernel_rfl) (by kernel_rfl) (fun _ _ _ h => h) (by kernel_rfl) (by assumption) ?y7n8 ?r7n8; case y7n8 => (intro w hSw; (try dsimp only at hSw); go_simp; try with_reducible rfl); (try simp only [Act.put, List.setIfInBounds_toArray, List.set_cons_zero, List.set_cons_succ])
   refine takeL (i := 8) (v := ?v8n9) rfl (by kernel_rfl) (by kernel_rfl) (by kernel_rfl) (fun _ _ _ h => h) (by kernel_rfl) (by assumption) ?y8n9 ?r8n9; case y8n9 => (intro w hSw; (try dsimp only at hSw); go_simp; try with_reducible rfl); (try simp only [Act.put, List.setIfInBounds_toArray, List.set_cons_zero, List.set_cons_succ])
   refine takeL (i := 10) (v := ?v10n10) rfl (by kernel_rfl) (by kernel_rfl) (by kernel_rfl) (fun _ _ _ h => h) (by kernel_rfl) (by assumption) ?y10n10 ?r10n10; case y10n10 => (intro w hSw; (try dsimp only at hSw); go_simp; try with_reducible rfl); (try simp only [Act.put, List.setIfInBounds_toArray, List.set_cons_zero, List.set_cons_succ])
   refine takeL (i := 11) (v := ?v11n11) rfl (by kernel_rfl) (by kernel_rfl) (by kernel_rfl) (fun _ _ _ h => h) (by kernel_rfl) (by assumption) ?y11n11 ?r11n11; case y11n11 => (intro w hSw; (try dsimp only at hSw); go_simp; try with_reducible rfl); (try simp only [Act.put, List.setIfInBounds_toArray, List.set_cons_zero, List.set_cons_succ])
   refine doL (i := 9) rfl (by kernel_rfl) (fun K hK => ?_)
   go_simp
   (go_at_call 80; refine (HVF.out _ BX.out).mono ?_; rintro e W3 ⟨va, cap, rfl, b3, HF3⟩; have p0 := (b3.cell (p := ⟨w.heap.size, 0, none⟩) hp0).trans hHeld.1; have t0 := (b3.cell (p := ⟨b, 0, none⟩) hbl).trans hHeld.2.1; have t1 := (b3.cell (p := ⟨b, 1, none⟩) hbl).trans hHeld.2.2.1; have t2 := (b3.cell (p := ⟨b, 2, none⟩) hbl).trans hHeld.2.2.2.1; have t3 := (b3.cell (p := ⟨b, 3, none⟩) hbl).trans hHeld.2.2.2.2.1; have k0 := (b3.cell (p := ⟨sb, 0, none⟩) hsx).trans hHeld.2.2.2.2.2.1; have k1 := (b3.cell (p := ⟨sb, 1, none⟩) hsx).trans hHeld.2.2.2.2.2.2; have B3 := hide (BX.out.trans b3); clear b3)
   (try go_wp2_with fail)
   refine hK.out _ _ ?_ (fun hHeld2 => ?_)
   · (try dsimp only); (first | exact ⟨p0, t0, t1, t2, t3, k0, k1⟩ | go_keep)
   clear hK K hHeld
   have hHeld := hHeld2
   clear hHeld2
   try simp only [Act.put, List.setIfInBounds_toArray, List.set_cons_zero, List.set_cons_succ]
   refine doL (i := 12) rfl (by kernel_rfl) (fun K hK => ?_)
   go_simp
   (go_at_call 79; refine (HF3.out _ (Below.refl _ _)).mono ?_; rintro e W4 ⟨rfl, b4⟩; have B4 := hide (B3.out.trans (b4.mono B3.out.size)); have p0 := (b4.cell (p := ⟨w.heap.size, 0, none⟩) (Nat.lt_of_lt_of_le hp0 B3.out.size)).trans p0; have t0 := (b4.cell (p := ⟨b, 0, none⟩) (Nat.lt_of_lt_of_le hbl B3.out.size)).trans t0; have t1 := (b4.cell (p := ⟨b, 1, none⟩) (Nat.lt_of_lt_of_le hbl B3.out.size)).trans t1; have t2 := (b4.cell (p := ⟨b, 2, none⟩) (Nat.lt_of_lt_of_le hbl B3.out.size)).trans t2; have t3 := (b4.cell (p := ⟨b, 3, none⟩) (Nat.lt_of_lt_of_le hbl B3.out.size)).trans t3; have k0 := (b4.cell (p := ⟨sb, 0, none⟩) (Nat.lt_of_lt_of_le hsx B3.out.size)).trans k0; have k1 := (b4.cell (p := ⟨sb, 1, none⟩) (Nat.lt_of_lt_of_le hsx B3.out.size)).trans k1; clear b4)
   (try go_wp2_with fail)
   refine hK.out _ _ ?_ (fun hHeld2 => ?_)
   · (try dsimp only); (first | exact ⟨p0, t0, t1, t2, t3, k0, k1⟩ | go_keep)
   clear hK K hHeld
   have hHeld := hHeld2
   clear hHeld2
   try simp only [Act.put, List.setIfInBounds_toArray, List.set_cons_zero, List.set_cons_succ]
   refine takeL (i := 13) (v := ?v13n12) rfl (by kernel_rfl) (by kernel_rfl) (by kernel_rfl) (fun _ _ _ h => h) (by kernel_rfl) (by assumption) ?y13n12 ?r13n12; case y13n12 => (intro w hSw; (try dsimp only at hSw); go_simp; try with_reducible rfl); (try simp only [Act.put, List.setIfInBounds_toArray, List.set_cons_zero, List.set_cons_succ])
   refine wpAnyH_done (by kernel_rfl) ?_ _
   clear hHeld p0 t0 t1 t2 t3 k0 k1 HVF HF3 BX B3
   have r0 := (HRX.out.below B4.out hRl).cell (o := 0) rfl
   have HX4 := hide (HFX.out _ B4.out)
   have HR4 := hide (HRX.out.below B4.out hRl)
   have hfr := HR4.out.frozen 0
   gi_wp2
   have KS := keepsFrom_store (B := w1.heap.size) HR4.out 0 (.bool false)
   exact ⟨⟨Nat.le_trans HX4.out.1.size KS.size, fun k o h1 h2 h3 => KS.same k o h1 (HX4.out.1.same k o h1 h2 h3) h3⟩, HX4.out.2.1.trans (KpH.store HR4.out (by decide) (by omega) (by omega) _ _), ⟨⟨rfl, ⟨xa, fa, fc, wa, wc⟩, List.mem_append.2 (.inr (List.mem_singleton.2 rfl)), HR.out.symm⟩, (B1.out.trans (HX4.out.2.2.mono B1.out.size)).setCell (p := ⟨w.heap.size + 1, 0, none⟩) (Nat.le_succ _) _⟩, HR4.out.set 0 _⟩
  | true =>
   refine held_wide (S := (fun w' => w'.cell? ⟨w.heap.size, 0, none⟩ = some (.pointer (some ⟨sb, 0, none⟩)) ∧ w'.cell? ⟨b, 0, none⟩ = some (.int .i64 (xa : Int)) ∧ w'.cell? ⟨b, 1, none⟩ = some (.int .i64 (nAt h.words xa / 16)) ∧ w'.cell? ⟨b, 2, none⟩ = some (.slice fa (lenW gs h.words xa) fc) ∧ w'.cell? ⟨b, 3, none⟩ = some (.slice wa (lenW gs h.words xa) wc) ∧ w'.cell? ⟨sb, 0, none⟩ = some (.slice ra (kinCount gs) rc) ∧ w'.cell? ⟨sb, 1, none⟩ = some (.slice (some ⟨cb, co, none⟩) (kinCount gs) cc))) (by rintro ⟨x1, x2, hx⟩; exact hx) (by simp) hmo ?_
   have hHeld : (fun w' => w'.cell? ⟨w.heap.size, 0, none⟩ = some (.pointer (some ⟨sb, 0, none⟩)) ∧ w'.cell? ⟨b, 0, none⟩ = some (.int .i64 (xa : Int)) ∧ w'.cell? ⟨b, 1, none⟩ = some (.int .i64 (nAt h.words xa / 16)) ∧ w'.cell? ⟨b, 2, none⟩ = some (.slice fa (lenW gs h.words xa) fc) ∧ w'.cell? ⟨b, 3, none⟩ = some (.slice wa (lenW gs h.words xa) wc) ∧ w'.cell? ⟨sb, 0, none⟩ = some (.slice ra (kinCount gs) rc) ∧ w'.cell? ⟨sb, 1, none⟩ = some (.slice (some ⟨cb, co, none⟩) (kinCount gs) cc)) Wx.drew := ⟨p0, t0, t1, t2, t3, k0, k1⟩
   refine takeL (i := 0) (v := ?v0n13) rfl (by kernel_rfl) (by kernel_rfl) (by kernel_rfl) (fun _ _ _ h => h) (by kernel_rfl) (by assumption) ?y0n13 ?r0n13; case y0n13 => (intro w hSw; (try dsimp only at hSw); go_simp; try with_reducible rfl); (try simp only [Act.put, List.setIfInBounds_toArray, List.set_cons_zero, List.set_cons_succ])
   refine takeL (i := 1) (v := ?v1n14) rfl (by kernel_rfl) (by kernel_rfl) (by kernel_rfl) (fun _ _ _ h => h) (by kernel_rfl) (by assumption) ?y1n14 ?r1n14; case y1n14 => (intro w hSw; (try dsimp only at hSw); go_simp; try with_reducible rfl); (try simp only [Act.put, List.setIfInBounds_toArray, List.set_cons_zero, List.set_cons_succ])
   refine takeL (i := 2) (v := ?v2n15) rfl (by kernel_rfl) (by kernel_rfl) (by kernel_rfl) (fun _ _ _ h => h) (by kernel_rfl) (by assumption) ?y2n15 ?r2n15; case y2n15 => (intro w hSw; (try dsimp only at hSw); go_simp; try with_reducible rfl); (try simp only [Act.put, List.setIfInBounds_toArray, List.set_cons_zero, List.set_cons_succ])
   refine takeL (i := 3) (v := ?v3n16) rfl (by kernel_rfl) (by kernel_rfl) (by kernel_rfl) (fun _ _ _ h => h) (by kernel_rfl) (by assumption) ?y3n16 ?r3n16; case y3n16 => (intro w hSw; (try dsimp only at hSw); go_simp; try with_reducible rfl); (try simp only [Act.put, List.setIfInBounds_toArray, List.set_cons_zero, List.set_cons_succ])
   refine takeL (i := 4) (v := ?v4n17) rfl (by kernel_rfl) (by kernel_rfl) (by kernel_rfl) (fun _ _ _ h => h) (by kernel_rfl) (by assumption) ?y4n17 ?r4n17; case y4n17 => (intro w hSw; (try dsimp only at hSw); go_simp; try with_reducible rfl); (try simp only [Act.put, List.setIfInBounds_toArray, List.set_cons_zero, List.set_cons_succ])
   refine takeL (i := 5) (v := ?v5n18) rfl (by kernel_rfl) (by kernel_rfl) (by kernel_rfl) (fun _ _ _ h => h) (by kernel_rfl) (by assumption) ?y5n18 ?r5n18; case y5n18 => (intro w hSw; (try dsimp only at hSw); go_simp; try with_reducible rfl); (try simp only [Act.put, List.setIfInBounds_toArray, List.set_cons_zero, List.set_cons_succ])
   refine takeL (i := 6) (v := ?v6n19) rfl (by kernel_rfl) (by kernel_rfl) (by kernel_rfl) (fun _ _ _ h => h) (by kernel_rfl) (by assumption) ?y6n19 ?r6n19; case y6n19 => (intro w hSw; (try dsimp only at hSw); go_simp; try with_reducible rfl); (try simp only [Act.put, List.setIfInBounds_toArray, List.set_cons_zero, List.set_cons_succ])
   refine takeL (i := 7) (v := ?v7n20) rfl (by kernel_rfl) (by kernel_rfl) (by kernel_rfl) (fun _ _ _ h => h) (by kernel_rfl) (by assumption) ?y7n20 ?r7n20; case y7n20 => (intro w hSw; (try dsimp only at hSw); go_simp; try with_reducible rfl); (try simp only [Act.put, List.setIfInBounds_toArray, List.set_cons_zero, List.set_cons_succ])
   refine takeL (i := 8) (v := ?v8n21) rfl (by kernel_rfl) (by kernel_rfl) (by kernel_rfl) (fun _ _ _ h => h) (by kernel_rfl) (by assumption) ?y8n21 ?r8n21; case y8n21 => (intro w hSw; (try dsimp only at hSw); go_simp; try with_reducible rfl); (try simp only [Act.put, List.setIfInBounds_toArray, List.set_cons_zero, List.set_cons_succ])
   refine takeL (i := 10) (v := ?v10n22) rfl (by kernel_rfl) (by kernel_rfl) (by kernel_rfl) (fun _ _ _ h => h) (by kernel_rfl) (by assumption) ?y10n22 ?r10n22; case y10n22 => (intro w hSw; (try dsimp only at hSw); go_simp; try with_reducible rfl); (try simp only [Act.put, List.setIfInBounds_toArray, List.set_cons_zero, List.set_cons_succ])
   refine takeL (i := 11) (v := ?v11n23) rfl (by kernel_rfl) (by kernel_rfl) (by kernel_rfl) (fun _ _ _ h => h) (by kernel_rfl) (by assumption) ?y11n23 ?r11n23; case y11n23 => (intro w hSw; (try dsimp only at hSw); go_simp; try with_reducible rfl); (try simp only [Act.put, List.setIfInBounds_toArray, List.set_cons_zero, List.set_cons_succ])
   refine doL (i := 9) rfl (by kernel_rfl) (fun K hK => ?_)
   go_simp
   (go_at_call 80; refine (HVF.out _ BX.out).mono ?_; rintro e W3 ⟨va, cap, rfl, b3, HF3⟩; have p0 := (b3.cell (p := ⟨w.heap.size, 0, none⟩) hp0).trans hHeld.1; have t0 := (b3.cell (p := ⟨b, 0, none⟩) hbl).trans hHeld.2.1; have t1 := (b3.cell (p := ⟨b, 1, none⟩) hbl).trans hHeld.2.2.1; have t2 := (b3.cell (p := ⟨b, 2, none⟩) hbl).trans hHeld.2.2.2.1; have t3 := (b3.cell (p := ⟨b, 3, none⟩) hbl).trans hHeld.2.2.2.2.1; have k0 := (b3.cell (p := ⟨sb, 0, none⟩) hsx).trans hHeld.2.2.2.2.2.1; have k1 := (b3.cell (p := ⟨sb, 1, none⟩) hsx).trans hHeld.2.2.2.2.2.2; have B3 := hide (BX.out.trans b3); clear b3)
   (try go_wp2_with fail)
   refine hK.out _ _ ?_ (fun hHeld2 => ?_)
   · (try dsimp only); (first | exact ⟨p0, t0, t1, t2, t3, k0, k1⟩ | go_keep)
   clear hK K hHeld
   have hHeld := hHeld2
   clear hHeld2
   try simp only [Act.put, List.setIfInBounds_toArray, List.set_cons_zero, List.set_cons_succ]
   refine doL (i := 12) rfl (by kernel_rfl) (fun K hK => ?_)
   go_simp
   (go_at_call 79; refine (HF3.out _ (Below.refl _ _)).mono ?_; rintro e W4 ⟨rfl, b4⟩; have B4 := hide (B3.out.trans (b4.mono B3.out.size)); have p0 := (b4.cell (p := ⟨w.heap.size, 0, none⟩) (Nat.lt_of_lt_of_le hp0 B3.out.size)).trans p0; have t0 := (b4.cell (p := ⟨b, 0, none⟩) (Nat.lt_of_lt_of_le hbl B3.out.size)).trans t0; have t1 := (b4.cell (p := ⟨b, 1, none⟩) (Nat.lt_of_lt_of_le hbl B3.out.size)).trans t1; have t2 := (b4.cell (p := ⟨b, 2, none⟩) (Nat.lt_of_lt_of_le hbl B3.out.size)).trans t2; have t3 := (b4.cell (p := ⟨b, 3, none⟩) (Nat.lt_of_lt_of_le hbl B3.out.size)).trans t3; have k0 := (b4.cell (p := ⟨sb, 0, none⟩) (Nat.lt_of_lt_of_le hsx B3.out.size)).trans k0; have k1 := (b4.cell (p := ⟨sb, 1, none⟩) (Nat.lt_of_lt_of_le hsx B3.out.size)).trans k1; clear b4)
   (try go_wp2_with fail)
   refine hK.out _ _ ?_ (fun hHeld2 => ?_)
   · (try dsimp only); (first | exact ⟨p0, t0, t1, t2, t3, k0, k1⟩ | go_keep)
   clear hK K hHeld
   have hHeld := hHeld2
   clear hHeld2
   try simp only [Act.put, List.setIfInBounds_toArray, List.set_cons_zero, List.set_cons_succ]
   refine takeL (i := 13) (v := ?v13n24) rfl (by kernel_rfl) (by kernel_rfl) (by kernel_rfl) (fun _ _ _ h => h) (by kernel_rfl) (by assumption) ?y13n24 ?r13n24; case y13n24 => (intro w hSw; (try dsimp only at hSw); go_simp; try with_reducible rfl); (try simp only [Act.put, List.setIfInBounds_toArray, List.set_cons_zero, List.set_cons_succ])
   refine wpAnyH_done (by kernel_rfl) ?_ _
   clear hHeld p0 t0 t1 t2 t3 k0 k1 HVF HF3 BX B3
   have HX4 := hide (HFX.out _ B4.out)
   gi_wp2
   refine ⟨HX4.out.1, HX4.out.2.1, fun x hx => ?_, HX4.out.2.2⟩
   rcases List.mem_append.1 hx with h1 | h1
   ·exact HOK.out x h1
   ·obtain rfl := List.mem_singleton.1 h1
    exact HR.out.symm
 case stop =>
  rintro D c pre W8 hD hpre ⟨⟨⟨rfl, x, hxm, hxf⟩, hb8⟩, hr8⟩ hD8
  have HFA : Hid (allFits gs h (startsF gs h) = false) := allFits_no hpre hxm hxf
  have HDD := hide hD8
  have HB8 := hide hb8
  have HR8 : Hid (Rec (W8.putObj D (.deferred none)) (w.heap.size + 1) 4 [.bool false]) := (World.putObj_heap_other (by omega)).trans hr8
  clear hpre hxm hxf hb8 hr8 hD8 x pre
  refine wpIn_wide.2 ?_
  go_wp2_with fail
  refine ⟨by simp, .inl ⟨_, _, rfl, run_takeDeferred HDD.out, ?_⟩⟩
  have c0 := HR8.out.cell (o := 0) rfl
  refine ⟨.bool false, ?_, ret_bool HFA.out.symm, below_put (Nat.le_refl _) (by omega) HB8.out HDD.out⟩
  simp [results, Tryz.f55, go_sem, c0]
 case done =>
  rintro D xs W8 hD hxs ⟨hall, hb8⟩ hD8
  have HFA : Hid (allFits gs h (startsF gs h) = true) := allFits_yes hxs hall
  have hr8 := HR1.out.below hb8 (by omega)
  have HDD := hide hD8
  have HB8 := hide (B1.out.trans (hb8.mono B1.out.size))
  have HR8 := hide hr8
  have r0 := hr8.cell (o := 0) rfl
  have hfr := hr8.frozen 0
  have hDz := (Array.getElem?_eq_some_iff.1 hD8).1
  clear hxs hall hb8 hr8 hD8 xs
  go_wp2_with fail
  have HD2 : (W8.setCell ⟨w.heap.size + 1, 0, none⟩ (.bool true)).heap[D]? = some (.deferred (some [])) := (Below.heap_setCell _ _ _ _ (by show D ≠ w.heap.size + 1; omega)).trans HDD.out
  refine ⟨by simp, .inl ⟨_, _, rfl, run_takeDeferred HD2, ?_⟩⟩
  have c0 : ((W8.setCell ⟨w.heap.size + 1, 0, none⟩ (.bool true)).putObj D (.deferred none)).cell? ⟨w.heap.size + 1, 0, none⟩ = some (.bool true) := Rec.cell (T := 4) (vs := [.bool true]) (o := 0) ((World.putObj_heap_other (by omega)).trans (HR8.out.set 0 (.bool true))) rfl
  refine ⟨.bool true, ?_, ret_bool HFA.out.symm, below_put (Nat.le_refl _) (by omega) (HB8.out.setCell (p := ⟨w.heap.size + 1, 0, none⟩) (Nat.le_succ _) _) HD2⟩
  simp [results, Tryz.f55, go_sem, c0]
end Go.Proofs.YtembifoimiochaaGreatDoor
