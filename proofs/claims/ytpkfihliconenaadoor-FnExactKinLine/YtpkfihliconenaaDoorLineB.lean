/- KinLine of the program. -/
import Derived.Test.YtpkfihliconenaaDoorLineA
import Derived.Test.YtpkfihliconenaaDoorLineG
import Derived.Test.YtpkfihliconenaaDoorWideRound
import Derived.Test.YtpkfihliconenaaDoorKinH
import Derived.Shelf.Slices.Cells
namespace Go.Proofs.YtpkfihliconenaaDoor
open Go.ChangeShapes Go.WideShapes Go.ChangeAt Go.RowKit Go.Shelf
set_option linter.unusedVariables false
set_option linter.unusedSimpArgs false
attribute [local go_sem] Oper.semAt_some

/-- A list of numbers of its own, or none. -/
def LineAt (w : World) (base : Nat) (a : Option Addr) (cap : Nat) (xs : List Int) : Prop := w.ownsRow base 3 1 (.slice a xs.length cap) xs.length (ints xs)

theorem no_letsOut {Kp : World → World → Prop} {α : Type} {I : List α → World → Prop} {Ix : Code → List α → World → Prop} {pre : List α} {W : World} : ¬ LetsOut (ownPostK Kp I Ix pre W) := by
  rintro ⟨a, w, h⟩
  exact h

theorem row_kept {A B : World} {row : Option Nat} {base e size n : Nat} {v : Value} {xs : List Value} (h : A.ownsRow base e size v n xs) (hg : A.grownBy B row) (hr : ∀ r, row = some r → ∃ o : Obj, A.heap[r]? = some o ∧ o.isCells = false) : B.ownsRow base e size v n xs := by
  refine h.kept hg ?_
  rcases h.2 with ⟨rfl, _⟩ | ⟨g, cap, cur, rfl, _, hc, _⟩
  · exact .inl rfl
  · refine .inr fun e => ?_
    obtain ⟨o, ho, hf⟩ := hr g e.symm
    rw [hc] at ho
    cases ho
    cases hf
theorem no_letsOut_block {Q : Exit → Act → World → Prop} {id : Nat} (h : ¬ LetsOut Q) : ¬ LetsOut (Exit.inBlock id Q) := by
  rintro ⟨a, w, hq⟩
  exact h ⟨a, w, hq⟩

theorem row_cells {A : World} {base e size n j : Nat} {v : Value} {xs : List Value} {o : Obj} (h : A.ownsRow base e size v n xs) (hj : v.ownBlock = some j) (ho : A.heap[j]? = some o) : o.isCells = true := by
  rcases h.2 with ⟨rfl, _⟩ | ⟨g, cap, cur, rfl, _, hc, _⟩
  · cases hj
  · cases hj
    rw [hc] at ho
    cases ho
    rfl
theorem owns_set {A : World} {base e size n b o : Nat} {v u : Value} {xs : List Value} (h : A.ownsRow base e size v n xs) (hb : b < base) : (A.setCell ⟨b, o, none⟩ u).ownsRow base e size v n xs := by
  refine ⟨h.1, ?_⟩
  rcases h.2 with ⟨e1, h2⟩ | ⟨g, cap, cur, e1, h3, hc, h4⟩
  · exact .inl ⟨e1, h2⟩
  · exact .inr ⟨g, cap, cur, e1, h3, (Below.heap_setCell _ _ _ _ (by show g ≠ b; omega)).trans hc, h4⟩
theorem frozen_same {A B : World} {b o : Nat} (h : B.heap[b]? = A.heap[b]?) : B.frozen? ⟨b, o, none⟩ = A.frozen? ⟨b, o, none⟩ := by simp [World.frozen?, h]

shelf_lay Lays.n112 Nm 112 at Tryd as Tryd.lays112
/-- A list of numbers in a block of its own. -/
def LineIn (w : World) (lo : Nat) (a : Option Addr) (xs : List Int) : Prop := xs = [] ∨ ∃ g m, a = some ⟨g, 0, none⟩ ∧ lo ≤ g ∧ g < w.heap.size ∧ Own w g m 3 ∧ xs.length ≤ m ∧ ∀ i, i < xs.length → w.cell? ⟨g, i, none⟩ = some (.int .i64 (xs.getD i 0))
theorem own_setCells {g m T : Nat} : ∀ (vs : List Value) (o : Nat) (w : World), Own w g m T → Own (w.setCells g o vs) g m T
  | [], _, _, h => h
  | v :: r, o, w, h => own_setCells r (o + 1) _ (h.set _ _ _)
theorem below_setCellsL {B g : Nat} {a : World} (hg : B ≤ g) : ∀ (vs : List Value) (o : Nat) (w : World), Below B a w → Below B a (w.setCells g o vs)
  | [], _, _, h => h
  | v :: r, o, w, h => below_setCellsL hg r (o + 1) _ (h.setCell (p := ⟨g, o, none⟩) hg _)
theorem size_setCellsL {g : Nat} : ∀ (vs : List Value) (o : Nat) (w : World), (w.setCells g o vs).heap.size = w.heap.size
  | [], _, _ => rfl
  | v :: r, o, w => (size_setCellsL r (o + 1) _).trans (by simp)

theorem other_setCells {g k : Nat} (hne : k ≠ g) : ∀ (vs : List Value) (o : Nat) (w : World), (w.setCells g o vs).heap[k]? = w.heap[k]?
  | [], _, _ => rfl
  | v :: r, o, w => (other_setCells hne r (o + 1) _).trans (Below.heap_setCell _ _ _ _ hne)
theorem after_rev {W w5 : World} {g cap q n : Nat} {zs : List Int} (hw : w5 = (W.drewN q).setCells g 0 ((zs.take n).reverse.map (Value.int .i64))) (hn : n = zs.length) (ho : Own W g cap 3) (hl : zs.length ≤ cap) :
    (∀ i, i < zs.length → w5.cell? ⟨g, i, none⟩ = some (.int .i64 (zs.reverse.getD i 0))) ∧ Own w5 g cap 3 ∧ w5.heap.size = W.heap.size ∧ (∀ B, B ≤ g → Below B W w5) ∧ (∀ k, k < W.heap.size → k ≠ g → w5.heap[k]? = W.heap[k]?) := by
  subst hn
  rw [List.take_length] at hw
  subst hw
  refine ⟨fun i hi => ?_, own_setCells _ _ _ ho, size_setCellsL _ _ _, fun B hB => below_setCellsL hB _ _ _ (below_drewN (Below.refl _ _) _), fun k hk hne => other_setCells hne _ _ _⟩
  have h := World.cell?_setCells_in g (zs.reverse.map (Value.int .i64)) 0 (W.drewN q) (fun j hj => by
    obtain ⟨v, hv⟩ := ho.cell (o := 0 + j) (by simp at hj; omega)
    show ((W.cell? ⟨g, 0 + j, none⟩).isSome) = true
    rw [hv]; rfl) i (by simpa using hi)
  rw [Nat.zero_add] at h
  rw [h]
  simp [List.getD, hi]

set_option maxRecDepth 100000 in
set_option maxHeartbeats 4000000 in
theorem line_walk (ga : Option Addr) (gc gl rn : Nat) (U : Nat → Int) (C : Nat → Nat) (p : Nat) (w : World)
    (hT : Calls Tryd.prog 34 #[.slice ga gl gc] w fun e w' => ∃ rb ro rc cb cc, e = .returned (.tuple #[.agg #[.slice (some ⟨rb, ro, none⟩) rn rc, .slice (some ⟨cb, 0, none⟩) rn cc], .bool true]) ∧ UpsAt w' w'.heap.size rb ro rn U ∧ cb < w'.heap.size ∧ (∀ i, i < rn → w'.cell? ⟨cb, 0 + i, none⟩ = some (.int .i64 (C i : Nat))) ∧ Below w.heap.size w w')
    (hI : ∀ ra ca rc cc W, Calls Tryd.prog 43 #[.agg #[.slice ra rn rc, .slice ca rn cc], .int .i64 (p : Int)] W fun e W' => e = .returned (.bool true) ∧ Below W.heap.size W W')
    (hrn : rn ≤ 8) (hp : p < rn) (hU : ∀ i, i < rn → -1 ≤ U i ∧ U i < (i : Int)) :
    CallsIn Fence.wide 4 Tryd.prog 21 #[.slice ga gl gc, .int .i64 (p : Int)] w fun e W' => ∃ a cap, e = .returned (.slice a (upL U rn (rn + 1) p).length cap) ∧ LineIn W' w.heap.size a ((upL U rn (rn + 1) p).map fun x => (C x.val : Int)).reverse ∧ Below w.heap.size w W' := by
  have hmo : Tryd.prog.follows .mixedOrders = true := by kernel_rfl
  have HU := hide hU
  have HT := hide hT
  have HI := hide hI
  clear hU hT hI
  obtain ⟨F, hF⟩ : ∃ F, F = Fence.wide := ⟨_, rfl⟩
  rw [← hF]
  have HF := hide hF
  have hf0 : F.fn 34 := by rw [hF]; trivial
  have hf1 : F.fn 43 := by rw [hF]; trivial
  have hf2 : F.fn 45 := by rw [hF]; trivial
  have hf3 : F.fn 64 := by rw [hF]; trivial
  have hf4 : F.fn 46 := by rw [hF]; trivial
  have hro : F.round = none := by rw [hF]; rfl
  have HCT : ∀ n f args w R, Calls Tryd.prog f args w R → CallsIn F n Tryd.prog f args w R := fun n f args w R h => by rw [HF.out]; exact callsIn_wide.2 h
  have HCI := hide HCT
  clear hF HCT
  refine callsIn_of_wp_marks Tryd.func21 rfl (by rw [HF.out]; trivial) ?_ hro
  simp only [Tryd.ntmps21, List.size_toArray, List.length_cons, List.length_nil, Nat.reduceAdd, Nat.reduceSub, Array.replicate_succ, Array.replicate_zero, List.push_toArray, List.append_toArray, List.nil_append, List.cons_append]
  gi_wp2_with (first | (gi_at_call 34; refine (HCI.out _ _ _ _ _ HT.out).mono ?_; rintro e W1 ⟨rb, ro, rc, cb, cc, rfl, hL, hcb, hC, hb1⟩; have HC := hide hC; have HL := hide hL; have B1 := hide hb1; have s1 := hb1.size; clear hL hC hb1) | (gi_at_call 43; refine (HCI.out _ _ _ _ _ (HI.out _ _ _ _ _)).mono ?_; rintro e w2 ⟨rfl, hb2⟩; have R2 := (Rec.new W1 54 [.slice (some ⟨rb, ro, none⟩) rn rc, .slice (some ⟨cb, 0, none⟩) rn cc]).below hb2 (by simp); have t0 := R2.cell (o := 0) rfl; have t1 := R2.cell (o := 1) rfl; have lt2 : W1.heap.size < w2.heap.size := R2.lt) | (gi_at_call 45; refine (upward_in F _ hf2 hro _ _ _ _ _ _ _ _).mono ?_; rintro e w' ⟨rfl, rfl⟩))
  obtain ⟨W0, hW0⟩ : ∃ W0, W0 = (((w2.alloc (.cells #[.slice none 0 0] 33)).alloc (.cells #[.slice (some ⟨rb, ro, none⟩) rn rc, .slice (some ⟨cb, 0, none⟩) rn cc] 54)).alloc (.cells #[.int .i64 (p : Int)] 3)) := ⟨_, rfl⟩
  have b12 : Below W1.heap.size W1 w2 := ((Below.refl _ W1).alloc (Nat.le_refl _) _).trans (hb2.mono (by simp))
  have B0 : Below w2.heap.size w2 W0 := by
    rw [hW0]
    refine (((Below.refl _ w2).alloc (Nat.le_refl _) _).alloc ?_ _).alloc ?_ _ <;> simp <;> omega
  have hsz : W0.heap.size = w2.heap.size + 3 := by rw [hW0]; simp
  have r0 : Rec W0 w2.heap.size 33 [.slice none 0 0] := by rw [hW0]; exact ((Rec.new _ _ _).alloc _).alloc _
  have r1 : Rec W0 (w2.heap.size + 1) 54 [.slice (some ⟨rb, ro, none⟩) rn rc, .slice (some ⟨cb, 0, none⟩) rn cc] := by rw [hW0]; exact (Rec.new' _ _ _ _ (by simp)).alloc _
  have r2 : Rec W0 (w2.heap.size + 1 + 1) 3 [.int .i64 (p : Int)] := by rw [hW0]; exact Rec.new' _ _ _ _ (by simp)
  have k0 := r0.cell (o := 0) rfl
  have k1 := r0.frozen 0
  have k2 := r2.cell (o := 0) rfl
  have k3 := r1.cell (o := 0) rfl
  rw [← hW0]
  clear hW0 r0 r1 r2 hb2 R2
  have hUp : UpsAt W0 w2.heap.size rb ro rn U := by
    refine ⟨by have := HL.out.1; omega, fun i hi => ?_⟩
    rw [B0.cell (p := ⟨rb, ro + i * 6 + 1, none⟩) (by have := HL.out.1; simp; omega), b12.cell (p := ⟨rb, ro + i * 6 + 1, none⟩) HL.out.1]
    exact HL.out.2 i hi
  refine wpIn_rangeFunc_ownF hro (by omega) (gf := 64) (lb := #[.pointer (some ⟨w2.heap.size + 1 + 1, 0, none⟩), .pointer (some ⟨w2.heap.size + 1, 0, none⟩)]) rfl hf3 (enters_of Tryd.func64 (by kernel_rfl) rfl)
    (up_stops_k F (4 - 1) hf3 hro (by omega) (w2.heap.size + 1 + 1) (w2.heap.size + 1) w2.heap.size rb ro rn rc 0 0 none U (p : Int) ⟨by omega, by omega⟩ hrn HU.out W0 (by omega) (by omega) (by omega) k2 k3 hUp) KpL.trans (KpL.put (by omega) (by omega) (by omega)) (Below.refl _ _) (fun _ => rfl)
    (fun pre W => (∃ a cap, W.cell? ⟨w2.heap.size, 0, none⟩ = some (.slice a pre.length cap) ∧ W.frozen? ⟨w2.heap.size, 0, none⟩ = false ∧ W.ownsRow W0.heap.size 3 1 (.slice a pre.length cap) pre.length (ints (pre.map fun x => (C x.val : Int))) ∧ W0.heap.size ≤ W.heap.size) ∧ Below w2.heap.size w2 W)
    (fun c pre W => False)
    (OwnFrom.and (Own.from (fun s A B row hs hg hr => by obtain ⟨a, cap, h1, h2, h3, h4⟩ := hs; exact ⟨a, cap, cell_kept h1 hg hr, (frozen_kept h1 hg hr).trans h2, row_kept h3 hg hr, Nat.le_trans h4 hg.size⟩) _) (ownFrom_below (Nat.le_refl _) (by omega)))
    (fun c => Own.from (fun s A B row hs hg hr => hs) _)
    ⟨⟨none, 0, k0, k1, World.ownsRow_nil _ _ _ _, Nat.le_refl _⟩, B0⟩
    (fun x => { tmps := #[.slice ga gl gc, .int .i64 (p : Int), undef, undef, .slice none 0 0, .pointer (some ⟨W1.heap.size, 0, none⟩), .bool true, .pointer (some ⟨w2.heap.size, 0, none⟩), .int .i64 (x.val : Int), .tuple #[.agg #[.slice (some ⟨rb, ro, none⟩) rn rc, .slice (some ⟨cb, 0, none⟩) rn cc], .bool true], .slice ga gl gc, .tuple #[.agg #[.slice (some ⟨rb, ro, none⟩) rn rc, .slice (some ⟨cb, 0, none⟩) rn cc], .bool true], .agg #[.slice (some ⟨rb, ro, none⟩) rn rc, .slice (some ⟨cb, 0, none⟩) rn cc], .bool true, .bool true, .bool false, .bool false, .agg #[.slice (some ⟨rb, ro, none⟩) rn rc, .slice (some ⟨cb, 0, none⟩) rn cc], .int .i64 (p : Int), .bool true, .bool false, .bool false, .agg #[.slice (some ⟨rb, ro, none⟩) rn rc, .slice (some ⟨cb, 0, none⟩) rn cc], .int .i64 (p : Int), .func (.func 64) #[] #[.pointer (some ⟨w2.heap.size + 1 + 1, 0, none⟩), .pointer (some ⟨w2.heap.size + 1, 0, none⟩)], .int .i64 (x.val : Int), undef, undef, undef, undef, undef, undef, undef, undef, undef, undef, undef], defers := [] }) ?assign ?body ?done ?stop
  case assign =>
    intro l x W K hK
    gi_wp2
    exact hK
  case body =>
    rintro l pre x W ⟨⟨a, cap, g1, g2, g3, g4⟩, hB⟩ hlen
    have z1 : W.cell? ⟨W1.heap.size, 1, none⟩ = some (.slice (some ⟨cb, 0, none⟩) rn cc) := by rw [hB.cell (p := ⟨W1.heap.size, 1, none⟩) (by simp; omega)]; exact t1
    have z2 : W.cell? ⟨cb, x.val, none⟩ = some (.int .i64 (C x.val : Nat)) := by
      rw [hB.cell (p := ⟨cb, x.val, none⟩) (by simp; omega), b12.cell (p := ⟨cb, x.val, none⟩) hcb]
      have := HC.out _ x.isLt
      rwa [Nat.zero_add] at this
    have wlt : w2.heap.size < W.heap.size := by omega
    have x1 : (0 : Int) ≤ (x.val : Int) := by omega
    have x2 : (x.val : Int) < (rn : Int) := by have := x.isLt; omega
    have HB := hide hB
    have HG := hide g3
    clear hB g3
    gi_wp2
    rw [HF.out]
    refine wpIn_region_any hmo (any_wide (no_letsOut_block no_letsOut) (by simp) _ _ _ _ ?_)
    obtain ⟨i0, hi0, hzz⟩ := Option.map_eq_some_iff.1 Tryd.infoInt
    simp only [Prod.mk.injEq] at hzz
    obtain ⟨hz0, hs0, hb0⟩ := hzz
    have HZ := hide hz0
    have HS := hide hs0
    have HBy := hide hb0
    have HI0 := hide hi0
    clear hz0 hs0 hb0 hi0
    have hl9 : pre.length ≤ 9 := by have := upL_len U rn (rn + 1) (p : Int); omega
    clear hlen
    refine wpAny_take (i := 1) (v := .pointer (some ⟨W1.heap.size, 1, none⟩)) rfl (by kernel_rfl) (by kernel_rfl) (by kernel_rfl) (fun _ _ _ h => h) (Or.inl ⟨by rfl, fun w' => by go_simp⟩) ?_
    refine wpAny_take (i := 3) (v := .int .i64 (x.val : Int)) rfl (by kernel_rfl) (by kernel_rfl) (by kernel_rfl) (fun _ _ _ h => h) (Or.inl ⟨by rfl, fun w' => by go_simp⟩) ?_
    refine wpAny_ready (rs := [0, 2]) (by kernel_rfl) (by simp) (AllReady.cons rfl (fun K hK => ?_) (AllReady.cons rfl (fun K hK => ?_) AllReady.nil))
    · have HK := hide hK
      clear hK
      go_simp
      refine HK.out _ _ ?_
      clear HK K
      refine wpAny_ready (rs := [2]) (by kernel_rfl) (by simp) (AllReady.cons rfl (fun K hK => ?_) AllReady.nil)
      have HK := hide hK
      clear hK
      go_simp
      refine HK.out _ _ ?_
      clear HK K
      refine wpAny_take (i := 4) (v := .pointer (some ⟨cb, x.val, none⟩)) rfl (by kernel_rfl) (by kernel_rfl) (by kernel_rfl) (fun _ _ _ h => h) (Or.inl ⟨by rfl, fun w' => by go_simp⟩) ?_
      refine wpAny_ready (rs := [5]) (by kernel_rfl) (by simp) (AllReady.cons rfl (fun K hK => ?_) AllReady.nil)
      have HK := hide hK
      clear hK
      go_simp
      refine HK.out _ _ ?_
      clear HK K
      refine wpAny_ready (rs := [6]) (by kernel_rfl) (by simp) (AllReady.cons rfl (fun K hK => ?_) AllReady.nil)
      have HK := hide hK
      clear hK
      go_simp
      refine HK.out _ _ ?_
      clear HK K
      refine wpAny_ready (rs := [7]) (by kernel_rfl) (by simp) (AllReady.cons rfl (fun K hK => ?_) AllReady.nil)
      have HK := hide hK
      clear hK
      refine step_append_lies _ rfl _ _ 33 rfl W0.heap.size 3 i0 _ 1 8 Tryd.underlying33 HI0.out HZ.out HS.out HBy.out rfl (by decide) _ pre.length (ints (pre.map fun x => (C x.val : Int))) rfl (World.ownsRow.drew (World.ownsRow.alloc HG.out _)) ⟨W.heap.size, 0, none⟩ 1 1 [.int .i64 (C x.val : Nat)] rfl rfl (World.news_of_block (Deep.blk_alloc_new _ _)) (by intro u hu; simp at hu; subst hu; rfl) (by decide) (by unfold maxLen; omega) (by omega) (by simp; omega) _ rfl ?_
      intro g5 cap5 w3 hown hgr hat hlt3
      refine HK.out _ _ ?_
      clear HK K
      have HB3 : Hid (Below W0.heap.size W w3) := ((Below.refl W0.heap.size W).alloc g4 _).drew.grown hgr (by simp; omega) (owns_base HG.out)
      have l1 : w3.cell? ⟨w2.heap.size, 0, none⟩ = some (.slice a pre.length cap) := (HB3.out.cell (p := ⟨w2.heap.size, 0, none⟩) (by simp; omega)).trans g1
      have l2 : w3.frozen? ⟨w2.heap.size, 0, none⟩ = false := (frozen_same (HB3.out.block w2.heap.size (by omega))).trans g2
      have HO := hide hown
      have HGr := hide hgr
      clear hown hgr hat
      refine wpAny_ready (rs := [8]) (by kernel_rfl) (by simp) (AllReady.cons rfl (fun K hK => ?_) AllReady.nil)
      have HK := hide hK
      clear hK
      go_simp
      refine HK.out _ _ ?_
      clear HK K
      refine wpAny_done (by kernel_rfl) ?_ _
      have hko : KeepsOthers W w3 := (KeepsOthers.alloc W _).trans ((KeepsOthers.drew _).trans (KeepsOthers.of_grownBy HGr.out (fun j o hj ho => row_cells (World.ownsRow.drew (World.ownsRow.alloc HG.out _)) hj ho)))
      have hbk : Below w2.heap.size W (w3.setCell ⟨w2.heap.size, 0, none⟩ (.slice (some ⟨g5, 0, none⟩) (pre.length + 1) cap5)) := (HB3.out.mono (show w2.heap.size ≤ W0.heap.size by omega)).setCell (p := ⟨w2.heap.size, 0, none⟩) (Nat.le_refl _) _
      refine ⟨hko.trans (KeepsOthers.setCell _ _ _), ⟨hbk, (Below.heap_setCell _ _ _ _ (by show _ ≠ w2.heap.size; omega)).trans (HB3.out.block _ (by omega)), (Below.heap_setCell _ _ _ _ (by show _ ≠ w2.heap.size; omega)).trans (HB3.out.block _ (by omega))⟩, ⟨some ⟨g5, 0, none⟩, cap5, ?_, ?_, ?_, ?_⟩, HB.out.trans (hbk.mono (by omega))⟩
      · rw [List.length_append]; exact World.cell?_setCell_same' _ _ _ (by rw [l1]; rfl)
      · first | exact (World.frozen?_setCell _ _ _ _).trans l2 | (simp; exact l2)
      · rw [List.length_append, List.map_append]; have := owns_set (u := .slice (some ⟨g5, 0, none⟩) (pre.length + 1) cap5) (o := 0) HO.out (show w2.heap.size < W0.heap.size by omega); simpa [ints] using this
      · have := HB3.out.size; simp; omega
    · have HK := hide hK
      clear hK
      go_simp
      refine HK.out _ _ ?_
      clear HK K
      refine wpAny_take (i := 4) (v := .pointer (some ⟨cb, x.val, none⟩)) rfl (by kernel_rfl) (by kernel_rfl) (by kernel_rfl) (fun _ _ _ h => h) (Or.inl ⟨by rfl, fun w' => by go_simp⟩) ?_
      refine wpAny_ready (rs := [0, 5]) (by kernel_rfl) (by simp) (AllReady.cons rfl (fun K hK => ?_) (AllReady.cons rfl (fun K hK => ?_) AllReady.nil))
      · have HK := hide hK
        clear hK
        go_simp
        refine HK.out _ _ ?_
        clear HK K
        refine wpAny_ready (rs := [5]) (by kernel_rfl) (by simp) (AllReady.cons rfl (fun K hK => ?_) AllReady.nil)
        have HK := hide hK
        clear hK
        go_simp
        refine HK.out _ _ ?_
        clear HK K
        refine wpAny_ready (rs := [6]) (by kernel_rfl) (by simp) (AllReady.cons rfl (fun K hK => ?_) AllReady.nil)
        have HK := hide hK
        clear hK
        go_simp
        refine HK.out _ _ ?_
        clear HK K
        refine wpAny_ready (rs := [7]) (by kernel_rfl) (by simp) (AllReady.cons rfl (fun K hK => ?_) AllReady.nil)
        have HK := hide hK
        clear hK
        refine step_append_lies _ rfl _ _ 33 rfl W0.heap.size 3 i0 _ 1 8 Tryd.underlying33 HI0.out HZ.out HS.out HBy.out rfl (by decide) _ pre.length (ints (pre.map fun x => (C x.val : Int))) rfl (World.ownsRow.drew (World.ownsRow.alloc HG.out _)) ⟨W.heap.size, 0, none⟩ 1 1 [.int .i64 (C x.val : Nat)] rfl rfl (World.news_of_block (Deep.blk_alloc_new _ _)) (by intro u hu; simp at hu; subst hu; rfl) (by decide) (by unfold maxLen; omega) (by omega) (by simp; omega) _ rfl ?_
        intro g5 cap5 w3 hown hgr hat hlt3
        refine HK.out _ _ ?_
        clear HK K
        have HB3 : Hid (Below W0.heap.size W w3) := ((Below.refl W0.heap.size W).alloc g4 _).drew.grown hgr (by simp; omega) (owns_base HG.out)
        have l1 : w3.cell? ⟨w2.heap.size, 0, none⟩ = some (.slice a pre.length cap) := (HB3.out.cell (p := ⟨w2.heap.size, 0, none⟩) (by simp; omega)).trans g1
        have l2 : w3.frozen? ⟨w2.heap.size, 0, none⟩ = false := (frozen_same (HB3.out.block w2.heap.size (by omega))).trans g2
        have HO := hide hown
        have HGr := hide hgr
        clear hown hgr hat
        refine wpAny_ready (rs := [8]) (by kernel_rfl) (by simp) (AllReady.cons rfl (fun K hK => ?_) AllReady.nil)
        have HK := hide hK
        clear hK
        go_simp
        refine HK.out _ _ ?_
        clear HK K
        refine wpAny_done (by kernel_rfl) ?_ _
        have hko : KeepsOthers W w3 := (KeepsOthers.alloc W _).trans ((KeepsOthers.drew _).trans (KeepsOthers.of_grownBy HGr.out (fun j o hj ho => row_cells (World.ownsRow.drew (World.ownsRow.alloc HG.out _)) hj ho)))
        have hbk : Below w2.heap.size W (w3.setCell ⟨w2.heap.size, 0, none⟩ (.slice (some ⟨g5, 0, none⟩) (pre.length + 1) cap5)) := (HB3.out.mono (show w2.heap.size ≤ W0.heap.size by omega)).setCell (p := ⟨w2.heap.size, 0, none⟩) (Nat.le_refl _) _
        refine ⟨hko.trans (KeepsOthers.setCell _ _ _), ⟨hbk, (Below.heap_setCell _ _ _ _ (by show _ ≠ w2.heap.size; omega)).trans (HB3.out.block _ (by omega)), (Below.heap_setCell _ _ _ _ (by show _ ≠ w2.heap.size; omega)).trans (HB3.out.block _ (by omega))⟩, ⟨some ⟨g5, 0, none⟩, cap5, ?_, ?_, ?_, ?_⟩, HB.out.trans (hbk.mono (by omega))⟩
        · rw [List.length_append]; exact World.cell?_setCell_same' _ _ _ (by rw [l1]; rfl)
        · first | exact (World.frozen?_setCell _ _ _ _).trans l2 | (simp; exact l2)
        · rw [List.length_append, List.map_append]; have := owns_set (u := .slice (some ⟨g5, 0, none⟩) (pre.length + 1) cap5) (o := 0) HO.out (show w2.heap.size < W0.heap.size by omega); simpa [ints] using this
        · have := HB3.out.size; simp; omega
      · have HK := hide hK
        clear hK
        go_simp
        refine HK.out _ _ ?_
        clear HK K
        refine wpAny_ready (rs := [0, 6]) (by kernel_rfl) (by simp) (AllReady.cons rfl (fun K hK => ?_) (AllReady.cons rfl (fun K hK => ?_) AllReady.nil))
        · have HK := hide hK
          clear hK
          go_simp
          refine HK.out _ _ ?_
          clear HK K
          refine wpAny_ready (rs := [6]) (by kernel_rfl) (by simp) (AllReady.cons rfl (fun K hK => ?_) AllReady.nil)
          have HK := hide hK
          clear hK
          go_simp
          refine HK.out _ _ ?_
          clear HK K
          refine wpAny_ready (rs := [7]) (by kernel_rfl) (by simp) (AllReady.cons rfl (fun K hK => ?_) AllReady.nil)
          have HK := hide hK
          clear hK
          refine step_append_lies _ rfl _ _ 33 rfl W0.heap.size 3 i0 _ 1 8 Tryd.underlying33 HI0.out HZ.out HS.out HBy.out rfl (by decide) _ pre.length (ints (pre.map fun x => (C x.val : Int))) rfl (World.ownsRow.drew (World.ownsRow.alloc HG.out _)) ⟨W.heap.size, 0, none⟩ 1 1 [.int .i64 (C x.val : Nat)] rfl rfl (World.news_of_block (Deep.blk_alloc_new _ _)) (by intro u hu; simp at hu; subst hu; rfl) (by decide) (by unfold maxLen; omega) (by omega) (by simp; omega) _ rfl ?_
          intro g5 cap5 w3 hown hgr hat hlt3
          refine HK.out _ _ ?_
          clear HK K
          have HB3 : Hid (Below W0.heap.size W w3) := ((Below.refl W0.heap.size W).alloc g4 _).drew.grown hgr (by simp; omega) (owns_base HG.out)
          have l1 : w3.cell? ⟨w2.heap.size, 0, none⟩ = some (.slice a pre.length cap) := (HB3.out.cell (p := ⟨w2.heap.size, 0, none⟩) (by simp; omega)).trans g1
          have l2 : w3.frozen? ⟨w2.heap.size, 0, none⟩ = false := (frozen_same (HB3.out.block w2.heap.size (by omega))).trans g2
          have HO := hide hown
          have HGr := hide hgr
          clear hown hgr hat
          refine wpAny_ready (rs := [8]) (by kernel_rfl) (by simp) (AllReady.cons rfl (fun K hK => ?_) AllReady.nil)
          have HK := hide hK
          clear hK
          go_simp
          refine HK.out _ _ ?_
          clear HK K
          refine wpAny_done (by kernel_rfl) ?_ _
          have hko : KeepsOthers W w3 := (KeepsOthers.alloc W _).trans ((KeepsOthers.drew _).trans (KeepsOthers.of_grownBy HGr.out (fun j o hj ho => row_cells (World.ownsRow.drew (World.ownsRow.alloc HG.out _)) hj ho)))
          have hbk : Below w2.heap.size W (w3.setCell ⟨w2.heap.size, 0, none⟩ (.slice (some ⟨g5, 0, none⟩) (pre.length + 1) cap5)) := (HB3.out.mono (show w2.heap.size ≤ W0.heap.size by omega)).setCell (p := ⟨w2.heap.size, 0, none⟩) (Nat.le_refl _) _
          refine ⟨hko.trans (KeepsOthers.setCell _ _ _), ⟨hbk, (Below.heap_setCell _ _ _ _ (by show _ ≠ w2.heap.size; omega)).trans (HB3.out.block _ (by omega)), (Below.heap_setCell _ _ _ _ (by show _ ≠ w2.heap.size; omega)).trans (HB3.out.block _ (by omega))⟩, ⟨some ⟨g5, 0, none⟩, cap5, ?_, ?_, ?_, ?_⟩, HB.out.trans (hbk.mono (by omega))⟩
          · rw [List.length_append]; exact World.cell?_setCell_same' _ _ _ (by rw [l1]; rfl)
          · first | exact (World.frozen?_setCell _ _ _ _).trans l2 | (simp; exact l2)
          · rw [List.length_append, List.map_append]; have := owns_set (u := .slice (some ⟨g5, 0, none⟩) (pre.length + 1) cap5) (o := 0) HO.out (show w2.heap.size < W0.heap.size by omega); simpa [ints] using this
          · have := HB3.out.size; simp; omega
        · have HK := hide hK
          clear hK
          go_simp
          refine HK.out _ _ ?_
          clear HK K
          refine wpAny_ready (rs := [0]) (by kernel_rfl) (by simp) (AllReady.cons rfl (fun K hK => ?_) AllReady.nil)
          have HK := hide hK
          clear hK
          go_simp
          refine HK.out _ _ ?_
          clear HK K
          refine wpAny_ready (rs := [7]) (by kernel_rfl) (by simp) (AllReady.cons rfl (fun K hK => ?_) AllReady.nil)
          have HK := hide hK
          clear hK
          refine step_append_lies _ rfl _ _ 33 rfl W0.heap.size 3 i0 _ 1 8 Tryd.underlying33 HI0.out HZ.out HS.out HBy.out rfl (by decide) _ pre.length (ints (pre.map fun x => (C x.val : Int))) rfl (World.ownsRow.drew (World.ownsRow.alloc HG.out _)) ⟨W.heap.size, 0, none⟩ 1 1 [.int .i64 (C x.val : Nat)] rfl rfl (World.news_of_block (Deep.blk_alloc_new _ _)) (by intro u hu; simp at hu; subst hu; rfl) (by decide) (by unfold maxLen; omega) (by omega) (by simp; omega) _ rfl ?_
          intro g5 cap5 w3 hown hgr hat hlt3
          refine HK.out _ _ ?_
          clear HK K
          have HB3 : Hid (Below W0.heap.size W w3) := ((Below.refl W0.heap.size W).alloc g4 _).drew.grown hgr (by simp; omega) (owns_base HG.out)
          have l1 : w3.cell? ⟨w2.heap.size, 0, none⟩ = some (.slice a pre.length cap) := (HB3.out.cell (p := ⟨w2.heap.size, 0, none⟩) (by simp; omega)).trans g1
          have l2 : w3.frozen? ⟨w2.heap.size, 0, none⟩ = false := (frozen_same (HB3.out.block w2.heap.size (by omega))).trans g2
          have HO := hide hown
          have HGr := hide hgr
          clear hown hgr hat
          refine wpAny_ready (rs := [8]) (by kernel_rfl) (by simp) (AllReady.cons rfl (fun K hK => ?_) AllReady.nil)
          have HK := hide hK
          clear hK
          go_simp
          refine HK.out _ _ ?_
          clear HK K
          refine wpAny_done (by kernel_rfl) ?_ _
          have hko : KeepsOthers W w3 := (KeepsOthers.alloc W _).trans ((KeepsOthers.drew _).trans (KeepsOthers.of_grownBy HGr.out (fun j o hj ho => row_cells (World.ownsRow.drew (World.ownsRow.alloc HG.out _)) hj ho)))
          have hbk : Below w2.heap.size W (w3.setCell ⟨w2.heap.size, 0, none⟩ (.slice (some ⟨g5, 0, none⟩) (pre.length + 1) cap5)) := (HB3.out.mono (show w2.heap.size ≤ W0.heap.size by omega)).setCell (p := ⟨w2.heap.size, 0, none⟩) (Nat.le_refl _) _
          refine ⟨hko.trans (KeepsOthers.setCell _ _ _), ⟨hbk, (Below.heap_setCell _ _ _ _ (by show _ ≠ w2.heap.size; omega)).trans (HB3.out.block _ (by omega)), (Below.heap_setCell _ _ _ _ (by show _ ≠ w2.heap.size; omega)).trans (HB3.out.block _ (by omega))⟩, ⟨some ⟨g5, 0, none⟩, cap5, ?_, ?_, ?_, ?_⟩, HB.out.trans (hbk.mono (by omega))⟩
          · rw [List.length_append]; exact World.cell?_setCell_same' _ _ _ (by rw [l1]; rfl)
          · first | exact (World.frozen?_setCell _ _ _ _).trans l2 | (simp; exact l2)
          · rw [List.length_append, List.map_append]; have := owns_set (u := .slice (some ⟨g5, 0, none⟩) (pre.length + 1) cap5) (o := 0) HO.out (show w2.heap.size < W0.heap.size by omega); simpa [ints] using this
          · have := HB3.out.size; simp; omega
  case done =>
    rintro D ys W hD rfl ⟨⟨a, cap, g1, g2, g3, g4⟩, hB⟩ hK
    obtain ⟨L, hLL⟩ : ∃ L, upL U rn (rn + 1) (p : Int) = L := ⟨_, rfl⟩
    have hpos : 0 < L.length := by rw [← hLL, upL_succ _ _ _ _ hp]; simp
    rw [hLL] at g1 g3
    have HLL := hide hLL
    have hl9 : L.length ≤ 9 := by have := upL_len U rn (rn + 1) (p : Int); rw [hLL] at this; omega
    clear hLL
    rcases g3.2 with ⟨_, h0⟩ | ⟨g, cap', cur, e, h1, h2, h3, h4, h5, h6⟩
    · omega
    cases e
    have hcell : ∀ j, j < (L.map fun x => (C x.val : Int)).length → W.cell? ⟨g, 0 + j, none⟩ = some (.int .i64 ((L.map fun x => (C x.val : Int)).getD j 0)) := fun j hj => by
      rw [Nat.zero_add, g3.cellAt j (by simpa using hj), ints_at]
      simp at hj
      simp [List.getD, hj]
    have hfz : ∀ j, j < L.length → W.frozen? ⟨g, 0 + j, none⟩ = false := fun j hj => g3.frozenAt _
    have HRv := hide (Any.slices_Reverse_int_cells Tryd.lays112 g 0 L.length cap (L.map fun x => (C x.val : Int)) W (by simp) (by omega) hcell hfz)
    have HCl := hide hcell
    have hne : g ≠ D := fun e => by rw [e, hK] at h2; cases h2
    have hOwn : Own W g cap 3 := ⟨cur, h2, by omega⟩
    have HOw := hide hOwn
    clear hcell hfz g3 h6 hOwn
    have hzl : (L.map fun x => (C x.val : Int)).length = L.length := by simp
    have hDlt : D < W.heap.size := (Array.getElem?_eq_some_iff.1 hK).1
    have glt : g < W.heap.size := HOw.out.lt
    gi_wp2_with (gi_at_call 46; refine (HCI.out _ _ _ _ _ HRv.out).mono ?_; rintro e w5 ⟨rfl, q, hw5⟩; have HA := hide (after_rev hw5 hzl.symm HOw.out (by omega)); clear hw5; have l5 : w5.cell? ⟨w2.heap.size, 0, none⟩ = some (.slice (some ⟨g, 0, none⟩) L.length cap) := (World.cell?_of_block (w := W) (HA.out.2.2.2.2 w2.heap.size (by omega) (by omega))).trans g1)
    obtain ⟨a1, a2, a3, a4, a5⟩ := HA.out
    have hK5 : w5.heap[D]? = some (.deferred (some [])) := (a5 D hDlt hne.symm).trans hK
    refine ⟨by simp, .inl ⟨_, _, rfl, run_takeDeferred hK5, ?_⟩⟩
    refine ⟨.slice (some ⟨g, 0, none⟩) L.length cap, ?_, ?_⟩
    · simp [results, Tryd.f21, go_sem]
    · have hbb : Below w.heap.size w (w5.putObj D (.deferred none)) := B1.out.trans (((b12.trans (hB.mono (by have := b12.size; omega))).trans ((a4 W1.heap.size (by omega)).trans (belowK_b (w := W0) (n₀ := W1.heap.size) (by omega) w5 D _ _ hD hK5 rfl rfl))).mono s1)
      refine ⟨some ⟨g, 0, none⟩, cap, ?_, .inr ⟨g, cap, rfl, by omega, by have := a2.lt; simpa [World.putObj] using this, a2.of_block (World.putObj_heap_other hne), by simp; rw [HLL.out]; omega, fun i hi => ?_⟩, hbb⟩
      · rw [HLL.out]
      · rw [World.cell?_of_block (w := w5) (World.putObj_heap_other hne)]
        rw [HLL.out] at hi ⊢
        exact a1 i (by simpa using hi)
  case stop =>
    rintro D c pre W hD hpre h hK
    cases h
end Go.Proofs.YtpkfihliconenaaDoor
