/- vals of the program: the values that are ranged over, in a row of their own. Written by tools/made/rootsk.py. -/
import Derived.Test.YtbalfmlmgbmneaaRootsJ
import Derived.Test.YtbalfmlmgbmneaaWideRound
import Derived.RangeFuncBox
import Derived.BigFrameIn
namespace Go.Proofs.Ytbalfmlmgbmneaa
open Go.ChangeShapes Go.WideShapes Go.ChangeAt Go.RowKit Go.Shelf Go.Deep
set_option linter.unusedVariables false
set_option linter.unusedSimpArgs false
attribute [local go_sem] Oper.semAt_some

theorem no_letsOut {Kp : World → World → Prop} {α : Type} {I : List α → World → Prop} {Ix : Code → List α → World → Prop} {pre : List α} {W : World} : ¬ LetsOut (ownPostK Kp I Ix pre W) := by
  rintro ⟨a, w, h⟩
  exact h
theorem row_kept {A B : World} {row : Option Nat} {base e size n : Nat} {v : Value} {xs : List Value} (h : A.ownsRow base e size v n xs) (hg : A.grownBy B row) (hr : ∀ r, row = some r → ∃ o : Obj, A.heap[r]? = some o ∧ o.isCells = false) : B.ownsRow base e size v n xs := by
  refine h.kept hg ?_
  rcases h.2 with ⟨rfl, _⟩ | ⟨g, cap, cur, rfl, _, hc, _⟩
  · exact .inl rfl
  · refine .inr fun e => ?_
    obtain ⟨o, ho, hf⟩ := hr g e.symm
    rw [hc] at ho
    cases ho
    cases hf
theorem no_letsOut_block {Q : Exit → Act → World → Prop} {id : Nat} (h : ¬ LetsOut Q) : ¬ LetsOut (Exit.inBlock id Q) := by
  rintro ⟨a, w, hq⟩
  exact h ⟨a, w, hq⟩
theorem row_cells {A : World} {base e size n j : Nat} {v : Value} {xs : List Value} {o : Obj} (h : A.ownsRow base e size v n xs) (hj : v.ownBlock = some j) (ho : A.heap[j]? = some o) : o.isCells = true := by
  rcases h.2 with ⟨rfl, _⟩ | ⟨g, cap, cur, rfl, _, hc, _⟩
  · cases hj
  · cases hj
    rw [hc] at ho
    cases ho
    rfl
theorem owns_set {A : World} {base e size n b o : Nat} {v u : Value} {xs : List Value} (h : A.ownsRow base e size v n xs) (hb : b < base) : (A.setCell ⟨b, o, none⟩ u).ownsRow base e size v n xs := by
  refine ⟨h.1, ?_⟩
  rcases h.2 with ⟨e1, h2⟩ | ⟨g, cap, cur, e1, h3, hc, h4⟩
  · exact .inl ⟨e1, h2⟩
  · exact .inr ⟨g, cap, cur, e1, h3, (Below.heap_setCell _ _ _ _ (by show g ≠ b; omega)).trans hc, h4⟩
theorem frozen_same {A B : World} {b o : Nat} (h : B.heap[b]? = A.heap[b]?) : B.frozen? ⟨b, o, none⟩ = A.frozen? ⟨b, o, none⟩ := by simp [World.frozen?, h]
theorem map_range {N : Nat} {ys : List (Fin N)} {vs : List GVal} (h : ys.map Fin.val = List.range N) (hv : vs.length = N) : ys.map (fun x => valAt' vs x.val) = vs := by
  have e : ys.map (fun x => valAt' vs x.val) = (ys.map Fin.val).map (valAt' vs) := by simp
  rw [e, h, ← hv]
  refine List.ext_getElem (by simp) fun i h1 h2 => ?_
  simp [valAt', h2]

set_option maxRecDepth 100000 in
set_option maxHeartbeats 4000000 in
theorem vals_walk (bb lb lc nl N : Nat) (L : Nat → Nat) (bo : Nat → Nat × Nat) (vs : List GVal) (w : World) (hv : vs.length = N) (hNb : N ≤ 4398046511104) (hN : cntTo L nl = N) (hnl : nl ≤ 1000000000000) (hL : ∀ i, i < nl → L i ≤ 1000000000000)
    (hBb : Rec w bb 74 [.slice (some ⟨lb, 0, none⟩) nl lc]) (hlb : lb < w.heap.size) (hH : HeadsAt w lb 0 nl L bo)
    (hP : ∀ k, k < N → (ptrAt L bo nl k).1 < w.heap.size ∧ w.cell? ⟨(ptrAt L bo nl k).1, (ptrAt L bo nl k).2, none⟩ = some (.int .i64 (valAt' vs k).kind) ∧ w.cell? ⟨(ptrAt L bo nl k).1, (ptrAt L bo nl k).2 + 1, none⟩ = some (.int .i64 (valAt' vs k).n)) :
    CallsIn Fence.wide 4 Try.prog 23 #[.func (.func 36) #[] #[.pointer (some ⟨bb, 0, none⟩)]] w fun e W' => ∃ a cap, e = .returned (.slice a vs.length cap) ∧ ValRow W' w.heap.size a cap vs ∧ Below w.heap.size w W' := by
  have hmo : Try.prog.follows .mixedOrders = true := by kernel_rfl
  have HP := hide hP
  have HL := hide hL
  have HV := hide hv
  clear hP hL hv
  obtain ⟨F, hF⟩ : ∃ F, F = Fence.wide := ⟨_, rfl⟩
  rw [← hF]
  have HF := hide hF
  have hf3 : F.fn 36 := by rw [hF]; trivial
  have hro : F.round = none := by rw [hF]; rfl
  clear hF
  refine callsIn_of_wp_marks Try.func23 rfl (by rw [HF.out]; trivial) ?_ hro
  simp only [Try.ntmps23, List.size_toArray, List.length_cons, List.length_nil, Nat.reduceAdd, Nat.reduceSub, Array.replicate_succ, Array.replicate_zero, List.push_toArray, List.append_toArray, List.nil_append, List.cons_append]
  gi_wp2
  obtain ⟨W0, hW0⟩ : ∃ W0, W0 = w.alloc (.cells #[.slice none 0 0] 30) := ⟨_, rfl⟩
  have B0 : Below w.heap.size w W0 := by rw [hW0]; exact (Below.refl _ w).alloc (Nat.le_refl _) _
  have hsz : W0.heap.size = w.heap.size + 1 := by rw [hW0]; simp
  have r0 : Rec W0 w.heap.size 30 [.slice none 0 0] := by rw [hW0]; exact Rec.new _ _ _
  have k0 := r0.cell (o := 0) rfl
  have k1 := r0.frozen 0
  have kb := (hBb.below B0 hBb.lt).cell (o := 0) rfl
  have hblt := hBb.lt
  have hH0 : HeadsAt W0 lb 0 nl L bo := fun i hi => by obtain ⟨a, c, h1, h2⟩ := hH i hi; exact ⟨a, c, (B0.cell (p := ⟨lb, 0 + i, none⟩) hlb).trans h1, h2⟩
  rw [← hW0]
  clear hW0 r0 hBb hH
  refine wpIn_rangeFunc_ownF hro (by omega) (gf := 36) (lb := #[.pointer (some ⟨bb, 0, none⟩)]) rfl hf3 (enters_of Try.func36 (by kernel_rfl) rfl)
    (roots_stops F (4 - 1) hf3 hro (by omega) bb w.heap.size lb 0 nl lc N L bo hN hnl HL.out W0 (by omega) hblt hlb kb hH0) belowK_t (belowK_b (by omega)) (Below.refl _ _) (fun _ => rfl)
    (fun pre W => (∃ a cap, W.cell? ⟨w.heap.size, 0, none⟩ = some (.slice a (pre.map fun x => valAt' vs x.val).length cap) ∧ W.frozen? ⟨w.heap.size, 0, none⟩ = false ∧ ValRow W W0.heap.size a cap (pre.map fun x => valAt' vs x.val) ∧ W0.heap.size ≤ W.heap.size) ∧ Below w.heap.size w W)
    (fun c pre W => False)
    (OwnFrom.and (Own.from (fun s A B row hs hg hr => by obtain ⟨a, cap, h1, h2, h3, h4⟩ := hs; exact ⟨a, cap, cell_kept h1 hg hr, (frozen_kept h1 hg hr).trans h2, row_kept h3 hg hr, Nat.le_trans h4 hg.size⟩) _) (ownFrom_below (Nat.le_refl _) (by omega)))
    (fun c => Own.from (fun s A B row hs hg hr => hs) _)
    ⟨⟨none, 0, k0, k1, ValRow.nil _ _, Nat.le_refl _⟩, B0⟩
    (fun x => { tmps := #[.func (.func 36) #[] #[.pointer (some ⟨bb, 0, none⟩)], undef, .slice none 0 0, .pointer (some ⟨w.heap.size, 0, none⟩), (.pointer (some ⟨(ptrAt L bo nl x.val).1, (ptrAt L bo nl x.val).2, none⟩)), .func (.func 36) #[] #[.pointer (some ⟨bb, 0, none⟩)], (.pointer (some ⟨(ptrAt L bo nl x.val).1, (ptrAt L bo nl x.val).2, none⟩)), undef, undef, undef, undef, undef, undef, undef], defers := [] }) ?assign ?body ?done ?stop
  case assign =>
    intro l x W K hK
    gi_wp2
    exact hK
  case body =>
    rintro l pre x W ⟨⟨a, cap, g1, g2, g3, g4⟩, hB⟩ hlen
    obtain ⟨p1, p2, p3⟩ := HP.out x.val x.isLt
    have z2 : W.cell? ⟨(ptrAt L bo nl x.val).1, (ptrAt L bo nl x.val).2, none⟩ = some (.int .i64 (valAt' vs x.val).kind) := (hB.cell (p := ⟨(ptrAt L bo nl x.val).1, _, none⟩) p1).trans p2
    have z3 : W.cell? ⟨(ptrAt L bo nl x.val).1, (ptrAt L bo nl x.val).2 + 1, none⟩ = some (.int .i64 (valAt' vs x.val).n) := (hB.cell (p := ⟨(ptrAt L bo nl x.val).1, _, none⟩) p1).trans p3
    have wlt : w.heap.size < W.heap.size := by omega
    have HB := hide hB
    obtain ⟨us, hus⟩ : ∃ us, pre.map (fun x => valAt' vs x.val) = us := ⟨_, rfl⟩
    have HUL : Hid (us.length < N) := by show _ < _; rw [← hus, List.length_map]; exact hlen
    rw [hus] at g1 g3
    have HUS := hide hus
    have HG : Hid (ValRow W W0.heap.size a cap us) := g3
    clear hB g3 p2 p3 hus hlen
    gi_wp2
    rw [HF.out]
    refine wpIn_region_any hmo (any_wide (no_letsOut_block no_letsOut) (by simp) _ _ _ _ ?_)
    refine wpAny_take (i := 1) (v := (.pointer (some ⟨(ptrAt L bo nl x.val).1, (ptrAt L bo nl x.val).2, none⟩))) rfl (by kernel_rfl) (by kernel_rfl) (by kernel_rfl) (fun _ _ _ h => h) (Or.inl ⟨by rfl, fun w' => by go_simp⟩) ?_
    refine wpAny_take (i := 2) (v := (.pointer (some ⟨(ptrAt L bo nl x.val).1, (ptrAt L bo nl x.val).2, none⟩))) rfl (by kernel_rfl) (by kernel_rfl) (by kernel_rfl) (fun _ _ _ h => h) (Or.inl ⟨by rfl, fun w' => by go_simp⟩) ?_
    refine wpAny_ready (rs := [0, 3]) (by kernel_rfl) (by simp) (AllReady.cons rfl (fun K hK => ?_) (AllReady.cons rfl (fun K hK => ?_) AllReady.nil))
    · skip
      have HK := hide hK
      clear hK
      go_simp
      refine HK.out _ _ ?_
      clear HK K
      refine wpAny_ready (rs := [3]) (by kernel_rfl) (by simp) (AllReady.cons rfl (fun K hK => ?_) AllReady.nil)
      have HK := hide hK
      clear hK
      go_simp
      refine HK.out _ _ ?_
      clear HK K
      refine wpAny_ready (rs := [4]) (by kernel_rfl) (by simp) (AllReady.cons rfl (fun K hK => ?_) AllReady.nil)
      have HK := hide hK
      clear hK
      go_simp
      refine HK.out _ _ ?_
      clear HK K
      refine wpAny_ready (rs := [5]) (by kernel_rfl) (by simp) (AllReady.cons rfl (fun K hK => ?_) AllReady.nil)
      have HK := hide hK
      clear hK
      refine step_append_vals _ rfl _ _ rfl W0.heap.size a cap us _ _ _ _ [valAt' vs x.val] rfl rfl (World.ownsRow.drew (World.ownsRow.alloc HG.out _)) (one_val (T := 62) _ _ (Deep.blk_alloc_new _ _)) (by have := HUL.out; simp; omega) (by simp; omega) ?_
      intro na5 nc5 w3 hrow hgr hat
      refine HK.out _ _ ?_
      clear HK K
      have HB3 : Hid (Below W0.heap.size W w3) := ((Below.refl W0.heap.size W).alloc g4 _).drew.grown hgr (by simp; omega) (owns_base HG.out)
      have l1 : w3.cell? ⟨w.heap.size, 0, none⟩ = some (.slice a us.length cap) := (HB3.out.cell (p := ⟨w.heap.size, 0, none⟩) (by simp; omega)).trans g1
      have l2 : w3.frozen? ⟨w.heap.size, 0, none⟩ = false := (frozen_same (HB3.out.block w.heap.size (by omega))).trans g2
      have HO := hide hrow
      have HGr := hide hgr
      clear hrow hgr hat
      refine wpAny_ready (rs := [6]) (by kernel_rfl) (by simp) (AllReady.cons rfl (fun K hK => ?_) AllReady.nil)
      have HK := hide hK
      clear hK
      go_simp
      refine HK.out _ _ ?_
      clear HK K
      refine wpAny_done (by kernel_rfl) ?_ _
      have hko : KeepsOthers W w3 := (KeepsOthers.alloc W _).trans ((KeepsOthers.drew _).trans (KeepsOthers.of_grownBy HGr.out (fun j o hj ho => row_cells (World.ownsRow.drew (World.ownsRow.alloc HG.out _)) hj ho)))
      have hbk : Below w.heap.size W (w3.setCell ⟨w.heap.size, 0, none⟩ (.slice na5 (us.length + 1) nc5)) := (HB3.out.mono (show w.heap.size ≤ W0.heap.size by omega)).setCell (p := ⟨w.heap.size, 0, none⟩) (Nat.le_refl _) _
      have hmap : (pre ++ [x]).map (fun x => valAt' vs x.val) = us ++ [valAt' vs x.val] := by rw [← HUS.out]; simp
      first
        | (refine ⟨hko.trans (KeepsOthers.setCell _ _ _), hbk, ⟨na5, nc5, ?_, ?_, ?_, ?_⟩, HB.out.trans hbk⟩
           · rw [hmap, List.length_append, List.length_singleton]; exact World.cell?_setCell_same' _ _ _ (by rw [l1]; rfl)
           · first | exact (World.frozen?_setCell _ _ _ _).trans l2 | (simp; exact l2)
           · rw [hmap]; exact owns_set HO.out (show w.heap.size < W0.heap.size by omega)
           · have := HB3.out.size; simp; omega)
    · skip
      have HK := hide hK
      clear hK
      go_simp
      refine HK.out _ _ ?_
      clear HK K
      refine wpAny_ready (rs := [0, 4]) (by kernel_rfl) (by simp) (AllReady.cons rfl (fun K hK => ?_) (AllReady.cons rfl (fun K hK => ?_) AllReady.nil))
      · skip
        have HK := hide hK
        clear hK
        go_simp
        refine HK.out _ _ ?_
        clear HK K
        refine wpAny_ready (rs := [4]) (by kernel_rfl) (by simp) (AllReady.cons rfl (fun K hK => ?_) AllReady.nil)
        have HK := hide hK
        clear hK
        go_simp
        refine HK.out _ _ ?_
        clear HK K
        refine wpAny_ready (rs := [5]) (by kernel_rfl) (by simp) (AllReady.cons rfl (fun K hK => ?_) AllReady.nil)
        have HK := hide hK
        clear hK
        refine step_append_vals _ rfl _ _ rfl W0.heap.size a cap us _ _ _ _ [valAt' vs x.val] rfl rfl (World.ownsRow.drew (World.ownsRow.alloc HG.out _)) (one_val (T := 62) _ _ (Deep.blk_alloc_new _ _)) (by have := HUL.out; simp; omega) (by simp; omega) ?_
        intro na5 nc5 w3 hrow hgr hat
        refine HK.out _ _ ?_
        clear HK K
        have HB3 : Hid (Below W0.heap.size W w3) := ((Below.refl W0.heap.size W).alloc g4 _).drew.grown hgr (by simp; omega) (owns_base HG.out)
        have l1 : w3.cell? ⟨w.heap.size, 0, none⟩ = some (.slice a us.length cap) := (HB3.out.cell (p := ⟨w.heap.size, 0, none⟩) (by simp; omega)).trans g1
        have l2 : w3.frozen? ⟨w.heap.size, 0, none⟩ = false := (frozen_same (HB3.out.block w.heap.size (by omega))).trans g2
        have HO := hide hrow
        have HGr := hide hgr
        clear hrow hgr hat
        refine wpAny_ready (rs := [6]) (by kernel_rfl) (by simp) (AllReady.cons rfl (fun K hK => ?_) AllReady.nil)
        have HK := hide hK
        clear hK
        go_simp
        refine HK.out _ _ ?_
        clear HK K
        refine wpAny_done (by kernel_rfl) ?_ _
        have hko : KeepsOthers W w3 := (KeepsOthers.alloc W _).trans ((KeepsOthers.drew _).trans (KeepsOthers.of_grownBy HGr.out (fun j o hj ho => row_cells (World.ownsRow.drew (World.ownsRow.alloc HG.out _)) hj ho)))
        have hbk : Below w.heap.size W (w3.setCell ⟨w.heap.size, 0, none⟩ (.slice na5 (us.length + 1) nc5)) := (HB3.out.mono (show w.heap.size ≤ W0.heap.size by omega)).setCell (p := ⟨w.heap.size, 0, none⟩) (Nat.le_refl _) _
        have hmap : (pre ++ [x]).map (fun x => valAt' vs x.val) = us ++ [valAt' vs x.val] := by rw [← HUS.out]; simp
        first
          | (refine ⟨hko.trans (KeepsOthers.setCell _ _ _), hbk, ⟨na5, nc5, ?_, ?_, ?_, ?_⟩, HB.out.trans hbk⟩
             · rw [hmap, List.length_append, List.length_singleton]; exact World.cell?_setCell_same' _ _ _ (by rw [l1]; rfl)
             · first | exact (World.frozen?_setCell _ _ _ _).trans l2 | (simp; exact l2)
             · rw [hmap]; exact owns_set HO.out (show w.heap.size < W0.heap.size by omega)
             · have := HB3.out.size; simp; omega)
      · skip
        have HK := hide hK
        clear hK
        go_simp
        refine HK.out _ _ ?_
        clear HK K
        refine wpAny_ready (rs := [0]) (by kernel_rfl) (by simp) (AllReady.cons rfl (fun K hK => ?_) AllReady.nil)
        have HK := hide hK
        clear hK
        go_simp
        refine HK.out _ _ ?_
        clear HK K
        refine wpAny_ready (rs := [5]) (by kernel_rfl) (by simp) (AllReady.cons rfl (fun K hK => ?_) AllReady.nil)
        have HK := hide hK
        clear hK
        refine step_append_vals _ rfl _ _ rfl W0.heap.size a cap us _ _ _ _ [valAt' vs x.val] rfl rfl (World.ownsRow.drew (World.ownsRow.alloc HG.out _)) (one_val (T := 62) _ _ (Deep.blk_alloc_new _ _)) (by have := HUL.out; simp; omega) (by simp; omega) ?_
        intro na5 nc5 w3 hrow hgr hat
        refine HK.out _ _ ?_
        clear HK K
        have HB3 : Hid (Below W0.heap.size W w3) := ((Below.refl W0.heap.size W).alloc g4 _).drew.grown hgr (by simp; omega) (owns_base HG.out)
        have l1 : w3.cell? ⟨w.heap.size, 0, none⟩ = some (.slice a us.length cap) := (HB3.out.cell (p := ⟨w.heap.size, 0, none⟩) (by simp; omega)).trans g1
        have l2 : w3.frozen? ⟨w.heap.size, 0, none⟩ = false := (frozen_same (HB3.out.block w.heap.size (by omega))).trans g2
        have HO := hide hrow
        have HGr := hide hgr
        clear hrow hgr hat
        refine wpAny_ready (rs := [6]) (by kernel_rfl) (by simp) (AllReady.cons rfl (fun K hK => ?_) AllReady.nil)
        have HK := hide hK
        clear hK
        go_simp
        refine HK.out _ _ ?_
        clear HK K
        refine wpAny_done (by kernel_rfl) ?_ _
        have hko : KeepsOthers W w3 := (KeepsOthers.alloc W _).trans ((KeepsOthers.drew _).trans (KeepsOthers.of_grownBy HGr.out (fun j o hj ho => row_cells (World.ownsRow.drew (World.ownsRow.alloc HG.out _)) hj ho)))
        have hbk : Below w.heap.size W (w3.setCell ⟨w.heap.size, 0, none⟩ (.slice na5 (us.length + 1) nc5)) := (HB3.out.mono (show w.heap.size ≤ W0.heap.size by omega)).setCell (p := ⟨w.heap.size, 0, none⟩) (Nat.le_refl _) _
        have hmap : (pre ++ [x]).map (fun x => valAt' vs x.val) = us ++ [valAt' vs x.val] := by rw [← HUS.out]; simp
        first
          | (refine ⟨hko.trans (KeepsOthers.setCell _ _ _), hbk, ⟨na5, nc5, ?_, ?_, ?_, ?_⟩, HB.out.trans hbk⟩
             · rw [hmap, List.length_append, List.length_singleton]; exact World.cell?_setCell_same' _ _ _ (by rw [l1]; rfl)
             · first | exact (World.frozen?_setCell _ _ _ _).trans l2 | (simp; exact l2)
             · rw [hmap]; exact owns_set HO.out (show w.heap.size < W0.heap.size by omega)
             · have := HB3.out.size; simp; omega)
  case done =>
    rintro D ys W hD hS ⟨⟨a, cap, g1, g2, g3, g4⟩, hB⟩ hK
    have hmap := map_range hS HV.out
    rw [hmap] at g1 g3
    have HG := hide g3
    have HB := hide hB
    clear g3 hB hS hmap
    gi_wp2
    refine ⟨by simp, .inl ⟨_, _, rfl, run_takeDeferred hK, ?_⟩⟩
    refine ⟨.slice a vs.length cap, ?_, a, cap, rfl, ?_, ?_⟩
    · simp [results, Try.f23, go_sem]
    · exact owns_lower (owns_of_block HG.out (fun k hk => World.putObj_heap_other (by intro e; subst e; rcases HG.out.2 with ⟨e1, _⟩ | ⟨g, cap', cur, e1, _, hc, _⟩ <;> rw [e1] at hk <;> simp [Value.ownBlock] at hk; subst hk; rw [hK] at hc; cases hc))) (by omega)
    · exact HB.out.trans (belowK_b (w := W0) (n₀ := w.heap.size) (by omega) W D _ _ hD hK rfl rfl)
  case stop =>
    rintro D c pre W hD hpre h hK
    cases h
end Go.Proofs.Ytbalfmlmgbmneaa
