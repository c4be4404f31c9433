/- The law of the beginning of drawn groups. -/
import Derived.Test.YtfnipbnchkonoaaDoorWalkFnKinMore
import Derived.Test.YtfnipbnchkonoaaDoorKaLine
namespace Go.Proofs.YtfnipbnchkonoaaDoor
open Go.ChangeShapes Go.WideShapes Go.ChangeAt Go.RowKit Go.Deep
set_option linter.unusedVariables false

theorem upL_congr {U V : Nat → Int} {n m : Nat} (hnm : n ≤ m) (hU : ∀ i, i < n → U i = V i ∧ U i < (n : Int)) : ∀ f (a : Int), a < (n : Int) → (upL U n f a).map (fun x => x.val) = (upL V m f a).map (fun x => x.val) := by
  intro f
  induction f with
  | zero => intro a _; rfl
  | succ f ih =>
    intro a ha
    simp only [upL]
    by_cases h : 0 ≤ a
    · have h1 : a.toNat < n := by omega
      rw [dif_pos ⟨h, h1⟩, dif_pos ⟨h, by omega⟩, List.map_cons, List.map_cons, ← (hU _ h1).1, ih _ (hU _ h1).2]
    · rw [dif_neg (by omega), dif_neg (by omega)]; rfl
theorem upL_stable {U : Nat → Int} {n : Nat} (hU : ∀ i, i < n → U i < (i : Int)) : ∀ (f f' : Nat) (a : Int), a < (f : Int) → a < (f' : Int) → upL U n f a = upL U n f' a := by
  intro f
  induction f with
  | zero =>
    intro f' a h1 h2
    cases f' with
    | zero => rfl
    | succ f' => simp only [upL]; rw [dif_neg (by omega)]
  | succ f ih =>
    intro f' a h1 h2
    cases f' with
    | zero => simp only [upL]; rw [dif_neg (by omega)]
    | succ f' =>
      simp only [upL]
      by_cases h : 0 ≤ a ∧ a.toNat < n
      · rw [dif_pos h, dif_pos h]
        have := hU _ h.2
        rw [ih f' _ (by omega) (by omega)]
      · rw [dif_neg h, dif_neg h]
theorem lineUp_more {gs hs : List (List Ty)} (hP : Parts gs) {a : Int} (ha : a < (kinCount gs : Int)) (f : Nat) : lineUp (gs ++ hs) a f = lineUp gs a f := by
  have hc := kinCount_more (gs := gs) (hs := hs)
  have e := upL_congr (U := fun i => (tyN gs i).up) (V := fun i => (tyN (gs ++ hs) i).up) hc (fun i hi => ⟨by rw [tyN_more hi], by have := (parts_flat hP hi).2.1; omega⟩) f a ha
  have e2 : ∀ (n : Nat) (C : Nat → Nat) (l : List (Fin n)), l.map (fun x => (C x.val : Int)) = (l.map (fun x => x.val)).map (fun v => (C v : Int)) := fun n C l => by rw [List.map_map]; rfl
  unfold lineUp
  rw [e2 _ (canon (gs ++ hs)), e2 _ (canon gs), ← e]
  refine List.map_congr_left fun v hv => ?_
  obtain ⟨x, _, rfl⟩ := List.mem_map.1 hv
  rw [canon_more x.isLt]
theorem lineF_more {gs hs : List (List Ty)} {a : Int} (h : kinOkF (gs ++ hs) = true) (ha : a < (kinCount gs : Int)) : lineF (gs ++ hs) a = lineF gs a := by
  have hk := kinOk_less h
  have hP := kinOk_parts hk
  have hPm := kinOk_parts h
  have hc := kinCount_more (gs := gs) (hs := hs)
  unfold lineF isTypeF
  have e1 : decide (a < (kinCount (gs ++ hs) : Int)) = decide (a < (kinCount gs : Int)) := by simp; omega
  rw [h, hk, e1, lineUp_more hP ha]
  have e2 : lineUp gs a (kinCount (gs ++ hs) + 1) = lineUp gs a (kinCount gs + 1) := by
    unfold lineUp
    rw [upL_stable (fun i hi => by have := (parts_flat hP hi).2.1; omega) _ (kinCount gs + 1) a (by omega) (by omega)]
  rw [e2]

set_option maxHeartbeats 4000000 in
set_option maxRecDepth 100000 in
theorem fnKinCut_walk (a0 : Option Addr) (cap0 n0 : Nat) (hc0 : n0 ≤ cap0) (a9 : Option Addr) (cap9 n9 : Nat) (hc9 : n9 ≤ cap9) (w : World) (h0 : BytesIn w w.heap.size a0 n0) (h9 : BytesIn w w.heap.size a9 n9) (ht : pow10 w) :
    Calls Tryd.prog 10 #[.slice a0 n0 cap0, .slice a9 n9 cap9] w fun e w' => e = .returned (.bool true) ∧ Below w.heap.size w w' := by
  by_cases l0 : 1048576 < n0
  · have k0 : (1048576 : Int) < (n0 : Int) := by omega
    go_enter Tryd.func10, Tryd.ntmps10
    go_wp2_with fail
    go_ret
    exact ⟨rfl, Below.refl _ _⟩
  have k0 : (n0 : Int) ≤ 1048576 := by omega
  by_cases l9 : 1048576 < n9
  · have k9 : (1048576 : Int) < (n9 : Int) := by omega
    go_enter Tryd.func10, Tryd.ntmps10
    go_wp2_with fail
    go_ret
    exact ⟨rfl, Below.refl _ _⟩
  have k9 : (n9 : Int) ≤ 1048576 := by omega
  go_enter Tryd.func10, Tryd.ntmps10
  go_wp2_with fail
  refine (drawKinUnder_any a0 cap0 n0 w hc0 h0 ht).mono ?_
  rintro e w1 ⟨gs, ga, gc, a, b, rfl, G1, ⟨a1, a2⟩, b1, b2⟩
  have n2 := G1.count
  have gl : gs.length ≤ 1048576 := G1.few.1
  have gcap : gs.length ≤ gc := G1.cap
  cases hk : kinOkF gs
  · have HK := hide hk
    clear hk
    go_wp2_with fail
    refine (G1.implOk HK.out).mono ?_
    rintro e w2 ⟨rfl, _, G2⟩
    clear G1
    go_wp2_with fail
    refine (G2.specOk HK.out).mono ?_
    rintro e w3 ⟨rfl, _, G3⟩
    clear G2
    go_wp2_with fail
    refine (G3.specOk HK.out).mono ?_
    rintro e w4 ⟨rfl, _, G4⟩
    clear G3
    go_wp2_with fail
    refine (G4.implOk HK.out).mono ?_
    rintro e w5 ⟨rfl, _, G5⟩
    clear G4
    go_wp2_with fail
    refine (G5.specOk HK.out).mono ?_
    rintro e w6 ⟨rfl, _, G6⟩
    clear G5
    go_wp2_with fail
    go_ret
    exact ⟨rfl, G6.bel⟩
  have HK := hide hk
  by_cases hg0 : gs.length = 0
  · have hz : ((gs.length : Int) == 0) = true := by simp [hg0]
    clear hk hg0
    go_wp2_with fail
    refine (G1.implOk HK.out).mono ?_
    rintro e w2 ⟨rfl, _, G2⟩
    clear G1
    go_wp2_with fail
    refine (G2.specOk HK.out).mono ?_
    rintro e w3 ⟨rfl, _, G3⟩
    clear G2
    go_wp2_with fail
    refine (G3.specOk HK.out).mono ?_
    rintro e w4 ⟨rfl, _, G4⟩
    clear G3
    go_wp2_with fail
    refine (G4.implOk HK.out).mono ?_
    rintro e w5 ⟨rfl, _, G5⟩
    clear G4
    go_wp2_with fail
    refine (G5.specOk HK.out).mono ?_
    rintro e w6 ⟨rfl, _, G6⟩
    clear G5
    go_wp2_with fail
    go_ret
    exact ⟨rfl, G6.bel⟩
  have hz : ((gs.length : Int) == 0) = false := beq_eq_false_iff_ne.2 (by omega)
  have hz1 : ¬ (gs.length : Int) = 0 := by omega
  have hz2 : (0 : Int) < (gs.length : Int) := by omega
  obtain ⟨k, hkk⟩ : ∃ k : Nat, (n9 : Int) % (gs.length : Int) = (k : Int) := ⟨n9 % gs.length, by simp⟩
  have kl : k < gs.length := by have := Int.emod_lt_of_pos (n9 : Int) hz2; rw [hkk] at this; omega
  have kl1 : (k : Int) ≤ (gs.length : Int) := by omega
  have kl2 : (k : Int) ≤ (gc : Int) := by omega
  have kl0 : (0 : Int) ≤ (k : Int) := by omega
  have e1 : gs.take k ++ gs.drop k = gs := List.take_append_drop k gs
  have hkt : kinOkF (gs.take k ++ gs.drop k) = true := by rw [e1]; exact hk
  have HT := hide (kinOk_less hkt)
  have tl : (gs.take k).length = k := by rw [List.length_take]; omega
  have hcm : kinCount (gs.take k) ≤ kinCount gs := by have := kinCount_more (gs := gs.take k) (hs := gs.drop k); rw [e1] at this; exact this
  obtain ⟨x, hx⟩ : ∃ x, underB (gs.take k) a b = x := ⟨_, rfl⟩
  have HX := hide hx
  by_cases hr : a < (kinCount (gs.take k) : Int) ∧ b < (kinCount (gs.take k) : Int)
  · obtain ⟨r1, r2⟩ := hr
    obtain ⟨y, hy⟩ : ∃ y, sameB (gs.take k) a b = y := ⟨_, rfl⟩
    obtain ⟨A, hA⟩ : ∃ A, canonF (gs.take k) a = A := ⟨_, rfl⟩
    obtain ⟨xs, hxs⟩ : ∃ xs, lineF (gs.take k) a = xs := ⟨_, rfl⟩
    have HY := hide hy
    have HA := hide hA
    have HL := hide hxs
    have HX2 : Hid (underB gs a b = x) := by have := underB_more hkt r1 r2; rw [e1] at this; exact this.trans hx
    have HY2 : Hid (sameB gs a b = y) := by have := sameB_more hkt r1 r2; rw [e1] at this; exact this.trans hy
    have HA2 : Hid (canonF gs a = A) := by have := canonF_more hkt r1; rw [e1] at this; exact this.trans hA
    have HL2 : Hid (lineF gs a = xs) := by have := lineF_more hkt r1; rw [e1] at this; exact this.trans hxs
    have n3 : kinCount (gs.take k) ≤ 1099511627776 := by omega
    clear hx hy hA hxs hk hkt e1 hcm hg0
    go_wp2_with fail
    refine (G1.implOk HK.out).mono ?_
    rintro e w2 ⟨rfl, _, G2⟩
    clear G1
    go_wp2_with fail
    refine (G2.specOk HK.out).mono ?_
    rintro e w3 ⟨rfl, _, G3⟩
    clear G2
    go_wp2_with fail
    refine (G3.specOk HK.out).mono ?_
    rintro e w4 ⟨rfl, _, G4⟩
    clear G3
    have GH := G4.take k
    have G9 := G4
    clear G4
    have TL := hide tl
    clear tl
    generalize gs.take k = hs at *
    obtain ⟨kk, hkk2⟩ : ∃ kk, kk = hs.length := ⟨_, rfl⟩
    obtain rfl : k = hs.length := TL.out.symm
    clear TL hkk2
    go_wp2_with fail
    refine GH.implCount.mono ?_
    rintro e w21 ⟨rfl, rfl⟩
    go_wp2_with fail
    refine (GH.implOk HT.out).mono ?_
    rintro e w22 ⟨rfl, bb, GH'⟩
    replace G9 := G9.keep bb
    clear bb GH
    have GH := GH'
    clear GH'
    go_wp2_with fail
    refine (GH.implUnder HX.out).mono ?_
    rintro e w23 ⟨rfl, bb, GH'⟩
    replace G9 := G9.keep bb
    clear bb GH
    have GH := GH'
    clear GH'
    go_wp2_with fail
    refine (GH.specUnder HX.out).mono ?_
    rintro e w24 ⟨rfl, bb, GH'⟩
    replace G9 := G9.keep bb
    clear bb GH
    have GH := GH'
    clear GH'
    go_wp2_with fail
    refine (GH.implUnder HX.out).mono ?_
    rintro e w25 ⟨rfl, bb, GH'⟩
    replace G9 := G9.keep bb
    clear bb GH
    have GH := GH'
    clear GH'
    go_wp2_with fail
    refine (G9.implUnder HX2.out).mono ?_
    rintro e w26 ⟨rfl, bb, G9'⟩
    replace GH := GH.keep bb
    clear bb G9
    have G9 := G9'
    clear G9'
    go_wp2_with fail
    refine (GH.implSame HY.out).mono ?_
    rintro e w27 ⟨rfl, bb, GH'⟩
    replace G9 := G9.keep bb
    clear bb GH
    have GH := GH'
    clear GH'
    go_wp2_with fail
    refine (G9.implSame HY2.out).mono ?_
    rintro e w28 ⟨rfl, bb, G9'⟩
    replace GH := GH.keep bb
    clear bb G9
    have G9 := G9'
    clear G9'
    go_wp2_with fail
    refine (GH.implCanon HA.out).mono ?_
    rintro e w29 ⟨rfl, bb, GH'⟩
    replace G9 := G9.keep bb
    clear bb GH
    have GH := GH'
    clear GH'
    go_wp2_with fail
    refine (G9.implCanon HA2.out).mono ?_
    rintro e w30 ⟨rfl, bb, G9'⟩
    replace GH := GH.keep bb
    clear bb G9
    have G9 := G9'
    clear G9'
    go_wp2_with fail
    refine (GH.implLine HL.out).mono ?_
    rintro e w31 ⟨adh, caph, rfl, xlh, Lh, bb, GH'⟩
    replace G9 := G9.keep bb
    clear bb GH
    have GH := GH'
    clear GH'
    go_wp2_with fail
    refine (G9.implLine HL2.out).mono ?_
    rintro e w32 ⟨adg, capg, rfl, xlg, Lg, bb, G9'⟩
    replace GH := GH.keep bb
    replace Lh := Lh.keep bb
    clear bb G9
    have G9 := G9'
    clear G9'
    have LH := hide Lh
    have LG := hide Lg
    clear Lh Lg
    go_wp2_with fail
    refine (wpInts_any adh adg caph capg xs xs _ LH.out LG.out (by omega) (by omega) (v := true) (by simp)).mono ?_
    rintro e w40 ⟨rfl, q, rfl⟩
    go_wp2_with fail
    go_ret
    exact ⟨rfl, (GH.drewN q).bel⟩
  · have hcase : (kinCount (gs.take k) : Int) ≤ a ∨ (a < (kinCount (gs.take k) : Int) ∧ (kinCount (gs.take k) : Int) ≤ b) := by omega
    obtain rfl : x = false := by
      cases x with
      | false => rfl
      | true => exact absurd ⟨(underB_true hx).2.1.2, (underB_true hx).2.2.1.2⟩ hr
    have n3 : kinCount (gs.take k) ≤ 1099511627776 := by omega
    clear hx hk hkt e1 hcm hg0 hr
    rcases hcase with c1 | ⟨c1, c2⟩
    all_goals
      go_wp2_with fail
      refine (G1.implOk HK.out).mono ?_
      rintro e w2 ⟨rfl, _, G2⟩
      clear G1
      go_wp2_with fail
      refine (G2.specOk HK.out).mono ?_
      rintro e w3 ⟨rfl, _, G3⟩
      clear G2
      go_wp2_with fail
      refine (G3.specOk HK.out).mono ?_
      rintro e w4 ⟨rfl, _, G4⟩
      clear G3
      have GH := G4.take k
      have TL := hide tl
      clear tl G4
      generalize gs.take k = hs at *
      obtain rfl : k = hs.length := TL.out.symm
      clear TL
      go_wp2_with fail
      refine GH.implCount.mono ?_
      rintro e w5 ⟨rfl, rfl⟩
      go_wp2_with fail
      refine (GH.implOk HT.out).mono ?_
      rintro e w6 ⟨rfl, _, G6⟩
      clear GH
      go_wp2_with fail
      refine (G6.implUnder HX.out).mono ?_
      rintro e w7 ⟨rfl, _, G7⟩
      clear G6
      go_wp2_with fail
      refine (G7.specUnder HX.out).mono ?_
      rintro e w8 ⟨rfl, _, G8⟩
      clear G7
      go_wp2_with fail
      refine (G8.implUnder HX.out).mono ?_
      rintro e w9 ⟨rfl, _, G9⟩
      clear G8
      go_wp2_with fail
      go_ret
      exact ⟨rfl, G9.bel⟩
end Go.Proofs.YtfnipbnchkonoaaDoor
