/- The law of KinUnder on drawn groups. -/
import Derived.Test.YtejkebfhiddhmaaDoorWalkFnKinSame
namespace Go.Proofs.YtejkebfhiddhmaaDoor
open Go.ChangeShapes Go.WideShapes Go.ChangeAt Go.RowKit Go.Deep
set_option linter.unusedVariables false

theorem isRefF_iff {gs : List (List Ty)} {a : Int} : isRefF gs a = true ↔ -2 ≤ a ∧ a < (kinCount gs : Int) := by simp [isRefF]
theorem underB_of {gs : List (List Ty)} {a b : Int} (hk : kinOkF gs = true) (h1 : -2 ≤ a) (h2 : a < (kinCount gs : Int)) (h3 : -2 ≤ b) (h4 : b < (kinCount gs : Int)) : underB gs a b = under gs a b := by
  unfold underB; rw [isRefF_iff.2 ⟨h1, h2⟩, isRefF_iff.2 ⟨h3, h4⟩, hk]; simp
theorem underB_not {gs : List (List Ty)} {a b : Int} (hk : kinOkF gs = false) : underB gs a b = false := by unfold underB; rw [hk]; simp
theorem underB_true {gs : List (List Ty)} {a b : Int} (h : underB gs a b = true) : kinOkF gs = true ∧ (-2 ≤ a ∧ a < (kinCount gs : Int)) ∧ (-2 ≤ b ∧ b < (kinCount gs : Int)) ∧ under gs a b = true := by
  unfold underB at h
  simp only [Bool.and_eq_true] at h
  exact ⟨h.2.2.1, isRefF_iff.1 h.1, isRefF_iff.1 h.2.1, h.2.2.2⟩
theorem sameB_of {gs : List (List Ty)} {a b : Int} (hk : kinOkF gs = true) (h1 : 0 ≤ a) (h2 : a < (kinCount gs : Int)) (h3 : 0 ≤ b) (h4 : b < (kinCount gs : Int)) : sameB gs a b = same gs a.toNat b.toNat := by
  unfold sameB; rw [isTypeF_iff.2 ⟨h1, h2⟩, isTypeF_iff.2 ⟨h3, h4⟩, hk]; simp
theorem sameB_true {gs : List (List Ty)} {a b : Int} (h : sameB gs a b = true) : kinOkF gs = true ∧ (0 ≤ a ∧ a < (kinCount gs : Int)) ∧ (0 ≤ b ∧ b < (kinCount gs : Int)) ∧ same gs a.toNat b.toNat = true := by
  unfold sameB at h
  simp only [Bool.and_eq_true] at h
  exact ⟨h.2.2.1, isTypeF_iff.1 h.1, isTypeF_iff.1 h.2.1, h.2.2.2⟩
theorem underB_anti {gs : List (List Ty)} {a b : Int} (hk : kinOkF gs = true) (a0 : -2 ≤ a) (a1 : a < (kinCount gs : Int)) (b0 : -2 ≤ b) (b1 : b < (kinCount gs : Int)) : (underB gs a b && underB gs b a) = (decide (a = b) || sameB gs a b) := by
  rw [Bool.eq_iff_iff, Bool.and_eq_true, Bool.or_eq_true, underB_of hk a0 a1 b0 b1, underB_of hk b0 b1 a0 a1, under_antiI (kinOk_parts hk) a0 b0 a1 b1, decide_eq_true_eq]
  constructor
  · rintro (h | ⟨h1, h2, h3⟩)
    · exact .inl h
    · exact .inr (by rw [sameB_of hk h1 a1 h2 b1]; exact h3)
  · rintro (h | h)
    · exact .inl h
    · obtain ⟨_, h1, h2, h3⟩ := sameB_true h
      exact .inr ⟨h1.1, h2.1, h3⟩

set_option maxHeartbeats 4000000 in
set_option maxRecDepth 100000 in
theorem fnKinUnder_walk (a0 : Option Addr) (cap0 n0 : Nat) (hc0 : n0 ≤ cap0) (w : World) (h0 : BytesIn w w.heap.size a0 n0) (ht : pow10 w) :
    Calls Tryd.prog 6 #[.slice a0 n0 cap0] w fun e w' => e = .returned (.bool true) ∧ Below w.heap.size w w' := by
  by_cases l0 : 1048576 < n0
  · have k0 : (1048576 : Int) < (n0 : Int) := by omega
    go_enter Tryd.func6, Tryd.ntmps6
    go_wp2_with fail
    go_ret
    exact ⟨rfl, Below.refl _ _⟩
  have k0 : (n0 : Int) ≤ 1048576 := by omega
  go_enter Tryd.func6, Tryd.ntmps6
  go_wp2_with fail
  refine (drawKinUnder_any a0 cap0 n0 w hc0 h0 ht).mono ?_
  rintro e w1 ⟨gs, ga, gc, a, b, rfl, G1, ⟨a1, a2⟩, b1, b2⟩
  have n2 := G1.count
  obtain ⟨x, hx⟩ : ∃ x, underB gs a b = x := ⟨_, rfl⟩
  have HX := hide hx
  cases hk : kinOkF gs
  · have HK := hide hk
    obtain rfl : false = x := (underB_not hk).symm.trans hx
    clear hx hk
    go_wp2_with fail
    refine (G1.implUnder HX.out).mono ?_
    rintro e w2 ⟨rfl, _, G2⟩
    clear G1
    go_wp2_with fail
    refine (G2.specUnder HX.out).mono ?_
    rintro e w3 ⟨rfl, _, G3⟩
    clear G2
    go_wp2_with fail
    refine G3.specCount.mono ?_
    rintro e w4 ⟨rfl, rfl⟩
    go_wp2_with fail
    refine (G3.specOk HK.out).mono ?_
    rintro e w5 ⟨rfl, _, G5⟩
    clear G3
    go_wp2_with fail
    refine (G5.implUnder HX.out).mono ?_
    rintro e w6 ⟨rfl, _, G6⟩
    clear G5
    go_wp2_with fail
    go_ret
    exact ⟨rfl, G6.bel⟩
  have HK := hide hk
  by_cases hr : (-2 ≤ a ∧ a < (kinCount gs : Int)) ∧ (-2 ≤ b ∧ b < (kinCount gs : Int))
  · obtain ⟨⟨ra1, ra2⟩, rb1, rb2⟩ := hr
    obtain ⟨z, hz⟩ : ∃ z, underB gs b a = z := ⟨_, rfl⟩
    obtain ⟨y, hy⟩ : ∃ y, sameB gs a b = y := ⟨_, rfl⟩
    have HZ := hide hz
    have HY := hide hy
    have HT : Hid (underB gs a a = true) := by show _ = _; rw [underB_of hk ra1 ra2 ra1 ra2]; exact under_refl gs a
    have hxz : (x && z) = (decide (a = b) || y) := by rw [← hx, ← hz, ← hy]; exact underB_anti hk ra1 ra2 rb1 rb2
    have HI : Hid (∀ i : Int, -2 ≤ i → i < (kinCount gs : Int) → (underB gs a i = true → underB gs i b = true → x = true) ∧ underB gs i (-1) = true ∧ underB gs (-1) i = decide (i = -1) ∧ underB gs i (-2) = decide (i = -2)) := by
      intro i i0 i1
      refine ⟨fun h1 h2 => ?_, ?_, ?_, ?_⟩
      · rw [underB_of hk ra1 ra2 i0 i1] at h1
        rw [underB_of hk i0 i1 rb1 rb2] at h2
        rw [← hx, underB_of hk ra1 ra2 rb1 rb2]
        exact under_transI (kinOk_parts hk) ra2 i1 rb2 h1 h2
      · rw [underB_of hk i0 i1 (by omega) (by omega)]; exact under_top gs i
      · rw [underB_of hk (by omega) (by omega) i0 i1]; exact any_under gs i
      · rw [underB_of hk i0 i1 (by omega) (by omega)]; exact under_chip gs i
    clear hx hy hz hk
    go_wp2_with fail
    refine (G1.implUnder HX.out).mono ?_
    rintro e w2 ⟨rfl, _, G2⟩
    clear G1
    go_wp2_with fail
    refine (G2.specUnder HX.out).mono ?_
    rintro e w3 ⟨rfl, _, G3⟩
    clear G2
    go_wp2_with fail
    refine G3.specCount.mono ?_
    rintro e w4 ⟨rfl, rfl⟩
    go_wp2_with fail
    refine (G3.specOk HK.out).mono ?_
    rintro e w5 ⟨rfl, _, G5⟩
    clear G3
    go_wp2_with fail
    have GL := hide G5
    clear G5
    go_loopw [7] (fun iv wr => ∃ i : Int, -2 ≤ i ∧ i ≤ (kinCount gs : Int) ∧ iv = .int .i64 i ∧ Hid (GS w wr ga gc gs)) (fun iv wr => ((kinCount gs : Int) - intOf iv).toNat)
    case atStart => exact ⟨-2, by omega, by omega, rfl, GL⟩
    case round =>
      clear GL
      obtain ⟨i, hi0, hi, rfl, GR⟩ := hrel
      have G1 := GR.out
      clear GR
      by_cases hlt : i < (kinCount gs : Int)
      · obtain ⟨ht1, ht2, ht3, ht4⟩ := HI.out i hi0 hlt
        obtain ⟨v, hv⟩ : ∃ v, underB gs a i = v := ⟨_, rfl⟩
        obtain ⟨u, hu⟩ : ∃ u, underB gs i b = u := ⟨_, rfl⟩
        rw [hv, hu] at ht1
        have HV := hide hv
        have HU := hide hu
        have HT2 := hide ht2
        clear hv hu ht2
        have hcase : ((i == -1) = true ∧ (i == -2) = false ∧ underB gs (-1) i = true ∧ underB gs i (-2) = false) ∨ ((i == -1) = false ∧ (i == -2) = true ∧ underB gs (-1) i = false ∧ underB gs i (-2) = true) ∨ ((i == -1) = false ∧ (i == -2) = false ∧ underB gs (-1) i = false ∧ underB gs i (-2) = false) := by
          rw [ht3, ht4]
          by_cases e1 : i = -1
          · subst e1; left; decide
          · by_cases e2 : i = -2
            · subst e2; right; left; decide
            · right; right; simp [e1, e2]
        clear ht3 ht4
        rcases hcase with ⟨c1, c2, c3, c4⟩ | ⟨c1, c2, c3, c4⟩ | ⟨c1, c2, c3, c4⟩
        all_goals
          have C3 := hide c3
          have C4 := hide c4
          clear c3 c4
          cases v
          · clear ht1
            go_wp2_with fail
            refine (G1.implUnder HV.out).mono ?_
            rintro e w2 ⟨rfl, _, G2⟩
            clear G1
            go_wp2_with fail
            refine (G2.implUnder HT2.out).mono ?_
            rintro e w3 ⟨rfl, _, G3⟩
            clear G2
            go_wp2_with fail
            refine (G3.implUnder C3.out).mono ?_
            rintro e w4 ⟨rfl, _, G4⟩
            clear G3
            go_wp2_with fail
            refine (G4.implUnder C4.out).mono ?_
            rintro e w5 ⟨rfl, _, G5⟩
            clear G4
            go_wp2_with fail
            go_roundw
            case rel => exact ⟨i + 1, by omega, by omega, rfl, G5⟩
            case measure => simp [intOf]; omega
          · cases u
            · clear ht1
              go_wp2_with fail
              refine (G1.implUnder HV.out).mono ?_
              rintro e w2 ⟨rfl, _, G2⟩
              clear G1
              go_wp2_with fail
              refine (G2.implUnder HU.out).mono ?_
              rintro e w3 ⟨rfl, _, G3⟩
              clear G2
              go_wp2_with fail
              refine (G3.implUnder HT2.out).mono ?_
              rintro e w4 ⟨rfl, _, G4⟩
              clear G3
              go_wp2_with fail
              refine (G4.implUnder C3.out).mono ?_
              rintro e w5 ⟨rfl, _, G5⟩
              clear G4
              go_wp2_with fail
              refine (G5.implUnder C4.out).mono ?_
              rintro e w6 ⟨rfl, _, G6⟩
              clear G5
              go_wp2_with fail
              go_roundw
              case rel => exact ⟨i + 1, by omega, by omega, rfl, G6⟩
              case measure => simp [intOf]; omega
            · obtain rfl := ht1 rfl rfl
              clear ht1
              go_wp2_with fail
              refine (G1.implUnder HV.out).mono ?_
              rintro e w2 ⟨rfl, _, G2⟩
              clear G1
              go_wp2_with fail
              refine (G2.implUnder HU.out).mono ?_
              rintro e w3 ⟨rfl, _, G3⟩
              clear G2
              go_wp2_with fail
              refine (G3.implUnder HX.out).mono ?_
              rintro e w4 ⟨rfl, _, G4⟩
              clear G3
              go_wp2_with fail
              refine (G4.implUnder HT2.out).mono ?_
              rintro e w5 ⟨rfl, _, G5⟩
              clear G4
              go_wp2_with fail
              refine (G5.implUnder C3.out).mono ?_
              rintro e w6 ⟨rfl, _, G6⟩
              clear G5
              go_wp2_with fail
              refine (G6.implUnder C4.out).mono ?_
              rintro e w7 ⟨rfl, _, G7⟩
              clear G6
              go_wp2_with fail
              go_roundw
              case rel => exact ⟨i + 1, by omega, by omega, rfl, G7⟩
              case measure => simp [intOf]; omega
      · have hlt2 : (kinCount gs : Int) ≤ i := by omega
        by_cases hab : a = b
        · subst hab
          have hE : (a == a) = true := by simp
          obtain rfl : true = x := HT.out.symm.trans HX.out
          obtain rfl : true = z := HT.out.symm.trans HZ.out
          go_wp2_with fail
          refine (G1.implUnder HX.out).mono ?_
          rintro e w2 ⟨rfl, _, G2⟩
          clear G1
          go_wp2_with fail
          refine (G2.implUnder HZ.out).mono ?_
          rintro e w3 ⟨rfl, _, G3⟩
          clear G2
          go_wp2_with fail
          refine (G3.implUnder HT.out).mono ?_
          rintro e w4 ⟨rfl, _, G4⟩
          clear G3
          go_wp2_with fail
          go_ret
          exact ⟨rfl, G4.bel⟩
        · have hE : (a == b) = false := by simpa using hab
          have hxy : y = (x && z) := by rw [hxz]; simp [hab]
          clear hxz
          cases x
          · obtain rfl : y = false := by rw [hxy]; rfl
            clear hxy
            go_wp2_with fail
            refine (G1.implUnder HX.out).mono ?_
            rintro e w2 ⟨rfl, _, G2⟩
            clear G1
            go_wp2_with fail
            refine (G2.implUnder HT.out).mono ?_
            rintro e w3 ⟨rfl, _, G3⟩
            clear G2
            go_wp2_with fail
            refine (G3.implSame HY.out).mono ?_
            rintro e w4 ⟨rfl, _, G4⟩
            clear G3
            go_wp2_with fail
            go_ret
            exact ⟨rfl, G4.bel⟩
          · obtain rfl : y = z := by rw [hxy]; rfl
            clear hxy
            cases y
            · skip
              go_wp2_with fail
              refine (G1.implUnder HX.out).mono ?_
              rintro e w2 ⟨rfl, _, G2⟩
              clear G1
              go_wp2_with fail
              refine (G2.implUnder HZ.out).mono ?_
              rintro e w3 ⟨rfl, _, G3⟩
              clear G2
              go_wp2_with fail
              refine (G3.implUnder HT.out).mono ?_
              rintro e w4 ⟨rfl, _, G4⟩
              clear G3
              go_wp2_with fail
              refine (G4.implSame HY.out).mono ?_
              rintro e w5 ⟨rfl, _, G5⟩
              clear G4
              go_wp2_with fail
              go_ret
              exact ⟨rfl, G5.bel⟩
            · skip
              go_wp2_with fail
              refine (G1.implUnder HX.out).mono ?_
              rintro e w2 ⟨rfl, _, G2⟩
              clear G1
              go_wp2_with fail
              refine (G2.implUnder HZ.out).mono ?_
              rintro e w3 ⟨rfl, _, G3⟩
              clear G2
              go_wp2_with fail
              refine (G3.implUnder HT.out).mono ?_
              rintro e w4 ⟨rfl, _, G4⟩
              clear G3
              go_wp2_with fail
              refine (G4.implSame HY.out).mono ?_
              rintro e w5 ⟨rfl, _, G5⟩
              clear G4
              go_wp2_with fail
              go_ret
              exact ⟨rfl, G5.bel⟩
  · have hcase : a < -2 ∨ (-2 ≤ a ∧ b < -2) ∨ (-2 ≤ a ∧ -2 ≤ b ∧ (kinCount gs : Int) ≤ a) ∨ (-2 ≤ a ∧ -2 ≤ b ∧ a < (kinCount gs : Int) ∧ (kinCount gs : Int) ≤ b) := by omega
    obtain rfl : x = false := by
      cases x with
      | false => rfl
      | true => exact absurd ⟨(underB_true hx).2.1, (underB_true hx).2.2.1⟩ hr
    clear hx hk hr
    rcases hcase with c1 | ⟨c1, c2⟩ | ⟨c1, c2, c3⟩ | ⟨c1, c2, c3, c4⟩
    all_goals
      go_wp2_with fail
      refine (G1.implUnder HX.out).mono ?_
      rintro e w2 ⟨rfl, _, G2⟩
      clear G1
      go_wp2_with fail
      refine (G2.specUnder HX.out).mono ?_
      rintro e w3 ⟨rfl, _, G3⟩
      clear G2
      go_wp2_with fail
      refine G3.specCount.mono ?_
      rintro e w4 ⟨rfl, rfl⟩
      go_wp2_with fail
      refine (G3.specOk HK.out).mono ?_
      rintro e w5 ⟨rfl, _, G5⟩
      clear G3
      go_wp2_with fail
      refine (G5.implUnder HX.out).mono ?_
      rintro e w6 ⟨rfl, _, G6⟩
      clear G5
      go_wp2_with fail
      go_ret
      exact ⟨rfl, G6.bel⟩
end Go.Proofs.YtejkebfhiddhmaaDoor
