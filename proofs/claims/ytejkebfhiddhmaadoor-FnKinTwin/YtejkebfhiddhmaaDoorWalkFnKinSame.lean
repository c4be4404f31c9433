/- The law of KinSame on drawn groups. -/
import Derived.Test.YtejkebfhiddhmaaDoorKaGs
import Derived.Test.YtejkebfhiddhmaaDoorKaCanon
namespace Go.Proofs.YtejkebfhiddhmaaDoor
open Go.ChangeShapes Go.WideShapes Go.ChangeAt Go.RowKit Go.Deep
set_option linter.unusedVariables false

theorem isTypeF_iff {gs : List (List Ty)} {a : Int} : isTypeF gs a = true ↔ 0 ≤ a ∧ a < (kinCount gs : Int) := by simp [isTypeF]
theorem canonF_pos {gs : List (List Ty)} {a : Int} (h : 0 ≤ canonF gs a) : kinOkF gs = true ∧ 0 ≤ a ∧ a < (kinCount gs : Int) ∧ canonF gs a = (canon gs a.toNat : Nat) := by
  unfold canonF at h ⊢
  split at h
  · rename_i hc
    simp only [Bool.and_eq_true] at hc
    obtain ⟨h1, h2⟩ := isTypeF_iff.1 hc.1
    exact ⟨hc.2, h1, h2, by rw [if_pos (by simp [hc])]⟩
  · omega
theorem canonF_of {gs : List (List Ty)} {a : Int} (hk : kinOkF gs = true) (h1 : 0 ≤ a) (h2 : a < (kinCount gs : Int)) : canonF gs a = (canon gs a.toNat : Nat) := by
  unfold canonF; rw [if_pos (by simp [hk, isTypeF_iff.2 ⟨h1, h2⟩])]
theorem canonF_neg {gs : List (List Ty)} {a : Int} (h : canonF gs a < 0) : canonF gs a = -1 := by have := canonF_range gs a; omega
theorem canonF_not {gs : List (List Ty)} {a : Int} (hk : kinOkF gs = false) : canonF gs a = -1 := by unfold canonF; rw [if_neg (by simp [hk])]
theorem sameB_comm (gs : List (List Ty)) (a b : Int) : sameB gs a b = sameB gs b a := by
  rw [sameB_canon, sameB_canon, Bool.eq_iff_iff]
  simp
  constructor <;> (rintro ⟨h1, h2⟩; exact ⟨by omega, h2.symm⟩)
theorem sameB_self (gs : List (List Ty)) (a : Int) : sameB gs a a = decide (0 ≤ canonF gs a) := by rw [sameB_canon]; simp
theorem canonF_canonF {gs : List (List Ty)} {a : Int} (h : 0 ≤ canonF gs a) : canonF gs (canonF gs a) = canonF gs a := by
  obtain ⟨hk, h1, h2, e⟩ := canonF_pos h
  have hP := kinOk_parts hk
  have hl := canon_lt (gs := gs) (p := a.toNat) (by omega)
  rw [e, canonF_of hk (by omega) (by omega), Int.toNat_natCast, canon_canon hP (by omega)]
theorem canonF_le {gs : List (List Ty)} {a : Int} (h : -1 ≤ a) : canonF gs a ≤ a := by
  by_cases h0 : 0 ≤ canonF gs a
  · obtain ⟨hk, h1, h2, e⟩ := canonF_pos h0
    have := canon_le gs a.toNat
    omega
  · have := canonF_neg (gs := gs) (a := a) (by omega); omega

set_option maxHeartbeats 4000000 in
set_option maxRecDepth 100000 in
theorem fnKinSame_walk (a0 : Option Addr) (cap0 n0 : Nat) (hc0 : n0 ≤ cap0) (w : World) (h0 : BytesIn w w.heap.size a0 n0) (ht : pow10 w) :
    Calls Tryd.prog 4 #[.slice a0 n0 cap0] w fun e w' => e = .returned (.bool true) ∧ Below w.heap.size w w' := by
  by_cases l0 : 1048576 < n0
  · have k0 : (1048576 : Int) < (n0 : Int) := by omega
    go_enter Tryd.func4, Tryd.ntmps4
    go_wp2_with fail
    go_ret
    exact ⟨rfl, Below.refl _ _⟩
  have k0 : (n0 : Int) ≤ 1048576 := by omega
  go_enter Tryd.func4, Tryd.ntmps4
  go_wp2_with fail
  refine (drawKinSame_any a0 cap0 n0 w hc0 h0 ht).mono ?_
  rintro e w1 ⟨gs, ga, gc, a, b, rfl, G1, ⟨a1, a2⟩, b1, b2⟩
  have n2 := G1.count
  obtain ⟨A, hA⟩ : ∃ A, canonF gs a = A := ⟨_, rfl⟩
  obtain ⟨B, hB⟩ : ∃ B, canonF gs b = B := ⟨_, rfl⟩
  have HA := hide hA
  have HB := hide hB
  have hA0 : -1 ≤ A := by rw [← hA]; exact canonF_range gs a
  have hA1 : A ≤ a := by rw [← hA]; exact canonF_le a1
  have hB0 : -1 ≤ B := by rw [← hB]; exact canonF_range gs b
  have HAA : Hid (0 ≤ A → canonF gs A = A) := by intro h; rw [← hA] at h ⊢; exact canonF_canonF h
  obtain ⟨x, hx⟩ : ∃ x, sameB gs a b = x := ⟨_, rfl⟩
  obtain ⟨y, hy⟩ : ∃ y, sameB gs a a = y := ⟨_, rfl⟩
  have HX := hide hx
  have HX' : Hid (sameB gs b a = x) := by show _ = _; rw [sameB_comm]; exact hx
  have HY := hide hy
  have ex : x = (decide (0 ≤ A) && (A == B)) := by rw [← hx, sameB_canon, hA, hB]
  have ey : y = decide (0 ≤ A) := by rw [← hy, sameB_self, hA]
  have HI : Hid (∀ i : Int, 0 ≤ i → i < (kinCount gs : Int) → (sameB gs a i = true → A ≤ i ∧ (sameB gs i b = true → x = true))) := by
    intro i i0 i1 h
    rw [sameB_canon, hA] at h
    simp at h
    refine ⟨by rw [h.2]; exact canonF_le (by omega), fun h2 => ?_⟩
    rw [sameB_canon, hB] at h2
    simp at h2
    rw [ex]; simp; omega
  clear hx hy hA hB
  cases hk : kinOkF gs
  · have HK := hide hk
    have eA : A = -1 := HA.out.symm.trans (canonF_not hk)
    have ex' : x = false := by rw [ex, eA]; rfl
    have ey' : y = false := by rw [ey, eA]; rfl
    subst eA
    subst ex'
    subst ey'
    clear ex ey hk HI
    go_wp2_with fail
    refine (G1.implSame HX.out).mono ?_
    rintro e w2 ⟨rfl, _, G2⟩
    clear G1
    go_wp2_with fail
    refine (G2.specSame HX.out).mono ?_
    rintro e w3 ⟨rfl, _, G3⟩
    clear G2
    go_wp2_with fail
    refine (G3.implSame HX.out).mono ?_
    rintro e w4 ⟨rfl, _, G4⟩
    clear G3
    go_wp2_with fail
    refine (G4.implSame HX'.out).mono ?_
    rintro e w5 ⟨rfl, _, G5⟩
    clear G4
    go_wp2_with fail
    refine (G5.implSame HY.out).mono ?_
    rintro e w6 ⟨rfl, _, G6⟩
    clear G5
    go_wp2_with fail
    refine (G6.specCanon HA.out).mono ?_
    rintro e w7 ⟨rfl, _, G7⟩
    clear G6
    go_wp2_with fail
    refine (G7.specOk HK.out).mono ?_
    rintro e w8 ⟨rfl, _, G8⟩
    clear G7
    go_wp2_with fail
    refine (G8.implSame HX.out).mono ?_
    rintro e w9 ⟨rfl, _, G9⟩
    clear G8
    go_wp2_with fail
    go_ret
    exact ⟨rfl, G9.bel⟩
  · have HK := hide hk
    clear hk
    by_cases hA2 : 0 ≤ A
    · have dA : decide (0 ≤ A) = true := by simpa using hA2
      have ey' : y = true := by rw [ey]; exact dA
      subst ey'
      clear ey
      cases x
      · have hAB : (A == B) = false := by rw [dA] at ex; simpa using ex.symm
        clear ex
        go_wp2_with fail
        refine (G1.implSame HX.out).mono ?_
        rintro e w2 ⟨rfl, _, G2⟩
        clear G1
        go_wp2_with fail
        refine (G2.specSame HX.out).mono ?_
        rintro e w3 ⟨rfl, _, G3⟩
        clear G2
        go_wp2_with fail
        refine (G3.implSame HX.out).mono ?_
        rintro e w4 ⟨rfl, _, G4⟩
        clear G3
        go_wp2_with fail
        refine (G4.implSame HX'.out).mono ?_
        rintro e w5 ⟨rfl, _, G5⟩
        clear G4
        go_wp2_with fail
        refine (G5.implSame HY.out).mono ?_
        rintro e w6 ⟨rfl, _, G6⟩
        clear G5
        go_wp2_with fail
        refine (G6.specCanon HA.out).mono ?_
        rintro e w7 ⟨rfl, _, G7⟩
        clear G6
        go_wp2_with fail
        refine (G7.specOk HK.out).mono ?_
        rintro e w8 ⟨rfl, _, G8⟩
        clear G7
        go_wp2_with fail
        refine (G8.implCanon HA.out).mono ?_
        rintro e w9 ⟨rfl, _, G9⟩
        clear G8
        go_wp2_with fail
        refine (G9.implCanon HB.out).mono ?_
        rintro e w10 ⟨rfl, _, G10⟩
        clear G9
        go_wp2_with fail
        refine (G10.specCanon HA.out).mono ?_
        rintro e w11 ⟨rfl, _, G11⟩
        clear G10
        go_wp2_with fail
        refine (G11.specCanon HB.out).mono ?_
        rintro e w12 ⟨rfl, _, G12⟩
        clear G11
        go_wp2_with fail
        refine (G12.implSame HX.out).mono ?_
        rintro e w13 ⟨rfl, _, G13⟩
        clear G12
        go_wp2_with fail
        have GL := hide G13
        clear G13
        go_loopw [8] (fun iv wr => ∃ i : Nat, i ≤ kinCount gs ∧ iv = .int .i64 (i : Int) ∧ Hid (GS w wr ga gc gs)) (fun iv wr => kinCount gs - (intOf iv).toNat)
        case atStart => exact ⟨0, Nat.zero_le _, rfl, GL⟩
        case round =>
          clear GL
          obtain ⟨i, hi, rfl, GR⟩ := hrel
          have G1 := GR.out
          clear GR
          by_cases hlt : i < kinCount gs
          · have hlt2 : (i : Int) < (kinCount gs : Int) := by omega
            obtain ⟨v, hv⟩ : ∃ v, sameB gs a (i : Int) = v := ⟨_, rfl⟩
            obtain ⟨u, hu⟩ : ∃ u, sameB gs (i : Int) b = u := ⟨_, rfl⟩
            have hvi := HI.out i (by omega) hlt2
            rw [hv, hu] at hvi
            have HV := hide hv
            have HU := hide hu
            clear hv hu
            cases v
            · clear hvi
              go_wp2_with fail
              refine G1.specCount.mono ?_
              rintro e w2 ⟨rfl, rfl⟩
              go_wp2_with fail
              refine (G1.implSame HV.out).mono ?_
              rintro e w3 ⟨rfl, _, G3⟩
              clear G1
              go_wp2_with fail
              refine (G3.implSame HV.out).mono ?_
              rintro e w4 ⟨rfl, _, G4⟩
              clear G3
              go_wp2_with fail
              go_roundw
              case rel => exact ⟨i + 1, by omega, by go_num, G4⟩
              case measure => simp [intOf]; omega
            · obtain ⟨hAi, hu2⟩ := hvi rfl
              clear hvi
              cases u
              · clear hu2
                go_wp2_with fail
                refine G1.specCount.mono ?_
                rintro e w2 ⟨rfl, rfl⟩
                go_wp2_with fail
                refine (G1.implSame HV.out).mono ?_
                rintro e w3 ⟨rfl, _, G3⟩
                clear G1
                go_wp2_with fail
                refine (G3.implSame HU.out).mono ?_
                rintro e w4 ⟨rfl, _, G4⟩
                clear G3
                go_wp2_with fail
                refine (G4.implSame HV.out).mono ?_
                rintro e w5 ⟨rfl, _, G5⟩
                clear G4
                go_wp2_with fail
                go_roundw
                case rel => exact ⟨i + 1, by omega, by go_num, G5⟩
                case measure => simp [intOf]; omega
              · exact absurd (hu2 rfl) (by decide)
          · have hlt2 : ¬ (i : Int) < (kinCount gs : Int) := by omega
            go_wp2_with fail
            refine G1.specCount.mono ?_
            rintro e w2 ⟨rfl, rfl⟩
            have HAC := hide (HAA.out hA2)
            go_wp2_with fail
            refine (G1.implCanon HAC.out).mono ?_
            rintro e w3 ⟨rfl, _, G3⟩
            clear G1
            go_wp2_with fail
            go_ret
            exact ⟨rfl, G3.bel⟩
      · have hAB : A = B := by rw [dA] at ex; simpa using ex.symm
        subst hAB
        clear ex
        go_wp2_with fail
        refine (G1.implSame HX.out).mono ?_
        rintro e w2 ⟨rfl, _, G2⟩
        clear G1
        go_wp2_with fail
        refine (G2.specSame HX.out).mono ?_
        rintro e w3 ⟨rfl, _, G3⟩
        clear G2
        go_wp2_with fail
        refine (G3.implSame HX.out).mono ?_
        rintro e w4 ⟨rfl, _, G4⟩
        clear G3
        go_wp2_with fail
        refine (G4.implSame HX'.out).mono ?_
        rintro e w5 ⟨rfl, _, G5⟩
        clear G4
        go_wp2_with fail
        refine (G5.implSame HY.out).mono ?_
        rintro e w6 ⟨rfl, _, G6⟩
        clear G5
        go_wp2_with fail
        refine (G6.specCanon HA.out).mono ?_
        rintro e w7 ⟨rfl, _, G7⟩
        clear G6
        go_wp2_with fail
        refine (G7.specOk HK.out).mono ?_
        rintro e w8 ⟨rfl, _, G8⟩
        clear G7
        go_wp2_with fail
        refine (G8.implCanon HA.out).mono ?_
        rintro e w9 ⟨rfl, _, G9⟩
        clear G8
        go_wp2_with fail
        refine (G9.implCanon HB.out).mono ?_
        rintro e w10 ⟨rfl, _, G10⟩
        clear G9
        go_wp2_with fail
        refine (G10.specCanon HA.out).mono ?_
        rintro e w11 ⟨rfl, _, G11⟩
        clear G10
        go_wp2_with fail
        refine (G11.specCanon HB.out).mono ?_
        rintro e w12 ⟨rfl, _, G12⟩
        clear G11
        go_wp2_with fail
        refine (G12.implSame HX.out).mono ?_
        rintro e w13 ⟨rfl, _, G13⟩
        clear G12
        go_wp2_with fail
        have GL := hide G13
        clear G13
        go_loopw [8] (fun iv wr => ∃ i : Nat, i ≤ kinCount gs ∧ iv = .int .i64 (i : Int) ∧ Hid (GS w wr ga gc gs)) (fun iv wr => kinCount gs - (intOf iv).toNat)
        case atStart => exact ⟨0, Nat.zero_le _, rfl, GL⟩
        case round =>
          clear GL
          obtain ⟨i, hi, rfl, GR⟩ := hrel
          have G1 := GR.out
          clear GR
          by_cases hlt : i < kinCount gs
          · have hlt2 : (i : Int) < (kinCount gs : Int) := by omega
            obtain ⟨v, hv⟩ : ∃ v, sameB gs a (i : Int) = v := ⟨_, rfl⟩
            obtain ⟨u, hu⟩ : ∃ u, sameB gs (i : Int) b = u := ⟨_, rfl⟩
            have hvi := HI.out i (by omega) hlt2
            rw [hv, hu] at hvi
            have HV := hide hv
            have HU := hide hu
            clear hv hu
            cases v
            · clear hvi
              go_wp2_with fail
              refine G1.specCount.mono ?_
              rintro e w2 ⟨rfl, rfl⟩
              go_wp2_with fail
              refine (G1.implSame HV.out).mono ?_
              rintro e w3 ⟨rfl, _, G3⟩
              clear G1
              go_wp2_with fail
              refine (G3.implSame HV.out).mono ?_
              rintro e w4 ⟨rfl, _, G4⟩
              clear G3
              go_wp2_with fail
              go_roundw
              case rel => exact ⟨i + 1, by omega, by go_num, G4⟩
              case measure => simp [intOf]; omega
            · obtain ⟨hAi, hu2⟩ := hvi rfl
              clear hvi
              cases u
              · clear hu2
                go_wp2_with fail
                refine G1.specCount.mono ?_
                rintro e w2 ⟨rfl, rfl⟩
                go_wp2_with fail
                refine (G1.implSame HV.out).mono ?_
                rintro e w3 ⟨rfl, _, G3⟩
                clear G1
                go_wp2_with fail
                refine (G3.implSame HU.out).mono ?_
                rintro e w4 ⟨rfl, _, G4⟩
                clear G3
                go_wp2_with fail
                refine (G4.implSame HV.out).mono ?_
                rintro e w5 ⟨rfl, _, G5⟩
                clear G4
                go_wp2_with fail
                go_roundw
                case rel => exact ⟨i + 1, by omega, by go_num, G5⟩
                case measure => simp [intOf]; omega
              · clear hu2
                go_wp2_with fail
                refine G1.specCount.mono ?_
                rintro e w2 ⟨rfl, rfl⟩
                go_wp2_with fail
                refine (G1.implSame HV.out).mono ?_
                rintro e w3 ⟨rfl, _, G3⟩
                clear G1
                go_wp2_with fail
                refine (G3.implSame HU.out).mono ?_
                rintro e w4 ⟨rfl, _, G4⟩
                clear G3
                go_wp2_with fail
                refine (G4.implSame HX.out).mono ?_
                rintro e w5 ⟨rfl, _, G5⟩
                clear G4
                go_wp2_with fail
                refine (G5.implSame HV.out).mono ?_
                rintro e w6 ⟨rfl, _, G6⟩
                clear G5
                go_wp2_with fail
                go_roundw
                case rel => exact ⟨i + 1, by omega, by go_num, G6⟩
                case measure => simp [intOf]; omega
          · have hlt2 : ¬ (i : Int) < (kinCount gs : Int) := by omega
            go_wp2_with fail
            refine G1.specCount.mono ?_
            rintro e w2 ⟨rfl, rfl⟩
            have HAC := hide (HAA.out hA2)
            go_wp2_with fail
            refine (G1.implCanon HAC.out).mono ?_
            rintro e w3 ⟨rfl, _, G3⟩
            clear G1
            go_wp2_with fail
            go_ret
            exact ⟨rfl, G3.bel⟩
    · have eA : A = -1 := by omega
      subst eA
      have ey' : y = false := by rw [ey]; rfl
      have ex' : x = false := by rw [ex]; rfl
      subst ey'
      subst ex'
      clear ey ex
      go_wp2_with fail
      refine (G1.implSame HX.out).mono ?_
      rintro e w2 ⟨rfl, _, G2⟩
      clear G1
      go_wp2_with fail
      refine (G2.specSame HX.out).mono ?_
      rintro e w3 ⟨rfl, _, G3⟩
      clear G2
      go_wp2_with fail
      refine (G3.implSame HX.out).mono ?_
      rintro e w4 ⟨rfl, _, G4⟩
      clear G3
      go_wp2_with fail
      refine (G4.implSame HX'.out).mono ?_
      rintro e w5 ⟨rfl, _, G5⟩
      clear G4
      go_wp2_with fail
      refine (G5.implSame HY.out).mono ?_
      rintro e w6 ⟨rfl, _, G6⟩
      clear G5
      go_wp2_with fail
      refine (G6.specCanon HA.out).mono ?_
      rintro e w7 ⟨rfl, _, G7⟩
      clear G6
      go_wp2_with fail
      refine (G7.specOk HK.out).mono ?_
      rintro e w8 ⟨rfl, _, G8⟩
      clear G7
      go_wp2_with fail
      refine (G8.implCanon HA.out).mono ?_
      rintro e w9 ⟨rfl, _, G9⟩
      clear G8
      go_wp2_with fail
      refine (G9.implCanon HB.out).mono ?_
      rintro e w10 ⟨rfl, _, G10⟩
      clear G9
      go_wp2_with fail
      refine (G10.specCanon HA.out).mono ?_
      rintro e w11 ⟨rfl, _, G11⟩
      clear G10
      go_wp2_with fail
      refine (G11.specCanon HB.out).mono ?_
      rintro e w12 ⟨rfl, _, G12⟩
      clear G11
      go_wp2_with fail
      refine (G12.implSame HX.out).mono ?_
      rintro e w13 ⟨rfl, _, G13⟩
      clear G12
      go_wp2_with fail
      have GL := hide G13
      clear G13
      go_loopw [8] (fun iv wr => ∃ i : Nat, i ≤ kinCount gs ∧ iv = .int .i64 (i : Int) ∧ Hid (GS w wr ga gc gs)) (fun iv wr => kinCount gs - (intOf iv).toNat)
      case atStart => exact ⟨0, Nat.zero_le _, rfl, GL⟩
      case round =>
        clear GL
        obtain ⟨i, hi, rfl, GR⟩ := hrel
        have G1 := GR.out
        clear GR
        by_cases hlt : i < kinCount gs
        · have hlt2 : (i : Int) < (kinCount gs : Int) := by omega
          obtain ⟨v, hv⟩ : ∃ v, sameB gs a (i : Int) = v := ⟨_, rfl⟩
          obtain ⟨u, hu⟩ : ∃ u, sameB gs (i : Int) b = u := ⟨_, rfl⟩
          have hvi := HI.out i (by omega) hlt2
          rw [hv, hu] at hvi
          have HV := hide hv
          have HU := hide hu
          clear hv hu
          cases v
          · clear hvi
            go_wp2_with fail
            refine G1.specCount.mono ?_
            rintro e w2 ⟨rfl, rfl⟩
            go_wp2_with fail
            refine (G1.implSame HV.out).mono ?_
            rintro e w3 ⟨rfl, _, G3⟩
            clear G1
            go_wp2_with fail
            refine (G3.implSame HV.out).mono ?_
            rintro e w4 ⟨rfl, _, G4⟩
            clear G3
            go_wp2_with fail
            go_roundw
            case rel => exact ⟨i + 1, by omega, by go_num, G4⟩
            case measure => simp [intOf]; omega
          · obtain ⟨hAi, hu2⟩ := hvi rfl
            clear hvi
            cases u
            · clear hu2
              go_wp2_with fail
              refine G1.specCount.mono ?_
              rintro e w2 ⟨rfl, rfl⟩
              go_wp2_with fail
              refine (G1.implSame HV.out).mono ?_
              rintro e w3 ⟨rfl, _, G3⟩
              clear G1
              go_wp2_with fail
              refine (G3.implSame HU.out).mono ?_
              rintro e w4 ⟨rfl, _, G4⟩
              clear G3
              go_wp2_with fail
              refine (G4.implSame HV.out).mono ?_
              rintro e w5 ⟨rfl, _, G5⟩
              clear G4
              go_wp2_with fail
              go_roundw
              case rel => exact ⟨i + 1, by omega, by go_num, G5⟩
              case measure => simp [intOf]; omega
            · exact absurd (hu2 rfl) (by decide)
        · have hlt2 : ¬ (i : Int) < (kinCount gs : Int) := by omega
          go_wp2_with fail
          refine G1.specCount.mono ?_
          rintro e w2 ⟨rfl, rfl⟩
          go_wp2_with fail
          go_ret
          exact ⟨rfl, G1.bel⟩
end Go.Proofs.YtejkebfhiddhmaaDoor
