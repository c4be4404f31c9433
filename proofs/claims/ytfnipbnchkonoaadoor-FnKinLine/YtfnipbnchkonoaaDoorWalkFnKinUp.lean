/- The law of what is declared above, on drawn groups. -/
import Derived.Test.YtfnipbnchkonoaaDoorKaType
import Derived.Test.YtfnipbnchkonoaaDoorHeldL
import Derived.Test.YtfnipbnchkonoaaDoorWalkFnKinUnder
import Derived.Deep.RegionHeld3
import Derived.Deep.DrawnRows
namespace Go.Proofs.YtfnipbnchkonoaaDoor
open Go.ChangeShapes Go.WideShapes Go.ChangeAt Go.RowKit Go.Deep
set_option linter.unusedVariables false
attribute [local go_sem ↓] Go.wp_at_zero Go.wp_at_succ

theorem underB_root {gs : List (List Ty)} {a b : Int} (hk : kinOkF gs = true) (h1 : 0 ≤ a) (h2 : a < (kinCount gs : Int)) (hu : (tyN gs a.toNat).up < 0) (hb : 0 ≤ b) : underB gs a b = sameB gs a b := by
  by_cases h4 : b < (kinCount gs : Int)
  · obtain ⟨p, rfl⟩ := Int.eq_ofNat_of_zero_le h1
    obtain ⟨q, rfl⟩ := Int.eq_ofNat_of_zero_le hb
    rw [underB_of hk (by omega) h2 (by omega) h4, sameB_of hk h1 h2 hb h4, Int.toNat_natCast, Int.toNat_natCast]
    rw [Int.toNat_natCast] at hu
    exact under_root (kinOk_parts hk) (by omega) (by omega) hu
  · have e1 : underB gs a b = false := by
      cases h : underB gs a b with
      | false => rfl
      | true => exact absurd (underB_true h).2.2.1.2 h4
    have e2 : sameB gs a b = false := by
      cases h : sameB gs a b with
      | false => rfl
      | true => exact absurd (sameB_true h).2.2.1.2 h4
    rw [e1, e2]
theorem underB_upIff {gs : List (List Ty)} {a b u : Int} (hk : kinOkF gs = true) (h1 : 0 ≤ a) (h2 : a < (kinCount gs : Int)) (hu : (tyN gs a.toNat).up = u) (u0 : 0 ≤ u) : underB gs a u = true ∧ underB gs u a = false ∧ underB gs a b = (underB gs u b || sameB gs a b) := by
  have hP := kinOk_parts hk
  obtain ⟨p, rfl⟩ := Int.eq_ofNat_of_zero_le h1
  obtain ⟨m, rfl⟩ := Int.eq_ofNat_of_zero_le u0
  rw [Int.toNat_natCast] at hu
  have b1 := (parts_flat hP (p := p) (by omega)).2.1
  have hm : (m : Int) < (kinCount gs : Int) := by omega
  obtain ⟨u1, u2⟩ := under_up hP (p := p) (by omega) hu
  refine ⟨by rw [underB_of hk (by omega) h2 (by omega) hm]; exact u1, by rw [underB_of hk (by omega) hm (by omega) h2]; exact u2, ?_⟩
  by_cases hb : -2 ≤ b ∧ b < (kinCount gs : Int)
  · rw [underB_of hk (by omega) h2 hb.1 hb.2, underB_of hk (by omega) hm hb.1 hb.2]
    by_cases hb0 : 0 ≤ b
    · obtain ⟨q, rfl⟩ := Int.eq_ofNat_of_zero_le hb0
      rw [sameB_of hk h1 h2 hb0 hb.2, Int.toNat_natCast, Int.toNat_natCast]
      exact under_up_iff hP (by omega) (by omega) hu
    · have e2 : sameB gs (p : Int) b = false := by
        cases h : sameB gs (p : Int) b with
        | false => rfl
        | true => exact absurd (sameB_true h).2.2.1.1 hb0
      rw [e2, Bool.or_false]
      by_cases e : b = -1
      · subst e; rw [under_top, under_top]
      · have : b = -2 := by omega
        subst this
        rw [under_chip, under_chip]
        simp
  · have e1 : ∀ c, underB gs c b = false := fun c => by
      cases h : underB gs c b with
      | false => rfl
      | true => exact absurd (underB_true h).2.2.1 hb
    have e2 : sameB gs (p : Int) b = false := by
      cases h : sameB gs (p : Int) b with
      | false => rfl
      | true => have := (sameB_true h).2.2.1; exact absurd ⟨by omega, this.2⟩ hb
    rw [e1, e1, e2]; rfl

set_option maxHeartbeats 16000000 in
set_option maxRecDepth 100000 in
theorem fnKinUp_walk (a0 : Option Addr) (cap0 n0 : Nat) (hc0 : n0 ≤ cap0) (w : World) (h0 : BytesIn w w.heap.size a0 n0) (ht : pow10 w) :
    Calls Tryd.prog 12 #[.slice a0 n0 cap0] w fun e w' => e = .returned (.bool true) ∧ Below w.heap.size w w' := by
  by_cases l0 : 1048576 < n0
  · have k0 : (1048576 : Int) < (n0 : Int) := by omega
    go_enter Tryd.func12, Tryd.ntmps12
    go_wp2_with fail
    go_ret
    exact ⟨rfl, Below.refl _ _⟩
  have k0 : (n0 : Int) ≤ 1048576 := by omega
  go_enter Tryd.func12, Tryd.ntmps12
  go_wp2_with fail
  refine (drawKinUnder_any a0 cap0 n0 w hc0 h0 ht).mono ?_
  rintro e w1 ⟨gs, ga, gc, a, b, rfl, G1, ⟨a1, a2⟩, b1, b2⟩
  have n2 := G1.count
  obtain ⟨x, hx⟩ : ∃ x, underB gs a b = x := ⟨_, rfl⟩
  have HX := hide hx
  cases hk : kinOkF gs
  · have HK := hide hk
    clear hx hk
    go_wp2_with fail
    refine (G1.implUnder HX.out).mono ?_
    rintro e w2 ⟨rfl, _, G2⟩
    clear G1
    go_wp2_with fail
    refine (G2.specUnder HX.out).mono ?_
    rintro e w3 ⟨rfl, _, G3⟩
    clear G2
    go_wp2_with fail
    refine (G3.specOk HK.out).mono ?_
    rintro e w4 ⟨rfl, _, G4⟩
    clear G3
    go_wp2_with fail
    refine (G4.implUnder HX.out).mono ?_
    rintro e w5 ⟨rfl, _, G5⟩
    clear G4
    go_wp2_with fail
    refine (G5.specUnder HX.out).mono ?_
    rintro e w6 ⟨rfl, _, G6⟩
    clear G5
    go_wp2_with fail
    go_ret
    exact ⟨rfl, G6.bel⟩
  have HK := hide hk
  cases hT : isTypeF gs a
  · have HT := hide hT
    have HN := hide (tyOr_not hT)
    clear hx hk hT
    go_wp2_with fail
    refine (G1.implUnder HX.out).mono ?_
    rintro e w2 ⟨rfl, _, G2⟩
    clear G1
    go_wp2_with fail
    refine (G2.specUnder HX.out).mono ?_
    rintro e w3 ⟨rfl, _, G3⟩
    clear G2
    go_wp2_with fail
    refine (G3.specOk HK.out).mono ?_
    rintro e w4 ⟨rfl, _, G4⟩
    clear G3
    go_wp2_with fail
    refine (G4.implType a HN.out HT.out).mono ?_
    rintro e w9 ⟨na, nc, rfl, _, _, G9⟩
    clear G4
    go_wp2_with fail
    go_ret
    exact ⟨rfl, (G9.alloc _).bel⟩
  obtain ⟨ta1, ta2⟩ := isTypeF_iff.1 hT
  have HT := hide hT
  obtain ⟨t, htt⟩ : ∃ t, tyOr gs a = t := ⟨_, rfl⟩
  have HTT := hide htt
  have htN : tyN gs a.toNat = t := (tyOr_of ta1 ta2).symm.trans htt
  by_cases hu : t.up < 0
  · by_cases hb0 : 0 ≤ b
    · have hxy : sameB gs a b = x := (underB_root hk ta1 ta2 (by rw [htN]; exact hu) hb0).symm.trans hx
      have HY := hide hxy
      clear hx hk hT htt htN hxy
      go_wp2_with fail
      refine (G1.implUnder HX.out).mono ?_
      rintro e w2 ⟨rfl, _, G2⟩
      clear G1
      go_wp2_with fail
      refine (G2.specUnder HX.out).mono ?_
      rintro e w3 ⟨rfl, _, G3⟩
      clear G2
      go_wp2_with fail
      refine (G3.specOk HK.out).mono ?_
      rintro e w4 ⟨rfl, _, G4⟩
      clear G3
      go_wp2_with fail
      refine (G4.implType a HTT.out HT.out).mono ?_
      rintro e w9 ⟨na, nc, rfl, _, _, G9⟩
      clear G4
      replace G9 := G9.alloc (.cells #[.int .i64 t.kind, .int .i64 t.up, .bool t.last, .slice na t.fields.length nc] 28)
      go_wp2_with fail
      refine (G9.implUnder HX.out).mono ?_
      rintro e w5 ⟨rfl, _, G5⟩
      clear G9
      go_wp2_with fail
      refine (G5.implSame HY.out).mono ?_
      rintro e w6 ⟨rfl, _, G6⟩
      clear G5
      go_wp2_with fail
      go_ret
      exact ⟨rfl, G6.bel⟩
    · clear hx hk hT htt htN
      go_wp2_with fail
      refine (G1.implUnder HX.out).mono ?_
      rintro e w2 ⟨rfl, _, G2⟩
      clear G1
      go_wp2_with fail
      refine (G2.specUnder HX.out).mono ?_
      rintro e w3 ⟨rfl, _, G3⟩
      clear G2
      go_wp2_with fail
      refine (G3.specOk HK.out).mono ?_
      rintro e w4 ⟨rfl, _, G4⟩
      clear G3
      go_wp2_with fail
      refine (G4.implType a HTT.out HT.out).mono ?_
      rintro e w9 ⟨na, nc, rfl, _, _, G9⟩
      clear G4
      go_wp2_with fail
      go_ret
      exact ⟨rfl, (G9.alloc _).bel⟩
  · obtain ⟨f1, f2, f3⟩ := underB_upIff (b := b) hk ta1 ta2 (by rw [htN]) (show 0 ≤ t.up by omega)
    obtain ⟨y, hy⟩ : ∃ y, sameB gs a b = y := ⟨_, rfl⟩
    obtain ⟨z, hz⟩ : ∃ z, underB gs t.up b = z := ⟨_, rfl⟩
    rw [hx, hy, hz] at f3
    have F1 := hide f1
    have F2 := hide f2
    have HZ := hide hz
    have HY := hide hy
    clear hk hT htt htN f1 f2 hx hy hz
    go_wp2_with fail
    refine (G1.implUnder HX.out).mono ?_
    rintro e w2 ⟨rfl, _, G2⟩
    clear G1
    go_wp2_with fail
    refine (G2.specUnder HX.out).mono ?_
    rintro e w3 ⟨rfl, _, G3⟩
    clear G2
    go_wp2_with fail
    refine (G3.specOk HK.out).mono ?_
    rintro e w4 ⟨rfl, _, G4⟩
    clear G3
    go_wp2_with fail
    refine (G4.implType a HTT.out HT.out).mono ?_
    rintro e w9 ⟨na, nc, rfl, _, _, G9⟩
    clear G4
    replace G9 := G9.alloc (.cells #[.int .i64 t.kind, .int .i64 t.up, .bool t.last, .slice na t.fields.length nc] 28)
    have R9 := Rec.new w9 28 [.int .i64 t.kind, .int .i64 t.up, .bool t.last, .slice na t.fields.length nc]
    have hu2 : 0 ≤ t.up := by omega
    have hgu : ¬ t.up < 0 := by omega
    go_wp2_with fail
    generalize (w9.alloc (.cells #[.int .i64 t.kind, .int .i64 t.up, .bool t.last, .slice na t.fields.length nc] 28)) = W at *
    generalize w9.heap.size = tb at *
    have c1 : W.cell? ⟨tb, 1, none⟩ = some (.int .i64 t.up) := R9.cell (o := 1) rfl
    generalize t.up = u at *
    have f1 := F1.out
    have f2 := F2.out
    have f4 := HX.out
    have f5 := HZ.out
    have f6 := HY.out
    clear F1 F2 HZ HY R9 HX
    cases z
    · have f7 : x = y := by rw [f3]; rfl
      subst f7
      clear f3
      go_region_held3 (fun w' => w'.cell? ⟨tb, 1, none⟩ = some (.int .i64 u) ∧ GS w w' ga gc gs) (refine ⟨?_, ?_⟩ <;> first | assumption | exact GS.drewN (by assumption) 1 | go_keep)
            ((first
              | (go_at_call 28; have hS := ‹(World.cell? _ ⟨tb, 1, none⟩ = some (.int .i64 u) ∧ GS w _ ga gc gs)›; refine (GS.underC hS _ _).mono ?_; rintro e w2 ⟨rfl, hc2, G2⟩; clear hS)
              | (go_at_call 23; have hS := ‹(World.cell? _ ⟨tb, 1, none⟩ = some (.int .i64 u) ∧ GS w _ ga gc gs)›; refine (GS.sameC hS _ _).mono ?_; rintro e w2 ⟨rfl, hc2, G2⟩; clear hS)))
      all_goals
        go_wp2_with fail
        go_ret
        exact ⟨rfl, GS.bel (by assumption)⟩
    · have f7 : x = true := by rw [f3]; rfl
      subst f7
      clear f3
      refine wp_region_held_drew (S := (fun w' => w'.cell? ⟨tb, 1, none⟩ = some (.int .i64 u) ∧ GS w w' ga gc gs)) (by kernel_rfl) ?_ (fun hHeld => ?_)
      · (try dsimp only); (refine ⟨?_, ?_⟩ <;> first | assumption | exact GS.drewN (by assumption) 1 | go_keep)
      first | (refine takeL (i := 0) (v := ?v0n1) rfl (by kernel_rfl) (by kernel_rfl) (by kernel_rfl) (fun _ _ _ h => h) (by kernel_rfl) (by assumption) ?y0n1 ?r0n1; case y0n1 => (intro w hSw; (try dsimp only at hSw); go_simp; try with_reducible rfl); (try simp only [Act.put, List.setIfInBounds_toArray, List.set_cons_zero, List.set_cons_succ])) | (refine skipL (i := 0) rfl (by kernel_rfl) (by kernel_rfl) (by kernel_rfl) (fun _ _ _ h => h) (by kernel_rfl) (by assumption) ?_; (try simp only [Act.put, List.setIfInBounds_toArray, List.set_cons_zero, List.set_cons_succ]))
      first | (refine takeL (i := 1) (v := ?v1n2) rfl (by kernel_rfl) (by kernel_rfl) (by kernel_rfl) (fun _ _ _ h => h) (by kernel_rfl) (by assumption) ?y1n2 ?r1n2; case y1n2 => (intro w hSw; (try dsimp only at hSw); go_simp; try with_reducible rfl); (try simp only [Act.put, List.setIfInBounds_toArray, List.set_cons_zero, List.set_cons_succ])) | (refine skipL (i := 1) rfl (by kernel_rfl) (by kernel_rfl) (by kernel_rfl) (fun _ _ _ h => h) (by kernel_rfl) (by assumption) ?_; (try simp only [Act.put, List.setIfInBounds_toArray, List.set_cons_zero, List.set_cons_succ]))
      first | (refine takeL (i := 2) (v := ?v2n3) rfl (by kernel_rfl) (by kernel_rfl) (by kernel_rfl) (fun _ _ _ h => h) (by kernel_rfl) (by assumption) ?y2n3 ?r2n3; case y2n3 => (intro w hSw; (try dsimp only at hSw); go_simp; try with_reducible rfl); (try simp only [Act.put, List.setIfInBounds_toArray, List.set_cons_zero, List.set_cons_succ])) | (refine skipL (i := 2) rfl (by kernel_rfl) (by kernel_rfl) (by kernel_rfl) (fun _ _ _ h => h) (by kernel_rfl) (by assumption) ?_; (try simp only [Act.put, List.setIfInBounds_toArray, List.set_cons_zero, List.set_cons_succ]))
      first | (refine takeL (i := 3) (v := ?v3n4) rfl (by kernel_rfl) (by kernel_rfl) (by kernel_rfl) (fun _ _ _ h => h) (by kernel_rfl) (by assumption) ?y3n4 ?r3n4; case y3n4 => (intro w hSw; (try dsimp only at hSw); go_simp; try with_reducible rfl); (try simp only [Act.put, List.setIfInBounds_toArray, List.set_cons_zero, List.set_cons_succ])) | (refine skipL (i := 3) rfl (by kernel_rfl) (by kernel_rfl) (by kernel_rfl) (fun _ _ _ h => h) (by kernel_rfl) (by assumption) ?_; (try simp only [Act.put, List.setIfInBounds_toArray, List.set_cons_zero, List.set_cons_succ]))
      refine doL (i := 4) rfl (by kernel_rfl) (fun K hK => ?_)
      go_simp
      (go_at_call 28; refine (GS.underV f1 hHeld).mono ?_; rintro e w2 ⟨rfl, hc2, G2⟩)
      (try go_wp2_with fail)
      refine hK.out _ _ ?_ (fun hHeld2 => ?_)
      · (try dsimp only); (refine ⟨?_, ?_⟩ <;> first | assumption | exact GS.drewN (by assumption) 1 | go_keep)
      clear hK K hHeld
      have hHeld := hHeld2
      clear hHeld2
      try simp only [Act.put, List.setIfInBounds_toArray, List.set_cons_zero, List.set_cons_succ]
      first | (refine takeL (i := 5) (v := ?v5n5) rfl (by kernel_rfl) (by kernel_rfl) (by kernel_rfl) (fun _ _ _ h => h) (by kernel_rfl) (by assumption) ?y5n5 ?r5n5; case y5n5 => (intro w hSw; (try dsimp only at hSw); go_simp; try with_reducible rfl); (try simp only [Act.put, List.setIfInBounds_toArray, List.set_cons_zero, List.set_cons_succ])) | (refine skipL (i := 5) rfl (by kernel_rfl) (by kernel_rfl) (by kernel_rfl) (fun _ _ _ h => h) (by kernel_rfl) (by assumption) ?_; (try simp only [Act.put, List.setIfInBounds_toArray, List.set_cons_zero, List.set_cons_succ]))
      first | (refine takeL (i := 6) (v := ?v6n6) rfl (by kernel_rfl) (by kernel_rfl) (by kernel_rfl) (fun _ _ _ h => h) (by kernel_rfl) (by assumption) ?y6n6 ?r6n6; case y6n6 => (intro w hSw; (try dsimp only at hSw); go_simp; try with_reducible rfl); (try simp only [Act.put, List.setIfInBounds_toArray, List.set_cons_zero, List.set_cons_succ])) | (refine skipL (i := 6) rfl (by kernel_rfl) (by kernel_rfl) (by kernel_rfl) (fun _ _ _ h => h) (by kernel_rfl) (by assumption) ?_; (try simp only [Act.put, List.setIfInBounds_toArray, List.set_cons_zero, List.set_cons_succ]))
      first | (refine takeL (i := 7) (v := ?v7n7) rfl (by kernel_rfl) (by kernel_rfl) (by kernel_rfl) (fun _ _ _ h => h) (by kernel_rfl) (by assumption) ?y7n7 ?r7n7; case y7n7 => (intro w hSw; (try dsimp only at hSw); go_simp; try with_reducible rfl); (try simp only [Act.put, List.setIfInBounds_toArray, List.set_cons_zero, List.set_cons_succ])) | (refine skipL (i := 7) rfl (by kernel_rfl) (by kernel_rfl) (by kernel_rfl) (fun _ _ _ h => h) (by kernel_rfl) (by assumption) ?_; (try simp only [Act.put, List.setIfInBounds_toArray, List.set_cons_zero, List.set_cons_succ]))
      first | (refine takeL (i := 8) (v := ?v8n8) rfl (by kernel_rfl) (by kernel_rfl) (by kernel_rfl) (fun _ _ _ h => h) (by kernel_rfl) (by assumption) ?y8n8 ?r8n8; case y8n8 => (intro w hSw; (try dsimp only at hSw); go_simp; try with_reducible rfl); (try simp only [Act.put, List.setIfInBounds_toArray, List.set_cons_zero, List.set_cons_succ])) | (refine skipL (i := 8) rfl (by kernel_rfl) (by kernel_rfl) (by kernel_rfl) (fun _ _ _ h => h) (by kernel_rfl) (by assumption) ?_; (try simp only [Act.put, List.setIfInBounds_toArray, List.set_cons_zero, List.set_cons_succ]))
      first | (refine takeL (i := 9) (v := ?v9n9) rfl (by kernel_rfl) (by kernel_rfl) (by kernel_rfl) (fun _ _ _ h => h) (by kernel_rfl) (by assumption) ?y9n9 ?r9n9; case y9n9 => (intro w hSw; (try dsimp only at hSw); go_simp; try with_reducible rfl); (try simp only [Act.put, List.setIfInBounds_toArray, List.set_cons_zero, List.set_cons_succ])) | (refine skipL (i := 9) rfl (by kernel_rfl) (by kernel_rfl) (by kernel_rfl) (fun _ _ _ h => h) (by kernel_rfl) (by assumption) ?_; (try simp only [Act.put, List.setIfInBounds_toArray, List.set_cons_zero, List.set_cons_succ]))
      refine doL (i := 10) rfl (by kernel_rfl) (fun K hK => ?_)
      go_simp
      (go_at_call 28; refine (GS.underV f2 hHeld).mono ?_; rintro e w2 ⟨rfl, hc2, G2⟩)
      (try go_wp2_with fail)
      refine hK.out _ _ ?_ (fun hHeld2 => ?_)
      · (try dsimp only); (refine ⟨?_, ?_⟩ <;> first | assumption | exact GS.drewN (by assumption) 1 | go_keep)
      clear hK K hHeld
      have hHeld := hHeld2
      clear hHeld2
      try simp only [Act.put, List.setIfInBounds_toArray, List.set_cons_zero, List.set_cons_succ]
      first | (refine takeL (i := 11) (v := ?v11n10) rfl (by kernel_rfl) (by kernel_rfl) (by kernel_rfl) (fun _ _ _ h => h) (by kernel_rfl) (by assumption) ?y11n10 ?r11n10; case y11n10 => (intro w hSw; (try dsimp only at hSw); go_simp; try with_reducible rfl); (try simp only [Act.put, List.setIfInBounds_toArray, List.set_cons_zero, List.set_cons_succ])) | (refine skipL (i := 11) rfl (by kernel_rfl) (by kernel_rfl) (by kernel_rfl) (fun _ _ _ h => h) (by kernel_rfl) (by assumption) ?_; (try simp only [Act.put, List.setIfInBounds_toArray, List.set_cons_zero, List.set_cons_succ]))
      first | (refine takeL (i := 12) (v := ?v12n11) rfl (by kernel_rfl) (by kernel_rfl) (by kernel_rfl) (fun _ _ _ h => h) (by kernel_rfl) (by assumption) ?y12n11 ?r12n11; case y12n11 => (intro w hSw; (try dsimp only at hSw); go_simp; try with_reducible rfl); (try simp only [Act.put, List.setIfInBounds_toArray, List.set_cons_zero, List.set_cons_succ])) | (refine skipL (i := 12) rfl (by kernel_rfl) (by kernel_rfl) (by kernel_rfl) (fun _ _ _ h => h) (by kernel_rfl) (by assumption) ?_; (try simp only [Act.put, List.setIfInBounds_toArray, List.set_cons_zero, List.set_cons_succ]))
      first | (refine takeL (i := 13) (v := ?v13n12) rfl (by kernel_rfl) (by kernel_rfl) (by kernel_rfl) (fun _ _ _ h => h) (by kernel_rfl) (by assumption) ?y13n12 ?r13n12; case y13n12 => (intro w hSw; (try dsimp only at hSw); go_simp; try with_reducible rfl); (try simp only [Act.put, List.setIfInBounds_toArray, List.set_cons_zero, List.set_cons_succ])) | (refine skipL (i := 13) rfl (by kernel_rfl) (by kernel_rfl) (by kernel_rfl) (fun _ _ _ h => h) (by kernel_rfl) (by assumption) ?_; (try simp only [Act.put, List.setIfInBounds_toArray, List.set_cons_zero, List.set_cons_succ]))
      first | (refine takeL (i := 14) (v := ?v14n13) rfl (by kernel_rfl) (by kernel_rfl) (by kernel_rfl) (fun _ _ _ h => h) (by kernel_rfl) (by assumption) ?y14n13 ?r14n13; case y14n13 => (intro w hSw; (try dsimp only at hSw); go_simp; try with_reducible rfl); (try simp only [Act.put, List.setIfInBounds_toArray, List.set_cons_zero, List.set_cons_succ])) | (refine skipL (i := 14) rfl (by kernel_rfl) (by kernel_rfl) (by kernel_rfl) (fun _ _ _ h => h) (by kernel_rfl) (by assumption) ?_; (try simp only [Act.put, List.setIfInBounds_toArray, List.set_cons_zero, List.set_cons_succ]))
      first | (refine takeL (i := 15) (v := ?v15n14) rfl (by kernel_rfl) (by kernel_rfl) (by kernel_rfl) (fun _ _ _ h => h) (by kernel_rfl) (by assumption) ?y15n14 ?r15n14; case y15n14 => (intro w hSw; (try dsimp only at hSw); go_simp; try with_reducible rfl); (try simp only [Act.put, List.setIfInBounds_toArray, List.set_cons_zero, List.set_cons_succ])) | (refine skipL (i := 15) rfl (by kernel_rfl) (by kernel_rfl) (by kernel_rfl) (fun _ _ _ h => h) (by kernel_rfl) (by assumption) ?_; (try simp only [Act.put, List.setIfInBounds_toArray, List.set_cons_zero, List.set_cons_succ]))
      first | (refine takeL (i := 16) (v := ?v16n15) rfl (by kernel_rfl) (by kernel_rfl) (by kernel_rfl) (fun _ _ _ h => h) (by kernel_rfl) (by assumption) ?y16n15 ?r16n15; case y16n15 => (intro w hSw; (try dsimp only at hSw); go_simp; try with_reducible rfl); (try simp only [Act.put, List.setIfInBounds_toArray, List.set_cons_zero, List.set_cons_succ])) | (refine skipL (i := 16) rfl (by kernel_rfl) (by kernel_rfl) (by kernel_rfl) (fun _ _ _ h => h) (by kernel_rfl) (by assumption) ?_; (try simp only [Act.put, List.setIfInBounds_toArray, List.set_cons_zero, List.set_cons_succ]))
      first | (refine takeL (i := 18) (v := ?v18n16) rfl (by kernel_rfl) (by kernel_rfl) (by kernel_rfl) (fun _ _ _ h => h) (by kernel_rfl) (by assumption) ?y18n16 ?r18n16; case y18n16 => (intro w hSw; (try dsimp only at hSw); go_simp; try with_reducible rfl); (try simp only [Act.put, List.setIfInBounds_toArray, List.set_cons_zero, List.set_cons_succ])) | (refine skipL (i := 18) rfl (by kernel_rfl) (by kernel_rfl) (by kernel_rfl) (fun _ _ _ h => h) (by kernel_rfl) (by assumption) ?_; (try simp only [Act.put, List.setIfInBounds_toArray, List.set_cons_zero, List.set_cons_succ]))
      first | (refine takeL (i := 19) (v := ?v19n17) rfl (by kernel_rfl) (by kernel_rfl) (by kernel_rfl) (fun _ _ _ h => h) (by kernel_rfl) (by assumption) ?y19n17 ?r19n17; case y19n17 => (intro w hSw; (try dsimp only at hSw); go_simp; try with_reducible rfl); (try simp only [Act.put, List.setIfInBounds_toArray, List.set_cons_zero, List.set_cons_succ])) | (refine skipL (i := 19) rfl (by kernel_rfl) (by kernel_rfl) (by kernel_rfl) (fun _ _ _ h => h) (by kernel_rfl) (by assumption) ?_; (try simp only [Act.put, List.setIfInBounds_toArray, List.set_cons_zero, List.set_cons_succ]))
      first | (refine takeL (i := 20) (v := ?v20n18) rfl (by kernel_rfl) (by kernel_rfl) (by kernel_rfl) (fun _ _ _ h => h) (by kernel_rfl) (by assumption) ?y20n18 ?r20n18; case y20n18 => (intro w hSw; (try dsimp only at hSw); go_simp; try with_reducible rfl); (try simp only [Act.put, List.setIfInBounds_toArray, List.set_cons_zero, List.set_cons_succ])) | (refine skipL (i := 20) rfl (by kernel_rfl) (by kernel_rfl) (by kernel_rfl) (fun _ _ _ h => h) (by kernel_rfl) (by assumption) ?_; (try simp only [Act.put, List.setIfInBounds_toArray, List.set_cons_zero, List.set_cons_succ]))
      first | (refine takeL (i := 21) (v := ?v21n19) rfl (by kernel_rfl) (by kernel_rfl) (by kernel_rfl) (fun _ _ _ h => h) (by kernel_rfl) (by assumption) ?y21n19 ?r21n19; case y21n19 => (intro w hSw; (try dsimp only at hSw); go_simp; try with_reducible rfl); (try simp only [Act.put, List.setIfInBounds_toArray, List.set_cons_zero, List.set_cons_succ])) | (refine skipL (i := 21) rfl (by kernel_rfl) (by kernel_rfl) (by kernel_rfl) (fun _ _ _ h => h) (by kernel_rfl) (by assumption) ?_; (try simp only [Act.put, List.setIfInBounds_toArray, List.set_cons_zero, List.set_cons_succ]))
      refine doL (i := 17) rfl (by kernel_rfl) (fun K hK => ?_)
      go_simp
      (go_at_call 28; refine (GS.underV f4 hHeld).mono ?_; rintro e w2 ⟨rfl, hc2, G2⟩)
      (try go_wp2_with fail)
      refine hK.out _ _ ?_ (fun hHeld2 => ?_)
      · (try dsimp only); (refine ⟨?_, ?_⟩ <;> first | assumption | exact GS.drewN (by assumption) 1 | go_keep)
      clear hK K hHeld
      have hHeld := hHeld2
      clear hHeld2
      try simp only [Act.put, List.setIfInBounds_toArray, List.set_cons_zero, List.set_cons_succ]
      refine doL (i := 22) rfl (by kernel_rfl) (fun K hK => ?_)
      go_simp
      (go_at_call 28; refine (GS.underV f5 hHeld).mono ?_; rintro e w2 ⟨rfl, hc2, G2⟩)
      (try go_wp2_with fail)
      refine hK.out _ _ ?_ (fun hHeld2 => ?_)
      · (try dsimp only); (refine ⟨?_, ?_⟩ <;> first | assumption | exact GS.drewN (by assumption) 1 | go_keep)
      clear hK K hHeld
      have hHeld := hHeld2
      clear hHeld2
      try simp only [Act.put, List.setIfInBounds_toArray, List.set_cons_zero, List.set_cons_succ]
      first | (refine takeL (i := 23) (v := ?v23n20) rfl (by kernel_rfl) (by kernel_rfl) (by kernel_rfl) (fun _ _ _ h => h) (by kernel_rfl) (by assumption) ?y23n20 ?r23n20; case y23n20 => (intro w hSw; (try dsimp only at hSw); go_simp; try with_reducible rfl); (try simp only [Act.put, List.setIfInBounds_toArray, List.set_cons_zero, List.set_cons_succ])) | (refine skipL (i := 23) rfl (by kernel_rfl) (by kernel_rfl) (by kernel_rfl) (fun _ _ _ h => h) (by kernel_rfl) (by assumption) ?_; (try simp only [Act.put, List.setIfInBounds_toArray, List.set_cons_zero, List.set_cons_succ]))
      first | (refine skipL (i := 24) rfl (by kernel_rfl) (by kernel_rfl) (by kernel_rfl) (fun _ _ _ h => h) (by kernel_rfl) (by assumption) ?_; (try simp only [Act.put, List.setIfInBounds_toArray, List.set_cons_zero, List.set_cons_succ])) | (refine takeL (i := 24) (v := ?v24n21) rfl (by kernel_rfl) (by kernel_rfl) (by kernel_rfl) (fun _ _ _ h => h) (by kernel_rfl) (by assumption) ?y24n21 ?r24n21; case y24n21 => (intro w hSw; (try dsimp only at hSw); go_simp; try with_reducible rfl); (try simp only [Act.put, List.setIfInBounds_toArray, List.set_cons_zero, List.set_cons_succ]))
      first | (refine skipL (i := 25) rfl (by kernel_rfl) (by kernel_rfl) (by kernel_rfl) (fun _ _ _ h => h) (by kernel_rfl) (by assumption) ?_; (try simp only [Act.put, List.setIfInBounds_toArray, List.set_cons_zero, List.set_cons_succ])) | (refine takeL (i := 25) (v := ?v25n22) rfl (by kernel_rfl) (by kernel_rfl) (by kernel_rfl) (fun _ _ _ h => h) (by kernel_rfl) (by assumption) ?y25n22 ?r25n22; case y25n22 => (intro w hSw; (try dsimp only at hSw); go_simp; try with_reducible rfl); (try simp only [Act.put, List.setIfInBounds_toArray, List.set_cons_zero, List.set_cons_succ]))
      first | (refine skipL (i := 26) rfl (by kernel_rfl) (by kernel_rfl) (by kernel_rfl) (fun _ _ _ h => h) (by kernel_rfl) (by assumption) ?_; (try simp only [Act.put, List.setIfInBounds_toArray, List.set_cons_zero, List.set_cons_succ])) | (refine takeL (i := 26) (v := ?v26n23) rfl (by kernel_rfl) (by kernel_rfl) (by kernel_rfl) (fun _ _ _ h => h) (by kernel_rfl) (by assumption) ?y26n23 ?r26n23; case y26n23 => (intro w hSw; (try dsimp only at hSw); go_simp; try with_reducible rfl); (try simp only [Act.put, List.setIfInBounds_toArray, List.set_cons_zero, List.set_cons_succ]))
      refine skipL (i := 27) rfl (by kernel_rfl) (by kernel_rfl) (by kernel_rfl) (fun _ _ _ h => h) (by kernel_rfl) (by assumption) ?_; (try simp only [Act.put, List.setIfInBounds_toArray, List.set_cons_zero, List.set_cons_succ])
      first | (refine takeL (i := 28) (v := ?v28n24) rfl (by kernel_rfl) (by kernel_rfl) (by kernel_rfl) (fun _ _ _ h => h) (by kernel_rfl) (by assumption) ?y28n24 ?r28n24; case y28n24 => (intro w hSw; (try dsimp only at hSw); go_simp; try with_reducible rfl); (try simp only [Act.put, List.setIfInBounds_toArray, List.set_cons_zero, List.set_cons_succ])) | (refine skipL (i := 28) rfl (by kernel_rfl) (by kernel_rfl) (by kernel_rfl) (fun _ _ _ h => h) (by kernel_rfl) (by assumption) ?_; (try simp only [Act.put, List.setIfInBounds_toArray, List.set_cons_zero, List.set_cons_succ]))
      first | (refine takeL (i := 29) (v := ?v29n25) rfl (by kernel_rfl) (by kernel_rfl) (by kernel_rfl) (fun _ _ _ h => h) (by kernel_rfl) (by assumption) ?y29n25 ?r29n25; case y29n25 => (intro w hSw; (try dsimp only at hSw); go_simp; try with_reducible rfl); (try simp only [Act.put, List.setIfInBounds_toArray, List.set_cons_zero, List.set_cons_succ])) | (refine skipL (i := 29) rfl (by kernel_rfl) (by kernel_rfl) (by kernel_rfl) (fun _ _ _ h => h) (by kernel_rfl) (by assumption) ?_; (try simp only [Act.put, List.setIfInBounds_toArray, List.set_cons_zero, List.set_cons_succ]))
      first | (refine takeL (i := 30) (v := ?v30n26) rfl (by kernel_rfl) (by kernel_rfl) (by kernel_rfl) (fun _ _ _ h => h) (by kernel_rfl) (by assumption) ?y30n26 ?r30n26; case y30n26 => (intro w hSw; (try dsimp only at hSw); go_simp; try with_reducible rfl); (try simp only [Act.put, List.setIfInBounds_toArray, List.set_cons_zero, List.set_cons_succ])) | (refine skipL (i := 30) rfl (by kernel_rfl) (by kernel_rfl) (by kernel_rfl) (fun _ _ _ h => h) (by kernel_rfl) (by assumption) ?_; (try simp only [Act.put, List.setIfInBounds_toArray, List.set_cons_zero, List.set_cons_succ]))
      first | (refine takeL (i := 31) (v := ?v31n27) rfl (by kernel_rfl) (by kernel_rfl) (by kernel_rfl) (fun _ _ _ h => h) (by kernel_rfl) (by assumption) ?y31n27 ?r31n27; case y31n27 => (intro w hSw; (try dsimp only at hSw); go_simp; try with_reducible rfl); (try simp only [Act.put, List.setIfInBounds_toArray, List.set_cons_zero, List.set_cons_succ])) | (refine skipL (i := 31) rfl (by kernel_rfl) (by kernel_rfl) (by kernel_rfl) (fun _ _ _ h => h) (by kernel_rfl) (by assumption) ?_; (try simp only [Act.put, List.setIfInBounds_toArray, List.set_cons_zero, List.set_cons_succ]))
      refine wpAnyH_done (by kernel_rfl) ?_ _
      all_goals
        go_wp2_with fail
        go_ret
        exact ⟨rfl, GS.bel (by assumption)⟩
end Go.Proofs.YtfnipbnchkonoaaDoor
