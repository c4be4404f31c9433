/- The law of a group more behind drawn groups. -/
import Derived.Test.YtejkebfhiddhmaaDoorKaMore
import Derived.Test.YtejkebfhiddhmaaDoorWalkFnKinUnder
namespace Go.Proofs.YtejkebfhiddhmaaDoor
open Go.ChangeShapes Go.WideShapes Go.ChangeAt Go.RowKit Go.Deep
set_option linter.unusedVariables false

def rowT (n : Int) : Ty := ⟨2, -1, false, [⟨3, n, false⟩]⟩
theorem rowT_ok {gs : List (List Ty)} (h : kinOkF gs = true) (h1 : gs.length < 4) (h2 : kinCount gs < 8) : kinOkF (gs ++ [[rowT (kinCount gs : Nat)]]) = true := by
  have hP := kinOk_parts h
  refine kinOk_snoc h ⟨by simp; omega, by rw [kinCount_snoc]; simp; omega, fun x hx => ?_⟩ (fun i hi => .inl ?_)
  · by_cases c : x < gs.length
    · rw [grAt_append_left _ _ _ c, countTo_more (by omega)]
      exact hP.2.2 x c
    · have : x = gs.length := by simp at hx; omega
      subst this
      rw [grAt_append_one, countTo_more (Nat.le_refl _)]
      refine ⟨by simp, fun i hi => ?_⟩
      have : i = 0 := by simp at hi; omega
      subst this
      have e : countTo (grAt gs) gs.length = kinCount gs := rfl
      rw [e]
      simp [tyAt, rowT, formOk, allTo, fdAt, fieldOk]
      omega
  · have : i = 0 := by simp at hi; omega
    subst this
    simp [tyAt, rowT]
theorem underB_more {gs hs : List (List Ty)} {a b : Int} (h : kinOkF (gs ++ hs) = true) (ha : a < (kinCount gs : Int)) (hb : b < (kinCount gs : Int)) : underB (gs ++ hs) a b = underB gs a b := by
  have hk := kinOk_less h
  have hc := kinCount_more (gs := gs) (hs := hs)
  unfold underB isRefF
  rw [h, hk, under_more (kinOk_parts hk) ha hb]
  have e1 : decide (a < (kinCount (gs ++ hs) : Int)) = decide (a < (kinCount gs : Int)) := by simp; omega
  have e2 : decide (b < (kinCount (gs ++ hs) : Int)) = decide (b < (kinCount gs : Int)) := by simp; omega
  rw [e1, e2]
theorem canonF_more {gs hs : List (List Ty)} {a : Int} (h : kinOkF (gs ++ hs) = true) (ha : a < (kinCount gs : Int)) : canonF (gs ++ hs) a = canonF gs a := by
  have hk := kinOk_less h
  have hc := kinCount_more (gs := gs) (hs := hs)
  unfold canonF isTypeF
  have e1 : decide (a < (kinCount (gs ++ hs) : Int)) = decide (a < (kinCount gs : Int)) := by simp; omega
  rw [h, hk, e1]
  by_cases c : 0 ≤ a
  · rw [canon_more (by omega)]
  · simp [c]
theorem sameB_more {gs hs : List (List Ty)} {a b : Int} (h : kinOkF (gs ++ hs) = true) (ha : a < (kinCount gs : Int)) (hb : b < (kinCount gs : Int)) : sameB (gs ++ hs) a b = sameB gs a b := by
  rw [sameB_canon, sameB_canon, canonF_more h ha, canonF_more h hb]

set_option maxHeartbeats 4000000 in
set_option maxRecDepth 100000 in
theorem fnKinMore_walk (a0 : Option Addr) (cap0 n0 : Nat) (hc0 : n0 ≤ cap0) (w : World) (h0 : BytesIn w w.heap.size a0 n0) (ht : pow10 w) :
    Calls Tryd.prog 13 #[.slice a0 n0 cap0] w fun e w' => e = .returned (.bool true) ∧ Below w.heap.size w w' := by
  by_cases l0 : 1048576 < n0
  · have k0 : (1048576 : Int) < (n0 : Int) := by omega
    go_enter Tryd.func13, Tryd.ntmps13
    go_wp2_with fail
    go_ret
    exact ⟨rfl, Below.refl _ _⟩
  obtain ⟨i1, hi1, hzz⟩ := Option.map_eq_some_iff.1 Tryd.infoTypeS
  simp only [Prod.mk.injEq] at hzz
  obtain ⟨hz1, hs1, hb1⟩ := hzz
  have HZ1 := hide hz1
  have HS1 := hide hs1
  have HB1 := hide hb1
  have HI1 := hide hi1
  clear hz1 hs1 hb1 hi1
  have k0 : (n0 : Int) ≤ 1048576 := by omega
  go_enter Tryd.func13, Tryd.ntmps13
  go_wp2_with fail
  refine (drawKinUnder_any a0 cap0 n0 w hc0 h0 ht).mono ?_
  rintro e w1 ⟨gs, ga, gc, a, b, rfl, G1, ⟨a1, a2⟩, b1, b2⟩
  have n2 := G1.count
  obtain ⟨x, hx⟩ : ∃ x, underB gs a b = x := ⟨_, rfl⟩
  have HX := hide hx
  clear hx
  have gl : gs.length ≤ 1048576 := G1.few.1
  cases hk : kinOkF gs
  · have HK := hide hk
    clear hk
    go_wp2_with fail
    refine G1.implCount.mono ?_
    rintro e w2 ⟨rfl, rfl⟩
    go_wp2_with fail
    refine (G1.implUnder HX.out).mono ?_
    rintro e w3 ⟨rfl, _, G3⟩
    clear G1
    go_wp2_with fail
    refine (G3.specUnder HX.out).mono ?_
    rintro e w4 ⟨rfl, _, G4⟩
    clear G3
    go_wp2_with fail
    refine (G4.specOk HK.out).mono ?_
    rintro e w5 ⟨rfl, _, G5⟩
    clear G4
    go_wp2_with fail
    refine (G5.implUnder HX.out).mono ?_
    rintro e w6 ⟨rfl, _, G6⟩
    clear G5
    go_wp2_with fail
    refine (G6.specUnder HX.out).mono ?_
    rintro e w7 ⟨rfl, _, G7⟩
    clear G6
    go_wp2_with fail
    go_ret
    exact ⟨rfl, G7.bel⟩
  have HK := hide hk
  by_cases hr : (kinCount gs : Int) < 8 ∧ (gs.length : Int) < 4 ∧ a < (kinCount gs : Int) ∧ b < (kinCount gs : Int)
  · obtain ⟨r1, r2, r3, r4⟩ := hr
    have hok := rowT_ok hk (by omega) (by omega)
    have HO := hide hok
    obtain ⟨y, hy⟩ : ∃ y, sameB gs a b = y := ⟨_, rfl⟩
    obtain ⟨A, hA⟩ : ∃ A, canonF gs a = A := ⟨_, rfl⟩
    have HY := hide hy
    have HA := hide hA
    have HX2 : Hid (underB (gs ++ [[rowT (kinCount gs : Nat)]]) a b = x) := (underB_more hok r3 r4).trans HX.out
    have HY2 : Hid (sameB (gs ++ [[rowT (kinCount gs : Nat)]]) a b = y) := (sameB_more hok r3 r4).trans hy
    have HA2 : Hid (canonF (gs ++ [[rowT (kinCount gs : Nat)]]) a = A) := (canonF_more hok r3).trans hA
    have kc : kinCount (gs ++ [[rowT (kinCount gs : Nat)]]) = kinCount gs + 1 := by rw [kinCount_snoc]; rfl
    have HN1 : Hid (underB (gs ++ [[rowT (kinCount gs : Nat)]]) (kinCount gs : Nat) (kinCount gs : Nat) = true) := by show _ = _; rw [underB_of hok (by omega) (by omega) (by omega) (by omega)]; exact under_refl _ _
    have HN2 : Hid (underB (gs ++ [[rowT (kinCount gs : Nat)]]) (-1) (kinCount gs : Nat) = false) := by show _ = _; rw [underB_of hok (by omega) (by omega) (by omega) (by omega), any_under]; simp
    have KE : Hid ((gs ++ [[rowT (kinCount gs : Nat)]]).length = gs.length + 1) := by show _ = _; simp
    clear hy hA hk hok kc
    go_wp2_with fail
    refine G1.implCount.mono ?_
    rintro e w2 ⟨rfl, rfl⟩
    go_wp2_with fail
    refine (G1.implUnder HX.out).mono ?_
    rintro e w3 ⟨rfl, _, G3⟩
    clear G1
    go_wp2_with fail
    refine (G3.specUnder HX.out).mono ?_
    rintro e w4 ⟨rfl, _, G4⟩
    clear G3
    go_wp2_with fail
    refine (G4.specOk HK.out).mono ?_
    rintro e w5 ⟨rfl, _, G5⟩
    clear G4
    obtain ⟨xs, hi, hhi, hxl, hx1, hxc, hga, hxg⟩ := G5.heads
    have HXC := hide hxc
    have HX1C := hide hx1
    have HXG := hide hxg
    clear hxc hx1 hxg
    generalize kinCount gs = n at *
    go_wp2_with (first
      | (at_builtin; (refine wpList_append_lies _ rfl _ _ 23 rfl w5.heap.size 41 i1 _ 1 24 Tryd.underlying23 HI1.out HZ1.out HS1.out HB1.out rfl (by decide) v5 gs.length xs rfl (((HO5.out.alloc _).alloc _).alloc _) ⟨wA.heap.size + 1 + 1, 0, none⟩ 1 1 [.slice (some ⟨wA.heap.size + 1, 0, none⟩) 1 1] rfl rfl (World.news_of_block (by have := Deep.blk_alloc_new ((wA.alloc (.cells #[.int .i64 3, .int .i64 n, .bool false] 35)).alloc (.cells #[.int .i64 2, .int .i64 (-1), .bool false, .slice (some ⟨wA.heap.size, 0, none⟩) 1 1] 28)) (.cells #[.slice (some ⟨wA.heap.size + 1, 0, none⟩) 1 1] 41); simpa using this)) (by intro u hu; simp at hu; subst hu; rfl) (by decide) (by unfold maxLen; omega) (by omega) (by simp; omega) _ rfl ?_; intro g6 cap6 w6 hown6 hgr6 hat6 hlt6))
      | (at_builtin; (refine wpList_append_own_at _ rfl _ _ 23 rfl w5.heap.size 41 i1 _ 1 24 Tryd.underlying23 HI1.out HZ1.out HS1.out HB1.out rfl (by decide) (.slice (some ⟨w5.heap.size, 0, none⟩) 0 0) 0 [] rfl (empty_row _ _ _ _ 1 (Deep.blk_alloc_new _ _) (Nat.le_refl _)) ⟨ga, 0, none⟩ gs.length _ xs rfl (by first | omega | (simp; omega)) (fun j u hj => by rw [add_plain, Nat.zero_add, World.cell?_alloc_past _ _ _ (by have := (List.getElem?_eq_some_iff.1 hj).1; have := hga (by omega); show ga < _; omega)]; exact HXC.out j u hj) HX1C.out (by unfold maxLen; omega) (by omega) (by simp) ?_; intro v5 wA hown5 hgr5 hnil5 hat5; rw [Nat.zero_add, List.nil_append] at hown5; have HO5 := hide hown5; have B5 : Hid (Below w5.heap.size w5 wA) := ((Below.refl _ _).alloc (Nat.le_refl _) _).grown hgr5 (by simp) (fun k hk => by simp [Value.ownBlock] at hk; omega); have z45 : w5.heap.size ≤ wA.heap.size := B5.out.size; clear hown5 hgr5)))
    have BW : Below w5.heap.size w5 w6 := (((B5.out.alloc z45 _).alloc (by simp; omega) _).alloc (by simp; omega) _).grown hgr6 (by simp; omega) (owns_base HO5.out)
    have hq : ∀ q, v5.ownBlock = some q → q < wA.heap.size := owns_lt HO5.out
    have k1 := grown_blk hgr6 (k := wA.heap.size) (by rw [Below.heap_alloc _ _ _ (by simp; omega), Below.heap_alloc _ _ _ (by simp)]; exact Deep.blk_alloc_new _ _) hq (Nat.le_refl _)
    have k2 := grown_blk hgr6 (k := wA.heap.size + 1) (by rw [Below.heap_alloc _ _ _ (by simp)]; have := Deep.blk_alloc_new (wA.alloc (.cells #[.int .i64 3, .int .i64 n, .bool false] 35)) (.cells #[.int .i64 2, .int .i64 (-1), .bool false, .slice (some ⟨wA.heap.size, 0, none⟩) 1 1] 28); simpa using this) hq (by omega)
    have z6 : wA.heap.size + 1 < w6.heap.size := (Array.getElem?_eq_some_iff.1 k2).1
    have z0 : w.heap.size ≤ w5.heap.size := G5.bel.size
    have T6 : TypesIn w6 w.heap.size w6.heap.size (some ⟨wA.heap.size + 1, 0, none⟩) [rowT (n : Int)] := .inr ⟨wA.heap.size + 1, 0, rfl, by omega, z6, fun i hi => by
      have : i = 0 := by simp at hi; omega
      subst this
      exact type_blk k2 0 rfl rfl rfl rfl (fields_one (f := ⟨3, n, false⟩) k1 (by omega) (by omega))⟩
    have GH : GS w w6 g6 cap6 (gs ++ [[rowT (n : Int)]]) := G5.snoc hhi hxl HXG.out BW (by omega) hown6 rfl T6 (by omega) (by simp) (fun j hj => by obtain rfl : j = 0 := (by simp at hj; omega); simp [tyAt, rowT])
    have G9 := G5.keep BW
    clear hown6 hgr6 hat6 hlt6 BW hq k1 k2 T6 HO5 B5 HXC HX1C HXG hnil5 hat5 G5
    generalize hG : gs ++ [[rowT (n : Int)]] = hs at *
    rw [← KE.out]
    clear hG
    go_wp2_with fail
    refine (GH.implOk HO.out).mono ?_
    rintro e w21 ⟨rfl, bb, GH'⟩
    replace G9 := G9.keep bb
    clear bb GH
    have GH := GH'
    clear GH'
    go_wp2_with fail
    refine (GH.implUnder HX2.out).mono ?_
    rintro e w22 ⟨rfl, bb, GH'⟩
    replace G9 := G9.keep bb
    clear bb GH
    have GH := GH'
    clear GH'
    go_wp2_with fail
    refine (G9.implUnder HX.out).mono ?_
    rintro e w23 ⟨rfl, bb, G9'⟩
    replace GH := GH.keep bb
    clear bb G9
    have G9 := G9'
    clear G9'
    go_wp2_with fail
    refine (GH.implSame HY2.out).mono ?_
    rintro e w24 ⟨rfl, bb, GH'⟩
    replace G9 := G9.keep bb
    clear bb GH
    have GH := GH'
    clear GH'
    go_wp2_with fail
    refine (G9.implSame HY.out).mono ?_
    rintro e w25 ⟨rfl, bb, G9'⟩
    replace GH := GH.keep bb
    clear bb G9
    have G9 := G9'
    clear G9'
    go_wp2_with fail
    refine (GH.implCanon HA2.out).mono ?_
    rintro e w26 ⟨rfl, bb, GH'⟩
    replace G9 := G9.keep bb
    clear bb GH
    have GH := GH'
    clear GH'
    go_wp2_with fail
    refine (G9.implCanon HA.out).mono ?_
    rintro e w27 ⟨rfl, bb, G9'⟩
    replace GH := GH.keep bb
    clear bb G9
    have G9 := G9'
    clear G9'
    go_wp2_with fail
    refine (GH.implUnder HN1.out).mono ?_
    rintro e w28 ⟨rfl, bb, GH'⟩
    replace G9 := G9.keep bb
    clear bb GH
    have GH := GH'
    clear GH'
    go_wp2_with fail
    refine (GH.implUnder HN2.out).mono ?_
    rintro e w29 ⟨rfl, bb, GH'⟩
    replace G9 := G9.keep bb
    clear bb GH
    have GH := GH'
    clear GH'
    go_wp2_with fail
    go_ret
    exact ⟨rfl, GH.bel⟩
  · have hcase : (8 : Int) ≤ (kinCount gs : Int) ∨ ((kinCount gs : Int) < 8 ∧ (4 : Int) ≤ (gs.length : Int)) ∨ ((kinCount gs : Int) < 8 ∧ (gs.length : Int) < 4 ∧ (kinCount gs : Int) ≤ a) ∨ ((kinCount gs : Int) < 8 ∧ (gs.length : Int) < 4 ∧ a < (kinCount gs : Int) ∧ (kinCount gs : Int) ≤ b) := by omega
    clear hk hr
    rcases hcase with c1 | ⟨c1, c2⟩ | ⟨c1, c2, c3⟩ | ⟨c1, c2, c3, c4⟩
    all_goals
      go_wp2_with fail
      refine G1.implCount.mono ?_
      rintro e w2 ⟨rfl, rfl⟩
      go_wp2_with fail
      refine (G1.implUnder HX.out).mono ?_
      rintro e w3 ⟨rfl, _, G3⟩
      clear G1
      go_wp2_with fail
      refine (G3.specUnder HX.out).mono ?_
      rintro e w4 ⟨rfl, _, G4⟩
      clear G3
      go_wp2_with fail
      refine (G4.specOk HK.out).mono ?_
      rintro e w5 ⟨rfl, _, G5⟩
      clear G4
      go_wp2_with fail
      refine (G5.implUnder HX.out).mono ?_
      rintro e w6 ⟨rfl, _, G6⟩
      clear G5
      go_wp2_with fail
      refine (G6.specUnder HX.out).mono ?_
      rintro e w7 ⟨rfl, _, G7⟩
      clear G6
      go_wp2_with fail
      go_ret
      exact ⟨rfl, G7.bel⟩
end Go.Proofs.YtejkebfhiddhmaaDoor
