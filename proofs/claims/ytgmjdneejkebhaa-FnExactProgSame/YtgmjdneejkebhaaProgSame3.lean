/- ProgSame of the model. -/
import Derived.Test.YtgmjdneejkebhaaProgSame2
namespace Go.Proofs.Ytgmjdneejkebhaa
open Go.ChangeShapes Go.WideShapes Go.ChangeAt Go.RowKit Go.Joins Go.Deep
set_option linter.unusedVariables false

/-- Two lists of groups of one length, at their places. -/
theorem GroupsM.both {md md' : Bool} {w : World} {lo hi lo' hi' : Nat} {a a' : Option Addr} {xs ys : List (List Ty)} (h : GroupsM md w lo hi a xs) (h' : GroupsM md' w lo' hi' a' ys) (e : ys.length = xs.length) :
    xs.length ≤ 0 ∨ ∃ b off b' off', a = some ⟨b, off, none⟩ ∧ a' = some ⟨b', off', none⟩ ∧ b < hi ∧ b' < hi' ∧ (∀ i, i < xs.length → GroupAt w lo hi b (off + i) (grAt xs i)) ∧ (∀ i, i < xs.length → GroupAt w lo' hi' b' (off' + i) (grAt ys i)) := by
  rcases h.1 with rfl | ⟨b, off, rfl, h1, h2, h3⟩
  · exact .inl (Nat.le_refl _)
  · rcases h'.1 with rfl | ⟨b', off', rfl, h1', h2', h3'⟩
    · exact .inl (by rw [← e]; exact Nat.le_refl _)
    · exact .inr ⟨b, off, b', off', rfl, rfl, h2, h2', h3, fun i hi => h3' i (by omega)⟩
theorem FunsM.both {md md' : Bool} {w : World} {lo hi lo' hi' : Nat} {a a' : Option Addr} {xs ys : List GFun} (h : FunsM md w lo hi a xs) (h' : FunsM md' w lo' hi' a' ys) (e : ys.length = xs.length) :
    xs.length ≤ 0 ∨ ∃ b off b' off', a = some ⟨b, off, none⟩ ∧ a' = some ⟨b', off', none⟩ ∧ (lo ≤ b ∧ b < hi) ∧ (lo' ≤ b' ∧ b' < hi') ∧ (∀ i, i < xs.length → FunAt false w lo hi b (off + i * 6) (funAt' xs i)) ∧ (∀ i, i < xs.length → FunAt false w lo' hi' b' (off' + i * 6) (funAt' ys i)) := by
  rcases h.plain with rfl | ⟨b, off, rfl, h1, h2, _, h3⟩
  · exact .inl (Nat.le_refl _)
  · rcases h'.plain with rfl | ⟨b', off', rfl, h1', h2', _, h3'⟩
    · exact .inl (by rw [← e]; exact Nat.le_refl _)
    · exact .inr ⟨b, off, b', off', rfl, rfl, ⟨h1, h2⟩, ⟨h1', h2'⟩, h3, fun i hi => h3' i (by omega)⟩

set_option maxHeartbeats 1600000 in
theorem specProgSame_eq {md md' : Bool} (a0 a1 a2 b0 b1 b2 : Option Addr) (c0 c1 c2 d0 d1 d2 lo hi lo' hi' : Nat) (x y : GProg) (w : World) (hx : ProgB 1048576 x) (hy : ProgB 1048576 y)
    (g0 : GroupsM md w lo hi a0 x.types) (g1 : FieldsM md w lo hi a1 x.glob) (g2 : FunsM md w lo hi a2 x.funs) (k0 : GroupsM md' w lo' hi' b0 y.types) (k1 : FieldsM md' w lo' hi' b1 y.glob) (k2 : FunsM md' w lo' hi' b2 y.funs) (hh : hi ≤ w.heap.size) (hh' : hi' ≤ w.heap.size) (hl0 : y.types.length = x.types.length) (hl2 : y.funs.length = x.funs.length) (hg : fdsSame x.glob y.glob = true) :
    Calls Try.prog 12 #[.agg #[.slice a0 x.types.length c0, .slice a1 x.glob.length c1, .slice a2 x.funs.length c2], .agg #[.slice b0 y.types.length d0, .slice b1 y.glob.length d1, .slice b2 y.funs.length d2]] w fun e w' => e = .returned (.bool (progSame x y)) ∧ Below w.heap.size w w' := by
  have L0 : x.types.length ≤ 1048576 := hx.1.1
  have L2 : x.funs.length ≤ 1048576 := hx.2.2.1
  have HG := hide hg
  have HX := hide hx
  have HY := hide hy
  have HL0 := hide hl0
  have HL2 := hide hl2
  have G0 := hide g0
  have G1 := hide g1
  have G2 := hide g2
  have K0 := hide k0
  have K1 := hide k1
  have K2 := hide k2
  have HH := hide hh
  have HH' := hide hh'
  rw [hl0, hl2]
  clear hg hx hy g0 g1 g2 k0 k1 k2 hl0 hl2 hh hh'
  have HN : Hid (progSame x y = (upTo (fun i => tysSame (grAt x.types i) (grAt y.types i)) x.types.length && upTo (fun i => funSame (funAt' x.funs i) (funAt' y.funs i)) x.funs.length)) := by
    show progSame x y = _
    simp [progSame, grsSame, funsSame, HG.out, HL0.out, HL2.out]
  go_enter Try.func12, Try.ntmps12
  go_wp2_with fail
  refine (l3Fields_any a1 b1 c1 d1 lo hi lo' hi' x.glob y.glob _ HX.out.2.1 HY.out.2.1 (G1.out.keep (Below.mono (by (repeat (first | refine Below.al ?_ (Nat.le_refl _) _ | exact Below.refl _ _))) HH.out)) (K1.out.keep (Below.mono (by (repeat (first | refine Below.al ?_ (Nat.le_refl _) _ | exact Below.refl _ _))) HH'.out))).mono ?_
  rintro e w1 ⟨rfl, q0, hq⟩
  rw [HG.out]
  have B1 : Hid (Below w.heap.size w w1) := by
    show Below w.heap.size w w1
    rw [hq]
    exact below_drewN (by (repeat (first | refine Below.al ?_ (Nat.le_refl _) _ | exact Below.refl _ _))) _
  have P1 : Hid (Rec w1 w.heap.size 43 [.slice a0 x.types.length c0, .slice a1 x.glob.length c1, .slice a2 x.funs.length c2]) := by
    show Rec _ _ _ _
    rw [hq]
    exact (Rec.new' w _ _ _ rfl).alloc _
  have R1 : Hid (Rec w1 (w.heap.size + 1) 43 [.slice b0 x.types.length d0, .slice b1 y.glob.length d1, .slice b2 x.funs.length d2]) := by
    show Rec _ _ _ _
    rw [hq]
    exact Rec.new' _ _ _ _ (by simp)
  have s1 := R1.out.lt
  clear hq
  have p0 := P1.out.cell (o := 0) rfl
  have p2 := P1.out.cell (o := 2) rfl
  have r0 := R1.out.cell (o := 0) rfl
  have r2 := R1.out.cell (o := 2) rfl
  go_wp2_with fail
  go_loopw [5] (fun i wr => ∃ k : Nat, k ≤ x.types.length ∧ i = .int .i64 k ∧ upTo (fun i => tysSame (grAt x.types i) (grAt y.types i)) k = true ∧ ∃ q, wr = w1.drewN q) (fun i wr => x.types.length - (intOf i).toNat)
  case atStart => exact ⟨0, Nat.zero_le _, rfl, rfl, 0, rfl⟩
  case round =>
    obtain ⟨k, hk, rfl, hu, q, rfl⟩ := hrel
    have HU := hide hu
    clear hu
    by_cases hlt : k < x.types.length
    · have g1 : (0 : Int) ≤ (k : Int) := by omega
      have g2 : (k : Int) < (x.types.length : Int) := by omega
      rcases (G0.out.keep (B1.out.mono HH.out)).both (K0.out.keep (B1.out.mono HH'.out)) HL0.out with h0 | ⟨b, off, b', off', rfl, rfl, t1, t2, h3, h4⟩
      · exfalso; omega
      obtain ⟨ta, tc, e3, e4⟩ := h3 k hlt
      obtain ⟨tb, td, f3, f4⟩ := h4 k hlt
      have HC : Hid (∀ m, Calls Try.prog 22 #[.slice ta (grAt x.types k).length tc, .slice tb (grAt y.types k).length td] (w1.drewN (q + m)) fun e w' => e = .returned (.bool (tysSame (grAt x.types k) (grAt y.types k))) ∧ ∃ j, w' = w1.drewN (q + j)) := fun m =>
        quiet_at (l3Types_any ta tb tc td lo hi lo' hi' (grAt x.types k) (grAt y.types k) _ (HX.out.1.2 k hlt).1 (HY.out.1.2 k (by rw [HL0.out]; exact hlt)).1 (HX.out.1.2 k hlt).2 (HY.out.1.2 k (by rw [HL0.out]; exact hlt)).2 e4 f4)
      clear h3 h4 e4 f4
      by_cases hs : tysSame (grAt x.types k) (grAt y.types k) = true
      · rw [hs] at HC
        have HS := hide hs
        clear hs
        go_wp2_with fail
        go_quiet ((go_at_call 22; exact HC.out _))
        go_wp2_with fail
        exact ⟨⟨k + 1, by omega, by go_num, upTo_step HU.out HS.out, _, rfl⟩, by simp [intOf]; omega⟩
      · have hs' : tysSame (grAt x.types k) (grAt y.types k) = false := by simpa using hs
        rw [hs'] at HC
        have HF : Hid (progSame x y = false) := by
          show progSame x y = false
          rw [HN.out, upTo_false hlt hs']; rfl
        clear hs hs'
        go_wp2_with fail
        go_quiet ((go_at_call 22; exact HC.out _))
        go_wp2_with fail
        go_ret
        exact ⟨ret_bool HF.out.symm, below_drewN (below_drewN B1.out _) _⟩
    · have hkn : Hid (k = x.types.length) := Nat.le_antisymm hk (Nat.le_of_not_lt hlt)
      have HT : Hid (upTo (fun i => tysSame (grAt x.types i) (grAt y.types i)) x.types.length = true) := hkn.out ▸ HU.out
      go_wp2_with fail
      clear p0 r0
      go_loopw [6] (fun i wr => ∃ j : Nat, j ≤ x.funs.length ∧ i = .int .i64 j ∧ upTo (fun i => funSame (funAt' x.funs i) (funAt' y.funs i)) j = true ∧ Below w1.heap.size w1 wr) (fun i wr => x.funs.length - (intOf i).toNat)
      case atStart => exact ⟨0, Nat.zero_le _, rfl, rfl, below_drewN (Below.refl _ _) _⟩
      case round =>
        obtain ⟨j, hj, rfl, hv, hb⟩ := hrel
        have HV := hide hv
        have HB := hide hb
        have s2 := hb.size
        have p3 := (hb.cell (p := ⟨w.heap.size, 2, none⟩) (by show w.heap.size < w1.heap.size; omega)).trans p2
        have r3 := (hb.cell (p := ⟨w.heap.size + 1, 2, none⟩) (by show w.heap.size + 1 < w1.heap.size; omega)).trans r2
        clear hv hb p2 r2
        by_cases hjn : j < x.funs.length
        · have g1 : (0 : Int) ≤ (j : Int) := by omega
          have g2 : (j : Int) < (x.funs.length : Int) := by omega
          have B2 : Hid (Below w.heap.size w wr) := B1.out.trans (HB.out.mono B1.out.size)
          rcases (G2.out.keep (B2.out.mono HH.out)).both (K2.out.keep (B2.out.mono HH'.out)) HL2.out with h0 | ⟨b, off, b', off', rfl, rfl, t1, t2, h3, h4⟩
          · exfalso; omega
          obtain ⟨m0, c0', m4, c4, m5, c5, e0, e1, e2, e3, e4, e5, l0, l4, l5⟩ := h3 j hjn
          obtain ⟨n0, d0', n4, d4, n5, d5, f0, f1, f2, f3, f4, f5, k0, k4, k5⟩ := h4 j hjn
          clear h3 h4
          have M0 := hide l0
          have M4 := hide l4
          have M5 := hide l5
          have N0 := hide k0
          have N4 := hide k4
          have N5 := hide k5
          clear l0 l4 l5 k0 k4 k5
          have W1 : Hid (hi ≤ wr.heap.size) := Nat.le_trans HH.out B2.out.size
          have W2 : Hid (hi' ≤ wr.heap.size) := Nat.le_trans HH'.out B2.out.size
          have z1 : b < wr.heap.size := cell_lt e0
          have z2 : b' < wr.heap.size := cell_lt f0
          have z3 : w.heap.size < wr.heap.size := by omega
          have z4 : w.heap.size + 1 < wr.heap.size := by omega
          have z5 : b < wr.heap.size + 1 := by omega
          have z6 : b' < wr.heap.size + 1 := by omega
          have z7 : w.heap.size < wr.heap.size + 1 := by omega
          have z8 : w.heap.size + 1 < wr.heap.size + 1 := by omega
          by_cases h1 : (funAt' x.funs j).gives.kind = (funAt' y.funs j).gives.kind
          · rw [← h1] at f1
            by_cases h2 : (funAt' x.funs j).gives.of = (funAt' y.funs j).gives.of
            · rw [← h2] at f2
              by_cases h3 : (funAt' x.funs j).gives.mt = (funAt' y.funs j).gives.mt
              · rw [← h3] at f3
                have HD : Hid (fdSame (funAt' x.funs j).gives (funAt' y.funs j).gives = true) := by
                  show fdSame _ _ = true
                  simp [fdSame, h1, h2, h3]
                clear h1 h2 h3
                go_wp2_with fail
                refine (l3Fields_any m0 n0 c0' d0' lo hi lo' hi' (funAt' x.funs j).takes (funAt' y.funs j).takes _ (HX.out.2.2.2 j hjn).1 (HY.out.2.2.2 j (by rw [HL2.out]; exact hjn)).1 (M0.out.keep (Below.mono (by (repeat (first | refine Below.al ?_ (Nat.le_refl _) _ | exact Below.refl _ _))) W1.out)) (N0.out.keep (Below.mono (by (repeat (first | refine Below.al ?_ (Nat.le_refl _) _ | exact Below.refl _ _))) W2.out))).mono ?_
                rintro e v0 ⟨rfl, q5, hq5⟩
                have C0 : Hid (Below wr.heap.size wr v0) := by
                  show Below wr.heap.size wr v0
                  rw [hq5]
                  exact below_drewN (by (repeat (first | refine Below.al ?_ (Nat.le_refl _) _ | exact Below.refl _ _))) _
                have U0 : Hid (Rec v0 wr.heap.size 54 [.slice m0 (funAt' x.funs j).takes.length c0', .int .i64 (funAt' x.funs j).gives.kind, .int .i64 (funAt' x.funs j).gives.of, .bool (funAt' x.funs j).gives.mt, .slice m4 (funAt' x.funs j).own.length c4, .slice m5 (funAt' x.funs j).body.length c5]) := by
                  show Rec _ _ _ _
                  rw [hq5]
                  exact (Rec.new' _ _ _ _ rfl).alloc _
                have V0 : Hid (Rec v0 (wr.heap.size + 1) 54 [.slice n0 (funAt' y.funs j).takes.length d0', .int .i64 (funAt' x.funs j).gives.kind, .int .i64 (funAt' x.funs j).gives.of, .bool (funAt' x.funs j).gives.mt, .slice n4 (funAt' y.funs j).own.length d4, .slice n5 (funAt' y.funs j).body.length d5]) := by
                  show Rec _ _ _ _
                  rw [hq5]
                  exact Rec.new' _ _ _ _ (by simp)
                clear hq5
                have u4_0 := U0.out.cell (o := 4) rfl
                have v4_0 := V0.out.cell (o := 4) rfl
                have u5_0 := U0.out.cell (o := 5) rfl
                have v5_0 := V0.out.cell (o := 5) rfl
                by_cases k0 : fdsSame (funAt' x.funs j).takes (funAt' y.funs j).takes = true
                · rw [k0]
                  have KK0 := hide k0
                  clear k0
                  go_wp2_with fail
                  refine (l3Fields_any m4 n4 c4 d4 lo hi lo' hi' (funAt' x.funs j).own (funAt' y.funs j).own _ (HX.out.2.2.2 j hjn).2.1 (HY.out.2.2.2 j (by rw [HL2.out]; exact hjn)).2.1 (M4.out.keep (Below.mono C0.out W1.out)) (N4.out.keep (Below.mono C0.out W2.out))).mono ?_
                  rintro e v1 ⟨rfl, q6, hq6⟩
                  have C1 : Hid (Below wr.heap.size wr v1) := by
                    show Below wr.heap.size wr v1
                    rw [hq6]
                    exact below_drewN C0.out _
                  have U1 : Hid (Rec v1 wr.heap.size 54 [.slice m0 (funAt' x.funs j).takes.length c0', .int .i64 (funAt' x.funs j).gives.kind, .int .i64 (funAt' x.funs j).gives.of, .bool (funAt' x.funs j).gives.mt, .slice m4 (funAt' x.funs j).own.length c4, .slice m5 (funAt' x.funs j).body.length c5]) := by
                    show Rec _ _ _ _
                    rw [hq6]
                    exact U0.out
                  have V1 : Hid (Rec v1 (wr.heap.size + 1) 54 [.slice n0 (funAt' y.funs j).takes.length d0', .int .i64 (funAt' x.funs j).gives.kind, .int .i64 (funAt' x.funs j).gives.of, .bool (funAt' x.funs j).gives.mt, .slice n4 (funAt' y.funs j).own.length d4, .slice n5 (funAt' y.funs j).body.length d5]) := by
                    show Rec _ _ _ _
                    rw [hq6]
                    exact V0.out
                  clear hq6
                  have u5_1 := U1.out.cell (o := 5) rfl
                  have v5_1 := V1.out.cell (o := 5) rfl
                  by_cases k1 : fdsSame (funAt' x.funs j).own (funAt' y.funs j).own = true
                  · rw [k1]
                    have KK1 := hide k1
                    clear k1
                    go_wp2_with fail
                    refine (l3Body_any m5 n5 c5 d5 lo hi lo' hi' (funAt' x.funs j).body (funAt' y.funs j).body _ (HX.out.2.2.2 j hjn).2.2 (HY.out.2.2.2 j (by rw [HL2.out]; exact hjn)).2.2 (M5.out.keep (Below.mono C1.out W1.out)) (N5.out.keep (Below.mono C1.out W2.out))).mono ?_
                    rintro e v2 ⟨rfl, q7, hq7⟩
                    have C2 : Hid (Below wr.heap.size wr v2) := by
                      show Below wr.heap.size wr v2
                      rw [hq7]
                      exact below_drewN C1.out _
                    have U2 : Hid (Rec v2 wr.heap.size 54 [.slice m0 (funAt' x.funs j).takes.length c0', .int .i64 (funAt' x.funs j).gives.kind, .int .i64 (funAt' x.funs j).gives.of, .bool (funAt' x.funs j).gives.mt, .slice m4 (funAt' x.funs j).own.length c4, .slice m5 (funAt' x.funs j).body.length c5]) := by
                      show Rec _ _ _ _
                      rw [hq7]
                      exact U1.out
                    have V2 : Hid (Rec v2 (wr.heap.size + 1) 54 [.slice n0 (funAt' y.funs j).takes.length d0', .int .i64 (funAt' x.funs j).gives.kind, .int .i64 (funAt' x.funs j).gives.of, .bool (funAt' x.funs j).gives.mt, .slice n4 (funAt' y.funs j).own.length d4, .slice n5 (funAt' y.funs j).body.length d5]) := by
                      show Rec _ _ _ _
                      rw [hq7]
                      exact V1.out
                    clear hq7
                    by_cases k2 : inssSame (funAt' x.funs j).body (funAt' y.funs j).body = true
                    · rw [k2]
                      have KK2 := hide k2
                      clear k2
                      go_wp2_with fail
                      have HS : funSame (funAt' x.funs j) (funAt' y.funs j) = true := by simp [funSame, HD.out, KK0.out, KK1.out, KK2.out]
                      exact ⟨⟨j + 1, by omega, by go_num, upTo_step HV.out HS, HB.out.trans (C2.out.mono s2)⟩, by simp [intOf]; omega⟩
                    · have k' : inssSame (funAt' x.funs j).body (funAt' y.funs j).body = false := by simpa using k2
                      rw [k']
                      have HF : Hid (progSame x y = false) := by
                        show progSame x y = false
                        rw [HN.out, upTo_false (P := fun i => funSame (funAt' x.funs i) (funAt' y.funs i)) hjn (by simp [funSame, k'])]; simp
                      clear k' k2
                      go_wp2_with fail
                      go_ret
                      exact ⟨ret_bool HF.out.symm, B2.out.trans (C2.out.mono B2.out.size)⟩
                  · have k' : fdsSame (funAt' x.funs j).own (funAt' y.funs j).own = false := by simpa using k1
                    rw [k']
                    have HF : Hid (progSame x y = false) := by
                      show progSame x y = false
                      rw [HN.out, upTo_false (P := fun i => funSame (funAt' x.funs i) (funAt' y.funs i)) hjn (by simp [funSame, k'])]; simp
                    clear k' k1
                    go_wp2_with fail
                    go_ret
                    exact ⟨ret_bool HF.out.symm, B2.out.trans (C1.out.mono B2.out.size)⟩
                · have k' : fdsSame (funAt' x.funs j).takes (funAt' y.funs j).takes = false := by simpa using k0
                  rw [k']
                  have HF : Hid (progSame x y = false) := by
                    show progSame x y = false
                    rw [HN.out, upTo_false (P := fun i => funSame (funAt' x.funs i) (funAt' y.funs i)) hjn (by simp [funSame, k'])]; simp
                  clear k' k0
                  go_wp2_with fail
                  go_ret
                  exact ⟨ret_bool HF.out.symm, B2.out.trans (C0.out.mono B2.out.size)⟩
              · have HF : Hid (progSame x y = false) := by
                  show progSame x y = false
                  rw [HN.out, upTo_false (P := fun i => funSame (funAt' x.funs i) (funAt' y.funs i)) hjn (by simp [funSame, fdSame, h3])]; simp
                clear h1 h2
                go_wp2_with fail
                go_ret
                exact ⟨ret_bool HF.out.symm, B2.out.trans (Below.mono (by (repeat (first | refine Below.al ?_ (Nat.le_refl _) _ | exact Below.refl _ _))) B2.out.size)⟩
            · have HF : Hid (progSame x y = false) := by
                show progSame x y = false
                rw [HN.out, upTo_false (P := fun i => funSame (funAt' x.funs i) (funAt' y.funs i)) hjn (by simp [funSame, fdSame, h2])]; simp
              clear h1
              go_wp2_with fail
              go_ret
              exact ⟨ret_bool HF.out.symm, B2.out.trans (Below.mono (by (repeat (first | refine Below.al ?_ (Nat.le_refl _) _ | exact Below.refl _ _))) B2.out.size)⟩
          · have HF : Hid (progSame x y = false) := by
              show progSame x y = false
              rw [HN.out, upTo_false (P := fun i => funSame (funAt' x.funs i) (funAt' y.funs i)) hjn (by simp [funSame, fdSame, h1])]; simp
            go_wp2_with fail
            go_ret
            exact ⟨ret_bool HF.out.symm, B2.out.trans (Below.mono (by (repeat (first | refine Below.al ?_ (Nat.le_refl _) _ | exact Below.refl _ _))) B2.out.size)⟩
        · have hjn' : Hid (j = x.funs.length) := Nat.le_antisymm hj (Nat.le_of_not_lt hjn)
          have HW : Hid (progSame x y = true) := by
            show progSame x y = true
            rw [HN.out, HT.out, ← hjn'.out, HV.out]; rfl
          go_wp2_with fail
          go_ret
          exact ⟨ret_bool HW.out.symm, B1.out.trans (HB.out.mono B1.out.size)⟩
end Go.Proofs.Ytgmjdneejkebhaa
