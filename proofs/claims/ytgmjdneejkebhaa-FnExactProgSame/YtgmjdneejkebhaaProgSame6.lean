/- The program's side of ProgSame: functions, and the whole. -/
import Derived.Test.YtgmjdneejkebhaaProgSame5
namespace Go.Proofs.Ytgmjdneejkebhaa
open Go.ChangeShapes Go.WideShapes Go.ChangeAt Go.RowKit Go.Joins Go.Deep
set_option linter.unusedVariables false

set_option maxHeartbeats 1600000 in
theorem progFunSame_any {md md' : Bool} (m0 m4 m5 n0 n4 n5 : Option Addr) (c0 c4 c5 d0 d4 d5 lo hi lo' hi' : Nat) (x y : GFun) (w : World) (hx : FunB 1048576 x) (hy : FunB 1048576 y)
    (l0 : FieldsM md w lo hi m0 x.takes) (l4 : FieldsM md w lo hi m4 x.own) (l5 : InssM md w lo hi m5 x.body) (k0 : FieldsM md' w lo' hi' n0 y.takes) (k4 : FieldsM md' w lo' hi' n4 y.own) (k5 : InssM md' w lo' hi' n5 y.body) (hh : hi ≤ w.heap.size) (hh' : hi' ≤ w.heap.size) :
    Calls Try.prog 31 #[.agg #[.slice m0 x.takes.length c0, .int .i64 x.gives.kind, .int .i64 x.gives.of, .bool x.gives.mt, .slice m4 x.own.length c4, .slice m5 x.body.length c5], .agg #[.slice n0 y.takes.length d0, .int .i64 y.gives.kind, .int .i64 y.gives.of, .bool y.gives.mt, .slice n4 y.own.length d4, .slice n5 y.body.length d5]] w fun e w' => e = .returned (.bool (funSame x y)) ∧ Below w.heap.size w w' := by
  have HX := hide hx
  have HY := hide hy
  have M0 := hide l0
  have M4 := hide l4
  have M5 := hide l5
  have N0 := hide k0
  have N4 := hide k4
  have N5 := hide k5
  clear hx hy l0 l4 l5 k0 k4 k5
  by_cases h1 : x.gives.kind = y.gives.kind
  · rw [← h1]
    by_cases h2 : x.gives.of = y.gives.of
    · rw [← h2]
      by_cases h3 : x.gives.mt = y.gives.mt
      · rw [← h3]
        have HD : Hid (funSame x y = (fdsSame x.takes y.takes && (fdsSame x.own y.own && inssSame x.body y.body))) := by
          show funSame x y = _
          simp [funSame, fdSame, h1, h2, h3]
        clear h1 h2 h3
        go_enter Try.func31, Try.ntmps31
        go_wp2_with fail
        refine (slicesEqualFd_any m0 n0 c0 d0 lo hi lo' hi' x.takes y.takes _ HX.out.1 HY.out.1 (M0.out.keep (Below.mono (by (repeat (first | refine Below.al ?_ (Nat.le_refl _) _ | exact Below.refl _ _))) hh)) (N0.out.keep (Below.mono (by (repeat (first | refine Below.al ?_ (Nat.le_refl _) _ | exact Below.refl _ _))) hh'))).mono ?_
        rintro e v0 ⟨rfl, q0, hq0⟩
        have C0 : Hid (Below w.heap.size w v0) := by
          show Below w.heap.size w v0
          rw [hq0]
          exact below_drewN (by (repeat (first | refine Below.al ?_ (Nat.le_refl _) _ | exact Below.refl _ _))) _
        have U0 : Hid (Rec v0 w.heap.size 54 [.slice m0 x.takes.length c0, .int .i64 x.gives.kind, .int .i64 x.gives.of, .bool x.gives.mt, .slice m4 x.own.length c4, .slice m5 x.body.length c5]) := by
          show Rec _ _ _ _
          rw [hq0]
          exact (Rec.new' _ _ _ _ rfl).alloc _
        have V0 : Hid (Rec v0 (w.heap.size + 1) 54 [.slice n0 y.takes.length d0, .int .i64 x.gives.kind, .int .i64 x.gives.of, .bool x.gives.mt, .slice n4 y.own.length d4, .slice n5 y.body.length d5]) := by
          show Rec _ _ _ _
          rw [hq0]
          exact Rec.new' _ _ _ _ (by simp)
        have u4_0 := U0.out.cell (o := 4) rfl
        have v4_0 := V0.out.cell (o := 4) rfl
        have u5_0 := U0.out.cell (o := 5) rfl
        have v5_0 := V0.out.cell (o := 5) rfl
        clear hq0
        by_cases k0 : fdsSame x.takes y.takes = true
        · rw [k0]
          have KK0 := hide k0
          clear k0
          go_wp2_with fail
          refine (slicesEqualFd_any m4 n4 c4 d4 lo hi lo' hi' x.own y.own _ HX.out.2.1 HY.out.2.1 (M4.out.keep (Below.mono C0.out hh)) (N4.out.keep (Below.mono C0.out hh'))).mono ?_
          rintro e v1 ⟨rfl, q1, hq1⟩
          have C1 : Hid (Below w.heap.size w v1) := by
            show Below w.heap.size w v1
            rw [hq1]
            exact below_drewN C0.out _
          have U1 : Hid (Rec v1 w.heap.size 54 [.slice m0 x.takes.length c0, .int .i64 x.gives.kind, .int .i64 x.gives.of, .bool x.gives.mt, .slice m4 x.own.length c4, .slice m5 x.body.length c5]) := by
            show Rec _ _ _ _
            rw [hq1]
            exact U0.out
          have V1 : Hid (Rec v1 (w.heap.size + 1) 54 [.slice n0 y.takes.length d0, .int .i64 x.gives.kind, .int .i64 x.gives.of, .bool x.gives.mt, .slice n4 y.own.length d4, .slice n5 y.body.length d5]) := by
            show Rec _ _ _ _
            rw [hq1]
            exact V0.out
          have u5_1 := U1.out.cell (o := 5) rfl
          have v5_1 := V1.out.cell (o := 5) rfl
          clear hq1
          by_cases k1 : fdsSame x.own y.own = true
          · rw [k1]
            have KK1 := hide k1
            clear k1
            go_wp2_with fail
            refine (slicesEqualGIns_any m5 n5 c5 d5 lo hi lo' hi' x.body y.body _ HX.out.2.2 HY.out.2.2 (M5.out.keep (Below.mono C1.out hh)) (N5.out.keep (Below.mono C1.out hh'))).mono ?_
            rintro e v2 ⟨rfl, q2, hq2⟩
            have C2 : Hid (Below w.heap.size w v2) := by
              show Below w.heap.size w v2
              rw [hq2]
              exact below_drewN C1.out _
            clear hq2
            go_wp2_with fail
            go_ret
            exact ⟨ret_bool (by rw [HD.out, KK0.out, KK1.out]; rfl), C2.out⟩
          · have k' : fdsSame x.own y.own = false := by simpa using k1
            rw [k']
            have HF : Hid (funSame x y = false) := by
              show funSame x y = false
              rw [HD.out]
              simp [k', KK0.out]
            clear k' k1
            go_wp2_with fail
            go_ret
            exact ⟨ret_bool HF.out.symm, C1.out⟩
        · have k' : fdsSame x.takes y.takes = false := by simpa using k0
          rw [k']
          have HF : Hid (funSame x y = false) := by
            show funSame x y = false
            rw [HD.out]
            simp [k']
          clear k' k0
          go_wp2_with fail
          go_ret
          exact ⟨ret_bool HF.out.symm, C0.out⟩
      · rw [show funSame x y = false by simp [funSame, fdSame, h3]]
        clear h1 h2
        go_enter Try.func31, Try.ntmps31
        go_wp2_with fail
        go_ret
        exact ⟨rfl, by (repeat (first | refine Below.al ?_ (Nat.le_refl _) _ | exact Below.refl _ _))⟩
    · rw [show funSame x y = false by simp [funSame, fdSame, h2]]
      clear h1
      go_enter Try.func31, Try.ntmps31
      go_wp2_with fail
      go_ret
      exact ⟨rfl, by (repeat (first | refine Below.al ?_ (Nat.le_refl _) _ | exact Below.refl _ _))⟩
  · rw [show funSame x y = false by simp [funSame, fdSame, h1]]
    go_enter Try.func31, Try.ntmps31
    go_wp2_with fail
    go_ret
    exact ⟨rfl, by (repeat (first | refine Below.al ?_ (Nat.le_refl _) _ | exact Below.refl _ _))⟩

set_option maxHeartbeats 1600000 in
theorem eqFuncFuns_core (a a' : Option Addr) (cap cap' n lo hi lo' hi' : Nat) (F G : Nat → GFun) (w : World) (hn : n ≤ 1048576) (hF : ∀ i, i < n → FunB 1048576 (F i)) (hG : ∀ i, i < n → FunB 1048576 (G i)) (hh : hi ≤ w.heap.size) (hh' : hi' ≤ w.heap.size)
    (hx : n ≤ 0 ∨ ∃ b off b' off', a = some ⟨b, off, none⟩ ∧ a' = some ⟨b', off', none⟩ ∧ (lo ≤ b ∧ b < hi) ∧ (lo' ≤ b' ∧ b' < hi') ∧ (∀ i, i < n → FunAt false w lo hi b (off + i * 6) (F i)) ∧ (∀ i, i < n → FunAt false w lo' hi' b' (off' + i * 6) (G i))) :
    Calls Try.prog 30 #[.slice a n cap, .slice a' n cap', .func (.func 31) #[] #[]] w fun e w' => e = .returned (.bool (upTo (fun i => funSame (F i) (G i)) n)) ∧ Below w.heap.size w w' := by
  have HLF := hide hF
  have HLG := hide hG
  clear hF hG
  rcases hx with h0 | ⟨b, off, b', off', rfl, rfl, t1, t2, h3, h4⟩
  all_goals
    go_enter Try.func30, Try.ntmps30
    go_wp2_with fail
    go_loopw [17] (fun i wr => ∃ k : Nat, k ≤ n ∧ i = .int .i64 k ∧ upTo (fun i => funSame (F i) (G i)) k = true ∧ Below w.heap.size w wr) (fun i wr => n - (intOf i).toNat)
    case atStart => exact ⟨0, Nat.zero_le _, rfl, rfl, Below.refl _ _⟩
    case round =>
      obtain ⟨k, hk, rfl, hu, hb⟩ := hrel
      have HU := hide hu
      have HB := hide hb
      have sb := hb.size
      clear hu
      by_cases hlt : k < n
      · first
        | (exfalso; omega)
        | (have g1 : (0 : Int) ≤ (k : Int) := by omega
           have g2 : (k : Int) < (n : Int) := by omega
           have x1 := (h3 k hlt).same (.of_below (hb.mono hh) (Nat.le_refl _)) (Nat.le_refl _) (Nat.le_refl _) t1.1 t1.2
           have x2 := (h4 k hlt).same (.of_below (hb.mono hh') (Nat.le_refl _)) (Nat.le_refl _) (Nat.le_refl _) t2.1 t2.2
           obtain ⟨m0, c0, m4, c4, m5, c5, e0, e1, e2, e3, e4, e5, l0, l4, l5⟩ := x1
           obtain ⟨n0, d0, n4, d4, n5, d5, f0, f1, f2, f3, f4, f5, k0, k4, k5⟩ := x2
           have M0 := hide l0
           have N0 := hide k0
           have M4 := hide l4
           have N4 := hide k4
           have M5 := hide l5
           have N5 := hide k5
           clear l0 l4 l5 k0 k4 k5
           have z1 : b < wr.heap.size := by omega
           have z2 : b' < wr.heap.size := by omega
           have z3 : b < wr.heap.size + 1 := by omega
           have z4 : b' < wr.heap.size + 1 := by omega
           clear h3 h4 hb
           go_wp2_with fail
           refine (progFunSame_any m0 m4 m5 n0 n4 n5 c0 c4 c5 d0 d4 d5 lo hi lo' hi' (F k) (G k) _ (HLF.out k hlt) (HLG.out k hlt) (M0.out.keep (Below.mono (by (repeat (first | refine Below.al ?_ (Nat.le_refl _) _ | exact Below.refl _ _))) (Nat.le_trans hh sb))) (M4.out.keep (Below.mono (by (repeat (first | refine Below.al ?_ (Nat.le_refl _) _ | exact Below.refl _ _))) (Nat.le_trans hh sb))) (M5.out.keep (Below.mono (by (repeat (first | refine Below.al ?_ (Nat.le_refl _) _ | exact Below.refl _ _))) (Nat.le_trans hh sb))) (N0.out.keep (Below.mono (by (repeat (first | refine Below.al ?_ (Nat.le_refl _) _ | exact Below.refl _ _))) (Nat.le_trans hh' sb))) (N4.out.keep (Below.mono (by (repeat (first | refine Below.al ?_ (Nat.le_refl _) _ | exact Below.refl _ _))) (Nat.le_trans hh' sb))) (N5.out.keep (Below.mono (by (repeat (first | refine Below.al ?_ (Nat.le_refl _) _ | exact Below.refl _ _))) (Nat.le_trans hh' sb))) (by go_size) (by go_size)).mono ?_
           rintro e v ⟨rfl, hb1⟩
           have HC : Hid (Below wr.heap.size wr v) := by
             refine Below.trans ?_ (hb1.mono (by go_size))
             (repeat (first | refine Below.al ?_ (Nat.le_refl _) _ | exact Below.refl _ _))
           clear hb1
           by_cases hs : funSame (F k) (G k) = true
           · rw [hs]
             have HS := hide hs
             clear hs
             go_wp2_with fail
             exact ⟨⟨k + 1, by omega, by go_num, upTo_step HU.out HS.out, HB.out.trans (HC.out.mono sb)⟩, by simp [intOf]; omega⟩
           · have hs' : funSame (F k) (G k) = false := by simpa using hs
             rw [hs']
             have HF : Hid (upTo (fun i => funSame (F i) (G i)) n = false) := upTo_false hlt hs'
             clear hs hs'
             go_wp2_with fail
             go_ret
             exact ⟨ret_bool HF.out.symm, HB.out.trans (HC.out.mono sb)⟩)
      · have hkn : Hid (k = n) := Nat.le_antisymm hk (Nat.le_of_not_lt hlt)
        clear hb
        go_wp2_with fail
        go_ret
        exact ⟨ret_bool (hkn.out ▸ HU.out).symm, HB.out⟩

set_option maxHeartbeats 400000 in
theorem eqFuncFuns_short (a a' : Option Addr) (cap cap' n m : Nat) (w : World) (hn : n ≤ 1048576) (hm : m ≤ 1048576) (hne : ¬ n = m) :
    Calls Try.prog 30 #[.slice a n cap, .slice a' m cap', .func (.func 31) #[] #[]] w fun e w' => e = .returned (.bool false) ∧ Below w.heap.size w w' := by
  have hb : ((n : Int) == (m : Int)) = false := by simp; omega
  have hd : ¬ ((n : Int) = (m : Int)) := by omega
  clear hne
  go_enter Try.func30, Try.ntmps30
  go_wp2_with fail
  go_ret
  exact ⟨rfl, Below.refl _ _⟩

theorem eqFuncFuns_any {md md' : Bool} (a a' : Option Addr) (cap cap' lo hi lo' hi' : Nat) (xs ys : List GFun) (w : World) (hn : FunsB 1048576 xs) (hm : FunsB 1048576 ys) (hx : FunsM md w lo hi a xs) (hy : FunsM md' w lo' hi' a' ys) (hh : hi ≤ w.heap.size) (hh' : hi' ≤ w.heap.size) :
    Calls Try.prog 30 #[.slice a xs.length cap, .slice a' ys.length cap', .func (.func 31) #[] #[]] w fun e w' => e = .returned (.bool (funsSame xs ys)) ∧ Below w.heap.size w w' := by
  by_cases hl : xs.length = ys.length
  · have e : funsSame xs ys = upTo (fun i => funSame (funAt' xs i) (funAt' ys i)) xs.length := by simp [funsSame, hl]
    rw [e, ← hl]
    refine eqFuncFuns_core a a' cap cap' xs.length lo hi lo' hi' (funAt' xs) (funAt' ys) w hn.1 hn.2 (fun i hi => hm.2 i (by omega)) hh hh' (hx.both hy hl.symm)
  · have e : funsSame xs ys = false := by simp [funsSame, hl]
    rw [e]
    exact eqFuncFuns_short a a' cap cap' _ _ w hn.1 hm.1 hl
theorem eqFuncGroups_any {md md' : Bool} (a a' : Option Addr) (cap cap' lo hi lo' hi' : Nat) (xs ys : List (List Ty)) (w : World) (hn : GroupsB 1048576 xs) (hm : GroupsB 1048576 ys) (hx : GroupsM md w lo hi a xs) (hy : GroupsM md' w lo' hi' a' ys) (hh : hi ≤ w.heap.size) (hh' : hi' ≤ w.heap.size) :
    Calls Try.prog 27 #[.slice a xs.length cap, .slice a' ys.length cap', .func (.func 28) #[] #[]] w fun e w' => e = .returned (.bool (grsSame xs ys)) ∧ Below w.heap.size w w' := by
  by_cases hl : xs.length = ys.length
  · have e : grsSame xs ys = upTo (fun i => tysSame (grAt xs i) (grAt ys i)) xs.length := by simp [grsSame, hl]
    rw [e, ← hl]
    refine eqFuncGroups_core a a' cap cap' xs.length lo hi lo' hi' (grAt xs) (grAt ys) w hn.1 hn.2 (fun i hi => hm.2 i (by omega)) hh hh' ?_
    rcases hx.1 with rfl | ⟨b, off, rfl, h1, h2, h3⟩
    · exact .inl (Nat.le_refl _)
    · rcases hy.1 with rfl | ⟨b', off', rfl, h1', h2', h3'⟩
      · exact .inl (by rw [hl]; exact Nat.le_refl _)
      · exact .inr ⟨b, off, b', off', rfl, rfl, ⟨h1, h2⟩, ⟨h1', h2'⟩, h3, fun i hi => h3' i (by omega)⟩
  · have e : grsSame xs ys = false := by simp [grsSame, hl]
    rw [e]
    exact eqFuncGroups_short a a' cap cap' _ _ w hn.1 hm.1 hl

set_option maxHeartbeats 1600000 in
theorem implProgSame_any {md md' : Bool} (a0 a1 a2 b0 b1 b2 : Option Addr) (c0 c1 c2 d0 d1 d2 lo hi lo' hi' : Nat) (x y : GProg) (w : World) (hx : ProgB 1048576 x) (hy : ProgB 1048576 y)
    (g0 : GroupsM md w lo hi a0 x.types) (g1 : FieldsM md w lo hi a1 x.glob) (g2 : FunsM md w lo hi a2 x.funs) (k0 : GroupsM md' w lo' hi' b0 y.types) (k1 : FieldsM md' w lo' hi' b1 y.glob) (k2 : FunsM md' w lo' hi' b2 y.funs) (hh : hi ≤ w.heap.size) (hh' : hi' ≤ w.heap.size) :
    Calls Try.prog 14 #[.agg #[.slice a0 x.types.length c0, .slice a1 x.glob.length c1, .slice a2 x.funs.length c2], .agg #[.slice b0 y.types.length d0, .slice b1 y.glob.length d1, .slice b2 y.funs.length d2]] w fun e w' => e = .returned (.bool (progSame x y)) ∧ Below w.heap.size w w' := by
  have HX := hide hx
  have HY := hide hy
  have G0 := hide g0
  have G1 := hide g1
  have G2 := hide g2
  have K0 := hide k0
  have K1 := hide k1
  have K2 := hide k2
  clear hx hy g0 g1 g2 k0 k1 k2
  go_enter Try.func14, Try.ntmps14
  go_wp2_with fail
  refine (eqFuncGroups_any a0 b0 c0 d0 lo hi lo' hi' x.types y.types _ HX.out.1 HY.out.1 (G0.out.keep (Below.mono (by (repeat (first | refine Below.al ?_ (Nat.le_refl _) _ | exact Below.refl _ _))) hh)) (K0.out.keep (Below.mono (by (repeat (first | refine Below.al ?_ (Nat.le_refl _) _ | exact Below.refl _ _))) hh')) (by go_size) (by go_size)).mono ?_
  rintro e v0 ⟨rfl, hq0⟩
  have C0 : Hid (Below w.heap.size w v0) := by
    refine Below.trans ?_ (hq0.mono (by go_size))
    exact (by (repeat (first | refine Below.al ?_ (Nat.le_refl _) _ | exact Below.refl _ _)))
  have U0 : Hid (Rec v0 w.heap.size 43 [.slice a0 x.types.length c0, .slice a1 x.glob.length c1, .slice a2 x.funs.length c2]) := Rec.below ((Rec.new' _ _ _ _ rfl).alloc _) hq0 (by go_size)
  have V0 : Hid (Rec v0 (w.heap.size + 1) 43 [.slice b0 y.types.length d0, .slice b1 y.glob.length d1, .slice b2 y.funs.length d2]) := Rec.below (Rec.new' _ _ _ _ (by simp)) hq0 (by go_size)
  have u1_0 := U0.out.cell (o := 1) rfl
  have v1_0 := V0.out.cell (o := 1) rfl
  have u2_0 := U0.out.cell (o := 2) rfl
  have v2_0 := V0.out.cell (o := 2) rfl
  clear hq0
  by_cases k0 : grsSame x.types y.types = true
  · rw [k0]
    have KK0 := hide k0
    clear k0
    go_wp2_with fail
    refine (slicesEqualFd_any a1 b1 c1 d1 lo hi lo' hi' x.glob y.glob _ HX.out.2.1 HY.out.2.1 (G1.out.keep (Below.mono C0.out hh)) (K1.out.keep (Below.mono C0.out hh'))).mono ?_
    rintro e v1 ⟨rfl, q1, hq1⟩
    have C1 : Hid (Below w.heap.size w v1) := by
      show Below w.heap.size w v1
      rw [hq1]
      exact below_drewN C0.out _
    have U1 : Hid (Rec v1 w.heap.size 43 [.slice a0 x.types.length c0, .slice a1 x.glob.length c1, .slice a2 x.funs.length c2]) := by
      show Rec _ _ _ _
      rw [hq1]
      exact U0.out
    have V1 : Hid (Rec v1 (w.heap.size + 1) 43 [.slice b0 y.types.length d0, .slice b1 y.glob.length d1, .slice b2 y.funs.length d2]) := by
      show Rec _ _ _ _
      rw [hq1]
      exact V0.out
    have u2_1 := U1.out.cell (o := 2) rfl
    have v2_1 := V1.out.cell (o := 2) rfl
    clear hq1
    by_cases k1 : fdsSame x.glob y.glob = true
    · rw [k1]
      have KK1 := hide k1
      clear k1
      go_wp2_with fail
      refine (eqFuncFuns_any a2 b2 c2 d2 lo hi lo' hi' x.funs y.funs _ HX.out.2.2 HY.out.2.2 (G2.out.keep (Below.mono C1.out hh)) (K2.out.keep (Below.mono C1.out hh')) (Nat.le_trans hh C1.out.size) (Nat.le_trans hh' C1.out.size)).mono ?_
      rintro e v2 ⟨rfl, hq2⟩
      have C2 : Hid (Below w.heap.size w v2) := by
        refine Below.trans ?_ (hq2.mono C1.out.size)
        exact C1.out
      clear hq2
      go_wp2_with fail
      go_ret
      exact ⟨ret_bool (by simp [progSame, KK0.out, KK1.out]), C2.out⟩
    · have k' : fdsSame x.glob y.glob = false := by simpa using k1
      rw [k']
      have HF : Hid (progSame x y = false) := by
        show progSame x y = false
        simp [progSame, k', KK0.out]
      clear k' k1
      go_wp2_with fail
      go_ret
      exact ⟨ret_bool HF.out.symm, C1.out⟩
  · have k' : grsSame x.types y.types = false := by simpa using k0
    rw [k']
    have HF : Hid (progSame x y = false) := by
      show progSame x y = false
      simp [progSame, k']
    clear k' k0
    go_wp2_with fail
    go_ret
    exact ⟨ret_bool HF.out.symm, C0.out⟩
end Go.Proofs.Ytgmjdneejkebhaa
