/- MeanSame of the program: things and frames. -/
import Derived.Test.YtpagchajjncmbaaMeanSame
namespace Go.Proofs.Ytpagchajjncmbaa
open Go.ChangeShapes Go.WideShapes Go.ChangeAt Go.RowKit Go.Joins Go.Deep
set_option linter.unusedVariables false

set_option maxHeartbeats 800000 in
theorem implThingSame_any {md md' : Bool} (a1 b1 : Option Addr) (c1 d1 lo hi lo' hi' : Nat) (x y : GThing) (w : World) (hx : ThingB 1048576 x) (hy : ThingB 1048576 y) (g : ValsM md w lo hi a1 x.vals) (k : ValsM md' w lo' hi' b1 y.vals) (hh : hi ≤ w.heap.size) (hh' : hi' ≤ w.heap.size) :
    Calls Try.prog 46 #[.agg #[.int .i64 x.typ, .slice a1 x.vals.length c1], .agg #[.int .i64 y.typ, .slice b1 y.vals.length d1]] w fun e w' => e = .returned (.bool (thingSame x y)) ∧ Below w.heap.size w w' := by
  have hx' : x.vals.length ≤ 1048576 := hx
  have hy' : y.vals.length ≤ 1048576 := hy
  by_cases h1 : x.typ = y.typ
  · have HE : Hid (thingSame x y = valsSame x.vals y.vals) := by
      show thingSame x y = _
      simp [thingSame, h1]
    rw [← h1]
    have G := hide g
    have K := hide k
    clear h1 g k hx hy
    go_enter Try.func46, Try.ntmps46
    go_wp2_with fail
    refine (slicesEqualVal_any a1 b1 c1 d1 lo hi lo' hi' x.vals y.vals _ hx' hy' (G.out.keep (Below.mono (by (repeat (first | refine Below.al ?_ (Nat.le_refl _) _ | exact Below.refl _ _))) hh)) (K.out.keep (Below.mono (by (repeat (first | refine Below.al ?_ (Nat.le_refl _) _ | exact Below.refl _ _))) hh'))).mono ?_
    rintro e w1 ⟨rfl, q, rfl⟩
    go_wp2_with fail
    go_ret
    exact ⟨ret_bool HE.out.symm, below_drewN (by (repeat (first | refine Below.al ?_ (Nat.le_refl _) _ | exact Below.refl _ _))) _⟩
  · rw [show thingSame x y = false by simp [thingSame, h1]]
    clear g k hx hy
    go_enter Try.func46, Try.ntmps46
    go_wp2_with fail
    go_ret
    exact ⟨rfl, by (repeat (first | refine Below.al ?_ (Nat.le_refl _) _ | exact Below.refl _ _))⟩

set_option maxHeartbeats 1600000 in
theorem implFrameSame_any {md md' : Bool} (a2 a3 b2 b3 : Option Addr) (c2 c3 d2 d3 lo hi lo' hi' : Nat) (x y : GFrame) (w : World) (hx : FrameB 1048576 x) (hy : FrameB 1048576 y) (g2 : ValsM md w lo hi a2 x.locals) (g3 : ValsM md w lo hi a3 x.stack) (k2 : ValsM md' w lo' hi' b2 y.locals) (k3 : ValsM md' w lo' hi' b3 y.stack) (hh : hi ≤ w.heap.size) (hh' : hi' ≤ w.heap.size) :
    Calls Try.prog 49 #[.agg #[.int .i64 x.fn, .int .i64 x.pc, .slice a2 x.locals.length c2, .slice a3 x.stack.length c3], .agg #[.int .i64 y.fn, .int .i64 y.pc, .slice b2 y.locals.length d2, .slice b3 y.stack.length d3]] w fun e w' => e = .returned (.bool (frameSame x y)) ∧ Below w.heap.size w w' := by
  have HX := hide hx
  have HY := hide hy
  have G2 := hide g2
  have G3 := hide g3
  have K2 := hide k2
  have K3 := hide k3
  clear hx hy g2 g3 k2 k3
  by_cases h1 : x.fn = y.fn
  · rw [← h1]
    by_cases h2 : x.pc = y.pc
    · rw [← h2]
      have HD : Hid (frameSame x y = (valsSame x.locals y.locals && valsSame x.stack y.stack)) := by
        show frameSame x y = _
        simp [frameSame, h1, h2]
      clear h1 h2
      go_enter Try.func49, Try.ntmps49
      go_wp2_with fail
      refine (slicesEqualVal_any a2 b2 c2 d2 lo hi lo' hi' x.locals y.locals _ HX.out.1 HY.out.1 (G2.out.keep (Below.mono (by (repeat (first | refine Below.al ?_ (Nat.le_refl _) _ | exact Below.refl _ _))) hh)) (K2.out.keep (Below.mono (by (repeat (first | refine Below.al ?_ (Nat.le_refl _) _ | exact Below.refl _ _))) hh'))).mono ?_
      rintro e v0 ⟨rfl, q0, hq0⟩
      have C0 : Hid (Below w.heap.size w v0) := by
        show Below w.heap.size w v0
        rw [hq0]
        exact below_drewN (by (repeat (first | refine Below.al ?_ (Nat.le_refl _) _ | exact Below.refl _ _))) _
      have U0 : Hid (Rec v0 w.heap.size 60 [.int .i64 x.fn, .int .i64 x.pc, .slice a2 x.locals.length c2, .slice a3 x.stack.length c3]) := by
        show Rec _ _ _ _
        rw [hq0]
        exact (Rec.new' _ _ _ _ rfl).alloc _
      have V0 : Hid (Rec v0 (w.heap.size + 1) 60 [.int .i64 x.fn, .int .i64 x.pc, .slice b2 y.locals.length d2, .slice b3 y.stack.length d3]) := by
        show Rec _ _ _ _
        rw [hq0]
        exact Rec.new' _ _ _ _ (by simp)
      have u3 := U0.out.cell (o := 3) rfl
      have v3 := V0.out.cell (o := 3) rfl
      clear hq0
      by_cases k0 : valsSame x.locals y.locals = true
      · rw [k0]
        have KK0 := hide k0
        clear k0
        go_wp2_with fail
        refine (slicesEqualVal_any a3 b3 c3 d3 lo hi lo' hi' x.stack y.stack _ HX.out.2 HY.out.2 (G3.out.keep (Below.mono C0.out hh)) (K3.out.keep (Below.mono C0.out hh'))).mono ?_
        rintro e v1 ⟨rfl, q1, hq1⟩
        have C1 : Hid (Below w.heap.size w v1) := by
          show Below w.heap.size w v1
          rw [hq1]
          exact below_drewN C0.out _
        clear hq1
        go_wp2_with fail
        go_ret
        exact ⟨ret_bool (by rw [HD.out, KK0.out]; rfl), C1.out⟩
      · have k' : valsSame x.locals y.locals = false := by simpa using k0
        rw [k']
        have HF : Hid (frameSame x y = false) := by
          show frameSame x y = false
          rw [HD.out]
          simp [k']
        clear k' k0
        go_wp2_with fail
        go_ret
        exact ⟨ret_bool HF.out.symm, C0.out⟩
    · rw [show frameSame x y = false by simp [frameSame, h2]]
      clear h1
      go_enter Try.func49, Try.ntmps49
      go_wp2_with fail
      go_ret
      exact ⟨rfl, by (repeat (first | refine Below.al ?_ (Nat.le_refl _) _ | exact Below.refl _ _))⟩
  · rw [show frameSame x y = false by simp [frameSame, h1]]
    go_enter Try.func49, Try.ntmps49
    go_wp2_with fail
    go_ret
    exact ⟨rfl, by (repeat (first | refine Below.al ?_ (Nat.le_refl _) _ | exact Below.refl _ _))⟩

theorem ThingsM.both {md md' : Bool} {w : World} {lo hi lo' hi' : Nat} {a a' : Option Addr} {xs ys : List GThing} (h : ThingsM md w lo hi a xs) (h' : ThingsM md' w lo' hi' a' ys) (e : ys.length = xs.length) :
    xs.length ≤ 0 ∨ ∃ b off b' off', a = some ⟨b, off, none⟩ ∧ a' = some ⟨b', off', none⟩ ∧ (lo ≤ b ∧ b < hi) ∧ (lo' ≤ b' ∧ b' < hi') ∧ (∀ i, i < xs.length → ThingAt false w lo hi b (off + i * 2) (thingAt' xs i)) ∧ (∀ i, i < xs.length → ThingAt false w lo' hi' b' (off' + i * 2) (thingAt' ys i)) := by
  rcases h.plain with rfl | ⟨b, off, rfl, h1, h2, _, h3⟩
  · exact .inl (Nat.le_refl _)
  · rcases h'.plain with rfl | ⟨b', off', rfl, h1', h2', _, h3'⟩
    · exact .inl (by rw [← e]; exact Nat.le_refl _)
    · exact .inr ⟨b, off, b', off', rfl, rfl, ⟨h1, h2⟩, ⟨h1', h2'⟩, h3, fun i hi => h3' i (by omega)⟩

set_option maxHeartbeats 1600000 in
theorem eqFuncThings_core (a a' : Option Addr) (cap cap' n lo hi lo' hi' : Nat) (F G : Nat → GThing) (w : World) (hn : n ≤ 1048576) (hF : ∀ i, i < n → ThingB 1048576 (F i)) (hG : ∀ i, i < n → ThingB 1048576 (G i)) (hh : hi ≤ w.heap.size) (hh' : hi' ≤ w.heap.size)
    (hx : n ≤ 0 ∨ ∃ b off b' off', a = some ⟨b, off, none⟩ ∧ a' = some ⟨b', off', none⟩ ∧ (lo ≤ b ∧ b < hi) ∧ (lo' ≤ b' ∧ b' < hi') ∧ (∀ i, i < n → ThingAt false w lo hi b (off + i * 2) (F i)) ∧ (∀ i, i < n → ThingAt false w lo' hi' b' (off' + i * 2) (G i))) :
    Calls Try.prog 45 #[.slice a n cap, .slice a' n cap', .func (.func 46) #[] #[]] w fun e w' => e = .returned (.bool (upTo (fun i => thingSame (F i) (G i)) n)) ∧ Below w.heap.size w w' := by
  have HLF := hide hF
  have HLG := hide hG
  clear hF hG
  rcases hx with h0 | ⟨b, off, b', off', rfl, rfl, t1, t2, h3, h4⟩
  all_goals
    go_enter Try.func45, Try.ntmps45
    go_wp2_with fail
    go_loopw [17] (fun i wr => ∃ k : Nat, k ≤ n ∧ i = .int .i64 k ∧ upTo (fun i => thingSame (F i) (G i)) k = true ∧ Below w.heap.size w wr) (fun i wr => n - (intOf i).toNat)
    case atStart => exact ⟨0, Nat.zero_le _, rfl, rfl, Below.refl _ _⟩
    case round =>
      obtain ⟨k, hk, rfl, hu, hb⟩ := hrel
      have HU := hide hu
      have HB := hide hb
      have sb := hb.size
      clear hu
      by_cases hlt : k < n
      · first
        | (exfalso; omega)
        | (have g1 : (0 : Int) ≤ (k : Int) := by omega
           have g2 : (k : Int) < (n : Int) := by omega
           have x1 := (h3 k hlt).same (.of_below (hb.mono hh) (Nat.le_refl _)) (Nat.le_refl _) (Nat.le_refl _) t1.1 t1.2
           have x2 := (h4 k hlt).same (.of_below (hb.mono hh') (Nat.le_refl _)) (Nat.le_refl _) (Nat.le_refl _) t2.1 t2.2
           obtain ⟨m1, c1, e0, e1, l1⟩ := x1
           obtain ⟨n1, d1, f0, f1, k1⟩ := x2
           have M1 := hide l1
           have N1 := hide k1
           clear l1 k1
           have z1 : b < wr.heap.size := by omega
           have z2 : b' < wr.heap.size := by omega
           have z3 : b < wr.heap.size + 1 := by omega
           have z4 : b' < wr.heap.size + 1 := by omega
           clear h3 h4 hb
           go_wp2_with fail
           refine (implThingSame_any m1 n1 c1 d1 lo hi lo' hi' (F k) (G k) _ (HLF.out k hlt) (HLG.out k hlt) (M1.out.keep (Below.mono (by (repeat (first | refine Below.al ?_ (Nat.le_refl _) _ | exact Below.refl _ _))) (Nat.le_trans hh sb))) (N1.out.keep (Below.mono (by (repeat (first | refine Below.al ?_ (Nat.le_refl _) _ | exact Below.refl _ _))) (Nat.le_trans hh' sb))) (by go_size) (by go_size)).mono ?_
           rintro e v ⟨rfl, hb1⟩
           have HC : Hid (Below wr.heap.size wr v) := by
             refine Below.trans ?_ (hb1.mono (by go_size))
             (repeat (first | refine Below.al ?_ (Nat.le_refl _) _ | exact Below.refl _ _))
           clear hb1
           by_cases hs : thingSame (F k) (G k) = true
           · rw [hs]
             have HS := hide hs
             clear hs
             go_wp2_with fail
             exact ⟨⟨k + 1, by omega, by go_num, upTo_step HU.out HS.out, HB.out.trans (HC.out.mono sb)⟩, by simp [intOf]; omega⟩
           · have hs' : thingSame (F k) (G k) = false := by simpa using hs
             rw [hs']
             have HF : Hid (upTo (fun i => thingSame (F i) (G i)) n = false) := upTo_false hlt hs'
             clear hs hs'
             go_wp2_with fail
             go_ret
             exact ⟨ret_bool HF.out.symm, HB.out.trans (HC.out.mono sb)⟩)
      · have hkn : Hid (k = n) := Nat.le_antisymm hk (Nat.le_of_not_lt hlt)
        clear hb
        go_wp2_with fail
        go_ret
        exact ⟨ret_bool (hkn.out ▸ HU.out).symm, HB.out⟩

set_option maxHeartbeats 400000 in
theorem eqFuncThings_short (a a' : Option Addr) (cap cap' n m : Nat) (w : World) (hn : n ≤ 1048576) (hm : m ≤ 1048576) (hne : ¬ n = m) :
    Calls Try.prog 45 #[.slice a n cap, .slice a' m cap', .func (.func 46) #[] #[]] w fun e w' => e = .returned (.bool false) ∧ Below w.heap.size w w' := by
  have hb : ((n : Int) == (m : Int)) = false := by simp; omega
  have hd : ¬ ((n : Int) = (m : Int)) := by omega
  clear hne
  go_enter Try.func45, Try.ntmps45
  go_wp2_with fail
  go_ret
  exact ⟨rfl, Below.refl _ _⟩

theorem eqFuncThings_any {md md' : Bool} (a a' : Option Addr) (cap cap' lo hi lo' hi' : Nat) (xs ys : List GThing) (w : World) (hn : ThingsB 1048576 xs) (hm : ThingsB 1048576 ys) (hx : ThingsM md w lo hi a xs) (hy : ThingsM md' w lo' hi' a' ys) (hh : hi ≤ w.heap.size) (hh' : hi' ≤ w.heap.size) :
    Calls Try.prog 45 #[.slice a xs.length cap, .slice a' ys.length cap', .func (.func 46) #[] #[]] w fun e w' => e = .returned (.bool (thingsSame xs ys)) ∧ Below w.heap.size w w' := by
  by_cases hl : xs.length = ys.length
  · have e : thingsSame xs ys = upTo (fun i => thingSame (thingAt' xs i) (thingAt' ys i)) xs.length := by simp [thingsSame, hl]
    rw [e, ← hl]
    refine eqFuncThings_core a a' cap cap' xs.length lo hi lo' hi' (thingAt' xs) (thingAt' ys) w hn.1 hn.2 (fun i hi => hm.2 i (by omega)) hh hh' (hx.both hy hl.symm)
  · have e : thingsSame xs ys = false := by simp [thingsSame, hl]
    rw [e]
    exact eqFuncThings_short a a' cap cap' _ _ w hn.1 hm.1 hl

theorem FramesM.both {md md' : Bool} {w : World} {lo hi lo' hi' : Nat} {a a' : Option Addr} {xs ys : List GFrame} (h : FramesM md w lo hi a xs) (h' : FramesM md' w lo' hi' a' ys) (e : ys.length = xs.length) :
    xs.length ≤ 0 ∨ ∃ b off b' off', a = some ⟨b, off, none⟩ ∧ a' = some ⟨b', off', none⟩ ∧ (lo ≤ b ∧ b < hi) ∧ (lo' ≤ b' ∧ b' < hi') ∧ (∀ i, i < xs.length → FrameAt false w lo hi b (off + i * 4) (frameAt' xs i)) ∧ (∀ i, i < xs.length → FrameAt false w lo' hi' b' (off' + i * 4) (frameAt' ys i)) := by
  rcases h.plain with rfl | ⟨b, off, rfl, h1, h2, _, h3⟩
  · exact .inl (Nat.le_refl _)
  · rcases h'.plain with rfl | ⟨b', off', rfl, h1', h2', _, h3'⟩
    · exact .inl (by rw [← e]; exact Nat.le_refl _)
    · exact .inr ⟨b, off, b', off', rfl, rfl, ⟨h1, h2⟩, ⟨h1', h2'⟩, h3, fun i hi => h3' i (by omega)⟩

set_option maxHeartbeats 1600000 in
theorem eqFuncFrames_core (a a' : Option Addr) (cap cap' n lo hi lo' hi' : Nat) (F G : Nat → GFrame) (w : World) (hn : n ≤ 1048576) (hF : ∀ i, i < n → FrameB 1048576 (F i)) (hG : ∀ i, i < n → FrameB 1048576 (G i)) (hh : hi ≤ w.heap.size) (hh' : hi' ≤ w.heap.size)
    (hx : n ≤ 0 ∨ ∃ b off b' off', a = some ⟨b, off, none⟩ ∧ a' = some ⟨b', off', none⟩ ∧ (lo ≤ b ∧ b < hi) ∧ (lo' ≤ b' ∧ b' < hi') ∧ (∀ i, i < n → FrameAt false w lo hi b (off + i * 4) (F i)) ∧ (∀ i, i < n → FrameAt false w lo' hi' b' (off' + i * 4) (G i))) :
    Calls Try.prog 48 #[.slice a n cap, .slice a' n cap', .func (.func 49) #[] #[]] w fun e w' => e = .returned (.bool (upTo (fun i => frameSame (F i) (G i)) n)) ∧ Below w.heap.size w w' := by
  have HLF := hide hF
  have HLG := hide hG
  clear hF hG
  rcases hx with h0 | ⟨b, off, b', off', rfl, rfl, t1, t2, h3, h4⟩
  all_goals
    go_enter Try.func48, Try.ntmps48
    go_wp2_with fail
    go_loopw [17] (fun i wr => ∃ k : Nat, k ≤ n ∧ i = .int .i64 k ∧ upTo (fun i => frameSame (F i) (G i)) k = true ∧ Below w.heap.size w wr) (fun i wr => n - (intOf i).toNat)
    case atStart => exact ⟨0, Nat.zero_le _, rfl, rfl, Below.refl _ _⟩
    case round =>
      obtain ⟨k, hk, rfl, hu, hb⟩ := hrel
      have HU := hide hu
      have HB := hide hb
      have sb := hb.size
      clear hu
      by_cases hlt : k < n
      · first
        | (exfalso; omega)
        | (have g1 : (0 : Int) ≤ (k : Int) := by omega
           have g2 : (k : Int) < (n : Int) := by omega
           have x1 := (h3 k hlt).same (.of_below (hb.mono hh) (Nat.le_refl _)) (Nat.le_refl _) (Nat.le_refl _) t1.1 t1.2
           have x2 := (h4 k hlt).same (.of_below (hb.mono hh') (Nat.le_refl _)) (Nat.le_refl _) (Nat.le_refl _) t2.1 t2.2
           obtain ⟨m2, c2, m3, c3, e0, e1, e2, e3, l2, l3⟩ := x1
           obtain ⟨n2, d2, n3, d3, f0, f1, f2, f3, k2, k3⟩ := x2
           have M2 := hide l2
           have N2 := hide k2
           have M3 := hide l3
           have N3 := hide k3
           clear l2 k2 l3 k3
           have z1 : b < wr.heap.size := by omega
           have z2 : b' < wr.heap.size := by omega
           have z3 : b < wr.heap.size + 1 := by omega
           have z4 : b' < wr.heap.size + 1 := by omega
           clear h3 h4 hb
           go_wp2_with fail
           refine (implFrameSame_any m2 m3 n2 n3 c2 c3 d2 d3 lo hi lo' hi' (F k) (G k) _ (HLF.out k hlt) (HLG.out k hlt) (M2.out.keep (Below.mono (by (repeat (first | refine Below.al ?_ (Nat.le_refl _) _ | exact Below.refl _ _))) (Nat.le_trans hh sb))) (M3.out.keep (Below.mono (by (repeat (first | refine Below.al ?_ (Nat.le_refl _) _ | exact Below.refl _ _))) (Nat.le_trans hh sb))) (N2.out.keep (Below.mono (by (repeat (first | refine Below.al ?_ (Nat.le_refl _) _ | exact Below.refl _ _))) (Nat.le_trans hh' sb))) (N3.out.keep (Below.mono (by (repeat (first | refine Below.al ?_ (Nat.le_refl _) _ | exact Below.refl _ _))) (Nat.le_trans hh' sb))) (by go_size) (by go_size)).mono ?_
           rintro e v ⟨rfl, hb1⟩
           have HC : Hid (Below wr.heap.size wr v) := by
             refine Below.trans ?_ (hb1.mono (by go_size))
             (repeat (first | refine Below.al ?_ (Nat.le_refl _) _ | exact Below.refl _ _))
           clear hb1
           by_cases hs : frameSame (F k) (G k) = true
           · rw [hs]
             have HS := hide hs
             clear hs
             go_wp2_with fail
             exact ⟨⟨k + 1, by omega, by go_num, upTo_step HU.out HS.out, HB.out.trans (HC.out.mono sb)⟩, by simp [intOf]; omega⟩
           · have hs' : frameSame (F k) (G k) = false := by simpa using hs
             rw [hs']
             have HF : Hid (upTo (fun i => frameSame (F i) (G i)) n = false) := upTo_false hlt hs'
             clear hs hs'
             go_wp2_with fail
             go_ret
             exact ⟨ret_bool HF.out.symm, HB.out.trans (HC.out.mono sb)⟩)
      · have hkn : Hid (k = n) := Nat.le_antisymm hk (Nat.le_of_not_lt hlt)
        clear hb
        go_wp2_with fail
        go_ret
        exact ⟨ret_bool (hkn.out ▸ HU.out).symm, HB.out⟩

set_option maxHeartbeats 400000 in
theorem eqFuncFrames_short (a a' : Option Addr) (cap cap' n m : Nat) (w : World) (hn : n ≤ 1048576) (hm : m ≤ 1048576) (hne : ¬ n = m) :
    Calls Try.prog 48 #[.slice a n cap, .slice a' m cap', .func (.func 49) #[] #[]] w fun e w' => e = .returned (.bool false) ∧ Below w.heap.size w w' := by
  have hb : ((n : Int) == (m : Int)) = false := by simp; omega
  have hd : ¬ ((n : Int) = (m : Int)) := by omega
  clear hne
  go_enter Try.func48, Try.ntmps48
  go_wp2_with fail
  go_ret
  exact ⟨rfl, Below.refl _ _⟩

theorem eqFuncFrames_any {md md' : Bool} (a a' : Option Addr) (cap cap' lo hi lo' hi' : Nat) (xs ys : List GFrame) (w : World) (hn : FramesB 1048576 xs) (hm : FramesB 1048576 ys) (hx : FramesM md w lo hi a xs) (hy : FramesM md' w lo' hi' a' ys) (hh : hi ≤ w.heap.size) (hh' : hi' ≤ w.heap.size) :
    Calls Try.prog 48 #[.slice a xs.length cap, .slice a' ys.length cap', .func (.func 49) #[] #[]] w fun e w' => e = .returned (.bool (framesSame xs ys)) ∧ Below w.heap.size w w' := by
  by_cases hl : xs.length = ys.length
  · have e : framesSame xs ys = upTo (fun i => frameSame (frameAt' xs i) (frameAt' ys i)) xs.length := by simp [framesSame, hl]
    rw [e, ← hl]
    refine eqFuncFrames_core a a' cap cap' xs.length lo hi lo' hi' (frameAt' xs) (frameAt' ys) w hn.1 hn.2 (fun i hi => hm.2 i (by omega)) hh hh' (hx.both hy hl.symm)
  · have e : framesSame xs ys = false := by simp [framesSame, hl]
    rw [e]
    exact eqFuncFrames_short a a' cap cap' _ _ w hn.1 hm.1 hl
end Go.Proofs.Ytpagchajjncmbaa
