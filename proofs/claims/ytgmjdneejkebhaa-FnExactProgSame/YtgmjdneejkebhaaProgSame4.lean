/- ProgSame of the model, of any two programs. -/
import Derived.Test.YtgmjdneejkebhaaProgSame3
namespace Go.Proofs.Ytgmjdneejkebhaa
open Go.ChangeShapes Go.WideShapes Go.ChangeAt Go.RowKit Go.Joins Go.Deep
set_option linter.unusedVariables false

set_option maxHeartbeats 800000 in
theorem specProgSame_types (a0 a1 a2 b0 b1 b2 : Option Addr) (c0 c1 c2 d0 d1 d2 n0 n1 n2 m0 m1 m2 : Nat) (w : World) (h0 : n0 ≤ 1048576) (h1 : m0 ≤ 1048576) (hne : ¬ n0 = m0) :
    Calls Try.prog 12 #[.agg #[.slice a0 n0 c0, .slice a1 n1 c1, .slice a2 n2 c2], .agg #[.slice b0 m0 d0, .slice b1 m1 d1, .slice b2 m2 d2]] w fun e w' => e = .returned (.bool false) ∧ Below w.heap.size w w' := by
  have e1 : ((n0 : Int) != (m0 : Int)) = true := by simp; omega
  have e2 : ¬ ((n0 : Int) = (m0 : Int)) := by omega
  clear hne
  go_enter Try.func12, Try.ntmps12
  go_wp2_with fail
  go_ret
  exact ⟨rfl, by (repeat (first | refine Below.al ?_ (Nat.le_refl _) _ | exact Below.refl _ _))⟩

set_option maxHeartbeats 800000 in
theorem specProgSame_funs (a0 a1 a2 b0 b1 b2 : Option Addr) (c0 c1 c2 d0 d1 d2 n0 n1 n2 m1 m2 : Nat) (w : World) (h0 : n0 ≤ 1048576) (h1 : n2 ≤ 1048576) (h2 : m2 ≤ 1048576) (hne : ¬ n2 = m2) :
    Calls Try.prog 12 #[.agg #[.slice a0 n0 c0, .slice a1 n1 c1, .slice a2 n2 c2], .agg #[.slice b0 n0 d0, .slice b1 m1 d1, .slice b2 m2 d2]] w fun e w' => e = .returned (.bool false) ∧ Below w.heap.size w w' := by
  have e1 : ((n2 : Int) != (m2 : Int)) = true := by simp; omega
  have e2 : ¬ ((n2 : Int) = (m2 : Int)) := by omega
  clear hne
  go_enter Try.func12, Try.ntmps12
  go_wp2_with fail
  go_ret
  exact ⟨rfl, by (repeat (first | refine Below.al ?_ (Nat.le_refl _) _ | exact Below.refl _ _))⟩

set_option maxHeartbeats 800000 in
theorem specProgSame_glob {md md' : Bool} (a0 a1 a2 b0 b1 b2 : Option Addr) (c0 c1 c2 d0 d1 d2 n0 n2 lo hi lo' hi' : Nat) (xs ys : List Fd) (w : World) (h0 : n0 ≤ 1048576) (h2 : n2 ≤ 1048576) (hx : xs.length ≤ 1048576) (hy : ys.length ≤ 1048576)
    (g1 : FieldsM md w lo hi a1 xs) (k1 : FieldsM md' w lo' hi' b1 ys) (hh : hi ≤ w.heap.size) (hh' : hi' ≤ w.heap.size) (hg : fdsSame xs ys = false) :
    Calls Try.prog 12 #[.agg #[.slice a0 n0 c0, .slice a1 xs.length c1, .slice a2 n2 c2], .agg #[.slice b0 n0 d0, .slice b1 ys.length d1, .slice b2 n2 d2]] w fun e w' => e = .returned (.bool false) ∧ Below w.heap.size w w' := by
  have HG := hide hg
  have G1 := hide g1
  have K1 := hide k1
  clear hg g1 k1
  go_enter Try.func12, Try.ntmps12
  go_wp2_with fail
  refine (l3Fields_any a1 b1 c1 d1 lo hi lo' hi' xs ys _ hx hy (G1.out.keep (Below.mono (by (repeat (first | refine Below.al ?_ (Nat.le_refl _) _ | exact Below.refl _ _))) hh)) (K1.out.keep (Below.mono (by (repeat (first | refine Below.al ?_ (Nat.le_refl _) _ | exact Below.refl _ _))) hh'))).mono ?_
  rintro e w1 ⟨rfl, q0, rfl⟩
  rw [HG.out]
  go_wp2_with fail
  go_ret
  exact ⟨rfl, below_drewN (by (repeat (first | refine Below.al ?_ (Nat.le_refl _) _ | exact Below.refl _ _))) _⟩

theorem specProgSame_any {md md' : Bool} (a0 a1 a2 b0 b1 b2 : Option Addr) (c0 c1 c2 d0 d1 d2 lo hi lo' hi' : Nat) (x y : GProg) (w : World) (hx : ProgB 1048576 x) (hy : ProgB 1048576 y)
    (g0 : GroupsM md w lo hi a0 x.types) (g1 : FieldsM md w lo hi a1 x.glob) (g2 : FunsM md w lo hi a2 x.funs) (k0 : GroupsM md' w lo' hi' b0 y.types) (k1 : FieldsM md' w lo' hi' b1 y.glob) (k2 : FunsM md' w lo' hi' b2 y.funs) (hh : hi ≤ w.heap.size) (hh' : hi' ≤ w.heap.size) :
    Calls Try.prog 12 #[.agg #[.slice a0 x.types.length c0, .slice a1 x.glob.length c1, .slice a2 x.funs.length c2], .agg #[.slice b0 y.types.length d0, .slice b1 y.glob.length d1, .slice b2 y.funs.length d2]] w fun e w' => e = .returned (.bool (progSame x y)) ∧ Below w.heap.size w w' := by
  by_cases h0 : x.types.length = y.types.length
  · by_cases h2 : x.funs.length = y.funs.length
    · by_cases hg : fdsSame x.glob y.glob = true
      · exact specProgSame_eq a0 a1 a2 b0 b1 b2 c0 c1 c2 d0 d1 d2 lo hi lo' hi' x y w hx hy g0 g1 g2 k0 k1 k2 hh hh' h0.symm h2.symm hg
      · have hg' : fdsSame x.glob y.glob = false := by simpa using hg
        rw [show progSame x y = false by simp [progSame, hg'], ← h0, ← h2]
        exact specProgSame_glob a0 a1 a2 b0 b1 b2 c0 c1 c2 d0 d1 d2 _ _ lo hi lo' hi' x.glob y.glob w hx.1.1 hx.2.2.1 hx.2.1 hy.2.1 g1 k1 hh hh' hg'
    · rw [show progSame x y = false by simp [progSame, funsSame, h2], ← h0]
      exact specProgSame_funs a0 a1 a2 b0 b1 b2 c0 c1 c2 d0 d1 d2 _ _ _ _ _ w hx.1.1 hx.2.2.1 hy.2.2.1 h2
  · rw [show progSame x y = false by simp [progSame, grsSame, h0]]
    exact specProgSame_types a0 a1 a2 b0 b1 b2 c0 c1 c2 d0 d1 d2 _ _ _ _ _ _ w hx.1.1 hy.1.1 h0

/-- progTypeSame, of any two types. -/
theorem tySame_false {s t : Ty} (h : ¬ (s.kind = t.kind ∧ s.up = t.up ∧ s.last = t.last)) : tySame s t = false := by
  cases hs : tySame s t
  · rfl
  · exfalso
    simp [tySame] at hs
    exact h ⟨hs.1, hs.2.1, hs.2.2.1⟩
set_option maxHeartbeats 800000 in
theorem progTypeSame_any (fa fb : Option Addr) (fc fd lo hi lo' hi' : Nat) (s t : Ty) (w : World) (hs : s.fields.length ≤ 1048576) (ht : t.fields.length ≤ 1048576) (g : FieldsIn w lo hi fa s.fields) (k : FieldsIn w lo' hi' fb t.fields) (hh : hi ≤ w.heap.size) (hh' : hi' ≤ w.heap.size) :
    Calls Try.prog 43 #[.agg #[.int .i64 s.kind, .int .i64 s.up, .bool s.last, .slice fa s.fields.length fc], .agg #[.int .i64 t.kind, .int .i64 t.up, .bool t.last, .slice fb t.fields.length fd]] w fun e w' => e = .returned (.bool (tySame s t)) ∧ Below w.heap.size w w' := by
  by_cases h1 : s.kind = t.kind ∧ s.up = t.up ∧ s.last = t.last
  · obtain ⟨h1, h2, h3⟩ := h1
    have HE : Hid (tySame s t = fdsSame s.fields t.fields) := by
      show tySame s t = _
      simp [tySame, h1, h2, h3]
    rw [← h1, ← h2, ← h3]
    have G : Hid (FieldsM false w lo hi fa s.fields) := ⟨g, fun e => by cases e⟩
    have K : Hid (FieldsM false w lo' hi' fb t.fields) := ⟨k, fun e => by cases e⟩
    clear h1 h2 h3 g k
    go_enter Try.func43, Try.ntmps43
    go_wp2_with fail
    refine (slicesEqualFd_any fa fb fc fd lo hi lo' hi' s.fields t.fields _ hs ht (G.out.keep (Below.mono (by (repeat (first | refine Below.al ?_ (Nat.le_refl _) _ | exact Below.refl _ _))) hh)) (K.out.keep (Below.mono (by (repeat (first | refine Below.al ?_ (Nat.le_refl _) _ | exact Below.refl _ _))) hh'))).mono ?_
    rintro e w1 ⟨rfl, q, rfl⟩
    go_wp2_with fail
    go_ret
    exact ⟨ret_bool HE.out.symm, below_drewN (by (repeat (first | refine Below.al ?_ (Nat.le_refl _) _ | exact Below.refl _ _))) _⟩
  · rw [tySame_false h1]
    by_cases h2 : s.kind = t.kind
    · by_cases h3 : s.up = t.up
      · have h4 : ¬ s.last = t.last := fun h => h1 ⟨h2, h3, h⟩
        rw [← h2, ← h3]
        clear h1 h2 h3 g k
        go_enter Try.func43, Try.ntmps43
        go_wp2_with fail
        go_ret
        exact ⟨rfl, by (repeat (first | refine Below.al ?_ (Nat.le_refl _) _ | exact Below.refl _ _))⟩
      · rw [← h2]
        clear h1 h2 g k
        go_enter Try.func43, Try.ntmps43
        go_wp2_with fail
        go_ret
        exact ⟨rfl, by (repeat (first | refine Below.al ?_ (Nat.le_refl _) _ | exact Below.refl _ _))⟩
    · clear h1 g k
      go_enter Try.func43, Try.ntmps43
      go_wp2_with fail
      go_ret
      exact ⟨rfl, by (repeat (first | refine Below.al ?_ (Nat.le_refl _) _ | exact Below.refl _ _))⟩
end Go.Proofs.Ytgmjdneejkebhaa
