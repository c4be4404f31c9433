/- strconv.FormatBool, and kinNamed of the program. -/
import Derived.Test.YtlmciclkfmeepaaDoorKinB
import Derived.Test.YtlmciclkfmeepaaDoorItoaRow
namespace Go.Proofs.YtlmciclkfmeepaaDoor
open Go.ChangeShapes Go.WideShapes Go.ChangeAt Go.RowKit
set_option linter.unusedVariables false

theorem formatBool_any (b : Bool) (w : World) :
    Calls Tryd.prog 73 #[.bool b] w fun e w' => e = .returned (.string ⟨(boolW b).toArray⟩) ∧ w' = w := by
  cases b
  all_goals
    go_enter Tryd.func73, Tryd.ntmps73
    go_wp2
    go_ret
    exact ⟨rfl, rfl⟩
theorem formatBool_at (b : Bool) (l : List UInt8) (h : boolW b = l) (w0 w : World) (B0 : Below w0.heap.size w0 w) :
    Calls Tryd.prog 73 #[.bool b] w fun e w' => e = .returned (.string ⟨l.toArray⟩) ∧ (∀ q o v, w.cell? ⟨q, o, none⟩ = some v → w'.cell? ⟨q, o, none⟩ = some v) ∧ Below w0.heap.size w0 w' := by
  refine (formatBool_any b w).mono ?_
  rintro e w' ⟨rfl, rfl⟩
  exact ⟨by rw [h], fun _ _ _ h => h, B0⟩

theorem itoa_any (n : Int) (h0 : -9 ≤ n) (h1 : n ≤ 9) (w : World) (hp : pow10 w) :
    Calls Tryd.prog 72 #[.int .i64 n] w fun e w' => e = .returned (.string ⟨(Lib.itoa n).toArray⟩) ∧ Below w.heap.size w w' := by
  refine (Tryd.itoa n (by omega) (by omega) w hp).mono ?_
  rintro e w1 ⟨rfl, k, os, rfl⟩
  exact ⟨rfl, grown_below w k os⟩
theorem itoa_at (n : Int) (l : List UInt8) (h : Lib.itoa n = l) (h0 : -9 ≤ n) (h1 : n ≤ 9) (w0 w : World) (B0 : Below w0.heap.size w0 w) (hp : pow10 w0) :
    Calls Tryd.prog 72 #[.int .i64 n] w fun e w' => e = .returned (.string ⟨l.toArray⟩) ∧ (∀ q o v, w.cell? ⟨q, o, none⟩ = some v → w'.cell? ⟨q, o, none⟩ = some v) ∧ Below w0.heap.size w0 w' := by
  refine (itoa_any n h0 h1 w (pow10_keep hp B0)).mono ?_
  rintro e w' ⟨rfl, hb⟩
  exact ⟨by rw [h], fun q o v hv => by rw [hb.cell (p := ⟨q, o, none⟩) (cell_lt hv)]; exact hv, B0.trans (hb.mono B0.size)⟩

/-- The first k numbers that lie at a are those of C. -/
def CanIn (w : World) (a : Option Addr) (k : Nat) (C : Nat → Nat) : Prop :=
  k ≤ 0 ∨ ∃ q off, a = some ⟨q, off, none⟩ ∧ q < w.heap.size ∧ ∀ i, i < k → w.cell? ⟨q, off + i, none⟩ = some (.int .i64 (C i : Nat))
theorem CanIn.keep {w w' : World} {a : Option Addr} {k : Nat} {C : Nat → Nat} (h : CanIn w a k C) (hb : Below w.heap.size w w') : CanIn w' a k C := by
  rcases h with h | ⟨q, off, e, h1, h2⟩
  · exact .inl h
  · exact .inr ⟨q, off, e, Nat.lt_of_lt_of_le h1 hb.size, fun i hi => by rw [hb.cell (p := ⟨q, off + i, none⟩) h1]; exact h2 i hi⟩

theorem sm_len (n : Int) : (sm n).length ≤ 2 := by unfold sm; split <;> simp
theorem itoa_len {n : Int} (h1 : -9 ≤ n) (h2 : n ≤ 9) : (Lib.itoa n).length ≤ 2 := by rw [itoa_sm n h1 h2]; exact sm_len n
theorem boolW_len (b : Bool) : (boolW b).length ≤ 5 := by cases b <;> simp [boolW]
theorem nameK_len {C : Nat → Nat} {b : Nat} {o : Int} (h : NameOk C o) : (nameK C b o).length ≤ 3 := by
  obtain ⟨h1, h2, h3⟩ := h
  unfold nameK
  split
  · have := itoa_len (n := o) (by omega) (by omega); omega
  · split
    · have := itoa_len (n := o - b) (by omega) (by omega); simp; omega
    · have := h3 o.toNat (by omega)
      have := itoa_len (n := (C o.toNat : Nat)) (by omega) (by omega); omega

set_option maxHeartbeats 800000 in
theorem kinNamed_any (ca : Option Addr) (cn cc b : Nat) (o : Int) (C : Nat → Nat) (w : World) (hp : pow10 w) (ho : NameOk C o) (hb : b ≤ 8) (hcn : b ≤ cn) (hc8 : cn ≤ 8) (hx : CanIn w ca b C) :
    Calls Tryd.prog 74 #[.slice ca cn cc, .int .i64 (b : Int), .int .i64 o] w fun e w' => e = .returned (.string ⟨(nameK C b o).toArray⟩) ∧ Below w.heap.size w w' := by
  have HP := hide hp
  obtain ⟨o1, o2, o3⟩ := ho
  clear hp
  by_cases h1 : o < 0
  · have HN : Hid (nameK C b o = Lib.itoa o) := by show _ = _; unfold nameK; rw [if_pos h1]
    clear hx o3
    go_enter Tryd.func74, Tryd.ntmps74
    go_wp2_with fail
    refine (itoa_any o (by omega) (by omega) w HP.out).mono ?_
    rintro e w1 ⟨rfl, b1⟩
    have B1 := hide b1
    clear b1
    go_wp2_with fail
    go_ret
    exact ⟨by rw [HN.out]; rfl, B1.out⟩
  by_cases h2 : (b : Int) ≤ o
  · have HN : Hid (nameK C b o = 43 :: Lib.itoa (o - b)) := by show _ = _; unfold nameK; rw [if_neg h1, if_pos h2]
    have hl := itoa_len (n := o - b) (by omega) (by omega)
    have HI := hide (itoa_any (o - b) (by omega) (by omega) w HP.out)
    have hx1 := add_at [43] (Lib.itoa (o - b)) (43 :: Lib.itoa (o - b)) rfl (by simp) (by omega)
    generalize 43 :: Lib.itoa (o - b) = x1 at hx1 HN
    generalize Lib.itoa (o - b) = x0 at hx1 HI
    clear hx o3 hl
    go_enter Tryd.func74, Tryd.ntmps74
    go_wp2_with fail
    refine HI.out.mono ?_
    rintro e w1 ⟨rfl, b1⟩
    have B1 := hide b1
    clear b1
    go_wp2_with fail
    go_ret
    exact ⟨by rw [HN.out]; rfl, B1.out⟩
  · obtain ⟨m, rfl⟩ := Int.eq_ofNat_of_zero_le (show 0 ≤ o by omega)
    have hm : m < b := by omega
    have HN : Hid (nameK C b m = Lib.itoa (C m : Nat)) := by show _ = _; unfold nameK; rw [if_neg h1, if_neg h2]; simp
    have h8 := o3 m (by omega)
    rcases hx with h0 | ⟨q, off, rfl, q1, q2⟩
    · exfalso; omega
    have c0 := q2 m hm
    have m1 : (0 : Int) ≤ (m : Int) := by omega
    have m2 : (m : Int) < (cn : Int) := by omega
    clear q2 o3
    go_enter Tryd.func74, Tryd.ntmps74
    go_wp2_with fail
    refine (itoa_any (C m : Nat) (by omega) (by omega) w HP.out).mono ?_
    rintro e w1 ⟨rfl, b1⟩
    have B1 := hide b1
    clear b1
    go_wp2_with fail
    go_ret
    exact ⟨by rw [HN.out]; rfl, B1.out⟩
theorem kinNamed_at (ca : Option Addr) (cn cc b : Nat) (o : Int) (C : Nat → Nat) (l : List UInt8) (h : nameK C b o = l) (w0 w : World) (B0 : Below w0.heap.size w0 w) (hp : pow10 w0) (ho : NameOk C o) (hb : b ≤ 8) (hcn : b ≤ cn) (hc8 : cn ≤ 8) (hx : CanIn w0 ca b C) :
    Calls Tryd.prog 74 #[.slice ca cn cc, .int .i64 (b : Int), .int .i64 o] w fun e w' => e = .returned (.string ⟨l.toArray⟩) ∧ (∀ q o v, w.cell? ⟨q, o, none⟩ = some v → w'.cell? ⟨q, o, none⟩ = some v) ∧ Below w0.heap.size w0 w' := by
  refine (kinNamed_any ca cn cc b o C w (pow10_keep hp B0) ho hb hcn hc8 (hx.keep B0)).mono ?_
  rintro e w' ⟨rfl, hb⟩
  exact ⟨by rw [h], fun q o v hv => by rw [hb.cell (p := ⟨q, o, none⟩) (cell_lt hv)]; exact hv, B0.trans (hb.mono B0.size)⟩
end Go.Proofs.YtlmciclkfmeepaaDoor
