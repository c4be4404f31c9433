/- The law of InsRead, walked. -/
import Derived.Test.YtdicmlbgpbglpaaDoorInsReadS
import Derived.Test.YtdicmlbgpbglpaaDoorInsReadI
namespace Go.Proofs.YtdicmlbgpbglpaaDoor
open Go.ChangeShapes Go.WideShapes Go.ChangeAt Go.RowKit Go.Joins
set_option linter.unusedVariables false

theorem InsAns.same {s : List UInt8} {e e' : Ending} (h : InsAns s e) (h' : InsAns s e') : ∃ k o m b, e = .returned (.tuple #[.agg #[.int .i64 k, .int .i64 o, .int .i64 m], .bool b]) ∧ e' = .returned (.tuple #[.agg #[.int .i64 k, .int .i64 o, .int .i64 m], .bool b]) := by
  cases h with
  | yes hf =>
    cases h' with
    | yes hf' =>
      obtain ⟨rfl, rfl, rfl⟩ := isIns_inj hf hf'
      exact ⟨_, _, _, true, rfl, rfl⟩
    | no hn' => exact absurd hf (hn' _ _ _)
  | no hn =>
    cases h' with
    | yes hf' => exact absurd hf' (hn _ _ _)
    | no hn' => exact ⟨0, 0, 0, false, rfl, rfl⟩

set_option maxHeartbeats 400000 in
theorem eqIns_one (k o m : Int) (w : World) :
    Calls Tryd.prog 17 #[.agg #[.int .i64 k, .int .i64 o, .int .i64 m], .agg #[.int .i64 k, .int .i64 o, .int .i64 m]] w fun e w' => e = .returned (.bool true) ∧ Below w.heap.size w w' := by
  go_enter Tryd.func17, Tryd.ntmps17
  go_wp2_with fail
  go_ret
  exact ⟨rfl, ((Below.refl _ _).alloc (Nat.le_refl _) _).alloc (by simp) _⟩

set_option maxHeartbeats 1600000 in
theorem fnExactInsRead_walk (s : ByteArray) (ws : s.size ≤ maxLen) (w : World) (hp : pow10 w) (he : errsAt w) (hl : wordsAt w) :
    Calls Tryd.prog 5 #[.string s] w fun e w' => e = .returned (.bool true) ∧ Below w.heap.size w w' := by
  unfold maxLen at ws
  by_cases hz : 1048576 < s.size
  · go_enter Tryd.func5, Tryd.ntmps5
    go_wp2_with fail
    go_ret
    exact ⟨rfl, Below.refl _ _⟩
  have HP : Hid (readAt w) := ⟨hp, he, hl⟩
  have g1 : (s.size : Int) ≤ 1048576 := by omega
  clear hp he hl
  go_enter Tryd.func5, Tryd.ntmps5
  go_wp2_with fail
  refine (specInsRead_any s w (by omega)).mono ?_
  rintro e w1 ⟨ha, b1⟩
  have B1 := hide b1
  obtain ⟨k, o, m, b, rfl, _⟩ := ha.same ha
  have HA := hide ha
  clear ha b1
  go_wp2_with fail
  have V1 : Hid (Below w.heap.size w (w1.alloc (.cells #[.int .i64 k, .int .i64 o, .int .i64 m] 35))) := Below.al B1.out (Nat.le_refl _) _
  refine (implInsRead_any s _ (by omega) (HP.out.keep V1.out)).mono ?_
  rintro e w2 ⟨ha2, b2⟩
  obtain ⟨k', o', m', b', q1, q2⟩ := HA.out.same ha2
  have q3 : k' = k ∧ o' = o ∧ m' = m ∧ b' = b := by
    injection q1 with q1
    simp at q1
    obtain ⟨⟨a1, a2, a3⟩, a4⟩ := q1
    exact ⟨a1.symm, a2.symm, a3.symm, a4.symm⟩
  obtain ⟨rfl, rfl, rfl, rfl⟩ := q3
  subst q2
  have V2 : Hid (Below w.heap.size w w2) := V1.out.trans (b2.mono V1.out.size)
  have R2 : Hid (Rec w2 w1.heap.size 35 [.int .i64 k', .int .i64 o', .int .i64 m']) := (Rec.new' _ _ _ _ rfl).below b2 (by go_size)
  have lt := R2.out.lt
  have c0 := R2.out.cell (o := 0) rfl
  have c1 := R2.out.cell (o := 1) rfl
  have c2 := R2.out.cell (o := 2) rfl
  clear q1 b2 ha2 HA
  go_wp2_with fail
  refine (eqIns_one k' o' m' _).mono ?_
  rintro e w3 ⟨rfl, b3⟩
  have V3 : Hid (Below w.heap.size w w3) := (Below.al V2.out (Nat.le_refl _) _).trans (b3.mono (Nat.le_trans V2.out.size (by go_size)))
  clear b3
  go_wp2_with fail
  go_ret
  exact ⟨rfl, V3.out⟩
end Go.Proofs.YtdicmlbgpbglpaaDoor
