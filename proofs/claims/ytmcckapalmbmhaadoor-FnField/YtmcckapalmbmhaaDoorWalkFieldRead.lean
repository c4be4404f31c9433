/- The law of FieldRead, walked. -/
import Derived.Test.YtmcckapalmbmhaaDoorFieldReadS
namespace Go.Proofs.YtmcckapalmbmhaaDoor
open Go.ChangeShapes Go.WideShapes Go.ChangeAt Go.RowKit Go.Joins
set_option linter.unusedVariables false

theorem FieldAns.same {s : List UInt8} {e e' : Ending} (h : FieldAns s e) (h' : FieldAns s e') : ∃ k o m b, e = .returned (.tuple #[.agg #[.int .i64 k, .int .i64 o, .bool m], .bool b]) ∧ e' = .returned (.tuple #[.agg #[.int .i64 k, .int .i64 o, .bool m], .bool b]) := by
  rcases h with ⟨k, o, m, hf, rfl⟩ | ⟨hn, rfl⟩
  · rcases h' with ⟨k', o', m', hf', rfl⟩ | ⟨hn', rfl⟩
    · obtain ⟨rfl, rfl, rfl⟩ := fieldTxt_inj hf.1 hf'.1 (hf.2.trans hf'.2.symm)
      exact ⟨k, o, m, true, rfl, rfl⟩
    · exact absurd hf (hn' k o m)
  · rcases h' with ⟨k', o', m', hf', rfl⟩ | ⟨hn', rfl⟩
    · exact absurd hf' (hn k' o' m')
    · exact ⟨0, 0, false, false, rfl, rfl⟩

set_option maxHeartbeats 400000 in
theorem eqField_one (k o : Int) (m : Bool) (w : World) :
    Calls Tryd.prog 9 #[.agg #[.int .i64 k, .int .i64 o, .bool m], .agg #[.int .i64 k, .int .i64 o, .bool m]] w fun e w' => e = .returned (.bool true) ∧ Below w.heap.size w w' := by
  go_enter Tryd.func9, Tryd.ntmps9
  go_wp2_with fail
  go_ret
  exact ⟨rfl, ((Below.refl _ _).alloc (Nat.le_refl _) _).alloc (by simp) _⟩

set_option maxHeartbeats 1600000 in
theorem fnExactFieldRead_walk (s : ByteArray) (ws : s.size ≤ maxLen) (w : World) (hp : pow10 w) (he : errsAt w) (hl : lettersAt w) :
    Calls Tryd.prog 3 #[.string s] w fun e w' => e = .returned (.bool true) ∧ Below w.heap.size w w' := by
  unfold maxLen at ws
  by_cases hz : 1048576 < s.size
  · go_enter Tryd.func3, Tryd.ntmps3
    go_wp2_with fail
    go_ret
    exact ⟨rfl, Below.refl _ _⟩
  have HP := hide hp
  have HE := hide he
  have HL := hide hl
  have g1 : (s.size : Int) ≤ 1048576 := by omega
  clear hp he hl
  go_enter Tryd.func3, Tryd.ntmps3
  go_wp2_with fail
  refine (specFieldRead_any s w (by omega)).mono ?_
  rintro e w1 ⟨ha, b1⟩
  have B1 := hide b1
  obtain ⟨k, o, m, b, rfl, _⟩ := ha.same ha
  have HA := hide ha
  clear ha b1
  go_wp2_with fail
  have V1 : Hid (Below w.heap.size w (w1.alloc (.cells #[.int .i64 k, .int .i64 o, .bool m] 23))) := Below.al B1.out (Nat.le_refl _) _
  refine (implFieldRead_any s _ (by omega) (pow10_keep HP.out V1.out) (HE.out.keep V1.out) (HL.out.keep V1.out)).mono ?_
  rintro e w2 ⟨ha2, b2⟩
  obtain ⟨k', o', m', b', q1, q2⟩ := HA.out.same ha2
  have q3 : k' = k ∧ o' = o ∧ m' = m ∧ b' = b := by
    injection q1 with q1
    simp at q1
    obtain ⟨⟨a1, a2, a3⟩, a4⟩ := q1
    exact ⟨a1.symm, a2.symm, a3.symm, a4.symm⟩
  obtain ⟨rfl, rfl, rfl, rfl⟩ := q3
  subst q2
  have V2 : Hid (Below w.heap.size w w2) := V1.out.trans (b2.mono V1.out.size)
  have R2 : Hid (Rec w2 w1.heap.size 23 [.int .i64 k', .int .i64 o', .bool m']) := (Rec.new' _ _ _ _ rfl).below b2 (by go_size)
  have lt := R2.out.lt
  have c0 := R2.out.cell (o := 0) rfl
  have c1 := R2.out.cell (o := 1) rfl
  have c2 := R2.out.cell (o := 2) rfl
  clear q1 b2 ha2 HA
  go_wp2_with fail
  refine (eqField_one k' o' m' _).mono ?_
  rintro e w3 ⟨rfl, b3⟩
  have V3 : Hid (Below w.heap.size w w3) := (Below.al V2.out (Nat.le_refl _) _).trans (b3.mono (Nat.le_trans V2.out.size (by go_size)))
  clear b3
  go_wp2_with fail
  go_ret
  exact ⟨rfl, V3.out⟩
end Go.Proofs.YtmcckapalmbmhaaDoor
