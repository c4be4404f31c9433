/- FnSort, walked. -/
import Derived.Test.YtdjmpbkgbiijeaaDrawSort
import Derived.Test.YtdjmpbkgbiijeaaSortOk
import Derived.Deep.RegionHeld3
import Derived.Deep.RegionHeld2
import Derived.Deep.RegionWith
namespace Go.Proofs.Ytdjmpbkgbiijeaa
open Go.ChangeShapes Go.WideShapes Go.ChangeAt Go.RowKit
set_option linter.unusedVariables false
set_option linter.unusedSimpArgs false

/-- A field lies in block b; all that was there is as it was. -/
def KeptF (w : World) (b : Nat) (k o : Int) (m : Bool) (W : World) : Prop := Rec W b 24 [.int .i64 k, .int .i64 o, .bool m] ∧ Below w.heap.size w W
theorem KeptF.go {w W W' : World} {b : Nat} {k o : Int} {m : Bool} (h : KeptF w b k o m W) (hb : Below W.heap.size W W') : KeptF w b k o m W' := ⟨h.1.below hb h.1.lt, h.2.trans (hb.mono h.2.size)⟩
theorem sortOk_more (k o x : Int) (m : Bool) (h : sortOk k o x m = true) : sortOk k o (x + 1) m = true := by
  simp [sortOk, fieldOk] at *
  obtain ⟨h1, h2⟩ := h
  refine ⟨?_, h2⟩
  by_cases h3 : k = 1
  · rw [if_pos h3] at h1 ⊢; exact h1
  · rw [if_neg h3] at h1 ⊢
    exact ⟨h1.1, by omega⟩

theorem implSortOk_at (k o n : Int) (m : Bool) (c : Bool) (h : sortOk k o n m = c) (w : World) :
    Calls Try.prog 5 #[.agg #[.int .i64 k, .int .i64 o, .bool m], .int .i64 n] w fun e w' => e = .returned (.bool c) ∧ Below w.heap.size w w' := h ▸ implSortOk_any k o n m w

set_option maxHeartbeats 6400000 in
theorem fnSort_walk (a : Option Addr) (cap n : Nat) (hc : n ≤ cap) (w : World) (h : BytesIn w w.heap.size a n) :
    Calls Try.prog 3 #[.slice a n cap] w fun e w' => e = .returned (.bool true) ∧ Below w.heap.size w w' := by
  by_cases hn : 1048576 < n
  · have h1 : (1048576 : Int) < (n : Int) := by omega
    go_enter Try.func3, Try.ntmps3
    go_wp2_with fail
    go_ret
    exact ⟨rfl, Below.refl _ _⟩
  have h1 : (n : Int) ≤ 1048576 := by omega
  go_enter Try.func3, Try.ntmps3
  go_wp2_with fail
  refine (drawSortOk_any a cap n _ hc h).mono ?_
  rintro e w1 ⟨k, o, m, x, rfl, x1, x2, b1⟩
  have B1 := hide b1
  clear b1 h
  have K1 : Hid (∀ m', m' = m → KeptF w w1.heap.size k o m' (w1.alloc (.cells #[.int .i64 k, .int .i64 o, .bool m'] 24))) := fun m' hm => ⟨Rec.new' _ _ _ _ rfl, Below.al B1.out (Nat.le_refl _) _⟩
  cases hF : fieldOk k o x <;> cases m
  · have CI : Hid (∀ W, KeptF w w1.heap.size k o false W → Calls Try.prog 5 #[.agg #[.int .i64 k, .int .i64 o, .bool false], .int .i64 x] W fun e w' => e = .returned (.bool false) ∧ KeptF w w1.heap.size k o false w') := fun W hW =>
      (implSortOk_any k o x false W).mono fun e w' ⟨he, hb⟩ => ⟨by rw [he]; simp [sortOk, hF], hW.go hb⟩
    have CJ : Hid (∀ W, KeptF w w1.heap.size k o false W → Calls Try.prog 6 #[.agg #[.int .i64 k, .int .i64 o, .bool false], .int .i64 x] W fun e w' => e = .returned (.bool false) ∧ KeptF w w1.heap.size k o false w') := fun W hW =>
      (specSortOk_any k o x false W).mono fun e w' ⟨he, hb⟩ => ⟨by rw [he]; simp [sortOk, hF], hW.go hb⟩
    have CF : Hid (∀ W, KeptF w w1.heap.size k o false W → Calls Try.prog 7 #[.agg #[.int .i64 k, .int .i64 o, .bool false], .int .i64 x] W fun e w' => e = .returned (.bool false) ∧ KeptF w w1.heap.size k o false w') := fun W hW =>
      (implFieldOk_any k o x false W).mono fun e w' ⟨he, hb⟩ => ⟨by rw [he]; simp [sortOk, hF], hW.go hb⟩
    have HS : Hid (sortOk k o x true = false) := by show _ = _; simp [sortOk]
    have K2 := hide (K1.out false rfl)
    have HF := hide hF
    clear hF K1
    go_wp2_with fail
    first
    | (go_region_with (first
      | (go_at_call 5; refine (CI.out _ ?_).mono ?_; (first | assumption | exact ⟨K2.out.1, K2.out.2.drew⟩); rintro e v1 ⟨rfl, hk1⟩; have c0 := hk1.1.cell (o := 0) rfl; have c1 := hk1.1.cell (o := 1) rfl; have c2 := hk1.1.cell (o := 2) rfl)
      | (go_at_call 6; refine (CJ.out _ ?_).mono ?_; (first | assumption | exact ⟨K2.out.1, K2.out.2.drew⟩); rintro e v2 ⟨rfl, hk2⟩; have c0 := hk2.1.cell (o := 0) rfl; have c1 := hk2.1.cell (o := 1) rfl; have c2 := hk2.1.cell (o := 2) rfl)
      | (go_at_call 7; refine (CF.out _ ?_).mono ?_; (first | assumption | exact ⟨K2.out.1, K2.out.2.drew⟩); rintro e v3 ⟨rfl, hk3⟩; have c0 := hk3.1.cell (o := 0) rfl; have c1 := hk3.1.cell (o := 1) rfl; have c2 := hk3.1.cell (o := 2) rfl)))
    | fail
    all_goals
      have K3 := hide hk3
      have d0 := hk3.1.cell (o := 0) rfl
      have d1 := hk3.1.cell (o := 1) rfl
      have d2 := hk3.1.cell (o := 2) rfl
      have lt3 := hk3.1.lt
      clear hk1 hk2 hk3 c0 c1 c2
      try clear hk1
      try clear c0 c1 c2
      try clear c0 c1 c2
      try clear c0 c1 c2
      go_wp2_with fail
      refine (implSortOk_at k o x true false HS.out _).mono ?_
      rintro e u1 ⟨rfl, b1⟩
      have K4 : Hid (KeptF w w1.heap.size k o false u1) := KeptF.go (KeptF.go K3.out (Below.al (Below.refl _ _) (Nat.le_refl _) _)) b1
      clear b1 d0 d1 d2 lt3
      have d0 := K4.out.1.cell (o := 0) rfl
      have d1 := K4.out.1.cell (o := 1) rfl
      have d2 := K4.out.1.cell (o := 2) rfl
      have lt4 := K4.out.1.lt
      go_wp2_with fail
      refine (CI.out _ K4.out).mono ?_
      rintro e u2 ⟨rfl, K5⟩
      have KK5 := hide K5
      have d0 := K5.1.cell (o := 0) rfl
      have d1 := K5.1.cell (o := 1) rfl
      have d2 := K5.1.cell (o := 2) rfl
      have lt5 := K5.1.lt
      clear K5
      go_wp2_with fail
      go_ret
      exact ⟨rfl, KK5.out.2⟩
  · have CI : Hid (∀ W, KeptF w w1.heap.size k o true W → Calls Try.prog 5 #[.agg #[.int .i64 k, .int .i64 o, .bool true], .int .i64 x] W fun e w' => e = .returned (.bool false) ∧ KeptF w w1.heap.size k o true w') := fun W hW =>
      (implSortOk_any k o x true W).mono fun e w' ⟨he, hb⟩ => ⟨by rw [he]; simp [sortOk, hF], hW.go hb⟩
    have CJ : Hid (∀ W, KeptF w w1.heap.size k o true W → Calls Try.prog 6 #[.agg #[.int .i64 k, .int .i64 o, .bool true], .int .i64 x] W fun e w' => e = .returned (.bool false) ∧ KeptF w w1.heap.size k o true w') := fun W hW =>
      (specSortOk_any k o x true W).mono fun e w' ⟨he, hb⟩ => ⟨by rw [he]; simp [sortOk, hF], hW.go hb⟩
    have CF : Hid (∀ W, KeptF w w1.heap.size k o true W → Calls Try.prog 7 #[.agg #[.int .i64 k, .int .i64 o, .bool true], .int .i64 x] W fun e w' => e = .returned (.bool false) ∧ KeptF w w1.heap.size k o true w') := fun W hW =>
      (implFieldOk_any k o x true W).mono fun e w' ⟨he, hb⟩ => ⟨by rw [he]; simp [sortOk, hF], hW.go hb⟩
    have HS : Hid (sortOk k o x true = false) := by show _ = _; simp [sortOk]
    have K2 := hide (K1.out true rfl)
    have HF := hide hF
    clear hF K1
    go_wp2_with fail
    first
    | (go_region_with (first
      | (go_at_call 5; refine (CI.out _ ?_).mono ?_; (first | assumption | exact ⟨K2.out.1, K2.out.2.drew⟩); rintro e v1 ⟨rfl, hk1⟩; have c0 := hk1.1.cell (o := 0) rfl; have c1 := hk1.1.cell (o := 1) rfl; have c2 := hk1.1.cell (o := 2) rfl)
      | (go_at_call 6; refine (CJ.out _ ?_).mono ?_; (first | assumption | exact ⟨K2.out.1, K2.out.2.drew⟩); rintro e v2 ⟨rfl, hk2⟩; have c0 := hk2.1.cell (o := 0) rfl; have c1 := hk2.1.cell (o := 1) rfl; have c2 := hk2.1.cell (o := 2) rfl)
      | (go_at_call 7; refine (CF.out _ ?_).mono ?_; (first | assumption | exact ⟨K2.out.1, K2.out.2.drew⟩); rintro e v3 ⟨rfl, hk3⟩; have c0 := hk3.1.cell (o := 0) rfl; have c1 := hk3.1.cell (o := 1) rfl; have c2 := hk3.1.cell (o := 2) rfl)))
    | fail
    all_goals
      have K3 := hide hk3
      have d0 := hk3.1.cell (o := 0) rfl
      have d1 := hk3.1.cell (o := 1) rfl
      have d2 := hk3.1.cell (o := 2) rfl
      have lt3 := hk3.1.lt
      clear hk1 hk2 hk3 c0 c1 c2
      try clear hk1
      try clear c0 c1 c2
      try clear c0 c1 c2
      try clear c0 c1 c2
      go_wp2_with fail
      refine (implSortOk_at k o x true false HS.out _).mono ?_
      rintro e u1 ⟨rfl, b1⟩
      have K4 : Hid (KeptF w w1.heap.size k o true u1) := KeptF.go (KeptF.go K3.out (Below.al (Below.refl _ _) (Nat.le_refl _) _)) b1
      clear b1 d0 d1 d2 lt3
      have d0 := K4.out.1.cell (o := 0) rfl
      have d1 := K4.out.1.cell (o := 1) rfl
      have d2 := K4.out.1.cell (o := 2) rfl
      have lt4 := K4.out.1.lt
      go_wp2_with fail
      refine (CI.out _ K4.out).mono ?_
      rintro e u2 ⟨rfl, K5⟩
      have KK5 := hide K5
      have d0 := K5.1.cell (o := 0) rfl
      have d1 := K5.1.cell (o := 1) rfl
      have d2 := K5.1.cell (o := 2) rfl
      have lt5 := K5.1.lt
      clear K5
      go_wp2_with fail
      go_ret
      exact ⟨rfl, KK5.out.2⟩
  · have CI : Hid (∀ W, KeptF w w1.heap.size k o false W → Calls Try.prog 5 #[.agg #[.int .i64 k, .int .i64 o, .bool false], .int .i64 x] W fun e w' => e = .returned (.bool true) ∧ KeptF w w1.heap.size k o false w') := fun W hW =>
      (implSortOk_any k o x false W).mono fun e w' ⟨he, hb⟩ => ⟨by rw [he]; simp [sortOk, hF], hW.go hb⟩
    have CJ : Hid (∀ W, KeptF w w1.heap.size k o false W → Calls Try.prog 6 #[.agg #[.int .i64 k, .int .i64 o, .bool false], .int .i64 x] W fun e w' => e = .returned (.bool true) ∧ KeptF w w1.heap.size k o false w') := fun W hW =>
      (specSortOk_any k o x false W).mono fun e w' ⟨he, hb⟩ => ⟨by rw [he]; simp [sortOk, hF], hW.go hb⟩
    have CF : Hid (∀ W, KeptF w w1.heap.size k o false W → Calls Try.prog 7 #[.agg #[.int .i64 k, .int .i64 o, .bool false], .int .i64 x] W fun e w' => e = .returned (.bool true) ∧ KeptF w w1.heap.size k o false w') := fun W hW =>
      (implFieldOk_any k o x false W).mono fun e w' ⟨he, hb⟩ => ⟨by rw [he]; simp [sortOk, hF], hW.go hb⟩
    have HS : Hid (sortOk k o x true = false) := by show _ = _; simp [sortOk]
    have HM : Hid (sortOk k o (x + 1) false = true) := sortOk_more k o x false (by simp [sortOk, hF])
    have K2 := hide (K1.out false rfl)
    have HF := hide hF
    clear hF K1
    go_wp2_with fail
    first
    | (go_region_held3 (fun w' => (w'.cell? ⟨w1.heap.size, 0, none⟩ = some (.int .i64 k) ∧ w'.cell? ⟨w1.heap.size, 1, none⟩ = some (.int .i64 o) ∧ w'.cell? ⟨w1.heap.size, 2, none⟩ = some (.bool false)) ∧ KeptF w w1.heap.size k o false w') (refine ⟨⟨?_, ?_, ?_⟩, ?_⟩ <;> first | assumption | exact ⟨K2.out.1, K2.out.2.drew⟩ | go_keep)
      ((first
      | (go_at_call 5; refine (CI.out _ ?_).mono ?_; (first | assumption | exact ⟨K2.out.1, K2.out.2.drew⟩); rintro e v1 ⟨rfl, hk1⟩; have c0 := hk1.1.cell (o := 0) rfl; have c1 := hk1.1.cell (o := 1) rfl; have c2 := hk1.1.cell (o := 2) rfl)
      | (go_at_call 6; refine (CJ.out _ ?_).mono ?_; (first | assumption | exact ⟨K2.out.1, K2.out.2.drew⟩); rintro e v2 ⟨rfl, hk2⟩; have c0 := hk2.1.cell (o := 0) rfl; have c1 := hk2.1.cell (o := 1) rfl; have c2 := hk2.1.cell (o := 2) rfl)
      | (go_at_call 7; refine (CF.out _ ?_).mono ?_; (first | assumption | exact ⟨K2.out.1, K2.out.2.drew⟩); rintro e v3 ⟨rfl, hk3⟩; have c0 := hk3.1.cell (o := 0) rfl; have c1 := hk3.1.cell (o := 1) rfl; have c2 := hk3.1.cell (o := 2) rfl))))
    | fail
    all_goals
      have K3 := hide hk3
      have d0 := hk3.1.cell (o := 0) rfl
      have d1 := hk3.1.cell (o := 1) rfl
      have d2 := hk3.1.cell (o := 2) rfl
      have lt3 := hk3.1.lt
      clear hk1 hk2 hk3 c0 c1 c2
      try clear hk1
      try clear c0 c1 c2
      try clear c0 c1 c2
      try clear c0 c1 c2
      go_wp2_with fail
      refine (implSortOk_at k o x true false HS.out _).mono ?_
      rintro e u1 ⟨rfl, b1⟩
      have K4 : Hid (KeptF w w1.heap.size k o false u1) := KeptF.go (KeptF.go K3.out (Below.al (Below.refl _ _) (Nat.le_refl _) _)) b1
      clear b1 d0 d1 d2 lt3
      have d0 := K4.out.1.cell (o := 0) rfl
      have d1 := K4.out.1.cell (o := 1) rfl
      have d2 := K4.out.1.cell (o := 2) rfl
      have lt4 := K4.out.1.lt
      go_wp2_with fail
      refine (CI.out _ K4.out).mono ?_
      rintro e u2 ⟨rfl, K5⟩
      have KK5 := hide K5
      have d0 := K5.1.cell (o := 0) rfl
      have d1 := K5.1.cell (o := 1) rfl
      have d2 := K5.1.cell (o := 2) rfl
      have lt5 := K5.1.lt
      clear K5
      go_wp2_with fail
      refine (implSortOk_at k o (x + 1) false true HM.out _).mono ?_
      rintro e u3 ⟨rfl, b3⟩
      have K6 := hide (KK5.out.go b3)
      clear b3
      go_wp2_with fail
      go_ret
      exact ⟨rfl, K6.out.2⟩
  · have CI : Hid (∀ W, KeptF w w1.heap.size k o true W → Calls Try.prog 5 #[.agg #[.int .i64 k, .int .i64 o, .bool true], .int .i64 x] W fun e w' => e = .returned (.bool false) ∧ KeptF w w1.heap.size k o true w') := fun W hW =>
      (implSortOk_any k o x true W).mono fun e w' ⟨he, hb⟩ => ⟨by rw [he]; simp [sortOk, hF], hW.go hb⟩
    have CJ : Hid (∀ W, KeptF w w1.heap.size k o true W → Calls Try.prog 6 #[.agg #[.int .i64 k, .int .i64 o, .bool true], .int .i64 x] W fun e w' => e = .returned (.bool false) ∧ KeptF w w1.heap.size k o true w') := fun W hW =>
      (specSortOk_any k o x true W).mono fun e w' ⟨he, hb⟩ => ⟨by rw [he]; simp [sortOk, hF], hW.go hb⟩
    have CF : Hid (∀ W, KeptF w w1.heap.size k o true W → Calls Try.prog 7 #[.agg #[.int .i64 k, .int .i64 o, .bool true], .int .i64 x] W fun e w' => e = .returned (.bool true) ∧ KeptF w w1.heap.size k o true w') := fun W hW =>
      (implFieldOk_any k o x true W).mono fun e w' ⟨he, hb⟩ => ⟨by rw [he]; simp [sortOk, hF], hW.go hb⟩
    have HS : Hid (sortOk k o x true = false) := by show _ = _; simp [sortOk]
    have K2 := hide (K1.out true rfl)
    have HF := hide hF
    clear hF K1
    go_wp2_with fail
    first
    | (go_region_held3 (fun w' => (w'.cell? ⟨w1.heap.size, 0, none⟩ = some (.int .i64 k) ∧ w'.cell? ⟨w1.heap.size, 1, none⟩ = some (.int .i64 o) ∧ w'.cell? ⟨w1.heap.size, 2, none⟩ = some (.bool true)) ∧ KeptF w w1.heap.size k o true w') (refine ⟨⟨?_, ?_, ?_⟩, ?_⟩ <;> first | assumption | exact ⟨K2.out.1, K2.out.2.drew⟩ | go_keep)
      ((first
      | (go_at_call 5; refine (CI.out _ ?_).mono ?_; (first | assumption | exact ⟨K2.out.1, K2.out.2.drew⟩); rintro e v1 ⟨rfl, hk1⟩; have c0 := hk1.1.cell (o := 0) rfl; have c1 := hk1.1.cell (o := 1) rfl; have c2 := hk1.1.cell (o := 2) rfl)
      | (go_at_call 6; refine (CJ.out _ ?_).mono ?_; (first | assumption | exact ⟨K2.out.1, K2.out.2.drew⟩); rintro e v2 ⟨rfl, hk2⟩; have c0 := hk2.1.cell (o := 0) rfl; have c1 := hk2.1.cell (o := 1) rfl; have c2 := hk2.1.cell (o := 2) rfl)
      | (go_at_call 7; refine (CF.out _ ?_).mono ?_; (first | assumption | exact ⟨K2.out.1, K2.out.2.drew⟩); rintro e v3 ⟨rfl, hk3⟩; have c0 := hk3.1.cell (o := 0) rfl; have c1 := hk3.1.cell (o := 1) rfl; have c2 := hk3.1.cell (o := 2) rfl))))
    | fail
    all_goals
      have K3 := hide hk3
      have d0 := hk3.1.cell (o := 0) rfl
      have d1 := hk3.1.cell (o := 1) rfl
      have d2 := hk3.1.cell (o := 2) rfl
      have lt3 := hk3.1.lt
      clear hk1 hk2 hk3 c0 c1 c2
      try clear hk1
      try clear c0 c1 c2
      try clear c0 c1 c2
      try clear c0 c1 c2
      go_wp2_with fail
      refine (implSortOk_at k o x true false HS.out _).mono ?_
      rintro e u1 ⟨rfl, b1⟩
      have K4 : Hid (KeptF w w1.heap.size k o true u1) := KeptF.go (KeptF.go K3.out (Below.al (Below.refl _ _) (Nat.le_refl _) _)) b1
      clear b1 d0 d1 d2 lt3
      have d0 := K4.out.1.cell (o := 0) rfl
      have d1 := K4.out.1.cell (o := 1) rfl
      have d2 := K4.out.1.cell (o := 2) rfl
      have lt4 := K4.out.1.lt
      go_wp2_with fail
      refine (CI.out _ K4.out).mono ?_
      rintro e u2 ⟨rfl, K5⟩
      have KK5 := hide K5
      have d0 := K5.1.cell (o := 0) rfl
      have d1 := K5.1.cell (o := 1) rfl
      have d2 := K5.1.cell (o := 2) rfl
      have lt5 := K5.1.lt
      clear K5
      go_wp2_with fail
      go_ret
      exact ⟨rfl, KK5.out.2⟩
end Go.Proofs.Ytdjmpbkgbiijeaa
