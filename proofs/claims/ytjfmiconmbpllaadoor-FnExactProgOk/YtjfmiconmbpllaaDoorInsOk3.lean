/- InsOk, InsHas of the program. -/
import Derived.Test.YtjfmiconmbpllaaDoorInsOk
import Derived.LoopN
namespace Go.Proofs.YtjfmiconmbpllaaDoor
open Go.ChangeShapes Go.WideShapes Go.ChangeAt Go.RowKit
set_option linter.unusedVariables false

theorem insIsKind_at (op : Int) (b : Bool) (h : decide (1 ≤ op ∧ op ≤ 33) = b) (w : World) :
    Calls Tryd.prog 60 #[.int .i64 op] w fun e w' => e = .returned (.bool b) ∧ w' = w := h ▸ insIsKind_any op w

theorem holds_at (lo hi n : Int) (c : Bool) (h : decide (lo ≤ n ∧ n < hi) = c) (w : World) :
    Calls Tryd.prog 62 #[.agg #[.int .i64 lo, .int .i64 hi], .int .i64 n] w fun e w' => e = .returned (.bool c) ∧ Below w.heap.size w w' := h ▸ holds_any lo hi n w

theorem insSpans_at (op : Int) (n : Nat) (h : spanN op = n) (w : World) :
    Calls Tryd.prog 61 #[.int .i64 op] w fun e w' => ∃ a, e = .returned (.slice a n n) ∧ SpansAt w' w.heap.size w'.heap.size a op ∧ Below w.heap.size w w' := h ▸ insSpans_any op w

set_option maxHeartbeats 1000000 in
theorem implInsOk_0 (op a b : Int) (h1 : 1 ≤ op) (h2 : op ≤ 33) (hn : spanN op = 0) (ca cb : Bool) (hca : decide (0 ≤ a ∧ a < 1) = ca) (hcb : decide (0 ≤ b ∧ b < 1) = cb) (w : World) :
    Calls Tryd.prog 38 #[.agg #[.int .i64 op, .int .i64 a, .int .i64 b]] w fun e w' => e = .returned (.bool (ca && cb)) ∧ Below w.heap.size w w' := by
  have HK : Hid (decide (1 ≤ op ∧ op ≤ 33) = true) := by simp [Hid, h1, h2]
  have HN := hide hn
  have HA := hide hca
  have HB := hide hcb
  clear hn hca hcb h1 h2
  cases ca
  all_goals
    go_enter Tryd.func38, Tryd.ntmps38
    go_wp2_with (go_at_call 60; refine (insIsKind_at _ _ HK.out _).mono ?_; rintro e w' ⟨rfl, rfl⟩)
    refine (insSpans_at _ _ HN.out _).mono ?_
    rintro e w1 ⟨a1, rfl, hs1, hb1⟩
    have B1 : Below w.heap.size w w1 := ((Below.refl _ _).alloc (Nat.le_refl _) _).trans (hb1.mono (by simp))
    obtain ⟨hc1, hf1⟩ := bcell hb1
    have hz1 := hb1.size
    simp at hz1
    have c1 := hc1 w.heap.size 1 (by simp)
    have c2 := hc1 w.heap.size 2 (by simp)
    simp at c1 c2
    clear hc1 hf1
    go_wp2_with fail
    refine wp_loop_rounds 3 ?_
    rw [rounds_succ]
    go_wp2_with fail
    refine (holds_at _ _ _ _ HA.out _).mono ?_
    rintro e w2 ⟨rfl, hb2⟩
    have B2 : Below w.heap.size w w2 := (((B1.alloc (by omega) _).alloc (by simp; omega) _)).trans (hb2.mono (by simp; omega))
    obtain ⟨hc2, hf2⟩ := bcell hb2
    have hz2 := hb2.size
    simp at hz2
    have d1 := hc2 w1.heap.size 1 (by simp; omega)
    simp at d1
    clear hc2 hf2
    go_wp2_with fail
  · go_ret
    exact ⟨rfl, B2⟩
  cases cb
  all_goals
    rw [rounds_succ]
    go_wp2_with fail
    refine (holds_at _ _ _ _ HB.out _).mono ?_
    rintro e w3 ⟨rfl, hb3⟩
    have B3 : Below w.heap.size w w3 := (B2.alloc (by omega) _).trans (hb3.mono (by simp; omega))
    go_wp2_with fail
  · go_ret
    exact ⟨rfl, B3⟩
  · rw [rounds_succ]
    go_wp2_with fail
    go_ret
    exact ⟨rfl, B3⟩

set_option maxHeartbeats 1000000 in
theorem implInsOk_1 (op a b : Int) (h1 : 1 ≤ op) (h2 : op ≤ 33) (hn : spanN op = 1) (ca cb : Bool) (hca : decide ((spanLo op) ≤ a ∧ a < (spanHi op)) = ca) (hcb : decide (0 ≤ b ∧ b < 1) = cb) (w : World) :
    Calls Tryd.prog 38 #[.agg #[.int .i64 op, .int .i64 a, .int .i64 b]] w fun e w' => e = .returned (.bool (ca && cb)) ∧ Below w.heap.size w w' := by
  have HK : Hid (decide (1 ≤ op ∧ op ≤ 33) = true) := by simp [Hid, h1, h2]
  have HN := hide hn
  have HA := hide hca
  have HB := hide hcb
  clear hn hca hcb h1 h2
  cases ca
  all_goals
    go_enter Tryd.func38, Tryd.ntmps38
    go_wp2_with (go_at_call 60; refine (insIsKind_at _ _ HK.out _).mono ?_; rintro e w' ⟨rfl, rfl⟩)
    refine (insSpans_at _ _ HN.out _).mono ?_
    rintro e w1 ⟨a1, rfl, hs1, hb1⟩
    have B1 : Below w.heap.size w w1 := ((Below.refl _ _).alloc (Nat.le_refl _) _).trans (hb1.mono (by simp))
    obtain ⟨hc1, hf1⟩ := bcell hb1
    have hz1 := hb1.size
    simp at hz1
    have c1 := hc1 w.heap.size 1 (by simp)
    have c2 := hc1 w.heap.size 2 (by simp)
    simp at c1 c2
    clear hc1 hf1
    obtain ⟨q, rfl, hq1, hq2, e0, e1, e23⟩ : ∃ q, a1 = some ⟨q, 0, none⟩ ∧ w.heap.size + 1 ≤ q ∧ q < w1.heap.size ∧ w1.cell? ⟨q, 0, none⟩ = some (.int .i64 (spanLo op)) ∧ w1.cell? ⟨q, 1, none⟩ = some (.int .i64 (spanHi op)) ∧ (spanN op = 2 → w1.cell? ⟨q, 2, none⟩ = some (.int .i64 0) ∧ w1.cell? ⟨q, 3, none⟩ = some (.int .i64 4)) := by
      rcases hs1 with h | h
      · rw [HN.out] at h; cases h
      · simpa using h
    have hne : q ≠ w1.heap.size := by omega
    go_wp2_with fail
    refine wp_loop_rounds 3 ?_
    rw [rounds_succ]
    go_wp2_with fail
    refine (holds_at _ _ _ _ HA.out _).mono ?_
    rintro e w2 ⟨rfl, hb2⟩
    have B2 : Below w.heap.size w w2 := (((B1.alloc (by omega) _).alloc (by simp; omega) _)).trans (hb2.mono (by simp; omega))
    obtain ⟨hc2, hf2⟩ := bcell hb2
    have hz2 := hb2.size
    simp at hz2
    have d1 := hc2 w1.heap.size 1 (by simp; omega)
    simp at d1
    clear hc2 hf2
    go_wp2_with fail
  · go_ret
    exact ⟨rfl, B2⟩
  cases cb
  all_goals
    rw [rounds_succ]
    go_wp2_with fail
    refine (holds_at _ _ _ _ HB.out _).mono ?_
    rintro e w3 ⟨rfl, hb3⟩
    have B3 : Below w.heap.size w w3 := (B2.alloc (by omega) _).trans (hb3.mono (by simp; omega))
    go_wp2_with fail
  · go_ret
    exact ⟨rfl, B3⟩
  · rw [rounds_succ]
    go_wp2_with fail
    go_ret
    exact ⟨rfl, B3⟩

set_option maxHeartbeats 1000000 in
theorem implInsOk_2 (op a b : Int) (h1 : 1 ≤ op) (h2 : op ≤ 33) (hn : spanN op = 2) (ca cb : Bool) (hca : decide ((spanLo op) ≤ a ∧ a < (spanHi op)) = ca) (hcb : decide (0 ≤ b ∧ b < 4) = cb) (w : World) :
    Calls Tryd.prog 38 #[.agg #[.int .i64 op, .int .i64 a, .int .i64 b]] w fun e w' => e = .returned (.bool (ca && cb)) ∧ Below w.heap.size w w' := by
  have HK : Hid (decide (1 ≤ op ∧ op ≤ 33) = true) := by simp [Hid, h1, h2]
  have HN := hide hn
  have HA := hide hca
  have HB := hide hcb
  clear hn hca hcb h1 h2
  cases ca
  all_goals
    go_enter Tryd.func38, Tryd.ntmps38
    go_wp2_with (go_at_call 60; refine (insIsKind_at _ _ HK.out _).mono ?_; rintro e w' ⟨rfl, rfl⟩)
    refine (insSpans_at _ _ HN.out _).mono ?_
    rintro e w1 ⟨a1, rfl, hs1, hb1⟩
    have B1 : Below w.heap.size w w1 := ((Below.refl _ _).alloc (Nat.le_refl _) _).trans (hb1.mono (by simp))
    obtain ⟨hc1, hf1⟩ := bcell hb1
    have hz1 := hb1.size
    simp at hz1
    have c1 := hc1 w.heap.size 1 (by simp)
    have c2 := hc1 w.heap.size 2 (by simp)
    simp at c1 c2
    clear hc1 hf1
    obtain ⟨q, rfl, hq1, hq2, e0, e1, e23⟩ : ∃ q, a1 = some ⟨q, 0, none⟩ ∧ w.heap.size + 1 ≤ q ∧ q < w1.heap.size ∧ w1.cell? ⟨q, 0, none⟩ = some (.int .i64 (spanLo op)) ∧ w1.cell? ⟨q, 1, none⟩ = some (.int .i64 (spanHi op)) ∧ (spanN op = 2 → w1.cell? ⟨q, 2, none⟩ = some (.int .i64 0) ∧ w1.cell? ⟨q, 3, none⟩ = some (.int .i64 4)) := by
      rcases hs1 with h | h
      · rw [HN.out] at h; cases h
      · simpa using h
    have hne : q ≠ w1.heap.size := by omega
    obtain ⟨e2, e3⟩ := e23 HN.out
    go_wp2_with fail
    refine wp_loop_rounds 3 ?_
    rw [rounds_succ]
    go_wp2_with fail
    refine (holds_at _ _ _ _ HA.out _).mono ?_
    rintro e w2 ⟨rfl, hb2⟩
    have B2 : Below w.heap.size w w2 := (((B1.alloc (by omega) _).alloc (by simp; omega) _)).trans (hb2.mono (by simp; omega))
    obtain ⟨hc2, hf2⟩ := bcell hb2
    have hz2 := hb2.size
    simp at hz2
    have d1 := hc2 w1.heap.size 1 (by simp; omega)
    simp at d1
    have d2 := hc2 q 2 (by simp; omega)
    have d3 := hc2 q 3 (by simp; omega)
    rw [World.cell?_alloc_past _ _ _ (by simp; omega), World.cell?_alloc_past _ _ _ hq2, e2] at d2
    rw [World.cell?_alloc_past _ _ _ (by simp; omega), World.cell?_alloc_past _ _ _ hq2, e3] at d3
    have hq3 : q < w2.heap.size := by omega
    clear hc2 hf2
    go_wp2_with fail
  · go_ret
    exact ⟨rfl, B2⟩
  cases cb
  all_goals
    rw [rounds_succ]
    go_wp2_with fail
    refine (holds_at _ _ _ _ HB.out _).mono ?_
    rintro e w3 ⟨rfl, hb3⟩
    have B3 : Below w.heap.size w w3 := (B2.alloc (by omega) _).trans (hb3.mono (by simp; omega))
    go_wp2_with fail
  · go_ret
    exact ⟨rfl, B3⟩
  · rw [rounds_succ]
    go_wp2_with fail
    go_ret
    exact ⟨rfl, B3⟩

theorem implInsOk_any (op a b : Int) (w : World) :
    Calls Tryd.prog 38 #[.agg #[.int .i64 op, .int .i64 a, .int .i64 b]] w fun e w' => e = .returned (.bool (insOk op a b)) ∧ Below w.heap.size w w' := by
  by_cases hk : 1 ≤ op ∧ op ≤ 33
  · rcases (by unfold spanN; split; exact .inr (.inr rfl); split; exact .inr (.inl rfl); exact .inl rfl : spanN op = 0 ∨ spanN op = 1 ∨ spanN op = 2) with hn | hn | hn
    · have : insOk op a b = (decide (0 ≤ a ∧ a < 1) && decide (0 ≤ b ∧ b < 1)) := by rw [Bool.eq_iff_iff]; simp [insOk, hk, hn]; omega
      rw [this]
      exact implInsOk_0 op a b hk.1 hk.2 hn _ _ rfl rfl w
    · have : insOk op a b = (decide (spanLo op ≤ a ∧ a < spanHi op) && decide (0 ≤ b ∧ b < 1)) := by rw [Bool.eq_iff_iff]; simp [insOk, hk, hn]; omega
      rw [this]
      exact implInsOk_1 op a b hk.1 hk.2 hn _ _ rfl rfl w
    · have hlo : spanLo op = 0 ∧ spanHi op = 8 := by
        unfold spanN at hn; split at hn <;> rename_i hq
        · rcases hq with rfl | rfl <;> exact ⟨rfl, rfl⟩
        · split at hn <;> cases hn
      have : insOk op a b = (decide (spanLo op ≤ a ∧ a < spanHi op) && decide (0 ≤ b ∧ b < 4)) := by rw [hlo.1, hlo.2, Bool.eq_iff_iff]; simp [insOk, hk, hn]; omega
      rw [this]
      exact implInsOk_2 op a b hk.1 hk.2 hn _ _ rfl rfl w
  · have HO : Hid (insOk op a b = false) := by simp [Hid, insOk]; omega
    have HK : Hid (decide (1 ≤ op ∧ op ≤ 33) = false) := by simp [Hid]; omega
    clear hk
    go_enter Tryd.func38, Tryd.ntmps38
    go_wp2_with (go_at_call 60; refine (insIsKind_at _ _ HK.out _).mono ?_; rintro e w' ⟨rfl, rfl⟩)
    go_ret
    exact ⟨ret_bool HO.out.symm, (Below.refl _ _).alloc (Nat.le_refl _) _⟩
end Go.Proofs.YtjfmiconmbpllaaDoor
