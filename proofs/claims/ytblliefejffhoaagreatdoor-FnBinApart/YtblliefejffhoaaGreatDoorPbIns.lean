/- PbIns: Ins, InsOk, DrawIns, DrawBent. -/
import Derived.Test.YtblliefejffhoaaGreatDoorBase
import Derived.Deep.RegionHeld3
import Derived.Test.YtblliefejffhoaaGreatDoorDrawList
/- Instructions: how many numbers a kind has, which are right, which leave: of the program and of the model. -/
namespace Go.Proofs.YtblliefejffhoaaGreatDoor
open Go.ChangeShapes Go.WideShapes Go.ChangeAt Go.RowKit
set_option linter.unusedVariables false

/-- The spans of a kind: how many, and of the first and the second the least and the end. -/
def spanN (op : Int) : Nat :=
  if op = 14 ∨ op = 15 then 2 else if op = 1 ∨ op = 2 ∨ op = 3 ∨ op = 4 ∨ op = 5 ∨ op = 12 ∨ op = 13 ∨ op = 16 ∨ op = 17 ∨ op = 18 ∨ op = 19 ∨ op = 22 ∨ op = 23 ∨ op = 25 ∨ op = 26 ∨ op = 27 ∨ op = 28 ∨ op = 33 then 1 else 0

def spanLo (op : Int) : Int := if op = 12 ∨ op = 22 ∨ op = 23 then -2 else 0

def spanHi (op : Int) : Int :=
  if op = 1 then 9973 else if op = 2 ∨ op = 3 then 6 else if op = 4 ∨ op = 5 then 3 else if op = 25 ∨ op = 26 then 30 else if op = 27 ∨ op = 28 then 5 else if op = 33 then 2 else 8

/-- InsOk, plainly. -/
def insOk (op a b : Int) : Bool :=
  decide (1 ≤ op ∧ op ≤ 33) &&
    (if spanN op = 0 then decide (a = 0 ∧ b = 0) else if spanN op = 1 then decide (spanLo op ≤ a ∧ a < spanHi op ∧ b = 0) else decide (0 ≤ a ∧ a < 8 ∧ 0 ≤ b ∧ b < 4))

set_option maxHeartbeats 1000000 in
theorem specInsHas_any (op : Int) (w : World) :
    Calls Tryz.prog 95 #[.int .i64 op] w fun e w' => e = .returned (.int .i64 (spanN op)) ∧ w' = w := by
  go_enter Tryz.func95, Tryz.ntmps95
  go_wp2
  all_goals go_ret
  all_goals exact ⟨ret_int (by simp_all [spanN]), rfl⟩

def SpansAt (w : World) (lo hi : Nat) (a : Option Addr) (op : Int) : Prop :=
  spanN op = 0 ∨ ∃ b, a = some ⟨b, 0, none⟩ ∧ lo ≤ b ∧ b < hi ∧ w.cell? ⟨b, 0, none⟩ = some (.int .i64 (spanLo op)) ∧ w.cell? ⟨b, 1, none⟩ = some (.int .i64 (spanHi op)) ∧
    (spanN op = 2 → w.cell? ⟨b, 2, none⟩ = some (.int .i64 0) ∧ w.cell? ⟨b, 3, none⟩ = some (.int .i64 4))

theorem SpansAt.keep {w w' : World} {lo hi : Nat} {a : Option Addr} {op : Int} (h : SpansAt w lo hi a op) (hb : Below hi w w') : SpansAt w' lo hi a op := by
  rcases h with h | ⟨b, rfl, h1, h2, h3, h4, h5⟩
  · exact .inl h
  · refine .inr ⟨b, rfl, h1, h2, ?_, ?_, fun h => ?_⟩
    · rw [hb.cell (p := ⟨b, 0, none⟩) h2]; exact h3
    · rw [hb.cell (p := ⟨b, 1, none⟩) h2]; exact h4
    · rw [hb.cell (p := ⟨b, 2, none⟩) h2, hb.cell (p := ⟨b, 3, none⟩) h2]; exact h5 h

set_option maxHeartbeats 2000000 in
theorem insSpans_any (op : Int) (w : World) :
    Calls Tryz.prog 113 #[.int .i64 op] w fun e w' => ∃ a, e = .returned (.slice a (spanN op) (spanN op)) ∧ SpansAt w' w.heap.size w'.heap.size a op ∧ Below w.heap.size w w' := by
  go_enter Tryz.func113, Tryz.ntmps113
  go_wp2
  all_goals go_ret
  all_goals first
    | (rename_i hh; obtain rfl := eq_of_beq hh; exact ⟨_, rfl, .inr ⟨_, rfl, Nat.le_refl _, by simp, by simp [spanLo], by simp [spanHi], by simp [spanN]⟩, (Below.refl _ _).alloc (Nat.le_refl _) _⟩)
    | (have hz : spanN op = 0 := by simp_all [spanN]
       rw [hz]; exact ⟨_, rfl, .inl hz, Below.refl _ _⟩)

set_option maxHeartbeats 400000 in
theorem holds_any (lo hi n : Int) (w : World) :
    Calls Tryz.prog 114 #[.agg #[.int .i64 lo, .int .i64 hi], .int .i64 n] w fun e w' => e = .returned (.bool (decide (lo ≤ n ∧ n < hi))) ∧ Below w.heap.size w w' := by
  go_enter Tryz.func114, Tryz.ntmps114
  go_wp2
  all_goals go_ret
  all_goals refine ⟨ret_bool ?_, (Below.refl _ _).alloc (Nat.le_refl _) _⟩
  all_goals (rw [Bool.eq_iff_iff]; simp_all <;> omega)

set_option maxHeartbeats 400000 in
theorem insIsKind_any (op : Int) (w : World) :
    Calls Tryz.prog 112 #[.int .i64 op] w fun e w' => e = .returned (.bool (decide (1 ≤ op ∧ op ≤ 33))) ∧ w' = w := by
  go_enter Tryz.func112, Tryz.ntmps112
  go_wp2
  all_goals go_ret
  all_goals refine ⟨ret_bool ?_, rfl⟩
  all_goals (rw [Bool.eq_iff_iff]; simp_all <;> omega)

set_option maxHeartbeats 400000 in
theorem isOf_any (op : Int) (w : World) :
    Calls Tryz.prog 96 #[.int .i64 op] w fun e w' => e = .returned (.bool (decide (op = 12 ∨ op = 22 ∨ op = 23))) ∧ w' = w := by
  go_enter Tryz.func96, Tryz.ntmps96
  go_wp2
  all_goals go_ret
  all_goals refine ⟨ret_bool ?_, rfl⟩
  all_goals (rw [Bool.eq_iff_iff]; simp_all)

set_option maxHeartbeats 1000000 in
theorem most_any (op : Int) (w : World) :
    Calls Tryz.prog 101 #[.int .i64 op] w fun e w' => e = .returned (.int .i64 (spanHi op)) ∧ w' = w := by
  go_enter Tryz.func101, Tryz.ntmps101
  go_wp2
  all_goals go_ret
  all_goals exact ⟨ret_int (by simp_all [spanHi]), rfl⟩

set_option maxHeartbeats 400000 in
theorem l1Of_any (a n : Int) (w : World) :
    Calls Tryz.prog 100 #[.int .i64 a, .int .i64 n] w fun e w' => e = .returned (.bool (decide (-2 ≤ a ∧ a < n))) ∧ w' = w := by
  go_enter Tryz.func100, Tryz.ntmps100
  go_wp2
  all_goals go_ret
  all_goals refine ⟨ret_bool ?_, rfl⟩
  all_goals (rw [Bool.eq_iff_iff]; simp_all <;> omega)

end Go.Proofs.YtblliefejffhoaaGreatDoor

/- InsOk of the model and of the program. -/
namespace Go.Proofs.YtblliefejffhoaaGreatDoor
open Go.ChangeShapes Go.WideShapes Go.ChangeAt Go.RowKit
set_option linter.unusedVariables false

theorem specInsHas_at (op n : Int) (h : (spanN op : Int) = n) (w : World) :
    Calls Tryz.prog 95 #[.int .i64 op] w fun e w' => e = .returned (.int .i64 n) ∧ w' = w := h ▸ specInsHas_any op w

theorem isOf_at (op : Int) (b : Bool) (h : decide (op = 12 ∨ op = 22 ∨ op = 23) = b) (w : World) :
    Calls Tryz.prog 96 #[.int .i64 op] w fun e w' => e = .returned (.bool b) ∧ w' = w := h ▸ isOf_any op w

theorem most_at (op n : Int) (h : spanHi op = n) (w : World) :
    Calls Tryz.prog 101 #[.int .i64 op] w fun e w' => e = .returned (.int .i64 n) ∧ w' = w := h ▸ most_any op w

set_option maxHeartbeats 1000000 in
theorem specInsOk_any (op a b : Int) (w : World) :
    Calls Tryz.prog 64 #[.agg #[.int .i64 op, .int .i64 a, .int .i64 b]] w fun e w' => e = .returned (.bool (insOk op a b)) ∧ Below w.heap.size w w' := by
  by_cases k1 : op < 1
  · have HK : Hid (insOk op a b = false) := by simp [Hid, insOk]; omega
    go_enter Tryz.func64, Tryz.ntmps64
    go_wp2_with fail
    go_ret
    exact ⟨ret_bool HK.out.symm, (Below.refl _ _).alloc (Nat.le_refl _) _⟩
  by_cases k2 : 33 < op
  · have HK : Hid (insOk op a b = false) := by simp [Hid, insOk]; omega
    go_enter Tryz.func64, Tryz.ntmps64
    go_wp2_with fail
    go_ret
    exact ⟨ret_bool HK.out.symm, (Below.refl _ _).alloc (Nat.le_refl _) _⟩
  have h1 : 1 ≤ op := by omega
  have h2 : op ≤ 33 := by omega
  rcases (by unfold spanN; split; exact .inr (.inr rfl); split; exact .inr (.inl rfl); exact .inl rfl : spanN op = 0 ∨ spanN op = 1 ∨ spanN op = 2) with hn | hn | hn
  · have HK : Hid (insOk op a b = decide (a = 0 ∧ b = 0)) := by simp [Hid, insOk, h1, h2, hn]
    have HN : Hid ((spanN op : Int) = 0) := by simp [Hid, hn]
    clear hn
    go_enter Tryz.func64, Tryz.ntmps64
    go_wp2_with (go_at_call 95; refine (specInsHas_at _ _ HN.out _).mono ?_; rintro e w' ⟨rfl, rfl⟩)
    all_goals go_ret
    all_goals exact ⟨ret_bool (by rw [HK.out, Bool.eq_iff_iff]; simp_all), (Below.refl _ _).alloc (Nat.le_refl _) _⟩
  · have HN : Hid ((spanN op : Int) = 1) := by simp [Hid, hn]
    by_cases ho : op = 12 ∨ op = 22 ∨ op = 23
    · have HK : Hid (insOk op a b = decide (-2 ≤ a ∧ a < 8 ∧ b = 0)) := by rcases ho with rfl | rfl | rfl <;> simp [Hid, insOk, hn, spanLo, spanHi]
      have HO : Hid (decide (op = 12 ∨ op = 22 ∨ op = 23) = true) := by simp [Hid, ho]
      clear hn ho
      go_enter Tryz.func64, Tryz.ntmps64
      go_wp2_with (first | (go_at_call 95; refine (specInsHas_at _ _ HN.out _).mono ?_; rintro e w' ⟨rfl, rfl⟩) | (go_at_call 96; refine (isOf_at _ _ HO.out _).mono ?_; rintro e w' ⟨rfl, rfl⟩) | (go_at_call 100; refine (l1Of_any _ _ _).mono ?_; rintro e w' ⟨rfl, rfl⟩))
      all_goals go_ret
      all_goals exact ⟨ret_bool (by rw [HK.out, Bool.eq_iff_iff]; simp_all <;> omega), (Below.refl _ _).alloc (Nat.le_refl _) _⟩
    · have HL : spanLo op = 0 := by simp [spanLo, ho]
      have HK : Hid (insOk op a b = decide (0 ≤ a ∧ a < spanHi op ∧ b = 0)) := by simp [Hid, insOk, hn, h1, h2, HL]
      have HO : Hid (decide (op = 12 ∨ op = 22 ∨ op = 23) = false) := by simp [Hid, ho]
      clear hn ho HL
      by_cases ha : 0 ≤ a
      all_goals
       first | (have ga : decide (0 ≤ a) = true := by simp [ha]) | (have ga : decide (0 ≤ a) = false := by simp; omega)
      all_goals
       go_enter Tryz.func64, Tryz.ntmps64
       go_wp2_with (first | (go_at_call 95; refine (specInsHas_at _ _ HN.out _).mono ?_; rintro e w' ⟨rfl, rfl⟩) | (go_at_call 96; refine (isOf_at _ _ HO.out _).mono ?_; rintro e w' ⟨rfl, rfl⟩))
       all_goals first
         | (go_ret
            exact ⟨ret_bool (by rw [HK.out, Bool.eq_iff_iff]; simp_all <;> omega), (Below.refl _ _).alloc (Nat.le_refl _) _⟩)
         | (have hneg : a < 0 := ha
            go_quiet (fail)
            go_wp2_with fail
            go_ret
            exact ⟨ret_bool (by rw [HK.out, Bool.eq_iff_iff]; simp_all <;> omega), below_drewN ((Below.refl _ _).alloc (Nat.le_refl _) _) _⟩)
         | (go_region_held3 (fun w' => w'.cell? ⟨w.heap.size, 0, none⟩ = some (.int .i64 op) ∧ w'.cell? ⟨w.heap.size, 1, none⟩ = some (.int .i64 a)) (go_keep)
             ((go_at_call 101; refine (most_any _ _).mono ?_; rintro e w' ⟨rfl, rfl⟩))
            all_goals go_wp2_with fail
            all_goals go_ret
            all_goals exact ⟨ret_bool (by rw [HK.out, Bool.eq_iff_iff]; simp_all <;> omega), below_drewN ((Below.refl _ _).alloc (Nat.le_refl _) _) 1⟩)
  · have HN : Hid ((spanN op : Int) = 2) := by simp [Hid, hn]
    have HO : Hid (decide (op = 12 ∨ op = 22 ∨ op = 23) = false) := by simp only [Hid]; rw [decide_eq_false_iff_not]; intro h; rcases h with rfl | rfl | rfl <;> simp [spanN] at hn
    have HM : Hid (spanHi op = 8) := by simp only [Hid, spanHi]; unfold spanN at hn; split at hn <;> rename_i hq; (rcases hq with rfl | rfl <;> rfl); split at hn <;> cases hn
    have HK : Hid (insOk op a b = decide (0 ≤ a ∧ a < 8 ∧ 0 ≤ b ∧ b < 4)) := by simp [Hid, insOk, hn, h1, h2]
    clear hn
    by_cases ha : 0 ≤ a
    all_goals
     first | (have ga : decide (0 ≤ a) = true := by simp [ha]) | (have ga : decide (0 ≤ a) = false := by simp; omega)
    all_goals
     go_enter Tryz.func64, Tryz.ntmps64
     go_wp2_with (first | (go_at_call 95; refine (specInsHas_at _ _ HN.out _).mono ?_; rintro e w' ⟨rfl, rfl⟩) | (go_at_call 96; refine (isOf_at _ _ HO.out _).mono ?_; rintro e w' ⟨rfl, rfl⟩))
     all_goals first
      | (go_ret
         exact ⟨ret_bool (by rw [HK.out, Bool.eq_iff_iff]; simp_all <;> omega), (Below.refl _ _).alloc (Nat.le_refl _) _⟩)
      | (have hneg : a < 0 := ha
         go_quiet (fail)
         go_wp2_with fail
         go_ret
         exact ⟨ret_bool (by rw [HK.out, Bool.eq_iff_iff]; simp_all <;> omega), below_drewN ((Below.refl _ _).alloc (Nat.le_refl _) _) _⟩)
      | (go_region_held3 (fun w' => w'.cell? ⟨w.heap.size, 0, none⟩ = some (.int .i64 op) ∧ w'.cell? ⟨w.heap.size, 1, none⟩ = some (.int .i64 a)) (go_keep)
          ((go_at_call 101; refine (most_at _ _ HM.out _).mono ?_; rintro e w' ⟨rfl, rfl⟩))
         all_goals go_wp2_with fail
         all_goals go_ret
         all_goals exact ⟨ret_bool (by rw [HK.out, Bool.eq_iff_iff]; simp_all <;> omega), below_drewN ((Below.refl _ _).alloc (Nat.le_refl _) _) 1⟩)
end Go.Proofs.YtblliefejffhoaaGreatDoor

/- What is drawn of instructions. -/
namespace Go.Proofs.YtblliefejffhoaaGreatDoor
open Go.ChangeShapes Go.WideShapes Go.ChangeAt Go.RowKit
set_option linter.unusedVariables false

/-- Three numbers in block b, that may be written. -/
structure Ins3 (w : World) (b : Nat) (x y z : Int) : Prop where
  c0 : w.cell? ⟨b, 0, none⟩ = some (.int .i64 x)
  c1 : w.cell? ⟨b, 1, none⟩ = some (.int .i64 y)
  c2 : w.cell? ⟨b, 2, none⟩ = some (.int .i64 z)
  fr : ∀ o, w.frozen? ⟨b, o, none⟩ = false

theorem Only.frozen {g : Nat} {w w' : World} (h : Only g w w') {b o : Nat} (h1 : b ≠ g) (h2 : b < w.heap.size) : w'.frozen? ⟨b, o, Option.none⟩ = w.frozen? ⟨b, o, Option.none⟩ :=
  World.frozen?_of_block (w := w) (h.block b h1 h2)

theorem Ins3.lt {w : World} {b : Nat} {x y z : Int} (h : Ins3 w b x y z) : b < w.heap.size := cell_lt h.c0

theorem Ins3.keep {g : Nat} {w w' : World} {b : Nat} {x y z : Int} (h : Ins3 w b x y z) (ho : Only g w w') (hb : b ≠ g) : Ins3 w' b x y z :=
  ⟨by rw [ho.cell hb h.lt]; exact h.c0, by rw [ho.cell hb h.lt]; exact h.c1, by rw [ho.cell hb h.lt]; exact h.c2, fun o => by rw [ho.frozen hb h.lt]; exact h.fr o⟩

theorem Ins3.set1 {w : World} {b : Nat} {x y z : Int} (h : Ins3 w b x y z) (v : Int) : Ins3 (w.setCell ⟨b, 1, none⟩ (.int .i64 v)) b x v z :=
  ⟨by rw [World.cell?_setCell_other w _ _ _ (by intro h; cases h)]; exact h.c0, World.cell?_setCell_same' w _ _ (by rw [h.c1]; rfl), by rw [World.cell?_setCell_other w _ _ _ (by intro h; cases h)]; exact h.c2, fun o => by rw [World.frozen?_setCell]; exact h.fr o⟩
theorem Ins3.far {w : World} {b : Nat} {x y z : Int} (h : Ins3 w b x y z) {b' : Nat} (hb : b' ≠ b) (o : Nat) (v : Value) : Ins3 (w.setCell ⟨b', o, none⟩ v) b x y z :=
  ⟨by rw [World.cell?_setCell_far w _ _ v (by simpa using hb)]; exact h.c0, by rw [World.cell?_setCell_far w _ _ v (by simpa using hb)]; exact h.c1, by rw [World.cell?_setCell_far w _ _ v (by simpa using hb)]; exact h.c2, fun o => by rw [World.frozen?_setCell]; exact h.fr o⟩

theorem ins3_new (w : World) (x y z : Int) (T : TypeId) : Ins3 (w.alloc (.cells #[.int .i64 x, .int .i64 y, .int .i64 z] T)) w.heap.size x y z :=
  ⟨by simp, by simp, by simp, fun o => by simp⟩

theorem Rd.set {w : World} {g p b : Nat} (h : Rd w g p) (hb : g < b) (o : Nat) (v : Value) : Rd (w.setCell ⟨b, o, none⟩ v) g p := by
  obtain ⟨a, m, cap, c0, c1, f1, hm, hx⟩ := h
  have far : ∀ b' i, b' ≤ g → (w.setCell ⟨b, o, none⟩ v).cell? ⟨b', i, none⟩ = w.cell? ⟨b', i, none⟩ := fun b' i h => World.cell?_setCell_far w _ _ v (by simp; omega)
  refine ⟨a, m, cap, by rw [far _ _ (Nat.le_refl _)]; exact c0, by rw [far _ _ (Nat.le_refl _)]; exact c1, by rw [World.frozen?_setCell]; exact f1, hm, ?_⟩
  rcases hx with hx | ⟨b', off, rfl, hbg, hx⟩
  · exact .inl hx
  · refine .inr ⟨b', off, rfl, hbg, fun i hi => ?_⟩
    rw [far _ _ (by omega)]; exact hx i hi

/-- A new block may be written. -/
theorem Only.set {g : Nat} {a w : World} (h : Only g a w) {b : Nat} (hb : a.heap.size ≤ b) (o : Nat) (v : Value) : Only g a (w.setCell ⟨b, o, Option.none⟩ v) :=
  ⟨h.none.setCell (Nat.zero_le _) v, fun k h1 h2 => (Below.heap_setCell w _ v k (by simp; omega)).trans (h.block k h1 h2)⟩

set_option maxHeartbeats 1000000 in
theorem l2Ins_any (g p : Nat) (w : World) (hp : p < 999990) (h : Rd w g p) :
    Calls Tryz.prog 68 #[.pointer (some ⟨g, 0, none⟩)] w fun e w' => ∃ o x y : Int, e = .returned (.agg #[.int .i64 o, .int .i64 x, .int .i64 y]) ∧ ∃ p', p' ≤ p + 5 ∧ Rd w' g p' ∧ Only g w w' := by
  go_enter Tryz.func68, Tryz.ntmps68
  go_wp2_with fail
  refine (pick_only g p _ _ (by omega) (h.alloc _)).mono ?_
  rintro e w1 ⟨k, rfl, _, hk0, hk1, r1, o1, s1⟩
  have hk2 := hk1 (by omega)
  clear hk1
  have g0 := h.lt
  have O1 : Only g w w1 := ((Only.refl g w).alloc _).trans o1
  simp at s1
  have R1 : Ins3 w1 w.heap.size 0 0 0 := (ins3_new w 0 0 0 _).keep o1 (by omega)
  have I2 : Ins3 (w1.alloc (.cells #[.int .i64 (1 + k), .int .i64 0, .int .i64 0] 59)) (w.heap.size + 1) (1 + k) 0 0 := s1 ▸ ins3_new w1 (1 + k) 0 0 _
  have R2 : Ins3 (w1.alloc (.cells #[.int .i64 (1 + k), .int .i64 0, .int .i64 0] 59)) w.heap.size 0 0 0 := R1.keep ((Only.refl g w1).alloc _) (by omega)
  have O2 : Only g w (w1.alloc (.cells #[.int .i64 (1 + k), .int .i64 0, .int .i64 0] 59)) := O1.alloc _
  have r2 := r1.alloc (.cells #[.int .i64 (1 + k), .int .i64 0, .int .i64 0] 59)
  have HI2 := hide I2
  have HR2 := hide R2
  have HR1 := hide R1
  clear I2 R2 R1
  rcases (by unfold spanN; split; exact .inr (.inr rfl); split; exact .inr (.inl rfl); exact .inl rfl : spanN (1 + k) = 0 ∨ spanN (1 + k) = 1 ∨ spanN (1 + k) = 2) with hn | hn | hn
  · have HN : Hid ((spanN (1 + k) : Int) = 0) := by simp [Hid, hn]
    have HO : Hid (decide (1 + k = 12 ∨ 1 + k = 22 ∨ 1 + k = 23) = false) := by simp only [Hid]; rw [decide_eq_false_iff_not]; intro h; rcases h with h | h | h <;> rw [h] at hn <;> simp [spanN] at hn
    clear hn
    obtain ⟨q0, q1, q2, qf⟩ := HR1.out
    go_wp2_with (first | (go_at_call 95; refine (specInsHas_at _ _ HN.out _).mono ?_; rintro e w' ⟨rfl, rfl⟩) | (go_at_call 96; refine (isOf_at _ _ HO.out _).mono ?_; rintro e w' ⟨rfl, rfl⟩) | (go_at_call 101; refine (most_any _ _).mono ?_; rintro e w' ⟨rfl, rfl⟩))
    refine bodyPost_ret (v := .agg #[.int .i64 (1 + k), .int .i64 0, .int .i64 0]) (by simp [results, Tryz.results68, go_sem, *]) rfl ⟨_, _, _, rfl, p + 1, by omega, (((r1.set g0 _ _).set g0 _ _).set g0 _ _).alloc _, (((O1.set (Nat.le_refl _) _ _).set (Nat.le_refl _) _ _).set (Nat.le_refl _) _ _).alloc _⟩
  · have HN : Hid ((spanN (1 + k) : Int) = 1) := by simp [Hid, hn]
    by_cases ho : 1 + k = 12 ∨ 1 + k = 22 ∨ 1 + k = 23
    · have HO : Hid (decide (1 + k = 12 ∨ 1 + k = 22 ∨ 1 + k = 23) = true) := by simp [Hid, ho]
      clear hn ho
      go_wp2_with (first | (go_at_call 95; refine (specInsHas_at _ _ HN.out _).mono ?_; rintro e w' ⟨rfl, rfl⟩) | (go_at_call 96; refine (isOf_at _ _ HO.out _).mono ?_; rintro e w' ⟨rfl, rfl⟩) | (go_at_call 101; refine (most_any _ _).mono ?_; rintro e w' ⟨rfl, rfl⟩))
      refine (pick_only g (p + 1) _ _ (by omega) r2).mono ?_
      rintro e w3 ⟨k3, rfl, _, _, _, r3, o3, s3⟩
      simp [s1] at s3
      have I3 := HI2.out.keep o3 (by omega)
      have R3 := HR2.out.keep o3 (by omega)
      have O3 := O2.trans o3
      have i0 := I3.c0; have i1 := I3.c1; have i2 := I3.c2; have if3 := I3.fr
      have q0 := R3.c0; have q1 := R3.c1; have q2 := R3.c2; have qf := R3.fr
      go_wp2_with (first | (go_at_call 95; refine (specInsHas_at _ _ HN.out _).mono ?_; rintro e w' ⟨rfl, rfl⟩) | (go_at_call 96; refine (isOf_at _ _ HO.out _).mono ?_; rintro e w' ⟨rfl, rfl⟩) | (go_at_call 101; refine (most_any _ _).mono ?_; rintro e w' ⟨rfl, rfl⟩))
      refine (pick_only g (p + 2) _ _ (by omega) (r3.set (b := w.heap.size + 1) (by omega) _ _)).mono ?_
      rintro e w4 ⟨k4, rfl, _, hk4, hk5, r4, o4, s4⟩
      have I4 := (I3.set1 k3).keep o4 (by omega)
      have R4 := (R3.far (b' := w.heap.size + 1) (by omega) 1 (.int .i64 k3)).keep o4 (by omega)
      have O4 := (O3.set (b := w.heap.size + 1) (by omega) 1 (.int .i64 k3)).trans o4
      simp [s3] at s4
      clear i0 i1 i2 if3 q0 q1 q2 qf
      have i0 := I4.c0; have i1 := I4.c1; have i2 := I4.c2; have if4 := I4.fr
      have q0 := R4.c0; have q1 := R4.c1; have q2 := R4.c2; have qf := R4.fr
      by_cases hz : k4 = 0
      · subst hz
        go_wp2_with fail
        refine (num_list [-1, -2] g (p + 3) _ w4 _ (by omega) (by omega) r4 (by simp) (by simp)).mono ?_
        rintro e w5 ⟨k5, _, rfl, r5, o5, s5⟩
        have I5 := I4.keep o5 (by omega)
        have R5 := R4.keep o5 (by omega)
        have O5 := O4.trans o5
        clear i0 i1 i2 if4 q0 q1 q2 qf
        have i0 := I5.c0; have i1 := I5.c1; have i2 := I5.c2; have if5 := I5.fr
        have q0 := R5.c0; have q1 := R5.c1; have q2 := R5.c2; have qf := R5.fr
        go_wp2_with fail
        refine bodyPost_ret (v := .agg #[.int .i64 (1 + k), .int .i64 (nAt [-1, -2] k5), .int .i64 0]) (by simp [results, Tryz.results68, go_sem, *]) rfl ⟨_, _, _, rfl, p + 4, by omega, ((((r5.set (b := w.heap.size + 1) (by omega) _ _).set g0 _ _).set g0 _ _).set g0 _ _), ((((O5.set (b := w.heap.size + 1) (by omega) _ _).set (Nat.le_refl _) _ _).set (Nat.le_refl _) _ _).set (Nat.le_refl _) _ _)⟩
      · have hz2 : (k4 == 0) = false := by simp [hz]
        go_wp2_with fail
        refine bodyPost_ret (v := .agg #[.int .i64 (1 + k), .int .i64 k3, .int .i64 0]) (by simp [results, Tryz.results68, go_sem, *]) rfl ⟨_, _, _, rfl, p + 3, by omega, (((r4.set g0 _ _).set g0 _ _).set g0 _ _), (((O4.set (Nat.le_refl _) _ _).set (Nat.le_refl _) _ _).set (Nat.le_refl _) _ _)⟩
    · have HO : Hid (decide (1 + k = 12 ∨ 1 + k = 22 ∨ 1 + k = 23) = false) := by simp only [Hid]; rw [decide_eq_false_iff_not]; exact ho
      clear hn ho
      go_wp2_with (first | (go_at_call 95; refine (specInsHas_at _ _ HN.out _).mono ?_; rintro e w' ⟨rfl, rfl⟩) | (go_at_call 96; refine (isOf_at _ _ HO.out _).mono ?_; rintro e w' ⟨rfl, rfl⟩) | (go_at_call 101; refine (most_any _ _).mono ?_; rintro e w' ⟨rfl, rfl⟩))
      refine (pick_only g (p + 1) _ _ (by omega) r2).mono ?_
      rintro e w3 ⟨k3, rfl, _, _, _, r3, o3, s3⟩
      simp [s1] at s3
      have I3 := HI2.out.keep o3 (by omega)
      have R3 := HR2.out.keep o3 (by omega)
      have O3 := O2.trans o3
      obtain ⟨i0, i1, i2, if3⟩ := I3
      obtain ⟨q0, q1, q2, qf⟩ := R3
      go_wp2_with (first | (go_at_call 95; refine (specInsHas_at _ _ HN.out _).mono ?_; rintro e w' ⟨rfl, rfl⟩) | (go_at_call 96; refine (isOf_at _ _ HO.out _).mono ?_; rintro e w' ⟨rfl, rfl⟩) | (go_at_call 101; refine (most_any _ _).mono ?_; rintro e w' ⟨rfl, rfl⟩))
      refine bodyPost_ret (v := .agg #[.int .i64 (1 + k), .int .i64 k3, .int .i64 0]) (by simp [results, Tryz.results68, go_sem, *]) rfl ⟨_, _, _, rfl, p + 2, by omega, ((((((r3.set (b := w.heap.size + 1) (by omega) _ _)).set g0 _ _).set g0 _ _).set g0 _ _)), ((((((O3.set (b := w.heap.size + 1) (by omega) _ _)).set (Nat.le_refl _) _ _).set (Nat.le_refl _) _ _).set (Nat.le_refl _) _ _))⟩
  · have HN : Hid ((spanN (1 + k) : Int) = 2) := by simp [Hid, hn]
    have HO : Hid (decide (1 + k = 12 ∨ 1 + k = 22 ∨ 1 + k = 23) = false) := by simp only [Hid]; rw [decide_eq_false_iff_not]; intro h; rcases h with h | h | h <;> rw [h] at hn <;> simp [spanN] at hn
    clear hn
    go_wp2_with (first | (go_at_call 95; refine (specInsHas_at _ _ HN.out _).mono ?_; rintro e w' ⟨rfl, rfl⟩) | (go_at_call 96; refine (isOf_at _ _ HO.out _).mono ?_; rintro e w' ⟨rfl, rfl⟩) | (go_at_call 101; refine (most_any _ _).mono ?_; rintro e w' ⟨rfl, rfl⟩))
    refine (pick_only g (p + 1) _ _ (by omega) r2).mono ?_
    rintro e w3 ⟨k3, rfl, _, _, _, r3, o3, s3⟩
    simp [s1] at s3
    have I3 := HI2.out.keep o3 (by omega)
    have R3 := HR2.out.keep o3 (by omega)
    have O3 := O2.trans o3
    have i0 := I3.c0; have i1 := I3.c1; have i2 := I3.c2; have if3 := I3.fr
    have q0 := R3.c0; have q1 := R3.c1; have q2 := R3.c2; have qf := R3.fr
    go_wp2_with (first | (go_at_call 95; refine (specInsHas_at _ _ HN.out _).mono ?_; rintro e w' ⟨rfl, rfl⟩) | (go_at_call 96; refine (isOf_at _ _ HO.out _).mono ?_; rintro e w' ⟨rfl, rfl⟩) | (go_at_call 101; refine (most_any _ _).mono ?_; rintro e w' ⟨rfl, rfl⟩))
    refine (pick_only g (p + 2) _ _ (by omega) (r3.set (b := w.heap.size + 1) (by omega) _ _)).mono ?_
    rintro e w4 ⟨k4, rfl, _, hk4, hk5, r4, o4, s4⟩
    have I4 := (I3.set1 k3).keep o4 (by omega)
    have R4 := (R3.far (b' := w.heap.size + 1) (by omega) 1 (.int .i64 k3)).keep o4 (by omega)
    have O4 := (O3.set (b := w.heap.size + 1) (by omega) 1 (.int .i64 k3)).trans o4
    simp [s3] at s4
    clear i0 i1 i2 if3 q0 q1 q2 qf
    have i0 := I4.c0; have i1 := I4.c1; have i2 := I4.c2; have if4 := I4.fr
    have q0 := R4.c0; have q1 := R4.c1; have q2 := R4.c2; have qf := R4.fr
    go_wp2_with (first | (go_at_call 95; refine (specInsHas_at _ _ HN.out _).mono ?_; rintro e w' ⟨rfl, rfl⟩) | (go_at_call 96; refine (isOf_at _ _ HO.out _).mono ?_; rintro e w' ⟨rfl, rfl⟩) | (go_at_call 101; refine (most_any _ _).mono ?_; rintro e w' ⟨rfl, rfl⟩))
    refine bodyPost_ret (v := .agg #[.int .i64 (1 + k), .int .i64 k3, .int .i64 k4]) (by simp [results, Tryz.results68, go_sem, *]) rfl ⟨_, _, _, rfl, p + 3, by omega, ((((r4.set (b := w.heap.size + 1) (by omega) _ _).set g0 _ _).set g0 _ _).set g0 _ _), ((((O4.set (b := w.heap.size + 1) (by omega) _ _).set (Nat.le_refl _) _ _).set (Nat.le_refl _) _ _).set (Nat.le_refl _) _ _)⟩
end Go.Proofs.YtblliefejffhoaaGreatDoor

/- What is drawn of instructions, some of them bent. -/
namespace Go.Proofs.YtblliefejffhoaaGreatDoor
open Go.ChangeShapes Go.WideShapes Go.ChangeAt Go.RowKit
set_option linter.unusedVariables false

end Go.Proofs.YtblliefejffhoaaGreatDoor
