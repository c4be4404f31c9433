/- A field, drawn from bytes. -/
import Derived.Test.YtblliefejffhoaaGreatDoorDrawField0P
namespace Go.Proofs.YtblliefejffhoaaGreatDoor
open Go.ChangeShapes Go.WideShapes Go.ChangeAt Go.RowKit
set_option linter.unusedVariables false

set_option maxHeartbeats 1000000 in
theorem l1Field_any (g p : Nat) (n : Int) (w : World) (hp : p < 900000) (h : Rd w g p) (hn : 0 ≤ n) (hn2 : n < 1000000) :
    Calls Tryz.prog 104 #[.pointer (some ⟨g, 0, none⟩), .int .i64 n] w fun e w' => ∃ (k o : Int) (m : Bool), e = .returned (.agg #[.int .i64 k, .int .i64 o, .bool m]) ∧ (∃ p', p' ≤ p + 3 ∧ Rd w' g p') ∧ Only g w w' := by
  have hg := h.lt
  go_enter Tryz.func104, Tryz.ntmps104
  go_wp2_with fail
  refine (num_list [1, 2, 2, 3, 1, 2] g p _ _ _ (by simp) (by omega) (h.alloc _) (by simp) (by simp)).mono ?_
  rintro e w2 ⟨k2, hk2, rfl, r2, o2, s2⟩
  have R2 : Hid (Rec w2 w.heap.size 33 [.int .i64 0, .int .i64 0, .bool false]) := (Rec.new' _ _ _ _ rfl).only o2 (Nat.ne_of_gt hg)
  have O2 : Hid (Only g w w2) := ((Only.refl g w).alloc _).trans o2
  generalize nAt [1, 2, 2, 3, 1, 2] k2 = kd
  clear o2 hk2 h
  simp only [World.size_alloc] at s2
  go_wp2_with fail
  refine (pick_only g (p + 1) _ w2 (by omega) r2).mono ?_
  rintro e w3 ⟨k3, rfl, _, _, _, r3, o3, s3⟩
  have R3 : Hid (Rec w3 w.heap.size 33 [.int .i64 0, .int .i64 0, .bool false]) := R2.out.only o3 (Nat.ne_of_gt hg)
  have O3 : Hid (Only g w w3) := O2.out.trans o3
  have c0 := R3.out.cell (o := 0) rfl
  have c1 := R3.out.cell (o := 1) rfl
  have c2 := R3.out.cell (o := 2) rfl
  have f0 := R3.out.frozen 0
  have f1 := R3.out.frozen 1
  have f2 := R3.out.frozen 2
  clear o3 r2
  have e3 : w3.heap.size = w.heap.size + 1 + 1 := by omega
  have y1 : w.heap.size < w3.heap.size := by omega
  clear s2 s3
  by_cases h1 : kd = 1
  · subst h1
    go_wp2_with fail
    refine bodyPost_ret (v := .agg #[.int .i64 1, .int .i64 0, .bool (k3 == 0)]) (by simp [results, Tryz.results104, go_sem, c0, c1, c2, y1]) rfl ⟨_, _, _, rfl, ⟨p + 2, by omega, ?_⟩, ?_⟩
    · refine r3.keep' ?_
      (repeat (first | refine Below.setCell ?_ (by simp <;> omega) _ | refine Below.alloc ?_ (by simp <;> omega) _ | exact Below.refl _ _))
    · (repeat (first | refine Only.setNew ?_ (by omega) _ _ | refine Only.alloc ?_ _ | exact O3.out))
  · have h1' : (kd == 1) = false := by simpa using h1
    go_wp2_with fail
    refine (pick_only g (p + 1 + 1) _ _ (by omega) (r3.alloc _)).mono ?_
    rintro e w4 ⟨k4, rfl, _, l4, u4, r4, o4, s4⟩
    have u4' := u4 (by omega)
    clear u4
    have R4 : Hid (Rec w4 w.heap.size 33 [.int .i64 0, .int .i64 0, .bool false]) := (R3.out.alloc _).only o4 (Nat.ne_of_gt hg)
    have S4 : Hid (Rec w4 (w.heap.size + 1 + 1) 33 [.int .i64 kd, .int .i64 0, .bool (k3 == 0)]) := (Rec.new' _ _ _ _ e3.symm).only o4 (by omega)
    have O4 : Hid (Only g w w4) := (O3.out.alloc _).trans o4
    have d0 := R4.out.cell (o := 0) rfl
    have d1 := R4.out.cell (o := 1) rfl
    have d2 := R4.out.cell (o := 2) rfl
    have e0 := R4.out.frozen 0
    have e1 := R4.out.frozen 1
    have e2 := R4.out.frozen 2
    have i0 := S4.out.cell (o := 0) rfl
    have i1 := S4.out.cell (o := 1) rfl
    have i2 := S4.out.cell (o := 2) rfl
    have j1 := S4.out.frozen 1
    clear c0 c1 c2 f0 f1 f2 o4
    go_wp2_with fail
    refine bodyPost_ret (v := .agg #[.int .i64 kd, .int .i64 (k4 - 2), .bool (k3 == 0)]) (by simp [results, Tryz.results104, go_sem, d0, d1, d2]) rfl ⟨_, _, _, rfl, ⟨p + 3, by omega, ?_⟩, ?_⟩
    · refine r4.keep' ?_
      (repeat (first | refine Below.setCell ?_ (by simp <;> omega) _ | exact Below.refl _ _))
    · (repeat (first | refine Only.setNew ?_ (by omega) _ _ | exact O4.out))

end Go.Proofs.YtblliefejffhoaaGreatDoor
