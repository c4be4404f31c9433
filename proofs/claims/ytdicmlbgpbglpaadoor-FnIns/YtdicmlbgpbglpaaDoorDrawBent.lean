/- What is drawn of instructions, some of them bent. -/
import Derived.Test.YtdicmlbgpbglpaaDoorDrawIns
namespace Go.Proofs.YtdicmlbgpbglpaaDoor
open Go.ChangeShapes Go.WideShapes Go.ChangeAt Go.RowKit
set_option linter.unusedVariables false

theorem spanHi_bounds (o : Int) : 2 ≤ spanHi o ∧ spanHi o ≤ 9973 := by
  unfold spanHi
  repeat' split
  all_goals omega

theorem num_listD (l : List Int) (g p q : Nat) (w : World) (T : TypeId) (hq : q = w.heap.size) (hp : p < 1000000) (h : Rd w g p) (h0 : 0 < l.length) (hl : l.length < 1000000) :
    Calls Tryd.prog 56 #[.pointer (some ⟨g, 0, none⟩), .slice (some ⟨q, 0, none⟩) l.length l.length] (w.alloc (.cells (l.map (Value.int .i64)).toArray T)).drew fun e w' =>
      ∃ k, k < l.length ∧ e = .returned (.int .i64 (nAt l k)) ∧ Rd w' g (p + 1) ∧ Only g w w' ∧ w'.heap.size = w.heap.size + 1 := by
  subst hq
  have hr : Rd (w.alloc (.cells (l.map (Value.int .i64)).toArray T)).drew g p := h.alloc _
  refine (num_any g p _ hp hr w.heap.size l.length l.length (nAt l) (Nat.ne_of_gt h.lt) (by simp) h0 hl (fun i hi => cells_list w l T i hi)).mono ?_
  rintro e w' ⟨k, hk, rfl, hr, ho, hs⟩
  exact ⟨k, hk, rfl, hr, (((Only.refl g w).alloc _).drewN 1).trans ho, by rw [hs]; simp⟩

set_option maxHeartbeats 1000000 in
theorem l2Bent_any (g p : Nat) (w : World) (hp : p < 999900) (h : Rd w g p) :
    Calls Tryd.prog 43 #[.pointer (some ⟨g, 0, none⟩)] w fun e w' => ∃ o x y : Int, e = .returned (.agg #[.int .i64 o, .int .i64 x, .int .i64 y]) ∧ ∃ p', p' ≤ p + 10 ∧ Rd w' g p' ∧ Only g w w' := by
  go_enter Tryd.func43, Tryd.ntmps43
  go_wp2_with fail
  refine (l2Ins_any g p _ (by omega) (h.alloc _)).mono ?_
  rintro e w1 ⟨o, x, y, rfl, p1, hp1, r1, o1⟩
  have g0 := h.lt
  have O1 : Only g w w1 := ((Only.refl g w).alloc _).trans o1
  have R1 : Ins3 w1 w.heap.size 0 0 0 := (ins3_new w 0 0 0 _).keep o1 (by omega)
  have s1 := R1.lt
  have I2 : Ins3 (w1.alloc (.cells #[.int .i64 o, .int .i64 x, .int .i64 y] 35)) w1.heap.size o x y := ins3_new w1 o x y _
  have R2 : Ins3 (w1.alloc (.cells #[.int .i64 o, .int .i64 x, .int .i64 y] 35)) w.heap.size 0 0 0 := R1.keep ((Only.refl g w1).alloc _) (by omega)
  have O2 : Only g w (w1.alloc (.cells #[.int .i64 o, .int .i64 x, .int .i64 y] 35)) := O1.alloc _
  have r2 := r1.alloc (.cells #[.int .i64 o, .int .i64 x, .int .i64 y] 35)
  go_wp2_with fail
  refine (pick_only g p1 _ _ (by omega) r2).mono ?_
  rintro e w3 ⟨k, rfl, _, hk0, hk1, r3, o3, s3⟩
  have hk2 := hk1 (by omega)
  have I3 := I2.keep o3 (by omega)
  have R3 := R2.keep o3 (by omega)
  have O3 := O2.trans o3
  simp at s3
  have s4 := R3.lt
  clear I2 R2 R1 O2 r2 hk1
  have i0 := I3.c0; have i1 := I3.c1; have i2 := I3.c2; have if3 := I3.fr
  have q0 := R3.c0; have q1 := R3.c1; have q2 := R3.c2; have qf := R3.fr
  by_cases z0 : k = 0
  · subst z0
    go_wp2_with fail
    refine (num_list [0, 34, -1, 12] g (p1 + 1) _ w3 _ (by omega) (by omega) r3 (by simp) (by simp)).mono ?_
    rintro e w5 ⟨k5, _, rfl, r5, o5, s5⟩
    have I5 := I3.keep o5 (by omega)
    have R5 := R3.keep o5 (by omega)
    have O5 := O3.trans o5
    clear i0 i1 i2 if3 q0 q1 q2 qf
    have i0 := I5.c0; have i1 := I5.c1; have i2 := I5.c2; have if5 := I5.fr
    have q0 := R5.c0; have q1 := R5.c1; have q2 := R5.c2; have qf := R5.fr
    go_wp2_with fail
    refine bodyPost_ret (v := .agg #[.int .i64 (nAt [0, 34, -1, 12] k5), .int .i64 x, .int .i64 y]) (by simp [results, Tryd.results43, go_sem, *]) rfl ⟨_, _, _, rfl, p1 + 2, by omega, ((((r5.set (b := w1.heap.size) (by omega) _ _).set g0 _ _).set g0 _ _).set g0 _ _), ((((O5.set (b := w1.heap.size) (by omega) _ _).set (Nat.le_refl _) _ _).set (Nat.le_refl _) _ _).set (Nat.le_refl _) _ _)⟩
  by_cases z1 : k = 1
  · subst z1
    obtain ⟨m, hm⟩ : ∃ m, spanHi o = m := ⟨_, rfl⟩
    have mb := spanHi_bounds o
    rw [hm] at mb
    obtain ⟨mb0, mb1⟩ := mb
    have HM := hide hm
    clear hm
    go_wp2_with fail
    go_region_held3 (fun w' => w'.cell? ⟨w1.heap.size, 0, none⟩ = some (.int .i64 o)) (first | go_keep | (rw [World.cell?_setCell_other _ _ _ _ (by intro h; cases h)]; assumption))
      ((first
        | (go_at_call 52; refine (most_at _ _ HM.out _).mono ?_; rintro e w' ⟨rfl, rfl⟩)
        | (go_at_call 56
           refine (num_listD [-1, -2, -3, m, IntKind.i64.wrap (m - 1)] g (p1 + 1) _ w3 _ (by omega) (by omega) r3 (by simp) (by simp)).mono ?_
           rintro e w5 ⟨k5, _, rfl, r5, o5, s5⟩
           have I5 : Ins3 w5 w1.heap.size o x y := I3.keep o5 (by omega)
           have R5 : Ins3 w5 w.heap.size 0 0 0 := R3.keep o5 (by omega)
           have O5 : Only g w w5 := O3.trans o5
           have t0 := I5.c0
           have t1 := I5.c1
           have t2 := I5.fr 1)))
    clear i0 i1 i2 if3 q0 q1 q2 qf t0 t1 t2
    rename_i hHeld
    clear hHeld
    generalize nAt [-1, -2, -3, m, IntKind.i64.wrap (m - 1)] k5 = v5
    have i0 := I5.c0; have i1 := I5.c1; have i2 := I5.c2; have if5 := I5.fr
    have q0 := R5.c0; have q1 := R5.c1; have q2 := R5.c2; have qf := R5.fr
    go_wp2_with fail
    refine bodyPost_ret (v := .agg #[.int .i64 o, .int .i64 v5, .int .i64 y]) (by simp [results, Tryd.results43, go_sem, *]) rfl ⟨_, _, _, rfl, p1 + 2, by omega, ((((r5.set (b := w1.heap.size) (by omega) _ _).set g0 _ _).set g0 _ _).set g0 _ _), ((((O5.set (b := w1.heap.size) (by omega) _ _).set (Nat.le_refl _) _ _).set (Nat.le_refl _) _ _).set (Nat.le_refl _) _ _)⟩
  by_cases z2 : k = 2
  · subst z2
    go_wp2_with fail
    refine (num_list [-1, 1, 4] g (p1 + 1) _ w3 _ (by omega) (by omega) r3 (by simp) (by simp)).mono ?_
    rintro e w5 ⟨k5, _, rfl, r5, o5, s5⟩
    have I5 := I3.keep o5 (by omega)
    have R5 := R3.keep o5 (by omega)
    have O5 := O3.trans o5
    clear i0 i1 i2 if3 q0 q1 q2 qf
    have i0 := I5.c0; have i1 := I5.c1; have i2 := I5.c2; have if5 := I5.fr
    have q0 := R5.c0; have q1 := R5.c1; have q2 := R5.c2; have qf := R5.fr
    go_wp2_with fail
    refine bodyPost_ret (v := .agg #[.int .i64 o, .int .i64 x, .int .i64 (nAt [-1, 1, 4] k5)]) (by simp [results, Tryd.results43, go_sem, *]) rfl ⟨_, _, _, rfl, p1 + 2, by omega, ((((r5.set (b := w1.heap.size) (by omega) _ _).set g0 _ _).set g0 _ _).set g0 _ _), ((((O5.set (b := w1.heap.size) (by omega) _ _).set (Nat.le_refl _) _ _).set (Nat.le_refl _) _ _).set (Nat.le_refl _) _ _)⟩
  · have y0 : (k == 0) = false := by simp [z0]
    have y1 : (k == 1) = false := by simp [z1]
    have y2 : (k == 2) = false := by simp [z2]
    go_wp2_with fail
    refine bodyPost_ret (v := .agg #[.int .i64 o, .int .i64 x, .int .i64 y]) (by simp [results, Tryd.results43, go_sem, *]) rfl ⟨_, _, _, rfl, p1 + 1, by omega, (((r3.set g0 _ _).set g0 _ _).set g0 _ _), (((O3.set (Nat.le_refl _) _ _).set (Nat.le_refl _) _ _).set (Nat.le_refl _) _ _)⟩
end Go.Proofs.YtdicmlbgpbglpaaDoor
