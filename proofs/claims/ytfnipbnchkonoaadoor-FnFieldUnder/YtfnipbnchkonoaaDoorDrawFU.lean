/- What is drawn for FieldUnder: groups of types and two fields. -/
import Derived.Test.YtfnipbnchkonoaaDoorKaGs
import Derived.Test.YtfnipbnchkonoaaDoorDrawField
import Derived.Deep.RegionLaw
namespace Go.Proofs.YtfnipbnchkonoaaDoor
open Go.ChangeShapes Go.WideShapes Go.ChangeAt Go.RowKit Go.Deep
set_option linter.unusedVariables false

set_option maxHeartbeats 1000000 in
theorem l1Field_big (g p : Nat) (n : Int) (w : World) (hp : p < 900000) (h : Rd w g p) (hn : 0 ≤ n) (hn2 : n < 4398046511104) :
    Calls Tryd.prog 62 #[.pointer (some ⟨g, 0, none⟩), .int .i64 n] w fun e w' => ∃ (k o : Int) (m : Bool), e = .returned (.agg #[.int .i64 k, .int .i64 o, .bool m]) ∧ (∃ p', p' ≤ p + 3 ∧ Rd w' g p') ∧ Only g w w' := by
  have hg := h.lt
  go_enter Tryd.func62, Tryd.ntmps62
  go_wp2_with fail
  refine (num_list [1, 2, 2, 3, 1, 2] g p _ _ _ (by simp) (by omega) (h.alloc _) (by simp) (by simp)).mono ?_
  rintro e w2 ⟨k2, hk2, rfl, r2, o2, s2⟩
  have R2 : Hid (Rec w2 w.heap.size 35 [.int .i64 0, .int .i64 0, .bool false]) := (Rec.new' _ _ _ _ rfl).only o2 (Nat.ne_of_gt hg)
  have O2 : Hid (Only g w w2) := ((Only.refl g w).alloc _).trans o2
  generalize nAt [1, 2, 2, 3, 1, 2] k2 = kd
  clear o2 hk2 h
  simp only [World.size_alloc] at s2
  go_wp2_with fail
  refine (pick_only g (p + 1) _ w2 (by omega) r2).mono ?_
  rintro e w3 ⟨k3, rfl, _, _, _, r3, o3, s3⟩
  have R3 : Hid (Rec w3 w.heap.size 35 [.int .i64 0, .int .i64 0, .bool false]) := R2.out.only o3 (Nat.ne_of_gt hg)
  have O3 : Hid (Only g w w3) := O2.out.trans o3
  have c0 := R3.out.cell (o := 0) rfl
  have c1 := R3.out.cell (o := 1) rfl
  have c2 := R3.out.cell (o := 2) rfl
  have f0 := R3.out.frozen 0
  have f1 := R3.out.frozen 1
  have f2 := R3.out.frozen 2
  clear o3 r2
  have e3 : w3.heap.size = w.heap.size + 1 + 1 := by omega
  have y1 : w.heap.size < w3.heap.size := by omega
  clear s2 s3
  by_cases h1 : kd = 1
  · subst h1
    go_wp2_with fail
    refine bodyPost_ret (v := .agg #[.int .i64 1, .int .i64 0, .bool (k3 == 0)]) (by simp [results, Tryd.results62, go_sem, c0, c1, c2, y1]) rfl ⟨_, _, _, rfl, ⟨p + 2, by omega, ?_⟩, ?_⟩
    · refine r3.keep' ?_
      (repeat (first | refine Below.setCell ?_ (by simp <;> omega) _ | refine Below.alloc ?_ (by simp <;> omega) _ | exact Below.refl _ _))
    · (repeat (first | refine Only.setNew ?_ (by omega) _ _ | refine Only.alloc ?_ _ | exact O3.out))
  · have h1' : (kd == 1) = false := by simpa using h1
    go_wp2_with fail
    refine (pick_only g (p + 1 + 1) _ _ (by omega) (r3.alloc _)).mono ?_
    rintro e w4 ⟨k4, rfl, _, l4, u4, r4, o4, s4⟩
    have u4' := u4 (by omega)
    clear u4
    have R4 : Hid (Rec w4 w.heap.size 35 [.int .i64 0, .int .i64 0, .bool false]) := (R3.out.alloc _).only o4 (Nat.ne_of_gt hg)
    have S4 : Hid (Rec w4 (w.heap.size + 1 + 1) 35 [.int .i64 kd, .int .i64 0, .bool (k3 == 0)]) := (Rec.new' _ _ _ _ e3.symm).only o4 (by omega)
    have O4 : Hid (Only g w w4) := (O3.out.alloc _).trans o4
    have d0 := R4.out.cell (o := 0) rfl
    have d1 := R4.out.cell (o := 1) rfl
    have d2 := R4.out.cell (o := 2) rfl
    have e0 := R4.out.frozen 0
    have e1 := R4.out.frozen 1
    have e2 := R4.out.frozen 2
    have i0 := S4.out.cell (o := 0) rfl
    have i1 := S4.out.cell (o := 1) rfl
    have i2 := S4.out.cell (o := 2) rfl
    have j1 := S4.out.frozen 1
    clear c0 c1 c2 f0 f1 f2 o4
    go_wp2_with fail
    refine bodyPost_ret (v := .agg #[.int .i64 kd, .int .i64 (k4 - 2), .bool (k3 == 0)]) (by simp [results, Tryd.results62, go_sem, d0, d1, d2]) rfl ⟨_, _, _, rfl, ⟨p + 3, by omega, ?_⟩, ?_⟩
    · refine r4.keep' ?_
      (repeat (first | refine Below.setCell ?_ (by simp <;> omega) _ | exact Below.refl _ _))
    · (repeat (first | refine Only.setNew ?_ (by omega) _ _ | exact O4.out))


/-- A row of groups is kept where blocks behind it turn. -/
theorem GS.setNew {w0 w : World} {ga gc b o : Nat} {v : Value} {gs : List (List Ty)} (hc : gs.length ≤ gc) (hF : Few gs) {hi : Nat} (h1 : w0.heap.size ≤ hi) (h2 : hi ≤ w.heap.size) (hx : GroupsIn w w0.heap.size hi (some ⟨ga, 0, none⟩) gs) (hp : pow10 w0) (hb : Below w0.heap.size w0 w) : GS w0 w ga gc gs := ⟨hc, hF, pow10_keep hp hb, hb, hi, h1, h2, hx⟩

set_option maxHeartbeats 4000000 in
set_option maxRecDepth 100000 in
theorem drawFieldUnder_any (a : Option Addr) (cap n : Nat) (w : World) (hc : n ≤ cap) (h : BytesIn w w.heap.size a n) (hp : pow10 w) :
    Calls Tryd.prog 37 #[.slice a n cap] w fun e w' => ∃ (gs : List (List Ty)) (ga gc : Nat) (x y : Fd), e = .returned (.tuple #[.slice (some ⟨ga, 0, none⟩) gs.length gc, .agg #[.int .i64 x.kind, .int .i64 x.of, .bool x.mt], .agg #[.int .i64 y.kind, .int .i64 y.of, .bool y.mt]]) ∧ GS w w' ga gc gs := by
  have b0 : Below w.heap.size w ((w.alloc (.cells #[.int .i64 0, .int .i64 0, .bool false] 35)).alloc (.cells #[.int .i64 0, .int .i64 0, .bool false] 35)) := ((Below.refl _ _).alloc (Nat.le_refl _) _).alloc (by simp) _
  have r0 : Rec ((w.alloc (.cells #[.int .i64 0, .int .i64 0, .bool false] 35)).alloc (.cells #[.int .i64 0, .int .i64 0, .bool false] 35)) w.heap.size 35 [.int .i64 0, .int .i64 0, .bool false] := (Rec.new _ _ _).alloc _
  have q0 : Rec ((w.alloc (.cells #[.int .i64 0, .int .i64 0, .bool false] 35)).alloc (.cells #[.int .i64 0, .int .i64 0, .bool false] 35)) (w.heap.size + 1) 35 [.int .i64 0, .int .i64 0, .bool false] := Rec.new' _ _ _ _ (by simp)
  have z0 : ((w.alloc (.cells #[.int .i64 0, .int .i64 0, .bool false] 35)).alloc (.cells #[.int .i64 0, .int .i64 0, .bool false] 35)).heap.size = w.heap.size + 1 + 1 := by simp
  have h0 : BytesIn ((w.alloc (.cells #[.int .i64 0, .int .i64 0, .bool false] 35)).alloc (.cells #[.int .i64 0, .int .i64 0, .bool false] 35)) ((w.alloc (.cells #[.int .i64 0, .int .i64 0, .bool false] 35)).alloc (.cells #[.int .i64 0, .int .i64 0, .bool false] 35)).heap.size a n := (h.keep b0).wider (by omega)
  have HB0 := hide b0
  have HR0 := hide r0
  have HQ0 := hide q0
  have HZ0 := hide z0
  have HH0 := hide h0
  clear b0 r0 q0 z0 h0 h
  go_enter Tryd.func37, Tryd.ntmps37
  go_wp2_with fail
  refine (open_any a cap n _ hc HH0.out).mono ?_
  rintro e w1 ⟨rfl, r1, b1, s1⟩
  rw [HZ0.out] at r1 s1
  have R1 : Hid (Rec w1 w.heap.size 35 [.int .i64 0, .int .i64 0, .bool false]) := HR0.out.below b1 (by rw [HZ0.out]; omega)
  have Q1 : Hid (Rec w1 (w.heap.size + 1) 35 [.int .i64 0, .int .i64 0, .bool false]) := HQ0.out.below b1 (by rw [HZ0.out]; omega)
  have B1 : Hid (Below w.heap.size w w1) := HB0.out.trans (b1.mono (by rw [HZ0.out]; omega))
  clear b1 HR0 HQ0 HB0 HH0
  rw [HZ0.out]
  clear HZ0
  go_wp2_with fail
  refine (l1Bent_any (w.heap.size + 1 + 1) 0 w1 (by omega) r1).mono ?_
  rintro e w2 ⟨gs, ga, gc, rfl, hc2, hx2, hF, ⟨p2, hp2, r2⟩, o2⟩
  have n2 := kinCount_le hF
  have R2 := hide (R1.out.only o2 (by omega))
  have Q2 := hide (Q1.out.only o2 (by omega))
  have z2 := o2.size
  have HX := hide hx2
  have HF := hide hF
  have O2 := hide o2
  clear hx2 hF o2 R1 Q1 r1
  go_wp2_with fail
  refine (specKinCount_any (some ⟨ga, 0, none⟩) gc _ _ gs w2 HF.out HX.out).mono ?_
  rintro e w3 ⟨rfl, rfl⟩
  go_wp2_with fail
  refine (l1Field_big (w.heap.size + 1 + 1) p2 _ w3 (by omega) r2 (by omega) (by omega)).mono ?_
  rintro e w4 ⟨xk, xo, xm, rfl, ⟨p4, hp4, r4⟩, o4⟩
  have R4 := hide ((R2.out.only o4 (by omega)).alloc (.cells #[.int .i64 xk, .int .i64 xo, .bool xm] 35))
  have Q4 := hide ((Q2.out.only o4 (by omega)).alloc (.cells #[.int .i64 xk, .int .i64 xo, .bool xm] 35))
  have X4 := hide (Rec.new w4 35 [.int .i64 xk, .int .i64 xo, .bool xm])
  have z4 := o4.size
  have O4 := hide (o4.alloc (.cells #[.int .i64 xk, .int .i64 xo, .bool xm] 35))
  have r4' := r4.alloc (.cells #[.int .i64 xk, .int .i64 xo, .bool xm] 35)
  clear o4 R2 Q2 r2 r4
  go_wp2_with fail
  refine (l1Field_big (w.heap.size + 1 + 1) p4 _ _ (by omega) r4' (by omega) (by omega)).mono ?_
  rintro e w5 ⟨yk, yo, ym, rfl, ⟨p5, hp5, r5⟩, o5⟩
  have xb : w.heap.size + 1 + 1 < w4.heap.size := by omega
  have R5 := hide ((R4.out.only o5 (by omega)).alloc (.cells #[.int .i64 yk, .int .i64 yo, .bool ym] 35))
  have Q5 := hide ((Q4.out.only o5 (by omega)).alloc (.cells #[.int .i64 yk, .int .i64 yo, .bool ym] 35))
  have X5 := hide ((X4.out.only o5 (by omega)).alloc (.cells #[.int .i64 yk, .int .i64 yo, .bool ym] 35))
  have Y5 := hide (Rec.new w5 35 [.int .i64 yk, .int .i64 yo, .bool ym])
  have z5 := o5.size
  simp only [World.size_alloc] at z5
  have O5 := hide ((O4.out.trans o5).alloc (.cells #[.int .i64 yk, .int .i64 yo, .bool ym] 35))
  have r5' := r5.alloc (.cells #[.int .i64 yk, .int .i64 yo, .bool ym] 35)
  clear o5 R4 Q4 X4 r4' O4 r5
  go_wp2_with fail
  refine (pick_only (w.heap.size + 1 + 1) p5 _ _ (by omega) r5').mono ?_
  rintro e w6 ⟨k6, rfl, _, _, _, r6, o6, s6⟩
  have R6 := hide (R5.out.only o6 (by omega))
  have Q6 := hide (Q5.out.only o6 (by omega))
  have X6 := hide (X5.out.only o6 (by omega))
  have Y6 := hide (Y5.out.only o6 (by omega))
  have O6 := hide (O5.out.trans o6)
  have z6 := o6.size
  simp only [World.size_alloc] at z6
  clear o6 R5 Q5 X5 Y5 O5 r5' r6 s6
  generalize w4.heap.size = xb4 at *
  generalize w5.heap.size = yb4 at *
  have hgroups : Hid (∀ W, Below w.heap.size w W → w3.heap.size ≤ W.heap.size → (∀ k, w1.heap.size ≤ k → k < w3.heap.size → W.heap[k]? = w6.heap[k]?) → GS w W ga gc gs) := by
    intro W hbW hz hk
    refine ⟨hc2, HF.out, pow10_keep hp hbW, hbW, w3.heap.size, by omega, hz, HX.out.same (fun k k1 k2 => (hk k k1 k2).trans (O6.out.block k (by omega) k2)) (by omega) (Nat.le_refl _)⟩
  have B6 : Hid (Below w.heap.size w w6) := B1.out.trans ((O2.out.trans O6.out).below (by omega) (by omega))
  clear HX HF O2 O6 B1 hc2
  by_cases h0 : k6 = 0
  · subst h0
    have xf1 := X6.out.frozen 1
    have xg1 := X6.out.cell (o := 1) rfl
    have RR := R6.out.other (b' := xb4) (by omega) 1 (.int .i64 (kinCount gs : Nat))
    have RQ := Q6.out.other (b' := xb4) (by omega) 1 (.int .i64 (kinCount gs : Nat))
    have RX := X6.out.set 1 (.int .i64 (kinCount gs : Nat))
    have RY := Y6.out.other (b' := xb4) (by omega) 1 (.int .i64 (kinCount gs : Nat))
    have rc0 := RR.cell (o := 0) rfl
    have rf0 := RR.frozen 0
    have rc1 := RR.cell (o := 1) rfl
    have rf1 := RR.frozen 1
    have rc2 := RR.cell (o := 2) rfl
    have rf2 := RR.frozen 2
    have qc0 := RQ.cell (o := 0) rfl
    have qf0 := RQ.frozen 0
    have qc1 := RQ.cell (o := 1) rfl
    have qf1 := RQ.frozen 1
    have qc2 := RQ.cell (o := 2) rfl
    have qf2 := RQ.frozen 2
    have xc0 := RX.cell (o := 0) rfl
    have xc1 := RX.cell (o := 1) rfl
    have xc2 := RX.cell (o := 2) rfl
    have yc0 := RY.cell (o := 0) rfl
    have yc1 := RY.cell (o := 1) rfl
    have yc2 := RY.cell (o := 2) rfl
    clear RR RQ RX RY
    go_wp2_with fail
    go_region_law (fail)
    all_goals
      go_wp2_with fail
      refine bodyPost_ret (v := .tuple #[.slice (some ⟨ga, 0, none⟩) gs.length gc, .agg #[.int .i64 xk, .int .i64 (kinCount gs : Nat), .bool xm], .agg #[.int .i64 yk, .int .i64 yo, .bool ym]]) (by simp [results, Tryd.results37, go_sem, rc0, rc1, rc2, qc0, qc1, qc2]) rfl ⟨gs, ga, gc, ⟨xk, (kinCount gs : Nat), xm⟩, ⟨yk, yo, ym⟩, rfl, hgroups.out _ ?_ ?_ (fun k k1 k2 => ?_)⟩
      · exact Below.drew (((((((B6.out.setCell (by dsimp only; omega) _).setCell (by dsimp only; omega) _).setCell (by dsimp only; omega) _).setCell (by dsimp only; omega) _).setCell (by dsimp only; omega) _).setCell (by dsimp only; omega) _).setCell (by dsimp only; omega) _)
      · simp; omega
      · have e : ∀ (A : World), A.drew.heap = A.heap := fun _ => rfl
        rw [e]
        iterate 7 (rw [Below.heap_setCell _ _ _ _ (by dsimp only; omega)])
  by_cases h1 : k6 = 1
  · subst h1
    have yf1 := Y6.out.frozen 0
    have yg1 := Y6.out.cell (o := 0) rfl
    have RR := R6.out.other (b' := yb4) (by omega) 0 (.int .i64 4)
    have RQ := Q6.out.other (b' := yb4) (by omega) 0 (.int .i64 4)
    have RX := X6.out.other (b' := yb4) (by omega) 0 (.int .i64 4)
    have RY := Y6.out.set 0 (.int .i64 4)
    have rc0 := RR.cell (o := 0) rfl
    have rf0 := RR.frozen 0
    have rc1 := RR.cell (o := 1) rfl
    have rf1 := RR.frozen 1
    have rc2 := RR.cell (o := 2) rfl
    have rf2 := RR.frozen 2
    have qc0 := RQ.cell (o := 0) rfl
    have qf0 := RQ.frozen 0
    have qc1 := RQ.cell (o := 1) rfl
    have qf1 := RQ.frozen 1
    have qc2 := RQ.cell (o := 2) rfl
    have qf2 := RQ.frozen 2
    have xc0 := RX.cell (o := 0) rfl
    have xc1 := RX.cell (o := 1) rfl
    have xc2 := RX.cell (o := 2) rfl
    have yc0 := RY.cell (o := 0) rfl
    have yc1 := RY.cell (o := 1) rfl
    have yc2 := RY.cell (o := 2) rfl
    clear RR RQ RX RY
    go_wp2_with fail
    go_region_law (fail)
    all_goals
      go_wp2_with fail
      refine bodyPost_ret (v := .tuple #[.slice (some ⟨ga, 0, none⟩) gs.length gc, .agg #[.int .i64 xk, .int .i64 xo, .bool xm], .agg #[.int .i64 4, .int .i64 yo, .bool ym]]) (by simp [results, Tryd.results37, go_sem, rc0, rc1, rc2, qc0, qc1, qc2]) rfl ⟨gs, ga, gc, ⟨xk, xo, xm⟩, ⟨4, yo, ym⟩, rfl, hgroups.out _ ?_ ?_ (fun k k1 k2 => ?_)⟩
      · exact Below.drew (((((((B6.out.setCell (by dsimp only; omega) _).setCell (by dsimp only; omega) _).setCell (by dsimp only; omega) _).setCell (by dsimp only; omega) _).setCell (by dsimp only; omega) _).setCell (by dsimp only; omega) _).setCell (by dsimp only; omega) _)
      · simp; omega
      · have e : ∀ (A : World), A.drew.heap = A.heap := fun _ => rfl
        rw [e]
        iterate 7 (rw [Below.heap_setCell _ _ _ _ (by dsimp only; omega)])
  have q0 : (k6 == 0) = false := by simpa using h0
  have q1 : (k6 == 1) = false := by simpa using h1
  have RR := R6.out
  have RQ := Q6.out
  have RX := X6.out
  have RY := Y6.out
  have rc0 := RR.cell (o := 0) rfl
  have rf0 := RR.frozen 0
  have rc1 := RR.cell (o := 1) rfl
  have rf1 := RR.frozen 1
  have rc2 := RR.cell (o := 2) rfl
  have rf2 := RR.frozen 2
  have qc0 := RQ.cell (o := 0) rfl
  have qf0 := RQ.frozen 0
  have qc1 := RQ.cell (o := 1) rfl
  have qf1 := RQ.frozen 1
  have qc2 := RQ.cell (o := 2) rfl
  have qf2 := RQ.frozen 2
  have xc0 := RX.cell (o := 0) rfl
  have xc1 := RX.cell (o := 1) rfl
  have xc2 := RX.cell (o := 2) rfl
  have yc0 := RY.cell (o := 0) rfl
  have yc1 := RY.cell (o := 1) rfl
  have yc2 := RY.cell (o := 2) rfl
  clear RR RQ RX RY
  go_wp2_with fail
  go_region_law (fail)
  all_goals
    go_wp2_with fail
    refine bodyPost_ret (v := .tuple #[.slice (some ⟨ga, 0, none⟩) gs.length gc, .agg #[.int .i64 xk, .int .i64 xo, .bool xm], .agg #[.int .i64 yk, .int .i64 yo, .bool ym]]) (by simp [results, Tryd.results37, go_sem, rc0, rc1, rc2, qc0, qc1, qc2]) rfl ⟨gs, ga, gc, ⟨xk, xo, xm⟩, ⟨yk, yo, ym⟩, rfl, hgroups.out _ ?_ ?_ (fun k k1 k2 => ?_)⟩
    · exact Below.drew ((((((B6.out.setCell (by dsimp only; omega) _).setCell (by dsimp only; omega) _).setCell (by dsimp only; omega) _).setCell (by dsimp only; omega) _).setCell (by dsimp only; omega) _).setCell (by dsimp only; omega) _)
    · simp; omega
    · have e : ∀ (A : World), A.drew.heap = A.heap := fun _ => rfl
      rw [e]
      iterate 6 (rw [Below.heap_setCell _ _ _ _ (by dsimp only; omega)])
end Go.Proofs.YtfnipbnchkonoaaDoor
