/- l1Widen of the draws: a field that is as another one, or a special case of it. Written by tools/made/drawwiden.py. -/
import Derived.Test.YtblliefejffhoaaGreatDoorRowF
namespace Go.Proofs.YtblliefejffhoaaGreatDoor
open Go.ChangeShapes Go.WideShapes Go.ChangeAt Go.RowKit
set_option linter.unusedVariables false

/-- What a field may be to. -/
def OB (M o : Int) : Prop := -2 ≤ o ∧ o ≤ M

set_option maxHeartbeats 1600000 in
theorem l1Widen_any (g p : Nat) (ga : Option Addr) (gc lo hi : Nat) (gs : List (List Ty)) (fk fo : Int) (fm : Bool) (n M : Int) (w : World) (hp : p < 900000) (h : Rd w g p) (hg : g < lo) (hP : PartsW gs) (hN : Few gs) (hc : gs.length ≤ gc) (hl : lo ≤ hi) (hh : hi ≤ w.heap.size) (hx : GroupsIn w lo hi ga gs)
    (n0 : 0 ≤ n) (n1 : n ≤ (kinCount gs : Int)) (o0 : -2 ≤ fo) (o1 : fo ≤ M) (m8 : 8 ≤ M) (m9 : M ≤ 1000) :
    Calls Tryz.prog 125 #[.pointer (some ⟨g, 0, none⟩), .slice ga gs.length gc, .agg #[.int .i64 fk, .int .i64 fo, .bool fm], .int .i64 n] w
      fun e w' => ∃ f : Fd, e = .returned (.agg #[.int .i64 f.kind, .int .i64 f.of, .bool f.mt]) ∧ OB M f.of ∧ (∃ p', p' ≤ p + 2 ∧ Rd w' g p') ∧ Only g w w' := by
  have k8 := hP.1
  have hlt := h.lt
  have HX := hide hx
  have HN := hide hN
  have HP := hide hP
  clear hx hN hP
  by_cases h0 : fm = true ∨ fk = 1
  · have h0' : fm = true ∨ (fm = false ∧ fk = 1) := by cases fm <;> simp_all
    rcases h0' with rfl | ⟨rfl, rfl⟩
    · go_enter Tryz.func125, Tryz.ntmps125
      go_wp2_with fail
      refine bodyPost_ret (v := .agg #[.int .i64 fk, .int .i64 fo, .bool true]) (by simp [results, Tryz.results125, go_sem]) rfl ⟨⟨fk, fo, true⟩, rfl, ⟨o0, o1⟩, ⟨p, by omega, ?_⟩, ?_⟩
      · refine h.keep' ?_
        (repeat (first | exact Below.refl _ _ | refine Below.setCell ?_ (by first | omega | (simp <;> omega)) _ | refine Below.alloc ?_ (by first | omega | (simp <;> omega)) _))
      · (repeat (first | exact Only.refl _ _ | refine Only.setNew ?_ (by omega) _ _ | refine Only.alloc ?_ _))
    · go_enter Tryz.func125, Tryz.ntmps125
      go_wp2_with fail
      refine bodyPost_ret (v := .agg #[.int .i64 1, .int .i64 fo, .bool false]) (by simp [results, Tryz.results125, go_sem]) rfl ⟨⟨1, fo, false⟩, rfl, ⟨o0, o1⟩, ⟨p, by omega, ?_⟩, ?_⟩
      · refine h.keep' ?_
        (repeat (first | exact Below.refl _ _ | refine Below.setCell ?_ (by first | omega | (simp <;> omega)) _ | refine Below.alloc ?_ (by first | omega | (simp <;> omega)) _))
      · (repeat (first | exact Only.refl _ _ | refine Only.setNew ?_ (by omega) _ _ | refine Only.alloc ?_ _))
  · have fm0 : fm = false := by cases fm <;> simp_all
    have fk1 : (fk == 1) = false := by simp; intro e; exact h0 (.inr e)
    subst fm0
    clear h0
    have R0 : Hid (Rec ((w.alloc (.cells #[.int .i64 fk, .int .i64 fo, .bool false] 33)).alloc (.cells #[.int .i64 0, .int .i64 0, .bool false] 33)) w.heap.size 33 [.int .i64 fk, .int .i64 fo, .bool false]) := (Rec.new _ _ _).alloc _
    have Q0 : Hid (Rec ((w.alloc (.cells #[.int .i64 fk, .int .i64 fo, .bool false] 33)).alloc (.cells #[.int .i64 0, .int .i64 0, .bool false] 33)) (w.heap.size + 1) 33 [.int .i64 0, .int .i64 0, .bool false]) := Rec.new' _ _ _ _ (by simp)
    have O0 : Hid (Only g w ((w.alloc (.cells #[.int .i64 fk, .int .i64 fo, .bool false] 33)).alloc (.cells #[.int .i64 0, .int .i64 0, .bool false] 33))) := ((Only.refl g w).alloc _).alloc _
    go_enter Tryz.func125, Tryz.ntmps125
    go_wp2_with fail
    refine (pick_only g p _ _ (by omega) ((h.alloc _).alloc _)).mono ?_
    rintro e w1 ⟨k1, rfl, _, _, _, r1, o1', s1⟩
    have R1 := hide (R0.out.only o1' (by omega))
    have Q1 := hide (Q0.out.only o1' (by omega))
    have O1 := hide (O0.out.trans o1')
    have ne := r1.lt
    have b0 := R1.out.cell (o := 0) rfl
    have b1 := R1.out.cell (o := 1) rfl
    have z0 := R1.out.frozen 0
    have hlt1 := R1.out.lt
    clear o1' R0 Q0 O0 h
    by_cases e1 : k1 = 0
    · subst e1
      have R2 := hide (R1.out.set 0 (.int .i64 3))
      have Q2 := hide (Q1.out.other (b' := w.heap.size) (by omega) 0 (.int .i64 3))
      have O2 := hide (O1.out.setNew (Nat.le_refl _) 0 (.int .i64 3))
      have RD : Rd (w1.setCell ⟨w.heap.size, 0, none⟩ (.int .i64 3)) g (p + 1) := r1.keep' ((Below.refl _ _).setCell (by first | omega | (simp <;> omega)) _)
      clear R1 Q1 O1
      go_wp2_with fail
      refine (pick_only g (p + 1) _ _ (by omega) RD).mono ?_
      rintro e w3 ⟨k3, rfl, _, l3, u3, r3, o3, s3⟩
      have u3' := u3 (by omega)
      have HOB : Hid (OB M (k3 - 2)) := (⟨by omega, by omega⟩ : OB M (k3 - 2))
      have HOF : Hid (OB M fo) := (⟨o0, o1⟩ : OB M fo)
      have R3 := hide (R2.out.only o3 (by omega))
      have Q3 := hide (Q2.out.only o3 (by omega))
      have O3 := hide (O2.out.trans o3)
      have c0 := R3.out.cell (o := 0) rfl
      have c1 := R3.out.cell (o := 1) rfl
      have c2 := R3.out.cell (o := 2) rfl
      have f0 := R3.out.frozen 0
      have f1 := R3.out.frozen 1
      have f2 := R3.out.frozen 2
      have hq3 := Q3.out.lt
      have x0 := Q3.out.cell (o := 0) rfl
      have x1 := Q3.out.cell (o := 1) rfl
      have x2 := Q3.out.cell (o := 2) rfl
      have y0 := Q3.out.frozen 0
      have y1 := Q3.out.frozen 1
      have y2 := Q3.out.frozen 2
      have hlt3 := R3.out.lt
      clear u3 o3 R2 Q2 O2 RD s1 s3
      by_cases e2 : fo = -1
      · subst e2
        go_wp2_with fail
        go_quiet (fail)
        go_wp2_with fail
        refine bodyPost_ret (v := .agg #[.int .i64 3, .int .i64 (k3 - 2), .bool false]) (by simp [results, Tryz.results125, go_sem, x0, x1, x2]) rfl ⟨⟨3, (k3 - 2), false⟩, rfl, HOB.out, ⟨p + 2, by omega, ?_⟩, ?_⟩
        · refine r3.keep' ?_
          (repeat (first | refine Below.setCell ?_ (by first | omega | (simp <;> omega)) _ | exact Below.refl _ _ | exact below_drewN (Below.refl _ _) _))
        · (repeat (first | refine Only.setNew ?_ (by omega) _ _ | exact O3.out | exact O3.out.drewN _))
      · have e2' : (fo == -1) = false := by simpa using e2
        have X3 : Hid (GroupsIn w3 lo hi ga gs) := HX.out.same (O3.out.same hg hh) (Nat.le_refl _) (Nat.le_refl _)
        have hs3 : hi ≤ w3.heap.size := Nat.le_trans hh O3.out.size
        by_cases e3 : fo < (kinCount gs : Int)
        · have x1' : k3 - 2 < (kinCount gs : Int) := by omega
          have x0' : -2 ≤ k3 - 2 := by omega
          go_wp2_with fail
          go_region_held3 (fun w' => w'.cell? ⟨w.heap.size, 1, none⟩ = some (.int .i64 fo)) (go_keep)
            ((first
              | (go_at_call 25; refine (specKinCount_any ga gc lo hi gs _ HN.out (by exact X3.out)).mono ?_; rintro e w4 ⟨rfl, rfl⟩)
              | (go_at_call 133; refine (l1Under_w ga gc lo hi gs (k3 - 2) fo _ HP.out HN.out hc hl (by exact hs3) (by exact X3.out) x0' x1' o0 e3).mono ?_; rintro e w5 ⟨rfl, hb5⟩; have qd := (hb5.cell (p := ⟨w.heap.size, 1, none⟩) hlt3).trans c1)))
          have R5 := hide (Rec.below (w := w3.drew) R3.out hb5 R3.out.lt)
          have Q5 := hide (Rec.below (w := w3.drew) Q3.out hb5 Q3.out.lt)
          have hq5 := Q5.out.lt
          have t0 := Q5.out.cell (o := 0) rfl
          have t1 := Q5.out.cell (o := 1) rfl
          have t2 := Q5.out.cell (o := 2) rfl
          have u0 := Q5.out.frozen 0
          have u1 := Q5.out.frozen 1
          have u2 := Q5.out.frozen 2
          have O5 := hide (Only.trans (b := w3.drew) (O3.out.drewN 1) (Only.of_below hb5))
          have r5 := Rd.keep (w := w3.drew) r3 hb5
          have d0 := R5.out.cell (o := 0) rfl
          have d1 := R5.out.cell (o := 1) rfl
          have d2 := R5.out.cell (o := 2) rfl
          have g0 := R5.out.frozen 0
          have g1 := R5.out.frozen 1
          have g2 := R5.out.frozen 2
          have hlt5 := R5.out.lt
          clear hb5 qd X3 hs3 R3 Q3 O3 r3 c0 c1 c2 f0 f1 f2 hlt3 x0 x1 x2 y0 y1 y2 hq3
          cases hu : under gs (k3 - 2) fo with
          | true =>
            go_wp2_with fail
            refine bodyPost_ret (v := .agg #[.int .i64 3, .int .i64 (k3 - 2), .bool false]) (by simp [results, Tryz.results125, go_sem, t0, t1, t2]) rfl ⟨⟨3, (k3 - 2), false⟩, rfl, HOB.out, ⟨p + 2, by omega, ?_⟩, ?_⟩
            · refine r5.keep' ?_
              (repeat (first | refine Below.setCell ?_ (by first | omega | (simp <;> omega)) _ | exact Below.refl _ _ | exact below_drewN (Below.refl _ _) _))
            · (repeat (first | refine Only.setNew ?_ (by omega) _ _ | exact O5.out | exact O5.out.drewN _))
          | false =>
            go_wp2_with fail
            refine bodyPost_ret (v := .agg #[.int .i64 3, .int .i64 fo, .bool false]) (by simp [results, Tryz.results125, go_sem, t0, t1, t2]) rfl ⟨⟨3, fo, false⟩, rfl, HOF.out, ⟨p + 2, by omega, ?_⟩, ?_⟩
            · refine r5.keep' ?_
              (repeat (first | refine Below.setCell ?_ (by first | omega | (simp <;> omega)) _ | exact Below.refl _ _ | exact below_drewN (Below.refl _ _) _))
            · (repeat (first | refine Only.setNew ?_ (by omega) _ _ | exact O5.out | exact O5.out.drewN _))
        · have e3' : (kinCount gs : Int) ≤ fo := by omega
          have e3d : decide (fo < (kinCount gs : Int)) = false := by simp; omega
          have HC3 := hide (fun i => specKinCount_any ga gc lo hi gs (w3.drewN i) HN.out X3.out)
          go_wp2_with fail
          go_quiet (first | (go_at_call 25; exact Calls.quiet_of_same (HC3.out _)))
          go_wp2_with fail
          refine bodyPost_ret (v := .agg #[.int .i64 3, .int .i64 fo, .bool false]) (by simp [results, Tryz.results125, go_sem, x0, x1, x2]) rfl ⟨⟨3, fo, false⟩, rfl, HOF.out, ⟨p + 2, by omega, ?_⟩, ?_⟩
          · refine r3.keep' ?_
            (repeat (first | refine Below.setCell ?_ (by first | omega | (simp <;> omega)) _ | exact Below.refl _ _ | exact below_drewN (Below.refl _ _) _))
          · (repeat (first | refine Only.setNew ?_ (by omega) _ _ | exact O3.out | exact O3.out.drewN _))
    · have e1' : (k1 == 0) = false := by simpa using e1
      have R2 := R1
      have Q2 := Q1
      have O2 := O1
      have RD := r1
      clear R1 Q1 O1
      go_wp2_with fail
      refine (pick_only g (p + 1) _ _ (by omega) RD).mono ?_
      rintro e w3 ⟨k3, rfl, _, l3, u3, r3, o3, s3⟩
      have u3' := u3 (by omega)
      have HOB : Hid (OB M (k3 - 2)) := (⟨by omega, by omega⟩ : OB M (k3 - 2))
      have HOF : Hid (OB M fo) := (⟨o0, o1⟩ : OB M fo)
      have R3 := hide (R2.out.only o3 (by omega))
      have Q3 := hide (Q2.out.only o3 (by omega))
      have O3 := hide (O2.out.trans o3)
      have c0 := R3.out.cell (o := 0) rfl
      have c1 := R3.out.cell (o := 1) rfl
      have c2 := R3.out.cell (o := 2) rfl
      have f0 := R3.out.frozen 0
      have f1 := R3.out.frozen 1
      have f2 := R3.out.frozen 2
      have hq3 := Q3.out.lt
      have x0 := Q3.out.cell (o := 0) rfl
      have x1 := Q3.out.cell (o := 1) rfl
      have x2 := Q3.out.cell (o := 2) rfl
      have y0 := Q3.out.frozen 0
      have y1 := Q3.out.frozen 1
      have y2 := Q3.out.frozen 2
      have hlt3 := R3.out.lt
      clear u3 o3 R2 Q2 O2 RD s1 s3
      by_cases e2 : fo = -1
      · subst e2
        go_wp2_with fail
        go_quiet (fail)
        go_wp2_with fail
        refine bodyPost_ret (v := .agg #[.int .i64 fk, .int .i64 (k3 - 2), .bool false]) (by simp [results, Tryz.results125, go_sem, x0, x1, x2]) rfl ⟨⟨fk, (k3 - 2), false⟩, rfl, HOB.out, ⟨p + 2, by omega, ?_⟩, ?_⟩
        · refine r3.keep' ?_
          (repeat (first | refine Below.setCell ?_ (by first | omega | (simp <;> omega)) _ | exact Below.refl _ _ | exact below_drewN (Below.refl _ _) _))
        · (repeat (first | refine Only.setNew ?_ (by omega) _ _ | exact O3.out | exact O3.out.drewN _))
      · have e2' : (fo == -1) = false := by simpa using e2
        have X3 : Hid (GroupsIn w3 lo hi ga gs) := HX.out.same (O3.out.same hg hh) (Nat.le_refl _) (Nat.le_refl _)
        have hs3 : hi ≤ w3.heap.size := Nat.le_trans hh O3.out.size
        by_cases e3 : fo < (kinCount gs : Int)
        · have x1' : k3 - 2 < (kinCount gs : Int) := by omega
          have x0' : -2 ≤ k3 - 2 := by omega
          go_wp2_with fail
          go_region_held3 (fun w' => w'.cell? ⟨w.heap.size, 1, none⟩ = some (.int .i64 fo)) (go_keep)
            ((first
              | (go_at_call 25; refine (specKinCount_any ga gc lo hi gs _ HN.out (by exact X3.out)).mono ?_; rintro e w4 ⟨rfl, rfl⟩)
              | (go_at_call 133; refine (l1Under_w ga gc lo hi gs (k3 - 2) fo _ HP.out HN.out hc hl (by exact hs3) (by exact X3.out) x0' x1' o0 e3).mono ?_; rintro e w5 ⟨rfl, hb5⟩; have qd := (hb5.cell (p := ⟨w.heap.size, 1, none⟩) hlt3).trans c1)))
          have R5 := hide (Rec.below (w := w3.drew) R3.out hb5 R3.out.lt)
          have Q5 := hide (Rec.below (w := w3.drew) Q3.out hb5 Q3.out.lt)
          have hq5 := Q5.out.lt
          have t0 := Q5.out.cell (o := 0) rfl
          have t1 := Q5.out.cell (o := 1) rfl
          have t2 := Q5.out.cell (o := 2) rfl
          have u0 := Q5.out.frozen 0
          have u1 := Q5.out.frozen 1
          have u2 := Q5.out.frozen 2
          have O5 := hide (Only.trans (b := w3.drew) (O3.out.drewN 1) (Only.of_below hb5))
          have r5 := Rd.keep (w := w3.drew) r3 hb5
          have d0 := R5.out.cell (o := 0) rfl
          have d1 := R5.out.cell (o := 1) rfl
          have d2 := R5.out.cell (o := 2) rfl
          have g0 := R5.out.frozen 0
          have g1 := R5.out.frozen 1
          have g2 := R5.out.frozen 2
          have hlt5 := R5.out.lt
          clear hb5 qd X3 hs3 R3 Q3 O3 r3 c0 c1 c2 f0 f1 f2 hlt3 x0 x1 x2 y0 y1 y2 hq3
          cases hu : under gs (k3 - 2) fo with
          | true =>
            go_wp2_with fail
            refine bodyPost_ret (v := .agg #[.int .i64 fk, .int .i64 (k3 - 2), .bool false]) (by simp [results, Tryz.results125, go_sem, t0, t1, t2]) rfl ⟨⟨fk, (k3 - 2), false⟩, rfl, HOB.out, ⟨p + 2, by omega, ?_⟩, ?_⟩
            · refine r5.keep' ?_
              (repeat (first | refine Below.setCell ?_ (by first | omega | (simp <;> omega)) _ | exact Below.refl _ _ | exact below_drewN (Below.refl _ _) _))
            · (repeat (first | refine Only.setNew ?_ (by omega) _ _ | exact O5.out | exact O5.out.drewN _))
          | false =>
            go_wp2_with fail
            refine bodyPost_ret (v := .agg #[.int .i64 fk, .int .i64 fo, .bool false]) (by simp [results, Tryz.results125, go_sem, t0, t1, t2]) rfl ⟨⟨fk, fo, false⟩, rfl, HOF.out, ⟨p + 2, by omega, ?_⟩, ?_⟩
            · refine r5.keep' ?_
              (repeat (first | refine Below.setCell ?_ (by first | omega | (simp <;> omega)) _ | exact Below.refl _ _ | exact below_drewN (Below.refl _ _) _))
            · (repeat (first | refine Only.setNew ?_ (by omega) _ _ | exact O5.out | exact O5.out.drewN _))
        · have e3' : (kinCount gs : Int) ≤ fo := by omega
          have e3d : decide (fo < (kinCount gs : Int)) = false := by simp; omega
          have HC3 := hide (fun i => specKinCount_any ga gc lo hi gs (w3.drewN i) HN.out X3.out)
          go_wp2_with fail
          go_quiet (first | (go_at_call 25; exact Calls.quiet_of_same (HC3.out _)))
          go_wp2_with fail
          refine bodyPost_ret (v := .agg #[.int .i64 fk, .int .i64 fo, .bool false]) (by simp [results, Tryz.results125, go_sem, x0, x1, x2]) rfl ⟨⟨fk, fo, false⟩, rfl, HOF.out, ⟨p + 2, by omega, ?_⟩, ?_⟩
          · refine r3.keep' ?_
            (repeat (first | refine Below.setCell ?_ (by first | omega | (simp <;> omega)) _ | exact Below.refl _ _ | exact below_drewN (Below.refl _ _) _))
          · (repeat (first | refine Only.setNew ?_ (by omega) _ _ | exact O3.out | exact O3.out.drewN _))
end Go.Proofs.YtblliefejffhoaaGreatDoor
