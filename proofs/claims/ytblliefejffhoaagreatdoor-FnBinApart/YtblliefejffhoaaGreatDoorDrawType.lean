/- l1Type of the draws: a type under one of those there are, or under none. -/
import Derived.Test.YtblliefejffhoaaGreatDoorDrawWiden
import Derived.Deep.CutRange
import Derived.Deep.Light
namespace Go.Proofs.YtblliefejffhoaaGreatDoor
open Go.ChangeShapes Go.WideShapes Go.ChangeAt Go.RowKit
set_option linter.unusedVariables false

/-- A type's parts are small, and what is above it is among the first c. -/
def TBound (M : Int) (c : Nat) (t : Ty) : Prop := t.fields.length ≤ 4 ∧ (-1 ≤ t.up ∧ t.up < (c : Int)) ∧ ∀ j, j < t.fields.length → -2 ≤ (fdAt t.fields j).of ∧ (fdAt t.fields j).of ≤ M

set_option maxHeartbeats 1000000 in
theorem l1Field_ob (g p : Nat) (n : Int) (w : World) (hp : p < 900000) (h : Rd w g p) (hn : 0 ≤ n) (hn2 : n ≤ 9) :
    Calls Tryz.prog 104 #[.pointer (some ⟨g, 0, none⟩), .int .i64 n] w fun e w' => ∃ f : Fd, e = .returned (.agg #[.int .i64 f.kind, .int .i64 f.of, .bool f.mt]) ∧ OB 8 f.of ∧ (∃ p', p' ≤ p + 3 ∧ Rd w' g p') ∧ Only g w w' := by
  have hg := h.lt
  go_enter Tryz.func104, Tryz.ntmps104
  go_wp2_with fail
  refine (num_list [1, 2, 2, 3, 1, 2] g p _ _ _ (by simp) (by omega) (h.alloc _) (by simp) (by simp)).mono ?_
  rintro e w2 ⟨k2, hk2, rfl, r2, o2, s2⟩
  have R2 : Hid (Rec w2 w.heap.size 33 [.int .i64 0, .int .i64 0, .bool false]) := (Rec.new' _ _ _ _ rfl).only o2 (Nat.ne_of_gt hg)
  have O2 : Hid (Only g w w2) := ((Only.refl g w).alloc _).trans o2
  generalize nAt [1, 2, 2, 3, 1, 2] k2 = kd
  clear o2 hk2 h
  simp only [World.size_alloc] at s2
  go_wp2_with fail
  refine (pick_only g (p + 1) _ w2 (by omega) r2).mono ?_
  rintro e w3 ⟨k3, rfl, _, _, _, r3, o3, s3⟩
  have R3 : Hid (Rec w3 w.heap.size 33 [.int .i64 0, .int .i64 0, .bool false]) := R2.out.only o3 (Nat.ne_of_gt hg)
  have O3 : Hid (Only g w w3) := O2.out.trans o3
  have c0 := R3.out.cell (o := 0) rfl
  have c1 := R3.out.cell (o := 1) rfl
  have c2 := R3.out.cell (o := 2) rfl
  have f0 := R3.out.frozen 0
  have f1 := R3.out.frozen 1
  have f2 := R3.out.frozen 2
  clear o3 r2
  have e3 : w3.heap.size = w.heap.size + 1 + 1 := by omega
  have y1 : w.heap.size < w3.heap.size := by omega
  clear s2 s3
  by_cases h1 : kd = 1
  · subst h1
    go_wp2_with fail
    refine bodyPost_ret (v := .agg #[.int .i64 1, .int .i64 0, .bool (k3 == 0)]) (by simp [results, Tryz.results104, go_sem, c0, c1, c2, y1]) rfl ⟨⟨1, 0, k3 == 0⟩, rfl, (⟨by decide, by decide⟩ : OB 8 0), ⟨p + 2, by omega, ?_⟩, ?_⟩
    · refine r3.keep' ?_
      (repeat (first | refine Below.setCell ?_ (by simp <;> omega) _ | refine Below.alloc ?_ (by simp <;> omega) _ | exact Below.refl _ _))
    · (repeat (first | refine Only.setNew ?_ (by omega) _ _ | refine Only.alloc ?_ _ | exact O3.out))
  · have h1' : (kd == 1) = false := by simpa using h1
    go_wp2_with fail
    refine (pick_only g (p + 1 + 1) _ _ (by omega) (r3.alloc _)).mono ?_
    rintro e w4 ⟨k4, rfl, _, l4, u4, r4, o4, s4⟩
    have u4' := u4 (by omega)
    have HOB : Hid (OB 8 (k4 - 2)) := (⟨by omega, by omega⟩ : OB 8 (k4 - 2))
    clear u4
    have R4 : Hid (Rec w4 w.heap.size 33 [.int .i64 0, .int .i64 0, .bool false]) := (R3.out.alloc _).only o4 (Nat.ne_of_gt hg)
    have S4 : Hid (Rec w4 (w.heap.size + 1 + 1) 33 [.int .i64 kd, .int .i64 0, .bool (k3 == 0)]) := (Rec.new' _ _ _ _ e3.symm).only o4 (by omega)
    have O4 : Hid (Only g w w4) := (O3.out.alloc _).trans o4
    have d0 := R4.out.cell (o := 0) rfl
    have d1 := R4.out.cell (o := 1) rfl
    have d2 := R4.out.cell (o := 2) rfl
    have e0 := R4.out.frozen 0
    have e1 := R4.out.frozen 1
    have e2 := R4.out.frozen 2
    have i0 := S4.out.cell (o := 0) rfl
    have i1 := S4.out.cell (o := 1) rfl
    have i2 := S4.out.cell (o := 2) rfl
    have j1 := S4.out.frozen 1
    clear c0 c1 c2 f0 f1 f2 o4
    go_wp2_with fail
    refine bodyPost_ret (v := .agg #[.int .i64 kd, .int .i64 (k4 - 2), .bool (k3 == 0)]) (by simp [results, Tryz.results104, go_sem, d0, d1, d2]) rfl ⟨⟨kd, k4 - 2, k3 == 0⟩, rfl, HOB.out, ⟨p + 3, by omega, ?_⟩, ?_⟩
    · refine r4.keep' ?_
      (repeat (first | refine Below.setCell ?_ (by simp <;> omega) _ | exact Below.refl _ _))
    · (repeat (first | refine Only.setNew ?_ (by omega) _ _ | exact O4.out))

set_option maxHeartbeats 1600000 in
theorem l1Min_any (a b : Int) (w : World) : Calls Tryz.prog 124 #[.int .i64 a, .int .i64 b] w fun e w' => e = .returned (.int .i64 (if a < b then a else b)) ∧ w' = w := by
  by_cases h : a < b
  · have h' : (if a < b then a else b) = a := if_pos h
    rw [h']
    go_enter Tryz.func124, Tryz.ntmps124
    go_wp2_with fail
    go_ret
    exact ⟨rfl, rfl⟩
  · have h' : (if a < b then a else b) = b := if_neg h
    rw [h']
    have h2 : b ≤ a := by omega
    go_enter Tryz.func124, Tryz.ntmps124
    go_wp2_with fail
    go_ret
    exact ⟨rfl, rfl⟩

theorem l1Min_same (a : Int) (w : World) : Calls Tryz.prog 124 #[.int .i64 a, .int .i64 a] w fun e w' => e = .returned (.int .i64 a) ∧ w' = w := by
  have h := l1Min_any a a w
  rwa [if_neg (Int.lt_irrefl a)] at h

theorem TBound.snoc {M : Int} {C : Nat} {kd up : Int} {la : Bool} {fs : List Fd} {f : Fd} (h : TBound M C ⟨kd, up, la, fs⟩) (hl : fs.length < 4) (ho : OB M f.of) : TBound M C ⟨kd, up, la, fs ++ [f]⟩ := by
  refine ⟨by simp; omega, h.2.1, fun j hj => ?_⟩
  by_cases e : j < fs.length
  · show -2 ≤ (fdAt (fs ++ [f]) j).of ∧ (fdAt (fs ++ [f]) j).of ≤ M
    rw [fdAt_snoc_left _ _ _ e]; exact h.2.2 j e
  · have : j = fs.length := by simp at hj; omega
    subst this
    show -2 ≤ (fdAt (fs ++ [f]) _).of ∧ (fdAt (fs ++ [f]) _).of ≤ M
    rw [fdAt_snoc_last]; exact ho
theorem FieldRow.of_snoc {w : World} {S cap : Nat} {a : Option Addr} {fs : List Fd} {f : Fd} (h : w.ownsRow S 33 3 (.slice a (fs.length + 1) cap) (fs.length + 1) (fcells fs ++ [.int .i64 f.kind, .int .i64 f.of, .bool f.mt])) : FieldRow w S a cap (fs ++ [f]) := by
  unfold FieldRow
  rw [fcells_snoc]
  simpa using h
theorem OB.up {M o : Int} (h : OB 8 o) (hM : 8 ≤ M) : OB M o := ⟨h.1, by have := h.2; omega⟩
/-- What l1Type answers. -/
def TypePost (g p : Nat) (M : Int) (C : Nat) (w : World) (e : Ending) (w' : World) : Prop :=
  ∃ (t : Ty) (fa : Option Addr) (fc : Nat), e = .returned (.agg #[.int .i64 t.kind, .int .i64 t.up, .bool t.last, .slice fa t.fields.length fc]) ∧ FieldRow w' w.heap.size fa fc t.fields ∧ TBound M C t ∧ (∃ p', p' ≤ p + 40 ∧ Rd w' g p') ∧ Only g w w'

set_option maxHeartbeats 8000000 in
set_option maxRecDepth 100000 in
theorem l1Type_any (g p : Nat) (ga : Option Addr) (gc lo hi : Nat) (gs : List (List Ty)) (n M : Int) (w : World) (hp : p < 800000) (h : Rd w g p) (hg : g < lo) (hP : PartsW gs) (hN : Few gs) (hc : gs.length ≤ gc) (hl : lo ≤ hi) (hh : hi ≤ w.heap.size) (hx : GroupsIn w lo hi ga gs)
    (hM : ∀ q, q < kinCount gs → TBound M q (tyN gs q)) (n0 : 0 ≤ n) (n1 : n ≤ 9) (m8 : 8 ≤ M) (m9 : M ≤ 1000) (C : Nat) (hC : C = kinCount gs) :
    Calls Tryz.prog 102 #[.pointer (some ⟨g, 0, none⟩), .slice ga gs.length gc, .int .i64 (kinCount gs : Int), .int .i64 n] w
      (TypePost g p M C w) := by
  have k8 := hP.1
  have hlt := h.lt
  have HX := hide hx
  have HN := hide hN
  have HP := hide hP
  have HM := hide hM
  have HC := hide hC
  clear hx hN hP hM hC
  obtain ⟨i0, hi0, hzz⟩ := Option.map_eq_some_iff.1 Tryz.infoField
  simp only [Prod.mk.injEq] at hzz
  obtain ⟨hz0, hs0, hb0⟩ := hzz
  have HZ := hide hz0
  have HS := hide hs0
  have HB := hide hb0
  have HI := hide hi0
  clear hz0 hs0 hb0 hi0
  have Z0 : Hid (Rec (w.alloc (.cells #[.int .i64 0, .int .i64 0, .bool false, .slice none 0 0] 44)) w.heap.size 44 [.int .i64 0, .int .i64 0, .bool false, .slice none 0 0]) := Rec.new _ _ _
  have O0 : Hid (Only g w (w.alloc (.cells #[.int .i64 0, .int .i64 0, .bool false, .slice none 0 0] 44))) := (Only.refl g w).alloc _
  go_enter Tryz.func102, Tryz.ntmps102
  go_wp2_with fail
  refine (l1Flat_any ga gc lo hi gs _ HN.out (HX.out.same (O0.out.same hg hh) (Nat.le_refl _) (Nat.le_refl _)) (Nat.le_trans hh O0.out.size) hl).mono ?_
  rintro e w1 ⟨na, nc, rfl, ht1, hb1⟩
  have HT := hide ht1
  have Z1 := hide (Z0.out.below hb1 Z0.out.lt)
  have O1 := hide (O0.out.trans (Only.of_below hb1))
  have r1 := (h.alloc (.cells #[.int .i64 0, .int .i64 0, .bool false, .slice none 0 0] 44)).keep hb1
  clear ht1 hb1 h Z0 O0
  go_wp2_with fail
  refine (num_list [1, 1, 1, 2] g p _ _ _ (by simp) (by omega) r1 (by simp) (by simp)).mono ?_
  rintro e w2 ⟨k2, hk2, rfl, r2, o2, s2⟩
  have Z2 := hide (Z1.out.only o2 (by omega))
  have O2 := hide (O1.out.trans o2)
  have HT2 := hide (HT.out.same (o2.same hg (Nat.le_refl _)) (Nat.le_refl _) (Nat.le_refl _))
  generalize nAt [1, 1, 1, 2] k2 = kd
  have hs2 : w1.heap.size ≤ w2.heap.size := by omega
  have hz2 : w.heap.size < w2.heap.size := Z2.out.lt
  clear o2 hk2 r1 HT Z1 O1 s2
  go_wp2_with fail
  refine (pick_only g (p + 1) _ w2 (by omega) r2).mono ?_
  rintro e w3 ⟨k3, rfl, _, _, _, r3, o3, s3⟩
  have Z3 := hide (Z2.out.only o3 (by omega))
  have O3 := hide (O2.out.trans o3)
  have HT3 := hide (HT2.out.same (o3.same hg hs2) (Nat.le_refl _) (Nat.le_refl _))
  generalize hhi : w1.heap.size = hi1 at *
  clear hhi
  have hs3 : hi1 ≤ w3.heap.size := by omega
  have hz3 : w.heap.size < w3.heap.size := Z3.out.lt
  clear o3 r2 HT2 Z2 O2 s3 hs2 hz2
  go_wp2_with fail
  refine (pick_only g (p + 1 + 1) _ _ (by omega) (r3.alloc _)).mono ?_
  rintro e w4 ⟨k4, rfl, _, l4, u4, r4, o4, s4⟩
  have u4' := u4 (by omega)
  have Z4 := hide ((Z3.out.alloc _).only o4 (by omega))
  have T4 : Hid (Rec w4 w3.heap.size 44 [.int .i64 kd, .int .i64 (-1), .bool (k3 == 0), .slice none 0 0]) := (Rec.new _ _ _).only o4 (by omega)
  have O4 := hide ((O3.out.alloc _).trans o4)
  have HT4 := hide ((HT3.out.same (Same.of_below ((Below.refl w3.heap.size w3).alloc (Nat.le_refl _) _) hs3) (Nat.le_refl _) (Nat.le_refl _)).same (o4.same hg (by simp; omega)) (Nat.le_refl _) (Nat.le_refl _))
  simp only [World.size_alloc] at s4
  generalize htb : w3.heap.size = tb at *
  clear htb u4 Z3 O3 HT3 o4 r3
  have s4' : w4.heap.size = tb + 1 := by omega
  clear s4
  have hgt : g < tb := by omega
  have t0 := T4.out.cell (o := 0) rfl
  have t1 := T4.out.cell (o := 1) rfl
  have t2 := T4.out.cell (o := 2) rfl
  have t3 := T4.out.cell (o := 3) rfl
  have g0 := T4.out.frozen 0
  have g1 := T4.out.frozen 1
  have g3 := T4.out.frozen 3
  have FR0 : Hid (FieldRow w4 (tb + 1) none 0 []) := World.ownsRow_nil _ _ _ _
  have TB0 : Hid (TBound M C ⟨kd, -1, k3 == 0, []⟩) := ⟨by simp, ⟨by simp, by show (-1 : Int) < _; omega⟩, fun j hj => absurd hj (by simp)⟩
  go_upto_region 4 with fail
  go_cut [33] from 26 to 32 (fun c wc => ∃ (b : Bool) (pq : Nat), c = .bool b ∧ Hid (b = true → 0 < kinCount gs) ∧ Hid (Rec wc tb 44 [.int .i64 kd, .int .i64 (-1), .bool (k3 == 0), .slice none 0 0]) ∧ Hid (Rec wc w.heap.size 44 [.int .i64 0, .int .i64 0, .bool false, .slice none 0 0]) ∧ Hid (TypesIn wc lo hi1 na (flat gs)) ∧ Hid (Only g w wc) ∧ Hid (Rd wc g pq) ∧ pq ≤ p + 4)
  case first =>
    by_cases hk0 : kinCount gs = 0
    · have hk0' : ((kinCount gs : Int)) = 0 := by omega
      go_wp2_with fail
      go_meet
      exact ⟨false, p + 1 + 1 + 1, rfl, fun h => by simp at h, T4, Z4, HT4, O4, r4, by omega⟩
    · have hk0' : (0 : Int) < (kinCount gs : Int) := by omega
      go_wp2_with fail
      refine (pick_only g (p + 1 + 1 + 1) _ _ (by omega) r4).mono ?_
      rintro e w5 ⟨k5, rfl, _, _, _, r5, o5, s5⟩
      go_wp2_with fail
      go_meet
      exact ⟨k5 == 0, p + 1 + 1 + 1 + 1, rfl, fun _ => by omega, T4.out.only o5 (by omega), Z4.out.only o5 (by omega), HT4.out.same (o5.same hg (by omega)) (Nat.le_refl _) (Nat.le_refl _), O4.out.trans o5, r5, by omega⟩
  case rest =>
    clear T4 Z4 HT4 O4 r4 t0 t1 t2 t3 g0 g1 g3 FR0 s4'
    obtain ⟨b, pq, rfl, hb0, T5, Z5, HT5, O5, R5, hpq⟩ := hcut
    have s5 := T5.out.lt
    have t0 := T5.out.cell (o := 0) rfl
    have t1 := T5.out.cell (o := 1) rfl
    have t2 := T5.out.cell (o := 2) rfl
    have t3 := T5.out.cell (o := 3) rfl
    have g0 := T5.out.frozen 0
    have g1 := T5.out.frozen 1
    have g3 := T5.out.frozen 3
    have FR0 : Hid (FieldRow wc (tb + 1) none 0 []) := World.ownsRow_nil _ _ _ _
    go_upto_if 33 with fail
    go_cut [11, 12, 13] from 34 to 85 (fun kv uv iv wx => ∃ (t : Ty) (fs : List Fd) (fa : Option Addr) (fc pq : Nat) (k : Int), kv = .int .i64 k ∧ 0 ≤ k ∧ k ≤ 3 ∧ Hid (Rec wx tb 44 [.int .i64 t.kind, .int .i64 t.up, .bool t.last, .slice fa fs.length fc]) ∧ Hid (Rec wx w.heap.size 44 [.int .i64 0, .int .i64 0, .bool false, .slice none 0 0]) ∧ Hid (FieldRow wx (tb + 1) fa fc fs) ∧ Hid (TBound M C ⟨t.kind, t.up, t.last, fs⟩) ∧ Hid (Only g w wx) ∧ Hid (Rd wx g pq) ∧ pq ≤ p + 16)
    case first =>
      cases b with
      | false =>
        go_wp2_with fail
        go_meet
        exact ⟨⟨kd, -1, (k3 == 0), []⟩, [], none, 0, pq, 1 + k4, rfl, by omega, by omega, T5, Z5, FR0, TB0, O5, R5, by omega⟩
      | true =>
        have kpos : 0 < kinCount gs := hb0.out rfl
        go_wp2_with fail
        refine (l1Min_same _ _).mono ?_
        rintro e w6 ⟨rfl, rfl⟩
        go_wp2_with fail
        refine (pick_only g pq _ _ (by omega) R5.out).mono ?_
        rintro e wp ⟨k6, rfl, _, l6, u6, r6, o6, s6⟩
        obtain ⟨u, rfl⟩ := Int.eq_ofNat_of_zero_le l6
        have u6' : u < kinCount gs := by have := u6 (by omega); omega
        have T6 := hide (T5.out.only o6 (by omega))
        have Z6 := hide (Z5.out.only o6 (by omega))
        have HT6 := hide (HT5.out.same (o6.same hg (by omega)) (Nat.le_refl _) (Nat.le_refl _))
        have O6 := hide (O5.out.trans o6)
        have FR6 : Hid (FieldRow wp (tb + 1) none 0 []) := World.ownsRow_nil _ _ _ _
        clear T5 Z5 HT5 O5 R5 FR0 o6 u6 t0 t1 t2 t3 g0 g1 g3
        have t0 := T6.out.cell (o := 0) rfl
        have t1 := T6.out.cell (o := 1) rfl
        have t2 := T6.out.cell (o := 2) rfl
        have t3 := T6.out.cell (o := 3) rfl
        have g0 := T6.out.frozen 0
        have g1 := T6.out.frozen 1
        have g3 := T6.out.frozen 3
        have HU : Hid (TBound M u (tyAt (flat gs) u)) := HM.out u u6'
        rcases HT6.out with hnil | ⟨b2, off2, rfl, lo2, hi2, ht2⟩
        · exfalso; have := flat_length gs; rw [hnil] at this; simp at this; omega
        obtain ⟨e0, e1, e2, fa2, fc2, e3, e4⟩ := ht2 u (by rw [flat_length]; exact u6')
        generalize tyAt (flat gs) u = T at *
        obtain ⟨tk, tu, tl, tf⟩ := T
        simp only at e0 e1 e2 e3 e4
        have E4 := hide e4
        have b2t : b2 < wp.heap.size := cell_lt e0
        have x1 : (0 : Int) ≤ (u : Int) := by omega
        have x2 : (u : Int) < (kinCount gs : Int) := by omega
        clear ht2 e4 HT6
        cases tl with
        | true =>
          go_wp2_with fail
          go_meet
          exact ⟨⟨kd, -1, (k3 == 0), []⟩, [], none, 0, pq + 1, 1 + k4, rfl, by omega, by omega, T6, Z6, FR6, TB0, O6, r6, by omega⟩
        | false =>
          have T8 : Hid (Rec ((wp.setCell ⟨tb, 1, none⟩ (.int .i64 (u : Int))).setCell ⟨tb, 0, none⟩ (.int .i64 tk)) tb 44 [.int .i64 tk, .int .i64 (u : Int), .bool (k3 == 0), .slice none ([] : List Fd).length 0]) := (T6.out.set 1 (.int .i64 (u : Int))).set 0 (.int .i64 tk)
          have Z8 := hide ((Z6.out.other (show w.heap.size ≠ tb by omega) 1 (.int .i64 (u : Int))).other (show w.heap.size ≠ tb by omega) 0 (.int .i64 tk))
          have O8 := hide ((O6.out.setNew (show w.heap.size ≤ tb by omega) 1 (.int .i64 (u : Int))).setNew (show w.heap.size ≤ tb by omega) 0 (.int .i64 tk))
          have R8 : Hid (Rd ((wp.setCell ⟨tb, 1, none⟩ (.int .i64 (u : Int))).setCell ⟨tb, 0, none⟩ (.int .i64 tk)) g (pq + 1)) := r6.keep' (((Below.refl _ _).setCell (by show g + 1 ≤ tb; omega) _).setCell (by show g + 1 ≤ tb; omega) _)
          have S8 := hide (((Same.refl lo hi1 wp).set (b := tb) (Or.inr hs3) 1 (.int .i64 (u : Int))).set (b := tb) (Or.inr hs3) 0 (.int .i64 tk))
          have F8 : Hid (FieldRow ((wp.setCell ⟨tb, 1, none⟩ (.int .i64 (u : Int))).setCell ⟨tb, 0, none⟩ (.int .i64 tk)) (tb + 1) none 0 []) := World.ownsRow_nil _ _ _ _
          have B8 : Hid (TBound M C ⟨tk, (u : Int), k3 == 0, []⟩) := ⟨by simp, ⟨by show (-1 : Int) ≤ (u : Int); omega, by show (u : Int) < (C : Int); have := HC.out; omega⟩, fun j hj => absurd hj (by simp)⟩
          have tl4 : tf.length ≤ 4 := HU.out.1
          go_wp2_with fail
          go_loopw [13] (fun iv wr => ∃ (j : Nat) (fs : List Fd) (fa : Option Addr) (fc pr : Nat), iv = .int .i64 (j : Int) ∧ j ≤ tf.length ∧ Hid (fs.length = j) ∧ Hid (Rec wr tb 44 [.int .i64 tk, .int .i64 (u : Int), .bool (k3 == 0), .slice fa fs.length fc]) ∧ Hid (Rec wr w.heap.size 44 [.int .i64 0, .int .i64 0, .bool false, .slice none 0 0]) ∧ Hid (FieldRow wr (tb + 1) fa fc fs) ∧ Hid (TBound M C ⟨tk, (u : Int), k3 == 0, fs⟩) ∧ Hid (Only g w wr) ∧ Hid (Same lo hi1 wp wr) ∧ Hid (Rd wr g pr) ∧ pr ≤ pq + 1 + 2 * j) (fun iv wr => tf.length - (intOf iv).toNat)
          case atStart => exact ⟨0, [], none, 0, pq + 1, rfl, Nat.zero_le _, rfl, T8, Z8, F8, B8, O8, S8, R8, by omega⟩
          case round =>
            clear T8 Z8 O8 R8 S8 F8 B8 T6 Z6 O6 r6 t0 t1 t2 t3 g0 g1 g3 FR6
            obtain ⟨j, fs, fa, fc, pr, rfl, hj, HL, RT, RZ, FR, TB, OW, SW, RR, hpr⟩ := hrel
            have c3 := RT.out.cell (o := 3) rfl
            have f3 := RT.out.frozen 3
            have tblt := RT.out.lt
            have e3r : wr.cell? ⟨b2, off2 + u * 4 + 3, none⟩ = some (.slice fa2 tf.length fc2) := (SW.out.cell lo2 hi2).trans e3
            by_cases hjn : j < tf.length
            · rcases E4.out with hnil | ⟨b4, off4, rfl, l4a, l4b, h4⟩
              · exfalso; rw [hnil] at hjn; exact absurd hjn (Nat.not_lt_zero _)
              obtain ⟨m0, m1, m2⟩ := (h4 j hjn).same SW.out l4a l4b
              obtain ⟨ob0, ob1⟩ : -2 ≤ (fdAt tf j).of ∧ (fdAt tf j).of ≤ M := HU.out.2.2 j hjn
              generalize fdAt tf j = F0 at *
              have XR : Hid (GroupsIn wr lo hi ga gs) := HX.out.same (OW.out.same hg hh) (Nat.le_refl _) (Nat.le_refl _)
              have hsR : hi ≤ wr.heap.size := Nat.le_trans hh OW.out.size
              have hl4 : fs.length < 4 := by have := HL.out; omega
              have j1 : (0 : Int) ≤ (j : Int) := by omega
              have j2 : (j : Int) < (tf.length : Int) := by omega
              clear h4
              go_wp2_with fail
              go_region_law ((first
                | (refine step_append_lies _ (by rfl) _ _ 24 (by rfl) (tb + 1) 33 i0 _ 3 24 Tryz.underlying24 HI.out HZ.out HS.out HB.out (by rfl) (by decide) (.slice fa fs.length fc) fs.length (fcells fs) (by rfl) (F5.out.alloc _) ⟨w5.heap.size, 0, none⟩ 1 1 [.int .i64 f.kind, .int .i64 f.of, .bool f.mt] (by rfl) rfl (World.news_of_block (Deep.blk_alloc_new _ _)) (by intro u hu; simp at hu; rcases hu with rfl | rfl | rfl <;> rfl) (by decide) (by unfold maxLen; omega) (by omega) (by simp; omega) _ rfl ?_; intro gB cap6 w6 hown6 hgr6 hat6 hlt6; have T6 := hide ((T5.out.alloc _).grown hgr6 (row_ne F5.out (by omega))); have d3 := T6.out.cell (o := 3) rfl; have d3f := T6.out.frozen 3)
                | (go_simp; go_at_call 124; refine (l1Min_same _ _).mono ?_; rintro e w7 ⟨rfl, rfl⟩)
                | (go_simp; go_at_call 125; refine (l1Widen_any g pr ga gc lo hi gs F0.kind F0.of F0.mt _ M _ (by omega) (by exact RR.out) hg HP.out HN.out hc hl (by exact hsR) (by exact XR.out) (by omega) (by omega) ob0 ob1 m8 m9).mono ?_; rintro e w5 ⟨f, rfl, ob5, ⟨p5, hp5, r5⟩, o5⟩; have T5 := hide (Rec.only (w := wr.drew) RT.out o5 (by omega)); have Z5 := hide (Rec.only (w := wr.drew) RZ.out o5 (by omega)); have F5 := hide (owns_only (w := wr.drew) FR.out o5 (by omega)); have O5 := hide (Only.trans (b := wr.drew) (OW.out.drewN 1) o5); have S5 := hide (Same.trans (w' := wr.drew) SW.out (o5.same hg (by exact Nat.le_of_lt (Nat.lt_of_le_of_lt hs3 tblt)))); have s5 := T5.out.lt; have d3 := T5.out.cell (o := 3) rfl; clear o5)))
              all_goals
                have e7 : (fs ++ [f]).length = fs.length + 1 := by simp
                have T7 : Hid (Rec (w6.setCell ⟨tb, 3, none⟩ (.slice (some ⟨gB, 0, none⟩) (fs.length + 1) cap6)) tb 44 [.int .i64 tk, .int .i64 (u : Int), .bool (k3 == 0), .slice (some ⟨gB, 0, none⟩) (fs ++ [f]).length cap6]) := by rw [e7]; exact T6.out.set 3 _
                have Z7 := hide (((Z5.out.alloc (.cells #[.int .i64 f.kind, .int .i64 f.of, .bool f.mt] 33)).grown hgr6 (row_ne F5.out (by omega))).other (show w.heap.size ≠ tb by omega) 3 (.slice (some ⟨gB, 0, none⟩) (fs.length + 1) cap6))
                have F7 : Hid (FieldRow (w6.setCell ⟨tb, 3, none⟩ (.slice (some ⟨gB, 0, none⟩) (fs.length + 1) cap6)) (tb + 1) (some ⟨gB, 0, none⟩) cap6 (fs ++ [f])) := FieldRow.of_snoc (owns_of_block hown6 fun q hq => Below.heap_setCell _ _ _ _ (by have := owns_base hown6 q hq; simp; omega))
                have O7 := hide (((O5.out.alloc (.cells #[.int .i64 f.kind, .int .i64 f.of, .bool f.mt] 33)).grown hgr6 (fun q hq => by have := owns_base F5.out q hq; omega)).setNew (show w.heap.size ≤ tb by omega) 3 (.slice (some ⟨gB, 0, none⟩) (fs.length + 1) cap6))
                have R7 : Rd (w6.setCell ⟨tb, 3, none⟩ (.slice (some ⟨gB, 0, none⟩) (fs.length + 1) cap6)) g p5 := r5.keep' ((((Below.refl _ _).alloc (by omega) (.cells #[.int .i64 f.kind, .int .i64 f.of, .bool f.mt] 33)).grown hgr6 (by simp; omega) (fun q hq => by have := owns_base F5.out q hq; omega)).setCell (by show g + 1 ≤ tb; omega) _)
                have B7 := hide (TB.out.snoc hl4 ob5)
                have S7 : Hid (Same lo hi1 wp (w6.setCell ⟨tb, 3, none⟩ (.slice (some ⟨gB, 0, none⟩) (fs.length + 1) cap6))) := Same.set (Same.trans S5.out (fun q h1 h2 => (hgr6.block q (by simp; omega) (by intro e; have := owns_base F5.out q e.symm; omega)).trans (Below.heap_alloc _ _ _ (by omega)))) (Or.inr hs3) 3 _
                clear T5 Z5 F5 O5 T6 hown6 hgr6 hat6 hlt6 d3 d3f r5
                go_wp2_with fail
                exact ⟨⟨j + 1, fs ++ [f], some ⟨gB, 0, none⟩, cap6, p5, by go_num, by omega, (by show (fs ++ [f]).length = j + 1; rw [List.length_append, HL.out]; rfl), T7, Z7, F7, B7, O7, S7, R7, by omega⟩, by simp [intOf]; omega⟩
            · have hje : Hid (j = tf.length) := Nat.le_antisymm hj (Nat.le_of_not_lt hjn)
              go_wp2_with fail
              go_meet
              exact ⟨⟨tk, (u : Int), (k3 == 0), []⟩, fs, fa, fc, pr, 1 + k4 - 1, rfl, by omega, by omega, RT, RZ, FR, TB, OW, RR, by omega⟩
    case rest =>
      clear T5 Z5 HT5 O5 R5 FR0 t0 t1 t2 t3 g0 g1 g3 TB0 hpq s5 hb0
      obtain ⟨t, fs, fa, fc, pq, k, rfl, k0, k1, T7, Z7, F7, B7, O7, R7, hpq⟩ := hcut
      have c0 := T7.out.cell (o := 0) rfl
      have c3 := T7.out.cell (o := 3) rfl
      have l4 : fs.length ≤ 4 := B7.out.1
      by_cases eK : t.kind = 2
      · have eK1 : (t.kind == 2) = true := by simpa using eK
        go_wp2_with fail
        clear eK eK1 c0 c3
        go_loopw [11] (fun kv wr => ∃ (k : Int) (fs : List Fd) (fa : Option Addr) (fc pq : Nat), kv = .int .i64 k ∧ -4 ≤ k ∧ k ≤ 3 ∧ Hid (Rec wr tb 44 [.int .i64 t.kind, .int .i64 t.up, .bool t.last, .slice fa fs.length fc]) ∧ Hid (Rec wr w.heap.size 44 [.int .i64 0, .int .i64 0, .bool false, .slice none 0 0]) ∧ Hid (FieldRow wr (tb + 1) fa fc fs) ∧ Hid (TBound M C ⟨t.kind, t.up, t.last, fs⟩) ∧ Hid (Only g w wr) ∧ Rd wr g pq ∧ pq + 3 * k.toNat ≤ p + 40) (fun kv wr => (intOf kv).toNat)
        case atStart => exact ⟨(1 - (fs.length : Int)), fs, fa, fc, pq, rfl, by omega, by omega, T7, Z7, F7, B7, O7, R7.out, by omega⟩
        case round =>
          clear T7 Z7 F7 B7 O7 R7 hpq k0 k1 l4
          obtain ⟨k, fs, fa, fc, pq, rfl, k0, k1, RT, RZ, FR, TB, OW, RR, hpq⟩ := hrel
          have c0 := RT.out.cell (o := 0) rfl
          have c1 := RT.out.cell (o := 1) rfl
          have c2 := RT.out.cell (o := 2) rfl
          have c3 := RT.out.cell (o := 3) rfl
          have f3 := RT.out.frozen 3
          have l4 : fs.length ≤ 4 := TB.out.1
          have tblt := RT.out.lt
          by_cases hk : 0 < k ∧ fs.length < 4
          · obtain ⟨hk, hl4⟩ := hk
            have hl4' : (fs.length : Int) < 4 := by omega
            go_wp2_with fail
            go_region_law ((first
                | (go_simp; go_at_call 104; refine (l1Field_ob g pq n _ (by omega) (by exact RR) n0 n1).mono ?_; rintro e w5 ⟨f, rfl, ob5, ⟨p5, hp5, r5⟩, o5⟩; have T5 := hide (Rec.only (w := wr.drew) RT.out o5 (by omega)); have Z5 := hide (Rec.only (w := wr.drew) RZ.out o5 (by omega)); have F5 := hide (owns_only (w := wr.drew) FR.out o5 (by omega)); have O5 := hide (Only.trans (b := wr.drew) (OW.out.drewN 1) o5); have s5 := T5.out.lt; have d3 := T5.out.cell (o := 3) rfl; have G5 := hide o5; clear o5)
                | (refine step_append_lies _ (by rfl) _ _ 24 (by rfl) (tb + 1) 33 i0 _ 3 24 Tryz.underlying24 HI.out HZ.out HS.out HB.out (by rfl) (by decide) (.slice fa fs.length fc) fs.length (fcells fs) (by rfl) (F5.out.alloc _) ⟨w5.heap.size, 0, none⟩ 1 1 [.int .i64 f.kind, .int .i64 f.of, .bool f.mt] (by rfl) rfl (World.news_of_block (Deep.blk_alloc_new _ _)) (by intro u hu; simp at hu; rcases hu with rfl | rfl | rfl <;> rfl) (by decide) (by unfold maxLen; omega) (by omega) (by simp; omega) _ rfl ?_; intro gB cap6 w6 hown6 hgr6 hat6 hlt6; have T6 := hide ((T5.out.alloc _).grown hgr6 (row_ne F5.out (by omega))); have d3 := T6.out.cell (o := 3) rfl; have d3f := T6.out.frozen 3)))
            all_goals
              have e7 : (fs ++ [f]).length = fs.length + 1 := by simp
              have T7 : Hid (Rec (w6.setCell ⟨tb, 3, none⟩ (.slice (some ⟨gB, 0, none⟩) (fs.length + 1) cap6)) tb 44 [.int .i64 t.kind, .int .i64 t.up, .bool t.last, .slice (some ⟨gB, 0, none⟩) (fs ++ [f]).length cap6]) := by rw [e7]; exact T6.out.set 3 _
              have Z7 := hide (((Z5.out.alloc (.cells #[.int .i64 f.kind, .int .i64 f.of, .bool f.mt] 33)).grown hgr6 (row_ne F5.out (by omega))).other (show w.heap.size ≠ tb by omega) 3 (.slice (some ⟨gB, 0, none⟩) (fs.length + 1) cap6))
              have F7 : Hid (FieldRow (w6.setCell ⟨tb, 3, none⟩ (.slice (some ⟨gB, 0, none⟩) (fs.length + 1) cap6)) (tb + 1) (some ⟨gB, 0, none⟩) cap6 (fs ++ [f])) := FieldRow.of_snoc (owns_of_block hown6 fun q hq => Below.heap_setCell _ _ _ _ (by have := owns_base hown6 q hq; simp; omega))
              have O7 := hide (((O5.out.alloc (.cells #[.int .i64 f.kind, .int .i64 f.of, .bool f.mt] 33)).grown hgr6 (fun q hq => by have := owns_base F5.out q hq; omega)).setNew (show w.heap.size ≤ tb by omega) 3 (.slice (some ⟨gB, 0, none⟩) (fs.length + 1) cap6))
              have R7 : Rd (w6.setCell ⟨tb, 3, none⟩ (.slice (some ⟨gB, 0, none⟩) (fs.length + 1) cap6)) g p5 := r5.keep' ((((Below.refl _ _).alloc (by omega) (.cells #[.int .i64 f.kind, .int .i64 f.of, .bool f.mt] 33)).grown hgr6 (by simp; omega) (fun q hq => by have := owns_base F5.out q hq; omega)).setCell (by show g + 1 ≤ tb; omega) _)
              have B7 := hide (TB.out.snoc hl4 (OB.up ob5 m8))
              clear T5 Z5 F5 O5 T6 hown6 hgr6 hat6 hlt6 d3 d3f r5
              go_wp2_with fail
              exact ⟨⟨k - 1, fs ++ [f], some ⟨gB, 0, none⟩, cap6, p5, by go_num, by omega, by omega, T7, Z7, F7, B7, O7, R7, by omega⟩, by simp [intOf]; omega⟩
          · have x0 := RZ.out.cell (o := 0) rfl
            have x1 := RZ.out.cell (o := 1) rfl
            have x2 := RZ.out.cell (o := 2) rfl
            have x3 := RZ.out.cell (o := 3) rfl
            have y0 := RZ.out.frozen 0
            have y1 := RZ.out.frozen 1
            have y2 := RZ.out.frozen 2
            have y3 := RZ.out.frozen 3
            have hk' : k ≤ 0 ∨ (0 < k ∧ (4 : Int) ≤ (fs.length : Int)) := by omega
            clear hk
            rcases hk' with hk | ⟨hk, hl4⟩
            all_goals
              go_wp2_with fail
              first | go_quiet (fail) | skip
              go_wp2_with fail
              refine bodyPost_ret (v := .agg #[.int .i64 t.kind, .int .i64 t.up, .bool t.last, .slice fa fs.length fc]) (by simp [results, Tryz.results102, go_sem, x0, x1, x2, x3]) rfl ⟨⟨t.kind, t.up, t.last, fs⟩, fa, fc, rfl, ?_, TB.out, ⟨pq, by omega, ?_⟩, ?_⟩
              · refine owns_lower (owns_of_block FR.out fun q hq => ?_) (by omega)
                have := owns_base FR.out q hq
                (repeat (first | rw [Below.heap_setCell _ _ _ _ (by simp <;> omega)] | rfl))
              · refine RR.keep' ?_
                (repeat (first | refine Below.setCell ?_ (by first | omega | (simp <;> omega)) _ | exact Below.refl _ _ | exact below_drewN (Below.refl _ _) _))
              · (repeat (first | refine Only.setNew ?_ (by omega) _ _ | exact OW.out | exact OW.out.drewN _))
      · have eK1 : (t.kind == 2) = false := by simpa using eK
        go_wp2_with fail
        clear eK eK1 c0 c3
        go_loopw [11] (fun kv wr => ∃ (k : Int) (fs : List Fd) (fa : Option Addr) (fc pq : Nat), kv = .int .i64 k ∧ -4 ≤ k ∧ k ≤ 3 ∧ Hid (Rec wr tb 44 [.int .i64 t.kind, .int .i64 t.up, .bool t.last, .slice fa fs.length fc]) ∧ Hid (Rec wr w.heap.size 44 [.int .i64 0, .int .i64 0, .bool false, .slice none 0 0]) ∧ Hid (FieldRow wr (tb + 1) fa fc fs) ∧ Hid (TBound M C ⟨t.kind, t.up, t.last, fs⟩) ∧ Hid (Only g w wr) ∧ Rd wr g pq ∧ pq + 3 * k.toNat ≤ p + 40) (fun kv wr => (intOf kv).toNat)
        case atStart => exact ⟨k, fs, fa, fc, pq, rfl, by omega, by omega, T7, Z7, F7, B7, O7, R7.out, by omega⟩
        case round =>
          clear T7 Z7 F7 B7 O7 R7 hpq k0 k1 l4
          obtain ⟨k, fs, fa, fc, pq, rfl, k0, k1, RT, RZ, FR, TB, OW, RR, hpq⟩ := hrel
          have c0 := RT.out.cell (o := 0) rfl
          have c1 := RT.out.cell (o := 1) rfl
          have c2 := RT.out.cell (o := 2) rfl
          have c3 := RT.out.cell (o := 3) rfl
          have f3 := RT.out.frozen 3
          have l4 : fs.length ≤ 4 := TB.out.1
          have tblt := RT.out.lt
          by_cases hk : 0 < k ∧ fs.length < 4
          · obtain ⟨hk, hl4⟩ := hk
            have hl4' : (fs.length : Int) < 4 := by omega
            go_wp2_with fail
            go_region_law ((first
                | (go_simp; go_at_call 104; refine (l1Field_ob g pq n _ (by omega) (by exact RR) n0 n1).mono ?_; rintro e w5 ⟨f, rfl, ob5, ⟨p5, hp5, r5⟩, o5⟩; have T5 := hide (Rec.only (w := wr.drew) RT.out o5 (by omega)); have Z5 := hide (Rec.only (w := wr.drew) RZ.out o5 (by omega)); have F5 := hide (owns_only (w := wr.drew) FR.out o5 (by omega)); have O5 := hide (Only.trans (b := wr.drew) (OW.out.drewN 1) o5); have s5 := T5.out.lt; have d3 := T5.out.cell (o := 3) rfl; have G5 := hide o5; clear o5)
                | (refine step_append_lies _ (by rfl) _ _ 24 (by rfl) (tb + 1) 33 i0 _ 3 24 Tryz.underlying24 HI.out HZ.out HS.out HB.out (by rfl) (by decide) (.slice fa fs.length fc) fs.length (fcells fs) (by rfl) (F5.out.alloc _) ⟨w5.heap.size, 0, none⟩ 1 1 [.int .i64 f.kind, .int .i64 f.of, .bool f.mt] (by rfl) rfl (World.news_of_block (Deep.blk_alloc_new _ _)) (by intro u hu; simp at hu; rcases hu with rfl | rfl | rfl <;> rfl) (by decide) (by unfold maxLen; omega) (by omega) (by simp; omega) _ rfl ?_; intro gB cap6 w6 hown6 hgr6 hat6 hlt6; have T6 := hide ((T5.out.alloc _).grown hgr6 (row_ne F5.out (by omega))); have d3 := T6.out.cell (o := 3) rfl; have d3f := T6.out.frozen 3)))
            all_goals
              have e7 : (fs ++ [f]).length = fs.length + 1 := by simp
              have T7 : Hid (Rec (w6.setCell ⟨tb, 3, none⟩ (.slice (some ⟨gB, 0, none⟩) (fs.length + 1) cap6)) tb 44 [.int .i64 t.kind, .int .i64 t.up, .bool t.last, .slice (some ⟨gB, 0, none⟩) (fs ++ [f]).length cap6]) := by rw [e7]; exact T6.out.set 3 _
              have Z7 := hide (((Z5.out.alloc (.cells #[.int .i64 f.kind, .int .i64 f.of, .bool f.mt] 33)).grown hgr6 (row_ne F5.out (by omega))).other (show w.heap.size ≠ tb by omega) 3 (.slice (some ⟨gB, 0, none⟩) (fs.length + 1) cap6))
              have F7 : Hid (FieldRow (w6.setCell ⟨tb, 3, none⟩ (.slice (some ⟨gB, 0, none⟩) (fs.length + 1) cap6)) (tb + 1) (some ⟨gB, 0, none⟩) cap6 (fs ++ [f])) := FieldRow.of_snoc (owns_of_block hown6 fun q hq => Below.heap_setCell _ _ _ _ (by have := owns_base hown6 q hq; simp; omega))
              have O7 := hide (((O5.out.alloc (.cells #[.int .i64 f.kind, .int .i64 f.of, .bool f.mt] 33)).grown hgr6 (fun q hq => by have := owns_base F5.out q hq; omega)).setNew (show w.heap.size ≤ tb by omega) 3 (.slice (some ⟨gB, 0, none⟩) (fs.length + 1) cap6))
              have R7 : Rd (w6.setCell ⟨tb, 3, none⟩ (.slice (some ⟨gB, 0, none⟩) (fs.length + 1) cap6)) g p5 := r5.keep' ((((Below.refl _ _).alloc (by omega) (.cells #[.int .i64 f.kind, .int .i64 f.of, .bool f.mt] 33)).grown hgr6 (by simp; omega) (fun q hq => by have := owns_base F5.out q hq; omega)).setCell (by show g + 1 ≤ tb; omega) _)
              have B7 := hide (TB.out.snoc hl4 (OB.up ob5 m8))
              clear T5 Z5 F5 O5 T6 hown6 hgr6 hat6 hlt6 d3 d3f r5
              go_wp2_with fail
              exact ⟨⟨k - 1, fs ++ [f], some ⟨gB, 0, none⟩, cap6, p5, by go_num, by omega, by omega, T7, Z7, F7, B7, O7, R7, by omega⟩, by simp [intOf]; omega⟩
          · have x0 := RZ.out.cell (o := 0) rfl
            have x1 := RZ.out.cell (o := 1) rfl
            have x2 := RZ.out.cell (o := 2) rfl
            have x3 := RZ.out.cell (o := 3) rfl
            have y0 := RZ.out.frozen 0
            have y1 := RZ.out.frozen 1
            have y2 := RZ.out.frozen 2
            have y3 := RZ.out.frozen 3
            have hk' : k ≤ 0 ∨ (0 < k ∧ (4 : Int) ≤ (fs.length : Int)) := by omega
            clear hk
            rcases hk' with hk | ⟨hk, hl4⟩
            all_goals
              go_wp2_with fail
              first | go_quiet (fail) | skip
              go_wp2_with fail
              refine bodyPost_ret (v := .agg #[.int .i64 t.kind, .int .i64 t.up, .bool t.last, .slice fa fs.length fc]) (by simp [results, Tryz.results102, go_sem, x0, x1, x2, x3]) rfl ⟨⟨t.kind, t.up, t.last, fs⟩, fa, fc, rfl, ?_, TB.out, ⟨pq, by omega, ?_⟩, ?_⟩
              · refine owns_lower (owns_of_block FR.out fun q hq => ?_) (by omega)
                have := owns_base FR.out q hq
                (repeat (first | rw [Below.heap_setCell _ _ _ _ (by simp <;> omega)] | rfl))
              · refine RR.keep' ?_
                (repeat (first | refine Below.setCell ?_ (by first | omega | (simp <;> omega)) _ | exact Below.refl _ _ | exact below_drewN (Below.refl _ _) _))
              · (repeat (first | refine Only.setNew ?_ (by omega) _ _ | exact OW.out | exact OW.out.drewN _))
end Go.Proofs.YtblliefejffhoaaGreatDoor
