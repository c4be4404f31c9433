/- l1Under, l1Sort and l1Fits of the model. -/
import Derived.Test.YtblliefejffhoaaGreatDoorSpecD
namespace Go.Proofs.YtblliefejffhoaaGreatDoor
open Go.ChangeShapes Go.WideShapes Go.ChangeAt Go.RowKit
set_option linter.unusedVariables false

theorem flatTo_at (G : Nat → List Ty) (x p : Nat) (h1 : countTo G x ≤ p) (h2 : p < countTo G (x + 1)) : ∀ k, x < k → tyAt (flatTo G k) p = tyAt (G x) (p - countTo G x) := by
  intro k
  induction k with
  | zero => intro h; omega
  | succ k ih =>
    intro hk
    by_cases e : x = k
    · subst e
      have hl := flatTo_length G x
      simp [flatTo, tyAt, List.getD, List.getElem?_append_right (show (flatTo G x).length ≤ p by omega), hl]
    · have hm := countTo_mono G (show x + 1 ≤ k by omega)
      rw [flatTo, tyAt_append_left _ _ _ (by rw [flatTo_length]; omega)]
      exact ih (by omega)
theorem flat_at {gs : List (List Ty)} {p : Nat} (hp : p < kinCount gs) : tyAt (flat gs) p = tyAt (grAt gs (grp gs p)) (p - beg gs (grp gs p)) :=
  let g := grp_spec gs p hp
  flatTo_at (grAt gs) (grp gs p) p g.2.1 g.2.2 gs.length g.1

/-- The type of that number. -/
def tyN (gs : List (List Ty)) (p : Nat) : Ty := tyAt (flat gs) p

theorem parts_flat {gs : List (List Ty)} (hP : Parts gs) {p : Nat} (hp : p < kinCount gs) :
    (tyN gs p).fields.length ≤ 4 ∧ (-1 ≤ (tyN gs p).up ∧ (tyN gs p).up < (p : Int)) ∧ ∀ j, j < (tyN gs p).fields.length → fieldOk (fdAt (tyN gs p).fields j).kind (fdAt (tyN gs p).fields j).of (kinCount gs : Nat) = true := by
  obtain ⟨g1, g2, g3⟩ := grp_spec gs p hp
  have h := (hP.2.2 _ g1).2 (p - beg gs (grp gs p)) (by unfold beg; simp only [countTo] at g3; omega)
  have hc : countTo (grAt gs) (grp gs p + 1) ≤ kinCount gs := countTo_mono (grAt gs) g1
  unfold tyN
  rw [flat_at hp]
  unfold formOk at h
  simp only [Bool.and_eq_true, decide_eq_true_eq] at h
  obtain ⟨⟨⟨a1, a2⟩, a3⟩, _, a5⟩ := h
  unfold beg at *
  refine ⟨a3, ⟨a1, by omega⟩, fun j hj => ?_⟩
  have hf := allTo_true a5 j hj
  simp only [countTo] at hc
  unfold fieldOk at hf ⊢
  split at hf
  · rename_i h1; rw [if_pos h1]; exact hf
  · rename_i h1
    rw [if_neg h1]
    split at hf
    · rename_i h2
      rw [if_pos h2]
      simp at hf ⊢
      omega
    · simp at hf

theorem partsW_flat {gs : List (List Ty)} (hP : PartsW gs) {p : Nat} (hp : p < kinCount gs) :
    (tyN gs p).fields.length ≤ 4 ∧ (-1 ≤ (tyN gs p).up ∧ (tyN gs p).up < (p : Int)) ∧ ∀ j, j < (tyN gs p).fields.length → -2 ≤ (fdAt (tyN gs p).fields j).of ∧ (fdAt (tyN gs p).fields j).of ≤ 1000 := by
  obtain ⟨g1, g2, g3⟩ := grp_spec gs p hp
  have h := hP.2 _ g1 (p - beg gs (grp gs p)) (by unfold beg; simp only [countTo] at g3; omega)
  unfold tyN
  rw [flat_at hp]
  obtain ⟨h1, ⟨h2, h3⟩, h4⟩ := h
  unfold beg at *
  exact ⟨h1, ⟨h2, by omega⟩, h4⟩

/-- A type, or one above it, is the same as q. -/
def upSame (gs : List (List Ty)) (q : Nat) : Nat → Int → Bool
  | 0, _ => false
  | f + 1, a => if a < 0 then false else same gs a.toNat q || upSame gs q f (tyN gs a.toNat).up
/-- KinUnder in right groups. -/
def under (gs : List (List Ty)) (a b : Int) : Bool :=
  if b = -1 ∨ a = b then true else if a < 0 ∨ b < 0 then false else upSame gs b.toNat (a.toNat + 1) a

set_option maxHeartbeats 800000 in
theorem l1Under_loop (ga : Option Addr) (gc lo hi : Nat) (gs : List (List Ty)) (p q : Nat) (w : World) (hP : PartsW gs) (hN : Few gs) (hc : gs.length ≤ gc) (hl : lo ≤ hi) (hh : hi ≤ w.heap.size) (hx : GroupsIn w lo hi ga gs)
    (hp : p < kinCount gs) (hq : q < kinCount gs) (hpq : p ≠ q) :
    Calls Tryz.prog 133 #[.slice ga gs.length gc, .int .i64 (p : Int), .int .i64 (q : Int)] w fun e w' => e = .returned (.bool (upSame gs q (p + 1) p)) ∧ Below w.heap.size w w' := by
  have m3 := hP.1
  have n1 : ((q : Int) == -1) = false := by simp <;> omega
  have n2 : ((p : Int) == (q : Int)) = false := by simp; omega
  have HX := hide hx
  have HN := hide hN
  have HP := hide hP
  clear hx hN hP hpq
  generalize hR : upSame gs q (p + 1) p = R
  have HR := hide hR
  clear hR
  go_enter Tryz.func133, Tryz.ntmps133
  go_wp2_with fail
  refine (l1Flat_any ga gc lo hi gs w HN.out HX.out hh hl).mono ?_
  rintro e w1 ⟨na, nc, rfl, ht, hb1⟩
  have HT := hide ht
  have HB1 := hide hb1
  clear ht hb1
  go_wp2_with fail
  go_loopw [1] (fun a wr => ∃ (c : Int) (f : Nat), a = .int .i64 c ∧ -1 ≤ c ∧ c < (kinCount gs : Int) ∧ c < (f : Int) ∧ upSame gs q f c = R ∧ Below w.heap.size w wr ∧ Below w1.heap.size w1 wr) (fun a wr => (intOf a + 1).toNat)
  case atStart => exact ⟨p, p + 1, rfl, by omega, by omega, by omega, HR.out, HB1.out, Below.refl _ _⟩
  case round =>
    obtain ⟨c, f, rfl, c1, c2, c3, hU, hb, hbb⟩ := hrel
    have HU := hide hU
    have HB := hide hb
    have HBB := hide hbb
    have s1 := hbb.size
    have s2 := HB1.out.size
    clear hU hb hbb
    by_cases hc0 : c < 0
    · have HZ : Hid (R = false) := by
        show R = false
        rw [← HU.out]
        cases f with
        | zero => rfl
        | succ f => simp [upSame, hc0]
      go_wp2_with fail
      go_ret
      exact ⟨ret_bool HZ.out.symm, HB.out⟩
    · obtain ⟨m, rfl⟩ := Int.eq_ofNat_of_zero_le (show 0 ≤ c by omega)
      have hm : m < kinCount gs := by omega
      obtain ⟨f', rfl⟩ : ∃ f', f = f' + 1 := ⟨f - 1, by omega⟩
      have HV : Hid (R = (same gs m q || upSame gs q f' (tyN gs m).up)) := by
        show R = _
        rw [← HU.out]
        simp [upSame, hc0]
      obtain ⟨_, ⟨u1, u2⟩, _⟩ := partsW_flat HP.out hm
      go_wp2_with fail
      refine (l1Same_w ga gc lo hi gs m q _ HP.out HN.out hc hm hq (by omega) (HX.out.keep (HB.out.mono hh))).mono ?_
      rintro e w2 ⟨rfl, hb2⟩
      have HB2 := hide hb2
      have s3 := hb2.size
      clear hb2
      cases hs : same gs m q with
      | true =>
        have HS := hide hs
        clear hs
        go_wp2_with fail
        go_ret
        exact ⟨ret_bool (by rw [HV.out, HS.out]; rfl), HB.out.trans (HB2.out.mono (by omega))⟩
      | false =>
        have HS := hide hs
        clear hs
        rcases HT.out with hnil | ⟨b, off, rfl, g1, g2, g3⟩
        · have := flat_length gs
          rw [hnil] at this
          simp at this
          omega
        have hbw : Below w1.heap.size w1 w2 := HBB.out.trans (HB2.out.mono (by omega))
        obtain ⟨e0, e1, e2, fa, fc, e3, e4⟩ := (g3 m (by rw [flat_length]; exact hm)).keep hbw g1 g2
        have HBW := hide hbw
        have e1' : w2.cell? ⟨b, off + m * 4 + 1, none⟩ = some (.int .i64 (tyN gs m).up) := e1
        clear g3 e4 hbw e0 e1 e2 e3
        go_wp2_with fail
        exact ⟨⟨(tyN gs m).up, f', rfl, u1, by omega, by omega, by rw [HV.out, HS.out]; rfl, HB.out.trans (HB2.out.mono (by omega)), HBW.out⟩, by simp [intOf]; omega⟩

set_option maxHeartbeats 800000 in
theorem l1Under_w (ga : Option Addr) (gc lo hi : Nat) (gs : List (List Ty)) (a b : Int) (w : World) (hP : PartsW gs) (hN : Few gs) (hc : gs.length ≤ gc) (hl : lo ≤ hi) (hh : hi ≤ w.heap.size) (hx : GroupsIn w lo hi ga gs)
    (a0 : -2 ≤ a) (a1 : a < (kinCount gs : Int)) (b0 : -2 ≤ b) (b1 : b < (kinCount gs : Int)) :
    Calls Tryz.prog 133 #[.slice ga gs.length gc, .int .i64 a, .int .i64 b] w fun e w' => e = .returned (.bool (under gs a b)) ∧ Below w.heap.size w w' := by
  have m3 := hP.1
  by_cases e1 : b = -1
  · subst e1
    have HF : Hid (under gs a (-1) = true) := by show _ = _; simp [under]
    clear hx hP hN
    go_enter Tryz.func133, Tryz.ntmps133
    go_wp2_with fail
    go_ret
    exact ⟨ret_bool HF.out.symm, Below.refl _ _⟩
  by_cases e2 : a = b
  · subst e2
    have HF : Hid (under gs a a = true) := by show _ = _; simp [under]
    have n1 : (a == -1) = false := by simp [e1]
    clear hx hP hN
    go_enter Tryz.func133, Tryz.ntmps133
    go_wp2_with fail
    go_ret
    exact ⟨ret_bool HF.out.symm, Below.refl _ _⟩
  have n1 : (b == -1) = false := by simp [e1]
  have n2 : (a == b) = false := by simp [e2]
  by_cases e3 : a < 0
  · have HF : Hid (under gs a b = false) := by show _ = _; simp [under, e1, e2, e3]
    clear hx hP hN
    go_enter Tryz.func133, Tryz.ntmps133
    go_wp2_with fail
    go_ret
    exact ⟨ret_bool HF.out.symm, Below.refl _ _⟩
  by_cases e4 : b < 0
  · have HF : Hid (under gs a b = false) := by show _ = _; simp [under, e1, e2, e4]
    clear hx hP hN
    go_enter Tryz.func133, Tryz.ntmps133
    go_wp2_with fail
    go_ret
    exact ⟨ret_bool HF.out.symm, Below.refl _ _⟩
  obtain ⟨p, rfl⟩ := Int.eq_ofNat_of_zero_le (show 0 ≤ a by omega)
  obtain ⟨q, rfl⟩ := Int.eq_ofNat_of_zero_le (show 0 ≤ b by omega)
  have hu : under gs (p : Int) (q : Int) = upSame gs q (p + 1) p := by
    unfold under
    rw [if_neg (by omega), if_neg (by omega)]
    simp
  rw [hu]
  exact l1Under_loop ga gc lo hi gs p q w hP hN hc hl hh hx (by omega) (by omega) (by omega)
theorem l1Under_any (ga : Option Addr) (gc lo hi : Nat) (gs : List (List Ty)) (a b : Int) (w : World) (hP : Parts gs) (hN : Few gs) (hc : gs.length ≤ gc) (hl : lo ≤ hi) (hh : hi ≤ w.heap.size) (hx : GroupsIn w lo hi ga gs)
    (a0 : -2 ≤ a) (a1 : a < (kinCount gs : Int)) (b0 : -2 ≤ b) (b1 : b < (kinCount gs : Int)) :
    Calls Tryz.prog 133 #[.slice ga gs.length gc, .int .i64 a, .int .i64 b] w fun e w' => e = .returned (.bool (under gs a b)) ∧ Below w.heap.size w w' :=
  l1Under_w ga gc lo hi gs a b w hP.w hN hc hl hh hx a0 a1 b0 b1


/-- FieldUnder in right groups. -/
def sortF (gs : List (List Ty)) (f g : Fd) : Bool := if f.kind = 1 ∨ g.kind = 1 then f.kind == g.kind else ((f.kind == 3) || (g.kind == 2)) && under gs f.of g.of
def fitsF (gs : List (List Ty)) (f g : Fd) : Bool := if f.mt = g.mt then sortF gs f g && (!f.mt || sortF gs g f) else false

set_option maxHeartbeats 800000 in
theorem l1Sort_any (ga : Option Addr) (gc lo hi : Nat) (gs : List (List Ty)) (f g : Fd) (w : World) (hP : Parts gs) (hN : Few gs) (hc : gs.length ≤ gc) (hl : lo ≤ hi) (hh : hi ≤ w.heap.size) (hx : GroupsIn w lo hi ga gs)
    (a0 : -2 ≤ f.of) (a1 : f.of < (kinCount gs : Int) ∨ f.kind = 1) (b0 : -2 ≤ g.of) (b1 : g.of < (kinCount gs : Int) ∨ g.kind = 1) :
    Calls Tryz.prog 123 #[.slice ga gs.length gc, .agg #[.int .i64 f.kind, .int .i64 f.of, .bool f.mt], .agg #[.int .i64 g.kind, .int .i64 g.of, .bool g.mt]] w fun e w' => e = .returned (.bool (sortF gs f g)) ∧ Below w.heap.size w w' := by
  obtain ⟨fk, fo, fm⟩ := f
  obtain ⟨gk, go, gm⟩ := g
  simp only at a0 a1 b0 b1 ⊢
  have HX := hide hx
  have HN := hide hN
  have HP := hide hP
  clear hx hN hP
  by_cases e1 : fk = 1
  · subst e1
    have HF : Hid (sortF gs ⟨1, fo, fm⟩ ⟨gk, go, gm⟩ = ((1 : Int) == gk)) := by show _ = _; simp [sortF]
    go_enter Tryz.func123, Tryz.ntmps123
    go_wp2_with fail
    go_ret
    exact ⟨ret_bool HF.out.symm, ((Below.refl _ _).alloc (Nat.le_refl _) _).alloc (by simp) _⟩
  by_cases e2 : gk = 1
  · subst e2
    have n1 : (fk == 1) = false := by simp [e1]
    have HF : Hid (sortF gs ⟨fk, fo, fm⟩ ⟨1, go, gm⟩ = (fk == 1)) := by show _ = _; simp [sortF]
    go_enter Tryz.func123, Tryz.ntmps123
    go_wp2_with fail
    go_ret
    exact ⟨ret_bool (by rw [HF.out]; simp [e1]), ((Below.refl _ _).alloc (Nat.le_refl _) _).alloc (by simp) _⟩
  have n1 : (fk == 1) = false := by simp [e1]
  have n2 : (gk == 1) = false := by simp [e2]
  have a2 : fo < (kinCount gs : Int) := by omega
  have b2 : go < (kinCount gs : Int) := by omega
  have b0' : Below w.heap.size w ((w.alloc (.cells #[.int .i64 fk, .int .i64 fo, .bool fm] 33)).alloc (.cells #[.int .i64 gk, .int .i64 go, .bool gm] 33)) := ((Below.refl _ _).alloc (Nat.le_refl _) _).alloc (by simp) _
  have B0 := hide b0'
  have HC := hide (l1Under_any ga gc lo hi gs fo go _ HP.out HN.out hc hl (Nat.le_trans hh b0'.size) (HX.out.keep (b0'.mono hh)) a0 a2 b0 b2)
  clear b0'
  by_cases e3 : fk = 3
  · subst e3
    have HF : Hid (sortF gs ⟨3, fo, fm⟩ ⟨gk, go, gm⟩ = under gs fo go) := by show _ = _; simp [sortF, e2]
    go_enter Tryz.func123, Tryz.ntmps123
    go_wp2_with fail
    refine HC.out.mono ?_
    rintro e w1 ⟨rfl, hb1⟩
    have HB1 := hide hb1
    clear hb1
    go_wp2_with fail
    go_ret
    exact ⟨ret_bool HF.out.symm, B0.out.trans (HB1.out.mono B0.out.size)⟩
  have n3 : (fk == 3) = false := by simp [e3]
  by_cases e4 : gk = 2
  · subst e4
    have HF : Hid (sortF gs ⟨fk, fo, fm⟩ ⟨2, go, gm⟩ = under gs fo go) := by show _ = _; simp [sortF, e1]
    go_enter Tryz.func123, Tryz.ntmps123
    go_wp2_with fail
    refine HC.out.mono ?_
    rintro e w1 ⟨rfl, hb1⟩
    have HB1 := hide hb1
    clear hb1
    go_wp2_with fail
    go_ret
    exact ⟨ret_bool HF.out.symm, B0.out.trans (HB1.out.mono B0.out.size)⟩
  have n4 : (gk == 2) = false := by simp [e4]
  have HF : Hid (sortF gs ⟨fk, fo, fm⟩ ⟨gk, go, gm⟩ = false) := by show _ = _; simp [sortF, e1, e2, e3, e4]
  go_enter Tryz.func123, Tryz.ntmps123
  go_wp2_with fail
  go_ret
  exact ⟨ret_bool HF.out.symm, B0.out⟩

set_option maxHeartbeats 800000 in
theorem l1Fits_any (ga : Option Addr) (gc lo hi : Nat) (gs : List (List Ty)) (f g : Fd) (w : World) (hP : Parts gs) (hN : Few gs) (hc : gs.length ≤ gc) (hl : lo ≤ hi) (hh : hi ≤ w.heap.size) (hx : GroupsIn w lo hi ga gs)
    (a0 : -2 ≤ f.of) (a1 : f.of < (kinCount gs : Int) ∨ f.kind = 1) (b0 : -2 ≤ g.of) (b1 : g.of < (kinCount gs : Int) ∨ g.kind = 1) :
    Calls Tryz.prog 99 #[.slice ga gs.length gc, .agg #[.int .i64 f.kind, .int .i64 f.of, .bool f.mt], .agg #[.int .i64 g.kind, .int .i64 g.of, .bool g.mt]] w fun e w' => e = .returned (.bool (fitsF gs f g)) ∧ Below w.heap.size w w' := by
  have b0' : Below w.heap.size w ((w.alloc (.cells #[.int .i64 f.kind, .int .i64 f.of, .bool f.mt] 33)).alloc (.cells #[.int .i64 g.kind, .int .i64 g.of, .bool g.mt] 33)) := ((Below.refl _ _).alloc (Nat.le_refl _) _).alloc (by simp) _
  have B0 := hide b0'
  have HC := hide (l1Sort_any ga gc lo hi gs f g _ hP hN hc hl (Nat.le_trans hh b0'.size) (hx.keep (b0'.mono hh)) a0 a1 b0 b1)
  have HD := hide (fun w2 (h : Below w.heap.size w w2) => l1Sort_any ga gc lo hi gs g f w2 hP hN hc hl (Nat.le_trans hh h.size) (hx.keep (h.mono hh)) b0 b1 a0 a1)
  clear hx hN hP b0' a0 a1 b0 b1
  have HF : Hid (fitsF gs f g = if f.mt = g.mt then sortF gs f g && (!f.mt || sortF gs g f) else false) := rfl
  generalize fitsF gs f g = R at *
  generalize sortF gs f g = s1 at *
  generalize sortF gs g f = s2 at *
  obtain ⟨fk, fo, fm⟩ := f
  obtain ⟨gk, go, gm⟩ := g
  simp only at B0 HC HD HF ⊢
  cases fm <;> cases gm
  case false.true | true.false =>
    have HZ : Hid (R = false) := by rw [HF.out]; rfl
    go_enter Tryz.func99, Tryz.ntmps99
    go_wp2_with fail
    go_ret
    exact ⟨ret_bool HZ.out.symm, B0.out⟩
  case false.false =>
    have HZ : Hid (R = s1) := by rw [HF.out]; simp [Hid]
    go_enter Tryz.func99, Tryz.ntmps99
    go_wp2_with fail
    refine HC.out.mono ?_
    rintro e w1 ⟨rfl, hb1⟩
    obtain ⟨hc1, hf1⟩ := bcell hb1
    have hs1 := hb1.size
    simp only [World.size_alloc] at hc1 hs1
    have c2 : w1.cell? ⟨w.heap.size, 2, none⟩ = some (.bool false) := by rw [hc1 _ _ (by omega)]; simp
    have B1 := hide (B0.out.trans (hb1.mono B0.out.size))
    clear hc1 hf1 hb1
    cases s1
    all_goals
      go_wp2_with fail
      go_ret
      exact ⟨ret_bool HZ.out.symm, B1.out⟩
  case true.true =>
    have HZ : Hid (R = (s1 && s2)) := by rw [HF.out]; simp [Hid]
    go_enter Tryz.func99, Tryz.ntmps99
    go_wp2_with fail
    refine HC.out.mono ?_
    rintro e w1 ⟨rfl, hb1⟩
    obtain ⟨hc1, hf1⟩ := bcell hb1
    have hs1 := hb1.size
    simp only [World.size_alloc] at hc1 hs1
    have c0 : w1.cell? ⟨w.heap.size, 0, none⟩ = some (.int .i64 fk) := by rw [hc1 _ _ (by omega)]; simp
    have c1 : w1.cell? ⟨w.heap.size, 1, none⟩ = some (.int .i64 fo) := by rw [hc1 _ _ (by omega)]; simp
    have c2 : w1.cell? ⟨w.heap.size, 2, none⟩ = some (.bool true) := by rw [hc1 _ _ (by omega)]; simp
    have d0 : w1.cell? ⟨w.heap.size + 1, 0, none⟩ = some (.int .i64 gk) := by rw [hc1 _ _ (by omega)]; simp
    have d1 : w1.cell? ⟨w.heap.size + 1, 1, none⟩ = some (.int .i64 go) := by rw [hc1 _ _ (by omega)]; simp
    have d2 : w1.cell? ⟨w.heap.size + 1, 2, none⟩ = some (.bool true) := by rw [hc1 _ _ (by omega)]; simp
    have B1 := hide (B0.out.trans (hb1.mono B0.out.size))
    clear hc1 hf1 hb1
    cases s1
    · go_wp2_with fail
      go_ret
      exact ⟨ret_bool HZ.out.symm, B1.out⟩
    · go_wp2_with fail
      refine (HD.out _ B1.out).mono ?_
      rintro e w2 ⟨rfl, hb2⟩
      have B2 := hide (B1.out.trans (hb2.mono B1.out.size))
      clear hb2
      go_wp2_with fail
      go_ret
      exact ⟨ret_bool (by rw [HZ.out]; simp), B2.out⟩
end Go.Proofs.YtblliefejffhoaaGreatDoor
