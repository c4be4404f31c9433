/- KinCanon, KinSame, KinUnder and FieldUnder, of the program and of the model. -/
import Derived.Test.YtpkfihliconenaaDoorKinM
namespace Go.Proofs.YtpkfihliconenaaDoor
open Go.ChangeShapes Go.WideShapes Go.ChangeAt Go.RowKit
set_option linter.unusedVariables false

def isTypeF (gs : List (List Ty)) (a : Int) : Bool := decide (0 ≤ a) && decide (a < (kinCount gs : Int))
def isRefF (gs : List (List Ty)) (a : Int) : Bool := decide (-2 ≤ a) && decide (a < (kinCount gs : Int))
def canonF (gs : List (List Ty)) (a : Int) : Int := if isTypeF gs a && kinOkF gs then (canon gs a.toNat : Nat) else -1
def sameB (gs : List (List Ty)) (a b : Int) : Bool := isTypeF gs a && (isTypeF gs b && (kinOkF gs && same gs a.toNat b.toNat))
def underB (gs : List (List Ty)) (a b : Int) : Bool := isRefF gs a && (isRefF gs b && (kinOkF gs && under gs a b))
def fieldUnderB (gs : List (List Ty)) (f g : Fd) : Bool := fieldOk f.kind f.of (kinCount gs : Nat) && (fieldOk g.kind g.of (kinCount gs : Nat) && (kinOkF gs && sortF gs f g))

set_option maxHeartbeats 400000 in
theorem isType_any (ra ca : Option Addr) (rc cc : Nat) (gs : List (List Ty)) (a : Int) (w : World) (hn : kinCount gs ≤ 1099511627776) :
    Calls Tryd.prog 43 #[.agg #[.slice ra (kinCount gs) rc, .slice ca (kinCount gs) cc], .int .i64 a] w fun e w' => e = .returned (.bool (isTypeF gs a)) ∧ Below w.heap.size w w' := by
  by_cases h : 0 ≤ a
  · have d : decide (0 ≤ a) = true := by simpa using h
    go_enter Tryd.func43, Tryd.ntmps43
    go_wp2_with fail
    go_ret
    exact ⟨ret_bool (by unfold isTypeF; simp [h]), (Below.refl _ _).alloc (Nat.le_refl _) _⟩
  · have d : decide (0 ≤ a) = false := by simpa using h
    go_enter Tryd.func43, Tryd.ntmps43
    go_wp2_with fail
    go_ret
    exact ⟨ret_bool (by unfold isTypeF; rw [d]; rfl), (Below.refl _ _).alloc (Nat.le_refl _) _⟩

set_option maxHeartbeats 400000 in
theorem isRef_any (ra ca : Option Addr) (rc cc : Nat) (gs : List (List Ty)) (a : Int) (w : World) (hn : kinCount gs ≤ 1099511627776) :
    Calls Tryd.prog 40 #[.agg #[.slice ra (kinCount gs) rc, .slice ca (kinCount gs) cc], .int .i64 a] w fun e w' => e = .returned (.bool (isRefF gs a)) ∧ Below w.heap.size w w' := by
  by_cases h1 : a = -1
  · subst h1
    go_enter Tryd.func40, Tryd.ntmps40
    go_wp2_with fail
    go_ret
    exact ⟨ret_bool (by unfold isRefF; simp; omega), (Below.refl _ _).alloc (Nat.le_refl _) _⟩
  by_cases h2 : a = -2
  · subst h2
    go_enter Tryd.func40, Tryd.ntmps40
    go_wp2_with fail
    go_ret
    exact ⟨ret_bool (by unfold isRefF; simp; omega), (Below.refl _ _).alloc (Nat.le_refl _) _⟩
  have n1 : (a == -1) = false := beq_eq_false_iff_ne.2 h1
  have n2 : (a == -2) = false := beq_eq_false_iff_ne.2 h2
  go_enter Tryd.func40, Tryd.ntmps40
  go_wp2_with fail
  refine (isType_any ra ca rc cc gs a _ hn).mono ?_
  rintro e w1 ⟨rfl, hb1⟩
  have B1 := hide (((Below.refl w.heap.size w).alloc (Nat.le_refl _) (.cells #[.slice ra (kinCount gs) rc, .slice ca (kinCount gs) cc] 54)).trans (hb1.mono (by simp)))
  clear hb1
  go_wp2_with fail
  go_ret
  refine ⟨ret_bool ?_, B1.out⟩
  unfold isRefF isTypeF
  rw [Bool.eq_iff_iff]
  simp
  omega

theorem tab_alloc {w : World} {lo hi : Nat} {ra : Option Addr} {cb co : Nat} {gs : List (List Ty)} (h : TabIn w lo hi ra cb co gs) (hh : hi ≤ w.heap.size) (o : Obj) : TabIn (w.alloc o) lo hi ra cb co gs :=
  h.keep (((Below.refl w.heap.size w).alloc (Nat.le_refl _) o).mono hh)

set_option maxHeartbeats 800000 in
theorem implKinCanon_any (ga : Option Addr) (gc lo hi : Nat) (gs : List (List Ty)) (a : Int) (w : World) (hN : Few gs) (hl : lo ≤ hi) (hh : hi ≤ w.heap.size) (hx : GroupsIn w lo hi ga gs) (hp : pow10 w) :
    Calls Tryd.prog 19 #[.slice ga gs.length gc, .int .i64 a] w fun e w' => e = .returned (.int .i64 (canonF gs a)) ∧ Below w.heap.size w w' := by
  have n2 := kinCount_le hN
  cases hk : kinOkF gs with
  | false =>
    have HC := hide (kinTableOf_no ga gc lo hi gs w hN hl hh hx hp hk)
    have HZ : Hid (canonF gs a = -1) := by show _ = _; simp [canonF, hk]
    clear hN hx hp hk
    go_enter Tryd.func19, Tryd.ntmps19
    go_wp2_with fail
    refine HC.out.mono ?_
    rintro e w1 ⟨rfl, hb1⟩
    have B1 := hide hb1
    clear hb1
    go_wp2_with fail
    go_ret
    exact ⟨ret_int HZ.out.symm, B1.out.alloc B1.out.size _⟩
  | true =>
    have HC := hide (kinTableOf_ok ga gc lo hi gs w hN hl hh hx hp hk)
    have m8 := (kinOk_parts hk).2.1
    have HK := hide hk
    clear hN hx hp hk
    go_enter Tryd.func19, Tryd.ntmps19
    go_wp2_with fail
    refine HC.out.mono ?_
    rintro e w1 ⟨ra, rc, cb, rfl, ht, hb1⟩
    have B1 := hide hb1
    have HT := hide ht
    clear hb1 ht
    go_wp2_with fail
    refine (isType_any ra _ rc _ gs a _ n2).mono ?_
    rintro e w2 ⟨rfl, hb2⟩
    have R2 : Hid (Rec w2 w1.heap.size 54 [.slice ra (kinCount gs) rc, .slice (some ⟨cb, 0, none⟩) (kinCount gs) (kinCount gs)]) := (Rec.new _ _ _).below hb2 (by simp)
    have B2 := hide ((B1.out.alloc B1.out.size (.cells #[.slice ra (kinCount gs) rc, .slice (some ⟨cb, 0, none⟩) (kinCount gs) (kinCount gs)] 54)).trans (hb2.mono (by have := B1.out.size; simp; omega)))
    have T2 := hide ((tab_alloc HT.out (Nat.le_refl _) (.cells #[.slice ra (kinCount gs) rc, .slice (some ⟨cb, 0, none⟩) (kinCount gs) (kinCount gs)] 54)).keep (hb2.mono (by simp)))
    clear hb2
    cases hty : isTypeF gs a with
    | false =>
      have HZ : Hid (canonF gs a = -1) := by show _ = _; simp [canonF, hty]
      clear hty
      go_wp2_with fail
      go_ret
      exact ⟨ret_int HZ.out.symm, B2.out⟩
    | true =>
      have HZ : Hid (canonF gs a = (canon gs a.toNat : Nat)) := by show _ = _; simp [canonF, hty, HK.out]
      unfold isTypeF at hty
      simp only [Bool.and_eq_true, decide_eq_true_eq] at hty
      obtain ⟨t0, t1⟩ := hty
      obtain ⟨m, rfl⟩ := Int.eq_ofNat_of_zero_le t0
      have c1 := R2.out.cell (o := 1) rfl
      have c2 := T2.out.2.2 m (by omega)
      rw [Nat.zero_add] at c2
      go_wp2_with fail
      go_ret
      exact ⟨ret_int (by rw [HZ.out]; simp), B2.out⟩

theorem canonF_range (gs : List (List Ty)) (a : Int) : -1 ≤ canonF gs a := by unfold canonF; split <;> omega

theorem sameB_canon (gs : List (List Ty)) (a b : Int) : sameB gs a b = (decide (0 ≤ canonF gs a) && (canonF gs a == canonF gs b)) := by
  unfold sameB canonF
  cases hk : kinOkF gs with
  | false => simp
  | true =>
    cases ha : isTypeF gs a with
    | false => simp
    | true =>
      cases hb : isTypeF gs b with
      | false =>
        simp <;> omega
      | true =>
        unfold isTypeF at ha hb
        simp only [Bool.and_eq_true, decide_eq_true_eq] at ha hb
        rw [same_canon (kinOk_parts hk) (show a.toNat < kinCount gs by omega) (show b.toNat < kinCount gs by omega)]
        simp only [Bool.true_and, Bool.and_self, if_true]
        rw [Bool.eq_iff_iff]
        simp
        omega

set_option maxHeartbeats 800000 in
theorem implKinSame_any (ga : Option Addr) (gc lo hi : Nat) (gs : List (List Ty)) (a b : Int) (w : World) (hN : Few gs) (hl : lo ≤ hi) (hh : hi ≤ w.heap.size) (hx : GroupsIn w lo hi ga gs) (hp : pow10 w) :
    Calls Tryd.prog 15 #[.slice ga gs.length gc, .int .i64 a, .int .i64 b] w fun e w' => e = .returned (.bool (sameB gs a b)) ∧ Below w.heap.size w w' := by
  have HC := hide (implKinCanon_any ga gc lo hi gs a w hN hl hh hx hp)
  have HD := hide (fun w1 (hb : Below w.heap.size w w1) => implKinCanon_any ga gc lo hi gs b w1 hN hl (Nat.le_trans hh hb.size) (hx.keep (hb.mono hh)) (pow10_keep hp hb))
  have HS := hide (sameB_canon gs a b)
  clear hN hx hp
  generalize sameB gs a b = R at *
  generalize canonF gs a = x at *
  generalize canonF gs b = y at *
  by_cases h0 : 0 ≤ x
  · have d : decide (0 ≤ x) = true := by simpa using h0
    go_enter Tryd.func15, Tryd.ntmps15
    go_wp2_with fail
    refine HC.out.mono ?_
    rintro e w1 ⟨rfl, hb1⟩
    have B1 := hide hb1
    clear hb1
    go_wp2_with fail
    refine (HD.out _ B1.out).mono ?_
    rintro e w2 ⟨rfl, hb2⟩
    have B2 := hide (B1.out.trans (hb2.mono B1.out.size))
    clear hb2
    go_wp2_with fail
    go_ret
    exact ⟨ret_bool (by rw [HS.out, d]; simp), B2.out⟩
  · have d : decide (0 ≤ x) = false := by simpa using h0
    go_enter Tryd.func15, Tryd.ntmps15
    go_wp2_with fail
    refine HC.out.mono ?_
    rintro e w1 ⟨rfl, hb1⟩
    have B1 := hide hb1
    clear hb1
    go_wp2_with fail
    go_ret
    exact ⟨ret_bool (by rw [HS.out, d]; simp), B1.out⟩

set_option maxHeartbeats 1600000 in
theorem implKinUnder_any (ga : Option Addr) (gc lo hi : Nat) (gs : List (List Ty)) (a b : Int) (w : World) (hN : Few gs) (hl : lo ≤ hi) (hh : hi ≤ w.heap.size) (hx : GroupsIn w lo hi ga gs) (hp : pow10 w) :
    Calls Tryd.prog 17 #[.slice ga gs.length gc, .int .i64 a, .int .i64 b] w fun e w' => e = .returned (.bool (underB gs a b)) ∧ Below w.heap.size w w' := by
  have n2 := kinCount_le hN
  cases hk : kinOkF gs with
  | false =>
    have HC := hide (kinTableOf_no ga gc lo hi gs w hN hl hh hx hp hk)
    have HZ : Hid (underB gs a b = false) := by show _ = _; simp [underB, hk]
    clear hN hx hp hk
    go_enter Tryd.func17, Tryd.ntmps17
    go_wp2_with fail
    refine HC.out.mono ?_
    rintro e w1 ⟨rfl, hb1⟩
    have B1 := hide hb1
    clear hb1
    go_wp2_with fail
    go_ret
    exact ⟨ret_bool HZ.out.symm, B1.out.alloc B1.out.size _⟩
  | true =>
    have HC := hide (kinTableOf_ok ga gc lo hi gs w hN hl hh hx hp hk)
    have HPt := hide (kinOk_parts hk)
    have HS : Hid (underB gs a b = (isRefF gs a && (isRefF gs b && under gs a b))) := by show _ = _; simp [underB, hk]
    clear hN hx hp hk
    go_enter Tryd.func17, Tryd.ntmps17
    go_wp2_with fail
    refine HC.out.mono ?_
    rintro e w1 ⟨ra, rc, cb, rfl, ht, hb1⟩
    have B1 := hide hb1
    have HT := hide ht
    clear hb1 ht
    go_wp2_with fail
    refine (isRef_any ra _ rc _ gs a _ n2).mono ?_
    rintro e w2 ⟨rfl, hb2⟩
    have R2 : Hid (Rec w2 w1.heap.size 54 [.slice ra (kinCount gs) rc, .slice (some ⟨cb, 0, none⟩) (kinCount gs) (kinCount gs)]) := (Rec.new _ _ _).below hb2 (by simp)
    have B2 := hide ((B1.out.alloc B1.out.size (.cells #[.slice ra (kinCount gs) rc, .slice (some ⟨cb, 0, none⟩) (kinCount gs) (kinCount gs)] 54)).trans (hb2.mono (by have := B1.out.size; simp; omega)))
    have T2 := hide ((tab_alloc HT.out (Nat.le_refl _) (.cells #[.slice ra (kinCount gs) rc, .slice (some ⟨cb, 0, none⟩) (kinCount gs) (kinCount gs)] 54)).keep (hb2.mono (by simp)))
    have S2 : Hid (w1.heap.size ≤ w2.heap.size) := Nat.le_of_lt R2.out.lt
    clear hb2
    cases h1 : isRefF gs a with
    | false =>
      have HZ : Hid (underB gs a b = false) := by show _ = _; rw [HS.out, h1]; rfl
      clear h1
      go_wp2_with fail
      go_ret
      exact ⟨ret_bool HZ.out.symm, B2.out⟩
    | true =>
      have H1 := hide h1
      have c0 := R2.out.cell (o := 0) rfl
      have c1 := R2.out.cell (o := 1) rfl
      clear h1
      go_wp2_with fail
      refine (isRef_any ra _ rc _ gs b _ n2).mono ?_
      rintro e w3 ⟨rfl, hb3⟩
      have R3 := hide (R2.out.below hb3 R2.out.lt)
      have B3 := hide (B2.out.trans (hb3.mono B2.out.size))
      have T3 := hide (T2.out.keep (hb3.mono S2.out))
      have S3 : Hid (w1.heap.size ≤ w3.heap.size) := Nat.le_trans S2.out hb3.size
      clear hb3 c0 c1
      cases h2 : isRefF gs b with
      | false =>
        have HZ : Hid (underB gs a b = false) := by show _ = _; rw [HS.out, H1.out, h2]; rfl
        clear h2
        go_wp2_with fail
        go_ret
        exact ⟨ret_bool HZ.out.symm, B3.out⟩
      | true =>
        have HZ : Hid (underB gs a b = under gs a b) := by show _ = _; rw [HS.out, H1.out, h2]; rfl
        have h1 := H1.out
        unfold isRefF at h1 h2
        simp only [Bool.and_eq_true, decide_eq_true_eq] at h1 h2
        obtain ⟨a0, a1⟩ := h1
        obtain ⟨b0, b1⟩ := h2
        have c0 := R3.out.cell (o := 0) rfl
        have c1 := R3.out.cell (o := 1) rfl
        go_wp2_with fail
        refine (under_any ra rc cb 0 (kinCount gs) lo w1.heap.size gs a b w3 HPt.out T3.out S3.out a0 a1 b0 b1).mono ?_
        rintro e w4 ⟨rfl, hb4⟩
        have B4 := hide (B3.out.trans (hb4.mono B3.out.size))
        clear hb4 c0 c1
        go_wp2_with fail
        go_ret
        exact ⟨ret_bool (by rw [HZ.out]), B4.out⟩
end Go.Proofs.YtpkfihliconenaaDoor
