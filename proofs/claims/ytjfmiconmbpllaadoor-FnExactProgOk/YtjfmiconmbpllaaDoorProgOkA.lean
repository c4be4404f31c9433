/- ProgOk, plainly; lists of sorts, of the program and of the model. -/
import Derived.Test.YtjfmiconmbpllaaDoorGenProg
import Derived.Test.YtjfmiconmbpllaaDoorSortOk
import Derived.Test.YtjfmiconmbpllaaDoorKinM
import Derived.Test.YtjfmiconmbpllaaDoorInsOk3
namespace Go.Proofs.YtjfmiconmbpllaaDoor
open Go.ChangeShapes Go.WideShapes Go.ChangeAt Go.RowKit
set_option linter.unusedVariables false

def sOk (n : Int) (f : Fd) : Bool := sortOk f.kind f.of n f.mt
def sortsTo (fs : List Fd) (n : Int) (k : Nat) : Bool := allTo (fun i => sOk n (fdAt fs i)) k
def firstTo (fs : List Fd) (k : Nat) : Bool := allTo (fun i => !((fdAt fs i).kind == 3)) k
def l3To (fs : List Fd) (n : Int) (first : Bool) (k : Nat) : Bool := allTo (fun i => sOk n (fdAt fs i) && !(first && ((fdAt fs i).kind == 3))) k

theorem allTo_and (p q : Nat → Bool) (n : Nat) : allTo (fun i => p i && q i) n = (allTo p n && allTo q n) := by
  induction n with
  | zero => rfl
  | succ n ih =>
    simp only [allTo, ih]
    cases allTo p n <;> cases allTo q n <;> cases p n <;> cases q n <;> rfl
theorem l3To_eq (fs : List Fd) (n : Int) (first : Bool) (k : Nat) : l3To fs n first k = (sortsTo fs n k && (!first || firstTo fs k)) := by
  unfold l3To sortsTo firstTo
  rw [allTo_and]
  cases first with
  | false =>
    have : allTo (fun i => !(false && ((fdAt fs i).kind == 3))) k = true := allTo_of fun i _ => by simp
    rw [this]; simp
  | true => simp

def bodyTo (xs : List GIns) (k : Nat) : Bool := allTo (fun i => insOk (insAt' xs i).op (insAt' xs i).a (insAt' xs i).b) k
/-- A function is written right among n types. -/
def funOkF (n : Int) (f : GFun) : Bool :=
  ((decide (f.takes.length ≤ 3) && decide (f.own.length ≤ 3)) && (decide (0 < f.body.length) && decide (f.body.length ≤ 30))) && ((sortsTo f.takes n f.takes.length && (sortsTo f.own n f.own.length && firstTo f.own f.own.length)) && (sOk n f.gives && bodyTo f.body f.body.length))
def funsTo (fs : List GFun) (n : Int) (k : Nat) : Bool := allTo (fun i => funOkF n (funAt' fs i)) k
/-- ProgOk. -/
def progOkF (p : GProg) : Bool :=
  (kinOkF p.types && ((decide (p.glob.length ≤ 3) && (sortsTo p.glob (kinCount p.types : Nat) p.glob.length && firstTo p.glob p.glob.length)) && (decide (0 < p.funs.length) && decide (p.funs.length ≤ 5)))) && funsTo p.funs (kinCount p.types : Nat) p.funs.length

set_option maxHeartbeats 800000 in
theorem l3Sorts_any (a : Option Addr) (cap lo hi : Nat) (fs : List Fd) (n : Int) (first : Bool) (w : World) (hn : fs.length ≤ 1048576) (hx : FieldsIn w lo hi a fs) (hh : hi ≤ w.heap.size) :
    Calls Tryd.prog 14 #[.slice a fs.length cap, .int .i64 n, .bool first] w fun e w' => e = .returned (.bool (l3To fs n first fs.length)) ∧ Below w.heap.size w w' := by
  have HX := hide hx
  clear hx
  go_enter Tryd.func14, Tryd.ntmps14
  go_wp2_with fail
  go_loopw [7] (fun i wr => ∃ j : Nat, j ≤ fs.length ∧ i = .int .i64 j ∧ l3To fs n first j = true ∧ Below w.heap.size w wr) (fun i wr => fs.length - (intOf i).toNat)
  case atStart => exact ⟨0, Nat.zero_le _, rfl, rfl, Below.refl _ _⟩
  case round =>
    obtain ⟨j, hj, rfl, hA, hb⟩ := hrel
    have HA := hide hA
    have HB := hide hb
    clear hA hb
    by_cases hjn : j < fs.length
    · rcases HX.out with hnil | ⟨b, off, rfl, g1, g2, g3⟩
      · rw [hnil] at hjn; exact absurd hjn (Nat.not_lt_zero _)
      obtain ⟨f0, f1, f2⟩ := (g3 j hjn).same (lo := lo) (hi := hi) (.of_below HB.out hh) g1 g2
      have HS : Hid (l3To fs n first (j + 1) = (sOk n (fdAt fs j) && !(first && ((fdAt fs j).kind == 3)))) := by
        show (l3To fs n first j && (sOk n (fdAt fs j) && !(first && ((fdAt fs j).kind == 3)))) = _
        rw [HA.out]; rfl
      have HZ : Hid ((sOk n (fdAt fs j) && !(first && ((fdAt fs j).kind == 3))) = false → l3To fs n first fs.length = false) := fun h => allTo_false hjn h
      have HC := hide (fun W => specSortOk_any (fdAt fs j).kind (fdAt fs j).of n (fdAt fs j).mt W)
      have HO : Hid (sOk n (fdAt fs j) = sortOk (fdAt fs j).kind (fdAt fs j).of n (fdAt fs j).mt) := rfl
      have b4 : b < wr.heap.size := Nat.lt_of_lt_of_le g2 (Nat.le_trans hh HB.out.size)
      have j1 : (0 : Int) ≤ (j : Int) := by omega
      have j2 : (j : Int) < (fs.length : Int) := by omega
      clear g3
      generalize sortOk (fdAt fs j).kind (fdAt fs j).of n (fdAt fs j).mt = v at HC HO
      rw [HO.out] at HS HZ
      clear HO
      generalize fdAt fs j = f at f0 f1 f2 HC HS HZ
      obtain ⟨fk, fo, fm⟩ := f
      simp only at f0 f1 f2 HC HS HZ
      go_wp2_with fail
      refine (HC.out _).mono ?_
      rintro e w1 ⟨rfl, hb1⟩
      have B1 := hide (HB.out.trans (hb1.mono HB.out.size))
      have f0' : w1.cell? ⟨b, off + j * 3, none⟩ = some (.int .i64 fk) := by rw [hb1.cell (p := ⟨b, off + j * 3, none⟩) b4]; exact f0
      clear hb1 f0 f1 f2 HC
      cases v with
      | false =>
        have hz := HZ.out (by simp)
        have HZ' := hide hz
        clear hz HZ HS
        go_wp2_with fail
        go_ret
        exact ⟨ret_bool HZ'.out.symm, B1.out⟩
      | true =>
        cases first with
        | false =>
          have hs : l3To fs n false (j + 1) = true := by rw [HS.out]; simp
          have HS' := hide hs
          clear hs HS HZ
          go_wp2_with fail
          exact ⟨⟨j + 1, by omega, by go_num, HS'.out, B1.out⟩, by simp [intOf]; omega⟩
        | true =>
          by_cases h3 : fk = 3
          · subst h3
            have hz := HZ.out (by simp)
            have HZ' := hide hz
            clear hz HZ HS
            go_wp2_with fail
            go_ret
            exact ⟨ret_bool HZ'.out.symm, B1.out⟩
          · have hs : l3To fs n true (j + 1) = true := by rw [HS.out]; simp [h3]
            have n3 : (fk == 3) = false := beq_eq_false_iff_ne.2 h3
            have HS' := hide hs
            clear hs HS HZ
            go_wp2_with fail
            exact ⟨⟨j + 1, by omega, by go_num, HS'.out, B1.out⟩, by simp [intOf]; omega⟩
    · have hje : Hid (j = fs.length) := Nat.le_antisymm hj (Nat.le_of_not_lt hjn)
      go_wp2_with fail
      go_ret
      exact ⟨ret_bool (by rw [← hje.out]; exact HA.out.symm), HB.out⟩

set_option maxHeartbeats 800000 in
theorem progSortsOk_any (a : Option Addr) (cap lo hi : Nat) (fs : List Fd) (most n : Int) (w : World) (hn : fs.length ≤ 1048576) (hx : FieldsIn w lo hi a fs) (hh : hi ≤ w.heap.size) :
    Calls Tryd.prog 37 #[.slice a fs.length cap, .int .i64 most, .int .i64 n] w fun e w' => e = .returned (.bool (decide ((fs.length : Int) ≤ most) && sortsTo fs n fs.length)) ∧ Below w.heap.size w w' := by
  have HX := hide hx
  clear hx
  by_cases hm : (fs.length : Int) ≤ most
  · have HR : Hid ((decide ((fs.length : Int) ≤ most) && sortsTo fs n fs.length) = sortsTo fs n fs.length) := by show _ = _; simp [hm]
    go_enter Tryd.func37, Tryd.ntmps37
    go_wp2_with fail
    go_loopw [15] (fun i wr => ∃ j : Nat, j ≤ fs.length ∧ i = .int .i64 j ∧ sortsTo fs n j = true ∧ Below w.heap.size w wr) (fun i wr => fs.length - (intOf i).toNat)
    case atStart => exact ⟨0, Nat.zero_le _, rfl, rfl, Below.refl _ _⟩
    case round =>
      obtain ⟨j, hj, rfl, hA, hb⟩ := hrel
      have HA := hide hA
      have HB := hide hb
      have s1 := hb.size
      clear hA hb
      by_cases hjn : j < fs.length
      · rcases HX.out with hnil | ⟨b, off, rfl, g1, g2, g3⟩
        · rw [hnil] at hjn; exact absurd hjn (Nat.not_lt_zero _)
        obtain ⟨f0, f1, f2⟩ := (g3 j hjn).same (lo := lo) (hi := hi) (.of_below HB.out hh) g1 g2
        have HS : Hid (sortsTo fs n (j + 1) = sortOk (fdAt fs j).kind (fdAt fs j).of n (fdAt fs j).mt) := by
          show (sortsTo fs n j && sOk n (fdAt fs j)) = _
          rw [HA.out]; rfl
        have HZ : Hid (sortOk (fdAt fs j).kind (fdAt fs j).of n (fdAt fs j).mt = false → sortsTo fs n fs.length = false) := fun h => allTo_false hjn h
        have HC := hide (fun W => implSortOk_any (fdAt fs j).kind (fdAt fs j).of n (fdAt fs j).mt W)
        have j1 : (0 : Int) ≤ (j : Int) := by omega
        have j2 : (j : Int) < (fs.length : Int) := by omega
        clear g3
        generalize sortOk (fdAt fs j).kind (fdAt fs j).of n (fdAt fs j).mt = v at HC HS HZ
        generalize fdAt fs j = f at f0 f1 f2 HC
        obtain ⟨fk, fo, fm⟩ := f
        simp only at f0 f1 f2 HC
        go_wp2_with fail
        refine (HC.out _).mono ?_
        rintro e w1 ⟨rfl, hb1⟩
        have B1 := hide ((HB.out.alloc s1 (.cells #[.int .i64 fk, .int .i64 fo, .bool fm] 45)).trans (hb1.mono (by simp; omega)))
        clear hb1 HC
        cases v with
        | false =>
          have hz := HZ.out rfl
          have HZ' := hide hz
          clear hz HZ HS
          go_wp2_with fail
          go_ret
          exact ⟨ret_bool (by rw [HR.out, HZ'.out]), B1.out⟩
        | true =>
          go_wp2_with fail
          exact ⟨⟨j + 1, by omega, by go_num, HS.out, B1.out⟩, by simp [intOf]; omega⟩
      · have hje : Hid (j = fs.length) := Nat.le_antisymm hj (Nat.le_of_not_lt hjn)
        go_wp2_with fail
        go_ret
        exact ⟨ret_bool (by rw [HR.out, ← hje.out]; exact HA.out.symm), HB.out⟩
  · have HR : Hid ((decide ((fs.length : Int) ≤ most) && sortsTo fs n fs.length) = false) := by show _ = _; simp [hm]
    go_enter Tryd.func37, Tryd.ntmps37
    go_wp2_with fail
    go_ret
    exact ⟨ret_bool HR.out.symm, Below.refl _ _⟩

set_option maxHeartbeats 800000 in
theorem progPlacesOk_any (a : Option Addr) (cap lo hi : Nat) (fs : List Fd) (most n : Int) (w : World) (hn : fs.length ≤ 1048576) (hx : FieldsIn w lo hi a fs) (hh : hi ≤ w.heap.size) :
    Calls Tryd.prog 21 #[.slice a fs.length cap, .int .i64 most, .int .i64 n] w fun e w' => e = .returned (.bool ((decide ((fs.length : Int) ≤ most) && sortsTo fs n fs.length) && firstTo fs fs.length)) ∧ Below w.heap.size w w' := by
  have HC := hide (progSortsOk_any a cap lo hi fs most n w hn hx hh)
  have HX := hide hx
  clear hx
  generalize (decide ((fs.length : Int) ≤ most) && sortsTo fs n fs.length) = v at HC ⊢
  go_enter Tryd.func21, Tryd.ntmps21
  go_wp2_with fail
  refine HC.out.mono ?_
  rintro e w1 ⟨rfl, hb1⟩
  have B1 := hide hb1
  clear hb1 HC
  cases v with
  | false =>
    go_wp2_with fail
    go_ret
    exact ⟨rfl, B1.out⟩
  | true =>
    go_wp2_with fail
    go_loopw [16] (fun i wr => ∃ j : Nat, j ≤ fs.length ∧ i = .int .i64 j ∧ firstTo fs j = true ∧ Below w.heap.size w wr) (fun i wr => fs.length - (intOf i).toNat)
    case atStart => exact ⟨0, Nat.zero_le _, rfl, rfl, B1.out⟩
    case round =>
      clear B1
      obtain ⟨j, hj, rfl, hA, hb⟩ := hrel
      have HA := hide hA
      have HB := hide hb
      have s1 := hb.size
      clear hA hb
      by_cases hjn : j < fs.length
      · rcases HX.out with hnil | ⟨b, off, rfl, g1, g2, g3⟩
        · rw [hnil] at hjn; exact absurd hjn (Nat.not_lt_zero _)
        obtain ⟨f0, f1, f2⟩ := (g3 j hjn).same (lo := lo) (hi := hi) (.of_below HB.out hh) g1 g2
        have HS : Hid (firstTo fs (j + 1) = !((fdAt fs j).kind == 3)) := by
          show (firstTo fs j && !((fdAt fs j).kind == 3)) = _
          rw [HA.out]; rfl
        have HZ : Hid ((!((fdAt fs j).kind == 3)) = false → firstTo fs fs.length = false) := fun h => allTo_false hjn h
        have j1 : (0 : Int) ≤ (j : Int) := by omega
        have j2 : (j : Int) < (fs.length : Int) := by omega
        clear g3
        generalize fdAt fs j = f at f0 f1 f2 HS HZ
        obtain ⟨fk, fo, fm⟩ := f
        simp only at f0 f1 f2 HS HZ
        by_cases h3 : fk = 3
        · subst h3
          have hz := HZ.out (by simp)
          have HZ' := hide hz
          clear hz HZ HS
          go_wp2_with fail
          go_ret
          exact ⟨ret_bool (by rw [HZ'.out]; rfl), HB.out.alloc s1 _⟩
        · have n3 : (fk == 3) = false := beq_eq_false_iff_ne.2 h3
          have hs : firstTo fs (j + 1) = true := by rw [HS.out, n3]; rfl
          have HS' := hide hs
          clear hs HS HZ
          go_wp2_with fail
          exact ⟨⟨j + 1, by omega, by go_num, HS'.out, HB.out.alloc s1 _⟩, by simp [intOf]; omega⟩
      · have hje : Hid (j = fs.length) := Nat.le_antisymm hj (Nat.le_of_not_lt hjn)
        go_wp2_with fail
        go_ret
        exact ⟨ret_bool (by rw [← hje.out, HA.out]; rfl), HB.out⟩
end Go.Proofs.YtjfmiconmbpllaaDoor
