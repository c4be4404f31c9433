/- l1Begin, l1Group and l1Form of the model: where a group begins, which group a type is in, whether a type's parts are right. -/
import Derived.Test.YtblliefejffhoaaGreatDoorFlat
namespace Go.Proofs.YtblliefejffhoaaGreatDoor
open Go.ChangeShapes Go.WideShapes Go.ChangeAt Go.RowKit
set_option linter.unusedVariables false

theorem countTo_mono (G : Nat → List Ty) {i j : Nat} (h : i ≤ j) : countTo G i ≤ countTo G j := by
  induction j with
  | zero => have : i = 0 := by omega
            subst this; exact Nat.le_refl _
  | succ j ih =>
    by_cases e : i = j + 1
    · subst e; exact Nat.le_refl _
    · have := ih (by omega)
      simp only [countTo]
      omega

/-- The group that a type is in, looked for from group k on. -/
def grpFrom (G : Nat → List Ty) (a : Nat) : Nat → Nat → Nat
  | 0, k => k
  | f + 1, k => if a < countTo G (k + 1) then k else grpFrom G a f (k + 1)
def grp (gs : List (List Ty)) (a : Nat) : Nat := grpFrom (grAt gs) a gs.length 0

theorem grpFrom_spec (G : Nat → List Ty) (a : Nat) : ∀ f k, countTo G k ≤ a → a < countTo G (k + f) → grpFrom G a f k < k + f ∧ countTo G (grpFrom G a f k) ≤ a ∧ a < countTo G (grpFrom G a f k + 1) := by
  intro f
  induction f with
  | zero => intro k h1 h2; simp at h2; omega
  | succ f ih =>
    intro k h1 h2
    unfold grpFrom
    split
    · rename_i h; exact ⟨by omega, h1, h⟩
    · rename_i h
      have := ih (k + 1) (by omega) (by rw [show k + 1 + f = k + (f + 1) by omega]; exact h2)
      exact ⟨by omega, this.2.1, this.2.2⟩
theorem grp_spec (gs : List (List Ty)) (a : Nat) (h : a < kinCount gs) : grp gs a < gs.length ∧ countTo (grAt gs) (grp gs a) ≤ a ∧ a < countTo (grAt gs) (grp gs a + 1) := by
  have := grpFrom_spec (grAt gs) a gs.length 0 (Nat.zero_le _) (by simpa [kinCount] using h)
  simpa [grp] using this
theorem grp_uniq {G : Nat → List Ty} {a x y : Nat} (h1 : countTo G x ≤ a) (h2 : a < countTo G (x + 1)) (h3 : countTo G y ≤ a) (h4 : a < countTo G (y + 1)) : x = y := by
  rcases Nat.lt_trichotomy x y with h | h | h
  · have := countTo_mono G (show x + 1 ≤ y by omega); omega
  · exact h
  · have := countTo_mono G (show y + 1 ≤ x by omega); omega

set_option maxHeartbeats 400000 in
theorem l1Begin_any (a : Option Addr) (cap lo hi k : Nat) (gs : List (List Ty)) (w : World) (hn : Few gs) (hc : gs.length ≤ cap) (hk : k ≤ gs.length) (hx : GroupsIn w lo hi a gs) :
    Calls Tryz.prog 97 #[.slice a gs.length cap, .int .i64 (k : Int)] w fun e w' => e = .returned (.int .i64 (countTo (grAt gs) k : Nat)) ∧ w' = w := by
  have l1 := hn.1
  have HN := hide hn
  clear hn
  have hx' : k ≤ 0 ∨ ∃ b off, a = some ⟨b, off, none⟩ ∧ lo ≤ b ∧ b < hi ∧ ∀ i, i < k → GroupAt w lo hi b (off + i) (grAt gs i) := by
    rcases hx with rfl | ⟨b, off, rfl, h1, h2, h3⟩
    · exact .inl (by simpa using hk)
    · exact .inr ⟨b, off, rfl, h1, h2, fun i hi => h3 i (by omega)⟩
  have HX := hide hx'
  clear hx hx'
  rcases a with _ | ⟨ad⟩
  · have h0 : k ≤ 0 := by
      rcases HX.out with h | ⟨b, off, h, _⟩
      · exact h
      · cases h
    have hk0 : k = 0 := by omega
    subst hk0
    go_enter Tryz.func97, Tryz.ntmps97
    go_wp2_with fail
    refine (specKinCount_core none cap 0 lo hi (grAt gs) w (by omega) (fun i hi => (HN.out.2 i (by omega)).1) HX.out).mono ?_
    rintro e w1 ⟨rfl, rfl⟩
    go_wp2_with fail
    go_ret
    exact ⟨rfl, rfl⟩
  · go_enter Tryz.func97, Tryz.ntmps97
    go_wp2_with fail
    refine (specKinCount_core (some _) cap k lo hi (grAt gs) w (by omega) (fun i hi => (HN.out.2 i (by omega)).1) HX.out).mono ?_
    rintro e w1 ⟨rfl, rfl⟩
    go_wp2_with fail
    go_ret
    exact ⟨rfl, rfl⟩

set_option maxHeartbeats 400000 in
theorem l1Group_any (a : Option Addr) (cap lo hi m : Nat) (gs : List (List Ty)) (w : World) (hn : Few gs) (hm : m < kinCount gs) (hx : GroupsIn w lo hi a gs) :
    Calls Tryz.prog 147 #[.slice a gs.length cap, .int .i64 (m : Int)] w fun e w' => e = .returned (.int .i64 (grp gs m : Nat)) ∧ w' = w := by
  have l1 := hn.1
  have HN := hide hn
  clear hn
  have hg := hide (grp_spec gs m hm)
  rcases hx with rfl | ⟨b, off, rfl, h1, h2, h3⟩
  · simp [kinCount, countTo] at hm
  · have HM := hide hm
    clear hm
    go_enter Tryz.func147, Tryz.ntmps147
    go_wp2_with fail
    go_loop [5, 6] (fun c i => ∃ k : Nat, k ≤ gs.length ∧ i = .int .i64 k ∧ c = .int .i64 (countTo (grAt gs) k : Nat) ∧ countTo (grAt gs) k ≤ m) (fun c i => gs.length - (intOf i).toNat)
    case atStart => exact ⟨0, Nat.zero_le _, rfl, rfl, Nat.zero_le _⟩
    case round =>
      obtain ⟨k, hk, rfl, rfl, hc⟩ := hrel
      have q1 := countTo_le (grAt gs) gs.length (fun i hi => (HN.out.2 i hi).1) k hk
      by_cases hkn : k < gs.length
      · obtain ⟨ta, tc, c3, c4⟩ := h3 k hkn
        have q2 := (HN.out.2 k hkn).1
        have q3 : countTo (grAt gs) (k + 1) = countTo (grAt gs) k + (grAt gs k).length := rfl
        have Q3 := hide q3
        clear h3 c4 q3
        by_cases hlt : m < countTo (grAt gs) k + (grAt gs k).length
        · go_wp2_with fail
          go_ret
          have e : grp gs m = k := grp_uniq hg.out.2.1 hg.out.2.2 hc (by rw [Q3.out]; exact hlt)
          exact ⟨ret_int (by rw [e]), rfl⟩
        · go_wp2_with fail
          exact ⟨⟨k + 1, by omega, by go_num, by rw [Q3.out]; simp, by rw [Q3.out]; omega⟩, by simp [intOf]; omega⟩
      · exfalso
        have : k = gs.length := by omega
        subst this
        have := HM.out
        unfold kinCount at this
        omega

/-- All below n. -/
def allTo (p : Nat → Bool) : Nat → Bool
  | 0 => true
  | k + 1 => allTo p k && p k

/-- A type's parts are right among n types, me being its own number. -/
def formOk (t : Ty) (me n : Int) : Bool :=
  ((decide (-1 ≤ t.up) && decide (t.up < me)) && decide (t.fields.length ≤ 4)) && ((decide (t.kind = 1) || (decide (t.kind = 2) && decide (t.fields.length = 1))) && allTo (fun i => fieldOk (fdAt t.fields i).kind (fdAt t.fields i).of n) t.fields.length)

theorem allTo_false {p : Nat → Bool} {k n : Nat} (hk : k < n) (h : p k = false) : allTo p n = false := by
  induction n with
  | zero => omega
  | succ n ih =>
    simp only [allTo]
    by_cases e : k = n
    · subst e; simp [h]
    · simp [ih (by omega)]

set_option maxHeartbeats 800000 in
theorem l1Form_core (fa : Option Addr) (fc lo hi : Nat) (tk tu : Int) (tl : Bool) (fs : List Fd) (me n : Int) (w : World) (hn : fs.length ≤ 1048576) (hx : FieldsIn w lo hi fa fs) (hh : hi ≤ w.heap.size) :
    Calls Tryz.prog 98 #[.agg #[.int .i64 tk, .int .i64 tu, .bool tl, .slice fa fs.length fc], .int .i64 me, .int .i64 n] w fun e w' => e = .returned (.bool (formOk ⟨tk, tu, tl, fs⟩ me n)) ∧ Below w.heap.size w w' := by
  by_cases h1 : -1 ≤ tu ∧ tu < me ∧ fs.length ≤ 4
  · by_cases h2 : tk = 1 ∨ (tk = 2 ∧ fs.length = 1)
    · have HF : Hid (formOk ⟨tk, tu, tl, fs⟩ me n = allTo (fun i => fieldOk (fdAt fs i).kind (fdAt fs i).of n) fs.length) := by
        show formOk ⟨tk, tu, tl, fs⟩ me n = _
        unfold formOk
        have e1 : (decide (tk = 1) || (decide (tk = 2) && decide (fs.length = 1))) = true := by simpa using h2
        simp only [e1]
        simp [h1.1, h1.2.1, h1.2.2]
      obtain ⟨u1, u2, u3⟩ := h1
      have hkind : (tk = 1 ∧ True) ∨ (tk = 2 ∧ 1 ≤ fs.length ∧ fs.length ≤ 1 ∧ ((fs.length : Int) != 1) = false) := by
        rcases h2 with h | ⟨h, h'⟩
        · exact .inl ⟨h, trivial⟩
        · exact .inr ⟨h, by omega, by omega, by simp [h']⟩
      clear h2
      have hx' := hide hx
      clear hx
      rcases hkind with ⟨rfl, _⟩ | ⟨rfl, hk3, hk4, hk5⟩
      all_goals
        go_enter Tryz.func98, Tryz.ntmps98
        go_wp2_with fail
        go_loopw [7] (fun i wr => ∃ j : Nat, j ≤ fs.length ∧ i = .int .i64 j ∧ allTo (fun i => fieldOk (fdAt fs i).kind (fdAt fs i).of n) j = true ∧ Below w.heap.size w wr ∧ wr.cell? ⟨w.heap.size, 3, none⟩ = some (.slice fa fs.length fc)) (fun i wr => fs.length - (intOf i).toNat)
        case atStart => exact ⟨0, Nat.zero_le _, rfl, rfl, (Below.refl _ _).alloc (Nat.le_refl _) _, by simp⟩
        case round =>
          obtain ⟨j, hj, rfl, hA, hb, c3⟩ := hrel
          have HA := hide hA
          have HW := hide hb
          have s1 : w.heap.size < wr.heap.size := cell_lt c3
          clear hA hb
          by_cases hjn : j < fs.length
          · rcases hx'.out with hnil | ⟨b, off, rfl, g1, g2, g3⟩
            · rw [hnil] at hjn; exact absurd hjn (Nat.not_lt_zero _)
            obtain ⟨d0, d1, d2⟩ := (g3 j hjn).same (lo := lo) (hi := hi) (.of_below HW.out hh) g1 g2
            clear g3
            go_wp2_with fail
            refine (specFieldOk_any _ _ _ _ _).mono ?_
            rintro e w1 ⟨rfl, hb1⟩
            have HB1 := hide hb1
            have c3' : w1.cell? ⟨w.heap.size, 3, none⟩ = some (.slice (some ⟨b, off, none⟩) fs.length fc) := by rw [hb1.cell (by exact s1)]; exact c3
            have C3 := hide c3'
            clear hb1 c3'
            cases hfo : fieldOk (fdAt fs j).kind (fdAt fs j).of n with
            | true =>
              have HO := hide hfo
              clear hfo
              go_wp2_with fail
              have ha : allTo (fun i => fieldOk (fdAt fs i).kind (fdAt fs i).of n) (j + 1) = true := by simp only [allTo, HA.out, HO.out, Bool.and_self]
              have hw1 := HW.out.trans (HB1.out.mono (Nat.le_of_lt s1))
              first
              | exact ⟨⟨j + 1, by omega, by go_num, ha, hw1, C3.out⟩, by simp [intOf]; omega⟩
              | (go_roundw
                 case rel => exact ⟨j + 1, by omega, by go_num, ha, hw1, C3.out⟩
                 case measure => simp [intOf]; omega)
            | false =>
              have HO := hide hfo
              clear hfo
              go_wp2_with fail
              go_ret
              exact ⟨ret_bool (by rw [HF.out]; exact (allTo_false hjn HO.out).symm), HW.out.trans (HB1.out.mono (by omega))⟩
          · have hje : Hid (j = fs.length) := Nat.le_antisymm hj (Nat.le_of_not_lt hjn)
            go_wp2_with fail
            go_ret
            exact ⟨ret_bool (by rw [HF.out, ← hje.out]; exact HA.out.symm), HW.out⟩
    · have HF : Hid (formOk ⟨tk, tu, tl, fs⟩ me n = false) := by
        show formOk ⟨tk, tu, tl, fs⟩ me n = false
        unfold formOk
        simp
        intro _ _ _ h
        exact absurd (by rcases h with h | h; exact .inl h; exact .inr h) h2
      obtain ⟨u1, u2, u3⟩ := h1
      have hout : (tk < 1) ∨ (2 < tk) ∨ (tk = 2 ∧ fs.length < 1) ∨ (tk = 2 ∧ 1 < fs.length) := by
        have e1 : tk ≠ 1 := fun e => h2 (.inl e)
        by_cases e2 : tk = 2
        · have : fs.length ≠ 1 := fun e => h2 (.inr ⟨e2, e⟩)
          omega
        · omega
      clear h2
      rcases hout with hk2 | hk2 | ⟨rfl, hk4⟩ | ⟨rfl, hk4⟩
      all_goals
        go_enter Tryz.func98, Tryz.ntmps98
        go_wp2_with fail
        go_ret
        exact ⟨ret_bool HF.out.symm, (Below.refl _ _).alloc (Nat.le_refl _) _⟩
  · have HF : Hid (formOk ⟨tk, tu, tl, fs⟩ me n = false) := by
      show formOk ⟨tk, tu, tl, fs⟩ me n = false
      unfold formOk
      simp
      intro a b c
      exact absurd ⟨a, b, c⟩ h1
    have hout : tu < -1 ∨ (-1 ≤ tu ∧ me ≤ tu) ∨ (-1 ≤ tu ∧ tu < me ∧ 4 < fs.length) := by omega
    rcases hout with ho | ⟨ho1, ho2⟩ | ⟨ho1, ho2, ho3⟩
    all_goals
      go_enter Tryz.func98, Tryz.ntmps98
      go_wp2_with fail
      go_ret
      exact ⟨ret_bool HF.out.symm, (Below.refl _ _).alloc (Nat.le_refl _) _⟩

theorem l1Form_any (fa : Option Addr) (fc lo hi : Nat) (t : Ty) (me n : Int) (w : World) (hn : t.fields.length ≤ 1048576) (hx : FieldsIn w lo hi fa t.fields) (hh : hi ≤ w.heap.size) :
    Calls Tryz.prog 98 #[.agg #[.int .i64 t.kind, .int .i64 t.up, .bool t.last, .slice fa t.fields.length fc], .int .i64 me, .int .i64 n] w fun e w' => e = .returned (.bool (formOk t me n)) ∧ Below w.heap.size w w' :=
  l1Form_core fa fc lo hi t.kind t.up t.last t.fields me n w hn hx hh
end Go.Proofs.YtblliefejffhoaaGreatDoor
