/- kinCanons of the program: the least number that is the same as each type. -/
import Derived.Test.YtlmciclkfmeepaaDoorKinD
import Derived.Maps.OwnOps
import Derived.Maps.OwnSet
namespace Go.Proofs.YtlmciclkfmeepaaDoor
open Go.ChangeShapes Go.WideShapes Go.ChangeAt Go.RowKit Go.Maps
set_option linter.unusedVariables false

/-- The first groups of each text, as they are kept. -/
def firstsD (gs : List (List Ty)) : Nat → DataW Unit
  | 0 => .map []
  | x + 1 => if Maps.has (firstsD gs x) (.string (txt gs x)) then firstsD gs x else (firstsD gs x).put (.string (txt gs x)) (.lit (.int .i64 (beg gs x : Nat)))

theorem firsts_isMap (gs : List (List Ty)) (x : Nat) : IsMap (firstsD gs x) := by
  induction x with
  | zero => exact isMap_empty
  | succ x ih =>
    unfold firstsD
    split
    · exact ih
    · exact ih.put _ _
theorem firsts_has (gs : List (List Ty)) : ∀ x s, Maps.has (firstsD gs x) (.string s) = true ↔ ∃ y, y < x ∧ txt gs y = s := by
  intro x
  induction x with
  | zero => intro s; constructor
            · intro h; cases h
            · rintro ⟨y, h, _⟩; omega
  | succ x ih =>
    intro s
    unfold firstsD
    split
    · rename_i h
      rw [ih]
      constructor
      · rintro ⟨y, h1, h2⟩; exact ⟨y, by omega, h2⟩
      · rintro ⟨y, h1, h2⟩
        by_cases e : y = x
        · subst e
          obtain ⟨z, h3, h4⟩ := (ih _).1 h
          exact ⟨z, h3, h4.trans h2⟩
        · exact ⟨y, by omega, h2⟩
    · by_cases e : s = txt gs x
      · subst e
        rw [has_put_same (firsts_isMap gs x) (k := .string (txt gs x)) (by exact trivial)]
        simp only [true_iff]
        exact ⟨x, by omega, rfl⟩
      · rw [has_put_other (by intro h; exact e (by injection h)), ih]
        constructor
        · rintro ⟨y, h1, h2⟩; exact ⟨y, by omega, h2⟩
        · rintro ⟨y, h1, h2⟩
          by_cases e' : y = x
          · subst e'; exact absurd h2.symm e
          · exact ⟨y, by omega, h2⟩

theorem lead_eq {gs : List (List Ty)} {x y : Nat} (h : txt gs y = txt gs x) : lead gs y = lead gs x := by
  have h1 := lead_least gs x (lead gs y) ((lead_txt gs y).trans h)
  have h2 := lead_least gs y (lead gs x) ((lead_txt gs x).trans h.symm)
  omega

theorem firsts_at (gs : List (List Ty)) (z : DataW Unit) : ∀ x y, y < x → (firstsD gs x).atKey (.string (txt gs y)) z = .lit (.int .i64 (beg gs (lead gs y) : Nat)) := by
  intro x
  induction x with
  | zero => intro y h; omega
  | succ x ih =>
    intro y hy
    unfold firstsD
    split
    · rename_i h
      by_cases e : y = x
      · subst e
        obtain ⟨v, h3, h4⟩ := (firsts_has gs _ _).1 h
        rw [← h4, ih v h3, lead_eq h4]
      · exact ih y (by omega)
    · rename_i h
      by_cases e : txt gs y = txt gs x
      · rw [e, atKey_put_same (firsts_isMap gs x) (k := .string (txt gs x)) (by exact trivial), lead_eq e]
        have h1 := lead_le gs x
        have h2 : ¬ lead gs x < x := fun hl => h ((firsts_has gs _ _).2 ⟨_, hl, lead_txt gs x⟩)
        rw [show lead gs x = x by omega]
      · rw [atKey_put_other (by intro h; exact e (by injection h))]
        exact ih y (by
          by_cases e' : y = x
          · subst e'; exact absurd rfl e
          · omega)
theorem lead_new {gs : List (List Ty)} {x : Nat} (h : Maps.has (firstsD gs x) (.string (txt gs x)) = false) : lead gs x = x := by
  have h1 := lead_le gs x
  have h2 : ¬ lead gs x < x := fun hl => by rw [(firsts_has gs _ _).2 ⟨_, hl, lead_txt gs x⟩] at h; cases h
  omega
theorem lead_old {gs : List (List Ty)} {x : Nat} (h : Maps.has (firstsD gs x) (.string (txt gs x)) = true) (z : DataW Unit) : (firstsD gs x).atKey (.string (txt gs x)) z = .lit (.int .i64 (beg gs (lead gs x) : Nat)) := by
  obtain ⟨y, h1, h2⟩ := (firsts_has gs _ _).1 h
  rw [← h2, firsts_at gs z x y h1, lead_eq h2]

/-- The table's row of a type, by its group and its place in it. -/
theorem rowsTo_at (G : Nat → List Ty) (x i : Nat) (hi : i < (G x).length) : ∀ k, x < k → krAt (rowsTo G k) (countTo G x + i) = ⟨tyAt (G x) i, countTo G x, countTo G (x + 1)⟩ := by
  intro k
  induction k with
  | zero => intro h; omega
  | succ k ih =>
    intro hk
    by_cases e : x = k
    · subst e
      have hl := rowsTo_length G x
      simp [rowsTo, krAt, List.getD, List.getElem?_append_right (show (rowsTo G x).length ≤ countTo G x + i by omega), hl, List.getElem?_eq_getElem hi, tyAt, countTo]
    · have hm := countTo_mono G (show x + 1 ≤ k by omega)
      have h1 : countTo G (x + 1) = countTo G x + (G x).length := rfl
      rw [rowsTo, krAt_append_left _ _ _ (by rw [rowsTo_length]; omega)]
      exact ih (by omega)
theorem rows_at {gs : List (List Ty)} {x i : Nat} (hx : x < gs.length) (hi : i < (grAt gs x).length) : krAt (rowsOf gs) (beg gs x + i) = ⟨tyAt (grAt gs x) i, beg gs x, beg gs (x + 1)⟩ := rowsTo_at (grAt gs) x i hi gs.length hx

theorem parts_len4 {gs : List (List Ty)} (hP : Parts gs) {x i : Nat} (hx : x < gs.length) (hi : i < (grAt gs x).length) : (tyAt (grAt gs x) i).fields.length ≤ 4 := (parts_bounds hP.w hx hi).1

theorem beg_succ (gs : List (List Ty)) (x : Nat) : beg gs (x + 1) = beg gs x + (grAt gs x).length := rfl

theorem kinWritten_any (rb ro rc lo hi : Nat) (ca : Option Addr) (cc : Nat) (gs : List (List Ty)) (x : Nat) (w : World) (hP : Parts gs) (hp : pow10 w) (hh : hi ≤ w.heap.size) (hx : x < gs.length) (h1 : lo ≤ rb) (h2 : rb < hi) (hrc : kinCount gs ≤ rc)
    (hR : ∀ i, i < kinCount gs → TypeAt w lo hi rb (ro + i * 6) (krAt (rowsOf gs) i).t ∧ w.cell? ⟨rb, ro + i * 6 + 4, none⟩ = some (.int .i64 ((krAt (rowsOf gs) i).b : Nat)) ∧ w.cell? ⟨rb, ro + i * 6 + 5, none⟩ = some (.int .i64 ((krAt (rowsOf gs) i).e : Nat)))
    (hC : CanIn w ca (beg gs x) (canon gs)) :
    Calls Tryd.prog 64 #[.slice (some ⟨rb, ro, none⟩) (kinCount gs) rc, .slice ca (kinCount gs) cc, .int .i64 (beg gs x : Nat)] w fun e w' => e = .returned (.string ⟨(txt gs x).toArray⟩) ∧ Below w.heap.size w w' := by
  have hc : beg gs (x + 1) ≤ kinCount gs := beg_le hx
  have hs := beg_succ gs x
  have h0 := (hP.2.2 x hx).1
  have hrow : ∀ i, i < (grAt gs x).length → TypeAt w lo hi rb (ro + beg gs x * 6 + i * 6) (tyAt (grAt gs x) i) ∧ w.cell? ⟨rb, ro + beg gs x * 6 + i * 6 + 4, none⟩ = some (.int .i64 (beg gs x : Nat)) ∧ w.cell? ⟨rb, ro + beg gs x * 6 + i * 6 + 5, none⟩ = some (.int .i64 (beg gs (x + 1) : Nat)) := by
    intro i hi
    have h := hR (beg gs x + i) (by omega)
    rw [rows_at hx hi, Nat.add_mul, ← Nat.add_assoc] at h
    exact h
  refine kinWritten_core rb ro (kinCount gs) rc lo hi ca (kinCount gs) cc (beg gs x) (grAt gs x) (canon gs) w hp hh h1 h2 (parts_tyOk hP hx) (fun i hi => parts_len4 hP hx hi) h0 (by omega) hP.2.1 hrc (fun i hi => (hrow i hi).1) ?_ (fun i hi => ⟨⟨_, (hrow i hi).2.1⟩, _, (hrow i hi).2.2⟩) (beg_le (Nat.le_of_lt hx)) hP.2.1 hC
  have := (hrow 0 h0).2.2
  rw [hs] at this
  simpa using this

def filledN (f : Nat → Nat) (k : Nat) : Nat → Value := fun j => if j < k then .int .i64 (f j : Nat) else .int .i64 0
theorem filledN_step (f : Nat → Nat) (k : Nat) {n : Nat} (j : Nat) (_ : j < n) : (if j = k then Value.int .i64 (f k : Nat) else filledN f k j) = filledN f (k + 1) j := by
  unfold filledN
  by_cases e : j = k
  · subst e; simp
  · rw [if_neg e]
    by_cases h : j < k
    · rw [if_pos h, if_pos (by omega)]
    · rw [if_neg h, if_neg (by omega)]
theorem rowIs_below {w w' : World} {b n B : Nat} {t : TypeId} {f : Nat → Value} (h : w.rowIs b t n f) (hb : Below B w w') (hB : b < B) : w'.rowIs b t n f := h.of_block (hb.block b hB)
theorem ownsMap_below {w w' : World} {P : Program} {K : TypeId} {R : Value → Option (DataW Unit × List MemPlace)} {b n B : Nat} {D : DataW Unit} (h : w.ownsMap P K R b n D) (hb : Below B w w') (hB : b < B) : w'.ownsMap P K R b n D := by
  obtain ⟨es, clock, h1, h2⟩ := h
  exact ⟨es, clock, (hb.block b hB).trans h1, h2⟩
theorem rowIs_canIn {w : World} {b n k : Nat} {t : TypeId} {f : Nat → Nat} (h : w.rowIs b t n (filledN f k)) (hk : k ≤ n) : CanIn w (some ⟨b, 0, none⟩) k f := by
  refine .inr ⟨b, 0, rfl, h.lt, fun i hi => ?_⟩
  rw [Nat.zero_add, h.cell (show i < n by omega)]
  simp [filledN, hi]

theorem Tryd.keyS : Keyed Tryd.prog 9 := string_keyed Tryd.underlying9
theorem Tryd.zeroI (w : World) : (zeroValue 3).run Tryd.prog w = .ok (.int .i64 0) w := by kernel_rfl
theorem Tryd.infoIntC : (Tryd.prog.info? 3).map (fun i => (i.zero, i.size, i.bytes)) = some (some (.int .i64 0), 1, 8) := by kernel_rfl
end Go.Proofs.YtlmciclkfmeepaaDoor
