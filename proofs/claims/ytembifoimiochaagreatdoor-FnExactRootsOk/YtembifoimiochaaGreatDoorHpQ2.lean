/- Heaps, plainly: HeapOk as the program asks it. -/
import Derived.Test.YtembifoimiochaaGreatDoorHpQ
import Derived.Test.YtembifoimiochaaGreatDoorPaSpecB
import Derived.Test.YtembifoimiochaaGreatDoorPaKinC
namespace Go.Proofs.YtembifoimiochaaGreatDoor
open Go.ChangeShapes Go.WideShapes Go.ChangeAt Go.RowKit
set_option linter.unusedVariables false

/-- What a value's word is of; nothing where it is no value's. -/
def valA (gs : List (List Ty)) (h : GHeap) (a i : Nat) : Int × Int := (wordVal (fieldF (tyA gs h a) i).kind (nAt h.words (a + 1 + i))).getD (0, 0)
def fit1 (gs : List (List Ty)) (h : GHeap) (S : List Int) (a i : Nat) : Bool := fitsV gs (stL h S) (valA gs h a i).1 (valA gs h a i).2 (fieldF (tyA gs h a) i)
def fitA (gs : List (List Ty)) (h : GHeap) (S : List Int) (a : Nat) : Bool := allTo (fit1 gs h S a) (lenA gs h a)
def yng1 (gs : List (List Ty)) (h : GHeap) (a i : Nat) : Bool := (valA gs h a i).1 == 4 && decide (h.old ≤ (valA gs h a i).2)
def ref1 (gs : List (List Ty)) (h : GHeap) (a i : Nat) : Bool := !((fieldF (tyA gs h a) i).kind == 1)
/-- The places in things for which F holds. -/
def plA (gs : List (List Ty)) (h : GHeap) (F : Nat → Nat → Bool) (a : Nat) (n m : Nat) : Bool := decide (a + 1 ≤ m ∧ m < a + 1 + n) && F a (m - (a + 1))
def plB (gs : List (List Ty)) (h : GHeap) (F : Nat → Nat → Bool) (L : List Int) (m : Nat) : Bool := L.any fun a => plA gs h F a.toNat (lenA gs h a.toNat) m
theorem plB_snoc {gs : List (List Ty)} {h : GHeap} {F : Nat → Nat → Bool} {L : List Int} {a : Int} {m : Nat} : plB gs h F (L ++ [a]) m = (plB gs h F L m || plA gs h F a.toNat (lenA gs h a.toNat) m) := by
 unfold plB; simp
theorem plA_zero {gs : List (List Ty)} {h : GHeap} {F : Nat → Nat → Bool} {a m : Nat} : plA gs h F a 0 m = false := by
 unfold plA; simp; omega
theorem plA_step {gs : List (List Ty)} {h : GHeap} {F : Nat → Nat → Bool} {a n m : Nat} : plA gs h F a (n + 1) m = (plA gs h F a n m || (F a n && decide (m = a + 1 + n))) := by
 unfold plA
 by_cases e : m = a + 1 + n
 ·subst e
  rw [show a + 1 + n - (a + 1) = n by omega]
  simp
 ·have : decide (a + 1 ≤ m ∧ m < a + 1 + (n + 1)) = decide (a + 1 ≤ m ∧ m < a + 1 + n) := by rw [decide_eq_decide]; omega
  rw [this, decide_eq_false e]
  simp
theorem plA_iff {gs : List (List Ty)} {h : GHeap} {F : Nat → Nat → Bool} {a n m : Nat} : plA gs h F a n m = true ↔ ∃ i, i < n ∧ m = a + 1 + i ∧ F a i = true := by
 unfold plA
 simp only [Bool.and_eq_true, decide_eq_true_eq]
 constructor
 ·rintro ⟨⟨h1, h2⟩, h3⟩; exact ⟨m - (a + 1), by omega, by omega, h3⟩
 ·rintro ⟨i, h1, rfl, h3⟩; exact ⟨by omega, by rwa [show a + 1 + i - (a + 1) = i by omega]⟩

/-- What is young and named by an old thing is known. -/
def yngF (gs : List (List Ty)) (h : GHeap) : Bool := allTo (fun m => !plB gs h (yng1 gs h) (partO gs h).1 m || decide ((m : Int) ∈ h.log)) 192
def allFits (gs : List (List Ty)) (h : GHeap) (S : List Int) : Bool := allTo (fun j => fitA gs h S (nAt S j).toNat) S.length

theorem refs1_mem {gs : List (List Ty)} {h : GHeap} {a : Nat} {x : Int} : ∀ n, x ∈ refs1 gs h a n ↔ ∃ i, i < n ∧ x = (a : Int) + 1 + i ∧ ref1 gs h a i = true
 | 0 => by simp [refs1]
 | n + 1 => by
  unfold refs1
  have hr : ref1 gs h a n = !((fieldF (tyA gs h a) n).kind == 1) := rfl
  by_cases hk : (fieldF (tyA gs h a) n).kind = 1
  ·rw [if_pos hk, refs1_mem n]
   constructor
   ·rintro ⟨i, h1, h2⟩; exact ⟨i, by omega, h2⟩
   ·rintro ⟨i, h1, h2, h3⟩
    refine ⟨i, ?_, h2, h3⟩
    by_cases e : i = n
    ·subst e; rw [hr, hk] at h3; simp at h3
    ·omega
  ·rw [if_neg hk, List.mem_append, refs1_mem n]
   constructor
   ·rintro (⟨i, h1, h2⟩ | h1)
    ·exact ⟨i, by omega, h2⟩
    ·exact ⟨n, by omega, by simpa using h1, by rw [hr]; simpa using hk⟩
   ·rintro ⟨i, h1, h2, h3⟩
    by_cases e : i = n
    ·subst e; exact .inr (by simpa using h2)
    ·exact .inl ⟨i, by omega, h2, h3⟩
theorem refsTo_mem {gs : List (List Ty)} {h : GHeap} {S : List Int} {x : Int} : ∀ n, x ∈ refsTo gs h S n ↔ ∃ j, j < n ∧ x ∈ refsA gs h (nAt S j)
 | 0 => by simp [refsTo]
 | n + 1 => by
  unfold refsTo
  rw [List.mem_append, refsTo_mem n]
  constructor
  ·rintro (⟨i, h1, h2⟩ | h1)
   ·exact ⟨i, by omega, h2⟩
   ·exact ⟨n, by omega, h1⟩
  ·rintro ⟨i, h1, h2⟩
   by_cases e : i = n
   ·subst e; exact .inr h2
   ·exact .inl ⟨i, by omega, h2⟩
theorem nAt_mem {T : List Int} {t : Int} : t ∈ T ↔ ∃ q, q < T.length ∧ nAt T q = t := by
 constructor
 ·intro h
  obtain ⟨q, h1, h2⟩ := List.getElem_of_mem h
  exact ⟨q, h1, by unfold nAt; rw [List.getD_eq_getElem?_getD, List.getElem?_eq_getElem h1]; exact h2⟩
 ·rintro ⟨q, h1, rfl⟩
  have e : T[q] = nAt T q := by unfold nAt; rw [List.getD_eq_getElem?_getD, List.getElem?_eq_getElem h1]; rfl
  rw [← e]; exact List.getElem_mem h1
theorem partO_mem {gs : List (List Ty)} {h : GHeap} (hs : SizeOk h) {a : Int} (ha : a ∈ (partO gs h).1) : ∃ k : Nat, a = (k : Int) ∧ (k : Int) < h.old ∧ 0 ≤ lenF gs (nAt h.words k) ∧ (k : Int) + 1 + (lenF gs (nAt h.words k)).toNat ≤ h.oldAt := by
 obtain ⟨o1, o2, n1, n2, a1, a2, y1, y2⟩ := hs
 obtain ⟨k, e, h2, h3, h4, h5⟩ := part_mem _ _ (Nat.le_refl _) a ha
 exact ⟨k, e, by omega, h4, by omega⟩
theorem partY_mem {gs : List (List Ty)} {h : GHeap} (hs : SizeOk h) {a : Int} (ha : a ∈ (partY gs h).1) : ∃ k : Nat, a = (k : Int) ∧ h.old ≤ (k : Int) ∧ 0 ≤ lenF gs (nAt h.words k) ∧ (k : Int) + 1 + (lenF gs (nAt h.words k)).toNat ≤ h.old + h.youngAt := by
 obtain ⟨o1, o2, n1, n2, a1, a2, y1, y2⟩ := hs
 obtain ⟨k, e, h2, h3, h4, h5⟩ := part_mem _ _ (Nat.le_refl _) a ha
 exact ⟨k, e, by omega, h4, by omega⟩
theorem lenA_eq {gs : List (List Ty)} {h : GHeap} {k : Nat} (h0 : 0 ≤ lenF gs (nAt h.words k)) : lenA gs h k = (lenF gs (nAt h.words k)).toNat := by
 unfold lenA; rw [(lenF_pos h0).1]
/-- The references of the old things, as places. -/
theorem refs_iff {gs : List (List Ty)} {h : GHeap} (hs : SizeOk h) {x : Int} : x ∈ refsF gs h (startsF gs h) ↔ ∃ m : Nat, x = (m : Int) ∧ plB gs h (ref1 gs h) (partO gs h).1 m = true := by
 unfold refsF
 rw [refsTo_mem]
 unfold plB
 simp only [List.any_eq_true, plA_iff]
 constructor
 ·rintro ⟨j, h1, h2⟩
  have hm : nAt (startsF gs h) j ∈ startsF gs h := nAt_mem.2 ⟨j, h1, rfl⟩
  generalize nAt (startsF gs h) j = a at *
  unfold refsA at h2
  split at h2
  ·rename_i ho
   obtain ⟨i, i1, i2, i3⟩ := (refs1_mem _).1 h2
   rcases List.mem_append.1 hm with hm | hm
   ·obtain ⟨k, rfl, _⟩ := partO_mem hs hm
    exact ⟨k + 1 + i, by rw [i2]; simp, k, hm, i, i1, by simp, i3⟩
   ·obtain ⟨k, rfl, q, _⟩ := partY_mem hs hm
    omega
  ·simp at h2
 ·rintro ⟨m, rfl, a, ha, i, i1, rfl, i3⟩
  obtain ⟨k, rfl, k1, _⟩ := partO_mem hs ha
  obtain ⟨j, j1, j2⟩ := nAt_mem.1 (show (k : Int) ∈ startsF gs h from List.mem_append.2 (.inl ha))
  refine ⟨j, j1, ?_⟩
  rw [j2]
  unfold refsA
  rw [if_pos k1]
  exact (refs1_mem _).2 ⟨i, i1, by simp, i3⟩

theorem starts_ok {gs : List (List Ty)} {h : GHeap} (hs : SizeOk h) : StOk gs h (startsF gs h) := fun a ha => by
 obtain ⟨k, e, h0, h1, _⟩ := starts_mem hs ha
 have := lenF_pos h0
 exact ⟨k, e, by omega, this.2.1, this.2.2.1⟩
/-- The fields of a thing's type. -/
theorem thing_ty {gs : List (List Ty)} {h : GHeap} (hP : Parts gs) {k : Nat} (h0 : 0 ≤ lenF gs (nAt h.words k)) {i : Nat} (hi : i < lenA gs h k) : fieldOk (fieldF (tyA gs h k) i).kind (fieldF (tyA gs h k) i).of (kinCount gs : Nat) = true := by
 obtain ⟨e1, e2, e3, e4, e5⟩ := lenF_pos h0
 have hp : (nAt h.words k / 16).toNat < kinCount gs := by omega
 have hf := (parts_flat hP hp).2.2
 unfold tyA fieldF
 rcases kind_of_parts hP hp with hk | ⟨hk, hl⟩
 ·rw [if_neg (by omega)]
  exact hf i (by have := e4 hk; unfold lenA at hi; omega)
 ·rw [if_pos hk]
  exact hf 0 (by omega)
theorem valA_none {gs : List (List Ty)} {h : GHeap} {a i : Nat} (e : wordVal (fieldF (tyA gs h a) i).kind (nAt h.words (a + 1 + i)) = none) : valA gs h a i = (0, 0) := by unfold valA; rw [e]; rfl
theorem valA_some {gs : List (List Ty)} {h : GHeap} {a i : Nat} {p : Int × Int} (e : wordVal (fieldF (tyA gs h a) i).kind (nAt h.words (a + 1 + i)) = some p) : valA gs h a i = p := by unfold valA; rw [e]; rfl
theorem word1_eq {gs : List (List Ty)} {h : GHeap} {S : List Int} (hS : StOk gs h S) {a i : Nat} (hf : fieldOk (fieldF (tyA gs h a) i).kind (fieldF (tyA gs h a) i).of (kinCount gs : Nat) = true) :
 word1 gs h S a i = (fit1 gs h S a i && !((decide ((a : Int) < h.old) && yng1 gs h a i) && !decide ((a : Int) + 1 + i ∈ h.log))) := by
 unfold word1 fit1 yng1
 cases e : wordVal (fieldF (tyA gs h a) i).kind (nAt h.words (a + 1 + i)) with
 | none =>
  rw [valA_none e]
  generalize fieldF (tyA gs h a) i = f at *
  obtain ⟨fk, fo, fm⟩ := f
  simp [fitsV, valOkF, valForm]
 | some p =>
  obtain ⟨k, n⟩ := p
  rw [valA_some e]
  generalize fieldF (tyA gs h a) i = f at *
  obtain ⟨fk, fo, fm⟩ := f
  simp only at hf ⊢
  rw [hfit_fits hS, hf, Bool.true_and]
  unfold knownF
  congr 1
  rw [Bool.eq_iff_iff]
  simp
theorem known_eq {gs : List (List Ty)} {h : GHeap} (hs : SizeOk h) : yngF gs h = true ↔ ∀ a ∈ startsF gs h, ∀ i, i < lenA gs h a.toNat → ¬ (((a.toNat : Int) < h.old ∧ yng1 gs h a.toNat i = true) ∧ ¬ ((a.toNat : Int) + 1 + i ∈ h.log)) := by
 have o2 := hs.o2
 have a2 := hs.a2
 unfold yngF
 rw [allTo_iff]
 constructor
 ·rintro hy a ha i hi ⟨⟨c1, c2⟩, c3⟩
  rcases List.mem_append.1 ha with hm | hm
  ·obtain ⟨k, rfl, k1, k2, k3⟩ := partO_mem hs hm
   rw [Int.toNat_natCast] at *
   have hl := lenA_eq k2
   have := hy (k + 1 + i) (by omega)
   simp only [Bool.or_eq_true, Bool.not_eq_true', decide_eq_true_eq] at this
   rcases this with h1 | h1
   ·have : plB gs h (yng1 gs h) (partO gs h).1 (k + 1 + i) = true := by
     unfold plB
     rw [List.any_eq_true]
     exact ⟨(k : Int), hm, plA_iff.2 ⟨i, by rwa [Int.toNat_natCast], by rw [Int.toNat_natCast], by rwa [Int.toNat_natCast]⟩⟩
    rw [h1] at this; cases this
   ·exact c3 (by simpa using h1)
  ·obtain ⟨k, rfl, k1, _⟩ := partY_mem hs hm
   rw [Int.toNat_natCast] at c1
   omega
 ·intro hy m hm
  rw [Bool.or_eq_true, Bool.not_eq_true', decide_eq_true_eq]
  cases hp : plB gs h (yng1 gs h) (partO gs h).1 m with
  | false => exact .inl rfl
  | true =>
   refine .inr ?_
   unfold plB at hp
   rw [List.any_eq_true] at hp
   obtain ⟨a, ha, hp⟩ := hp
   obtain ⟨i, i1, rfl, i3⟩ := plA_iff.1 hp
   obtain ⟨k, rfl, k1, _⟩ := partO_mem hs ha
   have := hy (k : Int) (List.mem_append.2 (.inl ha)) i i1
   rw [Int.toNat_natCast] at *
   exact Classical.not_not.1 fun hn => this ⟨⟨k1, i3⟩, by simpa using hn⟩
theorem bool_of_iff {a b : Bool} (h : a = true ↔ b = true) : a = b := Bool.eq_iff_iff.2 h
theorem all_eq {gs : List (List Ty)} {h : GHeap} (hP : Parts gs) (hs : SizeOk h) : allWordsF gs h (startsF gs h) (startsF gs h).length = (allFits gs h (startsF gs h) && yngF gs h) := by
 refine bool_of_iff ?_
 rw [Bool.and_eq_true, known_eq hs]
 unfold allWordsF allFits wordsF fitA
 simp only [allTo_iff]
 have key : ∀ j, j < (startsF gs h).length → ∀ i, i < lenA gs h (nAt (startsF gs h) j).toNat → word1 gs h (startsF gs h) (nAt (startsF gs h) j).toNat i = (fit1 gs h (startsF gs h) (nAt (startsF gs h) j).toNat i && !((decide (((nAt (startsF gs h) j).toNat : Int) < h.old) && yng1 gs h (nAt (startsF gs h) j).toNat i) && !decide (((nAt (startsF gs h) j).toNat : Int) + 1 + i ∈ h.log))) := fun j hj i hi => by
  obtain ⟨k, e, h0, _⟩ := starts_mem hs (nAt_mem.2 ⟨j, hj, rfl⟩)
  rw [e, Int.toNat_natCast] at hi ⊢
  exact word1_eq (starts_ok hs) (thing_ty hP h0 hi)
 constructor
 ·intro hw
  refine ⟨fun j hj i hi => ?_, fun a ha i hi => ?_⟩
  ·have := hw j hj i hi
   rw [key j hj i hi, Bool.and_eq_true] at this
   exact this.1
  ·obtain ⟨j, hj, rfl⟩ := nAt_mem.1 ha
   have := hw j hj i hi
   rw [key j hj i hi, Bool.and_eq_true] at this
   rintro ⟨⟨c1, c2⟩, c3⟩
   have t := this.2
   rw [decide_eq_true c1, c2, decide_eq_false c3] at t
   exact absurd t (by decide)
 ·rintro ⟨h1, h2⟩ j hj i hi
  rw [key j hj i hi, Bool.and_eq_true]
  refine ⟨h1 j hj i hi, ?_⟩
  have := h2 _ (nAt_mem.2 ⟨j, hj, rfl⟩) i hi
  rw [Bool.not_eq_true']
  refine Bool.eq_false_iff.2 fun hb => this ?_
  simp only [Bool.and_eq_true, decide_eq_true_eq, Bool.not_eq_true', decide_eq_false_iff_not] at hb
  exact hb
/-- HeapOk, as the program asks it. -/
def logP (gs : List (List Ty)) (h : GHeap) (i : Nat) : Bool := (decide (0 ≤ nAt h.log i) && plB gs h (ref1 gs h) (partO gs h).1 (nAt h.log i).toNat) && !decide (nAt h.log i ∈ h.log.take i)
theorem log1_eq {gs : List (List Ty)} {h : GHeap} (hs : SizeOk h) (i : Nat) : log1 h (refsF gs h (startsF gs h)) i = logP gs h i := by
 unfold log1 logP
 congr 1
 refine bool_of_iff ?_
 rw [decide_eq_true_eq, refs_iff hs, Bool.and_eq_true, decide_eq_true_eq]
 constructor
 ·rintro ⟨m, e, h1⟩; rw [e, Int.toNat_natCast]; exact ⟨by omega, h1⟩
 ·rintro ⟨h0, h1⟩; exact ⟨(nAt h.log i).toNat, by omega, h1⟩
theorem heapOk_eq {gs : List (List Ty)} {h : GHeap} (hk : kinOkF gs = true) (hs : SizeOk h) :
 heapOkF gs h = ((wholeF gs h && zeroF h) && (allFits gs h (startsF gs h) && (allTo (logP gs h) h.log.length && yngF gs h))) := by
 unfold heapOkF
 rw [hk, (sizeF_iff h).2 hs, all_eq (kinOk_parts hk) hs]
 have e : logF gs h (startsF gs h) = allTo (logP gs h) h.log.length := allTo_congr fun i _ => log1_eq hs i
 rw [e]
 cases wholeF gs h <;> cases zeroF h <;> cases allFits gs h (startsF gs h) <;> cases allTo (logP gs h) h.log.length <;> cases yngF gs h <;> rfl
theorem heapOk_kin {gs : List (List Ty)} {h : GHeap} (hk : kinOkF gs = false) : heapOkF gs h = false := by unfold heapOkF; rw [hk]; rfl
theorem heapOk_size {gs : List (List Ty)} {h : GHeap} (hs : ¬ SizeOk h) : heapOkF gs h = false := by
 have : sizeF h = false := Bool.eq_false_iff.2 fun e => hs ((sizeF_iff h).1 e)
 unfold heapOkF; rw [this]; simp
end Go.Proofs.YtembifoimiochaaGreatDoor
