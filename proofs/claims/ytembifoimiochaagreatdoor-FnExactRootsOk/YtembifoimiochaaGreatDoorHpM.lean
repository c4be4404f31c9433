/- Heaps, plainly: where things begin, and what is right. -/
import Derived.Test.YtembifoimiochaaGreatDoorPaSpecB
import Derived.Test.YtembifoimiochaaGreatDoorPhWord
import Derived.Test.YtembifoimiochaaGreatDoorPhGen
namespace Go.Proofs.YtembifoimiochaaGreatDoor
open Go.ChangeShapes Go.WideShapes Go.ChangeAt Go.RowKit
set_option linter.unusedVariables false

/-- How many values the thing has whose head it is, or -1. -/
def lenF (gs : List (List Ty)) (head : Int) : Int :=
 if head < 0 ∨ (kinCount gs : Int) ≤ head / 16 then -1
 else if ((tyN gs (head / 16).toNat).kind = 1 ∧ head % 16 ≠ ((tyN gs (head / 16).toNat).fields.length : Int)) ∨ 6 < head % 16 then -1 else head % 16
theorem lenF_le (gs : List (List Ty)) (head : Int) : -1 ≤ lenF gs head ∧ lenF gs head ≤ 6 := by
 unfold lenF
 split
 ·omega
 ·split <;> omega
theorem lenF_pos {gs : List (List Ty)} {head : Int} (h : 0 ≤ lenF gs head) : lenF gs head = head % 16 ∧ 0 ≤ head ∧ head / 16 < (kinCount gs : Int) ∧ ((tyN gs (head / 16).toNat).kind = 1 → head % 16 = ((tyN gs (head / 16).toNat).fields.length : Int)) ∧ head % 16 ≤ 6 := by
 unfold lenF at h ⊢
 split at h
 ·omega
 ·rename_i h1
  rw [if_neg h1]
  split at h
  ·omega
  ·rename_i h2
   rw [if_neg h2]
   refine ⟨rfl, by omega, by omega, fun e => ?_, by omega⟩
   exact Classical.not_not.1 fun hn => h2 (.inl ⟨e, hn⟩)

/-- Where things begin from a place on, up to another one, and whether they are whole. -/
def partF (gs : List (List Ty)) (W : List Int) (to : Nat) : Nat → Nat → List Int × Bool
 | 0, _ => ([], true)
 | f + 1, fr => if fr < to then (if lenF gs (nAt W fr) < 0 ∨ to < fr + 1 + (lenF gs (nAt W fr)).toNat then ([], false) else ((fr : Int) :: (partF gs W to f (fr + 1 + (lenF gs (nAt W fr)).toNat)).1, (partF gs W to f (fr + 1 + (lenF gs (nAt W fr)).toNat)).2)) else ([], true)
theorem partF_big {gs : List (List Ty)} {W : List Int} {to : Nat} : ∀ (f g fr : Nat), to - fr ≤ f → to - fr ≤ g → partF gs W to f fr = partF gs W to g fr
 | 0, 0, fr, _, _ => rfl
 | 0, g + 1, fr, h, _ => by
  have : ¬ fr < to := by omega
  simp [partF, this]
 | f + 1, 0, fr, _, h => by
  have : ¬ fr < to := by omega
  simp [partF, this]
 | f + 1, g + 1, fr, h1, h2 => by
  unfold partF
  rw [partF_big f g (fr + 1 + (lenF gs (nAt W fr)).toNat) (by omega) (by omega)]
def part (gs : List (List Ty)) (W : List Int) (to fr : Nat) : List Int × Bool := partF gs W to (to - fr) fr
theorem part_stop {gs : List (List Ty)} {W : List Int} {to fr : Nat} (h : to ≤ fr) : part gs W to fr = ([], true) := by
 unfold part; rw [show to - fr = 0 by omega]; rfl
theorem part_bad {gs : List (List Ty)} {W : List Int} {to fr : Nat} (h : fr < to) (hb : lenF gs (nAt W fr) < 0 ∨ to < fr + 1 + (lenF gs (nAt W fr)).toNat) : part gs W to fr = ([], false) := by
 unfold part
 rw [show to - fr = (to - fr - 1) + 1 by omega]
 unfold partF
 rw [if_pos h, if_pos hb]
theorem part_step {gs : List (List Ty)} {W : List Int} {to fr : Nat} (h : fr < to) (hb : ¬ (lenF gs (nAt W fr) < 0 ∨ to < fr + 1 + (lenF gs (nAt W fr)).toNat)) :
  part gs W to fr = ((fr : Int) :: (part gs W to (fr + 1 + (lenF gs (nAt W fr)).toNat)).1, (part gs W to (fr + 1 + (lenF gs (nAt W fr)).toNat)).2) := by
 unfold part
 rw [show to - fr = (to - fr - 1) + 1 by omega]
 rw [show partF gs W to (to - (fr + 1 + (lenF gs (nAt W fr)).toNat)) (fr + 1 + (lenF gs (nAt W fr)).toNat) = partF gs W to (to - fr - 1) (fr + 1 + (lenF gs (nAt W fr)).toNat) from partF_big _ _ _ (Nat.le_refl _) (by omega)]
 conv => lhs; unfold partF
 rw [if_pos h, if_neg hb]
theorem part_len {gs : List (List Ty)} {W : List Int} {to : Nat} : ∀ (m fr : Nat), to - fr ≤ m → (part gs W to fr).1.length ≤ to - fr := by
 intro m
 induction m with
 | zero => intro fr h; rw [part_stop (by omega)]; simp
 | succ m ih =>
  intro fr h
  by_cases h1 : fr < to
  ·by_cases hb : lenF gs (nAt W fr) < 0 ∨ to < fr + 1 + (lenF gs (nAt W fr)).toNat
   ·rw [part_bad h1 hb]; simp
   ·rw [part_step h1 hb]
    have := ih (fr + 1 + (lenF gs (nAt W fr)).toNat) (by omega)
    simp only [List.length_cons]
    omega
  ·rw [part_stop (by omega)]; simp
/-- What is at each beginning: a whole thing. -/
theorem part_mem {gs : List (List Ty)} {W : List Int} {to : Nat} : ∀ (m fr : Nat), to - fr ≤ m → ∀ a ∈ (part gs W to fr).1, ∃ k : Nat, a = (k : Int) ∧ fr ≤ k ∧ k < to ∧ 0 ≤ lenF gs (nAt W k) ∧ k + 1 + (lenF gs (nAt W k)).toNat ≤ to := by
 intro m
 induction m with
 | zero => intro fr h a ha; rw [part_stop (by omega)] at ha; simp at ha
 | succ m ih =>
  intro fr h a ha
  by_cases h1 : fr < to
  ·by_cases hb : lenF gs (nAt W fr) < 0 ∨ to < fr + 1 + (lenF gs (nAt W fr)).toNat
   ·rw [part_bad h1 hb] at ha; simp at ha
   ·rw [part_step h1 hb] at ha
    simp only [List.mem_cons] at ha
    rcases ha with rfl | ha
    ·exact ⟨fr, rfl, Nat.le_refl _, h1, by omega, by omega⟩
    ·obtain ⟨k, e, h2, h3⟩ := ih _ (by omega) a ha
     exact ⟨k, e, by omega, h3⟩
  ·rw [part_stop (by omega)] at ha; simp at ha

/-- A heap's sizes are right. -/
def sizeF (h : GHeap) : Bool := decide (1 ≤ h.old ∧ h.old ≤ 120 ∧ 0 ≤ (h.words.length : Int) - h.old ∧ (h.words.length : Int) - h.old ≤ 40 ∧ 0 ≤ h.oldAt ∧ h.oldAt ≤ h.old ∧ 0 ≤ h.youngAt ∧ h.youngAt ≤ (h.words.length : Int) - h.old)
structure SizeOk (h : GHeap) : Prop where
 o1 : 1 ≤ h.old
 o2 : h.old ≤ 120
 n1 : h.old ≤ (h.words.length : Int)
 n2 : (h.words.length : Int) - h.old ≤ 40
 a1 : 0 ≤ h.oldAt
 a2 : h.oldAt ≤ h.old
 y1 : 0 ≤ h.youngAt
 y2 : h.youngAt ≤ (h.words.length : Int) - h.old
theorem sizeF_iff (h : GHeap) : sizeF h = true ↔ SizeOk h := by
 unfold sizeF
 rw [decide_eq_true_eq]
 exact ⟨fun ⟨a, b, c, d, e, f, g, i⟩ => ⟨a, b, by omega, d, e, f, g, i⟩, fun ⟨a, b, c, d, e, f, g, i⟩ => ⟨a, b, by omega, d, e, f, g, i⟩⟩
def partO (gs : List (List Ty)) (h : GHeap) : List Int × Bool := part gs h.words h.oldAt.toNat 0
def partY (gs : List (List Ty)) (h : GHeap) : List Int × Bool := part gs h.words (h.old + h.youngAt).toNat h.old.toNat
def startsF (gs : List (List Ty)) (h : GHeap) : List Int := (partO gs h).1 ++ (partY gs h).1
def wholeF (gs : List (List Ty)) (h : GHeap) : Bool := (partO gs h).2 && (partY gs h).2
theorem starts_mem {gs : List (List Ty)} {h : GHeap} (hs : SizeOk h) {a : Int} (ha : a ∈ startsF gs h) : ∃ k : Nat, a = (k : Int) ∧ 0 ≤ lenF gs (nAt h.words k) ∧ k + 1 + (lenF gs (nAt h.words k)).toNat ≤ h.words.length ∧ ((k : Int) < h.old → k + 1 + (lenF gs (nAt h.words k)).toNat ≤ h.old.toNat) := by
 obtain ⟨o1, o2, n1, n2, a1, a2, y1, y2⟩ := hs
 rcases List.mem_append.1 ha with h1 | h1
 ·obtain ⟨k, e, h2, h3, h4, h5⟩ := part_mem _ _ (Nat.le_refl _) a h1
  exact ⟨k, e, h4, by omega, fun _ => by omega⟩
 ·obtain ⟨k, e, h2, h3, h4, h5⟩ := part_mem _ _ (Nat.le_refl _) a h1
  exact ⟨k, e, h4, by omega, fun _ => by omega⟩
theorem starts_len {gs : List (List Ty)} {h : GHeap} (hs : SizeOk h) : (startsF gs h).length ≤ 160 := by
 obtain ⟨o1, o2, n1, n2, a1, a2, y1, y2⟩ := hs
 have h1 := part_len (gs := gs) (W := h.words) _ _ (Nat.le_refl (h.oldAt.toNat - 0))
 have h2 := part_len (gs := gs) (W := h.words) _ _ (Nat.le_refl ((h.old + h.youngAt).toNat - h.old.toNat))
 unfold startsF partO partY
 rw [List.length_append]
 omega
/-- All words behind the things are 0. -/
def zero1 (h : GHeap) (i : Nat) : Bool := decide (nAt h.words i = 0) || !(decide (h.oldAt ≤ (i : Int) ∧ (i : Int) < h.old) || decide (h.old + h.youngAt ≤ (i : Int)))
def zeroF (h : GHeap) : Bool := allTo (zero1 h) h.words.length
/-- The field of a type at a place. -/
def fieldF (t : Ty) (i : Nat) : Fd := if t.kind = 2 then fdAt t.fields 0 else fdAt t.fields i
def tyA (gs : List (List Ty)) (h : GHeap) (a : Nat) : Ty := tyN gs (nAt h.words a / 16).toNat
def lenA (gs : List (List Ty)) (h : GHeap) (a : Nat) : Nat := (nAt h.words a % 16).toNat
/-- A value that is written right is of a sort. -/
def hfitF (gs : List (List Ty)) (h : GHeap) (S : List Int) (k n : Int) (f : Fd) : Bool :=
 valForm k n 160 && (if f.kind = 1 ∨ k = 1 then (f.kind == 1) && (k == 1) else if k = 2 then f.kind == 2 else if k = 3 then under gs (-2) f.of else decide (n ∈ S) && under gs (nAt h.words n.toNat / 16) f.of)
def knownF (h : GHeap) (a i : Nat) (k n : Int) : Bool := !(decide ((a : Int) < h.old ∧ k = 4 ∧ h.old ≤ n) && !decide ((a : Int) + 1 + i ∈ h.log))
def word1 (gs : List (List Ty)) (h : GHeap) (S : List Int) (a i : Nat) : Bool :=
 match wordVal (fieldF (tyA gs h a) i).kind (nAt h.words (a + 1 + i)) with
 | none => false
 | some (k, n) => hfitF gs h S k n (fieldF (tyA gs h a) i) && knownF h a i k n
def wordsF (gs : List (List Ty)) (h : GHeap) (S : List Int) (a : Nat) : Bool := allTo (word1 gs h S a) (lenA gs h a)
/-- The places of the references of an old thing. -/
def refs1 (gs : List (List Ty)) (h : GHeap) (a : Nat) : Nat → List Int
 | 0 => []
 | i + 1 => if (fieldF (tyA gs h a) i).kind = 1 then refs1 gs h a i else refs1 gs h a i ++ [(a : Int) + 1 + i]
def refsA (gs : List (List Ty)) (h : GHeap) (a : Int) : List Int := if a < h.old then refs1 gs h a.toNat (lenA gs h a.toNat) else []
def refsTo (gs : List (List Ty)) (h : GHeap) (S : List Int) : Nat → List Int
 | 0 => []
 | k + 1 => refsTo gs h S k ++ refsA gs h (nAt S k)
def refsF (gs : List (List Ty)) (h : GHeap) (S : List Int) : List Int := refsTo gs h S S.length
def log1 (h : GHeap) (R : List Int) (i : Nat) : Bool := decide (nAt h.log i ∈ R) && !decide (nAt h.log i ∈ h.log.take i)
def logF (gs : List (List Ty)) (h : GHeap) (S : List Int) : Bool := allTo (log1 h (refsF gs h S)) h.log.length
def allWordsF (gs : List (List Ty)) (h : GHeap) (S : List Int) (k : Nat) : Bool := allTo (fun j => wordsF gs h S (nAt S j).toNat) k
/-- A heap is right. -/
def heapOkF (gs : List (List Ty)) (h : GHeap) : Bool :=
 (kinOkF gs && (sizeF h && zeroF h)) && (wholeF gs h && (logF gs h (startsF gs h) && allWordsF gs h (startsF gs h) (startsF gs h).length))
end Go.Proofs.YtembifoimiochaaGreatDoor
