/- Where things begin: what findThings writes; whole and clear. -/
import Derived.Test.YtembifoimiochaaGreatDoorHpV7
namespace Go.Proofs.YtembifoimiochaaGreatDoor
open Go.ChangeShapes Go.WideShapes Go.ChangeAt Go.RowKit Go.Shelf Go.Deep
set_option linter.unusedVariables false
set_option linter.unusedSimpArgs false

theorem zero_split {h : GHeap} (hs : SizeOk h) : zeroF h = (clearF h.words (0 + h.oldAt.toNat) (0 + h.old.toNat) && clearF h.words (h.old.toNat + h.youngAt.toNat) (h.old.toNat + (h.words.length - h.old.toNat))) := by
 obtain ⟨o1, o2, n1, n2, a1, a2, y1, y2⟩ := hs
 rw [Bool.eq_iff_iff, Bool.and_eq_true]
 unfold zeroF clearF
 simp only [allTo_iff, zero1, Bool.or_eq_true, decide_eq_true_eq, Bool.not_eq_true', Bool.or_eq_false_iff, decide_eq_false_iff_not]
 constructor
 ·intro hz
  refine ⟨fun i hi => ?_, fun i hi => ?_⟩
  ·rcases hz (0 + h.oldAt.toNat + i) (by omega) with h1 | h1
   ·exact h1
   ·exact absurd (by omega) h1.1
  ·rcases hz (h.old.toNat + h.youngAt.toNat + i) (by omega) with h1 | h1
   ·exact h1
   ·exact absurd (by omega) h1.2
 ·rintro ⟨h1, h2⟩ i hi
  by_cases c1 : h.oldAt ≤ (i : Int) ∧ (i : Int) < h.old
  ·left
   have := h1 (i - h.oldAt.toNat) (by omega)
   rwa [show 0 + h.oldAt.toNat + (i - h.oldAt.toNat) = i by omega] at this
  ·by_cases c2 : h.old + h.youngAt ≤ (i : Int)
   ·left
    have := h2 (i - (h.old.toNat + h.youngAt.toNat)) (by omega)
    rwa [show h.old.toNat + h.youngAt.toNat + (i - (h.old.toNat + h.youngAt.toNat)) = i by omega] at this
   ·right; exact ⟨c1, c2⟩
theorem view_whole {gs : List (List Ty)} {W : List Int} (f u : Nat) : (part gs W (f + u) f).2 = decide (sumW gs W (part gs W (f + u) f).1 = u) := by
 have h := part_sum (gs := gs) (W := W) (to := f + u) (f + u - f) f (Nat.le_refl _) (by omega)
 rw [Bool.eq_iff_iff, h.2, decide_eq_true_eq]
 omega
theorem sumW_le {gs : List (List Ty)} {W : List Int} (f u : Nat) : sumW gs W (part gs W (f + u) f).1 ≤ u := by
 have h := part_sum (gs := gs) (W := W) (to := f + u) (f + u - f) f (Nat.le_refl _) (by omega)
 omega

/-- What is kept while it is noted where things begin. -/
structure KpF (S sb : Nat) (A B : World) : Prop where
 os : B.os = A.os
 tape : B.tape = A.tape
 output : B.output = A.output
 sz : A.heap.size ≤ B.heap.size
 blk : ∀ k, k < S → k ≠ sb → B.heap[k]? = A.heap[k]?
 ws : ∀ o, (o < 168 ∨ 488 ≤ o) → B.cell? ⟨sb, o, none⟩ = A.cell? ⟨sb, o, none⟩
 fr : ∀ o, B.frozen? ⟨sb, o, none⟩ = A.frozen? ⟨sb, o, none⟩
theorem KpF.refl (S sb : Nat) (A : World) : KpF S sb A A := ⟨rfl, rfl, rfl, Nat.le_refl _, fun _ _ _ => rfl, fun _ _ => rfl, fun _ => rfl⟩
theorem KpF.trans {S sb : Nat} {A B C : World} (h : KpF S sb A B) (k : KpF S sb B C) : KpF S sb A C :=
 ⟨k.os.trans h.os, k.tape.trans h.tape, k.output.trans h.output, Nat.le_trans h.sz k.sz, fun j h1 h2 => (k.blk j h1 h2).trans (h.blk j h1 h2), fun o ho => (k.ws o ho).trans (h.ws o ho), fun o => (k.fr o).trans (h.fr o)⟩
theorem KpF.of_below {S sb : Nat} {A B : World} (h : Below S A B) (hs : sb < S) : KpF S sb A B :=
 ⟨h.os, h.tape, h.output, h.size, fun k h1 _ => h.block k h1, fun o _ => h.cell (p := ⟨sb, o, none⟩) hs, fun o => frozen_block (h.block sb hs) o⟩
theorem KpF.store {S sb o : Nat} {A : World} (h1 : 168 ≤ o) (h2 : o < 488) (v : Value) : KpF S sb A (A.setCell ⟨sb, o, none⟩ v) :=
 ⟨rfl, rfl, rfl, by simp [World.setCell], fun k _ h2 => Below.heap_setCell _ _ _ _ h2, fun o' h' => cell_setCell_off A v (by omega), fun o' => frozen_setCell _ _ _ _ _⟩
theorem KpF.mono {S S' sb : Nat} {A B : World} (h : KpF S sb A B) (hS : S' ≤ S) : KpF S' sb A B := ⟨h.os, h.tape, h.output, h.sz, fun k h1 h2 => h.blk k (by omega) h2, h.ws, h.fr⟩
theorem KpF.spa {S sb lo hi : Nat} {A B : World} {gs : List (List Ty)} {h : GHeap} {ra : Option Addr} {rc cb co cc : Nat} (k : KpF S sb A B) (H : SpA A lo hi sb gs h ra rc cb co cc) (hl : h.words.length ≤ 160) (hS : hi ≤ S) : SpA B lo hi sb gs h ra rc cb co cc := by
 have hh := H.hh
 have c : ∀ o, o < 168 → B.cell? ⟨sb, o, none⟩ = A.cell? ⟨sb, o, none⟩ := fun o ho => k.ws o (.inl ho)
 have b : ∀ j, j < hi → B.heap[j]? = A.heap[j]? := fun j hj => k.blk j (by omega) (by omega)
 exact ⟨H.hh, Nat.lt_of_lt_of_le H.lt k.sz, ⟨H.tab.1.same (fun j _ hj => b j hj) (Nat.le_refl _) (Nat.le_refl _), H.tab.2.1, fun i hi' => (World.cell?_of_block (w := A) (b cb H.tab.2.1)).trans (H.tab.2.2 i hi')⟩, (c _ (by omega)).trans H.k0, (c _ (by omega)).trans H.k1, fun i hi' => (c _ (by omega)).trans (H.ws i hi'), (c _ (by omega)).trans H.o0, (c _ (by omega)).trans H.o1, (c _ (by omega)).trans H.o2, (c _ (by omega)).trans H.y0, (c _ (by omega)).trans H.y1, (c _ (by omega)).trans H.y2⟩

/-- The types of what begins where, as they lie in the space. -/
def StAt (w : World) (sb : Nat) (F : Nat → Int) : Prop := ∀ n, n < 160 → w.cell? ⟨sb, 168 + n * 2, none⟩ = some (.int .i64 (F n)) ∧ w.cell? ⟨sb, 168 + n * 2 + 1, none⟩ = some (.slice none 0 0)
theorem StAt.things {w : World} {sb : Nat} {h : GHeap} {S : List Int} (H : StAt w sb (stT h S)) : ThingsM false w 0 (sb + 1) (some ⟨sb, 168, none⟩) (stL h S) := by
 refine .inr ⟨sb, 168, rfl, Nat.zero_le _, Nat.lt_succ_self _, (fun e => by cases e), fun i hi => ?_⟩
 rw [stL_len] at hi
 rw [stL_at h S hi]
 exact ⟨none, 0, (H i hi).1, (H i hi).2, .inl rfl⟩
theorem StAt.cells {w w' : World} {sb : Nat} {F : Nat → Int} (H : StAt w sb F) (c : ∀ o, w'.cell? ⟨sb, o, none⟩ = w.cell? ⟨sb, o, none⟩) : StAt w' sb F := fun n hn => ⟨(c _).trans (H n hn).1, (c _).trans (H n hn).2⟩
theorem StAt.set {w : World} {sb m : Nat} {F : Nat → Int} (H : StAt w sb F) (t : Int) (hm : m < 160) : StAt (w.setCell ⟨sb, 168 + m * 2, none⟩ (.int .i64 t)) sb (fun n => if n = m then t else F n) := fun n hn => by
 refine ⟨?_, (cell_setCell_off w _ (by omega)).trans (H n hn).2⟩
 by_cases e : n = m
 ·subst e
  show _ = some (Value.int .i64 (if n = n then t else F n))
  rw [if_pos rfl]
  exact World.cell?_setCell_same w ⟨sb, 168 + n * 2, none⟩ _ (H n hn).1
 ·show _ = some (Value.int .i64 (if n = m then t else F n))
  rw [if_neg e]
  exact (cell_setCell_off w _ (by omega)).trans (H n hn).1
theorem stT_snoc {h : GHeap} {S : List Int} {a n : Nat} : stT h (S ++ [(a : Int)]) n = if n = a then nAt h.words a / 16 else stT h S n := by
 unfold stT
 by_cases e : n = a
 ·subst e; simp
 ·have e2 : ¬ (n : Int) = (a : Int) := by omega
  simp [e, e2]
theorem stT_nil {h : GHeap} {n : Nat} : stT h [] n = -1 := by simp [stT]
end Go.Proofs.YtembifoimiochaaGreatDoor
