/- isYoung, turn: a word of an old thing becomes known. -/
import Derived.Test.YtembifoimiochaaGreatDoorHpV4
namespace Go.Proofs.YtembifoimiochaaGreatDoor
open Go.ChangeShapes Go.WideShapes Go.ChangeAt Go.RowKit Go.Shelf Go.Deep
set_option linter.unusedVariables false
set_option linter.unusedSimpArgs false

theorem isYoung_any (sb : Nat) (n yf : Int) (w : World) (c : w.cell? ⟨sb, 166, none⟩ = some (.int .i64 yf)) :
 Calls Tryz.prog 83 #[.pointer (some ⟨sb, 0, none⟩), .int .i64 n] w fun e w' => e = .returned (.bool (decide (yf ≤ n))) ∧ w' = w := by
 by_cases h : yf ≤ n
 ·go_enter Tryz.func83, Tryz.ntmps83
  go_wp2_with fail
  go_ret
  exact ⟨by simp [h], rfl⟩
 ·go_enter Tryz.func83, Tryz.ntmps83
  go_wp2_with fail
  go_ret
  exact ⟨by simp [h], rfl⟩

/-- What is kept while words become known: all but the end of the space's block. -/
structure KpT (S sb : Nat) (A B : World) : Prop where
 os : B.os = A.os
 tape : B.tape = A.tape
 output : B.output = A.output
 sz : A.heap.size ≤ B.heap.size
 blk : ∀ k, k < S → k ≠ sb → B.heap[k]? = A.heap[k]?
 ws : ∀ o, o < 488 → B.cell? ⟨sb, o, none⟩ = A.cell? ⟨sb, o, none⟩
 fr : ∀ o, B.frozen? ⟨sb, o, none⟩ = A.frozen? ⟨sb, o, none⟩
theorem KpT.refl (S sb : Nat) (A : World) : KpT S sb A A := ⟨rfl, rfl, rfl, Nat.le_refl _, fun _ _ _ => rfl, fun _ _ => rfl, fun _ => rfl⟩
theorem KpT.trans {S sb : Nat} {A B C : World} (h : KpT S sb A B) (k : KpT S sb B C) : KpT S sb A C :=
 ⟨k.os.trans h.os, k.tape.trans h.tape, k.output.trans h.output, Nat.le_trans h.sz k.sz, fun j h1 h2 => (k.blk j h1 h2).trans (h.blk j h1 h2), fun o ho => (k.ws o ho).trans (h.ws o ho), fun o => (k.fr o).trans (h.fr o)⟩
theorem frozen_block {A B : World} {k : Nat} (h : B.heap[k]? = A.heap[k]?) (o : Nat) : B.frozen? ⟨k, o, none⟩ = A.frozen? ⟨k, o, none⟩ := by
 simp [World.frozen?, h]
theorem KpT.of_below {S sb : Nat} {A B : World} (h : Below S A B) (hs : sb < S) : KpT S sb A B :=
 ⟨h.os, h.tape, h.output, h.size, fun k h1 _ => h.block k h1, fun o _ => h.cell (p := ⟨sb, o, none⟩) hs, fun o => frozen_block (h.block sb hs) o⟩
theorem frozen_setCell (A : World) (p : Addr) (v : Value) (b o : Nat) : (A.setCell p v).frozen? ⟨b, o, none⟩ = A.frozen? ⟨b, o, none⟩ := World.frozen?_setCell _ _ _ _
theorem cell_setCell_off (A : World) {b o o' : Nat} (v : Value) (h : o ≠ o') : (A.setCell ⟨b, o', none⟩ v).cell? ⟨b, o, none⟩ = A.cell? ⟨b, o, none⟩ := by
 exact World.cell?_setCell_other A ⟨b, o', none⟩ ⟨b, o, none⟩ v (fun e => h (by cases e; rfl))
theorem KpT.store {S sb o : Nat} {A : World} (ho : 488 ≤ o) (v : Value) : KpT S sb A (A.setCell ⟨sb, o, none⟩ v) :=
 ⟨rfl, rfl, rfl, by simp [World.setCell], fun k _ h2 => Below.heap_setCell _ _ _ _ h2, fun o' h' => cell_setCell_off A v (by omega), fun o' => frozen_setCell _ _ _ _ _⟩

/-- What is known lies in the space: a list, and as bits. -/
def LogAt (w : World) (S sb : Nat) (L : List Int) : Prop :=
 ∃ va cap, w.cell? ⟨sb, 488, none⟩ = some (.slice va L.length cap) ∧ NRow w S (.slice va L.length cap) L ∧ BitsAt w sb 489 (fun (m : Nat) => decide ((m : Int) ∈ L))
theorem LogAt.below {w w' : World} {S sb : Nat} {L : List Int} (h : LogAt w S sb L) (hb : Below w.heap.size w w') (hs : sb < w.heap.size) : LogAt w' S sb L := by
 obtain ⟨va, cap, h1, h2, h3⟩ := h
 exact ⟨va, cap, (hb.cell (p := ⟨sb, 488, none⟩) hs).trans h1, h2.below hb, h3.cells fun o => hb.cell (p := ⟨sb, o, none⟩) hs⟩
theorem setP_mem {L : List Int} {m : Nat} : setP (fun (k : Nat) => decide ((k : Int) ∈ L)) m = fun (k : Nat) => decide ((k : Int) ∈ L ++ [(m : Int)]) := by
 funext k
 unfold setP
 have e : ((k : Int) = (m : Int)) = (k = m) := by rw [eq_iff_iff]; omega
 simp only [List.mem_append, List.mem_singleton, e, Bool.decide_or]

set_option maxRecDepth 100000 in
set_option maxHeartbeats 4000000 in
theorem turn_any (sb S m : Nat) (L : List Int) (w : World) (hs : sb < S) (hS : S ≤ w.heap.size) (H : LogAt w S sb L) (hf : ∀ o, w.frozen? ⟨sb, o, none⟩ = false) (hm : m < 160) (hL : L.length ≤ 1000) :
 Calls Tryz.prog 85 #[.pointer (some ⟨sb, 0, none⟩), .int .i64 (m : Int)] w fun e w' => e = .returned (.tuple #[]) ∧ LogAt w' S sb (if (m : Int) ∈ L then L else L ++ [(m : Int)]) ∧ KpT S sb w w' := by
 have H0 := H
 obtain ⟨va, cap, hc, hrow, hbits⟩ := H
 have HH := hide (bitsHas_any sb 489 (m : Int) _ w hbits)
 have hsw : sb < w.heap.size := Nat.lt_of_lt_of_le hs hS
 rw [decide_eq_true (show 0 ≤ (m : Int) ∧ (m : Int) < 160 by omega), Bool.true_and, Int.toNat_natCast] at HH
 by_cases hmem : (m : Int) ∈ L
 ·rw [decide_eq_true hmem] at HH
  rw [if_pos hmem]
  have H1 := hide H0
  clear H0 hc hrow hbits hmem
  go_enter Tryz.func85, Tryz.ntmps85
  go_wp2_with (first | (go_at_call 84; refine HH.out.mono ?_; rintro e w2 ⟨rfl, rfl⟩))
  first | go_end0 | go_ret
  exact ⟨rfl, H1.out, KpT.refl _ _ _⟩
 ·rw [decide_eq_false hmem] at HH
  rw [if_neg hmem]
  have HA := hide (bitsAdd_any sb 489 m _ w (by omega) hbits hf)
  obtain ⟨x, hx⟩ : ∃ x : Int, x = ((bv (fun i => setP (fun (m : Nat) => decide ((m : Int) ∈ L)) m (64 * (m / 64) + i)) 64 : Nat) : Int) := ⟨_, rfl⟩
  rw [← hx] at HA
  obtain ⟨w2, hw2⟩ : ∃ w2, w2 = w.drew.setCell ⟨sb, 489 + m / 64, none⟩ (.int .u64 x) := ⟨_, rfl⟩
  rw [← hw2] at HA
  have K2 : Hid (KpT S sb w w2) := by show KpT _ _ _ _; rw [hw2]; exact (KpT.of_below ((Below.refl S w).drew) hs).trans (KpT.store (by omega) _)
  have B2 : Hid (BitsAt w2 sb 489 (fun (k : Nat) => decide ((k : Int) ∈ L ++ [(m : Int)]))) := by
   show BitsAt _ _ _ _
   rw [← setP_mem]
   refine hbits.add (by omega) (fun j hj hne => ?_) ?_
   ·rw [hw2]; exact cell_setCell_off w.drew _ (by omega)
   ·rw [hw2, ← hx]; exact World.cell?_setCell_same w.drew ⟨sb, 489 + m / 64, none⟩ _ (hbits (m / 64) (by omega))
  have c2 : w2.cell? ⟨sb, 488, none⟩ = some (.slice va L.length cap) := by rw [hw2]; exact (cell_setCell_off w.drew _ (by omega)).trans hc
  have N2 : Hid (NRow w2 S (.slice va L.length cap) L) := owns_of_block hrow fun k hk => by
   have := owns_base hrow k hk
   rw [hw2]
   exact Below.heap_setCell _ _ _ _ (by show k ≠ sb; omega)
  have hz2 : w2.heap.size = w.heap.size := by rw [hw2]; simp [World.setCell]
  have hs2 : sb < w2.heap.size := by omega
  have hs3 : sb < w2.heap.size + 1 := by omega
  have hS2 : S ≤ w2.heap.size := by omega
  have HM := hide hmem
  clear H0 hc hrow hbits hmem hx hw2 hS hz2
  have hfz := hf 488
  go_enter Tryz.func85, Tryz.ntmps85
  go_wp2_with (first | (go_at_call 84; refine HH.out.mono ?_; rintro e w3 ⟨rfl, hw⟩; obtain rfl := hw.symm) | (go_at_call 81; refine HA.out.mono ?_; rintro e w3 ⟨rfl, hw⟩; obtain rfl := hw.symm) | (at_builtin; refine wpList_snoc_num rfl _ _ rfl S (.slice va L.length cap) L (m : Int) rfl N2.out (by first | rfl | (simp only [World.size_alloc]; rfl) | (simp; rfl) | simp) hL hS2 ?_))
  intro g cap' w5 N5 b5
  have N6 := hide N5
  have c5 := (b5.cell (p := ⟨sb, 488, none⟩) hs).trans c2
  have f5 : w5.frozen? ⟨sb, 488, none⟩ = false := (frozen_block (b5.block sb hs) 488).trans ((K2.out.fr 488).trans hfz)
  have b6 := hide b5
  clear N5 b5 c2 N2 hfz
  go_wp2_with fail
  first | go_end0 | go_ret
  have q1 : KpT S sb w2 w5 := KpT.of_below b6.out hs
  have q2 := KpT.store (S := S) (sb := sb) (o := 488) (A := w5) (Nat.le_refl _) (.slice (some ⟨g, 0, none⟩) (L.length + 1) cap')
  refine ⟨rfl, ⟨some ⟨g, 0, none⟩, cap', ?_, ?_, ?_⟩, K2.out.trans (q1.trans q2)⟩
  ·rw [List.length_append]; exact World.cell?_setCell_same w5 ⟨sb, 488, none⟩ _ c5
  ·have h1 : NRow w5 S (.slice (some ⟨g, 0, none⟩) (L ++ [(m : Int)]).length cap') (L ++ [(m : Int)]) := by rw [List.length_append]; exact N6.out
   exact owns_of_block h1 fun k hk => Below.heap_setCell _ _ _ _ (by have := owns_base h1 k hk; show k ≠ sb; omega)
  ·intro j hj
   exact (cell_setCell_off w5 _ (by omega)).trans ((b6.out.cell (p := ⟨sb, 489 + j, none⟩) hs).trans (B2.out j hj))
end Go.Proofs.YtembifoimiochaaGreatDoor
