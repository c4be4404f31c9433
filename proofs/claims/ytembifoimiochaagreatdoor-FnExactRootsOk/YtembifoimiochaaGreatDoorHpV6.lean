/- Two sets of places in boxes, as a round turns them; what the log asks. -/
import Derived.Test.YtembifoimiochaaGreatDoorHpV5
namespace Go.Proofs.YtembifoimiochaaGreatDoor
open Go.ChangeShapes Go.WideShapes Go.ChangeAt Go.RowKit Go.Shelf Go.Deep
set_option linter.unusedVariables false
set_option linter.unusedSimpArgs false

/-- All but two blocks is kept. -/
structure Two (b c : Nat) (A B : World) : Prop where
 os : B.os = A.os
 tape : B.tape = A.tape
 output : B.output = A.output
 sz : A.heap.size ≤ B.heap.size
 blk : ∀ k, k < A.heap.size → k ≠ b → k ≠ c → B.heap[k]? = A.heap[k]?
theorem Two.refl (b c : Nat) (A : World) : Two b c A A := ⟨rfl, rfl, rfl, Nat.le_refl _, fun _ _ _ _ => rfl⟩
theorem Two.trans {b c : Nat} {A B C : World} (h : Two b c A B) (k : Two b c B C) : Two b c A C :=
 ⟨k.os.trans h.os, k.tape.trans h.tape, k.output.trans h.output, Nat.le_trans h.sz k.sz, fun j h1 h2 h3 => (k.blk j (Nat.lt_of_lt_of_le h1 h.sz) h2 h3).trans (h.blk j h1 h2 h3)⟩
theorem Two.of_below {b c : Nat} {A B : World} (h : Below A.heap.size A B) : Two b c A B := ⟨h.os, h.tape, h.output, h.size, fun k h1 _ _ => h.block k h1⟩
theorem Two.store {b c : Nat} {A : World} (p : Addr) (v : Value) (hp : p.block = b ∨ p.block = c) : Two b c A (A.setCell p v) :=
 ⟨rfl, rfl, rfl, by simp [World.setCell], fun k _ h1 h2 => Below.heap_setCell _ _ _ _ (by omega)⟩
theorem Two.box {b c k : Nat} {A B : World} {T : TypeId} {vs : List Value} (h : Two b c A B) (hr : Rec A k T vs) (h1 : k ≠ b) (h2 : k ≠ c) : Rec B k T vs := (h.blk k hr.lt h1 h2).trans hr
theorem Two.kp {b c hi sb n₂ : Nat} {A B : World} {T : TypeId} {us vs : List Value} (h : Two b c A B) (hb : Rec A b T us) (hc : Rec A c T vs) (hT : ¬ BoxT T) (h1 : hi ≤ b) (h2 : hi ≤ c) (h3 : sb ≠ b) (h4 : sb ≠ c) (h5 : sb < A.heap.size) (h6 : hi ≤ A.heap.size) : KpH hi sb n₂ A B := by
 have hb' : A.heap[b]? = some (.cells us.toArray T (0, 0)) := hb
 have hc' : A.heap[c]? = some (.cells vs.toArray T (0, 0)) := hc
 refine ⟨⟨h.sz, fun k hk => h.blk k (by omega) (by omega) (by omega), fun o _ => World.cell?_of_block (w := A) (h.blk sb h5 h3 h4), fun k x T' hTT _ hk => h.blk k (Array.getElem?_eq_some_iff.1 hk).1 (fun e => ?_) (fun e => ?_)⟩, fun k o _ hk ho => (h.blk k (Array.getElem?_eq_some_iff.1 hk).1 (fun e => ?_) (fun e => ?_)).trans hk, fun k x _ hk => h.blk k (Array.getElem?_eq_some_iff.1 hk).1 (fun e => ?_) (fun e => ?_)⟩
 ·subst e; rw [hb'] at hk; cases hk; exact hT hTT
 ·subst e; rw [hc'] at hk; cases hk; exact hT hTT
 ·subst e; rw [hb'] at hk; cases hk; cases ho
 ·subst e; rw [hc'] at hk; cases hk; cases ho
 ·subst e; rw [hb'] at hk; cases hk; exact hT (.inl rfl)
 ·subst e; rw [hc'] at hk; cases hk; exact hT (.inl rfl)
theorem Two.keeps {b c B0 : Nat} {A B : World} {T : TypeId} {us vs : List Value} (h : Two b c A B) (hb : Rec A b T us) (hc : Rec A c T vs) : KeepsFrom B0 A B := by
 have hb' : A.heap[b]? = some (.cells us.toArray T (0, 0)) := hb
 have hc' : A.heap[c]? = some (.cells vs.toArray T (0, 0)) := hc
 refine ⟨h.sz, fun k o _ hk ho => (h.blk k (Array.getElem?_eq_some_iff.1 hk).1 (fun e => ?_) (fun e => ?_)).trans hk⟩
 ·subst e; rw [hb'] at hk; cases hk; cases ho
 ·subst e; rw [hc'] at hk; cases hk; cases ho
theorem Two.below {b c B0 : Nat} {A B : World} (h : Two b c A B) (h1 : B0 ≤ b) (h2 : B0 ≤ c) (h3 : B0 ≤ A.heap.size) : Below B0 A B := ⟨h.os, h.tape, h.output, h.sz, fun k hk => h.blk k (by omega) (by omega) (by omega)⟩
theorem Two.fields {b c lo hi : Nat} {A B : World} {a : Option Addr} {fs : List Fd} (h : Two b c A B) (hf : FieldsIn A lo hi a fs) (h1 : hi ≤ A.heap.size) (h2 : b < lo ∨ hi ≤ b) (h3 : c < lo ∨ hi ≤ c) : FieldsIn B lo hi a fs :=
 hf.same (fun j h4 h5 => h.blk j (by omega) (by omega) (by omega)) (Nat.le_refl _) (Nat.le_refl _)
theorem Two.row {b c S cap : Nat} {A B : World} {a : Option Addr} {vs : List GVal} (h : Two b c A B) (hr : ValRow A S a cap vs) (h1 : b < S) (h2 : c < S) : ValRow B S a cap vs :=
 owns_of_block hr fun k hk => h.blk k (owns_lt hr k hk) (by have := owns_base hr k hk; omega) (by have := owns_base hr k hk; omega)

/-- A set of places in a box of its own. -/
def bitsV (P : Nat → Bool) (j : Nat) : Value := .int .u64 ((bv (fun i => P (64 * j + i)) 64 : Nat) : Int)
def BitsB (w : World) (b : Nat) (P : Nat → Bool) : Prop := Rec w b 104 [bitsV P 0, bitsV P 1, bitsV P 2]
theorem BitsB.bits {w : World} {b : Nat} {P : Nat → Bool} (h : BitsB w b P) : BitsAt w b 0 P := fun j hj => by
 have : j = 0 ∨ j = 1 ∨ j = 2 := by omega
 rcases this with rfl | rfl | rfl
 ·exact Rec.cell h (o := 0) rfl
 ·exact Rec.cell h (o := 1) rfl
 ·exact Rec.cell h (o := 2) rfl
theorem bitsV_far {P : Nat → Bool} {m j : Nat} (h : j ≠ m / 64) : bitsV (setP P m) j = bitsV P j := by
 unfold bitsV
 refine congrArg (fun x : Nat => Value.int .u64 (x : Int)) (Nat.eq_of_testBit_eq fun i => ?_)
 rw [bv_bit, bv_bit]
 by_cases hi : i < 64
 ·unfold setP
  have : ¬ 64 * j + i = m := by omega
  simp [this]
 ·simp [hi]
theorem BitsB.add {w : World} {b m : Nat} {P : Nat → Bool} (h : BitsB w b P) (hm : m < 192) : BitsB (w.drew.setCell ⟨b, 0 + m / 64, none⟩ (.int .u64 ((bv (fun i => setP P m (64 * (m / 64) + i)) 64 : Nat) : Int))) b (setP P m) := by
 have h0 : Rec w.drew b 104 [bitsV P 0, bitsV P 1, bitsV P 2] := h
 have h1 := h0.set (0 + m / 64) (.int .u64 ((bv (fun i => setP P m (64 * (m / 64) + i)) 64 : Nat) : Int))
 rw [show Value.int .u64 ((bv (fun i => setP P m (64 * (m / 64) + i)) 64 : Nat) : Int) = bitsV (setP P m) (m / 64) from rfl] at h1 ⊢
 unfold BitsB
 have hj : m / 64 = 0 ∨ m / 64 = 1 ∨ m / 64 = 2 := by omega
 have f := fun j (hj : j ≠ m / 64) => bitsV_far (P := P) hj
 rcases hj with e | e | e
 ·rw [f 1 (by omega), f 2 (by omega)]; rw [e] at h1 ⊢; exact h1
 ·rw [f 0 (by omega), f 2 (by omega)]; rw [e] at h1 ⊢; exact h1
 ·rw [f 0 (by omega), f 1 (by omega)]; rw [e] at h1 ⊢; exact h1
theorem BitsB.congr {w : World} {b : Nat} {P Q : Nat → Bool} (h : BitsB w b P) (e : ∀ m, P m = Q m) : BitsB w b Q := by
 have : P = Q := funext e
 rwa [← this]
/-- A round's add. -/
theorem addB_any (b m : Nat) (P : Nat → Bool) (w : World) (h : BitsB w b P) (hm : m < 192) (hb : b < w.heap.size) :
 Calls Tryz.prog 81 #[.pointer (some ⟨b, 0, none⟩), .int .i64 (m : Int)] w fun e w' => e = .returned (.tuple #[]) ∧ BitsB w' b (setP P m) ∧ (∀ c, Two b c w w') ∧ (∀ c, Two c b w w') := by
 refine (bitsAdd_any b 0 m P w hm h.bits (fun o => Rec.frozen h o)).mono ?_
 rintro e w' ⟨rfl, rfl⟩
 exact ⟨rfl, h.add hm, fun c => (Two.of_below ((Below.refl _ _).drew)).trans (Two.store _ _ (.inl rfl)), fun c => (Two.of_below ((Below.refl _ _).drew)).trans (Two.store _ _ (.inr rfl))⟩

theorem ref_lt {gs : List (List Ty)} {h : GHeap} (hs : SizeOk h) {F : Nat → Nat → Bool} {m : Nat} (hp : plB gs h F (partO gs h).1 m = true) : m < 120 := by
 unfold plB at hp
 rw [List.any_eq_true] at hp
 obtain ⟨a, ha, hq⟩ := hp
 obtain ⟨i, h1, h2, _⟩ := plA_iff.1 hq
 obtain ⟨k, e, _, h0, h3⟩ := partO_mem hs ha
 have h4 := hs.a2
 have h5 := hs.o2
 subst e
 rw [Int.toNat_natCast] at h1 h2
 rw [lenA_eq h0] at h1
 omega
theorem setP_plA {gs : List (List Ty)} {h : GHeap} {F : Nat → Nat → Bool} {L : List Int} {a j : Nat} (m : Nat) : (plB gs h F L m || plA gs h F a (j + 1) m) = if F a j = true then setP (fun m => plB gs h F L m || plA gs h F a j m) (a + 1 + j) m else (plB gs h F L m || plA gs h F a j m) := by
 rw [plA_step]
 unfold setP
 cases F a j
 ·simp
 ·simp [Bool.or_assoc]
end Go.Proofs.YtembifoimiochaaGreatDoor
