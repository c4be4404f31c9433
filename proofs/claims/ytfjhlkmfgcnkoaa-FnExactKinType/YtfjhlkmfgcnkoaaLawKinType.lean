/- FnExactKinType: for all groups of types and every number KinType of the program answers as KinType of the model does, in memory of its own, and changes none of what it was given. -/
import Derived.Test.YtfjhlkmfgcnkoaaType
import Derived.Test.YtfjhlkmfgcnkoaaMark
import Derived.Test.YtfjhlkmfgcnkoaaEq
import Derived.Test.YtfjhlkmfgcnkoaaOpen
namespace Go.Proofs.Ytfjhlkmfgcnkoaa
open Go.ChangeShapes Go.WideShapes Go.ChangeAt Go.RowKit Go.Joins
set_option linter.unusedVariables false

theorem Marks.below {lo hi B : Nat} {w w' : World} (h : Marks lo hi w w') (hB : B ≤ lo) : Below B w w' :=
  ⟨h.os, h.tape, h.output, Nat.le_of_eq h.size.symm, fun k hk => h.out k (by omega)⟩
theorem Marks.same {lo hi l r : Nat} {w w' : World} (h : Marks lo hi w w') (hd : r ≤ lo ∨ hi ≤ l) : Same l r w w' := fun k h1 h2 => h.out k (by omega)

set_option maxHeartbeats 400000 in
theorem markType_any (a : Option Addr) (cap lo hi : Nat) (t : Ty) (k : Int) (w : World) (hn : t.fields.length ≤ 1048576) (k0 : 0 ≤ k) (k1 : k ≤ 4611686018427387904) (hx : FSh w lo hi a t.fields.length) (hh : hi ≤ w.heap.size) :
    Calls Try.prog 16 #[.agg #[.int .i64 t.kind, .int .i64 t.up, .bool t.last, .slice a t.fields.length cap], .int .i64 k] w fun e w' => e = .returned (.int .i64 (k + 3 * (t.fields.length : Int))) ∧ (∃ o, Marks lo hi (w.alloc o) w') ∧ (t.fields.length = 0 ∨ ∃ b, a = some ⟨b, 0, none⟩ ∧ lo ≤ b ∧ b < hi ∧ ∀ i, i < t.fields.length → FieldAt w' b (i * 3) (markF k i)) := by
  go_enter Try.func16, Try.ntmps16
  go_wp2_with fail
  refine (markFieldS_any a cap t.fields.length lo hi k _ hn k0 k1 (hx.same (.of_below ((Below.refl w.heap.size w).alloc (Nat.le_refl _) _) hh) (Nat.le_refl _) (Nat.le_refl _))).mono ?_
  rintro e w1 ⟨rfl, hM, hF⟩
  have HM := hide hM
  have HF := hide hF
  clear hM hF
  go_wp2_with fail
  go_ret
  exact ⟨rfl, ⟨_, HM.out⟩, HF.out⟩

set_option maxHeartbeats 400000 in
theorem heldType_any (a : Option Addr) (cap lo hi : Nat) (t : Ty) (k : Int) (w : World) (hn : t.fields.length ≤ 1048576) (k0 : 0 ≤ k) (k1 : k ≤ 4611686018427387904) (hx : t.fields.length = 0 ∨ ∃ b, a = some ⟨b, 0, none⟩ ∧ lo ≤ b ∧ b < hi ∧ ∀ i, i < t.fields.length → FieldAt w b (i * 3) (markF k i)) (hh : hi ≤ w.heap.size) :
    Calls Try.prog 17 #[.agg #[.int .i64 t.kind, .int .i64 t.up, .bool t.last, .slice a t.fields.length cap], .int .i64 k] w fun e w' => e = .returned (.int .i64 (k + 3 * (t.fields.length : Int))) ∧ Below w.heap.size w w' := by
  have hpos : 0 ≤ k + 3 * (t.fields.length : Int) := by omega
  go_enter Try.func17, Try.ntmps17
  go_wp2_with fail
  refine (heldFieldS_any a cap t.fields.length k _ hn k0 k1 ?_).mono ?_
  · rcases hx with h | ⟨b, h1, h2, h3, h4⟩
    · exact .inl h
    · exact .inr ⟨b, h1, fun i hi => (h4 i hi).same (.of_below ((Below.refl w.heap.size w).alloc (Nat.le_refl _) _) hh) h2 h3⟩
  rintro e w1 ⟨rfl, rfl⟩
  clear hx
  go_wp2_with fail
  go_ret
  exact ⟨rfl, (Below.refl _ _).alloc (Nat.le_refl _) _⟩

/-- An answer: a type in box p, its fields in blocks from l on and below h. -/
structure Ans (w : World) (t : Ty) (p : Nat) (na : Option Addr) (nc l h : Nat) : Prop where
  c0 : w.cell? ⟨p, 0, none⟩ = some (.int .i64 t.kind)
  c1 : w.cell? ⟨p, 1, none⟩ = some (.int .i64 t.up)
  c2 : w.cell? ⟨p, 2, none⟩ = some (.bool t.last)
  c3 : w.cell? ⟨p, 3, none⟩ = some (.slice na t.fields.length nc)
  lh : l ≤ h
  hp : h ≤ p

theorem Ans.same {w w' : World} {t : Ty} {p nc l h : Nat} {na : Option Addr} (a : Ans w t p na nc l h) (hs : Same p (p + 1) w w') : Ans w' t p na nc l h := by
  have q : ∀ o, w'.cell? ⟨p, o, none⟩ = w.cell? ⟨p, o, none⟩ := fun o => hs.cell (Nat.le_refl _) (Nat.lt_succ_self _)
  exact ⟨(q 0).trans a.c0, (q 1).trans a.c1, (q 2).trans a.c2, (q 3).trans a.c3, a.lh, a.hp⟩

theorem Ans.mk' {w : World} (t : Ty) (na : Option Addr) (nc l : Nat) (hl : l ≤ w.heap.size) : Ans (w.alloc (.cells #[.int .i64 t.kind, .int .i64 t.up, .bool t.last, .slice na t.fields.length nc] 31)) t w.heap.size na nc l w.heap.size :=
  ⟨by simp, by simp, by simp, by simp, hl, Nat.le_refl _⟩

theorem held_keep {w w' : World} {n lo hi : Nat} {a : Option Addr} {k : Int} (h : n = 0 ∨ ∃ b, a = some ⟨b, 0, none⟩ ∧ lo ≤ b ∧ b < hi ∧ ∀ i, i < n → FieldAt w b (i * 3) (markF k i)) (hs : Same lo hi w w') :
    n = 0 ∨ ∃ b, a = some ⟨b, 0, none⟩ ∧ lo ≤ b ∧ b < hi ∧ ∀ i, i < n → FieldAt w' b (i * 3) (markF k i) := by
  rcases h with h | ⟨b, h1, h2, h3, h4⟩
  · exact .inl h
  · exact .inr ⟨b, h1, h2, h3, fun i hi => (h4 i hi).same hs h2 h3⟩

namespace fnExactKinType
set_option maxHeartbeats 2000000 in
theorem walk (a : Option Addr) (cap : Nat) (gs : List (List Ty)) (n : Int) (w : World) (hl : Lens gs) (hx : GroupsIn w 0 w.heap.size a gs) :
    Calls Try.prog 4 #[.slice a gs.length cap, .int .i64 n] w fun e w' => e = .returned (.bool true) ∧ Below w.heap.size w w' := by
  go_enter Try.func4, Try.ntmps4
  go_wp2_with fail
  refine (szTypeSS_any a cap 0 w.heap.size gs 1048576 w hl hx (Nat.le_refl _) (by omega) (by omega)).mono ?_
  rintro e w0 ⟨r, rfl, r1, r2, r3, hb0⟩
  by_cases hr : r < 0
  · go_wp2_with fail
    go_ret
    exact ⟨rfl, hb0⟩
  have hf := hide (r3 (by omega))
  have hT : Hid ((tyOr gs n).fields.length ≤ 1048576) := by
    show (tyOr gs n).fields.length ≤ 1048576
    unfold tyOr
    split
    · rename_i h; exact flat_few hf.out _ (by omega)
    · simp
  have X := hide hx
  have B0 := hide hb0
  clear r3 hx hb0
  go_wp2_with fail
  refine (toTypeSS_any a cap 0 w.heap.size gs _ hf.out (X.out.keep B0.out) B0.out.size).mono ?_
  rintro e w1 ⟨n1, rfl, hx1, hb1⟩
  have s0 := B0.out.size
  have s1 := hb1.size
  have B1 := hide (B0.out.trans (hb1.mono s0))
  have X1 := hide hx1.plain
  clear hx1 hb1
  go_wp2_with fail
  refine (specKinType_any n1 _ _ _ gs n _ hf.out X1.out (Nat.le_refl _) s1).mono ?_
  rintro e w2 ⟨n2, c2, rfl, hf2, hb2⟩
  have s2 := hb2.size
  have F2 := hide hf2.1
  have B2 := hide (B1.out.trans (hb2.mono (by omega)))
  have A6 := hide (Ans.mk' (w := w2) (tyOr gs n) n2 c2 w1.heap.size s2)
  have b3 : Below w2.heap.size w2 (w2.alloc (.cells #[.int .i64 (tyOr gs n).kind, .int .i64 (tyOr gs n).up, .bool (tyOr gs n).last, .slice n2 (tyOr gs n).fields.length c2] 31)) := (Below.refl _ _).alloc (Nat.le_refl _) _
  have F6 := hide (F2.out.keep b3)
  have BV := hide (B2.out.trans (b3.mono (by omega)))
  clear hf2 hb2 b3 F2
  go_wp2_with fail
  refine (toTypeSS_any a cap 0 w.heap.size gs _ hf.out (X.out.keep BV.out) BV.out.size).mono ?_
  rintro e w3 ⟨n3, rfl, hx3, hb3⟩
  have e2 : (w2.alloc (.cells #[.int .i64 (tyOr gs n).kind, .int .i64 (tyOr gs n).up, .bool (tyOr gs n).last, .slice n2 (tyOr gs n).fields.length c2] 31)).heap.size = w2.heap.size + 1 := by simp
  rw [e2] at hb3 hx3
  have s3 := hb3.size
  rw [e2] at s3
  have A63 := hide (A6.out.same (.of_below hb3 (Nat.le_refl _)))
  have F63 := hide (F6.out.keep (hb3.mono (by omega)))
  have B3 := hide (BV.out.trans (hb3.mono (by omega)))
  have X3 := hide hx3
  clear hx3 hb3 A6 F6 BV e2
  go_wp2_with fail
  refine (implKinType_any n3 _ _ _ gs n _ hf.out X3.out.plain (Nat.le_refl _) s3).mono ?_
  rintro e w4 ⟨n4, c4, rfl, hf4, hb4⟩
  have s4 := hb4.size
  have b5 : Below w4.heap.size w4 (w4.alloc (.cells #[.int .i64 (tyOr gs n).kind, .int .i64 (tyOr gs n).up, .bool (tyOr gs n).last, .slice n4 (tyOr gs n).fields.length c4] 31)) := (Below.refl _ _).alloc (Nat.le_refl _) _
  have A9 := Ans.mk' (w := w4) (tyOr gs n) n4 c4 w3.heap.size s4
  have b34 := hb4.trans (b5.mono s4)
  have A64 := A63.out.same (.of_below b34 (by omega))
  have F64 := hide (F63.out.keep (b34.mono (by omega)))
  have F94 := hide (hf4.same (.of_below b5 (Nat.le_refl _)) (Nat.le_refl _) (Nat.le_refl _))
  have X4 := hide (X3.out.keep b34)
  have B4 := hide (B3.out.trans (b34.mono (by omega)))
  have HA9 := hide A9
  have HA64 := hide A64
  obtain ⟨p0, p1, p2, p3, _, _⟩ := A9
  obtain ⟨q0, q1, q2, q3, _, _⟩ := A64
  clear hf4 hb4 b5 b34 A63 F63 X3 B3
  go_wp2_with fail
  refine (eqType_same n4 n2 c4 c2 w3.heap.size w4.heap.size w1.heap.size w2.heap.size (tyOr gs n) _ (by have := hT.out; omega) F94.out.1 F64.out (by simp) (by simp; omega)).mono ?_
  rintro e w5 ⟨rfl, hb5⟩
  have e4 : (w4.alloc (.cells #[.int .i64 (tyOr gs n).kind, .int .i64 (tyOr gs n).up, .bool (tyOr gs n).last, .slice n4 (tyOr gs n).fields.length c4] 31)).heap.size = w4.heap.size + 1 := by simp
  rw [e4] at hb5
  have s5 := hb5.size
  rw [e4] at s5
  clear p0 p1 p2 p3 q0 q1 q2 q3 e4
  have A95 := hide (HA9.out.same (.of_below hb5 (Nat.le_refl _)))
  have A65 := hide (HA64.out.same (.of_below hb5 (by omega)))
  have F65 := hide (F64.out.keep (hb5.mono (by omega)))
  have F95 := hide (F94.out.same (.of_below hb5 (by omega)) (Nat.le_refl _) (Nat.le_refl _))
  have X5 := hide (X4.out.keep (hb5.mono (by omega)))
  have B5 := hide (B4.out.trans (hb5.mono (by omega)))
  clear HA9 HA64 F64 F94 X4 B4 hb5
  go_wp2_with fail
  refine (toTypeSS_any a cap 0 w.heap.size gs _ hf.out (X.out.keep B5.out) B5.out.size).mono ?_
  rintro e w6 ⟨n6, rfl, hx6, hb6⟩
  have s6 := hb6.size
  have A96 := hide (A95.out.same (.of_below hb6 (by omega)))
  have A66 := hide (A65.out.same (.of_below hb6 (by omega)))
  have F66 := hide (F65.out.keep (hb6.mono (by omega)))
  have F96 := hide (F95.out.same (.of_below hb6 (by omega)) (Nat.le_refl _) (Nat.le_refl _))
  have X6 := hide (X5.out.keep (hb6.mono (by omega)))
  have B6 := hide (B5.out.trans (hb6.mono (by omega)))
  have Y6 := hide hx6.plain
  clear A95 A65 F65 F95 X5 B5 hb6 hx6
  go_wp2_with fail
  refine (eqTypeSS_same n3 n6 _ _ _ _ _ _ gs _ hf.out X6.out.plain Y6.out (by omega) (Nat.le_refl _)).mono ?_
  rintro e w7 ⟨rfl, hb7⟩
  have s7 := hb7.size
  have A97 := hide (A96.out.same (.of_below hb7 (by omega)))
  have A67 := hide (A66.out.same (.of_below hb7 (by omega)))
  have F67 := hide (F66.out.keep (hb7.mono (by omega)))
  have F97 := hide (F96.out.same (.of_below hb7 (by omega)) (Nat.le_refl _) (Nat.le_refl _))
  have X7 := hide (X6.out.keep (hb7.mono (by omega)))
  have B7 := hide (B6.out.trans (hb7.mono (by omega)))
  clear A96 A66 F66 F96 X6 B6 Y6 hb7
  go_wp2_with fail
  refine (markTypeSS_any n3 _ _ _ gs 1 _ hf.out (by omega) (by omega) X7.out.shape).mono ?_
  rintro e w8 ⟨k8, rfl, k1, k2, hM8⟩
  have s8 := hM8.size
  have A98 := A97.out.same (hM8.same (.inr (by omega)))
  have A68 := A67.out.same (hM8.same (.inl (by omega)))
  have F68 := hide (F67.out.same (hM8.same (.inl (by omega))) (Nat.le_refl _) (Nat.le_refl _))
  have F98 := hide (F97.out.same (hM8.same (.inr (by omega))) (Nat.le_refl _) (Nat.le_refl _))
  have B8 := hide (B7.out.trans (hM8.below (by omega)))
  have HA98 := hide A98
  have HA68 := hide A68
  obtain ⟨p0, p1, p2, p3, _, _⟩ := A98
  obtain ⟨q0, q1, q2, q3, _, _⟩ := A68
  clear A97 A67 F67 F97 X7 B7 hM8
  go_wp2_with fail
  refine (eqType_same n4 n2 c4 c2 w3.heap.size w4.heap.size w1.heap.size w2.heap.size (tyOr gs n) _ (by have := hT.out; omega) F98.out.1 F68.out (by omega) (by omega)).mono ?_
  rintro e w9 ⟨rfl, hb9⟩
  have s9 := hb9.size
  clear p0 p1 p2 p3 q0 q1 q2 q3
  have A99 := HA98.out.same (.of_below hb9 (by omega))
  have A69 := hide (HA68.out.same (.of_below hb9 (by omega)))
  have F69 := hide (F68.out.keep (hb9.mono (by omega)))
  have F99 := hide (F98.out.same (.of_below hb9 (by omega)) (Nat.le_refl _) (Nat.le_refl _))
  have B9 := hide (B8.out.trans (hb9.mono (by omega)))
  have HA99 := hide A99
  obtain ⟨p0, p1, p2, p3, _, _⟩ := A99
  clear HA98 HA68 F68 F98 B8 hb9
  go_wp2_with fail
  refine (markType_any n4 c4 w3.heap.size w4.heap.size (tyOr gs n) 1 _ hT.out (by omega) (by omega) F99.out.2 (by omega)).mono ?_
  rintro e w10 ⟨rfl, ⟨o10, hM10⟩, hK10⟩
  have bo : Below w9.heap.size w9 (w9.alloc o10) := (Below.refl _ _).alloc (Nat.le_refl _) _
  have s10 : w9.heap.size + 1 = w10.heap.size := by have := hM10.size; rw [this]; simp
  clear p0 p1 p2 p3
  have A910 := (HA99.out.same (.of_below bo (by omega))).same (hM10.same (.inr (by omega)))
  have A610 := hide ((A69.out.same (.of_below bo (by omega))).same (hM10.same (.inl (by omega))))
  have F610 := hide ((F69.out.keep (bo.mono (by omega))).same (hM10.same (.inl (by omega))) (Nat.le_refl _) (Nat.le_refl _))
  have B10 := hide ((B9.out.trans (bo.mono (by omega))).trans (hM10.below (by omega)))
  have K10 := hide hK10
  have HA910 := hide A910
  obtain ⟨p0, p1, p2, p3, _, _⟩ := A910
  clear HA99 A69 F69 F99 B9 hM10 bo hK10
  go_wp2_with fail
  refine (heldType_any n4 c4 w3.heap.size w4.heap.size (tyOr gs n) 1 _ hT.out (by omega) (by omega) K10.out (by omega)).mono ?_
  rintro e w11 ⟨rfl, hb11⟩
  have s11 := hb11.size
  clear p0 p1 p2 p3
  have A911 := hide (HA910.out.same (.of_below hb11 (by omega)))
  have A611 := hide (A610.out.same (.of_below hb11 (by omega)))
  have F611 := hide (F610.out.keep (hb11.mono (by omega)))
  have B11 := hide (B10.out.trans (hb11.mono (by omega)))
  have K11 := hide (held_keep K10.out (.of_below hb11 (by omega)))
  have hpos : 0 ≤ 1 + 3 * ((tyOr gs n).fields.length : Int) := by omega
  clear HA910 A610 F610 B10 K10 hb11
  go_wp2_with fail
  refine (toTypeSS_any a cap 0 w.heap.size gs _ hf.out (X.out.keep B11.out) B11.out.size).mono ?_
  rintro e w12 ⟨n12, rfl, hx12, hb12⟩
  have s12 := hb12.size
  have A912 := hide (A911.out.same (.of_below hb12 (by omega)))
  have A612 := hide (A611.out.same (.of_below hb12 (by omega)))
  have F612 := hide (F611.out.keep (hb12.mono (by omega)))
  have B12 := hide (B11.out.trans (hb12.mono (by omega)))
  have K12 := hide (held_keep K11.out (.of_below hb12 (by omega)))
  have X12 := hide hx12.plain
  clear A911 A611 F611 B11 K11 hb12 hx12
  go_wp2_with fail
  refine (implKinType_any n12 _ _ _ gs n _ hf.out X12.out (Nat.le_refl _) (by omega)).mono ?_
  rintro e w13 ⟨n13, c13, rfl, hf13, hb13⟩
  have s13 := hb13.size
  have b14 : Below w13.heap.size w13 (w13.alloc (.cells #[.int .i64 (tyOr gs n).kind, .int .i64 (tyOr gs n).up, .bool (tyOr gs n).last, .slice n13 (tyOr gs n).fields.length c13] 31)) := (Below.refl _ _).alloc (Nat.le_refl _) _
  have bb := hb13.trans (b14.mono s13)
  have A14 := Ans.mk' (w := w13) (tyOr gs n) n13 c13 w12.heap.size s13
  have A913 := hide (A912.out.same (.of_below bb (by omega)))
  have A613 := A612.out.same (.of_below bb (by omega))
  have F613 := hide (F612.out.keep (bb.mono (by omega)))
  have B13 := hide (B12.out.trans (bb.mono (by omega)))
  have K13 := hide (held_keep K12.out (.of_below bb (by omega)))
  have F14 := hide (hf13.1.keep b14)
  obtain ⟨p0, p1, p2, p3, _, _⟩ := A14
  obtain ⟨q0, q1, q2, q3, _, _⟩ := A613
  clear A912 A612 F612 B12 K12 hb13 hf13 b14 bb
  go_wp2_with fail
  refine (eqType_same n13 n2 c13 c2 w12.heap.size w13.heap.size w1.heap.size w2.heap.size (tyOr gs n) _ (by have := hT.out; omega) F14.out F613.out (by simp) (by simp; omega)).mono ?_
  rintro e w14 ⟨rfl, hb14⟩
  have e13 : (w13.alloc (.cells #[.int .i64 (tyOr gs n).kind, .int .i64 (tyOr gs n).up, .bool (tyOr gs n).last, .slice n13 (tyOr gs n).fields.length c13] 31)).heap.size = w13.heap.size + 1 := by simp
  rw [e13] at hb14
  have s14 := hb14.size
  rw [e13] at s14
  clear p0 p1 p2 p3 q0 q1 q2 q3 e13
  have A914 := A913.out.same (.of_below hb14 (by omega))
  have B14 := hide (B13.out.trans (hb14.mono (by omega)))
  have K14 := hide (held_keep K13.out (.of_below hb14 (by omega)))
  obtain ⟨p0, p1, p2, p3, _, _⟩ := A914
  clear A913 F613 B13 K13 F14 hb14
  go_wp2_with fail
  refine (heldType_any n4 c4 w3.heap.size w4.heap.size (tyOr gs n) 1 _ hT.out (by omega) (by omega) K14.out (by omega)).mono ?_
  rintro e w15 ⟨rfl, hb15⟩
  clear p0 p1 p2 p3
  have B15 := hide (B14.out.trans (hb15.mono B14.out.size))
  clear B14 K14 hb15
  go_wp2_with fail
  go_ret
  exact ⟨rfl, B15.out⟩

set_option maxRecDepth 100000 in
theorem lifted (os : Os) (started : os.Started) (H : Type) (enc : TypeId × Value → H) :
    ReturnsInHanded {} Try.checked os 4 .any (Rows.fnExactKinTypeSpec.pre6 enc Try.prog Try.f4 Rows.fnExactKinTypeRow.domain false) (Rows.fnExactKinTypeSpec.post enc Try.prog Try.f4 false true false false) := by
  refine returnsInHanded_of_change (C := Try.checked) Try.own started (by kernel_rfl) Try.func4
    (ChangeSpec.witness6 (enc := enc) (C := Try.checked) false ⟨#[], #[.slice none 0 0, .int .i64 0], []⟩ 8 (by kernel_rfl) (by kernel_rfl) (by kernel_rfl) (by kernel_rfl)) ?_
  intro W base args ds gs before hval0 hW hcnd _
  have hval : ∀ (j : Nat) t v, Try.f4.params[j]? = some t → args[j]? = some v → Value.okWide Try.prog W .any base t v := hval0
  have hW' := hW
  obtain ⟨p, q, hA0, hV, rfl, hfz, hnd⟩ := hW
  have hA : DataW.TrodAll enc Try.prog W 0 (fun _ => true) true Try.f4.params.toList args.toList ds p := hA0
  rw [Try.params4] at hA hval
  obtain ⟨v0, vs0, d0, ds0, p0, q0, hargs, rfl, rfl, h0, r0⟩ := trodAll_cons hA
  obtain ⟨v1, vs1, d1, ds1, p1, q1, rfl, rfl, rfl, h1, r1⟩ := trodAll_cons r0
  obtain ⟨rfl, rfl, rfl⟩ := trodAll_nil r1
  obtain rfl : args = #[v0, v1] := by cases args; simp_all
  obtain ⟨rfl, rfl⟩ := trodVars_none hV
  obtain ⟨a0, len0, cap0, rfl⟩ := okWide_slice Try.underlying22 (hval 0 22 v0 rfl rfl)
  have k0 := h0
  have lt0 : ∀ x ∈ p0, x.block < W.heap.size := by obtain ⟨m, hm⟩ := k0; exact DataW.trod_lt m _ _ _ hm
  obtain ⟨xs, rfl, hx, hl⟩ := groups_open h0
  obtain ⟨n, rfl, rfl, rfl, wn⟩ := open_int Try.underlying3 (hval 1 3 v1 rfl rfl) h1
  clear hA0 hval0
  refine (walk a0 cap0 xs n W hl hx).mono fun e W' ⟨he, bel⟩ => ?_
  subst he
  exact ⟨_, rfl, _, _, _, [], _, [], hW', trodAll_mk1 (shut_bool Try.underlying4 _), (trodAll_cons_mk (Below.trod Try.laidOut (by kernel_rfl) (of_decide_eq_true (by kernel_rfl)) k0 bel lt0) (trodAll_cons_mk (shut_int Try.underlying3 wn) trodAll_mk0)), rfl, bel.frame _, fun h => by cases h⟩

theorem over : Rows.fnExactKinTypeRow.holds Try.pinned (OpenSpec.ofChange Rows.fnExactKinTypeSpec) :=
  OpenClaim.holds_of_wide 4 Try.f4 rfl rfl rfl rfl rfl rfl rfl ⟨rfl, rfl, rfl, rfl, rfl⟩ rfl rfl rfl rfl rfl (by kernel_rfl) Try.func4 (by kernel_rfl)
    (of_decide_eq_true (by kernel_rfl)) (by unfold Func.isWrapper; first | (rw [if_pos (by decide +kernel)]; kernel_rfl) | (rw [if_neg (by decide +kernel)]; exact ⟨rfl, rfl⟩))
    (fun os started H enc _ => lifted os started H enc)
end fnExactKinType
theorem fnExactKinType_holds : Rows.FnExactKinTypeSaid := fnExactKinType.over
end Go.Proofs.Ytfjhlkmfgcnkoaa
