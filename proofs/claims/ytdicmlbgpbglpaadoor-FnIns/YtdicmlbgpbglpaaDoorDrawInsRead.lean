/- What is drawn for InsText and InsRead. -/
import Derived.Test.YtdicmlbgpbglpaaDoorDrawBent
import Derived.Test.YtdicmlbgpbglpaaDoorDrawFieldRead
import Derived.Test.YtdicmlbgpbglpaaDoorInsRd
namespace Go.Proofs.YtdicmlbgpbglpaaDoor
open Go.ChangeShapes Go.WideShapes Go.ChangeAt Go.RowKit
set_option linter.unusedVariables false

set_option maxHeartbeats 1000000 in
theorem dDrawInsText_any (a : Option Addr) (cap n : Nat) (w : World) (hc : n ≤ cap) (h : BytesIn w w.heap.size a n) :
    Calls Tryd.prog 18 #[.slice a n cap] w fun e w' => ∃ o x y : Int, e = .returned (.agg #[.int .i64 o, .int .i64 x, .int .i64 y]) ∧ Below w.heap.size w w' := by
  go_enter Tryd.func18, Tryd.ntmps18
  go_wp2_with fail
  refine (open_any a cap n _ hc (((h.keep ((Below.refl _ _).alloc (Nat.le_refl _) _))).wider (by simp))).mono ?_
  rintro e w1 ⟨rfl, r1, b1, s1⟩
  simp at s1
  have R1 : Ins3 w1 w.heap.size 0 0 0 := (ins3_new w 0 0 0 _).keep (g := w.heap.size + 1) (Only.of_below b1) (by omega)
  have B1 : Below w.heap.size w w1 := ((Below.refl _ _).alloc (Nat.le_refl _) _).trans (b1.mono (by simp))
  go_wp2_with fail
  refine (l2Bent_any (w.heap.size + 1) 0 w1 (by omega) (by simpa using r1)).mono ?_
  rintro e w2 ⟨o, x, y, rfl, p2, _, r2, o2⟩
  have R2 := R1.keep o2 (by omega)
  have B2 : Below w.heap.size w w2 := B1.trans (o2.below (by omega) (by omega))
  have q0 := R2.c0; have q1 := R2.c1; have q2 := R2.c2; have qf := R2.fr
  go_wp2_with fail
  refine bodyPost_ret (v := .agg #[.int .i64 o, .int .i64 x, .int .i64 y]) (by simp [results, Tryd.results18, go_sem, *]) rfl ⟨_, _, _, rfl, ((B2.setCell (Nat.le_refl _) _).setCell (Nat.le_refl _) _).setCell (Nat.le_refl _) _⟩

theorem insText_len (k o m : Int) : (insText k o m).length ≤ 19 := by
  unfold insText
  split
  · rename_i h
    have hs := insOk_small h
    have h0 := wordAt_len k.toNat
    have h1 := ofTxt_len o hs.1
    have h2 := ofTxt_len m hs.2.1
    split
    · omega
    · split
      · simp; omega
      · simp; omega
  · simp

theorem specInsText_at (k o m : Int) (l : List UInt8) (h : insText k o m = l) (w : World) :
    Calls Tryd.prog 20 #[.agg #[.int .i64 k, .int .i64 o, .int .i64 m]] w fun e w' => e = .returned (.string ⟨l.toArray⟩) ∧ Below w.heap.size w w' := h ▸ specInsText_any k o m w

set_option maxHeartbeats 1600000 in
theorem drawInsRead_any (a : Option Addr) (cap n : Nat) (w : World) (hc : n ≤ cap) (h : BytesIn w w.heap.size a n) :
    Calls Tryd.prog 23 #[.slice a n cap] w fun e w' => ∃ s : ByteArray, e = .returned (.string s) ∧ s.size ≤ 1000 ∧ Below w.heap.size w w' := by
  go_enter Tryd.func23, Tryd.ntmps23
  go_wp2_with fail
  refine (open_any a cap n _ hc h).mono ?_
  rintro e w1 ⟨rfl, r1, b1, s1⟩
  have B1 := hide b1
  clear b1
  go_wp2_with fail
  refine (l2Bent_any _ 0 w1 (by omega) r1).mono ?_
  rintro e w2 ⟨k, o, m, rfl, p2, hp2, r2, o2⟩
  have B2 : Hid (Below w.heap.size w w2) := B1.out.trans (o2.below (by omega) (by omega))
  clear o2
  go_wp2_with fail
  obtain ⟨l, hl⟩ : ∃ l, insText k o m = l := ⟨_, rfl⟩
  have hlen := insText_len k o m
  rw [hl] at hlen
  refine (specInsText_at k o m l hl _).mono ?_
  rintro e w3 ⟨rfl, b3⟩
  have r3 := r2.keep b3
  have B3 : Hid (Below w.heap.size w w3) := B2.out.trans (b3.mono B2.out.size)
  clear b3 hl r2
  obtain ⟨s, hs⟩ : ∃ s : ByteArray, (⟨l.toArray⟩ : ByteArray) = s := ⟨_, rfl⟩
  have hsz : s.size ≤ 19 := by rw [← hs]; simpa [ByteArray.size] using hlen
  rw [hs]
  clear hs hlen
  by_cases h0 : s.size = 0
  · have e0 : ((s.size : Int) == 0) = true := by simp [h0]
    go_wp2_with fail
    all_goals go_ret
    all_goals exact ⟨_, rfl, by omega, B3.out⟩
  have e0 : ((s.size : Int) == 0) = false := beq_false_of_ne (show (s.size : Int) ≠ 0 by omega)
  have hg3 := r3.lt
  go_wp2_with fail
  refine (pick_only _ p2 2 w3 (by omega) r3).mono ?_
  rintro e w4 ⟨k4, rfl, _, k41, k42, r4, o4, s4⟩
  have B4 : Hid (Below w.heap.size w w4) := B3.out.trans (o4.below (by omega) B3.out.size)
  clear o4
  by_cases hk4 : k4 = 0
  · subst hk4
    go_wp2_with fail
    go_ret
    exact ⟨_, rfl, by omega, B4.out⟩
  have e4 : (k4 == 0) = false := beq_false_of_ne hk4
  go_wp2_with fail
  refine (pick_only _ (p2 + 1) _ w4 (by omega) r4).mono ?_
  rintro e w5 ⟨k5, rfl, _, k51, k52, r5, o5, s5⟩
  have k53 : k5 < (s.size : Int) := k52 (by omega)
  have B5 : Hid (Below w.heap.size w w5) := B4.out.trans (o5.below (by omega) B4.out.size)
  clear o5 k52 k42
  obtain ⟨kk, rfl⟩ : ∃ kk : Nat, k5 = (kk : Int) := ⟨k5.toNat, by omega⟩
  have x1 : (0 : Int) ≤ (kk : Int) := by omega
  have x2 : (kk : Int) ≤ (s.size : Int) := by omega
  have hg5 := r5.lt
  have R5 := hide r5
  have CO : Hid (∀ W, (∀ i, i < 7 → W.cell? ⟨w5.heap.size, i, none⟩ = some (.string ⟨(([[], [48], [32], [45], [49], [97], [97, 110, 121]] : List (List UInt8)).getD i []).toArray⟩)) → Rd W w.heap.size (p2 + 2) → Below w.heap.size w W → w5.heap.size < W.heap.size → Calls Tryd.prog 35 #[.pointer (some ⟨w.heap.size, 0, none⟩), .slice (some ⟨w5.heap.size, 0, none⟩) 7 7] W fun e w' => ∃ t : ByteArray, t.size ≤ 3 ∧ e = .returned (.string t) ∧ Rd w' w.heap.size (p2 + 3) ∧ Below w.heap.size w w') := fun W hcl hR hB hsz => by
    refine (of_any w.heap.size (p2 + 2) W (by omega) hR w5.heap.size 7 7 (fun i => ([[], [48], [32], [45], [49], [97], [97, 110, 121]] : List (List UInt8)).getD i []) (Nat.ne_of_gt hg5) hsz (by omega) (by omega) hcl).mono ?_
    rintro e w' ⟨j, hj, rfl, hr, ho, hs⟩
    refine ⟨_, ?_, rfl, hr, hB.trans (ho.below (Nat.le_refl _) hB.size)⟩
    have : ∀ j : Fin 7, (([[], [48], [32], [45], [49], [97], [97, 110, 121]] : List (List UInt8)).getD j.val []).length ≤ 3 := by decide
    simpa [ByteArray.size] using this ⟨j, hj⟩
  have CP : Hid (∀ W, Rd W w.heap.size (p2 + 3) → Below w.heap.size w W → Calls Tryd.prog 34 #[.pointer (some ⟨w.heap.size, 0, none⟩), .int .i64 2] W fun e w' => ∃ (q : Int) (x : Nat), e = .returned (.int .i64 q) ∧ 0 ≤ q ∧ q ≤ 1 ∧ (kk : Int) + q = (x : Int) ∧ (0 : Int) ≤ (x : Int) ∧ (x : Int) ≤ (s.size : Int) ∧ x ≤ s.size ∧ IntKind.i64.wrap (x : Int) = (x : Int) ∧ (∀ W, (Instr.slice 9 (.string s) (some (.int .i64 (x : Int))) none none).run Tryd.prog W = .ok (.string (s.extract x s.size)) W) ∧ (∀ W, (Instr.slice 9 (.string s) (some (.int .i64 ((kk : Int) + q))) none none).run Tryd.prog W = .ok (.string (s.extract x s.size)) W) ∧ (∀ t : ByteArray, t.size ≤ 3 → ∀ W, (Op.stringOp .add (s.extract 0 kk ++ t) (s.extract x s.size)).run Tryd.prog W = .ok (.string ((s.extract 0 kk ++ t) ++ s.extract x s.size)) W) ∧ Below w.heap.size w w') := fun W hR hB => by
    refine (pick_only _ (p2 + 3) 2 W (by omega) hR).mono ?_
    rintro e w' ⟨k, rfl, _, h1, h2, hr, ho, hs⟩
    have := h2 (by omega)
    have hq3 : (kk : Int) + k = ((kk + k.toNat : Nat) : Int) := by omega
    have hq5 : ((kk + k.toNat : Nat) : Int) ≤ (s.size : Int) := by omega
    have hq6 : kk + k.toNat ≤ s.size := by omega
    have hq4 : (0 : Int) ≤ ((kk + k.toNat : Nat) : Int) := by omega
    generalize kk + k.toNat = x at hq3 hq4 hq5 hq6
    refine ⟨k, x, rfl, h1, by omega, hq3, hq4, hq5, hq6, wrap_small x (by omega), fun W => (by go_simp), fun W => (by go_simp), fun t ht W => ?_, hB.trans (ho.below (Nat.le_refl _) hB.size)⟩
    have z1 := ext_size s 0 kk 19 hsz
    have z2 := ext_size s x s.size 19 hsz
    have z3 := bytes_append_size (s.extract 0 kk) t
    exact run_string_add (P := Tryd.prog) (w := W) (s.extract 0 kk ++ t) (s.extract x s.size) (by omega) (by omega)
  have k54 : (kk : Int) ≤ 19 := by omega
  clear r5 r4 r3 r1 h s4 s5
  go_wp2_with fail
  go_region_with (first
    | (go_at_call 35; refine (CO.out _ ?_ ?_ ?_ ?_).mono ?_; exact fun i hi => cells_texts w5 [[], [48], [32], [45], [49], [97], [97, 110, 121]] _ i hi; exact R5.out.alloc _; (first | exact Below.al B5.out (Nat.le_refl _) _ | exact (Below.al B5.out (Nat.le_refl _) _).drew); simp; rintro e w6 ⟨t, ht, rfl, r6, b6⟩; have hadd1 := fun W => run_string_add (P := Tryd.prog) (w := W) (s.extract 0 kk) t (by have := ext_size s 0 kk 19 hsz; omega) (by omega))
    | (go_at_call 34; refine (CP.out _ ?_ ?_).mono ?_; assumption; assumption; rintro e w7 ⟨q, x, rfl, hq1, hq2, hq3, hq4, hq5, hq6, hq7, hs1, hs2, hA, b7⟩; have hadd2 := hA t ht; clear hA))
  have z1 := ext_size s 0 kk 19 hsz
  have z2 := ext_size s x s.size 19 hsz
  have z3 := bytes_append_size (s.extract 0 kk) t
  have z4 := bytes_append_size (s.extract 0 kk ++ t) (s.extract x s.size)
  have Z : Hid ((s.extract 0 kk ++ t ++ s.extract x s.size).size ≤ 1000) := by show _ ≤ _; omega
  have B7 := hide b7
  clear z1 z2 z3 z4
  go_wp2_with fail
  go_ret
  exact ⟨_, rfl, Z.out, B7.out⟩
end Go.Proofs.YtdicmlbgpbglpaaDoor
