/- What is drawn for FieldText and FieldRead. -/
import Derived.Test.YtdicmlbgpbglpaaDoorDrawField
import Derived.Test.YtdicmlbgpbglpaaDoorFieldTxt
import Derived.Deep.RegionWith
namespace Go.Proofs.YtdicmlbgpbglpaaDoor
open Go.ChangeShapes Go.WideShapes Go.ChangeAt Go.RowKit
set_option linter.unusedVariables false

set_option maxHeartbeats 800000 in
theorem drawFieldText_any (a : Option Addr) (cap n : Nat) (w : World) (hc : n ≤ cap) (h : BytesIn w w.heap.size a n) :
    Calls Tryd.prog 10 #[.slice a n cap] w fun e w' => ∃ (k o : Int) (m : Bool), e = .returned (.agg #[.int .i64 k, .int .i64 o, .bool m]) ∧ Below w.heap.size w w' := by
  go_enter Tryd.func10, Tryd.ntmps10
  go_wp2_with fail
  refine (drawFieldOk_any a cap n _ hc ((h.keep ((Below.refl _ _).alloc (Nat.le_refl _) _)).wider (by simp))).mono ?_
  rintro e w1 ⟨k, o, m, x, rfl, x1, x2, b1⟩
  have R1 : Hid (Rec w1 w.heap.size 23 [.int .i64 0, .int .i64 0, .bool false]) := (Rec.new' _ _ _ _ rfl).below b1 (by simp)
  have B1 : Hid (Below w.heap.size w w1) := Below.trans (Below.al (Below.refl _ _) (Nat.le_refl _) _) (b1.mono (by go_size))
  have d0 := R1.out.cell (o := 0) rfl
  have d1 := R1.out.cell (o := 1) rfl
  have d2 := R1.out.cell (o := 2) rfl
  have e0 := R1.out.frozen 0
  have e1 := R1.out.frozen 1
  have e2 := R1.out.frozen 2
  have lt := R1.out.lt
  clear b1
  go_wp2_with fail
  have RF := (((R1.out.set 0 (.int .i64 k)).set 1 (.int .i64 o)).set 2 (.bool m)).alloc (.cells #[.int .i64 k, .int .i64 o, .bool m] 23)
  refine bodyPost_ret (v := .agg #[.int .i64 k, .int .i64 o, .bool m]) (by simp [results, Tryd.results10, go_sem, RF.cell (o := 0) rfl, RF.cell (o := 1) rfl, RF.cell (o := 2) rfl]) rfl ⟨_, _, _, rfl, ?_⟩
  repeat (first | exact B1.out | refine Below.setCell ?_ (by simp <;> omega) _ | refine Below.al ?_ (Nat.le_refl _) _)

/-- One of a list of texts that was written out just now, drawn. -/
theorem of_any (g p : Nat) (w : World) (hp : p < 1000000) (h : Rd w g p) (q len cap : Nat) (f : Nat → List UInt8) (hq : q ≠ g) (hq2 : q < w.heap.size) (h0 : 0 < len) (hl : len < 1000000)
    (hx : ∀ i, i < len → w.cell? ⟨q, i, none⟩ = some (.string ⟨(f i).toArray⟩)) :
    Calls Tryd.prog 35 #[.pointer (some ⟨g, 0, none⟩), .slice (some ⟨q, 0, none⟩) len cap] w fun e w' => ∃ k, k < len ∧ e = .returned (.string ⟨(f k).toArray⟩) ∧ Rd w' g (p + 1) ∧ Only g w w' ∧ w'.heap.size = w.heap.size := by
  go_enter Tryd.func35, Tryd.ntmps35
  go_wp2_with fail
  refine (pick_only g p _ w hp h).mono ?_
  rintro e w1 ⟨k, rfl, _, h1, h2, hr, ho, hs⟩
  obtain ⟨k, rfl⟩ := Int.eq_ofNat_of_zero_le h1
  have h3 : (k : Int) < (len : Int) := h2 (by omega)
  have c1 := ho.cell (o := k) hq hq2
  rw [hx k (by omega)] at c1
  clear h2 hx
  go_wp2_with fail
  go_ret
  exact ⟨k, by omega, rfl, hr, ho, hs⟩

theorem cells_texts (w : World) (l : List (List UInt8)) (T : TypeId) (i : Nat) (hi : i < l.length) : (w.alloc (.cells (l.map fun z => Value.string ⟨z.toArray⟩).toArray T)).cell? ⟨w.heap.size, i, none⟩ = some (.string ⟨(l.getD i []).toArray⟩) := by
  simp [hi]

/-- A text of a list that was written out just now. -/
theorem of_list (l : List (List UInt8)) (g p q : Nat) (w : World) (T : TypeId) (hq : q = w.heap.size) (hp : p < 1000000) (h : Rd w g p) (h0 : 0 < l.length) (hl : l.length < 1000000) :
    Calls Tryd.prog 35 #[.pointer (some ⟨g, 0, none⟩), .slice (some ⟨q, 0, none⟩) l.length l.length] (w.alloc (.cells (l.map fun z => Value.string ⟨z.toArray⟩).toArray T)) fun e w' =>
      ∃ k, k < l.length ∧ e = .returned (.string ⟨(l.getD k []).toArray⟩) ∧ Rd w' g (p + 1) ∧ Only g w w' ∧ w'.heap.size = w.heap.size + 1 := by
  subst hq
  refine (of_any g p _ hp (h.alloc _) w.heap.size l.length l.length (fun i => l.getD i []) (Nat.ne_of_gt h.lt) (by simp) h0 hl (fun i hi => cells_texts w l T i hi)).mono ?_
  rintro e w' ⟨k, hk, rfl, hr, ho, hs⟩
  exact ⟨k, hk, rfl, hr, ((Only.refl g w).alloc _).trans ho, by rw [hs]; simp⟩

theorem bytes_append_size (a b : ByteArray) : (a ++ b).size = a.size + b.size := ByteArray.size_append

theorem ext_size (s : ByteArray) (i j n : Nat) (h : s.size ≤ n) : (s.extract i j).size ≤ n := by
  rw [ByteArray.size_extract]; omega

theorem wrap_small (x : Nat) (h : x ≤ 1000) : IntKind.i64.wrap (x : Int) = (x : Int) := by
  have : ∀ i : Fin 1001, IntKind.i64.wrap (i.val : Int) = (i.val : Int) := by decide +kernel
  exact this ⟨x, by omega⟩

theorem fieldTxt_len (k o : Int) (m : Bool) : (fieldTxt k o m).length ≤ 8 := by
  unfold fieldTxt
  split
  · rename_i h
    have hk := fieldOk_small h
    have h1 : (letter k).length ≤ 1 := by unfold letter; split; simp; split; simp; split <;> simp
    have h2 : (if k = 1 then [] else ofTxt o : List UInt8).length ≤ 6 := by
      split
      · simp
      · exact ofTxt_len o (by omega)
    have h3 : (if m then [33] else [] : List UInt8).length ≤ 1 := by split <;> simp
    simp only [List.length_append]
    omega
  · simp

theorem specFieldText_at (k o : Int) (m : Bool) (l : List UInt8) (h : fieldTxt k o m = l) (w : World) :
    Calls Tryd.prog 12 #[.agg #[.int .i64 k, .int .i64 o, .bool m]] w fun e w' => e = .returned (.string ⟨l.toArray⟩) ∧ Below w.heap.size w w' := h ▸ specFieldText_any k o m w

set_option maxHeartbeats 1600000 in
theorem drawFieldRead_any (a : Option Addr) (cap n : Nat) (w : World) (hc : n ≤ cap) (h : BytesIn w w.heap.size a n) :
    Calls Tryd.prog 14 #[.slice a n cap] w fun e w' => ∃ s : ByteArray, e = .returned (.string s) ∧ s.size ≤ 1000 ∧ Below w.heap.size w w' := by
  go_enter Tryd.func14, Tryd.ntmps14
  go_wp2_with fail
  refine (open_any a cap n _ hc h).mono ?_
  rintro e w1 ⟨rfl, r1, b1, s1⟩
  have B1 := hide b1
  clear b1
  go_wp2_with fail
  refine (l1Field_any _ 0 8 w1 (by omega) r1 (by omega) (by omega)).mono ?_
  rintro e w2 ⟨k, o, m, rfl, ⟨p2, hp2, r2⟩, o2⟩
  have B2 : Hid (Below w.heap.size w w2) := B1.out.trans (o2.below (by omega) (by omega))
  clear o2
  go_wp2_with fail
  obtain ⟨l, hl⟩ : ∃ l, fieldTxt k o m = l := ⟨_, rfl⟩
  have hlen := fieldTxt_len k o m
  rw [hl] at hlen
  have W2 : Hid (Below w2.heap.size w2 (w2.alloc (.cells #[.int .i64 k, .int .i64 o, .bool m] 23))) := Below.al (Below.refl _ _) (Nat.le_refl _) _
  refine (specFieldText_at k o m l hl _).mono ?_
  rintro e w3 ⟨rfl, b3⟩
  have r3 := (r2.alloc (.cells #[.int .i64 k, .int .i64 o, .bool m] 23)).keep b3
  have B3 : Hid (Below w.heap.size w w3) := B2.out.trans ((W2.out.trans (b3.mono W2.out.size)).mono B2.out.size)
  clear b3 W2 hl r2
  obtain ⟨s, hs⟩ : ∃ s : ByteArray, (⟨l.toArray⟩ : ByteArray) = s := ⟨_, rfl⟩
  have hsz : s.size ≤ 8 := by rw [← hs]; simpa [ByteArray.size] using hlen
  rw [hs]
  clear hs hlen
  by_cases h0 : s.size = 0
  · have e0 : ((s.size : Int) == 0) = true := by simp [h0]
    go_wp2_with fail
    all_goals go_ret
    all_goals exact ⟨_, rfl, by omega, B3.out⟩
  have e0 : ((s.size : Int) == 0) = false := beq_false_of_ne (show (s.size : Int) ≠ 0 by omega)
  have hg3 := r3.lt
  go_wp2_with fail
  refine (pick_only _ p2 2 w3 (by omega) r3).mono ?_
  rintro e w4 ⟨k4, rfl, _, k41, k42, r4, o4, s4⟩
  have B4 : Hid (Below w.heap.size w w4) := B3.out.trans (o4.below (by omega) B3.out.size)
  clear o4
  by_cases hk4 : k4 = 0
  · subst hk4
    go_wp2_with fail
    go_ret
    exact ⟨_, rfl, by omega, B4.out⟩
  have e4 : (k4 == 0) = false := beq_false_of_ne hk4
  go_wp2_with fail
  refine (pick_only _ (p2 + 1) _ w4 (by omega) r4).mono ?_
  rintro e w5 ⟨k5, rfl, _, k51, k52, r5, o5, s5⟩
  have k53 : k5 < (s.size : Int) := k52 (by omega)
  have B5 : Hid (Below w.heap.size w w5) := B4.out.trans (o5.below (by omega) B4.out.size)
  clear o5 k52 k42
  obtain ⟨kk, rfl⟩ : ∃ kk : Nat, k5 = (kk : Int) := ⟨k5.toNat, by omega⟩
  have x1 : (0 : Int) ≤ (kk : Int) := by omega
  have x2 : (kk : Int) ≤ (s.size : Int) := by omega
  have hg5 := r5.lt
  have R5 := hide r5
  have CO : Hid (∀ W, (∀ i, i < 8 → W.cell? ⟨w5.heap.size, i, none⟩ = some (.string ⟨(([[], [48], [33], [45], [49], [114], [97, 110, 121], [56]] : List (List UInt8)).getD i []).toArray⟩)) → Rd W w.heap.size (p2 + 2) → Below w.heap.size w W → w5.heap.size < W.heap.size → Calls Tryd.prog 35 #[.pointer (some ⟨w.heap.size, 0, none⟩), .slice (some ⟨w5.heap.size, 0, none⟩) 8 8] W fun e w' => ∃ t : ByteArray, t.size ≤ 3 ∧ e = .returned (.string t) ∧ Rd w' w.heap.size (p2 + 3) ∧ Below w.heap.size w w') := fun W hcl hR hB hsz => by
    refine (of_any w.heap.size (p2 + 2) W (by omega) hR w5.heap.size 8 8 (fun i => ([[], [48], [33], [45], [49], [114], [97, 110, 121], [56]] : List (List UInt8)).getD i []) (Nat.ne_of_gt hg5) hsz (by omega) (by omega) hcl).mono ?_
    rintro e w' ⟨j, hj, rfl, hr, ho, hs⟩
    refine ⟨_, ?_, rfl, hr, hB.trans (ho.below (Nat.le_refl _) hB.size)⟩
    have : ∀ j : Fin 8, (([[], [48], [33], [45], [49], [114], [97, 110, 121], [56]] : List (List UInt8)).getD j.val []).length ≤ 3 := by decide
    simpa [ByteArray.size] using this ⟨j, hj⟩
  have CP : Hid (∀ W, Rd W w.heap.size (p2 + 3) → Below w.heap.size w W → Calls Tryd.prog 34 #[.pointer (some ⟨w.heap.size, 0, none⟩), .int .i64 2] W fun e w' => ∃ (q : Int) (x : Nat), e = .returned (.int .i64 q) ∧ 0 ≤ q ∧ q ≤ 1 ∧ (kk : Int) + q = (x : Int) ∧ (0 : Int) ≤ (x : Int) ∧ (x : Int) ≤ (s.size : Int) ∧ x ≤ s.size ∧ IntKind.i64.wrap (x : Int) = (x : Int) ∧ (∀ W, (Instr.slice 9 (.string s) (some (.int .i64 (x : Int))) none none).run Tryd.prog W = .ok (.string (s.extract x s.size)) W) ∧ (∀ W, (Instr.slice 9 (.string s) (some (.int .i64 ((kk : Int) + q))) none none).run Tryd.prog W = .ok (.string (s.extract x s.size)) W) ∧ (∀ t : ByteArray, t.size ≤ 3 → ∀ W, (Op.stringOp .add (s.extract 0 kk ++ t) (s.extract x s.size)).run Tryd.prog W = .ok (.string ((s.extract 0 kk ++ t) ++ s.extract x s.size)) W) ∧ Below w.heap.size w w') := fun W hR hB => by
    refine (pick_only _ (p2 + 3) 2 W (by omega) hR).mono ?_
    rintro e w' ⟨k, rfl, _, h1, h2, hr, ho, hs⟩
    have := h2 (by omega)
    have hq3 : (kk : Int) + k = ((kk + k.toNat : Nat) : Int) := by omega
    have hq5 : ((kk + k.toNat : Nat) : Int) ≤ (s.size : Int) := by omega
    have hq6 : kk + k.toNat ≤ s.size := by omega
    have hq4 : (0 : Int) ≤ ((kk + k.toNat : Nat) : Int) := by omega
    generalize kk + k.toNat = x at hq3 hq4 hq5 hq6
    refine ⟨k, x, rfl, h1, by omega, hq3, hq4, hq5, hq6, wrap_small x (by omega), fun W => (by go_simp), fun W => (by go_simp), fun t ht W => ?_, hB.trans (ho.below (Nat.le_refl _) hB.size)⟩
    have z1 := ext_size s 0 kk 8 hsz
    have z2 := ext_size s x s.size 8 hsz
    have z3 := bytes_append_size (s.extract 0 kk) t
    exact run_string_add (P := Tryd.prog) (w := W) (s.extract 0 kk ++ t) (s.extract x s.size) (by omega) (by omega)
  have k54 : (kk : Int) ≤ 8 := by omega
  clear r5 r4 r3 r1 h s4 s5
  go_wp2_with fail
  go_region_with (first
    | (go_at_call 35; refine (CO.out _ ?_ ?_ ?_ ?_).mono ?_; exact fun i hi => cells_texts w5 [[], [48], [33], [45], [49], [114], [97, 110, 121], [56]] _ i hi; exact R5.out.alloc _; (first | exact Below.al B5.out (Nat.le_refl _) _ | exact (Below.al B5.out (Nat.le_refl _) _).drew); simp; rintro e w6 ⟨t, ht, rfl, r6, b6⟩; have hadd1 := fun W => run_string_add (P := Tryd.prog) (w := W) (s.extract 0 kk) t (by have := ext_size s 0 kk 8 hsz; omega) (by omega))
    | (go_at_call 34; refine (CP.out _ ?_ ?_).mono ?_; assumption; assumption; rintro e w7 ⟨q, x, rfl, hq1, hq2, hq3, hq4, hq5, hq6, hq7, hs1, hs2, hA, b7⟩; have hadd2 := hA t ht; clear hA))
  have z1 := ext_size s 0 kk 8 hsz
  have z2 := ext_size s x s.size 8 hsz
  have z3 := bytes_append_size (s.extract 0 kk) t
  have z4 := bytes_append_size (s.extract 0 kk ++ t) (s.extract x s.size)
  have Z : Hid ((s.extract 0 kk ++ t ++ s.extract x s.size).size ≤ 1000) := by show _ ≤ _; omega
  have B7 := hide b7
  clear z1 z2 z3 z4
  go_wp2_with fail
  go_ret
  exact ⟨_, rfl, Z.out, B7.out⟩
end Go.Proofs.YtdicmlbgpbglpaaDoor
