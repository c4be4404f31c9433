/- slices.Repeat of one field. -/
import Derived.Test.YtembifoimiochaaGreatDoorCopyK
import Derived.Deep.RegionLaw
namespace Go.Proofs.YtembifoimiochaaGreatDoor
open Go.ChangeShapes Go.WideShapes Go.ChangeAt Go.RowKit Go.Deep
set_option linter.unusedVariables false
set_option linter.unusedSimpArgs false

theorem bitsMul64_small (c : Nat) (hc : c ≤ 6) (w : World) : Calls Tryz.prog 128 #[.int .u64 1, .int .u64 (c : Int)] w fun e w' => e = .returned (.tuple #[.int .u64 0, .int .u64 (c : Int)]) ∧ w' = w := by
 have h : c = 0 ∨ c = 1 ∨ c = 2 ∨ c = 3 ∨ c = 4 ∨ c = 5 ∨ c = 6 := by omega
 rcases h with rfl | rfl | rfl | rfl | rfl | rfl | rfl
 all_goals
  go_enter Tryz.func128, Tryz.ntmps128
  go_wp2
  go_ret2
  exact ⟨rfl, rfl⟩
theorem bitsMul_small (c : Nat) (hc : c ≤ 6) (w : World) : Calls Tryz.prog 122 #[.int .u64 1, .int .u64 (c : Int)] w fun e w' => e = .returned (.tuple #[.int .u64 0, .int .u64 (c : Int)]) ∧ w' = w := by
 have h0 : (0 : Int) ≤ (c : Int) := by omega
 have h6 : (c : Int) ≤ 6 := by omega
 go_enter Tryz.func122, Tryz.ntmps122
 go_wp2_with (go_at_call 128; refine (bitsMul64_small c hc _).mono ?_; rintro e w' ⟨rfl, rfl⟩)
 go_ret2
 exact ⟨rfl, rfl⟩

theorem two_b (w : World) (o : Obj) : Below w.heap.size w (w.alloc o) := (Below.refl _ _).alloc (Nat.le_refl _) _
def repC (F : List Value) (n : Nat) : List Value := (List.replicate n F).flatten
theorem repC_len (F : List Value) (n : Nat) : (repC F n).length = n * F.length := by simp [repC]
theorem repC_add (F : List Value) (a b : Nat) : repC F (a + b) = repC F a ++ repC F b := by
 unfold repC; rw [← List.flatten_append, List.replicate_append_replicate]
theorem repC_at (F : List Value) {n i j : Nat} (hi : i < n) (hj : j < F.length) : (repC F n)[i * F.length + j]? = F[j]? := by
 rw [show n = i + (1 + (n - i - 1)) by omega, repC_add, repC_add, List.getElem?_append_right (by rw [repC_len]; omega), repC_len, show i * F.length + j - i * F.length = j by omega, List.getElem?_append_left (by rw [repC_len]; omega)]
 simp [repC]
theorem repC_copy (F Z : List Value) (hl : Z.length = F.length) {a b m : Nat} (hm : m ≤ b) : splice (repC F a ++ repC Z b) (a * F.length) (repC F m) = repC F (a + m) ++ repC Z (b - m) := by
 have e1 : (repC F a ++ repC Z b).take (a * F.length) = repC F a := by rw [List.take_append_of_le_length (by rw [repC_len]; omega), List.take_of_length_le (by rw [repC_len]; omega)]
 have e2 : (repC F a ++ repC Z b).drop (a * F.length + (repC F m).length) = repC Z (b - m) := by
  rw [repC_len, List.drop_append, List.drop_of_length_le (by rw [repC_len]; omega), repC_len, List.nil_append]
  rw [show b = m + (b - m) by omega, repC_add, show a * F.length + m * F.length - a * F.length = m * F.length by omega, List.drop_append_of_le_length (by rw [repC_len, hl]; omega), List.drop_of_length_le (by rw [repC_len, hl]; omega), List.nil_append, show m + (b - m) - m = b - m by omega]
 unfold splice
 rw [e1, e2, repC_add, List.append_assoc]
def fcs (f : Fd) : List Value := [.int .i64 f.kind, .int .i64 f.of, .bool f.mt]
def zcs : List Value := [.int .i64 0, .int .i64 0, .bool false]
theorem repC_one {F : List Value} (hF : ∀ v ∈ F, v.oneCell' = true) (n : Nat) : ∀ v ∈ repC F n, v.oneCell' = true := by
 intro v hv
 unfold repC at hv
 obtain ⟨l, hl, hv⟩ := List.mem_flatten.1 hv
 rw [List.eq_of_mem_replicate hl] at hv
 exact hF v hv
theorem made_rep {n : Nat} : madeCells #[Value.int .i64 0, .int .i64 0, .bool false] (n * 3) = (repC zcs n).toArray := by
 refine Array.ext_getElem? fun i => ?_
 by_cases hi : i < n * 3
 ·have e := repC_at zcs (n := n) (i := i / 3) (j := i % 3) (by omega) (Nat.mod_lt _ (by decide))
  rw [show i / 3 * zcs.length + i % 3 = i by show i / 3 * 3 + i % 3 = i; omega] at e
  conv => rhs; rw [List.getElem?_toArray, e]
  have h : i % 3 = 0 ∨ i % 3 = 1 ∨ i % 3 = 2 := by omega
  rcases h with h | h | h <;> simp [madeCells, hi, h, zcs]
 ·rw [Array.getElem?_eq_none (by rw [size_madeCells]; omega), List.getElem?_toArray, List.getElem?_eq_none (by rw [repC_len]; show n * 3 ≤ i; omega)]
theorem fields_rep {w : World} {g : Nat} {T : TypeId} {f : Fd} {n lo hi : Nat} (h : Rec w g T (repC (fcs f) n)) (h1 : lo ≤ g) (h2 : g < hi) : FieldsIn w lo hi (some ⟨g, 0, none⟩) (List.replicate n f) := by
 refine .inr ⟨g, 0, rfl, h1, h2, fun i hi => ?_⟩
 have hi' : i < n := by simpa using hi
 have e : fdAt (List.replicate n f) i = f := by unfold fdAt; rw [List.getD_eq_getElem?_getD, List.getElem?_replicate, if_pos hi']; rfl
 have c := fun j (hj : j < 3) => repC_at (fcs f) (j := j) hi' hj
 rw [e]
 unfold FieldAt
 rw [Nat.zero_add]
 exact ⟨h.cell (by rw [show i * 3 = i * (fcs f).length + 0 from rfl, c 0 (by omega)]; rfl), h.cell (by rw [show i * 3 + 1 = i * (fcs f).length + 1 from rfl, c 1 (by omega)]; rfl), h.cell (by rw [show i * 3 + 2 = i * (fcs f).length + 2 from rfl, c 2 (by omega)]; rfl)⟩

set_option maxHeartbeats 1600000 in
set_option maxRecDepth 20000 in
theorem repeat_any (b off c : Nat) (f : Fd) (n : Nat) (hn : n ≤ 6) (w : World) (hb : b < w.heap.size) (hf : FieldAt w b off f) :
 Calls Tryz.prog 120 #[.slice (some ⟨b, off, none⟩) 1 c, .int .i64 (n : Int)] w fun e w' => e = .returned (.slice (some ⟨w.heap.size, 0, none⟩) n n) ∧ FieldsIn w' w.heap.size w'.heap.size (some ⟨w.heap.size, 0, none⟩) (List.replicate n f) ∧ Below w.heap.size w w' := by
 have hmk := run_make_any (P := Tryz.prog) 74 70 _ 3 24 Tryz.underlying74 Tryz.infoField n (by omega) (by omega)
 have hsz : (Tryz.prog.info? 70).map (·.size) = some 3 := by kernel_rfl
 rw [show (Value.agg #[.int .i64 0, .int .i64 0, .bool false]).cells = #[Value.int .i64 0, .int .i64 0, .bool false] from rfl, made_rep] at hmk
 have g0 : (0 : Int) ≤ (n : Int) := by omega
 have g6 : (n : Int) ≤ 6 := by omega
 have hm0 : min 1 n ≤ 1 := Nat.min_le_left _ _
 obtain ⟨w1, hw1⟩ : ∃ w1, w1 = w.alloc (.cells (repC zcs n).toArray 70) := ⟨_, rfl⟩
 have R1 : Hid (Rec w1 w.heap.size 70 (repC (fcs f) 0 ++ repC zcs n)) := by show Rec _ _ _ _; rw [hw1]; exact Rec.new _ _ _
 have B1 : Hid (Below w.heap.size w w1) := by show Below _ _ _; rw [hw1]; exact two_b _ _
 have F1 : Hid (∀ j v, (repC (fcs f) (min 1 n))[j]? = some v → w1.cell? ((⟨b, off, none⟩ : Addr).add j) = some v) := fun j v hv => by
  have hlt : j < min 1 n * 3 := by have := (List.getElem?_eq_some_iff.1 hv).1; rw [repC_len] at this; exact this
  have h1 : min 1 n = 1 := by omega
  rw [h1, show repC (fcs f) 1 = fcs f by simp [repC]] at hv
  rw [Addr.add_mid, B1.out.cell (p := ⟨b, off + j, none⟩) hb]
  have h : j = 0 ∨ j = 1 ∨ j = 2 := by omega
  rcases h with rfl | rfl | rfl <;> simp [fcs] at hv <;> subst hv
  ·exact hf.1
  ·exact hf.2.1
  ·exact hf.2.2
 have C1 : Hid ((repC (fcs f) (min 1 n)).length = min 1 n * 3) := repC_len _ _
 have O1 := hide (fun m => repC_one (F := fcs f) (by intro v hv; simp [fcs] at hv; rcases hv with rfl | rfl | rfl <;> rfl) m)
 have CP := hide (fun (a b m : Nat) (h : m ≤ b) => repC_copy (fcs f) zcs rfl (a := a) (b := b) (m := m) h)
 have LN := hide (fun (a b : Nat) => (show (repC (fcs f) a ++ repC zcs b).length = a * 3 + b * 3 by rw [List.length_append, repC_len, repC_len]; rfl))
 have LF : Hid ((fcs f).length = 3) := rfl
 have LC := hide (fun (a : Nat) => (show (repC (fcs f) a).length = a * 3 from repC_len _ _))
 have hfr := fun (W : World) (vs : List Value) (h : Rec W w.heap.size 70 vs) => h
 have HFR := hide (fun (W : World) (hi : Nat) (h : Rec W w.heap.size 70 (repC (fcs f) n)) (h2 : w.heap.size < hi) => fields_rep (lo := w.heap.size) h (Nat.le_refl _) h2)
 clear hf hfr
 generalize fcs f = FC at *
 generalize (repC zcs n).toArray = ZA at hmk hw1
 go_enter Tryz.func120, Tryz.ntmps120
 go_wp2_with (first | (go_at_call 122; refine (bitsMul_small n (by omega) _).mono ?_; rintro e w' ⟨rfl, rfl⟩) | (rw [← hw1]; refine wpList_copy_rowk rfl _ _ _ _ rfl 70 3 (min 1 n) Tryz.underlying74 hsz _ 0 n n ⟨b, off, none⟩ 1 c rfl rfl 70 _ (repC FC (min 1 n)) R1.out rfl C1.out F1.out (by rw [LC.out, LN.out]; omega) (O1.out _) _ _ B1.out (Nat.le_refl _) ?_))
 intro w2 h2 _ B2
 have R2 : Hid (Rec w2 w'.heap.size 70 (repC FC (min 1 n) ++ repC zcs (n - min 1 n))) := by
  show Rec _ _ _ _
  have e0 := CP.out 0 n (min 1 n) (by omega)
  rw [Nat.zero_mul, show 0 + min 1 n = min 1 n from Nat.zero_add _] at e0
  rw [← e0]; exact h2.out
 clear h2 F1 R1 B1 hw1 hmk C1
 have hm1 : 0 < n → 0 < min 1 n := by omega
 have hm2 : min 1 n ≤ n := Nat.min_le_right _ _
 generalize min 1 n = m1 at *
 go_wp2_with fail
 go_loopw [8] (fun v wr => ∃ j : Nat, j ≤ n ∧ (0 < n → 0 < j) ∧ v = .int .i64 (j : Int) ∧ Hid (Rec wr w'.heap.size 70 (repC FC j ++ repC zcs (n - j))) ∧ Hid (Below w'.heap.size w' wr)) (fun v wr => n - (intOf v).toNat)
 case atStart => exact ⟨m1, hm2, hm1, rfl, R2, B2⟩
 case round =>
  obtain ⟨j, hj, hj0, rfl, RJ, BJ⟩ := hrel
  clear R2 B2 hm1 hm2
  by_cases hlt : j < n
  ·have hj1 := hj0 (by omega)
   have q1 : (0 : Int) ≤ (j : Int) := by omega
   have q2 : (j : Int) < (n : Int) := by omega
   obtain ⟨m, hm⟩ : ∃ m, m = min j (n - j) := ⟨_, rfl⟩
   have hmj : m ≤ j := by omega
   have hmn : m ≤ n - j := by omega
   have hm1 : 0 < m := by omega
   have HM := hide hm
   clear hm
   have wj : IntKind.i64.wrap ((j : Int) + (m : Int)) = (j : Int) + (m : Int) := by rw [IntKind.wrap_i64]; omega
   have RJ2 : Hid (∀ w4, Rec w4 w'.heap.size 70 (splice (repC FC j ++ repC zcs (n - j)) (j * 3) (repC FC m)) → Rec w4 w'.heap.size 70 (repC FC (j + m) ++ repC zcs (n - (j + m)))) := fun w4 h => by
    have e := CP.out j (n - j) m hmn
    rw [LF.out, show n - j - m = n - (j + m) by omega] at e
    exact e ▸ h
   have S1 : Hid (∀ i v, (repC FC m)[i]? = some v → wr.cell? ((⟨w'.heap.size, 0, none⟩ : Addr).add i) = some v) := fun i v hv => by
    have hlt := (List.getElem?_eq_some_iff.1 hv).1
    rw [LC.out] at hlt
    rw [Addr.add_mid, Nat.zero_add]
    refine RJ.out.cell ?_
    rw [show j = m + (j - m) by omega, repC_add, List.append_assoc, List.getElem?_append_left (by rw [LC.out]; exact hlt)]
    exact hv
   have hne : ¬ n = j := by omega
   have RD : Hid (Rec wr.drew w'.heap.size 70 (repC FC j ++ repC zcs (n - j))) := RJ.out
   go_wp2_with fail
   go_region_law ((refine step_copy_rowk (by rfl) _ _ _ _ (by rfl) 70 3 m Tryz.underlying74 hsz w'.heap.size (j * 3) (n - j) (n - j) ⟨w'.heap.size, 0, none⟩ j n (by kernel_rfl) (by kernel_rfl) 70 (repC FC j ++ repC zcs (n - j)) (repC FC m) RD.out HM.out (LC.out m) S1.out (by rw [LC.out, LN.out]; omega) (O1.out _) w'.heap.size w' BJ.out.drew (Nat.le_refl _) ?_; intro w4 h4 k4 B4))
   all_goals go_wp2_with fail
   all_goals (try simp only [List.getElem_toArray, List.getElem_cons_succ, List.getElem_cons_zero, Act.put, List.setIfInBounds_toArray, List.set_cons_zero, List.set_cons_succ])
   all_goals go_roundw
   case rel => exact ⟨j + m, by omega, by omega, by go_num, RJ2.out _ h4.out, B4⟩
   case measure => simp [intOf]; omega
  ·have hjn : j = n := by omega
   have q2 : ¬ (j : Int) < (n : Int) := by omega
   have HE : Hid (Rec wr w'.heap.size 70 (repC FC n)) := by
    have := RJ.out
    rw [hjn, Nat.sub_self] at this
    show Rec _ _ _ _
    simpa [repC] using this
   clear hj0 hlt hjn RJ
   go_wp2_with fail
   go_ret
   exact ⟨rfl, HFR.out _ _ HE.out HE.out.lt, BJ.out⟩
end Go.Proofs.YtembifoimiochaaGreatDoor
