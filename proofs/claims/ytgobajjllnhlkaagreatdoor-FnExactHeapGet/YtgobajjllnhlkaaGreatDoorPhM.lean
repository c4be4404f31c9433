/- PhM: Mark0, MarkG, MarkInt, HeldInt, MarkHeap, HpLaw2. -/
import Derived.Test.YtgobajjllnhlkaaGreatDoorPaOne
import Derived.Test.YtgobajjllnhlkaaGreatDoorGenNum
import Derived.Test.YtgobajjllnhlkaaGreatDoorGenHeap
import Derived.Test.YtgobajjllnhlkaaGreatDoorPhL
import Derived.Test.YtgobajjllnhlkaaGreatDoorEqInt
namespace Go.Proofs.YtgobajjllnhlkaaGreatDoor
open Go.ChangeShapes Go.WideShapes Go.ChangeAt Go.RowKit
set_option linter.unusedVariables false
/-- w' is w, but for numbers and bools in blocks from lo on and below hi. -/
structure Marks (lo hi : Nat) (w w' : World) : Prop where
  os : w'.os = w.os
  tape : w'.tape = w.tape
  output : w'.output = w.output
  size : w'.heap.size = w.heap.size
  out : ∀ b, b < lo ∨ hi ≤ b → w'.heap[b]? = w.heap[b]?
  own : ∀ b m T, Own w b m T → Own w' b m T
  head : ∀ b m, Own w b m 119 → ∀ i, w'.cell? ⟨b, i * 4 + 3, none⟩ = w.cell? ⟨b, i * 4 + 3, none⟩
  top : ∀ b m, Own w b m 74 → ∀ i, w'.cell? ⟨b, i, none⟩ = w.cell? ⟨b, i, none⟩
theorem Marks.refl (lo hi : Nat) (w : World) : Marks lo hi w w := ⟨rfl, rfl, rfl, rfl, fun _ _ => rfl, fun _ _ _ h => h, fun _ _ _ _ => rfl, fun _ _ _ _ => rfl⟩
theorem Marks.trans {lo hi : Nat} {a b c : World} (h : Marks lo hi a b) (k : Marks lo hi b c) : Marks lo hi a c :=
  ⟨k.os.trans h.os, k.tape.trans h.tape, k.output.trans h.output, k.size.trans h.size, fun x hx => (k.out x hx).trans (h.out x hx), fun b m T ho => k.own b m T (h.own b m T ho),
   fun b m ho i => (k.head b m (h.own b m _ ho) i).trans (h.head b m ho i), fun b m ho i => (k.top b m (h.own b m _ ho) i).trans (h.top b m ho i)⟩
theorem own_type {w : World} {b m m' : Nat} {T T' : TypeId} (h : Own w b m T) (h' : Own w b m' T') : T = T' := by
  obtain ⟨c, hb, _⟩ := h
  obtain ⟨c', hb', _⟩ := h'
  rw [hb] at hb'
  simp at hb'
  exact hb'.2
theorem cell_set_other {w : World} {b b' o o' : Nat} (v : Value) (h : b ≠ b') : (w.setCell ⟨b', o', none⟩ v).cell? ⟨b, o, none⟩ = w.cell? ⟨b, o, none⟩ :=
  World.cell?_of_block (w := w) (a := ⟨b, o, none⟩) (Below.heap_setCell _ _ _ _ h)
/-- A store into a block of fields, or into a type's first three cells. -/
theorem Marks.set {lo hi : Nat} {w w0 : World} (h : Marks lo hi w0 w) {b m : Nat} {T : TypeId} (ho : Own w b m T) (h1 : lo ≤ b) (h2 : b < hi) (o : Nat) (hm : o < m) (hT : T = 56 ∨ T = 119 ∧ o % 4 ≠ 3) (v : Value) : Marks lo hi w0 (w.setCell ⟨b, o, none⟩ v) := by
  refine h.trans ⟨rfl, rfl, rfl, by simp [World.setCell], fun k hk => Below.heap_setCell _ _ _ _ (by show k ≠ b; omega), fun b' m' T' h' => h'.set _ _ _, fun b' m' h' i => ?_, fun b' m' h' i => ?_⟩
  · by_cases e : b' = b
    · subst e
      have := own_type h' ho
      rw [ho.cell_set hm]
      rw [if_neg]
      rcases hT with hT | ⟨hT, h3⟩
      · rw [hT] at this; exact absurd this (by decide)
      · omega
    · exact cell_set_other v e
  · by_cases e : b' = b
    · subst e
      have := own_type h' ho
      rcases hT with hT | ⟨hT, h3⟩
      · rw [hT] at this; exact absurd this (by decide)
      · rw [hT] at this; exact absurd this (by decide)
    · exact cell_set_other v e
def TSh (w : World) (lo hi : Nat) (a : Option Addr) (ts : List Ty) : Prop :=
  ts = [] ∨ ∃ b m, a = some ⟨b, 0, none⟩ ∧ lo ≤ b ∧ b < hi ∧ Own w b m 119 ∧ ts.length * 4 ≤ m ∧ ∀ i, i < ts.length → ∃ fa fc, w.cell? ⟨b, i * 4 + 3, none⟩ = some (.slice fa (tyAt ts i).fields.length fc) ∧ FSh w lo hi fa (tyAt ts i).fields.length
def GSh (w : World) (lo hi : Nat) (a : Option Addr) (gs : List (List Ty)) : Prop :=
  gs = [] ∨ ∃ b m, a = some ⟨b, 0, none⟩ ∧ lo ≤ b ∧ b < hi ∧ Own w b m 74 ∧ ∀ i, i < gs.length → ∃ ta tc, w.cell? ⟨b, i, none⟩ = some (.slice ta (grAt gs i).length tc) ∧ TSh w lo hi ta (grAt gs i)
theorem FSh.marks {lo hi lo' hi' n : Nat} {w w' : World} {a : Option Addr} (h : FSh w lo hi a n) (hk : Marks lo' hi' w w') : FSh w' lo hi a n := by
  rcases h with h | ⟨b, m, rfl, h3, h4, h5, h6⟩
  · exact .inl h
  · exact .inr ⟨b, m, rfl, h3, h4, hk.own _ _ _ h5, h6⟩
theorem TSh.marks {lo hi lo' hi' : Nat} {w w' : World} {a : Option Addr} {ts : List Ty} (h : TSh w lo hi a ts) (hk : Marks lo' hi' w w') : TSh w' lo hi a ts := by
  rcases h with h | ⟨b, m, rfl, h3, h4, h5, h6, h7⟩
  · exact .inl h
  · refine .inr ⟨b, m, rfl, h3, h4, hk.own _ _ _ h5, h6, fun i hi => ?_⟩
    obtain ⟨fa, fc, c, f⟩ := h7 i hi
    exact ⟨fa, fc, by rw [hk.head b m h5]; exact c, f.marks hk⟩
theorem TypesNew.shape {lo hi : Nat} {w : World} {a : Option Addr} {ts : List Ty} (h : TypesNew w lo hi a ts) : TSh w lo hi a ts := by
  rcases h with rfl | ⟨b, rfl, h3, h4, h5, h6⟩
  · exact .inl rfl
  · refine .inr ⟨b, _, rfl, h3, h4, h5, Nat.le_refl _, fun i hi => ?_⟩
    obtain ⟨_, _, _, fa, fc, c3, hf⟩ := h6 i hi
    exact ⟨fa, fc, c3, hf.2⟩
theorem GroupsNew.shape {lo hi : Nat} {w : World} {a : Option Addr} {gs : List (List Ty)} (h : GroupsNew w lo hi a gs) : GSh w lo hi a gs := by
  rcases h with rfl | ⟨b, rfl, h3, h4, h5, h6⟩
  · exact .inl rfl
  · refine .inr ⟨b, _, rfl, h3, h4, h5, fun i hi => ?_⟩
    obtain ⟨ta, tc, c3, hf⟩ := h6 i hi
    exact ⟨ta, tc, c3, hf.shape⟩
/-- What is marked from k on. -/
def markF (k : Int) (i : Nat) : Fd := ⟨k + 3 * i, k + 3 * i + 1, (k + 3 * (i : Int) + 1 + 1) % 3 == 0⟩
set_option maxHeartbeats 400000 in
theorem markFieldS_any (a : Option Addr) (cap n lo hi : Nat) (k : Int) (w : World) (hn : n ≤ 1048576) (k0 : 0 ≤ k) (k1 : k ≤ 4611686018427387904) (hx : FSh w lo hi a n) :
    Calls Tryz.prog 93 #[.slice a n cap, .int .i64 k] w fun e w' => e = .returned (.int .i64 (k + 3 * (n : Int))) ∧ Marks lo hi w w' ∧ (n = 0 ∨ ∃ b, a = some ⟨b, 0, none⟩ ∧ lo ≤ b ∧ b < hi ∧ ∀ i, i < n → FieldAt w' b (i * 3) (markF k i)) := by
  rcases hx with h0 | ⟨b, m, rfl, h1, h2, h3, h4⟩
  · have h0' : n ≤ 0 := by omega
    have H0 := hide h0
    clear h0
    go_enter Tryz.func93, Tryz.ntmps93
    go_wp2_with fail
    go_loop [1, 5] (fun l i => i = .int .i64 0 ∧ l = .int .i64 k) (fun l i => 0)
    case atStart => exact ⟨rfl, rfl⟩
    case round =>
      obtain ⟨rfl, rfl⟩ := hrel
      go_wp2_with fail
      go_ret
      exact ⟨ret_int (by rw [H0.out]; simp), Marks.refl _ _ _, .inl H0.out⟩
  · have H3 := hide h3
    clear h3
    go_enter Tryz.func93, Tryz.ntmps93
    go_wp2_with fail
    go_loopw [1, 5] (fun l i wr => ∃ j : Nat, j ≤ n ∧ i = .int .i64 j ∧ l = .int .i64 (k + 3 * (j : Int)) ∧ Marks lo hi w wr ∧ ∀ q, q < j → FieldAt wr b (q * 3) (markF k q)) (fun l i wr => n - (intOf i).toNat)
    case atStart => exact ⟨0, Nat.zero_le _, rfl, by simp, Marks.refl _ _ _, fun q hq => absurd hq (Nat.not_lt_zero _)⟩
    case round =>
      obtain ⟨j, hj, rfl, rfl, hM, hF⟩ := hrel
      have HM := hide hM
      have HF := hide hF
      clear hM hF
      by_cases hjn : j < n
      · have HO := hide (HM.out.own _ _ _ H3.out)
        have f0 := HO.out.frozen (j * 3)
        have f1 := HO.out.frozen (j * 3 + 1)
        have f2 := HO.out.frozen (j * 3 + 2)
        obtain ⟨v0, d0⟩ := HO.out.cell (o := j * 3) (by omega)
        obtain ⟨v1, d1⟩ := HO.out.cell (o := j * 3 + 1) (by omega)
        obtain ⟨v2, d2⟩ := HO.out.cell (o := j * 3 + 2) (by omega)
        go_wp2_with fail
        have o1 := HO.out.set b (j * 3) (.int .i64 (k + 3 * (j : Int)))
        have o2 := o1.set b (j * 3 + 1) (.int .i64 (k + 3 * (j : Int) + 1))
        refine ⟨⟨j + 1, by omega, by go_num, ?_, ((HM.out.set HO.out h1 h2 _ (by omega) (.inl rfl) _).set o1 h1 h2 _ (by omega) (.inl rfl) _).set o2 h1 h2 _ (by omega) (.inl rfl) _, field_set HO.out (markF k) j (by omega) HF.out⟩, by simp [intOf]; omega⟩
        congr 1
        omega
      · have hje : Hid (j = n) := Nat.le_antisymm hj (Nat.le_of_not_lt hjn)
        go_wp2_with fail
        go_ret
        exact ⟨ret_int (by rw [hje.out]), HM.out, .inr ⟨b, rfl, h1, h2, hje.out ▸ HF.out⟩⟩
set_option maxHeartbeats 400000 in
theorem markTypeS_any (a : Option Addr) (cap lo hi : Nat) (ts : List Ty) (k : Int) (w : World) (hn : ts.length ≤ 1048576) (hm : ∀ i, i < ts.length → (tyAt ts i).fields.length ≤ 1048576) (k0 : 0 ≤ k) (k1 : k ≤ 4500000000000000000) (hx : TSh w lo hi a ts) :
    Calls Tryz.prog 56 #[.slice a ts.length cap, .int .i64 k] w fun e w' => ∃ r : Int, e = .returned (.int .i64 r) ∧ k ≤ r ∧ r ≤ k + 3145731 * (ts.length : Int) ∧ Marks lo hi w w' := by
  have HM := hide hm
  clear hm
  rcases hx with h0 | ⟨b, m, rfl, h1, h2, h3, h4, h5⟩
  · have h0' : ts.length ≤ 0 := by rw [h0]; exact Nat.le_refl _
    clear h0
    go_enter Tryz.func56, Tryz.ntmps56
    go_wp2_with fail
    go_loop [1, 5] (fun l i => i = .int .i64 0 ∧ l = .int .i64 k) (fun l i => 0)
    case atStart => exact ⟨rfl, rfl⟩
    case round =>
      obtain ⟨rfl, rfl⟩ := hrel
      go_wp2_with fail
      go_ret
      exact ⟨k, rfl, by omega, by omega, Marks.refl _ _ _⟩
  · have H3 := hide h3
    have H5 := hide h5
    clear h3 h5
    go_enter Tryz.func56, Tryz.ntmps56
    go_wp2_with fail
    go_loopw [1, 5] (fun l i wr => ∃ (j : Nat) (r : Int), j ≤ ts.length ∧ i = .int .i64 j ∧ l = .int .i64 r ∧ k ≤ r ∧ r ≤ k + 3145731 * (j : Int) ∧ Marks lo hi w wr) (fun l i wr => ts.length - (intOf i).toNat)
    case atStart => exact ⟨0, k, Nat.zero_le _, rfl, rfl, by omega, by omega, Marks.refl _ _ _⟩
    case round =>
      obtain ⟨j, r, hj, rfl, rfl, r1, r2, hM⟩ := hrel
      have HK := hide hM
      clear hM
      by_cases hjn : j < ts.length
      · obtain ⟨fa, fc, c3, fsh⟩ := H5.out j hjn
        have HO := hide (HK.out.own _ _ _ H3.out)
        have f0 := HO.out.frozen (j * 4)
        have f1 := HO.out.frozen (j * 4 + 1)
        have f2 := HO.out.frozen (j * 4 + 2)
        obtain ⟨v0, d0⟩ := HO.out.cell (o := j * 4) (by omega)
        obtain ⟨v1, d1⟩ := HO.out.cell (o := j * 4 + 1) (by omega)
        obtain ⟨v2, d2⟩ := HO.out.cell (o := j * 4 + 2) (by omega)
        have d3 : wr.cell? ⟨b, j * 4 + 3, none⟩ = some (.slice fa (tyAt ts j).fields.length fc) := by rw [HK.out.head b m H3.out]; exact c3
        have q1 := HM.out j hjn
        have FS := hide fsh
        clear fsh c3
        go_wp2_with fail
        have o1 := HO.out.set b (j * 4) (.int .i64 r)
        have o2 := o1.set b (j * 4 + 1) (.int .i64 (r + 1))
        have M3 := ((HK.out.set HO.out h1 h2 (j * 4) (by omega) (.inr ⟨rfl, by omega⟩) (.int .i64 r)).set o1 h1 h2 (j * 4 + 1) (by omega) (.inr ⟨rfl, by omega⟩) (.int .i64 (r + 1))).set o2 h1 h2 (j * 4 + 2) (by omega) (.inr ⟨rfl, by omega⟩) (.bool ((r + 1 + 1) % 3 == 0))
        refine (markFieldS_any fa fc (tyAt ts j).fields.length lo hi _ _ q1 (by omega) (by omega) (FS.out.marks M3)).mono ?_
        rintro e w1 ⟨rfl, hM1, _⟩
        have M4 := hide (M3.trans hM1)
        clear hM1 M3 o1 o2
        go_wp2_with fail
        exact ⟨⟨j + 1, _, by omega, by go_num, rfl, by omega, by omega, M4.out⟩, by simp [intOf]; omega⟩
      · have hje : Hid (j = ts.length) := Nat.le_antisymm hj (Nat.le_of_not_lt hjn)
        go_wp2_with fail
        go_ret
        exact ⟨r, rfl, r1, by omega, HK.out⟩
set_option maxHeartbeats 400000 in
theorem markTypeSS_any (a : Option Addr) (cap lo hi : Nat) (gs : List (List Ty)) (k : Int) (w : World) (hn : Few gs) (k0 : 0 ≤ k) (k1 : k ≤ 1) (hx : GSh w lo hi a gs) :
    Calls Tryz.prog 20 #[.slice a gs.length cap, .int .i64 k] w fun e w' => ∃ r : Int, e = .returned (.int .i64 r) ∧ k ≤ r ∧ r ≤ 4500000000000000000 ∧ Marks lo hi w w' := by
  have l1 := hn.1
  have HN := hide hn
  clear hn
  rcases hx with h0 | ⟨b, m, rfl, h1, h2, h3, h5⟩
  · have h0' : gs.length ≤ 0 := by rw [h0]; exact Nat.le_refl _
    clear h0
    go_enter Tryz.func20, Tryz.ntmps20
    go_wp2_with fail
    go_loop [1, 5] (fun l i => i = .int .i64 0 ∧ l = .int .i64 k) (fun l i => 0)
    case atStart => exact ⟨rfl, rfl⟩
    case round =>
      obtain ⟨rfl, rfl⟩ := hrel
      go_wp2_with fail
      go_ret
      exact ⟨k, rfl, by omega, by omega, Marks.refl _ _ _⟩
  · have H3 := hide h3
    have H5 := hide h5
    clear h3 h5
    go_enter Tryz.func20, Tryz.ntmps20
    go_wp2_with fail
    go_loopw [1, 5] (fun l i wr => ∃ (j : Nat) (r : Int), j ≤ gs.length ∧ i = .int .i64 j ∧ l = .int .i64 r ∧ k ≤ r ∧ r ≤ k + 3298538029056 * (j : Int) ∧ Marks lo hi w wr) (fun l i wr => gs.length - (intOf i).toNat)
    case atStart => exact ⟨0, k, Nat.zero_le _, rfl, rfl, by omega, by omega, Marks.refl _ _ _⟩
    case round =>
      obtain ⟨j, r, hj, rfl, rfl, r1, r2, hM⟩ := hrel
      have HK := hide hM
      clear hM
      by_cases hjn : j < gs.length
      · obtain ⟨ta, tc, c3, tsh⟩ := H5.out j hjn
        have d3 : wr.cell? ⟨b, j, none⟩ = some (.slice ta (grAt gs j).length tc) := by rw [HK.out.top b m H3.out]; exact c3
        have q1 := (HN.out.2 j hjn).1
        have TS := hide (tsh.marks HK.out)
        clear tsh c3
        go_wp2_with fail
        refine (markTypeS_any ta tc lo hi (grAt gs j) _ _ q1 (HN.out.2 j hjn).2 (by omega) (by omega) TS.out).mono ?_
        rintro e w1 ⟨r', rfl, s1, s2, hM1⟩
        have M4 := hide (HK.out.trans hM1)
        clear hM1
        go_wp2_with fail
        exact ⟨⟨j + 1, r', by omega, by go_num, rfl, by omega, by omega, M4.out⟩, by simp [intOf]; omega⟩
      · have hje : Hid (j = gs.length) := Nat.le_antisymm hj (Nat.le_of_not_lt hjn)
        go_wp2_with fail
        go_ret
        exact ⟨r, rfl, r1, by omega, HK.out⟩
end Go.Proofs.YtgobajjllnhlkaaGreatDoor
namespace Go.Proofs.YtgobajjllnhlkaaGreatDoor
open Go.ChangeShapes Go.WideShapes Go.ChangeAt Go.RowKit Go.Joins Go.Deep
set_option linter.unusedVariables false
def isSl : Option Value → Bool
 | some (.slice _ _ _) => true
 | _ => false
def SlAt (T : TypeId) (o : Nat) : Prop := ∃ z size bytes, (Tryz.prog.info? T).map (fun i => (i.zero, i.size, i.bytes)) = some (some z, size, bytes) ∧ isSl z.cells[o % size]? = true
theorem sl_mod (i size q : Nat) (hq : q < size) : (i * size + q) % size = q := by rw [Nat.mul_comm, Nat.mul_add_mod, Nat.mod_eq_of_lt hq]
theorem sl_t {T : TypeId} {z : Value} {size bytes : Nat} (h : (Tryz.prog.info? T).map (fun i => (i.zero, i.size, i.bytes)) = some (some z, size, bytes)) (i q : Nat) (hq : q < size) (hs : isSl z.cells[q]? = true) : SlAt T (i * size + q) :=
 ⟨z, size, bytes, h, by rw [sl_mod i size q hq]; exact hs⟩
theorem sl_f {T : TypeId} {z : Value} {size bytes : Nat} (h : (Tryz.prog.info? T).map (fun i => (i.zero, i.size, i.bytes)) = some (some z, size, bytes)) (i q : Nat) (hq : q < size) (hs : isSl z.cells[q]? = false) : ¬ SlAt T (i * size + q) := by
 rintro ⟨z', size', bytes', h', k⟩
 rw [h] at h'
 simp only [Option.some.injEq, Prod.mk.injEq] at h'
 obtain ⟨rfl, rfl, rfl⟩ := h'
 rw [sl_mod i size q hq, hs] at k
 cases k
theorem sl_t0 {T : TypeId} {z : Value} {size bytes : Nat} (h : (Tryz.prog.info? T).map (fun i => (i.zero, i.size, i.bytes)) = some (some z, size, bytes)) (i : Nat) (hq : 0 < size) (hs : isSl z.cells[0]? = true) : SlAt T (i * size) := sl_t h i 0 hq hs
theorem sl_f0 {T : TypeId} {z : Value} {size bytes : Nat} (h : (Tryz.prog.info? T).map (fun i => (i.zero, i.size, i.bytes)) = some (some z, size, bytes)) (i : Nat) (hq : 0 < size) (hs : isSl z.cells[0]? = false) : ¬ SlAt T (i * size) := sl_f h i 0 hq hs
theorem sl_t1 {T : TypeId} {z : Value} {bytes : Nat} (h : (Tryz.prog.info? T).map (fun i => (i.zero, i.size, i.bytes)) = some (some z, 1, bytes)) (i : Nat) (hs : isSl z.cells[0]? = true) : SlAt T i := by
 have := sl_t0 h i (by decide) hs
 rwa [Nat.mul_one] at this
theorem sl_f1 {T : TypeId} {z : Value} {bytes : Nat} (h : (Tryz.prog.info? T).map (fun i => (i.zero, i.size, i.bytes)) = some (some z, 1, bytes)) (i : Nat) (hs : isSl z.cells[0]? = false) : ¬ SlAt T i := by
 have := sl_f0 h i (by decide) hs
 rwa [Nat.mul_one] at this
structure MarksG (lo hi : Nat) (w w' : World) : Prop where
 os : w'.os = w.os
 tape : w'.tape = w.tape
 output : w'.output = w.output
 size : w.heap.size ≤ w'.heap.size
 out : ∀ b, b < w.heap.size → b < lo ∨ hi ≤ b → w'.heap[b]? = w.heap[b]?
 own : ∀ b m T, Own w b m T → Own w' b m T
 head : ∀ b m T o, Own w b m T → SlAt T o → w'.cell? ⟨b, o, none⟩ = w.cell? ⟨b, o, none⟩
theorem MarksG.refl (lo hi : Nat) (w : World) : MarksG lo hi w w := ⟨rfl, rfl, rfl, Nat.le_refl _, fun _ _ _ => rfl, fun _ _ _ h => h, fun _ _ _ _ _ _ => rfl⟩
theorem MarksG.trans {lo hi : Nat} {a b c : World} (h : MarksG lo hi a b) (k : MarksG lo hi b c) : MarksG lo hi a c :=
 ⟨k.os.trans h.os, k.tape.trans h.tape, k.output.trans h.output, Nat.le_trans h.size k.size, fun x hl hx => (k.out x (Nat.lt_of_lt_of_le hl h.size) hx).trans (h.out x hl hx), fun b m T ho => k.own b m T (h.own b m T ho),
  fun b m T o ho hs => (k.head b m T o (h.own b m T ho) hs).trans (h.head b m T o ho hs)⟩
theorem MarksG.of_below {lo hi : Nat} {w w' : World} (h : Below w.heap.size w w') : MarksG lo hi w w' :=
 ⟨h.os, h.tape, h.output, h.size, fun k hk _ => h.block k hk, fun b m T ho => ho.below h ho.lt, fun b m T o ho _ => h.cell (p := ⟨b, o, none⟩) ho.lt⟩
theorem MarksG.below {lo hi B : Nat} {w w' : World} (h : MarksG lo hi w w') (hB : B ≤ lo) (hs : B ≤ w.heap.size) : Below B w w' := ⟨h.os, h.tape, h.output, h.size, fun k hk => h.out k (by omega) (.inl (by omega))⟩
theorem own_typeG {w : World} {b m m' : Nat} {T T' : TypeId} (h : Own w b m T) (h' : Own w b m' T') : T = T' := by
 obtain ⟨c, hb, _⟩ := h
 obtain ⟨c', hb', _⟩ := h'
 rw [hb] at hb'
 simp at hb'
 exact hb'.2
theorem MarksG.set {lo hi : Nat} {w w0 : World} (h : MarksG lo hi w0 w) {b m : Nat} {T : TypeId} (ho : Own w b m T) (h1 : lo ≤ b) (h2 : b < hi) (o : Nat) (hm : o < m) (hT : ¬ SlAt T o) (v : Value) : MarksG lo hi w0 (w.setCell ⟨b, o, none⟩ v) := by
 refine h.trans ⟨rfl, rfl, rfl, by simp [World.setCell], fun k _ hk => Below.heap_setCell _ _ _ _ (by show k ≠ b; omega), fun b' m' T' h' => h'.set _ _ _, fun b' m' T' o' h' hs => ?_⟩
 by_cases e : b' = b
 ·subst e
  have := own_typeG h' ho
  subst this
  rw [ho.cell_set hm, if_neg]
  intro e
  subst e
  exact hT hs
 ·exact World.cell?_of_block (w := w) (Below.heap_setCell _ _ _ _ e)
theorem Rec.marks {lo hi b : Nat} {w w' : World} {T : TypeId} {vs : List Value} (h : Rec w b T vs) (ht : MarksG lo hi w w') (hb : b < lo ∨ hi ≤ b) : Rec w' b T vs := (ht.out b h.lt hb).trans h
def FlatSh (T : TypeId) (sz : Nat) (w : World) (lo hi : Nat) (a : Option Addr) (n : Nat) : Prop := n = 0 ∨ ∃ b m, a = some ⟨b, 0, none⟩ ∧ lo ≤ b ∧ b < hi ∧ Own w b m T ∧ n * sz ≤ m
theorem FlatSh.marks {T : TypeId} {sz lo hi lo' hi' n : Nat} {w w' : World} {a : Option Addr} (h : FlatSh T sz w lo hi a n) (hk : MarksG lo' hi' w w') : FlatSh T sz w' lo hi a n := by
 rcases h with h | ⟨b, m, rfl, h3, h4, h5, h6⟩
 ·exact .inl h
 ·exact .inr ⟨b, m, rfl, h3, h4, hk.own _ _ _ h5, h6⟩
theorem FlatSh.keep {T : TypeId} {sz lo hi n : Nat} {w w' : World} {a : Option Addr} (h : FlatSh T sz w lo hi a n) (hk : Below hi w w') : FlatSh T sz w' lo hi a n := by
 rcases h with h | ⟨b, m, rfl, h3, h4, h5, h6⟩
 ·exact .inl h
 ·exact .inr ⟨b, m, rfl, h3, h4, h5.below hk h4, h6⟩
theorem infoIntM : (Tryz.prog.info? 3).map (fun i => (i.zero, i.size, i.bytes)) = some (some (.int .i64 0), 1, 8) := by kernel_rfl
/-- The numbers from k on stand there. -/
def MarkedInt (w : World) (lo hi : Nat) (a : Option Addr) (n : Nat) (k : Int) : Prop := n = 0 ∨ ∃ b, a = some ⟨b, 0, none⟩ ∧ lo ≤ b ∧ b < hi ∧ (∀ i : Nat, i < n → w.cell? ⟨b, i, none⟩ = some (.int .i64 (k + (i : Int))))
theorem MarkedInt.same {w w' : World} {lo hi : Nat} {a : Option Addr} {n : Nat} {k : Int} (h : MarkedInt w lo hi a n k) (hs : ∀ b, lo ≤ b → b < hi → w'.heap[b]? = w.heap[b]?) : MarkedInt w' lo hi a n k := by
  rcases h with h | ⟨b, e, h3, h4, h5⟩
  · exact .inl h
  · have q : ∀ o, w'.cell? ⟨b, o, none⟩ = w.cell? ⟨b, o, none⟩ := fun o => World.cell?_of_block (w := w) (hs b h3 h4)
    exact .inr ⟨b, e, h3, h4, fun i hi => by simp only [q]; exact h5 i hi⟩
theorem MarkedInt.keep {w w' : World} {lo hi : Nat} {a : Option Addr} {n : Nat} {k : Int} (h : MarkedInt w lo hi a n k) (hb : Below hi w w') : MarkedInt w' lo hi a n k := h.same fun b _ h2 => hb.block b h2
set_option maxHeartbeats 800000 in
theorem markIntS_m (a : Option Addr) (cap n lo hi : Nat) (k : Int) (w : World) (hn : n ≤ 4398046511104) (k0 : 0 ≤ k) (k1 : k ≤ 4611686018427387904) (hx : FlatSh 3 1 w lo hi a n) :
    Calls Tryz.prog 22 #[.slice a n cap, .int .i64 k] w fun e w' => e = .returned (.int .i64 (k + (n : Int))) ∧ MarksG lo hi w w' ∧ MarkedInt w' lo hi a n k := by
  rcases hx with h0 | ⟨b, m, rfl, h1, h2, h3, h4⟩
  · have h0' : n ≤ 0 := by omega
    have H0 := hide h0
    clear h0
    go_enter Tryz.func22, Tryz.ntmps22
    go_wp2_with fail
    go_loop [1, 5] (fun l i => i = .int .i64 0 ∧ l = .int .i64 k) (fun l i => 0)
    case atStart => exact ⟨rfl, rfl⟩
    case round =>
      obtain ⟨rfl, rfl⟩ := hrel
      go_wp2_with fail
      go_ret
      exact ⟨ret_int (by rw [H0.out]; simp), MarksG.refl _ _ _, .inl H0.out⟩
  · have H3 := hide h3
    clear h3
    go_enter Tryz.func22, Tryz.ntmps22
    go_wp2_with fail
    go_loopw [1, 5] (fun l i wr => ∃ j : Nat, j ≤ n ∧ i = .int .i64 j ∧ l = .int .i64 (k + (j : Int)) ∧ MarksG lo hi w wr ∧ ∀ i : Nat, i < j → wr.cell? ⟨b, i, none⟩ = some (.int .i64 (k + (i : Int)))) (fun l i wr => n - (intOf i).toNat)
    case atStart => exact ⟨0, Nat.zero_le _, rfl, by simp, MarksG.refl _ _ _, fun q hq => absurd hq (Nat.not_lt_zero _)⟩
    case round =>
      obtain ⟨j, hj, rfl, rfl, hM, hF⟩ := hrel
      have HM := hide hM
      have HF := hide hF
      clear hM hF
      by_cases hjn : j < n
      · have HO := hide (HM.out.own _ _ _ H3.out)
        have g1 : (0 : Int) ≤ (j : Int) := by omega
        have g2 : (j : Int) < (n : Int) := by omega
        have f0 := HO.out.frozen (j)
        obtain ⟨v0, d0⟩ := HO.out.cell (o := j) (by omega)
        go_wp2_with fail
        have o1 := HO.out.set b (j) (.int .i64 (k + (j : Int)))
        have M2 := hide ((HM.out).set HO.out h1 h2 (j) (by omega) (sl_f1 infoIntM j rfl) (.int .i64 (k + (j : Int))))
        refine ⟨⟨j + 1, by omega, by go_num, ?_, M2.out, fun i hi => ?_⟩, by simp [intOf]; omega⟩
        · congr 1
          omega
        · simp only [HO.out.cell_set (o := j) (by omega : j < m)]
          by_cases e : i = j
          · subst e
            simp
          · have q := HF.out i (by omega)
            refine ?_
            rw [if_neg (by omega)]
            exact q
      · have hje : Hid (j = n) := Nat.le_antisymm hj (Nat.le_of_not_lt hjn)
        go_wp2_with fail
        go_ret
        exact ⟨ret_int (by rw [hje.out]), HM.out, .inr ⟨b, rfl, h1, h2, hje.out ▸ HF.out⟩⟩
theorem NumsM.shapeG {lo hi : Nat} {w : World} {a : Option Addr} {xs : List Int} (h : NumsM true w lo hi a xs) : FlatSh 3 1 w lo hi a xs.length := by
  rcases h with rfl | ⟨b, off, rfl, h3, h4, h5, h6⟩
  · exact .inl rfl
  · obtain ⟨rfl, m, ho, hm⟩ := h5 rfl
    exact .inr ⟨b, m, rfl, h3, h4, ho, by omega⟩
set_option maxHeartbeats 800000 in
theorem heldIntS_m (a : Option Addr) (cap n lo hi : Nat) (k : Int) (w : World) (hn : n ≤ 4398046511104) (k0 : 0 ≤ k) (k1 : k ≤ 4611686018427387904) (hx : MarkedInt w lo hi a n k) :
    Calls Tryz.prog 23 #[.slice a n cap, .int .i64 k] w fun e w' => e = .returned (.int .i64 (k + (n : Int))) ∧ Below w.heap.size w w' := by
  rcases hx with h0 | ⟨b, rfl, h1, h2, h3⟩
  · subst h0
    go_enter Tryz.func23, Tryz.ntmps23
    go_wp2_with fail
    go_loopw [1, 5] (fun kv i wr => i = .int .i64 0 ∧ kv = .int .i64 k ∧ wr = w) (fun kv i wr => 0)
    case atStart => exact ⟨rfl, rfl, rfl⟩
    case round =>
    obtain ⟨rfl, rfl, rfl⟩ := hrel
    go_wp2_with fail
    go_ret
    exact ⟨ret_int (by simp), Below.refl _ _⟩
  · go_enter Tryz.func23, Tryz.ntmps23
    go_wp2_with fail
    go_loopw [1, 5] (fun kv i wr => ∃ j : Nat, j ≤ n ∧ i = .int .i64 j ∧ kv = .int .i64 (k + (j : Int)) ∧ ∃ q, wr = w.drewN q) (fun kv i wr => n - (intOf i).toNat)
    case atStart => exact ⟨0, Nat.zero_le _, rfl, by simp, 0, rfl⟩
    case round =>
      obtain ⟨j, hj, rfl, rfl, q, rfl⟩ := hrel
      by_cases hlt : j < n
      · obtain c0 := h3 j hlt
        have g1 : (0 : Int) ≤ (j : Int) := by omega
        have g2 : (j : Int) < (n : Int) := by omega
        clear h3
        go_wp2_with fail
        exact ⟨⟨j + 1, by omega, by go_num, by congr 1; omega, _, rfl⟩, by simp [intOf]; omega⟩
      · have hjn : Hid (j = n) := Nat.le_antisymm hj (Nat.le_of_not_lt hlt)
        go_wp2_with fail
        go_ret
        exact ⟨ret_int (by rw [hjn.out]), below_drewN (Below.refl _ _) _⟩
set_option maxHeartbeats 1600000 in
theorem markHeap_m (a0 : Option Addr) (c0 : Nat) (a4 : Option Addr) (c4 : Nat) (lo hi : Nat) (x : GHeap) (k : Int) (w : World) (hl : HeapB 1048576 x) (k0 : 0 ≤ k) (k1 : k ≤ 4500000000000000000) (g0 : FlatSh 3 1 w lo hi a0 x.words.length) (g4 : FlatSh 3 1 w lo hi a4 x.log.length) (hh : hi ≤ w.heap.size) :
    Calls Tryz.prog 21 #[.agg #[.slice a0 x.words.length c0, .int .i64 x.old, .int .i64 x.oldAt, .int .i64 x.youngAt, .slice a4 x.log.length c4], .int .i64 k] w fun e w' => ∃ r : Int, e = .returned (.int .i64 r) ∧ k ≤ r ∧ r ≤ k + 2097152 ∧ MarksG lo hi w w' := by
  have HL := hide hl
  have HH := hide hh
  clear hl hh
  have HB : Hid (Below w.heap.size w (w.alloc (.cells #[.slice a0 x.words.length c0, .int .i64 x.old, .int .i64 x.oldAt, .int .i64 x.youngAt, .slice a4 x.log.length c4] 31))) := (Below.refl _ _).alloc (Nat.le_refl _) _
  have G0_0 := hide (g0.keep (HB.out.mono HH.out))
  have G4_0 := hide (g4.keep (HB.out.mono HH.out))
  have R0 : Hid (Rec (w.alloc (.cells #[.slice a0 x.words.length c0, .int .i64 x.old, .int .i64 x.oldAt, .int .i64 x.youngAt, .slice a4 x.log.length c4] 31)) w.heap.size 31 [.slice a0 x.words.length c0, .int .i64 x.old, .int .i64 x.oldAt, .int .i64 x.youngAt, .slice a4 x.log.length c4]) := Rec.new' _ _ _ _ rfl
  have BU0 : Hid (MarksG lo hi w (w.alloc (.cells #[.slice a0 x.words.length c0, .int .i64 x.old, .int .i64 x.oldAt, .int .i64 x.youngAt, .slice a4 x.log.length c4] 31))) := MarksG.of_below HB.out
  clear g0 g4
  go_enter Tryz.func21, Tryz.ntmps21
  go_wp2_with fail
  refine (markIntS_m a0 c0 x.words.length lo hi _ _ (Nat.le_trans HL.out.1 (by decide)) (by omega) (by omega) G0_0.out).mono ?_
  rintro e w1 ⟨rfl, hM1, _⟩
  have lb0 : x.words.length ≤ 1048576 := HL.out.1
  obtain ⟨q0, hq0⟩ : ∃ q : Int, q = k + (x.words.length : Int) := ⟨_, rfl⟩
  rw [← hq0]
  have u0 : k ≤ q0 ∧ q0 ≤ k + 1048576 := by omega
  clear hq0 lb0
  have BU1 := hide (BU0.out.trans hM1)
  have G0_1 := hide (G0_0.out.marks hM1)
  have G4_1 := hide (G4_0.out.marks hM1)
  have R1 := hide (R0.out.marks hM1 (.inr HH.out))
  have r0_1 := R1.out.cell (o := 0) rfl
  have r1_1 := R1.out.cell (o := 1) rfl
  have r2_1 := R1.out.cell (o := 2) rfl
  have r3_1 := R1.out.cell (o := 3) rfl
  have r4_1 := R1.out.cell (o := 4) rfl
  clear hM1 G0_0 G4_0
  go_wp2_with fail
  refine (markIntS_m a4 c4 x.log.length lo hi _ _ (Nat.le_trans HL.out.2 (by decide)) (by omega) (by omega) G4_1.out).mono ?_
  rintro e w2 ⟨rfl, hM2, _⟩
  have lb1 : x.log.length ≤ 1048576 := HL.out.2
  obtain ⟨q1, hq1⟩ : ∃ q : Int, q = q0 + (x.log.length : Int) := ⟨_, rfl⟩
  rw [← hq1]
  have u1 : q0 ≤ q1 ∧ q1 ≤ q0 + 1048576 := by omega
  clear hq1 lb1
  have BU2 := hide (BU1.out.trans hM2)
  have G0_2 := hide (G0_1.out.marks hM2)
  have G4_2 := hide (G4_1.out.marks hM2)
  have R2 := hide (R1.out.marks hM2 (.inr HH.out))
  have r0_2 := R2.out.cell (o := 0) rfl
  have r1_2 := R2.out.cell (o := 1) rfl
  have r2_2 := R2.out.cell (o := 2) rfl
  have r3_2 := R2.out.cell (o := 3) rfl
  have r4_2 := R2.out.cell (o := 4) rfl
  clear r0_1 r1_1 r2_1 r3_1 r4_1
  clear hM2 G0_1 G4_1
  go_wp2_with fail
  go_ret
  exact ⟨q1, rfl, by omega, by omega, BU2.out⟩
end Go.Proofs.YtgobajjllnhlkaaGreatDoor
namespace Go.Proofs.YtgobajjllnhlkaaGreatDoor
open Go.ChangeShapes Go.WideShapes Go.ChangeAt Go.RowKit Go.Deep
set_option linter.unusedVariables false
/-- Of what was there nothing but blocks from lo on and below hi has turned. -/
structure StepB (lo hi : Nat) (w w' : World) : Prop where
 os : w'.os = w.os
 tape : w'.tape = w.tape
 output : w'.output = w.output
 size : w.heap.size ≤ w'.heap.size
 out : ∀ b, b < w.heap.size → b < lo ∨ hi ≤ b → w'.heap[b]? = w.heap[b]?
theorem StepB.of_below {w w' : World} (h : Below w.heap.size w w') : StepB 0 0 w w' := ⟨h.os, h.tape, h.output, h.size, fun k hk _ => h.block k hk⟩
theorem StepB.of_marks {lo hi : Nat} {w w' : World} (h : Marks lo hi w w') : StepB lo hi w w' := ⟨h.os, h.tape, h.output, Nat.le_of_eq h.size.symm, fun k _ hk => h.out k hk⟩
theorem StepB.of_marksG {lo hi : Nat} {w w' : World} (h : MarksG lo hi w w') : StepB lo hi w w' := ⟨h.os, h.tape, h.output, h.size, h.out⟩
theorem Below.step {B lo hi : Nat} {w0 w w' : World} (h : Below B w0 w) (hB : B ≤ w0.heap.size) (s : StepB lo hi w w') (hd : B ≤ lo ∨ hi = 0) : Below B w0 w' :=
 h.trans ⟨s.os, s.tape, s.output, s.size, fun k hk => s.out k (by have := h.size; omega) (by omega)⟩
theorem Rec.step {b lo hi : Nat} {w w' : World} {T : TypeId} {vs : List Value} (h : Rec w b T vs) (s : StepB lo hi w w') (hd : b < lo ∨ hi ≤ b) : Rec w' b T vs := (s.out b h.lt hd).trans h
/-- A list of numbers in a block of its own, from l on and below u. -/
def LnB (w : World) (l u : Nat) (a : Option Addr) (xs : List Int) : Prop := xs = [] ∨ ∃ g m, a = some ⟨g, 0, none⟩ ∧ l ≤ g ∧ g < u ∧ Own w g m 3 ∧ xs.length ≤ m ∧ ∀ i, i < xs.length → w.cell? ⟨g, i, none⟩ = some (.int .i64 (nAt xs i))
theorem LnB.step {l u lo hi : Nat} {w w' : World} {a : Option Addr} {xs : List Int} (h : LnB w l u a xs) (s : StepB lo hi w w') (hu : u ≤ w.heap.size) (hd : u ≤ lo ∨ hi ≤ l) : LnB w' l u a xs := by
 rcases h with h | ⟨g, m, e, h1, h2, h3, h4, h5⟩
 ·exact .inl h
 ·have hb := s.out g (by omega) (by omega)
  exact .inr ⟨g, m, e, h1, h2, h3.of_block hb, h4, fun i hi => (World.cell?_of_block (w := w) hb).trans (h5 i hi)⟩
theorem NRow.lnB {w : World} {S c : Nat} {a : Option Addr} {xs : List Int} (h : NRow w S (.slice a xs.length c) xs) : LnB w S w.heap.size a xs := by
 by_cases h0 : xs = []
 ·exact .inl h0
 ·have hp : 0 < xs.length := List.length_pos_iff.2 h0
  rcases h.2 with ⟨_, hz⟩ | ⟨g, cap, cur, e, h1, h2, h3, h4, h5, _⟩
  ·omega
  ·cases e
   refine .inr ⟨g, cur.size, rfl, h1, (Array.getElem?_eq_some_iff.1 h2).1, ⟨cur, h2, rfl⟩, by omega, fun i hi => ?_⟩
   rw [← nAt_get hi]
   exact h.cell hi
theorem LnB.sh {w : World} {l u : Nat} {a : Option Addr} {xs : List Int} (h : LnB w l u a xs) : FlatSh 3 1 w l u a xs.length := by
 rcases h with h | ⟨g, m, e, h1, h2, h3, h4, _⟩
 ·exact .inl (by rw [h]; rfl)
 ·exact .inr ⟨g, m, e, h1, h2, h3, by omega⟩
theorem eqLn {w : World} {l u l' u' cap cap' : Nat} {a a' : Option Addr} {xs : List Int} (hl : xs.length ≤ 1048576) (h : LnB w l u a xs) (h' : LnB w l' u' a' xs) :
  Calls Tryz.prog 19 #[.slice a xs.length cap, .slice a' xs.length cap'] w fun e w' => e = .returned (.bool true) ∧ Below w.heap.size w w' := by
 refine (eqIntS_core a a' cap cap' xs.length (fun i => nAt xs i) w hl ?_).mono ?_
 ·rcases h with rfl | ⟨g, m, rfl, _, _, _, _, h5⟩
  ·exact .inl (Nat.le_refl _)
  ·rcases h' with rfl | ⟨g', m', rfl, _, _, _, _, h5'⟩
   ·exact .inl (Nat.le_refl _)
   ·exact .inr ⟨g, 0, g', 0, rfl, rfl, fun i hi => by rw [Nat.zero_add]; exact h5 i hi, fun i hi => by rw [Nat.zero_add]; exact h5' i hi⟩
 ·rintro e w' ⟨rfl, m, rfl⟩
  exact ⟨rfl, below_drewN (Below.refl _ _) m⟩
theorem MarkedInt.step {l u lo hi n : Nat} {w w' : World} {a : Option Addr} {k : Int} (h : MarkedInt w l u a n k) (s : StepB lo hi w w') (hu : u ≤ w.heap.size) (hd : u ≤ lo ∨ hi ≤ l) : MarkedInt w' l u a n k := h.same fun b h1 h2 => s.out b (by omega) (by omega)
theorem numsSh {w : World} {l u : Nat} {a : Option Addr} {xs : List Int} (h : NumsM true w l u a xs) : FlatSh 3 1 w l u a xs.length := by
 rcases h with h | ⟨b, off, e, h1, h2, h3, _⟩
 ·exact .inl (by rw [h]; rfl)
 ·obtain ⟨e0, m, h4, h5⟩ := h3 rfl
  subst e0
  exact .inr ⟨b, m, e, h1, h2, h4, by omega⟩
theorem FlatSh.step {T : TypeId} {sz l u lo hi n : Nat} {w w' : World} {a : Option Addr} (h : FlatSh T sz w l u a n) (s : StepB lo hi w w') (hu : u ≤ w.heap.size) (hd : u ≤ lo ∨ hi ≤ l) : FlatSh T sz w' l u a n := by
 rcases h with h | ⟨b, m, e, h1, h2, h3, h4⟩
 ·exact .inl h
 ·exact .inr ⟨b, m, e, h1, h2, h3.of_block (s.out b (by omega) (by omega)), h4⟩
/-- Groups of a range of blocks. -/
def GX (w : World) (l u : Nat) (n : Option Addr) (gs : List (List Ty)) : Prop := GroupsNew w l u n gs
theorem GX.step {l u : Nat} {w w' : World} {n : Option Addr} {gs : List (List Ty)} (h : GX w l u n gs) (hb : Below w.heap.size w w') (hu : u ≤ w.heap.size) : GX w' l u n gs := GroupsNew.keep h (hb.mono hu)
theorem PMh.stepB {l u : Nat} {w w' : World} {a0 a4 : Option Addr} {x : GHeap} (h : PMh true w l u a0 a4 x) (hb : Below w.heap.size w w') (hu : u ≤ w.heap.size) : PMh true w' l u a0 a4 x := h.keep (hb.mono hu)
/-- The shapes of a heap's lists. -/
def HSh (w : World) (l u : Nat) (a0 a4 : Option Addr) (x : GHeap) : Prop := FlatSh 3 1 w l u a0 x.words.length ∧ FlatSh 3 1 w l u a4 x.log.length
theorem PMh.sh {l u : Nat} {w : World} {a0 a4 : Option Addr} {x : GHeap} (h : PMh true w l u a0 a4 x) : HSh w l u a0 a4 x := ⟨numsSh h.1, numsSh h.2⟩
theorem HSh.step {l u lo hi : Nat} {w w' : World} {a0 a4 : Option Addr} {x : GHeap} (h : HSh w l u a0 a4 x) (s : StepB lo hi w w') (hu : u ≤ w.heap.size) (hd : u ≤ lo ∨ hi ≤ l) : HSh w' l u a0 a4 x := ⟨h.1.step s hu hd, h.2.step s hu hd⟩
end Go.Proofs.YtgobajjllnhlkaaGreatDoor
