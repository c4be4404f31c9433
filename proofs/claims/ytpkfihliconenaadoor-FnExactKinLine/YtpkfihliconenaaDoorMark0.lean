/- The laws' marks: markFieldS, markTypeS, markTypeSS write into memory that they were handed, and into none else. -/
import Derived.Test.YtpkfihliconenaaDoorTo
namespace Go.Proofs.YtpkfihliconenaaDoor
open Go.ChangeShapes Go.WideShapes Go.ChangeAt Go.RowKit
set_option linter.unusedVariables false

/-- w' is w, but for numbers and bools in blocks from lo on and below hi. -/
structure Marks (lo hi : Nat) (w w' : World) : Prop where
  os : w'.os = w.os
  tape : w'.tape = w.tape
  output : w'.output = w.output
  size : w'.heap.size = w.heap.size
  out : ∀ b, b < lo ∨ hi ≤ b → w'.heap[b]? = w.heap[b]?
  own : ∀ b m T, Own w b m T → Own w' b m T
  head : ∀ b m, Own w b m 49 → ∀ i, w'.cell? ⟨b, i * 4 + 3, none⟩ = w.cell? ⟨b, i * 4 + 3, none⟩
  top : ∀ b m, Own w b m 45 → ∀ i, w'.cell? ⟨b, i, none⟩ = w.cell? ⟨b, i, none⟩

theorem Marks.refl (lo hi : Nat) (w : World) : Marks lo hi w w := ⟨rfl, rfl, rfl, rfl, fun _ _ => rfl, fun _ _ _ h => h, fun _ _ _ _ => rfl, fun _ _ _ _ => rfl⟩
theorem Marks.trans {lo hi : Nat} {a b c : World} (h : Marks lo hi a b) (k : Marks lo hi b c) : Marks lo hi a c :=
  ⟨k.os.trans h.os, k.tape.trans h.tape, k.output.trans h.output, k.size.trans h.size, fun x hx => (k.out x hx).trans (h.out x hx), fun b m T ho => k.own b m T (h.own b m T ho),
   fun b m ho i => (k.head b m (h.own b m _ ho) i).trans (h.head b m ho i), fun b m ho i => (k.top b m (h.own b m _ ho) i).trans (h.top b m ho i)⟩

theorem own_type {w : World} {b m m' : Nat} {T T' : TypeId} (h : Own w b m T) (h' : Own w b m' T') : T = T' := by
  obtain ⟨c, hb, _⟩ := h
  obtain ⟨c', hb', _⟩ := h'
  rw [hb] at hb'
  simp at hb'
  exact hb'.2

theorem cell_set_other {w : World} {b b' o o' : Nat} (v : Value) (h : b ≠ b') : (w.setCell ⟨b', o', none⟩ v).cell? ⟨b, o, none⟩ = w.cell? ⟨b, o, none⟩ :=
  World.cell?_of_block (w := w) (a := ⟨b, o, none⟩) (Below.heap_setCell _ _ _ _ h)

/-- A store into a block of fields, or into a type's first three cells. -/
theorem Marks.set {lo hi : Nat} {w w0 : World} (h : Marks lo hi w0 w) {b m : Nat} {T : TypeId} (ho : Own w b m T) (h1 : lo ≤ b) (h2 : b < hi) (o : Nat) (hm : o < m) (hT : T = 40 ∨ T = 49 ∧ o % 4 ≠ 3) (v : Value) : Marks lo hi w0 (w.setCell ⟨b, o, none⟩ v) := by
  refine h.trans ⟨rfl, rfl, rfl, by simp [World.setCell], fun k hk => Below.heap_setCell _ _ _ _ (by show k ≠ b; omega), fun b' m' T' h' => h'.set _ _ _, fun b' m' h' i => ?_, fun b' m' h' i => ?_⟩
  · by_cases e : b' = b
    · subst e
      have := own_type h' ho
      rw [ho.cell_set hm]
      rw [if_neg]
      rcases hT with hT | ⟨hT, h3⟩
      · rw [hT] at this; exact absurd this (by decide)
      · omega
    · exact cell_set_other v e
  · by_cases e : b' = b
    · subst e
      have := own_type h' ho
      rcases hT with hT | ⟨hT, h3⟩
      · rw [hT] at this; exact absurd this (by decide)
      · rw [hT] at this; exact absurd this (by decide)
    · exact cell_set_other v e

def TSh (w : World) (lo hi : Nat) (a : Option Addr) (ts : List Ty) : Prop :=
  ts = [] ∨ ∃ b m, a = some ⟨b, 0, none⟩ ∧ lo ≤ b ∧ b < hi ∧ Own w b m 49 ∧ ts.length * 4 ≤ m ∧ ∀ i, i < ts.length → ∃ fa fc, w.cell? ⟨b, i * 4 + 3, none⟩ = some (.slice fa (tyAt ts i).fields.length fc) ∧ FSh w lo hi fa (tyAt ts i).fields.length
def GSh (w : World) (lo hi : Nat) (a : Option Addr) (gs : List (List Ty)) : Prop :=
  gs = [] ∨ ∃ b m, a = some ⟨b, 0, none⟩ ∧ lo ≤ b ∧ b < hi ∧ Own w b m 45 ∧ ∀ i, i < gs.length → ∃ ta tc, w.cell? ⟨b, i, none⟩ = some (.slice ta (grAt gs i).length tc) ∧ TSh w lo hi ta (grAt gs i)

theorem FSh.marks {lo hi lo' hi' n : Nat} {w w' : World} {a : Option Addr} (h : FSh w lo hi a n) (hk : Marks lo' hi' w w') : FSh w' lo hi a n := by
  rcases h with h | ⟨b, m, rfl, h3, h4, h5, h6⟩
  · exact .inl h
  · exact .inr ⟨b, m, rfl, h3, h4, hk.own _ _ _ h5, h6⟩
theorem TSh.marks {lo hi lo' hi' : Nat} {w w' : World} {a : Option Addr} {ts : List Ty} (h : TSh w lo hi a ts) (hk : Marks lo' hi' w w') : TSh w' lo hi a ts := by
  rcases h with h | ⟨b, m, rfl, h3, h4, h5, h6, h7⟩
  · exact .inl h
  · refine .inr ⟨b, m, rfl, h3, h4, hk.own _ _ _ h5, h6, fun i hi => ?_⟩
    obtain ⟨fa, fc, c, f⟩ := h7 i hi
    exact ⟨fa, fc, by rw [hk.head b m h5]; exact c, f.marks hk⟩
theorem TypesNew.shape {lo hi : Nat} {w : World} {a : Option Addr} {ts : List Ty} (h : TypesNew w lo hi a ts) : TSh w lo hi a ts := by
  rcases h with rfl | ⟨b, rfl, h3, h4, h5, h6⟩
  · exact .inl rfl
  · refine .inr ⟨b, _, rfl, h3, h4, h5, Nat.le_refl _, fun i hi => ?_⟩
    obtain ⟨_, _, _, fa, fc, c3, hf⟩ := h6 i hi
    exact ⟨fa, fc, c3, hf.2⟩
theorem GroupsNew.shape {lo hi : Nat} {w : World} {a : Option Addr} {gs : List (List Ty)} (h : GroupsNew w lo hi a gs) : GSh w lo hi a gs := by
  rcases h with rfl | ⟨b, rfl, h3, h4, h5, h6⟩
  · exact .inl rfl
  · refine .inr ⟨b, _, rfl, h3, h4, h5, fun i hi => ?_⟩
    obtain ⟨ta, tc, c3, hf⟩ := h6 i hi
    exact ⟨ta, tc, c3, hf.shape⟩

/-- What is marked from k on. -/
def markF (k : Int) (i : Nat) : Fd := ⟨k + 3 * i, k + 3 * i + 1, (k + 3 * (i : Int) + 1 + 1) % 3 == 0⟩

set_option maxHeartbeats 400000 in
theorem markFieldS_any (a : Option Addr) (cap n lo hi : Nat) (k : Int) (w : World) (hn : n ≤ 1048576) (k0 : 0 ≤ k) (k1 : k ≤ 4611686018427387904) (hx : FSh w lo hi a n) :
    Calls Tryd.prog 65 #[.slice a n cap, .int .i64 k] w fun e w' => e = .returned (.int .i64 (k + 3 * (n : Int))) ∧ Marks lo hi w w' ∧ (n = 0 ∨ ∃ b, a = some ⟨b, 0, none⟩ ∧ lo ≤ b ∧ b < hi ∧ ∀ i, i < n → FieldAt w' b (i * 3) (markF k i)) := by
  rcases hx with h0 | ⟨b, m, rfl, h1, h2, h3, h4⟩
  · have h0' : n ≤ 0 := by omega
    have H0 := hide h0
    clear h0
    go_enter Tryd.func65, Tryd.ntmps65
    go_wp2_with fail
    go_loop [1, 5] (fun l i => i = .int .i64 0 ∧ l = .int .i64 k) (fun l i => 0)
    case atStart => exact ⟨rfl, rfl⟩
    case round =>
      obtain ⟨rfl, rfl⟩ := hrel
      go_wp2_with fail
      go_ret
      exact ⟨ret_int (by rw [H0.out]; simp), Marks.refl _ _ _, .inl H0.out⟩
  · have H3 := hide h3
    clear h3
    go_enter Tryd.func65, Tryd.ntmps65
    go_wp2_with fail
    go_loopw [1, 5] (fun l i wr => ∃ j : Nat, j ≤ n ∧ i = .int .i64 j ∧ l = .int .i64 (k + 3 * (j : Int)) ∧ Marks lo hi w wr ∧ ∀ q, q < j → FieldAt wr b (q * 3) (markF k q)) (fun l i wr => n - (intOf i).toNat)
    case atStart => exact ⟨0, Nat.zero_le _, rfl, by simp, Marks.refl _ _ _, fun q hq => absurd hq (Nat.not_lt_zero _)⟩
    case round =>
      obtain ⟨j, hj, rfl, rfl, hM, hF⟩ := hrel
      have HM := hide hM
      have HF := hide hF
      clear hM hF
      by_cases hjn : j < n
      · have HO := hide (HM.out.own _ _ _ H3.out)
        have f0 := HO.out.frozen (j * 3)
        have f1 := HO.out.frozen (j * 3 + 1)
        have f2 := HO.out.frozen (j * 3 + 2)
        obtain ⟨v0, d0⟩ := HO.out.cell (o := j * 3) (by omega)
        obtain ⟨v1, d1⟩ := HO.out.cell (o := j * 3 + 1) (by omega)
        obtain ⟨v2, d2⟩ := HO.out.cell (o := j * 3 + 2) (by omega)
        go_wp2_with fail
        have o1 := HO.out.set b (j * 3) (.int .i64 (k + 3 * (j : Int)))
        have o2 := o1.set b (j * 3 + 1) (.int .i64 (k + 3 * (j : Int) + 1))
        refine ⟨⟨j + 1, by omega, by go_num, ?_, ((HM.out.set HO.out h1 h2 _ (by omega) (.inl rfl) _).set o1 h1 h2 _ (by omega) (.inl rfl) _).set o2 h1 h2 _ (by omega) (.inl rfl) _, field_set HO.out (markF k) j (by omega) HF.out⟩, by simp [intOf]; omega⟩
        congr 1
        omega
      · have hje : Hid (j = n) := Nat.le_antisymm hj (Nat.le_of_not_lt hjn)
        go_wp2_with fail
        go_ret
        exact ⟨ret_int (by rw [hje.out]), HM.out, .inr ⟨b, rfl, h1, h2, hje.out ▸ HF.out⟩⟩

set_option maxHeartbeats 400000 in
theorem markTypeS_any (a : Option Addr) (cap lo hi : Nat) (ts : List Ty) (k : Int) (w : World) (hn : ts.length ≤ 1048576) (hm : ∀ i, i < ts.length → (tyAt ts i).fields.length ≤ 1048576) (k0 : 0 ≤ k) (k1 : k ≤ 4500000000000000000) (hx : TSh w lo hi a ts) :
    Calls Tryd.prog 47 #[.slice a ts.length cap, .int .i64 k] w fun e w' => ∃ r : Int, e = .returned (.int .i64 r) ∧ k ≤ r ∧ r ≤ k + 3145731 * (ts.length : Int) ∧ Marks lo hi w w' := by
  have HM := hide hm
  clear hm
  rcases hx with h0 | ⟨b, m, rfl, h1, h2, h3, h4, h5⟩
  · have h0' : ts.length ≤ 0 := by rw [h0]; exact Nat.le_refl _
    clear h0
    go_enter Tryd.func47, Tryd.ntmps47
    go_wp2_with fail
    go_loop [1, 5] (fun l i => i = .int .i64 0 ∧ l = .int .i64 k) (fun l i => 0)
    case atStart => exact ⟨rfl, rfl⟩
    case round =>
      obtain ⟨rfl, rfl⟩ := hrel
      go_wp2_with fail
      go_ret
      exact ⟨k, rfl, by omega, by omega, Marks.refl _ _ _⟩
  · have H3 := hide h3
    have H5 := hide h5
    clear h3 h5
    go_enter Tryd.func47, Tryd.ntmps47
    go_wp2_with fail
    go_loopw [1, 5] (fun l i wr => ∃ (j : Nat) (r : Int), j ≤ ts.length ∧ i = .int .i64 j ∧ l = .int .i64 r ∧ k ≤ r ∧ r ≤ k + 3145731 * (j : Int) ∧ Marks lo hi w wr) (fun l i wr => ts.length - (intOf i).toNat)
    case atStart => exact ⟨0, k, Nat.zero_le _, rfl, rfl, by omega, by omega, Marks.refl _ _ _⟩
    case round =>
      obtain ⟨j, r, hj, rfl, rfl, r1, r2, hM⟩ := hrel
      have HK := hide hM
      clear hM
      by_cases hjn : j < ts.length
      · obtain ⟨fa, fc, c3, fsh⟩ := H5.out j hjn
        have HO := hide (HK.out.own _ _ _ H3.out)
        have f0 := HO.out.frozen (j * 4)
        have f1 := HO.out.frozen (j * 4 + 1)
        have f2 := HO.out.frozen (j * 4 + 2)
        obtain ⟨v0, d0⟩ := HO.out.cell (o := j * 4) (by omega)
        obtain ⟨v1, d1⟩ := HO.out.cell (o := j * 4 + 1) (by omega)
        obtain ⟨v2, d2⟩ := HO.out.cell (o := j * 4 + 2) (by omega)
        have d3 : wr.cell? ⟨b, j * 4 + 3, none⟩ = some (.slice fa (tyAt ts j).fields.length fc) := by rw [HK.out.head b m H3.out]; exact c3
        have q1 := HM.out j hjn
        have FS := hide fsh
        clear fsh c3
        go_wp2_with fail
        have o1 := HO.out.set b (j * 4) (.int .i64 r)
        have o2 := o1.set b (j * 4 + 1) (.int .i64 (r + 1))
        have M3 := ((HK.out.set HO.out h1 h2 (j * 4) (by omega) (.inr ⟨rfl, by omega⟩) (.int .i64 r)).set o1 h1 h2 (j * 4 + 1) (by omega) (.inr ⟨rfl, by omega⟩) (.int .i64 (r + 1))).set o2 h1 h2 (j * 4 + 2) (by omega) (.inr ⟨rfl, by omega⟩) (.bool ((r + 1 + 1) % 3 == 0))
        refine (markFieldS_any fa fc (tyAt ts j).fields.length lo hi _ _ q1 (by omega) (by omega) (FS.out.marks M3)).mono ?_
        rintro e w1 ⟨rfl, hM1, _⟩
        have M4 := hide (M3.trans hM1)
        clear hM1 M3 o1 o2
        go_wp2_with fail
        exact ⟨⟨j + 1, _, by omega, by go_num, rfl, by omega, by omega, M4.out⟩, by simp [intOf]; omega⟩
      · have hje : Hid (j = ts.length) := Nat.le_antisymm hj (Nat.le_of_not_lt hjn)
        go_wp2_with fail
        go_ret
        exact ⟨r, rfl, r1, by omega, HK.out⟩

set_option maxHeartbeats 400000 in
theorem markTypeSS_any (a : Option Addr) (cap lo hi : Nat) (gs : List (List Ty)) (k : Int) (w : World) (hn : Few gs) (k0 : 0 ≤ k) (k1 : k ≤ 1) (hx : GSh w lo hi a gs) :
    Calls Tryd.prog 23 #[.slice a gs.length cap, .int .i64 k] w fun e w' => ∃ r : Int, e = .returned (.int .i64 r) ∧ k ≤ r ∧ r ≤ 4500000000000000000 ∧ Marks lo hi w w' := by
  have l1 := hn.1
  have HN := hide hn
  clear hn
  rcases hx with h0 | ⟨b, m, rfl, h1, h2, h3, h5⟩
  · have h0' : gs.length ≤ 0 := by rw [h0]; exact Nat.le_refl _
    clear h0
    go_enter Tryd.func23, Tryd.ntmps23
    go_wp2_with fail
    go_loop [1, 5] (fun l i => i = .int .i64 0 ∧ l = .int .i64 k) (fun l i => 0)
    case atStart => exact ⟨rfl, rfl⟩
    case round =>
      obtain ⟨rfl, rfl⟩ := hrel
      go_wp2_with fail
      go_ret
      exact ⟨k, rfl, by omega, by omega, Marks.refl _ _ _⟩
  · have H3 := hide h3
    have H5 := hide h5
    clear h3 h5
    go_enter Tryd.func23, Tryd.ntmps23
    go_wp2_with fail
    go_loopw [1, 5] (fun l i wr => ∃ (j : Nat) (r : Int), j ≤ gs.length ∧ i = .int .i64 j ∧ l = .int .i64 r ∧ k ≤ r ∧ r ≤ k + 3298538029056 * (j : Int) ∧ Marks lo hi w wr) (fun l i wr => gs.length - (intOf i).toNat)
    case atStart => exact ⟨0, k, Nat.zero_le _, rfl, rfl, by omega, by omega, Marks.refl _ _ _⟩
    case round =>
      obtain ⟨j, r, hj, rfl, rfl, r1, r2, hM⟩ := hrel
      have HK := hide hM
      clear hM
      by_cases hjn : j < gs.length
      · obtain ⟨ta, tc, c3, tsh⟩ := H5.out j hjn
        have d3 : wr.cell? ⟨b, j, none⟩ = some (.slice ta (grAt gs j).length tc) := by rw [HK.out.top b m H3.out]; exact c3
        have q1 := (HN.out.2 j hjn).1
        have TS := hide (tsh.marks HK.out)
        clear tsh c3
        go_wp2_with fail
        refine (markTypeS_any ta tc lo hi (grAt gs j) _ _ q1 (HN.out.2 j hjn).2 (by omega) (by omega) TS.out).mono ?_
        rintro e w1 ⟨r', rfl, s1, s2, hM1⟩
        have M4 := hide (HK.out.trans hM1)
        clear hM1
        go_wp2_with fail
        exact ⟨⟨j + 1, r', by omega, by go_num, rfl, by omega, by omega, M4.out⟩, by simp [intOf]; omega⟩
      · have hje : Hid (j = gs.length) := Nat.le_antisymm hj (Nat.le_of_not_lt hjn)
        go_wp2_with fail
        go_ret
        exact ⟨r, rfl, r1, by omega, HK.out⟩
end Go.Proofs.YtpkfihliconenaaDoor
