/- strings.CutSuffix and CutPrefix of a text and one byte. -/
import Derived.Test.YtdicmlbgpbglpaaDoorBase
namespace Go.Proofs.YtdicmlbgpbglpaaDoor
open Go.ChangeShapes Go.WideShapes Go.ChangeAt Go.RowKit Go.Joins
set_option linter.unusedVariables false

theorem ext_list (s : ByteArray) (i j : Nat) : (s.extract i j).data.toList = (s.data.toList.drop i).take (j - i) := by
  simp [ByteArray.data_extract, Array.toList_extract, List.extract_eq_take_drop]

theorem size_list (s : ByteArray) : s.size = s.data.toList.length := by cases s; rfl

theorem last_ext (s : ByteArray) (l : List UInt8) (d : UInt8) (h : s.data.toList = l ++ [d]) : (s.extract (s.size - 1) s.size).toList = [d] ∧ (s.extract 0 (s.size - 1)).data.toList = l := by
  have hz : s.size = l.length + 1 := by rw [size_list, h]; simp
  rw [ByteArray.toList_eq, ext_list, ext_list, h, hz]
  constructor
  · simp
  · simp

theorem first_ext (s : ByteArray) (l : List UInt8) (d : UInt8) (h : s.data.toList = d :: l) : (s.extract 0 1).toList = [d] ∧ (s.extract 1 s.size).data.toList = l := by
  have hz : s.size = l.length + 1 := by rw [size_list, h]; simp
  rw [ByteArray.toList_eq, ext_list, ext_list, h, hz]
  constructor
  · simp
  · simp

theorem snoc_of (l : List UInt8) (h : l ≠ []) : ∃ r d, l = r ++ [d] := ⟨l.dropLast, l.getLast h, (List.dropLast_concat_getLast h).symm⟩

set_option maxHeartbeats 800000 in
theorem hasSuffix_any (c : UInt8) (s : ByteArray) (w : World) (hs : s.size ≤ 1048576) :
    Calls Tryd.prog 60 #[.string s, .string ⟨#[c]⟩] w fun e w' => ∃ b, e = .returned (.bool b) ∧ (b = true ↔ ∃ l, s.data.toList = l ++ [c]) ∧ w' = w := by
  by_cases h0 : s.size = 0
  · go_enter Tryd.func60, Tryd.ntmps60
    go_wp2_with fail
    go_ret
    refine ⟨false, rfl, ⟨fun h => (by cases h), fun ⟨l, h⟩ => ?_⟩, rfl⟩
    rw [size_list, h] at h0
    simp at h0
  · obtain ⟨l, d, hl⟩ := snoc_of s.data.toList (fun e => h0 (by rw [size_list, e]; rfl))
    obtain ⟨e1, e2⟩ := last_ext s l d hl
    have HL := hide hl
    clear hl e2
    have g1 : (1 : Int) ≤ (s.size : Int) := by omega
    go_enter Tryd.func60, Tryd.ntmps60
    go_wp2_with fail
    go_ret
    refine ⟨_, rfl, ?_, rfl⟩
    rw [HL.out]
    constructor
    · intro h
      rw [show d = c by simpa [e1] using h]
      exact ⟨l, rfl⟩
    · rintro ⟨l', h⟩
      have := (List.append_inj' h rfl).2
      simp_all

set_option maxHeartbeats 800000 in
theorem hasPrefix_any (c : UInt8) (s : ByteArray) (w : World) (hs : s.size ≤ 1048576) :
    Calls Tryd.prog 61 #[.string s, .string ⟨#[c]⟩] w fun e w' => ∃ b, e = .returned (.bool b) ∧ (b = true ↔ ∃ l, s.data.toList = c :: l) ∧ w' = w := by
  by_cases h0 : s.size = 0
  · go_enter Tryd.func61, Tryd.ntmps61
    go_wp2_with fail
    go_ret
    refine ⟨false, rfl, ⟨fun h => (by cases h), fun ⟨l, h⟩ => ?_⟩, rfl⟩
    rw [size_list, h] at h0
    simp at h0
  · obtain ⟨d, l, hl⟩ : ∃ d l, s.data.toList = d :: l := by
      cases hd : s.data.toList with
      | nil => exact absurd (by rw [size_list, hd]; rfl) h0
      | cons d l => exact ⟨d, l, rfl⟩
    obtain ⟨e1, e2⟩ := first_ext s l d hl
    have HL := hide hl
    clear hl e2
    have g1 : (1 : Int) ≤ (s.size : Int) := by omega
    go_enter Tryd.func61, Tryd.ntmps61
    go_wp2_with fail
    go_ret
    refine ⟨_, rfl, ?_, rfl⟩
    rw [HL.out]
    constructor
    · intro h
      rw [show d = c by simpa [e1] using h]
      exact ⟨l, rfl⟩
    · rintro ⟨l', h⟩
      injection h with h1 h2
      simp_all

set_option maxHeartbeats 800000 in
theorem cutSuffix0_any (c : UInt8) (s : ByteArray) (w : World) (hs : s.size ≤ 1048576) :
    Calls Tryd.prog 53 #[.string s, .string ⟨#[c]⟩] w fun e w' => ∃ t b, e = .returned (.tuple #[.string t, .bool b]) ∧ (b = true → s.data.toList = t.data.toList ++ [c]) ∧ (b = false → t = s ∧ ∀ l, s.data.toList ≠ l ++ [c]) ∧ t.size ≤ s.size ∧ w' = w := by
  go_enter Tryd.func53, Tryd.ntmps53
  go_wp2_with fail
  refine (hasSuffix_any c s w hs).mono ?_
  rintro e w1 ⟨b, rfl, hb, rfl⟩
  cases b
  · have HB := hide hb
    clear hb
    go_wp2_with fail
    refine bodyPost_ret (v := .tuple #[.string s, .bool false]) (by simp [results, Tryd.results53, go_sem]) rfl ?_
    exact ⟨s, false, rfl, fun h => (by cases h), fun _ => ⟨rfl, fun l h => absurd (HB.out.2 ⟨l, h⟩) (by decide)⟩, Nat.le_refl _, rfl⟩
  · obtain ⟨l, hl⟩ := hb.1 rfl
    obtain ⟨e1, e2⟩ := last_ext s l c hl
    have hz : Hid (s.size = l.length + 1) := by show s.size = _; rw [size_list, hl]; simp
    have HL := hide hl
    have g0 : s.size ≠ 0 := by rw [hz.out]; omega
    have E2 := hide e2
    have g1 : (1 : Int) ≤ (s.size : Int) := by omega
    clear hb hl e1 e2
    go_wp2_with fail
    refine bodyPost_ret (v := .tuple #[.string (s.extract 0 (s.size - 1)), .bool true]) (by simp [results, Tryd.results53, go_sem]) rfl ?_
    refine ⟨_, true, rfl, fun _ => ?_, fun h => (by cases h), ?_, rfl⟩
    · rw [E2.out]; exact HL.out
    · rw [size_list, E2.out, hz.out]; omega

set_option maxHeartbeats 800000 in
theorem cutSuffix_any (c : UInt8) (s : ByteArray) (w : World) (hs : s.size ≤ 1048576) :
    Calls Tryd.prog 25 #[.string s, .string ⟨#[c]⟩] w fun e w' => ∃ t b, e = .returned (.tuple #[.string t, .bool b]) ∧ (b = true → s.data.toList = t.data.toList ++ [c]) ∧ (b = false → t = s ∧ ∀ l, s.data.toList ≠ l ++ [c]) ∧ t.size ≤ s.size ∧ w' = w := by
  go_enter Tryd.func25, Tryd.ntmps25
  go_wp2_with fail
  refine (cutSuffix0_any c s w hs).mono ?_
  rintro e w1 ⟨t, b, rfl, h1, h2, h3, rfl⟩
  have H1 := hide h1
  have H2 := hide h2
  clear h1 h2
  go_wp2_with fail
  refine bodyPost_ret (v := .tuple #[.string t, .bool b]) (by simp [results, Tryd.results25, go_sem]) rfl ?_
  exact ⟨t, b, rfl, H1.out, H2.out, h3, rfl⟩

set_option maxHeartbeats 800000 in
theorem cutPrefix0_any (c : UInt8) (s : ByteArray) (w : World) (hs : s.size ≤ 1048576) :
    Calls Tryd.prog 54 #[.string s, .string ⟨#[c]⟩] w fun e w' => ∃ t b, e = .returned (.tuple #[.string t, .bool b]) ∧ (b = true → s.data.toList = c :: t.data.toList) ∧ (b = false → t = s ∧ ∀ l, s.data.toList ≠ c :: l) ∧ t.size ≤ s.size ∧ w' = w := by
  go_enter Tryd.func54, Tryd.ntmps54
  go_wp2_with fail
  refine (hasPrefix_any c s w hs).mono ?_
  rintro e w1 ⟨b, rfl, hb, rfl⟩
  cases b
  · have HB := hide hb
    clear hb
    go_wp2_with fail
    refine bodyPost_ret (v := .tuple #[.string s, .bool false]) (by simp [results, Tryd.results54, go_sem]) rfl ?_
    exact ⟨s, false, rfl, fun h => (by cases h), fun _ => ⟨rfl, fun l h => absurd (HB.out.2 ⟨l, h⟩) (by decide)⟩, Nat.le_refl _, rfl⟩
  · obtain ⟨l, hl⟩ := hb.1 rfl
    obtain ⟨e1, e2⟩ := first_ext s l c hl
    have hz : Hid (s.size = l.length + 1) := by show s.size = _; rw [size_list, hl]; simp
    have HL := hide hl
    have g0 : s.size ≠ 0 := by rw [hz.out]; omega
    have E2 := hide e2
    have g1 : (1 : Int) ≤ (s.size : Int) := by omega
    clear hb hl e1 e2
    go_wp2_with fail
    refine bodyPost_ret (v := .tuple #[.string (s.extract 1 s.size), .bool true]) (by simp [results, Tryd.results54, go_sem]) rfl ?_
    refine ⟨_, true, rfl, fun _ => ?_, fun h => (by cases h), ?_, rfl⟩
    · rw [E2.out]; exact HL.out
    · rw [size_list, E2.out, hz.out]; omega

set_option maxHeartbeats 800000 in
theorem cutPrefix_any (c : UInt8) (s : ByteArray) (w : World) (hs : s.size ≤ 1048576) :
    Calls Tryd.prog 26 #[.string s, .string ⟨#[c]⟩] w fun e w' => ∃ t b, e = .returned (.tuple #[.string t, .bool b]) ∧ (b = true → s.data.toList = c :: t.data.toList) ∧ (b = false → t = s ∧ ∀ l, s.data.toList ≠ c :: l) ∧ t.size ≤ s.size ∧ w' = w := by
  go_enter Tryd.func26, Tryd.ntmps26
  go_wp2_with fail
  refine (cutPrefix0_any c s w hs).mono ?_
  rintro e w1 ⟨t, b, rfl, h1, h2, h3, rfl⟩
  have H1 := hide h1
  have H2 := hide h2
  clear h1 h2
  go_wp2_with fail
  refine bodyPost_ret (v := .tuple #[.string t, .bool b]) (by simp [results, Tryd.results26, go_sem]) rfl ?_
  exact ⟨t, b, rfl, H1.out, H2.out, h3, rfl⟩

end Go.Proofs.YtdicmlbgpbglpaaDoor
