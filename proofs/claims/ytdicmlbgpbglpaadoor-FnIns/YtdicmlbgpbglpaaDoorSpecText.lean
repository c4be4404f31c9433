/- InsText of the model. -/
import Derived.Test.YtdicmlbgpbglpaaDoorInsTxt
import Derived.Deep.RegionWith
import Derived.Deep.RegionHeld3
namespace Go.Proofs.YtdicmlbgpbglpaaDoor
open Go.ChangeShapes Go.WideShapes Go.ChangeAt Go.RowKit
set_option linter.unusedVariables false

theorem wordAt_len (k : Nat) : (wordAt k).length ≤ 5 := by
  by_cases h : k < 34
  · have : ∀ i : Fin 34, (wordAt i.val).length ≤ 5 := by decide
    exact this ⟨k, h⟩
  · have : wordAt k = [] := by
      unfold wordAt
      rw [List.getD_eq_getElem?_getD, List.getElem?_eq_none (by simp [words]; omega)]; rfl
    rw [this]; simp

theorem insOk_small {op a b : Int} (h : insOk op a b = true) : a < 1000000 ∧ b < 1000000 ∧ 0 ≤ b := by
  have hs : spanHi op ≤ 9973 := by unfold spanHi; repeat' split; all_goals omega
  simp [insOk] at h
  obtain ⟨_, h⟩ := h
  split at h
  · omega
  · split at h
    · omega
    · omega

theorem insOk_one {op a b : Int} (h : insOk op a b = true) (hn : spanN op = 1) : -2 ≤ a ∧ (¬ (op = 12 ∨ op = 22 ∨ op = 23) → 0 ≤ a) := by
  simp [insOk, hn] at h
  obtain ⟨_, h, _⟩ := h
  unfold spanLo at h
  split at h
  · exact ⟨h, fun hh => absurd ‹_› hh⟩
  · exact ⟨by omega, fun _ => h⟩

theorem insOk_two {op a b : Int} (h : insOk op a b = true) (hn : spanN op = 2) : 0 ≤ a ∧ a < 8 ∧ 0 ≤ b ∧ b < 4 := by
  simp [insOk, hn] at h
  omega

theorem specInsOk_at (op a b : Int) (c : Bool) (h : insOk op a b = c) (w : World) :
    Calls Tryd.prog 22 #[.agg #[.int .i64 op, .int .i64 a, .int .i64 b]] w fun e w' => e = .returned (.bool c) ∧ Below w.heap.size w w' := h ▸ specInsOk_any op a b w

theorem words_keep (w0 w : World) (B0 : Below w0.heap.size w0 w) :
    Calls Tryd.prog 44 #[] w fun e w' => ∃ q, e = .returned (.slice (some ⟨q, 0, none⟩) 34 34) ∧ (∀ i, i < 34 → w'.cell? ⟨q, i, none⟩ = some (.string ⟨(wordAt i).toArray⟩)) ∧ (∀ q o v, w.cell? ⟨q, o, none⟩ = some v → w'.cell? ⟨q, o, none⟩ = some v) ∧ Below w0.heap.size w0 w' := by
  refine (words_any w).mono ?_
  rintro e w' ⟨rfl, hc, hb⟩
  exact ⟨_, rfl, hc, fun q o v hv => by rw [hb.cell (p := ⟨q, o, none⟩) (cell_lt hv)]; exact hv, B0.trans (hb.mono B0.size)⟩

set_option maxHeartbeats 1000000 in
theorem specInsText_any (op a b : Int) (w : World) :
    Calls Tryd.prog 20 #[.agg #[.int .i64 op, .int .i64 a, .int .i64 b]] w fun e w' => e = .returned (.string ⟨(insText op a b).toArray⟩) ∧ Below w.heap.size w w' := by
  cases hok : insOk op a b
  · have HT : Hid (insText op a b = []) := by simp [Hid, insText, hok]
    have HK := hide hok
    clear hok
    go_enter Tryd.func20, Tryd.ntmps20
    go_wp2_with fail
    refine (specInsOk_at _ _ _ _ HK.out _).mono ?_
    rintro e w1 ⟨rfl, b1⟩
    go_wp2_with fail
    go_ret
    exact ⟨by rw [HT.out]; rfl, ((Below.refl _ _).alloc (Nat.le_refl _) _).trans (b1.mono (by simp))⟩
  obtain ⟨k, rfl, k1, k2⟩ : ∃ k : Nat, op = (k : Int) ∧ 1 ≤ k ∧ k ≤ 33 := by
    have : 1 ≤ op ∧ op ≤ 33 := by simp [insOk] at hok; exact hok.1
    exact ⟨op.toNat, by omega, by omega, by omega⟩
  have q1 : (0 : Int) ≤ (k : Int) := by omega
  have q2 : (k : Int) < 34 := by omega
  have HK := hide hok
  go_enter Tryd.func20, Tryd.ntmps20
  go_wp2_with fail
  refine (specInsOk_at _ _ _ _ HK.out _).mono ?_
  rintro e w1 ⟨rfl, b1⟩
  have B1 : Below w.heap.size w w1 := ((Below.refl _ _).alloc (Nat.le_refl _) _).trans (b1.mono (by simp))
  obtain ⟨hc1, hf1⟩ := bcell b1
  have c0 := hc1 w.heap.size 0 (by simp)
  have c1 := hc1 w.heap.size 1 (by simp)
  have c2 := hc1 w.heap.size 2 (by simp)
  simp at c0 c1 c2
  clear hc1 hf1 b1
  go_wp2_with fail
  go_region_with (go_at_call 44; refine (words_keep w _ ?_).mono ?_; exact B1.drew; rintro e w2 ⟨q, rfl, hw2, kp, B2⟩; have d0 := kp _ _ _ c0; have d1 := kp _ _ _ c1; have d2 := kp _ _ _ c2; have dw := hw2 k (by omega); clear hw2 kp)
  all_goals
    rcases (by unfold spanN; split; exact .inr (.inr rfl); split; exact .inr (.inl rfl); exact .inl rfl : spanN (k : Int) = 0 ∨ spanN (k : Int) = 1 ∨ spanN (k : Int) = 2) with hn | hn | hn
    · have HN : Hid ((spanN (k : Int) : Int) = 0) := by simp [Hid, hn]
      have HT : Hid (insText k a b = wordAt k) := by simp [Hid, insText, hok, hn]
      clear hn hok
      go_wp2_with (go_at_call 45; refine (specInsHas_at _ _ HN.out _).mono ?_; rintro e w' ⟨rfl, rfl⟩)
      go_ret
      exact ⟨by rw [HT.out]; rfl, B2⟩
    · have HN : Hid ((spanN (k : Int) : Int) = 1) := by simp [Hid, hn]
      have hx1 := add_at (wordAt k) [32] (wordAt k ++ [32]) rfl (by have := wordAt_len k; omega) (by simp)
      have hlen := ofTxt_len a (insOk_small hok).1
      have hx2 := add_at (wordAt k ++ [32]) (ofTxt a) (wordAt k ++ 32 :: ofTxt a) (by simp) (by have := wordAt_len k; simp; omega) (by omega)
      have HT : Hid (insText k a b = wordAt k ++ 32 :: ofTxt a) := by simp [Hid, insText, hok, hn]
      obtain ⟨x1, e1⟩ : ∃ x1, x1 = wordAt k ++ [32] := ⟨_, rfl⟩
      obtain ⟨x2, e2⟩ : ∃ x2, x2 = wordAt k ++ 32 :: ofTxt a := ⟨_, rfl⟩
      rw [← e1] at hx1 hx2
      rw [← e2] at hx2 HT
      have hsm := insOk_small hok
      by_cases ho : (k : Int) = 12 ∨ (k : Int) = 22 ∨ (k : Int) = 23
      · have HO : Hid (decide ((k : Int) = 12 ∨ (k : Int) = 22 ∨ (k : Int) = 23) = true) := by simp [Hid, ho]
        have HA : Hid (-2 ≤ a) := (insOk_one hok hn).1
        clear hn hok ho e1 e2 hlen
        go_wp2_with (first | (go_at_call 45; refine (specInsHas_at _ _ HN.out _).mono ?_; rintro e w' ⟨rfl, rfl⟩) | (go_at_call 47; refine (isOf_at _ _ HO.out _).mono ?_; rintro e w' ⟨rfl, rfl⟩))
        refine (l2Of_any a _ HA.out hsm.1).mono ?_
        rintro e w3 ⟨rfl, b3⟩
        go_wp2_with fail
        go_ret
        exact ⟨by rw [HT.out]; rfl, B2.trans (b3.mono B2.size)⟩
      · have HO : Hid (decide ((k : Int) = 12 ∨ (k : Int) = 22 ∨ (k : Int) = 23) = false) := by simp [Hid, ho]
        have HA : Hid (0 ≤ a) := (insOk_one hok hn).2 ho
        have HX : Hid (Lib.decDigits a.toNat = ofTxt a) := by simp only [Hid, ofTxt]; rw [if_neg (by have := HA.out; omega), if_neg (by have := HA.out; omega)]
        clear hn hok ho e1 e2 hlen
        go_wp2_with (first | (go_at_call 45; refine (specInsHas_at _ _ HN.out _).mono ?_; rintro e w' ⟨rfl, rfl⟩) | (go_at_call 47; refine (isOf_at _ _ HO.out _).mono ?_; rintro e w' ⟨rfl, rfl⟩))
        refine (dec_at a _ HX.out _ HA.out hsm.1).mono ?_
        rintro e w3 ⟨rfl, b3⟩
        go_wp2_with fail
        go_ret
        exact ⟨by rw [HT.out]; rfl, B2.trans (b3.mono B2.size)⟩
    · have HN : Hid ((spanN (k : Int) : Int) = 2) := by simp [Hid, hn]
      obtain ⟨p1, p2, p3, p4⟩ := insOk_two hok hn
      have hla := ofTxt_len a (by omega)
      have hlb := ofTxt_len b (by omega)
      have hlw := wordAt_len k
      have HA := hide (ofTxt_pos p1)
      have HB := hide (ofTxt_pos p3)
      have hx1 := add_at (wordAt k) [32] (wordAt k ++ [32]) rfl (by omega) (by simp)
      have hx2 := add_at (wordAt k ++ [32]) (ofTxt a) (wordAt k ++ 32 :: ofTxt a) (by simp) (by simp; omega) (by omega)
      have hx3 := add_at (wordAt k ++ 32 :: ofTxt a) [32] (wordAt k ++ 32 :: (ofTxt a ++ [32])) (by simp) (by simp; omega) (by simp)
      have hx4 := add_at (wordAt k ++ 32 :: (ofTxt a ++ [32])) (ofTxt b) (wordAt k ++ 32 :: (ofTxt a ++ 32 :: ofTxt b)) (by simp) (by simp; omega) (by omega)
      have HT : Hid (insText k a b = wordAt k ++ 32 :: (ofTxt a ++ 32 :: ofTxt b)) := by simp [Hid, insText, hok, hn]
      generalize wordAt k ++ 32 :: (ofTxt a ++ 32 :: ofTxt b) = x4 at hx4 HT
      generalize wordAt k ++ 32 :: (ofTxt a ++ [32]) = x3 at hx3 hx4
      generalize wordAt k ++ 32 :: ofTxt a = x2 at hx2 hx3
      generalize wordAt k ++ [32] = x1 at hx1 hx2
      generalize ofTxt a = ta at hx2 HA
      generalize ofTxt b = tb at hx4 HB
      clear hn hok hla hlb hlw
      go_wp2_with (go_at_call 45; refine (specInsHas_at _ _ HN.out _).mono ?_; rintro e w' ⟨rfl, rfl⟩)
      go_region_held3 (fun w' => w'.cell? ⟨w.heap.size, 1, none⟩ = some (.int .i64 a) ∧ w'.cell? ⟨w.heap.size, 2, none⟩ = some (.int .i64 b) ∧ Below w.heap.size w w')
        (refine ⟨?_, ?_, ?_⟩ <;> first | assumption | exact B2.drew | go_keep)
        ((first
          | (go_at_call_of 46 a; have hS := ‹(World.cell? _ ⟨w.heap.size, 1, none⟩ = some (.int .i64 a) ∧ _ ∧ Below w.heap.size w _)›; refine (dec_keep _ _ HA.out (by omega) (by omega) w _ hS.2.2).mono ?_; rintro e w3 ⟨rfl, kp, B3⟩; have d1 := kp _ _ _ hS.1; have d2 := kp _ _ _ hS.2.1; clear hS kp)
          | (go_at_call_of 46 b; have hS := ‹(World.cell? _ ⟨w.heap.size, 1, none⟩ = some (.int .i64 a) ∧ _ ∧ Below w.heap.size w _)›; refine (dec_keep _ _ HB.out (by omega) (by omega) w _ hS.2.2).mono ?_; rintro e w3 ⟨rfl, kp, B3⟩; have d1 := kp _ _ _ hS.1; have d2 := kp _ _ _ hS.2.1; clear hS kp)))
      all_goals go_wp2_with fail
      all_goals go_ret
      all_goals exact ⟨by rw [HT.out]; rfl, by assumption⟩
end Go.Proofs.YtdicmlbgpbglpaaDoor
