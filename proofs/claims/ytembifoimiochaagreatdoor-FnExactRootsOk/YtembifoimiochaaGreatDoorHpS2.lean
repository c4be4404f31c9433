/- l7Part and l7Things of the model. -/
import Derived.Test.YtembifoimiochaaGreatDoorHpS1
import Derived.Test.YtembifoimiochaaGreatDoorPhGen
namespace Go.Proofs.YtembifoimiochaaGreatDoor
open Go.ChangeShapes Go.WideShapes Go.ChangeAt Go.RowKit Go.Deep
set_option linter.unusedVariables false
set_option linter.unusedSimpArgs false

theorem ints_at {w : World} {lo hi : Nat} {a : Option Addr} {xs : List Int} (h : IntsIn w lo hi a xs) {i : Nat} (hi' : i < xs.length) : ∃ b off, a = some ⟨b, off, none⟩ ∧ lo ≤ b ∧ b < hi ∧ w.cell? ⟨b, off + i, none⟩ = some (.int .i64 (nAt xs i)) := by
 rcases h with h0 | ⟨b, off, e, h1, h2, h3⟩
 ·rw [h0] at hi'; exact absurd hi' (Nat.not_lt_zero _)
 ·exact ⟨b, off, e, h1, h2, h3 i hi'⟩
def heapCs (h : GHeap) (wa la : Option Addr) (wc lc : Nat) : List Value := [.slice wa h.words.length wc, .int .i64 h.old, .int .i64 h.oldAt, .int .i64 h.youngAt, .slice la h.log.length lc]

set_option maxHeartbeats 3200000 in
theorem l7Part_any (ta wa la : Option Addr) (tc wc lc lo hi lo' hi' : Nat) (gs : List (List Ty)) (h : GHeap) (fr to : Nat) (w : World) (hN : kinCount gs ≤ 8) (hx : TypesIn w lo hi ta (flat gs)) (hh : hi ≤ w.heap.size) (H : HIn w lo' hi' h wa la wc lc) (ht : to ≤ h.words.length) (h160 : to ≤ 160) (hf : fr ≤ to) :
 Calls Tryz.prog 44 #[.slice ta (kinCount gs) tc, heapV h wa la wc lc, .int .i64 (fr : Int), .int .i64 (to : Int)] w fun e w' => ∃ g cap, e = .returned (.tuple #[.slice (some ⟨g, 0, none⟩) (part gs h.words to fr).1.length cap, .bool (part gs h.words to fr).2]) ∧ NRow w' w.heap.size (.slice (some ⟨g, 0, none⟩) (part gs h.words to fr).1.length cap) (part gs h.words to fr).1 ∧ Below w.heap.size w w' := by
 have HL := hide (fun (W : World) (hb : Below w.heap.size w W) (x : Int) (hb64 : i64 x) => l7Len_any ta tc lo hi gs x W hN (hx.keep (hb.mono hh)) (Nat.le_trans hh hb.size) hb64.1 hb64.2)
 have HW := hide (fun (W : World) (hb : Below w.heap.size w W) => (H.keep (hb.mono H.hh)).ws)
 have HWB := hide H.wb
 have hwh := H.hh
 have P1 := hide (Rec.new w 33 (heapCs h wa la wc lc))
 have B1 : Hid (Below w.heap.size w (w.alloc (.cells (heapCs h wa la wc lc).toArray 33))) := (Below.refl _ _).alloc (Nat.le_refl _) _
 have S2 := hide (NRow.new0 (w.alloc (.cells (heapCs h wa la wc lc).toArray 33)) (w.heap.size + 1) (by simp))
 have P2 := hide (P1.out.alloc (.cells #[] 3))
 have B2 := hide (B1.out.alloc B1.out.size (.cells #[] 3))
 have HP0 : Hid (part gs h.words to fr = ([] ++ (part gs h.words to fr).1, (part gs h.words to fr).2)) := rfl
 have HST : Hid (∀ j, j < to → ¬ (lenF gs (nAt h.words j) < 0 ∨ to < j + 1 + (lenF gs (nAt h.words j)).toNat) → part gs h.words to j = ((j : Int) :: (part gs h.words to (j + 1 + (lenF gs (nAt h.words j)).toNat)).1, (part gs h.words to (j + 1 + (lenF gs (nAt h.words j)).toNat)).2)) := fun j h1 h2 => part_step h1 h2
 have HBD : Hid (∀ j, j < to → (lenF gs (nAt h.words j) < 0 ∨ to < j + 1 + (lenF gs (nAt h.words j)).toNat) → part gs h.words to j = ([], false)) := fun j h1 h2 => part_bad h1 h2
 have HSP : Hid (∀ j, to ≤ j → part gs h.words to j = ([], true)) := fun j h1 => part_stop h1
 have HLE : Hid (∀ x, -1 ≤ lenF gs x ∧ lenF gs x ≤ 6) := fun x => lenF_le gs x
 clear hx H P1 B1
 unfold heapV heapCs at *
 generalize part gs h.words to = F at *
 generalize lenF gs = LF at *
 go_enter Tryz.func44, Tryz.ntmps44
 go_wp2_with fail
 go_loopw [2, 10] (fun a o wr => ∃ (j g cap : Nat) (T : List Int), a = .int .i64 (j : Int) ∧ o = .slice (some ⟨g, 0, none⟩) T.length cap ∧ j ≤ to ∧ T.length ≤ j ∧ Hid (F fr = (T ++ (F j).1, (F j).2)) ∧ Hid (NRow wr (w.heap.size + 1) (.slice (some ⟨g, 0, none⟩) T.length cap) T) ∧ Hid (Rec wr w.heap.size 33 [.slice wa h.words.length wc, .int .i64 h.old, .int .i64 h.oldAt, .int .i64 h.youngAt, .slice la h.log.length lc]) ∧ Hid (Below w.heap.size w wr)) (fun a o wr => to - (intOf a).toNat)
 case atStart => exact ⟨fr, _, 0, [], rfl, rfl, hf, Nat.zero_le _, HP0, (by show NRow _ _ _ _; simpa using S2.out), P2, B2⟩
 case round =>
  clear HP0 S2 P2 B2
  obtain ⟨j, g, cap, T, rfl, rfl, hj, hT, HP, HR, HC, HB⟩ := hrel
  have sz := HB.out.size
  have k0 := HC.out.cell (o := 0) rfl
  by_cases hlt : j < to
  ·obtain ⟨b, off, hwa, b1, b2, c1⟩ := ints_at (HW.out wr HB.out) (i := j) (by omega)
   have hb64 := HWB.out j
   have HC1 := hide (HL.out wr HB.out (nAt h.words j) hb64)
   have hle := HLE.out (nAt h.words j)
   have HS1 := hide (HST.out j hlt)
   have HD1 := hide (HBD.out j hlt)
   have q1 : (0 : Int) ≤ (j : Int) := by omega
   have q2 : (j : Int) < (to : Int) := by omega
   have q3 : (j : Int) < (h.words.length : Int) := by omega
   generalize LF (nAt h.words j) = m at *
   generalize nAt h.words j = x at *
   subst hwa
   clear hb64
   go_wp2_with fail
   refine HC1.out.mono ?_
   rintro e w' ⟨rfl, rfl⟩
   by_cases hm : m < 0
   ·have HD : Hid (F j = ([], false)) := HD1.out (.inl hm)
    have hF : Hid (F fr = (T, false)) := by show _ = _; rw [HP.out, HD.out]; simp
    clear hle HS1 HD1 HC1
    go_wp2_with fail
    rw [hF.out]
    exact bodyPost_ret (results_tmp2 (t := 8) (u := 9) rfl _ _ _) rfl ⟨g, cap, rfl, HR.out.lower (Nat.le_succ _), HB.out⟩
   ·obtain ⟨n, rfl⟩ := Int.eq_ofNat_of_zero_le (show 0 ≤ m by omega)
    have d1 : decide ((n : Int) < 0) = false := by simp
    rw [Int.toNat_natCast] at HS1 HD1
    by_cases hg : to < j + 1 + n
    ·have HD : Hid (F j = ([], false)) := HD1.out (.inr hg)
     have hF : Hid (F fr = (T, false)) := by show _ = _; rw [HP.out, HD.out]; simp
     have d2 : decide ((to : Int) < (j : Int) + 1 + (n : Int)) = true := by simp; omega
     clear HS1 HD1 HC1
     go_wp2_with fail
     rw [hF.out]
     exact bodyPost_ret (results_tmp2 (t := 8) (u := 9) rfl _ _ _) rfl ⟨g, cap, rfl, HR.out.lower (Nat.le_succ _), HB.out⟩
    ·have HS : Hid (F j = ((j : Int) :: (F (j + 1 + n)).1, (F (j + 1 + n)).2)) := HS1.out (by omega)
     have HP2 : Hid (F fr = ((T ++ [(j : Int)]) ++ (F (j + 1 + n)).1, (F (j + 1 + n)).2)) := by show _ = _; rw [HP.out, HS.out]; simp
     have d2 : decide ((to : Int) < (j : Int) + 1 + (n : Int)) = false := by simp; omega
     have z1 : w.heap.size + 1 ≤ w'.heap.size := HC.out.lt
     clear HS1 HD1 HC1 HS hle hm
     go_wp2_with (first | (at_builtin; refine wpList_snoc_num rfl _ _ rfl (w.heap.size + 1) (.slice (some ⟨g, 0, none⟩) T.length cap) T (j : Int) rfl HR.out rfl (by omega) z1 ?_))
     intro g6 cap6 w6 h6 b6
     have HR6 := hide h6
     have HB6 := hide (HB.out.trans (b6.mono (Nat.le_succ _)))
     have HC6 := hide (HC.out.below b6 (Nat.lt_succ_self _))
     clear h6 b6 k0 HC HB HR
     go_wp2_with fail
     exact ⟨⟨j + 1 + n, g6, cap6, T ++ [(j : Int)], by go_num, by simp, by omega, by simp; omega, HP2, by rw [List.length_append]; exact HR6, HC6, HB6⟩, by simp [intOf]; omega⟩
  ·have hF : Hid (F fr = (T, true)) := by show _ = _; rw [HP.out, HSP.out j (by omega)]; simp
   have q2 : ¬ (j : Int) < (to : Int) := by omega
   go_wp2_with fail
   rw [hF.out]
   exact bodyPost_ret (results_tmp2 (t := 8) (u := 9) rfl _ _ _) rfl ⟨g, cap, rfl, HR.out.lower (Nat.le_succ _), HB.out⟩
end Go.Proofs.YtembifoimiochaaGreatDoor
