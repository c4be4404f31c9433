/- l7Things and l7Zero of the model. -/
import Derived.Test.YtembifoimiochaaGreatDoorHpS2
import Derived.Deep.RegionHeld3
import Derived.Deep.RegionLaw
import Derived.Deep.Cut
namespace Go.Proofs.YtembifoimiochaaGreatDoor
open Go.ChangeShapes Go.WideShapes Go.ChangeAt Go.RowKit Go.Deep
set_option linter.unusedVariables false
set_option linter.unusedSimpArgs false

set_option maxHeartbeats 3200000 in
theorem l7Things_any (ta wa la : Option Addr) (tc wc lc lo hi lo' hi' : Nat) (gs : List (List Ty)) (h : GHeap) (w : World) (hN : kinCount gs ≤ 8) (hx : TypesIn w lo hi ta (flat gs)) (hh : hi ≤ w.heap.size) (H : HIn w lo' hi' h wa la wc lc) (hs : SizeOk h) :
 Calls Tryz.prog 31 #[.slice ta (kinCount gs) tc, heapV h wa la wc lc] w fun e w' => ∃ g cap, e = .returned (.tuple #[.slice (some ⟨g, 0, none⟩) (startsF gs h).length cap, .bool (wholeF gs h)]) ∧ NRow w' w.heap.size (.slice (some ⟨g, 0, none⟩) (startsF gs h).length cap) (startsF gs h) ∧ Below w.heap.size w w' := by
 have HP := hide (fun (W : World) (hb : Below w.heap.size w W) (fr to : Nat) (h1 : to ≤ h.words.length) (h2 : to ≤ 160) (h3 : fr ≤ to) => l7Part_any ta wa la tc wc lc lo hi lo' hi' gs h fr to W hN (hx.keep (hb.mono hh)) (Nat.le_trans hh hb.size) (H.keep (hb.mono H.hh)) h1 h2 h3)
 have hsl := starts_len (gs := gs) hs
 obtain ⟨o1, o2, n1, n2, a1, a2, y1, y2⟩ := hs
 obtain ⟨A, hA⟩ := Int.eq_ofNat_of_zero_le a1
 obtain ⟨O, hO⟩ := Int.eq_ofNat_of_zero_le (show 0 ≤ h.old by omega)
 obtain ⟨Y, hY⟩ := Int.eq_ofNat_of_zero_le y1
 have P1 := hide (Rec.new w 33 (heapCs h wa la wc lc))
 have B1 : Hid (Below w.heap.size w (w.alloc (.cells (heapCs h wa la wc lc).toArray 33))) := (Below.refl _ _).alloc (Nat.le_refl _) _
 have HS : Hid (startsF gs h = (part gs h.words A 0).1 ++ (part gs h.words (O + Y) O).1) := by
  show _ = _
  unfold startsF partO partY
  rw [hA, hO, hY, Int.toNat_natCast, Int.toNat_natCast, show ((O : Int) + (Y : Int)).toNat = O + Y by omega]
 have HWl : Hid (wholeF gs h = ((part gs h.words A 0).2 && (part gs h.words (O + Y) O).2)) := by
  show _ = _
  unfold wholeF partO partY
  rw [hA, hO, hY, Int.toNat_natCast, Int.toNat_natCast, show ((O : Int) + (Y : Int)).toNat = O + Y by omega]
 unfold heapV heapCs at *
 rw [hO, hA, hY] at P1 B1 ⊢
 simp only [hO, hA, hY] at HP
 have C1 := hide (fun (W : World) (hb : Below w.heap.size w W) => HP.out W hb 0 A (by omega) (by omega) (Nat.zero_le _))
 have C2 := hide (fun (W : World) (hb : Below w.heap.size w W) => HP.out W hb O (O + Y) (by omega) (by omega) (by omega))
 have hoy : (O : Int) + (Y : Int) = ((O + Y : Nat) : Int) := by omega
 rw [← hoy] at C2
 rw [HS.out] at hsl ⊢
 rw [HWl.out]
 rw [List.length_append] at hsl
 have ho2 : (O : Int) ≤ 120 := by omega
 have hy2 : (Y : Int) ≤ 160 := by omega
 clear HP hx H hoy HS HWl hA hO hY o1 o2 n1 n2 a1 a2 y1 y2
 generalize part gs h.words A 0 = R1 at *
 generalize part gs h.words (O + Y) O = R2 at *
 obtain ⟨T1, k1⟩ := R1
 obtain ⟨T2, k2⟩ := R2
 simp only at C1 C2 hsl ⊢
 rw [List.length_append]
 have c0 := P1.out.cell (o := 0) rfl
 have c1 := P1.out.cell (o := 1) rfl
 have c2 := P1.out.cell (o := 2) rfl
 have c3 := P1.out.cell (o := 3) rfl
 have c4 := P1.out.cell (o := 4) rfl
 go_enter Tryz.func31, Tryz.ntmps31
 go_wp2_with fail
 refine (C1.out _ B1.out).mono ?_
 rintro e w2 ⟨g2, cap2, rfl, h2, b2⟩
 have B2 := hide (B1.out.trans (b2.mono B1.out.size))
 have P2 := hide (P1.out.below b2 P1.out.lt)
 have R2 := hide (h2.lower B1.out.size)
 clear h2 b2 B1 P1 c0 c1 c2 c3 c4 C1
 have c0 := P2.out.cell (o := 0) rfl
 have c1 := P2.out.cell (o := 1) rfl
 have c2 := P2.out.cell (o := 2) rfl
 have c3 := P2.out.cell (o := 3) rfl
 have c4 := P2.out.cell (o := 4) rfl
 go_wp2_with fail
 refine (C2.out _ B2.out).mono ?_
 rintro e w3 ⟨g3, cap3, rfl, h3, b3⟩
 have s2 := B2.out.size
 have B3 := hide (B2.out.trans (b3.mono s2))
 have s3 := B3.out.size
 have R3 := hide (R2.out.below b3)
 have Q3 := hide (h3.lower s2)
 clear h3 b3 B2 P2 c0 c1 c2 c3 c4 C2 R2
 by_cases hz : T2 = []
 ·subst hz
  go_wp2_with (first | (at_builtin; refine wpList_app_num0 rfl _ _ rfl w.heap.size g3 cap3 (.slice (some ⟨g2, 0, none⟩) T1.length cap2) T1 rfl R3.out rfl ?_))
  go_wp2_with fail
  all_goals exact bodyPost_ret (results_tmp2 (t := 4) (u := 5) rfl _ _ _) rfl ⟨g2, cap2, by simp_all, by simpa using R3.out, B3.out⟩
 ·have hz0 : 0 < T2.length := List.length_pos_iff.2 hz
  clear hz
  go_wp2_with (first | (at_builtin; refine wpList_app_num rfl _ _ rfl w.heap.size w.heap.size g3 cap3 (.slice (some ⟨g2, 0, none⟩) T1.length cap2) T1 T2 rfl R3.out Q3.out rfl (by omega) (by omega) hz0 s3 ?_))
  intro g6 cap6 w6 h6 b6
  have R6 := hide h6
  have B6 := hide (B3.out.trans b6)
  clear h6 b6
  go_wp2_with fail
  all_goals exact bodyPost_ret (results_tmp2 (t := 4) (u := 5) rfl _ _ _) rfl ⟨g6, cap6, by simp_all, R6.out, B6.out⟩

set_option maxHeartbeats 3200000 in
theorem l7Zero_any (h : GHeap) (wa la : Option Addr) (wc lc lo hi : Nat) (w : World) (H : HIn w lo hi h wa la wc lc) (hs : SizeOk h) :
 Calls Tryz.prog 29 #[heapV h wa la wc lc] w fun e w' => e = .returned (.bool (zeroF h)) ∧ Below w.heap.size w w' := by
 have hn : h.words.length ≤ 160 := by have := hs.o2; have := hs.n2; omega
 obtain ⟨o1, o2, n1, n2, a1, a2, y1, y2⟩ := hs
 have HZ : Hid (∀ j, zero1 h j = (decide (nAt h.words j = 0) || !(decide (h.oldAt ≤ (j : Int) ∧ (j : Int) < h.old) || decide (h.old + h.youngAt ≤ (j : Int))))) := fun j => rfl
 have HF : Hid (zeroF h = allTo (zero1 h) h.words.length) := rfl
 rw [HF.out]
 have HWx := hide (fun (W : World) (hb : Below w.heap.size w W) => (H.keep (hb.mono H.hh)).ws)
 have HWl := H.hh
 clear H HF
 generalize zero1 h = zf at *
 unfold heapV at *
 obtain ⟨Ws, old, oldAt, youngAt, L⟩ := h
 simp only at *
 obtain ⟨W1, hW1⟩ : ∃ W1, W1 = w.alloc (.cells #[.slice wa Ws.length wc, .int .i64 old, .int .i64 oldAt, .int .i64 youngAt, .slice la L.length lc] 33) := ⟨_, rfl⟩
 have P1 : Hid (Rec W1 w.heap.size 33 [.slice wa Ws.length wc, .int .i64 old, .int .i64 oldAt, .int .i64 youngAt, .slice la L.length lc]) := by show Rec _ _ _ _; rw [hW1]; exact Rec.new _ _ _
 have B1 : Hid (Below w.heap.size w W1) := by show Below _ _ _; rw [hW1]; exact (Below.refl _ _).alloc (Nat.le_refl _) _
 have HW := hide (HWx.out W1 B1.out)
 have s1 := B1.out.size
 have c0 := P1.out.cell (o := 0) rfl
 have c1 := P1.out.cell (o := 1) rfl
 have c2 := P1.out.cell (o := 2) rfl
 have c3 := P1.out.cell (o := 3) rfl
 clear HWx
 go_enter Tryz.func29, Tryz.ntmps29
 go_upto_region 1 with (fail)
 rw [← hW1]
 clear hW1 P1
 go_wp2_with fail
 go_loop [3] (fun i => ∃ j : Nat, j ≤ Ws.length ∧ i = .int .i64 (j : Int) ∧ Hid (allTo zf j = true)) (fun i => Ws.length - (intOf i).toNat)
 case atStart => exact ⟨0, Nat.zero_le _, rfl, rfl⟩
 case round =>
  obtain ⟨j, hj, rfl, HA⟩ := hrel
  by_cases hlt : j < Ws.length
  ·obtain ⟨b, off, rfl, b1, b2, cj⟩ := ints_at HW.out hlt
   have q1 : (0 : Int) ≤ (j : Int) := by omega
   have q2 : (j : Int) < (Ws.length : Int) := by omega
   have HZj := HZ.out j
   generalize nAt Ws j = x at *
   have HY : Hid (zf j = true → allTo zf (j + 1) = true) := fun e => by show (allTo zf j && zf j) = true; rw [HA.out, e]; rfl
   have HN : Hid (zf j = false → allTo zf Ws.length = false) := fun e => allTo_false hlt e
   by_cases hx0 : x = 0
   ·have hz : zf j = true := by rw [HZj]; simp [hx0]
    have e1 : (x != 0) = false := by simp [hx0]
    have HA2 := hide (HY.out hz)
    clear HZj HY HN hz hx0 HZ
    go_wp2_with fail
    exact ⟨⟨j + 1, by omega, by go_num, HA2⟩, by simp [intOf]; omega⟩
   have e1 : (x != 0) = true := by simpa using hx0
   by_cases hb : (oldAt ≤ (j : Int) ∧ (j : Int) < old) ∨ old + youngAt ≤ (j : Int)
   ·have hz : zf j = false := by rw [HZj]; simp [hx0]; omega
    have HR := hide (HN.out hz)
    clear HZj HY HN hz hx0 HZ
    by_cases d1 : oldAt ≤ (j : Int)
    ·by_cases d2 : (j : Int) < old
     ·have d1' : decide (oldAt ≤ (j : Int)) = true := by simpa using d1
      have d2' : decide ((j : Int) < old) = true := by simpa using d2
      clear hb d1 d2
      go_wp2_with fail
      go_ret
      exact ⟨ret_bool HR.out.symm, B1.out⟩
     ·have d1' : decide (oldAt ≤ (j : Int)) = true := by simpa using d1
      have d2' : decide ((j : Int) < old) = false := by simpa using d2
      have d3 : decide (old + youngAt ≤ (j : Int)) = true := by simp; omega
      clear hb d1 d2
      go_wp2_with fail
      go_ret
      exact ⟨ret_bool HR.out.symm, B1.out⟩
    ·have d1' : decide (oldAt ≤ (j : Int)) = false := by simpa using d1
     have d3 : decide (old + youngAt ≤ (j : Int)) = true := by simp; omega
     clear hb d1
     go_wp2_with fail
     go_ret
     exact ⟨ret_bool HR.out.symm, B1.out⟩
   ·have hz : zf j = true := by rw [HZj]; simp; omega
    have HA2 := hide (HY.out hz)
    clear HZj HY HN hz hx0 HZ
    have d3 : decide (old + youngAt ≤ (j : Int)) = false := by simp; omega
    by_cases d1 : oldAt ≤ (j : Int)
    ·have d1' : decide (oldAt ≤ (j : Int)) = true := by simpa using d1
     have d2' : decide ((j : Int) < old) = false := by simp; omega
     clear hb d1
     go_wp2_with fail
     exact ⟨⟨j + 1, by omega, by go_num, HA2⟩, by simp [intOf]; omega⟩
    ·have d1' : decide (oldAt ≤ (j : Int)) = false := by simpa using d1
     clear hb d1
     go_wp2_with fail
     exact ⟨⟨j + 1, by omega, by go_num, HA2⟩, by simp [intOf]; omega⟩
  ·have hq : ¬ (j : Int) < (Ws.length : Int) := by omega
   have HR : Hid (allTo zf Ws.length = true) := by show _ = _; rw [← show j = Ws.length by omega]; exact HA.out
   go_wp2_with fail
   go_ret
   exact ⟨ret_bool HR.out.symm, B1.out⟩
end Go.Proofs.YtembifoimiochaaGreatDoor
