/- A thing, drawn from bytes. -/
import Derived.Test.YthidiabeffgjlaaDoorDrawVal
import Derived.Test.YthidiabeffgjlaaDoorValRow
import Derived.Test.YthidiabeffgjlaaDoorDeskTxt2
import Derived.Deep.RegionLaw
namespace Go.Proofs.YthidiabeffgjlaaDoor
open Go.ChangeShapes Go.WideShapes Go.ChangeAt Go.RowKit Go.Deep
set_option linter.unusedVariables false

theorem ThingI.snoc {t : Int} {vs : List GVal} {k n : Int} (h : ThingI ⟨t, vs⟩) (hn : -10000 ≤ n ∧ n ≤ 1000000) : ThingI ⟨t, vs ++ [⟨k, n⟩]⟩ := by
  refine ⟨h.1, fun i hi => ?_⟩
  by_cases e : i < vs.length
  · show I64 (valAt' (vs ++ [⟨k, n⟩]) i).n
    rw [valAt_snoc_left _ _ _ e]; exact h.2 i e
  · have : i = vs.length := by simp at hi; omega
    subst this
    show I64 (valAt' (vs ++ [⟨k, n⟩]) _).n
    rw [valAt_snoc_last]
    exact ⟨by show (-9223372036854775808 : Int) ≤ n; omega, by show n ≤ (9223372036854775807 : Int); omega⟩

set_option maxHeartbeats 6400000 in
theorem drawThingText_any (a : Option Addr) (cap n : Nat) (w : World) (hc : n ≤ cap) (h : BytesIn w w.heap.size a n) :
    Calls Tryd.prog 5 #[.slice a n cap] w fun e w' => ∃ (x : GThing) (fa : Option Addr) (fc : Nat), e = .returned (.agg #[.int .i64 x.typ, .slice fa x.vals.length fc]) ∧ ThingI x ∧ x.vals.length ≤ 4 ∧ ValsM false w' w.heap.size w'.heap.size fa x.vals ∧ Below w.heap.size w w' := by
  obtain ⟨i0, HI0, HZ0, HS0, HB0⟩ := info_parts infoVal
  have HI := hide HI0
  have HZ := hide HZ0
  have HS := hide HS0
  have HB := hide HB0
  clear HI0 HZ0 HS0 HB0
  go_enter Tryd.func5, Tryd.ntmps5
  go_wp2_with fail
  refine (open_any a cap n _ hc ((h.keep ((Below.refl _ _).alloc (Nat.le_refl _) _)).wider (by simp))).mono ?_
  rintro e w1 ⟨rfl, r1, b1, s1⟩
  have R1 : Hid (Rec w1 w.heap.size 25 [.int .i64 0, .slice none 0 0]) := (Rec.new' _ _ _ _ rfl).below b1 (by simp)
  have B1 : Hid (Below w.heap.size w w1) := ((Below.refl _ _).alloc (Nat.le_refl _) _).trans (b1.mono (by simp))
  simp only [World.size_alloc] at s1 r1
  clear b1 h
  go_wp2_with fail
  refine (pick_only (w.heap.size + 1) 0 9 w1 (by omega) r1).mono ?_
  rintro e w2 ⟨ty, rfl, _, l2, u2, r2, o2, s2⟩
  have u2' := u2 (by omega)
  have R2 := hide (R1.out.only o2 (by omega))
  have B2 := hide (B1.out.trans (o2.below (B := w.heap.size) (by omega) (by omega)))
  clear o2 u2 r1
  go_wp2_with fail
  obtain ⟨tb, htb⟩ : ∃ tb, tb = w.heap.size + 1 + 1 := ⟨_, rfl⟩
  have e0 : tb = w.heap.size + 2 := by omega
  have T3 : Hid (Rec (w2.alloc (.cells #[.int .i64 (ty - 1), .slice none 0 0] 25)) tb 25 [.int .i64 (ty - 1), .slice none 0 0]) := Rec.new' _ _ _ _ (by omega)
  have R3 := hide (R2.out.alloc (.cells #[.int .i64 (ty - 1), .slice none 0 0] 25))
  have B3 := hide (below_more B2.out (.cells #[.int .i64 (ty - 1), .slice none 0 0] 25))
  have r3 := r2.alloc (.cells #[.int .i64 (ty - 1), .slice none 0 0] 25)
  rw [← htb]
  refine (pick_only (w.heap.size + 1) 1 5 _ (by omega) r3).mono ?_
  rintro e w4 ⟨k4, rfl, _, l4, u4, r4, o4, s4⟩
  have u4' := u4 (by omega)
  have R4 := hide (R3.out.only o4 (by omega))
  have T4 := hide (T3.out.only o4 (by omega))
  have B4 := hide (B3.out.trans (o4.below (B := w.heap.size) (by omega) (by simp; omega)))
  simp only [World.size_alloc] at s4
  have z4 : tb < w4.heap.size := T4.out.lt
  have F4 : Hid (ValRow w4 (tb + 1) none 0 []) := ValRow.nil _ _
  have I4 : Hid (ThingI ⟨ty - 1, []⟩) := ⟨⟨by show (-9223372036854775808 : Int) ≤ ty - 1; omega, by show ty - 1 ≤ (9223372036854775807 : Int); omega⟩, fun i hi => absurd hi (Nat.not_lt_zero _)⟩
  have RD4 := hide r4
  clear o4 u4 r3 r2 r4 T3 R3 B3 R1 B1 R2 B2
  clear s1 s2 s4
  have HTB := hide e0
  have htb1 : w.heap.size < tb := by omega
  have htb2 : w.heap.size + 1 < tb := by omega
  clear e0 htb
  go_wp2_with fail
  go_loopw [5] (fun i wr => ∃ (j : Nat) (vs : List GVal) (fa : Option Addr) (fc p : Nat), i = .int .i64 (j : Int) ∧ Hid (vs.length + j ≤ 4) ∧ Hid (p ≤ 2 + 3 * vs.length) ∧ Hid (Rec wr tb 25 [.int .i64 (ty - 1), .slice fa vs.length fc]) ∧ Hid (Rec wr w.heap.size 25 [.int .i64 0, .slice none 0 0]) ∧ Hid (ValRow wr (tb + 1) fa fc vs) ∧ Hid (ThingI ⟨ty - 1, vs⟩) ∧ Hid (Rd wr (w.heap.size + 1) p) ∧ Hid (Below w.heap.size w wr)) (fun i wr => (intOf i).toNat)
  case atStart =>
    refine ⟨k4.toNat, [], none, 0, 2, ?_, ?_, ?_, T4, R4, F4, I4, RD4, B4⟩
    · rw [Int.toNat_of_nonneg l4]
    · show ([] : List GVal).length + k4.toNat ≤ 4; simp; omega
    · show 2 ≤ 2 + 3 * ([] : List GVal).length; omega
  case round =>
    clear T4 R4 F4 I4 RD4 B4
    obtain ⟨j, vs, fa, fc, p, rfl, HL, HP, RT, RR, FR, TI, RD, BW⟩ := hrel
    have t0 := RT.out.cell (o := 0) rfl
    have t1 := RT.out.cell (o := 1) rfl
    have tblt := RT.out.lt
    have f1 := RT.out.frozen 1
    by_cases hj : 0 < j
    · obtain ⟨j', rfl⟩ : ∃ j', j = j' + 1 := ⟨j - 1, by omega⟩
      have hl4 : vs.length < 4 := by have := HL.out; omega
      have hp4 : p < 900000 := by have := HP.out; omega
      have j0 : (0 : Int) < ((j' + 1 : Nat) : Int) := by omega
      have j5 : (j' : Int) ≤ 4 := by have := HL.out; omega
      have j6 : (0 : Int) ≤ (j' : Int) := by omega
      go_wp2_with fail
      go_region_law ((first
        | (refine step_append_lies _ (by rfl) _ _ 23 (by rfl) (tb + 1) 29 i0 _ 2 16 Tryd.underlying23 HI.out HZ.out HS.out HB.out (by rfl) (by decide) (.slice fa vs.length fc) vs.length (vcells vs) (by rfl) (F5.out.alloc _) ⟨w5.heap.size, 0, none⟩ 1 1 [.int .i64 vk, .int .i64 vn] (by rfl) rfl (World.news_of_block (Deep.blk_alloc_new _ _)) (by intro u hu; simp at hu; rcases hu with rfl | rfl <;> rfl) (by decide) (by unfold maxLen; omega) (by omega) (by simp; omega) _ rfl ?_; intro gB cap6 w6 hown6 hgr6 hat6 hlt6; have T6 := hide ((T5.out.alloc _).grown hgr6 (row_ne F5.out (by omega))); have d1 := T6.out.cell (o := 1) rfl; have d1f := T6.out.frozen 1)
        | (go_simp; go_at_call 13; refine (l5Val_any (w.heap.size + 1) p 9 _ hp4 (by exact RD.out) (by omega) (by omega)).mono ?_; rintro e w5 ⟨vk, vn, rfl, vr, ⟨p5, hp5, r5⟩, o5⟩; have T5 := hide (Rec.only (w := wr.drew) RT.out o5 (by omega)); have R5 := hide (Rec.only (w := wr.drew) RR.out o5 (by omega)); have F5 := hide (owns_only (w := wr.drew) FR.out o5 (by omega)); have B5 := hide (Below.trans BW.out.drew (o5.below (B := w.heap.size) (by omega) (by exact BW.out.size))); have s5 := T5.out.lt; have d1 := T5.out.cell (o := 1) rfl; clear o5)))
      all_goals
        have e7 : (vs ++ [(⟨vk, vn⟩ : GVal)]).length = vs.length + 1 := by simp
        have T7 : Hid (Rec (w6.setCell ⟨tb, 1, none⟩ (.slice (some ⟨gB, 0, none⟩) (vs.length + 1) cap6)) tb 25 [.int .i64 (ty - 1), .slice (some ⟨gB, 0, none⟩) (vs ++ [(⟨vk, vn⟩ : GVal)]).length cap6]) := by rw [e7]; exact T6.out.set 1 _
        have R7 := hide (((R5.out.alloc (.cells #[.int .i64 vk, .int .i64 vn] 29)).grown hgr6 (row_ne F5.out (by omega))).other (show w.heap.size ≠ tb by omega) 1 (.slice (some ⟨gB, 0, none⟩) (vs.length + 1) cap6))
        have F7 : Hid (ValRow (w6.setCell ⟨tb, 1, none⟩ (.slice (some ⟨gB, 0, none⟩) (vs.length + 1) cap6)) (tb + 1) (some ⟨gB, 0, none⟩) cap6 (vs ++ [(⟨vk, vn⟩ : GVal)])) := ValRow.of_snoc (owns_of_block hown6 fun q hq => Below.heap_setCell _ _ _ _ (by have := owns_base hown6 q hq; simp; omega))
        have B7 : Hid (Below w.heap.size w (w6.setCell ⟨tb, 1, none⟩ (.slice (some ⟨gB, 0, none⟩) (vs.length + 1) cap6))) := Below.setCell (((B5.out.alloc B5.out.size (.cells #[.int .i64 vk, .int .i64 vn] 29)).grown hgr6 (by have := B5.out.size; simp; omega) (fun q hq => by have := owns_base F5.out q hq; omega))) (by show w.heap.size ≤ tb; omega) _
        have D7 : Hid (Rd (w6.setCell ⟨tb, 1, none⟩ (.slice (some ⟨gB, 0, none⟩) (vs.length + 1) cap6)) (w.heap.size + 1) p5) := r5.keep' ((((Below.refl _ _).alloc (by omega) (.cells #[.int .i64 vk, .int .i64 vn] 29)).grown hgr6 (by simp; omega) (fun q hq => by have := owns_base F5.out q hq; omega)).setCell (by show w.heap.size + 1 + 1 ≤ tb; omega) _)
        have I7 : Hid (ThingI ⟨ty - 1, vs ++ [(⟨vk, vn⟩ : GVal)]⟩) := TI.out.snoc vr
        have L7 : Hid ((vs ++ [(⟨vk, vn⟩ : GVal)]).length + j' ≤ 4) := by have := HL.out; show _ + _ ≤ 4; rw [e7]; omega
        have P7 : Hid (p5 ≤ 2 + 3 * (vs ++ [(⟨vk, vn⟩ : GVal)]).length) := by have := HP.out; show p5 ≤ _; rw [e7]; omega
        clear T5 R5 F5 B5 T6 hown6 hgr6 hat6 hlt6 d1 d1f r5 HL HP e7
        go_wp2_with fail
        exact ⟨⟨j', vs ++ [(⟨vk, vn⟩ : GVal)], some ⟨gB, 0, none⟩, cap6, p5, by go_num, L7, P7, T7, R7, F7, I7, D7, B7⟩, by simp [intOf]⟩
    · have ej : j = 0 := by omega
      subst ej
      have RF := hide ((RR.out.set 0 (.int .i64 (ty - 1))).set 1 (.slice fa vs.length fc))
      have r0 := RR.out.cell (o := 0) rfl
      have r1 := RR.out.cell (o := 1) rfl
      have g0 := RR.out.frozen 0
      have g1 := RR.out.frozen 1
      have d0 := RF.out.cell (o := 0) rfl
      have d1 := RF.out.cell (o := 1) rfl
      go_wp2_with fail
      refine bodyPost_ret (v := .agg #[.int .i64 (ty - 1), .slice fa vs.length fc]) (by simp [results, Tryd.results5, go_sem, d0, d1]) rfl ⟨⟨ty - 1, vs⟩, fa, fc, rfl, TI.out, by have := HL.out; show vs.length ≤ 4; omega, ?_, ?_⟩
      · refine (ValsM.wide (lo' := tb + 1) (hi' := wr.heap.size) FR.out.vals (Nat.le_refl _) (Nat.le_refl _)).same ?_ (by omega) (by simp)
        exact ((Same.refl _ _ _).set (.inl (by omega)) _ _).set (.inl (by omega)) _ _
      · exact (BW.out.setCell (Nat.le_refl _) _).setCell (Nat.le_refl _) _
end Go.Proofs.YthidiabeffgjlaaDoor
