/- The law FnExactKinLine, walked. -/
import Derived.Test.YtpkfihliconenaaDoorLineC
import Derived.Test.YtpkfihliconenaaDoorMark0
import Derived.Test.YtpkfihliconenaaDoorMarkNum0
import Derived.Test.YtpkfihliconenaaDoorEqInt
import Derived.Test.YtpkfihliconenaaDoorSz
import Derived.Test.YtpkfihliconenaaDoorEq
import Derived.Test.YtpkfihliconenaaDoorOpen
namespace Go.Proofs.YtpkfihliconenaaDoor
open Go.ChangeShapes Go.WideShapes Go.ChangeAt Go.RowKit
set_option linter.unusedVariables false

/-- A list of numbers in a block of its own, from lo on and below hi. -/
def LineBt (w : World) (lo hi : Nat) (a : Option Addr) (xs : List Int) : Prop := xs = [] ∨ ∃ g m, a = some ⟨g, 0, none⟩ ∧ lo ≤ g ∧ g < hi ∧ Own w g m 3 ∧ xs.length ≤ m ∧ ∀ i, i < xs.length → w.cell? ⟨g, i, none⟩ = some (.int .i64 (xs.getD i 0))
theorem LineIn.bt {w : World} {lo : Nat} {a : Option Addr} {xs : List Int} (h : LineIn w lo a xs) : LineBt w lo w.heap.size a xs := h
theorem IntRow.bt {w : World} {lo g cap : Nat} {xs : List Int} (h : IntRow w lo g cap xs) : LineBt w lo w.heap.size (some ⟨g, 0, none⟩) xs := by
  rcases h.2 with ⟨e, _⟩ | ⟨g', cap', cur, e, h1, h2, h3, h4, h5, h6⟩
  · cases e
  · cases e
    refine .inr ⟨g, cap, rfl, h1, (Array.getElem?_eq_some_iff.1 h2).1, ⟨cur, h2, by omega⟩, h3, fun i hi => ?_⟩
    rw [h.cell hi]
    simp [List.getD, hi]
theorem LineBt.keep {w w' : World} {lo hi : Nat} {a : Option Addr} {xs : List Int} (h : LineBt w lo hi a xs) (hs : ∀ g, lo ≤ g → g < hi → w'.heap[g]? = w.heap[g]?) : LineBt w' lo hi a xs := by
  rcases h with h | ⟨g, m, e, h1, h2, h3, h4, h5⟩
  · exact .inl h
  · exact .inr ⟨g, m, e, h1, h2, h3.of_block (hs g h1 h2), h4, fun i hi => (World.cell?_of_block (w := w) (hs g h1 h2)).trans (h5 i hi)⟩
theorem LineBt.below {w w' : World} {lo hi B : Nat} {a : Option Addr} {xs : List Int} (h : LineBt w lo hi a xs) (hb : Below B w w') (hB : hi ≤ B) : LineBt w' lo hi a xs := h.keep fun g _ h2 => hb.block g (by omega)
theorem LineBt.shape {w : World} {lo hi : Nat} {a : Option Addr} {xs : List Int} (h : LineBt w lo hi a xs) : NSh w lo hi a xs.length := by
  rcases h with rfl | ⟨g, m, e, h1, h2, h3, h4, _⟩
  · exact .inl rfl
  · exact .inr ⟨g, m, e, h1, h2, h3, h4⟩
theorem eqLine {w : World} {lo hi lo' hi' cap cap' : Nat} {a a' : Option Addr} {xs : List Int} (hl : xs.length ≤ 1048576) (h : LineBt w lo hi a xs) (h' : LineBt w lo' hi' a' xs) :
    Calls Tryd.prog 22 #[.slice a xs.length cap, .slice a' xs.length cap'] w fun e w' => e = .returned (.bool true) ∧ Below w.heap.size w w' := by
  refine (eqIntS_core a a' cap cap' xs.length (fun i => xs.getD i 0) w hl ?_).mono ?_
  · rcases h with rfl | ⟨g, m, rfl, _, _, _, _, h5⟩
    · exact .inl (Nat.le_refl _)
    · rcases h' with rfl | ⟨g', m', rfl, _, _, _, _, h5'⟩
      · exact .inl (Nat.le_refl _)
      · exact .inr ⟨g, 0, g', 0, rfl, rfl, fun i hi => by rw [Nat.zero_add]; exact h5 i hi, fun i hi => by rw [Nat.zero_add]; exact h5' i hi⟩
  · rintro e w' ⟨rfl, m, rfl⟩
    exact ⟨rfl, below_drewN (Below.refl _ _) m⟩
theorem Marks.below {lo hi B : Nat} {w w' : World} (h : Marks lo hi w w') (hB : B ≤ lo) : Below B w w' := ⟨h.os, h.tape, h.output, Nat.le_of_eq h.size.symm, fun k hk => h.out k (.inl (by omega))⟩
theorem lineF_few (gs : List (List Ty)) (a : Int) (h : kinCount gs ≤ 1099511627776) (hk : kinOkF gs = true → kinCount gs ≤ 8) : (lineF gs a).length ≤ 1048576 := by
  unfold lineF
  split
  · rename_i hc
    simp at hc
    have := lineUp_len gs a (kinCount gs + 1)
    have := hk hc.2
    simp
    omega
  · simp

set_option maxHeartbeats 1600000 in
theorem fnExactKinLine_walk (a : Option Addr) (cap : Nat) (gs : List (List Ty)) (p : Int) (wp : (Lit.int .i64 p).wf = true) (w : World) (hl : Lens gs) (hx : GroupsIn w 0 w.heap.size a gs) (hp : pow10 w) :
    Calls Tryd.prog 7 #[.slice a gs.length cap, .int .i64 p] w fun e w' => e = .returned (.bool true) ∧ Below w.heap.size w w' := by
  have HX := hide hx
  have HP := hide hp
  have HLn := hide hl
  clear hx hp hl
  go_enter Tryd.func7, Tryd.ntmps7
  go_wp2_with fail
  refine (szTypeSS_any a cap 0 w.heap.size gs 1048576 w HLn.out HX.out (Nat.le_refl _) (by omega) (by omega)).mono ?_
  rintro e w0 ⟨r, rfl, r1, r2, r3, hb0⟩
  have B0 := hide hb0
  clear hb0
  by_cases hr : r < 0
  · clear r3
    go_wp2_with fail
    go_ret
    exact ⟨rfl, B0.out⟩
  have hf := hide (r3 (by omega))
  clear r3
  have HFew := hide (lineF_few gs p (kinCount_le hf.out) (fun h => (kinOk_parts h).2.1))
  have HSp := hide (fun n lo hi w1 (h1 : lo ≤ hi) (h2 : hi ≤ w1.heap.size) (hg : GroupsIn w1 lo hi n gs) => specKinLine_any n gs.length lo hi gs p w1 hf.out (Nat.le_refl _) h1 h2 hg)
  have HIm := hide (fun n lo hi w1 (h1 : lo ≤ hi) (h2 : hi ≤ w1.heap.size) (hg : GroupsIn w1 lo hi n gs) (hq : pow10 w1) => implKinLine_any n gs.length lo hi gs p w1 hf.out h1 h2 hg hq)
  generalize lineF gs p = xs at *
  obtain ⟨N, hN⟩ : ∃ N, xs.length = N := ⟨_, rfl⟩
  have HN := hide hN
  clear hN
  go_wp2_with fail
  refine (toTypeSS_any a cap 0 w.heap.size gs _ hf.out (HX.out.keep B0.out) B0.out.size).mono ?_
  rintro e w1 ⟨n1, rfl, hx1, hb1⟩
  have X1 := hide hx1
  have S1 := hide hb1.size
  have B1 := hide (B0.out.trans (hb1.mono B0.out.size))
  clear hx1 hb1
  go_wp2_with fail
  refine (HSp.out n1 w0.heap.size w1.heap.size w1 S1.out (Nat.le_refl _) X1.out.plain).mono ?_
  rintro e w2 ⟨gw, cw, rfl, hrow, hb2⟩
  rw [HN.out]
  have T2 := hide hrow.bt
  have S2 := hide hb2.size
  have B2 := hide (B1.out.trans (hb2.mono B1.out.size))
  clear hb2 hrow
  go_wp2_with fail
  refine (toTypeSS_any a cap 0 w.heap.size gs _ hf.out (HX.out.keep B2.out) B2.out.size).mono ?_
  rintro e w3 ⟨n3, rfl, hx3, hb3⟩
  have X3 := hide hx3
  have S3 := hide hb3.size
  have T3 := hide (T2.out.below hb3 (Nat.le_refl _))
  have B3 := hide (B2.out.trans (hb3.mono B2.out.size))
  clear hx3 hb3
  go_wp2_with fail
  refine (HIm.out n3 w2.heap.size w3.heap.size w3 S3.out (Nat.le_refl _) X3.out.plain (pow10_keep HP.out B3.out)).mono ?_
  rintro e w4 ⟨ag, cg, rfl, hg4, hb4⟩
  rw [HN.out]
  have G4 := hide hg4.bt
  have X4 := hide (X3.out.keep hb4)
  have S4 := hide hb4.size
  have T4 := hide (T3.out.below hb4 S3.out)
  have B4 := hide (B3.out.trans (hb4.mono B3.out.size))
  clear hb4 hg4
  go_wp2_with fail
  rw [← HN.out]
  refine (eqLine HFew.out G4.out T4.out).mono ?_
  rintro e w5 ⟨rfl, hb5⟩
  rw [HN.out]
  have X5 := hide (X4.out.keep (hb5.mono S4.out))
  have S5 := hide hb5.size
  have T5 := hide (T4.out.below hb5 (Nat.le_trans S3.out S4.out))
  have G5 := hide (G4.out.below hb5 (Nat.le_refl _))
  have B5 := hide (B4.out.trans (hb5.mono B4.out.size))
  clear hb5
  go_wp2_with fail
  refine (toTypeSS_any a cap 0 w.heap.size gs _ hf.out (HX.out.keep B5.out) B5.out.size).mono ?_
  rintro e w6 ⟨n6, rfl, hx6, hb6⟩
  have S6 := hide hb6.size
  have X6 := hide (X5.out.keep (hb6.mono (Nat.le_trans S4.out S5.out)))
  have T6 := hide (T5.out.below hb6 (Nat.le_trans S3.out (Nat.le_trans S4.out S5.out)))
  have G6 := hide (G5.out.below hb6 S5.out)
  have B6 := hide (B5.out.trans (hb6.mono B5.out.size))
  have Y6 := hide hx6
  clear hx6 hb6
  go_wp2_with fail
  refine (eqTypeSS_same n3 n6 _ _ _ _ _ _ gs _ hf.out X6.out.plain Y6.out.plain (Nat.le_trans S4.out (Nat.le_trans S5.out S6.out)) (Nat.le_refl _)).mono ?_
  rintro e w7 ⟨rfl, hb7⟩
  have S7 := hide hb7.size
  have X7 := hide (X6.out.keep (hb7.mono (Nat.le_trans S4.out (Nat.le_trans S5.out S6.out))))
  have T7 := hide (T6.out.below hb7 (Nat.le_trans S3.out (Nat.le_trans S4.out (Nat.le_trans S5.out S6.out))))
  have G7 := hide (G6.out.below hb7 (Nat.le_trans S5.out S6.out))
  have B7 := hide (B6.out.trans (hb7.mono B6.out.size))
  clear hb7 Y6
  go_wp2_with fail
  refine (markTypeSS_any n3 gs.length w2.heap.size w3.heap.size gs 1 w7 hf.out (by omega) (by omega) X7.out.shape).mono ?_
  rintro e w8 ⟨r8, rfl, r81, r82, hm8⟩
  have S8 := hide hm8.size
  have T8 := hide (T7.out.keep fun g _ h2 => hm8.out g (.inl h2))
  have G8 := hide (G7.out.keep fun g h1 _ => hm8.out g (.inr h1))
  have B8 := hide (B7.out.trans (hm8.below B2.out.size))
  clear hm8 X7 X6 X5 X4 X3 X1
  have d8 : decide (r8 < 0) = false := by simp; omega
  go_wp2_with fail
  rw [← HN.out]
  refine (eqLine HFew.out G8.out T8.out).mono ?_
  rintro e w9 ⟨rfl, hb9⟩
  rw [HN.out]
  have s78 : w4.heap.size ≤ w8.heap.size := by have := S5.out; have := S6.out; have := S7.out; have := S8.out; omega
  have s28 : w2.heap.size ≤ w8.heap.size := by have := S3.out; have := S4.out; omega
  have S9 := hide hb9.size
  have T9 := hide (T8.out.below hb9 s28)
  have G9 := hide (G8.out.below hb9 s78)
  have B9 := hide (B8.out.trans (hb9.mono B8.out.size))
  clear hb9
  go_wp2_with fail
  have n9 : N ≤ 1048576 := by have := HFew.out; have := HN.out; omega
  have HSh : Hid (NSh w9 w3.heap.size w4.heap.size ag N) := by have := G9.out.shape; rw [HN.out] at this; exact this
  refine (markIntS_any ag cg N w3.heap.size w4.heap.size 1 w9 n9 (by omega) (by omega) HSh.out).mono ?_
  rintro e w10 ⟨rfl, hmk, _, ht10, _⟩
  have S10 := hide ht10.size
  have M10 := hide hmk
  have T10 := hide (T9.out.keep fun g _ h2 => ht10.block g (.inl (Nat.lt_of_lt_of_le h2 S3.out)))
  have B10 := hide (B9.out.trans (ht10.below.mono B3.out.size))
  clear hmk ht10 G9
  go_wp2_with fail
  refine (heldIntS_any ag cg N w3.heap.size w4.heap.size 1 w10 n9 (by omega) (by omega) M10.out).mono ?_
  rintro e w11 ⟨rfl, q11, hq11⟩
  have b11 : Below w10.heap.size w10 w11 := by rw [hq11]; exact below_drewN (Below.refl _ _) _
  have s10 : w4.heap.size ≤ w10.heap.size := by have := S9.out; have := S10.out; omega
  have s210 : w2.heap.size ≤ w10.heap.size := by have := S9.out; have := S10.out; omega
  have M11 := hide (M10.out.keep (b11.mono s10))
  have T11 := hide (T10.out.below b11 s210)
  have B11 := hide (B10.out.trans (b11.mono B10.out.size))
  have S11 := hide b11.size
  clear hq11 b11
  have d11 : ¬ (1 + (N : Int) < 0) := by omega
  go_wp2_with fail
  refine (toTypeSS_any a cap 0 w.heap.size gs _ hf.out (HX.out.keep B11.out) B11.out.size).mono ?_
  rintro e w12 ⟨n12, rfl, hx12, hb12⟩
  have s411 : w4.heap.size ≤ w11.heap.size := by have := S11.out; omega
  have s211 : w2.heap.size ≤ w11.heap.size := by have := S11.out; omega
  have S12 := hide hb12.size
  have X12 := hide hx12
  have M12 := hide (M11.out.keep (hb12.mono s411))
  have T12 := hide (T11.out.below hb12 s211)
  have B12 := hide (B11.out.trans (hb12.mono B11.out.size))
  clear hx12 hb12
  go_wp2_with fail
  refine (HIm.out n12 w11.heap.size w12.heap.size w12 S12.out (Nat.le_refl _) X12.out.plain (pow10_keep HP.out B12.out)).mono ?_
  rintro e w13 ⟨ah, ch, rfl, hg13, hb13⟩
  rw [HN.out]
  have s412 : w4.heap.size ≤ w12.heap.size := by have := S12.out; omega
  have s212 : w2.heap.size ≤ w12.heap.size := by have := S12.out; omega
  have G13 := hide hg13.bt
  have S13 := hide hb13.size
  have M13 := hide (M12.out.keep (hb13.mono s412))
  have T13 := hide (T12.out.below hb13 s212)
  have B13 := hide (B12.out.trans (hb13.mono B12.out.size))
  clear hg13 hb13
  go_wp2_with fail
  rw [← HN.out]
  refine (eqLine HFew.out G13.out T13.out).mono ?_
  rintro e w14 ⟨rfl, hb14⟩
  rw [HN.out]
  have M14 := hide (M13.out.keep (hb14.mono (Nat.le_trans s412 S13.out)))
  have B14 := hide (B13.out.trans (hb14.mono B13.out.size))
  clear hb14
  go_wp2_with fail
  refine (heldIntS_any ag cg N w3.heap.size w4.heap.size 1 w14 n9 (by omega) (by omega) M14.out).mono ?_
  rintro e w15 ⟨rfl, q15, hq15⟩
  have B15 := hide (B14.out.trans ((show Below w14.heap.size w14 w15 by rw [hq15]; exact below_drewN (Below.refl _ _) _).mono B14.out.size))
  clear hq15
  go_wp2_with fail
  go_ret
  exact ⟨rfl, B15.out⟩
end Go.Proofs.YtpkfihliconenaaDoor
