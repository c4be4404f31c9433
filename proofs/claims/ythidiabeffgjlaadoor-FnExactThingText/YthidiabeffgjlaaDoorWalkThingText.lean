/- The law FnExactThingText, walked. -/
import Derived.Test.YthidiabeffgjlaaDoorDeskTxt2
namespace Go.Proofs.YthidiabeffgjlaaDoor
open Go.ChangeShapes Go.WideShapes Go.ChangeAt Go.RowKit
set_option linter.unusedVariables false

set_option maxHeartbeats 3200000 in
theorem fnExactThingText_walk (a : Option Addr) (c : Nat) (x : GThing) (w : World) (hl : ThingB 9223372036854775807 x) (hi : ThingI x) (hx : ValsM false w 0 w.heap.size a x.vals) (hp : pow10 w) :
    Calls Tryd.prog 4 #[.agg #[.int .i64 x.typ, .slice a x.vals.length c]] w fun e w' => e = .returned (.bool true) ∧ Below w.heap.size w w' := by
  have HX := hide hx
  have HP := hide hp
  have HL := hide hl
  have HI := hide hi
  clear hx hp hl hi
  have b0 : Below w.heap.size w (w.alloc (.cells #[.int .i64 x.typ, .slice a x.vals.length c] 33)) := (Below.refl _ _).alloc (Nat.le_refl _) _
  have BB := hide b0
  have RR : Hid (Rec (w.alloc (.cells #[.int .i64 x.typ, .slice a x.vals.length c] 33)) w.heap.size 33 [.int .i64 x.typ, .slice a x.vals.length c]) := Rec.new _ _ _
  clear b0
  go_enter Tryd.func4, Tryd.ntmps4
  go_wp2_with fail
  refine (szThing_any a c 0 w.heap.size x 1048576 _ HL.out (HX.out.keep BB.out) BB.out.size (by omega) (by omega)).mono ?_
  rintro e w0 ⟨r, rfl, r1, r2, r3, hb0⟩
  have B0 := hide (BB.out.trans (hb0.mono BB.out.size))
  have R0 := hide (RR.out.below hb0 RR.out.lt)
  clear hb0 BB RR
  by_cases hr : r < 0
  · clear r3
    go_wp2_with fail
    go_ret
    exact ⟨rfl, B0.out⟩
  have hf := hide (r3 (by omega))
  clear r3
  have c0 := R0.out.cell (o := 0) rfl
  have c1 := R0.out.cell (o := 1) rfl
  go_wp2_with fail
  refine (toThing_any a c 0 w.heap.size x _ hf.out (HX.out.keep B0.out) B0.out.size).mono ?_
  rintro e w1 ⟨n1, rfl, q1, hb1⟩
  have Q1 := hide q1
  have B1 := hide (B0.out.trans (hb1.mono B0.out.size))
  have R1 := hide (R0.out.below hb1 R0.out.lt)
  have hlen : x.vals.length ≤ 1048577 := by have : x.vals.length ≤ 1048576 := hf.out; omega
  have HLen := hide hlen
  clear q1 hb1 c0 c1 hlen
  go_wp2_with fail
  refine (specThingText_any n1 _ w0.heap.size w1.heap.size x _ HLen.out HI.out Q1.out (Nat.le_refl _)).mono ?_
  rintro e w2 ⟨rfl, hb2⟩
  have B2 := hide (B1.out.trans (hb2.mono B1.out.size))
  have R2 := hide (R1.out.below hb2 R1.out.lt)
  clear hb2
  obtain ⟨t, ht⟩ : ∃ t, t = thingTxt x := ⟨_, rfl⟩
  rw [← ht]
  have HT := hide ht
  clear ht
  have c0 := R2.out.cell (o := 0) rfl
  have c1 := R2.out.cell (o := 1) rfl
  go_wp2_with fail
  refine (toThing_any a c 0 w.heap.size x _ hf.out (HX.out.keep B2.out) B2.out.size).mono ?_
  rintro e w3 ⟨n3, rfl, q3, hb3⟩
  have Q3 := hide q3
  have B3 := hide (B2.out.trans (hb3.mono B2.out.size))
  have R3 := hide (R2.out.below hb3 R2.out.lt)
  clear q3 hb3 c0 c1
  go_wp2_with fail
  have B4 := hide (below_more B3.out (.cells #[.int .i64 x.typ, .slice n3 x.vals.length x.vals.length] 25))
  have R4 := hide (R3.out.alloc (.cells #[.int .i64 x.typ, .slice n3 x.vals.length x.vals.length] 25))
  have X4 : Hid (Rec (w3.alloc (.cells #[.int .i64 x.typ, .slice n3 x.vals.length x.vals.length] 25)) w3.heap.size 25 [.int .i64 x.typ, .slice n3 x.vals.length x.vals.length]) := Rec.new _ _ _
  have Q4 := hide (Q3.out.keep ((Below.refl w3.heap.size w3).alloc (Nat.le_refl _) (.cells #[.int .i64 x.typ, .slice n3 x.vals.length x.vals.length] 25)))
  refine (implThingText_any n3 _ w2.heap.size w3.heap.size x _ HLen.out HI.out Q4.out (by simp) (pow10_keep HP.out B4.out)).mono ?_
  rintro e w5 ⟨rfl, hb5⟩
  have B5 := hide (B4.out.trans (hb5.mono B4.out.size))
  have R5 := hide (R4.out.below hb5 R4.out.lt)
  have X5 := hide (X4.out.below hb5 X4.out.lt)
  have Q5 := hide (Q4.out.keep (hb5.mono (by simp)))
  have s5 : w3.heap.size + 1 ≤ w5.heap.size := by have := hb5.size; simpa using this
  clear hb5
  have h35 : w3.heap.size ≤ w5.drew.heap.size := by show w3.heap.size ≤ w5.heap.size; omega
  rw [← HT.out]
  have c0 := R5.out.cell (o := 0) rfl
  have c1 := R5.out.cell (o := 1) rfl
  have d0 := X5.out.cell (o := 0) rfl
  have d1 := X5.out.cell (o := 1) rfl
  go_wp2_with fail
  go_region_held3 (fun w' => (w'.cell? ⟨w.heap.size, 0, none⟩ = some (.int .i64 x.typ) ∧ w'.cell? ⟨w.heap.size, 1, none⟩ = some (.slice a x.vals.length c)) ∧ (w'.cell? ⟨w3.heap.size, 0, none⟩ = some (.int .i64 x.typ) ∧ w'.cell? ⟨w3.heap.size, 1, none⟩ = some (.slice n3 x.vals.length x.vals.length)))
    (go_keep)
    ((first
      | (go_at_call 9; refine (toThing_any a c 0 w.heap.size x _ hf.out (HX.out.keep B5.out.drew) B5.out.drew.size).mono ?_; rintro e w6 ⟨n6, rfl, q6, hb6⟩; have B6 := hide (B5.out.drew.trans (hb6.mono B5.out.drew.size)); have Q6 := hide q6; have Q5' : Hid (ValsM true w6 w2.heap.size w3.heap.size n3 x.vals) := ValsM.keep (w := w5.drew) Q5.out (hb6.mono h35); have s6 := hb6.size; have R6 : Hid (Rec w6 w.heap.size 33 [.int .i64 x.typ, .slice a x.vals.length c]) := Rec.below (w := w5.drew) R5.out hb6 R5.out.lt; have X6 : Hid (Rec w6 w3.heap.size 25 [.int .i64 x.typ, .slice n3 x.vals.length x.vals.length]) := Rec.below (w := w5.drew) X5.out hb6 X5.out.lt; clear q6 hb6; have c0 := R6.out.cell (o := 0) rfl; have c1 := R6.out.cell (o := 1) rfl; have d0 := X6.out.cell (o := 0) rfl; have d1 := X6.out.cell (o := 1) rfl)
      | (go_at_call 10; refine (eqThing_g n3 n6 _ _ w2.heap.size w3.heap.size w5.drew.heap.size w6.heap.size x _ hf.out Q5'.out Q6.out (Nat.le_trans h35 s6) (Nat.le_refl _)).mono ?_; rintro e w7 ⟨rfl, hb7⟩; have B7 := hide (B6.out.trans (hb7.mono B6.out.size)); have R7 := hide (R6.out.below hb7 R6.out.lt); have X7 := hide (X6.out.below hb7 X6.out.lt); clear hb7; have c0 := R7.out.cell (o := 0) rfl; have c1 := R7.out.cell (o := 1) rfl; have d0 := X7.out.cell (o := 0) rfl; have d1 := X7.out.cell (o := 1) rfl)))
  rename_i hHeld
  clear hHeld
  go_wp2_with fail
  go_ret
  exact ⟨rfl, B7.out⟩
end Go.Proofs.YthidiabeffgjlaaDoor
