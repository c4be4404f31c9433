/- The law FnExactCheckAll, walked. -/
import Derived.Test.YtpaneomkphjpcaaGreatDoorCkAllS
import Derived.Test.YtpaneomkphjpcaaGreatDoorCkAllI
import Derived.Test.YtpaneomkphjpcaaGreatDoorPaGen
namespace Go.Proofs.YtpaneomkphjpcaaGreatDoor
open Go.ChangeShapes Go.WideShapes Go.ChangeAt Go.RowKit Go.Joins Go.Deep
set_option linter.unusedVariables false
set_option linter.unusedSimpArgs false

set_option maxHeartbeats 1000000 in
theorem eqFault_same (a b c : Int) (w : World) : Calls Tryz.prog 28 #[.agg #[.int .i64 a, .int .i64 b, .int .i64 c], .agg #[.int .i64 a, .int .i64 b, .int .i64 c]] w fun e w' => e = .returned (.bool true) ∧ Below w.heap.size w w' := by
 go_enter Tryz.func28, Tryz.ntmps28
 go_wp2_with fail
 go_ret
 exact ⟨rfl, ((Below.refl _ _).alloc (Nat.le_refl _) _).alloc (by simp) _⟩

set_option maxHeartbeats 4000000 in
set_option maxRecDepth 100000 in
theorem fnExactCheckAll_walk (a0 a1 a2 : Option Addr) (c0 c1 c2 : Nat) (x : GProg) (w : World) (hl : ProgB 9223372036854775807 x) (hx : PM false w 0 w.heap.size a0 a1 a2 x) (hp : pow10 w) (he : errT w) :
 Calls Tryz.prog 6 #[.agg #[.slice a0 x.types.length c0, .slice a1 x.glob.length c1, .slice a2 x.funs.length c2]] w fun e w' => e = .returned (.bool true) ∧ Below w.heap.size w w' := by
 have HLn := hide hl
 have GX := hide hx
 have HP := hide hp
 have HE := hide he
 clear hl hx hp he
 have BB : Hid (Below w.heap.size w (w.alloc (.cells #[.slice a0 x.types.length c0, .slice a1 x.glob.length c1, .slice a2 x.funs.length c2] 26))) := (Below.refl _ _).alloc (Nat.le_refl _) _
 have RR : Hid (Rec (w.alloc (.cells #[.slice a0 x.types.length c0, .slice a1 x.glob.length c1, .slice a2 x.funs.length c2] 26)) w.heap.size 26 [.slice a0 x.types.length c0, .slice a1 x.glob.length c1, .slice a2 x.funs.length c2]) := Rec.new _ _ _
 go_enter Tryz.func6, Tryz.ntmps6
 go_wp2_with fail
 refine (szProg_any a0 a1 a2 c0 c1 c2 0 w.heap.size x 1048576 _ HLn.out (GX.out.keep BB.out).1 (GX.out.keep BB.out).2.1 (GX.out.keep BB.out).2.2 BB.out.size (by omega) (by omega)).mono ?_
 rintro e w0 ⟨r, rfl, r1, r2, r3, hb0⟩
 have B0 := hide (BB.out.trans (hb0.mono BB.out.size))
 have R0 := hide (RR.out.below hb0 RR.out.lt)
 clear hb0 BB RR
 by_cases hr : r < 0
 ·clear r3
  go_wp2_with fail
  go_ret
  exact ⟨rfl, B0.out⟩
 have hf := hide (r3 (by omega))
 clear r3
 have HSp : Hid (∀ (n0 n1 n2 : Option Addr) (lo hi : Nat) (W : World), PM true W lo hi n0 n1 n2 x → lo ≤ hi → hi ≤ W.heap.size → Calls Tryz.prog 26 #[.agg #[.slice n0 x.types.length x.types.length, .slice n1 x.glob.length x.glob.length, .slice n2 x.funs.length x.funs.length]] W fun e w' => e = .returned (.agg #[.int .i64 (ckAllF x).1, .int .i64 (ckAllF x).2.1, .int .i64 (ckAllF x).2.2]) ∧ Below W.heap.size W w') := fun n0 n1 n2 lo hi W hm hl hh => specCheckAll_any n0 n1 n2 _ _ _ lo hi x W hf.out hm (Nat.le_refl _) hl hh
 have HIm : Hid (∀ (n0 n1 n2 : Option Addr) (lo hi : Nat) (W : World), PM true W lo hi n0 n1 n2 x → lo ≤ hi → hi ≤ W.heap.size → pow10 W → errT W → Calls Tryz.prog 27 #[.agg #[.slice n0 x.types.length x.types.length, .slice n1 x.glob.length x.glob.length, .slice n2 x.funs.length x.funs.length]] W fun e w' => e = .returned (.agg #[.int .i64 (ckAllF x).1, .int .i64 (ckAllF x).2.1, .int .i64 (ckAllF x).2.2]) ∧ Below W.heap.size W w') := fun n0 n1 n2 lo hi W hm hl hh hp he => implCheckAll_any n0 n1 n2 _ _ _ lo hi x W hf.out hm hl hh hp he
 generalize ckAllF x = cr at *
 obtain ⟨q1, q2, q3⟩ := cr
 simp only at HSp HIm
 have kc0 := R0.out.cell (o := 0) rfl
 have kc1 := R0.out.cell (o := 1) rfl
 have kc2 := R0.out.cell (o := 2) rfl
 go_wp2_with fail
 refine (toProg_any a0 c0 a1 c1 a2 c2 0 w.heap.size x _ hf.out (GX.out.keep B0.out).1 (GX.out.keep B0.out).2.1 (GX.out.keep B0.out).2.2 B0.out.size).mono ?_
 rintro e w1 ⟨n0A, n1A, n2A, rfl, q0A, q1A, q2A, hb⟩
 have QA : Hid (PM true w1 w0.heap.size w1.heap.size n0A n1A n2A x) := ⟨q0A, q1A, q2A⟩
 have SA := hide hb.size
 have B1 := hide (B0.out.trans (hb.mono B0.out.size))
 have R1 := hide (R0.out.below hb R0.out.lt)
 clear hb q0A q1A q2A kc0 kc1 kc2 R0 B0
 go_wp2_with fail
 refine (HSp.out n0A n1A n2A w0.heap.size w1.heap.size w1 QA.out SA.out (Nat.le_refl _)).mono ?_
 rintro e w2 ⟨rfl, hb⟩
 have B2 := hide (B1.out.trans (hb.mono B1.out.size))
 have R2 := hide (R1.out.below hb R1.out.lt)
 clear hb R1 B1 QA SA
 go_upto_region 6 with (fail)
 obtain ⟨eb, heb⟩ : ∃ eb, eb = w2.heap.size := ⟨_, rfl⟩
 obtain ⟨u2, hu2⟩ : ∃ u2, u2 = w2.alloc (.cells #[.int .i64 q1, .int .i64 q2, .int .i64 q3] 55) := ⟨_, rfl⟩
 have hbu : Below w2.heap.size w2 u2 := by rw [hu2]; exact (Below.refl _ _).alloc (Nat.le_refl _) _
 have EU : Hid (Rec u2 eb 55 [.int .i64 q1, .int .i64 q2, .int .i64 q3]) := by show Rec _ _ _ _; rw [hu2]; exact Rec.new' _ _ _ _ heb
 have BU := hide (B2.out.trans (hbu.mono B2.out.size))
 have RU := hide (R2.out.below hbu R2.out.lt)
 rw [← hu2, ← heb]
 clear hbu hu2 heb R2 B2
 have kc0 := RU.out.cell (o := 0) rfl
 have kc1 := RU.out.cell (o := 1) rfl
 have kc2 := RU.out.cell (o := 2) rfl
 go_wp2_with fail
 refine (toProg_any a0 c0 a1 c1 a2 c2 0 w.heap.size x _ hf.out (GX.out.keep BU.out).1 (GX.out.keep BU.out).2.1 (GX.out.keep BU.out).2.2 BU.out.size).mono ?_
 rintro e w3 ⟨n0B, n1B, n2B, rfl, q0B, q1B, q2B, hb⟩
 have SB := hide hb.size
 have B3 := hide (BU.out.trans (hb.mono BU.out.size))
 have R3 := hide (RU.out.below hb RU.out.lt)
 have E3 := hide (EU.out.below hb EU.out.lt)
 obtain ⟨xb, hxb⟩ : ∃ xb, xb = w3.heap.size := ⟨_, rfl⟩
 obtain ⟨w4, hw4⟩ : ∃ w4, w4 = w3.alloc (.cells #[.slice n0B x.types.length x.types.length, .slice n1B x.glob.length x.glob.length, .slice n2B x.funs.length x.funs.length] 37) := ⟨_, rfl⟩
 have hb4 : Below w3.heap.size w3 w4 := by rw [hw4]; exact (Below.refl _ _).alloc (Nat.le_refl _) _
 have P4 : Hid (Rec w4 xb 37 [.slice n0B x.types.length x.types.length, .slice n1B x.glob.length x.glob.length, .slice n2B x.funs.length x.funs.length]) := by show Rec _ _ _ _; rw [hw4]; exact Rec.new' _ _ _ _ hxb
 have S4 := hide hb4.size
 have B4 := hide (B3.out.trans (hb4.mono B3.out.size))
 have R4 := hide (R3.out.below hb4 R3.out.lt)
 have E4 := hide (E3.out.below hb4 E3.out.lt)
 have QB : Hid (PM true w4 u2.heap.size w3.heap.size n0B n1B n2B x) := PM.keep (w := w3) ⟨q0B, q1B, q2B⟩ hb4
 clear hb hb4 q0B q1B q2B kc0 kc1 kc2 RU R3 BU B3 EU E3
 go_upto_region 7 with (fail)
 rw [← hw4, ← hxb]
 clear hw4 hxb
 have kp0 := P4.out.cell (o := 0) rfl
 have kp1 := P4.out.cell (o := 1) rfl
 have kp2 := P4.out.cell (o := 2) rfl
 go_wp2_with fail
 refine (HIm.out n0B n1B n2B u2.heap.size w3.heap.size w4 QB.out SB.out S4.out (pow10_keep HP.out B4.out) (errT_keep HE.out B4.out)).mono ?_
 rintro e v5 ⟨rfl, hb⟩
 have T5 := hide (Nat.le_trans S4.out hb.size)
 have BV := hide (B4.out.trans (hb.mono B4.out.size))
 have RV := hide (R4.out.below hb R4.out.lt)
 have PV := hide (P4.out.below hb P4.out.lt)
 have EV := hide (E4.out.below hb E4.out.lt)
 have QV := hide (QB.out.keep (hb.mono S4.out))
 clear hb kp0 kp1 kp2 R4 B4 P4 QB S4 E4
 go_upto_region 8 with (fail)
 obtain ⟨fb, hfb⟩ : ∃ fb, fb = v5.heap.size := ⟨_, rfl⟩
 obtain ⟨u5, hu5⟩ : ∃ u5, u5 = v5.alloc (.cells #[.int .i64 q1, .int .i64 q2, .int .i64 q3] 55) := ⟨_, rfl⟩
 have hbu : Below v5.heap.size v5 u5 := by rw [hu5]; exact (Below.refl _ _).alloc (Nat.le_refl _) _
 have FU : Hid (Rec u5 fb 55 [.int .i64 q1, .int .i64 q2, .int .i64 q3]) := by show Rec _ _ _ _; rw [hu5]; exact Rec.new' _ _ _ _ hfb
 have EU := hide (EV.out.below hbu EV.out.lt)
 have TU := hide (Nat.le_trans T5.out hbu.size)
 have BU := hide (BV.out.trans (hbu.mono BV.out.size))
 have RU := hide (RV.out.below hbu RV.out.lt)
 have PU := hide (PV.out.below hbu PV.out.lt)
 have QU := hide (QV.out.keep (hbu.mono T5.out))
 rw [← hu5, ← hfb]
 clear hbu hu5 hfb EV T5 BV RV PV QV
 have e0 := EU.out.cell (o := 0) rfl
 have e1 := EU.out.cell (o := 1) rfl
 have e2 := EU.out.cell (o := 2) rfl
 have f0 := FU.out.cell (o := 0) rfl
 have f1 := FU.out.cell (o := 1) rfl
 have f2 := FU.out.cell (o := 2) rfl
 go_wp2_with fail
 refine (eqFault_same q1 q2 q3 u5).mono ?_
 rintro e w5 ⟨rfl, hb⟩
 have S5 := hide (Nat.le_trans TU.out hb.size)
 have B5 := hide (BU.out.trans (hb.mono BU.out.size))
 have R5 := hide (RU.out.below hb RU.out.lt)
 have P5 := hide (PU.out.below hb PU.out.lt)
 have Q5 := hide (QU.out.keep (hb.mono TU.out))
 clear hb e0 e1 e2 f0 f1 f2 RU BU PU QU TU EU FU
 have kc0 := R5.out.cell (o := 0) rfl
 have kc1 := R5.out.cell (o := 1) rfl
 have kc2 := R5.out.cell (o := 2) rfl
 have kp0 := P5.out.cell (o := 0) rfl
 have kp1 := P5.out.cell (o := 1) rfl
 have kp2 := P5.out.cell (o := 2) rfl
 go_wp2_with fail
 go_region_held3 (fun w' => w'.cell? ⟨w.heap.size, 0, none⟩ = some (.slice a0 x.types.length c0) ∧ w'.cell? ⟨w.heap.size, 1, none⟩ = some (.slice a1 x.glob.length c1) ∧ w'.cell? ⟨w.heap.size, 2, none⟩ = some (.slice a2 x.funs.length c2) ∧ w'.cell? ⟨xb, 0, none⟩ = some (.slice n0B x.types.length x.types.length) ∧ w'.cell? ⟨xb, 1, none⟩ = some (.slice n1B x.glob.length x.glob.length) ∧ w'.cell? ⟨xb, 2, none⟩ = some (.slice n2B x.funs.length x.funs.length)) (go_keep) ((first | (go_at_call 10; refine (toProg_any a0 c0 a1 c1 a2 c2 0 w.heap.size x _ hf.out (GX.out.keep B5.out.drew).1 (GX.out.keep B5.out.drew).2.1 (GX.out.keep B5.out.drew).2.2 (by have := B5.out.drew.size; exact this)).mono ?_; rintro e w7 ⟨n0F, n1F, n2F, rfl, q0, q1, q2, hb7⟩; have QF : Hid (PM true w7 w5.heap.size w7.heap.size n0F n1F n2F x) := ⟨q0, q1, q2⟩; have B7 := hide (B5.out.drew.trans (hb7.mono B5.out.drew.size)); have R7 : Hid (Rec w7 w.heap.size 26 [.slice a0 x.types.length c0, .slice a1 x.glob.length c1, .slice a2 x.funs.length c2]) := Rec.below (w := w5.drew) R5.out hb7 R5.out.lt; have P7 : Hid (Rec w7 xb 37 [.slice n0B x.types.length x.types.length, .slice n1B x.glob.length x.glob.length, .slice n2B x.funs.length x.funs.length]) := Rec.below (w := w5.drew) P5.out hb7 P5.out.lt; have HB7 : Hid (Below w5.heap.size w5 w7) := ⟨hb7.os, hb7.tape, hb7.output, hb7.size, hb7.block⟩; clear hb7 q0 q1 q2; have Q7 := hide (Q5.out.keep (HB7.out.mono S5.out)); have kc0 := R7.out.cell (o := 0) rfl; have kp0 := P7.out.cell (o := 0) rfl; have kc1 := R7.out.cell (o := 1) rfl; have kp1 := P7.out.cell (o := 1) rfl; have kc2 := R7.out.cell (o := 2) rfl; have kp2 := P7.out.cell (o := 2) rfl) | (go_at_call 15; refine (eqProg_g n0B n0F n1B n1F n2B n2F _ _ _ _ _ _ u2.heap.size w3.heap.size w5.heap.size w7.heap.size x w7 hf.out Q7.out.1 Q7.out.2.1 Q7.out.2.2 QF.out.1 QF.out.2.1 QF.out.2.2 (Nat.le_trans S5.out HB7.out.size) (Nat.le_refl _)).mono ?_; rintro e w8 ⟨rfl, hb8⟩; have B8 := hide (B7.out.trans (hb8.mono B7.out.size)); have R8 := hide (R7.out.below hb8 R7.out.lt); have P8 := hide (P7.out.below hb8 P7.out.lt); clear hb8; have kc0 := R8.out.cell (o := 0) rfl; have kp0 := P8.out.cell (o := 0) rfl; have kc1 := R8.out.cell (o := 1) rfl; have kp1 := P8.out.cell (o := 1) rfl; have kc2 := R8.out.cell (o := 2) rfl; have kp2 := P8.out.cell (o := 2) rfl)))
 go_wp2_with fail
 go_ret
 exact ⟨rfl, B8.out⟩
end Go.Proofs.YtpaneomkphjpcaaGreatDoor
