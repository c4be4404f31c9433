/- The law FnExactCheckIns, walked. Written by tools/made/lawcheckins.py. -/
import Derived.Test.YtpaneomkphjpcaaGreatDoorCkInsS
import Derived.Test.YtpaneomkphjpcaaGreatDoorCkInsI
import Derived.Test.YtpaneomkphjpcaaGreatDoorPcMark
import Derived.Test.YtpaneomkphjpcaaGreatDoorPaGen
namespace Go.Proofs.YtpaneomkphjpcaaGreatDoor
open Go.ChangeShapes Go.WideShapes Go.ChangeAt Go.RowKit Go.Joins Go.Deep
set_option linter.unusedVariables false
set_option linter.unusedSimpArgs false

theorem ckDo_len (p : GProg) (k : Nat) (st : List Fd) (i : GIns) : (ckDo p k st i).1.length ≤ 8 := by
 unfold ckDo
 split
 ·simp
 split
 ·simp
 split
 ·simp
 split
 ·simp
 split
 ·simp
 ·rename_i h1 h2 h3 h4 h5
  simp only [List.length_append, List.length_take]
  omega
theorem ckInsF_len (p : GProg) (f : Int) (st : List Fd) (i : GIns) : (ckInsF p f st i).1.length ≤ 8 := by
 unfold ckInsF
 split
 ·exact ckDo_len _ _ _ _
 ·simp
theorem eqFieldB_g {md md' : Bool} (a a' : Option Addr) (cap cap' lo hi lo' hi' : Nat) (xs : List Fd) (w : World) (hn : xs.length ≤ 4398046511104) (hx : FieldsM md w lo hi a xs) (hy : FieldsM md' w lo' hi' a' xs) (hh : hi ≤ w.heap.size) (hh' : hi' ≤ w.heap.size) :
  Calls Tryz.prog 14 #[.slice a xs.length cap, .slice a' xs.length cap'] w fun e w' => e = .returned (.bool true) ∧ Below w.heap.size w w' :=
 eqFieldS_same a a' cap cap' lo hi lo' hi' xs w (Nat.le_trans hn (by decide)) hx.1 hy.1 hh hh'
theorem Below.dr {w w' : World} (h : Below w.drew.heap.size w.drew w') : Below w.heap.size w w' := ⟨h.os, h.tape, h.output, h.size, h.block⟩

set_option maxHeartbeats 8000000 in
set_option maxRecDepth 100000 in
theorem fnExactCheckIns_walk0 (a0 a1 a2 sa : Option Addr) (c0 c1 c2 sc : Nat) (x : GProg) (f : Int) (st : List Fd) (iop ia ib : Int) (w : World) (hl : ProgB 9223372036854775807 x) (hls : FieldsB 9223372036854775807 st) (hx : PM false w 0 w.heap.size a0 a1 a2 x) (hs : FieldsM false w 0 w.heap.size sa st) (hp : pow10 w) (he : errT w) :
  Calls Tryz.prog 3 #[.agg #[.slice a0 x.types.length c0, .slice a1 x.glob.length c1, .slice a2 x.funs.length c2], .int .i64 f, .slice sa st.length sc, .agg #[.int .i64 iop, .int .i64 ia, .int .i64 ib]] w fun e w' => e = .returned (.bool true) ∧ Below w.heap.size w w' := by
 have HLX := hide hl
 have HLS := hide hls
 have GX := hide hx
 have GS := hide hs
 have HP := hide hp
 have HE := hide he
 clear hl hls hx hs hp he
 obtain ⟨w0, hw0⟩ : ∃ w0, w0 = ((w.alloc (.cells #[.slice a0 x.types.length c0, .slice a1 x.glob.length c1, .slice a2 x.funs.length c2] 26)).alloc (.cells #[.int .i64 iop, .int .i64 ia, .int .i64 ib] 28)) := ⟨_, rfl⟩
 have B0 : Hid (Below w.heap.size w w0) := by show Below _ _ _; rw [hw0]; exact ((Below.refl _ _).alloc (Nat.le_refl _) _).alloc (by simp) _
 have RP0 : Hid (Rec w0 w.heap.size 26 [.slice a0 x.types.length c0, .slice a1 x.glob.length c1, .slice a2 x.funs.length c2]) := by show Rec _ _ _ _; rw [hw0]; exact (Rec.new _ _ _).alloc _
 have RI0 : Hid (Rec w0 (w.heap.size + 1) 28 [.int .i64 iop, .int .i64 ia, .int .i64 ib]) := by show Rec _ _ _ _; rw [hw0]; exact Rec.new' _ _ _ _ (by simp)
 have Z0 : Hid (w.heap.size + 1 + 1 ≤ w0.heap.size) := by show _ ≤ _; rw [hw0]; simp
 have kc0 := RP0.out.cell (o := 0) rfl
 have kc1 := RP0.out.cell (o := 1) rfl
 have kc2 := RP0.out.cell (o := 2) rfl
 go_enter Tryz.func3, Tryz.ntmps3
 go_upto_region 2 with (fail)
 rw [← hw0]
 clear hw0
 go_wp2_with fail
 refine (szProg_any a0 a1 a2 c0 c1 c2 0 w.heap.size x 1048576 _ HLX.out (GX.out.keep B0.out).1 (GX.out.keep B0.out).2.1 (GX.out.keep B0.out).2.2 B0.out.size (by omega) (by omega)).mono ?_
 rintro e w1 ⟨r, rfl, r1, r2, r3, hb⟩
 clear kc0 kc1 kc2
 have B1 := hide (B0.out.trans (hb.mono B0.out.size))
 have RP_1 := hide (RP0.out.below hb RP0.out.lt)
 have RI_1 := hide (RI0.out.below hb RI0.out.lt)
 have Z1 := hide (And.intro Z0.out (show w0.heap.size ≤ w1.heap.size from hb.size))
 clear hb B0 RP0 RI0 Z0
 by_cases hr : r < 0
 ·go_wp2_with fail
  go_ret
  exact ⟨rfl, B1.out⟩
 have hf := hide (r3 (by omega))
 clear r3
 go_wp2_with fail
 refine (szFieldS_g sa sc 0 w.heap.size st r _ HLS.out (GS.out.keep B1.out) B1.out.size (by omega) (by omega)).mono ?_
 rintro e w2 ⟨r8, rfl, r4, r5, r6, hb⟩
 have B2 := hide (B1.out.trans (hb.mono B1.out.size))
 have RP_2 := hide (RP_1.out.below hb RP_1.out.lt)
 have RI_2 := hide (RI_1.out.below hb RI_1.out.lt)
 have Z2 := hide (And.intro Z1.out (show w1.heap.size ≤ w2.heap.size from hb.size))
 clear hb B1 RP_1 RI_1 Z1
 by_cases hr8 : r8 < 0
 ·go_wp2_with fail
  go_ret
  exact ⟨rfl, B2.out⟩
 have hfs := hide (r6 (by omega))
 clear r6
 have HSp : Hid (∀ (n0 n1 n2 ns : Option Addr) (lo hi lo1 hi1 : Nat) (W : World), PM true W lo hi n0 n1 n2 x → lo ≤ hi → hi ≤ W.heap.size → FieldsM true W lo1 hi1 ns st → hi1 ≤ W.heap.size → Calls Tryz.prog 9 #[.agg #[.slice n0 x.types.length x.types.length, .slice n1 x.glob.length x.glob.length, .slice n2 x.funs.length x.funs.length], .int .i64 f, .slice ns st.length st.length, .agg #[.int .i64 iop, .int .i64 ia, .int .i64 ib]] W fun e w' => InsPost W (ckInsF x f st ⟨iop, ia, ib⟩) e w') := fun n0 n1 n2 ns lo hi lo1 hi1 W q hl hh qs hh1 => specCheckIns_any n0 n1 n2 ns _ _ _ _ lo hi lo1 hi1 x f st ⟨iop, ia, ib⟩ W hf.out q (Nat.le_refl _) hl hh qs.1 hh1 hfs.out (Nat.le_refl _)
 have HIm : Hid (∀ (n0 n1 n2 ns : Option Addr) (lo hi lo1 hi1 : Nat) (W : World), PM true W lo hi n0 n1 n2 x → lo ≤ hi → hi ≤ W.heap.size → FieldsM true W lo1 hi1 ns st → hi1 ≤ W.heap.size → pow10 W → errT W → Calls Tryz.prog 13 #[.agg #[.slice n0 x.types.length x.types.length, .slice n1 x.glob.length x.glob.length, .slice n2 x.funs.length x.funs.length], .int .i64 f, .slice ns st.length st.length, .agg #[.int .i64 iop, .int .i64 ia, .int .i64 ib]] W fun e w' => InsPost W (ckInsF x f st ⟨iop, ia, ib⟩) e w') := fun n0 n1 n2 ns lo hi lo1 hi1 W q hl hh qs hh1 hp he => implCheckIns_any n0 n1 n2 ns _ _ _ _ lo hi lo1 hi1 x f st ⟨iop, ia, ib⟩ W hf.out q hl hh hp he qs.1 hh1 hfs.out (Nat.le_refl _)
 have HBd : Hid ((ckInsF x f st ⟨iop, ia, ib⟩).1.length ≤ 4398046511104) := Nat.le_trans (ckInsF_len _ _ _ _) (by decide)
 generalize (ckInsF x f st ⟨iop, ia, ib⟩) = rr at *
 obtain ⟨xs, rc⟩ := rr
 simp only at HBd
 unfold InsPost at HSp HIm
 simp only at HSp HIm
 go_upto_region 8 with (fail)
 have kc0 := RP_2.out.cell (o := 0) rfl
 have kc1 := RP_2.out.cell (o := 1) rfl
 have kc2 := RP_2.out.cell (o := 2) rfl
 have ki0 := RI_2.out.cell (o := 0) rfl
 have ki1 := RI_2.out.cell (o := 1) rfl
 have ki2 := RI_2.out.cell (o := 2) rfl
 go_region_held3 (fun w' => w'.cell? ⟨w.heap.size, 0, none⟩ = some (.slice a0 x.types.length c0) ∧ w'.cell? ⟨w.heap.size, 1, none⟩ = some (.slice a1 x.glob.length c1) ∧ w'.cell? ⟨w.heap.size, 2, none⟩ = some (.slice a2 x.funs.length c2) ∧ w'.cell? ⟨w.heap.size + 1, 0, none⟩ = some (.int .i64 iop) ∧ w'.cell? ⟨w.heap.size + 1, 1, none⟩ = some (.int .i64 ia) ∧ w'.cell? ⟨w.heap.size + 1, 2, none⟩ = some (.int .i64 ib)) (go_keep) ((first | (go_at_call 9; refine (HSp.out n0A n1A n2A nsA w2.heap.size w3.heap.size w3.heap.size w4.heap.size _ QP_5.out (by have z := Z5.out; omega) (by have z := Z5.out; omega) QS_5.out (by have z := Z5.out; omega)).mono ?_; rintro e w6 ⟨atA, ctA, rfl, hT, hb⟩; have B6 := hide (B5.out.trans (hb.mono B5.out.size)); have RP_6 := hide (RP_5.out.below hb RP_5.out.lt); have RI_6 := hide (RI_5.out.below hb RI_5.out.lt); have Z6 := hide (And.intro Z5.out (show w5.heap.size ≤ w6.heap.size from hb.size)); clear hb B5 RP_5 RI_5 Z5; have TA := hide hT; clear hT; have kc0 := RP_6.out.cell (o := 0) rfl; have kc1 := RP_6.out.cell (o := 1) rfl; have kc2 := RP_6.out.cell (o := 2) rfl; have ki0 := RI_6.out.cell (o := 0) rfl; have ki1 := RI_6.out.cell (o := 1) rfl; have ki2 := RI_6.out.cell (o := 2) rfl) | (go_at_call 12; refine (toIns_any ⟨iop, ia, ib⟩ _).mono ?_; rintro e w5 ⟨rfl, hb⟩; have B5 := hide (B4.out.trans (hb.mono B4.out.size)); have RP_5 := hide (RP_4.out.below hb RP_4.out.lt); have RI_5 := hide (RI_4.out.below hb RI_4.out.lt); have QP_5 := hide (QP_4.out.keep (hb.mono (by have z := Z4.out; omega))); have QS_5 := hide (QSA.out.keep (hb.mono (by have z := Z4.out; omega))); have Z5 := hide (And.intro Z4.out (show w4.heap.size ≤ w5.heap.size from hb.size)); clear hb B4 RP_4 RI_4 QP_4 QSA Z4; have kc0 := RP_5.out.cell (o := 0) rfl; have kc1 := RP_5.out.cell (o := 1) rfl; have kc2 := RP_5.out.cell (o := 2) rfl; have ki0 := RI_5.out.cell (o := 0) rfl; have ki1 := RI_5.out.cell (o := 1) rfl; have ki2 := RI_5.out.cell (o := 2) rfl) | (go_at_call 11; refine (toFieldS_g sa sc 0 w.heap.size st _ hfs.out (GS.out.keep B3.out) B3.out.size).mono ?_; rintro e w4 ⟨nsA, rfl, qs, hb⟩; have B4 := hide (B3.out.trans (hb.mono B3.out.size)); have RP_4 := hide (RP_3.out.below hb RP_3.out.lt); have RI_4 := hide (RI_3.out.below hb RI_3.out.lt); have QP_4 := hide (QPA.out.keep (hb.mono (by have z := Z3.out; omega))); have Z4 := hide (And.intro Z3.out (show w3.heap.size ≤ w4.heap.size from hb.size)); clear hb B3 RP_3 RI_3 QPA Z3; have QSA := hide qs; clear qs; have kc0 := RP_4.out.cell (o := 0) rfl; have kc1 := RP_4.out.cell (o := 1) rfl; have kc2 := RP_4.out.cell (o := 2) rfl; have ki0 := RI_4.out.cell (o := 0) rfl; have ki1 := RI_4.out.cell (o := 1) rfl; have ki2 := RI_4.out.cell (o := 2) rfl) | (go_at_call 10; refine (toProg_any a0 c0 a1 c1 a2 c2 0 w.heap.size x _ hf.out (GX.out.keep B2.out.drew).1 (GX.out.keep B2.out.drew).2.1 (GX.out.keep B2.out.drew).2.2 (by have := B2.out.drew.size; exact this)).mono ?_; rintro e w3 ⟨n0A, n1A, n2A, rfl, q0, q1, q2, hbx⟩; have hb := Below.dr hbx; clear hbx; have B3 := hide (B2.out.trans (hb.mono B2.out.size)); have RP_3 := hide (RP_2.out.below hb RP_2.out.lt); have RI_3 := hide (RI_2.out.below hb RI_2.out.lt); have Z3 := hide (And.intro Z2.out (show w2.heap.size ≤ w3.heap.size from hb.size)); clear hb B2 RP_2 RI_2 Z2; have QPA := hide (PM.wide (md := true) (w := w3) (lo := w2.heap.size) (hi := w3.heap.size) (lo' := w2.heap.size) (hi' := w3.heap.size) (x := x) ⟨q0, q1, q2⟩ (Nat.le_refl _) (Nat.le_refl _)); clear q0 q1 q2; have kc0 := RP_3.out.cell (o := 0) rfl; have kc1 := RP_3.out.cell (o := 1) rfl; have kc2 := RP_3.out.cell (o := 2) rfl; have ki0 := RI_3.out.cell (o := 0) rfl; have ki1 := RI_3.out.cell (o := 1) rfl; have ki2 := RI_3.out.cell (o := 2) rfl)))
 rename_i hHeld
 clear hHeld
 clear kc0 kc1 kc2 ki0 ki1 ki2
 have kc0 := RP_6.out.cell (o := 0) rfl
 have kc1 := RP_6.out.cell (o := 1) rfl
 have kc2 := RP_6.out.cell (o := 2) rfl
 go_wp2_with fail
 refine (toProg_any a0 c0 a1 c1 a2 c2 0 w.heap.size x _ hf.out (GX.out.keep B6.out).1 (GX.out.keep B6.out).2.1 (GX.out.keep B6.out).2.2 B6.out.size).mono ?_
 rintro e w7 ⟨n0B, n1B, n2B, rfl, q0, q1, q2, hb⟩
 clear kc0 kc1 kc2
 have B7 := hide (B6.out.trans (hb.mono B6.out.size))
 have RP_7 := hide (RP_6.out.below hb RP_6.out.lt)
 have RI_7 := hide (RI_6.out.below hb RI_6.out.lt)
 have T_7 := hide (TA.out.keep (hb.mono (by have z := Z6.out; omega)))
 have Z7 := hide (And.intro Z6.out (show w6.heap.size ≤ w7.heap.size from hb.size))
 clear hb B6 RP_6 RI_6 TA Z6
 have QX0 : Hid (PM true w7 w6.heap.size w7.heap.size n0B n1B n2B x) := ⟨q0, q1, q2⟩
 clear q0 q1 q2
 obtain ⟨xb, hxb⟩ : ∃ xb, xb = w7.heap.size := ⟨_, rfl⟩
 obtain ⟨w8, hwb⟩ : ∃ wb, wb = w7.alloc (.cells #[.slice n0B x.types.length x.types.length, .slice n1B x.glob.length x.glob.length, .slice n2B x.funs.length x.funs.length] 37) := ⟨_, rfl⟩
 have hb : Below w7.heap.size w7 w8 := by rw [hwb]; exact (Below.refl _ _).alloc (Nat.le_refl _) _
 have PX0 : Hid (Rec w8 xb 37 [.slice n0B x.types.length x.types.length, .slice n1B x.glob.length x.glob.length, .slice n2B x.funs.length x.funs.length]) := by show Rec _ _ _ _; rw [hwb]; exact Rec.new' _ _ _ _ hxb
 have SX : Hid (w8.heap.size = w7.heap.size + 1) := by show _ = _; rw [hwb]; simp
 have SXB : Hid (xb = w7.heap.size) := hxb
 have B8 := hide (B7.out.trans (hb.mono B7.out.size))
 have RP_8 := hide (RP_7.out.below hb RP_7.out.lt)
 have RI_8 := hide (RI_7.out.below hb RI_7.out.lt)
 have T_8 := hide (T_7.out.keep (hb.mono (by have z := Z7.out; omega)))
 have QX_8 := hide (QX0.out.keep (hb.mono (by have z := Z7.out; omega)))
 have Z8 := hide (And.intro Z7.out (show w7.heap.size ≤ w8.heap.size from hb.size))
 clear hb B7 RP_7 RI_7 T_7 QX0 Z7
 have ZX := hide (And.intro Z8.out (And.intro SX.out SXB.out))
 clear SX SXB Z8
 go_upto_region 10 with (fail)
 rw [← hwb, ← hxb]
 clear hwb hxb
 go_wp2_with fail
 refine (toFieldS_g sa sc 0 w.heap.size st _ hfs.out (GS.out.keep B8.out) B8.out.size).mono ?_
 rintro e w9 ⟨nsB, rfl, qs, hb⟩
 have B9 := hide (B8.out.trans (hb.mono B8.out.size))
 have RP_9 := hide (RP_8.out.below hb RP_8.out.lt)
 have RI_9 := hide (RI_8.out.below hb RI_8.out.lt)
 have T_9 := hide (T_8.out.keep (hb.mono (by have z := ZX.out; omega)))
 have QX_9 := hide (QX_8.out.keep (hb.mono (by have z := ZX.out; omega)))
 have PX_9 := hide (PX0.out.below hb PX0.out.lt)
 have Z9 := hide (And.intro ZX.out (show w8.heap.size ≤ w9.heap.size from hb.size))
 clear hb B8 RP_8 RI_8 T_8 QX_8 PX0 ZX
 have QF0 := hide qs
 clear qs
 go_upto_region 11 with (fail)
 have kp0 := PX_9.out.cell (o := 0) rfl
 have kp1 := PX_9.out.cell (o := 1) rfl
 have kp2 := PX_9.out.cell (o := 2) rfl
 have ki0 := RI_9.out.cell (o := 0) rfl
 have ki1 := RI_9.out.cell (o := 1) rfl
 have ki2 := RI_9.out.cell (o := 2) rfl
 go_region_held3 (fun w' => w'.cell? ⟨xb, 0, none⟩ = some (.slice n0B x.types.length x.types.length) ∧ w'.cell? ⟨xb, 1, none⟩ = some (.slice n1B x.glob.length x.glob.length) ∧ w'.cell? ⟨xb, 2, none⟩ = some (.slice n2B x.funs.length x.funs.length) ∧ w'.cell? ⟨w.heap.size + 1, 0, none⟩ = some (.int .i64 iop) ∧ w'.cell? ⟨w.heap.size + 1, 1, none⟩ = some (.int .i64 ia) ∧ w'.cell? ⟨w.heap.size + 1, 2, none⟩ = some (.int .i64 ib)) (go_keep) ((first | (go_at_call 13; refine (HIm.out n0B n1B n2B nsB w6.heap.size w7.heap.size w8.heap.size w9.heap.size _ QX_10.out (by have z := Z10.out; omega) (by have z := Z10.out; omega) QF_10.out (by have z := Z10.out; omega) (pow10_keep HP.out B10.out) (errT_keep HE.out B10.out)).mono ?_; rintro e w11 ⟨atG, ctG, rfl, hT, hb⟩; have B11 := hide (B10.out.trans (hb.mono B10.out.size)); have RP_11 := hide (RP_10.out.below hb RP_10.out.lt); have RI_11 := hide (RI_10.out.below hb RI_10.out.lt); have T_11 := hide (T_10.out.keep (hb.mono (by have z := Z10.out; omega))); have QX_11 := hide (QX_10.out.keep (hb.mono (by have z := Z10.out; omega))); have PX_11 := hide (PX_10.out.below hb PX_10.out.lt); have QF_11 := hide (QF_10.out.keep (hb.mono (by have z := Z10.out; omega))); have Z11 := hide (And.intro Z10.out (show w10.heap.size ≤ w11.heap.size from hb.size)); clear hb B10 RP_10 RI_10 T_10 QX_10 PX_10 QF_10 Z10; have GG0 := hide hT; clear hT; have kp0 := PX_11.out.cell (o := 0) rfl; have kp1 := PX_11.out.cell (o := 1) rfl; have kp2 := PX_11.out.cell (o := 2) rfl; have ki0 := RI_11.out.cell (o := 0) rfl; have ki1 := RI_11.out.cell (o := 1) rfl; have ki2 := RI_11.out.cell (o := 2) rfl) | (go_at_call 12; refine (toIns_any ⟨iop, ia, ib⟩ _).mono ?_; rintro e w10 ⟨rfl, hbx⟩; have hb := Below.dr hbx; clear hbx; have B10 := hide (B9.out.trans (hb.mono B9.out.size)); have RP_10 := hide (RP_9.out.below hb RP_9.out.lt); have RI_10 := hide (RI_9.out.below hb RI_9.out.lt); have T_10 := hide (T_9.out.keep (hb.mono (by have z := Z9.out; omega))); have QX_10 := hide (QX_9.out.keep (hb.mono (by have z := Z9.out; omega))); have PX_10 := hide (PX_9.out.below hb PX_9.out.lt); have QF_10 := hide (QF0.out.keep (hb.mono (by have z := Z9.out; omega))); have Z10 := hide (And.intro Z9.out (show w9.heap.size ≤ w10.heap.size from hb.size)); clear hb B9 RP_9 RI_9 T_9 QX_9 PX_9 QF0 Z9; have kp0 := PX_10.out.cell (o := 0) rfl; have kp1 := PX_10.out.cell (o := 1) rfl; have kp2 := PX_10.out.cell (o := 2) rfl; have ki0 := RI_10.out.cell (o := 0) rfl; have ki1 := RI_10.out.cell (o := 1) rfl; have ki2 := RI_10.out.cell (o := 2) rfl)))
 rename_i hHeld
 clear hHeld
 clear kp0 kp1 kp2
 clear ki0 ki1 ki2
 go_wp2_with fail
 refine (eqFieldB_g atG atA ctG ctA w10.heap.size w11.heap.size w5.heap.size w6.heap.size xs _ HBd.out GG0.out T_11.out (by have z := Z11.out; omega) (by have z := Z11.out; omega)).mono ?_
 rintro e w12 ⟨rfl, hb⟩
 have B12 := hide (B11.out.trans (hb.mono B11.out.size))
 have RP_12 := hide (RP_11.out.below hb RP_11.out.lt)
 have RI_12 := hide (RI_11.out.below hb RI_11.out.lt)
 have T_12 := hide (T_11.out.keep (hb.mono (by have z := Z11.out; omega)))
 have QX_12 := hide (QX_11.out.keep (hb.mono (by have z := Z11.out; omega)))
 have PX_12 := hide (PX_11.out.below hb PX_11.out.lt)
 have QF_12 := hide (QF_11.out.keep (hb.mono (by have z := Z11.out; omega)))
 have GG_12 := hide (GG0.out.keep (hb.mono (by have z := Z11.out; omega)))
 have Z12 := hide (And.intro Z11.out (show w11.heap.size ≤ w12.heap.size from hb.size))
 clear hb B11 RP_11 RI_11 T_11 QX_11 PX_11 QF_11 GG0 Z11
 go_upto_region 14 with (fail)
 have kc0 := RP_12.out.cell (o := 0) rfl
 have kc1 := RP_12.out.cell (o := 1) rfl
 have kc2 := RP_12.out.cell (o := 2) rfl
 have kp0 := PX_12.out.cell (o := 0) rfl
 have kp1 := PX_12.out.cell (o := 1) rfl
 have kp2 := PX_12.out.cell (o := 2) rfl
 go_region_held3 (fun w' => w'.cell? ⟨w.heap.size, 0, none⟩ = some (.slice a0 x.types.length c0) ∧ w'.cell? ⟨w.heap.size, 1, none⟩ = some (.slice a1 x.glob.length c1) ∧ w'.cell? ⟨w.heap.size, 2, none⟩ = some (.slice a2 x.funs.length c2) ∧ w'.cell? ⟨xb, 0, none⟩ = some (.slice n0B x.types.length x.types.length) ∧ w'.cell? ⟨xb, 1, none⟩ = some (.slice n1B x.glob.length x.glob.length) ∧ w'.cell? ⟨xb, 2, none⟩ = some (.slice n2B x.funs.length x.funs.length)) (go_keep) ((first | (go_at_call 15; refine (eqProg_g n0B n0F n1B n1F n2B n2F _ _ _ _ _ _ w6.heap.size w7.heap.size w12.heap.size w13.heap.size x _ hf.out QX_13.out.1 QX_13.out.2.1 QX_13.out.2.2 QY0.out QY1.out QY2.out (by have z := Z13.out; omega) (Nat.le_refl _)).mono ?_; rintro e w14 ⟨rfl, hb⟩; have B14 := hide (B13.out.trans (hb.mono B13.out.size)); have RP_14 := hide (RP_13.out.below hb RP_13.out.lt); have RI_14 := hide (RI_13.out.below hb RI_13.out.lt); have T_14 := hide (T_13.out.keep (hb.mono (by have z := Z13.out; omega))); have QX_14 := hide (QX_13.out.keep (hb.mono (by have z := Z13.out; omega))); have PX_14 := hide (PX_13.out.below hb PX_13.out.lt); have QF_14 := hide (QF_13.out.keep (hb.mono (by have z := Z13.out; omega))); have GG_14 := hide (GG_13.out.keep (hb.mono (by have z := Z13.out; omega))); have Z14 := hide (And.intro Z13.out (show w13.heap.size ≤ w14.heap.size from hb.size)); clear hb B13 RP_13 RI_13 T_13 QX_13 PX_13 QF_13 GG_13 Z13; clear QY0 QY1 QY2; have kc0 := RP_14.out.cell (o := 0) rfl; have kc1 := RP_14.out.cell (o := 1) rfl; have kc2 := RP_14.out.cell (o := 2) rfl; have kp0 := PX_14.out.cell (o := 0) rfl; have kp1 := PX_14.out.cell (o := 1) rfl; have kp2 := PX_14.out.cell (o := 2) rfl) | (go_at_call 10; refine (toProg_any a0 c0 a1 c1 a2 c2 0 w.heap.size x _ hf.out (GX.out.keep B12.out.drew).1 (GX.out.keep B12.out.drew).2.1 (GX.out.keep B12.out.drew).2.2 (by have := B12.out.drew.size; exact this)).mono ?_; rintro e w13 ⟨n0F, n1F, n2F, rfl, q0, q1, q2, hbx⟩; have hb := Below.dr hbx; clear hbx; have B13 := hide (B12.out.trans (hb.mono B12.out.size)); have RP_13 := hide (RP_12.out.below hb RP_12.out.lt); have RI_13 := hide (RI_12.out.below hb RI_12.out.lt); have T_13 := hide (T_12.out.keep (hb.mono (by have z := Z12.out; omega))); have QX_13 := hide (QX_12.out.keep (hb.mono (by have z := Z12.out; omega))); have PX_13 := hide (PX_12.out.below hb PX_12.out.lt); have QF_13 := hide (QF_12.out.keep (hb.mono (by have z := Z12.out; omega))); have GG_13 := hide (GG_12.out.keep (hb.mono (by have z := Z12.out; omega))); have Z13 := hide (And.intro Z12.out (show w12.heap.size ≤ w13.heap.size from hb.size)); clear hb B12 RP_12 RI_12 T_12 QX_12 PX_12 QF_12 GG_12 Z12; have QY0 := hide q0; have QY1 := hide q1; have QY2 := hide q2; clear q0 q1 q2; have kc0 := RP_13.out.cell (o := 0) rfl; have kc1 := RP_13.out.cell (o := 1) rfl; have kc2 := RP_13.out.cell (o := 2) rfl; have kp0 := PX_13.out.cell (o := 0) rfl; have kp1 := PX_13.out.cell (o := 1) rfl; have kp2 := PX_13.out.cell (o := 2) rfl)))
 rename_i hHeld
 clear hHeld
 clear kc0 kc1 kc2
 clear kp0 kp1 kp2
 go_wp2_with fail
 refine (toFieldS_g sa sc 0 w.heap.size st _ hfs.out (GS.out.keep B14.out) B14.out.size).mono ?_
 rintro e w15 ⟨nsD, rfl, qs, hb⟩
 have B15 := hide (B14.out.trans (hb.mono B14.out.size))
 have RP_15 := hide (RP_14.out.below hb RP_14.out.lt)
 have RI_15 := hide (RI_14.out.below hb RI_14.out.lt)
 have T_15 := hide (T_14.out.keep (hb.mono (by have z := Z14.out; omega)))
 have QX_15 := hide (QX_14.out.keep (hb.mono (by have z := Z14.out; omega)))
 have PX_15 := hide (PX_14.out.below hb PX_14.out.lt)
 have QF_15 := hide (QF_14.out.keep (hb.mono (by have z := Z14.out; omega)))
 have GG_15 := hide (GG_14.out.keep (hb.mono (by have z := Z14.out; omega)))
 have Z15 := hide (And.intro Z14.out (show w14.heap.size ≤ w15.heap.size from hb.size))
 clear hb B14 RP_14 RI_14 T_14 QX_14 PX_14 QF_14 GG_14 Z14
 have QD0 := hide qs
 clear qs
 go_wp2_with fail
 refine (eqFieldB_g nsB nsD _ _ w8.heap.size w9.heap.size w14.heap.size w15.heap.size st _ (by have := hfs.out; unfold FieldsB at this; omega) QF_15.out QD0.out (by have z := Z15.out; omega) (Nat.le_refl _)).mono ?_
 rintro e w16 ⟨rfl, hb⟩
 clear QD0
 have B16 := hide (B15.out.trans (hb.mono B15.out.size))
 have RP_16 := hide (RP_15.out.below hb RP_15.out.lt)
 have RI_16 := hide (RI_15.out.below hb RI_15.out.lt)
 have T_16 := hide (T_15.out.keep (hb.mono (by have z := Z15.out; omega)))
 have QX_16 := hide (QX_15.out.keep (hb.mono (by have z := Z15.out; omega)))
 have PX_16 := hide (PX_15.out.below hb PX_15.out.lt)
 have QF_16 := hide (QF_15.out.keep (hb.mono (by have z := Z15.out; omega)))
 have GG_16 := hide (GG_15.out.keep (hb.mono (by have z := Z15.out; omega)))
 have Z16 := hide (And.intro Z15.out (show w15.heap.size ≤ w16.heap.size from hb.size))
 clear hb B15 RP_15 RI_15 T_15 QX_15 PX_15 QF_15 GG_15 Z15
 have kp0 := PX_16.out.cell (o := 0) rfl
 have kp1 := PX_16.out.cell (o := 1) rfl
 have kp2 := PX_16.out.cell (o := 2) rfl
 go_wp2_with fail
 refine (markProg_m n0B _ n1B _ n2B _ w6.heap.size w7.heap.size x 1 _ hf.out (by omega) (by omega) QX_16.out.1.shapeG QX_16.out.2.1.shapeG QX_16.out.2.2.shapeG (by have z := Z16.out; omega)).mono ?_
 rintro e w17 ⟨r9, rfl, r91, r92, hm⟩
 clear kp0 kp1 kp2
 have B17 := hide (B16.out.trans (hm.below (by have z := Z16.out; omega) B16.out.size))
 have RP_17 := hide (RP_16.out.marks hm (.inl (by have z := Z16.out; omega)))
 have RI_17 := hide (RI_16.out.marks hm (.inl (by have z := Z16.out; omega)))
 have T_17 := hide (T_16.out.same (fun g h1 h2 => hm.out g (by have z := Z16.out; omega) (.inl (by have z := Z16.out; omega))) (Nat.le_refl _) (Nat.le_refl _))
 have QF_17 := hide (QF_16.out.same (fun g h1 h2 => hm.out g (by have z := Z16.out; omega) (.inr (by have z := Z16.out; omega))) (Nat.le_refl _) (Nat.le_refl _))
 have GG_17 := hide (GG_16.out.same (fun g h1 h2 => hm.out g (by have z := Z16.out; omega) (.inr (by have z := Z16.out; omega))) (Nat.le_refl _) (Nat.le_refl _))
 have Z17 := hide (And.intro Z16.out (show w16.heap.size ≤ w17.heap.size from hm.size))
 clear hm B16 RP_16 RI_16 T_16 QX_16 PX_16 QF_16 GG_16 Z16
 go_wp2_with fail
 refine (markFieldS_m nsB _ st.length w8.heap.size w9.heap.size r9 _ (by have := hfs.out; unfold FieldsB at this; omega) (by omega) (by omega) QF_17.out.shapeG).mono ?_
 rintro e w18 ⟨rfl, hm, hmk⟩
 clear hmk
 have B18 := hide (B17.out.trans (hm.below (by have z := Z17.out; omega) B17.out.size))
 have RP_18 := hide (RP_17.out.marks hm (.inl (by have z := Z17.out; omega)))
 have RI_18 := hide (RI_17.out.marks hm (.inl (by have z := Z17.out; omega)))
 have T_18 := hide (T_17.out.same (fun g h1 h2 => hm.out g (by have z := Z17.out; omega) (.inl (by have z := Z17.out; omega))) (Nat.le_refl _) (Nat.le_refl _))
 have GG_18 := hide (GG_17.out.same (fun g h1 h2 => hm.out g (by have z := Z17.out; omega) (.inr (by have z := Z17.out; omega))) (Nat.le_refl _) (Nat.le_refl _))
 have Z18 := hide (And.intro Z17.out (show w17.heap.size ≤ w18.heap.size from hm.size))
 clear hm B17 RP_17 RI_17 T_17 QF_17 GG_17 Z17
 have hst9 : st.length ≤ 1048576 := hfs.out
 obtain ⟨k9, hk9⟩ : ∃ k9 : Int, r9 + 3 * (st.length : Int) = k9 := ⟨_, rfl⟩
 rw [hk9]
 have d9 : decide (k9 < 0) = false := by simp; omega
 clear hk9
 go_wp2_with fail
 refine (eqFieldB_g atG atA ctG ctA w10.heap.size w11.heap.size w5.heap.size w6.heap.size xs _ HBd.out GG_18.out T_18.out (by have z := Z18.out; omega) (by have z := Z18.out; omega)).mono ?_
 rintro e w19 ⟨rfl, hb⟩
 have B19 := hide (B18.out.trans (hb.mono B18.out.size))
 have RP_19 := hide (RP_18.out.below hb RP_18.out.lt)
 have RI_19 := hide (RI_18.out.below hb RI_18.out.lt)
 have T_19 := hide (T_18.out.keep (hb.mono (by have z := Z18.out; omega)))
 have GG_19 := hide (GG_18.out.keep (hb.mono (by have z := Z18.out; omega)))
 have Z19 := hide (And.intro Z18.out (show w18.heap.size ≤ w19.heap.size from hb.size))
 clear hb B18 RP_18 RI_18 T_18 GG_18 Z18
 go_wp2_with fail
 refine (markFieldS_m atG ctG xs.length w10.heap.size w11.heap.size 1 _ HBd.out (by omega) (by omega) GG_19.out.shapeG).mono ?_
 rintro e w20 ⟨rfl, hm, hmk⟩
 have MK0 := hide hmk
 clear hmk
 have B20 := hide (B19.out.trans (hm.below (by have z := Z19.out; omega) B19.out.size))
 have RP_20 := hide (RP_19.out.marks hm (.inl (by have z := Z19.out; omega)))
 have RI_20 := hide (RI_19.out.marks hm (.inl (by have z := Z19.out; omega)))
 have T_20 := hide (T_19.out.same (fun g h1 h2 => hm.out g (by have z := Z19.out; omega) (.inl (by have z := Z19.out; omega))) (Nat.le_refl _) (Nat.le_refl _))
 have Z20 := hide (And.intro Z19.out (show w19.heap.size ≤ w20.heap.size from hm.size))
 clear hm B19 RP_19 RI_19 T_19 GG_19 Z19
 have hbd : xs.length ≤ 4398046511104 := HBd.out
 obtain ⟨tot, htot⟩ : ∃ t : Int, 1 + 3 * (xs.length : Int) = t := ⟨_, rfl⟩
 rw [htot]
 have HTt := hide htot
 have d11 : ¬ (tot < 0) := by omega
 clear htot
 go_wp2_with fail
 refine (heldFieldS_m atG ctG xs.length w10.heap.size w11.heap.size 1 _ HBd.out (by omega) (by omega) MK0.out).mono ?_
 rintro e w21 ⟨rfl, hb⟩
 rw [HTt.out]
 have B21 := hide (B20.out.trans (hb.mono B20.out.size))
 have RP_21 := hide (RP_20.out.below hb RP_20.out.lt)
 have RI_21 := hide (RI_20.out.below hb RI_20.out.lt)
 have T_21 := hide (T_20.out.keep (hb.mono (by have z := Z20.out; omega)))
 have MK_21 := hide (MK0.out.keep (hb.mono (by have z := Z20.out; omega)))
 have Z21 := hide (And.intro Z20.out (show w20.heap.size ≤ w21.heap.size from hb.size))
 clear hb B20 RP_20 RI_20 T_20 MK0 Z20
 go_upto_region 31 with (fail)
 have kc0 := RP_21.out.cell (o := 0) rfl
 have kc1 := RP_21.out.cell (o := 1) rfl
 have kc2 := RP_21.out.cell (o := 2) rfl
 have ki0 := RI_21.out.cell (o := 0) rfl
 have ki1 := RI_21.out.cell (o := 1) rfl
 have ki2 := RI_21.out.cell (o := 2) rfl
 go_region_held3 (fun w' => w'.cell? ⟨w.heap.size, 0, none⟩ = some (.slice a0 x.types.length c0) ∧ w'.cell? ⟨w.heap.size, 1, none⟩ = some (.slice a1 x.glob.length c1) ∧ w'.cell? ⟨w.heap.size, 2, none⟩ = some (.slice a2 x.funs.length c2) ∧ w'.cell? ⟨w.heap.size + 1, 0, none⟩ = some (.int .i64 iop) ∧ w'.cell? ⟨w.heap.size + 1, 1, none⟩ = some (.int .i64 ia) ∧ w'.cell? ⟨w.heap.size + 1, 2, none⟩ = some (.int .i64 ib)) (go_keep) ((first | (go_at_call 13; refine (HIm.out n0H n1H n2H nsH w21.heap.size w22.heap.size w22.heap.size w23.heap.size _ QP_24.out (by have z := Z24.out; omega) (by have z := Z24.out; omega) QS_24.out (by have z := Z24.out; omega) (pow10_keep HP.out B24.out) (errT_keep HE.out B24.out)).mono ?_; rintro e w25 ⟨atH, ctH, rfl, hT, hb⟩; have B25 := hide (B24.out.trans (hb.mono B24.out.size)); have RP_25 := hide (RP_24.out.below hb RP_24.out.lt); have RI_25 := hide (RI_24.out.below hb RI_24.out.lt); have T_25 := hide (T_24.out.keep (hb.mono (by have z := Z24.out; omega))); have MK_25 := hide (MK_24.out.keep (hb.mono (by have z := Z24.out; omega))); have Z25 := hide (And.intro Z24.out (show w24.heap.size ≤ w25.heap.size from hb.size)); clear hb B24 RP_24 RI_24 T_24 MK_24 Z24; have HHH := hide hT; clear hT; have kc0 := RP_25.out.cell (o := 0) rfl; have kc1 := RP_25.out.cell (o := 1) rfl; have kc2 := RP_25.out.cell (o := 2) rfl; have ki0 := RI_25.out.cell (o := 0) rfl; have ki1 := RI_25.out.cell (o := 1) rfl; have ki2 := RI_25.out.cell (o := 2) rfl) | (go_at_call 12; refine (toIns_any ⟨iop, ia, ib⟩ _).mono ?_; rintro e w24 ⟨rfl, hb⟩; have B24 := hide (B23.out.trans (hb.mono B23.out.size)); have RP_24 := hide (RP_23.out.below hb RP_23.out.lt); have RI_24 := hide (RI_23.out.below hb RI_23.out.lt); have T_24 := hide (T_23.out.keep (hb.mono (by have z := Z23.out; omega))); have MK_24 := hide (MK_23.out.keep (hb.mono (by have z := Z23.out; omega))); have QP_24 := hide (QP_23.out.keep (hb.mono (by have z := Z23.out; omega))); have QS_24 := hide (QSH.out.keep (hb.mono (by have z := Z23.out; omega))); have Z24 := hide (And.intro Z23.out (show w23.heap.size ≤ w24.heap.size from hb.size)); clear hb B23 RP_23 RI_23 T_23 MK_23 QP_23 QSH Z23; have kc0 := RP_24.out.cell (o := 0) rfl; have kc1 := RP_24.out.cell (o := 1) rfl; have kc2 := RP_24.out.cell (o := 2) rfl; have ki0 := RI_24.out.cell (o := 0) rfl; have ki1 := RI_24.out.cell (o := 1) rfl; have ki2 := RI_24.out.cell (o := 2) rfl) | (go_at_call 11; refine (toFieldS_g sa sc 0 w.heap.size st _ hfs.out (GS.out.keep B22.out) B22.out.size).mono ?_; rintro e w23 ⟨nsH, rfl, qs, hb⟩; have B23 := hide (B22.out.trans (hb.mono B22.out.size)); have RP_23 := hide (RP_22.out.below hb RP_22.out.lt); have RI_23 := hide (RI_22.out.below hb RI_22.out.lt); have T_23 := hide (T_22.out.keep (hb.mono (by have z := Z22.out; omega))); have MK_23 := hide (MK_22.out.keep (hb.mono (by have z := Z22.out; omega))); have QP_23 := hide (QPH.out.keep (hb.mono (by have z := Z22.out; omega))); have Z23 := hide (And.intro Z22.out (show w22.heap.size ≤ w23.heap.size from hb.size)); clear hb B22 RP_22 RI_22 T_22 MK_22 QPH Z22; have QSH := hide qs; clear qs; have kc0 := RP_23.out.cell (o := 0) rfl; have kc1 := RP_23.out.cell (o := 1) rfl; have kc2 := RP_23.out.cell (o := 2) rfl; have ki0 := RI_23.out.cell (o := 0) rfl; have ki1 := RI_23.out.cell (o := 1) rfl; have ki2 := RI_23.out.cell (o := 2) rfl) | (go_at_call 10; refine (toProg_any a0 c0 a1 c1 a2 c2 0 w.heap.size x _ hf.out (GX.out.keep B21.out.drew).1 (GX.out.keep B21.out.drew).2.1 (GX.out.keep B21.out.drew).2.2 (by have := B21.out.drew.size; exact this)).mono ?_; rintro e w22 ⟨n0H, n1H, n2H, rfl, q0, q1, q2, hbx⟩; have hb := Below.dr hbx; clear hbx; have B22 := hide (B21.out.trans (hb.mono B21.out.size)); have RP_22 := hide (RP_21.out.below hb RP_21.out.lt); have RI_22 := hide (RI_21.out.below hb RI_21.out.lt); have T_22 := hide (T_21.out.keep (hb.mono (by have z := Z21.out; omega))); have MK_22 := hide (MK_21.out.keep (hb.mono (by have z := Z21.out; omega))); have Z22 := hide (And.intro Z21.out (show w21.heap.size ≤ w22.heap.size from hb.size)); clear hb B21 RP_21 RI_21 T_21 MK_21 Z21; have QPH := hide (PM.wide (md := true) (w := w22) (lo := w21.heap.size) (hi := w22.heap.size) (lo' := w21.heap.size) (hi' := w22.heap.size) (x := x) ⟨q0, q1, q2⟩ (Nat.le_refl _) (Nat.le_refl _)); clear q0 q1 q2; have kc0 := RP_22.out.cell (o := 0) rfl; have kc1 := RP_22.out.cell (o := 1) rfl; have kc2 := RP_22.out.cell (o := 2) rfl; have ki0 := RI_22.out.cell (o := 0) rfl; have ki1 := RI_22.out.cell (o := 1) rfl; have ki2 := RI_22.out.cell (o := 2) rfl)))
 rename_i hHeld
 clear hHeld
 clear kc0 kc1 kc2 ki0 ki1 ki2
 go_wp2_with fail
 refine (eqFieldB_g atH atA ctH ctA w24.heap.size w25.heap.size w5.heap.size w6.heap.size xs _ HBd.out HHH.out T_25.out (by have z := Z25.out; omega) (by have z := Z25.out; omega)).mono ?_
 rintro e w26 ⟨rfl, hb⟩
 have B26 := hide (B25.out.trans (hb.mono B25.out.size))
 have RP_26 := hide (RP_25.out.below hb RP_25.out.lt)
 have RI_26 := hide (RI_25.out.below hb RI_25.out.lt)
 have T_26 := hide (T_25.out.keep (hb.mono (by have z := Z25.out; omega)))
 have MK_26 := hide (MK_25.out.keep (hb.mono (by have z := Z25.out; omega)))
 have HH_26 := hide (HHH.out.keep (hb.mono (by have z := Z25.out; omega)))
 have Z26 := hide (And.intro Z25.out (show w25.heap.size ≤ w26.heap.size from hb.size))
 clear hb B25 RP_25 RI_25 T_25 MK_25 HHH Z25
 go_wp2_with fail
 refine (heldFieldS_m atG ctG xs.length w10.heap.size w11.heap.size 1 _ HBd.out (by omega) (by omega) MK_26.out).mono ?_
 rintro e w27 ⟨rfl, hb⟩
 rw [HTt.out]
 have B27 := hide (B26.out.trans (hb.mono B26.out.size))
 have RP_27 := hide (RP_26.out.below hb RP_26.out.lt)
 have RI_27 := hide (RI_26.out.below hb RI_26.out.lt)
 have T_27 := hide (T_26.out.keep (hb.mono (by have z := Z26.out; omega)))
 have MK_27 := hide (MK_26.out.keep (hb.mono (by have z := Z26.out; omega)))
 have HH_27 := hide (HH_26.out.keep (hb.mono (by have z := Z26.out; omega)))
 have Z27 := hide (And.intro Z26.out (show w26.heap.size ≤ w27.heap.size from hb.size))
 clear hb B26 RP_26 RI_26 T_26 MK_26 HH_26 Z26
 go_wp2_with fail
 go_ret
 exact ⟨rfl, B27.out⟩
theorem fnExactCheckIns_walk (a0 a1 a2 : Option Addr) (c0 c1 c2 : Nat) (x : GProg) (f : Int) (_ : (Lit.int .i64 f).wf = true) (sa : Option Addr) (sc : Nat) (st : List Fd) (iop ia ib : Int) (_ : (Lit.int .i64 iop).wf = true) (_ : (Lit.int .i64 ia).wf = true) (_ : (Lit.int .i64 ib).wf = true) (w : World) (hlx : ProgB 9223372036854775807 x) (hx : PM false w 0 w.heap.size a0 a1 a2 x) (hls : FieldsB 9223372036854775807 st) (hs : FieldsM false w 0 w.heap.size sa st) (hp : pow10 w) (he : errT w) :
  Calls Tryz.prog 3 #[.agg #[.slice a0 x.types.length c0, .slice a1 x.glob.length c1, .slice a2 x.funs.length c2], .int .i64 f, .slice sa st.length sc, .agg #[.int .i64 iop, .int .i64 ia, .int .i64 ib]] w fun e w' => e = .returned (.bool true) ∧ Below w.heap.size w w' :=
 fnExactCheckIns_walk0 a0 a1 a2 sa c0 c1 c2 sc x f st iop ia ib w hlx hls hx hs hp he
end Go.Proofs.YtpaneomkphjpcaaGreatDoor
