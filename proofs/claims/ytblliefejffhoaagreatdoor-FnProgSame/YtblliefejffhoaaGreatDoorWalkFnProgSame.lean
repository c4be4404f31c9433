/- The law of programs that are one. Written by tools/made/fnprogsame.py. -/
import Derived.Test.YtblliefejffhoaaGreatDoorDrawSame
import Derived.Test.YtblliefejffhoaaGreatDoorPbInj
import Derived.Test.YtblliefejffhoaaGreatDoorPbSame
import Derived.Test.YtblliefejffhoaaGreatDoorSameL
import Derived.Test.YtblliefejffhoaaGreatDoorHeldL
namespace Go.Proofs.YtblliefejffhoaaGreatDoor
open Go.ChangeShapes Go.WideShapes Go.ChangeAt Go.RowKit Go.Deep
set_option linter.unusedVariables false
set_option linter.unusedSimpArgs false

theorem str_eq9 (s t : ByteArray) : (s.toList == t.toList) = decide (s = t) := by
  rw [Bool.eq_iff_iff, beq_iff_eq, decide_eq_true_eq, ByteArray.toList_eq, ByteArray.toList_eq]
  refine ⟨fun h => ?_, fun h => by rw [h]⟩
  cases s
  cases t
  simp only [ByteArray.mk.injEq]
  exact Array.toList_inj.1 h
theorem PS.implSame {w0 w : World} {a0 a1 a2 b0 b1 b2 : Option Addr} {c0 c1 c2 d0 d1 d2 : Nat} {P Q : GProg} {c : Bool} (h : PS w0 w a0 a1 a2 c0 c2 P) (k : PS w0 w b0 b1 b2 d0 d2 Q) (hv : progSame P Q = c) :
    Calls Tryz.prog 12 #[.agg #[.slice a0 P.types.length c0, .slice a1 P.glob.length c1, .slice a2 P.funs.length c2], .agg #[.slice b0 Q.types.length d0, .slice b1 Q.glob.length d1, .slice b2 Q.funs.length d2]] w fun e w' => e = .returned (.bool c) ∧ Below w.heap.size w w' := by
  refine (implProgSame_any a0 a1 a2 b0 b1 b2 c0 c1 c2 d0 d1 d2 _ _ _ _ P Q w h.pb k.pb h.pm.1 h.pm.2.1 h.pm.2.2 k.pm.1 k.pm.2.1 k.pm.2.2 (Nat.le_refl _) (Nat.le_refl _)).mono ?_
  rintro e w' ⟨rfl, hb⟩
  exact ⟨by rw [hv], hb⟩
theorem PS.specSame {w0 w : World} {a0 a1 a2 b0 b1 b2 : Option Addr} {c0 c1 c2 d0 d1 d2 : Nat} {P Q : GProg} {c : Bool} (h : PS w0 w a0 a1 a2 c0 c2 P) (k : PS w0 w b0 b1 b2 d0 d2 Q) (hv : progSame P Q = c) :
    Calls Tryz.prog 13 #[.agg #[.slice a0 P.types.length c0, .slice a1 P.glob.length c1, .slice a2 P.funs.length c2], .agg #[.slice b0 Q.types.length d0, .slice b1 Q.glob.length d1, .slice b2 Q.funs.length d2]] w fun e w' => e = .returned (.bool c) ∧ Below w.heap.size w w' := by
  refine (specProgSame_any a0 a1 a2 b0 b1 b2 c0 c1 c2 d0 d1 d2 _ _ _ _ P Q w h.pb k.pb h.pm.1 h.pm.2.1 h.pm.2.2 k.pm.1 k.pm.2.1 k.pm.2.2 (Nat.le_refl _) (Nat.le_refl _)).mono ?_
  rintro e w' ⟨rfl, hb⟩
  exact ⟨by rw [hv], hb⟩

set_option maxHeartbeats 16000000 in
set_option maxRecDepth 100000 in
theorem fnProgSame_walk (x0 : Option Addr) (cap0 n0 : Nat) (hc0 : n0 ≤ cap0) (w : World) (h0 : BytesIn w w.heap.size x0 n0) (hp : pow10 w) (hl : lettersAt w) (hw : wordsAt w) :
    Calls Tryz.prog 4 #[.slice x0 n0 cap0] w fun e w' => e = .returned (.bool true) ∧ Below w.heap.size w w' := by
  have HT : Hid (Tabs w) := ⟨hp, hl, hw⟩
  clear hp hl hw
  by_cases l0 : 1048576 < n0
  · have k0 : (1048576 : Int) < (n0 : Int) := by omega
    go_enter Tryz.func4, Tryz.ntmps4
    go_wp2_with fail
    go_ret
    exact ⟨rfl, Below.refl _ _⟩
  have k0 : (n0 : Int) ≤ 1048576 := by omega
  go_enter Tryz.func4, Tryz.ntmps4
  go_wp2_with fail
  refine (drawProgSame_any x0 cap0 n0 w hc0 h0).mono ?_
  rintro e w1 ⟨⟨ts, gl, fs⟩, Q, a0, a1, a2, c0, c1, c2, b0, b1, b2, d0, d1, d2, rfl, hP1, hQ1, hqb1⟩
  have gln : gl.length ≤ 1000 := hqb1.2.1
  have tsn : ts.length ≤ 1000 := hqb1.1.1
  have fsn : fs.length ≤ 1000 := hqb1.2.2.1
  clear hqb1
  simp only
  have P1 := hide hP1
  have Q1 := hide hQ1
  clear hP1 hQ1 h0
  go_upto_region 4 with fail
  have P2 := hide ((P1.out.alloc (.cells #[.slice a0 ts.length c0, .slice a1 gl.length c1, .slice a2 fs.length c2] 27)).alloc (.cells #[.slice b0 Q.types.length d0, .slice b1 Q.glob.length d1, .slice b2 Q.funs.length d2] 27))
  have Q2 := hide ((Q1.out.alloc (.cells #[.slice a0 ts.length c0, .slice a1 gl.length c1, .slice a2 fs.length c2] 27)).alloc (.cells #[.slice b0 Q.types.length d0, .slice b1 Q.glob.length d1, .slice b2 Q.funs.length d2] 27))
  have RP := hide ((Rec.new w1 27 [.slice a0 ts.length c0, .slice a1 gl.length c1, .slice a2 fs.length c2]).alloc (.cells #[.slice b0 Q.types.length d0, .slice b1 Q.glob.length d1, .slice b2 Q.funs.length d2] 27))
  have RQ := hide (Rec.new' (w1.alloc (.cells #[.slice a0 ts.length c0, .slice a1 gl.length c1, .slice a2 fs.length c2] 27)) 27 [.slice b0 Q.types.length d0, .slice b1 Q.glob.length d1, .slice b2 Q.funs.length d2] (w1.heap.size + 1) (by simp))
  obtain ⟨c, hcc⟩ : ∃ c, progSame ⟨ts, gl, fs⟩ Q = c := ⟨_, rfl⟩
  have HC := hide hcc
  have HC2 : Hid (progSame Q ⟨ts, gl, fs⟩ = c) := by show _ = _; rw [progSame_comm]; exact hcc
  have HC3 := hide (progSame_refl ⟨ts, gl, fs⟩)
  clear hcc
  generalize hw2 : (w1.alloc (.cells #[.slice a0 ts.length c0, .slice a1 gl.length c1, .slice a2 fs.length c2] 27)).alloc (.cells #[.slice b0 Q.types.length d0, .slice b1 Q.glob.length d1, .slice b2 Q.funs.length d2] 27) = w2 at *
  generalize hpb : w1.heap.size = pb at *
  generalize hqb : pb + 1 = qb at *
  have pbw : w.heap.size ≤ pb := by rw [← hpb]; exact P1.out.bel.size
  have pq : pb < qb := by omega
  clear hw2 P1 Q1 hpb hqb
  have lp2 : pb < w2.heap.size := RP.out.lt
  have lq2 : qb < w2.heap.size := RQ.out.lt
  have p02 := RP.out.cell (o := 0) rfl
  have p12 := RP.out.cell (o := 1) rfl
  have p22 := RP.out.cell (o := 2) rfl
  have r02 := RQ.out.cell (o := 0) rfl
  have r12 := RQ.out.cell (o := 1) rfl
  have r22 := RQ.out.cell (o := 2) rfl
  have B2 : Hid (Below w2.heap.size w2 w2) := Below.refl _ _
  go_wp2_with fail
  go_region_held3 (fun w' => w'.cell? ⟨pb, 0, none⟩ = some (.slice a0 ts.length c0) ∧ w'.cell? ⟨pb, 1, none⟩ = some (.slice a1 gl.length c1) ∧ w'.cell? ⟨pb, 2, none⟩ = some (.slice a2 fs.length c2) ∧ w'.cell? ⟨qb, 0, none⟩ = some (.slice b0 Q.types.length d0) ∧ w'.cell? ⟨qb, 1, none⟩ = some (.slice b1 Q.glob.length d1) ∧ w'.cell? ⟨qb, 2, none⟩ = some (.slice b2 Q.funs.length d2)) (go_keep) ((first
    | (go_at_call 12; refine (PS.implSame P6.out P6.out HC3.out).mono ?_; rintro e w7 ⟨rfl, b7⟩; have P7 := hide (P6.out.keep b7); have Q7 := hide (Q6.out.keep b7); have lp7 : pb < w7.heap.size := Nat.lt_of_lt_of_le lp6 b7.size; have lq7 : qb < w7.heap.size := Nat.lt_of_lt_of_le lq6 b7.size; have p07 := (b7.cell (p := ⟨pb, 0, none⟩) lp6).trans p06; have p17 := (b7.cell (p := ⟨pb, 1, none⟩) lp6).trans p16; have p27 := (b7.cell (p := ⟨pb, 2, none⟩) lp6).trans p26; have r07 := (b7.cell (p := ⟨qb, 0, none⟩) lq6).trans r06; have r17 := (b7.cell (p := ⟨qb, 1, none⟩) lq6).trans r16; have r27 := (b7.cell (p := ⟨qb, 2, none⟩) lq6).trans r26; have B7 := hide (B6.out.trans (b7.mono B6.out.size)); clear b7)
    | (go_at_call 12; refine (PS.implSame Q5.out P5.out HC2.out).mono ?_; rintro e w6 ⟨rfl, b6⟩; have P6 := hide (P5.out.keep b6); have Q6 := hide (Q5.out.keep b6); have lp6 : pb < w6.heap.size := Nat.lt_of_lt_of_le lp5 b6.size; have lq6 : qb < w6.heap.size := Nat.lt_of_lt_of_le lq5 b6.size; have p06 := (b6.cell (p := ⟨pb, 0, none⟩) lp5).trans p05; have p16 := (b6.cell (p := ⟨pb, 1, none⟩) lp5).trans p15; have p26 := (b6.cell (p := ⟨pb, 2, none⟩) lp5).trans p25; have r06 := (b6.cell (p := ⟨qb, 0, none⟩) lq5).trans r05; have r16 := (b6.cell (p := ⟨qb, 1, none⟩) lq5).trans r15; have r26 := (b6.cell (p := ⟨qb, 2, none⟩) lq5).trans r25; have B6 := hide (B5.out.trans (b6.mono B5.out.size)); clear b6)
    | (go_at_call 12; refine (PS.implSame P4.out Q4.out HC.out).mono ?_; rintro e w5 ⟨rfl, b5⟩; have P5 := hide (P4.out.keep b5); have Q5 := hide (Q4.out.keep b5); have lp5 : pb < w5.heap.size := Nat.lt_of_lt_of_le lp4 b5.size; have lq5 : qb < w5.heap.size := Nat.lt_of_lt_of_le lq4 b5.size; have p05 := (b5.cell (p := ⟨pb, 0, none⟩) lp4).trans p04; have p15 := (b5.cell (p := ⟨pb, 1, none⟩) lp4).trans p14; have p25 := (b5.cell (p := ⟨pb, 2, none⟩) lp4).trans p24; have r05 := (b5.cell (p := ⟨qb, 0, none⟩) lq4).trans r04; have r15 := (b5.cell (p := ⟨qb, 1, none⟩) lq4).trans r14; have r25 := (b5.cell (p := ⟨qb, 2, none⟩) lq4).trans r24; have B5 := hide (B4.out.trans (b5.mono B4.out.size)); clear b5)
    | (go_at_call 13; refine (PS.specSame P3.out Q3.out HC.out).mono ?_; rintro e w4 ⟨rfl, b4⟩; have P4 := hide (P3.out.keep b4); have Q4 := hide (Q3.out.keep b4); have lp4 : pb < w4.heap.size := Nat.lt_of_lt_of_le lp3 b4.size; have lq4 : qb < w4.heap.size := Nat.lt_of_lt_of_le lq3 b4.size; have p04 := (b4.cell (p := ⟨pb, 0, none⟩) lp3).trans p03; have p14 := (b4.cell (p := ⟨pb, 1, none⟩) lp3).trans p13; have p24 := (b4.cell (p := ⟨pb, 2, none⟩) lp3).trans p23; have r04 := (b4.cell (p := ⟨qb, 0, none⟩) lq3).trans r03; have r14 := (b4.cell (p := ⟨qb, 1, none⟩) lq3).trans r13; have r24 := (b4.cell (p := ⟨qb, 2, none⟩) lq3).trans r23; have B4 := hide (B3.out.trans (b4.mono B3.out.size)); clear b4)
    | (go_at_call 12; refine (PS.implSame (PS.keep P2.out ((Below.refl _ _).drew)) (PS.keep Q2.out ((Below.refl _ _).drew)) HC.out).mono ?_; rintro e w3 ⟨rfl, b3⟩; have P3 := hide ((PS.keep P2.out ((Below.refl _ _).drew)).keep b3); have Q3 := hide ((PS.keep Q2.out ((Below.refl _ _).drew)).keep b3); have lp3 : pb < w3.heap.size := Nat.lt_of_lt_of_le lp2 b3.size; have lq3 : qb < w3.heap.size := Nat.lt_of_lt_of_le lq2 b3.size; have p03 := (b3.cell (p := ⟨pb, 0, none⟩) lp2).trans p02; have p13 := (b3.cell (p := ⟨pb, 1, none⟩) lp2).trans p12; have p23 := (b3.cell (p := ⟨pb, 2, none⟩) lp2).trans p22; have r03 := (b3.cell (p := ⟨qb, 0, none⟩) lq2).trans r02; have r13 := (b3.cell (p := ⟨qb, 1, none⟩) lq2).trans r12; have r23 := (b3.cell (p := ⟨qb, 2, none⟩) lq2).trans r22; have B3 := hide ((Below.drew B2.out).trans (b3.mono B2.out.size)); clear b3)))
  have TF : Hid (Below w2.heap.size w2 w7) := B7.out
  clear P2 P3 P4 P5 P6 Q2 Q3 Q4 Q5 Q6 B2 B3 B4 B5 B6 RP RQ p02 p12 p22 r02 r12 r22 p03 p13 p23 r03 r13 r23 p04 p14 p24 r04 r14 r24 p05 p15 p25 r05 r15 r25 p06 p16 p26 r06 r16 r26 lp2 lp3 lp4 lp5 lp6 lq2 lq3 lq4 lq5 lq6 B7 TF
  obtain ⟨Fi, hi2, hzz⟩ := Option.map_eq_some_iff.1 Tryz.infoField
  simp only [Prod.mk.injEq] at hzz
  obtain ⟨hz2, hs2, hb2⟩ := hzz
  have FI := hide hi2
  have FZ := hide hz2
  have FS := hide hs2
  have FB := hide hb2
  clear hi2 hz2 hs2 hb2
  go_upto_region 7 with fail
  have Ta := hide (Rec.new w7 27 [.slice a0 ts.length c0, .slice a1 gl.length c1, .slice a2 fs.length c2])
  have Da : Hid (Below w7.heap.size w7 (w7.alloc (.cells #[.slice a0 ts.length c0, .slice a1 gl.length c1, .slice a2 fs.length c2] 27))) := (Below.refl _ _).alloc (Nat.le_refl _) _
  have PSa := hide (P7.out.alloc (.cells #[.slice a0 ts.length c0, .slice a1 gl.length c1, .slice a2 fs.length c2] 27))
  have ya : (w7.alloc (.cells #[.slice a0 ts.length c0, .slice a1 gl.length c1, .slice a2 fs.length c2] 27)).heap.size = w7.heap.size + 1 := by simp
  generalize hua : w7.alloc (.cells #[.slice a0 ts.length c0, .slice a1 gl.length c1, .slice a2 fs.length c2] 27) = ua at *
  generalize hta : w7.heap.size = va at Ta
  have tl1a : w7.heap.size ≤ va := by omega
  have tl2a : va ≤ w7.heap.size := by omega
  have tl3a : va < ua.heap.size := by omega
  have cp1 := (Da.out.cell (p := ⟨pb, 1, none⟩) lp7).trans p17
  clear hua ya hta
  have lpu : pb < ua.heap.size := by omega
  have EO : Hid ((ua.alloc (.cells #[] 33)).ownsRow ua.heap.size 33 3 (.slice (some ⟨ua.heap.size, 0, none⟩) 0 0) 0 []) := ⟨rfl, .inr ⟨ua.heap.size, 0, #[], rfl, Nat.le_refl _, Deep.blk_alloc_new _ _, Nat.le_refl _, by unfold maxLen; omega, rfl, rfl⟩⟩
  have HCA : Hid (CellsAt (ua.alloc (.cells #[] 33)) a1 gl.length (fcells gl)) := (CellsAt.fields PSa.out.pm.2.1.1 (Nat.le_refl _)).below ((Below.refl _ _).alloc (Nat.le_refl _) _)
  go_wp2_with (first | (at_builtin; refine wpList_copy_row _ rfl _ _ 24 33 rfl Fi _ 3 24 Tryz.underlying24 FI.out FZ.out FS.out FB.out rfl (by decide) (by decide) ua.heap.size (some ⟨ua.heap.size, 0, none⟩) a1 c1 gl.length (fcells gl) rfl rfl EO.out (fcells_length gl) HCA.out (fcells_one gl) (by omega) (by simp) ?_; intro naa nca xa hown8 hb8 hx8; have OW8 := hide (World.ownsRow.alloc hown8 (.cells #[.int .i64 1, .int .i64 0, .bool false] 33)); have HB8 := hide hb8; clear hown8 hb8 hx8) | (at_builtin; refine wpList_append_lies _ rfl _ _ 24 rfl ua.heap.size 33 Fi _ 3 24 Tryz.underlying24 FI.out FZ.out FS.out FB.out rfl (by decide) (.slice naa gl.length nca) gl.length (fcells gl) rfl OW8.out ⟨xa.heap.size, 0, none⟩ 1 1 [.int .i64 1, .int .i64 0, .bool false] rfl rfl (World.news_of_block (Deep.blk_alloc_new _ _)) (by intro u hu; simp at hu; rcases hu with rfl | rfl | rfl <;> rfl) (by decide) (by unfold maxLen; omega) (by omega) (by have := HB8.out.size; simp at this ⊢; omega) _ rfl ?_))
  intro gBa capa za hown9 hgr9 hat9 hlt9
  have s8 := HB8.out.size
  simp only [World.size_alloc] at s8
  have b9 : Below ua.heap.size ua za := ((((Below.refl _ _).alloc (Nat.le_refl _) _).trans (HB8.out.mono (by simp))).alloc (by omega) _).grown hgr9 (by simp; omega) (fun q hq => owns_base OW8.out q hq)
  have H9 := hide b9
  have O9 := hide hown9
  have t1' := (Ta.out.below b9 tl3a).cell (o := 1) rfl
  have t1f := (Ta.out.below b9 tl3a).frozen 1
  clear b9 hown9 hgr9 hat9 hlt9
  go_upto_region 8 with fail
  have TW := hide ((Ta.out.below H9.out tl3a).set 1 (.slice (some ⟨gBa, 0, none⟩) (gl.length + 1) capa))
  have BW := hide ((Da.out.trans (H9.out.mono (by omega))).setCell (p := ⟨va, 1, none⟩) (show w7.heap.size ≤ va by omega) (.slice (some ⟨gBa, 0, none⟩) (gl.length + 1) capa))
  have OW : Hid ((za.setCell ⟨va, 1, none⟩ (.slice (some ⟨gBa, 0, none⟩) (gl.length + 1) capa)).ownsRow ua.heap.size 33 3 (.slice (some ⟨gBa, 0, none⟩) (gl.length + 1) capa) (gl.length + 1) (fcells gl ++ [.int .i64 1, .int .i64 0, .bool false])) := owns_of_block O9.out fun k hk => Below.heap_setCell _ _ _ _ (by have := owns_base O9.out k hk; show k ≠ va; omega)
  have wsz : w.heap.size ≤ ua.heap.size := PSa.out.bel.size
  clear t1' t1f cp1 lpu EO HCA OW8 HB8 s8 O9 H9
  generalize hza : za.setCell ⟨va, 1, none⟩ (.slice (some ⟨gBa, 0, none⟩) (gl.length + 1) capa) = w8 at *
  clear hza
  have PXa : Hid (PS w w8 a0 (some ⟨gBa, 0, none⟩) a2 c0 c2 ⟨ts, gl ++ [⟨1, 0, false⟩], fs⟩) := P7.out.moreGlob (f := ⟨1, 0, false⟩) BW.out OW.out wsz (by omega)
  have TXa := TW
  have P8 := hide (P7.out.keep BW.out)
  have Q8 := hide (Q7.out.keep BW.out)
  have lp8 : pb < w8.heap.size := Nat.lt_of_lt_of_le lp7 BW.out.size
  have lq8 : qb < w8.heap.size := Nat.lt_of_lt_of_le lq7 BW.out.size
  have p08 := (BW.out.cell (p := ⟨pb, 0, none⟩) lp7).trans p07
  have r08 := (BW.out.cell (p := ⟨qb, 0, none⟩) lq7).trans r07
  have p18 := (BW.out.cell (p := ⟨pb, 1, none⟩) lp7).trans p17
  have r18 := (BW.out.cell (p := ⟨qb, 1, none⟩) lq7).trans r17
  have p28 := (BW.out.cell (p := ⟨pb, 2, none⟩) lp7).trans p27
  have r28 := (BW.out.cell (p := ⟨qb, 2, none⟩) lq7).trans r27
  clear TW BW OW PSa Ta Da P7 Q7 lp7 lq7 wsz p07 r07 p17 r17 p27 r27
  obtain ⟨Ui, hi2, hzz⟩ := Option.map_eq_some_iff.1 Tryz.infoFun
  simp only [Prod.mk.injEq] at hzz
  obtain ⟨hz2, hs2, hb2⟩ := hzz
  have UI := hide hi2
  have UZ := hide hz2
  have US := hide hs2
  have UB := hide hb2
  clear hi2 hz2 hs2 hb2
  go_upto_region 9 with fail
  have Tb := hide (Rec.new w8 27 [.slice a0 ts.length c0, .slice a1 gl.length c1, .slice a2 fs.length c2])
  have Db : Hid (Below w8.heap.size w8 (w8.alloc (.cells #[.slice a0 ts.length c0, .slice a1 gl.length c1, .slice a2 fs.length c2] 27))) := (Below.refl _ _).alloc (Nat.le_refl _) _
  have PSb := hide (P8.out.alloc (.cells #[.slice a0 ts.length c0, .slice a1 gl.length c1, .slice a2 fs.length c2] 27))
  have yb : (w8.alloc (.cells #[.slice a0 ts.length c0, .slice a1 gl.length c1, .slice a2 fs.length c2] 27)).heap.size = w8.heap.size + 1 := by simp
  generalize hub : w8.alloc (.cells #[.slice a0 ts.length c0, .slice a1 gl.length c1, .slice a2 fs.length c2] 27) = ub at *
  generalize htb : w8.heap.size = vb at Tb
  have tl1b : w8.heap.size ≤ vb := by omega
  have tl2b : vb ≤ w8.heap.size := by omega
  have tl3b : vb < ub.heap.size := by omega
  have cp1 := (Db.out.cell (p := ⟨pb, 2, none⟩) lp8).trans p28
  clear hub yb htb
  have lpu : pb < ub.heap.size := by omega
  have EO : Hid ((ub.alloc (.cells #[] 36)).ownsRow ub.heap.size 36 6 (.slice (some ⟨ub.heap.size, 0, none⟩) 0 0) 0 []) := ⟨rfl, .inr ⟨ub.heap.size, 0, #[], rfl, Nat.le_refl _, Deep.blk_alloc_new _ _, Nat.le_refl _, by unfold maxLen; omega, rfl, rfl⟩⟩
  obtain ⟨yb, hYL, hYC⟩ := FunL.of P8.out.pm.2.2 (Nat.le_refl _)
  have HYL := hide hYL
  have HCA : Hid (CellsAt (ub.alloc (.cells #[] 36)) a2 fs.length yb) := (hYC.below Db.out).below ((Below.refl _ _).alloc (Nat.le_refl _) _)
  clear hYL hYC
  go_wp2_with (first | (at_builtin; refine wpList_copy_row _ rfl _ _ 25 36 rfl Ui _ 6 96 Tryz.underlying25 UI.out UZ.out US.out UB.out rfl (by decide) (by decide) ub.heap.size (some ⟨ub.heap.size, 0, none⟩) a2 c2 fs.length (yb) rfl rfl EO.out HYL.out.1 HCA.out HYL.out.one (by omega) (by simp) ?_; intro nab ncb xb hown8 hb8 hx8; have OW8 := hide (World.ownsRow.alloc hown8 (.cells #[.slice none 0 0, .int .i64 0, .int .i64 0, .bool false, .slice none 0 0, .slice none 0 0] 36)); have HB8 := hide hb8; clear hown8 hb8 hx8) | (at_builtin; refine wpList_append_lies _ rfl _ _ 25 rfl ub.heap.size 36 Ui _ 6 96 Tryz.underlying25 UI.out UZ.out US.out UB.out rfl (by decide) (.slice nab fs.length ncb) fs.length (yb) rfl OW8.out ⟨xb.heap.size, 0, none⟩ 1 1 [.slice none 0 0, .int .i64 0, .int .i64 0, .bool false, .slice none 0 0, .slice none 0 0] rfl rfl (World.news_of_block (Deep.blk_alloc_new _ _)) (by intro u hu; simp at hu; rcases hu with rfl | rfl | rfl | rfl | rfl | rfl <;> rfl) (by decide) (by unfold maxLen; omega) (by omega) (by have := HB8.out.size; simp at this ⊢; omega) _ rfl ?_))
  intro gBb capb zb hown9 hgr9 hat9 hlt9
  have s8 := HB8.out.size
  simp only [World.size_alloc] at s8
  have b9 : Below ub.heap.size ub zb := ((((Below.refl _ _).alloc (Nat.le_refl _) _).trans (HB8.out.mono (by simp))).alloc (by omega) _).grown hgr9 (by simp; omega) (fun q hq => owns_base OW8.out q hq)
  have H9 := hide b9
  have O9 := hide hown9
  have t1' := (Tb.out.below b9 tl3b).cell (o := 2) rfl
  have t1f := (Tb.out.below b9 tl3b).frozen 2
  clear b9 hown9 hgr9 hat9 hlt9
  go_upto_region 10 with fail
  have TW := hide ((Tb.out.below H9.out tl3b).set 2 (.slice (some ⟨gBb, 0, none⟩) (fs.length + 1) capb))
  have BW := hide ((Db.out.trans (H9.out.mono (by omega))).setCell (p := ⟨vb, 2, none⟩) (show w8.heap.size ≤ vb by omega) (.slice (some ⟨gBb, 0, none⟩) (fs.length + 1) capb))
  have OW : Hid ((zb.setCell ⟨vb, 2, none⟩ (.slice (some ⟨gBb, 0, none⟩) (fs.length + 1) capb)).ownsRow ub.heap.size 36 6 (.slice (some ⟨gBb, 0, none⟩) (fs.length + 1) capb) (fs.length + 1) (yb ++ [.slice none 0 0, .int .i64 0, .int .i64 0, .bool false, .slice none 0 0, .slice none 0 0])) := owns_of_block O9.out fun k hk => Below.heap_setCell _ _ _ _ (by have := owns_base O9.out k hk; show k ≠ vb; omega)
  have wsz : w.heap.size ≤ ub.heap.size := PSb.out.bel.size
  clear t1' t1f cp1 lpu EO HCA OW8 HB8 s8 O9 H9
  generalize hzb : zb.setCell ⟨vb, 2, none⟩ (.slice (some ⟨gBb, 0, none⟩) (fs.length + 1) capb) = w9 at *
  clear hzb
  have PXb : Hid (PS w w9 a0 a1 (some ⟨gBb, 0, none⟩) c0 capb ⟨ts, gl, fs ++ [GFun.d]⟩) := P8.out.moreFuns (f := GFun.d) BW.out (HYL.out.same (.of_below BW.out (Nat.le_refl _)) (Nat.le_refl _) BW.out.size) ⟨none, 0, none, 0, none, 0, rfl, rfl, rfl, rfl, rfl, rfl, ⟨.inl rfl, fun e => (by cases e)⟩, ⟨.inl rfl, fun e => (by cases e)⟩, .inl rfl⟩ rfl OW.out wsz (by omega) ⟨Nat.zero_le _, Nat.zero_le _, Nat.zero_le _⟩
  have TXb := TW
  have P9 := hide (P8.out.keep BW.out)
  have Q9 := hide (Q8.out.keep BW.out)
  have lp9 : pb < w9.heap.size := Nat.lt_of_lt_of_le lp8 BW.out.size
  have lq9 : qb < w9.heap.size := Nat.lt_of_lt_of_le lq8 BW.out.size
  have p09 := (BW.out.cell (p := ⟨pb, 0, none⟩) lp8).trans p08
  have r09 := (BW.out.cell (p := ⟨qb, 0, none⟩) lq8).trans r08
  have p19 := (BW.out.cell (p := ⟨pb, 1, none⟩) lp8).trans p18
  have r19 := (BW.out.cell (p := ⟨qb, 1, none⟩) lq8).trans r18
  have p29 := (BW.out.cell (p := ⟨pb, 2, none⟩) lp8).trans p28
  have r29 := (BW.out.cell (p := ⟨qb, 2, none⟩) lq8).trans r28
  replace PXa := hide (PXa.out.keep BW.out)
  replace TXa := hide (TXa.out.below BW.out TXa.out.lt)
  clear TW BW OW PSb Tb Db P8 Q8 lp8 lq8 wsz p08 r08 p18 r18 p28 r28
  obtain ⟨Gi, hi2, hzz⟩ := Option.map_eq_some_iff.1 Tryz.infoTypeS
  simp only [Prod.mk.injEq] at hzz
  obtain ⟨hz2, hs2, hb2⟩ := hzz
  have GI := hide hi2
  have GZ := hide hz2
  have GS := hide hs2
  have GB := hide hb2
  clear hi2 hz2 hs2 hb2
  go_upto_region 11 with fail
  have Tc := hide (Rec.new w9 27 [.slice a0 ts.length c0, .slice a1 gl.length c1, .slice a2 fs.length c2])
  have Dc : Hid (Below w9.heap.size w9 (w9.alloc (.cells #[.slice a0 ts.length c0, .slice a1 gl.length c1, .slice a2 fs.length c2] 27))) := (Below.refl _ _).alloc (Nat.le_refl _) _
  have PSc := hide (P9.out.alloc (.cells #[.slice a0 ts.length c0, .slice a1 gl.length c1, .slice a2 fs.length c2] 27))
  have yc : (w9.alloc (.cells #[.slice a0 ts.length c0, .slice a1 gl.length c1, .slice a2 fs.length c2] 27)).heap.size = w9.heap.size + 1 := by simp
  generalize huc : w9.alloc (.cells #[.slice a0 ts.length c0, .slice a1 gl.length c1, .slice a2 fs.length c2] 27) = uc at *
  generalize htc : w9.heap.size = vc at Tc
  have tl1c : w9.heap.size ≤ vc := by omega
  have tl2c : vc ≤ w9.heap.size := by omega
  have tl3c : vc < uc.heap.size := by omega
  have cp1 := (Dc.out.cell (p := ⟨pb, 0, none⟩) lp9).trans p09
  clear huc yc htc
  have lpu : pb < uc.heap.size := by omega
  have EO : Hid ((uc.alloc (.cells #[] 42)).ownsRow uc.heap.size 42 1 (.slice (some ⟨uc.heap.size, 0, none⟩) 0 0) 0 []) := ⟨rfl, .inr ⟨uc.heap.size, 0, #[], rfl, Nat.le_refl _, Deep.blk_alloc_new _ _, Nat.le_refl _, by unfold maxLen; omega, rfl, rfl⟩⟩
  obtain ⟨yc, hyn, hYC, hy1, hyt⟩ := groups_cells P9.out.pm.1.1 (Nat.le_refl _)
  have HYN := hide hyn
  have HY1 := hide hy1
  have HYT := hide hyt
  have HCA : Hid (CellsAt (uc.alloc (.cells #[] 42)) a0 ts.length yc) := (hYC.below Dc.out).below ((Below.refl _ _).alloc (Nat.le_refl _) _)
  clear hyn hYC hy1 hyt
  go_wp2_with (first | (at_builtin; refine wpList_copy_row _ rfl _ _ 23 42 rfl Gi _ 1 24 Tryz.underlying23 GI.out GZ.out GS.out GB.out rfl (by decide) (by decide) uc.heap.size (some ⟨uc.heap.size, 0, none⟩) a0 c0 ts.length (yc) rfl rfl EO.out (by rw [HYN.out, Nat.mul_one]) HCA.out HY1.out (by omega) (by simp) ?_; intro nac ncc xc hown8 hb8 hx8; have OW8 := hide (World.ownsRow.alloc hown8 (.cells #[.slice none 0 0] 42)); have HB8 := hide hb8; clear hown8 hb8 hx8) | (at_builtin; refine wpList_append_lies _ rfl _ _ 23 rfl uc.heap.size 42 Gi _ 1 24 Tryz.underlying23 GI.out GZ.out GS.out GB.out rfl (by decide) (.slice nac ts.length ncc) ts.length (yc) rfl OW8.out ⟨xc.heap.size, 0, none⟩ 1 1 [.slice none 0 0] rfl rfl (World.news_of_block (Deep.blk_alloc_new _ _)) (by intro u hu; simp at hu; rcases hu with rfl <;> rfl) (by decide) (by unfold maxLen; omega) (by omega) (by have := HB8.out.size; simp at this ⊢; omega) _ rfl ?_))
  intro gBc capc zc hown9 hgr9 hat9 hlt9
  have s8 := HB8.out.size
  simp only [World.size_alloc] at s8
  have b9 : Below uc.heap.size uc zc := ((((Below.refl _ _).alloc (Nat.le_refl _) _).trans (HB8.out.mono (by simp))).alloc (by omega) _).grown hgr9 (by simp; omega) (fun q hq => owns_base OW8.out q hq)
  have H9 := hide b9
  have O9 := hide hown9
  have t1' := (Tc.out.below b9 tl3c).cell (o := 0) rfl
  have t1f := (Tc.out.below b9 tl3c).frozen 0
  clear b9 hown9 hgr9 hat9 hlt9
  go_upto_region 12 with fail
  have TW := hide ((Tc.out.below H9.out tl3c).set 0 (.slice (some ⟨gBc, 0, none⟩) (ts.length + 1) capc))
  have BW := hide ((Dc.out.trans (H9.out.mono (by omega))).setCell (p := ⟨vc, 0, none⟩) (show w9.heap.size ≤ vc by omega) (.slice (some ⟨gBc, 0, none⟩) (ts.length + 1) capc))
  have OW : Hid ((zc.setCell ⟨vc, 0, none⟩ (.slice (some ⟨gBc, 0, none⟩) (ts.length + 1) capc)).ownsRow uc.heap.size 42 1 (.slice (some ⟨gBc, 0, none⟩) (ts.length + 1) capc) (ts.length + 1) (yc ++ [.slice none 0 0])) := owns_of_block O9.out fun k hk => Below.heap_setCell _ _ _ _ (by have := owns_base O9.out k hk; show k ≠ vc; omega)
  have wsz : w.heap.size ≤ uc.heap.size := PSc.out.bel.size
  clear t1' t1f cp1 lpu EO HCA OW8 HB8 s8 O9 H9
  generalize hzc : zc.setCell ⟨vc, 0, none⟩ (.slice (some ⟨gBc, 0, none⟩) (ts.length + 1) capc) = w10 at *
  clear hzc
  have PXc : Hid (PS w w10 (some ⟨gBc, 0, none⟩) a1 a2 capc c2 ⟨ts ++ [[]], gl, fs⟩) := P9.out.moreTypes BW.out HYT.out HYN.out OW.out wsz (by omega)
  have TXc := TW
  have P10 := hide (P9.out.keep BW.out)
  have Q10 := hide (Q9.out.keep BW.out)
  have lp10 : pb < w10.heap.size := Nat.lt_of_lt_of_le lp9 BW.out.size
  have lq10 : qb < w10.heap.size := Nat.lt_of_lt_of_le lq9 BW.out.size
  have p010 := (BW.out.cell (p := ⟨pb, 0, none⟩) lp9).trans p09
  have r010 := (BW.out.cell (p := ⟨qb, 0, none⟩) lq9).trans r09
  have p110 := (BW.out.cell (p := ⟨pb, 1, none⟩) lp9).trans p19
  have r110 := (BW.out.cell (p := ⟨qb, 1, none⟩) lq9).trans r19
  have p210 := (BW.out.cell (p := ⟨pb, 2, none⟩) lp9).trans p29
  have r210 := (BW.out.cell (p := ⟨qb, 2, none⟩) lq9).trans r29
  replace PXa := hide (PXa.out.keep BW.out)
  replace TXa := hide (TXa.out.below BW.out TXa.out.lt)
  replace PXb := hide (PXb.out.keep BW.out)
  replace TXb := hide (TXb.out.below BW.out TXb.out.lt)
  clear TW BW OW PSc Tc Dc P9 Q9 lp9 lq9 wsz p09 r09 p19 r19 p29 r29
  have v0a := TXa.out.cell (o := 0) rfl
  have v1a := TXa.out.cell (o := 1) rfl
  have v2a := TXa.out.cell (o := 2) rfl
  go_wp2_with fail
  have Ca := PS.implSame (c1 := c1) (d1 := capa) P10.out PXa.out (progSame_ne (fun e => by have := congrArg (fun p => p.glob.length) e; simp at this))
  simp only [List.length_append, List.length_singleton] at Ca
  refine Ca.mono ?_
  clear Ca
  rintro e w11 ⟨rfl, b11⟩
  replace PXb := hide (PXb.out.keep b11)
  replace TXb := hide (TXb.out.below b11 TXb.out.lt)
  replace PXc := hide (PXc.out.keep b11)
  replace TXc := hide (TXc.out.below b11 TXc.out.lt)
  have P11 := hide (P10.out.keep b11)
  have Q11 := hide (Q10.out.keep b11)
  have lp11 : pb < w11.heap.size := Nat.lt_of_lt_of_le lp10 b11.size
  have lq11 : qb < w11.heap.size := Nat.lt_of_lt_of_le lq10 b11.size
  have p011 := (b11.cell (p := ⟨pb, 0, none⟩) lp10).trans p010
  have r011 := (b11.cell (p := ⟨qb, 0, none⟩) lq10).trans r010
  have p111 := (b11.cell (p := ⟨pb, 1, none⟩) lp10).trans p110
  have r111 := (b11.cell (p := ⟨qb, 1, none⟩) lq10).trans r110
  have p211 := (b11.cell (p := ⟨pb, 2, none⟩) lp10).trans p210
  have r211 := (b11.cell (p := ⟨qb, 2, none⟩) lq10).trans r210
  clear v0a v1a v2a b11 P10 Q10 p010 r010 p110 r110 p210 r210
  have v0b := TXb.out.cell (o := 0) rfl
  have v1b := TXb.out.cell (o := 1) rfl
  have v2b := TXb.out.cell (o := 2) rfl
  go_wp2_with fail
  have Cb := PS.implSame (c1 := c1) (d1 := c1) P11.out PXb.out (progSame_ne (fun e => by have := congrArg (fun p => p.funs.length) e; simp at this))
  simp only [List.length_append, List.length_singleton] at Cb
  refine Cb.mono ?_
  clear Cb
  rintro e w12 ⟨rfl, b12⟩
  replace PXc := hide (PXc.out.keep b12)
  replace TXc := hide (TXc.out.below b12 TXc.out.lt)
  have P12 := hide (P11.out.keep b12)
  have Q12 := hide (Q11.out.keep b12)
  have lp12 : pb < w12.heap.size := Nat.lt_of_lt_of_le lp11 b12.size
  have lq12 : qb < w12.heap.size := Nat.lt_of_lt_of_le lq11 b12.size
  have p012 := (b12.cell (p := ⟨pb, 0, none⟩) lp11).trans p011
  have r012 := (b12.cell (p := ⟨qb, 0, none⟩) lq11).trans r011
  have p112 := (b12.cell (p := ⟨pb, 1, none⟩) lp11).trans p111
  have r112 := (b12.cell (p := ⟨qb, 1, none⟩) lq11).trans r111
  have p212 := (b12.cell (p := ⟨pb, 2, none⟩) lp11).trans p211
  have r212 := (b12.cell (p := ⟨qb, 2, none⟩) lq11).trans r211
  clear v0b v1b v2b b12 P11 Q11 p011 r011 p111 r111 p211 r211
  have v0c := TXc.out.cell (o := 0) rfl
  have v1c := TXc.out.cell (o := 1) rfl
  have v2c := TXc.out.cell (o := 2) rfl
  go_wp2_with fail
  have Cc := PS.implSame (c1 := c1) (d1 := c1) P12.out PXc.out (progSame_ne (fun e => by have := congrArg (fun p => p.types.length) e; simp at this))
  simp only [List.length_append, List.length_singleton] at Cc
  refine Cc.mono ?_
  clear Cc
  rintro e w13 ⟨rfl, b13⟩
  have P13 := hide (P12.out.keep b13)
  have Q13 := hide (Q12.out.keep b13)
  have lp13 : pb < w13.heap.size := Nat.lt_of_lt_of_le lp12 b13.size
  have lq13 : qb < w13.heap.size := Nat.lt_of_lt_of_le lq12 b13.size
  have p013 := (b13.cell (p := ⟨pb, 0, none⟩) lp12).trans p012
  have r013 := (b13.cell (p := ⟨qb, 0, none⟩) lq12).trans r012
  have p113 := (b13.cell (p := ⟨pb, 1, none⟩) lp12).trans p112
  have r113 := (b13.cell (p := ⟨qb, 1, none⟩) lq12).trans r112
  have p213 := (b13.cell (p := ⟨pb, 2, none⟩) lp12).trans p212
  have r213 := (b13.cell (p := ⟨qb, 2, none⟩) lq12).trans r212
  clear v0c v1c v2c b13 P12 Q12 p012 r012 p112 r112 p212 r212
  obtain ⟨s1, hs1⟩ : ∃ s, (⟨(progTxt ⟨ts, gl, fs⟩).toArray⟩ : ByteArray) = s := ⟨_, rfl⟩
  obtain ⟨s2, hs2⟩ : ∃ s, (⟨(progTxt Q).toArray⟩ : ByteArray) = s := ⟨_, rfl⟩
  have HS1 := hide hs1
  have HS2 := hide hs2
  clear hs1 hs2
  have B13 : Hid (Below w13.heap.size w13 w13) := Below.refl _ _
  have BW13 := hide P13.out.bel
  cases hkp : progOkF ⟨ts, gl, fs⟩
  · have HKP := hide hkp
    clear hkp
    go_wp2_with fail
    refine wp_region_held_drew (S := (fun w' => w'.cell? ⟨pb, 0, none⟩ = some (.slice a0 ts.length c0) ∧ w'.cell? ⟨pb, 1, none⟩ = some (.slice a1 gl.length c1) ∧ w'.cell? ⟨pb, 2, none⟩ = some (.slice a2 fs.length c2) ∧ w'.cell? ⟨qb, 0, none⟩ = some (.slice b0 Q.types.length d0) ∧ w'.cell? ⟨qb, 1, none⟩ = some (.slice b1 Q.glob.length d1) ∧ w'.cell? ⟨qb, 2, none⟩ = some (.slice b2 Q.funs.length d2))) (by kernel_rfl) ?_ (fun hHeld => ?_)
    · (try dsimp only); (refine ⟨?_, ?_, ?_, ?_, ?_, ?_⟩ <;> assumption)
    refine takeL (i := 0) (v := ?v0n1) rfl (by kernel_rfl) (by kernel_rfl) (by kernel_rfl) (fun _ _ _ h => h) (by kernel_rfl) (by assumption) ?y0n1 ?r0n1; case y0n1 => (intro w hSw; (try dsimp only at hSw); go_simp; try with_reducible rfl); (try simp only [Act.put, List.setIfInBounds_toArray, List.set_cons_zero, List.set_cons_succ])
    refine doL (i := 1) rfl (by kernel_rfl) (fun K hK => ?_)
    go_simp
    (go_at_call 14; refine (PS.implOk (PS.keep P13.out ((Below.refl _ _).drew)) HT.out.1 HKP.out).mono ?_; rintro e w14 ⟨rfl, b14, _⟩; have P14 := hide ((PS.keep P13.out ((Below.refl _ _).drew)).keep b14); have Q14 := hide ((PS.keep Q13.out ((Below.refl _ _).drew)).keep b14); have lp14 : pb < w14.heap.size := Nat.lt_of_lt_of_le lp13 b14.size; have lq14 : qb < w14.heap.size := Nat.lt_of_lt_of_le lq13 b14.size; have p014 := (b14.cell (p := ⟨pb, 0, none⟩) lp13).trans p013; have p114 := (b14.cell (p := ⟨pb, 1, none⟩) lp13).trans p113; have p214 := (b14.cell (p := ⟨pb, 2, none⟩) lp13).trans p213; have r014 := (b14.cell (p := ⟨qb, 0, none⟩) lq13).trans r013; have r114 := (b14.cell (p := ⟨qb, 1, none⟩) lq13).trans r113; have r214 := (b14.cell (p := ⟨qb, 2, none⟩) lq13).trans r213; have B14 := hide ((Below.drew B13.out).trans (b14.mono B13.out.size)); clear b14)
    (try go_wp2_with fail)
    refine hK.out _ _ ?_ (fun hHeld2 => ?_)
    · (try dsimp only); (refine ⟨?_, ?_, ?_, ?_, ?_, ?_⟩ <;> assumption)
    clear hK K hHeld
    have hHeld := hHeld2
    clear hHeld2
    try simp only [Act.put, List.setIfInBounds_toArray, List.set_cons_zero, List.set_cons_succ]
    refine takeL (i := 2) (v := ?v2n2) rfl (by kernel_rfl) (by kernel_rfl) (by kernel_rfl) (fun _ _ _ h => h) (by kernel_rfl) (by assumption) ?y2n2 ?r2n2; case y2n2 => (intro w hSw; (try dsimp only at hSw); go_simp; try with_reducible rfl); (try simp only [Act.put, List.setIfInBounds_toArray, List.set_cons_zero, List.set_cons_succ])
    refine takeL (i := 3) (v := ?v3n3) rfl (by kernel_rfl) (by kernel_rfl) (by kernel_rfl) (fun _ _ _ h => h) (by kernel_rfl) (by assumption) ?y3n3 ?r3n3; case y3n3 => (intro w hSw; (try dsimp only at hSw); go_simp; try with_reducible rfl); (try simp only [Act.put, List.setIfInBounds_toArray, List.set_cons_zero, List.set_cons_succ])
    refine skipL (i := 4) rfl (by kernel_rfl) (by kernel_rfl) (by kernel_rfl) (fun _ _ _ h => h) (by kernel_rfl) (by assumption) ?_; (try simp only [Act.put, List.setIfInBounds_toArray, List.set_cons_zero, List.set_cons_succ])
    refine skipL (i := 5) rfl (by kernel_rfl) (by kernel_rfl) (by kernel_rfl) (fun _ _ _ h => h) (by kernel_rfl) (by assumption) ?_; (try simp only [Act.put, List.setIfInBounds_toArray, List.set_cons_zero, List.set_cons_succ])
    refine skipL (i := 6) rfl (by kernel_rfl) (by kernel_rfl) (by kernel_rfl) (fun _ _ _ h => h) (by kernel_rfl) (by assumption) ?_; (try simp only [Act.put, List.setIfInBounds_toArray, List.set_cons_zero, List.set_cons_succ])
    refine takeL (i := 7) (v := ?v7n4) rfl (by kernel_rfl) (by kernel_rfl) (by kernel_rfl) (fun _ _ _ h => h) (by kernel_rfl) (by assumption) ?y7n4 ?r7n4; case y7n4 => (intro w hSw; (try dsimp only at hSw); go_simp; try with_reducible rfl); (try simp only [Act.put, List.setIfInBounds_toArray, List.set_cons_zero, List.set_cons_succ])
    refine takeL (i := 8) (v := ?v8n5) rfl (by kernel_rfl) (by kernel_rfl) (by kernel_rfl) (fun _ _ _ h => h) (by kernel_rfl) (by assumption) ?y8n5 ?r8n5; case y8n5 => (intro w hSw; (try dsimp only at hSw); go_simp; try with_reducible rfl); (try simp only [Act.put, List.setIfInBounds_toArray, List.set_cons_zero, List.set_cons_succ])
    refine skipL (i := 9) rfl (by kernel_rfl) (by kernel_rfl) (by kernel_rfl) (fun _ _ _ h => h) (by kernel_rfl) (by assumption) ?_; (try simp only [Act.put, List.setIfInBounds_toArray, List.set_cons_zero, List.set_cons_succ])
    refine skipL (i := 10) rfl (by kernel_rfl) (by kernel_rfl) (by kernel_rfl) (fun _ _ _ h => h) (by kernel_rfl) (by assumption) ?_; (try simp only [Act.put, List.setIfInBounds_toArray, List.set_cons_zero, List.set_cons_succ])
    refine skipL (i := 11) rfl (by kernel_rfl) (by kernel_rfl) (by kernel_rfl) (fun _ _ _ h => h) (by kernel_rfl) (by assumption) ?_; (try simp only [Act.put, List.setIfInBounds_toArray, List.set_cons_zero, List.set_cons_succ])
    refine skipL (i := 12) rfl (by kernel_rfl) (by kernel_rfl) (by kernel_rfl) (fun _ _ _ h => h) (by kernel_rfl) (by assumption) ?_; (try simp only [Act.put, List.setIfInBounds_toArray, List.set_cons_zero, List.set_cons_succ])
    refine skipL (i := 13) rfl (by kernel_rfl) (by kernel_rfl) (by kernel_rfl) (fun _ _ _ h => h) (by kernel_rfl) (by assumption) ?_; (try simp only [Act.put, List.setIfInBounds_toArray, List.set_cons_zero, List.set_cons_succ])
    refine skipL (i := 14) rfl (by kernel_rfl) (by kernel_rfl) (by kernel_rfl) (fun _ _ _ h => h) (by kernel_rfl) (by assumption) ?_; (try simp only [Act.put, List.setIfInBounds_toArray, List.set_cons_zero, List.set_cons_succ])
    refine skipL (i := 15) rfl (by kernel_rfl) (by kernel_rfl) (by kernel_rfl) (fun _ _ _ h => h) (by kernel_rfl) (by assumption) ?_; (try simp only [Act.put, List.setIfInBounds_toArray, List.set_cons_zero, List.set_cons_succ])
    refine skipL (i := 16) rfl (by kernel_rfl) (by kernel_rfl) (by kernel_rfl) (fun _ _ _ h => h) (by kernel_rfl) (by assumption) ?_; (try simp only [Act.put, List.setIfInBounds_toArray, List.set_cons_zero, List.set_cons_succ])
    refine skipL (i := 17) rfl (by kernel_rfl) (by kernel_rfl) (by kernel_rfl) (fun _ _ _ h => h) (by kernel_rfl) (by assumption) ?_; (try simp only [Act.put, List.setIfInBounds_toArray, List.set_cons_zero, List.set_cons_succ])
    refine takeL (i := 18) (v := ?v18n6) rfl (by kernel_rfl) (by kernel_rfl) (by kernel_rfl) (fun _ _ _ h => h) (by kernel_rfl) (by assumption) ?y18n6 ?r18n6; case y18n6 => (intro w hSw; (try dsimp only at hSw); go_simp; try with_reducible rfl); (try simp only [Act.put, List.setIfInBounds_toArray, List.set_cons_zero, List.set_cons_succ])
    refine takeL (i := 19) (v := ?v19n7) rfl (by kernel_rfl) (by kernel_rfl) (by kernel_rfl) (fun _ _ _ h => h) (by kernel_rfl) (by assumption) ?y19n7 ?r19n7; case y19n7 => (intro w hSw; (try dsimp only at hSw); go_simp; try with_reducible rfl); (try simp only [Act.put, List.setIfInBounds_toArray, List.set_cons_zero, List.set_cons_succ])
    refine wpAnyH_done (by kernel_rfl) ?_ _
    go_wp2_with fail
    go_ret
    exact ⟨rfl, P14.out.bel⟩
  cases hkq : progOkF Q
  · have HKP := hide hkp
    have HKQ := hide hkq
    clear hkp hkq
    go_wp2_with fail
    refine wp_region_held_drew (S := (fun w' => w'.cell? ⟨pb, 0, none⟩ = some (.slice a0 ts.length c0) ∧ w'.cell? ⟨pb, 1, none⟩ = some (.slice a1 gl.length c1) ∧ w'.cell? ⟨pb, 2, none⟩ = some (.slice a2 fs.length c2) ∧ w'.cell? ⟨qb, 0, none⟩ = some (.slice b0 Q.types.length d0) ∧ w'.cell? ⟨qb, 1, none⟩ = some (.slice b1 Q.glob.length d1) ∧ w'.cell? ⟨qb, 2, none⟩ = some (.slice b2 Q.funs.length d2))) (by kernel_rfl) ?_ (fun hHeld => ?_)
    · (try dsimp only); (refine ⟨?_, ?_, ?_, ?_, ?_, ?_⟩ <;> assumption)
    refine takeL (i := 0) (v := ?v0n8) rfl (by kernel_rfl) (by kernel_rfl) (by kernel_rfl) (fun _ _ _ h => h) (by kernel_rfl) (by assumption) ?y0n8 ?r0n8; case y0n8 => (intro w hSw; (try dsimp only at hSw); go_simp; try with_reducible rfl); (try simp only [Act.put, List.setIfInBounds_toArray, List.set_cons_zero, List.set_cons_succ])
    refine doL (i := 1) rfl (by kernel_rfl) (fun K hK => ?_)
    go_simp
    (go_at_call 14; refine (PS.implOk (PS.keep P13.out ((Below.refl _ _).drew)) HT.out.1 HKP.out).mono ?_; rintro e w14 ⟨rfl, b14, _⟩; have P14 := hide ((PS.keep P13.out ((Below.refl _ _).drew)).keep b14); have Q14 := hide ((PS.keep Q13.out ((Below.refl _ _).drew)).keep b14); have lp14 : pb < w14.heap.size := Nat.lt_of_lt_of_le lp13 b14.size; have lq14 : qb < w14.heap.size := Nat.lt_of_lt_of_le lq13 b14.size; have p014 := (b14.cell (p := ⟨pb, 0, none⟩) lp13).trans p013; have p114 := (b14.cell (p := ⟨pb, 1, none⟩) lp13).trans p113; have p214 := (b14.cell (p := ⟨pb, 2, none⟩) lp13).trans p213; have r014 := (b14.cell (p := ⟨qb, 0, none⟩) lq13).trans r013; have r114 := (b14.cell (p := ⟨qb, 1, none⟩) lq13).trans r113; have r214 := (b14.cell (p := ⟨qb, 2, none⟩) lq13).trans r213; have B14 := hide ((Below.drew B13.out).trans (b14.mono B13.out.size)); clear b14)
    (try go_wp2_with fail)
    refine hK.out _ _ ?_ (fun hHeld2 => ?_)
    · (try dsimp only); (refine ⟨?_, ?_, ?_, ?_, ?_, ?_⟩ <;> assumption)
    clear hK K hHeld
    have hHeld := hHeld2
    clear hHeld2
    try simp only [Act.put, List.setIfInBounds_toArray, List.set_cons_zero, List.set_cons_succ]
    refine takeL (i := 2) (v := ?v2n9) rfl (by kernel_rfl) (by kernel_rfl) (by kernel_rfl) (fun _ _ _ h => h) (by kernel_rfl) (by assumption) ?y2n9 ?r2n9; case y2n9 => (intro w hSw; (try dsimp only at hSw); go_simp; try with_reducible rfl); (try simp only [Act.put, List.setIfInBounds_toArray, List.set_cons_zero, List.set_cons_succ])
    refine takeL (i := 3) (v := ?v3n10) rfl (by kernel_rfl) (by kernel_rfl) (by kernel_rfl) (fun _ _ _ h => h) (by kernel_rfl) (by assumption) ?y3n10 ?r3n10; case y3n10 => (intro w hSw; (try dsimp only at hSw); go_simp; try with_reducible rfl); (try simp only [Act.put, List.setIfInBounds_toArray, List.set_cons_zero, List.set_cons_succ])
    refine takeL (i := 4) (v := ?v4n11) rfl (by kernel_rfl) (by kernel_rfl) (by kernel_rfl) (fun _ _ _ h => h) (by kernel_rfl) (by assumption) ?y4n11 ?r4n11; case y4n11 => (intro w hSw; (try dsimp only at hSw); go_simp; try with_reducible rfl); (try simp only [Act.put, List.setIfInBounds_toArray, List.set_cons_zero, List.set_cons_succ])
    refine doL (i := 5) rfl (by kernel_rfl) (fun K hK => ?_)
    go_simp
    (go_at_call 14; refine (PS.implOk Q14.out HT.out.1 HKQ.out).mono ?_; rintro e w15 ⟨rfl, b15, _⟩; have P15 := hide (P14.out.keep b15); have Q15 := hide (Q14.out.keep b15); have lp15 : pb < w15.heap.size := Nat.lt_of_lt_of_le lp14 b15.size; have lq15 : qb < w15.heap.size := Nat.lt_of_lt_of_le lq14 b15.size; have p015 := (b15.cell (p := ⟨pb, 0, none⟩) lp14).trans p014; have p115 := (b15.cell (p := ⟨pb, 1, none⟩) lp14).trans p114; have p215 := (b15.cell (p := ⟨pb, 2, none⟩) lp14).trans p214; have r015 := (b15.cell (p := ⟨qb, 0, none⟩) lq14).trans r014; have r115 := (b15.cell (p := ⟨qb, 1, none⟩) lq14).trans r114; have r215 := (b15.cell (p := ⟨qb, 2, none⟩) lq14).trans r214; have B15 := hide (B14.out.trans (b15.mono B14.out.size)); clear b15)
    (try go_wp2_with fail)
    refine hK.out _ _ ?_ (fun hHeld2 => ?_)
    · (try dsimp only); (refine ⟨?_, ?_, ?_, ?_, ?_, ?_⟩ <;> assumption)
    clear hK K hHeld
    have hHeld := hHeld2
    clear hHeld2
    try simp only [Act.put, List.setIfInBounds_toArray, List.set_cons_zero, List.set_cons_succ]
    refine takeL (i := 6) (v := ?v6n12) rfl (by kernel_rfl) (by kernel_rfl) (by kernel_rfl) (fun _ _ _ h => h) (by kernel_rfl) (by assumption) ?y6n12 ?r6n12; case y6n12 => (intro w hSw; (try dsimp only at hSw); go_simp; try with_reducible rfl); (try simp only [Act.put, List.setIfInBounds_toArray, List.set_cons_zero, List.set_cons_succ])
    refine takeL (i := 7) (v := ?v7n13) rfl (by kernel_rfl) (by kernel_rfl) (by kernel_rfl) (fun _ _ _ h => h) (by kernel_rfl) (by assumption) ?y7n13 ?r7n13; case y7n13 => (intro w hSw; (try dsimp only at hSw); go_simp; try with_reducible rfl); (try simp only [Act.put, List.setIfInBounds_toArray, List.set_cons_zero, List.set_cons_succ])
    refine takeL (i := 8) (v := ?v8n14) rfl (by kernel_rfl) (by kernel_rfl) (by kernel_rfl) (fun _ _ _ h => h) (by kernel_rfl) (by assumption) ?y8n14 ?r8n14; case y8n14 => (intro w hSw; (try dsimp only at hSw); go_simp; try with_reducible rfl); (try simp only [Act.put, List.setIfInBounds_toArray, List.set_cons_zero, List.set_cons_succ])
    refine skipL (i := 9) rfl (by kernel_rfl) (by kernel_rfl) (by kernel_rfl) (fun _ _ _ h => h) (by kernel_rfl) (by assumption) ?_; (try simp only [Act.put, List.setIfInBounds_toArray, List.set_cons_zero, List.set_cons_succ])
    refine skipL (i := 10) rfl (by kernel_rfl) (by kernel_rfl) (by kernel_rfl) (fun _ _ _ h => h) (by kernel_rfl) (by assumption) ?_; (try simp only [Act.put, List.setIfInBounds_toArray, List.set_cons_zero, List.set_cons_succ])
    refine skipL (i := 11) rfl (by kernel_rfl) (by kernel_rfl) (by kernel_rfl) (fun _ _ _ h => h) (by kernel_rfl) (by assumption) ?_; (try simp only [Act.put, List.setIfInBounds_toArray, List.set_cons_zero, List.set_cons_succ])
    refine skipL (i := 12) rfl (by kernel_rfl) (by kernel_rfl) (by kernel_rfl) (fun _ _ _ h => h) (by kernel_rfl) (by assumption) ?_; (try simp only [Act.put, List.setIfInBounds_toArray, List.set_cons_zero, List.set_cons_succ])
    refine skipL (i := 13) rfl (by kernel_rfl) (by kernel_rfl) (by kernel_rfl) (fun _ _ _ h => h) (by kernel_rfl) (by assumption) ?_; (try simp only [Act.put, List.setIfInBounds_toArray, List.set_cons_zero, List.set_cons_succ])
    refine skipL (i := 14) rfl (by kernel_rfl) (by kernel_rfl) (by kernel_rfl) (fun _ _ _ h => h) (by kernel_rfl) (by assumption) ?_; (try simp only [Act.put, List.setIfInBounds_toArray, List.set_cons_zero, List.set_cons_succ])
    refine skipL (i := 15) rfl (by kernel_rfl) (by kernel_rfl) (by kernel_rfl) (fun _ _ _ h => h) (by kernel_rfl) (by assumption) ?_; (try simp only [Act.put, List.setIfInBounds_toArray, List.set_cons_zero, List.set_cons_succ])
    refine skipL (i := 16) rfl (by kernel_rfl) (by kernel_rfl) (by kernel_rfl) (fun _ _ _ h => h) (by kernel_rfl) (by assumption) ?_; (try simp only [Act.put, List.setIfInBounds_toArray, List.set_cons_zero, List.set_cons_succ])
    refine skipL (i := 17) rfl (by kernel_rfl) (by kernel_rfl) (by kernel_rfl) (fun _ _ _ h => h) (by kernel_rfl) (by assumption) ?_; (try simp only [Act.put, List.setIfInBounds_toArray, List.set_cons_zero, List.set_cons_succ])
    refine takeL (i := 18) (v := ?v18n15) rfl (by kernel_rfl) (by kernel_rfl) (by kernel_rfl) (fun _ _ _ h => h) (by kernel_rfl) (by assumption) ?y18n15 ?r18n15; case y18n15 => (intro w hSw; (try dsimp only at hSw); go_simp; try with_reducible rfl); (try simp only [Act.put, List.setIfInBounds_toArray, List.set_cons_zero, List.set_cons_succ])
    refine takeL (i := 19) (v := ?v19n16) rfl (by kernel_rfl) (by kernel_rfl) (by kernel_rfl) (fun _ _ _ h => h) (by kernel_rfl) (by assumption) ?y19n16 ?r19n16; case y19n16 => (intro w hSw; (try dsimp only at hSw); go_simp; try with_reducible rfl); (try simp only [Act.put, List.setIfInBounds_toArray, List.set_cons_zero, List.set_cons_succ])
    refine wpAnyH_done (by kernel_rfl) ?_ _
    go_wp2_with fail
    go_ret
    exact ⟨rfl, P15.out.bel⟩
  have HKP := hide hkp
  have HKQ := hide hkq
  have hts := txt_same hkp hkq
  rw [HC.out] at hts
  have hss : decide (s1 = s2) = c := by
    rw [← hts, ← HS1.out, ← HS2.out]
    congr 1
    refine propext ⟨fun h => ?_, fun h => by rw [h]⟩
    injection h with h
    have := congrArg Array.toList h
    simpa using this
  clear hkp hkq hts
  go_wp2_with fail
  go_region_held3 (fun w' => w'.cell? ⟨pb, 0, none⟩ = some (.slice a0 ts.length c0) ∧ w'.cell? ⟨pb, 1, none⟩ = some (.slice a1 gl.length c1) ∧ w'.cell? ⟨pb, 2, none⟩ = some (.slice a2 fs.length c2) ∧ w'.cell? ⟨qb, 0, none⟩ = some (.slice b0 Q.types.length d0) ∧ w'.cell? ⟨qb, 1, none⟩ = some (.slice b1 Q.glob.length d1) ∧ w'.cell? ⟨qb, 2, none⟩ = some (.slice b2 Q.funs.length d2)) (go_keep) ((first
    | (go_at_call 12; refine (PS.implSame P17.out Q17.out HC.out).mono ?_; rintro e w18 ⟨rfl, b18⟩; have P18 := hide (P17.out.keep b18); have Q18 := hide (Q17.out.keep b18); have lp18 : pb < w18.heap.size := Nat.lt_of_lt_of_le lp17 b18.size; have lq18 : qb < w18.heap.size := Nat.lt_of_lt_of_le lq17 b18.size; have p018 := (b18.cell (p := ⟨pb, 0, none⟩) lp17).trans p017; have p118 := (b18.cell (p := ⟨pb, 1, none⟩) lp17).trans p117; have p218 := (b18.cell (p := ⟨pb, 2, none⟩) lp17).trans p217; have r018 := (b18.cell (p := ⟨qb, 0, none⟩) lq17).trans r017; have r118 := (b18.cell (p := ⟨qb, 1, none⟩) lq17).trans r117; have r218 := (b18.cell (p := ⟨qb, 2, none⟩) lq17).trans r217; have B18 := hide (B17.out.trans (b18.mono B17.out.size)); clear b18)
    | (go_at_call 7; refine (PS.implText Q16.out HT.out HS2.out).mono ?_; rintro e w17 ⟨rfl, b17, _⟩; have P17 := hide (P16.out.keep b17); have Q17 := hide (Q16.out.keep b17); have lp17 : pb < w17.heap.size := Nat.lt_of_lt_of_le lp16 b17.size; have lq17 : qb < w17.heap.size := Nat.lt_of_lt_of_le lq16 b17.size; have p017 := (b17.cell (p := ⟨pb, 0, none⟩) lp16).trans p016; have p117 := (b17.cell (p := ⟨pb, 1, none⟩) lp16).trans p116; have p217 := (b17.cell (p := ⟨pb, 2, none⟩) lp16).trans p216; have r017 := (b17.cell (p := ⟨qb, 0, none⟩) lq16).trans r016; have r117 := (b17.cell (p := ⟨qb, 1, none⟩) lq16).trans r116; have r217 := (b17.cell (p := ⟨qb, 2, none⟩) lq16).trans r216; have B17 := hide (B16.out.trans (b17.mono B16.out.size)); clear b17)
    | (go_at_call 7; refine (PS.implText P15.out HT.out HS1.out).mono ?_; rintro e w16 ⟨rfl, b16, _⟩; have P16 := hide (P15.out.keep b16); have Q16 := hide (Q15.out.keep b16); have lp16 : pb < w16.heap.size := Nat.lt_of_lt_of_le lp15 b16.size; have lq16 : qb < w16.heap.size := Nat.lt_of_lt_of_le lq15 b16.size; have p016 := (b16.cell (p := ⟨pb, 0, none⟩) lp15).trans p015; have p116 := (b16.cell (p := ⟨pb, 1, none⟩) lp15).trans p115; have p216 := (b16.cell (p := ⟨pb, 2, none⟩) lp15).trans p215; have r016 := (b16.cell (p := ⟨qb, 0, none⟩) lq15).trans r015; have r116 := (b16.cell (p := ⟨qb, 1, none⟩) lq15).trans r115; have r216 := (b16.cell (p := ⟨qb, 2, none⟩) lq15).trans r215; have B16 := hide (B15.out.trans (b16.mono B15.out.size)); clear b16)
    | (go_at_call 14; refine (PS.implOk Q14.out HT.out.1 HKQ.out).mono ?_; rintro e w15 ⟨rfl, b15, _⟩; have P15 := hide (P14.out.keep b15); have Q15 := hide (Q14.out.keep b15); have lp15 : pb < w15.heap.size := Nat.lt_of_lt_of_le lp14 b15.size; have lq15 : qb < w15.heap.size := Nat.lt_of_lt_of_le lq14 b15.size; have p015 := (b15.cell (p := ⟨pb, 0, none⟩) lp14).trans p014; have p115 := (b15.cell (p := ⟨pb, 1, none⟩) lp14).trans p114; have p215 := (b15.cell (p := ⟨pb, 2, none⟩) lp14).trans p214; have r015 := (b15.cell (p := ⟨qb, 0, none⟩) lq14).trans r014; have r115 := (b15.cell (p := ⟨qb, 1, none⟩) lq14).trans r114; have r215 := (b15.cell (p := ⟨qb, 2, none⟩) lq14).trans r214; have B15 := hide (B14.out.trans (b15.mono B14.out.size)); clear b15)
    | (go_at_call 14; refine (PS.implOk (PS.keep P13.out ((Below.refl _ _).drew)) HT.out.1 HKP.out).mono ?_; rintro e w14 ⟨rfl, b14, _⟩; have P14 := hide ((PS.keep P13.out ((Below.refl _ _).drew)).keep b14); have Q14 := hide ((PS.keep Q13.out ((Below.refl _ _).drew)).keep b14); have lp14 : pb < w14.heap.size := Nat.lt_of_lt_of_le lp13 b14.size; have lq14 : qb < w14.heap.size := Nat.lt_of_lt_of_le lq13 b14.size; have p014 := (b14.cell (p := ⟨pb, 0, none⟩) lp13).trans p013; have p114 := (b14.cell (p := ⟨pb, 1, none⟩) lp13).trans p113; have p214 := (b14.cell (p := ⟨pb, 2, none⟩) lp13).trans p213; have r014 := (b14.cell (p := ⟨qb, 0, none⟩) lq13).trans r013; have r114 := (b14.cell (p := ⟨qb, 1, none⟩) lq13).trans r113; have r214 := (b14.cell (p := ⟨qb, 2, none⟩) lq13).trans r213; have B14 := hide ((Below.drew B13.out).trans (b14.mono B13.out.size)); clear b14)))
  go_wp2_with fail
  go_ret
  refine ⟨ret_bool ?_, P18.out.bel⟩
  rw [str_eq9, hss]
  simp
end Go.Proofs.YtblliefejffhoaaGreatDoor
