/- The law of bytes that are apart. Written by tools/made/fnbinapart.py. -/
import Derived.Test.YtblliefejffhoaaGreatDoorDrawSame
import Derived.Test.YtblliefejffhoaaGreatDoorBinInjM
import Derived.Test.YtblliefejffhoaaGreatDoorPbSame
import Derived.Test.YtblliefejffhoaaGreatDoorSameL
import Derived.Test.YtblliefejffhoaaGreatDoorPbBinS
import Derived.Test.YtblliefejffhoaaGreatDoorPbBinI
namespace Go.Proofs.YtblliefejffhoaaGreatDoor
open Go.ChangeShapes Go.WideShapes Go.ChangeAt Go.RowKit Go.Deep
set_option linter.unusedVariables false
set_option linter.unusedSimpArgs false

theorem PS.implBin {w0 w : World} {a0 a1 a2 : Option Addr} {c0 c1 c2 : Nat} {P : GProg} {l : List UInt8} (h : PS w0 w a0 a1 a2 c0 c2 P) (ht : pow10 w0) (hv : binTxt P = l) :
    Calls Tryz.prog 15 #[.agg #[.slice a0 P.types.length c0, .slice a1 P.glob.length c1, .slice a2 P.funs.length c2]] w fun e w' => e = .returned (.string ⟨l.toArray⟩) ∧ Below w.heap.size w w' := by
  refine (implBinOf_any a0 a1 a2 c0 c1 c2 _ _ P w h.pb h.pm h.bel.size (Nat.le_refl _) (pow10_keep ht h.bel)).mono ?_
  rintro e w' ⟨rfl, hb⟩
  exact ⟨by rw [hv], hb⟩
theorem PS.specBin {w0 w : World} {a0 a1 a2 : Option Addr} {c0 c1 c2 : Nat} {P : GProg} {l : List UInt8} (h : PS w0 w a0 a1 a2 c0 c2 P) (hv : binTxt P = l) :
    Calls Tryz.prog 16 #[.agg #[.slice a0 P.types.length c0, .slice a1 P.glob.length c1, .slice a2 P.funs.length c2]] w fun e w' => e = .returned (.string ⟨l.toArray⟩) ∧ Below w.heap.size w w' := by
  refine (specBinOf_any a0 a1 a2 c0 c1 c2 _ _ P w h.pb h.pm h.hc h.bel.size (Nat.le_refl _)).mono ?_
  rintro e w' ⟨rfl, hb⟩
  exact ⟨by rw [hv], hb⟩
theorem PS.implText9 {w0 w : World} {a0 a1 a2 : Option Addr} {c0 c1 c2 : Nat} {P : GProg} {l : List UInt8} (h : PS w0 w a0 a1 a2 c0 c2 P) (ht : Tabs w0) (hv : progTxt P = l) :
    Calls Tryz.prog 7 #[.agg #[.slice a0 P.types.length c0, .slice a1 P.glob.length c1, .slice a2 P.funs.length c2]] w fun e w' => e = .returned (.string ⟨l.toArray⟩) ∧ Below w.heap.size w w' := by
  refine (implProgText_any a0 a1 a2 c0 c1 c2 _ _ P w h.pb h.pm h.bel.size (Nat.le_refl _) (ht.keep h.bel)).mono ?_
  rintro e w' ⟨rfl, hb⟩
  exact ⟨by rw [hv], hb⟩
theorem PS.implSame9 {w0 w : World} {a0 a1 a2 b0 b1 b2 : Option Addr} {c0 c1 c2 d0 d1 d2 : Nat} {P Q : GProg} {c : Bool} (h : PS w0 w a0 a1 a2 c0 c2 P) (k : PS w0 w b0 b1 b2 d0 d2 Q) (hv : progSame P Q = c) :
    Calls Tryz.prog 12 #[.agg #[.slice a0 P.types.length c0, .slice a1 P.glob.length c1, .slice a2 P.funs.length c2], .agg #[.slice b0 Q.types.length d0, .slice b1 Q.glob.length d1, .slice b2 Q.funs.length d2]] w fun e w' => e = .returned (.bool c) ∧ Below w.heap.size w w' := by
  refine (implProgSame_any a0 a1 a2 b0 b1 b2 c0 c1 c2 d0 d1 d2 _ _ _ _ P Q w h.pb k.pb h.pm.1 h.pm.2.1 h.pm.2.2 k.pm.1 k.pm.2.1 k.pm.2.2 (Nat.le_refl _) (Nat.le_refl _)).mono ?_
  rintro e w' ⟨rfl, hb⟩
  exact ⟨by rw [hv], hb⟩
theorem extract9 (l : List UInt8) (k j : Nat) : (⟨l.toArray⟩ : ByteArray).extract k j = ⟨((l.drop k).take (j - k)).toArray⟩ := by
  apply ByteArray.ext
  simp [ByteArray.data_extract]
theorem bin_facts {P Q : GProg} {c : Bool} {l1 l2 x1 x2 : List UInt8} (hp : progOkF P = true) (hq : progOkF Q = true) (hc : progSame P Q = c) (h1 : binTxt P = l1) (h2 : binTxt Q = l2) (h3 : progTxt P = x1) (h4 : progTxt Q = x2) :
    (l1 == l2) = c ∧ (x1 == x2) = c ∧ (List.take l1.length l2 == l1) = c := by
  subst h1 h2 h3 h4
  have e1 := bin_same hp hq
  have e2 := txt_same hp hq
  rw [hc] at e1 e2
  refine ⟨by rw [← e1, Bool.eq_iff_iff, beq_iff_eq, decide_eq_true_eq], by rw [← e2, Bool.eq_iff_iff, beq_iff_eq, decide_eq_true_eq], ?_⟩
  rw [← hc, Bool.eq_iff_iff, beq_iff_eq, progSame_iff]
  exact ⟨binTxt_take hp hq, fun h => by rw [h, List.take_length]⟩

set_option maxHeartbeats 16000000 in
set_option maxRecDepth 100000 in
theorem fnBinApart_walk (x0 : Option Addr) (cap0 n0 : Nat) (hc0 : n0 ≤ cap0) (w : World) (h0 : BytesIn w w.heap.size x0 n0) (hp : pow10 w) (hl : lettersAt w) (hw : wordsAt w) :
    Calls Tryz.prog 5 #[.slice x0 n0 cap0] w fun e w' => e = .returned (.bool true) ∧ Below w.heap.size w w' := by
  have HT : Hid (Tabs w) := ⟨hp, hl, hw⟩
  clear hp hl hw
  by_cases l0 : 1048576 < n0
  · have k0 : (1048576 : Int) < (n0 : Int) := by omega
    go_enter Tryz.func5, Tryz.ntmps5
    go_wp2_with fail
    go_ret
    exact ⟨rfl, Below.refl _ _⟩
  have k0 : (n0 : Int) ≤ 1048576 := by omega
  go_enter Tryz.func5, Tryz.ntmps5
  go_wp2_with fail
  refine (drawProgSame_any x0 cap0 n0 w hc0 h0).mono ?_
  rintro e w1 ⟨⟨ts, gl, fs⟩, Q, a0, a1, a2, c0, c1, c2, b0, b1, b2, d0, d1, d2, rfl, hP1, hQ1, hqb1⟩
  clear hqb1
  simp only
  have P1 := hide hP1
  have Q1 := hide hQ1
  clear hP1 hQ1 h0
  go_upto_region 4 with fail
  have P2 := hide ((P1.out.alloc (.cells #[.slice a0 ts.length c0, .slice a1 gl.length c1, .slice a2 fs.length c2] 27)).alloc (.cells #[.slice b0 Q.types.length d0, .slice b1 Q.glob.length d1, .slice b2 Q.funs.length d2] 27))
  have Q2 := hide ((Q1.out.alloc (.cells #[.slice a0 ts.length c0, .slice a1 gl.length c1, .slice a2 fs.length c2] 27)).alloc (.cells #[.slice b0 Q.types.length d0, .slice b1 Q.glob.length d1, .slice b2 Q.funs.length d2] 27))
  have RP := hide ((Rec.new w1 27 [.slice a0 ts.length c0, .slice a1 gl.length c1, .slice a2 fs.length c2]).alloc (.cells #[.slice b0 Q.types.length d0, .slice b1 Q.glob.length d1, .slice b2 Q.funs.length d2] 27))
  have RQ := hide (Rec.new' (w1.alloc (.cells #[.slice a0 ts.length c0, .slice a1 gl.length c1, .slice a2 fs.length c2] 27)) 27 [.slice b0 Q.types.length d0, .slice b1 Q.glob.length d1, .slice b2 Q.funs.length d2] (w1.heap.size + 1) (by simp))
  obtain ⟨c, hcc⟩ : ∃ c, progSame ⟨ts, gl, fs⟩ Q = c := ⟨_, rfl⟩
  have HC := hide hcc
  clear hcc
  obtain ⟨l1, hl1⟩ : ∃ c, binTxt ⟨ts, gl, fs⟩ = c := ⟨_, rfl⟩
  have L1 := hide hl1
  obtain ⟨l2, hl2⟩ : ∃ c, binTxt Q = c := ⟨_, rfl⟩
  have L2 := hide hl2
  clear hl1 hl2
  generalize hw2 : (w1.alloc (.cells #[.slice a0 ts.length c0, .slice a1 gl.length c1, .slice a2 fs.length c2] 27)).alloc (.cells #[.slice b0 Q.types.length d0, .slice b1 Q.glob.length d1, .slice b2 Q.funs.length d2] 27) = w2 at *
  generalize hpb : w1.heap.size = pb at *
  generalize hqb : pb + 1 = qb at *
  have pq : pb < qb := by omega
  clear hw2 P1 Q1 hpb hqb
  have lp2 : pb < w2.heap.size := RP.out.lt
  have lq2 : qb < w2.heap.size := RQ.out.lt
  have p02 := RP.out.cell (o := 0) rfl
  have p12 := RP.out.cell (o := 1) rfl
  have p22 := RP.out.cell (o := 2) rfl
  have r02 := RQ.out.cell (o := 0) rfl
  have r12 := RQ.out.cell (o := 1) rfl
  have r22 := RQ.out.cell (o := 2) rfl
  clear RP RQ
  go_wp2_with fail
  refine (PS.implBin P2.out HT.out.1 L1.out).mono ?_
  rintro e w3 ⟨rfl, b3⟩
  have P3 := hide (P2.out.keep b3)
  have Q3 := hide (Q2.out.keep b3)
  have lp3 : pb < w3.heap.size := Nat.lt_of_lt_of_le lp2 b3.size
  have lq3 : qb < w3.heap.size := Nat.lt_of_lt_of_le lq2 b3.size
  have p03 := (b3.cell (p := ⟨pb, 0, none⟩) lp2).trans p02
  have p13 := (b3.cell (p := ⟨pb, 1, none⟩) lp2).trans p12
  have p23 := (b3.cell (p := ⟨pb, 2, none⟩) lp2).trans p22
  have r03 := (b3.cell (p := ⟨qb, 0, none⟩) lq2).trans r02
  have r13 := (b3.cell (p := ⟨qb, 1, none⟩) lq2).trans r12
  have r23 := (b3.cell (p := ⟨qb, 2, none⟩) lq2).trans r22
  clear b3
  clear P2 Q2 lp2 lq2 p02 p12 p22 r02 r12 r22
  go_wp2_with fail
  refine (PS.implBin Q3.out HT.out.1 L2.out).mono ?_
  rintro e w4 ⟨rfl, b4⟩
  have P4 := hide (P3.out.keep b4)
  have Q4 := hide (Q3.out.keep b4)
  have lp4 : pb < w4.heap.size := Nat.lt_of_lt_of_le lp3 b4.size
  have lq4 : qb < w4.heap.size := Nat.lt_of_lt_of_le lq3 b4.size
  have p04 := (b4.cell (p := ⟨pb, 0, none⟩) lp3).trans p03
  have p14 := (b4.cell (p := ⟨pb, 1, none⟩) lp3).trans p13
  have p24 := (b4.cell (p := ⟨pb, 2, none⟩) lp3).trans p23
  have r04 := (b4.cell (p := ⟨qb, 0, none⟩) lq3).trans r03
  have r14 := (b4.cell (p := ⟨qb, 1, none⟩) lq3).trans r13
  have r24 := (b4.cell (p := ⟨qb, 2, none⟩) lq3).trans r23
  clear b4
  clear P3 Q3 lp3 lq3 p03 p13 p23 r03 r13 r23
  go_wp2_with fail
  refine (PS.specBin P4.out L1.out).mono ?_
  rintro e w5 ⟨rfl, b5⟩
  have P5 := hide (P4.out.keep b5)
  have Q5 := hide (Q4.out.keep b5)
  have lp5 : pb < w5.heap.size := Nat.lt_of_lt_of_le lp4 b5.size
  have lq5 : qb < w5.heap.size := Nat.lt_of_lt_of_le lq4 b5.size
  have p05 := (b5.cell (p := ⟨pb, 0, none⟩) lp4).trans p04
  have p15 := (b5.cell (p := ⟨pb, 1, none⟩) lp4).trans p14
  have p25 := (b5.cell (p := ⟨pb, 2, none⟩) lp4).trans p24
  have r05 := (b5.cell (p := ⟨qb, 0, none⟩) lq4).trans r04
  have r15 := (b5.cell (p := ⟨qb, 1, none⟩) lq4).trans r14
  have r25 := (b5.cell (p := ⟨qb, 2, none⟩) lq4).trans r24
  clear b5
  clear P4 Q4 lp4 lq4 p04 p14 p24 r04 r14 r24
  go_wp2_with fail
  refine (PS.specBin Q5.out L2.out).mono ?_
  rintro e w6 ⟨rfl, b6⟩
  have P6 := hide (P5.out.keep b6)
  have Q6 := hide (Q5.out.keep b6)
  have lp6 : pb < w6.heap.size := Nat.lt_of_lt_of_le lp5 b6.size
  have lq6 : qb < w6.heap.size := Nat.lt_of_lt_of_le lq5 b6.size
  have p06 := (b6.cell (p := ⟨pb, 0, none⟩) lp5).trans p05
  have p16 := (b6.cell (p := ⟨pb, 1, none⟩) lp5).trans p15
  have p26 := (b6.cell (p := ⟨pb, 2, none⟩) lp5).trans p25
  have r06 := (b6.cell (p := ⟨qb, 0, none⟩) lq5).trans r05
  have r16 := (b6.cell (p := ⟨qb, 1, none⟩) lq5).trans r15
  have r26 := (b6.cell (p := ⟨qb, 2, none⟩) lq5).trans r25
  clear b6
  clear P5 Q5 lp5 lq5 p05 p15 p25 r05 r15 r25
  cases hkp : progOkF ⟨ts, gl, fs⟩
  · have e1 := L1.out
    rw [binTxt_none hkp] at e1
    subst e1
    clear hkp
    go_wp2_with fail
    refine (PS.specBin P6.out L1.out).mono ?_
    rintro e w7 ⟨rfl, b7⟩
    have P7 := hide (P6.out.keep b7)
    have Q7 := hide (Q6.out.keep b7)
    have lp7 : pb < w7.heap.size := Nat.lt_of_lt_of_le lp6 b7.size
    have lq7 : qb < w7.heap.size := Nat.lt_of_lt_of_le lq6 b7.size
    have p07 := (b7.cell (p := ⟨pb, 0, none⟩) lp6).trans p06
    have p17 := (b7.cell (p := ⟨pb, 1, none⟩) lp6).trans p16
    have p27 := (b7.cell (p := ⟨pb, 2, none⟩) lp6).trans p26
    have r07 := (b7.cell (p := ⟨qb, 0, none⟩) lq6).trans r06
    have r17 := (b7.cell (p := ⟨qb, 1, none⟩) lq6).trans r16
    have r27 := (b7.cell (p := ⟨qb, 2, none⟩) lq6).trans r26
    clear b7
    clear P6 Q6 lp6 lq6 p06 p16 p26 r06 r16 r26
    go_wp2_with fail
    refine (PS.specBin Q7.out L2.out).mono ?_
    rintro e w8 ⟨rfl, b8⟩
    have P8 := hide (P7.out.keep b8)
    have Q8 := hide (Q7.out.keep b8)
    have lp8 : pb < w8.heap.size := Nat.lt_of_lt_of_le lp7 b8.size
    have lq8 : qb < w8.heap.size := Nat.lt_of_lt_of_le lq7 b8.size
    have p08 := (b8.cell (p := ⟨pb, 0, none⟩) lp7).trans p07
    have p18 := (b8.cell (p := ⟨pb, 1, none⟩) lp7).trans p17
    have p28 := (b8.cell (p := ⟨pb, 2, none⟩) lp7).trans p27
    have r08 := (b8.cell (p := ⟨qb, 0, none⟩) lq7).trans r07
    have r18 := (b8.cell (p := ⟨qb, 1, none⟩) lq7).trans r17
    have r28 := (b8.cell (p := ⟨qb, 2, none⟩) lq7).trans r27
    clear b8
    clear P7 Q7 lp7 lq7 p07 p17 p27 r07 r17 r27
    go_wp2_with fail
    go_ret
    exact ⟨rfl, P8.out.bel⟩
  cases hkq : progOkF Q
  · have e2 := L2.out
    rw [binTxt_none hkq] at e2
    subst e2
    have n1 : l1.isEmpty = false := by have := binTxt_some hkp; rw [L1.out] at this; cases l1 <;> simp at this ⊢
    clear hkp hkq
    go_wp2_with fail
    refine (PS.specBin P6.out L1.out).mono ?_
    rintro e w7 ⟨rfl, b7⟩
    have P7 := hide (P6.out.keep b7)
    have Q7 := hide (Q6.out.keep b7)
    have lp7 : pb < w7.heap.size := Nat.lt_of_lt_of_le lp6 b7.size
    have lq7 : qb < w7.heap.size := Nat.lt_of_lt_of_le lq6 b7.size
    have p07 := (b7.cell (p := ⟨pb, 0, none⟩) lp6).trans p06
    have p17 := (b7.cell (p := ⟨pb, 1, none⟩) lp6).trans p16
    have p27 := (b7.cell (p := ⟨pb, 2, none⟩) lp6).trans p26
    have r07 := (b7.cell (p := ⟨qb, 0, none⟩) lq6).trans r06
    have r17 := (b7.cell (p := ⟨qb, 1, none⟩) lq6).trans r16
    have r27 := (b7.cell (p := ⟨qb, 2, none⟩) lq6).trans r26
    clear b7
    clear P6 Q6 lp6 lq6 p06 p16 p26 r06 r16 r26
    go_wp2_with fail
    refine (PS.specBin Q7.out L2.out).mono ?_
    rintro e w8 ⟨rfl, b8⟩
    have P8 := hide (P7.out.keep b8)
    have Q8 := hide (Q7.out.keep b8)
    have lp8 : pb < w8.heap.size := Nat.lt_of_lt_of_le lp7 b8.size
    have lq8 : qb < w8.heap.size := Nat.lt_of_lt_of_le lq7 b8.size
    have p08 := (b8.cell (p := ⟨pb, 0, none⟩) lp7).trans p07
    have p18 := (b8.cell (p := ⟨pb, 1, none⟩) lp7).trans p17
    have p28 := (b8.cell (p := ⟨pb, 2, none⟩) lp7).trans p27
    have r08 := (b8.cell (p := ⟨qb, 0, none⟩) lq7).trans r07
    have r18 := (b8.cell (p := ⟨qb, 1, none⟩) lq7).trans r17
    have r28 := (b8.cell (p := ⟨qb, 2, none⟩) lq7).trans r27
    clear b8
    clear P7 Q7 lp7 lq7 p07 p17 p27 r07 r17 r27
    go_wp2_with fail
    go_ret
    exact ⟨rfl, P8.out.bel⟩
  have n1 : l1.isEmpty = false := by have := binTxt_some hkp; rw [L1.out] at this; cases l1 <;> simp at this ⊢
  have n2 : l2.isEmpty = false := by have := binTxt_some hkq; rw [L2.out] at this; cases l2 <;> simp at this ⊢
  obtain ⟨x1, hx1⟩ : ∃ c, progTxt ⟨ts, gl, fs⟩ = c := ⟨_, rfl⟩
  have X1 := hide hx1
  obtain ⟨x2, hx2⟩ : ∃ c, progTxt Q = c := ⟨_, rfl⟩
  have X2 := hide hx2
  obtain ⟨e1, e2, e3⟩ := bin_facts hkp hkq HC.out L1.out L2.out hx1 hx2
  clear hkp hkq hx1 hx2
  have EX := extract9 l2 0 l1.length
  by_cases hle : l1.length ≤ l2.length
  · have hle2 : (l1.length : Int) ≤ (l2.length : Int) := by omega
    go_wp2_with fail
    go_region_held3 (fun w' => w'.cell? ⟨pb, 0, none⟩ = some (.slice a0 ts.length c0) ∧ w'.cell? ⟨pb, 1, none⟩ = some (.slice a1 gl.length c1) ∧ w'.cell? ⟨pb, 2, none⟩ = some (.slice a2 fs.length c2) ∧ w'.cell? ⟨qb, 0, none⟩ = some (.slice b0 Q.types.length d0) ∧ w'.cell? ⟨qb, 1, none⟩ = some (.slice b1 Q.glob.length d1) ∧ w'.cell? ⟨qb, 2, none⟩ = some (.slice b2 Q.funs.length d2)) (go_keep) ((first
      | (go_at_call 7; refine (PS.implText9 Q8.out HT.out X2.out).mono ?_; rintro e w9 ⟨rfl, b9⟩; have P9 := hide (P8.out.keep b9); have Q9 := hide (Q8.out.keep b9); have lp9 : pb < w9.heap.size := Nat.lt_of_lt_of_le lp8 b9.size; have lq9 : qb < w9.heap.size := Nat.lt_of_lt_of_le lq8 b9.size; have p09 := (b9.cell (p := ⟨pb, 0, none⟩) lp8).trans p08; have p19 := (b9.cell (p := ⟨pb, 1, none⟩) lp8).trans p18; have p29 := (b9.cell (p := ⟨pb, 2, none⟩) lp8).trans p28; have r09 := (b9.cell (p := ⟨qb, 0, none⟩) lq8).trans r08; have r19 := (b9.cell (p := ⟨qb, 1, none⟩) lq8).trans r18; have r29 := (b9.cell (p := ⟨qb, 2, none⟩) lq8).trans r28; clear b9)
      | (go_at_call 7; refine (PS.implText9 P7.out HT.out X1.out).mono ?_; rintro e w8 ⟨rfl, b8⟩; have P8 := hide (P7.out.keep b8); have Q8 := hide (Q7.out.keep b8); have lp8 : pb < w8.heap.size := Nat.lt_of_lt_of_le lp7 b8.size; have lq8 : qb < w8.heap.size := Nat.lt_of_lt_of_le lq7 b8.size; have p08 := (b8.cell (p := ⟨pb, 0, none⟩) lp7).trans p07; have p18 := (b8.cell (p := ⟨pb, 1, none⟩) lp7).trans p17; have p28 := (b8.cell (p := ⟨pb, 2, none⟩) lp7).trans p27; have r08 := (b8.cell (p := ⟨qb, 0, none⟩) lq7).trans r07; have r18 := (b8.cell (p := ⟨qb, 1, none⟩) lq7).trans r17; have r28 := (b8.cell (p := ⟨qb, 2, none⟩) lq7).trans r27; clear b8)
      | (go_at_call 12; refine (PS.implSame9 (PS.keep P6.out ((Below.refl _ _).drew)) (PS.keep Q6.out ((Below.refl _ _).drew)) HC.out).mono ?_; rintro e w7 ⟨rfl, b7⟩; have P7 := hide ((PS.keep P6.out ((Below.refl _ _).drew)).keep b7); have Q7 := hide ((PS.keep Q6.out ((Below.refl _ _).drew)).keep b7); have lp7 : pb < w7.heap.size := Nat.lt_of_lt_of_le lp6 b7.size; have lq7 : qb < w7.heap.size := Nat.lt_of_lt_of_le lq6 b7.size; have p07 := (b7.cell (p := ⟨pb, 0, none⟩) lp6).trans p06; have p17 := (b7.cell (p := ⟨pb, 1, none⟩) lp6).trans p16; have p27 := (b7.cell (p := ⟨pb, 2, none⟩) lp6).trans p26; have r07 := (b7.cell (p := ⟨qb, 0, none⟩) lq6).trans r06; have r17 := (b7.cell (p := ⟨qb, 1, none⟩) lq6).trans r16; have r27 := (b7.cell (p := ⟨qb, 2, none⟩) lq6).trans r26; clear b7)))
    go_wp2_with fail
    go_ret
    refine ⟨ret_bool ?_, P9.out.bel⟩
    simp [e1, e2, e3]
  · have hle2 : ¬ (l1.length : Int) ≤ (l2.length : Int) := by omega
    obtain rfl : c = false := by
      rw [← e1]
      simp only [beq_eq_false_iff_ne]
      rintro rfl
      exact hle (Nat.le_refl _)
    go_wp2_with fail
    go_region_held3 (fun w' => w'.cell? ⟨pb, 0, none⟩ = some (.slice a0 ts.length c0) ∧ w'.cell? ⟨pb, 1, none⟩ = some (.slice a1 gl.length c1) ∧ w'.cell? ⟨pb, 2, none⟩ = some (.slice a2 fs.length c2) ∧ w'.cell? ⟨qb, 0, none⟩ = some (.slice b0 Q.types.length d0) ∧ w'.cell? ⟨qb, 1, none⟩ = some (.slice b1 Q.glob.length d1) ∧ w'.cell? ⟨qb, 2, none⟩ = some (.slice b2 Q.funs.length d2)) (go_keep) ((first
      | (go_at_call 7; refine (PS.implText9 Q8.out HT.out X2.out).mono ?_; rintro e w9 ⟨rfl, b9⟩; have P9 := hide (P8.out.keep b9); have Q9 := hide (Q8.out.keep b9); have lp9 : pb < w9.heap.size := Nat.lt_of_lt_of_le lp8 b9.size; have lq9 : qb < w9.heap.size := Nat.lt_of_lt_of_le lq8 b9.size; have p09 := (b9.cell (p := ⟨pb, 0, none⟩) lp8).trans p08; have p19 := (b9.cell (p := ⟨pb, 1, none⟩) lp8).trans p18; have p29 := (b9.cell (p := ⟨pb, 2, none⟩) lp8).trans p28; have r09 := (b9.cell (p := ⟨qb, 0, none⟩) lq8).trans r08; have r19 := (b9.cell (p := ⟨qb, 1, none⟩) lq8).trans r18; have r29 := (b9.cell (p := ⟨qb, 2, none⟩) lq8).trans r28; clear b9)
      | (go_at_call 7; refine (PS.implText9 P7.out HT.out X1.out).mono ?_; rintro e w8 ⟨rfl, b8⟩; have P8 := hide (P7.out.keep b8); have Q8 := hide (Q7.out.keep b8); have lp8 : pb < w8.heap.size := Nat.lt_of_lt_of_le lp7 b8.size; have lq8 : qb < w8.heap.size := Nat.lt_of_lt_of_le lq7 b8.size; have p08 := (b8.cell (p := ⟨pb, 0, none⟩) lp7).trans p07; have p18 := (b8.cell (p := ⟨pb, 1, none⟩) lp7).trans p17; have p28 := (b8.cell (p := ⟨pb, 2, none⟩) lp7).trans p27; have r08 := (b8.cell (p := ⟨qb, 0, none⟩) lq7).trans r07; have r18 := (b8.cell (p := ⟨qb, 1, none⟩) lq7).trans r17; have r28 := (b8.cell (p := ⟨qb, 2, none⟩) lq7).trans r27; clear b8)
      | (go_at_call 12; refine (PS.implSame9 (PS.keep P6.out ((Below.refl _ _).drew)) (PS.keep Q6.out ((Below.refl _ _).drew)) HC.out).mono ?_; rintro e w7 ⟨rfl, b7⟩; have P7 := hide ((PS.keep P6.out ((Below.refl _ _).drew)).keep b7); have Q7 := hide ((PS.keep Q6.out ((Below.refl _ _).drew)).keep b7); have lp7 : pb < w7.heap.size := Nat.lt_of_lt_of_le lp6 b7.size; have lq7 : qb < w7.heap.size := Nat.lt_of_lt_of_le lq6 b7.size; have p07 := (b7.cell (p := ⟨pb, 0, none⟩) lp6).trans p06; have p17 := (b7.cell (p := ⟨pb, 1, none⟩) lp6).trans p16; have p27 := (b7.cell (p := ⟨pb, 2, none⟩) lp6).trans p26; have r07 := (b7.cell (p := ⟨qb, 0, none⟩) lq6).trans r06; have r17 := (b7.cell (p := ⟨qb, 1, none⟩) lq6).trans r16; have r27 := (b7.cell (p := ⟨qb, 2, none⟩) lq6).trans r26; clear b7)))
    go_wp2_with fail
    go_ret
    refine ⟨ret_bool ?_, P9.out.bel⟩
    simp [e1, e2, e3]
end Go.Proofs.YtblliefejffhoaaGreatDoor
