/- The law of programs that are not right. Written by tools/made/fnprogbent.py. -/
import Derived.Test.YtblliefejffhoaaDoorProgS
import Derived.Test.YtblliefejffhoaaDoorPbRow
import Derived.Test.YtblliefejffhoaaDoorPbOk
import Derived.Test.YtblliefejffhoaaDoorPbProg
import Derived.Deep.CutRange
namespace Go.Proofs.YtblliefejffhoaaDoor
open Go.ChangeShapes Go.WideShapes Go.ChangeAt Go.RowKit Go.Deep
set_option linter.unusedVariables false
set_option linter.unusedSimpArgs false

theorem PS.of {w0 w1 w' : World} {pb : Nat} {e0 e1 a2 : Option Addr} {d0 cap : Nat} {ts : List (List Ty)} {gl : List Fd} {f' : GFun} {r : List GFun} {ys zs : List Value} (h0 : Below w0.heap.size w0 w1) (hp : w0.heap.size ≤ pb) (hpw : pb ≤ w'.heap.size)
    (hg : GroupsM false w1 w0.heap.size pb e0 ts) (hgl : FieldsM false w1 w0.heap.size pb e1 gl) (hb : Below pb w1 w') (hL : FunL w' w0.heap.size w'.heap.size ys r) (hz : FunC w' w0.heap.size w'.heap.size zs 0 f') (hzl : zs.length = 6)
    (ho : w'.ownsRow pb 34 6 (.slice a2 (r.length + 1) cap) (r.length + 1) (zs ++ ys)) (hc : ts.length ≤ d0) (hF : Few ts) (hG : gl.length ≤ 1048576) (hr : r.length ≤ 1000000) (hf : FunB 1048576 f') (hfs : ∀ i, i < r.length → FunB 1048576 (funAt' r i)) :
    PS w0 w' e0 e1 a2 d0 cap ⟨ts, gl, f' :: r⟩ := by
  refine ⟨⟨(hg.keep hb).wide (Nat.le_refl _) hpw, (hgl.keep hb).wide (Nat.le_refl _) hpw, (hL.cons hz hzl).funs (S := pb) ho hp⟩, ⟨hF, hG, by show (f' :: r).length ≤ _; simp; omega, fun i hi => ?_⟩, hc, owns_cap ho, h0.trans (hb.mono hp)⟩
  cases i with
  | zero => exact hf
  | succ i => exact hfs i (by simpa using hi)

set_option maxHeartbeats 16000000 in
set_option maxRecDepth 100000 in
theorem fnProgBent_walk (a0 : Option Addr) (cap0 n0 : Nat) (hc0 : n0 ≤ cap0) (w : World) (h0 : BytesIn w w.heap.size a0 n0) (hT : pow10 w) :
    Calls Tryd.prog 3 #[.slice a0 n0 cap0] w fun e w' => e = .returned (.bool true) ∧ Below w.heap.size w w' := by
  have ht := hide hT
  clear hT
  by_cases l0 : 1048576 < n0
  · have k0 : (1048576 : Int) < (n0 : Int) := by omega
    go_enter Tryd.func3, Tryd.ntmps3
    go_wp2_with fail
    go_ret
    exact ⟨rfl, Below.refl _ _⟩
  have k0 : (n0 : Int) ≤ 1048576 := by omega
  go_enter Tryd.func3, Tryd.ntmps3
  go_wp2_with fail
  refine (drawProgOk_any a0 cap0 n0 w hc0 h0).mono ?_
  rintro e w1 ⟨⟨ts, gl, fs⟩, e0, e1, e2, d0, d1, d2, rfl, hP1⟩
  have P1 := hide hP1
  have P2 := hide (hP1.alloc (.cells #[.slice e0 ts.length d0, .slice e1 gl.length d1, .slice e2 fs.length d2] 27))
  have R2 := hide (Rec.new w1 27 [.slice e0 ts.length d0, .slice e1 gl.length d1, .slice e2 fs.length d2])
  have B2 : Hid (Below w1.heap.size w1 (w1.alloc (.cells #[.slice e0 ts.length d0, .slice e1 gl.length d1, .slice e2 fs.length d2] 27))) := (Below.refl _ _).alloc (Nat.le_refl _) _
  clear hP1 h0
  cases hk : progOkF ⟨ts, gl, fs⟩
  · have HK := hide hk
    clear hk
    go_upto_region 4 with fail
    generalize hw2 : w1.alloc (.cells #[.slice e0 ts.length d0, .slice e1 gl.length d1, .slice e2 fs.length d2] 27) = w2 at *
    generalize hpb : w1.heap.size = pb at *
    clear hw2
    have lt2 : pb < w2.heap.size := R2.out.lt
    have q02 := R2.out.cell (o := 0) rfl
    have q12 := R2.out.cell (o := 1) rfl
    have q22 := R2.out.cell (o := 2) rfl
    go_wp2_with fail
    go_region_held3 (fun w' => w'.cell? ⟨pb, 0, none⟩ = some (.slice e0 ts.length d0) ∧ w'.cell? ⟨pb, 1, none⟩ = some (.slice e1 gl.length d1) ∧ w'.cell? ⟨pb, 2, none⟩ = some (.slice e2 fs.length d2)) (go_keep) ((first
      | (go_at_call 6; refine (PS.specOk P4.out HK.out).mono ?_; rintro e w5 ⟨rfl, b5, p5⟩; have P5 := hide p5; have lt5 : pb < w5.heap.size := Nat.lt_of_lt_of_le lt4 b5.size; have q05 := (b5.cell (p := ⟨pb, 0, none⟩) lt4).trans q04; have q15 := (b5.cell (p := ⟨pb, 1, none⟩) lt4).trans q14; have q25 := (b5.cell (p := ⟨pb, 2, none⟩) lt4).trans q24; have B5 := hide (B4.out.trans (b5.mono (Nat.le_of_lt lt4))); clear p5 b5)
      | (go_at_call 6; refine (PS.specOk P3.out HK.out).mono ?_; rintro e w4 ⟨rfl, b4, p4⟩; have P4 := hide p4; have lt4 : pb < w4.heap.size := Nat.lt_of_lt_of_le lt3 b4.size; have q04 := (b4.cell (p := ⟨pb, 0, none⟩) lt3).trans q03; have q14 := (b4.cell (p := ⟨pb, 1, none⟩) lt3).trans q13; have q24 := (b4.cell (p := ⟨pb, 2, none⟩) lt3).trans q23; have B4 := hide (B3.out.trans (b4.mono (Nat.le_of_lt lt3))); clear p4 b4)
      | (go_at_call 5; refine (PS.implOk (PS.keep P2.out ((Below.refl _ _).drew)) ht.out HK.out).mono ?_; rintro e w3 ⟨rfl, b3, p3⟩; have P3 := hide p3; have lt3 : pb < w3.heap.size := Nat.lt_of_lt_of_le lt2 b3.size; have q03 := (b3.cell (p := ⟨pb, 0, none⟩) lt2).trans q02; have q13 := (b3.cell (p := ⟨pb, 1, none⟩) lt2).trans q12; have q23 := (b3.cell (p := ⟨pb, 2, none⟩) lt2).trans q22; have B3 := hide ((B2.out.drew).trans (b3.mono (Nat.le_of_lt lt2))); clear p3 b3)))
    go_wp2_with fail
    go_region_held3 (fun w' => w'.cell? ⟨pb, 0, none⟩ = some (.slice e0 ts.length d0) ∧ w'.cell? ⟨pb, 1, none⟩ = some (.slice e1 gl.length d1) ∧ w'.cell? ⟨pb, 2, none⟩ = some (.slice e2 fs.length d2)) (go_keep) ((first
      | (go_at_call 6; refine (PS.specOk P6.out HK.out).mono ?_; rintro e w7 ⟨rfl, b7, p7⟩; have P7 := hide p7; have lt7 : pb < w7.heap.size := Nat.lt_of_lt_of_le lt6 b7.size; have q07 := (b7.cell (p := ⟨pb, 0, none⟩) lt6).trans q06; have q17 := (b7.cell (p := ⟨pb, 1, none⟩) lt6).trans q16; have q27 := (b7.cell (p := ⟨pb, 2, none⟩) lt6).trans q26; have B7 := hide (B6.out.trans (b7.mono (Nat.le_of_lt lt6))); clear p7 b7)
      | (go_at_call 5; refine (PS.implOk (PS.keep P5.out ((Below.refl _ _).drew)) ht.out HK.out).mono ?_; rintro e w6 ⟨rfl, b6, p6⟩; have P6 := hide p6; have lt6 : pb < w6.heap.size := Nat.lt_of_lt_of_le lt5 b6.size; have q06 := (b6.cell (p := ⟨pb, 0, none⟩) lt5).trans q05; have q16 := (b6.cell (p := ⟨pb, 1, none⟩) lt5).trans q15; have q26 := (b6.cell (p := ⟨pb, 2, none⟩) lt5).trans q25; have B6 := hide ((B5.out.drew).trans (b6.mono (Nat.le_of_lt lt5))); clear p6 b6)))
    go_wp2_with fail
    go_ret
    exact ⟨rfl, P7.out.bel⟩
  have HK := hide hk
  clear hk
  go_upto_region 4 with fail
  generalize hw2 : w1.alloc (.cells #[.slice e0 ts.length d0, .slice e1 gl.length d1, .slice e2 fs.length d2] 27) = w2 at *
  generalize hpb : w1.heap.size = pb at *
  clear hw2
  have lt2 : pb < w2.heap.size := R2.out.lt
  have q02 := R2.out.cell (o := 0) rfl
  have q12 := R2.out.cell (o := 1) rfl
  have q22 := R2.out.cell (o := 2) rfl
  go_wp2_with fail
  go_region_held3 (fun w' => w'.cell? ⟨pb, 0, none⟩ = some (.slice e0 ts.length d0) ∧ w'.cell? ⟨pb, 1, none⟩ = some (.slice e1 gl.length d1) ∧ w'.cell? ⟨pb, 2, none⟩ = some (.slice e2 fs.length d2)) (go_keep) ((first
    | (go_at_call 6; refine (PS.specOk P4.out HK.out).mono ?_; rintro e w5 ⟨rfl, b5, p5⟩; have P5 := hide p5; have lt5 : pb < w5.heap.size := Nat.lt_of_lt_of_le lt4 b5.size; have q05 := (b5.cell (p := ⟨pb, 0, none⟩) lt4).trans q04; have q15 := (b5.cell (p := ⟨pb, 1, none⟩) lt4).trans q14; have q25 := (b5.cell (p := ⟨pb, 2, none⟩) lt4).trans q24; have B5 := hide (B4.out.trans (b5.mono (Nat.le_of_lt lt4))); clear p5 b5)
    | (go_at_call 6; refine (PS.specOk P3.out HK.out).mono ?_; rintro e w4 ⟨rfl, b4, p4⟩; have P4 := hide p4; have lt4 : pb < w4.heap.size := Nat.lt_of_lt_of_le lt3 b4.size; have q04 := (b4.cell (p := ⟨pb, 0, none⟩) lt3).trans q03; have q14 := (b4.cell (p := ⟨pb, 1, none⟩) lt3).trans q13; have q24 := (b4.cell (p := ⟨pb, 2, none⟩) lt3).trans q23; have B4 := hide (B3.out.trans (b4.mono (Nat.le_of_lt lt3))); clear p4 b4)
    | (go_at_call 5; refine (PS.implOk (PS.keep P2.out ((Below.refl _ _).drew)) ht.out HK.out).mono ?_; rintro e w3 ⟨rfl, b3, p3⟩; have P3 := hide p3; have lt3 : pb < w3.heap.size := Nat.lt_of_lt_of_le lt2 b3.size; have q03 := (b3.cell (p := ⟨pb, 0, none⟩) lt2).trans q02; have q13 := (b3.cell (p := ⟨pb, 1, none⟩) lt2).trans q12; have q23 := (b3.cell (p := ⟨pb, 2, none⟩) lt2).trans q22; have B3 := hide ((B2.out.drew).trans (b3.mono (Nat.le_of_lt lt2))); clear p3 b3)))
  obtain ⟨f, r, hfr⟩ := progOk_cons (P := ⟨ts, gl, fs⟩) HK.out
  simp only at hfr
  subst hfr
  have PF := P1.out.pb.2.2
  have PG := hide P1.out.pb.1
  have PL : gl.length ≤ 1048576 := P1.out.pb.2.1
  have rl : r.length + 1 ≤ 1048576 := by have := PF.1; simpa using this
  have hF0 : Hid (FunB 1048576 f) := PF.2 0 (by simp)
  have hFr : Hid (∀ i, i < r.length → FunB 1048576 (funAt' r i)) := fun i hi => PF.2 (i + 1) (by simp; omega)
  have r5 : r.length + 1 ≤ 5 := by have := (smallQ HK.out); simpa using this
  have dcap : r.length + 1 ≤ d2 := by have := P1.out.hf; simpa using this
  clear PF
  obtain ⟨ys, hYL, hYC⟩ := FunL.of P1.out.pm.2.2 (Nat.le_refl _)
  obtain ⟨fb, off, he2, hfbl, hcell⟩ : ∃ fb off, e2 = some ⟨fb, off, none⟩ ∧ fb < pb ∧ ∀ (j : Nat) (u : Value), ys[j]? = some u → w1.cell? ⟨fb, off + j, none⟩ = some u := by
    rcases hYC with h | ⟨b, o, h1, h2, h3⟩
    · simp at h
    · exact ⟨b, o, h1, by rw [← hpb]; exact h2, h3⟩
  subst he2
  have YL := hide hYL
  have YC := hide hYC
  obtain ⟨x0, y0, x4, y4, x5, y5, u0, u1, u2, u3, u4, u5, l0', l4', l5'⟩ := hYL.first
  obtain ⟨tk, ⟨gk, go, gm⟩, ow, bd⟩ := f
  simp only at u0 u1 u2 u3 u4 u5 l0' l4' l5'
  have L0 := hide l0'
  have L4 := hide l4'
  have L5 := hide l5'
  have lt1 : pb ≤ w1.heap.size := by omega
  have F0 := hide (hcell _ _ u0)
  have F1 := hide (hcell _ _ u1)
  have F2 := hide (hcell _ _ u2)
  have F3 := hide (hcell _ _ u3)
  have F4 := hide (hcell _ _ u4)
  have F5 := hide (hcell _ _ u5)
  have hHYC := hide (CellsAt.next (size := 6) (n := r.length) YC.out)
  clear hYL hYC hcell u0 u1 u2 u3 u4 u5 l0' l4' l5' YC
  obtain ⟨j0, hj0, hzz⟩ := Option.map_eq_some_iff.1 Tryd.infoFun
  simp only [Prod.mk.injEq] at hzz
  obtain ⟨hz0, hs0, hb0⟩ := hzz
  have JZ := hide hz0
  have JS := hide hs0
  have JB := hide hb0
  have JI := hide hj0
  clear hz0 hs0 hb0 hj0
  have q25' : w5.cell? ⟨pb, 2, none⟩ = some (.slice (some ⟨fb, off, none⟩) (r.length + 1) d2) := q25
  have i1 : (1 : Int) ≤ (r.length : Int) + 1 := by omega
  have i2 : (r.length : Int) + 1 ≤ (d2 : Int) := by omega
  clear q02 q12 q22 q03 q13 q23 q04 q14 q24 q25 lt2 lt3 lt4 P2 P3 P4 B3 B4
  have PMx : Hid (PM false w1 w.heap.size pb e0 e1 (some ⟨fb, off, none⟩) ⟨ts, gl, ⟨tk, ⟨gk, go, gm⟩, ow, bd⟩ :: r⟩) := hpb ▸ P1.out.pm
  have YLx : Hid (FunL w1 w.heap.size pb ys (⟨tk, ⟨gk, go, gm⟩, ow, bd⟩ :: r)) := hpb ▸ YL.out
  have L0x : Hid (FieldsM false w1 w.heap.size pb x0 tk) := hpb ▸ L0.out
  have L4x : Hid (FieldsM false w1 w.heap.size pb x4 ow) := hpb ▸ L4.out
  have L5x : Hid (InssM false w1 w.heap.size pb x5 bd) := hpb ▸ L5.out
  have hwp : w.heap.size ≤ pb := by rw [← hpb]; exact P1.out.bel.size
  have BW1 := hide P1.out.bel
  have hdc : ts.length ≤ d0 := P1.out.hc
  have q05' : w5.cell? ⟨pb, 0, none⟩ = some (.slice e0 ts.length d0) := q05
  have q15' : w5.cell? ⟨pb, 1, none⟩ = some (.slice e1 gl.length d1) := q15
  clear q05 q15 YL L0 L4 L5 P1 P5
  go_upto_region 6 with fail
  go_cut [4] from 30 to 34 (fun rv wx => ∃ (nb nc : Nat), rv = .slice (some ⟨nb, 0, none⟩) r.length nc ∧ Hid (wx.ownsRow pb 34 6 (.slice (some ⟨nb, 0, none⟩) r.length nc) r.length (ys.drop 6)) ∧ Hid (Below w5.heap.size w5 wx))
  case first =>
    have EO : Hid ((w5.alloc (.cells #[] 34)).ownsRow pb 34 6 (.slice (some ⟨w5.heap.size, 0, none⟩) 0 0) 0 []) := ⟨rfl, .inr ⟨w5.heap.size, 0, #[], rfl, Nat.le_of_lt lt5, Deep.blk_alloc_new _ _, Nat.le_refl _, by unfold maxLen; omega, rfl, rfl⟩⟩
    have bA : Below pb w1 (w5.alloc (.cells #[] 34)) := B5.out.alloc (Nat.le_of_lt lt5) _
    have YL6 := hide (YLx.out.tail)
    have hle : (ys.drop 6).length = r.length * 6 := YL6.out.1
    have CA : ∀ fa, (fa = some ⟨fb, off, none⟩ ∧ r.length = 0 ∨ fa = some ⟨fb, off + 6, none⟩) → CellsAt (w5.alloc (.cells #[] 34)) fa r.length (ys.drop 6) := fun fa hfa => by
      rcases hfa with ⟨rfl, h⟩ | rfl
      · exact .inl h
      · rcases hHYC.out with h | ⟨b, o, h1, h2, h3⟩
        · exact .inl h
        · obtain ⟨rfl, rfl⟩ : fb = b ∧ off + 6 = o := by simpa using h1
          exact .inr ⟨fb, off + 6, rfl, by have := bA.size; omega, fun j u hj => by rw [bA.cell (p := ⟨fb, off + 6 + j, none⟩) hfbl]; exact h3 j u hj⟩
    have HCA := hide CA
    have HLE := hide hle
    clear CA hle bA
    by_cases hd1 : d2 = 1
    · subst hd1
      have hr0 : r.length = 0 := by omega
      have HR0 := hide hr0
      have HE : Hid (ys.drop 6 = []) := List.length_eq_zero_iff.1 (by rw [HLE.out, hr0])
      clear hr0
      go_wp2_with (first | (at_builtin; refine wpList_copy_row _ rfl _ _ 25 34 rfl j0 _ 6 96 Tryd.underlying25 JI.out JZ.out JS.out JB.out rfl (by decide) (by decide) pb (some ⟨w5.heap.size, 0, none⟩) (some ⟨fb, off, none⟩) 0 0 [] rfl rfl EO.out rfl (.inl rfl) (fun u hu => by cases hu) (by omega) (by simp; omega) ?_; intro na nc w6 hown6 hb6 hx6))
      all_goals
        go_wp2_with fail
        go_meet
        rcases hx6 with rfl | ⟨rfl, _⟩
        · exact ⟨_, _, by rw [HR0.out], by rw [HR0.out, HE.out]; exact hown6, ((Below.refl _ _).alloc (Nat.le_refl _) _).trans (hb6.mono (by simp))⟩
        · exact ⟨_, _, by rw [HR0.out], by rw [HR0.out, HE.out]; exact hown6, ((Below.refl _ _).alloc (Nat.le_refl _) _).trans (hb6.mono (by simp))⟩
    · have hd2 : 1 < d2 := by omega
      have hd3 : (1 : Int) < (d2 : Int) := by omega
      go_wp2_with (first | (at_builtin; refine wpList_copy_row _ rfl _ _ 25 34 rfl j0 _ 6 96 Tryd.underlying25 JI.out JZ.out JS.out JB.out rfl (by decide) (by decide) pb (some ⟨w5.heap.size, 0, none⟩) (some ⟨fb, off + 6, none⟩) (d2 - 1) r.length (ys.drop 6) rfl rfl EO.out HLE.out (HCA.out _ (.inr rfl)) YL6.out.one (by omega) (by simp; omega) ?_; intro na nc w6 hown6 hb6 hx6))
      all_goals
        go_wp2_with fail
        go_meet
        rcases hx6 with rfl | ⟨rfl, _⟩
        · exact ⟨_, _, rfl, hown6, ((Below.refl _ _).alloc (Nat.le_refl _) _).trans (hb6.mono (by simp))⟩
        · exact ⟨_, _, rfl, hown6, ((Below.refl _ _).alloc (Nat.le_refl _) _).trans (hb6.mono (by simp))⟩
  case rest =>
    obtain ⟨nb, nc, rfl, HRW, HBc⟩ := hcut
    have ltc : pb < wc.heap.size := Nat.lt_of_lt_of_le lt5 HBc.out.size
    have q0c := (HBc.out.cell (p := ⟨pb, 0, none⟩) lt5).trans q05'
    have q1c := (HBc.out.cell (p := ⟨pb, 1, none⟩) lt5).trans q15'
    have q2c := (HBc.out.cell (p := ⟨pb, 2, none⟩) lt5).trans q25'
    have BC := hide (B5.out.trans (HBc.out.mono (Nat.le_of_lt lt5)))
    clear q05' q15' q25' HBc B5 lt5 R2 B2
    go_upto_region 8 with fail
    have B7 := hide (BC.out.alloc (Nat.le_of_lt ltc) (.cells #[.int .i64 3, .int .i64 (-1), .bool false] 31))
    have C7 : Hid (Below wc.heap.size wc (wc.alloc (.cells #[.int .i64 3, .int .i64 (-1), .bool false] 31))) := (Below.refl _ _).alloc (Nat.le_refl _) _
    have S7 := hide (Rec.new wc 31 [.int .i64 3, .int .i64 (-1), .bool false])
    have z7 : wc.heap.size < (wc.alloc (.cells #[.int .i64 3, .int .i64 (-1), .bool false] 31)).heap.size := by simp
    generalize hsb : wc.heap.size = sb at S7
    have hsbp : pb < sb := by omega
    generalize hw7 : wc.alloc (.cells #[.int .i64 3, .int .i64 (-1), .bool false] 31) = w7 at *
    clear hw7
    have p09 := (C7.out.cell (p := ⟨pb, 0, none⟩) ltc).trans q0c
    have p19 := (C7.out.cell (p := ⟨pb, 1, none⟩) ltc).trans q1c
    have p29 := (C7.out.cell (p := ⟨pb, 2, none⟩) ltc).trans q2c
    go_upto_region 9 with fail
    clear p09 p19 p29
    have ltp9 : wc.heap.size < w7.heap.size := z7
    have B9 := hide (B7.out.alloc (by omega) (.cells #[.slice e0 ts.length d0, .slice e1 gl.length d1, .slice (some ⟨fb, off, none⟩) (r.length + 1) d2] 27))
    have C9 := hide (C7.out.alloc (Nat.le_of_lt z7) (.cells #[.slice e0 ts.length d0, .slice e1 gl.length d1, .slice (some ⟨fb, off, none⟩) (r.length + 1) d2] 27))
    have S9 := hide (S7.out.alloc (.cells #[.slice e0 ts.length d0, .slice e1 gl.length d1, .slice (some ⟨fb, off, none⟩) (r.length + 1) d2] 27))
    have T9 := hide (Rec.new w7 27 [.slice e0 ts.length d0, .slice e1 gl.length d1, .slice (some ⟨fb, off, none⟩) (r.length + 1) d2])
    have D9 : Hid (Below w7.heap.size w7 (w7.alloc (.cells #[.slice e0 ts.length d0, .slice e1 gl.length d1, .slice (some ⟨fb, off, none⟩) (r.length + 1) d2] 27))) := (Below.refl _ _).alloc (Nat.le_refl _) _
    have y9 : (w7.alloc (.cells #[.slice e0 ts.length d0, .slice e1 gl.length d1, .slice (some ⟨fb, off, none⟩) (r.length + 1) d2] 27)).heap.size = w7.heap.size + 1 := by simp
    generalize hu9 : w7.alloc (.cells #[.slice e0 ts.length d0, .slice e1 gl.length d1, .slice (some ⟨fb, off, none⟩) (r.length + 1) d2] 27) = u9 at *
    generalize ht9 : w7.heap.size = t9 at T9
    clear hu9
    have tle1 : w7.heap.size ≤ t9 := by omega
    have tle2 : t9 ≤ w7.heap.size := by omega
    have yle : t9 < u9.heap.size := by omega
    clear y9 ht9
    have pu : pb < u9.heap.size := by omega
    have fu : fb < u9.heap.size := by omega
    have su : sb < u9.heap.size := by omega
    have tu : t9 < u9.heap.size := by omega
    have c2 := (C9.out.cell (p := ⟨pb, 2, none⟩) ltc).trans q2c
    have g0 := (B9.out.cell (p := ⟨fb, off, none⟩) hfbl).trans F0.out
    have g1 := (B9.out.cell (p := ⟨fb, off + 1, none⟩) hfbl).trans F1.out
    have g2 := (B9.out.cell (p := ⟨fb, off + 2, none⟩) hfbl).trans F2.out
    have g3 := (B9.out.cell (p := ⟨fb, off + 3, none⟩) hfbl).trans F3.out
    have g4 := (B9.out.cell (p := ⟨fb, off + 4, none⟩) hfbl).trans F4.out
    have g5 := (B9.out.cell (p := ⟨fb, off + 5, none⟩) hfbl).trans F5.out
    have s0 := S9.out.cell (o := 0) rfl
    have s1 := S9.out.cell (o := 1) rfl
    have s2 := S9.out.cell (o := 2) rfl
    have RO := hide (owns_below HRW.out (show Below wc.heap.size wc u9 from C9.out))
    go_wp2_with fail
    refine beginA (S := fun w' => Below u9.heap.size u9 w') 20 (by kernel_rfl) ((Below.refl _ _).drew) (fun hHeld => ?_)
    refine takeA (i := 0) (v := ?v0n1) rfl (by kernel_rfl) (by kernel_rfl) (by kernel_rfl) (fun _ _ _ h => h) (by kernel_rfl) (by kernel_rfl) (by assumption) ?y0n1 ?r0n1
    case y0n1 => (intro w hSw; have a9 := (hSw.cell (p := ⟨pb, 2, none⟩) pu).trans c2; have a0 := (hSw.cell (p := ⟨fb, off, none⟩) fu).trans g0; have a1 := (hSw.cell (p := ⟨fb, off + 1, none⟩) fu).trans g1; have a2 := (hSw.cell (p := ⟨fb, off + 2, none⟩) fu).trans g2; have a3 := (hSw.cell (p := ⟨fb, off + 3, none⟩) fu).trans g3; have a4 := (hSw.cell (p := ⟨fb, off + 4, none⟩) fu).trans g4; have a5 := (hSw.cell (p := ⟨fb, off + 5, none⟩) fu).trans g5; have b0 := (hSw.cell (p := ⟨sb, 0, none⟩) su).trans s0; have b1 := (hSw.cell (p := ⟨sb, 1, none⟩) su).trans s1; have b2 := (hSw.cell (p := ⟨sb, 2, none⟩) su).trans s2; clear hSw; go_simp; try with_reducible rfl)
    (try simp only [Act.put, List.setIfInBounds_toArray, List.set_cons_zero, List.set_cons_succ])
    refine takeA (i := 1) (v := ?v1n2) rfl (by kernel_rfl) (by kernel_rfl) (by kernel_rfl) (fun _ _ _ h => h) (by kernel_rfl) (by kernel_rfl) (by assumption) ?y1n2 ?r1n2
    case y1n2 => (intro w hSw; have a9 := (hSw.cell (p := ⟨pb, 2, none⟩) pu).trans c2; have a0 := (hSw.cell (p := ⟨fb, off, none⟩) fu).trans g0; have a1 := (hSw.cell (p := ⟨fb, off + 1, none⟩) fu).trans g1; have a2 := (hSw.cell (p := ⟨fb, off + 2, none⟩) fu).trans g2; have a3 := (hSw.cell (p := ⟨fb, off + 3, none⟩) fu).trans g3; have a4 := (hSw.cell (p := ⟨fb, off + 4, none⟩) fu).trans g4; have a5 := (hSw.cell (p := ⟨fb, off + 5, none⟩) fu).trans g5; have b0 := (hSw.cell (p := ⟨sb, 0, none⟩) su).trans s0; have b1 := (hSw.cell (p := ⟨sb, 1, none⟩) su).trans s1; have b2 := (hSw.cell (p := ⟨sb, 2, none⟩) su).trans s2; clear hSw; go_simp; try with_reducible rfl)
    (try simp only [Act.put, List.setIfInBounds_toArray, List.set_cons_zero, List.set_cons_succ])
    refine takeA (i := 2) (v := ?v2n3) rfl (by kernel_rfl) (by kernel_rfl) (by kernel_rfl) (fun _ _ _ h => h) (by kernel_rfl) (by kernel_rfl) (by assumption) ?y2n3 ?r2n3
    case y2n3 => (intro w hSw; have a9 := (hSw.cell (p := ⟨pb, 2, none⟩) pu).trans c2; have a0 := (hSw.cell (p := ⟨fb, off, none⟩) fu).trans g0; have a1 := (hSw.cell (p := ⟨fb, off + 1, none⟩) fu).trans g1; have a2 := (hSw.cell (p := ⟨fb, off + 2, none⟩) fu).trans g2; have a3 := (hSw.cell (p := ⟨fb, off + 3, none⟩) fu).trans g3; have a4 := (hSw.cell (p := ⟨fb, off + 4, none⟩) fu).trans g4; have a5 := (hSw.cell (p := ⟨fb, off + 5, none⟩) fu).trans g5; have b0 := (hSw.cell (p := ⟨sb, 0, none⟩) su).trans s0; have b1 := (hSw.cell (p := ⟨sb, 1, none⟩) su).trans s1; have b2 := (hSw.cell (p := ⟨sb, 2, none⟩) su).trans s2; clear hSw; go_simp; try with_reducible rfl)
    (try simp only [Act.put, List.setIfInBounds_toArray, List.set_cons_zero, List.set_cons_succ])
    refine takeA (i := 3) (v := ?v3n4) rfl (by kernel_rfl) (by kernel_rfl) (by kernel_rfl) (fun _ _ _ h => h) (by kernel_rfl) (by kernel_rfl) (by assumption) ?y3n4 ?r3n4
    case y3n4 => (intro w hSw; have a9 := (hSw.cell (p := ⟨pb, 2, none⟩) pu).trans c2; have a0 := (hSw.cell (p := ⟨fb, off, none⟩) fu).trans g0; have a1 := (hSw.cell (p := ⟨fb, off + 1, none⟩) fu).trans g1; have a2 := (hSw.cell (p := ⟨fb, off + 2, none⟩) fu).trans g2; have a3 := (hSw.cell (p := ⟨fb, off + 3, none⟩) fu).trans g3; have a4 := (hSw.cell (p := ⟨fb, off + 4, none⟩) fu).trans g4; have a5 := (hSw.cell (p := ⟨fb, off + 5, none⟩) fu).trans g5; have b0 := (hSw.cell (p := ⟨sb, 0, none⟩) su).trans s0; have b1 := (hSw.cell (p := ⟨sb, 1, none⟩) su).trans s1; have b2 := (hSw.cell (p := ⟨sb, 2, none⟩) su).trans s2; clear hSw; go_simp; try with_reducible rfl)
    (try simp only [Act.put, List.setIfInBounds_toArray, List.set_cons_zero, List.set_cons_succ])
    refine takeA (i := 4) (v := ?v4n5) rfl (by kernel_rfl) (by kernel_rfl) (by kernel_rfl) (fun _ _ _ h => h) (by kernel_rfl) (by kernel_rfl) (by assumption) ?y4n5 ?r4n5
    case y4n5 => (intro w hSw; have a9 := (hSw.cell (p := ⟨pb, 2, none⟩) pu).trans c2; have a0 := (hSw.cell (p := ⟨fb, off, none⟩) fu).trans g0; have a1 := (hSw.cell (p := ⟨fb, off + 1, none⟩) fu).trans g1; have a2 := (hSw.cell (p := ⟨fb, off + 2, none⟩) fu).trans g2; have a3 := (hSw.cell (p := ⟨fb, off + 3, none⟩) fu).trans g3; have a4 := (hSw.cell (p := ⟨fb, off + 4, none⟩) fu).trans g4; have a5 := (hSw.cell (p := ⟨fb, off + 5, none⟩) fu).trans g5; have b0 := (hSw.cell (p := ⟨sb, 0, none⟩) su).trans s0; have b1 := (hSw.cell (p := ⟨sb, 1, none⟩) su).trans s1; have b2 := (hSw.cell (p := ⟨sb, 2, none⟩) su).trans s2; clear hSw; go_simp; try with_reducible rfl)
    (try simp only [Act.put, List.setIfInBounds_toArray, List.set_cons_zero, List.set_cons_succ])
    refine takeA (i := 5) (v := ?v5n6) rfl (by kernel_rfl) (by kernel_rfl) (by kernel_rfl) (fun _ _ _ h => h) (by kernel_rfl) (by kernel_rfl) (by assumption) ?y5n6 ?r5n6
    case y5n6 => (intro w hSw; have a9 := (hSw.cell (p := ⟨pb, 2, none⟩) pu).trans c2; have a0 := (hSw.cell (p := ⟨fb, off, none⟩) fu).trans g0; have a1 := (hSw.cell (p := ⟨fb, off + 1, none⟩) fu).trans g1; have a2 := (hSw.cell (p := ⟨fb, off + 2, none⟩) fu).trans g2; have a3 := (hSw.cell (p := ⟨fb, off + 3, none⟩) fu).trans g3; have a4 := (hSw.cell (p := ⟨fb, off + 4, none⟩) fu).trans g4; have a5 := (hSw.cell (p := ⟨fb, off + 5, none⟩) fu).trans g5; have b0 := (hSw.cell (p := ⟨sb, 0, none⟩) su).trans s0; have b1 := (hSw.cell (p := ⟨sb, 1, none⟩) su).trans s1; have b2 := (hSw.cell (p := ⟨sb, 2, none⟩) su).trans s2; clear hSw; go_simp; try with_reducible rfl)
    (try simp only [Act.put, List.setIfInBounds_toArray, List.set_cons_zero, List.set_cons_succ])
    refine takeA (i := 6) (v := ?v6n7) rfl (by kernel_rfl) (by kernel_rfl) (by kernel_rfl) (fun _ _ _ h => h) (by kernel_rfl) (by kernel_rfl) (by assumption) ?y6n7 ?r6n7
    case y6n7 => (intro w hSw; have a9 := (hSw.cell (p := ⟨pb, 2, none⟩) pu).trans c2; have a0 := (hSw.cell (p := ⟨fb, off, none⟩) fu).trans g0; have a1 := (hSw.cell (p := ⟨fb, off + 1, none⟩) fu).trans g1; have a2 := (hSw.cell (p := ⟨fb, off + 2, none⟩) fu).trans g2; have a3 := (hSw.cell (p := ⟨fb, off + 3, none⟩) fu).trans g3; have a4 := (hSw.cell (p := ⟨fb, off + 4, none⟩) fu).trans g4; have a5 := (hSw.cell (p := ⟨fb, off + 5, none⟩) fu).trans g5; have b0 := (hSw.cell (p := ⟨sb, 0, none⟩) su).trans s0; have b1 := (hSw.cell (p := ⟨sb, 1, none⟩) su).trans s1; have b2 := (hSw.cell (p := ⟨sb, 2, none⟩) su).trans s2; clear hSw; go_simp; try with_reducible rfl)
    (try simp only [Act.put, List.setIfInBounds_toArray, List.set_cons_zero, List.set_cons_succ])
    refine takeA (i := 7) (v := ?v7n8) rfl (by kernel_rfl) (by kernel_rfl) (by kernel_rfl) (fun _ _ _ h => h) (by kernel_rfl) (by kernel_rfl) (by assumption) ?y7n8 ?r7n8
    case y7n8 => (intro w hSw; have a9 := (hSw.cell (p := ⟨pb, 2, none⟩) pu).trans c2; have a0 := (hSw.cell (p := ⟨fb, off, none⟩) fu).trans g0; have a1 := (hSw.cell (p := ⟨fb, off + 1, none⟩) fu).trans g1; have a2 := (hSw.cell (p := ⟨fb, off + 2, none⟩) fu).trans g2; have a3 := (hSw.cell (p := ⟨fb, off + 3, none⟩) fu).trans g3; have a4 := (hSw.cell (p := ⟨fb, off + 4, none⟩) fu).trans g4; have a5 := (hSw.cell (p := ⟨fb, off + 5, none⟩) fu).trans g5; have b0 := (hSw.cell (p := ⟨sb, 0, none⟩) su).trans s0; have b1 := (hSw.cell (p := ⟨sb, 1, none⟩) su).trans s1; have b2 := (hSw.cell (p := ⟨sb, 2, none⟩) su).trans s2; clear hSw; go_simp; try with_reducible rfl)
    (try simp only [Act.put, List.setIfInBounds_toArray, List.set_cons_zero, List.set_cons_succ])
    refine takeA (i := 8) (v := ?v8n9) rfl (by kernel_rfl) (by kernel_rfl) (by kernel_rfl) (fun _ _ _ h => h) (by kernel_rfl) (by kernel_rfl) (by assumption) ?y8n9 ?r8n9
    case y8n9 => (intro w hSw; have a9 := (hSw.cell (p := ⟨pb, 2, none⟩) pu).trans c2; have a0 := (hSw.cell (p := ⟨fb, off, none⟩) fu).trans g0; have a1 := (hSw.cell (p := ⟨fb, off + 1, none⟩) fu).trans g1; have a2 := (hSw.cell (p := ⟨fb, off + 2, none⟩) fu).trans g2; have a3 := (hSw.cell (p := ⟨fb, off + 3, none⟩) fu).trans g3; have a4 := (hSw.cell (p := ⟨fb, off + 4, none⟩) fu).trans g4; have a5 := (hSw.cell (p := ⟨fb, off + 5, none⟩) fu).trans g5; have b0 := (hSw.cell (p := ⟨sb, 0, none⟩) su).trans s0; have b1 := (hSw.cell (p := ⟨sb, 1, none⟩) su).trans s1; have b2 := (hSw.cell (p := ⟨sb, 2, none⟩) su).trans s2; clear hSw; go_simp; try with_reducible rfl)
    (try simp only [Act.put, List.setIfInBounds_toArray, List.set_cons_zero, List.set_cons_succ])
    refine takeA (i := 9) (v := ?v9n10) rfl (by kernel_rfl) (by kernel_rfl) (by kernel_rfl) (fun _ _ _ h => h) (by kernel_rfl) (by kernel_rfl) (by assumption) ?y9n10 ?r9n10
    case y9n10 => (intro w hSw; have a9 := (hSw.cell (p := ⟨pb, 2, none⟩) pu).trans c2; have a0 := (hSw.cell (p := ⟨fb, off, none⟩) fu).trans g0; have a1 := (hSw.cell (p := ⟨fb, off + 1, none⟩) fu).trans g1; have a2 := (hSw.cell (p := ⟨fb, off + 2, none⟩) fu).trans g2; have a3 := (hSw.cell (p := ⟨fb, off + 3, none⟩) fu).trans g3; have a4 := (hSw.cell (p := ⟨fb, off + 4, none⟩) fu).trans g4; have a5 := (hSw.cell (p := ⟨fb, off + 5, none⟩) fu).trans g5; have b0 := (hSw.cell (p := ⟨sb, 0, none⟩) su).trans s0; have b1 := (hSw.cell (p := ⟨sb, 1, none⟩) su).trans s1; have b2 := (hSw.cell (p := ⟨sb, 2, none⟩) su).trans s2; clear hSw; go_simp; try with_reducible rfl)
    (try simp only [Act.put, List.setIfInBounds_toArray, List.set_cons_zero, List.set_cons_succ])
    refine takeA (i := 10) (v := ?v10n11) rfl (by kernel_rfl) (by kernel_rfl) (by kernel_rfl) (fun _ _ _ h => h) (by kernel_rfl) (by kernel_rfl) (by assumption) ?y10n11 ?r10n11
    case y10n11 => (intro w hSw; have a9 := (hSw.cell (p := ⟨pb, 2, none⟩) pu).trans c2; have a0 := (hSw.cell (p := ⟨fb, off, none⟩) fu).trans g0; have a1 := (hSw.cell (p := ⟨fb, off + 1, none⟩) fu).trans g1; have a2 := (hSw.cell (p := ⟨fb, off + 2, none⟩) fu).trans g2; have a3 := (hSw.cell (p := ⟨fb, off + 3, none⟩) fu).trans g3; have a4 := (hSw.cell (p := ⟨fb, off + 4, none⟩) fu).trans g4; have a5 := (hSw.cell (p := ⟨fb, off + 5, none⟩) fu).trans g5; have b0 := (hSw.cell (p := ⟨sb, 0, none⟩) su).trans s0; have b1 := (hSw.cell (p := ⟨sb, 1, none⟩) su).trans s1; have b2 := (hSw.cell (p := ⟨sb, 2, none⟩) su).trans s2; clear hSw; go_simp; try with_reducible rfl)
    (try simp only [Act.put, List.setIfInBounds_toArray, List.set_cons_zero, List.set_cons_succ])
    refine takeA (i := 11) (v := ?v11n12) rfl (by kernel_rfl) (by kernel_rfl) (by kernel_rfl) (fun _ _ _ h => h) (by kernel_rfl) (by kernel_rfl) (by assumption) ?y11n12 ?r11n12
    case y11n12 => (intro w hSw; have a9 := (hSw.cell (p := ⟨pb, 2, none⟩) pu).trans c2; have a0 := (hSw.cell (p := ⟨fb, off, none⟩) fu).trans g0; have a1 := (hSw.cell (p := ⟨fb, off + 1, none⟩) fu).trans g1; have a2 := (hSw.cell (p := ⟨fb, off + 2, none⟩) fu).trans g2; have a3 := (hSw.cell (p := ⟨fb, off + 3, none⟩) fu).trans g3; have a4 := (hSw.cell (p := ⟨fb, off + 4, none⟩) fu).trans g4; have a5 := (hSw.cell (p := ⟨fb, off + 5, none⟩) fu).trans g5; have b0 := (hSw.cell (p := ⟨sb, 0, none⟩) su).trans s0; have b1 := (hSw.cell (p := ⟨sb, 1, none⟩) su).trans s1; have b2 := (hSw.cell (p := ⟨sb, 2, none⟩) su).trans s2; clear hSw; go_simp; try with_reducible rfl)
    (try simp only [Act.put, List.setIfInBounds_toArray, List.set_cons_zero, List.set_cons_succ])
    refine takeA (i := 12) (v := ?v12n13) rfl (by kernel_rfl) (by kernel_rfl) (by kernel_rfl) (fun _ _ _ h => h) (by kernel_rfl) (by kernel_rfl) (by assumption) ?y12n13 ?r12n13
    case y12n13 => (intro w hSw; have a9 := (hSw.cell (p := ⟨pb, 2, none⟩) pu).trans c2; have a0 := (hSw.cell (p := ⟨fb, off, none⟩) fu).trans g0; have a1 := (hSw.cell (p := ⟨fb, off + 1, none⟩) fu).trans g1; have a2 := (hSw.cell (p := ⟨fb, off + 2, none⟩) fu).trans g2; have a3 := (hSw.cell (p := ⟨fb, off + 3, none⟩) fu).trans g3; have a4 := (hSw.cell (p := ⟨fb, off + 4, none⟩) fu).trans g4; have a5 := (hSw.cell (p := ⟨fb, off + 5, none⟩) fu).trans g5; have b0 := (hSw.cell (p := ⟨sb, 0, none⟩) su).trans s0; have b1 := (hSw.cell (p := ⟨sb, 1, none⟩) su).trans s1; have b2 := (hSw.cell (p := ⟨sb, 2, none⟩) su).trans s2; clear hSw; go_simp; try with_reducible rfl)
    (try simp only [Act.put, List.setIfInBounds_toArray, List.set_cons_zero, List.set_cons_succ])
    refine takeA (i := 13) (v := ?v13n14) rfl (by kernel_rfl) (by kernel_rfl) (by kernel_rfl) (fun _ _ _ h => h) (by kernel_rfl) (by kernel_rfl) (by assumption) ?y13n14 ?r13n14
    case y13n14 => (intro w hSw; have a9 := (hSw.cell (p := ⟨pb, 2, none⟩) pu).trans c2; have a0 := (hSw.cell (p := ⟨fb, off, none⟩) fu).trans g0; have a1 := (hSw.cell (p := ⟨fb, off + 1, none⟩) fu).trans g1; have a2 := (hSw.cell (p := ⟨fb, off + 2, none⟩) fu).trans g2; have a3 := (hSw.cell (p := ⟨fb, off + 3, none⟩) fu).trans g3; have a4 := (hSw.cell (p := ⟨fb, off + 4, none⟩) fu).trans g4; have a5 := (hSw.cell (p := ⟨fb, off + 5, none⟩) fu).trans g5; have b0 := (hSw.cell (p := ⟨sb, 0, none⟩) su).trans s0; have b1 := (hSw.cell (p := ⟨sb, 1, none⟩) su).trans s1; have b2 := (hSw.cell (p := ⟨sb, 2, none⟩) su).trans s2; clear hSw; go_simp; try with_reducible rfl)
    (try simp only [Act.put, List.setIfInBounds_toArray, List.set_cons_zero, List.set_cons_succ])
    refine takeA (i := 14) (v := ?v14n15) rfl (by kernel_rfl) (by kernel_rfl) (by kernel_rfl) (fun _ _ _ h => h) (by kernel_rfl) (by kernel_rfl) (by assumption) ?y14n15 ?r14n15
    case y14n15 => (intro w hSw; have a9 := (hSw.cell (p := ⟨pb, 2, none⟩) pu).trans c2; have a0 := (hSw.cell (p := ⟨fb, off, none⟩) fu).trans g0; have a1 := (hSw.cell (p := ⟨fb, off + 1, none⟩) fu).trans g1; have a2 := (hSw.cell (p := ⟨fb, off + 2, none⟩) fu).trans g2; have a3 := (hSw.cell (p := ⟨fb, off + 3, none⟩) fu).trans g3; have a4 := (hSw.cell (p := ⟨fb, off + 4, none⟩) fu).trans g4; have a5 := (hSw.cell (p := ⟨fb, off + 5, none⟩) fu).trans g5; have b0 := (hSw.cell (p := ⟨sb, 0, none⟩) su).trans s0; have b1 := (hSw.cell (p := ⟨sb, 1, none⟩) su).trans s1; have b2 := (hSw.cell (p := ⟨sb, 2, none⟩) su).trans s2; clear hSw; go_simp; try with_reducible rfl)
    (try simp only [Act.put, List.setIfInBounds_toArray, List.set_cons_zero, List.set_cons_succ])
    refine takeA (i := 15) (v := ?v15n16) rfl (by kernel_rfl) (by kernel_rfl) (by kernel_rfl) (fun _ _ _ h => h) (by kernel_rfl) (by kernel_rfl) (by assumption) ?y15n16 ?r15n16
    case y15n16 => (intro w hSw; have a9 := (hSw.cell (p := ⟨pb, 2, none⟩) pu).trans c2; have a0 := (hSw.cell (p := ⟨fb, off, none⟩) fu).trans g0; have a1 := (hSw.cell (p := ⟨fb, off + 1, none⟩) fu).trans g1; have a2 := (hSw.cell (p := ⟨fb, off + 2, none⟩) fu).trans g2; have a3 := (hSw.cell (p := ⟨fb, off + 3, none⟩) fu).trans g3; have a4 := (hSw.cell (p := ⟨fb, off + 4, none⟩) fu).trans g4; have a5 := (hSw.cell (p := ⟨fb, off + 5, none⟩) fu).trans g5; have b0 := (hSw.cell (p := ⟨sb, 0, none⟩) su).trans s0; have b1 := (hSw.cell (p := ⟨sb, 1, none⟩) su).trans s1; have b2 := (hSw.cell (p := ⟨sb, 2, none⟩) su).trans s2; clear hSw; go_simp; try with_reducible rfl)
    (try simp only [Act.put, List.setIfInBounds_toArray, List.set_cons_zero, List.set_cons_succ])
    refine takeA (i := 17) (v := ?v17n17) rfl (by kernel_rfl) (by kernel_rfl) (by kernel_rfl) (fun _ _ _ h => h) (by kernel_rfl) (by kernel_rfl) (by assumption) ?y17n17 ?r17n17
    case y17n17 => (intro w hSw; have a9 := (hSw.cell (p := ⟨pb, 2, none⟩) pu).trans c2; have a0 := (hSw.cell (p := ⟨fb, off, none⟩) fu).trans g0; have a1 := (hSw.cell (p := ⟨fb, off + 1, none⟩) fu).trans g1; have a2 := (hSw.cell (p := ⟨fb, off + 2, none⟩) fu).trans g2; have a3 := (hSw.cell (p := ⟨fb, off + 3, none⟩) fu).trans g3; have a4 := (hSw.cell (p := ⟨fb, off + 4, none⟩) fu).trans g4; have a5 := (hSw.cell (p := ⟨fb, off + 5, none⟩) fu).trans g5; have b0 := (hSw.cell (p := ⟨sb, 0, none⟩) su).trans s0; have b1 := (hSw.cell (p := ⟨sb, 1, none⟩) su).trans s1; have b2 := (hSw.cell (p := ⟨sb, 2, none⟩) su).trans s2; clear hSw; go_simp; try with_reducible rfl)
    (try simp only [Act.put, List.setIfInBounds_toArray, List.set_cons_zero, List.set_cons_succ])
    refine readyA (rs := [16]) (by kernel_rfl) (by simp) ?_
    refine AllL.cons rfl (fun K hK => ?_) ?_
    · go_simp
      refine hK.out _ _ (hHeld.alloc hHeld.size _) (fun hHeld => ?_)
      clear hK K
      (try simp only [Act.put, List.setIfInBounds_toArray, List.set_cons_zero, List.set_cons_succ])
      refine readyA (rs := [18]) (by kernel_rfl) (by simp) ?_
      refine AllL.cons rfl (fun K hK => ?_) ?_
      · have OL0 : ((u9.drew.alloc (.cells #[.slice x0 tk.length y0, .int .i64 gk, .int .i64 go, .bool gm, .slice x4 ow.length y4, .slice none 0 0] 34)).ownsRow pb 34 6 (.slice (some ⟨u9.heap.size, 0, none⟩) 1 1) 1 [.slice x0 tk.length y0, .int .i64 gk, .int .i64 go, .bool gm, .slice x4 ow.length y4, .slice none 0 0]) := by have := World.ownsRow_lit (base := pb) (e := 34) (size := 6) u9.drew #[.slice x0 tk.length y0, .int .i64 gk, .int .i64 go, .bool gm, .slice x4 ow.length y4, .slice none 0 0] 1 (by simp; omega) (by unfold maxLen; omega) rfl; simpa using this
        have OL := hide OL0
        clear OL0
        have RA : Hid ((u9.drew.alloc (.cells #[.slice x0 tk.length y0, .int .i64 gk, .int .i64 go, .bool gm, .slice x4 ow.length y4, .slice none 0 0] 34)).ownsRow pb 34 6 (.slice (some ⟨nb, 0, none⟩) r.length nc) r.length (ys.drop 6)) := owns_below RO.out (by exact hHeld)
        refine step_app_row _ (by rfl) _ _ 25 34 (by rfl) j0 _ 6 96 Tryd.underlying25 JI.out JZ.out JS.out JB.out (by rfl) (by decide) (by decide) pb (.slice (some ⟨u9.heap.size, 0, none⟩) 1 1) 1 [.slice x0 tk.length y0, .int .i64 gk, .int .i64 go, .bool gm, .slice x4 ow.length y4, .slice none 0 0] nb 0 nc r.length (ys.drop 6) (by rfl) (by rfl) OL.out (by have := RA.out.1; exact this) (CellsAt.owns RA.out) (YLx.out.tail.one) (by decide) (by decide) (by omega) (by simp; omega) (r.length + 1) (by omega) ?_
        intro gB cap9 w9 hown9 hgr9
        refine hK.out _ _ (hHeld.grown hgr9 hHeld.size (fun q hq => by simp [Value.ownBlock] at hq; omega)) (fun hHeld => ?_)
        clear hK K
        (try simp only [Act.put, List.setIfInBounds_toArray, List.set_cons_zero, List.set_cons_succ])
        refine takeA (i := 19) (v := ?v19n18) rfl (by kernel_rfl) (by kernel_rfl) (by kernel_rfl) (fun _ _ _ h => h) (by kernel_rfl) (by kernel_rfl) (by assumption) ?y19n18 ?r19n18
        case y19n18 => (intro w hSw; have a9 := (hSw.cell (p := ⟨pb, 2, none⟩) pu).trans c2; have a0 := (hSw.cell (p := ⟨fb, off, none⟩) fu).trans g0; have a1 := (hSw.cell (p := ⟨fb, off + 1, none⟩) fu).trans g1; have a2 := (hSw.cell (p := ⟨fb, off + 2, none⟩) fu).trans g2; have a3 := (hSw.cell (p := ⟨fb, off + 3, none⟩) fu).trans g3; have a4 := (hSw.cell (p := ⟨fb, off + 4, none⟩) fu).trans g4; have a5 := (hSw.cell (p := ⟨fb, off + 5, none⟩) fu).trans g5; have b0 := (hSw.cell (p := ⟨sb, 0, none⟩) su).trans s0; have b1 := (hSw.cell (p := ⟨sb, 1, none⟩) su).trans s1; have b2 := (hSw.cell (p := ⟨sb, 2, none⟩) su).trans s2; clear hSw; go_simp; try with_reducible rfl)
        (try simp only [Act.put, List.setIfInBounds_toArray, List.set_cons_zero, List.set_cons_succ])
        refine readyA (rs := [20]) (by kernel_rfl) (by simp) ?_
        refine AllL.last rfl (fun K hK => ?_)
        have t2 := (hHeld.cell (p := ⟨t9, 2, none⟩) tu).trans (T9.out.cell (o := 2) rfl)
        have t2f := (hHeld.frozen (p := ⟨t9, 2, none⟩) tu).trans (T9.out.frozen 2)
        go_simp
        refine hK.out _ _ ?_
        clear hK K
        (try simp only [Act.put, List.setIfInBounds_toArray, List.set_cons_zero, List.set_cons_succ])
        refine doneA (by kernel_rfl) ?_ _
        have H9 := hide hHeld
        clear t2 t2f hHeld c2 g0 g1 g2 g3 g4 g5 s0 s1 s2
        have s9 := H9.out.size
        have TW := hide ((T9.out.below H9.out tu).set 2 (.slice (some ⟨gB, 0, none⟩) (r.length + 1) cap9))
        have BW := hide ((B9.out.trans (H9.out.mono (Nat.le_of_lt pu))).setCell (p := ⟨t9, 2, none⟩) (show pb ≤ t9 by omega) (.slice (some ⟨gB, 0, none⟩) (r.length + 1) cap9))
        have CW := hide ((C9.out.trans (H9.out.mono (by omega))).setCell (p := ⟨t9, 2, none⟩) (show wc.heap.size ≤ t9 by omega) (.slice (some ⟨gB, 0, none⟩) (r.length + 1) cap9))
        have SW := hide ((S9.out.below H9.out su).other (show sb ≠ t9 by omega) 2 (.slice (some ⟨gB, 0, none⟩) (r.length + 1) cap9))
        have DW : Hid (Below w7.heap.size w7 (w9.setCell ⟨t9, 2, none⟩ (.slice (some ⟨gB, 0, none⟩) (r.length + 1) cap9))) := (D9.out.trans (H9.out.mono (by omega))).setCell (p := ⟨t9, 2, none⟩) (show w7.heap.size ≤ t9 by omega) (.slice (some ⟨gB, 0, none⟩) (r.length + 1) cap9)
        have zW : wc.heap.size < (w9.setCell ⟨t9, 2, none⟩ (.slice (some ⟨gB, 0, none⟩) (r.length + 1) cap9)).heap.size := by simp; omega
        have zB : pb ≤ (w9.setCell ⟨t9, 2, none⟩ (.slice (some ⟨gB, 0, none⟩) (r.length + 1) cap9)).heap.size := by simp; omega
        have OW9 : Hid ((w9.setCell ⟨t9, 2, none⟩ (.slice (some ⟨gB, 0, none⟩) (r.length + 1) cap9)).ownsRow pb 34 6 (.slice (some ⟨gB, 0, none⟩) (r.length + 1) cap9) (r.length + 1) ([.slice x0 tk.length y0, .int .i64 gk, .int .i64 go, .bool gm, .slice x4 ow.length y4, .slice none 0 0] ++ ys.drop 6)) := owns_of_block hown9 fun k hk => Below.heap_setCell _ _ _ _ (by
          obtain ⟨c, h5⟩ := owns_kind hown9 hk
          exact kind_ne h5 (T9.out.below H9.out tu) (by decide))
        have smW : Same w.heap.size pb w1 (w9.setCell ⟨t9, 2, none⟩ (.slice (some ⟨gB, 0, none⟩) (r.length + 1) cap9)) := Same.of_below BW.out (Nat.le_refl _)
        have FC : FunC (w9.setCell ⟨t9, 2, none⟩ (.slice (some ⟨gB, 0, none⟩) (r.length + 1) cap9)) w.heap.size (w9.setCell ⟨t9, 2, none⟩ (.slice (some ⟨gB, 0, none⟩) (r.length + 1) cap9)).heap.size [.slice x0 tk.length y0, .int .i64 gk, .int .i64 go, .bool gm, .slice x4 ow.length y4, .slice none 0 0] 0 ⟨tk, ⟨gk, go, gm⟩, ow, []⟩ := ⟨x0, y0, x4, y4, none, 0, rfl, rfl, rfl, rfl, rfl, rfl, L0x.out.same smW (Nat.le_refl _) zB, L4x.out.same smW (Nat.le_refl _) zB, .inl rfl⟩
        have PW : Hid (PS w (w9.setCell ⟨t9, 2, none⟩ (.slice (some ⟨gB, 0, none⟩) (r.length + 1) cap9)) e0 e1 (some ⟨gB, 0, none⟩) d0 cap9 ⟨ts, gl, ⟨tk, ⟨gk, go, gm⟩, ow, []⟩ :: r⟩) := PS.of BW1.out hwp zB PMx.out.1 PMx.out.2.1 BW.out (YLx.out.tail.same smW (Nat.le_refl _) zB) FC rfl OW9.out hdc PG.out PL (by omega) (by obtain ⟨q1, q2, q3⟩ := hF0.out; refine ⟨?_, ?_, ?_⟩ <;> simp_all [FieldsB, InssB]) hFr.out
        clear FC smW OW9 hown9 hgr9 RO RA OL H9
        generalize hG9 : (w9.setCell ⟨t9, 2, none⟩ (.slice (some ⟨gB, 0, none⟩) (r.length + 1) cap9)) = w10 at *
        clear hG9
        have B10 := BW
        have C10 := CW
        have S10 := SW
        have z10 := zW
        have TQ9 := TW
        have PQ9 := PW
        have tlt9 : t9 < w10.heap.size := TQ9.out.lt
        clear BW CW SW zW TW PW DW zB B9 C9 S9 D9 T9 s9 tle1 tle2 yle
        have p011 := (C10.out.cell (p := ⟨pb, 0, none⟩) ltc).trans q0c
        have p111 := (C10.out.cell (p := ⟨pb, 1, none⟩) ltc).trans q1c
        have p211 := (C10.out.cell (p := ⟨pb, 2, none⟩) ltc).trans q2c
        go_upto_region 11 with fail
        clear p011 p111 p211
        have ltp11 : wc.heap.size < w10.heap.size := z10
        have B11 := hide (B10.out.alloc (by omega) (.cells #[.slice e0 ts.length d0, .slice e1 gl.length d1, .slice (some ⟨fb, off, none⟩) (r.length + 1) d2] 27))
        have C11 := hide (C10.out.alloc (Nat.le_of_lt z10) (.cells #[.slice e0 ts.length d0, .slice e1 gl.length d1, .slice (some ⟨fb, off, none⟩) (r.length + 1) d2] 27))
        have S11 := hide (S10.out.alloc (.cells #[.slice e0 ts.length d0, .slice e1 gl.length d1, .slice (some ⟨fb, off, none⟩) (r.length + 1) d2] 27))
        have T11 := hide (Rec.new w10 27 [.slice e0 ts.length d0, .slice e1 gl.length d1, .slice (some ⟨fb, off, none⟩) (r.length + 1) d2])
        have D11 : Hid (Below w10.heap.size w10 (w10.alloc (.cells #[.slice e0 ts.length d0, .slice e1 gl.length d1, .slice (some ⟨fb, off, none⟩) (r.length + 1) d2] 27))) := (Below.refl _ _).alloc (Nat.le_refl _) _
        have y11 : (w10.alloc (.cells #[.slice e0 ts.length d0, .slice e1 gl.length d1, .slice (some ⟨fb, off, none⟩) (r.length + 1) d2] 27)).heap.size = w10.heap.size + 1 := by simp
        generalize hu11 : w10.alloc (.cells #[.slice e0 ts.length d0, .slice e1 gl.length d1, .slice (some ⟨fb, off, none⟩) (r.length + 1) d2] 27) = u11 at *
        generalize ht11 : w10.heap.size = t11 at T11
        clear hu11
        have tle1 : w10.heap.size ≤ t11 := by omega
        have tle2 : t11 ≤ w10.heap.size := by omega
        have yle : t11 < u11.heap.size := by omega
        clear y11 ht11
        have pu : pb < u11.heap.size := by omega
        have fu : fb < u11.heap.size := by omega
        have su : sb < u11.heap.size := by omega
        have tu : t11 < u11.heap.size := by omega
        have c2 := (C11.out.cell (p := ⟨pb, 2, none⟩) ltc).trans q2c
        have g0 := (B11.out.cell (p := ⟨fb, off, none⟩) hfbl).trans F0.out
        have g1 := (B11.out.cell (p := ⟨fb, off + 1, none⟩) hfbl).trans F1.out
        have g2 := (B11.out.cell (p := ⟨fb, off + 2, none⟩) hfbl).trans F2.out
        have g3 := (B11.out.cell (p := ⟨fb, off + 3, none⟩) hfbl).trans F3.out
        have g4 := (B11.out.cell (p := ⟨fb, off + 4, none⟩) hfbl).trans F4.out
        have g5 := (B11.out.cell (p := ⟨fb, off + 5, none⟩) hfbl).trans F5.out
        have s0 := S11.out.cell (o := 0) rfl
        have s1 := S11.out.cell (o := 1) rfl
        have s2 := S11.out.cell (o := 2) rfl
        have RO := hide (owns_below HRW.out (show Below wc.heap.size wc u11 from C11.out))
        go_wp2_with fail
        refine beginA (S := fun w' => Below u11.heap.size u11 w') 22 (by kernel_rfl) ((Below.refl _ _).drew) (fun hHeld => ?_)
        refine takeA (i := 0) (v := ?v0n19) rfl (by kernel_rfl) (by kernel_rfl) (by kernel_rfl) (fun _ _ _ h => h) (by kernel_rfl) (by kernel_rfl) (by assumption) ?y0n19 ?r0n19
        case y0n19 => (intro w hSw; have a9 := (hSw.cell (p := ⟨pb, 2, none⟩) pu).trans c2; have a0 := (hSw.cell (p := ⟨fb, off, none⟩) fu).trans g0; have a1 := (hSw.cell (p := ⟨fb, off + 1, none⟩) fu).trans g1; have a2 := (hSw.cell (p := ⟨fb, off + 2, none⟩) fu).trans g2; have a3 := (hSw.cell (p := ⟨fb, off + 3, none⟩) fu).trans g3; have a4 := (hSw.cell (p := ⟨fb, off + 4, none⟩) fu).trans g4; have a5 := (hSw.cell (p := ⟨fb, off + 5, none⟩) fu).trans g5; have b0 := (hSw.cell (p := ⟨sb, 0, none⟩) su).trans s0; have b1 := (hSw.cell (p := ⟨sb, 1, none⟩) su).trans s1; have b2 := (hSw.cell (p := ⟨sb, 2, none⟩) su).trans s2; clear hSw; go_simp; try with_reducible rfl)
        (try simp only [Act.put, List.setIfInBounds_toArray, List.set_cons_zero, List.set_cons_succ])
        refine takeA (i := 1) (v := ?v1n20) rfl (by kernel_rfl) (by kernel_rfl) (by kernel_rfl) (fun _ _ _ h => h) (by kernel_rfl) (by kernel_rfl) (by assumption) ?y1n20 ?r1n20
        case y1n20 => (intro w hSw; have a9 := (hSw.cell (p := ⟨pb, 2, none⟩) pu).trans c2; have a0 := (hSw.cell (p := ⟨fb, off, none⟩) fu).trans g0; have a1 := (hSw.cell (p := ⟨fb, off + 1, none⟩) fu).trans g1; have a2 := (hSw.cell (p := ⟨fb, off + 2, none⟩) fu).trans g2; have a3 := (hSw.cell (p := ⟨fb, off + 3, none⟩) fu).trans g3; have a4 := (hSw.cell (p := ⟨fb, off + 4, none⟩) fu).trans g4; have a5 := (hSw.cell (p := ⟨fb, off + 5, none⟩) fu).trans g5; have b0 := (hSw.cell (p := ⟨sb, 0, none⟩) su).trans s0; have b1 := (hSw.cell (p := ⟨sb, 1, none⟩) su).trans s1; have b2 := (hSw.cell (p := ⟨sb, 2, none⟩) su).trans s2; clear hSw; go_simp; try with_reducible rfl)
        (try simp only [Act.put, List.setIfInBounds_toArray, List.set_cons_zero, List.set_cons_succ])
        refine takeA (i := 2) (v := ?v2n21) rfl (by kernel_rfl) (by kernel_rfl) (by kernel_rfl) (fun _ _ _ h => h) (by kernel_rfl) (by kernel_rfl) (by assumption) ?y2n21 ?r2n21
        case y2n21 => (intro w hSw; have a9 := (hSw.cell (p := ⟨pb, 2, none⟩) pu).trans c2; have a0 := (hSw.cell (p := ⟨fb, off, none⟩) fu).trans g0; have a1 := (hSw.cell (p := ⟨fb, off + 1, none⟩) fu).trans g1; have a2 := (hSw.cell (p := ⟨fb, off + 2, none⟩) fu).trans g2; have a3 := (hSw.cell (p := ⟨fb, off + 3, none⟩) fu).trans g3; have a4 := (hSw.cell (p := ⟨fb, off + 4, none⟩) fu).trans g4; have a5 := (hSw.cell (p := ⟨fb, off + 5, none⟩) fu).trans g5; have b0 := (hSw.cell (p := ⟨sb, 0, none⟩) su).trans s0; have b1 := (hSw.cell (p := ⟨sb, 1, none⟩) su).trans s1; have b2 := (hSw.cell (p := ⟨sb, 2, none⟩) su).trans s2; clear hSw; go_simp; try with_reducible rfl)
        (try simp only [Act.put, List.setIfInBounds_toArray, List.set_cons_zero, List.set_cons_succ])
        refine takeA (i := 3) (v := ?v3n22) rfl (by kernel_rfl) (by kernel_rfl) (by kernel_rfl) (fun _ _ _ h => h) (by kernel_rfl) (by kernel_rfl) (by assumption) ?y3n22 ?r3n22
        case y3n22 => (intro w hSw; have a9 := (hSw.cell (p := ⟨pb, 2, none⟩) pu).trans c2; have a0 := (hSw.cell (p := ⟨fb, off, none⟩) fu).trans g0; have a1 := (hSw.cell (p := ⟨fb, off + 1, none⟩) fu).trans g1; have a2 := (hSw.cell (p := ⟨fb, off + 2, none⟩) fu).trans g2; have a3 := (hSw.cell (p := ⟨fb, off + 3, none⟩) fu).trans g3; have a4 := (hSw.cell (p := ⟨fb, off + 4, none⟩) fu).trans g4; have a5 := (hSw.cell (p := ⟨fb, off + 5, none⟩) fu).trans g5; have b0 := (hSw.cell (p := ⟨sb, 0, none⟩) su).trans s0; have b1 := (hSw.cell (p := ⟨sb, 1, none⟩) su).trans s1; have b2 := (hSw.cell (p := ⟨sb, 2, none⟩) su).trans s2; clear hSw; go_simp; try with_reducible rfl)
        (try simp only [Act.put, List.setIfInBounds_toArray, List.set_cons_zero, List.set_cons_succ])
        refine takeA (i := 4) (v := ?v4n23) rfl (by kernel_rfl) (by kernel_rfl) (by kernel_rfl) (fun _ _ _ h => h) (by kernel_rfl) (by kernel_rfl) (by assumption) ?y4n23 ?r4n23
        case y4n23 => (intro w hSw; have a9 := (hSw.cell (p := ⟨pb, 2, none⟩) pu).trans c2; have a0 := (hSw.cell (p := ⟨fb, off, none⟩) fu).trans g0; have a1 := (hSw.cell (p := ⟨fb, off + 1, none⟩) fu).trans g1; have a2 := (hSw.cell (p := ⟨fb, off + 2, none⟩) fu).trans g2; have a3 := (hSw.cell (p := ⟨fb, off + 3, none⟩) fu).trans g3; have a4 := (hSw.cell (p := ⟨fb, off + 4, none⟩) fu).trans g4; have a5 := (hSw.cell (p := ⟨fb, off + 5, none⟩) fu).trans g5; have b0 := (hSw.cell (p := ⟨sb, 0, none⟩) su).trans s0; have b1 := (hSw.cell (p := ⟨sb, 1, none⟩) su).trans s1; have b2 := (hSw.cell (p := ⟨sb, 2, none⟩) su).trans s2; clear hSw; go_simp; try with_reducible rfl)
        (try simp only [Act.put, List.setIfInBounds_toArray, List.set_cons_zero, List.set_cons_succ])
        refine takeA (i := 5) (v := ?v5n24) rfl (by kernel_rfl) (by kernel_rfl) (by kernel_rfl) (fun _ _ _ h => h) (by kernel_rfl) (by kernel_rfl) (by assumption) ?y5n24 ?r5n24
        case y5n24 => (intro w hSw; have a9 := (hSw.cell (p := ⟨pb, 2, none⟩) pu).trans c2; have a0 := (hSw.cell (p := ⟨fb, off, none⟩) fu).trans g0; have a1 := (hSw.cell (p := ⟨fb, off + 1, none⟩) fu).trans g1; have a2 := (hSw.cell (p := ⟨fb, off + 2, none⟩) fu).trans g2; have a3 := (hSw.cell (p := ⟨fb, off + 3, none⟩) fu).trans g3; have a4 := (hSw.cell (p := ⟨fb, off + 4, none⟩) fu).trans g4; have a5 := (hSw.cell (p := ⟨fb, off + 5, none⟩) fu).trans g5; have b0 := (hSw.cell (p := ⟨sb, 0, none⟩) su).trans s0; have b1 := (hSw.cell (p := ⟨sb, 1, none⟩) su).trans s1; have b2 := (hSw.cell (p := ⟨sb, 2, none⟩) su).trans s2; clear hSw; go_simp; try with_reducible rfl)
        (try simp only [Act.put, List.setIfInBounds_toArray, List.set_cons_zero, List.set_cons_succ])
        refine takeA (i := 6) (v := ?v6n25) rfl (by kernel_rfl) (by kernel_rfl) (by kernel_rfl) (fun _ _ _ h => h) (by kernel_rfl) (by kernel_rfl) (by assumption) ?y6n25 ?r6n25
        case y6n25 => (intro w hSw; have a9 := (hSw.cell (p := ⟨pb, 2, none⟩) pu).trans c2; have a0 := (hSw.cell (p := ⟨fb, off, none⟩) fu).trans g0; have a1 := (hSw.cell (p := ⟨fb, off + 1, none⟩) fu).trans g1; have a2 := (hSw.cell (p := ⟨fb, off + 2, none⟩) fu).trans g2; have a3 := (hSw.cell (p := ⟨fb, off + 3, none⟩) fu).trans g3; have a4 := (hSw.cell (p := ⟨fb, off + 4, none⟩) fu).trans g4; have a5 := (hSw.cell (p := ⟨fb, off + 5, none⟩) fu).trans g5; have b0 := (hSw.cell (p := ⟨sb, 0, none⟩) su).trans s0; have b1 := (hSw.cell (p := ⟨sb, 1, none⟩) su).trans s1; have b2 := (hSw.cell (p := ⟨sb, 2, none⟩) su).trans s2; clear hSw; go_simp; try with_reducible rfl)
        (try simp only [Act.put, List.setIfInBounds_toArray, List.set_cons_zero, List.set_cons_succ])
        refine takeA (i := 7) (v := ?v7n26) rfl (by kernel_rfl) (by kernel_rfl) (by kernel_rfl) (fun _ _ _ h => h) (by kernel_rfl) (by kernel_rfl) (by assumption) ?y7n26 ?r7n26
        case y7n26 => (intro w hSw; have a9 := (hSw.cell (p := ⟨pb, 2, none⟩) pu).trans c2; have a0 := (hSw.cell (p := ⟨fb, off, none⟩) fu).trans g0; have a1 := (hSw.cell (p := ⟨fb, off + 1, none⟩) fu).trans g1; have a2 := (hSw.cell (p := ⟨fb, off + 2, none⟩) fu).trans g2; have a3 := (hSw.cell (p := ⟨fb, off + 3, none⟩) fu).trans g3; have a4 := (hSw.cell (p := ⟨fb, off + 4, none⟩) fu).trans g4; have a5 := (hSw.cell (p := ⟨fb, off + 5, none⟩) fu).trans g5; have b0 := (hSw.cell (p := ⟨sb, 0, none⟩) su).trans s0; have b1 := (hSw.cell (p := ⟨sb, 1, none⟩) su).trans s1; have b2 := (hSw.cell (p := ⟨sb, 2, none⟩) su).trans s2; clear hSw; go_simp; try with_reducible rfl)
        (try simp only [Act.put, List.setIfInBounds_toArray, List.set_cons_zero, List.set_cons_succ])
        refine takeA (i := 8) (v := ?v8n27) rfl (by kernel_rfl) (by kernel_rfl) (by kernel_rfl) (fun _ _ _ h => h) (by kernel_rfl) (by kernel_rfl) (by assumption) ?y8n27 ?r8n27
        case y8n27 => (intro w hSw; have a9 := (hSw.cell (p := ⟨pb, 2, none⟩) pu).trans c2; have a0 := (hSw.cell (p := ⟨fb, off, none⟩) fu).trans g0; have a1 := (hSw.cell (p := ⟨fb, off + 1, none⟩) fu).trans g1; have a2 := (hSw.cell (p := ⟨fb, off + 2, none⟩) fu).trans g2; have a3 := (hSw.cell (p := ⟨fb, off + 3, none⟩) fu).trans g3; have a4 := (hSw.cell (p := ⟨fb, off + 4, none⟩) fu).trans g4; have a5 := (hSw.cell (p := ⟨fb, off + 5, none⟩) fu).trans g5; have b0 := (hSw.cell (p := ⟨sb, 0, none⟩) su).trans s0; have b1 := (hSw.cell (p := ⟨sb, 1, none⟩) su).trans s1; have b2 := (hSw.cell (p := ⟨sb, 2, none⟩) su).trans s2; clear hSw; go_simp; try with_reducible rfl)
        (try simp only [Act.put, List.setIfInBounds_toArray, List.set_cons_zero, List.set_cons_succ])
        refine takeA (i := 9) (v := ?v9n28) rfl (by kernel_rfl) (by kernel_rfl) (by kernel_rfl) (fun _ _ _ h => h) (by kernel_rfl) (by kernel_rfl) (by assumption) ?y9n28 ?r9n28
        case y9n28 => (intro w hSw; have a9 := (hSw.cell (p := ⟨pb, 2, none⟩) pu).trans c2; have a0 := (hSw.cell (p := ⟨fb, off, none⟩) fu).trans g0; have a1 := (hSw.cell (p := ⟨fb, off + 1, none⟩) fu).trans g1; have a2 := (hSw.cell (p := ⟨fb, off + 2, none⟩) fu).trans g2; have a3 := (hSw.cell (p := ⟨fb, off + 3, none⟩) fu).trans g3; have a4 := (hSw.cell (p := ⟨fb, off + 4, none⟩) fu).trans g4; have a5 := (hSw.cell (p := ⟨fb, off + 5, none⟩) fu).trans g5; have b0 := (hSw.cell (p := ⟨sb, 0, none⟩) su).trans s0; have b1 := (hSw.cell (p := ⟨sb, 1, none⟩) su).trans s1; have b2 := (hSw.cell (p := ⟨sb, 2, none⟩) su).trans s2; clear hSw; go_simp; try with_reducible rfl)
        (try simp only [Act.put, List.setIfInBounds_toArray, List.set_cons_zero, List.set_cons_succ])
        refine takeA (i := 10) (v := ?v10n29) rfl (by kernel_rfl) (by kernel_rfl) (by kernel_rfl) (fun _ _ _ h => h) (by kernel_rfl) (by kernel_rfl) (by assumption) ?y10n29 ?r10n29
        case y10n29 => (intro w hSw; have a9 := (hSw.cell (p := ⟨pb, 2, none⟩) pu).trans c2; have a0 := (hSw.cell (p := ⟨fb, off, none⟩) fu).trans g0; have a1 := (hSw.cell (p := ⟨fb, off + 1, none⟩) fu).trans g1; have a2 := (hSw.cell (p := ⟨fb, off + 2, none⟩) fu).trans g2; have a3 := (hSw.cell (p := ⟨fb, off + 3, none⟩) fu).trans g3; have a4 := (hSw.cell (p := ⟨fb, off + 4, none⟩) fu).trans g4; have a5 := (hSw.cell (p := ⟨fb, off + 5, none⟩) fu).trans g5; have b0 := (hSw.cell (p := ⟨sb, 0, none⟩) su).trans s0; have b1 := (hSw.cell (p := ⟨sb, 1, none⟩) su).trans s1; have b2 := (hSw.cell (p := ⟨sb, 2, none⟩) su).trans s2; clear hSw; go_simp; try with_reducible rfl)
        (try simp only [Act.put, List.setIfInBounds_toArray, List.set_cons_zero, List.set_cons_succ])
        refine takeA (i := 12) (v := ?v12n30) rfl (by kernel_rfl) (by kernel_rfl) (by kernel_rfl) (fun _ _ _ h => h) (by kernel_rfl) (by kernel_rfl) (by assumption) ?y12n30 ?r12n30
        case y12n30 => (intro w hSw; have a9 := (hSw.cell (p := ⟨pb, 2, none⟩) pu).trans c2; have a0 := (hSw.cell (p := ⟨fb, off, none⟩) fu).trans g0; have a1 := (hSw.cell (p := ⟨fb, off + 1, none⟩) fu).trans g1; have a2 := (hSw.cell (p := ⟨fb, off + 2, none⟩) fu).trans g2; have a3 := (hSw.cell (p := ⟨fb, off + 3, none⟩) fu).trans g3; have a4 := (hSw.cell (p := ⟨fb, off + 4, none⟩) fu).trans g4; have a5 := (hSw.cell (p := ⟨fb, off + 5, none⟩) fu).trans g5; have b0 := (hSw.cell (p := ⟨sb, 0, none⟩) su).trans s0; have b1 := (hSw.cell (p := ⟨sb, 1, none⟩) su).trans s1; have b2 := (hSw.cell (p := ⟨sb, 2, none⟩) su).trans s2; clear hSw; go_simp; try with_reducible rfl)
        (try simp only [Act.put, List.setIfInBounds_toArray, List.set_cons_zero, List.set_cons_succ])
        refine takeA (i := 13) (v := ?v13n31) rfl (by kernel_rfl) (by kernel_rfl) (by kernel_rfl) (fun _ _ _ h => h) (by kernel_rfl) (by kernel_rfl) (by assumption) ?y13n31 ?r13n31
        case y13n31 => (intro w hSw; have a9 := (hSw.cell (p := ⟨pb, 2, none⟩) pu).trans c2; have a0 := (hSw.cell (p := ⟨fb, off, none⟩) fu).trans g0; have a1 := (hSw.cell (p := ⟨fb, off + 1, none⟩) fu).trans g1; have a2 := (hSw.cell (p := ⟨fb, off + 2, none⟩) fu).trans g2; have a3 := (hSw.cell (p := ⟨fb, off + 3, none⟩) fu).trans g3; have a4 := (hSw.cell (p := ⟨fb, off + 4, none⟩) fu).trans g4; have a5 := (hSw.cell (p := ⟨fb, off + 5, none⟩) fu).trans g5; have b0 := (hSw.cell (p := ⟨sb, 0, none⟩) su).trans s0; have b1 := (hSw.cell (p := ⟨sb, 1, none⟩) su).trans s1; have b2 := (hSw.cell (p := ⟨sb, 2, none⟩) su).trans s2; clear hSw; go_simp; try with_reducible rfl)
        (try simp only [Act.put, List.setIfInBounds_toArray, List.set_cons_zero, List.set_cons_succ])
        refine takeA (i := 14) (v := ?v14n32) rfl (by kernel_rfl) (by kernel_rfl) (by kernel_rfl) (fun _ _ _ h => h) (by kernel_rfl) (by kernel_rfl) (by assumption) ?y14n32 ?r14n32
        case y14n32 => (intro w hSw; have a9 := (hSw.cell (p := ⟨pb, 2, none⟩) pu).trans c2; have a0 := (hSw.cell (p := ⟨fb, off, none⟩) fu).trans g0; have a1 := (hSw.cell (p := ⟨fb, off + 1, none⟩) fu).trans g1; have a2 := (hSw.cell (p := ⟨fb, off + 2, none⟩) fu).trans g2; have a3 := (hSw.cell (p := ⟨fb, off + 3, none⟩) fu).trans g3; have a4 := (hSw.cell (p := ⟨fb, off + 4, none⟩) fu).trans g4; have a5 := (hSw.cell (p := ⟨fb, off + 5, none⟩) fu).trans g5; have b0 := (hSw.cell (p := ⟨sb, 0, none⟩) su).trans s0; have b1 := (hSw.cell (p := ⟨sb, 1, none⟩) su).trans s1; have b2 := (hSw.cell (p := ⟨sb, 2, none⟩) su).trans s2; clear hSw; go_simp; try with_reducible rfl)
        (try simp only [Act.put, List.setIfInBounds_toArray, List.set_cons_zero, List.set_cons_succ])
        refine takeA (i := 15) (v := ?v15n33) rfl (by kernel_rfl) (by kernel_rfl) (by kernel_rfl) (fun _ _ _ h => h) (by kernel_rfl) (by kernel_rfl) (by assumption) ?y15n33 ?r15n33
        case y15n33 => (intro w hSw; have a9 := (hSw.cell (p := ⟨pb, 2, none⟩) pu).trans c2; have a0 := (hSw.cell (p := ⟨fb, off, none⟩) fu).trans g0; have a1 := (hSw.cell (p := ⟨fb, off + 1, none⟩) fu).trans g1; have a2 := (hSw.cell (p := ⟨fb, off + 2, none⟩) fu).trans g2; have a3 := (hSw.cell (p := ⟨fb, off + 3, none⟩) fu).trans g3; have a4 := (hSw.cell (p := ⟨fb, off + 4, none⟩) fu).trans g4; have a5 := (hSw.cell (p := ⟨fb, off + 5, none⟩) fu).trans g5; have b0 := (hSw.cell (p := ⟨sb, 0, none⟩) su).trans s0; have b1 := (hSw.cell (p := ⟨sb, 1, none⟩) su).trans s1; have b2 := (hSw.cell (p := ⟨sb, 2, none⟩) su).trans s2; clear hSw; go_simp; try with_reducible rfl)
        (try simp only [Act.put, List.setIfInBounds_toArray, List.set_cons_zero, List.set_cons_succ])
        refine takeA (i := 16) (v := ?v16n34) rfl (by kernel_rfl) (by kernel_rfl) (by kernel_rfl) (fun _ _ _ h => h) (by kernel_rfl) (by kernel_rfl) (by assumption) ?y16n34 ?r16n34
        case y16n34 => (intro w hSw; have a9 := (hSw.cell (p := ⟨pb, 2, none⟩) pu).trans c2; have a0 := (hSw.cell (p := ⟨fb, off, none⟩) fu).trans g0; have a1 := (hSw.cell (p := ⟨fb, off + 1, none⟩) fu).trans g1; have a2 := (hSw.cell (p := ⟨fb, off + 2, none⟩) fu).trans g2; have a3 := (hSw.cell (p := ⟨fb, off + 3, none⟩) fu).trans g3; have a4 := (hSw.cell (p := ⟨fb, off + 4, none⟩) fu).trans g4; have a5 := (hSw.cell (p := ⟨fb, off + 5, none⟩) fu).trans g5; have b0 := (hSw.cell (p := ⟨sb, 0, none⟩) su).trans s0; have b1 := (hSw.cell (p := ⟨sb, 1, none⟩) su).trans s1; have b2 := (hSw.cell (p := ⟨sb, 2, none⟩) su).trans s2; clear hSw; go_simp; try with_reducible rfl)
        (try simp only [Act.put, List.setIfInBounds_toArray, List.set_cons_zero, List.set_cons_succ])
        refine takeA (i := 19) (v := ?v19n35) rfl (by kernel_rfl) (by kernel_rfl) (by kernel_rfl) (fun _ _ _ h => h) (by kernel_rfl) (by kernel_rfl) (by assumption) ?y19n35 ?r19n35
        case y19n35 => (intro w hSw; have a9 := (hSw.cell (p := ⟨pb, 2, none⟩) pu).trans c2; have a0 := (hSw.cell (p := ⟨fb, off, none⟩) fu).trans g0; have a1 := (hSw.cell (p := ⟨fb, off + 1, none⟩) fu).trans g1; have a2 := (hSw.cell (p := ⟨fb, off + 2, none⟩) fu).trans g2; have a3 := (hSw.cell (p := ⟨fb, off + 3, none⟩) fu).trans g3; have a4 := (hSw.cell (p := ⟨fb, off + 4, none⟩) fu).trans g4; have a5 := (hSw.cell (p := ⟨fb, off + 5, none⟩) fu).trans g5; have b0 := (hSw.cell (p := ⟨sb, 0, none⟩) su).trans s0; have b1 := (hSw.cell (p := ⟨sb, 1, none⟩) su).trans s1; have b2 := (hSw.cell (p := ⟨sb, 2, none⟩) su).trans s2; clear hSw; go_simp; try with_reducible rfl)
        (try simp only [Act.put, List.setIfInBounds_toArray, List.set_cons_zero, List.set_cons_succ])
        refine readyA (rs := [11]) (by kernel_rfl) (by simp) ?_
        refine AllL.cons rfl (fun K hK => ?_) ?_
        · go_simp
          refine hK.out _ _ (hHeld.alloc hHeld.size _) (fun hHeld => ?_)
          clear hK K
          (try simp only [Act.put, List.setIfInBounds_toArray, List.set_cons_zero, List.set_cons_succ])
          refine takeA (i := 17) (v := ?v17n36) rfl (by kernel_rfl) (by kernel_rfl) (by kernel_rfl) (fun _ _ _ h => h) (by kernel_rfl) (by kernel_rfl) (by assumption) ?y17n36 ?r17n36
          case y17n36 => (intro w hSw; have a9 := (hSw.cell (p := ⟨pb, 2, none⟩) pu).trans c2; have a0 := (hSw.cell (p := ⟨fb, off, none⟩) fu).trans g0; have a1 := (hSw.cell (p := ⟨fb, off + 1, none⟩) fu).trans g1; have a2 := (hSw.cell (p := ⟨fb, off + 2, none⟩) fu).trans g2; have a3 := (hSw.cell (p := ⟨fb, off + 3, none⟩) fu).trans g3; have a4 := (hSw.cell (p := ⟨fb, off + 4, none⟩) fu).trans g4; have a5 := (hSw.cell (p := ⟨fb, off + 5, none⟩) fu).trans g5; have b0 := (hSw.cell (p := ⟨sb, 0, none⟩) su).trans s0; have b1 := (hSw.cell (p := ⟨sb, 1, none⟩) su).trans s1; have b2 := (hSw.cell (p := ⟨sb, 2, none⟩) su).trans s2; clear hSw; go_simp; try with_reducible rfl)
          (try simp only [Act.put, List.setIfInBounds_toArray, List.set_cons_zero, List.set_cons_succ])
          refine readyA (rs := [18]) (by kernel_rfl) (by simp) ?_
          refine AllL.cons rfl (fun K hK => ?_) ?_
          · go_simp
            refine hK.out _ _ (hHeld.alloc hHeld.size _) (fun hHeld => ?_)
            clear hK K
            (try simp only [Act.put, List.setIfInBounds_toArray, List.set_cons_zero, List.set_cons_succ])
            refine readyA (rs := [20]) (by kernel_rfl) (by simp) ?_
            refine AllL.cons rfl (fun K hK => ?_) ?_
            · have OL0 : (((u11.drew.alloc (.cells #[.int .i64 3, .int .i64 (-1), .bool false] 31)).alloc (.cells #[.slice x0 tk.length y0, .int .i64 gk, .int .i64 go, .bool gm, .slice (some ⟨u11.heap.size, 0, none⟩) 1 1, .slice x5 bd.length y5] 34)).ownsRow pb 34 6 (.slice (some ⟨u11.heap.size + 1, 0, none⟩) 1 1) 1 [.slice x0 tk.length y0, .int .i64 gk, .int .i64 go, .bool gm, .slice (some ⟨u11.heap.size, 0, none⟩) 1 1, .slice x5 bd.length y5]) := by have := World.ownsRow_lit (base := pb) (e := 34) (size := 6) (u11.drew.alloc (.cells #[.int .i64 3, .int .i64 (-1), .bool false] 31)) #[.slice x0 tk.length y0, .int .i64 gk, .int .i64 go, .bool gm, .slice (some ⟨u11.heap.size, 0, none⟩) 1 1, .slice x5 bd.length y5] 1 (by simp; omega) (by unfold maxLen; omega) rfl; simpa using this
              have OL := hide OL0
              clear OL0
              have RA : Hid (((u11.drew.alloc (.cells #[.int .i64 3, .int .i64 (-1), .bool false] 31)).alloc (.cells #[.slice x0 tk.length y0, .int .i64 gk, .int .i64 go, .bool gm, .slice (some ⟨u11.heap.size, 0, none⟩) 1 1, .slice x5 bd.length y5] 34)).ownsRow pb 34 6 (.slice (some ⟨nb, 0, none⟩) r.length nc) r.length (ys.drop 6)) := owns_below RO.out (by exact hHeld)
              refine step_app_row _ (by rfl) _ _ 25 34 (by rfl) j0 _ 6 96 Tryd.underlying25 JI.out JZ.out JS.out JB.out (by rfl) (by decide) (by decide) pb (.slice (some ⟨u11.heap.size + 1, 0, none⟩) 1 1) 1 [.slice x0 tk.length y0, .int .i64 gk, .int .i64 go, .bool gm, .slice (some ⟨u11.heap.size, 0, none⟩) 1 1, .slice x5 bd.length y5] nb 0 nc r.length (ys.drop 6) (by rfl) (by rfl) OL.out (by have := RA.out.1; exact this) (CellsAt.owns RA.out) (YLx.out.tail.one) (by decide) (by decide) (by omega) (by simp; omega) (r.length + 1) (by omega) ?_
              intro gB cap9 w9 hown9 hgr9
              refine hK.out _ _ (hHeld.grown hgr9 hHeld.size (fun q hq => by simp [Value.ownBlock] at hq; omega)) (fun hHeld => ?_)
              clear hK K
              (try simp only [Act.put, List.setIfInBounds_toArray, List.set_cons_zero, List.set_cons_succ])
              refine takeA (i := 21) (v := ?v21n37) rfl (by kernel_rfl) (by kernel_rfl) (by kernel_rfl) (fun _ _ _ h => h) (by kernel_rfl) (by kernel_rfl) (by assumption) ?y21n37 ?r21n37
              case y21n37 => (intro w hSw; have a9 := (hSw.cell (p := ⟨pb, 2, none⟩) pu).trans c2; have a0 := (hSw.cell (p := ⟨fb, off, none⟩) fu).trans g0; have a1 := (hSw.cell (p := ⟨fb, off + 1, none⟩) fu).trans g1; have a2 := (hSw.cell (p := ⟨fb, off + 2, none⟩) fu).trans g2; have a3 := (hSw.cell (p := ⟨fb, off + 3, none⟩) fu).trans g3; have a4 := (hSw.cell (p := ⟨fb, off + 4, none⟩) fu).trans g4; have a5 := (hSw.cell (p := ⟨fb, off + 5, none⟩) fu).trans g5; have b0 := (hSw.cell (p := ⟨sb, 0, none⟩) su).trans s0; have b1 := (hSw.cell (p := ⟨sb, 1, none⟩) su).trans s1; have b2 := (hSw.cell (p := ⟨sb, 2, none⟩) su).trans s2; clear hSw; go_simp; try with_reducible rfl)
              (try simp only [Act.put, List.setIfInBounds_toArray, List.set_cons_zero, List.set_cons_succ])
              refine readyA (rs := [22]) (by kernel_rfl) (by simp) ?_
              refine AllL.last rfl (fun K hK => ?_)
              have t2 := (hHeld.cell (p := ⟨t11, 2, none⟩) tu).trans (T11.out.cell (o := 2) rfl)
              have t2f := (hHeld.frozen (p := ⟨t11, 2, none⟩) tu).trans (T11.out.frozen 2)
              go_simp
              refine hK.out _ _ ?_
              clear hK K
              (try simp only [Act.put, List.setIfInBounds_toArray, List.set_cons_zero, List.set_cons_succ])
              refine doneA (by kernel_rfl) ?_ _
              have H9 := hide hHeld
              clear t2 t2f hHeld c2 g0 g1 g2 g3 g4 g5 s0 s1 s2
              have s9 := H9.out.size
              have TW := hide ((T11.out.below H9.out tu).set 2 (.slice (some ⟨gB, 0, none⟩) (r.length + 1) cap9))
              have BW := hide ((B11.out.trans (H9.out.mono (Nat.le_of_lt pu))).setCell (p := ⟨t11, 2, none⟩) (show pb ≤ t11 by omega) (.slice (some ⟨gB, 0, none⟩) (r.length + 1) cap9))
              have CW := hide ((C11.out.trans (H9.out.mono (by omega))).setCell (p := ⟨t11, 2, none⟩) (show wc.heap.size ≤ t11 by omega) (.slice (some ⟨gB, 0, none⟩) (r.length + 1) cap9))
              have SW := hide ((S11.out.below H9.out su).other (show sb ≠ t11 by omega) 2 (.slice (some ⟨gB, 0, none⟩) (r.length + 1) cap9))
              have DW : Hid (Below w10.heap.size w10 (w9.setCell ⟨t11, 2, none⟩ (.slice (some ⟨gB, 0, none⟩) (r.length + 1) cap9))) := (D11.out.trans (H9.out.mono (by omega))).setCell (p := ⟨t11, 2, none⟩) (show w10.heap.size ≤ t11 by omega) (.slice (some ⟨gB, 0, none⟩) (r.length + 1) cap9)
              have zW : wc.heap.size < (w9.setCell ⟨t11, 2, none⟩ (.slice (some ⟨gB, 0, none⟩) (r.length + 1) cap9)).heap.size := by simp; omega
              have zB : pb ≤ (w9.setCell ⟨t11, 2, none⟩ (.slice (some ⟨gB, 0, none⟩) (r.length + 1) cap9)).heap.size := by simp; omega
              have OW9 : Hid ((w9.setCell ⟨t11, 2, none⟩ (.slice (some ⟨gB, 0, none⟩) (r.length + 1) cap9)).ownsRow pb 34 6 (.slice (some ⟨gB, 0, none⟩) (r.length + 1) cap9) (r.length + 1) ([.slice x0 tk.length y0, .int .i64 gk, .int .i64 go, .bool gm, .slice (some ⟨u11.heap.size, 0, none⟩) 1 1, .slice x5 bd.length y5] ++ ys.drop 6)) := owns_of_block hown9 fun k hk => Below.heap_setCell _ _ _ _ (by
                obtain ⟨c, h5⟩ := owns_kind hown9 hk
                exact kind_ne h5 (T11.out.below H9.out tu) (by decide))
              have smW : Same w.heap.size pb w1 (w9.setCell ⟨t11, 2, none⟩ (.slice (some ⟨gB, 0, none⟩) (r.length + 1) cap9)) := Same.of_below BW.out (Nat.le_refl _)
              have s9b : u11.heap.size + 1 ≤ w9.heap.size := by have := hgr9.size; simp at this; omega
              have LS : Same u11.heap.size (u11.heap.size + 1) (u11.drew.alloc (.cells #[.int .i64 3, .int .i64 (-1), .bool false] 31)) (w9.setCell ⟨t11, 2, none⟩ (.slice (some ⟨gB, 0, none⟩) (r.length + 1) cap9)) := by
                have hb : Below (u11.heap.size + 1) (u11.drew.alloc (.cells #[.int .i64 3, .int .i64 (-1), .bool false] 31)) w9 := ((Below.refl _ _).alloc (by simp) (.cells #[.slice x0 tk.length y0, .int .i64 gk, .int .i64 go, .bool gm, .slice (some ⟨u11.heap.size, 0, none⟩) 1 1, .slice x5 bd.length y5] 34)).grown hgr9 (by simp) (fun q hq => by simp [Value.ownBlock] at hq; omega)
                exact (Same.of_below hb (Nat.le_refl _)).set (.inl (by omega)) _ _
              have FC : FunC (w9.setCell ⟨t11, 2, none⟩ (.slice (some ⟨gB, 0, none⟩) (r.length + 1) cap9)) w.heap.size (w9.setCell ⟨t11, 2, none⟩ (.slice (some ⟨gB, 0, none⟩) (r.length + 1) cap9)).heap.size [.slice x0 tk.length y0, .int .i64 gk, .int .i64 go, .bool gm, .slice (some ⟨u11.heap.size, 0, none⟩) 1 1, .slice x5 bd.length y5] 0 ⟨tk, ⟨gk, go, gm⟩, [⟨3, -1, false⟩], bd⟩ := ⟨x0, y0, some ⟨u11.heap.size, 0, none⟩, 1, x5, y5, rfl, rfl, rfl, rfl, rfl, rfl, L0x.out.same smW (Nat.le_refl _) zB, ⟨((field_one u11.drew ⟨3, -1, false⟩).same (LS : Same _ _ _ (w9.setCell ⟨t11, 2, none⟩ (.slice (some ⟨gB, 0, none⟩) (r.length + 1) cap9))) (by show w.heap.size ≤ u11.heap.size; omega) (by show u11.heap.size + 1 ≤ _; simp; omega)), fun e => (by cases e)⟩, L5x.out.same smW (Nat.le_refl _) zB⟩
              have PW : Hid (PS w (w9.setCell ⟨t11, 2, none⟩ (.slice (some ⟨gB, 0, none⟩) (r.length + 1) cap9)) e0 e1 (some ⟨gB, 0, none⟩) d0 cap9 ⟨ts, gl, ⟨tk, ⟨gk, go, gm⟩, [⟨3, -1, false⟩], bd⟩ :: r⟩) := PS.of BW1.out hwp zB PMx.out.1 PMx.out.2.1 BW.out (YLx.out.tail.same smW (Nat.le_refl _) zB) FC rfl OW9.out hdc PG.out PL (by omega) (by obtain ⟨q1, q2, q3⟩ := hF0.out; refine ⟨?_, ?_, ?_⟩ <;> simp_all [FieldsB, InssB]) hFr.out
              clear FC smW OW9 hown9 hgr9 RO RA OL H9
              have TT9 := hide (TQ9.out.below DW.out TQ9.out.lt)
              have PP9 := hide (PQ9.out.keep DW.out)
              generalize hG11 : (w9.setCell ⟨t11, 2, none⟩ (.slice (some ⟨gB, 0, none⟩) (r.length + 1) cap9)) = w12 at *
              clear hG11
              have B12 := BW
              have C12 := CW
              have S12 := SW
              have z12 := zW
              clear TQ9 PQ9
              have TQ9 := TT9
              have PQ9 := PP9
              clear TT9 PP9
              have TQ11 := TW
              have PQ11 := PW
              have tlt11 : t11 < w12.heap.size := TQ11.out.lt
              clear BW CW SW zW TW PW DW zB B11 C11 S11 D11 T11 s9 tle1 tle2 yle
              have p013 := (C12.out.cell (p := ⟨pb, 0, none⟩) ltc).trans q0c
              have p113 := (C12.out.cell (p := ⟨pb, 1, none⟩) ltc).trans q1c
              have p213 := (C12.out.cell (p := ⟨pb, 2, none⟩) ltc).trans q2c
              go_upto_region 13 with fail
              clear p013 p113 p213
              have ltp13 : wc.heap.size < w12.heap.size := z12
              have B13 := hide (B12.out.alloc (by omega) (.cells #[.slice e0 ts.length d0, .slice e1 gl.length d1, .slice (some ⟨fb, off, none⟩) (r.length + 1) d2] 27))
              have C13 := hide (C12.out.alloc (Nat.le_of_lt z12) (.cells #[.slice e0 ts.length d0, .slice e1 gl.length d1, .slice (some ⟨fb, off, none⟩) (r.length + 1) d2] 27))
              have S13 := hide (S12.out.alloc (.cells #[.slice e0 ts.length d0, .slice e1 gl.length d1, .slice (some ⟨fb, off, none⟩) (r.length + 1) d2] 27))
              have T13 := hide (Rec.new w12 27 [.slice e0 ts.length d0, .slice e1 gl.length d1, .slice (some ⟨fb, off, none⟩) (r.length + 1) d2])
              have D13 : Hid (Below w12.heap.size w12 (w12.alloc (.cells #[.slice e0 ts.length d0, .slice e1 gl.length d1, .slice (some ⟨fb, off, none⟩) (r.length + 1) d2] 27))) := (Below.refl _ _).alloc (Nat.le_refl _) _
              have y13 : (w12.alloc (.cells #[.slice e0 ts.length d0, .slice e1 gl.length d1, .slice (some ⟨fb, off, none⟩) (r.length + 1) d2] 27)).heap.size = w12.heap.size + 1 := by simp
              generalize hu13 : w12.alloc (.cells #[.slice e0 ts.length d0, .slice e1 gl.length d1, .slice (some ⟨fb, off, none⟩) (r.length + 1) d2] 27) = u13 at *
              generalize ht13 : w12.heap.size = t13 at T13
              clear hu13
              have tle1 : w12.heap.size ≤ t13 := by omega
              have tle2 : t13 ≤ w12.heap.size := by omega
              have yle : t13 < u13.heap.size := by omega
              clear y13 ht13
              have pu : pb < u13.heap.size := by omega
              have fu : fb < u13.heap.size := by omega
              have su : sb < u13.heap.size := by omega
              have tu : t13 < u13.heap.size := by omega
              have c2 := (C13.out.cell (p := ⟨pb, 2, none⟩) ltc).trans q2c
              have g0 := (B13.out.cell (p := ⟨fb, off, none⟩) hfbl).trans F0.out
              have g1 := (B13.out.cell (p := ⟨fb, off + 1, none⟩) hfbl).trans F1.out
              have g2 := (B13.out.cell (p := ⟨fb, off + 2, none⟩) hfbl).trans F2.out
              have g3 := (B13.out.cell (p := ⟨fb, off + 3, none⟩) hfbl).trans F3.out
              have g4 := (B13.out.cell (p := ⟨fb, off + 4, none⟩) hfbl).trans F4.out
              have g5 := (B13.out.cell (p := ⟨fb, off + 5, none⟩) hfbl).trans F5.out
              have s0 := S13.out.cell (o := 0) rfl
              have s1 := S13.out.cell (o := 1) rfl
              have s2 := S13.out.cell (o := 2) rfl
              have RO := hide (owns_below HRW.out (show Below wc.heap.size wc u13 from C13.out))
              go_wp2_with fail
              refine beginA (S := fun w' => Below u13.heap.size u13 w') 21 (by kernel_rfl) ((Below.refl _ _).drew) (fun hHeld => ?_)
              refine takeA (i := 0) (v := ?v0n38) rfl (by kernel_rfl) (by kernel_rfl) (by kernel_rfl) (fun _ _ _ h => h) (by kernel_rfl) (by kernel_rfl) (by assumption) ?y0n38 ?r0n38
              case y0n38 => (intro w hSw; have a9 := (hSw.cell (p := ⟨pb, 2, none⟩) pu).trans c2; have a0 := (hSw.cell (p := ⟨fb, off, none⟩) fu).trans g0; have a1 := (hSw.cell (p := ⟨fb, off + 1, none⟩) fu).trans g1; have a2 := (hSw.cell (p := ⟨fb, off + 2, none⟩) fu).trans g2; have a3 := (hSw.cell (p := ⟨fb, off + 3, none⟩) fu).trans g3; have a4 := (hSw.cell (p := ⟨fb, off + 4, none⟩) fu).trans g4; have a5 := (hSw.cell (p := ⟨fb, off + 5, none⟩) fu).trans g5; have b0 := (hSw.cell (p := ⟨sb, 0, none⟩) su).trans s0; have b1 := (hSw.cell (p := ⟨sb, 1, none⟩) su).trans s1; have b2 := (hSw.cell (p := ⟨sb, 2, none⟩) su).trans s2; clear hSw; go_simp; try with_reducible rfl)
              (try simp only [Act.put, List.setIfInBounds_toArray, List.set_cons_zero, List.set_cons_succ])
              refine takeA (i := 1) (v := ?v1n39) rfl (by kernel_rfl) (by kernel_rfl) (by kernel_rfl) (fun _ _ _ h => h) (by kernel_rfl) (by kernel_rfl) (by assumption) ?y1n39 ?r1n39
              case y1n39 => (intro w hSw; have a9 := (hSw.cell (p := ⟨pb, 2, none⟩) pu).trans c2; have a0 := (hSw.cell (p := ⟨fb, off, none⟩) fu).trans g0; have a1 := (hSw.cell (p := ⟨fb, off + 1, none⟩) fu).trans g1; have a2 := (hSw.cell (p := ⟨fb, off + 2, none⟩) fu).trans g2; have a3 := (hSw.cell (p := ⟨fb, off + 3, none⟩) fu).trans g3; have a4 := (hSw.cell (p := ⟨fb, off + 4, none⟩) fu).trans g4; have a5 := (hSw.cell (p := ⟨fb, off + 5, none⟩) fu).trans g5; have b0 := (hSw.cell (p := ⟨sb, 0, none⟩) su).trans s0; have b1 := (hSw.cell (p := ⟨sb, 1, none⟩) su).trans s1; have b2 := (hSw.cell (p := ⟨sb, 2, none⟩) su).trans s2; clear hSw; go_simp; try with_reducible rfl)
              (try simp only [Act.put, List.setIfInBounds_toArray, List.set_cons_zero, List.set_cons_succ])
              refine takeA (i := 2) (v := ?v2n40) rfl (by kernel_rfl) (by kernel_rfl) (by kernel_rfl) (fun _ _ _ h => h) (by kernel_rfl) (by kernel_rfl) (by assumption) ?y2n40 ?r2n40
              case y2n40 => (intro w hSw; have a9 := (hSw.cell (p := ⟨pb, 2, none⟩) pu).trans c2; have a0 := (hSw.cell (p := ⟨fb, off, none⟩) fu).trans g0; have a1 := (hSw.cell (p := ⟨fb, off + 1, none⟩) fu).trans g1; have a2 := (hSw.cell (p := ⟨fb, off + 2, none⟩) fu).trans g2; have a3 := (hSw.cell (p := ⟨fb, off + 3, none⟩) fu).trans g3; have a4 := (hSw.cell (p := ⟨fb, off + 4, none⟩) fu).trans g4; have a5 := (hSw.cell (p := ⟨fb, off + 5, none⟩) fu).trans g5; have b0 := (hSw.cell (p := ⟨sb, 0, none⟩) su).trans s0; have b1 := (hSw.cell (p := ⟨sb, 1, none⟩) su).trans s1; have b2 := (hSw.cell (p := ⟨sb, 2, none⟩) su).trans s2; clear hSw; go_simp; try with_reducible rfl)
              (try simp only [Act.put, List.setIfInBounds_toArray, List.set_cons_zero, List.set_cons_succ])
              refine takeA (i := 3) (v := ?v3n41) rfl (by kernel_rfl) (by kernel_rfl) (by kernel_rfl) (fun _ _ _ h => h) (by kernel_rfl) (by kernel_rfl) (by assumption) ?y3n41 ?r3n41
              case y3n41 => (intro w hSw; have a9 := (hSw.cell (p := ⟨pb, 2, none⟩) pu).trans c2; have a0 := (hSw.cell (p := ⟨fb, off, none⟩) fu).trans g0; have a1 := (hSw.cell (p := ⟨fb, off + 1, none⟩) fu).trans g1; have a2 := (hSw.cell (p := ⟨fb, off + 2, none⟩) fu).trans g2; have a3 := (hSw.cell (p := ⟨fb, off + 3, none⟩) fu).trans g3; have a4 := (hSw.cell (p := ⟨fb, off + 4, none⟩) fu).trans g4; have a5 := (hSw.cell (p := ⟨fb, off + 5, none⟩) fu).trans g5; have b0 := (hSw.cell (p := ⟨sb, 0, none⟩) su).trans s0; have b1 := (hSw.cell (p := ⟨sb, 1, none⟩) su).trans s1; have b2 := (hSw.cell (p := ⟨sb, 2, none⟩) su).trans s2; clear hSw; go_simp; try with_reducible rfl)
              (try simp only [Act.put, List.setIfInBounds_toArray, List.set_cons_zero, List.set_cons_succ])
              refine takeA (i := 4) (v := ?v4n42) rfl (by kernel_rfl) (by kernel_rfl) (by kernel_rfl) (fun _ _ _ h => h) (by kernel_rfl) (by kernel_rfl) (by assumption) ?y4n42 ?r4n42
              case y4n42 => (intro w hSw; have a9 := (hSw.cell (p := ⟨pb, 2, none⟩) pu).trans c2; have a0 := (hSw.cell (p := ⟨fb, off, none⟩) fu).trans g0; have a1 := (hSw.cell (p := ⟨fb, off + 1, none⟩) fu).trans g1; have a2 := (hSw.cell (p := ⟨fb, off + 2, none⟩) fu).trans g2; have a3 := (hSw.cell (p := ⟨fb, off + 3, none⟩) fu).trans g3; have a4 := (hSw.cell (p := ⟨fb, off + 4, none⟩) fu).trans g4; have a5 := (hSw.cell (p := ⟨fb, off + 5, none⟩) fu).trans g5; have b0 := (hSw.cell (p := ⟨sb, 0, none⟩) su).trans s0; have b1 := (hSw.cell (p := ⟨sb, 1, none⟩) su).trans s1; have b2 := (hSw.cell (p := ⟨sb, 2, none⟩) su).trans s2; clear hSw; go_simp; try with_reducible rfl)
              (try simp only [Act.put, List.setIfInBounds_toArray, List.set_cons_zero, List.set_cons_succ])
              refine takeA (i := 5) (v := ?v5n43) rfl (by kernel_rfl) (by kernel_rfl) (by kernel_rfl) (fun _ _ _ h => h) (by kernel_rfl) (by kernel_rfl) (by assumption) ?y5n43 ?r5n43
              case y5n43 => (intro w hSw; have a9 := (hSw.cell (p := ⟨pb, 2, none⟩) pu).trans c2; have a0 := (hSw.cell (p := ⟨fb, off, none⟩) fu).trans g0; have a1 := (hSw.cell (p := ⟨fb, off + 1, none⟩) fu).trans g1; have a2 := (hSw.cell (p := ⟨fb, off + 2, none⟩) fu).trans g2; have a3 := (hSw.cell (p := ⟨fb, off + 3, none⟩) fu).trans g3; have a4 := (hSw.cell (p := ⟨fb, off + 4, none⟩) fu).trans g4; have a5 := (hSw.cell (p := ⟨fb, off + 5, none⟩) fu).trans g5; have b0 := (hSw.cell (p := ⟨sb, 0, none⟩) su).trans s0; have b1 := (hSw.cell (p := ⟨sb, 1, none⟩) su).trans s1; have b2 := (hSw.cell (p := ⟨sb, 2, none⟩) su).trans s2; clear hSw; go_simp; try with_reducible rfl)
              (try simp only [Act.put, List.setIfInBounds_toArray, List.set_cons_zero, List.set_cons_succ])
              refine takeA (i := 6) (v := ?v6n44) rfl (by kernel_rfl) (by kernel_rfl) (by kernel_rfl) (fun _ _ _ h => h) (by kernel_rfl) (by kernel_rfl) (by assumption) ?y6n44 ?r6n44
              case y6n44 => (intro w hSw; have a9 := (hSw.cell (p := ⟨pb, 2, none⟩) pu).trans c2; have a0 := (hSw.cell (p := ⟨fb, off, none⟩) fu).trans g0; have a1 := (hSw.cell (p := ⟨fb, off + 1, none⟩) fu).trans g1; have a2 := (hSw.cell (p := ⟨fb, off + 2, none⟩) fu).trans g2; have a3 := (hSw.cell (p := ⟨fb, off + 3, none⟩) fu).trans g3; have a4 := (hSw.cell (p := ⟨fb, off + 4, none⟩) fu).trans g4; have a5 := (hSw.cell (p := ⟨fb, off + 5, none⟩) fu).trans g5; have b0 := (hSw.cell (p := ⟨sb, 0, none⟩) su).trans s0; have b1 := (hSw.cell (p := ⟨sb, 1, none⟩) su).trans s1; have b2 := (hSw.cell (p := ⟨sb, 2, none⟩) su).trans s2; clear hSw; go_simp; try with_reducible rfl)
              (try simp only [Act.put, List.setIfInBounds_toArray, List.set_cons_zero, List.set_cons_succ])
              refine takeA (i := 7) (v := ?v7n45) rfl (by kernel_rfl) (by kernel_rfl) (by kernel_rfl) (fun _ _ _ h => h) (by kernel_rfl) (by kernel_rfl) (by assumption) ?y7n45 ?r7n45
              case y7n45 => (intro w hSw; have a9 := (hSw.cell (p := ⟨pb, 2, none⟩) pu).trans c2; have a0 := (hSw.cell (p := ⟨fb, off, none⟩) fu).trans g0; have a1 := (hSw.cell (p := ⟨fb, off + 1, none⟩) fu).trans g1; have a2 := (hSw.cell (p := ⟨fb, off + 2, none⟩) fu).trans g2; have a3 := (hSw.cell (p := ⟨fb, off + 3, none⟩) fu).trans g3; have a4 := (hSw.cell (p := ⟨fb, off + 4, none⟩) fu).trans g4; have a5 := (hSw.cell (p := ⟨fb, off + 5, none⟩) fu).trans g5; have b0 := (hSw.cell (p := ⟨sb, 0, none⟩) su).trans s0; have b1 := (hSw.cell (p := ⟨sb, 1, none⟩) su).trans s1; have b2 := (hSw.cell (p := ⟨sb, 2, none⟩) su).trans s2; clear hSw; go_simp; try with_reducible rfl)
              (try simp only [Act.put, List.setIfInBounds_toArray, List.set_cons_zero, List.set_cons_succ])
              refine takeA (i := 8) (v := ?v8n46) rfl (by kernel_rfl) (by kernel_rfl) (by kernel_rfl) (fun _ _ _ h => h) (by kernel_rfl) (by kernel_rfl) (by assumption) ?y8n46 ?r8n46
              case y8n46 => (intro w hSw; have a9 := (hSw.cell (p := ⟨pb, 2, none⟩) pu).trans c2; have a0 := (hSw.cell (p := ⟨fb, off, none⟩) fu).trans g0; have a1 := (hSw.cell (p := ⟨fb, off + 1, none⟩) fu).trans g1; have a2 := (hSw.cell (p := ⟨fb, off + 2, none⟩) fu).trans g2; have a3 := (hSw.cell (p := ⟨fb, off + 3, none⟩) fu).trans g3; have a4 := (hSw.cell (p := ⟨fb, off + 4, none⟩) fu).trans g4; have a5 := (hSw.cell (p := ⟨fb, off + 5, none⟩) fu).trans g5; have b0 := (hSw.cell (p := ⟨sb, 0, none⟩) su).trans s0; have b1 := (hSw.cell (p := ⟨sb, 1, none⟩) su).trans s1; have b2 := (hSw.cell (p := ⟨sb, 2, none⟩) su).trans s2; clear hSw; go_simp; try with_reducible rfl)
              (try simp only [Act.put, List.setIfInBounds_toArray, List.set_cons_zero, List.set_cons_succ])
              refine takeA (i := 9) (v := ?v9n47) rfl (by kernel_rfl) (by kernel_rfl) (by kernel_rfl) (fun _ _ _ h => h) (by kernel_rfl) (by kernel_rfl) (by assumption) ?y9n47 ?r9n47
              case y9n47 => (intro w hSw; have a9 := (hSw.cell (p := ⟨pb, 2, none⟩) pu).trans c2; have a0 := (hSw.cell (p := ⟨fb, off, none⟩) fu).trans g0; have a1 := (hSw.cell (p := ⟨fb, off + 1, none⟩) fu).trans g1; have a2 := (hSw.cell (p := ⟨fb, off + 2, none⟩) fu).trans g2; have a3 := (hSw.cell (p := ⟨fb, off + 3, none⟩) fu).trans g3; have a4 := (hSw.cell (p := ⟨fb, off + 4, none⟩) fu).trans g4; have a5 := (hSw.cell (p := ⟨fb, off + 5, none⟩) fu).trans g5; have b0 := (hSw.cell (p := ⟨sb, 0, none⟩) su).trans s0; have b1 := (hSw.cell (p := ⟨sb, 1, none⟩) su).trans s1; have b2 := (hSw.cell (p := ⟨sb, 2, none⟩) su).trans s2; clear hSw; go_simp; try with_reducible rfl)
              (try simp only [Act.put, List.setIfInBounds_toArray, List.set_cons_zero, List.set_cons_succ])
              refine takeA (i := 10) (v := ?v10n48) rfl (by kernel_rfl) (by kernel_rfl) (by kernel_rfl) (fun _ _ _ h => h) (by kernel_rfl) (by kernel_rfl) (by assumption) ?y10n48 ?r10n48
              case y10n48 => (intro w hSw; have a9 := (hSw.cell (p := ⟨pb, 2, none⟩) pu).trans c2; have a0 := (hSw.cell (p := ⟨fb, off, none⟩) fu).trans g0; have a1 := (hSw.cell (p := ⟨fb, off + 1, none⟩) fu).trans g1; have a2 := (hSw.cell (p := ⟨fb, off + 2, none⟩) fu).trans g2; have a3 := (hSw.cell (p := ⟨fb, off + 3, none⟩) fu).trans g3; have a4 := (hSw.cell (p := ⟨fb, off + 4, none⟩) fu).trans g4; have a5 := (hSw.cell (p := ⟨fb, off + 5, none⟩) fu).trans g5; have b0 := (hSw.cell (p := ⟨sb, 0, none⟩) su).trans s0; have b1 := (hSw.cell (p := ⟨sb, 1, none⟩) su).trans s1; have b2 := (hSw.cell (p := ⟨sb, 2, none⟩) su).trans s2; clear hSw; go_simp; try with_reducible rfl)
              (try simp only [Act.put, List.setIfInBounds_toArray, List.set_cons_zero, List.set_cons_succ])
              refine takeA (i := 11) (v := ?v11n49) rfl (by kernel_rfl) (by kernel_rfl) (by kernel_rfl) (fun _ _ _ h => h) (by kernel_rfl) (by kernel_rfl) (by assumption) ?y11n49 ?r11n49
              case y11n49 => (intro w hSw; have a9 := (hSw.cell (p := ⟨pb, 2, none⟩) pu).trans c2; have a0 := (hSw.cell (p := ⟨fb, off, none⟩) fu).trans g0; have a1 := (hSw.cell (p := ⟨fb, off + 1, none⟩) fu).trans g1; have a2 := (hSw.cell (p := ⟨fb, off + 2, none⟩) fu).trans g2; have a3 := (hSw.cell (p := ⟨fb, off + 3, none⟩) fu).trans g3; have a4 := (hSw.cell (p := ⟨fb, off + 4, none⟩) fu).trans g4; have a5 := (hSw.cell (p := ⟨fb, off + 5, none⟩) fu).trans g5; have b0 := (hSw.cell (p := ⟨sb, 0, none⟩) su).trans s0; have b1 := (hSw.cell (p := ⟨sb, 1, none⟩) su).trans s1; have b2 := (hSw.cell (p := ⟨sb, 2, none⟩) su).trans s2; clear hSw; go_simp; try with_reducible rfl)
              (try simp only [Act.put, List.setIfInBounds_toArray, List.set_cons_zero, List.set_cons_succ])
              refine takeA (i := 12) (v := ?v12n50) rfl (by kernel_rfl) (by kernel_rfl) (by kernel_rfl) (fun _ _ _ h => h) (by kernel_rfl) (by kernel_rfl) (by assumption) ?y12n50 ?r12n50
              case y12n50 => (intro w hSw; have a9 := (hSw.cell (p := ⟨pb, 2, none⟩) pu).trans c2; have a0 := (hSw.cell (p := ⟨fb, off, none⟩) fu).trans g0; have a1 := (hSw.cell (p := ⟨fb, off + 1, none⟩) fu).trans g1; have a2 := (hSw.cell (p := ⟨fb, off + 2, none⟩) fu).trans g2; have a3 := (hSw.cell (p := ⟨fb, off + 3, none⟩) fu).trans g3; have a4 := (hSw.cell (p := ⟨fb, off + 4, none⟩) fu).trans g4; have a5 := (hSw.cell (p := ⟨fb, off + 5, none⟩) fu).trans g5; have b0 := (hSw.cell (p := ⟨sb, 0, none⟩) su).trans s0; have b1 := (hSw.cell (p := ⟨sb, 1, none⟩) su).trans s1; have b2 := (hSw.cell (p := ⟨sb, 2, none⟩) su).trans s2; clear hSw; go_simp; try with_reducible rfl)
              (try simp only [Act.put, List.setIfInBounds_toArray, List.set_cons_zero, List.set_cons_succ])
              refine takeA (i := 13) (v := ?v13n51) rfl (by kernel_rfl) (by kernel_rfl) (by kernel_rfl) (fun _ _ _ h => h) (by kernel_rfl) (by kernel_rfl) (by assumption) ?y13n51 ?r13n51
              case y13n51 => (intro w hSw; have a9 := (hSw.cell (p := ⟨pb, 2, none⟩) pu).trans c2; have a0 := (hSw.cell (p := ⟨fb, off, none⟩) fu).trans g0; have a1 := (hSw.cell (p := ⟨fb, off + 1, none⟩) fu).trans g1; have a2 := (hSw.cell (p := ⟨fb, off + 2, none⟩) fu).trans g2; have a3 := (hSw.cell (p := ⟨fb, off + 3, none⟩) fu).trans g3; have a4 := (hSw.cell (p := ⟨fb, off + 4, none⟩) fu).trans g4; have a5 := (hSw.cell (p := ⟨fb, off + 5, none⟩) fu).trans g5; have b0 := (hSw.cell (p := ⟨sb, 0, none⟩) su).trans s0; have b1 := (hSw.cell (p := ⟨sb, 1, none⟩) su).trans s1; have b2 := (hSw.cell (p := ⟨sb, 2, none⟩) su).trans s2; clear hSw; go_simp; try with_reducible rfl)
              (try simp only [Act.put, List.setIfInBounds_toArray, List.set_cons_zero, List.set_cons_succ])
              refine takeA (i := 14) (v := ?v14n52) rfl (by kernel_rfl) (by kernel_rfl) (by kernel_rfl) (fun _ _ _ h => h) (by kernel_rfl) (by kernel_rfl) (by assumption) ?y14n52 ?r14n52
              case y14n52 => (intro w hSw; have a9 := (hSw.cell (p := ⟨pb, 2, none⟩) pu).trans c2; have a0 := (hSw.cell (p := ⟨fb, off, none⟩) fu).trans g0; have a1 := (hSw.cell (p := ⟨fb, off + 1, none⟩) fu).trans g1; have a2 := (hSw.cell (p := ⟨fb, off + 2, none⟩) fu).trans g2; have a3 := (hSw.cell (p := ⟨fb, off + 3, none⟩) fu).trans g3; have a4 := (hSw.cell (p := ⟨fb, off + 4, none⟩) fu).trans g4; have a5 := (hSw.cell (p := ⟨fb, off + 5, none⟩) fu).trans g5; have b0 := (hSw.cell (p := ⟨sb, 0, none⟩) su).trans s0; have b1 := (hSw.cell (p := ⟨sb, 1, none⟩) su).trans s1; have b2 := (hSw.cell (p := ⟨sb, 2, none⟩) su).trans s2; clear hSw; go_simp; try with_reducible rfl)
              (try simp only [Act.put, List.setIfInBounds_toArray, List.set_cons_zero, List.set_cons_succ])
              refine takeA (i := 15) (v := ?v15n53) rfl (by kernel_rfl) (by kernel_rfl) (by kernel_rfl) (fun _ _ _ h => h) (by kernel_rfl) (by kernel_rfl) (by assumption) ?y15n53 ?r15n53
              case y15n53 => (intro w hSw; have a9 := (hSw.cell (p := ⟨pb, 2, none⟩) pu).trans c2; have a0 := (hSw.cell (p := ⟨fb, off, none⟩) fu).trans g0; have a1 := (hSw.cell (p := ⟨fb, off + 1, none⟩) fu).trans g1; have a2 := (hSw.cell (p := ⟨fb, off + 2, none⟩) fu).trans g2; have a3 := (hSw.cell (p := ⟨fb, off + 3, none⟩) fu).trans g3; have a4 := (hSw.cell (p := ⟨fb, off + 4, none⟩) fu).trans g4; have a5 := (hSw.cell (p := ⟨fb, off + 5, none⟩) fu).trans g5; have b0 := (hSw.cell (p := ⟨sb, 0, none⟩) su).trans s0; have b1 := (hSw.cell (p := ⟨sb, 1, none⟩) su).trans s1; have b2 := (hSw.cell (p := ⟨sb, 2, none⟩) su).trans s2; clear hSw; go_simp; try with_reducible rfl)
              (try simp only [Act.put, List.setIfInBounds_toArray, List.set_cons_zero, List.set_cons_succ])
              refine takeA (i := 16) (v := ?v16n54) rfl (by kernel_rfl) (by kernel_rfl) (by kernel_rfl) (fun _ _ _ h => h) (by kernel_rfl) (by kernel_rfl) (by assumption) ?y16n54 ?r16n54
              case y16n54 => (intro w hSw; have a9 := (hSw.cell (p := ⟨pb, 2, none⟩) pu).trans c2; have a0 := (hSw.cell (p := ⟨fb, off, none⟩) fu).trans g0; have a1 := (hSw.cell (p := ⟨fb, off + 1, none⟩) fu).trans g1; have a2 := (hSw.cell (p := ⟨fb, off + 2, none⟩) fu).trans g2; have a3 := (hSw.cell (p := ⟨fb, off + 3, none⟩) fu).trans g3; have a4 := (hSw.cell (p := ⟨fb, off + 4, none⟩) fu).trans g4; have a5 := (hSw.cell (p := ⟨fb, off + 5, none⟩) fu).trans g5; have b0 := (hSw.cell (p := ⟨sb, 0, none⟩) su).trans s0; have b1 := (hSw.cell (p := ⟨sb, 1, none⟩) su).trans s1; have b2 := (hSw.cell (p := ⟨sb, 2, none⟩) su).trans s2; clear hSw; go_simp; try with_reducible rfl)
              (try simp only [Act.put, List.setIfInBounds_toArray, List.set_cons_zero, List.set_cons_succ])
              refine takeA (i := 18) (v := ?v18n55) rfl (by kernel_rfl) (by kernel_rfl) (by kernel_rfl) (fun _ _ _ h => h) (by kernel_rfl) (by kernel_rfl) (by assumption) ?y18n55 ?r18n55
              case y18n55 => (intro w hSw; have a9 := (hSw.cell (p := ⟨pb, 2, none⟩) pu).trans c2; have a0 := (hSw.cell (p := ⟨fb, off, none⟩) fu).trans g0; have a1 := (hSw.cell (p := ⟨fb, off + 1, none⟩) fu).trans g1; have a2 := (hSw.cell (p := ⟨fb, off + 2, none⟩) fu).trans g2; have a3 := (hSw.cell (p := ⟨fb, off + 3, none⟩) fu).trans g3; have a4 := (hSw.cell (p := ⟨fb, off + 4, none⟩) fu).trans g4; have a5 := (hSw.cell (p := ⟨fb, off + 5, none⟩) fu).trans g5; have b0 := (hSw.cell (p := ⟨sb, 0, none⟩) su).trans s0; have b1 := (hSw.cell (p := ⟨sb, 1, none⟩) su).trans s1; have b2 := (hSw.cell (p := ⟨sb, 2, none⟩) su).trans s2; clear hSw; go_simp; try with_reducible rfl)
              (try simp only [Act.put, List.setIfInBounds_toArray, List.set_cons_zero, List.set_cons_succ])
              refine readyA (rs := [17]) (by kernel_rfl) (by simp) ?_
              refine AllL.cons rfl (fun K hK => ?_) ?_
              · go_simp
                refine hK.out _ _ (hHeld.alloc hHeld.size _) (fun hHeld => ?_)
                clear hK K
                (try simp only [Act.put, List.setIfInBounds_toArray, List.set_cons_zero, List.set_cons_succ])
                refine readyA (rs := [19]) (by kernel_rfl) (by simp) ?_
                refine AllL.cons rfl (fun K hK => ?_) ?_
                · have OL0 : ((u13.drew.alloc (.cells #[.slice x0 tk.length y0, .int .i64 1, .int .i64 0, .bool true, .slice x4 ow.length y4, .slice x5 bd.length y5] 34)).ownsRow pb 34 6 (.slice (some ⟨u13.heap.size, 0, none⟩) 1 1) 1 [.slice x0 tk.length y0, .int .i64 1, .int .i64 0, .bool true, .slice x4 ow.length y4, .slice x5 bd.length y5]) := by have := World.ownsRow_lit (base := pb) (e := 34) (size := 6) u13.drew #[.slice x0 tk.length y0, .int .i64 1, .int .i64 0, .bool true, .slice x4 ow.length y4, .slice x5 bd.length y5] 1 (by simp; omega) (by unfold maxLen; omega) rfl; simpa using this
                  have OL := hide OL0
                  clear OL0
                  have RA : Hid ((u13.drew.alloc (.cells #[.slice x0 tk.length y0, .int .i64 1, .int .i64 0, .bool true, .slice x4 ow.length y4, .slice x5 bd.length y5] 34)).ownsRow pb 34 6 (.slice (some ⟨nb, 0, none⟩) r.length nc) r.length (ys.drop 6)) := owns_below RO.out (by exact hHeld)
                  refine step_app_row _ (by rfl) _ _ 25 34 (by rfl) j0 _ 6 96 Tryd.underlying25 JI.out JZ.out JS.out JB.out (by rfl) (by decide) (by decide) pb (.slice (some ⟨u13.heap.size, 0, none⟩) 1 1) 1 [.slice x0 tk.length y0, .int .i64 1, .int .i64 0, .bool true, .slice x4 ow.length y4, .slice x5 bd.length y5] nb 0 nc r.length (ys.drop 6) (by rfl) (by rfl) OL.out (by have := RA.out.1; exact this) (CellsAt.owns RA.out) (YLx.out.tail.one) (by decide) (by decide) (by omega) (by simp; omega) (r.length + 1) (by omega) ?_
                  intro gB cap9 w9 hown9 hgr9
                  refine hK.out _ _ (hHeld.grown hgr9 hHeld.size (fun q hq => by simp [Value.ownBlock] at hq; omega)) (fun hHeld => ?_)
                  clear hK K
                  (try simp only [Act.put, List.setIfInBounds_toArray, List.set_cons_zero, List.set_cons_succ])
                  refine takeA (i := 20) (v := ?v20n56) rfl (by kernel_rfl) (by kernel_rfl) (by kernel_rfl) (fun _ _ _ h => h) (by kernel_rfl) (by kernel_rfl) (by assumption) ?y20n56 ?r20n56
                  case y20n56 => (intro w hSw; have a9 := (hSw.cell (p := ⟨pb, 2, none⟩) pu).trans c2; have a0 := (hSw.cell (p := ⟨fb, off, none⟩) fu).trans g0; have a1 := (hSw.cell (p := ⟨fb, off + 1, none⟩) fu).trans g1; have a2 := (hSw.cell (p := ⟨fb, off + 2, none⟩) fu).trans g2; have a3 := (hSw.cell (p := ⟨fb, off + 3, none⟩) fu).trans g3; have a4 := (hSw.cell (p := ⟨fb, off + 4, none⟩) fu).trans g4; have a5 := (hSw.cell (p := ⟨fb, off + 5, none⟩) fu).trans g5; have b0 := (hSw.cell (p := ⟨sb, 0, none⟩) su).trans s0; have b1 := (hSw.cell (p := ⟨sb, 1, none⟩) su).trans s1; have b2 := (hSw.cell (p := ⟨sb, 2, none⟩) su).trans s2; clear hSw; go_simp; try with_reducible rfl)
                  (try simp only [Act.put, List.setIfInBounds_toArray, List.set_cons_zero, List.set_cons_succ])
                  refine readyA (rs := [21]) (by kernel_rfl) (by simp) ?_
                  refine AllL.last rfl (fun K hK => ?_)
                  have t2 := (hHeld.cell (p := ⟨t13, 2, none⟩) tu).trans (T13.out.cell (o := 2) rfl)
                  have t2f := (hHeld.frozen (p := ⟨t13, 2, none⟩) tu).trans (T13.out.frozen 2)
                  go_simp
                  refine hK.out _ _ ?_
                  clear hK K
                  (try simp only [Act.put, List.setIfInBounds_toArray, List.set_cons_zero, List.set_cons_succ])
                  refine doneA (by kernel_rfl) ?_ _
                  have H9 := hide hHeld
                  clear t2 t2f hHeld c2 g0 g1 g2 g3 g4 g5 s0 s1 s2
                  have s9 := H9.out.size
                  have TW := hide ((T13.out.below H9.out tu).set 2 (.slice (some ⟨gB, 0, none⟩) (r.length + 1) cap9))
                  have BW := hide ((B13.out.trans (H9.out.mono (Nat.le_of_lt pu))).setCell (p := ⟨t13, 2, none⟩) (show pb ≤ t13 by omega) (.slice (some ⟨gB, 0, none⟩) (r.length + 1) cap9))
                  have CW := hide ((C13.out.trans (H9.out.mono (by omega))).setCell (p := ⟨t13, 2, none⟩) (show wc.heap.size ≤ t13 by omega) (.slice (some ⟨gB, 0, none⟩) (r.length + 1) cap9))
                  have SW := hide ((S13.out.below H9.out su).other (show sb ≠ t13 by omega) 2 (.slice (some ⟨gB, 0, none⟩) (r.length + 1) cap9))
                  have DW : Hid (Below w12.heap.size w12 (w9.setCell ⟨t13, 2, none⟩ (.slice (some ⟨gB, 0, none⟩) (r.length + 1) cap9))) := (D13.out.trans (H9.out.mono (by omega))).setCell (p := ⟨t13, 2, none⟩) (show w12.heap.size ≤ t13 by omega) (.slice (some ⟨gB, 0, none⟩) (r.length + 1) cap9)
                  have zW : wc.heap.size < (w9.setCell ⟨t13, 2, none⟩ (.slice (some ⟨gB, 0, none⟩) (r.length + 1) cap9)).heap.size := by simp; omega
                  have zB : pb ≤ (w9.setCell ⟨t13, 2, none⟩ (.slice (some ⟨gB, 0, none⟩) (r.length + 1) cap9)).heap.size := by simp; omega
                  have OW9 : Hid ((w9.setCell ⟨t13, 2, none⟩ (.slice (some ⟨gB, 0, none⟩) (r.length + 1) cap9)).ownsRow pb 34 6 (.slice (some ⟨gB, 0, none⟩) (r.length + 1) cap9) (r.length + 1) ([.slice x0 tk.length y0, .int .i64 1, .int .i64 0, .bool true, .slice x4 ow.length y4, .slice x5 bd.length y5] ++ ys.drop 6)) := owns_of_block hown9 fun k hk => Below.heap_setCell _ _ _ _ (by
                    obtain ⟨c, h5⟩ := owns_kind hown9 hk
                    exact kind_ne h5 (T13.out.below H9.out tu) (by decide))
                  have smW : Same w.heap.size pb w1 (w9.setCell ⟨t13, 2, none⟩ (.slice (some ⟨gB, 0, none⟩) (r.length + 1) cap9)) := Same.of_below BW.out (Nat.le_refl _)
                  have FC : FunC (w9.setCell ⟨t13, 2, none⟩ (.slice (some ⟨gB, 0, none⟩) (r.length + 1) cap9)) w.heap.size (w9.setCell ⟨t13, 2, none⟩ (.slice (some ⟨gB, 0, none⟩) (r.length + 1) cap9)).heap.size [.slice x0 tk.length y0, .int .i64 1, .int .i64 0, .bool true, .slice x4 ow.length y4, .slice x5 bd.length y5] 0 ⟨tk, ⟨1, 0, true⟩, ow, bd⟩ := ⟨x0, y0, x4, y4, x5, y5, rfl, rfl, rfl, rfl, rfl, rfl, L0x.out.same smW (Nat.le_refl _) zB, L4x.out.same smW (Nat.le_refl _) zB, L5x.out.same smW (Nat.le_refl _) zB⟩
                  have PW : Hid (PS w (w9.setCell ⟨t13, 2, none⟩ (.slice (some ⟨gB, 0, none⟩) (r.length + 1) cap9)) e0 e1 (some ⟨gB, 0, none⟩) d0 cap9 ⟨ts, gl, ⟨tk, ⟨1, 0, true⟩, ow, bd⟩ :: r⟩) := PS.of BW1.out hwp zB PMx.out.1 PMx.out.2.1 BW.out (YLx.out.tail.same smW (Nat.le_refl _) zB) FC rfl OW9.out hdc PG.out PL (by omega) (by obtain ⟨q1, q2, q3⟩ := hF0.out; refine ⟨?_, ?_, ?_⟩ <;> simp_all [FieldsB, InssB]) hFr.out
                  clear FC smW OW9 hown9 hgr9 RO RA OL H9
                  have TT9 := hide (TQ9.out.below DW.out TQ9.out.lt)
                  have PP9 := hide (PQ9.out.keep DW.out)
                  have TT11 := hide (TQ11.out.below DW.out TQ11.out.lt)
                  have PP11 := hide (PQ11.out.keep DW.out)
                  generalize hG13 : (w9.setCell ⟨t13, 2, none⟩ (.slice (some ⟨gB, 0, none⟩) (r.length + 1) cap9)) = w14 at *
                  clear hG13
                  have B14 := BW
                  have C14 := CW
                  have S14 := SW
                  have z14 := zW
                  clear TQ9 PQ9
                  have TQ9 := TT9
                  have PQ9 := PP9
                  clear TT9 PP9
                  clear TQ11 PQ11
                  have TQ11 := TT11
                  have PQ11 := PP11
                  clear TT11 PP11
                  have TQ13 := TW
                  have PQ13 := PW
                  have tlt13 : t13 < w14.heap.size := TQ13.out.lt
                  clear BW CW SW zW TW PW DW zB B13 C13 S13 D13 T13 s9 tle1 tle2 yle
                  have p015 := (C14.out.cell (p := ⟨pb, 0, none⟩) ltc).trans q0c
                  have p115 := (C14.out.cell (p := ⟨pb, 1, none⟩) ltc).trans q1c
                  have p215 := (C14.out.cell (p := ⟨pb, 2, none⟩) ltc).trans q2c
                  go_upto_region 15 with fail
                  clear p015 p115 p215
                  have ltp15 : wc.heap.size < w14.heap.size := z14
                  have B15 := hide (B14.out.alloc (by omega) (.cells #[.slice e0 ts.length d0, .slice e1 gl.length d1, .slice (some ⟨fb, off, none⟩) (r.length + 1) d2] 27))
                  have C15 := hide (C14.out.alloc (Nat.le_of_lt z14) (.cells #[.slice e0 ts.length d0, .slice e1 gl.length d1, .slice (some ⟨fb, off, none⟩) (r.length + 1) d2] 27))
                  have S15 := hide (S14.out.alloc (.cells #[.slice e0 ts.length d0, .slice e1 gl.length d1, .slice (some ⟨fb, off, none⟩) (r.length + 1) d2] 27))
                  have T15 := hide (Rec.new w14 27 [.slice e0 ts.length d0, .slice e1 gl.length d1, .slice (some ⟨fb, off, none⟩) (r.length + 1) d2])
                  have D15 : Hid (Below w14.heap.size w14 (w14.alloc (.cells #[.slice e0 ts.length d0, .slice e1 gl.length d1, .slice (some ⟨fb, off, none⟩) (r.length + 1) d2] 27))) := (Below.refl _ _).alloc (Nat.le_refl _) _
                  have y15 : (w14.alloc (.cells #[.slice e0 ts.length d0, .slice e1 gl.length d1, .slice (some ⟨fb, off, none⟩) (r.length + 1) d2] 27)).heap.size = w14.heap.size + 1 := by simp
                  generalize hu15 : w14.alloc (.cells #[.slice e0 ts.length d0, .slice e1 gl.length d1, .slice (some ⟨fb, off, none⟩) (r.length + 1) d2] 27) = u15 at *
                  generalize ht15 : w14.heap.size = t15 at T15
                  clear hu15
                  have tle1 : w14.heap.size ≤ t15 := by omega
                  have tle2 : t15 ≤ w14.heap.size := by omega
                  have yle : t15 < u15.heap.size := by omega
                  clear y15 ht15
                  have pu : pb < u15.heap.size := by omega
                  have fu : fb < u15.heap.size := by omega
                  have su : sb < u15.heap.size := by omega
                  have tu : t15 < u15.heap.size := by omega
                  have c2 := (C15.out.cell (p := ⟨pb, 2, none⟩) ltc).trans q2c
                  have g0 := (B15.out.cell (p := ⟨fb, off, none⟩) hfbl).trans F0.out
                  have g1 := (B15.out.cell (p := ⟨fb, off + 1, none⟩) hfbl).trans F1.out
                  have g2 := (B15.out.cell (p := ⟨fb, off + 2, none⟩) hfbl).trans F2.out
                  have g3 := (B15.out.cell (p := ⟨fb, off + 3, none⟩) hfbl).trans F3.out
                  have g4 := (B15.out.cell (p := ⟨fb, off + 4, none⟩) hfbl).trans F4.out
                  have g5 := (B15.out.cell (p := ⟨fb, off + 5, none⟩) hfbl).trans F5.out
                  have s0 := S15.out.cell (o := 0) rfl
                  have s1 := S15.out.cell (o := 1) rfl
                  have s2 := S15.out.cell (o := 2) rfl
                  have RO := hide (owns_below HRW.out (show Below wc.heap.size wc u15 from C15.out))
                  go_wp2_with fail
                  refine beginA (S := fun w' => Below u15.heap.size u15 w') 22 (by kernel_rfl) ((Below.refl _ _).drew) (fun hHeld => ?_)
                  refine takeA (i := 0) (v := ?v0n57) rfl (by kernel_rfl) (by kernel_rfl) (by kernel_rfl) (fun _ _ _ h => h) (by kernel_rfl) (by kernel_rfl) (by assumption) ?y0n57 ?r0n57
                  case y0n57 => (intro w hSw; have a9 := (hSw.cell (p := ⟨pb, 2, none⟩) pu).trans c2; have a0 := (hSw.cell (p := ⟨fb, off, none⟩) fu).trans g0; have a1 := (hSw.cell (p := ⟨fb, off + 1, none⟩) fu).trans g1; have a2 := (hSw.cell (p := ⟨fb, off + 2, none⟩) fu).trans g2; have a3 := (hSw.cell (p := ⟨fb, off + 3, none⟩) fu).trans g3; have a4 := (hSw.cell (p := ⟨fb, off + 4, none⟩) fu).trans g4; have a5 := (hSw.cell (p := ⟨fb, off + 5, none⟩) fu).trans g5; have b0 := (hSw.cell (p := ⟨sb, 0, none⟩) su).trans s0; have b1 := (hSw.cell (p := ⟨sb, 1, none⟩) su).trans s1; have b2 := (hSw.cell (p := ⟨sb, 2, none⟩) su).trans s2; clear hSw; go_simp; try with_reducible rfl)
                  (try simp only [Act.put, List.setIfInBounds_toArray, List.set_cons_zero, List.set_cons_succ])
                  refine takeA (i := 2) (v := ?v2n58) rfl (by kernel_rfl) (by kernel_rfl) (by kernel_rfl) (fun _ _ _ h => h) (by kernel_rfl) (by kernel_rfl) (by assumption) ?y2n58 ?r2n58
                  case y2n58 => (intro w hSw; have a9 := (hSw.cell (p := ⟨pb, 2, none⟩) pu).trans c2; have a0 := (hSw.cell (p := ⟨fb, off, none⟩) fu).trans g0; have a1 := (hSw.cell (p := ⟨fb, off + 1, none⟩) fu).trans g1; have a2 := (hSw.cell (p := ⟨fb, off + 2, none⟩) fu).trans g2; have a3 := (hSw.cell (p := ⟨fb, off + 3, none⟩) fu).trans g3; have a4 := (hSw.cell (p := ⟨fb, off + 4, none⟩) fu).trans g4; have a5 := (hSw.cell (p := ⟨fb, off + 5, none⟩) fu).trans g5; have b0 := (hSw.cell (p := ⟨sb, 0, none⟩) su).trans s0; have b1 := (hSw.cell (p := ⟨sb, 1, none⟩) su).trans s1; have b2 := (hSw.cell (p := ⟨sb, 2, none⟩) su).trans s2; clear hSw; go_simp; try with_reducible rfl)
                  (try simp only [Act.put, List.setIfInBounds_toArray, List.set_cons_zero, List.set_cons_succ])
                  refine takeA (i := 3) (v := ?v3n59) rfl (by kernel_rfl) (by kernel_rfl) (by kernel_rfl) (fun _ _ _ h => h) (by kernel_rfl) (by kernel_rfl) (by assumption) ?y3n59 ?r3n59
                  case y3n59 => (intro w hSw; have a9 := (hSw.cell (p := ⟨pb, 2, none⟩) pu).trans c2; have a0 := (hSw.cell (p := ⟨fb, off, none⟩) fu).trans g0; have a1 := (hSw.cell (p := ⟨fb, off + 1, none⟩) fu).trans g1; have a2 := (hSw.cell (p := ⟨fb, off + 2, none⟩) fu).trans g2; have a3 := (hSw.cell (p := ⟨fb, off + 3, none⟩) fu).trans g3; have a4 := (hSw.cell (p := ⟨fb, off + 4, none⟩) fu).trans g4; have a5 := (hSw.cell (p := ⟨fb, off + 5, none⟩) fu).trans g5; have b0 := (hSw.cell (p := ⟨sb, 0, none⟩) su).trans s0; have b1 := (hSw.cell (p := ⟨sb, 1, none⟩) su).trans s1; have b2 := (hSw.cell (p := ⟨sb, 2, none⟩) su).trans s2; clear hSw; go_simp; try with_reducible rfl)
                  (try simp only [Act.put, List.setIfInBounds_toArray, List.set_cons_zero, List.set_cons_succ])
                  refine takeA (i := 4) (v := ?v4n60) rfl (by kernel_rfl) (by kernel_rfl) (by kernel_rfl) (fun _ _ _ h => h) (by kernel_rfl) (by kernel_rfl) (by assumption) ?y4n60 ?r4n60
                  case y4n60 => (intro w hSw; have a9 := (hSw.cell (p := ⟨pb, 2, none⟩) pu).trans c2; have a0 := (hSw.cell (p := ⟨fb, off, none⟩) fu).trans g0; have a1 := (hSw.cell (p := ⟨fb, off + 1, none⟩) fu).trans g1; have a2 := (hSw.cell (p := ⟨fb, off + 2, none⟩) fu).trans g2; have a3 := (hSw.cell (p := ⟨fb, off + 3, none⟩) fu).trans g3; have a4 := (hSw.cell (p := ⟨fb, off + 4, none⟩) fu).trans g4; have a5 := (hSw.cell (p := ⟨fb, off + 5, none⟩) fu).trans g5; have b0 := (hSw.cell (p := ⟨sb, 0, none⟩) su).trans s0; have b1 := (hSw.cell (p := ⟨sb, 1, none⟩) su).trans s1; have b2 := (hSw.cell (p := ⟨sb, 2, none⟩) su).trans s2; clear hSw; go_simp; try with_reducible rfl)
                  (try simp only [Act.put, List.setIfInBounds_toArray, List.set_cons_zero, List.set_cons_succ])
                  refine takeA (i := 5) (v := ?v5n61) rfl (by kernel_rfl) (by kernel_rfl) (by kernel_rfl) (fun _ _ _ h => h) (by kernel_rfl) (by kernel_rfl) (by assumption) ?y5n61 ?r5n61
                  case y5n61 => (intro w hSw; have a9 := (hSw.cell (p := ⟨pb, 2, none⟩) pu).trans c2; have a0 := (hSw.cell (p := ⟨fb, off, none⟩) fu).trans g0; have a1 := (hSw.cell (p := ⟨fb, off + 1, none⟩) fu).trans g1; have a2 := (hSw.cell (p := ⟨fb, off + 2, none⟩) fu).trans g2; have a3 := (hSw.cell (p := ⟨fb, off + 3, none⟩) fu).trans g3; have a4 := (hSw.cell (p := ⟨fb, off + 4, none⟩) fu).trans g4; have a5 := (hSw.cell (p := ⟨fb, off + 5, none⟩) fu).trans g5; have b0 := (hSw.cell (p := ⟨sb, 0, none⟩) su).trans s0; have b1 := (hSw.cell (p := ⟨sb, 1, none⟩) su).trans s1; have b2 := (hSw.cell (p := ⟨sb, 2, none⟩) su).trans s2; clear hSw; go_simp; try with_reducible rfl)
                  (try simp only [Act.put, List.setIfInBounds_toArray, List.set_cons_zero, List.set_cons_succ])
                  refine takeA (i := 6) (v := ?v6n62) rfl (by kernel_rfl) (by kernel_rfl) (by kernel_rfl) (fun _ _ _ h => h) (by kernel_rfl) (by kernel_rfl) (by assumption) ?y6n62 ?r6n62
                  case y6n62 => (intro w hSw; have a9 := (hSw.cell (p := ⟨pb, 2, none⟩) pu).trans c2; have a0 := (hSw.cell (p := ⟨fb, off, none⟩) fu).trans g0; have a1 := (hSw.cell (p := ⟨fb, off + 1, none⟩) fu).trans g1; have a2 := (hSw.cell (p := ⟨fb, off + 2, none⟩) fu).trans g2; have a3 := (hSw.cell (p := ⟨fb, off + 3, none⟩) fu).trans g3; have a4 := (hSw.cell (p := ⟨fb, off + 4, none⟩) fu).trans g4; have a5 := (hSw.cell (p := ⟨fb, off + 5, none⟩) fu).trans g5; have b0 := (hSw.cell (p := ⟨sb, 0, none⟩) su).trans s0; have b1 := (hSw.cell (p := ⟨sb, 1, none⟩) su).trans s1; have b2 := (hSw.cell (p := ⟨sb, 2, none⟩) su).trans s2; clear hSw; go_simp; try with_reducible rfl)
                  (try simp only [Act.put, List.setIfInBounds_toArray, List.set_cons_zero, List.set_cons_succ])
                  refine takeA (i := 7) (v := ?v7n63) rfl (by kernel_rfl) (by kernel_rfl) (by kernel_rfl) (fun _ _ _ h => h) (by kernel_rfl) (by kernel_rfl) (by assumption) ?y7n63 ?r7n63
                  case y7n63 => (intro w hSw; have a9 := (hSw.cell (p := ⟨pb, 2, none⟩) pu).trans c2; have a0 := (hSw.cell (p := ⟨fb, off, none⟩) fu).trans g0; have a1 := (hSw.cell (p := ⟨fb, off + 1, none⟩) fu).trans g1; have a2 := (hSw.cell (p := ⟨fb, off + 2, none⟩) fu).trans g2; have a3 := (hSw.cell (p := ⟨fb, off + 3, none⟩) fu).trans g3; have a4 := (hSw.cell (p := ⟨fb, off + 4, none⟩) fu).trans g4; have a5 := (hSw.cell (p := ⟨fb, off + 5, none⟩) fu).trans g5; have b0 := (hSw.cell (p := ⟨sb, 0, none⟩) su).trans s0; have b1 := (hSw.cell (p := ⟨sb, 1, none⟩) su).trans s1; have b2 := (hSw.cell (p := ⟨sb, 2, none⟩) su).trans s2; clear hSw; go_simp; try with_reducible rfl)
                  (try simp only [Act.put, List.setIfInBounds_toArray, List.set_cons_zero, List.set_cons_succ])
                  refine takeA (i := 8) (v := ?v8n64) rfl (by kernel_rfl) (by kernel_rfl) (by kernel_rfl) (fun _ _ _ h => h) (by kernel_rfl) (by kernel_rfl) (by assumption) ?y8n64 ?r8n64
                  case y8n64 => (intro w hSw; have a9 := (hSw.cell (p := ⟨pb, 2, none⟩) pu).trans c2; have a0 := (hSw.cell (p := ⟨fb, off, none⟩) fu).trans g0; have a1 := (hSw.cell (p := ⟨fb, off + 1, none⟩) fu).trans g1; have a2 := (hSw.cell (p := ⟨fb, off + 2, none⟩) fu).trans g2; have a3 := (hSw.cell (p := ⟨fb, off + 3, none⟩) fu).trans g3; have a4 := (hSw.cell (p := ⟨fb, off + 4, none⟩) fu).trans g4; have a5 := (hSw.cell (p := ⟨fb, off + 5, none⟩) fu).trans g5; have b0 := (hSw.cell (p := ⟨sb, 0, none⟩) su).trans s0; have b1 := (hSw.cell (p := ⟨sb, 1, none⟩) su).trans s1; have b2 := (hSw.cell (p := ⟨sb, 2, none⟩) su).trans s2; clear hSw; go_simp; try with_reducible rfl)
                  (try simp only [Act.put, List.setIfInBounds_toArray, List.set_cons_zero, List.set_cons_succ])
                  refine takeA (i := 9) (v := ?v9n65) rfl (by kernel_rfl) (by kernel_rfl) (by kernel_rfl) (fun _ _ _ h => h) (by kernel_rfl) (by kernel_rfl) (by assumption) ?y9n65 ?r9n65
                  case y9n65 => (intro w hSw; have a9 := (hSw.cell (p := ⟨pb, 2, none⟩) pu).trans c2; have a0 := (hSw.cell (p := ⟨fb, off, none⟩) fu).trans g0; have a1 := (hSw.cell (p := ⟨fb, off + 1, none⟩) fu).trans g1; have a2 := (hSw.cell (p := ⟨fb, off + 2, none⟩) fu).trans g2; have a3 := (hSw.cell (p := ⟨fb, off + 3, none⟩) fu).trans g3; have a4 := (hSw.cell (p := ⟨fb, off + 4, none⟩) fu).trans g4; have a5 := (hSw.cell (p := ⟨fb, off + 5, none⟩) fu).trans g5; have b0 := (hSw.cell (p := ⟨sb, 0, none⟩) su).trans s0; have b1 := (hSw.cell (p := ⟨sb, 1, none⟩) su).trans s1; have b2 := (hSw.cell (p := ⟨sb, 2, none⟩) su).trans s2; clear hSw; go_simp; try with_reducible rfl)
                  (try simp only [Act.put, List.setIfInBounds_toArray, List.set_cons_zero, List.set_cons_succ])
                  refine takeA (i := 10) (v := ?v10n66) rfl (by kernel_rfl) (by kernel_rfl) (by kernel_rfl) (fun _ _ _ h => h) (by kernel_rfl) (by kernel_rfl) (by assumption) ?y10n66 ?r10n66
                  case y10n66 => (intro w hSw; have a9 := (hSw.cell (p := ⟨pb, 2, none⟩) pu).trans c2; have a0 := (hSw.cell (p := ⟨fb, off, none⟩) fu).trans g0; have a1 := (hSw.cell (p := ⟨fb, off + 1, none⟩) fu).trans g1; have a2 := (hSw.cell (p := ⟨fb, off + 2, none⟩) fu).trans g2; have a3 := (hSw.cell (p := ⟨fb, off + 3, none⟩) fu).trans g3; have a4 := (hSw.cell (p := ⟨fb, off + 4, none⟩) fu).trans g4; have a5 := (hSw.cell (p := ⟨fb, off + 5, none⟩) fu).trans g5; have b0 := (hSw.cell (p := ⟨sb, 0, none⟩) su).trans s0; have b1 := (hSw.cell (p := ⟨sb, 1, none⟩) su).trans s1; have b2 := (hSw.cell (p := ⟨sb, 2, none⟩) su).trans s2; clear hSw; go_simp; try with_reducible rfl)
                  (try simp only [Act.put, List.setIfInBounds_toArray, List.set_cons_zero, List.set_cons_succ])
                  refine takeA (i := 11) (v := ?v11n67) rfl (by kernel_rfl) (by kernel_rfl) (by kernel_rfl) (fun _ _ _ h => h) (by kernel_rfl) (by kernel_rfl) (by assumption) ?y11n67 ?r11n67
                  case y11n67 => (intro w hSw; have a9 := (hSw.cell (p := ⟨pb, 2, none⟩) pu).trans c2; have a0 := (hSw.cell (p := ⟨fb, off, none⟩) fu).trans g0; have a1 := (hSw.cell (p := ⟨fb, off + 1, none⟩) fu).trans g1; have a2 := (hSw.cell (p := ⟨fb, off + 2, none⟩) fu).trans g2; have a3 := (hSw.cell (p := ⟨fb, off + 3, none⟩) fu).trans g3; have a4 := (hSw.cell (p := ⟨fb, off + 4, none⟩) fu).trans g4; have a5 := (hSw.cell (p := ⟨fb, off + 5, none⟩) fu).trans g5; have b0 := (hSw.cell (p := ⟨sb, 0, none⟩) su).trans s0; have b1 := (hSw.cell (p := ⟨sb, 1, none⟩) su).trans s1; have b2 := (hSw.cell (p := ⟨sb, 2, none⟩) su).trans s2; clear hSw; go_simp; try with_reducible rfl)
                  (try simp only [Act.put, List.setIfInBounds_toArray, List.set_cons_zero, List.set_cons_succ])
                  refine takeA (i := 12) (v := ?v12n68) rfl (by kernel_rfl) (by kernel_rfl) (by kernel_rfl) (fun _ _ _ h => h) (by kernel_rfl) (by kernel_rfl) (by assumption) ?y12n68 ?r12n68
                  case y12n68 => (intro w hSw; have a9 := (hSw.cell (p := ⟨pb, 2, none⟩) pu).trans c2; have a0 := (hSw.cell (p := ⟨fb, off, none⟩) fu).trans g0; have a1 := (hSw.cell (p := ⟨fb, off + 1, none⟩) fu).trans g1; have a2 := (hSw.cell (p := ⟨fb, off + 2, none⟩) fu).trans g2; have a3 := (hSw.cell (p := ⟨fb, off + 3, none⟩) fu).trans g3; have a4 := (hSw.cell (p := ⟨fb, off + 4, none⟩) fu).trans g4; have a5 := (hSw.cell (p := ⟨fb, off + 5, none⟩) fu).trans g5; have b0 := (hSw.cell (p := ⟨sb, 0, none⟩) su).trans s0; have b1 := (hSw.cell (p := ⟨sb, 1, none⟩) su).trans s1; have b2 := (hSw.cell (p := ⟨sb, 2, none⟩) su).trans s2; clear hSw; go_simp; try with_reducible rfl)
                  (try simp only [Act.put, List.setIfInBounds_toArray, List.set_cons_zero, List.set_cons_succ])
                  refine takeA (i := 13) (v := ?v13n69) rfl (by kernel_rfl) (by kernel_rfl) (by kernel_rfl) (fun _ _ _ h => h) (by kernel_rfl) (by kernel_rfl) (by assumption) ?y13n69 ?r13n69
                  case y13n69 => (intro w hSw; have a9 := (hSw.cell (p := ⟨pb, 2, none⟩) pu).trans c2; have a0 := (hSw.cell (p := ⟨fb, off, none⟩) fu).trans g0; have a1 := (hSw.cell (p := ⟨fb, off + 1, none⟩) fu).trans g1; have a2 := (hSw.cell (p := ⟨fb, off + 2, none⟩) fu).trans g2; have a3 := (hSw.cell (p := ⟨fb, off + 3, none⟩) fu).trans g3; have a4 := (hSw.cell (p := ⟨fb, off + 4, none⟩) fu).trans g4; have a5 := (hSw.cell (p := ⟨fb, off + 5, none⟩) fu).trans g5; have b0 := (hSw.cell (p := ⟨sb, 0, none⟩) su).trans s0; have b1 := (hSw.cell (p := ⟨sb, 1, none⟩) su).trans s1; have b2 := (hSw.cell (p := ⟨sb, 2, none⟩) su).trans s2; clear hSw; go_simp; try with_reducible rfl)
                  (try simp only [Act.put, List.setIfInBounds_toArray, List.set_cons_zero, List.set_cons_succ])
                  refine takeA (i := 14) (v := ?v14n70) rfl (by kernel_rfl) (by kernel_rfl) (by kernel_rfl) (fun _ _ _ h => h) (by kernel_rfl) (by kernel_rfl) (by assumption) ?y14n70 ?r14n70
                  case y14n70 => (intro w hSw; have a9 := (hSw.cell (p := ⟨pb, 2, none⟩) pu).trans c2; have a0 := (hSw.cell (p := ⟨fb, off, none⟩) fu).trans g0; have a1 := (hSw.cell (p := ⟨fb, off + 1, none⟩) fu).trans g1; have a2 := (hSw.cell (p := ⟨fb, off + 2, none⟩) fu).trans g2; have a3 := (hSw.cell (p := ⟨fb, off + 3, none⟩) fu).trans g3; have a4 := (hSw.cell (p := ⟨fb, off + 4, none⟩) fu).trans g4; have a5 := (hSw.cell (p := ⟨fb, off + 5, none⟩) fu).trans g5; have b0 := (hSw.cell (p := ⟨sb, 0, none⟩) su).trans s0; have b1 := (hSw.cell (p := ⟨sb, 1, none⟩) su).trans s1; have b2 := (hSw.cell (p := ⟨sb, 2, none⟩) su).trans s2; clear hSw; go_simp; try with_reducible rfl)
                  (try simp only [Act.put, List.setIfInBounds_toArray, List.set_cons_zero, List.set_cons_succ])
                  refine takeA (i := 15) (v := ?v15n71) rfl (by kernel_rfl) (by kernel_rfl) (by kernel_rfl) (fun _ _ _ h => h) (by kernel_rfl) (by kernel_rfl) (by assumption) ?y15n71 ?r15n71
                  case y15n71 => (intro w hSw; have a9 := (hSw.cell (p := ⟨pb, 2, none⟩) pu).trans c2; have a0 := (hSw.cell (p := ⟨fb, off, none⟩) fu).trans g0; have a1 := (hSw.cell (p := ⟨fb, off + 1, none⟩) fu).trans g1; have a2 := (hSw.cell (p := ⟨fb, off + 2, none⟩) fu).trans g2; have a3 := (hSw.cell (p := ⟨fb, off + 3, none⟩) fu).trans g3; have a4 := (hSw.cell (p := ⟨fb, off + 4, none⟩) fu).trans g4; have a5 := (hSw.cell (p := ⟨fb, off + 5, none⟩) fu).trans g5; have b0 := (hSw.cell (p := ⟨sb, 0, none⟩) su).trans s0; have b1 := (hSw.cell (p := ⟨sb, 1, none⟩) su).trans s1; have b2 := (hSw.cell (p := ⟨sb, 2, none⟩) su).trans s2; clear hSw; go_simp; try with_reducible rfl)
                  (try simp only [Act.put, List.setIfInBounds_toArray, List.set_cons_zero, List.set_cons_succ])
                  refine takeA (i := 16) (v := ?v16n72) rfl (by kernel_rfl) (by kernel_rfl) (by kernel_rfl) (fun _ _ _ h => h) (by kernel_rfl) (by kernel_rfl) (by assumption) ?y16n72 ?r16n72
                  case y16n72 => (intro w hSw; have a9 := (hSw.cell (p := ⟨pb, 2, none⟩) pu).trans c2; have a0 := (hSw.cell (p := ⟨fb, off, none⟩) fu).trans g0; have a1 := (hSw.cell (p := ⟨fb, off + 1, none⟩) fu).trans g1; have a2 := (hSw.cell (p := ⟨fb, off + 2, none⟩) fu).trans g2; have a3 := (hSw.cell (p := ⟨fb, off + 3, none⟩) fu).trans g3; have a4 := (hSw.cell (p := ⟨fb, off + 4, none⟩) fu).trans g4; have a5 := (hSw.cell (p := ⟨fb, off + 5, none⟩) fu).trans g5; have b0 := (hSw.cell (p := ⟨sb, 0, none⟩) su).trans s0; have b1 := (hSw.cell (p := ⟨sb, 1, none⟩) su).trans s1; have b2 := (hSw.cell (p := ⟨sb, 2, none⟩) su).trans s2; clear hSw; go_simp; try with_reducible rfl)
                  (try simp only [Act.put, List.setIfInBounds_toArray, List.set_cons_zero, List.set_cons_succ])
                  refine takeA (i := 19) (v := ?v19n73) rfl (by kernel_rfl) (by kernel_rfl) (by kernel_rfl) (fun _ _ _ h => h) (by kernel_rfl) (by kernel_rfl) (by assumption) ?y19n73 ?r19n73
                  case y19n73 => (intro w hSw; have a9 := (hSw.cell (p := ⟨pb, 2, none⟩) pu).trans c2; have a0 := (hSw.cell (p := ⟨fb, off, none⟩) fu).trans g0; have a1 := (hSw.cell (p := ⟨fb, off + 1, none⟩) fu).trans g1; have a2 := (hSw.cell (p := ⟨fb, off + 2, none⟩) fu).trans g2; have a3 := (hSw.cell (p := ⟨fb, off + 3, none⟩) fu).trans g3; have a4 := (hSw.cell (p := ⟨fb, off + 4, none⟩) fu).trans g4; have a5 := (hSw.cell (p := ⟨fb, off + 5, none⟩) fu).trans g5; have b0 := (hSw.cell (p := ⟨sb, 0, none⟩) su).trans s0; have b1 := (hSw.cell (p := ⟨sb, 1, none⟩) su).trans s1; have b2 := (hSw.cell (p := ⟨sb, 2, none⟩) su).trans s2; clear hSw; go_simp; try with_reducible rfl)
                  (try simp only [Act.put, List.setIfInBounds_toArray, List.set_cons_zero, List.set_cons_succ])
                  refine readyA (rs := [1]) (by kernel_rfl) (by simp) ?_
                  refine AllL.cons rfl (fun K hK => ?_) ?_
                  · go_simp
                    refine hK.out _ _ (hHeld.alloc hHeld.size _) (fun hHeld => ?_)
                    clear hK K
                    (try simp only [Act.put, List.setIfInBounds_toArray, List.set_cons_zero, List.set_cons_succ])
                    refine takeA (i := 17) (v := ?v17n74) rfl (by kernel_rfl) (by kernel_rfl) (by kernel_rfl) (fun _ _ _ h => h) (by kernel_rfl) (by kernel_rfl) (by assumption) ?y17n74 ?r17n74
                    case y17n74 => (intro w hSw; have a9 := (hSw.cell (p := ⟨pb, 2, none⟩) pu).trans c2; have a0 := (hSw.cell (p := ⟨fb, off, none⟩) fu).trans g0; have a1 := (hSw.cell (p := ⟨fb, off + 1, none⟩) fu).trans g1; have a2 := (hSw.cell (p := ⟨fb, off + 2, none⟩) fu).trans g2; have a3 := (hSw.cell (p := ⟨fb, off + 3, none⟩) fu).trans g3; have a4 := (hSw.cell (p := ⟨fb, off + 4, none⟩) fu).trans g4; have a5 := (hSw.cell (p := ⟨fb, off + 5, none⟩) fu).trans g5; have b0 := (hSw.cell (p := ⟨sb, 0, none⟩) su).trans s0; have b1 := (hSw.cell (p := ⟨sb, 1, none⟩) su).trans s1; have b2 := (hSw.cell (p := ⟨sb, 2, none⟩) su).trans s2; clear hSw; go_simp; try with_reducible rfl)
                    (try simp only [Act.put, List.setIfInBounds_toArray, List.set_cons_zero, List.set_cons_succ])
                    refine readyA (rs := [18]) (by kernel_rfl) (by simp) ?_
                    refine AllL.cons rfl (fun K hK => ?_) ?_
                    · go_simp
                      refine hK.out _ _ (hHeld.alloc hHeld.size _) (fun hHeld => ?_)
                      clear hK K
                      (try simp only [Act.put, List.setIfInBounds_toArray, List.set_cons_zero, List.set_cons_succ])
                      refine readyA (rs := [20]) (by kernel_rfl) (by simp) ?_
                      refine AllL.cons rfl (fun K hK => ?_) ?_
                      · have OL0 : (((u15.drew.alloc (.cells #[.int .i64 3, .int .i64 (-1), .bool false] 31)).alloc (.cells #[.slice (some ⟨u15.heap.size, 0, none⟩) 1 1, .int .i64 gk, .int .i64 go, .bool gm, .slice x4 ow.length y4, .slice x5 bd.length y5] 34)).ownsRow pb 34 6 (.slice (some ⟨u15.heap.size + 1, 0, none⟩) 1 1) 1 [.slice (some ⟨u15.heap.size, 0, none⟩) 1 1, .int .i64 gk, .int .i64 go, .bool gm, .slice x4 ow.length y4, .slice x5 bd.length y5]) := by have := World.ownsRow_lit (base := pb) (e := 34) (size := 6) (u15.drew.alloc (.cells #[.int .i64 3, .int .i64 (-1), .bool false] 31)) #[.slice (some ⟨u15.heap.size, 0, none⟩) 1 1, .int .i64 gk, .int .i64 go, .bool gm, .slice x4 ow.length y4, .slice x5 bd.length y5] 1 (by simp; omega) (by unfold maxLen; omega) rfl; simpa using this
                        have OL := hide OL0
                        clear OL0
                        have RA : Hid (((u15.drew.alloc (.cells #[.int .i64 3, .int .i64 (-1), .bool false] 31)).alloc (.cells #[.slice (some ⟨u15.heap.size, 0, none⟩) 1 1, .int .i64 gk, .int .i64 go, .bool gm, .slice x4 ow.length y4, .slice x5 bd.length y5] 34)).ownsRow pb 34 6 (.slice (some ⟨nb, 0, none⟩) r.length nc) r.length (ys.drop 6)) := owns_below RO.out (by exact hHeld)
                        refine step_app_row _ (by rfl) _ _ 25 34 (by rfl) j0 _ 6 96 Tryd.underlying25 JI.out JZ.out JS.out JB.out (by rfl) (by decide) (by decide) pb (.slice (some ⟨u15.heap.size + 1, 0, none⟩) 1 1) 1 [.slice (some ⟨u15.heap.size, 0, none⟩) 1 1, .int .i64 gk, .int .i64 go, .bool gm, .slice x4 ow.length y4, .slice x5 bd.length y5] nb 0 nc r.length (ys.drop 6) (by rfl) (by rfl) OL.out (by have := RA.out.1; exact this) (CellsAt.owns RA.out) (YLx.out.tail.one) (by decide) (by decide) (by omega) (by simp; omega) (r.length + 1) (by omega) ?_
                        intro gB cap9 w9 hown9 hgr9
                        refine hK.out _ _ (hHeld.grown hgr9 hHeld.size (fun q hq => by simp [Value.ownBlock] at hq; omega)) (fun hHeld => ?_)
                        clear hK K
                        (try simp only [Act.put, List.setIfInBounds_toArray, List.set_cons_zero, List.set_cons_succ])
                        refine takeA (i := 21) (v := ?v21n75) rfl (by kernel_rfl) (by kernel_rfl) (by kernel_rfl) (fun _ _ _ h => h) (by kernel_rfl) (by kernel_rfl) (by assumption) ?y21n75 ?r21n75
                        case y21n75 => (intro w hSw; have a9 := (hSw.cell (p := ⟨pb, 2, none⟩) pu).trans c2; have a0 := (hSw.cell (p := ⟨fb, off, none⟩) fu).trans g0; have a1 := (hSw.cell (p := ⟨fb, off + 1, none⟩) fu).trans g1; have a2 := (hSw.cell (p := ⟨fb, off + 2, none⟩) fu).trans g2; have a3 := (hSw.cell (p := ⟨fb, off + 3, none⟩) fu).trans g3; have a4 := (hSw.cell (p := ⟨fb, off + 4, none⟩) fu).trans g4; have a5 := (hSw.cell (p := ⟨fb, off + 5, none⟩) fu).trans g5; have b0 := (hSw.cell (p := ⟨sb, 0, none⟩) su).trans s0; have b1 := (hSw.cell (p := ⟨sb, 1, none⟩) su).trans s1; have b2 := (hSw.cell (p := ⟨sb, 2, none⟩) su).trans s2; clear hSw; go_simp; try with_reducible rfl)
                        (try simp only [Act.put, List.setIfInBounds_toArray, List.set_cons_zero, List.set_cons_succ])
                        refine readyA (rs := [22]) (by kernel_rfl) (by simp) ?_
                        refine AllL.last rfl (fun K hK => ?_)
                        have t2 := (hHeld.cell (p := ⟨t15, 2, none⟩) tu).trans (T15.out.cell (o := 2) rfl)
                        have t2f := (hHeld.frozen (p := ⟨t15, 2, none⟩) tu).trans (T15.out.frozen 2)
                        go_simp
                        refine hK.out _ _ ?_
                        clear hK K
                        (try simp only [Act.put, List.setIfInBounds_toArray, List.set_cons_zero, List.set_cons_succ])
                        refine doneA (by kernel_rfl) ?_ _
                        have H9 := hide hHeld
                        clear t2 t2f hHeld c2 g0 g1 g2 g3 g4 g5 s0 s1 s2
                        have s9 := H9.out.size
                        have TW := hide ((T15.out.below H9.out tu).set 2 (.slice (some ⟨gB, 0, none⟩) (r.length + 1) cap9))
                        have BW := hide ((B15.out.trans (H9.out.mono (Nat.le_of_lt pu))).setCell (p := ⟨t15, 2, none⟩) (show pb ≤ t15 by omega) (.slice (some ⟨gB, 0, none⟩) (r.length + 1) cap9))
                        have CW := hide ((C15.out.trans (H9.out.mono (by omega))).setCell (p := ⟨t15, 2, none⟩) (show wc.heap.size ≤ t15 by omega) (.slice (some ⟨gB, 0, none⟩) (r.length + 1) cap9))
                        have SW := hide ((S15.out.below H9.out su).other (show sb ≠ t15 by omega) 2 (.slice (some ⟨gB, 0, none⟩) (r.length + 1) cap9))
                        have DW : Hid (Below w14.heap.size w14 (w9.setCell ⟨t15, 2, none⟩ (.slice (some ⟨gB, 0, none⟩) (r.length + 1) cap9))) := (D15.out.trans (H9.out.mono (by omega))).setCell (p := ⟨t15, 2, none⟩) (show w14.heap.size ≤ t15 by omega) (.slice (some ⟨gB, 0, none⟩) (r.length + 1) cap9)
                        have zW : wc.heap.size < (w9.setCell ⟨t15, 2, none⟩ (.slice (some ⟨gB, 0, none⟩) (r.length + 1) cap9)).heap.size := by simp; omega
                        have zB : pb ≤ (w9.setCell ⟨t15, 2, none⟩ (.slice (some ⟨gB, 0, none⟩) (r.length + 1) cap9)).heap.size := by simp; omega
                        have OW9 : Hid ((w9.setCell ⟨t15, 2, none⟩ (.slice (some ⟨gB, 0, none⟩) (r.length + 1) cap9)).ownsRow pb 34 6 (.slice (some ⟨gB, 0, none⟩) (r.length + 1) cap9) (r.length + 1) ([.slice (some ⟨u15.heap.size, 0, none⟩) 1 1, .int .i64 gk, .int .i64 go, .bool gm, .slice x4 ow.length y4, .slice x5 bd.length y5] ++ ys.drop 6)) := owns_of_block hown9 fun k hk => Below.heap_setCell _ _ _ _ (by
                          obtain ⟨c, h5⟩ := owns_kind hown9 hk
                          exact kind_ne h5 (T15.out.below H9.out tu) (by decide))
                        have smW : Same w.heap.size pb w1 (w9.setCell ⟨t15, 2, none⟩ (.slice (some ⟨gB, 0, none⟩) (r.length + 1) cap9)) := Same.of_below BW.out (Nat.le_refl _)
                        have s9b : u15.heap.size + 1 ≤ w9.heap.size := by have := hgr9.size; simp at this; omega
                        have LS : Same u15.heap.size (u15.heap.size + 1) (u15.drew.alloc (.cells #[.int .i64 3, .int .i64 (-1), .bool false] 31)) (w9.setCell ⟨t15, 2, none⟩ (.slice (some ⟨gB, 0, none⟩) (r.length + 1) cap9)) := by
                          have hb : Below (u15.heap.size + 1) (u15.drew.alloc (.cells #[.int .i64 3, .int .i64 (-1), .bool false] 31)) w9 := ((Below.refl _ _).alloc (by simp) (.cells #[.slice (some ⟨u15.heap.size, 0, none⟩) 1 1, .int .i64 gk, .int .i64 go, .bool gm, .slice x4 ow.length y4, .slice x5 bd.length y5] 34)).grown hgr9 (by simp) (fun q hq => by simp [Value.ownBlock] at hq; omega)
                          exact (Same.of_below hb (Nat.le_refl _)).set (.inl (by omega)) _ _
                        have FC : FunC (w9.setCell ⟨t15, 2, none⟩ (.slice (some ⟨gB, 0, none⟩) (r.length + 1) cap9)) w.heap.size (w9.setCell ⟨t15, 2, none⟩ (.slice (some ⟨gB, 0, none⟩) (r.length + 1) cap9)).heap.size [.slice (some ⟨u15.heap.size, 0, none⟩) 1 1, .int .i64 gk, .int .i64 go, .bool gm, .slice x4 ow.length y4, .slice x5 bd.length y5] 0 ⟨[⟨3, -1, false⟩], ⟨gk, go, gm⟩, ow, bd⟩ := ⟨some ⟨u15.heap.size, 0, none⟩, 1, x4, y4, x5, y5, rfl, rfl, rfl, rfl, rfl, rfl, ⟨((field_one u15.drew ⟨3, -1, false⟩).same (LS : Same _ _ _ (w9.setCell ⟨t15, 2, none⟩ (.slice (some ⟨gB, 0, none⟩) (r.length + 1) cap9))) (by show w.heap.size ≤ u15.heap.size; omega) (by show u15.heap.size + 1 ≤ _; simp; omega)), fun e => (by cases e)⟩, L4x.out.same smW (Nat.le_refl _) zB, L5x.out.same smW (Nat.le_refl _) zB⟩
                        have PW : Hid (PS w (w9.setCell ⟨t15, 2, none⟩ (.slice (some ⟨gB, 0, none⟩) (r.length + 1) cap9)) e0 e1 (some ⟨gB, 0, none⟩) d0 cap9 ⟨ts, gl, ⟨[⟨3, -1, false⟩], ⟨gk, go, gm⟩, ow, bd⟩ :: r⟩) := PS.of BW1.out hwp zB PMx.out.1 PMx.out.2.1 BW.out (YLx.out.tail.same smW (Nat.le_refl _) zB) FC rfl OW9.out hdc PG.out PL (by omega) (by obtain ⟨q1, q2, q3⟩ := hF0.out; refine ⟨?_, ?_, ?_⟩ <;> simp_all [FieldsB, InssB]) hFr.out
                        clear FC smW OW9 hown9 hgr9 RO RA OL H9
                        have TT9 := hide (TQ9.out.below DW.out TQ9.out.lt)
                        have PP9 := hide (PQ9.out.keep DW.out)
                        have TT11 := hide (TQ11.out.below DW.out TQ11.out.lt)
                        have PP11 := hide (PQ11.out.keep DW.out)
                        have TT13 := hide (TQ13.out.below DW.out TQ13.out.lt)
                        have PP13 := hide (PQ13.out.keep DW.out)
                        generalize hG15 : (w9.setCell ⟨t15, 2, none⟩ (.slice (some ⟨gB, 0, none⟩) (r.length + 1) cap9)) = w16 at *
                        clear hG15
                        have B16 := BW
                        have C16 := CW
                        have S16 := SW
                        have z16 := zW
                        clear TQ9 PQ9
                        have TQ9 := TT9
                        have PQ9 := PP9
                        clear TT9 PP9
                        clear TQ11 PQ11
                        have TQ11 := TT11
                        have PQ11 := PP11
                        clear TT11 PP11
                        clear TQ13 PQ13
                        have TQ13 := TT13
                        have PQ13 := PP13
                        clear TT13 PP13
                        have TQ15 := TW
                        have PQ15 := PW
                        have tlt15 : t15 < w16.heap.size := TQ15.out.lt
                        clear BW CW SW zW TW PW DW zB B15 C15 S15 D15 T15 s9 tle1 tle2 yle
                        have v09 := TQ9.out.cell (o := 0) rfl
                        have v19 := TQ9.out.cell (o := 1) rfl
                        have v29 := TQ9.out.cell (o := 2) rfl
                        go_wp2_with fail
                        refine (PQ9.out.implOk ht.out (bent_a HK.out)).mono ?_
                        rintro e w20 ⟨rfl, b20, p20⟩
                        replace TQ11 := hide (TQ11.out.below b20 TQ11.out.lt)
                        replace PQ11 := hide (PQ11.out.keep b20)
                        replace TQ13 := hide (TQ13.out.below b20 TQ13.out.lt)
                        replace PQ13 := hide (PQ13.out.keep b20)
                        replace TQ15 := hide (TQ15.out.below b20 TQ15.out.lt)
                        replace PQ15 := hide (PQ15.out.keep b20)
                        clear v09 v19 v29 b20
                        have v011 := TQ11.out.cell (o := 0) rfl
                        have v111 := TQ11.out.cell (o := 1) rfl
                        have v211 := TQ11.out.cell (o := 2) rfl
                        go_wp2_with fail
                        refine (PQ11.out.implOk ht.out (bent_b HK.out)).mono ?_
                        rintro e w21 ⟨rfl, b21, p21⟩
                        replace TQ13 := hide (TQ13.out.below b21 TQ13.out.lt)
                        replace PQ13 := hide (PQ13.out.keep b21)
                        replace TQ15 := hide (TQ15.out.below b21 TQ15.out.lt)
                        replace PQ15 := hide (PQ15.out.keep b21)
                        clear v011 v111 v211 b21
                        have v013 := TQ13.out.cell (o := 0) rfl
                        have v113 := TQ13.out.cell (o := 1) rfl
                        have v213 := TQ13.out.cell (o := 2) rfl
                        go_wp2_with fail
                        refine (PQ13.out.implOk ht.out (bent_c HK.out)).mono ?_
                        rintro e w22 ⟨rfl, b22, p22⟩
                        replace TQ15 := hide (TQ15.out.below b22 TQ15.out.lt)
                        replace PQ15 := hide (PQ15.out.keep b22)
                        clear v013 v113 v213 b22
                        have v015 := TQ15.out.cell (o := 0) rfl
                        have v115 := TQ15.out.cell (o := 1) rfl
                        have v215 := TQ15.out.cell (o := 2) rfl
                        go_wp2_with fail
                        refine (PQ15.out.implOk ht.out (bent_d HK.out)).mono ?_
                        rintro e w23 ⟨rfl, b23, p23⟩
                        clear v015 v115 v215 b23
                        go_wp2_with fail
                        go_ret
                        exact ⟨rfl, p23.bel⟩
                      exact AllL.nil
                    exact AllL.nil
                  exact AllL.nil
                exact AllL.nil
              exact AllL.nil
            exact AllL.nil
          exact AllL.nil
        exact AllL.nil
      exact AllL.nil
    exact AllL.nil
end Go.Proofs.YtblliefejffhoaaDoor
