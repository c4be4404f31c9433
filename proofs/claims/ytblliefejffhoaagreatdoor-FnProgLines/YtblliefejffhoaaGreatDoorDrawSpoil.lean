/- l3Spoil of the model: a program, now and then with one part turned. Written by tools/made/drawspoil.py. -/
import Derived.Test.YtblliefejffhoaaGreatDoorPbSpoil
import Derived.Test.YtblliefejffhoaaGreatDoorPbIns
import Derived.Test.YtblliefejffhoaaGreatDoorPbProg
import Derived.Deep.CutRange
namespace Go.Proofs.YtblliefejffhoaaGreatDoor
open Go.ChangeShapes Go.WideShapes Go.ChangeAt Go.RowKit Go.Deep
set_option linter.unusedVariables false

theorem Src3.only {w w' : World} {lo hi g : Nat} {a0 a1 a2 : Option Addr} {P : GProg} (h : Src3 w lo hi a0 a1 a2 P) (o : Only g w w') (hg : g < lo) : Src3 w' lo hi a0 a1 a2 P :=
  ⟨h.g0.same (o.same hg h.hh) (Nat.le_refl _) (Nat.le_refl _), h.g1.same (o.same hg h.hh) (Nat.le_refl _) (Nat.le_refl _), h.g2.same (o.same hg h.hh) (Nat.le_refl _) (Nat.le_refl _), Nat.le_trans h.hh o.size, h.s0, h.s1, h.s2, h.s3, h.s4⟩
theorem prog_type_ne {w : World} {S e size n qb : Nat} {v : Value} {xs vs : List Value} (hq : Rec w qb 27 vs) (ho : w.ownsRow S e size v n xs) (h : some qb = v.ownBlock) (hne : e ≠ 27 := by decide) : False := by
  rcases ho.2 with ⟨h0, _⟩ | ⟨g', cap', cur, h0, _, h2, _⟩
  · rw [h0] at h; simp [Value.ownBlock] at h
  · rw [h0] at h
    simp [Value.ownBlock] at h
    subst h
    unfold Rec at hq
    rw [h2] at hq
    simp at hq
    exact hne hq.2
theorem fcells_two (l : List Fd) (a b : Fd) : fcells (l ++ [a, b]) = fcells l ++ [.int .i64 a.kind, .int .i64 a.of, .bool a.mt, .int .i64 b.kind, .int .i64 b.of, .bool b.mt] := by
  have : l ++ [a, b] = (l ++ [a]) ++ [b] := by simp
  rw [this, fcells_snoc, fcells_snoc]; simp
theorem wrap_sp {x : Int} (h1 : -9223372036854775808 ≤ x) (h2 : x ≤ 9223372036854775807) : IntKind.i64.wrap x = x := by
  have e : IntKind.i64.wrap x = if 9223372036854775808 ≤ x % 18446744073709551616 then x % 18446744073709551616 - 18446744073709551616 else x % 18446744073709551616 := by simp [IntKind.wrap, IntKind.bits, IntKind.signed]
  rw [e]
  split <;> omega
theorem Rd.drew' {w : World} {g p : Nat} (h : Rd w g p) : Rd w.drew g p := h
theorem Only.fromB {g : Nat} {w w' : World} (h : Below w.heap.size w w') : Only g w w' := Only.of_below h

set_option maxHeartbeats 32000000 in
set_option maxRecDepth 100000 in
theorem l3Spoil_any (g p lo : Nat) (a0 a1 a2 : Option Addr) (c0 c1 c2 : Nat) (P : GProg) (w : World) (hp : p < 500000) (h : Rd w g p) (hg : g < lo) (hs : Src3 w lo w.heap.size a0 a1 a2 P) (hlo : lo ≤ w.heap.size) (hn : 1 ≤ P.funs.length) (hc : P.types.length ≤ c0) (hcf : P.funs.length ≤ c2) (hB : QB P) (t4 : P.types.length ≤ 4) (l3 : P.glob.length ≤ 3) (u3 : P.funs.length ≤ 3) (hsm : ∀ i, i < P.funs.length → FunSm (funAt' P.funs i)) :
    Calls Tryz.prog 52 #[.pointer (some ⟨g, 0, none⟩), .agg #[.slice a0 P.types.length c0, .slice a1 P.glob.length c1, .slice a2 P.funs.length c2]] w (SpoilPost g p lo w) := by
  have HSrc := hide hs
  have HQB := hide hB
  have HSm := hide hsm
  clear hs hB hsm
  obtain ⟨ts, gl, fs⟩ := P
  simp only at hn hc hcf t4 l3 u3 HSrc HQB HSm
  have gw : g < w.heap.size := h.lt
  have o0 : Only g w ((w.alloc (.cells #[.slice a0 ts.length c0, .slice a1 gl.length c1, .slice a2 fs.length c2] 27)).alloc (.cells #[.slice none 0 0, .slice none 0 0, .slice none 0 0] 27)) := ((Only.refl g w).alloc _).alloc _
  have O0 := hide o0
  clear o0
  go_enter Tryz.func52, Tryz.ntmps52
  go_wp2_with fail
  refine (pick_only g p _ _ (by omega) ((h.alloc _).alloc _)).mono ?_
  rintro e w1 ⟨k, rfl, _, lk, uk, r1, o1, s1⟩
  have uk' := uk (by omega)
  have Pv1 := hide (((Rec.new w 27 [.slice a0 ts.length c0, .slice a1 gl.length c1, .slice a2 fs.length c2]).alloc (.cells #[.slice none 0 0, .slice none 0 0, .slice none 0 0] 27)).only o1 (by omega))
  have Z1 := hide ((Rec.new' (w.alloc (.cells #[.slice a0 ts.length c0, .slice a1 gl.length c1, .slice a2 fs.length c2] 27)) 27 [.slice none 0 0, .slice none 0 0, .slice none 0 0] (w.heap.size + 1) (by simp)).only o1 (by omega))
  have O1 := hide (O0.out.trans o1)
  have S1 := hide (HSrc.out.only O1.out hg)
  have p0 := Pv1.out.cell (o := 0) rfl
  have p1 := Pv1.out.cell (o := 1) rfl
  have p2 := Pv1.out.cell (o := 2) rfl
  have z1w : w.heap.size + 1 < w1.heap.size := Z1.out.lt
  clear o1 h O0 uk s1
  by_cases hk9 : 9 < k
  · have z0 := Z1.out.cell (o := 0) rfl
    have z1 := Z1.out.cell (o := 1) rfl
    have z2 := Z1.out.cell (o := 2) rfl
    have zf0 := Z1.out.frozen 0
    have zf1 := Z1.out.frozen 1
    have zf2 := Z1.out.frozen 2
    go_wp2_with fail
    have sm9 : Same lo w.heap.size w1 (((w1.setCell ⟨w.heap.size + 1, 0, none⟩ (.slice a0 ts.length c0)).setCell ⟨w.heap.size + 1, 1, none⟩ (.slice a1 gl.length c1)).setCell ⟨w.heap.size + 1, 2, none⟩ (.slice a2 fs.length c2)) := (((Same.refl _ _ _).set (.inr (by omega)) _ _).set (.inr (by omega)) _ _).set (.inr (by omega)) _ _
    refine bodyPost_ret (v := .agg #[.slice a0 ts.length c0, .slice a1 gl.length c1, .slice a2 fs.length c2]) (by simp [results, Tryz.results52, go_sem, *]) rfl ⟨⟨ts, gl, fs⟩, a0, a1, a2, c0, c1, c2, rfl, ?_, ?_, ?_, HQB.out, hc, hcf, ⟨p + 1, by omega, ((r1.set (by omega) _ _).set (by omega) _ _).set (by omega) _ _⟩, ((O1.out.set (by omega) _ _).set (by omega) _ _).set (by omega) _ _⟩
    · exact S1.out.g0.same sm9 (Nat.le_refl _) (by simp; omega)
    · exact S1.out.g1.same sm9 (Nat.le_refl _) (by simp; omega)
    · exact S1.out.g2.same sm9 (Nat.le_refl _) (by simp; omega)
  · have hk9' : decide (9 < k) = false := by simpa using hk9
    have hn0 : ((fs.length : Int) == 0) = false := by rw [beq_eq_false_iff_ne]; omega
    go_wp2_with fail
    refine (l3Copy_any a0 a1 a2 c0 c1 c2 lo w.heap.size ⟨ts, gl, fs⟩ w1 S1.out).mono ?_
    rintro e w2 ⟨b0, b1, b2, d0, d1, d2, h1, h2, rfl, y1, y2, y3, hgl, hgr, hgi, hfu, hb2⟩
    have s2 := hb2.size
    have bb : Below w2.heap.size w2 (w2.alloc (.cells #[.slice b0 ts.length d0, .slice b1 gl.length d1, .slice b2 fs.length d2] 27)) := (Below.refl _ _).alloc (Nat.le_refl _) _
    have Q3 : Hid (QSt w1.heap.size h1 h2 w2.heap.size ⟨ts, gl, fs⟩ b0 b1 b2 d0 d1 d2 (w2.alloc (.cells #[.slice b0 ts.length d0, .slice b1 gl.length d1, .slice b2 fs.length d2] 27))) :=
      ⟨Rec.new _ _ _, hgl.below bb, hgr.below bb, hgi.keep (bb.mono y3), hfu.below bb, y1, y2, y3⟩
    have Z3 := hide ((Z1.out.below hb2 z1w).alloc (.cells #[.slice b0 ts.length d0, .slice b1 gl.length d1, .slice b2 fs.length d2] 27))
    have O3 := hide ((O1.out.trans (Only.of_below hb2)).alloc (.cells #[.slice b0 ts.length d0, .slice b1 gl.length d1, .slice b2 fs.length d2] 27))
    have r3 := (r1.keep hb2).alloc (.cells #[.slice b0 ts.length d0, .slice b1 gl.length d1, .slice b2 fs.length d2] 27)
    clear hgl hgr hgi hfu bb hb2 r1 Z1 O1 S1 Pv1 p0 p1 p2
    go_wp2_with fail
    refine (pick_only g (p + 1) _ _ (by omega) r3).mono ?_
    rintro e w4 ⟨x', rfl, _, lx, ux, r4, o4, s4⟩
    have ux' := ux (by omega)
    obtain ⟨x, rfl⟩ : ∃ m : Nat, x' = m := ⟨x'.toNat, by omega⟩
    have xn : x < fs.length := by omega
    have Q4 := hide (Q3.out.only o4 (by omega))
    have Z4 := hide (Z3.out.only o4 (by omega))
    have O4 := hide (O3.out.trans o4)
    obtain ⟨rb, xs, B, hb2e, hRow, hrbl⟩ := Row5.of Q4.out.fu hn
    subst hb2e
    have RW4 := hide hRow
    clear hRow
    generalize hlo1 : w1.heap.size = L1 at *
    generalize hqb : w2.heap.size = qb at *
    clear hlo1 hqb Q3 Z3 O3 r3 o4 ux lx s4
    have Q5 := hide (Q4.out.only ((Only.refl g w4).alloc (.cells #[.int .i64 3, .int .i64 (-1), .bool false] 33)) (by omega))
    have Z5 := hide (Z4.out.alloc (.cells #[.int .i64 3, .int .i64 (-1), .bool false] 33))
    have O5 := hide (O4.out.alloc (.cells #[.int .i64 3, .int .i64 (-1), .bool false] 33))
    have R5 := hide (r4.alloc (.cells #[.int .i64 3, .int .i64 (-1), .bool false] 33))
    have V5 := hide (Rec.new w4 33 [.int .i64 3, .int .i64 (-1), .bool false])
    have RW5 := hide (RW4.out.only ((Only.refl g w4).alloc (.cells #[.int .i64 3, .int .i64 (-1), .bool false] 33)) (by have := Q4.out.l1; have := Q4.out.l2; omega))
    have HBsb : Hid (B fs.length ≤ w4.heap.size) := RW4.out.hBl
    have sbw : w4.heap.size < (w4.alloc (.cells #[.int .i64 3, .int .i64 (-1), .bool false] 33)).heap.size := by simp
    clear Q4 Z4 O4 r4 RW4
    go_upto_region 7 with fail
    generalize hw5 : w4.alloc (.cells #[.int .i64 3, .int .i64 (-1), .bool false] 33) = w5 at *
    generalize hsb : w4.heap.size = sb at *
    clear hw5 hsb
    have q0 := Q5.out.q.cell (o := 0) rfl
    have q1 := Q5.out.q.cell (o := 1) rfl
    have q2 := Q5.out.q.cell (o := 2) rfl
    have qf0 := Q5.out.q.frozen 0
    have qf1 := Q5.out.q.frozen 1
    have qf2 := Q5.out.q.frozen 2
    have v0 := V5.out.cell (o := 0) rfl
    have v1 := V5.out.cell (o := 1) rfl
    have v2 := V5.out.cell (o := 2) rfl
    have zlo : w.heap.size + 1 < L1 := z1w
    have qlt := Q5.out.q.lt
    have hkk : k = 0 ∨ k = 1 ∨ k = 2 ∨ k = 3 ∨ k = 4 ∨ k = 5 ∨ k = 6 ∨ k = 7 ∨ k = 8 ∨ k = 9 := by omega
    clear uk' lk hk9 hk9'
    rcases hkk with rfl | rfl | rfl | rfl | rfl | rfl | rfl | rfl | rfl | rfl
    · obtain ⟨i2, hi2, hzz⟩ := Option.map_eq_some_iff.1 Tryz.infoTypeS
      simp only [Prod.mk.injEq] at hzz
      obtain ⟨hz2, hs2, hb2⟩ := hzz
      have KI := hide hi2
      have KZ := hide hz2
      have KS := hide hs2
      have KB := hide hb2
      clear hi2 hz2 hs2 hb2
      have QA := hide (Q5.out.only (((Only.refl g w5).alloc (.cells #[] 44)).alloc (.cells #[.slice (some ⟨w5.heap.size, 0, none⟩) 0 0] 42)) (by omega))
      have EA : Hid (EmpAt ((w5.alloc (.cells #[] 44)).alloc (.cells #[.slice (some ⟨w5.heap.size, 0, none⟩) 0 0] 42)) w5.heap.size 44) := (EmpAt.new _ _ _ rfl).alloc _
      have k3 := QA.out.l3
      have k2 := QA.out.l2
      have k1 := QA.out.l1
      obtain ⟨xs, hro, hT⟩ := QA.out.gr
      have GRA := hide hro
      have HT := hide hT
      clear hro hT
      simp only at GRA HT
      go_wp2_with (first | (at_builtin; refine wpList_append_lies _ rfl _ _ 23 rfl h1 42 i2 _ 1 24 Tryz.underlying23 KI.out KZ.out KS.out KB.out rfl (by decide) (.slice b0 ts.length d0) ts.length xs rfl GRA.out ⟨w5.heap.size + 1, 0, none⟩ 1 1 [.slice (some ⟨w5.heap.size, 0, none⟩) 0 0] rfl rfl (by have := World.news_of_block (Deep.blk_alloc_new (w5.alloc (.cells #[] 44)) (.cells #[.slice (some ⟨w5.heap.size, 0, none⟩) 0 0] 42)); simpa using this) (by intro u hu; simp at hu; subst hu; rfl) (by decide) (by unfold maxLen; omega) (by omega) (by simp; omega) _ rfl ?_))
      intro gB cap6 w6 hown6 hgr6 hat6 hlt6
      have QFIN := QA.out.moreTypes HQB.out (by show ts.length < 1000; omega) GRA.out HT.out EA.out (by omega) hown6 hgr6
      have V6 := QA.out.q.grown hgr6 (fun e => by have := owns_base GRA.out _ e.symm; have := owns_lt GRA.out _ e.symm; exact prog_type_ne QA.out.q GRA.out e)
      have d1 := V6.cell (o := 0) rfl
      have d1f := V6.frozen 0
      clear V6
      go_upto_region 29 with fail
      simp only at QFIN
      obtain ⟨QQ, e0, e1, e2, f0, f1, f2, hq9, hG9, hF9, hU9, hQB9, hle9, hlf9⟩ := QFIN
      clear q0 q1 q2
      have q0 := hq9.cell (o := 0) rfl
      have q1 := hq9.cell (o := 1) rfl
      have q2 := hq9.cell (o := 2) rfl
      have z0 := ((((Z5.out.alloc (.cells #[] 44)).alloc (.cells #[.slice (some ⟨w5.heap.size, 0, none⟩) 0 0] 42)).grown hgr6 (fun e => by have := owns_base GRA.out _ e.symm; omega)).other (show w.heap.size + 1 ≠ qb by omega) 0 (.slice (some ⟨gB, 0, none⟩) (ts.length + 1) cap6)).cell (o := 0) rfl
      have z1 := ((((Z5.out.alloc (.cells #[] 44)).alloc (.cells #[.slice (some ⟨w5.heap.size, 0, none⟩) 0 0] 42)).grown hgr6 (fun e => by have := owns_base GRA.out _ e.symm; omega)).other (show w.heap.size + 1 ≠ qb by omega) 0 (.slice (some ⟨gB, 0, none⟩) (ts.length + 1) cap6)).cell (o := 1) rfl
      have z2 := ((((Z5.out.alloc (.cells #[] 44)).alloc (.cells #[.slice (some ⟨w5.heap.size, 0, none⟩) 0 0] 42)).grown hgr6 (fun e => by have := owns_base GRA.out _ e.symm; omega)).other (show w.heap.size + 1 ≠ qb by omega) 0 (.slice (some ⟨gB, 0, none⟩) (ts.length + 1) cap6)).cell (o := 2) rfl
      have zf0 := ((((Z5.out.alloc (.cells #[] 44)).alloc (.cells #[.slice (some ⟨w5.heap.size, 0, none⟩) 0 0] 42)).grown hgr6 (fun e => by have := owns_base GRA.out _ e.symm; omega)).other (show w.heap.size + 1 ≠ qb by omega) 0 (.slice (some ⟨gB, 0, none⟩) (ts.length + 1) cap6)).frozen 0
      have zf1 := ((((Z5.out.alloc (.cells #[] 44)).alloc (.cells #[.slice (some ⟨w5.heap.size, 0, none⟩) 0 0] 42)).grown hgr6 (fun e => by have := owns_base GRA.out _ e.symm; omega)).other (show w.heap.size + 1 ≠ qb by omega) 0 (.slice (some ⟨gB, 0, none⟩) (ts.length + 1) cap6)).frozen 1
      have zf2 := ((((Z5.out.alloc (.cells #[] 44)).alloc (.cells #[.slice (some ⟨w5.heap.size, 0, none⟩) 0 0] 42)).grown hgr6 (fun e => by have := owns_base GRA.out _ e.symm; omega)).other (show w.heap.size + 1 ≠ qb by omega) 0 (.slice (some ⟨gB, 0, none⟩) (ts.length + 1) cap6)).frozen 2
      have HG9 := hide hG9
      have HF9 := hide hF9
      have HU9 := hide hU9
      have HQB9 := hide hQB9
      have HR9 := hide ((((R5.out.alloc (.cells #[] 44)).alloc (.cells #[.slice (some ⟨w5.heap.size, 0, none⟩) 0 0] 42)).keep' ((Below.refl (g + 1) _).grown hgr6 (by simp; omega) (fun q hq => by have := owns_base GRA.out q hq; omega))).set (b := qb) (by omega) 0 (.slice (some ⟨gB, 0, none⟩) (ts.length + 1) cap6))
      have HO9 := hide ((((O5.out.alloc (.cells #[] 44)).alloc (.cells #[.slice (some ⟨w5.heap.size, 0, none⟩) 0 0] 42)).grown hgr6 (fun q hq => by have := owns_base GRA.out q hq; omega)).set (b := qb) (by omega) 0 (.slice (some ⟨gB, 0, none⟩) (ts.length + 1) cap6))
      have HL9 := hide (((((Z5.out.alloc (.cells #[] 44)).alloc (.cells #[.slice (some ⟨w5.heap.size, 0, none⟩) 0 0] 42)).grown hgr6 (fun e => by have := owns_base GRA.out _ e.symm; omega)).other (show w.heap.size + 1 ≠ qb by omega) 0 (.slice (some ⟨gB, 0, none⟩) (ts.length + 1) cap6)).lt)
      have HL8 := hide (hq9.lt)
      clear hG9 hF9 hU9 hQB9 hq9
      generalize hW9 : (w6.setCell ⟨qb, 0, none⟩ (.slice (some ⟨gB, 0, none⟩) (ts.length + 1) cap6)) = W9 at *
      clear hW9
      go_wp2_with fail
      have sm9 : Same L1 W9.heap.size W9 (((W9.setCell ⟨w.heap.size + 1, 0, none⟩ (.slice e0 QQ.types.length f0)).setCell ⟨w.heap.size + 1, 1, none⟩ (.slice e1 QQ.glob.length f1)).setCell ⟨w.heap.size + 1, 2, none⟩ (.slice e2 QQ.funs.length f2)) := (((Same.refl _ _ _).set (.inl (by omega)) _ _).set (.inl (by omega)) _ _).set (.inl (by omega)) _ _
      refine bodyPost_ret (v := .agg #[.slice e0 QQ.types.length f0, .slice e1 QQ.glob.length f1, .slice e2 QQ.funs.length f2]) (by simp [results, Tryz.results52, go_sem, *]) rfl ⟨QQ, e0, e1, e2, f0, f1, f2, rfl, ?_, ?_, ?_, HQB9.out, hle9, hlf9, ⟨p + 1 + 1, by omega, ((HR9.out.set (by omega) _ _).set (by omega) _ _).set (by omega) _ _⟩, ((HO9.out.set (by omega) _ _).set (by omega) _ _).set (by omega) _ _⟩
      · exact HG9.out.same sm9 (by omega) (by simp)
      · exact HF9.out.same sm9 (by omega) (by simp)
      · exact HU9.out.same sm9 (by omega) (by simp)
    · obtain ⟨i2, hi2, hzz⟩ := Option.map_eq_some_iff.1 Tryz.infoField
      simp only [Prod.mk.injEq] at hzz
      obtain ⟨hz2, hs2, hb2⟩ := hzz
      have KI := hide hi2
      have KZ := hide hz2
      have KS := hide hs2
      have KB := hide hb2
      clear hi2 hz2 hs2 hb2
      have QA := hide (Q5.out.only ((Only.refl g w5).alloc (.cells #[.int .i64 3, .int .i64 (-1), .bool false] 33)) (by omega))
      have GLA := hide (QA.out.gl.1)
      have k3 := QA.out.l3
      have k2 := QA.out.l2
      have k1 := QA.out.l1
      go_wp2_with (first | (at_builtin; refine wpList_append_lies _ rfl _ _ 24 rfl L1 33 i2 _ 3 24 Tryz.underlying24 KI.out KZ.out KS.out KB.out rfl (by decide) (.slice b1 gl.length d1) gl.length (fcells gl) rfl GLA.out ⟨w5.heap.size, 0, none⟩ 1 1 [.int .i64 3, .int .i64 (-1), .bool false] rfl rfl (World.news_of_block (Deep.blk_alloc_new _ _)) (by intro u hu; simp at hu; rcases hu with rfl | rfl | rfl <;> rfl) (by decide) (by unfold maxLen; omega) (by omega) (by simp; omega) _ rfl ?_))
      intro gB cap6 w6 hown6 hgr6 hat6 hlt6
      have QFIN := QA.out.moreGlob (f := ⟨3, -1, false⟩) HQB.out (by show gl.length < 1000; omega) (by unfold FdRow; rw [fcells_snoc]; simpa using hown6) hgr6 QA.out.gl.2 (by
        rcases hat6 with h | h
        · exact .inl (QA.out.gl.2 gB h)
        · exact .inr (by rw [h]; simp))
      have V6 := QA.out.q.grown hgr6 (fun e => by have := QA.out.gl.2 _ e.symm; omega)
      have d1 := V6.cell (o := 1) rfl
      have d1f := V6.frozen 1
      clear V6
      go_upto_region 29 with fail
      simp only at QFIN
      obtain ⟨QQ, e0, e1, e2, f0, f1, f2, hq9, hG9, hF9, hU9, hQB9, hle9, hlf9⟩ := QFIN
      clear q0 q1 q2
      have q0 := hq9.cell (o := 0) rfl
      have q1 := hq9.cell (o := 1) rfl
      have q2 := hq9.cell (o := 2) rfl
      have z0 := (((Z5.out.alloc (.cells #[.int .i64 3, .int .i64 (-1), .bool false] 33)).grown hgr6 (fun e => by have := owns_base GLA.out _ e.symm; omega)).other (show w.heap.size + 1 ≠ qb by omega) 1 (.slice (some ⟨gB, 0, none⟩) (gl.length + 1) cap6)).cell (o := 0) rfl
      have z1 := (((Z5.out.alloc (.cells #[.int .i64 3, .int .i64 (-1), .bool false] 33)).grown hgr6 (fun e => by have := owns_base GLA.out _ e.symm; omega)).other (show w.heap.size + 1 ≠ qb by omega) 1 (.slice (some ⟨gB, 0, none⟩) (gl.length + 1) cap6)).cell (o := 1) rfl
      have z2 := (((Z5.out.alloc (.cells #[.int .i64 3, .int .i64 (-1), .bool false] 33)).grown hgr6 (fun e => by have := owns_base GLA.out _ e.symm; omega)).other (show w.heap.size + 1 ≠ qb by omega) 1 (.slice (some ⟨gB, 0, none⟩) (gl.length + 1) cap6)).cell (o := 2) rfl
      have zf0 := (((Z5.out.alloc (.cells #[.int .i64 3, .int .i64 (-1), .bool false] 33)).grown hgr6 (fun e => by have := owns_base GLA.out _ e.symm; omega)).other (show w.heap.size + 1 ≠ qb by omega) 1 (.slice (some ⟨gB, 0, none⟩) (gl.length + 1) cap6)).frozen 0
      have zf1 := (((Z5.out.alloc (.cells #[.int .i64 3, .int .i64 (-1), .bool false] 33)).grown hgr6 (fun e => by have := owns_base GLA.out _ e.symm; omega)).other (show w.heap.size + 1 ≠ qb by omega) 1 (.slice (some ⟨gB, 0, none⟩) (gl.length + 1) cap6)).frozen 1
      have zf2 := (((Z5.out.alloc (.cells #[.int .i64 3, .int .i64 (-1), .bool false] 33)).grown hgr6 (fun e => by have := owns_base GLA.out _ e.symm; omega)).other (show w.heap.size + 1 ≠ qb by omega) 1 (.slice (some ⟨gB, 0, none⟩) (gl.length + 1) cap6)).frozen 2
      have HG9 := hide hG9
      have HF9 := hide hF9
      have HU9 := hide hU9
      have HQB9 := hide hQB9
      have HR9 := hide (((R5.out.alloc (.cells #[.int .i64 3, .int .i64 (-1), .bool false] 33)).keep' ((Below.refl (g + 1) _).grown hgr6 (by simp; omega) (fun q hq => by have := owns_base GLA.out q hq; omega))).set (b := qb) (by omega) 1 (.slice (some ⟨gB, 0, none⟩) (gl.length + 1) cap6))
      have HO9 := hide (((O5.out.alloc (.cells #[.int .i64 3, .int .i64 (-1), .bool false] 33)).grown hgr6 (fun q hq => by have := owns_base GLA.out q hq; omega)).set (b := qb) (by omega) 1 (.slice (some ⟨gB, 0, none⟩) (gl.length + 1) cap6))
      have HL9 := hide ((((Z5.out.alloc (.cells #[.int .i64 3, .int .i64 (-1), .bool false] 33)).grown hgr6 (fun e => by have := owns_base GLA.out _ e.symm; omega)).other (show w.heap.size + 1 ≠ qb by omega) 1 (.slice (some ⟨gB, 0, none⟩) (gl.length + 1) cap6)).lt)
      have HL8 := hide (hq9.lt)
      clear hG9 hF9 hU9 hQB9 hq9
      generalize hW9 : (w6.setCell ⟨qb, 1, none⟩ (.slice (some ⟨gB, 0, none⟩) (gl.length + 1) cap6)) = W9 at *
      clear hW9
      go_wp2_with fail
      have sm9 : Same L1 W9.heap.size W9 (((W9.setCell ⟨w.heap.size + 1, 0, none⟩ (.slice e0 QQ.types.length f0)).setCell ⟨w.heap.size + 1, 1, none⟩ (.slice e1 QQ.glob.length f1)).setCell ⟨w.heap.size + 1, 2, none⟩ (.slice e2 QQ.funs.length f2)) := (((Same.refl _ _ _).set (.inl (by omega)) _ _).set (.inl (by omega)) _ _).set (.inl (by omega)) _ _
      refine bodyPost_ret (v := .agg #[.slice e0 QQ.types.length f0, .slice e1 QQ.glob.length f1, .slice e2 QQ.funs.length f2]) (by simp [results, Tryz.results52, go_sem, *]) rfl ⟨QQ, e0, e1, e2, f0, f1, f2, rfl, ?_, ?_, ?_, HQB9.out, hle9, hlf9, ⟨p + 1 + 1, by omega, ((HR9.out.set (by omega) _ _).set (by omega) _ _).set (by omega) _ _⟩, ((HO9.out.set (by omega) _ _).set (by omega) _ _).set (by omega) _ _⟩
      · exact HG9.out.same sm9 (by omega) (by simp)
      · exact HF9.out.same sm9 (by omega) (by simp)
      · exact HU9.out.same sm9 (by omega) (by simp)
    · have QA := Q5.out.only ((Only.refl g w5).alloc (.cells #[] 36)) (by omega)
      have QFIN := QA.noFuns (n := 0) (a := some ⟨w5.heap.size, 0, none⟩) (c := 0) HQB.out
      have k3 := QA.l3
      have k2 := QA.l2
      have k1 := QA.l1
      go_upto_region 29 with fail
      rw [← World.setCell_alloc_past (.cells #[] 36) qb 2 _ qlt]
      obtain ⟨QQ, e0, e1, e2, f0, f1, f2, hq9, hG9, hF9, hU9, hQB9, hle9, hlf9⟩ := QFIN
      clear q0 q1 q2
      have q0 := hq9.cell (o := 0) rfl
      have q1 := hq9.cell (o := 1) rfl
      have q2 := hq9.cell (o := 2) rfl
      have z0 := ((Z5.out.alloc (.cells #[] 36)).other (show w.heap.size + 1 ≠ qb by omega) 2 (.slice (some ⟨w5.heap.size, 0, none⟩) 0 0)).cell (o := 0) rfl
      have z1 := ((Z5.out.alloc (.cells #[] 36)).other (show w.heap.size + 1 ≠ qb by omega) 2 (.slice (some ⟨w5.heap.size, 0, none⟩) 0 0)).cell (o := 1) rfl
      have z2 := ((Z5.out.alloc (.cells #[] 36)).other (show w.heap.size + 1 ≠ qb by omega) 2 (.slice (some ⟨w5.heap.size, 0, none⟩) 0 0)).cell (o := 2) rfl
      have zf0 := ((Z5.out.alloc (.cells #[] 36)).other (show w.heap.size + 1 ≠ qb by omega) 2 (.slice (some ⟨w5.heap.size, 0, none⟩) 0 0)).frozen 0
      have zf1 := ((Z5.out.alloc (.cells #[] 36)).other (show w.heap.size + 1 ≠ qb by omega) 2 (.slice (some ⟨w5.heap.size, 0, none⟩) 0 0)).frozen 1
      have zf2 := ((Z5.out.alloc (.cells #[] 36)).other (show w.heap.size + 1 ≠ qb by omega) 2 (.slice (some ⟨w5.heap.size, 0, none⟩) 0 0)).frozen 2
      have HG9 := hide hG9
      have HF9 := hide hF9
      have HU9 := hide hU9
      have HQB9 := hide hQB9
      have HR9 := hide ((R5.out.alloc (.cells #[] 36)).set (b := qb) (by omega) 2 (.slice (some ⟨w5.heap.size, 0, none⟩) 0 0))
      have HO9 := hide ((O5.out.alloc (.cells #[] 36)).set (b := qb) (by omega) 2 (.slice (some ⟨w5.heap.size, 0, none⟩) 0 0))
      have HL9 := hide (((Z5.out.alloc (.cells #[] 36)).other (show w.heap.size + 1 ≠ qb by omega) 2 (.slice (some ⟨w5.heap.size, 0, none⟩) 0 0)).lt)
      have HL8 := hide (hq9.lt)
      clear hG9 hF9 hU9 hQB9 hq9
      generalize hW9 : ((w5.alloc (.cells #[] 36)).setCell ⟨qb, 2, none⟩ (.slice (some ⟨w5.heap.size, 0, none⟩) 0 0)) = W9 at *
      clear hW9
      go_wp2_with fail
      have sm9 : Same L1 W9.heap.size W9 (((W9.setCell ⟨w.heap.size + 1, 0, none⟩ (.slice e0 QQ.types.length f0)).setCell ⟨w.heap.size + 1, 1, none⟩ (.slice e1 QQ.glob.length f1)).setCell ⟨w.heap.size + 1, 2, none⟩ (.slice e2 QQ.funs.length f2)) := (((Same.refl _ _ _).set (.inl (by omega)) _ _).set (.inl (by omega)) _ _).set (.inl (by omega)) _ _
      refine bodyPost_ret (v := .agg #[.slice e0 QQ.types.length f0, .slice e1 QQ.glob.length f1, .slice e2 QQ.funs.length f2]) (by simp [results, Tryz.results52, go_sem, *]) rfl ⟨QQ, e0, e1, e2, f0, f1, f2, rfl, ?_, ?_, ?_, HQB9.out, hle9, hlf9, ⟨p + 1 + 1, by omega, ((HR9.out.set (by omega) _ _).set (by omega) _ _).set (by omega) _ _⟩, ((HO9.out.set (by omega) _ _).set (by omega) _ _).set (by omega) _ _⟩
      · exact HG9.out.same sm9 (by omega) (by simp)
      · exact HF9.out.same sm9 (by omega) (by simp)
      · exact HU9.out.same sm9 (by omega) (by simp)
    · obtain ⟨x0, x4, x5, y0, y4, y5, hX⟩ := FunX.of (RW5.out.hfv x xn)
      have sm3 := HSm.out x xn
      generalize funAt' fs x = fx at hX sm3
      obtain ⟨tk, ⟨gk, go, gm⟩, ow, bd⟩ := fx
      obtain ⟨tl3, ol3, bl1, bl6⟩ := sm3
      simp only at tl3 ol3 bl1 bl6
      have HX := hide hX
      clear hX
      have k3 := Q5.out.l3
      have k2 := Q5.out.l2
      have k1 := Q5.out.l1
      have xi0 : (0 : Int) ≤ (x : Int) := by omega
      have xi1 : (x : Int) < (fs.length : Int) := by omega
      have rb2 : h2 ≤ rb := owns_base RW5.out.ho rb rfl
      have rlt : rb < w5.heap.size := owns_lt RW5.out.ho rb rfl
      have hBx : Hid (h2 ≤ B x) := Nat.le_trans RW5.out.hS (mono_le' RW5.out.hB (Nat.zero_le _))
      have hBs : Hid (B (x + 1) ≤ sb) := Nat.le_trans (mono_le' RW5.out.hB (by omega)) HBsb.out
      have hqr : qb ≠ rb := by
        obtain ⟨c, h5⟩ := owns_kind RW5.out.ho (k := rb) rfl
        exact kind_ne Q5.out.q h5 (by decide)
      have R5d : Hid (Rd w5.drew g (p + 1 + 1)) := R5.out
      have O5d : Hid (Only g w w5.drew) := O5.out.drewN 1
      have Z5d : Hid (Rec w5.drew (w.heap.size + 1) 27 [.slice none 0 0, .slice none 0 0, .slice none 0 0]) := Z5.out
      obtain ⟨i2, hi2, hzz⟩ := Option.map_eq_some_iff.1 Tryz.infoField
      simp only [Prod.mk.injEq] at hzz
      obtain ⟨hz2, hs2, hb2⟩ := hzz
      have KI := hide hi2
      have KZ := hide hz2
      have KS := hide hs2
      have KB := hide hb2
      clear hi2 hz2 hs2 hb2
      have L5 : Hid (LSt 33 w5 L1 h2 rb d2 fs.length x 4 (Value.slice x4 ow.length y4).ownBlock xs x4 ow.length y4 (fcells ow) w5.drew) :=
        (LSt.init RW5.out.ho HX.out.e4 (owns_lower HX.out.r4.1 hBx.out)).only ((Only.refl g w5).drewN 1) (by omega) (by omega)
      have HSB : Hid ((Value.slice x4 ow.length y4).ownBlock ≠ some sb) := fun q => by have := HX.out.r4.2 _ q; have := hBs.out; omega
      go_wp2_with fail
      refine beginA (S := XS h2 qb rb d2 fs.length sb [.slice b0 ts.length d0, .slice b1 gl.length d1, .slice (some ⟨rb, 0, none⟩) fs.length d2] xs) 14 (by kernel_rfl) ⟨Q5.out.q, RW5.out.ho, V5.out⟩ (fun hHeld => ?_)
      refine takeA (i := 0) (v := ?v0n1) rfl (by kernel_rfl) (by kernel_rfl) (by kernel_rfl) (fun _ _ _ h => h) (by kernel_rfl) (by kernel_rfl) (by assumption) ?y0n1 ?r0n1
      case y0n1 => (intro w hSw; have sq := hSw.q.cell (o := 2) rfl; have sx := hSw.cell (j := x * 6 + 4) (by omega) HX.out.e4; have sv0 := hSw.sv.cell (o := 0) rfl; have sv1 := hSw.sv.cell (o := 1) rfl; have sv2 := hSw.sv.cell (o := 2) rfl; clear hSw; go_simp; try with_reducible rfl)
      (try simp only [Act.put, List.setIfInBounds_toArray, List.set_cons_zero, List.set_cons_succ])
      refine takeA (i := 1) (v := ?v1n2) rfl (by kernel_rfl) (by kernel_rfl) (by kernel_rfl) (fun _ _ _ h => h) (by kernel_rfl) (by kernel_rfl) (by assumption) ?y1n2 ?r1n2
      case y1n2 => (intro w hSw; have sq := hSw.q.cell (o := 2) rfl; have sx := hSw.cell (j := x * 6 + 4) (by omega) HX.out.e4; have sv0 := hSw.sv.cell (o := 0) rfl; have sv1 := hSw.sv.cell (o := 1) rfl; have sv2 := hSw.sv.cell (o := 2) rfl; clear hSw; go_simp; try with_reducible rfl)
      (try simp only [Act.put, List.setIfInBounds_toArray, List.set_cons_zero, List.set_cons_succ])
      refine takeA (i := 2) (v := ?v2n3) rfl (by kernel_rfl) (by kernel_rfl) (by kernel_rfl) (fun _ _ _ h => h) (by kernel_rfl) (by kernel_rfl) (by assumption) ?y2n3 ?r2n3
      case y2n3 => (intro w hSw; have sq := hSw.q.cell (o := 2) rfl; have sx := hSw.cell (j := x * 6 + 4) (by omega) HX.out.e4; have sv0 := hSw.sv.cell (o := 0) rfl; have sv1 := hSw.sv.cell (o := 1) rfl; have sv2 := hSw.sv.cell (o := 2) rfl; clear hSw; go_simp; try with_reducible rfl)
      (try simp only [Act.put, List.setIfInBounds_toArray, List.set_cons_zero, List.set_cons_succ])
      refine takeA (i := 3) (v := ?v3n4) rfl (by kernel_rfl) (by kernel_rfl) (by kernel_rfl) (fun _ _ _ h => h) (by kernel_rfl) (by kernel_rfl) (by assumption) ?y3n4 ?r3n4
      case y3n4 => (intro w hSw; have sq := hSw.q.cell (o := 2) rfl; have sx := hSw.cell (j := x * 6 + 4) (by omega) HX.out.e4; have sv0 := hSw.sv.cell (o := 0) rfl; have sv1 := hSw.sv.cell (o := 1) rfl; have sv2 := hSw.sv.cell (o := 2) rfl; clear hSw; go_simp; try with_reducible rfl)
      (try simp only [Act.put, List.setIfInBounds_toArray, List.set_cons_zero, List.set_cons_succ])
      refine takeA (i := 4) (v := ?v4n5) rfl (by kernel_rfl) (by kernel_rfl) (by kernel_rfl) (fun _ _ _ h => h) (by kernel_rfl) (by kernel_rfl) (by assumption) ?y4n5 ?r4n5
      case y4n5 => (intro w hSw; have sq := hSw.q.cell (o := 2) rfl; have sx := hSw.cell (j := x * 6 + 4) (by omega) HX.out.e4; have sv0 := hSw.sv.cell (o := 0) rfl; have sv1 := hSw.sv.cell (o := 1) rfl; have sv2 := hSw.sv.cell (o := 2) rfl; clear hSw; go_simp; try with_reducible rfl)
      (try simp only [Act.put, List.setIfInBounds_toArray, List.set_cons_zero, List.set_cons_succ])
      refine takeA (i := 5) (v := ?v5n6) rfl (by kernel_rfl) (by kernel_rfl) (by kernel_rfl) (fun _ _ _ h => h) (by kernel_rfl) (by kernel_rfl) (by assumption) ?y5n6 ?r5n6
      case y5n6 => (intro w hSw; have sq := hSw.q.cell (o := 2) rfl; have sx := hSw.cell (j := x * 6 + 4) (by omega) HX.out.e4; have sv0 := hSw.sv.cell (o := 0) rfl; have sv1 := hSw.sv.cell (o := 1) rfl; have sv2 := hSw.sv.cell (o := 2) rfl; clear hSw; go_simp; try with_reducible rfl)
      (try simp only [Act.put, List.setIfInBounds_toArray, List.set_cons_zero, List.set_cons_succ])
      refine takeA (i := 6) (v := ?v6n7) rfl (by kernel_rfl) (by kernel_rfl) (by kernel_rfl) (fun _ _ _ h => h) (by kernel_rfl) (by kernel_rfl) (by assumption) ?y6n7 ?r6n7
      case y6n7 => (intro w hSw; have sq := hSw.q.cell (o := 2) rfl; have sx := hSw.cell (j := x * 6 + 4) (by omega) HX.out.e4; have sv0 := hSw.sv.cell (o := 0) rfl; have sv1 := hSw.sv.cell (o := 1) rfl; have sv2 := hSw.sv.cell (o := 2) rfl; clear hSw; go_simp; try with_reducible rfl)
      (try simp only [Act.put, List.setIfInBounds_toArray, List.set_cons_zero, List.set_cons_succ])
      refine takeA (i := 7) (v := ?v7n8) rfl (by kernel_rfl) (by kernel_rfl) (by kernel_rfl) (fun _ _ _ h => h) (by kernel_rfl) (by kernel_rfl) (by assumption) ?y7n8 ?r7n8
      case y7n8 => (intro w hSw; have sq := hSw.q.cell (o := 2) rfl; have sx := hSw.cell (j := x * 6 + 4) (by omega) HX.out.e4; have sv0 := hSw.sv.cell (o := 0) rfl; have sv1 := hSw.sv.cell (o := 1) rfl; have sv2 := hSw.sv.cell (o := 2) rfl; clear hSw; go_simp; try with_reducible rfl)
      (try simp only [Act.put, List.setIfInBounds_toArray, List.set_cons_zero, List.set_cons_succ])
      refine takeA (i := 8) (v := ?v8n9) rfl (by kernel_rfl) (by kernel_rfl) (by kernel_rfl) (fun _ _ _ h => h) (by kernel_rfl) (by kernel_rfl) (by assumption) ?y8n9 ?r8n9
      case y8n9 => (intro w hSw; have sq := hSw.q.cell (o := 2) rfl; have sx := hSw.cell (j := x * 6 + 4) (by omega) HX.out.e4; have sv0 := hSw.sv.cell (o := 0) rfl; have sv1 := hSw.sv.cell (o := 1) rfl; have sv2 := hSw.sv.cell (o := 2) rfl; clear hSw; go_simp; try with_reducible rfl)
      (try simp only [Act.put, List.setIfInBounds_toArray, List.set_cons_zero, List.set_cons_succ])
      refine takeA (i := 9) (v := ?v9n10) rfl (by kernel_rfl) (by kernel_rfl) (by kernel_rfl) (fun _ _ _ h => h) (by kernel_rfl) (by kernel_rfl) (by assumption) ?y9n10 ?r9n10
      case y9n10 => (intro w hSw; have sq := hSw.q.cell (o := 2) rfl; have sx := hSw.cell (j := x * 6 + 4) (by omega) HX.out.e4; have sv0 := hSw.sv.cell (o := 0) rfl; have sv1 := hSw.sv.cell (o := 1) rfl; have sv2 := hSw.sv.cell (o := 2) rfl; clear hSw; go_simp; try with_reducible rfl)
      (try simp only [Act.put, List.setIfInBounds_toArray, List.set_cons_zero, List.set_cons_succ])
      refine readyA (rs := [10]) (by kernel_rfl) (by simp) ?_
      refine AllL.cons rfl (fun K hK => ?_) ?_
      · go_simp
        refine hK.out _ _ (hHeld.below ((Below.refl _ _).alloc (Nat.le_refl _) _)) (fun hHeld => ?_)
        clear hK K
        (try simp only [Act.put, List.setIfInBounds_toArray, List.set_cons_zero, List.set_cons_succ])
        refine readyA (rs := [11]) (by kernel_rfl) (by simp) ?_
        refine AllL.cons rfl (fun K hK => ?_) ?_
        · have LA := hide (L5.out.only ((Only.refl g w5.drew).alloc (.cells #[.int .i64 3, .int .i64 (-1), .bool false] 33)) (by omega) (by omega))
          refine step_append_lies _ (by rfl) _ _ 24 (by rfl) h2 33 i2 _ 3 24 Tryz.underlying24 KI.out KZ.out KS.out KB.out (by rfl) (by decide) (.slice x4 ow.length y4) ow.length (fcells ow) (by rfl) LA.out.bd ⟨w5.heap.size, 0, none⟩ 1 1 [.int .i64 3, .int .i64 (-1), .bool false] (by rfl) rfl (World.news_of_block (Deep.blk_alloc_new _ _)) (by intro u hu; simp at hu; rcases hu with rfl | rfl | rfl <;> rfl) (by decide) (by unfold maxLen; omega) (by omega) (by simp; omega) _ rfl ?_
          intro gB cap6 w6 hown6 hgr6 hat6 hlt6
          refine hK.out _ _ (hHeld.grown LA.out.bd hgr6 (by decide) (by decide) HSB.out) (fun hHeld => ?_)
          clear hK K
          (try simp only [Act.put, List.setIfInBounds_toArray, List.set_cons_zero, List.set_cons_succ])
          refine readyA (rs := [12]) (by kernel_rfl) (by simp) ?_
          refine AllL.cons rfl (fun K hK => ?_) ?_
          · have hSw := hHeld
            have sq := hSw.q.cell (o := 2) rfl; have sx := hSw.cell (j := x * 6 + 4) (by omega) HX.out.e4; have sv0 := hSw.sv.cell (o := 0) rfl; have sv1 := hSw.sv.cell (o := 1) rfl; have sv2 := hSw.sv.cell (o := 2) rfl; clear hSw
            go_simp
            refine hK.out _ _ hHeld (fun hHeld => ?_)
            clear hK K
            (try simp only [Act.put, List.setIfInBounds_toArray, List.set_cons_zero, List.set_cons_succ])
            refine takeA (i := 13) (v := ?v13n11) rfl (by kernel_rfl) (by kernel_rfl) (by kernel_rfl) (fun _ _ _ h => h) (by kernel_rfl) (by kernel_rfl) (by assumption) ?y13n11 ?r13n11
            case y13n11 => (intro w hSw; have sq := hSw.q.cell (o := 2) rfl; have sx := hSw.cell (j := x * 6 + 4) (by omega) HX.out.e4; have sv0 := hSw.sv.cell (o := 0) rfl; have sv1 := hSw.sv.cell (o := 1) rfl; have sv2 := hSw.sv.cell (o := 2) rfl; clear hSw; go_simp; try with_reducible rfl)
            (try simp only [Act.put, List.setIfInBounds_toArray, List.set_cons_zero, List.set_cons_succ])
            refine readyA (rs := [14]) (by kernel_rfl) (by simp) ?_
            refine AllL.last rfl (fun K hK => ?_)
            have d4 := hHeld.cell (j := x * 6 + 4) (by omega) HX.out.e4
            have d4f := hHeld.ro.frozenAt (x * 6 + 4)
            go_simp
            refine hK.out _ _ ?_
            clear hK K
            (try simp only [Act.put, List.setIfInBounds_toArray, List.set_cons_zero, List.set_cons_succ])
            refine doneA (by kernel_rfl) ?_ _
            have e1 : (ow ++ [(⟨3, -1, false⟩ : Fd)]).length = ow.length + 1 := by simp
            have LP : LSt 33 w5 L1 h2 rb d2 fs.length x 4 (Value.slice x4 ow.length y4).ownBlock xs (some ⟨gB, 0, none⟩) (ow ++ [(⟨3, -1, false⟩ : Fd)]).length cap6 (fcells (ow ++ [(⟨3, -1, false⟩ : Fd)])) (w6.setCell ⟨rb, x * 6 + 4, none⟩ (.slice (some ⟨gB, 0, none⟩) (ow.length + 1) cap6)) := by
              have := LA.out.push (by decide) hown6 hgr6 hat6
              rw [e1, fcells_snoc]
              exact this
            have QFIN : QFin L1 qb (w6.setCell ⟨rb, x * 6 + 4, none⟩ (.slice (some ⟨gB, 0, none⟩) (ow.length + 1) cap6)) := LP.fin Q5.out HQB.out RW5.out (by omega) xn (fun k hk => ⟨owns_base HX.out.r4.1 k hk, HX.out.r4.2 k hk⟩) ((hHeld.q.other hqr _ _).trans (show Rec w5 qb _ _ from Q5.out.q).symm) (LSt.own HX.out RW5.out.ho LP xn hBx.out (by omega)) (by refine ⟨?_, ?_, ?_⟩ <;> simp [FieldsB, InssB] <;> omega)
            clear LP
            clear d4 d4f hHeld
            go_upto_region 29 with fail
            obtain ⟨QQ, e0, e1, e2, f0, f1, f2, hq9, hG9, hF9, hU9, hQB9, hle9, hlf9⟩ := QFIN
            clear q0 q1 q2
            have q0 := hq9.cell (o := 0) rfl
            have q1 := hq9.cell (o := 1) rfl
            have q2 := hq9.cell (o := 2) rfl
            have z0 := (((Z5d.out.alloc (.cells #[.int .i64 3, .int .i64 (-1), .bool false] 33)).grown hgr6 (fun e => by have := owns_base LA.out.bd _ e.symm; omega)).other (show w.heap.size + 1 ≠ rb by omega) (x * 6 + 4) (.slice (some ⟨gB, 0, none⟩) (ow.length + 1) cap6)).cell (o := 0) rfl
            have z1 := (((Z5d.out.alloc (.cells #[.int .i64 3, .int .i64 (-1), .bool false] 33)).grown hgr6 (fun e => by have := owns_base LA.out.bd _ e.symm; omega)).other (show w.heap.size + 1 ≠ rb by omega) (x * 6 + 4) (.slice (some ⟨gB, 0, none⟩) (ow.length + 1) cap6)).cell (o := 1) rfl
            have z2 := (((Z5d.out.alloc (.cells #[.int .i64 3, .int .i64 (-1), .bool false] 33)).grown hgr6 (fun e => by have := owns_base LA.out.bd _ e.symm; omega)).other (show w.heap.size + 1 ≠ rb by omega) (x * 6 + 4) (.slice (some ⟨gB, 0, none⟩) (ow.length + 1) cap6)).cell (o := 2) rfl
            have zf0 := (((Z5d.out.alloc (.cells #[.int .i64 3, .int .i64 (-1), .bool false] 33)).grown hgr6 (fun e => by have := owns_base LA.out.bd _ e.symm; omega)).other (show w.heap.size + 1 ≠ rb by omega) (x * 6 + 4) (.slice (some ⟨gB, 0, none⟩) (ow.length + 1) cap6)).frozen 0
            have zf1 := (((Z5d.out.alloc (.cells #[.int .i64 3, .int .i64 (-1), .bool false] 33)).grown hgr6 (fun e => by have := owns_base LA.out.bd _ e.symm; omega)).other (show w.heap.size + 1 ≠ rb by omega) (x * 6 + 4) (.slice (some ⟨gB, 0, none⟩) (ow.length + 1) cap6)).frozen 1
            have zf2 := (((Z5d.out.alloc (.cells #[.int .i64 3, .int .i64 (-1), .bool false] 33)).grown hgr6 (fun e => by have := owns_base LA.out.bd _ e.symm; omega)).other (show w.heap.size + 1 ≠ rb by omega) (x * 6 + 4) (.slice (some ⟨gB, 0, none⟩) (ow.length + 1) cap6)).frozen 2
            have HG9 := hide hG9
            have HF9 := hide hF9
            have HU9 := hide hU9
            have HQB9 := hide hQB9
            have HR9 := hide (((R5d.out.alloc (.cells #[.int .i64 3, .int .i64 (-1), .bool false] 33)).keep' ((Below.refl (g + 1) _).grown hgr6 (by simp; omega) (fun q hq => by have := owns_base LA.out.bd q hq; omega))).set (b := rb) (by omega) (x * 6 + 4) (.slice (some ⟨gB, 0, none⟩) (ow.length + 1) cap6))
            have HO9 := hide (((O5d.out.alloc (.cells #[.int .i64 3, .int .i64 (-1), .bool false] 33)).grown hgr6 (fun q hq => by have := owns_base LA.out.bd q hq; omega)).set (b := rb) (by omega) (x * 6 + 4) (.slice (some ⟨gB, 0, none⟩) (ow.length + 1) cap6))
            have HL9 := hide ((((Z5d.out.alloc (.cells #[.int .i64 3, .int .i64 (-1), .bool false] 33)).grown hgr6 (fun e => by have := owns_base LA.out.bd _ e.symm; omega)).other (show w.heap.size + 1 ≠ rb by omega) (x * 6 + 4) (.slice (some ⟨gB, 0, none⟩) (ow.length + 1) cap6)).lt)
            have HL8 := hide (hq9.lt)
            clear hG9 hF9 hU9 hQB9 hq9
            generalize hW9 : (w6.setCell ⟨rb, x * 6 + 4, none⟩ (.slice (some ⟨gB, 0, none⟩) (ow.length + 1) cap6)) = W9 at *
            clear hW9
            go_wp2_with fail
            have sm9 : Same L1 W9.heap.size W9 (((W9.setCell ⟨w.heap.size + 1, 0, none⟩ (.slice e0 QQ.types.length f0)).setCell ⟨w.heap.size + 1, 1, none⟩ (.slice e1 QQ.glob.length f1)).setCell ⟨w.heap.size + 1, 2, none⟩ (.slice e2 QQ.funs.length f2)) := (((Same.refl _ _ _).set (.inl (by omega)) _ _).set (.inl (by omega)) _ _).set (.inl (by omega)) _ _
            refine bodyPost_ret (v := .agg #[.slice e0 QQ.types.length f0, .slice e1 QQ.glob.length f1, .slice e2 QQ.funs.length f2]) (by simp [results, Tryz.results52, go_sem, *]) rfl ⟨QQ, e0, e1, e2, f0, f1, f2, rfl, ?_, ?_, ?_, HQB9.out, hle9, hlf9, ⟨p + 1 + 1, by omega, ((HR9.out.set (by omega) _ _).set (by omega) _ _).set (by omega) _ _⟩, ((HO9.out.set (by omega) _ _).set (by omega) _ _).set (by omega) _ _⟩
            · exact HG9.out.same sm9 (by omega) (by simp)
            · exact HF9.out.same sm9 (by omega) (by simp)
            · exact HU9.out.same sm9 (by omega) (by simp)
          exact AllL.nil
        exact AllL.nil
      exact AllL.nil
    · obtain ⟨x0, x4, x5, y0, y4, y5, hX⟩ := FunX.of (RW5.out.hfv x xn)
      have sm3 := HSm.out x xn
      generalize funAt' fs x = fx at hX sm3
      obtain ⟨tk, ⟨gk, go, gm⟩, ow, bd⟩ := fx
      obtain ⟨tl3, ol3, bl1, bl6⟩ := sm3
      simp only at tl3 ol3 bl1 bl6
      have HX := hide hX
      clear hX
      have k3 := Q5.out.l3
      have k2 := Q5.out.l2
      have k1 := Q5.out.l1
      have xi0 : (0 : Int) ≤ (x : Int) := by omega
      have xi1 : (x : Int) < (fs.length : Int) := by omega
      have rb2 : h2 ≤ rb := owns_base RW5.out.ho rb rfl
      have rlt : rb < w5.heap.size := owns_lt RW5.out.ho rb rfl
      have hBx : Hid (h2 ≤ B x) := Nat.le_trans RW5.out.hS (mono_le' RW5.out.hB (Nat.zero_le _))
      have hBs : Hid (B (x + 1) ≤ sb) := Nat.le_trans (mono_le' RW5.out.hB (by omega)) HBsb.out
      have hqr : qb ≠ rb := by
        obtain ⟨c, h5⟩ := owns_kind RW5.out.ho (k := rb) rfl
        exact kind_ne Q5.out.q h5 (by decide)
      have R5d : Hid (Rd w5.drew g (p + 1 + 1)) := R5.out
      have O5d : Hid (Only g w w5.drew) := O5.out.drewN 1
      have Z5d : Hid (Rec w5.drew (w.heap.size + 1) 27 [.slice none 0 0, .slice none 0 0, .slice none 0 0]) := Z5.out
      have d3 : w5.cell? ⟨rb, x * 6 + 3, none⟩ = some (.bool gm) := (RW5.out.ho.cellAt _ (by omega)).trans HX.out.e3
      have d3f := RW5.out.ho.frozenAt (x * 6 + 3)
      have QFIN := QSt.giveMut Q5.out HQB.out RW5.out HX.out xn hBx.out (by refine ⟨?_, ?_, ?_⟩ <;> simp [FieldsB, InssB] <;> omega) true
      go_upto_region 29 with fail
      obtain ⟨QQ, e0, e1, e2, f0, f1, f2, hq9, hG9, hF9, hU9, hQB9, hle9, hlf9⟩ := QFIN
      clear q0 q1 q2
      have q0 := hq9.cell (o := 0) rfl
      have q1 := hq9.cell (o := 1) rfl
      have q2 := hq9.cell (o := 2) rfl
      have z0 := (Z5.out.other (show w.heap.size + 1 ≠ rb by omega) (x * 6 + 3) (.bool true)).cell (o := 0) rfl
      have z1 := (Z5.out.other (show w.heap.size + 1 ≠ rb by omega) (x * 6 + 3) (.bool true)).cell (o := 1) rfl
      have z2 := (Z5.out.other (show w.heap.size + 1 ≠ rb by omega) (x * 6 + 3) (.bool true)).cell (o := 2) rfl
      have zf0 := (Z5.out.other (show w.heap.size + 1 ≠ rb by omega) (x * 6 + 3) (.bool true)).frozen 0
      have zf1 := (Z5.out.other (show w.heap.size + 1 ≠ rb by omega) (x * 6 + 3) (.bool true)).frozen 1
      have zf2 := (Z5.out.other (show w.heap.size + 1 ≠ rb by omega) (x * 6 + 3) (.bool true)).frozen 2
      have HG9 := hide hG9
      have HF9 := hide hF9
      have HU9 := hide hU9
      have HQB9 := hide hQB9
      have HR9 := hide (R5.out.set (b := rb) (by omega) (x * 6 + 3) (.bool true))
      have HO9 := hide (O5.out.set (b := rb) (by omega) (x * 6 + 3) (.bool true))
      have HL9 := hide ((Z5.out.other (show w.heap.size + 1 ≠ rb by omega) (x * 6 + 3) (.bool true)).lt)
      have HL8 := hide (hq9.lt)
      clear hG9 hF9 hU9 hQB9 hq9
      generalize hW9 : (w5.setCell ⟨rb, x * 6 + 3, none⟩ (.bool true)) = W9 at *
      clear hW9
      go_wp2_with fail
      have sm9 : Same L1 W9.heap.size W9 (((W9.setCell ⟨w.heap.size + 1, 0, none⟩ (.slice e0 QQ.types.length f0)).setCell ⟨w.heap.size + 1, 1, none⟩ (.slice e1 QQ.glob.length f1)).setCell ⟨w.heap.size + 1, 2, none⟩ (.slice e2 QQ.funs.length f2)) := (((Same.refl _ _ _).set (.inl (by omega)) _ _).set (.inl (by omega)) _ _).set (.inl (by omega)) _ _
      refine bodyPost_ret (v := .agg #[.slice e0 QQ.types.length f0, .slice e1 QQ.glob.length f1, .slice e2 QQ.funs.length f2]) (by simp [results, Tryz.results52, go_sem, *]) rfl ⟨QQ, e0, e1, e2, f0, f1, f2, rfl, ?_, ?_, ?_, HQB9.out, hle9, hlf9, ⟨p + 1 + 1, by omega, ((HR9.out.set (by omega) _ _).set (by omega) _ _).set (by omega) _ _⟩, ((HO9.out.set (by omega) _ _).set (by omega) _ _).set (by omega) _ _⟩
      · exact HG9.out.same sm9 (by omega) (by simp)
      · exact HF9.out.same sm9 (by omega) (by simp)
      · exact HU9.out.same sm9 (by omega) (by simp)
    · obtain ⟨x0, x4, x5, y0, y4, y5, hX⟩ := FunX.of (RW5.out.hfv x xn)
      have sm3 := HSm.out x xn
      generalize funAt' fs x = fx at hX sm3
      obtain ⟨tk, ⟨gk, go, gm⟩, ow, bd⟩ := fx
      obtain ⟨tl3, ol3, bl1, bl6⟩ := sm3
      simp only at tl3 ol3 bl1 bl6
      have HX := hide hX
      clear hX
      have k3 := Q5.out.l3
      have k2 := Q5.out.l2
      have k1 := Q5.out.l1
      have xi0 : (0 : Int) ≤ (x : Int) := by omega
      have xi1 : (x : Int) < (fs.length : Int) := by omega
      have rb2 : h2 ≤ rb := owns_base RW5.out.ho rb rfl
      have rlt : rb < w5.heap.size := owns_lt RW5.out.ho rb rfl
      have hBx : Hid (h2 ≤ B x) := Nat.le_trans RW5.out.hS (mono_le' RW5.out.hB (Nat.zero_le _))
      have hBs : Hid (B (x + 1) ≤ sb) := Nat.le_trans (mono_le' RW5.out.hB (by omega)) HBsb.out
      have hqr : qb ≠ rb := by
        obtain ⟨c, h5⟩ := owns_kind RW5.out.ho (k := rb) rfl
        exact kind_ne Q5.out.q h5 (by decide)
      have R5d : Hid (Rd w5.drew g (p + 1 + 1)) := R5.out
      have O5d : Hid (Only g w w5.drew) := O5.out.drewN 1
      have Z5d : Hid (Rec w5.drew (w.heap.size + 1) 27 [.slice none 0 0, .slice none 0 0, .slice none 0 0]) := Z5.out
      obtain ⟨i2, hi2, hzz⟩ := Option.map_eq_some_iff.1 Tryz.infoField
      simp only [Prod.mk.injEq] at hzz
      obtain ⟨hz2, hs2, hb2⟩ := hzz
      have KI := hide hi2
      have KZ := hide hz2
      have KS := hide hs2
      have KB := hide hb2
      clear hi2 hz2 hs2 hb2
      have L5 : Hid (LSt 33 w5 L1 h2 rb d2 fs.length x 0 (Value.slice x0 tk.length y0).ownBlock xs x0 tk.length y0 (fcells tk) w5.drew) :=
        (LSt.init RW5.out.ho HX.out.e0 (owns_lower HX.out.r0.1 hBx.out)).only ((Only.refl g w5).drewN 1) (by omega) (by omega)
      have HSB : Hid ((Value.slice x0 tk.length y0).ownBlock ≠ some sb) := fun q => by have := HX.out.r0.2 _ q; have := hBs.out; omega
      go_wp2_with fail
      refine beginA (S := XS h2 qb rb d2 fs.length sb [.slice b0 ts.length d0, .slice b1 gl.length d1, .slice (some ⟨rb, 0, none⟩) fs.length d2] xs) 15 (by kernel_rfl) ⟨Q5.out.q, RW5.out.ho, V5.out⟩ (fun hHeld => ?_)
      refine takeA (i := 0) (v := ?v0n12) rfl (by kernel_rfl) (by kernel_rfl) (by kernel_rfl) (fun _ _ _ h => h) (by kernel_rfl) (by kernel_rfl) (by assumption) ?y0n12 ?r0n12
      case y0n12 => (intro w hSw; have sq := hSw.q.cell (o := 2) rfl; have sx := hSw.cell (j := x * 6) (by omega) HX.out.e0; have sv0 := hSw.sv.cell (o := 0) rfl; have sv1 := hSw.sv.cell (o := 1) rfl; have sv2 := hSw.sv.cell (o := 2) rfl; clear hSw; go_simp; try with_reducible rfl)
      (try simp only [Act.put, List.setIfInBounds_toArray, List.set_cons_zero, List.set_cons_succ])
      refine takeA (i := 1) (v := ?v1n13) rfl (by kernel_rfl) (by kernel_rfl) (by kernel_rfl) (fun _ _ _ h => h) (by kernel_rfl) (by kernel_rfl) (by assumption) ?y1n13 ?r1n13
      case y1n13 => (intro w hSw; have sq := hSw.q.cell (o := 2) rfl; have sx := hSw.cell (j := x * 6) (by omega) HX.out.e0; have sv0 := hSw.sv.cell (o := 0) rfl; have sv1 := hSw.sv.cell (o := 1) rfl; have sv2 := hSw.sv.cell (o := 2) rfl; clear hSw; go_simp; try with_reducible rfl)
      (try simp only [Act.put, List.setIfInBounds_toArray, List.set_cons_zero, List.set_cons_succ])
      refine takeA (i := 2) (v := ?v2n14) rfl (by kernel_rfl) (by kernel_rfl) (by kernel_rfl) (fun _ _ _ h => h) (by kernel_rfl) (by kernel_rfl) (by assumption) ?y2n14 ?r2n14
      case y2n14 => (intro w hSw; have sq := hSw.q.cell (o := 2) rfl; have sx := hSw.cell (j := x * 6) (by omega) HX.out.e0; have sv0 := hSw.sv.cell (o := 0) rfl; have sv1 := hSw.sv.cell (o := 1) rfl; have sv2 := hSw.sv.cell (o := 2) rfl; clear hSw; go_simp; try with_reducible rfl)
      (try simp only [Act.put, List.setIfInBounds_toArray, List.set_cons_zero, List.set_cons_succ])
      refine takeA (i := 3) (v := ?v3n15) rfl (by kernel_rfl) (by kernel_rfl) (by kernel_rfl) (fun _ _ _ h => h) (by kernel_rfl) (by kernel_rfl) (by assumption) ?y3n15 ?r3n15
      case y3n15 => (intro w hSw; have sq := hSw.q.cell (o := 2) rfl; have sx := hSw.cell (j := x * 6) (by omega) HX.out.e0; have sv0 := hSw.sv.cell (o := 0) rfl; have sv1 := hSw.sv.cell (o := 1) rfl; have sv2 := hSw.sv.cell (o := 2) rfl; clear hSw; go_simp; try with_reducible rfl)
      (try simp only [Act.put, List.setIfInBounds_toArray, List.set_cons_zero, List.set_cons_succ])
      refine takeA (i := 4) (v := ?v4n16) rfl (by kernel_rfl) (by kernel_rfl) (by kernel_rfl) (fun _ _ _ h => h) (by kernel_rfl) (by kernel_rfl) (by assumption) ?y4n16 ?r4n16
      case y4n16 => (intro w hSw; have sq := hSw.q.cell (o := 2) rfl; have sx := hSw.cell (j := x * 6) (by omega) HX.out.e0; have sv0 := hSw.sv.cell (o := 0) rfl; have sv1 := hSw.sv.cell (o := 1) rfl; have sv2 := hSw.sv.cell (o := 2) rfl; clear hSw; go_simp; try with_reducible rfl)
      (try simp only [Act.put, List.setIfInBounds_toArray, List.set_cons_zero, List.set_cons_succ])
      refine takeA (i := 5) (v := ?v5n17) rfl (by kernel_rfl) (by kernel_rfl) (by kernel_rfl) (fun _ _ _ h => h) (by kernel_rfl) (by kernel_rfl) (by assumption) ?y5n17 ?r5n17
      case y5n17 => (intro w hSw; have sq := hSw.q.cell (o := 2) rfl; have sx := hSw.cell (j := x * 6) (by omega) HX.out.e0; have sv0 := hSw.sv.cell (o := 0) rfl; have sv1 := hSw.sv.cell (o := 1) rfl; have sv2 := hSw.sv.cell (o := 2) rfl; clear hSw; go_simp; try with_reducible rfl)
      (try simp only [Act.put, List.setIfInBounds_toArray, List.set_cons_zero, List.set_cons_succ])
      refine takeA (i := 6) (v := ?v6n18) rfl (by kernel_rfl) (by kernel_rfl) (by kernel_rfl) (fun _ _ _ h => h) (by kernel_rfl) (by kernel_rfl) (by assumption) ?y6n18 ?r6n18
      case y6n18 => (intro w hSw; have sq := hSw.q.cell (o := 2) rfl; have sx := hSw.cell (j := x * 6) (by omega) HX.out.e0; have sv0 := hSw.sv.cell (o := 0) rfl; have sv1 := hSw.sv.cell (o := 1) rfl; have sv2 := hSw.sv.cell (o := 2) rfl; clear hSw; go_simp; try with_reducible rfl)
      (try simp only [Act.put, List.setIfInBounds_toArray, List.set_cons_zero, List.set_cons_succ])
      refine takeA (i := 7) (v := ?v7n19) rfl (by kernel_rfl) (by kernel_rfl) (by kernel_rfl) (fun _ _ _ h => h) (by kernel_rfl) (by kernel_rfl) (by assumption) ?y7n19 ?r7n19
      case y7n19 => (intro w hSw; have sq := hSw.q.cell (o := 2) rfl; have sx := hSw.cell (j := x * 6) (by omega) HX.out.e0; have sv0 := hSw.sv.cell (o := 0) rfl; have sv1 := hSw.sv.cell (o := 1) rfl; have sv2 := hSw.sv.cell (o := 2) rfl; clear hSw; go_simp; try with_reducible rfl)
      (try simp only [Act.put, List.setIfInBounds_toArray, List.set_cons_zero, List.set_cons_succ])
      refine takeA (i := 8) (v := ?v8n20) rfl (by kernel_rfl) (by kernel_rfl) (by kernel_rfl) (fun _ _ _ h => h) (by kernel_rfl) (by kernel_rfl) (by assumption) ?y8n20 ?r8n20
      case y8n20 => (intro w hSw; have sq := hSw.q.cell (o := 2) rfl; have sx := hSw.cell (j := x * 6) (by omega) HX.out.e0; have sv0 := hSw.sv.cell (o := 0) rfl; have sv1 := hSw.sv.cell (o := 1) rfl; have sv2 := hSw.sv.cell (o := 2) rfl; clear hSw; go_simp; try with_reducible rfl)
      (try simp only [Act.put, List.setIfInBounds_toArray, List.set_cons_zero, List.set_cons_succ])
      refine takeA (i := 9) (v := ?v9n21) rfl (by kernel_rfl) (by kernel_rfl) (by kernel_rfl) (fun _ _ _ h => h) (by kernel_rfl) (by kernel_rfl) (by assumption) ?y9n21 ?r9n21
      case y9n21 => (intro w hSw; have sq := hSw.q.cell (o := 2) rfl; have sx := hSw.cell (j := x * 6) (by omega) HX.out.e0; have sv0 := hSw.sv.cell (o := 0) rfl; have sv1 := hSw.sv.cell (o := 1) rfl; have sv2 := hSw.sv.cell (o := 2) rfl; clear hSw; go_simp; try with_reducible rfl)
      (try simp only [Act.put, List.setIfInBounds_toArray, List.set_cons_zero, List.set_cons_succ])
      refine takeA (i := 10) (v := ?v10n22) rfl (by kernel_rfl) (by kernel_rfl) (by kernel_rfl) (fun _ _ _ h => h) (by kernel_rfl) (by kernel_rfl) (by assumption) ?y10n22 ?r10n22
      case y10n22 => (intro w hSw; have sq := hSw.q.cell (o := 2) rfl; have sx := hSw.cell (j := x * 6) (by omega) HX.out.e0; have sv0 := hSw.sv.cell (o := 0) rfl; have sv1 := hSw.sv.cell (o := 1) rfl; have sv2 := hSw.sv.cell (o := 2) rfl; clear hSw; go_simp; try with_reducible rfl)
      (try simp only [Act.put, List.setIfInBounds_toArray, List.set_cons_zero, List.set_cons_succ])
      refine readyA (rs := [11]) (by kernel_rfl) (by simp) ?_
      refine AllL.cons rfl (fun K hK => ?_) ?_
      · go_simp
        refine hK.out _ _ (hHeld.below ((Below.refl _ _).alloc (Nat.le_refl _) _)) (fun hHeld => ?_)
        clear hK K
        (try simp only [Act.put, List.setIfInBounds_toArray, List.set_cons_zero, List.set_cons_succ])
        refine readyA (rs := [12]) (by kernel_rfl) (by simp) ?_
        refine AllL.cons rfl (fun K hK => ?_) ?_
        · have LA := hide (L5.out.only ((Only.refl g w5.drew).alloc (.cells #[.int .i64 3, .int .i64 (-1), .bool false, .int .i64 3, .int .i64 (-1), .bool false] 33)) (by omega) (by omega))
          refine step_append_lies _ (by rfl) _ _ 24 (by rfl) h2 33 i2 _ 3 24 Tryz.underlying24 KI.out KZ.out KS.out KB.out (by rfl) (by decide) (.slice x0 tk.length y0) tk.length (fcells tk) (by rfl) LA.out.bd ⟨w5.heap.size, 0, none⟩ 2 2 [.int .i64 3, .int .i64 (-1), .bool false, .int .i64 3, .int .i64 (-1), .bool false] (by rfl) rfl (World.news_of_block (Deep.blk_alloc_new _ _)) (by intro u hu; simp at hu; rcases hu with rfl | rfl | rfl | rfl | rfl | rfl <;> rfl) (by decide) (by unfold maxLen; omega) (by omega) (by simp; omega) _ rfl ?_
          intro gB cap6 w6 hown6 hgr6 hat6 hlt6
          refine hK.out _ _ (hHeld.grown LA.out.bd hgr6 (by decide) (by decide) HSB.out) (fun hHeld => ?_)
          clear hK K
          (try simp only [Act.put, List.setIfInBounds_toArray, List.set_cons_zero, List.set_cons_succ])
          refine readyA (rs := [13]) (by kernel_rfl) (by simp) ?_
          refine AllL.cons rfl (fun K hK => ?_) ?_
          · have hSw := hHeld
            have sq := hSw.q.cell (o := 2) rfl; have sx := hSw.cell (j := x * 6) (by omega) HX.out.e0; have sv0 := hSw.sv.cell (o := 0) rfl; have sv1 := hSw.sv.cell (o := 1) rfl; have sv2 := hSw.sv.cell (o := 2) rfl; clear hSw
            go_simp
            refine hK.out _ _ hHeld (fun hHeld => ?_)
            clear hK K
            (try simp only [Act.put, List.setIfInBounds_toArray, List.set_cons_zero, List.set_cons_succ])
            refine takeA (i := 14) (v := ?v14n23) rfl (by kernel_rfl) (by kernel_rfl) (by kernel_rfl) (fun _ _ _ h => h) (by kernel_rfl) (by kernel_rfl) (by assumption) ?y14n23 ?r14n23
            case y14n23 => (intro w hSw; have sq := hSw.q.cell (o := 2) rfl; have sx := hSw.cell (j := x * 6) (by omega) HX.out.e0; have sv0 := hSw.sv.cell (o := 0) rfl; have sv1 := hSw.sv.cell (o := 1) rfl; have sv2 := hSw.sv.cell (o := 2) rfl; clear hSw; go_simp; try with_reducible rfl)
            (try simp only [Act.put, List.setIfInBounds_toArray, List.set_cons_zero, List.set_cons_succ])
            refine readyA (rs := [15]) (by kernel_rfl) (by simp) ?_
            refine AllL.last rfl (fun K hK => ?_)
            have d4 := hHeld.cell (j := x * 6) (by omega) HX.out.e0
            have d4f := hHeld.ro.frozenAt (x * 6)
            go_simp
            refine hK.out _ _ ?_
            clear hK K
            (try simp only [Act.put, List.setIfInBounds_toArray, List.set_cons_zero, List.set_cons_succ])
            refine doneA (by kernel_rfl) ?_ _
            have e1 : (tk ++ [(⟨3, -1, false⟩ : Fd), ⟨3, -1, false⟩]).length = tk.length + 2 := by simp
            have LP : LSt 33 w5 L1 h2 rb d2 fs.length x 0 (Value.slice x0 tk.length y0).ownBlock xs (some ⟨gB, 0, none⟩) (tk ++ [(⟨3, -1, false⟩ : Fd), ⟨3, -1, false⟩]).length cap6 (fcells (tk ++ [(⟨3, -1, false⟩ : Fd), ⟨3, -1, false⟩])) (w6.setCell ⟨rb, x * 6, none⟩ (.slice (some ⟨gB, 0, none⟩) (tk.length + 2) cap6)) := by
              have := LA.out.push (by decide) hown6 hgr6 hat6
              rw [e1, fcells_two]
              exact this
            have QFIN : QFin L1 qb (w6.setCell ⟨rb, x * 6, none⟩ (.slice (some ⟨gB, 0, none⟩) (tk.length + 2) cap6)) := LP.fin Q5.out HQB.out RW5.out (by omega) xn (fun k hk => ⟨owns_base HX.out.r0.1 k hk, HX.out.r0.2 k hk⟩) ((hHeld.q.other hqr _ _).trans (show Rec w5 qb _ _ from Q5.out.q).symm) (LSt.takes HX.out RW5.out.ho LP xn hBx.out (by omega)) (by refine ⟨?_, ?_, ?_⟩ <;> simp [FieldsB, InssB] <;> omega)
            clear LP
            clear d4 d4f hHeld
            go_upto_region 29 with fail
            obtain ⟨QQ, e0, e1, e2, f0, f1, f2, hq9, hG9, hF9, hU9, hQB9, hle9, hlf9⟩ := QFIN
            clear q0 q1 q2
            have q0 := hq9.cell (o := 0) rfl
            have q1 := hq9.cell (o := 1) rfl
            have q2 := hq9.cell (o := 2) rfl
            have z0 := (((Z5d.out.alloc (.cells #[.int .i64 3, .int .i64 (-1), .bool false, .int .i64 3, .int .i64 (-1), .bool false] 33)).grown hgr6 (fun e => by have := owns_base LA.out.bd _ e.symm; omega)).other (show w.heap.size + 1 ≠ rb by omega) (x * 6) (.slice (some ⟨gB, 0, none⟩) (tk.length + 2) cap6)).cell (o := 0) rfl
            have z1 := (((Z5d.out.alloc (.cells #[.int .i64 3, .int .i64 (-1), .bool false, .int .i64 3, .int .i64 (-1), .bool false] 33)).grown hgr6 (fun e => by have := owns_base LA.out.bd _ e.symm; omega)).other (show w.heap.size + 1 ≠ rb by omega) (x * 6) (.slice (some ⟨gB, 0, none⟩) (tk.length + 2) cap6)).cell (o := 1) rfl
            have z2 := (((Z5d.out.alloc (.cells #[.int .i64 3, .int .i64 (-1), .bool false, .int .i64 3, .int .i64 (-1), .bool false] 33)).grown hgr6 (fun e => by have := owns_base LA.out.bd _ e.symm; omega)).other (show w.heap.size + 1 ≠ rb by omega) (x * 6) (.slice (some ⟨gB, 0, none⟩) (tk.length + 2) cap6)).cell (o := 2) rfl
            have zf0 := (((Z5d.out.alloc (.cells #[.int .i64 3, .int .i64 (-1), .bool false, .int .i64 3, .int .i64 (-1), .bool false] 33)).grown hgr6 (fun e => by have := owns_base LA.out.bd _ e.symm; omega)).other (show w.heap.size + 1 ≠ rb by omega) (x * 6) (.slice (some ⟨gB, 0, none⟩) (tk.length + 2) cap6)).frozen 0
            have zf1 := (((Z5d.out.alloc (.cells #[.int .i64 3, .int .i64 (-1), .bool false, .int .i64 3, .int .i64 (-1), .bool false] 33)).grown hgr6 (fun e => by have := owns_base LA.out.bd _ e.symm; omega)).other (show w.heap.size + 1 ≠ rb by omega) (x * 6) (.slice (some ⟨gB, 0, none⟩) (tk.length + 2) cap6)).frozen 1
            have zf2 := (((Z5d.out.alloc (.cells #[.int .i64 3, .int .i64 (-1), .bool false, .int .i64 3, .int .i64 (-1), .bool false] 33)).grown hgr6 (fun e => by have := owns_base LA.out.bd _ e.symm; omega)).other (show w.heap.size + 1 ≠ rb by omega) (x * 6) (.slice (some ⟨gB, 0, none⟩) (tk.length + 2) cap6)).frozen 2
            have HG9 := hide hG9
            have HF9 := hide hF9
            have HU9 := hide hU9
            have HQB9 := hide hQB9
            have HR9 := hide (((R5d.out.alloc (.cells #[.int .i64 3, .int .i64 (-1), .bool false, .int .i64 3, .int .i64 (-1), .bool false] 33)).keep' ((Below.refl (g + 1) _).grown hgr6 (by simp; omega) (fun q hq => by have := owns_base LA.out.bd q hq; omega))).set (b := rb) (by omega) (x * 6) (.slice (some ⟨gB, 0, none⟩) (tk.length + 2) cap6))
            have HO9 := hide (((O5d.out.alloc (.cells #[.int .i64 3, .int .i64 (-1), .bool false, .int .i64 3, .int .i64 (-1), .bool false] 33)).grown hgr6 (fun q hq => by have := owns_base LA.out.bd q hq; omega)).set (b := rb) (by omega) (x * 6) (.slice (some ⟨gB, 0, none⟩) (tk.length + 2) cap6))
            have HL9 := hide ((((Z5d.out.alloc (.cells #[.int .i64 3, .int .i64 (-1), .bool false, .int .i64 3, .int .i64 (-1), .bool false] 33)).grown hgr6 (fun e => by have := owns_base LA.out.bd _ e.symm; omega)).other (show w.heap.size + 1 ≠ rb by omega) (x * 6) (.slice (some ⟨gB, 0, none⟩) (tk.length + 2) cap6)).lt)
            have HL8 := hide (hq9.lt)
            clear hG9 hF9 hU9 hQB9 hq9
            generalize hW9 : (w6.setCell ⟨rb, x * 6, none⟩ (.slice (some ⟨gB, 0, none⟩) (tk.length + 2) cap6)) = W9 at *
            clear hW9
            go_wp2_with fail
            have sm9 : Same L1 W9.heap.size W9 (((W9.setCell ⟨w.heap.size + 1, 0, none⟩ (.slice e0 QQ.types.length f0)).setCell ⟨w.heap.size + 1, 1, none⟩ (.slice e1 QQ.glob.length f1)).setCell ⟨w.heap.size + 1, 2, none⟩ (.slice e2 QQ.funs.length f2)) := (((Same.refl _ _ _).set (.inl (by omega)) _ _).set (.inl (by omega)) _ _).set (.inl (by omega)) _ _
            refine bodyPost_ret (v := .agg #[.slice e0 QQ.types.length f0, .slice e1 QQ.glob.length f1, .slice e2 QQ.funs.length f2]) (by simp [results, Tryz.results52, go_sem, *]) rfl ⟨QQ, e0, e1, e2, f0, f1, f2, rfl, ?_, ?_, ?_, HQB9.out, hle9, hlf9, ⟨p + 1 + 1, by omega, ((HR9.out.set (by omega) _ _).set (by omega) _ _).set (by omega) _ _⟩, ((HO9.out.set (by omega) _ _).set (by omega) _ _).set (by omega) _ _⟩
            · exact HG9.out.same sm9 (by omega) (by simp)
            · exact HF9.out.same sm9 (by omega) (by simp)
            · exact HU9.out.same sm9 (by omega) (by simp)
          exact AllL.nil
        exact AllL.nil
      exact AllL.nil
    · obtain ⟨x0, x4, x5, y0, y4, y5, hX⟩ := FunX.of (RW5.out.hfv x xn)
      have sm3 := HSm.out x xn
      generalize funAt' fs x = fx at hX sm3
      obtain ⟨tk, ⟨gk, go, gm⟩, ow, bd⟩ := fx
      obtain ⟨tl3, ol3, bl1, bl6⟩ := sm3
      simp only at tl3 ol3 bl1 bl6
      have HX := hide hX
      clear hX
      have k3 := Q5.out.l3
      have k2 := Q5.out.l2
      have k1 := Q5.out.l1
      have xi0 : (0 : Int) ≤ (x : Int) := by omega
      have xi1 : (x : Int) < (fs.length : Int) := by omega
      have rb2 : h2 ≤ rb := owns_base RW5.out.ho rb rfl
      have rlt : rb < w5.heap.size := owns_lt RW5.out.ho rb rfl
      have hBx : Hid (h2 ≤ B x) := Nat.le_trans RW5.out.hS (mono_le' RW5.out.hB (Nat.zero_le _))
      have hBs : Hid (B (x + 1) ≤ sb) := Nat.le_trans (mono_le' RW5.out.hB (by omega)) HBsb.out
      have hqr : qb ≠ rb := by
        obtain ⟨c, h5⟩ := owns_kind RW5.out.ho (k := rb) rfl
        exact kind_ne Q5.out.q h5 (by decide)
      have R5d : Hid (Rd w5.drew g (p + 1 + 1)) := R5.out
      have O5d : Hid (Only g w w5.drew) := O5.out.drewN 1
      have Z5d : Hid (Rec w5.drew (w.heap.size + 1) 27 [.slice none 0 0, .slice none 0 0, .slice none 0 0]) := Z5.out
      have d5 : w5.cell? ⟨rb, x * 6 + 5, none⟩ = some (.slice x5 bd.length y5) := (RW5.out.ho.cellAt _ (by omega)).trans HX.out.e5
      have d5f := RW5.out.ho.frozenAt (x * 6 + 5)
      have LF := LSt.fresh (e := 59) (lo := L1) (x := x) (o := 5) (Value.slice x5 bd.length y5).ownBlock RW5.out.ho (by decide) (by omega)
      have QFIN : QFin L1 qb ((w5.alloc (.cells #[] 59)).setCell ⟨rb, x * 6 + 5, none⟩ (.slice (some ⟨w5.heap.size, 0, none⟩) 0 0)) := LF.fin Q5.out HQB.out RW5.out (by omega) xn (fun k hk => ⟨owns_base HX.out.r5.1 k hk, HX.out.r5.2 k hk⟩) (((Q5.out.q.alloc _).other hqr _ _).trans (show Rec w5 qb _ _ from Q5.out.q).symm) (LSt.body (bs := []) HX.out RW5.out.ho LF xn hBx.out (by omega)) (by refine ⟨?_, ?_, ?_⟩ <;> simp [FieldsB, InssB] <;> omega)
      clear LF
      go_upto_region 29 with fail
      rw [← World.setCell_alloc_past (.cells #[] 59) rb (x * 6 + 5) _ rlt]
      obtain ⟨QQ, e0, e1, e2, f0, f1, f2, hq9, hG9, hF9, hU9, hQB9, hle9, hlf9⟩ := QFIN
      clear q0 q1 q2
      have q0 := hq9.cell (o := 0) rfl
      have q1 := hq9.cell (o := 1) rfl
      have q2 := hq9.cell (o := 2) rfl
      have z0 := ((Z5.out.alloc (.cells #[] 59)).other (show w.heap.size + 1 ≠ rb by omega) (x * 6 + 5) (.slice (some ⟨w5.heap.size, 0, none⟩) 0 0)).cell (o := 0) rfl
      have z1 := ((Z5.out.alloc (.cells #[] 59)).other (show w.heap.size + 1 ≠ rb by omega) (x * 6 + 5) (.slice (some ⟨w5.heap.size, 0, none⟩) 0 0)).cell (o := 1) rfl
      have z2 := ((Z5.out.alloc (.cells #[] 59)).other (show w.heap.size + 1 ≠ rb by omega) (x * 6 + 5) (.slice (some ⟨w5.heap.size, 0, none⟩) 0 0)).cell (o := 2) rfl
      have zf0 := ((Z5.out.alloc (.cells #[] 59)).other (show w.heap.size + 1 ≠ rb by omega) (x * 6 + 5) (.slice (some ⟨w5.heap.size, 0, none⟩) 0 0)).frozen 0
      have zf1 := ((Z5.out.alloc (.cells #[] 59)).other (show w.heap.size + 1 ≠ rb by omega) (x * 6 + 5) (.slice (some ⟨w5.heap.size, 0, none⟩) 0 0)).frozen 1
      have zf2 := ((Z5.out.alloc (.cells #[] 59)).other (show w.heap.size + 1 ≠ rb by omega) (x * 6 + 5) (.slice (some ⟨w5.heap.size, 0, none⟩) 0 0)).frozen 2
      have HG9 := hide hG9
      have HF9 := hide hF9
      have HU9 := hide hU9
      have HQB9 := hide hQB9
      have HR9 := hide ((R5.out.alloc (.cells #[] 59)).set (b := rb) (by omega) (x * 6 + 5) (.slice (some ⟨w5.heap.size, 0, none⟩) 0 0))
      have HO9 := hide ((O5.out.alloc (.cells #[] 59)).set (b := rb) (by omega) (x * 6 + 5) (.slice (some ⟨w5.heap.size, 0, none⟩) 0 0))
      have HL9 := hide (((Z5.out.alloc (.cells #[] 59)).other (show w.heap.size + 1 ≠ rb by omega) (x * 6 + 5) (.slice (some ⟨w5.heap.size, 0, none⟩) 0 0)).lt)
      have HL8 := hide (hq9.lt)
      clear hG9 hF9 hU9 hQB9 hq9
      generalize hW9 : ((w5.alloc (.cells #[] 59)).setCell ⟨rb, x * 6 + 5, none⟩ (.slice (some ⟨w5.heap.size, 0, none⟩) 0 0)) = W9 at *
      clear hW9
      go_wp2_with fail
      have sm9 : Same L1 W9.heap.size W9 (((W9.setCell ⟨w.heap.size + 1, 0, none⟩ (.slice e0 QQ.types.length f0)).setCell ⟨w.heap.size + 1, 1, none⟩ (.slice e1 QQ.glob.length f1)).setCell ⟨w.heap.size + 1, 2, none⟩ (.slice e2 QQ.funs.length f2)) := (((Same.refl _ _ _).set (.inl (by omega)) _ _).set (.inl (by omega)) _ _).set (.inl (by omega)) _ _
      refine bodyPost_ret (v := .agg #[.slice e0 QQ.types.length f0, .slice e1 QQ.glob.length f1, .slice e2 QQ.funs.length f2]) (by simp [results, Tryz.results52, go_sem, *]) rfl ⟨QQ, e0, e1, e2, f0, f1, f2, rfl, ?_, ?_, ?_, HQB9.out, hle9, hlf9, ⟨p + 1 + 1, by omega, ((HR9.out.set (by omega) _ _).set (by omega) _ _).set (by omega) _ _⟩, ((HO9.out.set (by omega) _ _).set (by omega) _ _).set (by omega) _ _⟩
      · exact HG9.out.same sm9 (by omega) (by simp)
      · exact HF9.out.same sm9 (by omega) (by simp)
      · exact HU9.out.same sm9 (by omega) (by simp)
    · obtain ⟨x0, x4, x5, y0, y4, y5, hX⟩ := FunX.of (RW5.out.hfv x xn)
      have sm3 := HSm.out x xn
      generalize funAt' fs x = fx at hX sm3
      obtain ⟨tk, ⟨gk, go, gm⟩, ow, bd⟩ := fx
      obtain ⟨tl3, ol3, bl1, bl6⟩ := sm3
      simp only at tl3 ol3 bl1 bl6
      have HX := hide hX
      clear hX
      have k3 := Q5.out.l3
      have k2 := Q5.out.l2
      have k1 := Q5.out.l1
      have xi0 : (0 : Int) ≤ (x : Int) := by omega
      have xi1 : (x : Int) < (fs.length : Int) := by omega
      have rb2 : h2 ≤ rb := owns_base RW5.out.ho rb rfl
      have rlt : rb < w5.heap.size := owns_lt RW5.out.ho rb rfl
      have hBx : Hid (h2 ≤ B x) := Nat.le_trans RW5.out.hS (mono_le' RW5.out.hB (Nat.zero_le _))
      have hBs : Hid (B (x + 1) ≤ sb) := Nat.le_trans (mono_le' RW5.out.hB (by omega)) HBsb.out
      have hqr : qb ≠ rb := by
        obtain ⟨c, h5⟩ := owns_kind RW5.out.ho (k := rb) rfl
        exact kind_ne Q5.out.q h5 (by decide)
      have R5d : Hid (Rd w5.drew g (p + 1 + 1)) := R5.out
      have O5d : Hid (Only g w w5.drew) := O5.out.drewN 1
      have Z5d : Hid (Rec w5.drew (w.heap.size + 1) 27 [.slice none 0 0, .slice none 0 0, .slice none 0 0]) := Z5.out
      obtain ⟨i2, hi2, hzz⟩ := Option.map_eq_some_iff.1 Tryz.infoIns
      simp only [Prod.mk.injEq] at hzz
      obtain ⟨hz2, hs2, hb2⟩ := hzz
      have KI := hide hi2
      have KZ := hide hz2
      have KS := hide hs2
      have KB := hide hb2
      clear hi2 hz2 hs2 hb2
      have L5 : Hid (LSt 59 w5 L1 h2 rb d2 fs.length x 5 (Value.slice x5 bd.length y5).ownBlock xs x5 bd.length y5 (icells bd) w5.drew) :=
        (LSt.init RW5.out.ho HX.out.e5 (owns_lower HX.out.r5.1 hBx.out)).only ((Only.refl g w5).drewN 1) (by omega) (by omega)
      have HSB : Hid ((Value.slice x5 bd.length y5).ownBlock ≠ some sb) := fun q => by have := HX.out.r5.2 _ q; have := hBs.out; omega
      go_wp2_with fail
      refine beginA (S := XS h2 qb rb d2 fs.length sb [.slice b0 ts.length d0, .slice b1 gl.length d1, .slice (some ⟨rb, 0, none⟩) fs.length d2] xs) 15 (by kernel_rfl) ⟨Q5.out.q, RW5.out.ho, V5.out⟩ (fun hHeld => ?_)
      refine takeA (i := 0) (v := ?v0n24) rfl (by kernel_rfl) (by kernel_rfl) (by kernel_rfl) (fun _ _ _ h => h) (by kernel_rfl) (by kernel_rfl) (by assumption) ?y0n24 ?r0n24
      case y0n24 => (intro w hSw; have sq := hSw.q.cell (o := 2) rfl; have sx := hSw.cell (j := x * 6 + 5) (by omega) HX.out.e5; have sv0 := hSw.sv.cell (o := 0) rfl; have sv1 := hSw.sv.cell (o := 1) rfl; have sv2 := hSw.sv.cell (o := 2) rfl; clear hSw; go_simp; try with_reducible rfl)
      (try simp only [Act.put, List.setIfInBounds_toArray, List.set_cons_zero, List.set_cons_succ])
      refine takeA (i := 1) (v := ?v1n25) rfl (by kernel_rfl) (by kernel_rfl) (by kernel_rfl) (fun _ _ _ h => h) (by kernel_rfl) (by kernel_rfl) (by assumption) ?y1n25 ?r1n25
      case y1n25 => (intro w hSw; have sq := hSw.q.cell (o := 2) rfl; have sx := hSw.cell (j := x * 6 + 5) (by omega) HX.out.e5; have sv0 := hSw.sv.cell (o := 0) rfl; have sv1 := hSw.sv.cell (o := 1) rfl; have sv2 := hSw.sv.cell (o := 2) rfl; clear hSw; go_simp; try with_reducible rfl)
      (try simp only [Act.put, List.setIfInBounds_toArray, List.set_cons_zero, List.set_cons_succ])
      refine takeA (i := 2) (v := ?v2n26) rfl (by kernel_rfl) (by kernel_rfl) (by kernel_rfl) (fun _ _ _ h => h) (by kernel_rfl) (by kernel_rfl) (by assumption) ?y2n26 ?r2n26
      case y2n26 => (intro w hSw; have sq := hSw.q.cell (o := 2) rfl; have sx := hSw.cell (j := x * 6 + 5) (by omega) HX.out.e5; have sv0 := hSw.sv.cell (o := 0) rfl; have sv1 := hSw.sv.cell (o := 1) rfl; have sv2 := hSw.sv.cell (o := 2) rfl; clear hSw; go_simp; try with_reducible rfl)
      (try simp only [Act.put, List.setIfInBounds_toArray, List.set_cons_zero, List.set_cons_succ])
      refine takeA (i := 3) (v := ?v3n27) rfl (by kernel_rfl) (by kernel_rfl) (by kernel_rfl) (fun _ _ _ h => h) (by kernel_rfl) (by kernel_rfl) (by assumption) ?y3n27 ?r3n27
      case y3n27 => (intro w hSw; have sq := hSw.q.cell (o := 2) rfl; have sx := hSw.cell (j := x * 6 + 5) (by omega) HX.out.e5; have sv0 := hSw.sv.cell (o := 0) rfl; have sv1 := hSw.sv.cell (o := 1) rfl; have sv2 := hSw.sv.cell (o := 2) rfl; clear hSw; go_simp; try with_reducible rfl)
      (try simp only [Act.put, List.setIfInBounds_toArray, List.set_cons_zero, List.set_cons_succ])
      refine takeA (i := 4) (v := ?v4n28) rfl (by kernel_rfl) (by kernel_rfl) (by kernel_rfl) (fun _ _ _ h => h) (by kernel_rfl) (by kernel_rfl) (by assumption) ?y4n28 ?r4n28
      case y4n28 => (intro w hSw; have sq := hSw.q.cell (o := 2) rfl; have sx := hSw.cell (j := x * 6 + 5) (by omega) HX.out.e5; have sv0 := hSw.sv.cell (o := 0) rfl; have sv1 := hSw.sv.cell (o := 1) rfl; have sv2 := hSw.sv.cell (o := 2) rfl; clear hSw; go_simp; try with_reducible rfl)
      (try simp only [Act.put, List.setIfInBounds_toArray, List.set_cons_zero, List.set_cons_succ])
      refine takeA (i := 5) (v := ?v5n29) rfl (by kernel_rfl) (by kernel_rfl) (by kernel_rfl) (fun _ _ _ h => h) (by kernel_rfl) (by kernel_rfl) (by assumption) ?y5n29 ?r5n29
      case y5n29 => (intro w hSw; have sq := hSw.q.cell (o := 2) rfl; have sx := hSw.cell (j := x * 6 + 5) (by omega) HX.out.e5; have sv0 := hSw.sv.cell (o := 0) rfl; have sv1 := hSw.sv.cell (o := 1) rfl; have sv2 := hSw.sv.cell (o := 2) rfl; clear hSw; go_simp; try with_reducible rfl)
      (try simp only [Act.put, List.setIfInBounds_toArray, List.set_cons_zero, List.set_cons_succ])
      refine takeA (i := 6) (v := ?v6n30) rfl (by kernel_rfl) (by kernel_rfl) (by kernel_rfl) (fun _ _ _ h => h) (by kernel_rfl) (by kernel_rfl) (by assumption) ?y6n30 ?r6n30
      case y6n30 => (intro w hSw; have sq := hSw.q.cell (o := 2) rfl; have sx := hSw.cell (j := x * 6 + 5) (by omega) HX.out.e5; have sv0 := hSw.sv.cell (o := 0) rfl; have sv1 := hSw.sv.cell (o := 1) rfl; have sv2 := hSw.sv.cell (o := 2) rfl; clear hSw; go_simp; try with_reducible rfl)
      (try simp only [Act.put, List.setIfInBounds_toArray, List.set_cons_zero, List.set_cons_succ])
      refine takeA (i := 7) (v := ?v7n31) rfl (by kernel_rfl) (by kernel_rfl) (by kernel_rfl) (fun _ _ _ h => h) (by kernel_rfl) (by kernel_rfl) (by assumption) ?y7n31 ?r7n31
      case y7n31 => (intro w hSw; have sq := hSw.q.cell (o := 2) rfl; have sx := hSw.cell (j := x * 6 + 5) (by omega) HX.out.e5; have sv0 := hSw.sv.cell (o := 0) rfl; have sv1 := hSw.sv.cell (o := 1) rfl; have sv2 := hSw.sv.cell (o := 2) rfl; clear hSw; go_simp; try with_reducible rfl)
      (try simp only [Act.put, List.setIfInBounds_toArray, List.set_cons_zero, List.set_cons_succ])
      refine takeA (i := 8) (v := ?v8n32) rfl (by kernel_rfl) (by kernel_rfl) (by kernel_rfl) (fun _ _ _ h => h) (by kernel_rfl) (by kernel_rfl) (by assumption) ?y8n32 ?r8n32
      case y8n32 => (intro w hSw; have sq := hSw.q.cell (o := 2) rfl; have sx := hSw.cell (j := x * 6 + 5) (by omega) HX.out.e5; have sv0 := hSw.sv.cell (o := 0) rfl; have sv1 := hSw.sv.cell (o := 1) rfl; have sv2 := hSw.sv.cell (o := 2) rfl; clear hSw; go_simp; try with_reducible rfl)
      (try simp only [Act.put, List.setIfInBounds_toArray, List.set_cons_zero, List.set_cons_succ])
      refine takeA (i := 9) (v := ?v9n33) rfl (by kernel_rfl) (by kernel_rfl) (by kernel_rfl) (fun _ _ _ h => h) (by kernel_rfl) (by kernel_rfl) (by assumption) ?y9n33 ?r9n33
      case y9n33 => (intro w hSw; have sq := hSw.q.cell (o := 2) rfl; have sx := hSw.cell (j := x * 6 + 5) (by omega) HX.out.e5; have sv0 := hSw.sv.cell (o := 0) rfl; have sv1 := hSw.sv.cell (o := 1) rfl; have sv2 := hSw.sv.cell (o := 2) rfl; clear hSw; go_simp; try with_reducible rfl)
      (try simp only [Act.put, List.setIfInBounds_toArray, List.set_cons_zero, List.set_cons_succ])
      refine readyA (rs := [10]) (by kernel_rfl) (by simp) ?_
      refine AllL.cons rfl (fun K hK => ?_) ?_
      · go_simp
        go_at_call 86
        refine (l2Bent_any g (p + 1 + 1) _ (by omega) R5d.out).mono ?_
        rintro e w7 ⟨io, ix, iy, rfl, p7, hp7, r7, o7⟩
        have L7 := hide (L5.out.only o7 (by omega) (by omega))
        have R7 := hide r7
        have O7 := hide (O5d.out.trans o7)
        have Z7 := hide (Z5d.out.only o7 (by omega))
        have s7 : w5.heap.size ≤ w7.heap.size := o7.size
        have HH := hHeld.only o7 (by omega) (by omega) (by omega)
        clear o7 r7
        go_simp
        refine hK.out _ _ HH (fun hHeld => ?_)
        clear hK K HH
        (try simp only [Act.put, List.setIfInBounds_toArray, List.set_cons_zero, List.set_cons_succ])
        refine readyA (rs := [11]) (by kernel_rfl) (by simp) ?_
        refine AllL.cons rfl (fun K hK => ?_) ?_
        · go_simp
          refine hK.out _ _ (hHeld.below ((Below.refl _ _).alloc (Nat.le_refl _) _)) (fun hHeld => ?_)
          clear hK K
          (try simp only [Act.put, List.setIfInBounds_toArray, List.set_cons_zero, List.set_cons_succ])
          refine readyA (rs := [12]) (by kernel_rfl) (by simp) ?_
          refine AllL.cons rfl (fun K hK => ?_) ?_
          · have LA := hide (L7.out.only ((Only.refl g w7).alloc (.cells #[.int .i64 io, .int .i64 ix, .int .i64 iy] 59)) (by omega) (by omega))
            refine step_append_lies _ (by rfl) _ _ 34 (by rfl) h2 59 i2 _ 3 24 Tryz.underlying34 KI.out KZ.out KS.out KB.out (by rfl) (by decide) (.slice x5 bd.length y5) bd.length (icells bd) (by rfl) LA.out.bd ⟨w7.heap.size, 0, none⟩ 1 1 [.int .i64 io, .int .i64 ix, .int .i64 iy] (by rfl) rfl (World.news_of_block (Deep.blk_alloc_new _ _)) (by intro u hu; simp at hu; rcases hu with rfl | rfl | rfl <;> rfl) (by decide) (by unfold maxLen; omega) (by omega) (by simp; omega) _ rfl ?_
            intro gB cap6 w6 hown6 hgr6 hat6 hlt6
            refine hK.out _ _ (hHeld.grown LA.out.bd hgr6 (by decide) (by decide) HSB.out) (fun hHeld => ?_)
            clear hK K
            (try simp only [Act.put, List.setIfInBounds_toArray, List.set_cons_zero, List.set_cons_succ])
            refine readyA (rs := [13]) (by kernel_rfl) (by simp) ?_
            refine AllL.cons rfl (fun K hK => ?_) ?_
            · have hSw := hHeld
              have sq := hSw.q.cell (o := 2) rfl; have sx := hSw.cell (j := x * 6 + 5) (by omega) HX.out.e5; have sv0 := hSw.sv.cell (o := 0) rfl; have sv1 := hSw.sv.cell (o := 1) rfl; have sv2 := hSw.sv.cell (o := 2) rfl; clear hSw
              go_simp
              refine hK.out _ _ hHeld (fun hHeld => ?_)
              clear hK K
              (try simp only [Act.put, List.setIfInBounds_toArray, List.set_cons_zero, List.set_cons_succ])
              refine takeA (i := 14) (v := ?v14n34) rfl (by kernel_rfl) (by kernel_rfl) (by kernel_rfl) (fun _ _ _ h => h) (by kernel_rfl) (by kernel_rfl) (by assumption) ?y14n34 ?r14n34
              case y14n34 => (intro w hSw; have sq := hSw.q.cell (o := 2) rfl; have sx := hSw.cell (j := x * 6 + 5) (by omega) HX.out.e5; have sv0 := hSw.sv.cell (o := 0) rfl; have sv1 := hSw.sv.cell (o := 1) rfl; have sv2 := hSw.sv.cell (o := 2) rfl; clear hSw; go_simp; try with_reducible rfl)
              (try simp only [Act.put, List.setIfInBounds_toArray, List.set_cons_zero, List.set_cons_succ])
              refine readyA (rs := [15]) (by kernel_rfl) (by simp) ?_
              refine AllL.last rfl (fun K hK => ?_)
              have d4 := hHeld.cell (j := x * 6 + 5) (by omega) HX.out.e5
              have d4f := hHeld.ro.frozenAt (x * 6 + 5)
              go_simp
              refine hK.out _ _ ?_
              clear hK K
              (try simp only [Act.put, List.setIfInBounds_toArray, List.set_cons_zero, List.set_cons_succ])
              refine doneA (by kernel_rfl) ?_ _
              have e1 : (bd ++ [(⟨io, ix, iy⟩ : GIns)]).length = bd.length + 1 := by simp
              have LP : LSt 59 w5 L1 h2 rb d2 fs.length x 5 (Value.slice x5 bd.length y5).ownBlock xs (some ⟨gB, 0, none⟩) (bd ++ [(⟨io, ix, iy⟩ : GIns)]).length cap6 (icells (bd ++ [(⟨io, ix, iy⟩ : GIns)])) (w6.setCell ⟨rb, x * 6 + 5, none⟩ (.slice (some ⟨gB, 0, none⟩) (bd.length + 1) cap6)) := by
                have := LA.out.push (by decide) hown6 hgr6 hat6
                rw [e1, icells_snoc]
                exact this
              have QFIN : QFin L1 qb (w6.setCell ⟨rb, x * 6 + 5, none⟩ (.slice (some ⟨gB, 0, none⟩) (bd.length + 1) cap6)) := LP.fin Q5.out HQB.out RW5.out (by omega) xn (fun k hk => ⟨owns_base HX.out.r5.1 k hk, HX.out.r5.2 k hk⟩) ((hHeld.q.other hqr _ _).trans (show Rec w5 qb _ _ from Q5.out.q).symm) (LSt.body HX.out RW5.out.ho LP xn hBx.out (by omega)) (by refine ⟨?_, ?_, ?_⟩ <;> simp [FieldsB, InssB] <;> omega)
              clear LP
              clear d4 d4f hHeld
              go_upto_region 29 with fail
              obtain ⟨QQ, e0, e1, e2, f0, f1, f2, hq9, hG9, hF9, hU9, hQB9, hle9, hlf9⟩ := QFIN
              clear q0 q1 q2
              have q0 := hq9.cell (o := 0) rfl
              have q1 := hq9.cell (o := 1) rfl
              have q2 := hq9.cell (o := 2) rfl
              have z0 := (((Z7.out.alloc (.cells #[.int .i64 io, .int .i64 ix, .int .i64 iy] 59)).grown hgr6 (fun e => by have := owns_base LA.out.bd _ e.symm; omega)).other (show w.heap.size + 1 ≠ rb by omega) (x * 6 + 5) (.slice (some ⟨gB, 0, none⟩) (bd.length + 1) cap6)).cell (o := 0) rfl
              have z1 := (((Z7.out.alloc (.cells #[.int .i64 io, .int .i64 ix, .int .i64 iy] 59)).grown hgr6 (fun e => by have := owns_base LA.out.bd _ e.symm; omega)).other (show w.heap.size + 1 ≠ rb by omega) (x * 6 + 5) (.slice (some ⟨gB, 0, none⟩) (bd.length + 1) cap6)).cell (o := 1) rfl
              have z2 := (((Z7.out.alloc (.cells #[.int .i64 io, .int .i64 ix, .int .i64 iy] 59)).grown hgr6 (fun e => by have := owns_base LA.out.bd _ e.symm; omega)).other (show w.heap.size + 1 ≠ rb by omega) (x * 6 + 5) (.slice (some ⟨gB, 0, none⟩) (bd.length + 1) cap6)).cell (o := 2) rfl
              have zf0 := (((Z7.out.alloc (.cells #[.int .i64 io, .int .i64 ix, .int .i64 iy] 59)).grown hgr6 (fun e => by have := owns_base LA.out.bd _ e.symm; omega)).other (show w.heap.size + 1 ≠ rb by omega) (x * 6 + 5) (.slice (some ⟨gB, 0, none⟩) (bd.length + 1) cap6)).frozen 0
              have zf1 := (((Z7.out.alloc (.cells #[.int .i64 io, .int .i64 ix, .int .i64 iy] 59)).grown hgr6 (fun e => by have := owns_base LA.out.bd _ e.symm; omega)).other (show w.heap.size + 1 ≠ rb by omega) (x * 6 + 5) (.slice (some ⟨gB, 0, none⟩) (bd.length + 1) cap6)).frozen 1
              have zf2 := (((Z7.out.alloc (.cells #[.int .i64 io, .int .i64 ix, .int .i64 iy] 59)).grown hgr6 (fun e => by have := owns_base LA.out.bd _ e.symm; omega)).other (show w.heap.size + 1 ≠ rb by omega) (x * 6 + 5) (.slice (some ⟨gB, 0, none⟩) (bd.length + 1) cap6)).frozen 2
              have HG9 := hide hG9
              have HF9 := hide hF9
              have HU9 := hide hU9
              have HQB9 := hide hQB9
              have HR9 := hide (((R7.out.alloc (.cells #[.int .i64 io, .int .i64 ix, .int .i64 iy] 59)).keep' ((Below.refl (g + 1) _).grown hgr6 (by simp; omega) (fun q hq => by have := owns_base LA.out.bd q hq; omega))).set (b := rb) (by omega) (x * 6 + 5) (.slice (some ⟨gB, 0, none⟩) (bd.length + 1) cap6))
              have HO9 := hide (((O7.out.alloc (.cells #[.int .i64 io, .int .i64 ix, .int .i64 iy] 59)).grown hgr6 (fun q hq => by have := owns_base LA.out.bd q hq; omega)).set (b := rb) (by omega) (x * 6 + 5) (.slice (some ⟨gB, 0, none⟩) (bd.length + 1) cap6))
              have HL9 := hide ((((Z7.out.alloc (.cells #[.int .i64 io, .int .i64 ix, .int .i64 iy] 59)).grown hgr6 (fun e => by have := owns_base LA.out.bd _ e.symm; omega)).other (show w.heap.size + 1 ≠ rb by omega) (x * 6 + 5) (.slice (some ⟨gB, 0, none⟩) (bd.length + 1) cap6)).lt)
              have HL8 := hide (hq9.lt)
              clear hG9 hF9 hU9 hQB9 hq9
              generalize hW9 : (w6.setCell ⟨rb, x * 6 + 5, none⟩ (.slice (some ⟨gB, 0, none⟩) (bd.length + 1) cap6)) = W9 at *
              clear hW9
              go_wp2_with fail
              have sm9 : Same L1 W9.heap.size W9 (((W9.setCell ⟨w.heap.size + 1, 0, none⟩ (.slice e0 QQ.types.length f0)).setCell ⟨w.heap.size + 1, 1, none⟩ (.slice e1 QQ.glob.length f1)).setCell ⟨w.heap.size + 1, 2, none⟩ (.slice e2 QQ.funs.length f2)) := (((Same.refl _ _ _).set (.inl (by omega)) _ _).set (.inl (by omega)) _ _).set (.inl (by omega)) _ _
              refine bodyPost_ret (v := .agg #[.slice e0 QQ.types.length f0, .slice e1 QQ.glob.length f1, .slice e2 QQ.funs.length f2]) (by simp [results, Tryz.results52, go_sem, *]) rfl ⟨QQ, e0, e1, e2, f0, f1, f2, rfl, ?_, ?_, ?_, HQB9.out, hle9, hlf9, ⟨p7, by omega, ((HR9.out.set (by omega) _ _).set (by omega) _ _).set (by omega) _ _⟩, ((HO9.out.set (by omega) _ _).set (by omega) _ _).set (by omega) _ _⟩
              · exact HG9.out.same sm9 (by omega) (by simp)
              · exact HF9.out.same sm9 (by omega) (by simp)
              · exact HU9.out.same sm9 (by omega) (by simp)
            exact AllL.nil
          exact AllL.nil
        exact AllL.nil
      exact AllL.nil
    · obtain ⟨x0, x4, x5, y0, y4, y5, hX⟩ := FunX.of (RW5.out.hfv x xn)
      have sm3 := HSm.out x xn
      generalize funAt' fs x = fx at hX sm3
      obtain ⟨tk, ⟨gk, go, gm⟩, ow, bd⟩ := fx
      obtain ⟨tl3, ol3, bl1, bl6⟩ := sm3
      simp only at tl3 ol3 bl1 bl6
      have HX := hide hX
      clear hX
      have k3 := Q5.out.l3
      have k2 := Q5.out.l2
      have k1 := Q5.out.l1
      have xi0 : (0 : Int) ≤ (x : Int) := by omega
      have xi1 : (x : Int) < (fs.length : Int) := by omega
      have rb2 : h2 ≤ rb := owns_base RW5.out.ho rb rfl
      have rlt : rb < w5.heap.size := owns_lt RW5.out.ho rb rfl
      have hBx : Hid (h2 ≤ B x) := Nat.le_trans RW5.out.hS (mono_le' RW5.out.hB (Nat.zero_le _))
      have hBs : Hid (B (x + 1) ≤ sb) := Nat.le_trans (mono_le' RW5.out.hB (by omega)) HBsb.out
      have hqr : qb ≠ rb := by
        obtain ⟨c, h5⟩ := owns_kind RW5.out.ho (k := rb) rfl
        exact kind_ne Q5.out.q h5 (by decide)
      have R5d : Hid (Rd w5.drew g (p + 1 + 1)) := R5.out
      have O5d : Hid (Only g w w5.drew) := O5.out.drewN 1
      have Z5d : Hid (Rec w5.drew (w.heap.size + 1) 27 [.slice none 0 0, .slice none 0 0, .slice none 0 0]) := Z5.out
      obtain ⟨i2, hi2, hzz⟩ := Option.map_eq_some_iff.1 Tryz.infoFun
      simp only [Prod.mk.injEq] at hzz
      obtain ⟨hz2, hs2, hb2⟩ := hzz
      have KI := hide hi2
      have KZ := hide hz2
      have KS := hide hs2
      have KB := hide hb2
      clear hi2 hz2 hs2 hb2
      have Q5q : Hid (Rec w5 qb 27 [.slice b0 ts.length d0, .slice b1 gl.length d1, .slice (some ⟨rb, 0, none⟩) fs.length d2]) := Q5.out.q
      have S5 : Hid (RSt w5 L1 h2 qb rb fs.length x xs (.slice (some ⟨rb, 0, none⟩) fs.length d2) 0 xs w5) := RSt.init RW5.out.ho
      clear q0 q1 q2 qf0 qf1 qf2 v0 v1 v2
      go_wp2_with fail
      go_loopw [142] (fun u wr => ∃ (k N cv : Nat) (a2 : Option Addr) (ys : List Value) (pq : Nat), Hid (N = fs.length + k) ∧ Hid (RSt w5 L1 h2 qb rb fs.length x xs (.slice a2 N cv) k ys wr) ∧ fs.length ≤ N ∧ N ≤ 7 ∧ Hid (Rd wr g pq) ∧ pq ≤ p + 2 + k ∧ k ≤ 7 ∧ Hid (Only g w wr) ∧ Hid (Rec wr qb 27 [.slice b0 ts.length d0, .slice b1 gl.length d1, .slice a2 N cv]) ∧ Hid (Rec wr (w.heap.size + 1) 27 [.slice none 0 0, .slice none 0 0, .slice none 0 0])) (fun u wr => 40 - lenAt wr qb 2)
      case atStart => exact ⟨0, fs.length, d2, some ⟨rb, 0, none⟩, xs, p + 1 + 1, rfl, S5, Nat.le_refl _, by omega, R5, by omega, by omega, O5, Q5q, Z5⟩
      case round =>
        obtain ⟨k, N, cv, a2, ys, pq, HN, HL, hNl, hN7, HR, hpq, hk7, HO, HQ, HZ⟩ := hrel
        clear S5 R5d O5d Z5d
        have sq := HQ.out.cell (o := 2) rfl
        have wsz := HL.out.hsz
        go_wp2_with fail
        go_region_held3 (fun w' => w'.cell? ⟨qb, 2, none⟩ = some (.slice a2 N cv)) (go_keep) ((go_at_call 32; refine (pick_only g pq 2 _ (by omega) (by exact HR.out)).mono ?_; rintro e w7 ⟨m7, rfl, _, l7, u7, r7, o7, s7⟩; have u7' := u7 (by omega); have e7 : IntKind.i64.wrap (5 + m7) = 5 + m7 := wrap_sp (by omega) (by omega); have t1 := (Only.cell (w := wr.drew) o7 (b := qb) (o := 2) (by omega) HQ.out.lt).trans sq))
        have L7 := hide ((HL.out.only ((Only.refl g wr).drewN 1) (by omega) (by omega)).only o7 (by omega) (by omega))
        have Q7 := hide (Rec.only (w := wr.drew) HQ.out o7 (by omega))
        have Z7 := hide (Rec.only (w := wr.drew) HZ.out o7 (by omega))
        have O7 := hide (Only.trans (b := wr.drew) (HO.out.drewN 1) o7)
        have R7 := hide r7
        have s7' : wr.heap.size ≤ w7.heap.size := o7.size
        have M2 := hide (lenAt_eq sq)
        clear o7 r7 u7 s7 sq HQ HZ HO HR
        by_cases hlt : (N : Int) < 5 + m7
        · have ro7 : w7.ownsRow h2 36 6 (.slice a2 N cv) N ys := by have := L7.out.ro; rw [← HN.out] at this; exact this
          obtain ⟨r1, rfl, hr1, hr1l, hcl⟩ : ∃ r1, a2 = some ⟨r1, 0, none⟩ ∧ h2 ≤ r1 ∧ r1 < w7.heap.size ∧ ∀ j, j < N * 6 → w7.cell? ⟨r1, j, none⟩ = ys[j]? := by
            rcases owns_cells ro7 with h0 | h0
            · omega
            · exact h0
          obtain ⟨jx, hjx, hj1, _, hyx⟩ := L7.out.yx x (by omega)
          have hjx2 := hj1 xn
          subst hjx2
          have f0 : w7.cell? ⟨r1, jx * 6, none⟩ = some (.slice x0 tk.length y0) := ((hcl _ (by omega)).trans (hyx 0 (by omega))).trans HX.out.e0
          have f1 : w7.cell? ⟨r1, jx * 6 + 1, none⟩ = some (.int .i64 gk) := ((hcl _ (by omega)).trans (hyx 1 (by omega))).trans HX.out.e1
          have f2 : w7.cell? ⟨r1, jx * 6 + 2, none⟩ = some (.int .i64 go) := ((hcl _ (by omega)).trans (hyx 2 (by omega))).trans HX.out.e2
          have f3 : w7.cell? ⟨r1, jx * 6 + 3, none⟩ = some (.bool gm) := ((hcl _ (by omega)).trans (hyx 3 (by omega))).trans HX.out.e3
          have f4 : w7.cell? ⟨r1, jx * 6 + 4, none⟩ = some (.slice x4 ow.length y4) := ((hcl _ (by omega)).trans (hyx 4 (by omega))).trans HX.out.e4
          have f5 : w7.cell? ⟨r1, jx * 6 + 5, none⟩ = some (.slice x5 bd.length y5) := ((hcl _ (by omega)).trans (hyx 5 (by omega))).trans HX.out.e5
          have sq := Q7.out.cell (o := 2) rfl
          have qlt7 := Q7.out.lt
          have xiN : (jx : Int) < (N : Int) := by omega
          have RA : Hid ((w7.drew.alloc (.cells #[.slice x0 tk.length y0, .int .i64 gk, .int .i64 go, .bool gm, .slice x4 ow.length y4, .slice x5 bd.length y5] 36)).ownsRow h2 36 6 (.slice (some ⟨r1, 0, none⟩) N cv) N ys) := World.ownsRow.alloc (w := w7.drew) ro7 _
          have QA := hide ((show Rec w7.drew _ _ _ from Q7.out).alloc (.cells #[.slice x0 tk.length y0, .int .i64 gk, .int .i64 go, .bool gm, .slice x4 ow.length y4, .slice x5 bd.length y5] 36))
          have LA := hide ((L7.out.only ((Only.refl g w7).drewN 1) (by omega) (by omega)).only ((Only.refl g w7.drew).alloc (.cells #[.slice x0 tk.length y0, .int .i64 gk, .int .i64 go, .bool gm, .slice x4 ow.length y4, .slice x5 bd.length y5] 36)) (by omega) (by omega))
          clear hcl hyx ro7 hj1
          go_wp2_with fail
          go_region_law ((first
            | (refine step_append_lies _ (by rfl) _ _ 25 (by rfl) h2 36 i2 _ 6 96 Tryz.underlying25 KI.out KZ.out KS.out KB.out (by rfl) (by decide) (.slice (some ⟨r1, 0, none⟩) N cv) N ys (by rfl) RA.out ⟨w7.heap.size, 0, none⟩ 1 1 [.slice x0 tk.length y0, .int .i64 gk, .int .i64 go, .bool gm, .slice x4 ow.length y4, .slice x5 bd.length y5] (by rfl) rfl (World.news_of_block (Deep.blk_alloc_new _ _)) (by intro u hu; simp at hu; rcases hu with rfl | rfl | rfl | rfl | rfl | rfl <;> rfl) (by decide) (by unfold maxLen; omega) (by omega) (by simp; omega) _ rfl ?_; intro gB cap6 w6 hown6 hgr6 hat6 hlt6; have Q6 := hide (QA.out.grown hgr6 (fun e => prog_type_ne QA.out RA.out e)); have d2' := Q6.out.cell (o := 2) rfl; have d2f := Q6.out.frozen 2)))
          all_goals
            have LP : Hid (RSt w5 L1 h2 qb rb fs.length jx xs (.slice (some ⟨gB, 0, none⟩) (N + 1) cap6) (k + 1) (ys ++ [.slice x0 tk.length y0, .int .i64 gk, .int .i64 go, .bool gm, .slice x4 ow.length y4, .slice x5 bd.length y5]) (w6.setCell ⟨qb, 2, none⟩ (.slice (some ⟨gB, 0, none⟩) (N + 1) cap6))) := by
              have hN := HN.out
              have L7' := LA.out
              clear HN
              subst hN
              exact L7'.push xn QA.out hown6 hgr6 hat6 (fun t ht => by
                have ht' : t = 0 ∨ t = 1 ∨ t = 2 ∨ t = 3 ∨ t = 4 ∨ t = 5 := by omega
                rcases ht' with rfl | rfl | rfl | rfl | rfl | rfl
                · exact HX.out.e0.symm
                · exact HX.out.e1.symm
                · exact HX.out.e2.symm
                · exact HX.out.e3.symm
                · exact HX.out.e4.symm
                · exact HX.out.e5.symm)
            have QP := hide (Q6.out.set 2 (.slice (some ⟨gB, 0, none⟩) (N + 1) cap6))
            have RP := hide (((R7.out.drew'.alloc (.cells #[.slice x0 tk.length y0, .int .i64 gk, .int .i64 go, .bool gm, .slice x4 ow.length y4, .slice x5 bd.length y5] 36)).keep' ((Below.refl (g + 1) _).grown hgr6 (by simp; omega) (fun q hq => by have := owns_base RA.out q hq; omega))).set (b := qb) (by omega) 2 (.slice (some ⟨gB, 0, none⟩) (N + 1) cap6))
            have OP := hide ((((O7.out.drewN 1).alloc (.cells #[.slice x0 tk.length y0, .int .i64 gk, .int .i64 go, .bool gm, .slice x4 ow.length y4, .slice x5 bd.length y5] 36)).grown hgr6 (fun q hq => by have := owns_base RA.out q hq; omega)).set (b := qb) (by omega) 2 (.slice (some ⟨gB, 0, none⟩) (N + 1) cap6))
            have ZP := hide ((((show Rec w7.drew _ _ _ from Z7.out).alloc (.cells #[.slice x0 tk.length y0, .int .i64 gk, .int .i64 go, .bool gm, .slice x4 ow.length y4, .slice x5 bd.length y5] 36)).grown hgr6 (fun e => by have := owns_base RA.out _ e.symm; omega)).other (show w.heap.size + 1 ≠ qb by omega) 2 (.slice (some ⟨gB, 0, none⟩) (N + 1) cap6))
            have M1 := hide (lenAt_eq (QP.out.cell (o := 2) rfl))
            clear d2' d2f hown6 hgr6 hat6 hlt6 LA Q6 f0 f1 f2 f3 f4 f5 sq
            go_wp2_with fail
            exact ⟨⟨k + 1, N + 1, cap6, some ⟨gB, 0, none⟩, ys ++ [.slice x0 tk.length y0, .int .i64 gk, .int .i64 go, .bool gm, .slice x4 ow.length y4, .slice x5 bd.length y5], pq + 1, (by show N + 1 = _; have := HN.out; omega), LP, by omega, by omega, RP, by omega, by have := HN.out; omega, OP, QP, ZP⟩, by rw [M1.out, M2.out]; omega⟩
        · have hlt' : decide ((N : Int) < 5 + m7) = false := by simpa using hlt
          have QFIN : QFin L1 qb w7 := by
            have hN := HN.out
            have L7' := L7.out
            have Q7' := Q7.out
            clear HN HL t1 M2
            subst hN
            exact RSt.fin Q5.out HQB.out RW5.out L7' xn (by show fs.length + k ≤ 1000; omega) Q7'
          clear t1
          rename (w7.cell? _ = _) => hh0
          clear hh0
          have q0 := Q7.out.cell (o := 0) rfl
          have q1 := Q7.out.cell (o := 1) rfl
          have q2 := Q7.out.cell (o := 2) rfl
          go_upto_region 29 with fail
          obtain ⟨QQ, e0, e1, e2, f0, f1, f2, hq9, hG9, hF9, hU9, hQB9, hle9, hlf9⟩ := QFIN
          clear q0 q1 q2
          have q0 := hq9.cell (o := 0) rfl
          have q1 := hq9.cell (o := 1) rfl
          have q2 := hq9.cell (o := 2) rfl
          have z0 := Z7.out.cell (o := 0) rfl
          have z1 := Z7.out.cell (o := 1) rfl
          have z2 := Z7.out.cell (o := 2) rfl
          have zf0 := Z7.out.frozen 0
          have zf1 := Z7.out.frozen 1
          have zf2 := Z7.out.frozen 2
          have HG9 := hide hG9
          have HF9 := hide hF9
          have HU9 := hide hU9
          have HQB9 := hide hQB9
          have HR9 := hide R7.out
          have HO9 := hide O7.out
          have HL9 := hide (Z7.out.lt)
          have HL8 := hide (hq9.lt)
          clear hG9 hF9 hU9 hQB9 hq9
          go_wp2_with fail
          have sm9 : Same L1 w7.heap.size w7 (((w7.setCell ⟨w.heap.size + 1, 0, none⟩ (.slice e0 QQ.types.length f0)).setCell ⟨w.heap.size + 1, 1, none⟩ (.slice e1 QQ.glob.length f1)).setCell ⟨w.heap.size + 1, 2, none⟩ (.slice e2 QQ.funs.length f2)) := (((Same.refl _ _ _).set (.inl (by omega)) _ _).set (.inl (by omega)) _ _).set (.inl (by omega)) _ _
          refine bodyPost_ret (v := .agg #[.slice e0 QQ.types.length f0, .slice e1 QQ.glob.length f1, .slice e2 QQ.funs.length f2]) (by simp [results, Tryz.results52, go_sem, *]) rfl ⟨QQ, e0, e1, e2, f0, f1, f2, rfl, ?_, ?_, ?_, HQB9.out, hle9, hlf9, ⟨pq + 1, by omega, ((HR9.out.set (by omega) _ _).set (by omega) _ _).set (by omega) _ _⟩, ((HO9.out.set (by omega) _ _).set (by omega) _ _).set (by omega) _ _⟩
          · exact HG9.out.same sm9 (by omega) (by simp)
          · exact HF9.out.same sm9 (by omega) (by simp)
          · exact HU9.out.same sm9 (by omega) (by simp)
    · obtain ⟨x0, x4, x5, y0, y4, y5, hX⟩ := FunX.of (RW5.out.hfv x xn)
      have sm3 := HSm.out x xn
      generalize funAt' fs x = fx at hX sm3
      obtain ⟨tk, ⟨gk, go, gm⟩, ow, bd⟩ := fx
      obtain ⟨tl3, ol3, bl1, bl6⟩ := sm3
      simp only at tl3 ol3 bl1 bl6
      have HX := hide hX
      clear hX
      have k3 := Q5.out.l3
      have k2 := Q5.out.l2
      have k1 := Q5.out.l1
      have xi0 : (0 : Int) ≤ (x : Int) := by omega
      have xi1 : (x : Int) < (fs.length : Int) := by omega
      have rb2 : h2 ≤ rb := owns_base RW5.out.ho rb rfl
      have rlt : rb < w5.heap.size := owns_lt RW5.out.ho rb rfl
      have hBx : Hid (h2 ≤ B x) := Nat.le_trans RW5.out.hS (mono_le' RW5.out.hB (Nat.zero_le _))
      have hBs : Hid (B (x + 1) ≤ sb) := Nat.le_trans (mono_le' RW5.out.hB (by omega)) HBsb.out
      have hqr : qb ≠ rb := by
        obtain ⟨c, h5⟩ := owns_kind RW5.out.ho (k := rb) rfl
        exact kind_ne Q5.out.q h5 (by decide)
      have R5d : Hid (Rd w5.drew g (p + 1 + 1)) := R5.out
      have O5d : Hid (Only g w w5.drew) := O5.out.drewN 1
      have Z5d : Hid (Rec w5.drew (w.heap.size + 1) 27 [.slice none 0 0, .slice none 0 0, .slice none 0 0]) := Z5.out
      obtain ⟨i2, hi2, hzz⟩ := Option.map_eq_some_iff.1 Tryz.infoIns
      simp only [Prod.mk.injEq] at hzz
      obtain ⟨hz2, hs2, hb2⟩ := hzz
      have KI := hide hi2
      have KZ := hide hz2
      have KS := hide hs2
      have KB := hide hb2
      clear hi2 hz2 hs2 hb2
      have L5 : Hid (LSt 59 w5 L1 h2 rb d2 fs.length x 5 (Value.slice x5 bd.length y5).ownBlock xs x5 bd.length y5 (icells bd) w5) := LSt.init RW5.out.ho HX.out.e5 (owns_lower HX.out.r5.1 hBx.out)
      have Q5q : Hid (Rec w5 qb 27 [.slice b0 ts.length d0, .slice b1 gl.length d1, .slice (some ⟨rb, 0, none⟩) fs.length d2]) := Q5.out.q
      clear q0 q1 q2 qf0 qf1 qf2 v0 v1 v2
      go_wp2_with fail
      go_loopw [29] (fun u wr => ∃ (bs : List GIns) (ba : Option Addr) (bc pq : Nat), Hid (LSt 59 w5 L1 h2 rb d2 fs.length x 5 (Value.slice x5 bd.length y5).ownBlock xs ba bs.length bc (icells bs) wr) ∧ bs.length ≤ 31 ∧ Hid (Rd wr g pq) ∧ pq ≤ p + 2 + bs.length ∧ Hid (Only g w wr) ∧ Hid (Rec wr qb 27 [.slice b0 ts.length d0, .slice b1 gl.length d1, .slice (some ⟨rb, 0, none⟩) fs.length d2]) ∧ Hid (Rec wr (w.heap.size + 1) 27 [.slice none 0 0, .slice none 0 0, .slice none 0 0])) (fun u wr => 40 - lenAt wr rb (x * 6 + 5))
      case atStart => exact ⟨bd, x5, y5, p + 1 + 1, L5, by omega, R5, by omega, O5, Q5q, Z5⟩
      case round =>
        obtain ⟨bs, ba, bc, pq, HL, hbs, HR, hpq, HO, HQ, HZ⟩ := hrel
        clear L5 R5d O5d Z5d
        have sq := HQ.out.cell (o := 2) rfl
        have sx := HL.out.cellO xn (show 5 < 6 by omega)
        have wsz := HL.out.hsz
        go_wp2_with fail
        go_region_held3 (fun w' => w'.cell? ⟨qb, 2, none⟩ = some (.slice (some ⟨rb, 0, none⟩) fs.length d2) ∧ w'.cell? ⟨rb, x * 6 + 5, none⟩ = some (.slice ba bs.length bc)) (go_keep) ((go_at_call 32; refine (pick_only g pq 2 _ (by omega) (by exact HR.out)).mono ?_; rintro e w7 ⟨m7, rfl, _, l7, u7, r7, o7, s7⟩; have u7' := u7 (by omega); have e7 : IntKind.i64.wrap (30 + m7) = 30 + m7 := wrap_sp (by omega) (by omega); have t1 := (Only.cell (w := wr.drew) o7 (b := qb) (o := 2) (by omega) HQ.out.lt).trans sq; have t2 := (Only.cell (w := wr.drew) o7 (b := rb) (o := x * 6 + 5) (by omega) (Nat.lt_of_lt_of_le rlt wsz)).trans sx))
        have L7 := hide ((HL.out.only ((Only.refl g wr).drewN 1) (by omega) (by omega)).only o7 (by omega) (by omega))
        have Q7 := hide (Rec.only (w := wr.drew) HQ.out o7 (by omega))
        have Z7 := hide (Rec.only (w := wr.drew) HZ.out o7 (by omega))
        have O7 := hide (Only.trans (b := wr.drew) (HO.out.drewN 1) o7)
        have R7 := hide r7
        have s7' : wr.heap.size ≤ w7.heap.size := o7.size
        have SX : Hid ((xs.set (x * 6 + 5) (.slice ba bs.length bc))[x * 6 + 5]? = some (.slice ba bs.length bc)) := by
          have hl := RW5.out.ho.1
          exact List.getElem?_set_self (by omega)
        clear o7 r7 u7 s7 sq sx HQ HZ HO HR
        by_cases hlt : (bs.length : Int) < 30 + m7
        · go_wp2_with fail
          refine beginA (S := XS2 h2 qb rb d2 fs.length [.slice b0 ts.length d0, .slice b1 gl.length d1, .slice (some ⟨rb, 0, none⟩) fs.length d2] (xs.set (x * 6 + 5) (.slice ba bs.length bc))) 14 (by kernel_rfl) ⟨Q7.out, L7.out.ro⟩ (fun hHeld => ?_)
          refine takeA (i := 0) (v := ?v0n35) rfl (by kernel_rfl) (by kernel_rfl) (by kernel_rfl) (fun _ _ _ h => h) (by kernel_rfl) (by kernel_rfl) (by assumption) ?y0n35 ?r0n35
          case y0n35 => (intro w hSw; have sq := hSw.q.cell (o := 2) rfl; have sx := hSw.cell (j := x * 6 + 5) (by omega) SX.out; clear hSw; go_simp; try with_reducible rfl)
          (try simp only [Act.put, List.setIfInBounds_toArray, List.set_cons_zero, List.set_cons_succ])
          refine takeA (i := 1) (v := ?v1n36) rfl (by kernel_rfl) (by kernel_rfl) (by kernel_rfl) (fun _ _ _ h => h) (by kernel_rfl) (by kernel_rfl) (by assumption) ?y1n36 ?r1n36
          case y1n36 => (intro w hSw; have sq := hSw.q.cell (o := 2) rfl; have sx := hSw.cell (j := x * 6 + 5) (by omega) SX.out; clear hSw; go_simp; try with_reducible rfl)
          (try simp only [Act.put, List.setIfInBounds_toArray, List.set_cons_zero, List.set_cons_succ])
          refine takeA (i := 2) (v := ?v2n37) rfl (by kernel_rfl) (by kernel_rfl) (by kernel_rfl) (fun _ _ _ h => h) (by kernel_rfl) (by kernel_rfl) (by assumption) ?y2n37 ?r2n37
          case y2n37 => (intro w hSw; have sq := hSw.q.cell (o := 2) rfl; have sx := hSw.cell (j := x * 6 + 5) (by omega) SX.out; clear hSw; go_simp; try with_reducible rfl)
          (try simp only [Act.put, List.setIfInBounds_toArray, List.set_cons_zero, List.set_cons_succ])
          refine takeA (i := 3) (v := ?v3n38) rfl (by kernel_rfl) (by kernel_rfl) (by kernel_rfl) (fun _ _ _ h => h) (by kernel_rfl) (by kernel_rfl) (by assumption) ?y3n38 ?r3n38
          case y3n38 => (intro w hSw; have sq := hSw.q.cell (o := 2) rfl; have sx := hSw.cell (j := x * 6 + 5) (by omega) SX.out; clear hSw; go_simp; try with_reducible rfl)
          (try simp only [Act.put, List.setIfInBounds_toArray, List.set_cons_zero, List.set_cons_succ])
          refine takeA (i := 4) (v := ?v4n39) rfl (by kernel_rfl) (by kernel_rfl) (by kernel_rfl) (fun _ _ _ h => h) (by kernel_rfl) (by kernel_rfl) (by assumption) ?y4n39 ?r4n39
          case y4n39 => (intro w hSw; have sq := hSw.q.cell (o := 2) rfl; have sx := hSw.cell (j := x * 6 + 5) (by omega) SX.out; clear hSw; go_simp; try with_reducible rfl)
          (try simp only [Act.put, List.setIfInBounds_toArray, List.set_cons_zero, List.set_cons_succ])
          refine takeA (i := 5) (v := ?v5n40) rfl (by kernel_rfl) (by kernel_rfl) (by kernel_rfl) (fun _ _ _ h => h) (by kernel_rfl) (by kernel_rfl) (by assumption) ?y5n40 ?r5n40
          case y5n40 => (intro w hSw; have sq := hSw.q.cell (o := 2) rfl; have sx := hSw.cell (j := x * 6 + 5) (by omega) SX.out; clear hSw; go_simp; try with_reducible rfl)
          (try simp only [Act.put, List.setIfInBounds_toArray, List.set_cons_zero, List.set_cons_succ])
          refine takeA (i := 6) (v := ?v6n41) rfl (by kernel_rfl) (by kernel_rfl) (by kernel_rfl) (fun _ _ _ h => h) (by kernel_rfl) (by kernel_rfl) (by assumption) ?y6n41 ?r6n41
          case y6n41 => (intro w hSw; have sq := hSw.q.cell (o := 2) rfl; have sx := hSw.cell (j := x * 6 + 5) (by omega) SX.out; clear hSw; go_simp; try with_reducible rfl)
          (try simp only [Act.put, List.setIfInBounds_toArray, List.set_cons_zero, List.set_cons_succ])
          refine takeA (i := 7) (v := ?v7n42) rfl (by kernel_rfl) (by kernel_rfl) (by kernel_rfl) (fun _ _ _ h => h) (by kernel_rfl) (by kernel_rfl) (by assumption) ?y7n42 ?r7n42
          case y7n42 => (intro w hSw; have sq := hSw.q.cell (o := 2) rfl; have sx := hSw.cell (j := x * 6 + 5) (by omega) SX.out; clear hSw; go_simp; try with_reducible rfl)
          (try simp only [Act.put, List.setIfInBounds_toArray, List.set_cons_zero, List.set_cons_succ])
          refine takeA (i := 8) (v := ?v8n43) rfl (by kernel_rfl) (by kernel_rfl) (by kernel_rfl) (fun _ _ _ h => h) (by kernel_rfl) (by kernel_rfl) (by assumption) ?y8n43 ?r8n43
          case y8n43 => (intro w hSw; have sq := hSw.q.cell (o := 2) rfl; have sx := hSw.cell (j := x * 6 + 5) (by omega) SX.out; clear hSw; go_simp; try with_reducible rfl)
          (try simp only [Act.put, List.setIfInBounds_toArray, List.set_cons_zero, List.set_cons_succ])
          refine takeA (i := 9) (v := ?v9n44) rfl (by kernel_rfl) (by kernel_rfl) (by kernel_rfl) (fun _ _ _ h => h) (by kernel_rfl) (by kernel_rfl) (by assumption) ?y9n44 ?r9n44
          case y9n44 => (intro w hSw; have sq := hSw.q.cell (o := 2) rfl; have sx := hSw.cell (j := x * 6 + 5) (by omega) SX.out; clear hSw; go_simp; try with_reducible rfl)
          (try simp only [Act.put, List.setIfInBounds_toArray, List.set_cons_zero, List.set_cons_succ])
          refine readyA (rs := [10]) (by kernel_rfl) (by simp) ?_
          refine AllL.cons rfl (fun K hK => ?_) ?_
          · go_simp
            refine hK.out _ _ (hHeld.below ((Below.refl _ _).alloc (Nat.le_refl _) _)) (fun hHeld => ?_)
            clear hK K
            (try simp only [Act.put, List.setIfInBounds_toArray, List.set_cons_zero, List.set_cons_succ])
            refine readyA (rs := [11]) (by kernel_rfl) (by simp) ?_
            refine AllL.cons rfl (fun K hK => ?_) ?_
            · have LA := hide ((L7.out.only ((Only.refl g w7).drewN 1) (by omega) (by omega)).only ((Only.refl g w7.drew).alloc (.cells #[.int .i64 6, .int .i64 0, .int .i64 0] 59)) (by omega) (by omega))
              refine step_append_lies _ (by rfl) _ _ 34 (by rfl) h2 59 i2 _ 3 24 Tryz.underlying34 KI.out KZ.out KS.out KB.out (by rfl) (by decide) (.slice ba bs.length bc) bs.length (icells bs) (by rfl) LA.out.bd ⟨w7.heap.size, 0, none⟩ 1 1 [.int .i64 6, .int .i64 0, .int .i64 0] (by rfl) rfl (World.news_of_block (Deep.blk_alloc_new _ _)) (by intro u hu; simp at hu; rcases hu with rfl | rfl | rfl <;> rfl) (by decide) (by unfold maxLen; omega) (by omega) (by simp; omega) _ rfl ?_
              intro gB cap6 w6 hown6 hgr6 hat6 hlt6
              refine hK.out _ _ (hHeld.grown LA.out.bd hgr6 (by decide) (by decide)) (fun hHeld => ?_)
              clear hK K
              (try simp only [Act.put, List.setIfInBounds_toArray, List.set_cons_zero, List.set_cons_succ])
              refine readyA (rs := [12]) (by kernel_rfl) (by simp) ?_
              refine AllL.cons rfl (fun K hK => ?_) ?_
              · have hSw := hHeld
                have sq := hSw.q.cell (o := 2) rfl; have sx := hSw.cell (j := x * 6 + 5) (by omega) SX.out; clear hSw
                go_simp
                refine hK.out _ _ hHeld (fun hHeld => ?_)
                clear hK K
                (try simp only [Act.put, List.setIfInBounds_toArray, List.set_cons_zero, List.set_cons_succ])
                refine takeA (i := 13) (v := ?v13n45) rfl (by kernel_rfl) (by kernel_rfl) (by kernel_rfl) (fun _ _ _ h => h) (by kernel_rfl) (by kernel_rfl) (by assumption) ?y13n45 ?r13n45
                case y13n45 => (intro w hSw; have sq := hSw.q.cell (o := 2) rfl; have sx := hSw.cell (j := x * 6 + 5) (by omega) SX.out; clear hSw; go_simp; try with_reducible rfl)
                (try simp only [Act.put, List.setIfInBounds_toArray, List.set_cons_zero, List.set_cons_succ])
                refine readyA (rs := [14]) (by kernel_rfl) (by simp) ?_
                refine AllL.last rfl (fun K hK => ?_)
                have d4 := hHeld.cell (j := x * 6 + 5) (by omega) SX.out
                have d4f := hHeld.ro.frozenAt (x * 6 + 5)
                go_simp
                refine hK.out _ _ ?_
                clear hK K
                (try simp only [Act.put, List.setIfInBounds_toArray, List.set_cons_zero, List.set_cons_succ])
                refine doneA (by kernel_rfl) ?_ _
                have e1 : (bs ++ [(⟨6, 0, 0⟩ : GIns)]).length = bs.length + 1 := by simp
                have LP : Hid (LSt 59 w5 L1 h2 rb d2 fs.length x 5 (Value.slice x5 bd.length y5).ownBlock xs (some ⟨gB, 0, none⟩) (bs ++ [(⟨6, 0, 0⟩ : GIns)]).length cap6 (icells (bs ++ [(⟨6, 0, 0⟩ : GIns)])) (w6.setCell ⟨rb, x * 6 + 5, none⟩ (.slice (some ⟨gB, 0, none⟩) (bs.length + 1) cap6))) := by
                  have := LA.out.push (by decide) hown6 hgr6 hat6
                  unfold Hid
                  rw [e1, icells_snoc]
                  exact this
                have QP := hide (hHeld.q.other hqr (x * 6 + 5) (.slice (some ⟨gB, 0, none⟩) (bs.length + 1) cap6))
                have RP := hide (((R7.out.drew'.alloc (.cells #[.int .i64 6, .int .i64 0, .int .i64 0] 59)).keep' ((Below.refl (g + 1) _).grown hgr6 (by simp; omega) (fun q hq => by have := owns_base LA.out.bd q hq; omega))).set (b := rb) (by omega) (x * 6 + 5) (.slice (some ⟨gB, 0, none⟩) (bs.length + 1) cap6))
                have OP := hide ((((O7.out.drewN 1).alloc (.cells #[.int .i64 6, .int .i64 0, .int .i64 0] 59)).grown hgr6 (fun q hq => by have := owns_base LA.out.bd q hq; omega)).set (b := rb) (by omega) (x * 6 + 5) (.slice (some ⟨gB, 0, none⟩) (bs.length + 1) cap6))
                have ZP := hide ((((show Rec w7.drew _ _ _ from Z7.out).alloc (.cells #[.int .i64 6, .int .i64 0, .int .i64 0] 59)).grown hgr6 (fun e => by have := owns_base LA.out.bd _ e.symm; omega)).other (show w.heap.size + 1 ≠ rb by omega) (x * 6 + 5) (.slice (some ⟨gB, 0, none⟩) (bs.length + 1) cap6))
                have m1 := lenAt_eq (LP.out.cellO xn (by omega))
                have m2 := lenAt_eq (HL.out.cellO xn (by omega))
                have M1 := hide m1
                have M2 := hide m2
                clear m1 m2 d4 d4f hHeld hown6 hgr6 hat6 hlt6 LA
                go_wp2_with fail
                exact ⟨⟨bs ++ [(⟨6, 0, 0⟩ : GIns)], some ⟨gB, 0, none⟩, cap6, pq + 1, LP, by rw [e1]; omega, RP, by rw [e1]; omega, OP, QP, ZP⟩, by rw [M1.out, M2.out, e1]; omega⟩
              exact AllL.nil
            exact AllL.nil
          exact AllL.nil
        · have hlt' : decide ((bs.length : Int) < 30 + m7) = false := by simpa using hlt
          have LP := L7.out
          have QFIN : QFin L1 qb w7 := LP.fin Q5.out HQB.out RW5.out (by omega) xn (fun k hk => ⟨owns_base HX.out.r5.1 k hk, HX.out.r5.2 k hk⟩) (Q7.out.trans (show Rec w5 qb _ _ from Q5.out.q).symm) (LSt.body HX.out RW5.out.ho LP xn hBx.out (by omega)) (by refine ⟨?_, ?_, ?_⟩ <;> simp [FieldsB, InssB] <;> omega)
          clear LP t1 t2
          rename (w7.cell? _ = _ ∧ _) => hh0
          clear hh0
          have q0 := Q7.out.cell (o := 0) rfl
          have q1 := Q7.out.cell (o := 1) rfl
          have q2 := Q7.out.cell (o := 2) rfl
          go_upto_region 29 with fail
          obtain ⟨QQ, e0, e1, e2, f0, f1, f2, hq9, hG9, hF9, hU9, hQB9, hle9, hlf9⟩ := QFIN
          clear q0 q1 q2
          have q0 := hq9.cell (o := 0) rfl
          have q1 := hq9.cell (o := 1) rfl
          have q2 := hq9.cell (o := 2) rfl
          have z0 := Z7.out.cell (o := 0) rfl
          have z1 := Z7.out.cell (o := 1) rfl
          have z2 := Z7.out.cell (o := 2) rfl
          have zf0 := Z7.out.frozen 0
          have zf1 := Z7.out.frozen 1
          have zf2 := Z7.out.frozen 2
          have HG9 := hide hG9
          have HF9 := hide hF9
          have HU9 := hide hU9
          have HQB9 := hide hQB9
          have HR9 := hide R7.out
          have HO9 := hide O7.out
          have HL9 := hide (Z7.out.lt)
          have HL8 := hide (hq9.lt)
          clear hG9 hF9 hU9 hQB9 hq9
          go_wp2_with fail
          have sm9 : Same L1 w7.heap.size w7 (((w7.setCell ⟨w.heap.size + 1, 0, none⟩ (.slice e0 QQ.types.length f0)).setCell ⟨w.heap.size + 1, 1, none⟩ (.slice e1 QQ.glob.length f1)).setCell ⟨w.heap.size + 1, 2, none⟩ (.slice e2 QQ.funs.length f2)) := (((Same.refl _ _ _).set (.inl (by omega)) _ _).set (.inl (by omega)) _ _).set (.inl (by omega)) _ _
          refine bodyPost_ret (v := .agg #[.slice e0 QQ.types.length f0, .slice e1 QQ.glob.length f1, .slice e2 QQ.funs.length f2]) (by simp [results, Tryz.results52, go_sem, *]) rfl ⟨QQ, e0, e1, e2, f0, f1, f2, rfl, ?_, ?_, ?_, HQB9.out, hle9, hlf9, ⟨pq + 1, by omega, ((HR9.out.set (by omega) _ _).set (by omega) _ _).set (by omega) _ _⟩, ((HO9.out.set (by omega) _ _).set (by omega) _ _).set (by omega) _ _⟩
          · exact HG9.out.same sm9 (by omega) (by simp)
          · exact HF9.out.same sm9 (by omega) (by simp)
          · exact HU9.out.same sm9 (by omega) (by simp)
end Go.Proofs.YtblliefejffhoaaGreatDoor
