/- kinWritten of the program: the text of a group. -/
import Derived.Test.YtlmciclkfmeepaaDoorKinC
namespace Go.Proofs.YtlmciclkfmeepaaDoor
open Go.ChangeShapes Go.WideShapes Go.ChangeAt Go.RowKit
set_option linter.unusedVariables false

def headTxt (C : Nat → Nat) (b : Nat) (t : Ty) : List UInt8 := Lib.itoa t.kind ++ (32 :: (boolW t.last ++ (32 :: nameK C b t.up)))
theorem rowTxt_head (C : Nat → Nat) (b : Nat) (t : Ty) : rowTxt C b t = (headTxt C b t ++ fldsTxt C b t.fields) ++ [59] := by simp [rowTxt, headTxt]

theorem fd_take_snoc (g : List Fd) (j : Nat) (h : j < g.length) : g.take (j + 1) = g.take j ++ [fdAt g j] := by
  rw [List.take_succ_eq_append_getElem h]
  simp [fdAt, List.getD, List.getElem?_eq_getElem h]
theorem fldsTxt_snoc (C : Nat → Nat) (b : Nat) (fs : List Fd) (j : Nat) (h : j < fs.length) : fldsTxt C b (fs.take (j + 1)) = fldsTxt C b (fs.take j) ++ fldTxt C b (fdAt fs j) := by
  rw [fd_take_snoc fs j h]
  simp [fldsTxt, fldsTok, fldTxt, toksTxt]
theorem grpTxt_snoc (C : Nat → Nat) (b : Nat) (ts : List Ty) (j : Nat) (h : j < ts.length) : grpTxt C b (ts.take (j + 1)) = grpTxt C b (ts.take j) ++ rowTxt C b (tyAt ts j) := by
  rw [take_snoc ts j h]
  simp [grpTxt]

theorem fldTxt_eq (C : Nat → Nat) (b : Nat) (f : Fd) : fldTxt C b f = (44 :: (Lib.itoa f.kind ++ (32 :: boolW f.mt))) ++ (if f.kind = 1 then [] else 32 :: nameK C b f.of) := by
  unfold fldTxt fldTok
  split <;> simp [toksTxt]
theorem fldTxt_len {C : Nat → Nat} {b : Nat} {f : Fd} (h : FdOk C f) : (fldTxt C b f).length ≤ 14 := by
  rw [fldTxt_eq]
  have h1 := itoa_len (n := f.kind) (by have := h.1; omega) (by have := h.1; omega)
  have h2 := boolW_len f.mt
  have h3 := nameK_len (b := b) h.2
  split <;> simp <;> omega
theorem fldsTxt_len {C : Nat → Nat} {b : Nat} {fs : List Fd} (h : ∀ i, i < fs.length → FdOk C (fdAt fs i)) : ∀ j, j ≤ fs.length → (fldsTxt C b (fs.take j)).length ≤ 14 * j := by
  intro j
  induction j with
  | zero => intro _; simp [fldsTxt, fldsTok, toksTxt]
  | succ j ih =>
    intro hj
    rw [fldsTxt_snoc C b fs j hj]
    have := ih (by omega)
    have := fldTxt_len (b := b) (h j hj)
    simp; omega
theorem headTxt_len {C : Nat → Nat} {b : Nat} {t : Ty} (h : TyOk C t) : (headTxt C b t).length ≤ 13 := by
  have h1 := itoa_len (n := t.kind) (by have := h.1; omega) (by have := h.1; omega)
  have h2 := boolW_len t.last
  have h3 := nameK_len (b := b) h.2.1
  simp [headTxt]; omega
theorem rowTxt_len {C : Nat → Nat} {b : Nat} {t : Ty} (h : TyOk C t) (h4 : t.fields.length ≤ 4) : (rowTxt C b t).length ≤ 70 := by
  rw [rowTxt_head]
  have h1 := headTxt_len (b := b) h
  have h2 := fldsTxt_len (b := b) h.2.2 t.fields.length (Nat.le_refl _)
  rw [List.take_length] at h2
  simp; omega
theorem grpTxt_len {C : Nat → Nat} {b : Nat} {ts : List Ty} (h : ∀ i, i < ts.length → TyOk C (tyAt ts i)) (h4 : ∀ i, i < ts.length → (tyAt ts i).fields.length ≤ 4) : ∀ j, j ≤ ts.length → (grpTxt C b (ts.take j)).length ≤ 70 * j := by
  intro j
  induction j with
  | zero => intro _; simp [grpTxt]
  | succ j ih =>
    intro hj
    rw [grpTxt_snoc C b ts j hj]
    have := ih (by omega)
    have := rowTxt_len (b := b) (h j hj) (h4 j hj)
    simp; omega

set_option maxHeartbeats 3200000 in
set_option maxRecDepth 100000 in
theorem kinWritten_core (rb ro rn rc lo hi : Nat) (ca : Option Addr) (cn cc b : Nat) (ts : List Ty) (C : Nat → Nat) (w : World) (hp : pow10 w) (hh : hi ≤ w.heap.size) (h1 : lo ≤ rb) (h2 : rb < hi)
    (ht : ∀ i, i < ts.length → TyOk C (tyAt ts i)) (ht4 : ∀ i, i < ts.length → (tyAt ts i).fields.length ≤ 4) (h0 : 0 < ts.length) (hbn : b + ts.length ≤ rn) (hrn : rn ≤ 8) (hrc : rn ≤ rc)
    (hT : ∀ i, i < ts.length → TypeAt w lo hi rb (ro + b * 6 + i * 6) (tyAt ts i)) (hE : w.cell? ⟨rb, ro + b * 6 + 5, none⟩ = some (.int .i64 ((b + ts.length : Nat) : Int)))
    (hK : ∀ i, i < ts.length → (∃ v, w.cell? ⟨rb, ro + b * 6 + i * 6 + 4, none⟩ = some (.int .i64 v)) ∧ ∃ v, w.cell? ⟨rb, ro + b * 6 + i * 6 + 5, none⟩ = some (.int .i64 v))
    (hcn : b ≤ cn) (hc8 : cn ≤ 8) (hC : CanIn w ca b C) :
    Calls Tryd.prog 64 #[.slice (some ⟨rb, ro, none⟩) rn rc, .slice ca cn cc, .int .i64 (b : Int)] w fun e w' => e = .returned (.string ⟨(grpTxt C b ts).toArray⟩) ∧ Below w.heap.size w w' := by
  have HP := hide hp
  have HT := hide hT
  have HK := hide hK
  have HC := hide hC
  have HTy := hide ht
  have HT4 := hide ht4
  have HLen := hide (grpTxt_len (b := b) ht ht4)
  have hr5 : rb < w.heap.size := Nat.lt_of_lt_of_le h2 hh
  clear hp hT hC ht ht4 hK
  have b1 : (0 : Int) ≤ (b : Int) := by omega
  have b2 : (b : Int) < (rn : Int) := by omega
  have e2 : ((b + ts.length : Nat) : Int) = (b : Int) + (ts.length : Int) := by omega
  rw [e2] at hE
  clear e2
  go_enter Tryd.func64, Tryd.ntmps64
  go_wp2_with fail
  simp only [Nat.add_sub_cancel_left]
  go_loopw [7, 21] (fun v i wr => ∃ (j : Nat) (l : List UInt8), j ≤ ts.length ∧ i = .int .i64 j ∧ v = .string ⟨l.toArray⟩ ∧ l = grpTxt C b (ts.take j) ∧ Below w.heap.size w wr) (fun v i wr => ts.length - (intOf i).toNat)
  case atStart => exact ⟨0, [], Nat.zero_le _, rfl, rfl, rfl, Below.refl _ _⟩
  case round =>
    obtain ⟨j, l, hj, rfl, rfl, hl, hb⟩ := hrel
    have HL := hide hl
    have HB := hide hb
    have s1 := hb.size
    have qb : ∀ o, wr.cell? ⟨rb, o, none⟩ = w.cell? ⟨rb, o, none⟩ := fun o => hb.cell (by exact hr5)
    have hll := HLen.out j hj
    rw [← hl] at hll
    clear hl hb
    by_cases hjn : j < ts.length
    · obtain ⟨c0, c1, c2, fa, fc, c3, c4⟩ := HT.out j hjn
      obtain ⟨⟨v4, c5⟩, v5, c6⟩ := HK.out j hjn
      have ty := HTy.out j hjn
      have t4 := HT4.out j hjn
      have HSn := hide (grpTxt_snoc C b ts j hjn)
      rw [← qb] at c0 c1 c2 c3 c5 c6
      generalize tyAt ts j = t at c0 c1 c2 c3 c4 ty t4 HSn
      obtain ⟨tk, tu, tl, fs⟩ := t
      simp only at c0 c1 c2 c3 c4 t4
      obtain ⟨⟨k1, k2⟩, tn, tf⟩ := ty
      simp only at k1 k2 tn tf
      have C4 := hide c4
      have TF := hide tf
      have HRow : Hid (rowTxt C b ⟨tk, tu, tl, fs⟩ = (headTxt C b ⟨tk, tu, tl, fs⟩ ++ fldsTxt C b fs) ++ [59]) := rowTxt_head C b _
      have HFl := hide (fldsTxt_len (b := b) tf)
      have lk := itoa_len (n := tk) (by omega) (by omega)
      have lb := boolW_len tl
      have ln := nameK_len (b := b) tn
      have HH : Hid (headTxt C b ⟨tk, tu, tl, fs⟩ = Lib.itoa tk ++ (32 :: (boolW tl ++ (32 :: nameK C b tu)))) := rfl
      obtain ⟨xk, ek⟩ : ∃ xk, Lib.itoa tk = xk := ⟨_, rfl⟩
      obtain ⟨xb, eb⟩ : ∃ xb, boolW tl = xb := ⟨_, rfl⟩
      obtain ⟨xn, en⟩ : ∃ xn, nameK C b tu = xn := ⟨_, rfl⟩
      have EK := hide ek
      have EB := hide eb
      have EN := hide en
      rw [ek] at lk
      rw [eb] at lb
      rw [en] at ln
      have hd : headTxt C b ⟨tk, tu, tl, fs⟩ = xk ++ (32 :: (xb ++ (32 :: xn))) := by rw [HH.out, ek, eb, en]
      have HD := hide hd
      clear ek eb en hd HH
      have y1 := add_at xk [32] (xk ++ [32]) rfl (by omega) (by simp)
      have y2 := add_at (xk ++ [32]) xb (xk ++ 32 :: xb) (by simp) (by simp; omega) (by omega)
      have y3 := add_at (xk ++ 32 :: xb) [32] (xk ++ 32 :: (xb ++ [32])) (by simp) (by simp; omega) (by simp)
      have y4 := add_at (xk ++ 32 :: (xb ++ [32])) xn (xk ++ 32 :: (xb ++ 32 :: xn)) (by simp) (by simp; omega) (by omega)
      have y5 := add_at l (xk ++ 32 :: (xb ++ 32 :: xn)) (l ++ (xk ++ 32 :: (xb ++ 32 :: xn))) rfl (by omega) (by simp; omega)
      have l5 : (l ++ (xk ++ 32 :: (xb ++ 32 :: xn))).length ≤ 70 * j + 13 := by simp; omega
      obtain ⟨z5, e5⟩ : ∃ z, z = l ++ (xk ++ 32 :: (xb ++ 32 :: xn)) := ⟨_, rfl⟩
      rw [← e5] at y5 l5
      have E5 : Hid (z5 = l ++ headTxt C b ⟨tk, tu, tl, fs⟩) := by show _ = _; rw [e5, HD.out]
      clear e5
      generalize xk ++ 32 :: (xb ++ 32 :: xn) = z4 at y4 y5
      generalize xk ++ 32 :: (xb ++ [32]) = z3 at y3 y4
      generalize xk ++ 32 :: xb = z2 at y2 y3
      generalize xk ++ [32] = z1 at y1 y2
      have j1 : (0 : Int) ≤ (j : Int) := by omega
      have j2 : (j : Int) < (ts.length : Int) := by omega
      have B1 : Below w.heap.size w (wr.alloc (.cells #[.int .i64 tk, .int .i64 tu, .bool tl, .slice fa fs.length fc, .int .i64 v4, .int .i64 v5] 98)) := HB.out.alloc s1 _
      have R1 := Rec.new wr 98 [.int .i64 tk, .int .i64 tu, .bool tl, .slice fa fs.length fc, .int .i64 v4, .int .i64 v5]
      have r0 := R1.cell (o := 0) rfl
      have r1 := R1.cell (o := 1) rfl
      have r2 := R1.cell (o := 2) rfl
      have r3 := R1.cell (o := 3) rfl
      have HB1 := hide B1
      clear HT HK c4 tf R1 B1 qb HD
      go_wp2_with fail
      go_region_held3 (fun w' => w'.cell? ⟨wr.heap.size, 0, none⟩ = some (.int .i64 tk) ∧ w'.cell? ⟨wr.heap.size, 1, none⟩ = some (.int .i64 tu) ∧ w'.cell? ⟨wr.heap.size, 2, none⟩ = some (.bool tl) ∧ w'.cell? ⟨wr.heap.size, 3, none⟩ = some (.slice fa fs.length fc) ∧ Below w.heap.size w w')
        (refine ⟨?_, ?_, ?_, ?_, ?_⟩ <;> first | assumption | exact HB1.out.drew | go_keep)
        ((first
          | (go_at_call 72; have hS := ‹(World.cell? _ ⟨wr.heap.size, 0, none⟩ = some (.int .i64 tk) ∧ _ ∧ _ ∧ _ ∧ Below w.heap.size w _)›; refine (itoa_at _ _ EK.out (by omega) (by omega) w _ hS.2.2.2.2 HP.out).mono ?_; rintro e w3 ⟨rfl, kp, B3⟩; have d0 := kp _ _ _ hS.1; have d1 := kp _ _ _ hS.2.1; have d2 := kp _ _ _ hS.2.2.1; have d3 := kp _ _ _ hS.2.2.2.1; clear hS kp)
          | (go_at_call 73; have hS := ‹(World.cell? _ ⟨wr.heap.size, 0, none⟩ = some (.int .i64 tk) ∧ _ ∧ _ ∧ _ ∧ Below w.heap.size w _)›; refine (formatBool_at _ _ EB.out w _ hS.2.2.2.2).mono ?_; rintro e w3 ⟨rfl, kp, B3⟩; have d0 := kp _ _ _ hS.1; have d1 := kp _ _ _ hS.2.1; have d2 := kp _ _ _ hS.2.2.1; have d3 := kp _ _ _ hS.2.2.2.1; clear hS kp)
          | (go_at_call 74; have hS := ‹(World.cell? _ ⟨wr.heap.size, 0, none⟩ = some (.int .i64 tk) ∧ _ ∧ _ ∧ _ ∧ Below w.heap.size w _)›; refine (kinNamed_at _ _ _ _ _ _ _ EN.out w _ hS.2.2.2.2 HP.out tn (by omega) hcn hc8 HC.out).mono ?_; rintro e w3 ⟨rfl, kp, B3⟩; have d0 := kp _ _ _ hS.1; have d1 := kp _ _ _ hS.2.1; have d2 := kp _ _ _ hS.2.2.1; have d3 := kp _ _ _ hS.2.2.2.1; clear hS kp)))
      rename_i hHeld
      clear hHeld
      have HB3 := hide B3
      clear r0 r1 r2 r3 d0 d1 d2 y1 y2 y3 y4 y5 c0 c1 c2 c3 c5 c6 B3
      go_wp2_with fail
      go_loopw [7, 49] (fun v i wi => ∃ (k : Nat) (m : List UInt8), k ≤ fs.length ∧ i = .int .i64 k ∧ v = .string ⟨m.toArray⟩ ∧ m = z5 ++ fldsTxt C b (fs.take k) ∧ Below w.heap.size w wi) (fun v i wi => fs.length - (intOf i).toNat)
      case atStart => exact ⟨0, z5, Nat.zero_le _, rfl, rfl, by simp [fldsTxt, fldsTok, toksTxt], HB3.out⟩
      case round =>
        clear HB3 d3
        obtain ⟨k, m, hk, rfl, rfl, hm, hb⟩ := hrel
        have HM := hide hm
        have HBi := hide hb
        have s2 := hb.size
        have hml : m.length ≤ 70 * j + 13 + 14 * k := by have := HFl.out k hk; rw [hm]; simp; omega
        clear hm hb
        by_cases hkn : k < fs.length
        · rcases C4.out with hnil | ⟨b2, off2, rfl, g1, g2, g3⟩
          · rw [hnil] at hkn; exact absurd hkn (Nat.not_lt_zero _)
          obtain ⟨f0, f1, f2⟩ := (g3 k hkn).same (lo := lo) (hi := hi) (.of_below HBi.out hh) g1 g2
          have fo := TF.out k hkn
          have HS2 := hide (fldsTxt_snoc C b fs k hkn)
          have HF2 := hide (fldTxt_eq C b (fdAt fs k))
          clear g3
          generalize fdAt fs k = f at f0 f1 f2 fo HS2 HF2
          obtain ⟨fk, fo', fm⟩ := f
          obtain ⟨⟨p1, p2⟩, pn⟩ := fo
          simp only at f0 f1 f2 p1 p2 pn HF2
          have lk := itoa_len (n := fk) (by omega) (by omega)
          have lb := boolW_len fm
          have ln := nameK_len (b := b) pn
          obtain ⟨uk, ek⟩ : ∃ xk, Lib.itoa fk = xk := ⟨_, rfl⟩
          obtain ⟨ub, eb⟩ : ∃ xb, boolW fm = xb := ⟨_, rfl⟩
          obtain ⟨un, en⟩ : ∃ xn, nameK C b fo' = xn := ⟨_, rfl⟩
          have FK := hide ek
          have FB := hide eb
          have FN := hide en
          rw [ek] at lk
          rw [eb] at lb
          rw [en] at ln
          have hd : fldTxt C b ⟨fk, fo', fm⟩ = (44 :: (uk ++ 32 :: ub)) ++ (if fk = 1 then [] else 32 :: un) := by rw [HF2.out, ek, eb, en]
          have HD2 := hide hd
          clear ek eb en hd HF2
          have y1 := add_at [44] uk (44 :: uk) rfl (by simp) (by omega)
          have y2 := add_at (44 :: uk) [32] (44 :: (uk ++ [32])) (by simp) (by simp; omega) (by simp)
          have y3 := add_at (44 :: (uk ++ [32])) ub (44 :: (uk ++ 32 :: ub)) (by simp) (by simp; omega) (by omega)
          have y4 := add_at m (44 :: (uk ++ 32 :: ub)) (m ++ 44 :: (uk ++ 32 :: ub)) rfl (by omega) (by simp; omega)
          have y5 := add_at [32] un (32 :: un) rfl (by simp) (by omega)
          have y6 := add_at (m ++ 44 :: (uk ++ 32 :: ub)) (32 :: un) (m ++ 44 :: (uk ++ 32 :: (ub ++ 32 :: un))) (by simp) (by simp; omega) (by simp; omega)
          obtain ⟨q6, e6⟩ : ∃ z, z = m ++ 44 :: (uk ++ 32 :: (ub ++ 32 :: un)) := ⟨_, rfl⟩
          obtain ⟨q4, e4⟩ : ∃ z, z = m ++ 44 :: (uk ++ 32 :: ub) := ⟨_, rfl⟩
          rw [← e6] at y6
          rw [← e4] at y4 y6
          have E6 : Hid (fk ≠ 1 → q6 = m ++ fldTxt C b ⟨fk, fo', fm⟩) := fun h => by rw [e6, HD2.out, if_neg h]; simp
          have E4 : Hid (fk = 1 → q4 = m ++ fldTxt C b ⟨fk, fo', fm⟩) := fun h => by rw [e4, HD2.out, if_pos h]; simp
          clear e6 e4 HD2
          generalize 32 :: un = q5 at y5 y6
          generalize 44 :: (uk ++ 32 :: ub) = q3 at y3 y4
          generalize 44 :: (uk ++ [32]) = q2 at y2 y3
          generalize 44 :: uk = q1 at y1 y2
          have j3 : (0 : Int) ≤ (k : Int) := by omega
          have j4 : (k : Int) < (fs.length : Int) := by omega
          have B1 : Below w.heap.size w (wr.alloc (.cells #[.int .i64 fk, .int .i64 fo', .bool fm] 37)) := HBi.out.alloc s2 _
          have R1 := Rec.new wr 37 [.int .i64 fk, .int .i64 fo', .bool fm]
          have r0 := R1.cell (o := 0) rfl
          have r1 := R1.cell (o := 1) rfl
          have r2 := R1.cell (o := 2) rfl
          have HB1 := hide B1
          clear R1 B1
          go_wp2_with fail
          go_region_held3 (fun w' => w'.cell? ⟨wr.heap.size, 0, none⟩ = some (.int .i64 fk) ∧ w'.cell? ⟨wr.heap.size, 1, none⟩ = some (.int .i64 fo') ∧ w'.cell? ⟨wr.heap.size, 2, none⟩ = some (.bool fm) ∧ Below w.heap.size w w')
            (refine ⟨?_, ?_, ?_, ?_⟩ <;> first | assumption | exact HB1.out.drew | go_keep)
            ((first
              | (go_at_call 72; have hS := ‹(World.cell? _ ⟨wr.heap.size, 0, none⟩ = some (.int .i64 fk) ∧ _ ∧ _ ∧ Below w.heap.size w _)›; refine (itoa_at _ _ FK.out (by omega) (by omega) w _ hS.2.2.2 HP.out).mono ?_; rintro e w3 ⟨rfl, kp, B3⟩; have d0 := kp _ _ _ hS.1; have d1 := kp _ _ _ hS.2.1; have d2 := kp _ _ _ hS.2.2.1; clear hS kp)
              | (go_at_call 73; have hS := ‹(World.cell? _ ⟨wr.heap.size, 0, none⟩ = some (.int .i64 fk) ∧ _ ∧ _ ∧ Below w.heap.size w _)›; refine (formatBool_at _ _ FB.out w _ hS.2.2.2).mono ?_; rintro e w3 ⟨rfl, kp, B3⟩; have d0 := kp _ _ _ hS.1; have d1 := kp _ _ _ hS.2.1; have d2 := kp _ _ _ hS.2.2.1; clear hS kp)))
          rename_i hHeld
          clear hHeld
          have HB4 := hide B3
          clear r0 r1 r2 y1 y2 y3 y4 f0 f1 f2 B3
          by_cases hf1 : fk = 1
          · subst hf1
            go_wp2_with fail
            exact ⟨⟨k + 1, q4, by omega, by go_num, rfl, by rw [E4.out rfl, HM.out, HS2.out, List.append_assoc], HB4.out⟩, by simp [intOf]; omega⟩
          · have nf : (fk != 1) = true := by simpa using hf1
            go_wp2_with fail
            refine (kinNamed_at _ _ _ _ _ _ _ FN.out w _ HB4.out HP.out pn (by omega) hcn hc8 HC.out).mono ?_
            rintro e w4 ⟨rfl, kp, B5⟩
            have HB5 := hide B5
            clear B5 kp
            go_wp2_with fail
            exact ⟨⟨k + 1, q6, by omega, by go_num, rfl, by rw [E6.out hf1, HM.out, HS2.out, List.append_assoc], HB5.out⟩, by simp [intOf]; omega⟩
        · have hke : Hid (k = fs.length) := Nat.le_antisymm hk (Nat.le_of_not_lt hkn)
          have y1 := add_at m [59] (m ++ [59]) rfl (by omega) (by simp)
          obtain ⟨q1, e1⟩ : ∃ z, z = m ++ [59] := ⟨_, rfl⟩
          rw [← e1] at y1
          have E1 := hide e1
          clear e1
          go_wp2_with fail
          have eq : q1 = grpTxt C b (ts.take (j + 1)) := by
            rw [E1.out, HM.out, hke.out, List.take_length, E5.out, HL.out, HSn.out, HRow.out]
            simp [List.append_assoc]
          exact ⟨⟨j + 1, q1, by omega, by go_num, rfl, eq, HBi.out⟩, by simp [intOf]; omega⟩
    · have hje : Hid (j = ts.length) := Nat.le_antisymm hj (Nat.le_of_not_lt hjn)
      go_wp2_with fail
      go_ret
      refine ⟨?_, HB.out⟩
      have e := HL.out
      rw [hje.out, List.take_length] at e
      rw [e]; rfl
end Go.Proofs.YtlmciclkfmeepaaDoor
