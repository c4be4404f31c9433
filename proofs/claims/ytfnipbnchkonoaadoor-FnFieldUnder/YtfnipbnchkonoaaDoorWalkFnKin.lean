/- The law of KinType on drawn groups. -/
import Derived.Test.YtfnipbnchkonoaaDoorKaType
import Derived.Test.YtfnipbnchkonoaaDoorWalkFnKinSame
import Derived.Deep.RegionHeld3
import Derived.Laws.StructEq
namespace Go.Proofs.YtfnipbnchkonoaaDoor
open Go.ChangeShapes Go.WideShapes Go.ChangeAt Go.RowKit Go.Deep
set_option linter.unusedVariables false

/-- The fields fs lie at a. -/
def FldAt (w : World) (a : Option Addr) (fs : List Fd) : Prop := ∃ lo hi, hi ≤ w.heap.size ∧ FieldsIn w lo hi a fs
theorem FldAt.keep {w w' : World} {a : Option Addr} {fs : List Fd} (h : FldAt w a fs) (hb : Below w.heap.size w w') : FldAt w' a fs := by
  obtain ⟨lo, hi, h1, h2⟩ := h
  exact ⟨lo, hi, Nat.le_trans h1 hb.size, h2.same (.of_below hb h1) (Nat.le_refl _) (Nat.le_refl _)⟩
theorem FldAt.cell {w : World} {b off i : Nat} {fs : List Fd} (h : FldAt w (some ⟨b, off, none⟩) fs) (hi : i < fs.length) : FieldAt w b (off + i * 3) (fdAt fs i) := by
  obtain ⟨lo, hi', h1, h2⟩ := h
  rcases h2 with h2 | ⟨b', off', e, _, _, h3⟩
  · rw [h2] at hi; simp at hi
  · simp at e
    obtain ⟨rfl, rfl⟩ := e
    exact h3 i hi
theorem FldAt.some {w : World} {a : Option Addr} {fs : List Fd} (h : FldAt w a fs) (hi : 0 < fs.length) : ∃ b off, a = .some ⟨b, off, none⟩ := by
  obtain ⟨lo, hi', h1, h2⟩ := h
  rcases h2 with h2 | ⟨b', off', e, _, _, h3⟩
  · rw [h2] at hi; simp at hi
  · exact ⟨b', off', e⟩
/-- A type's four cells. -/
abbrev tyCells (t : Ty) (na : Option Addr) (nc : Nat) : List Value := [.int .i64 t.kind, .int .i64 t.up, .bool t.last, .slice na t.fields.length nc]
/-- Drawn groups, and two variables with a type each. -/
structure TwoT (w0 w : World) (ga gc : Nat) (gs : List (List Ty)) (tb ub : Nat) (t u : Ty) (na na2 : Option Addr) (nc nc2 : Nat) : Prop where
  g : GS w0 w ga gc gs
  r1 : Rec w tb 28 (tyCells t na nc)
  r2 : Rec w ub 28 (tyCells u na2 nc2)
  f1 : FldAt w na t.fields
  f2 : FldAt w na2 u.fields
theorem TwoT.keep {w0 w w' : World} {ga gc : Nat} {gs : List (List Ty)} {tb ub : Nat} {t u : Ty} {na na2 : Option Addr} {nc nc2 : Nat} (h : TwoT w0 w ga gc gs tb ub t u na na2 nc nc2) (hb : Below w.heap.size w w') : TwoT w0 w' ga gc gs tb ub t u na na2 nc nc2 :=
  ⟨h.g.keep hb, h.r1.below hb h.r1.lt, h.r2.below hb h.r2.lt, h.f1.keep hb, h.f2.keep hb⟩
theorem TwoT.drew {w0 w : World} {ga gc : Nat} {gs : List (List Ty)} {tb ub : Nat} {t u : Ty} {na na2 : Option Addr} {nc nc2 : Nat} (h : TwoT w0 w ga gc gs tb ub t u na na2 nc nc2) : TwoT w0 w.drew ga gc gs tb ub t u na na2 nc nc2 := h.keep (below_drewN (Below.refl _ _) 1)

theorem implFieldOk_v (k o n : Int) (m : Bool) {c : Bool} (h : fieldOk k o n = c) (w : World) :
    Calls Tryd.prog 21 #[.agg #[.int .i64 k, .int .i64 o, .bool m], .int .i64 n] w fun e w' => e = .returned (.bool c) ∧ Below w.heap.size w w' := by
  subst h; exact implFieldOk_any k o n m w

theorem type_right {gs : List (List Ty)} {a : Int} (hk : kinOkF gs = true) (h1 : 0 ≤ a) (h2 : a < (kinCount gs : Int)) {t : Ty} (ht : tyN gs a.toNat = t) :
    kinCount gs ≤ 8 ∧ t.fields.length ≤ 4 ∧ t.up < a ∧ (∀ j, j < t.fields.length → fieldOk (fdAt t.fields j).kind (fdAt t.fields j).of (kinCount gs : Nat) = true) ∧
    (0 ≤ t.up → isTypeF gs t.up = true ∧ (tyOr gs t.up).kind = t.kind ∧ (tyOr gs t.up).last = false ∧ (tyOr gs t.up).fields.length ≤ t.fields.length) := by
  obtain ⟨hP, hb⟩ := (kinOk_iff gs).1 hk
  have hp : a.toNat < kinCount gs := by omega
  have f := parts_flat hP hp
  rw [ht] at f
  refine ⟨hP.2.1, f.1, by omega, f.2.2, fun hu => ?_⟩
  have hb' := hb _ hp
  rw [ht] at hb'
  have hlt : t.up < (kinCount gs : Int) := by omega
  rw [tyOr_of hu hlt]
  rcases hb' with h | h
  · omega
  · unfold belowF at h
    simp only [Bool.and_eq_true, beq_iff_eq, decide_eq_true_eq, Bool.not_eq_true'] at h
    exact ⟨isTypeF_iff.2 ⟨hu, hlt⟩, h.1.1.1.symm, h.1.1.2, h.1.2⟩

set_option maxHeartbeats 4000000 in
set_option maxRecDepth 100000 in
theorem fnKin_walk (a0 : Option Addr) (cap0 n0 : Nat) (hc0 : n0 ≤ cap0) (w : World) (h0 : BytesIn w w.heap.size a0 n0) (ht : pow10 w) :
    Calls Tryd.prog 3 #[.slice a0 n0 cap0] w fun e w' => e = .returned (.bool true) ∧ Below w.heap.size w w' := by
  by_cases l0 : 1048576 < n0
  · have k0 : (1048576 : Int) < (n0 : Int) := by omega
    go_enter Tryd.func3, Tryd.ntmps3
    go_wp2_with fail
    go_ret
    exact ⟨rfl, Below.refl _ _⟩
  have k0 : (n0 : Int) ≤ 1048576 := by omega
  go_enter Tryd.func3, Tryd.ntmps3
  go_wp2_with fail
  refine (drawKinType_any a0 cap0 n0 w hc0 h0 ht).mono ?_
  rintro e w1 ⟨gs, ga, gc, a, rfl, G1, a1, a2⟩
  have n2 := G1.count
  obtain ⟨t, htt⟩ : ∃ t, tyOr gs a = t := ⟨_, rfl⟩
  have HTT := hide htt
  obtain ⟨ok, hT⟩ : ∃ ok, isTypeF gs a = ok := ⟨_, rfl⟩
  have HT := hide hT
  obtain ⟨kk, hk⟩ : ∃ kk, kinOkF gs = kk := ⟨_, rfl⟩
  have HK := hide hk
  go_wp2_with fail
  refine (G1.implType a HTT.out HT.out).mono ?_
  rintro e w2 ⟨na, nc, rfl, F2, B2, G2⟩
  have R2 := Rec.new w2 28 (tyCells t na nc)
  have b2 : Below w2.heap.size w2 (w2.alloc (.cells (tyCells t na nc).toArray 28)) := (Below.refl _ _).alloc (Nat.le_refl _) _
  have G2' := G2.keep b2
  have FA : FldAt (w2.alloc (.cells (tyCells t na nc).toArray 28)) na t.fields := FldAt.keep ⟨_, _, Nat.le_refl _, F2⟩ b2
  clear F2 B2 G2 G1
  obtain ⟨W2, hW2⟩ : ∃ W2, w2.alloc (.cells (tyCells t na nc).toArray 28) = W2 := ⟨_, rfl⟩
  obtain ⟨tb, htb⟩ : ∃ tb, w2.heap.size = tb := ⟨_, rfl⟩
  rw [hW2] at R2 b2 G2' FA
  rw [htb] at R2
  have HW2 := hide hW2
  have HTB := hide htb
  clear hW2 htb b2
  go_wp2_with fail
  rw [show w2.alloc (.cells #[.int .i64 t.kind, .int .i64 t.up, .bool t.last, .slice na t.fields.length nc] 28) = W2 from HW2.out, HTB.out]
  refine (G2'.specType a HTT.out HT.out).mono ?_
  rintro e w3 ⟨na2, nc2, rfl, F3, B3, G3⟩
  have R3 := Rec.new w3 28 (tyCells t na2 nc2)
  have b3 : Below w3.heap.size w3 (w3.alloc (.cells (tyCells t na2 nc2).toArray 28)) := (Below.refl _ _).alloc (Nat.le_refl _) _
  have T3 : TwoT w (w3.alloc (.cells (tyCells t na2 nc2).toArray 28)) ga gc gs tb w3.heap.size t t na na2 nc nc2 := ⟨G3.keep b3, (R2.below B3 R2.lt).below b3 (R2.below B3 R2.lt).lt, R3, (FA.keep B3).keep b3, FldAt.keep ⟨_, _, Nat.le_refl _, F3⟩ b3⟩
  clear F3 B3 G3 R3 b3 G2' R2 FA HW2 HTB
  obtain ⟨W3, hW3⟩ : ∃ W3, w3.alloc (.cells (tyCells t na2 nc2).toArray 28) = W3 := ⟨_, rfl⟩
  obtain ⟨ub, hub⟩ : ∃ ub, w3.heap.size = ub := ⟨_, rfl⟩
  rw [hW3, hub] at T3
  have HW3 := hide hW3
  have HUB := hide hub
  clear hW3 hub
  go_wp2_with fail
  rw [show w3.alloc (.cells #[.int .i64 t.kind, .int .i64 t.up, .bool t.last, .slice na2 t.fields.length nc2] 28) = W3 from HW3.out, HUB.out]
  clear HW3 HUB
  refine T3.g.implCount.mono ?_
  rintro e w4 ⟨rfl, rfl⟩
  go_wp2_with fail
  refine T3.g.specCount.mono ?_
  rintro e w5 ⟨rfl, rfl⟩
  go_wp2_with fail
  refine (T3.g.implOk HK.out).mono ?_
  rintro e w6 ⟨rfl, B6, _⟩
  replace T3 := T3.keep B6
  clear B6
  go_wp2_with fail
  refine (T3.g.specOk HK.out).mono ?_
  rintro e w7 ⟨rfl, B7, _⟩
  replace T3 := T3.keep B7
  clear B7
  have c0 := T3.r1.cell (o := 0) rfl
  have c1 := T3.r1.cell (o := 1) rfl
  have c2 := T3.r1.cell (o := 2) rfl
  have c3 := T3.r1.cell (o := 3) rfl
  have d0 := T3.r2.cell (o := 0) rfl
  have d1 := T3.r2.cell (o := 1) rfl
  have d2 := T3.r2.cell (o := 2) rfl
  have d3 := T3.r2.cell (o := 3) rfl
  cases ok
  · have hn : a < 0 ∨ (0 ≤ a ∧ (kinCount gs : Int) ≤ a) := by
      by_cases h : 0 ≤ a ∧ a < (kinCount gs : Int)
      · exact absurd (isTypeF_iff.2 h) (by rw [hT]; decide)
      · omega
    have T7 := hide T3
    clear T3 hT hk htt
    cases kk
    all_goals rcases hn with hn | ⟨hn, hn2⟩
    all_goals
      try (have hn3 : decide (a < (kinCount gs : Int)) = false := decide_eq_false (by omega))
      go_wp2_with fail
      refine (T7.out.g.specOk HK.out).mono ?_
      rintro e w8 ⟨rfl, _, G8⟩
      go_wp2_with fail
      go_ret
      exact ⟨rfl, G8.bel⟩
  obtain ⟨ta1, ta2⟩ := isTypeF_iff.1 hT
  cases kk
  · have T7 := hide T3
    clear T3 hT hk htt
    go_wp2_with fail
    refine (T7.out.g.specOk HK.out).mono ?_
    rintro e w8 ⟨rfl, _, G8⟩
    go_wp2_with fail
    go_ret
    exact ⟨rfl, G8.bel⟩
  obtain ⟨q1, q2, q3, q4, q5⟩ := type_right hk ta1 ta2 ((tyOr_of ta1 ta2).symm.trans htt)
  have HF := hide q4
  have HU := hide q5
  have T7 := hide T3
  clear T3 hT hk htt q4 q5
  go_wp2_with fail
  refine (T7.out.g.specOk HK.out).mono ?_
  rintro e w8 ⟨rfl, B8, _⟩
  have T8 := hide (T7.out.keep B8)
  clear B8 T7 c0 c1 c2 c3 d0 d1 d2 d3
  go_wp2_with fail
  go_loopw [10] (fun iv wr => ∃ i : Nat, i ≤ t.fields.length ∧ iv = .int .i64 (i : Int) ∧ Hid (TwoT w wr ga gc gs tb ub t t na na2 nc nc2)) (fun iv wr => t.fields.length - (intOf iv).toNat)
  case atStart => exact ⟨0, Nat.zero_le _, rfl, T8⟩
  case round =>
    clear T8
    obtain ⟨i, hi, rfl, TR⟩ := hrel
    have c3 := TR.out.r1.cell (o := 3) rfl
    have d3 := TR.out.r2.cell (o := 3) rfl
    by_cases hlt : i < t.fields.length
    · obtain ⟨b, off, rfl⟩ := TR.out.f1.some (by omega)
      obtain ⟨b', off', rfl⟩ := TR.out.f2.some (by omega)
      have i1 : (0 : Int) ≤ (i : Int) := by omega
      have i2 : (i : Int) < (t.fields.length : Int) := by omega
      have HFo := hide (HF.out i hlt)
      have HC : Hid (∀ W, TwoT w W ga gc gs tb ub t t (some ⟨b, off, none⟩) (some ⟨b', off', none⟩) nc nc2 → (W.cell? ⟨tb, 3, none⟩ = some (.slice (some ⟨b, off, none⟩) t.fields.length nc) ∧ W.cell? ⟨b, off + i * 3, none⟩ = some (.int .i64 (fdAt t.fields i).kind) ∧ W.cell? ⟨b, off + i * 3 + 1, none⟩ = some (.int .i64 (fdAt t.fields i).of) ∧ W.cell? ⟨b, off + i * 3 + 2, none⟩ = some (.bool (fdAt t.fields i).mt) ∧
          W.cell? ⟨ub, 3, none⟩ = some (.slice (some ⟨b', off', none⟩) t.fields.length nc2) ∧ W.cell? ⟨b', off' + i * 3, none⟩ = some (.int .i64 (fdAt t.fields i).kind) ∧ W.cell? ⟨b', off' + i * 3 + 1, none⟩ = some (.int .i64 (fdAt t.fields i).of) ∧ W.cell? ⟨b', off' + i * 3 + 2, none⟩ = some (.bool (fdAt t.fields i).mt))) := by
        intro W h
        obtain ⟨x0, x1, x2⟩ := h.f1.cell hlt
        obtain ⟨y0, y1, y2⟩ := h.f2.cell hlt
        exact ⟨h.r1.cell (o := 3) rfl, x0, x1, x2, h.r2.cell (o := 3) rfl, y0, y1, y2⟩
      generalize fdAt t.fields i = F at *
      have HC0 := HC.out _ TR.out
      obtain ⟨e0, e1, e2, e3, e4, e5, e6, e7⟩ := HC0
      have TR' := TR.out
      clear TR c3 d3
      go_wp2_with fail
      go_region_held3 (fun W => W.cell? ⟨tb, 3, none⟩ = some (.slice (some ⟨b, off, none⟩) t.fields.length nc) ∧ W.cell? ⟨b, off + i * 3, none⟩ = some (.int .i64 F.kind) ∧ W.cell? ⟨b, off + i * 3 + 1, none⟩ = some (.int .i64 F.of) ∧ W.cell? ⟨b, off + i * 3 + 2, none⟩ = some (.bool F.mt) ∧ W.cell? ⟨ub, 3, none⟩ = some (.slice (some ⟨b', off', none⟩) t.fields.length nc2) ∧ W.cell? ⟨b', off' + i * 3, none⟩ = some (.int .i64 F.kind) ∧ W.cell? ⟨b', off' + i * 3 + 1, none⟩ = some (.int .i64 F.of) ∧ W.cell? ⟨b', off' + i * 3 + 2, none⟩ = some (.bool F.mt) ∧ TwoT w W ga gc gs tb ub t t (some ⟨b, off, none⟩) (some ⟨b', off', none⟩) nc nc2)
        (refine ⟨?_, ?_, ?_, ?_, ?_, ?_, ?_, ?_, ?_⟩ <;> first | assumption | exact TwoT.drew (by assumption) | go_keep)
        ((go_at_call 21; have hS := ‹(World.cell? _ ⟨tb, 3, none⟩ = some (.slice (some ⟨b, off, none⟩) t.fields.length nc) ∧ _ ∧ _ ∧ _ ∧ _ ∧ _ ∧ _ ∧ _ ∧ TwoT w _ ga gc gs tb ub t t (some ⟨b, off, none⟩) (some ⟨b', off', none⟩) nc nc2)›; refine (implFieldOk_v _ _ _ _ HFo.out _).mono ?_; rintro e w9 ⟨rfl, hb9⟩; have T9 := hS.2.2.2.2.2.2.2.2.keep hb9; obtain ⟨g0, g1, g2, g3, g4, g5, g6, g7⟩ := HC.out _ T9; clear hS hb9))
      all_goals
        go_wp2_with fail
        go_roundw
        case rel => exact ⟨i + 1, by omega, by go_num, T9⟩
        case measure => simp [intOf]; omega
    · have c1 := TR.out.r1.cell (o := 1) rfl
      by_cases hu : 0 ≤ t.up
      · obtain ⟨u1, u2, u3, u4⟩ := HU.out hu
        obtain ⟨up, hup⟩ : ∃ up, tyOr gs t.up = up := ⟨_, rfl⟩
        rw [hup] at u2 u3 u4
        obtain ⟨uk, uu, ul, uf⟩ := up
        dsimp only at u2 u3 u4
        subst u2 u3
        have HUP := hide hup
        have HU1 := hide u1
        clear hup u1
        have u4' : (uf.length : Int) ≤ (t.fields.length : Int) := by omega
        go_wp2_with fail
        refine (TR.out.g.implType t.up HUP.out HU1.out).mono ?_
        rintro e w9 ⟨na3, nc3, rfl, F9, B9, G9⟩
        have T9 := hide (TR.out.keep B9)
        have R9 := Rec.new w9 28 (tyCells ⟨t.kind, uu, false, uf⟩ na3 nc3)
        have b9 : Below w9.heap.size w9 (w9.alloc (.cells (tyCells ⟨t.kind, uu, false, uf⟩ na3 nc3).toArray 28)) := (Below.refl _ _).alloc (Nat.le_refl _) _
        have T10 := hide (T9.out.keep b9)
        have c0 := T10.out.r1.cell (o := 0) rfl
        have c1 := T10.out.r1.cell (o := 1) rfl
        have c2 := T10.out.r1.cell (o := 2) rfl
        have c3 := T10.out.r1.cell (o := 3) rfl
        have d0 := R9.cell (o := 0) rfl
        have d2 := R9.cell (o := 2) rfl
        have d3 := R9.cell (o := 3) rfl
        have q8 : (kinCount gs : Int) ≤ 8 := by omega
        clear F9 B9 G9 T9 R9 b9 TR
        go_wp2_with fail
        go_ret
        exact ⟨rfl, T10.out.g.bel⟩
      · have HU1 : Hid (isTypeF gs t.up = false) := by
          show _ = _
          cases h : isTypeF gs t.up with
          | false => rfl
          | true => exact absurd (isTypeF_iff.1 h).1 hu
        have HUP := hide (tyOr_not HU1.out)
        have q8 : (kinCount gs : Int) ≤ 8 := by omega
        have hu2 : t.up < 0 := by omega
        have hu3 : decide (0 ≤ t.up) = false := decide_eq_false hu
        go_wp2_with fail
        refine (TR.out.g.implType t.up HUP.out HU1.out).mono ?_
        rintro e w9 ⟨na3, nc3, rfl, F9, B9, G9⟩
        have b9 : Below w9.heap.size w9 (w9.alloc (.cells #[.int .i64 0, .int .i64 0, .bool false, .slice na3 0 nc3] 28)) := (Below.refl _ _).alloc (Nat.le_refl _) _
        have T10 := hide ((TR.out.keep B9).keep b9)
        have c1 := T10.out.r1.cell (o := 1) rfl
        clear F9 B9 G9 b9 TR
        go_wp2_with fail
        go_ret
        exact ⟨rfl, T10.out.g.bel⟩
end Go.Proofs.YtfnipbnchkonoaaDoor
