/- KaKinD: KinO0, KinO, KinP. -/
import Derived.Test.YtejkebfhiddhmaaDoorKaKinC
/- l1Canon and l1Of of the model. -/
namespace Go.Proofs.YtejkebfhiddhmaaDoor
open Go.ChangeShapes Go.WideShapes Go.ChangeAt Go.RowKit
set_option linter.unusedVariables false

set_option maxHeartbeats 800000 in
theorem l1Canon_any (ga : Option Addr) (gc lo hi : Nat) (gs : List (List Ty)) (m : Nat) (w : World) (hP : Parts gs) (hN : Few gs) (hc : gs.length ≤ gc) (hm : m < kinCount gs) (hh : hi ≤ w.heap.size) (hx : GroupsIn w lo hi ga gs) :
    Calls Tryd.prog 52 #[.slice ga gs.length gc, .int .i64 (m : Int)] w fun e w' => e = .returned (.int .i64 (canon gs m : Nat)) ∧ Below w.heap.size w w' := by
  have m8 := hP.2.1
  have HS := hide (fun i (hi : i < kinCount gs) w1 (hb : Below w.heap.size w w1) => l1Same_any ga gc lo _ gs i m w1 hP hN hc hi hm (Nat.le_trans hh hb.size) (hx.keep (hb.mono hh)))
  have sp := firstFrom_spec (fun i => same gs i m) m 0
  have HSp : Hid (∀ j, j ≤ m → (∀ i, i < j → same gs i m = false) → j = m ∨ same gs j m = true → canon gs m = j) := fun j hj hl he => by
    have h1 := canon_le gs m
    have h2 := canon_same gs m
    by_cases c1 : canon gs m < j
    · rw [hl _ c1] at h2; cases h2
    · by_cases c2 : j < canon gs m
      · have h3 := canon_least gs m j c2
        rcases he with rfl | he
        · omega
        · rw [he] at h3; cases h3
      · omega
  clear hP hN hx sp
  go_enter Tryd.func52, Tryd.ntmps52
  go_wp2_with fail
  go_loopw [5] (fun v wr => ∃ j : Nat, j ≤ m ∧ v = .int .i64 j ∧ (∀ i, i < j → same gs i m = false) ∧ Below w.heap.size w wr) (fun v wr => m - (intOf v).toNat)
  case atStart => exact ⟨0, Nat.zero_le _, rfl, fun i hi => absurd hi (Nat.not_lt_zero _), Below.refl _ _⟩
  case round =>
    obtain ⟨j, hj, rfl, hA, hb⟩ := hrel
    have HA := hide hA
    have HB := hide hb
    clear hA hb
    by_cases hjm : j < m
    · have HCall := hide (HS.out j (by omega) wr HB.out)
      have HT : Hid (same gs j m = true → canon gs m = j) := fun h => HSp.out j hj HA.out (.inr h)
      have HF : Hid (same gs j m = false → ∀ i, i < j + 1 → same gs i m = false) := fun h i hi => by
        by_cases e : i = j
        · subst e; exact h
        · exact HA.out i (by omega)
      generalize same gs j m = v at HCall HT HF
      go_wp2_with fail
      refine HCall.out.mono ?_
      rintro e w1 ⟨rfl, hb1⟩
      have B1 := hide (HB.out.trans (hb1.mono HB.out.size))
      clear hb1
      cases v with
      | true =>
        have hz := HT.out rfl
        clear HT HF
        have HZ := hide hz
        clear hz
        go_wp2_with fail
        go_ret
        exact ⟨ret_int (by rw [HZ.out]), B1.out⟩
      | false =>
        have hf := HF.out rfl
        clear HT HF
        have HF := hide hf
        clear hf
        go_wp2_with fail
        exact ⟨⟨j + 1, by omega, by go_num, HF.out, B1.out⟩, by simp [intOf]; omega⟩
    · have hje : Hid (j = m) := Nat.le_antisymm hj (Nat.le_of_not_lt hjm)
      go_wp2_with fail
      go_ret
      exact ⟨ret_int (by rw [HSp.out m (Nat.le_refl _) (hje.out ▸ HA.out) (.inl rfl)]), HB.out⟩

theorem l1Of_any (gs : List (List Ty)) (a : Int) (w : World) (hn : kinCount gs ≤ 1099511627776) :
    Calls Tryd.prog 56 #[.int .i64 a, .int .i64 (kinCount gs : Int)] w fun e w' => e = .returned (.bool (isRefF gs a)) ∧ w' = w := by
  by_cases h : -2 ≤ a
  · have d : decide (-2 ≤ a) = true := by simpa using h
    go_enter Tryd.func56, Tryd.ntmps56
    go_wp2_with fail
    go_ret
    exact ⟨ret_bool (by unfold isRefF; rw [d]; rfl), rfl⟩
  · have d : decide (-2 ≤ a) = false := by simpa using h
    go_enter Tryd.func56, Tryd.ntmps56
    go_wp2_with fail
    go_ret
    exact ⟨ret_bool (by unfold isRefF; rw [d]; rfl), rfl⟩
end Go.Proofs.YtejkebfhiddhmaaDoor

/- KinCanon, KinSame, KinUnder and FieldUnder of the model; FieldUnder of the program. -/
namespace Go.Proofs.YtejkebfhiddhmaaDoor
open Go.ChangeShapes Go.WideShapes Go.ChangeAt Go.RowKit
set_option linter.unusedVariables false

set_option maxHeartbeats 1600000 in
theorem specKinCanon_any (ga : Option Addr) (gc lo hi : Nat) (gs : List (List Ty)) (a : Int) (w : World) (hN : Few gs) (hc : gs.length ≤ gc) (hl : lo ≤ hi) (hh : hi ≤ w.heap.size) (hx : GroupsIn w lo hi ga gs) :
    Calls Tryd.prog 25 #[.slice ga gs.length gc, .int .i64 a] w fun e w' => e = .returned (.int .i64 (canonF gs a)) ∧ Below w.heap.size w w' := by
  have n2 := kinCount_le hN
  have HCnt := hide (specKinCount_any ga gc lo hi gs w hN hx)
  have HOk := hide (specKinOk_any ga gc lo hi gs w hN hc hl hh hx)
  have HN := hide hN
  have HX := hide hx
  clear hN hx
  by_cases h0 : a < 0
  · have HZ : Hid (canonF gs a = -1) := by show _ = _; simp [canonF, isTypeF]; omega
    go_enter Tryd.func25, Tryd.ntmps25
    go_wp2_with fail
    go_ret
    exact ⟨ret_int HZ.out.symm, Below.refl _ _⟩
  by_cases h1 : (kinCount gs : Int) ≤ a
  · have HZ : Hid (canonF gs a = -1) := by show _ = _; simp [canonF, isTypeF]; omega
    go_enter Tryd.func25, Tryd.ntmps25
    go_wp2_with fail
    refine HCnt.out.mono ?_
    rintro e w1 ⟨rfl, rfl⟩
    go_wp2_with fail
    go_ret
    exact ⟨ret_int HZ.out.symm, Below.refl _ _⟩
  obtain ⟨m, rfl⟩ := Int.eq_ofNat_of_zero_le (show 0 ≤ a by omega)
  have hm : m < kinCount gs := by omega
  go_enter Tryd.func25, Tryd.ntmps25
  go_wp2_with fail
  refine HCnt.out.mono ?_
  rintro e w1 ⟨rfl, rfl⟩
  go_wp2_with fail
  refine HOk.out.mono ?_
  rintro e w2 ⟨rfl, hb2⟩
  have B2 := hide hb2
  clear hb2
  cases hk : kinOkF gs with
  | false =>
    have HZ : Hid (canonF gs m = -1) := by show _ = _; simp [canonF, hk]
    clear hk
    go_wp2_with fail
    go_ret
    exact ⟨ret_int HZ.out.symm, B2.out⟩
  | true =>
    have HZ : Hid (canonF gs m = (canon gs m : Nat)) := by show _ = _; simp [canonF, isTypeF, hk]; omega
    have HPt := hide (kinOk_parts hk)
    clear hk
    go_wp2_with fail
    refine (l1Canon_any ga gc lo hi gs m w2 HPt.out HN.out hc hm (Nat.le_trans hh B2.out.size) (HX.out.keep (B2.out.mono hh))).mono ?_
    rintro e w3 ⟨rfl, hb3⟩
    have B3 := hide (B2.out.trans (hb3.mono B2.out.size))
    clear hb3
    go_wp2_with fail
    go_ret
    exact ⟨ret_int HZ.out.symm, B3.out⟩

set_option maxHeartbeats 1600000 in
theorem specKinSame_any (ga : Option Addr) (gc lo hi : Nat) (gs : List (List Ty)) (a b : Int) (w : World) (hN : Few gs) (hc : gs.length ≤ gc) (hl : lo ≤ hi) (hh : hi ≤ w.heap.size) (hx : GroupsIn w lo hi ga gs) :
    Calls Tryd.prog 24 #[.slice ga gs.length gc, .int .i64 a, .int .i64 b] w fun e w' => e = .returned (.bool (sameB gs a b)) ∧ Below w.heap.size w w' := by
  have n2 := kinCount_le hN
  have HCnt := hide (specKinCount_any ga gc lo hi gs w hN hx)
  have HOk := hide (specKinOk_any ga gc lo hi gs w hN hc hl hh hx)
  have HN := hide hN
  have HX := hide hx
  clear hN hx
  by_cases h : (0 ≤ a ∧ a < (kinCount gs : Int)) ∧ (0 ≤ b ∧ b < (kinCount gs : Int))
  · obtain ⟨⟨a0, a1⟩, b0, b1⟩ := h
    obtain ⟨p, rfl⟩ := Int.eq_ofNat_of_zero_le a0
    obtain ⟨q, rfl⟩ := Int.eq_ofNat_of_zero_le b0
    have HS : Hid (sameB gs p q = (kinOkF gs && same gs p q)) := by
      show _ = _
      have e1 : isTypeF gs (p : Int) = true := by simp [isTypeF]; omega
      have e2 : isTypeF gs (q : Int) = true := by simp [isTypeF]; omega
      unfold sameB; rw [e1, e2]; rfl
    have d1 : decide ((0 : Int) ≤ (p : Int)) = true := by simp
    have d2 : decide ((p : Int) < (kinCount gs : Int)) = true := by simpa using a1
    have d3 : decide ((0 : Int) ≤ (q : Int)) = true := by simp
    have d4 : decide ((q : Int) < (kinCount gs : Int)) = true := by simpa using b1
    go_enter Tryd.func24, Tryd.ntmps24
    go_wp2_with fail
    refine HCnt.out.mono ?_
    rintro e w1 ⟨rfl, rfl⟩
    go_wp2_with fail
    refine HOk.out.mono ?_
    rintro e w2 ⟨rfl, hb2⟩
    have B2 := hide hb2
    clear hb2
    cases hk : kinOkF gs with
    | false =>
      have HZ : Hid (sameB gs p q = false) := by show _ = _; rw [HS.out, hk]; rfl
      clear hk
      go_wp2_with fail
      go_ret
      exact ⟨ret_bool HZ.out.symm, B2.out⟩
    | true =>
      have HZ : Hid (sameB gs p q = same gs p q) := by show _ = _; rw [HS.out, hk]; rfl
      have HPt := hide (kinOk_parts hk)
      clear hk
      go_wp2_with fail
      refine (l1Same_any ga gc lo hi gs p q w2 HPt.out HN.out hc (by omega) (by omega) (Nat.le_trans hh B2.out.size) (HX.out.keep (B2.out.mono hh))).mono ?_
      rintro e w3 ⟨rfl, hb3⟩
      have B3 := hide (B2.out.trans (hb3.mono B2.out.size))
      clear hb3
      go_wp2_with fail
      go_ret
      exact ⟨ret_bool HZ.out.symm, B3.out⟩
  · have HZ : Hid (sameB gs a b = false) := by
      show _ = _
      unfold sameB isTypeF
      by_cases e1 : 0 ≤ a ∧ a < (kinCount gs : Int)
      · have e2 : ¬ (0 ≤ b ∧ b < (kinCount gs : Int)) := fun e => h ⟨e1, e⟩
        have : (decide (0 ≤ b) && decide (b < (kinCount gs : Int))) = false := by
          rw [Bool.eq_false_iff]; intro hh; simp at hh; exact e2 hh
        rw [this]; simp
      · have : (decide (0 ≤ a) && decide (a < (kinCount gs : Int))) = false := by
          rw [Bool.eq_false_iff]; intro hh; simp at hh; exact e1 hh
        rw [this]; simp
    have hh4 : a < 0 ∨ (0 ≤ a ∧ (kinCount gs : Int) ≤ a) ∨ (0 ≤ a ∧ a < (kinCount gs : Int) ∧ b < 0) ∨ (0 ≤ a ∧ a < (kinCount gs : Int) ∧ 0 ≤ b ∧ (kinCount gs : Int) ≤ b) := by omega
    rcases hh4 with h1 | ⟨h1, h2⟩ | ⟨h1, h2, h3⟩ | ⟨h1, h2, h3, h4⟩
    all_goals
      go_enter Tryd.func24, Tryd.ntmps24
      go_wp2_with fail
      refine HCnt.out.mono ?_
      rintro e w1 ⟨rfl, rfl⟩
      go_wp2_with fail
      go_ret
      exact ⟨ret_bool HZ.out.symm, Below.refl _ _⟩

set_option maxHeartbeats 1600000 in
theorem specKinUnder_any (ga : Option Addr) (gc lo hi : Nat) (gs : List (List Ty)) (a b : Int) (w : World) (hN : Few gs) (hc : gs.length ≤ gc) (hl : lo ≤ hi) (hh : hi ≤ w.heap.size) (hx : GroupsIn w lo hi ga gs) :
    Calls Tryd.prog 29 #[.slice ga gs.length gc, .int .i64 a, .int .i64 b] w fun e w' => e = .returned (.bool (underB gs a b)) ∧ Below w.heap.size w w' := by
  have n2 := kinCount_le hN
  have HCnt := hide (specKinCount_any ga gc lo hi gs w hN hx)
  have HOk := hide (specKinOk_any ga gc lo hi gs w hN hc hl hh hx)
  have HN := hide hN
  have HX := hide hx
  have HS : Hid (underB gs a b = (isRefF gs a && (isRefF gs b && (kinOkF gs && under gs a b)))) := rfl
  clear hN hx
  go_enter Tryd.func29, Tryd.ntmps29
  go_wp2_with fail
  refine HCnt.out.mono ?_
  rintro e w1 ⟨rfl, rfl⟩
  go_wp2_with fail
  refine (l1Of_any gs a _ n2).mono ?_
  rintro e w1 ⟨rfl, rfl⟩
  cases h1 : isRefF gs a with
  | false =>
    have HZ : Hid (underB gs a b = false) := by show _ = _; rw [HS.out, h1]; rfl
    clear h1
    go_wp2_with fail
    go_ret
    exact ⟨ret_bool HZ.out.symm, Below.refl _ _⟩
  | true =>
    have H1 := hide h1
    clear h1
    go_wp2_with fail
    refine (l1Of_any gs b _ n2).mono ?_
    rintro e w1 ⟨rfl, rfl⟩
    cases h2 : isRefF gs b with
    | false =>
      have HZ : Hid (underB gs a b = false) := by show _ = _; rw [HS.out, H1.out, h2]; rfl
      clear h2
      go_wp2_with fail
      go_ret
      exact ⟨ret_bool HZ.out.symm, Below.refl _ _⟩
    | true =>
      have H2 := hide h2
      clear h2
      go_wp2_with fail
      refine HOk.out.mono ?_
      rintro e w2 ⟨rfl, hb2⟩
      have B2 := hide hb2
      clear hb2
      cases hk : kinOkF gs with
      | false =>
        have HZ : Hid (underB gs a b = false) := by show _ = _; rw [HS.out, H1.out, H2.out, hk]; rfl
        clear hk
        go_wp2_with fail
        go_ret
        exact ⟨ret_bool HZ.out.symm, B2.out⟩
      | true =>
        have HZ : Hid (underB gs a b = under gs a b) := by show _ = _; rw [HS.out, H1.out, H2.out, hk]; rfl
        have HPt := hide (kinOk_parts hk)
        have h1 := H1.out
        have h2 := H2.out
        unfold isRefF at h1 h2
        simp only [Bool.and_eq_true, decide_eq_true_eq] at h1 h2
        clear hk
        obtain ⟨a0, a1⟩ := h1
        obtain ⟨b0, b1⟩ := h2
        go_wp2_with fail
        refine (l1Under_any ga gc lo hi gs a b w2 HPt.out HN.out hc hl (Nat.le_trans hh B2.out.size) (HX.out.keep (B2.out.mono hh)) a0 a1 b0 b1).mono ?_
        rintro e w3 ⟨rfl, hb3⟩
        have B3 := hide (B2.out.trans (hb3.mono B2.out.size))
        clear hb3
        go_wp2_with fail
        go_ret
        exact ⟨ret_bool HZ.out.symm, B3.out⟩
end Go.Proofs.YtejkebfhiddhmaaDoor

/- FieldUnder of the program and of the model. -/
namespace Go.Proofs.YtejkebfhiddhmaaDoor
open Go.ChangeShapes Go.WideShapes Go.ChangeAt Go.RowKit
set_option linter.unusedVariables false

theorem two_new (w : World) (o0 o1 : Obj) : Below w.heap.size w ((w.alloc o0).alloc o1) := ((Below.refl _ _).alloc (Nat.le_refl _) _).alloc (by simp) _

theorem ofOk_field {gs : List (List Ty)} {f : Fd} (h : fieldOk f.kind f.of (kinCount gs : Nat) = true) : -2 ≤ f.of ∧ (f.of < (kinCount gs : Int) ∨ f.kind = 1) := ofOk_of h

set_option maxHeartbeats 1600000 in
theorem specFieldUnder_any (ga : Option Addr) (gc lo hi : Nat) (gs : List (List Ty)) (f g : Fd) (w : World) (hN : Few gs) (hc : gs.length ≤ gc) (hl : lo ≤ hi) (hh : hi ≤ w.heap.size) (hx : GroupsIn w lo hi ga gs) :
    Calls Tryd.prog 39 #[.slice ga gs.length gc, .agg #[.int .i64 f.kind, .int .i64 f.of, .bool f.mt], .agg #[.int .i64 g.kind, .int .i64 g.of, .bool g.mt]] w fun e w' => e = .returned (.bool (fieldUnderB gs f g)) ∧ Below w.heap.size w w' := by
  have n2 := kinCount_le hN
  have HS : Hid (fieldUnderB gs f g = (fieldOk f.kind f.of (kinCount gs : Nat) && (fieldOk g.kind g.of (kinCount gs : Nat) && (kinOkF gs && sortF gs f g)))) := rfl
  have b0 := two_new w (.cells #[.int .i64 f.kind, .int .i64 f.of, .bool f.mt] 35) (.cells #[.int .i64 g.kind, .int .i64 g.of, .bool g.mt] 35)
  have rf : Rec ((w.alloc (.cells #[.int .i64 f.kind, .int .i64 f.of, .bool f.mt] 35)).alloc (.cells #[.int .i64 g.kind, .int .i64 g.of, .bool g.mt] 35)) w.heap.size 35 [.int .i64 f.kind, .int .i64 f.of, .bool f.mt] := (Rec.new _ _ _).alloc _
  have rg : Rec ((w.alloc (.cells #[.int .i64 f.kind, .int .i64 f.of, .bool f.mt] 35)).alloc (.cells #[.int .i64 g.kind, .int .i64 g.of, .bool g.mt] 35)) (w.heap.size + 1) 35 [.int .i64 g.kind, .int .i64 g.of, .bool g.mt] := Rec.new' _ _ _ _ (by simp)
  have HCnt := hide (fun w1 (hb : Below w.heap.size w w1) => specKinCount_any ga gc lo hi gs w1 hN (hx.keep (hb.mono hh)))
  have HOk := hide (fun w1 (hb : Below w.heap.size w w1) => specKinOk_any ga gc lo hi gs w1 hN hc hl (Nat.le_trans hh hb.size) (hx.keep (hb.mono hh)))
  have HSort := hide (fun (hP : Parts gs) (h1 : -2 ≤ f.of ∧ (f.of < (kinCount gs : Int) ∨ f.kind = 1)) (h2 : -2 ≤ g.of ∧ (g.of < (kinCount gs : Int) ∨ g.kind = 1)) w1 (hb : Below w.heap.size w w1) => l1Sort_any ga gc lo hi gs f g w1 hP hN hc hl (Nat.le_trans hh hb.size) (hx.keep (hb.mono hh)) h1.1 h1.2 h2.1 h2.2)
  have HF := hide (fun (h : fieldOk f.kind f.of (kinCount gs : Nat) = true) => ofOk_field h)
  have HG := hide (fun (h : fieldOk g.kind g.of (kinCount gs : Nat) = true) => ofOk_field h)
  generalize fieldUnderB gs f g = R at *
  generalize sortF gs f g = s at *
  have B0 := hide b0
  have RF := hide rf
  have RG := hide rg
  clear b0 rf rg hN hx
  obtain ⟨fk, fo, fm⟩ := f
  obtain ⟨gk, go, gm⟩ := g
  simp only at HS HSort HF HG B0 RF RG ⊢
  go_enter Tryd.func39, Tryd.ntmps39
  go_wp2_with fail
  refine (HCnt.out _ B0.out).mono ?_
  rintro e w1 ⟨rfl, rfl⟩
  go_wp2_with fail
  refine (specFieldOk_any fk fo _ fm _).mono ?_
  rintro e w1 ⟨rfl, hb1⟩
  have B1 := hide (B0.out.trans (hb1.mono B0.out.size))
  have F1 := hide (RF.out.below hb1 RF.out.lt)
  have G1 := hide (RG.out.below hb1 RG.out.lt)
  clear hb1 B0 RF RG
  cases h1 : fieldOk fk fo (kinCount gs : Nat) with
  | false =>
    have HZ : Hid (R = false) := by show _ = _; rw [HS.out, h1]; rfl
    clear h1
    go_wp2_with fail
    go_ret
    exact ⟨ret_bool HZ.out.symm, B1.out⟩
  | true =>
    have H1 := hide h1
    have g0 := G1.out.cell (o := 0) rfl
    have g1 := G1.out.cell (o := 1) rfl
    have g2 := G1.out.cell (o := 2) rfl
    clear h1
    go_wp2_with fail
    refine (specFieldOk_any gk go _ gm _).mono ?_
    rintro e w2 ⟨rfl, hb2⟩
    have B2 := hide (B1.out.trans (hb2.mono B1.out.size))
    have F2 := hide (F1.out.below hb2 F1.out.lt)
    have G2 := hide (G1.out.below hb2 G1.out.lt)
    clear hb2 B1 F1 G1 g0 g1 g2
    cases h2 : fieldOk gk go (kinCount gs : Nat) with
    | false =>
      have HZ : Hid (R = false) := by show _ = _; rw [HS.out, H1.out, h2]; rfl
      clear h2
      go_wp2_with fail
      go_ret
      exact ⟨ret_bool HZ.out.symm, B2.out⟩
    | true =>
      have H2 := hide h2
      clear h2
      go_wp2_with fail
      refine (HOk.out _ B2.out).mono ?_
      rintro e w3 ⟨rfl, hb3⟩
      have B3 := hide (B2.out.trans (hb3.mono B2.out.size))
      have F3 := hide (F2.out.below hb3 F2.out.lt)
      have G3 := hide (G2.out.below hb3 G2.out.lt)
      clear hb3 B2 F2 G2
      cases hk : kinOkF gs with
      | false =>
        have HZ : Hid (R = false) := by show _ = _; rw [HS.out, H1.out, H2.out, hk]; rfl
        clear hk
        go_wp2_with fail
        go_ret
        exact ⟨ret_bool HZ.out.symm, B3.out⟩
      | true =>
        have HZ : Hid (R = s) := by show _ = _; rw [HS.out, H1.out, H2.out, hk]; rfl
        have HPt := hide (kinOk_parts hk)
        have g0 := G3.out.cell (o := 0) rfl
        have g1 := G3.out.cell (o := 1) rfl
        have g2 := G3.out.cell (o := 2) rfl
        have f0 := F3.out.cell (o := 0) rfl
        have f1 := F3.out.cell (o := 1) rfl
        have f2 := F3.out.cell (o := 2) rfl
        clear hk
        go_wp2_with fail
        refine (HSort.out HPt.out (HF.out H1.out) (HG.out H2.out) _ B3.out).mono ?_
        rintro e w4 ⟨rfl, hb4⟩
        have B4 := hide (B3.out.trans (hb4.mono B3.out.size))
        clear hb4
        go_wp2_with fail
        go_ret
        exact ⟨ret_bool HZ.out.symm, B4.out⟩

theorem fieldUnderB_eq {gs : List (List Ty)} (hk : kinOkF gs = true) (f g : Fd) : fieldUnderB gs f g = fieldUnderF gs f g := by
  unfold fieldUnderB fieldUnderF; rw [hk]; rfl

set_option maxHeartbeats 1600000 in
theorem implFieldUnder_any (ga : Option Addr) (gc lo hi : Nat) (gs : List (List Ty)) (f g : Fd) (w : World) (hN : Few gs) (hl : lo ≤ hi) (hh : hi ≤ w.heap.size) (hx : GroupsIn w lo hi ga gs) (hp : pow10 w) :
    Calls Tryd.prog 36 #[.slice ga gs.length gc, .agg #[.int .i64 f.kind, .int .i64 f.of, .bool f.mt], .agg #[.int .i64 g.kind, .int .i64 g.of, .bool g.mt]] w fun e w' => e = .returned (.bool (fieldUnderB gs f g)) ∧ Below w.heap.size w w' := by
  have b0 := two_new w (.cells #[.int .i64 f.kind, .int .i64 f.of, .bool f.mt] 35) (.cells #[.int .i64 g.kind, .int .i64 g.of, .bool g.mt] 35)
  have rf : Rec ((w.alloc (.cells #[.int .i64 f.kind, .int .i64 f.of, .bool f.mt] 35)).alloc (.cells #[.int .i64 g.kind, .int .i64 g.of, .bool g.mt] 35)) w.heap.size 35 [.int .i64 f.kind, .int .i64 f.of, .bool f.mt] := (Rec.new _ _ _).alloc _
  have rg : Rec ((w.alloc (.cells #[.int .i64 f.kind, .int .i64 f.of, .bool f.mt] 35)).alloc (.cells #[.int .i64 g.kind, .int .i64 g.of, .bool g.mt] 35)) (w.heap.size + 1) 35 [.int .i64 g.kind, .int .i64 g.of, .bool g.mt] := Rec.new' _ _ _ _ (by simp)
  cases hk : kinOkF gs with
  | false =>
    have HC := hide (kinTableOf_no ga gc lo hi gs _ hN hl (Nat.le_trans hh b0.size) (hx.keep (b0.mono hh)) (pow10_keep hp b0) hk)
    have HZ : Hid (fieldUnderB gs f g = false) := by show _ = _; simp [fieldUnderB, hk]
    generalize fieldUnderB gs f g = R at *
    have B0 := hide b0
    clear hN hx hp hk b0 rf rg
    obtain ⟨fk, fo, fm⟩ := f
    obtain ⟨gk, go, gm⟩ := g
    simp only at HC B0 ⊢
    go_enter Tryd.func36, Tryd.ntmps36
    go_wp2_with fail
    refine HC.out.mono ?_
    rintro e w1 ⟨rfl, hb1⟩
    have B1 := hide (B0.out.trans (hb1.mono B0.out.size))
    clear hb1
    go_wp2_with fail
    go_ret
    exact ⟨ret_bool HZ.out.symm, B1.out.alloc B1.out.size _⟩
  | true =>
    have HC := hide (kinTableOf_ok ga gc lo hi gs _ hN hl (Nat.le_trans hh b0.size) (hx.keep (b0.mono hh)) (pow10_keep hp b0) hk)
    have HZ := hide (fieldUnderB_eq hk f g)
    have HPt := hide (kinOk_parts hk)
    have HFU := hide (fun ra rc cb lo' hi' w1 (hT : TabIn w1 lo' hi' ra cb 0 gs) (h : hi' ≤ w1.heap.size) => fieldUnder_any ra rc cb 0 (kinCount gs) lo' hi' gs f g w1 HPt.out hT h)
    generalize fieldUnderB gs f g = R at *
    generalize fieldUnderF gs f g = s at *
    have B0 := hide b0
    have RF := hide rf
    have RG := hide rg
    clear hN hx hp hk b0 rf rg
    obtain ⟨fk, fo, fm⟩ := f
    obtain ⟨gk, go, gm⟩ := g
    simp only at HC B0 RF RG HFU ⊢
    go_enter Tryd.func36, Tryd.ntmps36
    go_wp2_with fail
    refine HC.out.mono ?_
    rintro e w1 ⟨ra, rc, cb, rfl, ht, hb1⟩
    have B1 := hide ((B0.out.trans (hb1.mono B0.out.size)).alloc (by have := B0.out.size; have := hb1.size; omega) (.cells #[.slice ra (kinCount gs) rc, .slice (some ⟨cb, 0, none⟩) (kinCount gs) (kinCount gs)] 64))
    have F1 := hide ((RF.out.below hb1 RF.out.lt).alloc (.cells #[.slice ra (kinCount gs) rc, .slice (some ⟨cb, 0, none⟩) (kinCount gs) (kinCount gs)] 64))
    have G1 := hide ((RG.out.below hb1 RG.out.lt).alloc (.cells #[.slice ra (kinCount gs) rc, .slice (some ⟨cb, 0, none⟩) (kinCount gs) (kinCount gs)] 64))
    have HT := hide (tab_alloc ht (Nat.le_refl _) (.cells #[.slice ra (kinCount gs) rc, .slice (some ⟨cb, 0, none⟩) (kinCount gs) (kinCount gs)] 64))
    have f0 := F1.out.cell (o := 0) rfl
    have f1 := F1.out.cell (o := 1) rfl
    have f2 := F1.out.cell (o := 2) rfl
    have g0 := G1.out.cell (o := 0) rfl
    have g1 := G1.out.cell (o := 1) rfl
    have g2 := G1.out.cell (o := 2) rfl
    clear hb1 B0 RF RG ht
    go_wp2_with fail
    refine (HFU.out ra rc cb _ _ _ HT.out (by simp)).mono ?_
    rintro e w2 ⟨rfl, hb2⟩
    have B2 := hide (B1.out.trans (hb2.mono B1.out.size))
    clear hb2
    go_wp2_with fail
    go_ret
    exact ⟨ret_bool HZ.out.symm, B2.out⟩
end Go.Proofs.YtejkebfhiddhmaaDoor
