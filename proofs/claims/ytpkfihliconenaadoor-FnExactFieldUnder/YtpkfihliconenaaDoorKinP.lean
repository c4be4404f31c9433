/- FieldUnder of the program and of the model. -/
import Derived.Test.YtpkfihliconenaaDoorKinO
namespace Go.Proofs.YtpkfihliconenaaDoor
open Go.ChangeShapes Go.WideShapes Go.ChangeAt Go.RowKit
set_option linter.unusedVariables false

theorem two_new (w : World) (o0 o1 : Obj) : Below w.heap.size w ((w.alloc o0).alloc o1) := ((Below.refl _ _).alloc (Nat.le_refl _) _).alloc (by simp) _

theorem ofOk_field {gs : List (List Ty)} {f : Fd} (h : fieldOk f.kind f.of (kinCount gs : Nat) = true) : -2 ≤ f.of ∧ (f.of < (kinCount gs : Int) ∨ f.kind = 1) := ofOk_of h

set_option maxHeartbeats 1600000 in
theorem specFieldUnder_any (ga : Option Addr) (gc lo hi : Nat) (gs : List (List Ty)) (f g : Fd) (w : World) (hN : Few gs) (hc : gs.length ≤ gc) (hl : lo ≤ hi) (hh : hi ≤ w.heap.size) (hx : GroupsIn w lo hi ga gs) :
    Calls Tryd.prog 26 #[.slice ga gs.length gc, .agg #[.int .i64 f.kind, .int .i64 f.of, .bool f.mt], .agg #[.int .i64 g.kind, .int .i64 g.of, .bool g.mt]] w fun e w' => e = .returned (.bool (fieldUnderB gs f g)) ∧ Below w.heap.size w w' := by
  have n2 := kinCount_le hN
  have HS : Hid (fieldUnderB gs f g = (fieldOk f.kind f.of (kinCount gs : Nat) && (fieldOk g.kind g.of (kinCount gs : Nat) && (kinOkF gs && sortF gs f g)))) := rfl
  have b0 := two_new w (.cells #[.int .i64 f.kind, .int .i64 f.of, .bool f.mt] 40) (.cells #[.int .i64 g.kind, .int .i64 g.of, .bool g.mt] 40)
  have rf : Rec ((w.alloc (.cells #[.int .i64 f.kind, .int .i64 f.of, .bool f.mt] 40)).alloc (.cells #[.int .i64 g.kind, .int .i64 g.of, .bool g.mt] 40)) w.heap.size 40 [.int .i64 f.kind, .int .i64 f.of, .bool f.mt] := (Rec.new _ _ _).alloc _
  have rg : Rec ((w.alloc (.cells #[.int .i64 f.kind, .int .i64 f.of, .bool f.mt] 40)).alloc (.cells #[.int .i64 g.kind, .int .i64 g.of, .bool g.mt] 40)) (w.heap.size + 1) 40 [.int .i64 g.kind, .int .i64 g.of, .bool g.mt] := Rec.new' _ _ _ _ (by simp)
  have HCnt := hide (fun w1 (hb : Below w.heap.size w w1) => specKinCount_any ga gc lo hi gs w1 hN (hx.keep (hb.mono hh)))
  have HOk := hide (fun w1 (hb : Below w.heap.size w w1) => specKinOk_any ga gc lo hi gs w1 hN hc hl (Nat.le_trans hh hb.size) (hx.keep (hb.mono hh)))
  have HSort := hide (fun (hP : Parts gs) (h1 : -2 ≤ f.of ∧ (f.of < (kinCount gs : Int) ∨ f.kind = 1)) (h2 : -2 ≤ g.of ∧ (g.of < (kinCount gs : Int) ∨ g.kind = 1)) w1 (hb : Below w.heap.size w w1) => l1Sort_any ga gc lo hi gs f g w1 hP hN hc hl (Nat.le_trans hh hb.size) (hx.keep (hb.mono hh)) h1.1 h1.2 h2.1 h2.2)
  have HF := hide (fun (h : fieldOk f.kind f.of (kinCount gs : Nat) = true) => ofOk_field h)
  have HG := hide (fun (h : fieldOk g.kind g.of (kinCount gs : Nat) = true) => ofOk_field h)
  generalize fieldUnderB gs f g = R at *
  generalize sortF gs f g = s at *
  have B0 := hide b0
  have RF := hide rf
  have RG := hide rg
  clear b0 rf rg hN hx
  obtain ⟨fk, fo, fm⟩ := f
  obtain ⟨gk, go, gm⟩ := g
  simp only at HS HSort HF HG B0 RF RG ⊢
  go_enter Tryd.func26, Tryd.ntmps26
  go_wp2_with fail
  refine (HCnt.out _ B0.out).mono ?_
  rintro e w1 ⟨rfl, rfl⟩
  go_wp2_with fail
  refine (specFieldOk_any fk fo _ fm _).mono ?_
  rintro e w1 ⟨rfl, hb1⟩
  have B1 := hide (B0.out.trans (hb1.mono B0.out.size))
  have F1 := hide (RF.out.below hb1 RF.out.lt)
  have G1 := hide (RG.out.below hb1 RG.out.lt)
  clear hb1 B0 RF RG
  cases h1 : fieldOk fk fo (kinCount gs : Nat) with
  | false =>
    have HZ : Hid (R = false) := by show _ = _; rw [HS.out, h1]; rfl
    clear h1
    go_wp2_with fail
    go_ret
    exact ⟨ret_bool HZ.out.symm, B1.out⟩
  | true =>
    have H1 := hide h1
    have g0 := G1.out.cell (o := 0) rfl
    have g1 := G1.out.cell (o := 1) rfl
    have g2 := G1.out.cell (o := 2) rfl
    clear h1
    go_wp2_with fail
    refine (specFieldOk_any gk go _ gm _).mono ?_
    rintro e w2 ⟨rfl, hb2⟩
    have B2 := hide (B1.out.trans (hb2.mono B1.out.size))
    have F2 := hide (F1.out.below hb2 F1.out.lt)
    have G2 := hide (G1.out.below hb2 G1.out.lt)
    clear hb2 B1 F1 G1 g0 g1 g2
    cases h2 : fieldOk gk go (kinCount gs : Nat) with
    | false =>
      have HZ : Hid (R = false) := by show _ = _; rw [HS.out, H1.out, h2]; rfl
      clear h2
      go_wp2_with fail
      go_ret
      exact ⟨ret_bool HZ.out.symm, B2.out⟩
    | true =>
      have H2 := hide h2
      clear h2
      go_wp2_with fail
      refine (HOk.out _ B2.out).mono ?_
      rintro e w3 ⟨rfl, hb3⟩
      have B3 := hide (B2.out.trans (hb3.mono B2.out.size))
      have F3 := hide (F2.out.below hb3 F2.out.lt)
      have G3 := hide (G2.out.below hb3 G2.out.lt)
      clear hb3 B2 F2 G2
      cases hk : kinOkF gs with
      | false =>
        have HZ : Hid (R = false) := by show _ = _; rw [HS.out, H1.out, H2.out, hk]; rfl
        clear hk
        go_wp2_with fail
        go_ret
        exact ⟨ret_bool HZ.out.symm, B3.out⟩
      | true =>
        have HZ : Hid (R = s) := by show _ = _; rw [HS.out, H1.out, H2.out, hk]; rfl
        have HPt := hide (kinOk_parts hk)
        have g0 := G3.out.cell (o := 0) rfl
        have g1 := G3.out.cell (o := 1) rfl
        have g2 := G3.out.cell (o := 2) rfl
        have f0 := F3.out.cell (o := 0) rfl
        have f1 := F3.out.cell (o := 1) rfl
        have f2 := F3.out.cell (o := 2) rfl
        clear hk
        go_wp2_with fail
        refine (HSort.out HPt.out (HF.out H1.out) (HG.out H2.out) _ B3.out).mono ?_
        rintro e w4 ⟨rfl, hb4⟩
        have B4 := hide (B3.out.trans (hb4.mono B3.out.size))
        clear hb4
        go_wp2_with fail
        go_ret
        exact ⟨ret_bool HZ.out.symm, B4.out⟩

theorem fieldUnderB_eq {gs : List (List Ty)} (hk : kinOkF gs = true) (f g : Fd) : fieldUnderB gs f g = fieldUnderF gs f g := by
  unfold fieldUnderB fieldUnderF; rw [hk]; rfl

set_option maxHeartbeats 1600000 in
theorem implFieldUnder_any (ga : Option Addr) (gc lo hi : Nat) (gs : List (List Ty)) (f g : Fd) (w : World) (hN : Few gs) (hl : lo ≤ hi) (hh : hi ≤ w.heap.size) (hx : GroupsIn w lo hi ga gs) (hp : pow10 w) :
    Calls Tryd.prog 28 #[.slice ga gs.length gc, .agg #[.int .i64 f.kind, .int .i64 f.of, .bool f.mt], .agg #[.int .i64 g.kind, .int .i64 g.of, .bool g.mt]] w fun e w' => e = .returned (.bool (fieldUnderB gs f g)) ∧ Below w.heap.size w w' := by
  have b0 := two_new w (.cells #[.int .i64 f.kind, .int .i64 f.of, .bool f.mt] 40) (.cells #[.int .i64 g.kind, .int .i64 g.of, .bool g.mt] 40)
  have rf : Rec ((w.alloc (.cells #[.int .i64 f.kind, .int .i64 f.of, .bool f.mt] 40)).alloc (.cells #[.int .i64 g.kind, .int .i64 g.of, .bool g.mt] 40)) w.heap.size 40 [.int .i64 f.kind, .int .i64 f.of, .bool f.mt] := (Rec.new _ _ _).alloc _
  have rg : Rec ((w.alloc (.cells #[.int .i64 f.kind, .int .i64 f.of, .bool f.mt] 40)).alloc (.cells #[.int .i64 g.kind, .int .i64 g.of, .bool g.mt] 40)) (w.heap.size + 1) 40 [.int .i64 g.kind, .int .i64 g.of, .bool g.mt] := Rec.new' _ _ _ _ (by simp)
  cases hk : kinOkF gs with
  | false =>
    have HC := hide (kinTableOf_no ga gc lo hi gs _ hN hl (Nat.le_trans hh b0.size) (hx.keep (b0.mono hh)) (pow10_keep hp b0) hk)
    have HZ : Hid (fieldUnderB gs f g = false) := by show _ = _; simp [fieldUnderB, hk]
    generalize fieldUnderB gs f g = R at *
    have B0 := hide b0
    clear hN hx hp hk b0 rf rg
    obtain ⟨fk, fo, fm⟩ := f
    obtain ⟨gk, go, gm⟩ := g
    simp only at HC B0 ⊢
    go_enter Tryd.func28, Tryd.ntmps28
    go_wp2_with fail
    refine HC.out.mono ?_
    rintro e w1 ⟨rfl, hb1⟩
    have B1 := hide (B0.out.trans (hb1.mono B0.out.size))
    clear hb1
    go_wp2_with fail
    go_ret
    exact ⟨ret_bool HZ.out.symm, B1.out.alloc B1.out.size _⟩
  | true =>
    have HC := hide (kinTableOf_ok ga gc lo hi gs _ hN hl (Nat.le_trans hh b0.size) (hx.keep (b0.mono hh)) (pow10_keep hp b0) hk)
    have HZ := hide (fieldUnderB_eq hk f g)
    have HPt := hide (kinOk_parts hk)
    have HFU := hide (fun ra rc cb lo' hi' w1 (hT : TabIn w1 lo' hi' ra cb 0 gs) (h : hi' ≤ w1.heap.size) => fieldUnder_any ra rc cb 0 (kinCount gs) lo' hi' gs f g w1 HPt.out hT h)
    generalize fieldUnderB gs f g = R at *
    generalize fieldUnderF gs f g = s at *
    have B0 := hide b0
    have RF := hide rf
    have RG := hide rg
    clear hN hx hp hk b0 rf rg
    obtain ⟨fk, fo, fm⟩ := f
    obtain ⟨gk, go, gm⟩ := g
    simp only at HC B0 RF RG HFU ⊢
    go_enter Tryd.func28, Tryd.ntmps28
    go_wp2_with fail
    refine HC.out.mono ?_
    rintro e w1 ⟨ra, rc, cb, rfl, ht, hb1⟩
    have B1 := hide ((B0.out.trans (hb1.mono B0.out.size)).alloc (by have := B0.out.size; have := hb1.size; omega) (.cells #[.slice ra (kinCount gs) rc, .slice (some ⟨cb, 0, none⟩) (kinCount gs) (kinCount gs)] 54))
    have F1 := hide ((RF.out.below hb1 RF.out.lt).alloc (.cells #[.slice ra (kinCount gs) rc, .slice (some ⟨cb, 0, none⟩) (kinCount gs) (kinCount gs)] 54))
    have G1 := hide ((RG.out.below hb1 RG.out.lt).alloc (.cells #[.slice ra (kinCount gs) rc, .slice (some ⟨cb, 0, none⟩) (kinCount gs) (kinCount gs)] 54))
    have HT := hide (tab_alloc ht (Nat.le_refl _) (.cells #[.slice ra (kinCount gs) rc, .slice (some ⟨cb, 0, none⟩) (kinCount gs) (kinCount gs)] 54))
    have f0 := F1.out.cell (o := 0) rfl
    have f1 := F1.out.cell (o := 1) rfl
    have f2 := F1.out.cell (o := 2) rfl
    have g0 := G1.out.cell (o := 0) rfl
    have g1 := G1.out.cell (o := 1) rfl
    have g2 := G1.out.cell (o := 2) rfl
    clear hb1 B0 RF RG ht
    go_wp2_with fail
    refine (HFU.out ra rc cb _ _ _ HT.out (by simp)).mono ?_
    rintro e w2 ⟨rfl, hb2⟩
    have B2 := hide (B1.out.trans (hb2.mono B1.out.size))
    clear hb2
    go_wp2_with fail
    go_ret
    exact ⟨ret_bool HZ.out.symm, B2.out⟩
end Go.Proofs.YtpkfihliconenaaDoor
