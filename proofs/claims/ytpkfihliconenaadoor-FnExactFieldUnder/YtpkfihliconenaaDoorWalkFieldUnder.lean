/- The law FnExactFieldUnder, walked. -/
import Derived.Test.YtpkfihliconenaaDoorKinP
import Derived.Test.YtpkfihliconenaaDoorFieldOk
import Derived.Test.YtpkfihliconenaaDoorSz
import Derived.Test.YtpkfihliconenaaDoorEq
import Derived.Test.YtpkfihliconenaaDoorOpen
namespace Go.Proofs.YtpkfihliconenaaDoor
open Go.ChangeShapes Go.WideShapes Go.ChangeAt Go.RowKit
set_option linter.unusedVariables false

/-- Groups in blocks of their own, from lo on. -/
def GN (w : World) (lo : Nat) (n : Option Addr) (gs : List (List Ty)) : Prop := ∃ hi, lo ≤ hi ∧ hi ≤ w.heap.size ∧ GroupsNew w lo hi n gs
theorem GN.below {w w' : World} {lo : Nat} {n : Option Addr} {gs : List (List Ty)} (h : GN w lo n gs) (hb : Below w.heap.size w w') : GN w' lo n gs := by
  obtain ⟨hi, h1, h2, h3⟩ := h
  exact ⟨hi, h1, Nat.le_trans h2 hb.size, h3.keep (hb.mono h2)⟩
theorem specFieldUnder_new (n : Option Addr) (lo : Nat) (gs : List (List Ty)) (fk fo : Int) (fm : Bool) (gk go : Int) (gm : Bool) (w : World) (hN : Few gs) (hx : GN w lo n gs) :
    Calls Tryd.prog 26 #[.slice n gs.length gs.length, .agg #[.int .i64 fk, .int .i64 fo, .bool fm], .agg #[.int .i64 gk, .int .i64 go, .bool gm]] w fun e w' => e = .returned (.bool (fieldUnderB gs ⟨fk, fo, fm⟩ ⟨gk, go, gm⟩)) ∧ Below w.heap.size w w' := by
  obtain ⟨hi, h1, h2, h3⟩ := hx
  exact specFieldUnder_any n gs.length lo hi gs ⟨fk, fo, fm⟩ ⟨gk, go, gm⟩ w hN (Nat.le_refl _) h1 h2 h3.plain
theorem implFieldUnder_new (n : Option Addr) (lo : Nat) (gs : List (List Ty)) (fk fo : Int) (fm : Bool) (gk go : Int) (gm : Bool) (w : World) (hN : Few gs) (hx : GN w lo n gs) (hp : pow10 w) :
    Calls Tryd.prog 28 #[.slice n gs.length gs.length, .agg #[.int .i64 fk, .int .i64 fo, .bool fm], .agg #[.int .i64 gk, .int .i64 go, .bool gm]] w fun e w' => e = .returned (.bool (fieldUnderB gs ⟨fk, fo, fm⟩ ⟨gk, go, gm⟩)) ∧ Below w.heap.size w w' := by
  obtain ⟨hi, h1, h2, h3⟩ := hx
  exact implFieldUnder_any n gs.length lo hi gs ⟨fk, fo, fm⟩ ⟨gk, go, gm⟩ w hN h1 h2 h3.plain hp

set_option maxHeartbeats 3200000 in
set_option maxRecDepth 100000 in
theorem fnExactFieldUnder_walk (a : Option Addr) (cap : Nat) (gs : List (List Ty)) (fk fo : Int) (fm : Bool) (gk go : Int) (gm : Bool) (w : World) (hl : Lens gs) (hx : GroupsIn w 0 w.heap.size a gs) (hp : pow10 w) :
    Calls Tryd.prog 8 #[.slice a gs.length cap, .agg #[.int .i64 fk, .int .i64 fo, .bool fm], .agg #[.int .i64 gk, .int .i64 go, .bool gm]] w fun e w' => e = .returned (.bool true) ∧ Below w.heap.size w w' := by
  have HX := hide hx
  have HP := hide hp
  have HLn := hide hl
  have b0 := two_new w (.cells #[.int .i64 fk, .int .i64 fo, .bool fm] 38) (.cells #[.int .i64 gk, .int .i64 go, .bool gm] 38)
  have rf : Rec ((w.alloc (.cells #[.int .i64 fk, .int .i64 fo, .bool fm] 38)).alloc (.cells #[.int .i64 gk, .int .i64 go, .bool gm] 38)) w.heap.size 38 [.int .i64 fk, .int .i64 fo, .bool fm] := (Rec.new _ _ _).alloc _
  have rg : Rec ((w.alloc (.cells #[.int .i64 fk, .int .i64 fo, .bool fm] 38)).alloc (.cells #[.int .i64 gk, .int .i64 go, .bool gm] 38)) (w.heap.size + 1) 38 [.int .i64 gk, .int .i64 go, .bool gm] := Rec.new' _ _ _ _ (by simp)
  have BB := hide b0
  have RF := hide rf
  have RG := hide rg
  clear hx hp hl b0 rf rg
  go_enter Tryd.func8, Tryd.ntmps8
  go_wp2_with fail
  refine (szTypeSS_any a cap 0 w.heap.size gs 1048576 _ HLn.out (HX.out.keep BB.out) BB.out.size (by omega) (by omega)).mono ?_
  rintro e w0 ⟨r, rfl, r1, r2, r3, hb0⟩
  have B0 := hide (BB.out.trans (hb0.mono BB.out.size))
  have F0 := hide (RF.out.below hb0 RF.out.lt)
  have G0 := hide (RG.out.below hb0 RG.out.lt)
  clear hb0 BB RF RG
  by_cases hr : r < 0
  · clear r3
    go_wp2_with fail
    go_ret
    exact ⟨rfl, B0.out⟩
  have hf := hide (r3 (by omega))
  clear r3
  have f0 := F0.out.cell (o := 0) rfl
  have f1 := F0.out.cell (o := 1) rfl
  have f2 := F0.out.cell (o := 2) rfl
  have g0 := G0.out.cell (o := 0) rfl
  have g1 := G0.out.cell (o := 1) rfl
  have g2 := G0.out.cell (o := 2) rfl
  go_wp2_with fail
  go_region_held3 (fun w' => (w'.cell? ⟨w.heap.size, 0, none⟩ = some (.int .i64 fk) ∧ w'.cell? ⟨w.heap.size, 1, none⟩ = some (.int .i64 fo) ∧ w'.cell? ⟨w.heap.size, 2, none⟩ = some (.bool fm)) ∧ (w'.cell? ⟨w.heap.size + 1, 0, none⟩ = some (.int .i64 gk) ∧ w'.cell? ⟨w.heap.size + 1, 1, none⟩ = some (.int .i64 go) ∧ w'.cell? ⟨w.heap.size + 1, 2, none⟩ = some (.bool gm)))
    (go_keep)
    ((first
      | (go_at_call 11; refine (toTypeSS_any a cap 0 w.heap.size gs _ hf.out (HX.out.keep B0.out.drew) B0.out.drew.size).mono ?_; rintro e w1 ⟨n1, rfl, hx1, hb1⟩; have B1 := hide (B0.out.drew.trans (hb1.mono B0.out.size)); have F1 : Hid (Rec w1 w.heap.size 38 [.int .i64 fk, .int .i64 fo, .bool fm]) := Rec.below (w := w0.drew) F0.out hb1 F0.out.lt; have G1 : Hid (Rec w1 (w.heap.size + 1) 38 [.int .i64 gk, .int .i64 go, .bool gm]) := Rec.below (w := w0.drew) G0.out hb1 G0.out.lt; have X1 : Hid (GN w1 w0.heap.size n1 gs) := ⟨_, hb1.size, Nat.le_refl _, hx1⟩; clear hx1 hb1; have f0 := F1.out.cell (o := 0) rfl; have f1 := F1.out.cell (o := 1) rfl; have f2 := F1.out.cell (o := 2) rfl; have g0 := G1.out.cell (o := 0) rfl; have g1 := G1.out.cell (o := 1) rfl; have g2 := G1.out.cell (o := 2) rfl)
      | (go_at_call 27; refine (toField_any _ _ _ _).mono ?_; rintro e w2 ⟨rfl, hb2⟩; have B1 := hide (B1.out.trans (hb2.mono B1.out.size)); have F1 := hide (F1.out.below hb2 F1.out.lt); have G1 := hide (G1.out.below hb2 G1.out.lt); have X1 := hide (X1.out.below hb2); clear hb2; have f0 := F1.out.cell (o := 0) rfl; have f1 := F1.out.cell (o := 1) rfl; have f2 := F1.out.cell (o := 2) rfl; have g0 := G1.out.cell (o := 0) rfl; have g1 := G1.out.cell (o := 1) rfl; have g2 := G1.out.cell (o := 2) rfl)
      | (go_at_call 26; refine (specFieldUnder_new _ _ gs _ _ _ _ _ _ _ hf.out X1.out).mono ?_; rintro e w2 ⟨rfl, hb2⟩; have B1 := hide (B1.out.trans (hb2.mono B1.out.size)); have F1 := hide (F1.out.below hb2 F1.out.lt); have G1 := hide (G1.out.below hb2 G1.out.lt); have X1 := hide (X1.out.below hb2); clear hb2; have f0 := F1.out.cell (o := 0) rfl; have f1 := F1.out.cell (o := 1) rfl; have f2 := F1.out.cell (o := 2) rfl; have g0 := G1.out.cell (o := 0) rfl; have g1 := G1.out.cell (o := 1) rfl; have g2 := G1.out.cell (o := 2) rfl)))
  rename_i hHeld
  clear hHeld X1
  go_wp2_with fail
  refine (toTypeSS_any a cap 0 w.heap.size gs _ hf.out (HX.out.keep B1.out) B1.out.size).mono ?_
  rintro e w3 ⟨n3, rfl, hx3, hb3⟩
  have X3 : Hid (GN w3 _ n3 gs) := ⟨_, hb3.size, Nat.le_refl _, hx3⟩
  have B3 := hide (B1.out.trans (hb3.mono B1.out.size))
  have F3 := hide (F1.out.below hb3 F1.out.lt)
  have G3 := hide (G1.out.below hb3 G1.out.lt)
  clear hx3 hb3
  have f0 := F3.out.cell (o := 0) rfl
  have f1 := F3.out.cell (o := 1) rfl
  have f2 := F3.out.cell (o := 2) rfl
  have g0 := G3.out.cell (o := 0) rfl
  have g1 := G3.out.cell (o := 1) rfl
  have g2 := G3.out.cell (o := 2) rfl
  have B1 := hide B3.out.drew
  have F1 : Hid (Rec w3.drew w.heap.size 38 [.int .i64 fk, .int .i64 fo, .bool fm]) := F3.out
  have G1 : Hid (Rec w3.drew (w.heap.size + 1) 38 [.int .i64 gk, .int .i64 go, .bool gm]) := G3.out
  have X1 : Hid (GN w3.drew _ n3 gs) := X3.out
  clear B3 F3 G3 X3
  go_wp2_with fail
  go_region_held3 (fun w' => (w'.cell? ⟨w.heap.size, 0, none⟩ = some (.int .i64 fk) ∧ w'.cell? ⟨w.heap.size, 1, none⟩ = some (.int .i64 fo) ∧ w'.cell? ⟨w.heap.size, 2, none⟩ = some (.bool fm)) ∧ (w'.cell? ⟨w.heap.size + 1, 0, none⟩ = some (.int .i64 gk) ∧ w'.cell? ⟨w.heap.size + 1, 1, none⟩ = some (.int .i64 go) ∧ w'.cell? ⟨w.heap.size + 1, 2, none⟩ = some (.bool gm)))
    (go_keep)
    ((first
      | (go_at_call 27; refine (toField_any _ _ _ _).mono ?_; rintro e w2 ⟨rfl, hb2⟩; have B1 := hide (B1.out.trans (hb2.mono B1.out.size)); have F1 := hide (F1.out.below hb2 F1.out.lt); have G1 := hide (G1.out.below hb2 G1.out.lt); have X1 := hide (X1.out.below hb2); clear hb2; have f0 := F1.out.cell (o := 0) rfl; have f1 := F1.out.cell (o := 1) rfl; have f2 := F1.out.cell (o := 2) rfl; have g0 := G1.out.cell (o := 0) rfl; have g1 := G1.out.cell (o := 1) rfl; have g2 := G1.out.cell (o := 2) rfl)
      | (go_at_call 28; refine (implFieldUnder_new _ _ gs _ _ _ _ _ _ _ hf.out X1.out (pow10_keep HP.out B1.out)).mono ?_; rintro e w2 ⟨rfl, hb2⟩; have B1 := hide (B1.out.trans (hb2.mono B1.out.size)); have F1 := hide (F1.out.below hb2 F1.out.lt); have G1 := hide (G1.out.below hb2 G1.out.lt); have X1 := hide (X1.out.below hb2); clear hb2; have f0 := F1.out.cell (o := 0) rfl; have f1 := F1.out.cell (o := 1) rfl; have f2 := F1.out.cell (o := 2) rfl; have g0 := G1.out.cell (o := 0) rfl; have g1 := G1.out.cell (o := 1) rfl; have g2 := G1.out.cell (o := 2) rfl)))
  rename_i hHeld
  clear hHeld
  clear f0 f1 f2 g0 g1 g2
  generalize fieldUnderB gs ⟨fk, fo, fm⟩ ⟨gk, go, gm⟩ = R
  go_wp2_with fail
  refine (toTypeSS_any a cap 0 w.heap.size gs _ hf.out (HX.out.keep B1.out) B1.out.size).mono ?_
  rintro e w5 ⟨n5, rfl, hx5, hb5⟩
  have X5 : Hid (GN w5 _ n5 gs) := ⟨_, hb5.size, Nat.le_refl _, hx5⟩
  have X6 := hide (X1.out.below hb5)
  have B5 := hide (B1.out.trans (hb5.mono B1.out.size))
  clear hx5 hb5
  go_wp2_with fail
  obtain ⟨h6, p1, p2, p3⟩ := X6.out
  obtain ⟨h5, p4, p5, p6⟩ := X5.out
  refine (eqTypeSS_same n3 n5 _ _ _ _ _ _ gs _ hf.out p3.plain p6.plain p2 p5).mono ?_
  rintro e w6 ⟨rfl, hb6⟩
  have B6 := hide (B5.out.trans (hb6.mono B5.out.size))
  clear hb6
  go_wp2_with fail
  go_ret
  exact ⟨rfl, B6.out⟩
end Go.Proofs.YtpkfihliconenaaDoor
