/- The law FnExactValFits, walked. -/
import Derived.Test.YtlmciclkfmeepaaDoorValC
import Derived.Test.YtlmciclkfmeepaaDoorValE
import Derived.Test.YtlmciclkfmeepaaDoorFieldOk
import Derived.Test.YtlmciclkfmeepaaDoorSz
import Derived.Test.YtlmciclkfmeepaaDoorEq
import Derived.Test.YtlmciclkfmeepaaDoorOpen
namespace Go.Proofs.YtlmciclkfmeepaaDoor
open Go.ChangeShapes Go.WideShapes Go.ChangeAt Go.RowKit
set_option linter.unusedVariables false

/-- Groups in blocks of their own, from lo on. -/
def GN (w : World) (lo : Nat) (n : Option Addr) (gs : List (List Ty)) : Prop := ∃ hi, lo ≤ hi ∧ hi ≤ w.heap.size ∧ GroupsNew w lo hi n gs
theorem GN.below {w w' : World} {lo : Nat} {n : Option Addr} {gs : List (List Ty)} (h : GN w lo n gs) (hb : Below w.heap.size w w') : GN w' lo n gs := by
  obtain ⟨hi, h1, h2, h3⟩ := h
  exact ⟨hi, h1, Nat.le_trans h2 hb.size, h3.keep (hb.mono h2)⟩
/-- Things in blocks of their own, from lo on. -/
def TN (w : World) (lo : Nat) (n : Option Addr) (xs : List GThing) : Prop := ∃ hi, lo ≤ hi ∧ hi ≤ w.heap.size ∧ ThingsM true w lo hi n xs
theorem TN.below {w w' : World} {lo : Nat} {n : Option Addr} {xs : List GThing} (h : TN w lo n xs) (hb : Below w.heap.size w w') : TN w' lo n xs := by
  obtain ⟨hi, h1, h2, h3⟩ := h
  exact ⟨hi, h1, Nat.le_trans h2 hb.size, h3.keep (hb.mono h2)⟩
theorem toVal_kn (k n : Int) (w : World) : Calls Tryd.prog 10 #[.agg #[.int .i64 k, .int .i64 n]] w fun e w' => e = .returned (.agg #[.int .i64 k, .int .i64 n]) ∧ Below w.heap.size w w' := toVal_any ⟨k, n⟩ w
theorem things_le {xs : List GThing} (h : ThingsB 1048576 xs) : xs.length ≤ 1048576 := h.1
theorem specValFits_new (na nb : Option Addr) (lo lo' : Nat) (gs : List (List Ty)) (xs : List GThing) (k n : Int) (fk fo : Int) (fm : Bool) (w : World) (hN : Few gs) (hB : ThingsB 1048576 xs) (hx : GN w lo na gs) (hy : TN w lo' nb xs) :
    Calls Tryd.prog 7 #[.slice na gs.length gs.length, .slice nb xs.length xs.length, .agg #[.int .i64 k, .int .i64 n], .agg #[.int .i64 fk, .int .i64 fo, .bool fm]] w fun e w' => e = .returned (.bool (valFitsF gs xs k n ⟨fk, fo, fm⟩)) ∧ Below w.heap.size w w' := by
  obtain ⟨hi, h1, h2, h3⟩ := hx
  obtain ⟨hi', h4, h5, h6⟩ := hy
  exact specValFits_any na gs.length lo hi nb xs.length lo' hi' gs xs k n fk fo fm w hN (Nat.le_refl _) h1 h2 h3.plain hB.1 h6 h5
theorem implValFits_new (na nb : Option Addr) (lo lo' : Nat) (gs : List (List Ty)) (xs : List GThing) (k n : Int) (fk fo : Int) (fm : Bool) (w : World) (hN : Few gs) (hB : ThingsB 1048576 xs) (hx : GN w lo na gs) (hy : TN w lo' nb xs) (hp : pow10 w) :
    Calls Tryd.prog 12 #[.slice na gs.length gs.length, .slice nb xs.length xs.length, .agg #[.int .i64 k, .int .i64 n], .agg #[.int .i64 fk, .int .i64 fo, .bool fm]] w fun e w' => e = .returned (.bool (valFitsF gs xs k n ⟨fk, fo, fm⟩)) ∧ Below w.heap.size w w' := by
  obtain ⟨hi, h1, h2, h3⟩ := hx
  obtain ⟨hi', h4, h5, h6⟩ := hy
  exact implValFits_any na gs.length lo hi nb xs.length lo' hi' gs xs k n fk fo fm w hN  h1 h2 h3.plain hB.1 h6 h5 hp

set_option maxHeartbeats 6400000 in
set_option maxRecDepth 100000 in
theorem fnExactValFits_walk (a : Option Addr) (cap : Nat) (gs : List (List Ty)) (ta : Option Addr) (tc : Nat) (xs : List GThing) (k n : Int) (fk fo : Int) (fm : Bool) (w : World) (hl : Lens gs) (hx : GroupsIn w 0 w.heap.size a gs) (hlt : ThingsB 9223372036854775807 xs) (hy : ThingsM false w 0 w.heap.size ta xs) (hp : pow10 w) :
    Calls Tryd.prog 3 #[.slice a gs.length cap, .slice ta xs.length tc, .agg #[.int .i64 k, .int .i64 n], .agg #[.int .i64 fk, .int .i64 fo, .bool fm]] w fun e w' => e = .returned (.bool true) ∧ Below w.heap.size w w' := by
  have b0 := two_below w (.cells #[.int .i64 k, .int .i64 n] 25) (.cells #[.int .i64 fk, .int .i64 fo, .bool fm] 27)
  have rv : Rec ((w.alloc (.cells #[.int .i64 k, .int .i64 n] 25)).alloc (.cells #[.int .i64 fk, .int .i64 fo, .bool fm] 27)) w.heap.size 25 [.int .i64 k, .int .i64 n] := (Rec.new _ _ _).alloc _
  have rf : Rec ((w.alloc (.cells #[.int .i64 k, .int .i64 n] 25)).alloc (.cells #[.int .i64 fk, .int .i64 fo, .bool fm] 27)) (w.heap.size + 1) 27 [.int .i64 fk, .int .i64 fo, .bool fm] := Rec.new' _ _ _ _ (by simp)
  have HX := hide hx
  have HP := hide hp
  have HLn := hide hl
  have HLt := hide hlt
  have HY := hide hy
  have BB := hide b0
  have RV := hide rv
  have RF := hide rf
  clear hx hp hl hlt hy b0 rv rf
  go_enter Tryd.func3, Tryd.ntmps3
  go_wp2_with fail
  refine (szTypeSS_any a cap 0 w.heap.size gs 1048576 _ HLn.out (HX.out.keep BB.out) BB.out.size (by omega) (by omega)).mono ?_
  rintro e w0 ⟨r, rfl, r1, r2, r3, hb0⟩
  have B0 := hide (BB.out.trans (hb0.mono BB.out.size))
  have V0 := hide (RV.out.below hb0 RV.out.lt)
  have F0 := hide (RF.out.below hb0 RF.out.lt)
  clear hb0 BB RV RF
  by_cases hr : r < 0
  · clear r3
    go_wp2_with fail
    go_ret
    exact ⟨rfl, B0.out⟩
  have hf := hide (r3 (by omega))
  clear r3
  go_wp2_with fail
  refine (szThingS_g ta tc 0 w.heap.size xs r w0 HLt.out (HY.out.keep B0.out) B0.out.size (by omega) (by omega)).mono ?_
  rintro e w9 ⟨r', rfl, r4, r5, r6, hb9⟩
  have B9 := hide (B0.out.trans (hb9.mono B0.out.size))
  have V9 := hide (V0.out.below hb9 V0.out.lt)
  have F9 := hide (F0.out.below hb9 F0.out.lt)
  clear hb9 B0 V0 F0
  by_cases hr' : r' < 0
  · clear r6
    go_wp2_with fail
    go_ret
    exact ⟨rfl, B9.out⟩
  have hB := hide (r6 (by omega))
  clear r6
  have v0 := V9.out.cell (o := 0) rfl
  have v1 := V9.out.cell (o := 1) rfl
  have f0 := F9.out.cell (o := 0) rfl
  have f1 := F9.out.cell (o := 1) rfl
  have f2 := F9.out.cell (o := 2) rfl
  go_wp2_with fail
  go_region_held3 (fun w' => (w'.cell? ⟨w.heap.size, 0, none⟩ = some (.int .i64 k) ∧ w'.cell? ⟨w.heap.size, 1, none⟩ = some (.int .i64 n)) ∧ (w'.cell? ⟨w.heap.size + 1, 0, none⟩ = some (.int .i64 fk) ∧ w'.cell? ⟨w.heap.size + 1, 1, none⟩ = some (.int .i64 fo) ∧ w'.cell? ⟨w.heap.size + 1, 2, none⟩ = some (.bool fm)))
    (go_keep)
    ((first
      | (go_at_call 8; refine (toTypeSS_any a cap 0 w.heap.size gs _ hf.out (HX.out.keep B9.out.drew) B9.out.drew.size).mono ?_; rintro e w1 ⟨n1, rfl, hx1, hb1⟩; have B1 := hide (B9.out.drew.trans (hb1.mono B9.out.size)); have V1 : Hid (Rec w1 w.heap.size 25 [.int .i64 k, .int .i64 n]) := Rec.below (w := w9.drew) V9.out hb1 V9.out.lt; have F1 : Hid (Rec w1 (w.heap.size + 1) 27 [.int .i64 fk, .int .i64 fo, .bool fm]) := Rec.below (w := w9.drew) F9.out hb1 F9.out.lt; have X1 : Hid (GN w1 w9.heap.size n1 gs) := ⟨_, hb1.size, Nat.le_refl _, hx1⟩; clear hx1 hb1; have v0 := V1.out.cell (o := 0) rfl; have v1 := V1.out.cell (o := 1) rfl; have f0 := F1.out.cell (o := 0) rfl; have f1 := F1.out.cell (o := 1) rfl; have f2 := F1.out.cell (o := 2) rfl)
      | (go_at_call 9; refine (toThingS_g ta tc 0 w.heap.size xs _ hB.out (HY.out.keep B1.out) B1.out.size).mono ?_; rintro e w2 ⟨n2, rfl, hy2, hb2⟩; have B1 := hide (B1.out.trans (hb2.mono B1.out.size)); have V1 := hide (V1.out.below hb2 V1.out.lt); have F1 := hide (F1.out.below hb2 F1.out.lt); have X1 := hide (X1.out.below hb2); have Y1 : Hid (TN w2 _ n2 xs) := ⟨_, hb2.size, Nat.le_refl _, hy2⟩; clear hb2 hy2; have v0 := V1.out.cell (o := 0) rfl; have v1 := V1.out.cell (o := 1) rfl; have f0 := F1.out.cell (o := 0) rfl; have f1 := F1.out.cell (o := 1) rfl; have f2 := F1.out.cell (o := 2) rfl)
      | (go_at_call 10; refine (toVal_kn _ _ _).mono ?_; rintro e w2 ⟨rfl, hb2⟩; have B1 := hide (B1.out.trans (hb2.mono B1.out.size)); have V1 := hide (V1.out.below hb2 V1.out.lt); have F1 := hide (F1.out.below hb2 F1.out.lt); have X1 := hide (X1.out.below hb2); have Y1 := hide (Y1.out.below hb2); clear hb2; have v0 := V1.out.cell (o := 0) rfl; have v1 := V1.out.cell (o := 1) rfl; have f0 := F1.out.cell (o := 0) rfl; have f1 := F1.out.cell (o := 1) rfl; have f2 := F1.out.cell (o := 2) rfl)
      | (go_at_call 11; refine (toField_any _ _ _ _).mono ?_; rintro e w2 ⟨rfl, hb2⟩; have B1 := hide (B1.out.trans (hb2.mono B1.out.size)); have V1 := hide (V1.out.below hb2 V1.out.lt); have F1 := hide (F1.out.below hb2 F1.out.lt); have X1 := hide (X1.out.below hb2); have Y1 := hide (Y1.out.below hb2); clear hb2; have v0 := V1.out.cell (o := 0) rfl; have v1 := V1.out.cell (o := 1) rfl; have f0 := F1.out.cell (o := 0) rfl; have f1 := F1.out.cell (o := 1) rfl; have f2 := F1.out.cell (o := 2) rfl)
      | (go_at_call 7; refine (specValFits_new _ _ _ _ gs xs _ _ _ _ _ _ hf.out hB.out X1.out Y1.out).mono ?_; rintro e w2 ⟨rfl, hb2⟩; have B1 := hide (B1.out.trans (hb2.mono B1.out.size)); have V1 := hide (V1.out.below hb2 V1.out.lt); have F1 := hide (F1.out.below hb2 F1.out.lt); have X1 := hide (X1.out.below hb2); have Y1 := hide (Y1.out.below hb2); clear hb2; have v0 := V1.out.cell (o := 0) rfl; have v1 := V1.out.cell (o := 1) rfl; have f0 := F1.out.cell (o := 0) rfl; have f1 := F1.out.cell (o := 1) rfl; have f2 := F1.out.cell (o := 2) rfl)))
  rename_i hHeld
  clear hHeld X1 Y1
  go_wp2_with fail
  refine (toTypeSS_any a cap 0 w.heap.size gs _ hf.out (HX.out.keep B1.out) B1.out.size).mono ?_
  rintro e w3 ⟨n3, rfl, hx3, hb3⟩
  have X3 : Hid (GN w3 _ n3 gs) := ⟨_, hb3.size, Nat.le_refl _, hx3⟩
  have B3 := hide (B1.out.trans (hb3.mono B1.out.size))
  have V3 := hide (V1.out.below hb3 V1.out.lt)
  have F3 := hide (F1.out.below hb3 F1.out.lt)
  clear hx3 hb3
  go_wp2_with fail
  refine (toThingS_g ta tc 0 w.heap.size xs _ hB.out (HY.out.keep B3.out) B3.out.size).mono ?_
  rintro e w4 ⟨n4, rfl, hy4, hb4⟩
  have Y4 : Hid (TN w4 _ n4 xs) := ⟨_, hb4.size, Nat.le_refl _, hy4⟩
  have X4 := hide (X3.out.below hb4)
  have B4 := hide (B3.out.trans (hb4.mono B3.out.size))
  have V4 := hide (V3.out.below hb4 V3.out.lt)
  have F4 := hide (F3.out.below hb4 F3.out.lt)
  clear hy4 hb4
  have v0 := V4.out.cell (o := 0) rfl
  have v1 := V4.out.cell (o := 1) rfl
  have f0 := F4.out.cell (o := 0) rfl
  have f1 := F4.out.cell (o := 1) rfl
  have f2 := F4.out.cell (o := 2) rfl
  have B1 := hide B4.out.drew
  have V1 : Hid (Rec w4.drew w.heap.size 25 [.int .i64 k, .int .i64 n]) := V4.out
  have F1 : Hid (Rec w4.drew (w.heap.size + 1) 27 [.int .i64 fk, .int .i64 fo, .bool fm]) := F4.out
  have X1 : Hid (GN w4.drew _ n3 gs) := X4.out
  have Y1 : Hid (TN w4.drew _ n4 xs) := Y4.out
  clear B3 B4 V3 V4 X3 X4 Y4 F3 F4
  go_wp2_with fail
  go_region_held3 (fun w' => (w'.cell? ⟨w.heap.size, 0, none⟩ = some (.int .i64 k) ∧ w'.cell? ⟨w.heap.size, 1, none⟩ = some (.int .i64 n)) ∧ (w'.cell? ⟨w.heap.size + 1, 0, none⟩ = some (.int .i64 fk) ∧ w'.cell? ⟨w.heap.size + 1, 1, none⟩ = some (.int .i64 fo) ∧ w'.cell? ⟨w.heap.size + 1, 2, none⟩ = some (.bool fm)))
    (go_keep)
    ((first
      | (go_at_call 10; refine (toVal_kn _ _ _).mono ?_; rintro e w2 ⟨rfl, hb2⟩; have B1 := hide (B1.out.trans (hb2.mono B1.out.size)); have V1 := hide (V1.out.below hb2 V1.out.lt); have F1 := hide (F1.out.below hb2 F1.out.lt); have X1 := hide (X1.out.below hb2); have Y1 := hide (Y1.out.below hb2); clear hb2; have v0 := V1.out.cell (o := 0) rfl; have v1 := V1.out.cell (o := 1) rfl; have f0 := F1.out.cell (o := 0) rfl; have f1 := F1.out.cell (o := 1) rfl; have f2 := F1.out.cell (o := 2) rfl)
      | (go_at_call 11; refine (toField_any _ _ _ _).mono ?_; rintro e w2 ⟨rfl, hb2⟩; have B1 := hide (B1.out.trans (hb2.mono B1.out.size)); have V1 := hide (V1.out.below hb2 V1.out.lt); have F1 := hide (F1.out.below hb2 F1.out.lt); have X1 := hide (X1.out.below hb2); have Y1 := hide (Y1.out.below hb2); clear hb2; have v0 := V1.out.cell (o := 0) rfl; have v1 := V1.out.cell (o := 1) rfl; have f0 := F1.out.cell (o := 0) rfl; have f1 := F1.out.cell (o := 1) rfl; have f2 := F1.out.cell (o := 2) rfl)
      | (go_at_call 12; refine (implValFits_new _ _ _ _ gs xs _ _ _ _ _ _ hf.out hB.out X1.out Y1.out (pow10_keep HP.out B1.out)).mono ?_; rintro e w2 ⟨rfl, hb2⟩; have B1 := hide (B1.out.trans (hb2.mono B1.out.size)); have V1 := hide (V1.out.below hb2 V1.out.lt); have F1 := hide (F1.out.below hb2 F1.out.lt); have X1 := hide (X1.out.below hb2); have Y1 := hide (Y1.out.below hb2); clear hb2; have v0 := V1.out.cell (o := 0) rfl; have v1 := V1.out.cell (o := 1) rfl; have f0 := F1.out.cell (o := 0) rfl; have f1 := F1.out.cell (o := 1) rfl; have f2 := F1.out.cell (o := 2) rfl)))
  rename_i hHeld
  clear hHeld
  clear v0 v1 f0 f1 f2
  generalize (valFitsF gs xs k n ⟨fk, fo, fm⟩) = R
  go_wp2_with fail
  refine (toTypeSS_any a cap 0 w.heap.size gs _ hf.out (HX.out.keep B1.out) B1.out.size).mono ?_
  rintro e w5 ⟨n5, rfl, hx5, hb5⟩
  have X5 : Hid (GN w5 _ n5 gs) := ⟨_, hb5.size, Nat.le_refl _, hx5⟩
  have X6 := hide (X1.out.below hb5)
  have Y6 := hide (Y1.out.below hb5)
  have B5 := hide (B1.out.trans (hb5.mono B1.out.size))
  clear hx5 hb5
  go_wp2_with fail
  obtain ⟨h6, p1, p2, p3⟩ := X6.out
  obtain ⟨h5, p4, p5, p6⟩ := X5.out
  refine (eqTypeSS_same n3 n5 _ _ _ _ _ _ gs _ hf.out p3.plain p6.plain p2 p5).mono ?_
  rintro e w6 ⟨rfl, hb6⟩
  have Y7 := hide (Y6.out.below hb6)
  have B6 := hide (B5.out.trans (hb6.mono B5.out.size))
  clear hb6
  go_wp2_with fail
  refine (toThingS_g ta tc 0 w.heap.size xs _ hB.out (HY.out.keep B6.out) B6.out.size).mono ?_
  rintro e w7 ⟨n7, rfl, hy7, hb7⟩
  have Y8 := hide (Y7.out.below hb7)
  have B7 := hide (B6.out.trans (hb7.mono B6.out.size))
  clear hb7
  go_wp2_with fail
  obtain ⟨h8, q1, q2, q3⟩ := Y8.out
  refine (eqThingS_g n4 n7 _ _ _ _ _ _ xs w7 hB.out q3 hy7 q2 (Nat.le_refl _)).mono ?_
  rintro e w8 ⟨rfl, hb8⟩
  have B8 := hide (B7.out.trans (hb8.mono B7.out.size))
  clear hb8
  go_wp2_with fail
  go_ret
  exact ⟨rfl, B8.out⟩
end Go.Proofs.YtlmciclkfmeepaaDoor
