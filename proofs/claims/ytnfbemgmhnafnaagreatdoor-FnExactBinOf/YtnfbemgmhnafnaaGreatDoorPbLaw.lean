/- PbLaw: WalkBinOf, TablesPow, LawExactBinOf. -/
import Derived.Test.YtnfbemgmhnafnaaGreatDoorPbTxt
import Derived.Test.YtnfbemgmhnafnaaGreatDoorPbTxtI
import Derived.Test.YtnfbemgmhnafnaaGreatDoorPaGen
import Derived.Deep.RegionHeld3
import Derived.Test.YtnfbemgmhnafnaaGreatDoorPaKinA
import Derived.Test.YtnfbemgmhnafnaaGreatDoorCards
import Derived.Test.YtnfbemgmhnafnaaGreatDoorTie
import Derived.Deep.DeepHandedRow
import Derived.Lib.LaidTab
import Derived.Stop.LaidErr
import Derived.OpenVars
/- The law FnExactBinOf, walked. -/
namespace Go.Proofs.YtnfbemgmhnafnaaGreatDoor
open Go.ChangeShapes Go.WideShapes Go.ChangeAt Go.RowKit
set_option linter.unusedVariables false

set_option maxHeartbeats 1600000 in
theorem fnExactBinOf_walk (a0 a1 a2 : Option Addr) (c0 c1 c2 : Nat) (x : GProg) (w : World) (hlx : ProgB 9223372036854775807 x) (hx : PM false w 0 w.heap.size a0 a1 a2 x) (hp : pow10 w) :
    Calls Tryz.prog 4 #[.agg #[.slice a0 x.types.length c0, .slice a1 x.glob.length c1, .slice a2 x.funs.length c2]] w fun e w' => e = .returned (.bool true) ∧ Below w.heap.size w w' := by
  have HLX := hide hlx
  have HX := hide hx
  have Hp := hide hp
  have r0 : Rec (w.alloc (.cells #[.slice a0 x.types.length c0, .slice a1 x.glob.length c1, .slice a2 x.funs.length c2] 26)) w.heap.size 26 [.slice a0 x.types.length c0, .slice a1 x.glob.length c1, .slice a2 x.funs.length c2] := Rec.new _ _ _
  have b0 : Below w.heap.size w (w.alloc (.cells #[.slice a0 x.types.length c0, .slice a1 x.glob.length c1, .slice a2 x.funs.length c2] 26)) := (Below.refl _ _).alloc (Nat.le_refl _) _
  have R0 := hide r0
  have B0 := hide b0
  clear hlx hx hp r0 b0
  go_enter Tryz.func4, Tryz.ntmps4
  go_wp2_with fail
  refine (szProg_any a0 a1 a2 c0 c1 c2 0 w.heap.size x 1048576 _ HLX.out (HX.out.1.keep B0.out) (HX.out.2.1.keep B0.out) (HX.out.2.2.keep B0.out) B0.out.size (by omega) (by omega)).mono ?_
  rintro e w1 ⟨r, rfl, s0, t0, u0, hb1⟩
  have U0 := hide u0
  have B1 := hide (B0.out.trans (hb1.mono B0.out.size))
  have R1 := hide (R0.out.below hb1 R0.out.lt)
  clear u0 hb1 R0 B0
  by_cases hr : r < 0
  · go_wp2_with fail
    go_ret
    exact ⟨rfl, B1.out⟩
  have FX : Hid (ProgB 1048576 x) := U0.out (by omega)
  have p0 := R1.out.cell (o := 0) rfl
  have p1 := R1.out.cell (o := 1) rfl
  have p2 := R1.out.cell (o := 2) rfl
  clear U0
  go_wp2_with fail
  refine (toProg_any a0 c0 a1 c1 a2 c2 0 w.heap.size x _ FX.out (HX.out.1.keep B1.out) (HX.out.2.1.keep B1.out) (HX.out.2.2.keep B1.out) B1.out.size).mono ?_
  rintro e w2 ⟨n0, n1, n2, rfl, q0, q1, q2, hb2⟩
  have X2 : Hid (PM true w2 w1.heap.size w2.heap.size n0 n1 n2 x) := ⟨q0, q1, q2⟩
  have S2 := hide hb2.size
  have B2 := hide (B1.out.trans (hb2.mono B1.out.size))
  have R2 := hide (R1.out.below hb2 R1.out.lt)
  clear q0 q1 q2 hb2 B1 R1 p0 p1 p2
  go_wp2_with fail
  refine (specBinOf_any n0 n1 n2 _ _ _ _ _ x w2 FX.out X2.out (Nat.le_refl _) S2.out (Nat.le_refl _)).mono ?_
  rintro e w3 ⟨rfl, hb3⟩
  obtain ⟨TX, hTX⟩ : ∃ t, t = binTxt x := ⟨_, rfl⟩
  have HTX := hide hTX
  rw [← hTX]
  clear hTX
  have B3 := hide (B2.out.trans (hb3.mono B2.out.size))
  have R3 := hide (R2.out.below hb3 R2.out.lt)
  have p0 := R3.out.cell (o := 0) rfl
  have p1 := R3.out.cell (o := 1) rfl
  have p2 := R3.out.cell (o := 2) rfl
  clear hb3 B2 R2 X2 S2
  go_wp2_with fail
  refine (toProg_any a0 c0 a1 c1 a2 c2 0 w.heap.size x _ FX.out (HX.out.1.keep B3.out) (HX.out.2.1.keep B3.out) (HX.out.2.2.keep B3.out) B3.out.size).mono ?_
  rintro e w4 ⟨m0, m1, m2, rfl, q0, q1, q2, hb4⟩
  have X4 : Hid (PM true w4 w3.heap.size w4.heap.size m0 m1 m2 x) := ⟨q0, q1, q2⟩
  have S4 := hide hb4.size
  have B4 := hide (B3.out.trans (hb4.mono B3.out.size))
  have R4 := hide (R3.out.below hb4 R3.out.lt)
  clear q0 q1 q2 hb4 B3 R3 p0 p1 p2
  have A5 := hide ((Below.refl w4.heap.size w4).alloc (Nat.le_refl _) (.cells #[.slice m0 x.types.length x.types.length, .slice m1 x.glob.length x.glob.length, .slice m2 x.funs.length x.funs.length] 33))
  have P5 : Hid (Rec (w4.alloc (.cells #[.slice m0 x.types.length x.types.length, .slice m1 x.glob.length x.glob.length, .slice m2 x.funs.length x.funs.length] 33)) w4.heap.size 33 [.slice m0 x.types.length x.types.length, .slice m1 x.glob.length x.glob.length, .slice m2 x.funs.length x.funs.length]) := Rec.new _ _ _
  have B5 := hide (B4.out.trans (A5.out.mono B4.out.size))
  have R5 := hide (R4.out.below A5.out R4.out.lt)
  have X5 := hide (X4.out.keep A5.out)
  go_wp2_with fail
  refine (implBinOf_any m0 m1 m2 _ _ _ _ _ x _ FX.out X5.out S4.out A5.out.size (pow10_keep Hp.out B5.out)).mono ?_
  rintro e w6 ⟨rfl, hb6⟩
  rw [← HTX.out]
  have B6 := hide (B5.out.trans (hb6.mono B5.out.size))
  have R6 := hide (R5.out.below hb6 R5.out.lt)
  have P6 := hide (P5.out.below hb6 P5.out.lt)
  have X6 := hide (X5.out.keep (hb6.mono A5.out.size))
  have S6 : Hid (w4.heap.size ≤ w6.heap.size) := Nat.le_trans A5.out.size hb6.size
  clear hb6 B5 R5 P5 X5 A5 X4 B4 R4
  have p0 := R6.out.cell (o := 0) rfl
  have p1 := R6.out.cell (o := 1) rfl
  have p2 := R6.out.cell (o := 2) rfl
  have k0 := P6.out.cell (o := 0) rfl
  have k1 := P6.out.cell (o := 1) rfl
  have k2 := P6.out.cell (o := 2) rfl
  have HT : Hid (∀ W, Below w6.heap.size w6 W → Calls Tryz.prog 7 #[.agg #[.slice a0 x.types.length c0, .slice a1 x.glob.length c1, .slice a2 x.funs.length c2]] W fun e w' => ∃ n0 n1 n2, e = .returned (.agg #[.slice n0 x.types.length x.types.length, .slice n1 x.glob.length x.glob.length, .slice n2 x.funs.length x.funs.length]) ∧ PM true w' W.heap.size w'.heap.size n0 n1 n2 x ∧ Below W.heap.size W w') := fun W hW => by
    have hb := B6.out.trans (hW.mono B6.out.size)
    refine (toProg_any a0 c0 a1 c1 a2 c2 0 w.heap.size x W FX.out (HX.out.1.keep hb) (HX.out.2.1.keep hb) (HX.out.2.2.keep hb) hb.size).mono ?_
    rintro e w' ⟨n0, n1, n2, rfl, q0, q1, q2, hb⟩
    exact ⟨n0, n1, n2, rfl, ⟨q0, q1, q2⟩, hb⟩
  go_wp2_with fail
  go_region_held3 (fun w' => (w'.cell? ⟨w.heap.size, 0, none⟩ = some (.slice a0 x.types.length c0) ∧ w'.cell? ⟨w.heap.size, 1, none⟩ = some (.slice a1 x.glob.length c1) ∧ w'.cell? ⟨w.heap.size, 2, none⟩ = some (.slice a2 x.funs.length c2)) ∧ (w'.cell? ⟨w4.heap.size, 0, none⟩ = some (.slice m0 x.types.length x.types.length) ∧ w'.cell? ⟨w4.heap.size, 1, none⟩ = some (.slice m1 x.glob.length x.glob.length) ∧ w'.cell? ⟨w4.heap.size, 2, none⟩ = some (.slice m2 x.funs.length x.funs.length)))
    (go_keep)
    ((first
      | (go_at_call 7; refine (HT.out _ (Below.refl _ _).drew).mono ?_; rintro e w7 ⟨l0, l1, l2, rfl, hx7, hb7⟩; have R7 : Hid (Rec w7 w.heap.size 26 [.slice a0 x.types.length c0, .slice a1 x.glob.length c1, .slice a2 x.funs.length c2]) := Rec.below (w := w6.drew) R6.out hb7 R6.out.lt; have P7 : Hid (Rec w7 w4.heap.size 33 [.slice m0 x.types.length x.types.length, .slice m1 x.glob.length x.glob.length, .slice m2 x.funs.length x.funs.length]) := Rec.below (w := w6.drew) P6.out hb7 P6.out.lt; have B7 := hide (B6.out.drew.trans (hb7.mono B6.out.size)); have X7 := hide hx7; have Y7 := hide (PM.keep (w := w6.drew) X6.out (hb7.mono S6.out)); have S7 : Hid (w4.heap.size ≤ w7.heap.size) := Nat.le_trans S6.out hb7.size; clear hx7 hb7; have p0 := R7.out.cell (o := 0) rfl; have p1 := R7.out.cell (o := 1) rfl; have p2 := R7.out.cell (o := 2) rfl; have k0 := P7.out.cell (o := 0) rfl; have k1 := P7.out.cell (o := 1) rfl; have k2 := P7.out.cell (o := 2) rfl)
      | (go_at_call 9; refine (eqProg_g m0 l0 m1 l1 m2 l2 _ _ _ _ _ _ _ _ _ _ x _ FX.out Y7.out.1 Y7.out.2.1 Y7.out.2.2 X7.out.1 X7.out.2.1 X7.out.2.2 S7.out (Nat.le_refl _)).mono ?_; rintro e w8 ⟨rfl, hb8⟩; have R8 := hide (R7.out.below hb8 R7.out.lt); have P8 := hide (P7.out.below hb8 P7.out.lt); have B8 := hide (B7.out.trans (hb8.mono B7.out.size)); clear hb8; have p0 := R8.out.cell (o := 0) rfl; have p1 := R8.out.cell (o := 1) rfl; have p2 := R8.out.cell (o := 2) rfl; have k0 := P8.out.cell (o := 0) rfl; have k1 := P8.out.cell (o := 1) rfl; have k2 := P8.out.cell (o := 2) rfl)))
  go_wp2_with fail
  go_ret
  exact ⟨rfl, B8.out⟩
end Go.Proofs.YtnfbemgmhnafnaaGreatDoor

/- What the row's list gives: the powers of ten. -/
namespace Go.Proofs.YtnfbemgmhnafnaaGreatDoor
open Go.ChangeShapes Go.WideShapes Go.ChangeAt Go.RowKit
set_option linter.unusedVariables false

theorem gPowType : (Tryz.prog.globals[3]?).map (·.type) = some 165 := by kernel_rfl
theorem cellsPow : Tryz.prog.cellsOf 165 = 20 := by kernel_rfl
theorem cellsU64 : Tryz.prog.cellsOf 156 = 1 := by kernel_rfl
theorem pow_of_head {W : World} {rest : List (String × DataW Unit)} (h : laidMet Tryz.prog (("internal/strconv.uint64pow10", Rows.laid_internal_strconv_uint64pow10) :: rest) W) : pow10 W :=
  Lib.tabIs_of_head gPow gPowType Tryz.underlying165 Tryz.underlying156 cellsU64 cellsPow h

/-- A world for the witness: the settled one, the tables holding what their initialisers lay. -/
def lay1 (h : Array Obj) (g : Nat) (cs : Array Value) : Array Obj := h.modify g fun
  | .cells _ t frozen => .cells cs t frozen
  | o => o

noncomputable def laidWorld (os : Os) : World :=
  { World.holding Tryz.prog os ⟨#[], #[], []⟩ with heap := (lay1 (lay1 (lay1 (World.holding Tryz.prog os ⟨#[], #[], []⟩).heap
      3 #[.int .u64 1, .int .u64 10, .int .u64 100, .int .u64 1000, .int .u64 10000, .int .u64 100000, .int .u64 1000000, .int .u64 10000000, .int .u64 100000000, .int .u64 1000000000, .int .u64 10000000000, .int .u64 100000000000, .int .u64 1000000000000, .int .u64 10000000000000, .int .u64 100000000000000, .int .u64 1000000000000000, .int .u64 10000000000000000, .int .u64 100000000000000000, .int .u64 1000000000000000000, .int .u64 10000000000000000000])
      4 #[.int .u8 0, .int .u8 1, .int .u8 28, .int .u8 2, .int .u8 29, .int .u8 14, .int .u8 24, .int .u8 3, .int .u8 30, .int .u8 22, .int .u8 20, .int .u8 15, .int .u8 25, .int .u8 17, .int .u8 4, .int .u8 8, .int .u8 31, .int .u8 27, .int .u8 13, .int .u8 23, .int .u8 21, .int .u8 19, .int .u8 16, .int .u8 7, .int .u8 26, .int .u8 12, .int .u8 18, .int .u8 6, .int .u8 11, .int .u8 5, .int .u8 10, .int .u8 9])
      5 #[.int .u8 0, .int .u8 1, .int .u8 56, .int .u8 2, .int .u8 57, .int .u8 49, .int .u8 28, .int .u8 3, .int .u8 61, .int .u8 58, .int .u8 42, .int .u8 50, .int .u8 38, .int .u8 29, .int .u8 17, .int .u8 4, .int .u8 62, .int .u8 47, .int .u8 59, .int .u8 36, .int .u8 45, .int .u8 43, .int .u8 51, .int .u8 22, .int .u8 53, .int .u8 39, .int .u8 33, .int .u8 30, .int .u8 24, .int .u8 18, .int .u8 12, .int .u8 5, .int .u8 63, .int .u8 55, .int .u8 48, .int .u8 27, .int .u8 60, .int .u8 41, .int .u8 37, .int .u8 16, .int .u8 46, .int .u8 35, .int .u8 44, .int .u8 21, .int .u8 52, .int .u8 32, .int .u8 23, .int .u8 11, .int .u8 54, .int .u8 26, .int .u8 40, .int .u8 15, .int .u8 34, .int .u8 20, .int .u8 31, .int .u8 10, .int .u8 25, .int .u8 14, .int .u8 19, .int .u8 9, .int .u8 13, .int .u8 8, .int .u8 7, .int .u8 6]) }
end Go.Proofs.YtnfbemgmhnafnaaGreatDoor

/- FnExactBinOf: FnExactBinOf: for every program BinOf of the program gives the bytes that BinOf of the model does, and changes none; the library's tables start as the program's text lays them. -/
namespace Go.Proofs.YtnfbemgmhnafnaaGreatDoor.fnExactBinOf
open Go.ChangeShapes Go.WideShapes Go.ChangeAt Go.RowKit Go.Joins
set_option linter.unusedVariables false

theorem cellsP : Tryz.prog.cellsOf 26 = 3 := by kernel_rfl

set_option maxRecDepth 100000 in
theorem contract (H : Type) (enc : TypeId × Value → H) (W : World) (base : Nat) (args : Array Value) (ds gs : List (DataW H)) (before : List MemPlace)
    (hval : ∀ (j : Nat) t v, Tryz.f4.params[j]? = some t → args[j]? = some v → Value.okWide Tryz.prog W .any base t v)
    (hW : DataW.Whole enc Tryz.prog Tryz.f4.params.toList Rows.fnExactBinOfSpec.vars false W args.toList ds gs before) (hL : laidMetH Tryz.prog Rows.fnExactBinOfRow.laid W) :
    Calls Tryz.prog 4 args W fun e W' => ∃ v, e = .returned v ∧ Rows.fnExactBinOfSpec.post enc Tryz.prog Tryz.f4 false true false false W args v W' := by
  have hW' := hW
  obtain ⟨p, q, hA0, hV, rfl, hfz, hnd⟩ := hW
  have hA : DataW.TrodAll enc Tryz.prog W 0 (fun _ => true) true Tryz.f4.params.toList args.toList ds p := hA0
  rw [Tryz.params4] at hA hval
  obtain ⟨v0, vs0, d0, ds0, p0, q0, hargs, rfl, rfl, h0, r0⟩ := trodAll_cons hA
  obtain ⟨rfl, rfl, rfl⟩ := trodAll_nil r0
  obtain rfl : args = #[v0] := by cases args; simp_all
  obtain ⟨rfl, rfl⟩ := trodVars_none hV
  have k0 := h0
  have lt0 : ∀ x ∈ p0, x.block < W.heap.size := by obtain ⟨m, hm⟩ := k0; exact DataW.trod_lt m _ _ _ hm
  obtain ⟨c00, c01, c02, y00, y01, y02, nn0, rfl, rfl, rfl, hy00, hy01, hy02⟩ := open_agg3 Tryz.underlying26 (by kernel_rfl) cellsP (hval 0 26 v0 rfl rfl) h0
  obtain ⟨ga0, gs0, gc0, rfl, hg0, bg0⟩ := groupsM_open hy00
  obtain ⟨fa0, fs0, fc0, rfl, hf0, bf0⟩ := fieldsM_open hy01
  obtain ⟨ua0, us0, uc0, rfl, hu0, bu0⟩ := funs_open hy02
  clear hA0
  have hT0 := pow_of_head (laidMet.tail (laidMet.tail hL))
  refine (fnExactBinOf_walk ga0 fa0 ua0 gc0 fc0 uc0 ⟨gs0, fs0, us0⟩ W ⟨bg0, bf0, bu0⟩ ⟨hg0, hf0, hu0⟩ hT0).mono fun e W' ⟨he, bel⟩ => ?_
  subst he
  exact ⟨_, rfl, _, _, _, [], _, [], hW', trodAll_mk1 (shut_bool Tryz.underlying4 _), (trodAll_cons_mk (Below.trod Tryz.laidOut (by kernel_rfl) (of_decide_eq_true (by kernel_rfl)) k0 bel lt0) trodAll_mk0), rfl, bel.frame _, fun h => by cases h⟩

theorem laid_met (os : Os) : laidMet Tryz.prog Rows.fnExactBinOfRow.laid ((laidWorld os).forCall (fun _ _ => 0) ⟨#[], #[.agg #[.slice none 0 0, .slice none 0 0, .slice none 0 0]], []⟩).memory :=
  laidMet_of_run' 8 (by kernel_rfl) (by kernel_rfl)
theorem reads (os : Os) {H : Type} (enc : TypeId × Value → H) : ∃ places, DataW.whole enc Tryz.prog ((laidWorld os).forCall (fun _ _ => 0) ⟨#[], #[.agg #[.slice none 0 0, .slice none 0 0, .slice none 0 0]], []⟩).memory Tryz.f4.params.toList Rows.fnExactBinOfSpec.vars false (#[Value.agg #[.slice none 0 0, .slice none 0 0, .slice none 0 0]] : Array Value).toList 8 = some ([.agg [.nil, .nil, .nil]], [], places) :=
  ⟨[], by kernel_rfl⟩

set_option maxRecDepth 100000 in
theorem lifted (os : Os) (started : os.Started) (H : Type) (enc : TypeId × Value → H) (F : Stop.Interp) :
    ReturnsInHanded {} Tryz.checked os 4 .any ((OpenSpec.ofChange Rows.fnExactBinOfSpec).preRow enc Tryz.prog Tryz.f4 Rows.fnExactBinOfRow.domain false Rows.fnExactBinOfRow.laid) (((OpenSpec.ofChange Rows.fnExactBinOfSpec).at F).post enc Tryz.prog Tryz.f4 false true false false) := by
  obtain ⟨places, hx⟩ := reads os enc
  refine returnsInHanded_of_row (C := Tryz.checked) (s := OpenSpec.ofChange Rows.fnExactBinOfSpec) Tryz.own started (by kernel_rfl) Tryz.func4
    (witness_row_at (enc := enc) (C := Tryz.checked) false (laidWorld os) #[.agg #[.slice none 0 0, .slice none 0 0, .slice none 0 0]] rfl (by kernel_rfl) (by kernel_rfl) (by kernel_rfl)
      (OpenSpec.preRow_of_cond 8 hx (by kernel_rfl) (fun k hk => by cases hk) (by kernel_rfl) (laid_met os))) ?_
  intro W base args ds gs before hval hW _ _ _ hL _ _
  exact contract H enc W base args ds gs before hval hW hL

theorem said : Rows.FnExactBinOfSaid :=
  OpenClaim.holds_of_cond 4 Tryz.f4 rfl rfl rfl rfl rfl rfl rfl ⟨rfl, rfl, rfl, rfl, rfl⟩ rfl rfl rfl rfl rfl (by kernel_rfl) Tryz.func4 (by kernel_rfl)
    (of_decide_eq_true (by kernel_rfl)) (by unfold Func.isWrapper; first | (rw [if_pos (by decide +kernel)]; kernel_rfl) | (rw [if_neg (by decide +kernel)]; exact ⟨rfl, rfl⟩))
    (fun os started H enc _ F => by rw [OpenClaim.pre_eq_preRow]; exact lifted os started H enc F)

theorem plain (f : FuncId) (fn : Func) (hf : Tryz.pinned.checked.prog.funcNamed "loop.example/lairage/laws.FnExactBinOf" = some f) (hfn : Tryz.pinned.checked.prog.funcs[f]? = some fn) :
    false = Tryz.pinned.checked.prog.looks [] ∧ ∀ (j : Nat) t, fn.params[j]? = some t → Tryz.pinned.checked.prog.wantsStandIn t = false := by
  obtain rfl : f = 4 := Option.some.inj ((show Tryz.prog.funcNamed "loop.example/lairage/laws.FnExactBinOf" = some 4 by kernel_rfl).symm.trans hf) |>.symm
  obtain rfl : fn = Tryz.f4 := (Option.some.inj (Tryz.func4.symm.trans hfn)).symm
  refine ⟨by kernel_rfl, fun j t ht => ?_⟩
  rw [Tryz.params4] at ht
  have hm : t = 26 := by simpa using Array.mem_of_getElem? ht
  obtain rfl := hm
  exact (show Tryz.prog.wantsStandIn 26 = false by kernel_rfl)

theorem card : Rows.FnExactBinOfCardSaid :=
  Claim7.holds_tied_plain_at .later [] _ _ _ _ said (fun _ h => by cases h) (by kernel_rfl) (fun _ h => by cases h) fnExactBinOf_row_tie rfl ⟨rfl, rfl⟩ (by kernel_rfl) rfl plain (by kernel_rfl)
end Go.Proofs.YtnfbemgmhnafnaaGreatDoor.fnExactBinOf
namespace Go.Proofs.YtnfbemgmhnafnaaGreatDoor
theorem fnExactBinOf_holds : Rows.FnExactBinOfCardSaid := fnExactBinOf.card
end Go.Proofs.YtnfbemgmhnafnaaGreatDoor
