/- EngineSame of the program: one of its cases. Written by tools/made/enginesame.py. -/
import Derived.Test.YtpagchajjncmbaaEngineSame
import Derived.Deep.RegionWith
namespace Go.Proofs.Ytpagchajjncmbaa
open Go.ChangeShapes Go.WideShapes Go.ChangeAt Go.RowKit Go.Joins Go.Deep
set_option linter.unusedVariables false

set_option maxHeartbeats 6400000 in
theorem implEngineSame_no {md md' : Bool} (a0 a4 a5 a6 a7 b0 b4 b5 b6 b7 : Option Addr) (c0 c4 c5 c6 c7 d0 d4 d5 d6 d7 lo hi lo' hi' : Nat) (x y : GEngine) (w : World) (hx : EngineB 1048576 x) (hy : EngineB 1048576 y) (g : EngM md w lo hi a0 a4 a5 a6 a7 x) (k : EngM md' w lo' hi' b0 b4 b5 b6 b7 y) (hh : hi ≤ w.heap.size) (hh' : hi' ≤ w.heap.size) (HH : Hid (heapSame x.heap y.heap = false)) :
    Calls Try.prog 8 #[.agg #[.slice a0 x.heap.words.length c0, .int .i64 x.heap.old, .int .i64 x.heap.oldAt, .int .i64 x.heap.youngAt, .slice a4 x.heap.log.length c4, .slice a5 x.glob.length c5, .slice a6 x.frames.length c6, .slice a7 x.outs.length c7, .int .i64 x.asked, .int .i64 x.code, .int .i64 x.steps], .agg #[.slice b0 y.heap.words.length d0, .int .i64 y.heap.old, .int .i64 y.heap.oldAt, .int .i64 y.heap.youngAt, .slice b4 y.heap.log.length d4, .slice b5 y.glob.length d5, .slice b6 y.frames.length d6, .slice b7 y.outs.length d7, .int .i64 y.asked, .int .i64 y.code, .int .i64 y.steps]] w fun e w' => e = .returned (.bool false) ∧ Below w.heap.size w w' := by
  have HX := hide hx
  have HY := hide hy
  have G := hide g
  have K := hide k
  clear hx hy g k
  obtain ⟨mv, hmv⟩ : ∃ r, meanSame (bareG x) (bareG y) = r := ⟨_, rfl⟩
  have HM := hide hmv
  clear hmv
  have CH : Hid (∀ W, KeptE w [.slice a0 x.heap.words.length c0, .int .i64 x.heap.old, .int .i64 x.heap.oldAt, .int .i64 x.heap.youngAt, .slice a4 x.heap.log.length c4, .slice a5 x.glob.length c5, .slice a6 x.frames.length c6, .slice a7 x.outs.length c7, .int .i64 x.asked, .int .i64 x.code, .int .i64 x.steps] [.slice b0 y.heap.words.length d0, .int .i64 y.heap.old, .int .i64 y.heap.oldAt, .int .i64 y.heap.youngAt, .slice b4 y.heap.log.length d4, .slice b5 y.glob.length d5, .slice b6 y.frames.length d6, .slice b7 y.outs.length d7, .int .i64 y.asked, .int .i64 y.code, .int .i64 y.steps] W → Calls Try.prog 26 #[.agg #[.slice a0 x.heap.words.length c0, .int .i64 x.heap.old, .int .i64 x.heap.oldAt, .int .i64 x.heap.youngAt, .slice a4 x.heap.log.length c4], .agg #[.slice b0 y.heap.words.length d0, .int .i64 y.heap.old, .int .i64 y.heap.oldAt, .int .i64 y.heap.youngAt, .slice b4 y.heap.log.length d4]] W fun e w' => e = .returned (.bool false) ∧ KeptE w [.slice a0 x.heap.words.length c0, .int .i64 x.heap.old, .int .i64 x.heap.oldAt, .int .i64 x.heap.youngAt, .slice a4 x.heap.log.length c4, .slice a5 x.glob.length c5, .slice a6 x.frames.length c6, .slice a7 x.outs.length c7, .int .i64 x.asked, .int .i64 x.code, .int .i64 x.steps] [.slice b0 y.heap.words.length d0, .int .i64 y.heap.old, .int .i64 y.heap.oldAt, .int .i64 y.heap.youngAt, .slice b4 y.heap.log.length d4, .slice b5 y.glob.length d5, .slice b6 y.frames.length d6, .slice b7 y.outs.length d7, .int .i64 y.asked, .int .i64 y.code, .int .i64 y.steps] w') := fun W hW =>
    (implHeapSame_at a0 a4 b0 b4 c0 c4 d0 d4 lo hi lo' hi' x.heap y.heap W _ HH.out (heapG_B HX.out) (heapG_B HY.out) (G.out.keep (hW.2.2.mono hh)).1 (G.out.keep (hW.2.2.mono hh)).2.1 (K.out.keep (hW.2.2.mono hh')).1 (K.out.keep (hW.2.2.mono hh')).2.1 (Nat.le_trans hh hW.2.2.size) (Nat.le_trans hh' hW.2.2.size)).mono fun e w' ⟨he, hb⟩ => ⟨he, hW.go hb⟩
  have CM : Hid (∀ W, KeptE w [.slice a0 x.heap.words.length c0, .int .i64 x.heap.old, .int .i64 x.heap.oldAt, .int .i64 x.heap.youngAt, .slice a4 x.heap.log.length c4, .slice a5 x.glob.length c5, .slice a6 x.frames.length c6, .slice a7 x.outs.length c7, .int .i64 x.asked, .int .i64 x.code, .int .i64 x.steps] [.slice b0 y.heap.words.length d0, .int .i64 y.heap.old, .int .i64 y.heap.oldAt, .int .i64 y.heap.youngAt, .slice b4 y.heap.log.length d4, .slice b5 y.glob.length d5, .slice b6 y.frames.length d6, .slice b7 y.outs.length d7, .int .i64 y.asked, .int .i64 y.code, .int .i64 y.steps] W → Calls Try.prog 27 #[.agg #[.slice none 0 0, .slice a5 x.glob.length c5, .slice a6 x.frames.length c6, .slice a7 x.outs.length c7, .int .i64 x.asked, .int .i64 x.code], .agg #[.slice none 0 0, .slice b5 y.glob.length d5, .slice b6 y.frames.length d6, .slice b7 y.outs.length d7, .int .i64 y.asked, .int .i64 y.code]] W fun e w' => e = .returned (.bool mv) ∧ KeptE w [.slice a0 x.heap.words.length c0, .int .i64 x.heap.old, .int .i64 x.heap.oldAt, .int .i64 x.heap.youngAt, .slice a4 x.heap.log.length c4, .slice a5 x.glob.length c5, .slice a6 x.frames.length c6, .slice a7 x.outs.length c7, .int .i64 x.asked, .int .i64 x.code, .int .i64 x.steps] [.slice b0 y.heap.words.length d0, .int .i64 y.heap.old, .int .i64 y.heap.oldAt, .int .i64 y.heap.youngAt, .slice b4 y.heap.log.length d4, .slice b5 y.glob.length d5, .slice b6 y.frames.length d6, .slice b7 y.outs.length d7, .int .i64 y.asked, .int .i64 y.code, .int .i64 y.steps] w') := fun W hW =>
    (implMeanSame_at a0 a4 a5 a6 a7 b0 b4 b5 b6 b7 c0 c4 c5 c6 c7 d0 d4 d5 d6 d7 lo hi lo' hi' x y W _ HM.out HX.out HY.out (G.out.keep (hW.2.2.mono hh)) (K.out.keep (hW.2.2.mono hh')) (Nat.le_trans hh hW.2.2.size) (Nat.le_trans hh' hW.2.2.size)).mono fun e w' ⟨he, hb⟩ => ⟨he, hW.go hb⟩
  have CB : Hid (∀ W, KeptE w [.slice a0 x.heap.words.length c0, .int .i64 x.heap.old, .int .i64 x.heap.oldAt, .int .i64 x.heap.youngAt, .slice a4 x.heap.log.length c4, .slice a5 x.glob.length c5, .slice a6 x.frames.length c6, .slice a7 x.outs.length c7, .int .i64 x.asked, .int .i64 x.code, .int .i64 x.steps] [.slice b0 y.heap.words.length d0, .int .i64 y.heap.old, .int .i64 y.heap.oldAt, .int .i64 y.heap.youngAt, .slice b4 y.heap.log.length d4, .slice b5 y.glob.length d5, .slice b6 y.frames.length d6, .slice b7 y.outs.length d7, .int .i64 y.asked, .int .i64 y.code, .int .i64 y.steps] W → ∀ (e0 e4 e5 e6 e7 : Option Addr) (m0 m4 m5 m6 m7 k0 k4 k5 k6 k7 : Nat) (i1 i2 i3 i8 i9 i10 : Int), Calls Try.prog 28 #[.agg #[.slice e0 m0 k0, .int .i64 i1, .int .i64 i2, .int .i64 i3, .slice e4 m4 k4, .slice e5 m5 k5, .slice e6 m6 k6, .slice e7 m7 k7, .int .i64 i8, .int .i64 i9, .int .i64 i10]] W fun e w' => e = .returned (.agg #[.slice none 0 0, .slice e5 m5 k5, .slice e6 m6 k6, .slice e7 m7 k7, .int .i64 i8, .int .i64 i9]) ∧ KeptE w [.slice a0 x.heap.words.length c0, .int .i64 x.heap.old, .int .i64 x.heap.oldAt, .int .i64 x.heap.youngAt, .slice a4 x.heap.log.length c4, .slice a5 x.glob.length c5, .slice a6 x.frames.length c6, .slice a7 x.outs.length c7, .int .i64 x.asked, .int .i64 x.code, .int .i64 x.steps] [.slice b0 y.heap.words.length d0, .int .i64 y.heap.old, .int .i64 y.heap.oldAt, .int .i64 y.heap.youngAt, .slice b4 y.heap.log.length d4, .slice b5 y.glob.length d5, .slice b6 y.frames.length d6, .slice b7 y.outs.length d7, .int .i64 y.asked, .int .i64 y.code, .int .i64 y.steps] w') := fun W hW e0 e4 e5 e6 e7 m0 m4 m5 m6 m7 k0 k4 k5 k6 k7 i1 i2 i3 i8 i9 i10 =>
    (bare_raw e0 e4 e5 e6 e7 m0 m4 m5 m6 m7 k0 k4 k5 k6 k7 i1 i2 i3 i8 i9 i10 W).mono fun e w' ⟨he, hb⟩ => ⟨he, hW.go hb⟩
  have S0 := hide (KeptE.start w [.slice a0 x.heap.words.length c0, .int .i64 x.heap.old, .int .i64 x.heap.oldAt, .int .i64 x.heap.youngAt, .slice a4 x.heap.log.length c4, .slice a5 x.glob.length c5, .slice a6 x.frames.length c6, .slice a7 x.outs.length c7, .int .i64 x.asked, .int .i64 x.code, .int .i64 x.steps] [.slice b0 y.heap.words.length d0, .int .i64 y.heap.old, .int .i64 y.heap.oldAt, .int .i64 y.heap.youngAt, .slice b4 y.heap.log.length d4, .slice b5 y.glob.length d5, .slice b6 y.frames.length d6, .slice b7 y.outs.length d7, .int .i64 y.asked, .int .i64 y.code, .int .i64 y.steps])
  have p0 := S0.out.1.cell (o := 0) rfl
  have p1 := S0.out.1.cell (o := 1) rfl
  have p2 := S0.out.1.cell (o := 2) rfl
  have p3 := S0.out.1.cell (o := 3) rfl
  have p4 := S0.out.1.cell (o := 4) rfl
  have p5 := S0.out.1.cell (o := 5) rfl
  have p6 := S0.out.1.cell (o := 6) rfl
  have p7 := S0.out.1.cell (o := 7) rfl
  have p8 := S0.out.1.cell (o := 8) rfl
  have p9 := S0.out.1.cell (o := 9) rfl
  have p10 := S0.out.1.cell (o := 10) rfl
  have r0 := S0.out.2.1.cell (o := 0) rfl
  have r1 := S0.out.2.1.cell (o := 1) rfl
  have r2 := S0.out.2.1.cell (o := 2) rfl
  have r3 := S0.out.2.1.cell (o := 3) rfl
  have r4 := S0.out.2.1.cell (o := 4) rfl
  have r5 := S0.out.2.1.cell (o := 5) rfl
  have r6 := S0.out.2.1.cell (o := 6) rfl
  have r7 := S0.out.2.1.cell (o := 7) rfl
  have r8 := S0.out.2.1.cell (o := 8) rfl
  have r9 := S0.out.2.1.cell (o := 9) rfl
  have r10 := S0.out.2.1.cell (o := 10) rfl
  clear HH HM
  go_enter Try.func8, Try.ntmps8
  go_wp2_with fail
  first
  | (go_region_with (first
    | (go_at_call 26; refine (CH.out _ ?_).mono ?_; (first | assumption | exact S0.out | exact S0.out.drew); rintro e v1 ⟨rfl, hk1⟩; have p0 := hk1.1.cell (o := 0) rfl; have p1 := hk1.1.cell (o := 1) rfl; have p2 := hk1.1.cell (o := 2) rfl; have p3 := hk1.1.cell (o := 3) rfl; have p4 := hk1.1.cell (o := 4) rfl; have p5 := hk1.1.cell (o := 5) rfl; have p6 := hk1.1.cell (o := 6) rfl; have p7 := hk1.1.cell (o := 7) rfl; have p8 := hk1.1.cell (o := 8) rfl; have p9 := hk1.1.cell (o := 9) rfl; have p10 := hk1.1.cell (o := 10) rfl; have r0 := hk1.2.1.cell (o := 0) rfl; have r1 := hk1.2.1.cell (o := 1) rfl; have r2 := hk1.2.1.cell (o := 2) rfl; have r3 := hk1.2.1.cell (o := 3) rfl; have r4 := hk1.2.1.cell (o := 4) rfl; have r5 := hk1.2.1.cell (o := 5) rfl; have r6 := hk1.2.1.cell (o := 6) rfl; have r7 := hk1.2.1.cell (o := 7) rfl; have r8 := hk1.2.1.cell (o := 8) rfl; have r9 := hk1.2.1.cell (o := 9) rfl; have r10 := hk1.2.1.cell (o := 10) rfl)
    | (go_at_call 28; refine (CB.out _ ?_ _ _ _ _ _ _ _ _ _ _ _ _ _ _ _ _ _ _ _ _ _).mono ?_; (first | assumption | exact S0.out | exact S0.out.drew); rintro e v2 ⟨rfl, hk1⟩; have p0 := hk1.1.cell (o := 0) rfl; have p1 := hk1.1.cell (o := 1) rfl; have p2 := hk1.1.cell (o := 2) rfl; have p3 := hk1.1.cell (o := 3) rfl; have p4 := hk1.1.cell (o := 4) rfl; have p5 := hk1.1.cell (o := 5) rfl; have p6 := hk1.1.cell (o := 6) rfl; have p7 := hk1.1.cell (o := 7) rfl; have p8 := hk1.1.cell (o := 8) rfl; have p9 := hk1.1.cell (o := 9) rfl; have p10 := hk1.1.cell (o := 10) rfl; have r0 := hk1.2.1.cell (o := 0) rfl; have r1 := hk1.2.1.cell (o := 1) rfl; have r2 := hk1.2.1.cell (o := 2) rfl; have r3 := hk1.2.1.cell (o := 3) rfl; have r4 := hk1.2.1.cell (o := 4) rfl; have r5 := hk1.2.1.cell (o := 5) rfl; have r6 := hk1.2.1.cell (o := 6) rfl; have r7 := hk1.2.1.cell (o := 7) rfl; have r8 := hk1.2.1.cell (o := 8) rfl; have r9 := hk1.2.1.cell (o := 9) rfl; have r10 := hk1.2.1.cell (o := 10) rfl)
    | (go_at_call 27; refine (CM.out _ ?_).mono ?_; (first | assumption | exact S0.out | exact S0.out.drew); rintro e v1 ⟨rfl, hk1⟩; have p0 := hk1.1.cell (o := 0) rfl; have p1 := hk1.1.cell (o := 1) rfl; have p2 := hk1.1.cell (o := 2) rfl; have p3 := hk1.1.cell (o := 3) rfl; have p4 := hk1.1.cell (o := 4) rfl; have p5 := hk1.1.cell (o := 5) rfl; have p6 := hk1.1.cell (o := 6) rfl; have p7 := hk1.1.cell (o := 7) rfl; have p8 := hk1.1.cell (o := 8) rfl; have p9 := hk1.1.cell (o := 9) rfl; have p10 := hk1.1.cell (o := 10) rfl; have r0 := hk1.2.1.cell (o := 0) rfl; have r1 := hk1.2.1.cell (o := 1) rfl; have r2 := hk1.2.1.cell (o := 2) rfl; have r3 := hk1.2.1.cell (o := 3) rfl; have r4 := hk1.2.1.cell (o := 4) rfl; have r5 := hk1.2.1.cell (o := 5) rfl; have r6 := hk1.2.1.cell (o := 6) rfl; have r7 := hk1.2.1.cell (o := 7) rfl; have r8 := hk1.2.1.cell (o := 8) rfl; have r9 := hk1.2.1.cell (o := 9) rfl; have r10 := hk1.2.1.cell (o := 10) rfl)))
  | fail
  all_goals
    go_wp2_with fail
    go_ret
    exact ⟨rfl, by first | exact hk1.2.2 | exact hk1.2.2.drew⟩
end Go.Proofs.Ytpagchajjncmbaa
