/- EngineSame of the model. -/
import Derived.Test.YtpagchajjncmbaaEngSame0
import Derived.Test.YtpagchajjncmbaaEngSame1
import Derived.Test.YtpagchajjncmbaaEngSame2
namespace Go.Proofs.Ytpagchajjncmbaa
open Go.ChangeShapes Go.WideShapes Go.ChangeAt Go.RowKit Go.Joins Go.Deep
set_option linter.unusedVariables false

set_option maxHeartbeats 6400000 in
theorem specEngineSame_all {md md' : Bool} (a0 a4 a5 a6 a7 b0 b4 b5 b6 b7 : Option Addr) (c0 c4 c5 c6 c7 d0 d4 d5 d6 d7 lo hi lo' hi' : Nat) (x y : GEngine) (w : World) (hx : EngineB 1048576 x) (hy : EngineB 1048576 y) (g : EngM md w lo hi a0 a4 a5 a6 a7 x) (k : EngM md' w lo' hi' b0 b4 b5 b6 b7 y) (hh : hi ≤ w.heap.size) (hh' : hi' ≤ w.heap.size) :
    Calls Try.prog 6 #[.agg #[.slice a0 x.heap.words.length c0, .int .i64 x.heap.old, .int .i64 x.heap.oldAt, .int .i64 x.heap.youngAt, .slice a4 x.heap.log.length c4, .slice a5 x.glob.length c5, .slice a6 x.frames.length c6, .slice a7 x.outs.length c7, .int .i64 x.asked, .int .i64 x.code, .int .i64 x.steps], .agg #[.slice b0 y.heap.words.length d0, .int .i64 y.heap.old, .int .i64 y.heap.oldAt, .int .i64 y.heap.youngAt, .slice b4 y.heap.log.length d4, .slice b5 y.glob.length d5, .slice b6 y.frames.length d6, .slice b7 y.outs.length d7, .int .i64 y.asked, .int .i64 y.code, .int .i64 y.steps]] w fun e w' => e = .returned (.bool (engineSame x y)) ∧ Below w.heap.size w w' := by
  have HX := hide hx
  have HY := hide hy
  have G := hide g
  have K := hide k
  clear hx hy g k
  obtain ⟨hv, hhv⟩ : ∃ r, heapSame x.heap y.heap = r := ⟨_, rfl⟩
  obtain ⟨mv, hmv⟩ : ∃ r, meanSame (bareG x) (bareG y) = r := ⟨_, rfl⟩
  have HH := hide hhv
  have HM := hide hmv
  have HE : Hid (engineSame x y = (hv && (mv && x.steps == y.steps))) := by simp [Hid, engineSame, hhv, hmv]
  rw [HE.out]
  clear hhv hmv HE
  by_cases hst : x.steps = y.steps
  · have hs : (x.steps == y.steps) = true := by simp [hst]
    rw [hs]
    clear hst
    obtain ⟨w4, hw4⟩ : ∃ w4, w4 = ((((w.alloc (.cells #[.slice a0 x.heap.words.length c0, .int .i64 x.heap.old, .int .i64 x.heap.oldAt, .int .i64 x.heap.youngAt, .slice a4 x.heap.log.length c4, .slice a5 x.glob.length c5, .slice a6 x.frames.length c6, .slice a7 x.outs.length c7, .int .i64 x.asked, .int .i64 x.code, .int .i64 x.steps] 35)).alloc (.cells #[.slice b0 y.heap.words.length d0, .int .i64 y.heap.old, .int .i64 y.heap.oldAt, .int .i64 y.heap.youngAt, .slice b4 y.heap.log.length d4, .slice b5 y.glob.length d5, .slice b6 y.frames.length d6, .slice b7 y.outs.length d7, .int .i64 y.asked, .int .i64 y.code, .int .i64 y.steps] 35)).alloc (.cells #[.slice none 0 0, .slice a5 x.glob.length c5, .slice a6 x.frames.length c6, .slice a7 x.outs.length c7, .int .i64 x.asked, .int .i64 x.code] 49)).alloc (.cells #[.slice none 0 0, .slice b5 y.glob.length d5, .slice b6 y.frames.length d6, .slice b7 y.outs.length d7, .int .i64 y.asked, .int .i64 y.code] 49)) := ⟨_, rfl⟩
    have B4 : Hid (Below w.heap.size w w4) := by rw [hw4]; exact ((((Below.refl _ _).alloc (Nat.le_refl _) _).alloc (by simp) _).alloc (by simp; omega) _).alloc (by simp; omega) _
    have P4 : Hid (Rec w4 (w.heap.size + 1 + 1) 49 [.slice none 0 0, .slice a5 x.glob.length c5, .slice a6 x.frames.length c6, .slice a7 x.outs.length c7, .int .i64 x.asked, .int .i64 x.code]) := by rw [hw4]; exact (Rec.new' _ _ _ _ (by simp)).alloc _
    have R4 : Hid (Rec w4 (w.heap.size + 1 + 1 + 1) 49 [.slice none 0 0, .slice b5 y.glob.length d5, .slice b6 y.frames.length d6, .slice b7 y.outs.length d7, .int .i64 y.asked, .int .i64 y.code]) := by rw [hw4]; exact Rec.new' _ _ _ _ (by simp)
    have HW := hide hw4
    clear hw4
    go_enter Try.func6, Try.ntmps6
    go_wp2_with fail
    rw [← HW.out]
    refine (specHeapSame_at a0 a4 b0 b4 c0 c4 d0 d4 lo hi lo' hi' x.heap y.heap w4 _ HH.out (heapG_B HX.out) (heapG_B HY.out) (G.out.keep (B4.out.mono hh)).1 (G.out.keep (B4.out.mono hh)).2.1 (K.out.keep (B4.out.mono hh')).1 (K.out.keep (B4.out.mono hh')).2.1 (Nat.le_trans hh B4.out.size) (Nat.le_trans hh' B4.out.size)).mono ?_
    rintro e w5 ⟨rfl, b5⟩
    have B5 := hide (B4.out.trans (b5.mono B4.out.size))
    have P5 := hide (P4.out.below b5 P4.out.lt)
    have R5 := hide (R4.out.below b5 R4.out.lt)
    clear b5 P4 R4 B4
    have p0 := P5.out.cell (o := 0) rfl
    have p1 := P5.out.cell (o := 1) rfl
    have p2 := P5.out.cell (o := 2) rfl
    have p3 := P5.out.cell (o := 3) rfl
    have p4 := P5.out.cell (o := 4) rfl
    have p5 := P5.out.cell (o := 5) rfl
    have r0 := R5.out.cell (o := 0) rfl
    have r1 := R5.out.cell (o := 1) rfl
    have r2 := R5.out.cell (o := 2) rfl
    have r3 := R5.out.cell (o := 3) rfl
    have r4 := R5.out.cell (o := 4) rfl
    have r5 := R5.out.cell (o := 5) rfl
    cases hv
    · go_wp2_with fail
      go_ret
      exact ⟨rfl, B5.out⟩
    · go_wp2_with fail
      refine (specMeanSame_at a0 a4 a5 a6 a7 b0 b4 b5 b6 b7 c0 c4 c5 c6 c7 d0 d4 d5 d6 d7 lo hi lo' hi' x y w5 _ HM.out HX.out HY.out (G.out.keep (B5.out.mono hh)) (K.out.keep (B5.out.mono hh')) (Nat.le_trans hh B5.out.size) (Nat.le_trans hh' B5.out.size)).mono ?_
      rintro e w6 ⟨rfl, b6⟩
      have B6 := hide (B5.out.trans (b6.mono B5.out.size))
      clear b6
      cases mv
      all_goals
        go_wp2_with fail
        go_ret
        exact ⟨rfl, B6.out⟩
  · have hs : (x.steps == y.steps) = false := by simp [hst]
    rw [hs]
    clear hst
    have HR : Hid ((hv && (mv && false)) = false) := by simp [Hid]
    rw [HR.out]
    go_enter Try.func6, Try.ntmps6
    go_wp2_with fail
    go_ret
    exact ⟨rfl, ((((Below.refl _ _).alloc (Nat.le_refl _) _).alloc (by simp) _).alloc (by simp; omega) _).alloc (by simp; omega) _⟩

theorem implEngineSame_all {md md' : Bool} (a0 a4 a5 a6 a7 b0 b4 b5 b6 b7 : Option Addr) (c0 c4 c5 c6 c7 d0 d4 d5 d6 d7 lo hi lo' hi' : Nat) (x y : GEngine) (w : World) (hx : EngineB 1048576 x) (hy : EngineB 1048576 y) (g : EngM md w lo hi a0 a4 a5 a6 a7 x) (k : EngM md' w lo' hi' b0 b4 b5 b6 b7 y) (hh : hi ≤ w.heap.size) (hh' : hi' ≤ w.heap.size) :
    Calls Try.prog 8 #[.agg #[.slice a0 x.heap.words.length c0, .int .i64 x.heap.old, .int .i64 x.heap.oldAt, .int .i64 x.heap.youngAt, .slice a4 x.heap.log.length c4, .slice a5 x.glob.length c5, .slice a6 x.frames.length c6, .slice a7 x.outs.length c7, .int .i64 x.asked, .int .i64 x.code, .int .i64 x.steps], .agg #[.slice b0 y.heap.words.length d0, .int .i64 y.heap.old, .int .i64 y.heap.oldAt, .int .i64 y.heap.youngAt, .slice b4 y.heap.log.length d4, .slice b5 y.glob.length d5, .slice b6 y.frames.length d6, .slice b7 y.outs.length d7, .int .i64 y.asked, .int .i64 y.code, .int .i64 y.steps]] w fun e w' => e = .returned (.bool (engineSame x y)) ∧ Below w.heap.size w w' := by
  cases hhv : heapSame x.heap y.heap
  · have HE : engineSame x y = false := by simp [engineSame, hhv]
    rw [HE]
    exact implEngineSame_no a0 a4 a5 a6 a7 b0 b4 b5 b6 b7 c0 c4 c5 c6 c7 d0 d4 d5 d6 d7 lo hi lo' hi' x y w hx hy g k hh hh' hhv
  · cases hmv : meanSame (bareG x) (bareG y)
    · have HE : engineSame x y = false := by simp [engineSame, hmv]
      rw [HE]
      exact implEngineSame_ne a0 a4 a5 a6 a7 b0 b4 b5 b6 b7 c0 c4 c5 c6 c7 d0 d4 d5 d6 d7 lo hi lo' hi' x y w hx hy g k hh hh' hhv hmv
    · have HE : engineSame x y = (x.steps == y.steps) := by simp [engineSame, hhv, hmv]
      rw [HE]
      exact implEngineSame_eq a0 a4 a5 a6 a7 b0 b4 b5 b6 b7 c0 c4 c5 c6 c7 d0 d4 d5 d6 d7 lo hi lo' hi' x y w hx hy g k hh hh' hhv hmv _ rfl
theorem specEngineSame_any {md md' : Bool} (a0 a4 a5 a6 a7 b0 b4 b5 b6 b7 : Option Addr) (c0 c4 c5 c6 c7 d0 d4 d5 d6 d7 lo hi lo' hi' : Nat) (x y : GEngine) (w : World) (hx : EngineB 1048576 x) (hy : EngineB 1048576 y) (g0 : NumsM md w lo hi a0 x.heap.words) (g4 : NumsM md w lo hi a4 x.heap.log) (g5 : ValsM md w lo hi a5 x.glob) (g6 : FramesM md w lo hi a6 x.frames) (g7 : NumsM md w lo hi a7 x.outs) (k0 : NumsM md' w lo' hi' b0 y.heap.words) (k4 : NumsM md' w lo' hi' b4 y.heap.log) (k5 : ValsM md' w lo' hi' b5 y.glob) (k6 : FramesM md' w lo' hi' b6 y.frames) (k7 : NumsM md' w lo' hi' b7 y.outs) (hh : hi ≤ w.heap.size) (hh' : hi' ≤ w.heap.size) :
    Calls Try.prog 6 #[.agg #[.slice a0 x.heap.words.length c0, .int .i64 x.heap.old, .int .i64 x.heap.oldAt, .int .i64 x.heap.youngAt, .slice a4 x.heap.log.length c4, .slice a5 x.glob.length c5, .slice a6 x.frames.length c6, .slice a7 x.outs.length c7, .int .i64 x.asked, .int .i64 x.code, .int .i64 x.steps], .agg #[.slice b0 y.heap.words.length d0, .int .i64 y.heap.old, .int .i64 y.heap.oldAt, .int .i64 y.heap.youngAt, .slice b4 y.heap.log.length d4, .slice b5 y.glob.length d5, .slice b6 y.frames.length d6, .slice b7 y.outs.length d7, .int .i64 y.asked, .int .i64 y.code, .int .i64 y.steps]] w fun e w' => e = .returned (.bool (engineSame x y)) ∧ Below w.heap.size w w' :=
  specEngineSame_all a0 a4 a5 a6 a7 b0 b4 b5 b6 b7 c0 c4 c5 c6 c7 d0 d4 d5 d6 d7 lo hi lo' hi' x y w hx hy ⟨g0, g4, g5, g6, g7⟩ ⟨k0, k4, k5, k6, k7⟩ hh hh'
theorem implEngineSame_any {md md' : Bool} (a0 a4 a5 a6 a7 b0 b4 b5 b6 b7 : Option Addr) (c0 c4 c5 c6 c7 d0 d4 d5 d6 d7 lo hi lo' hi' : Nat) (x y : GEngine) (w : World) (hx : EngineB 1048576 x) (hy : EngineB 1048576 y) (g0 : NumsM md w lo hi a0 x.heap.words) (g4 : NumsM md w lo hi a4 x.heap.log) (g5 : ValsM md w lo hi a5 x.glob) (g6 : FramesM md w lo hi a6 x.frames) (g7 : NumsM md w lo hi a7 x.outs) (k0 : NumsM md' w lo' hi' b0 y.heap.words) (k4 : NumsM md' w lo' hi' b4 y.heap.log) (k5 : ValsM md' w lo' hi' b5 y.glob) (k6 : FramesM md' w lo' hi' b6 y.frames) (k7 : NumsM md' w lo' hi' b7 y.outs) (hh : hi ≤ w.heap.size) (hh' : hi' ≤ w.heap.size) :
    Calls Try.prog 8 #[.agg #[.slice a0 x.heap.words.length c0, .int .i64 x.heap.old, .int .i64 x.heap.oldAt, .int .i64 x.heap.youngAt, .slice a4 x.heap.log.length c4, .slice a5 x.glob.length c5, .slice a6 x.frames.length c6, .slice a7 x.outs.length c7, .int .i64 x.asked, .int .i64 x.code, .int .i64 x.steps], .agg #[.slice b0 y.heap.words.length d0, .int .i64 y.heap.old, .int .i64 y.heap.oldAt, .int .i64 y.heap.youngAt, .slice b4 y.heap.log.length d4, .slice b5 y.glob.length d5, .slice b6 y.frames.length d6, .slice b7 y.outs.length d7, .int .i64 y.asked, .int .i64 y.code, .int .i64 y.steps]] w fun e w' => e = .returned (.bool (engineSame x y)) ∧ Below w.heap.size w w' :=
  implEngineSame_all a0 a4 a5 a6 a7 b0 b4 b5 b6 b7 c0 c4 c5 c6 c7 d0 d4 d5 d6 d7 lo hi lo' hi' x y w hx hy ⟨g0, g4, g5, g6, g7⟩ ⟨k0, k4, k5, k6, k7⟩ hh hh'
end Go.Proofs.Ytpagchajjncmbaa
