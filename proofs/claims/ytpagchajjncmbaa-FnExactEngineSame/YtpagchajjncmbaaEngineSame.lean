/- EngineSame of the model and of the program. Written by tools/made/enginesame.py. -/
import Derived.Test.YtpagchajjncmbaaGenEngineD
import Derived.Test.YtpagchajjncmbaaMeanSame5
import Derived.Test.YtpagchajjncmbaaHeapSame
import Derived.Test.YtpagchajjncmbaaHeldL
namespace Go.Proofs.Ytpagchajjncmbaa
open Go.ChangeShapes Go.WideShapes Go.ChangeAt Go.RowKit Go.Joins Go.Deep
set_option linter.unusedVariables false

/-- All of it but its heap and how far it is. -/
def bareG (e : GEngine) : GMean := ⟨[], e.glob, e.frames, e.outs, e.asked, e.code⟩
def engineSame (x y : GEngine) : Bool := heapSame x.heap y.heap && (meanSame (bareG x) (bareG y) && x.steps == y.steps)
theorem bareG_B {x : GEngine} (h : EngineB 1048576 x) : MeanB 1048576 (bareG x) := ⟨⟨Nat.zero_le _, fun i hi => absurd hi (Nat.not_lt_zero _)⟩, h.2.2.1, h.2.2.2.1, h.2.2.2.2⟩
theorem heapG_B {x : GEngine} (h : EngineB 1048576 x) : HeapB 1048576 x.heap := ⟨h.1, h.2.1⟩
/-- As it lies, by its lists. -/
def EngM (md : Bool) (w : World) (lo hi : Nat) (a0 a4 a5 a6 a7 : Option Addr) (x : GEngine) : Prop := NumsM md w lo hi a0 x.heap.words ∧ NumsM md w lo hi a4 x.heap.log ∧ ValsM md w lo hi a5 x.glob ∧ FramesM md w lo hi a6 x.frames ∧ NumsM md w lo hi a7 x.outs
theorem EngM.keep {md : Bool} {w w' : World} {lo hi : Nat} {a0 a4 a5 a6 a7 : Option Addr} {x : GEngine} (h : EngM md w lo hi a0 a4 a5 a6 a7 x) (hb : Below hi w w') : EngM md w' lo hi a0 a4 a5 a6 a7 x := ⟨h.1.keep hb, h.2.1.keep hb, h.2.2.1.keep hb, h.2.2.2.1.keep hb, h.2.2.2.2.keep hb⟩

set_option maxHeartbeats 1600000 in
theorem bare_raw (e0 e4 e5 e6 e7 : Option Addr) (m0 m4 m5 m6 m7 k0 k4 k5 k6 k7 : Nat) (i1 i2 i3 i8 i9 i10 : Int) (w : World) :
    Calls Try.prog 28 #[.agg #[.slice e0 m0 k0, .int .i64 i1, .int .i64 i2, .int .i64 i3, .slice e4 m4 k4, .slice e5 m5 k5, .slice e6 m6 k6, .slice e7 m7 k7, .int .i64 i8, .int .i64 i9, .int .i64 i10]] w fun e w' => e = .returned (.agg #[.slice none 0 0, .slice e5 m5 k5, .slice e6 m6 k6, .slice e7 m7 k7, .int .i64 i8, .int .i64 i9]) ∧ Below w.heap.size w w' := by
  go_enter Try.func28, Try.ntmps28
  go_wp2_with fail
  refine bodyPost_ret (v := .agg #[.slice none 0 0, .slice e5 m5 k5, .slice e6 m6 k6, .slice e7 m7 k7, .int .i64 i8, .int .i64 i9]) (by simp [results, Try.results28, go_sem]) rfl ⟨rfl, ?_⟩
  repeat (first | exact Below.refl _ _ | refine Below.setCell ?_ (by simp) _ | refine Below.alloc ?_ (by simp <;> omega) _)


set_option maxHeartbeats 1600000 in
theorem bare_any (a0 a4 a5 a6 a7 : Option Addr) (c0 c4 c5 c6 c7 : Nat) (x : GEngine) (w : World) :
    Calls Try.prog 28 #[.agg #[.slice a0 x.heap.words.length c0, .int .i64 x.heap.old, .int .i64 x.heap.oldAt, .int .i64 x.heap.youngAt, .slice a4 x.heap.log.length c4, .slice a5 x.glob.length c5, .slice a6 x.frames.length c6, .slice a7 x.outs.length c7, .int .i64 x.asked, .int .i64 x.code, .int .i64 x.steps]] w fun e w' => e = .returned (.agg #[.slice none 0 0, .slice a5 x.glob.length c5, .slice a6 x.frames.length c6, .slice a7 x.outs.length c7, .int .i64 x.asked, .int .i64 x.code]) ∧ Below w.heap.size w w' := by
  go_enter Try.func28, Try.ntmps28
  go_wp2_with fail
  refine bodyPost_ret (v := .agg #[.slice none 0 0, .slice a5 x.glob.length c5, .slice a6 x.frames.length c6, .slice a7 x.outs.length c7, .int .i64 x.asked, .int .i64 x.code]) (by simp [results, Try.results28, go_sem]) rfl ⟨rfl, ?_⟩
  repeat (first | exact Below.refl _ _ | refine Below.setCell ?_ (by simp) _ | refine Below.alloc ?_ (by simp <;> omega) _)

theorem specHeapSame_at {md md' : Bool} (a0 a4 b0 b4 : Option Addr) (c0 c4 d0 d4 lo hi lo' hi' : Nat) (x y : GHeap) (w : World) (r : Bool) (hr : heapSame x y = r) (hx : HeapB 1048576 x) (hy : HeapB 1048576 y)
    (g0 : NumsM md w lo hi a0 x.words) (g4 : NumsM md w lo hi a4 x.log) (k0 : NumsM md' w lo' hi' b0 y.words) (k4 : NumsM md' w lo' hi' b4 y.log) (hh : hi ≤ w.heap.size) (hh' : hi' ≤ w.heap.size) :
    Calls Try.prog 20 #[.agg #[.slice a0 x.words.length c0, .int .i64 x.old, .int .i64 x.oldAt, .int .i64 x.youngAt, .slice a4 x.log.length c4], .agg #[.slice b0 y.words.length d0, .int .i64 y.old, .int .i64 y.oldAt, .int .i64 y.youngAt, .slice b4 y.log.length d4]] w fun e w' => e = .returned (.bool r) ∧ Below w.heap.size w w' := hr ▸ specHeapSame_any a0 a4 b0 b4 c0 c4 d0 d4 lo hi lo' hi' x y w hx hy g0 g4 k0 k4 hh hh'
theorem specMeanSame_at {md md' : Bool} (a0 a4 a5 a6 a7 b0 b4 b5 b6 b7 : Option Addr) (c0 c4 c5 c6 c7 d0 d4 d5 d6 d7 lo hi lo' hi' : Nat) (x y : GEngine) (w : World) (r : Bool) (hr : meanSame (bareG x) (bareG y) = r) (hx : EngineB 1048576 x) (hy : EngineB 1048576 y) (g : EngM md w lo hi a0 a4 a5 a6 a7 x) (k : EngM md' w lo' hi' b0 b4 b5 b6 b7 y) (hh : hi ≤ w.heap.size) (hh' : hi' ≤ w.heap.size) :
    Calls Try.prog 21 #[.agg #[.slice none 0 0, .slice a5 x.glob.length c5, .slice a6 x.frames.length c6, .slice a7 x.outs.length c7, .int .i64 x.asked, .int .i64 x.code], .agg #[.slice none 0 0, .slice b5 y.glob.length d5, .slice b6 y.frames.length d6, .slice b7 y.outs.length d7, .int .i64 y.asked, .int .i64 y.code]] w fun e w' => e = .returned (.bool r) ∧ Below w.heap.size w w' :=
  hr ▸ specMeanSame_any none a5 a6 a7 none b5 b6 b7 0 c5 c6 c7 0 d5 d6 d7 lo hi lo' hi' (bareG x) (bareG y) w (bareG_B hx) (bareG_B hy) (.inl rfl) g.2.2.1 g.2.2.2.1 g.2.2.2.2 (.inl rfl) k.2.2.1 k.2.2.2.1 k.2.2.2.2 hh hh'
theorem implHeapSame_at {md md' : Bool} (a0 a4 b0 b4 : Option Addr) (c0 c4 d0 d4 lo hi lo' hi' : Nat) (x y : GHeap) (w : World) (r : Bool) (hr : heapSame x y = r) (hx : HeapB 1048576 x) (hy : HeapB 1048576 y)
    (g0 : NumsM md w lo hi a0 x.words) (g4 : NumsM md w lo hi a4 x.log) (k0 : NumsM md' w lo' hi' b0 y.words) (k4 : NumsM md' w lo' hi' b4 y.log) (hh : hi ≤ w.heap.size) (hh' : hi' ≤ w.heap.size) :
    Calls Try.prog 26 #[.agg #[.slice a0 x.words.length c0, .int .i64 x.old, .int .i64 x.oldAt, .int .i64 x.youngAt, .slice a4 x.log.length c4], .agg #[.slice b0 y.words.length d0, .int .i64 y.old, .int .i64 y.oldAt, .int .i64 y.youngAt, .slice b4 y.log.length d4]] w fun e w' => e = .returned (.bool r) ∧ Below w.heap.size w w' := hr ▸ implHeapSame_any a0 a4 b0 b4 c0 c4 d0 d4 lo hi lo' hi' x y w hx hy g0 g4 k0 k4 hh hh'
theorem implMeanSame_at {md md' : Bool} (a0 a4 a5 a6 a7 b0 b4 b5 b6 b7 : Option Addr) (c0 c4 c5 c6 c7 d0 d4 d5 d6 d7 lo hi lo' hi' : Nat) (x y : GEngine) (w : World) (r : Bool) (hr : meanSame (bareG x) (bareG y) = r) (hx : EngineB 1048576 x) (hy : EngineB 1048576 y) (g : EngM md w lo hi a0 a4 a5 a6 a7 x) (k : EngM md' w lo' hi' b0 b4 b5 b6 b7 y) (hh : hi ≤ w.heap.size) (hh' : hi' ≤ w.heap.size) :
    Calls Try.prog 27 #[.agg #[.slice none 0 0, .slice a5 x.glob.length c5, .slice a6 x.frames.length c6, .slice a7 x.outs.length c7, .int .i64 x.asked, .int .i64 x.code], .agg #[.slice none 0 0, .slice b5 y.glob.length d5, .slice b6 y.frames.length d6, .slice b7 y.outs.length d7, .int .i64 y.asked, .int .i64 y.code]] w fun e w' => e = .returned (.bool r) ∧ Below w.heap.size w w' :=
  hr ▸ implMeanSame_any none a5 a6 a7 none b5 b6 b7 0 c5 c6 c7 0 d5 d6 d7 lo hi lo' hi' (bareG x) (bareG y) w (bareG_B hx) (bareG_B hy) (.inl rfl) g.2.2.1 g.2.2.2.1 g.2.2.2.2 (.inl rfl) k.2.2.1 k.2.2.2.1 k.2.2.2.2 hh hh'

/-- Both boxes, and all that was there. -/
def KeptE (w : World) (xs ys : List Value) (W : World) : Prop := Rec W w.heap.size 35 xs ∧ Rec W (w.heap.size + 1) 35 ys ∧ Below w.heap.size w W
theorem KeptE.go {w W W' : World} {xs ys : List Value} (h : KeptE w xs ys W) (hb : Below W.heap.size W W') : KeptE w xs ys W' := ⟨h.1.below hb h.1.lt, h.2.1.below hb h.2.1.lt, h.2.2.trans (hb.mono h.2.2.size)⟩
theorem KeptE.drew {w W : World} {xs ys : List Value} (h : KeptE w xs ys W) : KeptE w xs ys W.drew := ⟨h.1, h.2.1, h.2.2.drew⟩
theorem KeptE.start (w : World) (xs ys : List Value) : KeptE w xs ys ((w.alloc (.cells xs.toArray 35)).alloc (.cells ys.toArray 35)) :=
  ⟨(Rec.new' w _ _ _ rfl).alloc _, Rec.new' _ _ _ _ (by simp), ((Below.refl _ _).alloc (Nat.le_refl _) _).alloc (by simp) _⟩
end Go.Proofs.Ytpagchajjncmbaa
