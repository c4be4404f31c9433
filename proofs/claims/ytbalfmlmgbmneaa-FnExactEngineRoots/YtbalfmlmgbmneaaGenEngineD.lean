/- Engine: how it lies in memory. Written by tools/gen.py. -/
import Derived.Test.YtbalfmlmgbmneaaGenHeap
import Derived.Test.YtbalfmlmgbmneaaGenFrame
import Derived.Test.YtbalfmlmgbmneaaGenNum
namespace Go.Proofs.Ytbalfmlmgbmneaa
open Go.ChangeShapes Go.WideShapes Go.ChangeAt Go.RowKit Go.Joins Go.Deep
set_option linter.unusedVariables false

structure GEngine where
  heap : GHeap
  glob : List GVal
  frames : List GFrame
  outs : List Int
  asked : Int
  code : Int
  steps : Int
def GEngine.d : GEngine := ⟨GHeap.d, [], [], [], 0, 0, 0⟩
/-- x lies at ⟨b, o⟩. -/
def EngineAt (md : Bool) (w : World) (lo hi b o : Nat) (x : GEngine) : Prop :=
  ∃ a0 c0 a4 c4 a5 c5 a6 c6 a7 c7, w.cell? ⟨b, o, none⟩ = some (.slice a0 x.heap.words.length c0) ∧ w.cell? ⟨b, o + 1, none⟩ = some (.int .i64 x.heap.old) ∧ w.cell? ⟨b, o + 2, none⟩ = some (.int .i64 x.heap.oldAt) ∧ w.cell? ⟨b, o + 3, none⟩ = some (.int .i64 x.heap.youngAt) ∧ w.cell? ⟨b, o + 4, none⟩ = some (.slice a4 x.heap.log.length c4) ∧ w.cell? ⟨b, o + 5, none⟩ = some (.slice a5 x.glob.length c5) ∧ w.cell? ⟨b, o + 6, none⟩ = some (.slice a6 x.frames.length c6) ∧ w.cell? ⟨b, o + 7, none⟩ = some (.slice a7 x.outs.length c7) ∧ w.cell? ⟨b, o + 8, none⟩ = some (.int .i64 x.asked) ∧ w.cell? ⟨b, o + 9, none⟩ = some (.int .i64 x.code) ∧ w.cell? ⟨b, o + 10, none⟩ = some (.int .i64 x.steps) ∧ NumsM md w lo hi a0 x.heap.words ∧ NumsM md w lo hi a4 x.heap.log ∧ ValsM md w lo hi a5 x.glob ∧ FramesM md w lo hi a6 x.frames ∧ NumsM md w lo hi a7 x.outs
theorem EngineAt.same {md : Bool} {lo hi lo' hi' b o : Nat} {w w' : World} {x : GEngine} (h : EngineAt md w lo hi b o x) (hs : Same lo hi w w') (h1 : lo' ≤ lo) (h2 : hi ≤ hi') (h3 : lo ≤ b) (h4 : b < hi) : EngineAt md w' lo' hi' b o x := by
  obtain ⟨a0, c0, a4, c4, a5, c5, a6, c6, a7, c7, e0, e1, e2, e3, e4, e5, e6, e7, e8, e9, e10, l0, l4, l5, l6, l7⟩ := h
  exact ⟨a0, c0, a4, c4, a5, c5, a6, c6, a7, c7, (hs.cell h3 h4).trans e0, (hs.cell h3 h4).trans e1, (hs.cell h3 h4).trans e2, (hs.cell h3 h4).trans e3, (hs.cell h3 h4).trans e4, (hs.cell h3 h4).trans e5, (hs.cell h3 h4).trans e6, (hs.cell h3 h4).trans e7, (hs.cell h3 h4).trans e8, (hs.cell h3 h4).trans e9, (hs.cell h3 h4).trans e10, l0.same hs h1 h2, l4.same hs h1 h2, l5.same hs h1 h2, l6.same hs h1 h2, l7.same hs h1 h2⟩
theorem EngineAt.plain {md : Bool} {lo hi b o : Nat} {w : World} {x : GEngine} (h : EngineAt md w lo hi b o x) : EngineAt false w lo hi b o x := by
  obtain ⟨a0, c0, a4, c4, a5, c5, a6, c6, a7, c7, e0, e1, e2, e3, e4, e5, e6, e7, e8, e9, e10, l0, l4, l5, l6, l7⟩ := h
  exact ⟨a0, c0, a4, c4, a5, c5, a6, c6, a7, c7, e0, e1, e2, e3, e4, e5, e6, e7, e8, e9, e10, l0.plain, l4.plain, l5.plain, l6.plain, l7.plain⟩
def EngineB (N : Nat) (x : GEngine) : Prop := NumsB N x.heap.words ∧ NumsB N x.heap.log ∧ ValsB N x.glob ∧ FramesB N x.frames ∧ NumsB N x.outs
end Go.Proofs.Ytbalfmlmgbmneaa
