/- Mean: how it lies in memory. Written by tools/gen.py. -/
import Derived.Test.YtpagchajjncmbaaGenThingD
import Derived.Test.YtpagchajjncmbaaGenFrame
import Derived.Test.YtpagchajjncmbaaGenNum
namespace Go.Proofs.Ytpagchajjncmbaa
open Go.ChangeShapes Go.WideShapes Go.ChangeAt Go.RowKit Go.Joins Go.Deep
set_option linter.unusedVariables false

structure GMean where
  things : List GThing
  glob : List GVal
  frames : List GFrame
  outs : List Int
  asked : Int
  code : Int
def GMean.d : GMean := ⟨[], [], [], [], 0, 0⟩
/-- x lies at ⟨b, o⟩. -/
def MeanAt (md : Bool) (w : World) (lo hi b o : Nat) (x : GMean) : Prop :=
  ∃ a0 c0 a1 c1 a2 c2 a3 c3, w.cell? ⟨b, o, none⟩ = some (.slice a0 x.things.length c0) ∧ w.cell? ⟨b, o + 1, none⟩ = some (.slice a1 x.glob.length c1) ∧ w.cell? ⟨b, o + 2, none⟩ = some (.slice a2 x.frames.length c2) ∧ w.cell? ⟨b, o + 3, none⟩ = some (.slice a3 x.outs.length c3) ∧ w.cell? ⟨b, o + 4, none⟩ = some (.int .i64 x.asked) ∧ w.cell? ⟨b, o + 5, none⟩ = some (.int .i64 x.code) ∧ ThingsM md w lo hi a0 x.things ∧ ValsM md w lo hi a1 x.glob ∧ FramesM md w lo hi a2 x.frames ∧ NumsM md w lo hi a3 x.outs
theorem MeanAt.same {md : Bool} {lo hi lo' hi' b o : Nat} {w w' : World} {x : GMean} (h : MeanAt md w lo hi b o x) (hs : Same lo hi w w') (h1 : lo' ≤ lo) (h2 : hi ≤ hi') (h3 : lo ≤ b) (h4 : b < hi) : MeanAt md w' lo' hi' b o x := by
  obtain ⟨a0, c0, a1, c1, a2, c2, a3, c3, e0, e1, e2, e3, e4, e5, l0, l1, l2, l3⟩ := h
  exact ⟨a0, c0, a1, c1, a2, c2, a3, c3, (hs.cell h3 h4).trans e0, (hs.cell h3 h4).trans e1, (hs.cell h3 h4).trans e2, (hs.cell h3 h4).trans e3, (hs.cell h3 h4).trans e4, (hs.cell h3 h4).trans e5, l0.same hs h1 h2, l1.same hs h1 h2, l2.same hs h1 h2, l3.same hs h1 h2⟩
theorem MeanAt.plain {md : Bool} {lo hi b o : Nat} {w : World} {x : GMean} (h : MeanAt md w lo hi b o x) : MeanAt false w lo hi b o x := by
  obtain ⟨a0, c0, a1, c1, a2, c2, a3, c3, e0, e1, e2, e3, e4, e5, l0, l1, l2, l3⟩ := h
  exact ⟨a0, c0, a1, c1, a2, c2, a3, c3, e0, e1, e2, e3, e4, e5, l0.plain, l1.plain, l2.plain, l3.plain⟩
def MeanB (N : Nat) (x : GMean) : Prop := ThingsB N x.things ∧ ValsB N x.glob ∧ FramesB N x.frames ∧ NumsB N x.outs
end Go.Proofs.Ytpagchajjncmbaa
