/- Thing: how it lies in memory. Written by tools/gen.py. -/
import Derived.Test.YthidiabeffgjlaaDoorGenVal
namespace Go.Proofs.YthidiabeffgjlaaDoor
open Go.ChangeShapes Go.WideShapes Go.ChangeAt Go.RowKit Go.Joins Go.Deep
set_option linter.unusedVariables false

structure GThing where
  typ : Int
  vals : List GVal
def GThing.d : GThing := ⟨0, []⟩
/-- x lies at ⟨b, o⟩. -/
def ThingAt (md : Bool) (w : World) (lo hi b o : Nat) (x : GThing) : Prop :=
  ∃ a1 c1, w.cell? ⟨b, o, none⟩ = some (.int .i64 x.typ) ∧ w.cell? ⟨b, o + 1, none⟩ = some (.slice a1 x.vals.length c1) ∧ ValsM md w lo hi a1 x.vals
theorem ThingAt.same {md : Bool} {lo hi lo' hi' b o : Nat} {w w' : World} {x : GThing} (h : ThingAt md w lo hi b o x) (hs : Same lo hi w w') (h1 : lo' ≤ lo) (h2 : hi ≤ hi') (h3 : lo ≤ b) (h4 : b < hi) : ThingAt md w' lo' hi' b o x := by
  obtain ⟨a1, c1, e0, e1, l1⟩ := h
  exact ⟨a1, c1, (hs.cell h3 h4).trans e0, (hs.cell h3 h4).trans e1, l1.same hs h1 h2⟩
theorem ThingAt.plain {md : Bool} {lo hi b o : Nat} {w : World} {x : GThing} (h : ThingAt md w lo hi b o x) : ThingAt false w lo hi b o x := by
  obtain ⟨a1, c1, e0, e1, l1⟩ := h
  exact ⟨a1, c1, e0, e1, l1.plain⟩
def ThingB (N : Nat) (x : GThing) : Prop := ValsB N x.vals
def thingAt' (l : List GThing) (i : Nat) : GThing := l.getD i GThing.d
/-- xs lies at a; in a block of its own, if md. -/
def ThingsM (md : Bool) (w : World) (lo hi : Nat) (a : Option Addr) (xs : List GThing) : Prop :=
  xs = [] ∨ ∃ b off, a = some ⟨b, off, none⟩ ∧ lo ≤ b ∧ b < hi ∧ (md = true → off = 0 ∧ ∃ m, Own w b m 25 ∧ xs.length * 2 ≤ m) ∧ ∀ i, i < xs.length → ThingAt md w lo hi b (off + i * 2) (thingAt' xs i)
theorem ThingsM.same {md : Bool} {lo hi lo' hi' : Nat} {w w' : World} {a : Option Addr} {xs : List GThing} (h : ThingsM md w lo hi a xs) (hs : Same lo hi w w') (h1 : lo' ≤ lo) (h2 : hi ≤ hi') : ThingsM md w' lo' hi' a xs := by
  rcases h with rfl | ⟨b, off, rfl, h3, h4, h5, h6⟩
  · exact .inl rfl
  · exact .inr ⟨b, off, rfl, by omega, by omega, fun e => ⟨(h5 e).1, (h5 e).2.imp fun m hm => ⟨hm.1.of_block (hs b h3 h4), hm.2⟩⟩, fun i hi => (h6 i hi).same hs h1 h2 h3 h4⟩
theorem ThingsM.plain {md : Bool} {lo hi : Nat} {w : World} {a : Option Addr} {xs : List GThing} (h : ThingsM md w lo hi a xs) : ThingsM false w lo hi a xs := by
  rcases h with rfl | ⟨b, off, rfl, h3, h4, h5, h6⟩
  · exact .inl rfl
  · exact .inr ⟨b, off, rfl, h3, h4, fun e => (by cases e), fun i hi => (h6 i hi).plain⟩
theorem ThingsM.keep {md : Bool} {lo hi : Nat} {w w' : World} {a : Option Addr} {xs : List GThing} (h : ThingsM md w lo hi a xs) (hb : Below hi w w') : ThingsM md w' lo hi a xs := h.same (.of_below hb (Nat.le_refl _)) (Nat.le_refl _) (Nat.le_refl _)
theorem ThingsM.wide {md : Bool} {lo hi lo' hi' : Nat} {w : World} {a : Option Addr} {xs : List GThing} (h : ThingsM md w lo hi a xs) (h1 : lo' ≤ lo) (h2 : hi ≤ hi') : ThingsM md w lo' hi' a xs := h.same (Same.refl _ _ _) h1 h2
def ThingsB (N : Nat) (xs : List GThing) : Prop := xs.length ≤ N ∧ ∀ i, i < xs.length → ThingB N (thingAt' xs i)
end Go.Proofs.YthidiabeffgjlaaDoor
