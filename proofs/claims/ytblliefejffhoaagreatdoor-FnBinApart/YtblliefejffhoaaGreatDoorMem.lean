/- Fields, types and groups of types: as lists, and how they lie in memory. -/
import Derived.Test.YtblliefejffhoaaGreatDoorGenRoot
namespace Go.Proofs.YtblliefejffhoaaGreatDoor
open Go.ChangeShapes Go.WideShapes Go.ChangeAt Go.RowKit
set_option linter.unusedVariables false

structure Fd where
  kind : Int
  of : Int
  mt : Bool

structure Ty where
  kind : Int
  up : Int
  last : Bool
  fields : List Fd

def fdAt (l : List Fd) (i : Nat) : Fd := l.getD i ⟨0, 0, false⟩
def tyAt (l : List Ty) (i : Nat) : Ty := l.getD i ⟨0, 0, false, []⟩
def grAt (l : List (List Ty)) (i : Nat) : List Ty := l.getD i []

/-- A field lies at ⟨b, o⟩. -/
def FieldAt (w : World) (b o : Nat) (f : Fd) : Prop :=
  w.cell? ⟨b, o, none⟩ = some (.int .i64 f.kind) ∧ w.cell? ⟨b, o + 1, none⟩ = some (.int .i64 f.of) ∧ w.cell? ⟨b, o + 2, none⟩ = some (.bool f.mt)

/-- The fields fs lie at a, in a block from lo on and below hi. -/
def FieldsIn (w : World) (lo hi : Nat) (a : Option Addr) (fs : List Fd) : Prop :=
  fs = [] ∨ ∃ b off, a = some ⟨b, off, none⟩ ∧ lo ≤ b ∧ b < hi ∧ ∀ i, i < fs.length → FieldAt w b (off + i * 3) (fdAt fs i)

/-- A type lies at ⟨b, o⟩, its fields at fa. -/
def TypeAt (w : World) (lo hi : Nat) (b o : Nat) (t : Ty) : Prop :=
  w.cell? ⟨b, o, none⟩ = some (.int .i64 t.kind) ∧ w.cell? ⟨b, o + 1, none⟩ = some (.int .i64 t.up) ∧ w.cell? ⟨b, o + 2, none⟩ = some (.bool t.last) ∧
  ∃ fa fc, w.cell? ⟨b, o + 3, none⟩ = some (.slice fa t.fields.length fc) ∧ FieldsIn w lo hi fa t.fields

def TypesIn (w : World) (lo hi : Nat) (a : Option Addr) (ts : List Ty) : Prop :=
  ts = [] ∨ ∃ b off, a = some ⟨b, off, none⟩ ∧ lo ≤ b ∧ b < hi ∧ ∀ i, i < ts.length → TypeAt w lo hi b (off + i * 4) (tyAt ts i)

def GroupsIn (w : World) (lo hi : Nat) (a : Option Addr) (gs : List (List Ty)) : Prop :=
  gs = [] ∨ ∃ b off, a = some ⟨b, off, none⟩ ∧ lo ≤ b ∧ b < hi ∧ ∀ i, i < gs.length →
    ∃ ta tc, w.cell? ⟨b, off + i, none⟩ = some (.slice ta (grAt gs i).length tc) ∧ TypesIn w lo hi ta (grAt gs i)

theorem FieldAt.same {lo hi : Nat} {w w' : World} {b o : Nat} {f : Fd} (h : FieldAt w b o f) (hs : Same lo hi w w') (h1 : lo ≤ b) (h2 : b < hi) : FieldAt w' b o f := by
  unfold FieldAt at *
  rw [hs.cell h1 h2, hs.cell h1 h2, hs.cell h1 h2]
  exact h
theorem FieldsIn.same {lo hi lo' hi' : Nat} {w w' : World} {a : Option Addr} {fs : List Fd} (h : FieldsIn w lo hi a fs) (hs : Same lo hi w w') (h1 : lo' ≤ lo) (h2 : hi ≤ hi') : FieldsIn w' lo' hi' a fs := by
  rcases h with rfl | ⟨b, off, rfl, h3, h4, h5⟩
  · exact .inl rfl
  · exact .inr ⟨b, off, rfl, by omega, by omega, fun i hi => (h5 i hi).same hs h3 h4⟩
theorem TypeAt.same {lo hi lo' hi' : Nat} {w w' : World} {b o : Nat} {t : Ty} (h : TypeAt w lo hi b o t) (hs : Same lo hi w w') (h1 : lo' ≤ lo) (h2 : hi ≤ hi') (h3 : lo ≤ b) (h4 : b < hi) : TypeAt w' lo' hi' b o t := by
  obtain ⟨c0, c1, c2, fa, fc, c3, hf⟩ := h
  refine ⟨?_, ?_, ?_, fa, fc, ?_, hf.same hs h1 h2⟩ <;> rw [hs.cell h3 h4] <;> assumption
theorem TypesIn.same {lo hi lo' hi' : Nat} {w w' : World} {a : Option Addr} {ts : List Ty} (h : TypesIn w lo hi a ts) (hs : Same lo hi w w') (h1 : lo' ≤ lo) (h2 : hi ≤ hi') : TypesIn w' lo' hi' a ts := by
  rcases h with rfl | ⟨b, off, rfl, h3, h4, h5⟩
  · exact .inl rfl
  · exact .inr ⟨b, off, rfl, by omega, by omega, fun i hi => (h5 i hi).same hs h1 h2 h3 h4⟩
theorem GroupsIn.same {lo hi lo' hi' : Nat} {w w' : World} {a : Option Addr} {gs : List (List Ty)} (h : GroupsIn w lo hi a gs) (hs : Same lo hi w w') (h1 : lo' ≤ lo) (h2 : hi ≤ hi') : GroupsIn w' lo' hi' a gs := by
  rcases h with rfl | ⟨b, off, rfl, h3, h4, h5⟩
  · exact .inl rfl
  · refine .inr ⟨b, off, rfl, by omega, by omega, fun i hi => ?_⟩
    obtain ⟨ta, tc, hc, ht⟩ := h5 i hi
    exact ⟨ta, tc, by rw [hs.cell h3 h4]; exact hc, ht.same hs h1 h2⟩

theorem FieldsIn.keep {lo hi : Nat} {w w' : World} {a : Option Addr} {fs : List Fd} (h : FieldsIn w lo hi a fs) (hb : Below hi w w') : FieldsIn w' lo hi a fs := h.same (.of_below hb (Nat.le_refl _)) (Nat.le_refl _) (Nat.le_refl _)
theorem TypeAt.keep {lo hi : Nat} {w w' : World} {b o : Nat} {t : Ty} (h : TypeAt w lo hi b o t) (hb : Below hi w w') (h3 : lo ≤ b) (h4 : b < hi) : TypeAt w' lo hi b o t := h.same (.of_below hb (Nat.le_refl _)) (Nat.le_refl _) (Nat.le_refl _) h3 h4
theorem TypesIn.keep {lo hi : Nat} {w w' : World} {a : Option Addr} {ts : List Ty} (h : TypesIn w lo hi a ts) (hb : Below hi w w') : TypesIn w' lo hi a ts := h.same (.of_below hb (Nat.le_refl _)) (Nat.le_refl _) (Nat.le_refl _)
theorem GroupsIn.keep {lo hi : Nat} {w w' : World} {a : Option Addr} {gs : List (List Ty)} (h : GroupsIn w lo hi a gs) (hb : Below hi w w') : GroupsIn w' lo hi a gs := h.same (.of_below hb (Nat.le_refl _)) (Nat.le_refl _) (Nat.le_refl _)
theorem FieldsIn.wide {lo hi lo' hi' : Nat} {w : World} {a : Option Addr} {fs : List Fd} (h : FieldsIn w lo hi a fs) (h1 : lo' ≤ lo) (h2 : hi ≤ hi') : FieldsIn w lo' hi' a fs := h.same (fun _ _ _ => rfl) h1 h2
theorem TypesIn.wide {lo hi lo' hi' : Nat} {w : World} {a : Option Addr} {ts : List Ty} (h : TypesIn w lo hi a ts) (h1 : lo' ≤ lo) (h2 : hi ≤ hi') : TypesIn w lo' hi' a ts := h.same (fun _ _ _ => rfl) h1 h2
theorem GroupsIn.wide {lo hi lo' hi' : Nat} {w : World} {a : Option Addr} {gs : List (List Ty)} (h : GroupsIn w lo hi a gs) (h1 : lo' ≤ lo) (h2 : hi ≤ hi') : GroupsIn w lo' hi' a gs := h.same (fun _ _ _ => rfl) h1 h2
end Go.Proofs.YtblliefejffhoaaGreatDoor
