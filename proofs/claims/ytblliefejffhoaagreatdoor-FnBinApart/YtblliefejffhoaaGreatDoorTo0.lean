/- What lies in memory of its own: fields, types, groups; and what is so few that it can be copied. -/
import Derived.Test.YtblliefejffhoaaGreatDoorMem
import Derived.Test.YtblliefejffhoaaGreatDoorFieldOk0
namespace Go.Proofs.YtblliefejffhoaaGreatDoor
open Go.ChangeShapes Go.WideShapes Go.ChangeAt Go.RowKit
set_option linter.unusedVariables false

theorem Tryz.infoField : (Tryz.prog.info? 33).map (fun i => (i.zero, i.size, i.bytes)) = some (some (.agg #[.int .i64 0, .int .i64 0, .bool false]), 3, 24) := by kernel_rfl
theorem Tryz.infoType : (Tryz.prog.info? 44).map (fun i => (i.zero, i.size, i.bytes)) = some (some (.agg #[.int .i64 0, .int .i64 0, .bool false, .slice none 0 0]), 4, 48) := by kernel_rfl
theorem Tryz.infoTypeS : (Tryz.prog.info? 42).map (fun i => (i.zero, i.size, i.bytes)) = some (some (.slice none 0 0), 1, 24) := by kernel_rfl

/-- So many fields lie at a, in a block of their own. -/
def FSh (w : World) (lo hi : Nat) (a : Option Addr) (n : Nat) : Prop := n = 0 ∨ ∃ b m, a = some ⟨b, 0, none⟩ ∧ lo ≤ b ∧ b < hi ∧ Own w b m 33 ∧ n * 3 ≤ m
/-- Fields that lie in a block of their own. -/
def FieldsNew (w : World) (lo hi : Nat) (a : Option Addr) (fs : List Fd) : Prop := FieldsIn w lo hi a fs ∧ FSh w lo hi a fs.length
def TypeNew (w : World) (lo hi : Nat) (b o : Nat) (t : Ty) : Prop :=
  w.cell? ⟨b, o, none⟩ = some (.int .i64 t.kind) ∧ w.cell? ⟨b, o + 1, none⟩ = some (.int .i64 t.up) ∧ w.cell? ⟨b, o + 2, none⟩ = some (.bool t.last) ∧
  ∃ fa fc, w.cell? ⟨b, o + 3, none⟩ = some (.slice fa t.fields.length fc) ∧ FieldsNew w lo hi fa t.fields
def TypesNew (w : World) (lo hi : Nat) (a : Option Addr) (ts : List Ty) : Prop :=
  ts = [] ∨ ∃ b, a = some ⟨b, 0, none⟩ ∧ lo ≤ b ∧ b < hi ∧ Own w b (ts.length * 4) 44 ∧ ∀ i, i < ts.length → TypeNew w lo hi b (i * 4) (tyAt ts i)
def GroupNew (w : World) (lo hi : Nat) (b o : Nat) (g : List Ty) : Prop := ∃ ta tc, w.cell? ⟨b, o, none⟩ = some (.slice ta g.length tc) ∧ TypesNew w lo hi ta g
def GroupsNew (w : World) (lo hi : Nat) (a : Option Addr) (gs : List (List Ty)) : Prop :=
  gs = [] ∨ ∃ b, a = some ⟨b, 0, none⟩ ∧ lo ≤ b ∧ b < hi ∧ Own w b gs.length 42 ∧ ∀ i, i < gs.length → GroupNew w lo hi b i (grAt gs i)

theorem FSh.same {lo hi lo' hi' n : Nat} {w w' : World} {a : Option Addr} (h : FSh w lo hi a n) (hs : Same lo hi w w') (h1 : lo' ≤ lo) (h2 : hi ≤ hi') : FSh w' lo' hi' a n := by
  rcases h with h | ⟨b, m, rfl, h3, h4, h5, h6⟩
  · exact .inl h
  · exact .inr ⟨b, m, rfl, by omega, by omega, h5.of_block (hs b h3 h4), h6⟩
theorem FieldsNew.same {lo hi lo' hi' : Nat} {w w' : World} {a : Option Addr} {fs : List Fd} (h : FieldsNew w lo hi a fs) (hs : Same lo hi w w') (h1 : lo' ≤ lo) (h2 : hi ≤ hi') : FieldsNew w' lo' hi' a fs :=
  ⟨h.1.same hs h1 h2, h.2.same hs h1 h2⟩
theorem FieldsNew.wide {lo hi lo' hi' : Nat} {w : World} {a : Option Addr} {fs : List Fd} (h : FieldsNew w lo hi a fs) (h1 : lo' ≤ lo) (h2 : hi ≤ hi') : FieldsNew w lo' hi' a fs := h.same (Same.refl _ _ _) h1 h2
theorem TypeNew.same {lo hi lo' hi' : Nat} {w w' : World} {b o : Nat} {t : Ty} (h : TypeNew w lo hi b o t) (hs : Same lo hi w w') (h1 : lo' ≤ lo) (h2 : hi ≤ hi') (h3 : lo ≤ b) (h4 : b < hi) : TypeNew w' lo' hi' b o t := by
  obtain ⟨c0, c1, c2, fa, fc, c3, hf⟩ := h
  refine ⟨?_, ?_, ?_, fa, fc, ?_, hf.same hs h1 h2⟩ <;> rw [hs.cell h3 h4] <;> assumption
theorem TypesNew.same {lo hi lo' hi' : Nat} {w w' : World} {a : Option Addr} {ts : List Ty} (h : TypesNew w lo hi a ts) (hs : Same lo hi w w') (h1 : lo' ≤ lo) (h2 : hi ≤ hi') : TypesNew w' lo' hi' a ts := by
  rcases h with rfl | ⟨b, rfl, h3, h4, h5, h6⟩
  · exact .inl rfl
  · exact .inr ⟨b, rfl, by omega, by omega, h5.of_block (hs b h3 h4), fun i hi => (h6 i hi).same hs h1 h2 h3 h4⟩
theorem TypesNew.wide {lo hi lo' hi' : Nat} {w : World} {a : Option Addr} {ts : List Ty} (h : TypesNew w lo hi a ts) (h1 : lo' ≤ lo) (h2 : hi ≤ hi') : TypesNew w lo' hi' a ts := h.same (Same.refl _ _ _) h1 h2
theorem GroupsNew.same {lo hi lo' hi' : Nat} {w w' : World} {a : Option Addr} {gs : List (List Ty)} (h : GroupsNew w lo hi a gs) (hs : Same lo hi w w') (h1 : lo' ≤ lo) (h2 : hi ≤ hi') : GroupsNew w' lo' hi' a gs := by
  rcases h with rfl | ⟨b, rfl, h3, h4, h5, h6⟩
  · exact .inl rfl
  · refine .inr ⟨b, rfl, by omega, by omega, h5.of_block (hs b h3 h4), fun i hi => ?_⟩
    obtain ⟨ta, tc, hc, ht⟩ := h6 i hi
    exact ⟨ta, tc, by rw [hs.cell h3 h4]; exact hc, ht.same hs h1 h2⟩
theorem GroupsNew.keep {lo hi : Nat} {w w' : World} {a : Option Addr} {gs : List (List Ty)} (h : GroupsNew w lo hi a gs) (hb : Below hi w w') : GroupsNew w' lo hi a gs := h.same (.of_below hb (Nat.le_refl _)) (Nat.le_refl _) (Nat.le_refl _)
theorem TypesNew.plain {lo hi : Nat} {w : World} {a : Option Addr} {ts : List Ty} (h : TypesNew w lo hi a ts) : TypesIn w lo hi a ts := by
  rcases h with rfl | ⟨b, rfl, h3, h4, _, h6⟩
  · exact .inl rfl
  · refine .inr ⟨b, 0, rfl, h3, h4, fun i hi => ?_⟩
    obtain ⟨c0, c1, c2, fa, fc, c3, hf⟩ := h6 i hi
    rw [Nat.zero_add]
    exact ⟨c0, c1, c2, fa, fc, c3, hf.1⟩
theorem GroupsNew.plain {lo hi : Nat} {w : World} {a : Option Addr} {gs : List (List Ty)} (h : GroupsNew w lo hi a gs) : GroupsIn w lo hi a gs := by
  rcases h with rfl | ⟨b, rfl, h3, h4, _, h6⟩
  · exact .inl rfl
  · refine .inr ⟨b, 0, rfl, h3, h4, fun i hi => ?_⟩
    obtain ⟨ta, tc, c3, hf⟩ := h6 i hi
    rw [Nat.zero_add]
    exact ⟨ta, tc, c3, hf.plain⟩

/-- A group lies in cell ⟨b, o⟩. -/
def GroupAt (w : World) (lo hi : Nat) (b o : Nat) (g : List Ty) : Prop := ∃ ta tc, w.cell? ⟨b, o, none⟩ = some (.slice ta g.length tc) ∧ TypesIn w lo hi ta g

/-- So few types and fields that all can be copied. -/
def Few (gs : List (List Ty)) : Prop := gs.length ≤ 1048576 ∧ ∀ i, i < gs.length → (grAt gs i).length ≤ 1048576 ∧ ∀ j, j < (grAt gs i).length → (tyAt (grAt gs i) j).fields.length ≤ 1048576

end Go.Proofs.YtblliefejffhoaaGreatDoor
