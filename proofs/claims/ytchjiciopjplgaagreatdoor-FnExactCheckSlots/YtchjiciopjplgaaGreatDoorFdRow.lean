/- Rows of fields of the call's own, grown by append of fields. -/
import Derived.Test.YtchjiciopjplgaaGreatDoorCopy
import Derived.Test.YtchjiciopjplgaaGreatDoorPaSpecA
import Derived.Test.YtchjiciopjplgaaGreatDoorPaGen
import Derived.Maps.AppendAt
namespace Go.Proofs.YtchjiciopjplgaaGreatDoor
open Go.ChangeShapes Go.WideShapes Go.ChangeAt Go.RowKit Go.Deep
set_option linter.unusedVariables false

theorem fdAt_app_left (l m : List Fd) (i : Nat) (h : i < l.length) : fdAt (l ++ m) i = fdAt l i := by
  unfold fdAt; simp [List.getElem?_append_left h]
theorem fdAt_app_right (l m : List Fd) (i : Nat) (h : l.length ≤ i) : fdAt (l ++ m) i = fdAt m (i - l.length) := by
  unfold fdAt; simp [List.getElem?_append_right h]
theorem fcells_app (xs ys : List Fd) : fcells (xs ++ ys) = fcells xs ++ fcells ys := by
  refine List.ext_getElem? fun j => ?_
  have hl := fcells_length xs
  have hm := fcells_length ys
  by_cases h : j < xs.length * 3
  · rw [fcells_get _ _ (by simp; omega), List.getElem?_append_left (by omega), fcells_get _ _ h, fdAt_app_left _ _ _ (by omega)]
  · by_cases h2 : j < xs.length * 3 + ys.length * 3
    · rw [fcells_get _ _ (by simp; omega), List.getElem?_append_right (by omega), hl, fcells_get _ _ (by omega), fdAt_app_right _ _ _ (by omega)]
      rw [show j / 3 - xs.length = (j - xs.length * 3) / 3 by omega, show j % 3 = (j - xs.length * 3) % 3 by omega]
    · rw [List.getElem?_eq_none_iff.2 (by rw [fcells_length]; simp; omega), List.getElem?_eq_none_iff.2 (by simp [hl, hm]; omega)]

/-- The fields xs are in the slice v, which is none, or a row of the call's own from block S on. -/
def FdRow (w : World) (S : Nat) (v : Value) (xs : List Fd) : Prop := w.ownsRow S 46 3 v xs.length (fcells xs)
theorem FdRow.nil (w : World) (S : Nat) : FdRow w S (.slice none 0 0) [] := ⟨rfl, .inl ⟨rfl, rfl⟩⟩
theorem FdRow.below {w w' : World} {S : Nat} {v : Value} {xs : List Fd} (h : FdRow w S v xs) (hb : Below w.heap.size w w') : FdRow w' S v xs := owns_below h hb
theorem FdRow.alloc {w : World} {S : Nat} {v : Value} {xs : List Fd} (h : FdRow w S v xs) (o : Obj) : FdRow (w.alloc o) S v xs := World.ownsRow.alloc h o
theorem FdRow.lower {w : World} {S S' : Nat} {v : Value} {xs : List Fd} (h : FdRow w S v xs) (hS : S' ≤ S) : FdRow w S' v xs := owns_lower h hS
theorem FdRow.val {w : World} {S : Nat} {v : Value} {xs : List Fd} (h : FdRow w S v xs) : ∃ a cap, v = .slice a xs.length cap := by
  rcases h.2 with ⟨h1, h0⟩ | ⟨g, cap, cur, h1, _⟩
  · exact ⟨none, 0, by rw [h1, h0]⟩
  · exact ⟨_, _, h1⟩
theorem FdRow.own {w : World} {S cap : Nat} {a : Option Addr} {xs : List Fd} (h : FdRow w S (.slice a xs.length cap) xs) : FieldsM true w S w.heap.size a xs := by
  rcases h.2 with ⟨_, h0⟩ | ⟨g, c, cur, e, hS, hg, h1, h2, h3, h4⟩
  · have : xs = [] := List.length_eq_zero_iff.1 (by omega)
    exact ⟨.inl this, fun _ => .inl (by rw [this]; rfl)⟩
  · injection e with e1 _ _
    subst e1
    have hlt := (Array.getElem?_eq_some_iff.1 hg).1
    refine ⟨.inr ⟨g, 0, rfl, hS, hlt, fieldAt_of fun j hj => ?_⟩, fun _ => .inr ⟨g, cur.size, rfl, hS, hlt, ⟨cur, hg, rfl⟩, by omega⟩⟩
    rw [Nat.zero_add, ← fcells_get xs j hj, ← h4, List.getElem?_take, if_pos hj]
    simp [World.cell?, hg]

/-- append of the fields fs to such a row. -/
theorem run_append_fields (ty : TypeId) (S : Nat) (v : Value) (xs : List Fd) (fa : Option Addr) (fc lo hi : Nat) (fs : List Fd) (w : World) (hown : FdRow w S v xs) (h1 : xs.length ≤ 1048576) (hn : fs.length ≤ 1048576) (hx : FieldsIn w lo hi fa fs) (hS : S ≤ w.heap.size) :
    ∃ v' w', (Builtin.append_ #[28, 28] ty #[v, .slice fa fs.length fc]).run Tryz.prog w = .ok v' w' ∧ FdRow w' S v' (xs ++ fs) ∧ Below S w w' := by
  obtain ⟨i0, hi0, hzz⟩ := Option.map_eq_some_iff.1 Tryz.infoField
  simp only [Prod.mk.injEq] at hzz
  obtain ⟨hz0, hs0, hb0⟩ := hzz
  have hu := Tryz.underlying28
  by_cases h0 : fs = []
  · subst h0
    refine ⟨v, w, ?_, by rw [List.append_nil]; exact hown, Below.refl _ _⟩
    have e1 : (Builtin.firstCells i0.size 0 (.slice fa 0 fc)).run Tryz.prog w = .ok #[] w := by
      cases fa with
      | none => exact run_firstCells_none w i0.size 0 0 fc
      | some ad => exact run_firstCells_some w i0.size 0 ad 0 fc [] (by simp) (fun j u h => by simp at h)
    rcases hown.2 with ⟨hv, _⟩ | ⟨g, cap, cur, hv, _, _, hcap, _⟩
    · subst hv
      simp [Builtin.append_, run_underlying hu, sizeOf, typeInfo, hi0, Builtin.lenOf, e1]
    · subst hv
      simp [Builtin.append_, run_underlying hu, sizeOf, typeInfo, hi0, Builtin.lenOf, e1, storeCells, hcap]
  · rcases hx with rfl | ⟨b, off, rfl, g1, g2, g3⟩
    · exact absurd rfl h0
    obtain ⟨v2, w2, hr2, ho2, hg2, _, _⟩ := run_append_own_at (P := Tryz.prog) w S 28 ty 46 i0 _ 3 24 hu hi0 hz0 hs0 hb0 (by rfl) (by decide) v xs.length (fcells xs) hown ⟨b, off, none⟩ fs.length fc (fcells fs) (fcells_length fs)
      (fun j u hj => by
        have hlt : j < fs.length * 3 := by have := (List.getElem?_eq_some_iff.1 hj).1; rwa [fcells_length] at this
        rw [fcells_get _ _ hlt] at hj
        rw [add_plain, fieldAt_cell g3 j hlt]
        exact hj) (fcells_one fs) (by unfold maxLen; omega) (by omega) hS
    refine ⟨v2, w2, hr2, ?_, (Below.refl S w).grown hg2 hS (owns_base hown)⟩
    unfold FdRow
    rw [fcells_app, List.length_append]
    exact ho2

theorem wpList_app_fields {ops : Array Oper} {rest : List Oper} {o : Oper} {a : Act} {Q : Exit → Act → World → Prop} {w : World} (hgd : o.guard = none) (s x : Operand)
    (ho : o.op = .call { callee := .builtin .append, args := #[s, x], argTypes := #[28, 28] })
    (S : Nat) (v : Value) (xs : List Fd) (fa : Option Addr) (fc lo hi : Nat) (fs : List Fd) (hs : a.eval s = v) (hown : FdRow w S v xs) (hx : a.eval x = .slice fa fs.length fc) (h1 : xs.length ≤ 1048576) (hn : fs.length ≤ 1048576) (hf : FieldsIn w lo hi fa fs) (hS : S ≤ w.heap.size)
    (h : ∀ a' cap w', FdRow w' S (.slice a' (xs ++ fs).length cap) (xs ++ fs) → Below S w w' → wpList Tryz.prog ops Q rest (a.put o.dst (.slice a' (xs ++ fs).length cap)) w') : wpList Tryz.prog ops Q (o :: rest) a w := by
  obtain ⟨v', w', hr, h2, h3⟩ := run_append_fields o.type S v xs fa fc lo hi fs w hown h1 hn hf hS
  obtain ⟨a', cap, rfl⟩ := h2.val
  refine wpList_plain hgd fun K hK => ?_
  unfold Oper.wp execOp
  simp only [ho, resolve, invoke, builtin, Sem.run_bind, Sem.run_pure, Result.andThen_ok, List.map_toArray, List.map_cons, List.map_nil, hs, hx, hr]
  exact hK _ _ (h a' cap w' h2 h3)
end Go.Proofs.YtchjiciopjplgaaGreatDoor
