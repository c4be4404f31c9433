/- PbRow: GenProg0, FdRow, Copy2, RowT, ProgRow, DrawSorts, CopyRow, FunL. -/
import Derived.Test.YtblliefejffhoaaGreatDoorTo0
import Derived.Handy
import Derived.Test.YtblliefejffhoaaGreatDoorCopy
import Derived.Test.YtblliefejffhoaaGreatDoorRowB
import Derived.Maps.AppendAt
import Derived.Test.YtblliefejffhoaaGreatDoorRowF
import Derived.Test.YtblliefejffhoaaGreatDoorPbIns
/- Fields, groups, instructions, functions and programs: how they lie in memory (what has no copy of a law, cut out of GenBase, GenIns, GenFun, GenProg). -/
namespace Go.Proofs.YtblliefejffhoaaGreatDoor
open Go.ChangeShapes Go.WideShapes Go.ChangeAt Go.RowKit Go.Joins Go.Deep
set_option linter.unusedVariables false

def FieldsM (md : Bool) (w : World) (lo hi : Nat) (a : Option Addr) (fs : List Fd) : Prop := FieldsIn w lo hi a fs ∧ (md = true → FSh w lo hi a fs.length)
theorem FieldsM.same {md : Bool} {lo hi lo' hi' : Nat} {w w' : World} {a : Option Addr} {fs : List Fd} (h : FieldsM md w lo hi a fs) (hs : Same lo hi w w') (h1 : lo' ≤ lo) (h2 : hi ≤ hi') : FieldsM md w' lo' hi' a fs :=
  ⟨h.1.same hs h1 h2, fun e => (h.2 e).same hs h1 h2⟩
theorem FieldsM.plain {md : Bool} {lo hi : Nat} {w : World} {a : Option Addr} {fs : List Fd} (h : FieldsM md w lo hi a fs) : FieldsM false w lo hi a fs := ⟨h.1, fun e => by cases e⟩
theorem FieldsM.keep {md : Bool} {lo hi : Nat} {w w' : World} {a : Option Addr} {fs : List Fd} (h : FieldsM md w lo hi a fs) (hb : Below hi w w') : FieldsM md w' lo hi a fs := h.same (.of_below hb (Nat.le_refl _)) (Nat.le_refl _) (Nat.le_refl _)
theorem FieldsM.wide {md : Bool} {lo hi lo' hi' : Nat} {w : World} {a : Option Addr} {fs : List Fd} (h : FieldsM md w lo hi a fs) (h1 : lo' ≤ lo) (h2 : hi ≤ hi') : FieldsM md w lo' hi' a fs := h.same (Same.refl _ _ _) h1 h2
def FieldsB (N : Nat) (fs : List Fd) : Prop := fs.length ≤ N

def GroupsM (md : Bool) (w : World) (lo hi : Nat) (a : Option Addr) (gs : List (List Ty)) : Prop := GroupsIn w lo hi a gs ∧ (md = true → GroupsNew w lo hi a gs)
theorem GroupsM.same {md : Bool} {lo hi lo' hi' : Nat} {w w' : World} {a : Option Addr} {gs : List (List Ty)} (h : GroupsM md w lo hi a gs) (hs : Same lo hi w w') (h1 : lo' ≤ lo) (h2 : hi ≤ hi') : GroupsM md w' lo' hi' a gs :=
  ⟨h.1.same hs h1 h2, fun e => (h.2 e).same hs h1 h2⟩
theorem GroupsM.plain {md : Bool} {lo hi : Nat} {w : World} {a : Option Addr} {gs : List (List Ty)} (h : GroupsM md w lo hi a gs) : GroupsM false w lo hi a gs := ⟨h.1, fun e => by cases e⟩
theorem GroupsM.keep {md : Bool} {lo hi : Nat} {w w' : World} {a : Option Addr} {gs : List (List Ty)} (h : GroupsM md w lo hi a gs) (hb : Below hi w w') : GroupsM md w' lo hi a gs := h.same (.of_below hb (Nat.le_refl _)) (Nat.le_refl _) (Nat.le_refl _)
theorem GroupsM.wide {md : Bool} {lo hi lo' hi' : Nat} {w : World} {a : Option Addr} {gs : List (List Ty)} (h : GroupsM md w lo hi a gs) (h1 : lo' ≤ lo) (h2 : hi ≤ hi') : GroupsM md w lo' hi' a gs := h.same (Same.refl _ _ _) h1 h2
def GroupsB (N : Nat) (gs : List (List Ty)) : Prop := gs.length ≤ N ∧ ∀ i, i < gs.length → (grAt gs i).length ≤ N ∧ ∀ j, j < (grAt gs i).length → (tyAt (grAt gs i) j).fields.length ≤ N


structure GIns where
  op : Int
  a : Int
  b : Int
def GIns.d : GIns := ⟨0, 0, 0⟩
/-- x lies at ⟨b, o⟩. -/
def InsAt (md : Bool) (w : World) (lo hi b o : Nat) (x : GIns) : Prop :=
  w.cell? ⟨b, o, none⟩ = some (.int .i64 x.op) ∧ w.cell? ⟨b, o + 1, none⟩ = some (.int .i64 x.a) ∧ w.cell? ⟨b, o + 2, none⟩ = some (.int .i64 x.b)
theorem InsAt.same {md : Bool} {lo hi lo' hi' b o : Nat} {w w' : World} {x : GIns} (h : InsAt md w lo hi b o x) (hs : Same lo hi w w') (h1 : lo' ≤ lo) (h2 : hi ≤ hi') (h3 : lo ≤ b) (h4 : b < hi) : InsAt md w' lo' hi' b o x := by
  obtain ⟨e0, e1, e2⟩ := h
  exact ⟨(hs.cell h3 h4).trans e0, (hs.cell h3 h4).trans e1, (hs.cell h3 h4).trans e2⟩
theorem InsAt.plain {md : Bool} {lo hi b o : Nat} {w : World} {x : GIns} (h : InsAt md w lo hi b o x) : InsAt false w lo hi b o x := by
  obtain ⟨e0, e1, e2⟩ := h
  exact ⟨e0, e1, e2⟩
def insAt' (l : List GIns) (i : Nat) : GIns := l.getD i GIns.d
/-- xs lies at a; in a block of its own, if md. -/
def InssM (md : Bool) (w : World) (lo hi : Nat) (a : Option Addr) (xs : List GIns) : Prop :=
  xs = [] ∨ ∃ b off, a = some ⟨b, off, none⟩ ∧ lo ≤ b ∧ b < hi ∧ (md = true → off = 0 ∧ ∃ m, Own w b m 59 ∧ xs.length * 3 ≤ m) ∧ ∀ i, i < xs.length → InsAt md w lo hi b (off + i * 3) (insAt' xs i)
theorem InssM.same {md : Bool} {lo hi lo' hi' : Nat} {w w' : World} {a : Option Addr} {xs : List GIns} (h : InssM md w lo hi a xs) (hs : Same lo hi w w') (h1 : lo' ≤ lo) (h2 : hi ≤ hi') : InssM md w' lo' hi' a xs := by
  rcases h with rfl | ⟨b, off, rfl, h3, h4, h5, h6⟩
  · exact .inl rfl
  · exact .inr ⟨b, off, rfl, by omega, by omega, fun e => ⟨(h5 e).1, (h5 e).2.imp fun m hm => ⟨hm.1.of_block (hs b h3 h4), hm.2⟩⟩, fun i hi => (h6 i hi).same hs h1 h2 h3 h4⟩
theorem InssM.plain {md : Bool} {lo hi : Nat} {w : World} {a : Option Addr} {xs : List GIns} (h : InssM md w lo hi a xs) : InssM false w lo hi a xs := by
  rcases h with rfl | ⟨b, off, rfl, h3, h4, h5, h6⟩
  · exact .inl rfl
  · exact .inr ⟨b, off, rfl, h3, h4, fun e => (by cases e), fun i hi => (h6 i hi).plain⟩
theorem InssM.keep {md : Bool} {lo hi : Nat} {w w' : World} {a : Option Addr} {xs : List GIns} (h : InssM md w lo hi a xs) (hb : Below hi w w') : InssM md w' lo hi a xs := h.same (.of_below hb (Nat.le_refl _)) (Nat.le_refl _) (Nat.le_refl _)
theorem InssM.wide {md : Bool} {lo hi lo' hi' : Nat} {w : World} {a : Option Addr} {xs : List GIns} (h : InssM md w lo hi a xs) (h1 : lo' ≤ lo) (h2 : hi ≤ hi') : InssM md w lo' hi' a xs := h.same (Same.refl _ _ _) h1 h2
def InssB (N : Nat) (xs : List GIns) : Prop := xs.length ≤ N

theorem Tryz.infoIns : (Tryz.prog.info? 59).map (fun i => (i.zero, i.size, i.bytes)) = some (some (.agg #[.int .i64 0, .int .i64 0, .int .i64 0]), 3, 24) := by kernel_rfl


structure GFun where
  takes : List Fd
  gives : Fd
  own : List Fd
  body : List GIns
def GFun.d : GFun := ⟨[], ⟨0, 0, false⟩, [], []⟩
/-- x lies at ⟨b, o⟩. -/
def FunAt (md : Bool) (w : World) (lo hi b o : Nat) (x : GFun) : Prop :=
  ∃ a0 c0 a4 c4 a5 c5, w.cell? ⟨b, o, none⟩ = some (.slice a0 x.takes.length c0) ∧ w.cell? ⟨b, o + 1, none⟩ = some (.int .i64 x.gives.kind) ∧ w.cell? ⟨b, o + 2, none⟩ = some (.int .i64 x.gives.of) ∧ w.cell? ⟨b, o + 3, none⟩ = some (.bool x.gives.mt) ∧ w.cell? ⟨b, o + 4, none⟩ = some (.slice a4 x.own.length c4) ∧ w.cell? ⟨b, o + 5, none⟩ = some (.slice a5 x.body.length c5) ∧ FieldsM md w lo hi a0 x.takes ∧ FieldsM md w lo hi a4 x.own ∧ InssM md w lo hi a5 x.body
theorem FunAt.same {md : Bool} {lo hi lo' hi' b o : Nat} {w w' : World} {x : GFun} (h : FunAt md w lo hi b o x) (hs : Same lo hi w w') (h1 : lo' ≤ lo) (h2 : hi ≤ hi') (h3 : lo ≤ b) (h4 : b < hi) : FunAt md w' lo' hi' b o x := by
  obtain ⟨a0, c0, a4, c4, a5, c5, e0, e1, e2, e3, e4, e5, l0, l4, l5⟩ := h
  exact ⟨a0, c0, a4, c4, a5, c5, (hs.cell h3 h4).trans e0, (hs.cell h3 h4).trans e1, (hs.cell h3 h4).trans e2, (hs.cell h3 h4).trans e3, (hs.cell h3 h4).trans e4, (hs.cell h3 h4).trans e5, l0.same hs h1 h2, l4.same hs h1 h2, l5.same hs h1 h2⟩
theorem FunAt.plain {md : Bool} {lo hi b o : Nat} {w : World} {x : GFun} (h : FunAt md w lo hi b o x) : FunAt false w lo hi b o x := by
  obtain ⟨a0, c0, a4, c4, a5, c5, e0, e1, e2, e3, e4, e5, l0, l4, l5⟩ := h
  exact ⟨a0, c0, a4, c4, a5, c5, e0, e1, e2, e3, e4, e5, l0.plain, l4.plain, l5.plain⟩
def FunB (N : Nat) (x : GFun) : Prop := FieldsB N x.takes ∧ FieldsB N x.own ∧ InssB N x.body
def funAt' (l : List GFun) (i : Nat) : GFun := l.getD i GFun.d
/-- xs lies at a; in a block of its own, if md. -/
def FunsM (md : Bool) (w : World) (lo hi : Nat) (a : Option Addr) (xs : List GFun) : Prop :=
  xs = [] ∨ ∃ b off, a = some ⟨b, off, none⟩ ∧ lo ≤ b ∧ b < hi ∧ (md = true → off = 0 ∧ ∃ m, Own w b m 36 ∧ xs.length * 6 ≤ m) ∧ ∀ i, i < xs.length → FunAt md w lo hi b (off + i * 6) (funAt' xs i)
theorem FunsM.same {md : Bool} {lo hi lo' hi' : Nat} {w w' : World} {a : Option Addr} {xs : List GFun} (h : FunsM md w lo hi a xs) (hs : Same lo hi w w') (h1 : lo' ≤ lo) (h2 : hi ≤ hi') : FunsM md w' lo' hi' a xs := by
  rcases h with rfl | ⟨b, off, rfl, h3, h4, h5, h6⟩
  · exact .inl rfl
  · exact .inr ⟨b, off, rfl, by omega, by omega, fun e => ⟨(h5 e).1, (h5 e).2.imp fun m hm => ⟨hm.1.of_block (hs b h3 h4), hm.2⟩⟩, fun i hi => (h6 i hi).same hs h1 h2 h3 h4⟩
theorem FunsM.plain {md : Bool} {lo hi : Nat} {w : World} {a : Option Addr} {xs : List GFun} (h : FunsM md w lo hi a xs) : FunsM false w lo hi a xs := by
  rcases h with rfl | ⟨b, off, rfl, h3, h4, h5, h6⟩
  · exact .inl rfl
  · exact .inr ⟨b, off, rfl, h3, h4, fun e => (by cases e), fun i hi => (h6 i hi).plain⟩
theorem FunsM.keep {md : Bool} {lo hi : Nat} {w w' : World} {a : Option Addr} {xs : List GFun} (h : FunsM md w lo hi a xs) (hb : Below hi w w') : FunsM md w' lo hi a xs := h.same (.of_below hb (Nat.le_refl _)) (Nat.le_refl _) (Nat.le_refl _)
theorem FunsM.wide {md : Bool} {lo hi lo' hi' : Nat} {w : World} {a : Option Addr} {xs : List GFun} (h : FunsM md w lo hi a xs) (h1 : lo' ≤ lo) (h2 : hi ≤ hi') : FunsM md w lo' hi' a xs := h.same (Same.refl _ _ _) h1 h2
def FunsB (N : Nat) (xs : List GFun) : Prop := xs.length ≤ N ∧ ∀ i, i < xs.length → FunB N (funAt' xs i)

theorem Tryz.infoFun : (Tryz.prog.info? 36).map (fun i => (i.zero, i.size, i.bytes)) = some (some (.agg #[.slice none 0 0, .int .i64 0, .int .i64 0, .bool false, .slice none 0 0, .slice none 0 0]), 6, 96) := by kernel_rfl


structure GProg where
  types : List (List Ty)
  glob : List Fd
  funs : List GFun
def GProg.d : GProg := ⟨[], [], []⟩
/-- x lies at ⟨b, o⟩. -/
def ProgAt (md : Bool) (w : World) (lo hi b o : Nat) (x : GProg) : Prop :=
  ∃ a0 c0 a1 c1 a2 c2, w.cell? ⟨b, o, none⟩ = some (.slice a0 x.types.length c0) ∧ w.cell? ⟨b, o + 1, none⟩ = some (.slice a1 x.glob.length c1) ∧ w.cell? ⟨b, o + 2, none⟩ = some (.slice a2 x.funs.length c2) ∧ GroupsM md w lo hi a0 x.types ∧ FieldsM md w lo hi a1 x.glob ∧ FunsM md w lo hi a2 x.funs
theorem ProgAt.same {md : Bool} {lo hi lo' hi' b o : Nat} {w w' : World} {x : GProg} (h : ProgAt md w lo hi b o x) (hs : Same lo hi w w') (h1 : lo' ≤ lo) (h2 : hi ≤ hi') (h3 : lo ≤ b) (h4 : b < hi) : ProgAt md w' lo' hi' b o x := by
  obtain ⟨a0, c0, a1, c1, a2, c2, e0, e1, e2, l0, l1, l2⟩ := h
  exact ⟨a0, c0, a1, c1, a2, c2, (hs.cell h3 h4).trans e0, (hs.cell h3 h4).trans e1, (hs.cell h3 h4).trans e2, l0.same hs h1 h2, l1.same hs h1 h2, l2.same hs h1 h2⟩
theorem ProgAt.plain {md : Bool} {lo hi b o : Nat} {w : World} {x : GProg} (h : ProgAt md w lo hi b o x) : ProgAt false w lo hi b o x := by
  obtain ⟨a0, c0, a1, c1, a2, c2, e0, e1, e2, l0, l1, l2⟩ := h
  exact ⟨a0, c0, a1, c1, a2, c2, e0, e1, e2, l0.plain, l1.plain, l2.plain⟩
def ProgB (N : Nat) (x : GProg) : Prop := GroupsB N x.types ∧ FieldsB N x.glob ∧ FunsB N x.funs

end Go.Proofs.YtblliefejffhoaaGreatDoor

/- Rows of fields of the call's own, grown by append of fields. -/
namespace Go.Proofs.YtblliefejffhoaaGreatDoor
open Go.ChangeShapes Go.WideShapes Go.ChangeAt Go.RowKit Go.Deep
set_option linter.unusedVariables false

theorem fdAt_app_left (l m : List Fd) (i : Nat) (h : i < l.length) : fdAt (l ++ m) i = fdAt l i := by
  unfold fdAt; simp [List.getElem?_append_left h]
theorem fdAt_app_right (l m : List Fd) (i : Nat) (h : l.length ≤ i) : fdAt (l ++ m) i = fdAt m (i - l.length) := by
  unfold fdAt; simp [List.getElem?_append_right h]
theorem fcells_app (xs ys : List Fd) : fcells (xs ++ ys) = fcells xs ++ fcells ys := by
  refine List.ext_getElem? fun j => ?_
  have hl := fcells_length xs
  have hm := fcells_length ys
  by_cases h : j < xs.length * 3
  · rw [fcells_get _ _ (by simp; omega), List.getElem?_append_left (by omega), fcells_get _ _ h, fdAt_app_left _ _ _ (by omega)]
  · by_cases h2 : j < xs.length * 3 + ys.length * 3
    · rw [fcells_get _ _ (by simp; omega), List.getElem?_append_right (by omega), hl, fcells_get _ _ (by omega), fdAt_app_right _ _ _ (by omega)]
      rw [show j / 3 - xs.length = (j - xs.length * 3) / 3 by omega, show j % 3 = (j - xs.length * 3) % 3 by omega]
    · rw [List.getElem?_eq_none_iff.2 (by rw [fcells_length]; simp; omega), List.getElem?_eq_none_iff.2 (by simp [hl, hm]; omega)]

/-- The fields xs are in the slice v, which is none, or a row of the call's own from block S on. -/
def FdRow (w : World) (S : Nat) (v : Value) (xs : List Fd) : Prop := w.ownsRow S 33 3 v xs.length (fcells xs)
theorem FdRow.nil (w : World) (S : Nat) : FdRow w S (.slice none 0 0) [] := ⟨rfl, .inl ⟨rfl, rfl⟩⟩
theorem FdRow.below {w w' : World} {S : Nat} {v : Value} {xs : List Fd} (h : FdRow w S v xs) (hb : Below w.heap.size w w') : FdRow w' S v xs := owns_below h hb
theorem FdRow.alloc {w : World} {S : Nat} {v : Value} {xs : List Fd} (h : FdRow w S v xs) (o : Obj) : FdRow (w.alloc o) S v xs := World.ownsRow.alloc h o
theorem FdRow.lower {w : World} {S S' : Nat} {v : Value} {xs : List Fd} (h : FdRow w S v xs) (hS : S' ≤ S) : FdRow w S' v xs := owns_lower h hS
theorem FdRow.val {w : World} {S : Nat} {v : Value} {xs : List Fd} (h : FdRow w S v xs) : ∃ a cap, v = .slice a xs.length cap := by
  rcases h.2 with ⟨h1, h0⟩ | ⟨g, cap, cur, h1, _⟩
  · exact ⟨none, 0, by rw [h1, h0]⟩
  · exact ⟨_, _, h1⟩
theorem FdRow.own {w : World} {S cap : Nat} {a : Option Addr} {xs : List Fd} (h : FdRow w S (.slice a xs.length cap) xs) : FieldsM true w S w.heap.size a xs := by
  rcases h.2 with ⟨_, h0⟩ | ⟨g, c, cur, e, hS, hg, h1, h2, h3, h4⟩
  · have : xs = [] := List.length_eq_zero_iff.1 (by omega)
    exact ⟨.inl this, fun _ => .inl (by rw [this]; rfl)⟩
  · injection e with e1 _ _
    subst e1
    have hlt := (Array.getElem?_eq_some_iff.1 hg).1
    refine ⟨.inr ⟨g, 0, rfl, hS, hlt, fieldAt_of fun j hj => ?_⟩, fun _ => .inr ⟨g, cur.size, rfl, hS, hlt, ⟨cur, hg, rfl⟩, by omega⟩⟩
    rw [Nat.zero_add, ← fcells_get xs j hj, ← h4, List.getElem?_take, if_pos hj]
    simp [World.cell?, hg]

/-- append of the fields fs to such a row. -/
theorem run_append_fields (ty : TypeId) (S : Nat) (v : Value) (xs : List Fd) (fa : Option Addr) (fc lo hi : Nat) (fs : List Fd) (w : World) (hown : FdRow w S v xs) (h1 : xs.length ≤ 1048576) (hn : fs.length ≤ 1048576) (hx : FieldsIn w lo hi fa fs) (hS : S ≤ w.heap.size) :
    ∃ v' w', (Builtin.append_ #[24, 24] ty #[v, .slice fa fs.length fc]).run Tryz.prog w = .ok v' w' ∧ FdRow w' S v' (xs ++ fs) ∧ Below S w w' := by
  obtain ⟨i0, hi0, hzz⟩ := Option.map_eq_some_iff.1 Tryz.infoField
  simp only [Prod.mk.injEq] at hzz
  obtain ⟨hz0, hs0, hb0⟩ := hzz
  have hu := Tryz.underlying24
  by_cases h0 : fs = []
  · subst h0
    refine ⟨v, w, ?_, by rw [List.append_nil]; exact hown, Below.refl _ _⟩
    have e1 : (Builtin.firstCells i0.size 0 (.slice fa 0 fc)).run Tryz.prog w = .ok #[] w := by
      cases fa with
      | none => exact run_firstCells_none w i0.size 0 0 fc
      | some ad => exact run_firstCells_some w i0.size 0 ad 0 fc [] (by simp) (fun j u h => by simp at h)
    rcases hown.2 with ⟨hv, _⟩ | ⟨g, cap, cur, hv, _, _, hcap, _⟩
    · subst hv
      simp [Builtin.append_, run_underlying hu, sizeOf, typeInfo, hi0, Builtin.lenOf, e1]
    · subst hv
      simp [Builtin.append_, run_underlying hu, sizeOf, typeInfo, hi0, Builtin.lenOf, e1, storeCells, hcap]
  · rcases hx with rfl | ⟨b, off, rfl, g1, g2, g3⟩
    · exact absurd rfl h0
    obtain ⟨v2, w2, hr2, ho2, hg2, _, _⟩ := run_append_own_at (P := Tryz.prog) w S 24 ty 33 i0 _ 3 24 hu hi0 hz0 hs0 hb0 (by rfl) (by decide) v xs.length (fcells xs) hown ⟨b, off, none⟩ fs.length fc (fcells fs) (fcells_length fs)
      (fun j u hj => by
        have hlt : j < fs.length * 3 := by have := (List.getElem?_eq_some_iff.1 hj).1; rwa [fcells_length] at this
        rw [fcells_get _ _ hlt] at hj
        rw [add_plain, fieldAt_cell g3 j hlt]
        exact hj) (fcells_one fs) (by unfold maxLen; omega) (by omega) hS
    refine ⟨v2, w2, hr2, ?_, (Below.refl S w).grown hg2 hS (owns_base hown)⟩
    unfold FdRow
    rw [fcells_app, List.length_append]
    exact ho2

theorem wpList_app_fields {ops : Array Oper} {rest : List Oper} {o : Oper} {a : Act} {Q : Exit → Act → World → Prop} {w : World} (hgd : o.guard = none) (s x : Operand)
    (ho : o.op = .call { callee := .builtin .append, args := #[s, x], argTypes := #[24, 24] })
    (S : Nat) (v : Value) (xs : List Fd) (fa : Option Addr) (fc lo hi : Nat) (fs : List Fd) (hs : a.eval s = v) (hown : FdRow w S v xs) (hx : a.eval x = .slice fa fs.length fc) (h1 : xs.length ≤ 1048576) (hn : fs.length ≤ 1048576) (hf : FieldsIn w lo hi fa fs) (hS : S ≤ w.heap.size)
    (h : ∀ a' cap w', FdRow w' S (.slice a' (xs ++ fs).length cap) (xs ++ fs) → Below S w w' → wpList Tryz.prog ops Q rest (a.put o.dst (.slice a' (xs ++ fs).length cap)) w') : wpList Tryz.prog ops Q (o :: rest) a w := by
  obtain ⟨v', w', hr, h2, h3⟩ := run_append_fields o.type S v xs fa fc lo hi fs w hown h1 hn hf hS
  obtain ⟨a', cap, rfl⟩ := h2.val
  refine wpList_plain hgd fun K hK => ?_
  unfold Oper.wp execOp
  simp only [ho, resolve, invoke, builtin, Sem.run_bind, Sem.run_pure, Result.andThen_ok, List.map_toArray, List.map_cons, List.map_nil, hs, hx, hr]
  exact hK _ _ (h a' cap w' h2 h3)
end Go.Proofs.YtblliefejffhoaaGreatDoor

/- l1Copy of the model, once more: the fields of the copy lie in a row of their own. -/
namespace Go.Proofs.YtblliefejffhoaaGreatDoor
open Go.ChangeShapes Go.WideShapes Go.ChangeAt Go.RowKit Go.Deep
set_option linter.unusedVariables false

theorem empty_row (w : World) (S B : Nat) (e : TypeId) (size : Nat) (hB : w.heap[B]? = some (.cells #[] e (0, 0))) (hS : S ≤ B) : w.ownsRow S e size (.slice (some ⟨B, 0, none⟩) 0 0) 0 [] :=
  ⟨by simp, .inr ⟨B, 0, #[], rfl, hS, hB, Nat.le_refl _, Nat.zero_le _, by simp, by simp⟩⟩

/-- append of the fields fs to an empty list: a row of its own. -/
theorem run_append_row (ty : TypeId) (S B : Nat) (fa : Option Addr) (fc lo hi : Nat) (fs : List Fd) (w : World) (hn : fs.length ≤ 1048576) (hx : FieldsIn w lo hi fa fs) (hB : w.heap[B]? = some (.cells #[] 33 (0, 0))) (hS : S ≤ B) :
    ∃ na nc w', (Builtin.append_ #[24, 24] ty #[.slice (some ⟨B, 0, none⟩) 0 0, .slice fa fs.length fc]).run Tryz.prog w = .ok (.slice na fs.length nc) w' ∧ FieldRow w' S na nc fs ∧ Below w.heap.size w w' := by
  obtain ⟨i0, hi0, hzz⟩ := Option.map_eq_some_iff.1 Tryz.infoField
  simp only [Prod.mk.injEq] at hzz
  obtain ⟨hz0, hs0, hb0⟩ := hzz
  have hu := Tryz.underlying24
  have hBl : B < w.heap.size := (Array.getElem?_eq_some_iff.1 hB).1
  by_cases h0 : fs = []
  · subst h0
    refine ⟨some ⟨B, 0, none⟩, 0, w, ?_, empty_row w S B _ 3 hB hS, Below.refl _ _⟩
    have e1 : (Builtin.firstCells i0.size 0 (.slice fa 0 fc)).run Tryz.prog w = .ok #[] w := by
      cases fa with
      | none => exact run_firstCells_none w i0.size 0 0 fc
      | some ad => exact run_firstCells_some w i0.size 0 ad 0 fc [] (by simp) (fun j u h => by simp at h)
    simp [Builtin.append_, run_underlying hu, sizeOf, typeInfo, hi0, Builtin.lenOf, e1, storeCells]
  · obtain ⟨na, nc, w1, hr1, hf1, hb1⟩ := run_append_copy ty (some ⟨B, 0, none⟩) (.inr ⟨B, rfl⟩) fa fc lo hi fs w hn hx
    rcases hx with rfl | ⟨b, off, rfl, h1, h2, h3⟩
    · exact absurd rfl h0
    obtain ⟨v2, w2, hr2, ho2, _, _, _⟩ := run_append_own_at (P := Tryz.prog) w S 24 ty 33 i0 _ 3 24 hu hi0 hz0 hs0 hb0 (by rfl) (by decide) (.slice (some ⟨B, 0, none⟩) 0 0) 0 [] (empty_row w S B _ 3 hB hS) ⟨b, off, none⟩ fs.length fc (fcells fs) (fcells_length fs)
      (fun j u hj => by
        have hlt : j < fs.length * 3 := by have := (List.getElem?_eq_some_iff.1 hj).1; rwa [fcells_length] at this
        rw [fcells_get _ _ hlt] at hj
        rw [add_plain, fieldAt_cell h3 j hlt]
        exact hj) (fcells_one fs) (by unfold maxLen; omega) (by omega) (by omega)
    rw [hr1] at hr2
    injection hr2 with e1 e2
    subst e1 e2
    refine ⟨na, nc, w1, hr1, ?_, hb1⟩
    simpa [FieldRow] using ho2

theorem step_append_row {ops : Array Oper} {o : Oper} {a : Act} {K : Act → World → Prop} {Q : Exit → Act → World → Prop} {E : Prop} (w : World) (hgd : o.guard = none) (s x : Operand)
    (ho : o.op = .call { callee := .builtin .append, args := #[s, x], argTypes := #[24, 24] })
    (S B : Nat) (fa : Option Addr) (fc lo hi : Nat) (fs : List Fd) (hs : a.eval s = .slice (some ⟨B, 0, none⟩) 0 0) (hx : a.eval x = .slice fa fs.length fc) (hn : fs.length ≤ 1048576) (hf : FieldsIn w lo hi fa fs) (hB : w.heap[B]? = some (.cells #[] 33 (0, 0))) (hS : S ≤ B)
    (h : ∀ na nc w', FieldRow w' S na nc fs → Below w.heap.size w w' → K (a.put o.dst (.slice na fs.length nc)) w') :
    if Region.wanted o (yielded ops a.tmps) = true then Oper.wp Tryz.prog o a w K Q else E := by
  have hw : Region.wanted o (yielded ops a.tmps) = true := by simp [Region.wanted, hgd]
  rw [if_pos hw]
  obtain ⟨na, nc, w', hr, h2, h3⟩ := run_append_row o.type S B fa fc lo hi fs w hn hf hB hS
  unfold Oper.wp execOp
  simp only [ho, resolve, invoke, builtin, Sem.run_bind, Sem.run_pure, Result.andThen_ok, List.map_toArray, List.map_cons, List.map_nil, hs, hx, hr]
  exact h na nc w' h2 h3

set_option maxHeartbeats 400000 in
theorem l1Copy_row (fa : Option Addr) (fc lo hi : Nat) (t : Ty) (w : World) (hn : t.fields.length ≤ 1048576) (hx : FieldsIn w lo hi fa t.fields) (hh : hi ≤ w.heap.size) :
    Calls Tryz.prog 106 #[.agg #[.int .i64 t.kind, .int .i64 t.up, .bool t.last, .slice fa t.fields.length fc]] w fun e w' => ∃ na nc, e = .returned (.agg #[.int .i64 t.kind, .int .i64 t.up, .bool t.last, .slice na t.fields.length nc]) ∧ FieldRow w' w.heap.size na nc t.fields ∧ Below w.heap.size w w' := by
  have b0 : Hid (Below w.heap.size w ((((w.alloc (.cells #[.int .i64 t.kind, .int .i64 t.up, .bool t.last, .slice fa t.fields.length fc] 44)).alloc (.cells #[.int .i64 0, .int .i64 0, .bool false, .slice none 0 0] 44)).alloc (.cells #[] 33)).drew)) :=
    ((((Below.refl _ _).alloc (Nat.le_refl _) _).alloc (by simp) _).alloc (by simp; omega) _).drew
  have s2 : ((w.alloc (.cells #[.int .i64 t.kind, .int .i64 t.up, .bool t.last, .slice fa t.fields.length fc] 44)).alloc (.cells #[.int .i64 0, .int .i64 0, .bool false, .slice none 0 0] 44)).heap.size = w.heap.size + 1 + 1 := by simp
  have e0 : Hid (((((w.alloc (.cells #[.int .i64 t.kind, .int .i64 t.up, .bool t.last, .slice fa t.fields.length fc] 44)).alloc (.cells #[.int .i64 0, .int .i64 0, .bool false, .slice none 0 0] 44)).alloc (.cells #[] 33)).drew).heap[w.heap.size + 1 + 1]? = some (.cells #[] 33 (0, 0))) := by
    have := Deep.blk_alloc_new ((w.alloc (.cells #[.int .i64 t.kind, .int .i64 t.up, .bool t.last, .slice fa t.fields.length fc] 44)).alloc (.cells #[.int .i64 0, .int .i64 0, .bool false, .slice none 0 0] 44)) (.cells #[] 33)
    rw [s2] at this
    exact this
  clear s2
  go_enter Tryz.func106, Tryz.ntmps106
  go_wp2_with fail
  go_region_held3 (fun w' => w'.cell? ⟨w.heap.size, 0, none⟩ = some (.int .i64 t.kind) ∧ w'.cell? ⟨w.heap.size, 1, none⟩ = some (.int .i64 t.up) ∧ w'.cell? ⟨w.heap.size, 2, none⟩ = some (.bool t.last) ∧ w'.cell? ⟨w.heap.size, 3, none⟩ = some (.slice fa t.fields.length fc)) (go_keep)
    ((refine step_append_row _ (by rfl) _ _ (by rfl) (w.heap.size + 1 + 1) (w.heap.size + 1 + 1) fa fc lo hi t.fields (by rfl) (by rfl) hn (hx.keep (b0.out.mono hh)) e0.out (Nat.le_refl _) ?_; intro na nc w1 hf1 hb1; obtain ⟨q0, q1, q2, q3⟩ := copy_world w _ _ _ _ _ w1 hb1))
  go_wp2_with fail
  refine bodyPost_ret (v := .agg #[.int .i64 t.kind, .int .i64 t.up, .bool t.last, .slice na t.fields.length nc]) (by simp [results, Tryz.results106, go_sem, q1]) rfl ⟨na, nc, rfl, ?_, ?_⟩
  · refine owns_lower (owns_of_block hf1 fun k hk => ?_) (by omega)
    have := owns_base hf1 k hk
    rw [Below.heap_setCell _ _ _ _ (by simp; omega), Below.heap_setCell _ _ _ _ (by simp; omega), Below.heap_setCell _ _ _ _ (by simp; omega), Below.heap_setCell _ _ _ _ (by simp; omega)]
  · exact ((((b0.out.trans (hb1.mono (by simp; omega))).setCell (by simp) _).setCell (by simp) _).setCell (by simp) _).setCell (by simp) _
end Go.Proofs.YtblliefejffhoaaGreatDoor

/- Rows of types and of groups of the draws' own; what is kept of them where blocks of other types turn; a field of a row turned. -/
namespace Go.Proofs.YtblliefejffhoaaGreatDoor
open Go.ChangeShapes Go.WideShapes Go.ChangeAt Go.RowKit Go.Deep
set_option linter.unusedVariables false

/-- Blocks from S on of element type e hold what they held. -/
def KeepE (S : Nat) (e : TypeId) (w w' : World) : Prop := ∀ k cur, S ≤ k → w.heap[k]? = some (.cells cur e (0, 0)) → w'.heap[k]? = w.heap[k]?
theorem KeepE.below {S : Nat} {e : TypeId} {w w' : World} (h : Below w.heap.size w w') : KeepE S e w w' := fun k cur _ hk => h.block k (Array.getElem?_eq_some_iff.1 hk).1
theorem KeepE.only {S g : Nat} {e : TypeId} {w w' : World} (h : Only g w w') (hg : g < S) : KeepE S e w w' := fun k cur hS hk => h.block k (by omega) (Array.getElem?_eq_some_iff.1 hk).1
theorem KeepE.refl (S : Nat) (e : TypeId) (w : World) : KeepE S e w w := fun _ _ _ _ => rfl
theorem KeepE.trans {S : Nat} {e : TypeId} {a b c : World} (h : KeepE S e a b) (k : KeepE S e b c) : KeepE S e a c := fun i cur hS hi => (k i cur hS ((h i cur hS hi).trans hi)).trans (h i cur hS hi)
theorem KeepE.grown {S S' size n : Nat} {e e' : TypeId} {w w' : World} {v : Value} {xs : List Value} (ho : w.ownsRow S' e' size v n xs) (hg : w.grownBy w' v.ownBlock) (hne : e ≠ e') : KeepE S e w w' := fun k cur hS hk =>
  hg.block k (Array.getElem?_eq_some_iff.1 hk).1 (by
    intro h
    rcases ho.2 with ⟨rfl, _⟩ | ⟨g, cap', cur', rfl, _, hb, _⟩
    · simp [Value.ownBlock] at h
    · simp [Value.ownBlock] at h
      subst h
      rw [hk] at hb
      simp at hb
      exact hne hb.2)
/-- A cell of a block of another element type was turned. -/
theorem KeepE.set {S b o : Nat} {e e' : TypeId} {w : World} {c : Array Value} (v : Value) (hb : w.heap[b]? = some (.cells c e' (0, 0))) (hne : e ≠ e') : KeepE S e w (w.setCell ⟨b, o, none⟩ v) := fun k cur hS hk =>
  Below.heap_setCell _ _ _ _ (by
    intro h
    simp at h
    subst h
    rw [hk] at hb
    simp at hb
    exact hne hb.2)

theorem owns_keepE {S : Nat} {e : TypeId} {size n : Nat} {v : Value} {xs : List Value} {w w' : World} (h : w.ownsRow S e size v n xs) (hk : KeepE S e w w') : w'.ownsRow S e size v n xs := by
  refine ⟨h.1, ?_⟩
  rcases h.2 with h0 | ⟨g, cap', cur, rfl, hS, hg, h1⟩
  · exact .inl h0
  · exact .inr ⟨g, cap', cur, rfl, hS, (hk g cur hS hg).trans hg, h1⟩

/-- A type's four cells lie in a list of cells from o on, its fields in a row of their own. -/
def TvRow (w : World) (S : Nat) (xs : List Value) (o : Nat) (t : Ty) : Prop :=
  xs[o]? = some (.int .i64 t.kind) ∧ xs[o + 1]? = some (.int .i64 t.up) ∧ xs[o + 2]? = some (.bool t.last) ∧ ∃ fa fc, xs[o + 3]? = some (.slice fa t.fields.length fc) ∧ FieldRow w S fa fc t.fields
/-- The types ts lie at a, in a row of the call's own from block S on, and so do their fields. -/
def TRow (w : World) (S : Nat) (a : Option Addr) (cap : Nat) (ts : List Ty) : Prop :=
  ∃ xs, w.ownsRow S 44 4 (.slice a ts.length cap) ts.length xs ∧ ∀ i, i < ts.length → TvRow w S xs (i * 4) (tyAt ts i)

theorem TvRow.keep {w w' : World} {S : Nat} {xs : List Value} {o : Nat} {t : Ty} (h : TvRow w S xs o t) (hk : KeepE S 33 w w') : TvRow w' S xs o t := by
  obtain ⟨a, b, c, fa, fc, d, e⟩ := h
  exact ⟨a, b, c, fa, fc, d, owns_keepE e hk⟩
theorem TRow.keep {w w' : World} {S cap : Nat} {a : Option Addr} {ts : List Ty} (h : TRow w S a cap ts) (h1 : KeepE S 44 w w') (h2 : KeepE S 33 w w') : TRow w' S a cap ts := by
  obtain ⟨xs, ho, ht⟩ := h
  exact ⟨xs, owns_keepE ho h1, fun i hi => (ht i hi).keep h2⟩
theorem TRow.below {w w' : World} {S cap : Nat} {a : Option Addr} {ts : List Ty} (h : TRow w S a cap ts) (hb : Below w.heap.size w w') : TRow w' S a cap ts := h.keep (.below hb) (.below hb)
theorem FieldRow.lower {w : World} {S S' cap : Nat} {a : Option Addr} {fs : List Fd} (h : FieldRow w S a cap fs) (hS : S' ≤ S) : FieldRow w S' a cap fs := owns_lower h hS
theorem TRow.lower {w : World} {S S' cap : Nat} {a : Option Addr} {ts : List Ty} (h : TRow w S a cap ts) (hS : S' ≤ S) : TRow w S' a cap ts := by
  obtain ⟨xs, ho, ht⟩ := h
  refine ⟨xs, owns_lower ho hS, fun i hi => ?_⟩
  obtain ⟨a, b, c, fa, fc, d, e⟩ := ht i hi
  exact ⟨a, b, c, fa, fc, d, e.lower hS⟩
theorem TRow.types {w : World} {S cap : Nat} {a : Option Addr} {ts : List Ty} (h : TRow w S a cap ts) : TypesIn w S w.heap.size a ts := by
  obtain ⟨xs, ho, hT⟩ := h
  rcases owns_cells ho with h0 | ⟨g, rfl, hS, hlt, hc⟩
  · exact .inl (List.length_eq_zero_iff.1 (by omega))
  · refine .inr ⟨g, 0, rfl, hS, hlt, fun i hi => ?_⟩
    obtain ⟨a, b, c, fa, fc, d, e⟩ := hT i hi
    rw [Nat.zero_add]
    refine ⟨?_, ?_, ?_, fa, fc, ?_, e.fields⟩
    all_goals rw [hc _ (by omega)]; assumption

theorem TvRow.append {w : World} {S : Nat} {xs : List Value} {o : Nat} {t : Ty} (h : TvRow w S xs o t) (ys : List Value) : TvRow w S (xs ++ ys) o t := by
  obtain ⟨a, b, c, fa, fc, d, e⟩ := h
  have q : ∀ {k : Nat} {v : Value}, xs[k]? = some v → (xs ++ ys)[k]? = some v := fun {k v} hk => by
    have := (List.getElem?_eq_some_iff.1 hk).1
    rw [List.getElem?_append_left this]; exact hk
  exact ⟨q a, q b, q c, fa, fc, q d, e⟩
/-- One type more. -/
theorem TRow.snoc {w1 : World} {S cap' : Nat} {a' : Option Addr} {ts : List Ty} {t : Ty} {fa : Option Addr} {fc : Nat} {xs : List Value}
    (hT : ∀ i, i < ts.length → TvRow w1 S xs (i * 4) (tyAt ts i)) (hl : xs.length = ts.length * 4) (hf : FieldRow w1 S fa fc t.fields)
    (ho : w1.ownsRow S 44 4 (.slice a' (ts.length + 1) cap') (ts.length + 1) (xs ++ [.int .i64 t.kind, .int .i64 t.up, .bool t.last, .slice fa t.fields.length fc])) :
    TRow w1 S a' cap' (ts ++ [t]) := by
  refine ⟨_, by simpa using ho, fun i hi => ?_⟩
  by_cases e : i < ts.length
  · rw [tyAt_append_left _ _ _ e]
    exact (hT i e).append _
  · have : i = ts.length := by simp at hi; omega
    subst this
    rw [tyAt_append_one]
    refine ⟨?_, ?_, ?_, fa, fc, ?_, hf⟩ <;> simp [← hl]

/-- What a field of a row is to, turned. -/
def setOf (fs : List Fd) (k : Nat) (v : Int) : List Fd := fs.set k ⟨(fdAt fs k).kind, v, (fdAt fs k).mt⟩
theorem setOf_length (fs : List Fd) (k : Nat) (v : Int) : (setOf fs k v).length = fs.length := by simp [setOf]
theorem setOf_at (fs : List Fd) (k : Nat) (v : Int) (i : Nat) (hk : k < fs.length) : fdAt (setOf fs k v) i = if i = k then ⟨(fdAt fs k).kind, v, (fdAt fs k).mt⟩ else fdAt fs i := by
  unfold setOf
  simp only [fdAt, List.getD_eq_getElem?_getD, List.getElem?_set]
  by_cases e : k = i
  · subst e; simp [hk]
  · rw [if_neg e, if_neg (fun h => e h.symm)]
theorem fcells_setOf (fs : List Fd) (k : Nat) (v : Int) (hk : k < fs.length) : fcells (setOf fs k v) = (fcells fs).set (k * 3 + 1) (.int .i64 v) := by
  refine List.ext_getElem? fun j => ?_
  by_cases h : j < fs.length * 3
  · rw [fcells_get _ _ (by rw [setOf_length]; exact h), setOf_at _ _ _ _ hk, List.getElem?_set]
    by_cases e : k * 3 + 1 = j
    · subst e
      rw [if_pos (show (k * 3 + 1) / 3 = k by omega), if_pos rfl, if_pos (by rw [fcells_length]; exact h), show (k * 3 + 1) % 3 = 1 by omega]
      rfl
    · rw [if_neg e, fcells_get _ _ h]
      by_cases e2 : j / 3 = k
      · rw [if_pos e2, e2]
        have hr : j % 3 = 0 ∨ j % 3 = 2 := by omega
        rcases hr with hr | hr <;> rw [hr] <;> rfl
      · rw [if_neg e2]
  · rw [List.getElem?_eq_none_iff.2 (by rw [fcells_length, setOf_length]; omega), List.getElem?_eq_none_iff.2 (by rw [List.length_set, fcells_length]; omega)]
theorem FieldRow.setOf {w : World} {S b cap : Nat} {fs : List Fd} (h : FieldRow w S (some ⟨b, 0, none⟩) cap fs) (k : Nat) (v : Int) (hk : k < fs.length) : FieldRow (w.setCell ⟨b, k * 3 + 1, none⟩ (.int .i64 v)) S (some ⟨b, 0, none⟩) cap (YtblliefejffhoaaGreatDoor.setOf fs k v) := by
  rcases h.2 with ⟨h0, _⟩ | ⟨g, cap', cur, h0, hS, hg, h1, h2, h3, h4⟩
  · simp at h0
  · simp at h0
    obtain ⟨rfl, rfl⟩ := h0
    refine ⟨by rw [fcells_length, setOf_length], .inr ⟨b, cap, cur.setIfInBounds (k * 3 + 1) (.int .i64 v), by rw [setOf_length], hS, ?_, by rw [setOf_length]; exact h1, h2, by simpa using h3, ?_⟩⟩
    · simp [World.setCell, Array.getElem?_modify, hg]
    · rw [fcells_setOf _ _ _ hk, ← h4, setOf_length, Array.toList_setIfInBounds, List.take_set]
end Go.Proofs.YtblliefejffhoaaGreatDoor

/- Rows of instructions and of functions of the draws' own: what is known of them, what keeps them, one more. -/
namespace Go.Proofs.YtblliefejffhoaaGreatDoor
open Go.ChangeShapes Go.WideShapes Go.ChangeAt Go.RowKit Go.Deep
set_option linter.unusedVariables false

/-- The cells of instructions. -/
def icells : List GIns → List Value
  | [] => []
  | x :: l => .int .i64 x.op :: .int .i64 x.a :: .int .i64 x.b :: icells l
theorem icells_length (l : List GIns) : (icells l).length = l.length * 3 := by
  induction l with
  | nil => rfl
  | cons x l ih => simp only [icells, List.length_cons, ih]; omega
theorem icells_app (l m : List GIns) : icells (l ++ m) = icells l ++ icells m := by
  induction l with
  | nil => rfl
  | cons x l ih => simp only [List.cons_append, icells, ih]
theorem icells_get (l : List GIns) (i : Nat) (h : i < l.length) : (icells l)[i * 3]? = some (.int .i64 (insAt' l i).op) ∧ (icells l)[i * 3 + 1]? = some (.int .i64 (insAt' l i).a) ∧ (icells l)[i * 3 + 2]? = some (.int .i64 (insAt' l i).b) := by
  induction l generalizing i with
  | nil => exact absurd h (Nat.not_lt_zero _)
  | cons x l ih =>
    cases i with
    | zero => exact ⟨rfl, rfl, rfl⟩
    | succ i =>
      have := ih i (by simpa using h)
      have e : insAt' (x :: l) (i + 1) = insAt' l i := by simp [insAt', List.getD]
      rw [e]
      have e3 : (i + 1) * 3 = i * 3 + 3 := by omega
      rw [e3]
      simpa [icells] using this
theorem icells_one (l : List GIns) : ∀ u ∈ icells l, u.oneCell' = true := by
  induction l with
  | nil => intro u hu; simp [icells] at hu
  | cons x l ih =>
    intro u hu
    simp only [icells, List.mem_cons] at hu
    rcases hu with rfl | rfl | rfl | hu
    · rfl
    · rfl
    · rfl
    · exact ih u hu

/-- The instructions xs are in the slice v, which is none, or a row of the call's own from block S on. -/
def InRow (w : World) (S : Nat) (v : Value) (xs : List GIns) : Prop := w.ownsRow S 59 3 v xs.length (icells xs)
theorem InRow.nil (w : World) (S : Nat) : InRow w S (.slice none 0 0) [] := ⟨rfl, .inl ⟨rfl, rfl⟩⟩
theorem InRow.inss {w : World} {S cap : Nat} {a : Option Addr} {xs : List GIns} (h : InRow w S (.slice a xs.length cap) xs) : InssM false w S w.heap.size a xs := by
  rcases owns_cells h with h0 | ⟨g, rfl, hS, hlt, hc⟩
  · exact .inl (List.length_eq_zero_iff.1 (by omega))
  · refine .inr ⟨g, 0, rfl, hS, hlt, fun e => (by cases e), fun i hi => ?_⟩
    obtain ⟨h1, h2, h3⟩ := icells_get xs i hi
    rw [Nat.zero_add]
    exact ⟨(hc _ (by omega)).trans h1, (hc _ (by omega)).trans h2, (hc _ (by omega)).trans h3⟩

/-- A row in blocks from lo on and below hi. -/
def FdI (w : World) (lo hi : Nat) (v : Value) (xs : List Fd) : Prop := FdRow w lo v xs ∧ ∀ k, v.ownBlock = some k → k < hi
def InI (w : World) (lo hi : Nat) (v : Value) (xs : List GIns) : Prop := InRow w lo v xs ∧ ∀ k, v.ownBlock = some k → k < hi
theorem FdI.keepE {w w' : World} {lo hi S : Nat} {v : Value} {xs : List Fd} (h : FdI w lo hi v xs) (hk : KeepE S 33 w w') (hS : S ≤ lo) : FdI w' lo hi v xs :=
  ⟨owns_keepE h.1 (fun k c hl => hk k c (by omega)), h.2⟩
theorem InI.keepE {w w' : World} {lo hi S : Nat} {v : Value} {xs : List GIns} (h : InI w lo hi v xs) (hk : KeepE S 59 w w') (hS : S ≤ lo) : InI w' lo hi v xs :=
  ⟨owns_keepE h.1 (fun k c hl => hk k c (by omega)), h.2⟩
theorem FdI.of {w : World} {lo lo' : Nat} {v : Value} {xs : List Fd} (h : FdRow w lo v xs) (hl : lo' ≤ lo) : FdI w lo' w.heap.size v xs := ⟨h.lower hl, owns_lt h⟩
theorem InI.of {w : World} {lo lo' : Nat} {v : Value} {xs : List GIns} (h : InRow w lo v xs) (hl : lo' ≤ lo) : InI w lo' w.heap.size v xs := ⟨owns_lower h hl, owns_lt h⟩
theorem FdI.lies {w : World} {lo hi S cap : Nat} {a : Option Addr} {xs : List Fd} (h : FdI w lo hi (.slice a xs.length cap) xs) (hS : S ≤ lo) : FieldsM false w S w.heap.size a xs :=
  (FdRow.own h.1).plain.wide hS (Nat.le_refl _)
theorem InI.lies {w : World} {lo hi S cap : Nat} {a : Option Addr} {xs : List GIns} (h : InI w lo hi (.slice a xs.length cap) xs) (hS : S ≤ lo) : InssM false w S w.heap.size a xs :=
  h.1.inss.wide hS (Nat.le_refl _)

/-- Two rows lie in two blocks. -/
def Apart2 (u v : Value) : Prop := ∀ k, u.ownBlock = some k → v.ownBlock ≠ some k
theorem Apart2.of {u v : Value} {b : Nat} (h1 : ∀ k, u.ownBlock = some k → k < b) (h2 : ∀ k, v.ownBlock = some k → b ≤ k) : Apart2 u v := fun k h3 h4 => by
  have := h1 k h3
  have := h2 k h4
  omega
/-- A function's six cells lie in a list of cells from o on; its lists lie in rows of their own, in blocks from b0 on and below b3, apart from each other. -/
def FunV (w : World) (b0 b3 : Nat) (xs : List Value) (o : Nat) (f : GFun) : Prop :=
  ∃ a0 c0 a4 c4 a5 c5, xs[o]? = some (.slice a0 f.takes.length c0) ∧ xs[o + 1]? = some (.int .i64 f.gives.kind) ∧ xs[o + 2]? = some (.int .i64 f.gives.of) ∧ xs[o + 3]? = some (.bool f.gives.mt) ∧ xs[o + 4]? = some (.slice a4 f.own.length c4) ∧ xs[o + 5]? = some (.slice a5 f.body.length c5) ∧
    FdI w b0 b3 (.slice a0 f.takes.length c0) f.takes ∧ FdI w b0 b3 (.slice a4 f.own.length c4) f.own ∧ InI w b0 b3 (.slice a5 f.body.length c5) f.body ∧ Apart2 (.slice a0 f.takes.length c0) (.slice a4 f.own.length c4)
def KeepF (S : Nat) (w w' : World) : Prop := KeepE S 33 w w' ∧ KeepE S 59 w w'
theorem KeepF.below {S : Nat} {w w' : World} (h : Below w.heap.size w w') : KeepF S w w' := ⟨.below h, .below h⟩
theorem KeepF.only {S g : Nat} {w w' : World} (h : Only g w w') (hg : g < S) : KeepF S w w' := ⟨.only h hg, .only h hg⟩
theorem FunV.keep {w w' : World} {S b0 b3 o : Nat} {xs : List Value} {f : GFun} (h : FunV w b0 b3 xs o f) (hk : KeepF S w w') (h0 : S ≤ b0) : FunV w' b0 b3 xs o f := by
  obtain ⟨a0, c0, a4, c4, a5, c5, e0, e1, e2, e3, e4, e5, r0, r4, r5, r6⟩ := h
  exact ⟨a0, c0, a4, c4, a5, c5, e0, e1, e2, e3, e4, e5, r0.keepE hk.1 h0, r4.keepE hk.1 h0, r5.keepE hk.2 h0, r6⟩
theorem FunV.append {w : World} {b0 b3 o : Nat} {xs : List Value} {f : GFun} (h : FunV w b0 b3 xs o f) (ys : List Value) : FunV w b0 b3 (xs ++ ys) o f := by
  obtain ⟨a0, c0, a4, c4, a5, c5, e0, e1, e2, e3, e4, e5, r⟩ := h
  have q : ∀ {k : Nat} {v : Value}, xs[k]? = some v → (xs ++ ys)[k]? = some v := fun {k v} hk => by
    have := (List.getElem?_eq_some_iff.1 hk).1
    rw [List.getElem?_append_left this]; exact hk
  exact ⟨a0, c0, a4, c4, a5, c5, q e0, q e1, q e2, q e3, q e4, q e5, r⟩

/-- The functions fs are in the slice v, which is none or a row of the call's own from block S on; all their lists lie apart. -/
def FunRow (w : World) (S : Nat) (v : Value) (fs : List GFun) : Prop :=
  ∃ (xs : List Value) (B : Nat → Nat), w.ownsRow S 36 6 v fs.length xs ∧ S ≤ B 0 ∧ (∀ i, B i ≤ B (i + 1)) ∧ B fs.length ≤ w.heap.size ∧ ∀ i, i < fs.length → FunV w (B i) (B (i + 1)) xs (i * 6) (funAt' fs i)
theorem mono_le {B : Nat → Nat} (h : ∀ i, B i ≤ B (i + 1)) : ∀ (d i : Nat), B i ≤ B (i + d) := by
  intro d
  induction d with
  | zero => intro i; exact Nat.le_refl _
  | succ d ih => intro i; exact Nat.le_trans (ih i) (h (i + d))
theorem mono_le' {B : Nat → Nat} (h : ∀ i, B i ≤ B (i + 1)) {i j : Nat} (hij : i ≤ j) : B i ≤ B j := by
  have := mono_le h (j - i) i
  rwa [Nat.add_sub_cancel' hij] at this
theorem FunRow.nil (w : World) (S : Nat) (hS : S ≤ w.heap.size) : FunRow w S (.slice none 0 0) [] := ⟨[], fun _ => S, ⟨rfl, .inl ⟨rfl, rfl⟩⟩, Nat.le_refl _, fun _ => Nat.le_refl _, hS, fun i hi => absurd hi (Nat.not_lt_zero _)⟩
theorem FunRow.keep {w w' : World} {S : Nat} {v : Value} {fs : List GFun} (h : FunRow w S v fs) (h1 : KeepE S 36 w w') (h2 : KeepF S w w') (h3 : w.heap.size ≤ w'.heap.size) : FunRow w' S v fs := by
  obtain ⟨xs, B, ho, hS, hB, hl, hf⟩ := h
  exact ⟨xs, B, owns_keepE ho h1, hS, hB, Nat.le_trans hl h3, fun i hi => (hf i hi).keep h2 (Nat.le_trans hS (mono_le' hB (Nat.zero_le _)))⟩
theorem FunRow.below {w w' : World} {S : Nat} {v : Value} {fs : List GFun} (h : FunRow w S v fs) (hb : Below w.heap.size w w') : FunRow w' S v fs := h.keep (.below hb) (.below hb) hb.size
theorem FunRow.only {w w' : World} {S g : Nat} {v : Value} {fs : List GFun} (h : FunRow w S v fs) (hb : Only g w w') (hg : g < S) : FunRow w' S v fs := h.keep (.only hb hg) (.only hb hg) hb.size
theorem FunRow.val {w : World} {S : Nat} {v : Value} {fs : List GFun} (h : FunRow w S v fs) : ∃ a cap, v = .slice a fs.length cap := by
  obtain ⟨xs, B, ho, _⟩ := h
  rcases ho.2 with ⟨h1, h0⟩ | ⟨g, cap, cur, h1, _⟩
  · exact ⟨none, 0, by rw [h1, h0]⟩
  · exact ⟨_, _, h1⟩
theorem FunRow.funs {w : World} {S cap : Nat} {a : Option Addr} {fs : List GFun} (h : FunRow w S (.slice a fs.length cap) fs) : FunsM false w S w.heap.size a fs := by
  obtain ⟨xs, B, ho, hS, hB, hl, hf⟩ := h
  rcases owns_cells ho with h0 | ⟨g, rfl, hS', hlt, hc⟩
  · exact .inl (List.length_eq_zero_iff.1 (by omega))
  · refine .inr ⟨g, 0, rfl, hS', hlt, fun e => (by cases e), fun i hi => ?_⟩
    obtain ⟨a0, c0, a4, c4, a5, c5, e0, e1, e2, e3, e4, e5, r0, r4, r5, _⟩ := hf i hi
    have q : ∀ {k : Nat} {v : Value}, k < 6 → xs[i * 6 + k]? = some v → w.cell? ⟨g, i * 6 + k, none⟩ = some v := fun {k v} hk e => (hc _ (by omega)).trans e
    have b : ∀ j, S ≤ B j := fun j => Nat.le_trans hS (mono_le' hB (Nat.zero_le _))
    rw [Nat.zero_add]
    exact ⟨a0, c0, a4, c4, a5, c5, q (k := 0) (by omega) e0, q (k := 1) (by omega) e1, q (k := 2) (by omega) e2, q (k := 3) (by omega) e3, q (k := 4) (by omega) e4, q (k := 5) (by omega) e5, r0.lies (b _), r4.lies (b _), r5.lies (b _)⟩
theorem funAt_snoc_left (l : List GFun) (f : GFun) (i : Nat) (h : i < l.length) : funAt' (l ++ [f]) i = funAt' l i := by
  simp [funAt', List.getD, List.getElem?_append_left h]
theorem funAt_snoc_last (l : List GFun) (f : GFun) : funAt' (l ++ [f]) l.length = f := by simp [funAt', List.getD]
/-- One function more: what is known of the functions ahead in the world in which it is appended, and of its own lists. -/
theorem FunRow.snoc {w w1 : World} {S cap' b3 g' : Nat} {fs : List GFun} {f : GFun} {a0 a4 a5 : Option Addr} {c0 c4 c5 : Nat} {xs : List Value} {B : Nat → Nat}
    (hS : S ≤ B 0) (hB : ∀ i, B i ≤ B (i + 1)) (hl : xs.length = fs.length * 6) (hf : ∀ i, i < fs.length → FunV w (B i) (B (i + 1)) xs (i * 6) (funAt' fs i))
    (r0 : FdI w (B fs.length) b3 (.slice a0 f.takes.length c0) f.takes) (r4 : FdI w (B fs.length) b3 (.slice a4 f.own.length c4) f.own) (r5 : InI w (B fs.length) b3 (.slice a5 f.body.length c5) f.body) (r6 : Apart2 (.slice a0 f.takes.length c0) (.slice a4 f.own.length c4)) (q1 : B fs.length ≤ b3) (q4 : b3 ≤ w1.heap.size)
    (hk : KeepF S w w1)
    (ho : w1.ownsRow S 36 6 (.slice (some ⟨g', 0, none⟩) (fs.length + 1) cap') (fs.length + 1) (xs ++ [.slice a0 f.takes.length c0, .int .i64 f.gives.kind, .int .i64 f.gives.of, .bool f.gives.mt, .slice a4 f.own.length c4, .slice a5 f.body.length c5])) :
    FunRow w1 S (.slice (some ⟨g', 0, none⟩) (fs.length + 1) cap') (fs ++ [f]) := by
  have hb : ∀ j, S ≤ B j := fun j => Nat.le_trans hS (mono_le' hB (Nat.zero_le _))
  generalize hn : fs.length = n at *
  refine ⟨_, fun i => if i ≤ n then B i else b3, by simpa [hn] using ho, by simpa using hS, fun i => ?_, ?_, fun i hi => ?_⟩
  · have := hB i
    show (if i ≤ n then B i else b3) ≤ (if i + 1 ≤ n then B (i + 1) else b3)
    by_cases h2 : i = n
    · subst h2
      rw [if_pos (Nat.le_refl _), if_neg (by omega)]
      exact q1
    · repeat' split
      all_goals omega
  · simp only [List.length_append, List.length_singleton, hn, show ¬ n + 1 ≤ n by omega, if_false]
    exact q4
  · by_cases e : i < n
    · rw [funAt_snoc_left _ _ _ (by omega)]
      simp only [show i ≤ n by omega, show i + 1 ≤ n by omega, if_true]
      exact ((hf i e).keep hk (hb _)).append _
    · have e2 : i = n := by simp [hn] at hi; omega
      subst e2
      have e3 : funAt' (fs ++ [f]) i = f := by rw [← hn]; exact funAt_snoc_last fs f
      rw [e3]
      simp only [Nat.le_refl, show ¬ i + 1 ≤ i by omega, if_true, if_false]
      refine ⟨a0, c0, a4, c4, a5, c5, ?_, ?_, ?_, ?_, ?_, ?_, r0.keepE hk.1 (hb _), r4.keepE hk.1 (hb _), r5.keepE hk.2 (hb _), r6⟩
      all_goals simp [← hl]
end Go.Proofs.YtblliefejffhoaaGreatDoor

/- l3Sort, l3SortList of the model: sorts, drawn. -/
namespace Go.Proofs.YtblliefejffhoaaGreatDoor
open Go.ChangeShapes Go.WideShapes Go.ChangeAt Go.RowKit Go.Deep
set_option linter.unusedVariables false

def SortPost (g p : Nat) (w : World) (e : Ending) (w' : World) : Prop :=
  ∃ f : Fd, e = .returned (.agg #[.int .i64 f.kind, .int .i64 f.of, .bool f.mt]) ∧ (∃ p', p' ≤ p + 3 ∧ Rd w' g p') ∧ Only g w w'

set_option maxHeartbeats 1600000 in
theorem l3Sort_any (g p : Nat) (n : Int) (b : Bool) (w : World) (hp : p < 800000) (h : Rd w g p) (hn : 0 ≤ n) (hn2 : n < 1000000) :
    Calls Tryz.prog 67 #[.pointer (some ⟨g, 0, none⟩), .int .i64 n, .bool b] w (SortPost g p w) := by
  have hg := h.lt
  go_enter Tryz.func67, Tryz.ntmps67
  go_wp2_with fail
  refine (l1Field_any g p n _ (by omega) (h.alloc _) hn hn2).mono ?_
  rintro e w2 ⟨k, o, m, rfl, ⟨p2, hp2, r2⟩, o2⟩
  have R2 : Hid (Rec w2 w.heap.size 33 [.int .i64 0, .int .i64 0, .bool false]) := (Rec.new' _ _ _ _ rfl).only o2 (Nat.ne_of_gt hg)
  have O2 : Hid (Only g w w2) := ((Only.refl g w).alloc _).trans o2
  have s2 := R2.out.lt
  have c0 := R2.out.cell (o := 0) rfl
  have c1 := R2.out.cell (o := 1) rfl
  have c2 := R2.out.cell (o := 2) rfl
  have f0 := R2.out.frozen 0
  have f1 := R2.out.frozen 1
  have f2 := R2.out.frozen 2
  have g2 : g < w2.heap.size := by omega
  clear o2
  cases b
  · go_wp2_with fail
    refine bodyPost_ret (v := .agg #[.int .i64 k, .int .i64 o, .bool false]) (by simp [results, Tryz.results67, go_sem, *]) rfl ⟨⟨k, o, false⟩, rfl, ⟨p2, hp2, ?_⟩, ?_⟩
    · exact (((r2.set hg _ _).set hg _ _).set hg _ _).alloc _
    · exact (((O2.out.set (Nat.le_refl _) _ _).set (Nat.le_refl _) _ _).set (Nat.le_refl _) _ _).alloc _
  · by_cases hk : k = 3
    · subst hk
      go_wp2_with fail
      refine bodyPost_ret (v := .agg #[.int .i64 2, .int .i64 o, .bool false]) (by simp [results, Tryz.results67, go_sem, *]) rfl ⟨⟨2, o, false⟩, rfl, ⟨p2, hp2, ?_⟩, ?_⟩
      · exact (((r2.set hg _ _).set hg _ _).set hg _ _).alloc _
      · exact (((O2.out.set (Nat.le_refl _) _ _).set (Nat.le_refl _) _ _).set (Nat.le_refl _) _ _).alloc _
    · have hk2 : (k == 3) = false := by simp [hk]
      go_wp2_with fail
      refine bodyPost_ret (v := .agg #[.int .i64 k, .int .i64 o, .bool false]) (by simp [results, Tryz.results67, go_sem, *]) rfl ⟨⟨k, o, false⟩, rfl, ⟨p2, hp2, ?_⟩, ?_⟩
      · exact (((r2.set hg _ _).set hg _ _).set hg _ _).alloc _
      · exact (((O2.out.set (Nat.le_refl _) _ _).set (Nat.le_refl _) _ _).set (Nat.le_refl _) _ _).alloc _

theorem Only.transB {g : Nat} {a b c : World} (h : Only g a b) (k : Below a.heap.size b c) : Only g a c := ⟨h.none.trans (k.mono (Nat.zero_le _)), fun i h1 h2 => (k.block i h2).trans (h.block i h1 h2)⟩
theorem FdRow.only {w w' : World} {S g : Nat} {v : Value} {xs : List Fd} (h : FdRow w S v xs) (ho : Only g w w') (hg : g < S) : FdRow w' S v xs := owns_only h ho hg
theorem FdRow.empty (w : World) (S : Nat) (hS : S ≤ w.heap.size) : FdRow (w.alloc (.cells #[] 33)) S (.slice (some ⟨w.heap.size, 0, none⟩) 0 0) [] :=
  ⟨rfl, .inr ⟨w.heap.size, 0, #[], rfl, hS, Deep.blk_alloc_new _ _, Nat.le_refl _, by unfold maxLen; omega, rfl, rfl⟩⟩
theorem field_one (w : World) (f : Fd) : FieldsIn (w.alloc (.cells #[.int .i64 f.kind, .int .i64 f.of, .bool f.mt] 33)) w.heap.size (w.heap.size + 1) (some ⟨w.heap.size, 0, none⟩) [f] :=
  .inr ⟨w.heap.size, 0, rfl, Nat.le_refl _, Nat.lt_succ_self _, fun i hi => by
    have : i = 0 := by simp at hi; omega
    subst this
    exact ⟨by simp [fdAt], by simp [fdAt], by simp [fdAt]⟩⟩

def SortsPost (g p k : Nat) (w : World) (e : Ending) (w' : World) : Prop :=
  ∃ (fs : List Fd) (a : Option Addr) (cap : Nat), e = .returned (.slice a fs.length cap) ∧ fs.length = k ∧ FdRow w' w.heap.size (.slice a fs.length cap) fs ∧ (∃ p', p' ≤ p + 3 * k ∧ Rd w' g p') ∧ Only g w w'

set_option maxHeartbeats 3200000 in
set_option maxRecDepth 100000 in
theorem l3SortList_any (g p k : Nat) (n : Int) (b : Bool) (w : World) (hp : p < 700000) (h : Rd w g p) (hk : k ≤ 3) (hn : 0 ≤ n) (hn2 : n < 1000000) :
    Calls Tryz.prog 66 #[.pointer (some ⟨g, 0, none⟩), .int .i64 (k : Nat), .int .i64 n, .bool b] w (SortsPost g p k w) := by
  have hg := h.lt
  have F0 : Hid (FdRow (w.alloc (.cells #[] 33)) w.heap.size (.slice (some ⟨w.heap.size, 0, none⟩) 0 0) []) := FdRow.empty w _ (Nat.le_refl _)
  have R0 : Hid (Rd (w.alloc (.cells #[] 33)) g p) := h.alloc _
  have O0 : Hid (Only g w (w.alloc (.cells #[] 33))) := (Only.refl g w).alloc _
  go_enter Tryz.func66, Tryz.ntmps66
  go_wp2_with fail
  go_loopw [9, 10] (fun o i wr => ∃ (v : Value) (j : Nat) (fs : List Fd) (pq : Nat), v = o ∧ i = .int .i64 j ∧ j ≤ k ∧ Hid (fs.length = j) ∧ Hid (FdRow wr w.heap.size v fs) ∧ pq ≤ p + 3 * j ∧ Hid (Rd wr g pq) ∧ Hid (Only g w wr)) (fun o i wr => k - (intOf i).toNat)
  case atStart => exact ⟨_, 0, [], p, rfl, rfl, Nat.zero_le _, rfl, F0, by omega, R0, O0⟩
  case round =>
    obtain ⟨v, j, fs, pq, rfl, rfl, hj, HL, HF, hpq, HR, HO⟩ := hrel
    clear F0 R0 O0
    by_cases hjk : j < k
    · have hjk' : (j : Int) < (k : Int) := by omega
      go_wp2_with fail
      refine (l3Sort_any g pq n b wr (by omega) HR.out hn hn2).mono ?_
      rintro e w1 ⟨f, rfl, ⟨p1, hp1, r1⟩, o1⟩
      have s1 : wr.heap.size ≤ w1.heap.size := o1.size
      have s0 : w.heap.size ≤ wr.heap.size := HO.out.size
      have F1 := hide ((HF.out.only o1 hg).alloc (.cells #[.int .i64 f.kind, .int .i64 f.of, .bool f.mt] 33))
      have R1 := hide (r1.alloc (.cells #[.int .i64 f.kind, .int .i64 f.of, .bool f.mt] 33))
      have O1 := hide ((HO.out.trans o1).alloc (.cells #[.int .i64 f.kind, .int .i64 f.of, .bool f.mt] 33))
      have X1 := hide (field_one w1 f)
      have hl : fs.length ≤ 3 := by have := HL.out; omega
      clear o1 r1 HF HR HO
      go_wp2_with (first | (at_builtin; (refine wpList_app_fields rfl _ _ rfl w.heap.size v fs (some ⟨w1.heap.size, 0, none⟩) 1 w1.heap.size (w1.heap.size + 1) [f] rfl F1.out rfl (by omega) (by simp) X1.out (by simp; omega) ?_)))
      intro a2 cap2 w2 hF2 hb2
      have F2 := hide hF2
      have B2 := hide hb2
      clear hF2 hb2
      go_wp2_with fail
      exact ⟨⟨_, j + 1, fs ++ [f], p1, rfl, by go_num, by omega, (by show _ = _; simp [HL.out]), F2, by omega, R1.out.keep' (B2.out.mono (by omega)), O1.out.transB B2.out⟩, by simp [intOf]; omega⟩
    · obtain ⟨a, cap, rfl⟩ := HF.out.val
      have hje : Hid (j = k) := Nat.le_antisymm hj (Nat.le_of_not_lt hjk)
      go_wp2_with fail
      go_ret
      exact ⟨fs, a, cap, rfl, HL.out.trans hje.out, HF.out, ⟨pq, by omega, HR.out⟩, HO.out⟩
end Go.Proofs.YtblliefejffhoaaGreatDoor

/- A list of whatever elements appended to an empty one: a row of the call's own, in new memory; nothing else has turned. -/
namespace Go.Proofs.YtblliefejffhoaaGreatDoor
open Go.ChangeShapes Go.WideShapes Go.ChangeAt Go.RowKit Go.Deep
set_option linter.unusedVariables false

/-- n elements, of the cells ys, lie at fa. -/
def CellsAt (w : World) (fa : Option Addr) (n : Nat) (ys : List Value) : Prop := n = 0 ∨ ∃ b off, fa = some ⟨b, off, none⟩ ∧ b < w.heap.size ∧ ∀ (j : Nat) (u : Value), ys[j]? = some u → w.cell? ⟨b, off + j, none⟩ = some u
theorem CellsAt.below {w w' : World} {fa : Option Addr} {n : Nat} {ys : List Value} (h : CellsAt w fa n ys) (hb : Below w.heap.size w w') : CellsAt w' fa n ys := by
  rcases h with h | ⟨b, off, rfl, hlt, hc⟩
  · exact .inl h
  · exact .inr ⟨b, off, rfl, Nat.lt_of_lt_of_le hlt hb.size, fun j u hj => by rw [hb.cell (p := ⟨b, off + j, none⟩) hlt]; exact hc j u hj⟩
theorem CellsAt.fields {w : World} {lo hi : Nat} {fa : Option Addr} {fs : List Fd} (h : FieldsIn w lo hi fa fs) (hh : hi ≤ w.heap.size) : CellsAt w fa fs.length (fcells fs) := by
  rcases h with rfl | ⟨b, off, rfl, h1, h2, h3⟩
  · exact .inl rfl
  · refine .inr ⟨b, off, rfl, by omega, fun j u hj => ?_⟩
    have hlt : j < fs.length * 3 := by have := (List.getElem?_eq_some_iff.1 hj).1; rwa [fcells_length] at this
    rw [fcells_get _ _ hlt] at hj
    rw [fieldAt_cell h3 j hlt]
    exact hj
theorem CellsAt.inss {md : Bool} {w : World} {lo hi : Nat} {fa : Option Addr} {xs : List GIns} (h : InssM md w lo hi fa xs) (hh : hi ≤ w.heap.size) : CellsAt w fa xs.length (icells xs) := by
  rcases h with rfl | ⟨b, off, rfl, h1, h2, _, h3⟩
  · exact .inl rfl
  · refine .inr ⟨b, off, rfl, by omega, fun j u hj => ?_⟩
    have hlt : j < xs.length * 3 := by have := (List.getElem?_eq_some_iff.1 hj).1; rwa [icells_length] at this
    obtain ⟨g0, g1, g2⟩ := icells_get xs (j / 3) (by omega)
    obtain ⟨e0, e1, e2⟩ := h3 (j / 3) (by omega)
    have hr : j % 3 = 0 ∨ j % 3 = 1 ∨ j % 3 = 2 := by omega
    rcases hr with hr | hr | hr
    · have ej : j = j / 3 * 3 := by omega
      rw [ej, g0] at hj
      rw [ej, ← hj]; exact e0
    · have ej : j = j / 3 * 3 + 1 := by omega
      rw [ej, g1] at hj
      rw [ej, ← hj, ← Nat.add_assoc]; exact e1
    · have ej : j = j / 3 * 3 + 2 := by omega
      rw [ej, g2] at hj
      rw [ej, ← hj, ← Nat.add_assoc]; exact e2

theorem run_copy_row (t ty e : TypeId) (i0 : TypeInfo) (z : Value) (size bytes : Nat) (hu : Tryz.prog.underlying t = some (.slice e)) (hi0 : Tryz.prog.info? e = some i0) (hz0 : i0.zero = some z) (hs0 : i0.size = size) (hb0 : i0.bytes = bytes) (hzs : z.cells.size = size) (hsz : 0 < size) (hby : bytes ≤ 1000)
    (S : Nat) (base : Option Addr) (fa : Option Addr) (fc n : Nat) (ys : List Value) (w : World) (hown : w.ownsRow S e size (.slice base 0 0) 0 []) (hl : ys.length = n * size) (hx : CellsAt w fa n ys) (h1 : ∀ u ∈ ys, u.oneCell' = true) (hn : n ≤ 1048576) (hS : S ≤ w.heap.size) :
    ∃ na nc w', (Builtin.append_ #[t, t] ty #[.slice base 0 0, .slice fa n fc]).run Tryz.prog w = .ok (.slice na n nc) w' ∧ w'.ownsRow S e size (.slice na n nc) n ys ∧ Below w.heap.size w w' ∧ (na = base ∨ na = some ⟨w.heap.size, 0, none⟩ ∧ w.heap.size < w'.heap.size) := by
  by_cases h0 : n = 0
  · subst h0
    have hy : ys = [] := List.length_eq_zero_iff.1 (by omega)
    subst hy
    refine ⟨base, 0, w, ?_, hown, Below.refl _ _, .inl rfl⟩
    have e1 : (Builtin.firstCells i0.size 0 (.slice fa 0 fc)).run Tryz.prog w = .ok #[] w := by
      cases fa with
      | none => exact run_firstCells_none w i0.size 0 0 fc
      | some ad => exact run_firstCells_some w i0.size 0 ad 0 fc [] (by simp) (fun j u h => by simp at h)
    cases base with
    | none => simp [Builtin.append_, run_underlying hu, sizeOf, typeInfo, hi0, Builtin.lenOf, e1]
    | some B => simp [Builtin.append_, run_underlying hu, sizeOf, typeInfo, hi0, Builtin.lenOf, e1, storeCells]
  · rcases hx with h | ⟨b, off, rfl, hlt, hc⟩
    · exact absurd h h0
    have hnw : ∀ (j : Nat) (u : Value), ys[j]? = some u → w.cell? ((⟨b, off, none⟩ : Addr).add j) = some u := fun j u hj => by rw [add_plain]; exact hc j u hj
    have hbn : bytes * n ≤ 1048576000 := Nat.le_trans (Nat.mul_le_mul hby hn) (by omega)
    have hbn' : n * bytes ≤ 1048576000 := by rw [Nat.mul_comm]; exact hbn
    obtain ⟨v2, w2, hr2, ho2, hg2, _, _⟩ := run_append_own_at (P := Tryz.prog) w S t ty e i0 z size bytes hu hi0 hz0 hs0 hb0 hzs hsz (.slice base 0 0) 0 [] hown ⟨b, off, none⟩ n fc ys hl hnw h1 (by unfold maxLen; omega) (by rw [Nat.zero_add]; omega) hS
    have hsrc : Src Tryz.prog i0.size t (.slice (some ⟨b, off, none⟩) n fc) n ys w := Src.ofSlice w hu ⟨b, off, none⟩ n fc ys (by rw [hs0]; exact hl) hnw h1
    have hold : (Builtin.firstCells i0.size 0 (.slice base 0 0)).run Tryz.prog w.drew = .ok ([] : List Value).toArray w.drew := by
      cases base with
      | none => exact run_firstCells_none w.drew i0.size 0 0 0
      | some ad => exact run_firstCells_some w.drew i0.size 0 ad 0 0 [] (by simp) (fun j u h => by simp at h)
    have hrun := run_append_grow_src (P := Tryz.prog) w t t ty e i0 z hu hi0 hz0 base 0 0 [] hold _ n ys hsrc (by omega) (by omega)
      (growslice_fits_wide (by omega) (by rw [hb0]; exact Nat.le_trans (Nat.mul_le_mul (show 0 + n + (0 + n) / 4 + 192 ≤ 1400000 by omega) hby) (by omega)))
    rw [Nat.zero_add] at hrun
    have hq := hr2.symm.trans hrun
    injection hq with hq1 hq2
    subst hq1
    refine ⟨_, _, _, hrun, ?_, (Below.refl _ _).drew.alloc (Nat.le_refl _) _, .inr ⟨rfl, by simp⟩⟩
    rw [← hq2]
    simpa using ho2

theorem step_copy_row {ops : Array Oper} {o : Oper} {a : Act} {K : Act → World → Prop} {Q : Exit → Act → World → Prop} {E : Prop} (w : World) (hgd : o.guard = none) (s x : Operand) (t e : TypeId)
    (ho : o.op = .call { callee := .builtin .append, args := #[s, x], argTypes := #[t, t] })
    (i0 : TypeInfo) (z : Value) (size bytes : Nat) (hu : Tryz.prog.underlying t = some (.slice e)) (hi0 : Tryz.prog.info? e = some i0) (hz0 : i0.zero = some z) (hs0 : i0.size = size) (hb0 : i0.bytes = bytes) (hzs : z.cells.size = size) (hsz : 0 < size) (hby : bytes ≤ 1000)
    (S : Nat) (base : Option Addr) (fa : Option Addr) (fc n : Nat) (ys : List Value) (hs : a.eval s = .slice base 0 0) (hx : a.eval x = .slice fa n fc) (hown : w.ownsRow S e size (.slice base 0 0) 0 []) (hl : ys.length = n * size) (hc : CellsAt w fa n ys) (h1 : ∀ u ∈ ys, u.oneCell' = true) (hn : n ≤ 1048576) (hS : S ≤ w.heap.size)
    (h : ∀ na nc w', w'.ownsRow S e size (.slice na n nc) n ys → Below w.heap.size w w' → (na = base ∨ na = some ⟨w.heap.size, 0, none⟩ ∧ w.heap.size < w'.heap.size) → K (a.put o.dst (.slice na n nc)) w') :
    if Region.wanted o (yielded ops a.tmps) = true then Oper.wp Tryz.prog o a w K Q else E := by
  have hw : Region.wanted o (yielded ops a.tmps) = true := by simp [Region.wanted, hgd]
  rw [if_pos hw]
  obtain ⟨na, nc, w', hr, h2, h3, h4⟩ := run_copy_row t o.type e i0 z size bytes hu hi0 hz0 hs0 hb0 hzs hsz hby S base fa fc n ys w hown hl hc h1 hn hS
  unfold Oper.wp execOp
  simp only [ho, resolve, invoke, builtin, Sem.run_bind, Sem.run_pure, Result.andThen_ok, List.map_toArray, List.map_cons, List.map_nil, hs, hx, hr]
  exact h na nc w' h2 h3 h4
theorem wpList_copy_row {ops : Array Oper} {rest : List Oper} {o : Oper} {a : Act} {Q : Exit → Act → World → Prop} (w : World) (hgd : o.guard = none) (s x : Operand) (t e : TypeId)
    (ho : o.op = .call { callee := .builtin .append, args := #[s, x], argTypes := #[t, t] })
    (i0 : TypeInfo) (z : Value) (size bytes : Nat) (hu : Tryz.prog.underlying t = some (.slice e)) (hi0 : Tryz.prog.info? e = some i0) (hz0 : i0.zero = some z) (hs0 : i0.size = size) (hb0 : i0.bytes = bytes) (hzs : z.cells.size = size) (hsz : 0 < size) (hby : bytes ≤ 1000)
    (S : Nat) (base : Option Addr) (fa : Option Addr) (fc n : Nat) (ys : List Value) (hs : a.eval s = .slice base 0 0) (hx : a.eval x = .slice fa n fc) (hown : w.ownsRow S e size (.slice base 0 0) 0 []) (hl : ys.length = n * size) (hc : CellsAt w fa n ys) (h1 : ∀ u ∈ ys, u.oneCell' = true) (hn : n ≤ 1048576) (hS : S ≤ w.heap.size)
    (h : ∀ na nc w', w'.ownsRow S e size (.slice na n nc) n ys → Below w.heap.size w w' → (na = base ∨ na = some ⟨w.heap.size, 0, none⟩ ∧ w.heap.size < w'.heap.size) → wpList Tryz.prog ops Q rest (a.put o.dst (.slice na n nc)) w') : wpList Tryz.prog ops Q (o :: rest) a w := by
  obtain ⟨na, nc, w', hr, h2, h3, h4⟩ := run_copy_row t o.type e i0 z size bytes hu hi0 hz0 hs0 hb0 hzs hsz hby S base fa fc n ys w hown hl hc h1 hn hS
  refine wpList_plain hgd fun K hK => ?_
  unfold Oper.wp execOp
  simp only [ho, resolve, invoke, builtin, Sem.run_bind, Sem.run_pure, Result.andThen_ok, List.map_toArray, List.map_cons, List.map_nil, hs, hx, hr]
  exact hK _ _ (h na nc w' h2 h3 h4)
end Go.Proofs.YtblliefejffhoaaGreatDoor

/- Functions as the cells of a row: taken off a program, put into a row of the call's own. -/
namespace Go.Proofs.YtblliefejffhoaaGreatDoor
open Go.ChangeShapes Go.WideShapes Go.ChangeAt Go.RowKit Go.Deep
set_option linter.unusedVariables false

/-- Six cells are the function f; its lists lie in w. -/
def FunC (w : World) (lo hi : Nat) (ys : List Value) (o : Nat) (f : GFun) : Prop :=
  ∃ a0 c0 a4 c4 a5 c5, ys[o]? = some (.slice a0 f.takes.length c0) ∧ ys[o + 1]? = some (.int .i64 f.gives.kind) ∧ ys[o + 2]? = some (.int .i64 f.gives.of) ∧ ys[o + 3]? = some (.bool f.gives.mt) ∧ ys[o + 4]? = some (.slice a4 f.own.length c4) ∧ ys[o + 5]? = some (.slice a5 f.body.length c5) ∧ FieldsM false w lo hi a0 f.takes ∧ FieldsM false w lo hi a4 f.own ∧ InssM false w lo hi a5 f.body
theorem FunC.same {w w' : World} {lo hi lo' hi' o : Nat} {ys : List Value} {f : GFun} (h : FunC w lo hi ys o f) (hs : Same lo hi w w') (h1 : lo' ≤ lo) (h2 : hi ≤ hi') : FunC w' lo' hi' ys o f := by
  obtain ⟨a0, c0, a4, c4, a5, c5, e0, e1, e2, e3, e4, e5, l0, l4, l5⟩ := h
  exact ⟨a0, c0, a4, c4, a5, c5, e0, e1, e2, e3, e4, e5, l0.same hs h1 h2, l4.same hs h1 h2, l5.same hs h1 h2⟩
theorem FunC.move {w : World} {lo hi o o' : Nat} {ys ys' : List Value} {f : GFun} (h : FunC w lo hi ys o f) (he : ∀ k, k < 6 → ys'[o' + k]? = ys[o + k]?) : FunC w lo hi ys' o' f := by
  obtain ⟨a0, c0, a4, c4, a5, c5, e0, e1, e2, e3, e4, e5, l⟩ := h
  exact ⟨a0, c0, a4, c4, a5, c5, (he 0 (by omega)).trans e0, (he 1 (by omega)).trans e1, (he 2 (by omega)).trans e2, (he 3 (by omega)).trans e3, (he 4 (by omega)).trans e4, (he 5 (by omega)).trans e5, l⟩
def FunL (w : World) (lo hi : Nat) (ys : List Value) (fs : List GFun) : Prop := ys.length = fs.length * 6 ∧ ∀ i, i < fs.length → FunC w lo hi ys (i * 6) (funAt' fs i)
theorem FunL.same {w w' : World} {lo hi lo' hi' : Nat} {ys : List Value} {fs : List GFun} (h : FunL w lo hi ys fs) (hs : Same lo hi w w') (h1 : lo' ≤ lo) (h2 : hi ≤ hi') : FunL w' lo' hi' ys fs := ⟨h.1, fun i hi => (h.2 i hi).same hs h1 h2⟩
/-- The cells of functions that lie in memory. -/
theorem FunL.of {md : Bool} {w : World} {lo hi : Nat} {a : Option Addr} {fs : List GFun} (h : FunsM md w lo hi a fs) (hh : hi ≤ w.heap.size) : ∃ ys, FunL w lo hi ys fs ∧ CellsAt w a fs.length ys := by
  rcases h with rfl | ⟨b, off, rfl, h1, h2, _, h3⟩
  · exact ⟨[], ⟨rfl, fun i hi => absurd hi (Nat.not_lt_zero _)⟩, .inl rfl⟩
  have key : ∀ j, j < fs.length * 6 → ∃ v, w.cell? ⟨b, off + j, none⟩ = some v := fun j hj => by
    obtain ⟨a0, c0, a4, c4, a5, c5, e0, e1, e2, e3, e4, e5, _⟩ := h3 (j / 6) (by omega)
    have hr : j % 6 = 0 ∨ j % 6 = 1 ∨ j % 6 = 2 ∨ j % 6 = 3 ∨ j % 6 = 4 ∨ j % 6 = 5 := by omega
    rcases hr with hr | hr | hr | hr | hr | hr
    · exact ⟨_, (by rw [show off + j = off + j / 6 * 6 by omega]; exact e0)⟩
    · exact ⟨_, (by rw [show off + j = off + j / 6 * 6 + 1 by omega]; exact e1)⟩
    · exact ⟨_, (by rw [show off + j = off + j / 6 * 6 + 2 by omega]; exact e2)⟩
    · exact ⟨_, (by rw [show off + j = off + j / 6 * 6 + 3 by omega]; exact e3)⟩
    · exact ⟨_, (by rw [show off + j = off + j / 6 * 6 + 4 by omega]; exact e4)⟩
    · exact ⟨_, (by rw [show off + j = off + j / 6 * 6 + 5 by omega]; exact e5)⟩
  have hg : ∀ j, j < fs.length * 6 → ((List.range (fs.length * 6)).map fun j => (w.cell? ⟨b, off + j, none⟩).getD undef)[j]? = w.cell? ⟨b, off + j, none⟩ := fun j hj => by
    obtain ⟨v, hv⟩ := key j hj
    simp [hj, hv]
  refine ⟨(List.range (fs.length * 6)).map fun j => (w.cell? ⟨b, off + j, none⟩).getD undef, ⟨by simp, fun i hi => ?_⟩, .inr ⟨b, off, rfl, by omega, fun j u hj => ?_⟩⟩
  · obtain ⟨a0, c0, a4, c4, a5, c5, e0, e1, e2, e3, e4, e5, l0, l4, l5⟩ := h3 i hi
    refine ⟨a0, c0, a4, c4, a5, c5, ?_, ?_, ?_, ?_, ?_, ?_, l0.plain, l4.plain, l5.plain⟩
    · rw [hg _ (by omega)]; exact e0
    · rw [hg _ (by omega), ← Nat.add_assoc]; exact e1
    · rw [hg _ (by omega), ← Nat.add_assoc]; exact e2
    · rw [hg _ (by omega), ← Nat.add_assoc]; exact e3
    · rw [hg _ (by omega), ← Nat.add_assoc]; exact e4
    · rw [hg _ (by omega), ← Nat.add_assoc]; exact e5
  · have hlt := (List.getElem?_eq_some_iff.1 hj).1
    simp only [List.length_map, List.length_range] at hlt
    rw [hg j hlt] at hj
    exact hj
theorem FunL.tail {w : World} {lo hi : Nat} {ys : List Value} {f : GFun} {r : List GFun} (h : FunL w lo hi ys (f :: r)) : FunL w lo hi (ys.drop 6) r := by
  refine ⟨by have := h.1; simp at this ⊢; omega, fun i hi => ?_⟩
  have := h.2 (i + 1) (by simp; omega)
  have e : funAt' (f :: r) (i + 1) = funAt' r i := rfl
  rw [e] at this
  exact this.move fun k hk => by rw [List.getElem?_drop]; exact congrArg (fun j => ys[j]?) (by omega)
theorem FunL.first {w : World} {lo hi : Nat} {ys : List Value} {f : GFun} {r : List GFun} (h : FunL w lo hi ys (f :: r)) : FunC w lo hi ys 0 f := h.2 0 (by simp)
theorem FunL.cons {w : World} {lo hi : Nat} {zs ys : List Value} {f : GFun} {r : List GFun} (h : FunL w lo hi ys r) (hz : FunC w lo hi zs 0 f) (hl : zs.length = 6) : FunL w lo hi (zs ++ ys) (f :: r) := by
  refine ⟨by have := h.1; simp; omega, fun i hi => ?_⟩
  cases i with
  | zero => exact hz.move fun k hk => by rw [List.getElem?_append_left (by omega)]
  | succ i =>
    have e : funAt' (f :: r) (i + 1) = funAt' r i := rfl
    rw [e]
    exact (h.2 i (by simpa using hi)).move fun k hk => by rw [List.getElem?_append_right (by omega)]; exact congrArg (fun j => ys[j]?) (by omega)
theorem FunL.one {w : World} {lo hi : Nat} {ys : List Value} {fs : List GFun} (h : FunL w lo hi ys fs) : ∀ u ∈ ys, u.oneCell' = true := by
  intro u hu
  obtain ⟨j, hj, rfl⟩ := List.mem_iff_getElem.1 hu
  have hl := h.1
  obtain ⟨a0, c0, a4, c4, a5, c5, e0, e1, e2, e3, e4, e5, _⟩ := h.2 (j / 6) (by omega)
  have hr : j % 6 = 0 ∨ j % 6 = 1 ∨ j % 6 = 2 ∨ j % 6 = 3 ∨ j % 6 = 4 ∨ j % 6 = 5 := by omega
  have q : ∀ {k : Nat} {v : Value}, ys[k]? = some v → k = j → v.oneCell' = true → ys[j].oneCell' = true := fun {k v} h1 h2 h3 => by
    subst h2
    rw [List.getElem?_eq_getElem hj] at h1
    injection h1 with h1
    rw [h1]; exact h3
  rcases hr with hr | hr | hr | hr | hr | hr
  · exact q e0 (by omega) rfl
  · exact q e1 (by omega) rfl
  · exact q e2 (by omega) rfl
  · exact q e3 (by omega) rfl
  · exact q e4 (by omega) rfl
  · exact q e5 (by omega) rfl
/-- A row of such cells is these functions. -/
theorem FunL.funs {w : World} {S lo cap : Nat} {a : Option Addr} {ys : List Value} {fs : List GFun} (h : FunL w lo w.heap.size ys fs) (ho : w.ownsRow S 36 6 (.slice a fs.length cap) fs.length ys) (hS : lo ≤ S) : FunsM false w lo w.heap.size a fs := by
  rcases owns_cells ho with h0 | ⟨g, rfl, hS', hlt, hc⟩
  · exact .inl (List.length_eq_zero_iff.1 (by omega))
  · refine .inr ⟨g, 0, rfl, by omega, hlt, fun e => (by cases e), fun i hi => ?_⟩
    obtain ⟨a0, c0, a4, c4, a5, c5, e0, e1, e2, e3, e4, e5, l0, l4, l5⟩ := h.2 i hi
    have q : ∀ {k : Nat} {v : Value}, k < 6 → ys[i * 6 + k]? = some v → w.cell? ⟨g, i * 6 + k, none⟩ = some v := fun {k v} hk e => (hc _ (by omega)).trans e
    rw [Nat.zero_add]
    exact ⟨a0, c0, a4, c4, a5, c5, q (k := 0) (by omega) e0, q (k := 1) (by omega) e1, q (k := 2) (by omega) e2, q (k := 3) (by omega) e3, q (k := 4) (by omega) e4, q (k := 5) (by omega) e5, l0, l4, l5⟩
theorem CellsAt.owns {w : World} {S e size n cap b : Nat} {ys : List Value} (h : w.ownsRow S e size (.slice (some ⟨b, 0, none⟩) n cap) n ys) : CellsAt w (some ⟨b, 0, none⟩) n ys :=
  .inr ⟨b, 0, rfl, owns_lt h b rfl, fun j u hj => by
    have := h.cells (g := b) rfl j u hj
    rw [add_plain] at this
    exact this⟩
end Go.Proofs.YtblliefejffhoaaGreatDoor
