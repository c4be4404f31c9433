/- Lists of fields and groups of types, in the one form that the generated texts take: M md w lo hi a xs: xs lies at a, in blocks from lo on and below hi; if md, in blocks of its own. -/
import Derived.Test.YtjfmiconmbpllaaDoorSz
import Derived.Test.YtjfmiconmbpllaaDoorEq
import Derived.Test.YtjfmiconmbpllaaDoorOpen
import Derived.Handy
namespace Go.Proofs.YtjfmiconmbpllaaDoor
open Go.ChangeShapes Go.WideShapes Go.ChangeAt Go.RowKit Go.Joins Go.Deep
set_option linter.unusedVariables false

def FieldsM (md : Bool) (w : World) (lo hi : Nat) (a : Option Addr) (fs : List Fd) : Prop := FieldsIn w lo hi a fs ∧ (md = true → FSh w lo hi a fs.length)
theorem FieldsM.same {md : Bool} {lo hi lo' hi' : Nat} {w w' : World} {a : Option Addr} {fs : List Fd} (h : FieldsM md w lo hi a fs) (hs : Same lo hi w w') (h1 : lo' ≤ lo) (h2 : hi ≤ hi') : FieldsM md w' lo' hi' a fs :=
  ⟨h.1.same hs h1 h2, fun e => (h.2 e).same hs h1 h2⟩
theorem FieldsM.plain {md : Bool} {lo hi : Nat} {w : World} {a : Option Addr} {fs : List Fd} (h : FieldsM md w lo hi a fs) : FieldsM false w lo hi a fs := ⟨h.1, fun e => by cases e⟩
theorem FieldsM.keep {md : Bool} {lo hi : Nat} {w w' : World} {a : Option Addr} {fs : List Fd} (h : FieldsM md w lo hi a fs) (hb : Below hi w w') : FieldsM md w' lo hi a fs := h.same (.of_below hb (Nat.le_refl _)) (Nat.le_refl _) (Nat.le_refl _)
theorem FieldsM.wide {md : Bool} {lo hi lo' hi' : Nat} {w : World} {a : Option Addr} {fs : List Fd} (h : FieldsM md w lo hi a fs) (h1 : lo' ≤ lo) (h2 : hi ≤ hi') : FieldsM md w lo' hi' a fs := h.same (Same.refl _ _ _) h1 h2
def FieldsB (N : Nat) (fs : List Fd) : Prop := fs.length ≤ N

def GroupsM (md : Bool) (w : World) (lo hi : Nat) (a : Option Addr) (gs : List (List Ty)) : Prop := GroupsIn w lo hi a gs ∧ (md = true → GroupsNew w lo hi a gs)
theorem GroupsM.same {md : Bool} {lo hi lo' hi' : Nat} {w w' : World} {a : Option Addr} {gs : List (List Ty)} (h : GroupsM md w lo hi a gs) (hs : Same lo hi w w') (h1 : lo' ≤ lo) (h2 : hi ≤ hi') : GroupsM md w' lo' hi' a gs :=
  ⟨h.1.same hs h1 h2, fun e => (h.2 e).same hs h1 h2⟩
theorem GroupsM.plain {md : Bool} {lo hi : Nat} {w : World} {a : Option Addr} {gs : List (List Ty)} (h : GroupsM md w lo hi a gs) : GroupsM false w lo hi a gs := ⟨h.1, fun e => by cases e⟩
theorem GroupsM.keep {md : Bool} {lo hi : Nat} {w w' : World} {a : Option Addr} {gs : List (List Ty)} (h : GroupsM md w lo hi a gs) (hb : Below hi w w') : GroupsM md w' lo hi a gs := h.same (.of_below hb (Nat.le_refl _)) (Nat.le_refl _) (Nat.le_refl _)
theorem GroupsM.wide {md : Bool} {lo hi lo' hi' : Nat} {w : World} {a : Option Addr} {gs : List (List Ty)} (h : GroupsM md w lo hi a gs) (h1 : lo' ≤ lo) (h2 : hi ≤ hi') : GroupsM md w lo' hi' a gs := h.same (Same.refl _ _ _) h1 h2
def GroupsB (N : Nat) (gs : List (List Ty)) : Prop := gs.length ≤ N ∧ ∀ i, i < gs.length → (grAt gs i).length ≤ N ∧ ∀ j, j < (grAt gs i).length → (tyAt (grAt gs i) j).fields.length ≤ N

theorem toFieldS_g {md : Bool} (a : Option Addr) (cap lo hi : Nat) (xs : List Fd) (w : World) (hn : FieldsB 1048576 xs) (hx : FieldsM md w lo hi a xs) (hh : hi ≤ w.heap.size) :
    Calls Tryd.prog 17 #[.slice a xs.length cap] w fun e w' => ∃ na, e = .returned (.slice na xs.length xs.length) ∧ FieldsM true w' w.heap.size w'.heap.size na xs ∧ Below w.heap.size w w' := by
  refine (toFieldS_any a cap lo hi xs w hn hx.1 hh).mono ?_
  rintro e w' ⟨na, rfl, h, hb⟩
  exact ⟨na, rfl, ⟨h.1, fun _ => h.2⟩, hb⟩
theorem toTypeSS_g {md : Bool} (a : Option Addr) (cap lo hi : Nat) (xs : List (List Ty)) (w : World) (hn : GroupsB 1048576 xs) (hx : GroupsM md w lo hi a xs) (hh : hi ≤ w.heap.size) :
    Calls Tryd.prog 16 #[.slice a xs.length cap] w fun e w' => ∃ na, e = .returned (.slice na xs.length xs.length) ∧ GroupsM true w' w.heap.size w'.heap.size na xs ∧ Below w.heap.size w w' := by
  refine (toTypeSS_any a cap lo hi xs w hn hx.1 hh).mono ?_
  rintro e w' ⟨na, rfl, h, hb⟩
  exact ⟨na, rfl, ⟨h.plain, fun _ => h⟩, hb⟩

theorem szFieldS_g {md : Bool} (a : Option Addr) (cap lo hi : Nat) (xs : List Fd) (left : Int) (w : World) (hl : FieldsB 9223372036854775807 xs) (hx : FieldsM md w lo hi a xs) (hh : hi ≤ w.heap.size) (l0 : 0 ≤ left) (l1 : left ≤ 1048576) :
    Calls Tryd.prog 10 #[.slice a xs.length cap, .int .i64 left] w fun e w' => ∃ r : Int, e = .returned (.int .i64 r) ∧ -1 ≤ r ∧ r ≤ left ∧ (0 ≤ r → FieldsB 1048576 xs) ∧ Below w.heap.size w w' := by
  refine (szFieldS_any a xs.length cap left w hl l0 l1).mono ?_
  rintro e w' ⟨r, rfl, r1, r2, r3, rfl⟩
  exact ⟨r, rfl, r1, r2, r3, Below.refl _ _⟩
theorem szTypeSS_g {md : Bool} (a : Option Addr) (cap lo hi : Nat) (xs : List (List Ty)) (left : Int) (w : World) (hl : GroupsB 9223372036854775807 xs) (hx : GroupsM md w lo hi a xs) (hh : hi ≤ w.heap.size) (l0 : 0 ≤ left) (l1 : left ≤ 1048576) :
    Calls Tryd.prog 9 #[.slice a xs.length cap, .int .i64 left] w fun e w' => ∃ r : Int, e = .returned (.int .i64 r) ∧ -1 ≤ r ∧ r ≤ left ∧ (0 ≤ r → GroupsB 1048576 xs) ∧ Below w.heap.size w w' :=
  szTypeSS_any a cap lo hi xs left w hl hx.1 hh l0 l1

theorem eqFieldS_g {md md' : Bool} (a a' : Option Addr) (cap cap' lo hi lo' hi' : Nat) (xs : List Fd) (w : World) (hn : FieldsB 1048576 xs) (hx : FieldsM md w lo hi a xs) (hy : FieldsM md' w lo' hi' a' xs) (hh : hi ≤ w.heap.size) (hh' : hi' ≤ w.heap.size) :
    Calls Tryd.prog 24 #[.slice a xs.length cap, .slice a' xs.length cap'] w fun e w' => e = .returned (.bool true) ∧ Below w.heap.size w w' :=
  eqFieldS_same a a' cap cap' lo hi lo' hi' xs w (Nat.le_trans hn (by decide)) hx.1 hy.1 hh hh'
theorem eqTypeSS_g {md md' : Bool} (a a' : Option Addr) (cap cap' lo hi lo' hi' : Nat) (xs : List (List Ty)) (w : World) (hn : GroupsB 1048576 xs) (hx : GroupsM md w lo hi a xs) (hy : GroupsM md' w lo' hi' a' xs) (hh : hi ≤ w.heap.size) (hh' : hi' ≤ w.heap.size) :
    Calls Tryd.prog 23 #[.slice a xs.length cap, .slice a' xs.length cap'] w fun e w' => e = .returned (.bool true) ∧ Below w.heap.size w w' :=
  eqTypeSS_same a a' cap cap' lo hi lo' hi' xs w hn hx.1 hy.1 hh hh'
theorem eqField_g (x : Fd) (w : World) :
    Calls Tryd.prog 41 #[.agg #[.int .i64 x.kind, .int .i64 x.of, .bool x.mt], .agg #[.int .i64 x.kind, .int .i64 x.of, .bool x.mt]] w fun e w' => e = .returned (.bool true) ∧ Below w.heap.size w w' := eqField_same _ _ _ _
end Go.Proofs.YtjfmiconmbpllaaDoor
