/- KaOne: Base, GenRoot, RowB, Mem, FieldOk0, To0, Count, Flat, RowFlat, Copy, Copy1. -/
import Derived.Test.YtejkebfhiddhmaaDoorRows
import Derived.WalkKit
import Derived.ProofKit
import Derived.OpenShut
import Derived.Below
import Derived.WalkSpells
import Derived.WalkLawsBesides
import Derived.Lib.SmallJoins
import Derived.Deep.OwnRows
import Derived.Deep.LoopGhost
import Derived.Deep.QuietTactic
import Derived.BigQuiet
import Derived.WalkSmall
import Derived.Handy
import Derived.Deep.RegionHeld3
import Derived.Deep.Slices
import Derived.Deep.Strs
import Derived.Deep.AppendLies
import Derived.Deep.AppendSrc
import Derived.Deep.DeepAppendWide
import Derived.Deep.RegionLaw
/- Small facts that the walks share. -/
namespace Go.Proofs.YtejkebfhiddhmaaDoor
open Go.ChangeShapes Go.WideShapes Go.ChangeAt Go.RowKit

theorem ret_bool {a b : Bool} (h : a = b) : Ending.returned (.bool a) = .returned (.bool b) := by rw [h]
theorem ret_int {k : IntKind} {a b : Int} (h : a = b) : Ending.returned (.int k a) = .returned (.int k b) := by rw [h]

/-- What lies below is as it was: cells and marks. -/
theorem bcell {W w1 : World} (hb : Below W.heap.size W w1) : (∀ b o, b < W.heap.size → w1.cell? ⟨b, o, none⟩ = W.cell? ⟨b, o, none⟩) ∧ (∀ b o, b < W.heap.size → w1.frozen? ⟨b, o, none⟩ = W.frozen? ⟨b, o, none⟩) :=
  ⟨fun b o h => hb.cell (p := ⟨b, o, none⟩) h, fun b o h => hb.frozen (p := ⟨b, o, none⟩) h⟩

theorem hide {p : Prop} (h : p) : Hid p := h

/-- A cell that is there lies in a block that is there. -/
theorem cell_lt {w : World} {a : Addr} {v : Value} (h : w.cell? a = some v) : a.block < w.heap.size := by
  by_cases hlt : a.block < w.heap.size
  · exact hlt
  · have hn : w.heap[a.block]? = none := Array.getElem?_eq_none_iff.2 (by omega)
    simp [World.cell?, hn] at h

theorem Tryd.own : ownKnob Tryd.prog.godebug = none := by kernel_rfl
theorem Tryd.laidOut : laidOutB Tryd.prog = true := by kernel_rfl
end Go.Proofs.YtejkebfhiddhmaaDoor

/- What all memory texts share: blocks that hold what they held (Same), a block of its own (Own), a struct's block (Rec), make, and lists of what is read. -/
namespace Go.Proofs.YtejkebfhiddhmaaDoor
open Go.ChangeShapes Go.WideShapes Go.ChangeAt Go.RowKit Go.Joins Go.Deep
set_option linter.unusedVariables false

/-- Blocks from lo on and below hi hold what they held. -/
def Same (lo hi : Nat) (w w' : World) : Prop := ∀ k, lo ≤ k → k < hi → w'.heap[k]? = w.heap[k]?

theorem Same.cell {lo hi : Nat} {w w' : World} (h : Same lo hi w w') {b o : Nat} (h1 : lo ≤ b) (h2 : b < hi) : w'.cell? ⟨b, o, none⟩ = w.cell? ⟨b, o, none⟩ :=
  World.cell?_of_block (w := w) (h b h1 h2)
theorem Same.of_below {lo hi B : Nat} {w w' : World} (h : Below B w w') (hB : hi ≤ B) : Same lo hi w w' := fun k _ hk => h.block k (by omega)
theorem Same.sub {lo hi lo' hi' : Nat} {w w' : World} (h : Same lo hi w w') (h1 : lo ≤ lo') (h2 : hi' ≤ hi) : Same lo' hi' w w' := fun k a b => h k (by omega) (by omega)

theorem Same.refl (lo hi : Nat) (w : World) : Same lo hi w w := fun _ _ _ => rfl
theorem Same.trans {lo hi : Nat} {w w' w'' : World} (h : Same lo hi w w') (k : Same lo hi w' w'') : Same lo hi w w'' := fun i a b => (k i a b).trans (h i a b)
theorem Same.set {lo hi : Nat} {w w' : World} (h : Same lo hi w w') {b : Nat} (hb : b < lo ∨ hi ≤ b) (o : Nat) (v : Value) : Same lo hi w (w'.setCell ⟨b, o, none⟩ v) := fun k a c => by
  rw [Below.heap_setCell _ _ _ _ (show k ≠ b by omega)]
  exact h k a c

/-- make of so many elements of whatever size. -/
theorem run_make_any {P : Program} (t e : TypeId) (z : Value) (size bytes : Nat) (ht : P.underlying t = some (.slice e)) (hinfo : (P.info? e).map (fun i => (i.zero, i.size, i.bytes)) = some (some z, size, bytes))
    (n : Nat) (hbytes : bytes * n ≤ 281474976710656) (h63 : n ≤ 9223372036854775807) (w : World) :
    (Instr.makeSlice t (.int .i64 (n : Int)) (.int .i64 (n : Int))).run P w = .ok (.slice (some ⟨w.heap.size, 0, none⟩) n n) (w.alloc (.cells (madeCells z.cells (n * size)) e)) := by
  obtain ⟨i, hi, hzz⟩ := Option.map_eq_some_iff.1 hinfo
  simp only [Prod.mk.injEq] at hzz
  obtain ⟨hz, hs, hb⟩ := hzz
  have hb' : (i.bytes : Int) * (n : Int) ≤ 281474976710656 := by
    rw [hb]
    have h : ((bytes * n : Nat) : Int) ≤ 281474976710656 := by omega
    rwa [Int.natCast_mul] at h
  have hr := run_make (P := P) w t e i z ht hi hz .i64 .i64 n n (by omega) (Int.le_refl _) hb' (by omega)
  simp only [Int.toNat_natCast, hs] at hr
  exact hr

/-- Block b is so many cells of its own, of type T, none frozen. -/
def Own (w : World) (b n : Nat) (T : TypeId) : Prop := ∃ c, w.heap[b]? = some (.cells c T (0, 0)) ∧ c.size = n
theorem Own.lt {w : World} {b n : Nat} {T : TypeId} (h : Own w b n T) : b < w.heap.size := by
  obtain ⟨c, hb, _⟩ := h
  exact (Array.getElem?_eq_some_iff.1 hb).1
theorem Own.cell {w : World} {b n : Nat} {T : TypeId} (h : Own w b n T) {o : Nat} (ho : o < n) : ∃ v, w.cell? ⟨b, o, none⟩ = some v := by
  obtain ⟨c, hb, hs⟩ := h
  exact ⟨c[o]'(by omega), by simp [World.cell?, hb, hs, ho]⟩
theorem Own.frozen {w : World} {b n : Nat} {T : TypeId} (h : Own w b n T) (o : Nat) : w.frozen? ⟨b, o, none⟩ = false := by
  obtain ⟨c, hb, _⟩ := h
  simp [World.frozen?, hb]
theorem Own.of_block {w w' : World} {b n : Nat} {T : TypeId} (h : Own w b n T) (e : w'.heap[b]? = w.heap[b]?) : Own w' b n T := by
  obtain ⟨c, hb, hs⟩ := h
  exact ⟨c, e.trans hb, hs⟩
theorem Own.below {w w' : World} {b n B : Nat} {T : TypeId} (h : Own w b n T) (hb : Below B w w') (hB : b < B) : Own w' b n T := h.of_block (hb.block b hB)
theorem Own.set {w : World} {b n : Nat} {T : TypeId} (h : Own w b n T) (b' o : Nat) (v : Value) : Own (w.setCell ⟨b', o, none⟩ v) b n T := by
  by_cases e : b = b'
  · obtain ⟨c, hb, hs⟩ := h
    subst e
    refine ⟨c.setIfInBounds o v, ?_, by simpa using hs⟩
    simp [World.setCell, Array.getElem?_modify, hb]
  · exact h.of_block (Below.heap_setCell _ _ _ _ e)
theorem Own.cell_set {w : World} {b n : Nat} {T : TypeId} (h : Own w b n T) {o : Nat} (ho : o < n) (v : Value) (o' : Nat) : (w.setCell ⟨b, o, none⟩ v).cell? ⟨b, o', none⟩ = if o' = o then some v else w.cell? ⟨b, o', none⟩ := by
  obtain ⟨c, hb, hs⟩ := h
  have e : (w.setCell ⟨b, o, none⟩ v).heap[b]? = some (.cells (c.setIfInBounds o v) T (0, 0)) := by
    simp [World.setCell, Array.getElem?_modify, hb]
  simp only [World.cell?, e, hb]
  simp only [Option.isSome_none, Bool.false_eq_true, if_false]
  rw [Array.getElem?_setIfInBounds]
  by_cases e1 : o' = o
  · subst e1; simp [hs, ho]
  · rw [if_neg (fun h => e1 h.symm), if_neg e1]

theorem Below.al {B : Nat} {w w' : World} (h : Below B w w') (hB : B ≤ w.heap.size) (o : Obj) : Below B w (w'.alloc o) := h.alloc (Nat.le_trans hB h.size) o

theorem Own.made (w : World) (z : Array Value) (n : Nat) (t : TypeId) : Own (w.alloc (.cells (madeCells z n) t)) w.heap.size n t :=
  ⟨_, Deep.blk_alloc_new _ _, size_madeCells _ _⟩

/-- Block b holds just these values, and may be written. -/
def Rec (w : World) (b : Nat) (T : TypeId) (vs : List Value) : Prop := w.heap[b]? = some (.cells vs.toArray T (0, 0))
theorem Rec.lt {w : World} {b : Nat} {T : TypeId} {vs : List Value} (h : Rec w b T vs) : b < w.heap.size := (Array.getElem?_eq_some_iff.1 h).1
theorem Rec.cell {w : World} {b : Nat} {T : TypeId} {vs : List Value} (h : Rec w b T vs) {o : Nat} {v : Value} (hv : vs[o]? = some v) : w.cell? ⟨b, o, none⟩ = some v := by
  unfold Rec at h
  simp [World.cell?, h, hv]
theorem Rec.frozen {w : World} {b : Nat} {T : TypeId} {vs : List Value} (h : Rec w b T vs) (o : Nat) : w.frozen? ⟨b, o, none⟩ = false := by
  unfold Rec at h
  simp [World.frozen?, h]
theorem Rec.set {w : World} {b : Nat} {T : TypeId} {vs : List Value} (h : Rec w b T vs) (o : Nat) (v : Value) : Rec (w.setCell ⟨b, o, none⟩ v) b T (vs.set o v) := by
  unfold Rec at *
  simp [World.setCell, Array.getElem?_modify, h]
theorem Rec.other {w : World} {b b' : Nat} {T : TypeId} {vs : List Value} (h : Rec w b T vs) (hb : b ≠ b') (o : Nat) (v : Value) : Rec (w.setCell ⟨b', o, none⟩ v) b T vs :=
  (Below.heap_setCell _ _ _ _ hb).trans h
theorem Rec.below {w w' : World} {b B : Nat} {T : TypeId} {vs : List Value} (h : Rec w b T vs) (hb : Below B w w') (hB : b < B) : Rec w' b T vs := (hb.block b hB).trans h
theorem Rec.new (w : World) (T : TypeId) (vs : List Value) : Rec (w.alloc (.cells vs.toArray T)) w.heap.size T vs := Deep.blk_alloc_new _ _
theorem Rec.new' (w : World) (T : TypeId) (vs : List Value) (b : Nat) (hb : b = w.heap.size) : Rec (w.alloc (.cells vs.toArray T)) b T vs := hb ▸ Rec.new w T vs
theorem Rec.alloc {w : World} {b : Nat} {T : TypeId} {vs : List Value} (h : Rec w b T vs) (o : Obj) : Rec (w.alloc o) b T vs := by
  have := ((Below.refl w.heap.size w).alloc (Nat.le_refl _) o).block b h.lt
  exact this.trans h

theorem list_of {α : Type} (d : α) {n : Nat} {p : Nat → α → Prop} (h : ∀ i, i < n → ∃ x, p i x) : ∃ l : List α, l.length = n ∧ ∀ i, i < n → p i (l.getD i d) := by
  induction n with
  | zero => exact ⟨[], rfl, fun i hi => absurd hi (Nat.not_lt_zero _)⟩
  | succ n ih =>
    obtain ⟨l, hl, hp⟩ := ih (fun i hi => h i (by omega))
    obtain ⟨x, hx⟩ := h n (by omega)
    refine ⟨l ++ [x], by simp [hl], fun i hi => ?_⟩
    by_cases e : i = n
    · subst e
      simpa [List.getD, ← hl] using hx
    · have := hp i (by omega)
      simpa [List.getD, List.getElem?_append_left (show i < l.length by omega)] using this

theorem add_none {w : World} {b off : Nat} {spot : Option Nat} {k : Nat} {v : Value} (h : w.cell? ((⟨b, off, spot⟩ : Addr).add k) = some v) (h0 : spot = none) : w.cell? ⟨b, off + k, none⟩ = some v := by
  subst h0
  rwa [add_plain] at h

theorem head_plain {w : World} {base b off n k : Nat} {spot : Option Nat} {cs : List Value} (h : w.cells? base ((⟨b, off, spot⟩ : Addr).add (0 * k)) n = some cs) (hn : 0 < n) : spot = none ∧ b < w.heap.size := by
  obtain ⟨_, hlen, hcell⟩ := World.cells?_some h
  have e := hcell 0 hn
  have e' : w.cell? ⟨b, off, spot⟩ = some (cs[0]'(by omega)) := by
    rw [List.getElem?_eq_getElem (by omega)] at e
    simpa [Addr.add] using e
  exact ⟨by simpa using World.cell?_spot e', cell_lt e'⟩
end Go.Proofs.YtejkebfhiddhmaaDoor

/- Rows of the call's own, of whatever elements: what is known of them, and what keeps them. -/
namespace Go.Proofs.YtejkebfhiddhmaaDoor
open Go.ChangeShapes Go.WideShapes Go.ChangeAt Go.RowKit Go.Deep
set_option linter.unusedVariables false

theorem owns_cells {w : World} {S e size n cap : Nat} {a : Option Addr} {xs : List Value} (h : w.ownsRow S e size (.slice a n cap) n xs) :
    n ≤ 0 ∨ ∃ g, a = some ⟨g, 0, none⟩ ∧ S ≤ g ∧ g < w.heap.size ∧ ∀ j, j < n * size → w.cell? ⟨g, j, none⟩ = xs[j]? := by
  rcases h.2 with ⟨_, h0⟩ | ⟨g, cap', cur, hv, hb, hg, h1, h2, h3, h4⟩
  · exact .inl (by omega)
  · simp at hv
    obtain ⟨rfl, rfl⟩ := hv
    refine .inr ⟨g, rfl, hb, (Array.getElem?_eq_some_iff.1 hg).1, fun j hj => ?_⟩
    rw [← h4]
    simp [World.cell?, hg, hj]
theorem owns_base {w : World} {S e size n : Nat} {v : Value} {xs : List Value} (h : w.ownsRow S e size v n xs) : ∀ k, v.ownBlock = some k → S ≤ k := by
  intro k hk
  rcases h.2 with ⟨rfl, _⟩ | ⟨g, cap', cur, rfl, hb, _⟩
  · simp [Value.ownBlock] at hk
  · simp [Value.ownBlock] at hk
    omega
theorem owns_of_block {w w' : World} {S e size n : Nat} {v : Value} {xs : List Value} (h : w.ownsRow S e size v n xs) (hb : ∀ k, v.ownBlock = some k → w'.heap[k]? = w.heap[k]?) : w'.ownsRow S e size v n xs := by
  refine ⟨h.1, ?_⟩
  rcases h.2 with h0 | ⟨g, cap', cur, rfl, hS, hg, h1, h2, h3, h4⟩
  · exact .inl h0
  · exact .inr ⟨g, cap', cur, rfl, hS, (hb g rfl).trans hg, h1, h2, h3, h4⟩
theorem owns_lt {w : World} {S e size n : Nat} {v : Value} {xs : List Value} (h : w.ownsRow S e size v n xs) : ∀ k, v.ownBlock = some k → k < w.heap.size := by
  intro k hk
  rcases h.2 with ⟨rfl, _⟩ | ⟨g, cap', cur, rfl, hS, hg, _⟩
  · simp [Value.ownBlock] at hk
  · simp [Value.ownBlock] at hk
    subst hk
    exact (Array.getElem?_eq_some_iff.1 hg).1
theorem owns_below {w w' : World} {S e size n : Nat} {v : Value} {xs : List Value} (h : w.ownsRow S e size v n xs) (hb : Below w.heap.size w w') : w'.ownsRow S e size v n xs :=
  owns_of_block h fun k hk => hb.block k (owns_lt h k hk)
theorem owns_lower {w : World} {S S' e size n : Nat} {v : Value} {xs : List Value} (h : w.ownsRow S e size v n xs) (hS : S' ≤ S) : w.ownsRow S' e size v n xs := by
  refine ⟨h.1, ?_⟩
  rcases h.2 with h0 | ⟨g, cap', cur, rfl, h1, h2⟩
  · exact .inl h0
  · exact .inr ⟨g, cap', cur, rfl, by omega, h2⟩
theorem owns_cap {w : World} {S e size n cap m : Nat} {a : Option Addr} {xs : List Value} (h : w.ownsRow S e size (.slice a n cap) m xs) : n ≤ cap := by
  rcases h.2 with ⟨h0, _⟩ | ⟨g, cap', cur, h0, h1, h2, h3, _⟩
  · simp at h0; omega
  · simp at h0
    obtain ⟨_, rfl, rfl⟩ := h0
    exact h3
theorem row_ne {w : World} {S e size n b : Nat} {v : Value} {xs : List Value} (h : w.ownsRow S e size v n xs) (hb : b < S) : some b ≠ v.ownBlock := fun e => by have := owns_base h b e.symm; omega
theorem Rec.grown {w w' : World} {b : Nat} {T : TypeId} {vs : List Value} {row : Option Nat} (h : Rec w b T vs) (hg : w.grownBy w' row) (hr : some b ≠ row) : Rec w' b T vs := (hg.block b h.lt hr).trans h
end Go.Proofs.YtejkebfhiddhmaaDoor

/- Fields, types and groups of types: as lists, and how they lie in memory. -/
namespace Go.Proofs.YtejkebfhiddhmaaDoor
open Go.ChangeShapes Go.WideShapes Go.ChangeAt Go.RowKit
set_option linter.unusedVariables false

structure Fd where
  kind : Int
  of : Int
  mt : Bool

structure Ty where
  kind : Int
  up : Int
  last : Bool
  fields : List Fd

def fdAt (l : List Fd) (i : Nat) : Fd := l.getD i ⟨0, 0, false⟩
def tyAt (l : List Ty) (i : Nat) : Ty := l.getD i ⟨0, 0, false, []⟩
def grAt (l : List (List Ty)) (i : Nat) : List Ty := l.getD i []

/-- A field lies at ⟨b, o⟩. -/
def FieldAt (w : World) (b o : Nat) (f : Fd) : Prop :=
  w.cell? ⟨b, o, none⟩ = some (.int .i64 f.kind) ∧ w.cell? ⟨b, o + 1, none⟩ = some (.int .i64 f.of) ∧ w.cell? ⟨b, o + 2, none⟩ = some (.bool f.mt)

/-- The fields fs lie at a, in a block from lo on and below hi. -/
def FieldsIn (w : World) (lo hi : Nat) (a : Option Addr) (fs : List Fd) : Prop :=
  fs = [] ∨ ∃ b off, a = some ⟨b, off, none⟩ ∧ lo ≤ b ∧ b < hi ∧ ∀ i, i < fs.length → FieldAt w b (off + i * 3) (fdAt fs i)

/-- A type lies at ⟨b, o⟩, its fields at fa. -/
def TypeAt (w : World) (lo hi : Nat) (b o : Nat) (t : Ty) : Prop :=
  w.cell? ⟨b, o, none⟩ = some (.int .i64 t.kind) ∧ w.cell? ⟨b, o + 1, none⟩ = some (.int .i64 t.up) ∧ w.cell? ⟨b, o + 2, none⟩ = some (.bool t.last) ∧
  ∃ fa fc, w.cell? ⟨b, o + 3, none⟩ = some (.slice fa t.fields.length fc) ∧ FieldsIn w lo hi fa t.fields

def TypesIn (w : World) (lo hi : Nat) (a : Option Addr) (ts : List Ty) : Prop :=
  ts = [] ∨ ∃ b off, a = some ⟨b, off, none⟩ ∧ lo ≤ b ∧ b < hi ∧ ∀ i, i < ts.length → TypeAt w lo hi b (off + i * 4) (tyAt ts i)

def GroupsIn (w : World) (lo hi : Nat) (a : Option Addr) (gs : List (List Ty)) : Prop :=
  gs = [] ∨ ∃ b off, a = some ⟨b, off, none⟩ ∧ lo ≤ b ∧ b < hi ∧ ∀ i, i < gs.length →
    ∃ ta tc, w.cell? ⟨b, off + i, none⟩ = some (.slice ta (grAt gs i).length tc) ∧ TypesIn w lo hi ta (grAt gs i)

theorem FieldAt.same {lo hi : Nat} {w w' : World} {b o : Nat} {f : Fd} (h : FieldAt w b o f) (hs : Same lo hi w w') (h1 : lo ≤ b) (h2 : b < hi) : FieldAt w' b o f := by
  unfold FieldAt at *
  rw [hs.cell h1 h2, hs.cell h1 h2, hs.cell h1 h2]
  exact h
theorem FieldsIn.same {lo hi lo' hi' : Nat} {w w' : World} {a : Option Addr} {fs : List Fd} (h : FieldsIn w lo hi a fs) (hs : Same lo hi w w') (h1 : lo' ≤ lo) (h2 : hi ≤ hi') : FieldsIn w' lo' hi' a fs := by
  rcases h with rfl | ⟨b, off, rfl, h3, h4, h5⟩
  · exact .inl rfl
  · exact .inr ⟨b, off, rfl, by omega, by omega, fun i hi => (h5 i hi).same hs h3 h4⟩
theorem TypeAt.same {lo hi lo' hi' : Nat} {w w' : World} {b o : Nat} {t : Ty} (h : TypeAt w lo hi b o t) (hs : Same lo hi w w') (h1 : lo' ≤ lo) (h2 : hi ≤ hi') (h3 : lo ≤ b) (h4 : b < hi) : TypeAt w' lo' hi' b o t := by
  obtain ⟨c0, c1, c2, fa, fc, c3, hf⟩ := h
  refine ⟨?_, ?_, ?_, fa, fc, ?_, hf.same hs h1 h2⟩ <;> rw [hs.cell h3 h4] <;> assumption
theorem TypesIn.same {lo hi lo' hi' : Nat} {w w' : World} {a : Option Addr} {ts : List Ty} (h : TypesIn w lo hi a ts) (hs : Same lo hi w w') (h1 : lo' ≤ lo) (h2 : hi ≤ hi') : TypesIn w' lo' hi' a ts := by
  rcases h with rfl | ⟨b, off, rfl, h3, h4, h5⟩
  · exact .inl rfl
  · exact .inr ⟨b, off, rfl, by omega, by omega, fun i hi => (h5 i hi).same hs h1 h2 h3 h4⟩
theorem GroupsIn.same {lo hi lo' hi' : Nat} {w w' : World} {a : Option Addr} {gs : List (List Ty)} (h : GroupsIn w lo hi a gs) (hs : Same lo hi w w') (h1 : lo' ≤ lo) (h2 : hi ≤ hi') : GroupsIn w' lo' hi' a gs := by
  rcases h with rfl | ⟨b, off, rfl, h3, h4, h5⟩
  · exact .inl rfl
  · refine .inr ⟨b, off, rfl, by omega, by omega, fun i hi => ?_⟩
    obtain ⟨ta, tc, hc, ht⟩ := h5 i hi
    exact ⟨ta, tc, by rw [hs.cell h3 h4]; exact hc, ht.same hs h1 h2⟩

theorem FieldsIn.keep {lo hi : Nat} {w w' : World} {a : Option Addr} {fs : List Fd} (h : FieldsIn w lo hi a fs) (hb : Below hi w w') : FieldsIn w' lo hi a fs := h.same (.of_below hb (Nat.le_refl _)) (Nat.le_refl _) (Nat.le_refl _)
theorem TypeAt.keep {lo hi : Nat} {w w' : World} {b o : Nat} {t : Ty} (h : TypeAt w lo hi b o t) (hb : Below hi w w') (h3 : lo ≤ b) (h4 : b < hi) : TypeAt w' lo hi b o t := h.same (.of_below hb (Nat.le_refl _)) (Nat.le_refl _) (Nat.le_refl _) h3 h4
theorem TypesIn.keep {lo hi : Nat} {w w' : World} {a : Option Addr} {ts : List Ty} (h : TypesIn w lo hi a ts) (hb : Below hi w w') : TypesIn w' lo hi a ts := h.same (.of_below hb (Nat.le_refl _)) (Nat.le_refl _) (Nat.le_refl _)
theorem GroupsIn.keep {lo hi : Nat} {w w' : World} {a : Option Addr} {gs : List (List Ty)} (h : GroupsIn w lo hi a gs) (hb : Below hi w w') : GroupsIn w' lo hi a gs := h.same (.of_below hb (Nat.le_refl _)) (Nat.le_refl _) (Nat.le_refl _)
theorem FieldsIn.wide {lo hi lo' hi' : Nat} {w : World} {a : Option Addr} {fs : List Fd} (h : FieldsIn w lo hi a fs) (h1 : lo' ≤ lo) (h2 : hi ≤ hi') : FieldsIn w lo' hi' a fs := h.same (fun _ _ _ => rfl) h1 h2
theorem TypesIn.wide {lo hi lo' hi' : Nat} {w : World} {a : Option Addr} {ts : List Ty} (h : TypesIn w lo hi a ts) (h1 : lo' ≤ lo) (h2 : hi ≤ hi') : TypesIn w lo' hi' a ts := h.same (fun _ _ _ => rfl) h1 h2
theorem GroupsIn.wide {lo hi lo' hi' : Nat} {w : World} {a : Option Addr} {gs : List (List Ty)} (h : GroupsIn w lo hi a gs) (h1 : lo' ≤ lo) (h2 : hi ≤ hi') : GroupsIn w lo' hi' a gs := h.same (fun _ _ _ => rfl) h1 h2
end Go.Proofs.YtejkebfhiddhmaaDoor

/- What FieldOk of the program and of the model answers, for every field and number; and toField's copy of a field. -/
namespace Go.Proofs.YtejkebfhiddhmaaDoor
open Go.ChangeShapes Go.WideShapes Go.ChangeAt Go.RowKit
set_option linter.unusedVariables false

/-- FieldOk, plainly. -/
def fieldOk (k o n : Int) : Bool :=
  if k = 1 then decide (o = 0) else if k = 2 ∨ k = 3 then decide (o = -1 ∨ o = -2 ∨ (0 ≤ o ∧ o < n)) else false

set_option maxHeartbeats 400000 in
theorem specFieldOk_any (k o n : Int) (m : Bool) (w : World) :
    Calls Tryd.prog 40 #[.agg #[.int .i64 k, .int .i64 o, .bool m], .int .i64 n] w fun e w' => e = .returned (.bool (fieldOk k o n)) ∧ Below w.heap.size w w' := by
  go_enter Tryd.func40, Tryd.ntmps40
  go_wp2
  all_goals go_ret
  all_goals refine ⟨ret_bool ?_, (Below.refl _ _).alloc (Nat.le_refl _) _⟩
  all_goals (rw [Bool.eq_iff_iff]; simp_all [fieldOk] <;> omega)

set_option maxHeartbeats 400000 in
theorem implFieldOk_any (k o n : Int) (m : Bool) (w : World) :
    Calls Tryd.prog 21 #[.agg #[.int .i64 k, .int .i64 o, .bool m], .int .i64 n] w fun e w' => e = .returned (.bool (fieldOk k o n)) ∧ Below w.heap.size w w' := by
  go_enter Tryd.func21, Tryd.ntmps21
  go_wp2
  all_goals go_ret
  all_goals refine ⟨ret_bool ?_, (Below.refl _ _).alloc (Nat.le_refl _) _⟩
  all_goals (rw [Bool.eq_iff_iff]; simp_all [fieldOk] <;> omega)
end Go.Proofs.YtejkebfhiddhmaaDoor

/- What lies in memory of its own: fields, types, groups; and what is so few that it can be copied. -/
namespace Go.Proofs.YtejkebfhiddhmaaDoor
open Go.ChangeShapes Go.WideShapes Go.ChangeAt Go.RowKit
set_option linter.unusedVariables false

theorem Tryd.infoField : (Tryd.prog.info? 35).map (fun i => (i.zero, i.size, i.bytes)) = some (some (.agg #[.int .i64 0, .int .i64 0, .bool false]), 3, 24) := by kernel_rfl
theorem Tryd.infoType : (Tryd.prog.info? 28).map (fun i => (i.zero, i.size, i.bytes)) = some (some (.agg #[.int .i64 0, .int .i64 0, .bool false, .slice none 0 0]), 4, 48) := by kernel_rfl
theorem Tryd.infoTypeS : (Tryd.prog.info? 41).map (fun i => (i.zero, i.size, i.bytes)) = some (some (.slice none 0 0), 1, 24) := by kernel_rfl

/-- So many fields lie at a, in a block of their own. -/
def FSh (w : World) (lo hi : Nat) (a : Option Addr) (n : Nat) : Prop := n = 0 ∨ ∃ b m, a = some ⟨b, 0, none⟩ ∧ lo ≤ b ∧ b < hi ∧ Own w b m 35 ∧ n * 3 ≤ m
/-- Fields that lie in a block of their own. -/
def FieldsNew (w : World) (lo hi : Nat) (a : Option Addr) (fs : List Fd) : Prop := FieldsIn w lo hi a fs ∧ FSh w lo hi a fs.length
def TypeNew (w : World) (lo hi : Nat) (b o : Nat) (t : Ty) : Prop :=
  w.cell? ⟨b, o, none⟩ = some (.int .i64 t.kind) ∧ w.cell? ⟨b, o + 1, none⟩ = some (.int .i64 t.up) ∧ w.cell? ⟨b, o + 2, none⟩ = some (.bool t.last) ∧
  ∃ fa fc, w.cell? ⟨b, o + 3, none⟩ = some (.slice fa t.fields.length fc) ∧ FieldsNew w lo hi fa t.fields
def TypesNew (w : World) (lo hi : Nat) (a : Option Addr) (ts : List Ty) : Prop :=
  ts = [] ∨ ∃ b, a = some ⟨b, 0, none⟩ ∧ lo ≤ b ∧ b < hi ∧ Own w b (ts.length * 4) 28 ∧ ∀ i, i < ts.length → TypeNew w lo hi b (i * 4) (tyAt ts i)
def GroupNew (w : World) (lo hi : Nat) (b o : Nat) (g : List Ty) : Prop := ∃ ta tc, w.cell? ⟨b, o, none⟩ = some (.slice ta g.length tc) ∧ TypesNew w lo hi ta g
def GroupsNew (w : World) (lo hi : Nat) (a : Option Addr) (gs : List (List Ty)) : Prop :=
  gs = [] ∨ ∃ b, a = some ⟨b, 0, none⟩ ∧ lo ≤ b ∧ b < hi ∧ Own w b gs.length 41 ∧ ∀ i, i < gs.length → GroupNew w lo hi b i (grAt gs i)

theorem FSh.same {lo hi lo' hi' n : Nat} {w w' : World} {a : Option Addr} (h : FSh w lo hi a n) (hs : Same lo hi w w') (h1 : lo' ≤ lo) (h2 : hi ≤ hi') : FSh w' lo' hi' a n := by
  rcases h with h | ⟨b, m, rfl, h3, h4, h5, h6⟩
  · exact .inl h
  · exact .inr ⟨b, m, rfl, by omega, by omega, h5.of_block (hs b h3 h4), h6⟩
theorem FieldsNew.same {lo hi lo' hi' : Nat} {w w' : World} {a : Option Addr} {fs : List Fd} (h : FieldsNew w lo hi a fs) (hs : Same lo hi w w') (h1 : lo' ≤ lo) (h2 : hi ≤ hi') : FieldsNew w' lo' hi' a fs :=
  ⟨h.1.same hs h1 h2, h.2.same hs h1 h2⟩
theorem FieldsNew.wide {lo hi lo' hi' : Nat} {w : World} {a : Option Addr} {fs : List Fd} (h : FieldsNew w lo hi a fs) (h1 : lo' ≤ lo) (h2 : hi ≤ hi') : FieldsNew w lo' hi' a fs := h.same (Same.refl _ _ _) h1 h2
theorem TypeNew.same {lo hi lo' hi' : Nat} {w w' : World} {b o : Nat} {t : Ty} (h : TypeNew w lo hi b o t) (hs : Same lo hi w w') (h1 : lo' ≤ lo) (h2 : hi ≤ hi') (h3 : lo ≤ b) (h4 : b < hi) : TypeNew w' lo' hi' b o t := by
  obtain ⟨c0, c1, c2, fa, fc, c3, hf⟩ := h
  refine ⟨?_, ?_, ?_, fa, fc, ?_, hf.same hs h1 h2⟩ <;> rw [hs.cell h3 h4] <;> assumption
theorem TypesNew.same {lo hi lo' hi' : Nat} {w w' : World} {a : Option Addr} {ts : List Ty} (h : TypesNew w lo hi a ts) (hs : Same lo hi w w') (h1 : lo' ≤ lo) (h2 : hi ≤ hi') : TypesNew w' lo' hi' a ts := by
  rcases h with rfl | ⟨b, rfl, h3, h4, h5, h6⟩
  · exact .inl rfl
  · exact .inr ⟨b, rfl, by omega, by omega, h5.of_block (hs b h3 h4), fun i hi => (h6 i hi).same hs h1 h2 h3 h4⟩
theorem TypesNew.wide {lo hi lo' hi' : Nat} {w : World} {a : Option Addr} {ts : List Ty} (h : TypesNew w lo hi a ts) (h1 : lo' ≤ lo) (h2 : hi ≤ hi') : TypesNew w lo' hi' a ts := h.same (Same.refl _ _ _) h1 h2
theorem GroupsNew.same {lo hi lo' hi' : Nat} {w w' : World} {a : Option Addr} {gs : List (List Ty)} (h : GroupsNew w lo hi a gs) (hs : Same lo hi w w') (h1 : lo' ≤ lo) (h2 : hi ≤ hi') : GroupsNew w' lo' hi' a gs := by
  rcases h with rfl | ⟨b, rfl, h3, h4, h5, h6⟩
  · exact .inl rfl
  · refine .inr ⟨b, rfl, by omega, by omega, h5.of_block (hs b h3 h4), fun i hi => ?_⟩
    obtain ⟨ta, tc, hc, ht⟩ := h6 i hi
    exact ⟨ta, tc, by rw [hs.cell h3 h4]; exact hc, ht.same hs h1 h2⟩
theorem GroupsNew.keep {lo hi : Nat} {w w' : World} {a : Option Addr} {gs : List (List Ty)} (h : GroupsNew w lo hi a gs) (hb : Below hi w w') : GroupsNew w' lo hi a gs := h.same (.of_below hb (Nat.le_refl _)) (Nat.le_refl _) (Nat.le_refl _)
theorem TypesNew.plain {lo hi : Nat} {w : World} {a : Option Addr} {ts : List Ty} (h : TypesNew w lo hi a ts) : TypesIn w lo hi a ts := by
  rcases h with rfl | ⟨b, rfl, h3, h4, _, h6⟩
  · exact .inl rfl
  · refine .inr ⟨b, 0, rfl, h3, h4, fun i hi => ?_⟩
    obtain ⟨c0, c1, c2, fa, fc, c3, hf⟩ := h6 i hi
    rw [Nat.zero_add]
    exact ⟨c0, c1, c2, fa, fc, c3, hf.1⟩
theorem GroupsNew.plain {lo hi : Nat} {w : World} {a : Option Addr} {gs : List (List Ty)} (h : GroupsNew w lo hi a gs) : GroupsIn w lo hi a gs := by
  rcases h with rfl | ⟨b, rfl, h3, h4, _, h6⟩
  · exact .inl rfl
  · refine .inr ⟨b, 0, rfl, h3, h4, fun i hi => ?_⟩
    obtain ⟨ta, tc, c3, hf⟩ := h6 i hi
    rw [Nat.zero_add]
    exact ⟨ta, tc, c3, hf.plain⟩

/-- A field laid at its place. -/
theorem field_set {w : World} {b n : Nat} {T' : TypeId} (h : Own w b n T') (F : Nat → Fd) (k : Nat) (hk : k * 3 + 2 < n) (hF : ∀ j, j < k → FieldAt w b (j * 3) (F j)) :
    ∀ j, j < k + 1 → FieldAt (((w.setCell ⟨b, k * 3, none⟩ (.int .i64 (F k).kind)).setCell ⟨b, k * 3 + 1, none⟩ (.int .i64 (F k).of)).setCell ⟨b, k * 3 + 2, none⟩ (.bool (F k).mt)) b (j * 3) (F j) := by
  intro j hj
  have h1 := h.set b (k * 3) (.int .i64 (F k).kind)
  have h2 := h1.set b (k * 3 + 1) (.int .i64 (F k).of)
  unfold FieldAt
  simp only [h2.cell_set (o := k * 3 + 2) hk, h1.cell_set (o := k * 3 + 1) (by omega : k * 3 + 1 < n), h.cell_set (o := k * 3) (by omega : k * 3 < n)]
  by_cases e : j = k
  · subst e
    simp
  · obtain ⟨a1, a2, a3⟩ := hF j (by omega)
    refine ⟨?_, ?_, ?_⟩
    · rw [if_neg (by omega), if_neg (by omega), if_neg (by omega)]; exact a1
    · rw [if_neg (by omega), if_neg (by omega), if_neg (by omega)]; exact a2
    · rw [if_neg (by omega), if_neg (by omega), if_neg (by omega)]; exact a3
/-- A type laid at its place. -/
theorem type_set {w : World} {b n lo hi fc : Nat} {T' : TypeId} {na : Option Addr} (h : Own w b n T') (T : Nat → Ty) (k : Nat) (hk : k * 4 + 3 < n) (hlo : b < lo) (hF : ∀ j, j < k → TypeNew w lo hi b (j * 4) (T j)) (hf : FieldsNew w lo hi na (T k).fields) :
    ∀ j, j < k + 1 → TypeNew ((((w.setCell ⟨b, k * 4, none⟩ (.int .i64 (T k).kind)).setCell ⟨b, k * 4 + 1, none⟩ (.int .i64 (T k).up)).setCell ⟨b, k * 4 + 2, none⟩ (.bool (T k).last)).setCell ⟨b, k * 4 + 3, none⟩ (.slice na (T k).fields.length fc)) lo hi b (j * 4) (T j) := by
  intro j hj
  have h1 := h.set b (k * 4) (.int .i64 (T k).kind)
  have h2 := h1.set b (k * 4 + 1) (.int .i64 (T k).up)
  have h3 := h2.set b (k * 4 + 2) (.bool (T k).last)
  have hs : Same lo hi w ((((w.setCell ⟨b, k * 4, none⟩ (.int .i64 (T k).kind)).setCell ⟨b, k * 4 + 1, none⟩ (.int .i64 (T k).up)).setCell ⟨b, k * 4 + 2, none⟩ (.bool (T k).last)).setCell ⟨b, k * 4 + 3, none⟩ (.slice na (T k).fields.length fc)) :=
    ((((Same.refl _ _ _).set (.inl hlo) _ _).set (.inl hlo) _ _).set (.inl hlo) _ _).set (.inl hlo) _ _
  unfold TypeNew
  simp only [h3.cell_set (o := k * 4 + 3) hk, h2.cell_set (o := k * 4 + 2) (by omega : k * 4 + 2 < n), h1.cell_set (o := k * 4 + 1) (by omega : k * 4 + 1 < n), h.cell_set (o := k * 4) (by omega : k * 4 < n)]
  by_cases e : j = k
  · subst e
    exact ⟨by simp, by simp, by simp, na, fc, by simp, hf.same hs (Nat.le_refl _) (Nat.le_refl _)⟩
  · obtain ⟨a1, a2, a3, fa, fc', a4, a5⟩ := hF j (by omega)
    refine ⟨?_, ?_, ?_, fa, fc', ?_, a5.same hs (Nat.le_refl _) (Nat.le_refl _)⟩
    all_goals rw [if_neg (by omega), if_neg (by omega), if_neg (by omega), if_neg (by omega)]; assumption

/-- A group lies in cell ⟨b, o⟩. -/
def GroupAt (w : World) (lo hi : Nat) (b o : Nat) (g : List Ty) : Prop := ∃ ta tc, w.cell? ⟨b, o, none⟩ = some (.slice ta g.length tc) ∧ TypesIn w lo hi ta g

theorem group_set {w : World} {b n lo hi tc : Nat} {T' : TypeId} {na : Option Addr} (h : Own w b n T') (G : Nat → List Ty) (k : Nat) (hk : k < n) (hlo : b < lo) (hF : ∀ j, j < k → GroupNew w lo hi b j (G j)) (hf : TypesNew w lo hi na (G k)) :
    ∀ j, j < k + 1 → GroupNew (w.setCell ⟨b, k, none⟩ (.slice na (G k).length tc)) lo hi b j (G j) := by
  intro j hj
  have hs : Same lo hi w (w.setCell ⟨b, k, none⟩ (.slice na (G k).length tc)) := (Same.refl _ _ _).set (.inl hlo) _ _
  unfold GroupNew
  simp only [h.cell_set (o := k) hk]
  by_cases e : j = k
  · subst e
    exact ⟨na, tc, by simp, hf.same hs (Nat.le_refl _) (Nat.le_refl _)⟩
  · obtain ⟨ta, tc', a4, a5⟩ := hF j (by omega)
    refine ⟨ta, tc', ?_, a5.same hs (Nat.le_refl _) (Nat.le_refl _)⟩
    rw [if_neg (by omega)]; assumption

/-- So few types and fields that all can be copied. -/
def Few (gs : List (List Ty)) : Prop := gs.length ≤ 1048576 ∧ ∀ i, i < gs.length → (grAt gs i).length ≤ 1048576 ∧ ∀ j, j < (grAt gs i).length → (tyAt (grAt gs i) j).fields.length ≤ 1048576

end Go.Proofs.YtejkebfhiddhmaaDoor

/- KinCount of the program and of the model: how many types there are. -/
namespace Go.Proofs.YtejkebfhiddhmaaDoor
open Go.ChangeShapes Go.WideShapes Go.ChangeAt Go.RowKit
set_option linter.unusedVariables false

/-- How many types the first k groups have. -/
def countTo (G : Nat → List Ty) : Nat → Nat
  | 0 => 0
  | k + 1 => countTo G k + (G k).length

theorem countTo_le (G : Nat → List Ty) (n : Nat) (h : ∀ i, i < n → (G i).length ≤ 1048576) (k : Nat) (hk : k ≤ n) : countTo G k ≤ k * 1048576 := by
  induction k with
  | zero => simp [countTo]
  | succ k ih => have := ih (by omega); have := h k (by omega); simp only [countTo]; omega

set_option maxHeartbeats 400000 in
theorem specKinCount_core (a : Option Addr) (cap n lo hi : Nat) (G : Nat → List Ty) (w : World) (hn : n ≤ 1048576) (hm : ∀ i, i < n → (G i).length ≤ 1048576)
    (hx : n ≤ 0 ∨ ∃ b off, a = some ⟨b, off, none⟩ ∧ lo ≤ b ∧ b < hi ∧ ∀ i, i < n → GroupAt w lo hi b (off + i) (G i)) :
    Calls Tryd.prog 18 #[.slice a n cap] w fun e w' => e = .returned (.int .i64 (countTo G n : Nat)) ∧ w' = w := by
  have HM := hide hm
  clear hm
  rcases hx with h0 | ⟨b, off, rfl, h1, h2, h3⟩
  all_goals
    go_enter Tryd.func18, Tryd.ntmps18
    go_wp2_with fail
    go_loop [3, 4] (fun c i => ∃ k : Nat, k ≤ n ∧ i = .int .i64 k ∧ c = .int .i64 (countTo G k : Nat)) (fun c i => n - (intOf i).toNat)
    case atStart => exact ⟨0, Nat.zero_le _, rfl, rfl⟩
    case round =>
      obtain ⟨k, hk, rfl, rfl⟩ := hrel
      have q1 := countTo_le G n HM.out k hk
      by_cases hkn : k < n
      · first
        | (exfalso; omega)
        | (obtain ⟨ta, tc, c3, c4⟩ := h3 k hkn
           have q2 := HM.out k hkn
           clear h3 c4
           go_wp2_with fail
           refine ⟨⟨k + 1, by omega, by go_num, ?_⟩, by simp [intOf]; omega⟩
           simp [countTo])
      · have hkn' : Hid (k = n) := Nat.le_antisymm hk (Nat.le_of_not_lt hkn)
        go_wp2_with fail
        go_ret
        exact ⟨ret_int (by rw [hkn'.out]), rfl⟩

set_option maxHeartbeats 400000 in
theorem implKinCount_core (a : Option Addr) (cap n lo hi : Nat) (G : Nat → List Ty) (w : World) (hn : n ≤ 1048576) (hm : ∀ i, i < n → (G i).length ≤ 1048576)
    (hx : n ≤ 0 ∨ ∃ b off, a = some ⟨b, off, none⟩ ∧ lo ≤ b ∧ b < hi ∧ ∀ i, i < n → GroupAt w lo hi b (off + i) (G i)) :
    Calls Tryd.prog 17 #[.slice a n cap] w fun e w' => e = .returned (.int .i64 (countTo G n : Nat)) ∧ w' = w := by
  have HM := hide hm
  clear hm
  rcases hx with h0 | ⟨b, off, rfl, h1, h2, h3⟩
  all_goals
    go_enter Tryd.func17, Tryd.ntmps17
    go_wp2_with fail
    go_loop [3, 8] (fun c i => ∃ k : Nat, k ≤ n ∧ i = .int .i64 k ∧ c = .int .i64 (countTo G k : Nat)) (fun c i => n - (intOf i).toNat)
    case atStart => exact ⟨0, Nat.zero_le _, rfl, rfl⟩
    case round =>
      obtain ⟨k, hk, rfl, rfl⟩ := hrel
      have q1 := countTo_le G n HM.out k hk
      by_cases hkn : k < n
      · first
        | (exfalso; omega)
        | (obtain ⟨ta, tc, c3, c4⟩ := h3 k hkn
           have q2 := HM.out k hkn
           clear h3 c4
           go_wp2_with fail
           refine ⟨⟨k + 1, by omega, by go_num, ?_⟩, by simp [intOf]; omega⟩
           simp [countTo])
      · have hkn' : Hid (k = n) := Nat.le_antisymm hk (Nat.le_of_not_lt hkn)
        go_wp2_with fail
        go_ret
        exact ⟨ret_int (by rw [hkn'.out]), rfl⟩

/-- How many types there are. -/
def kinCount (gs : List (List Ty)) : Nat := countTo (grAt gs) gs.length

theorem specKinCount_any (a : Option Addr) (cap lo hi : Nat) (gs : List (List Ty)) (w : World) (hn : Few gs) (hx : GroupsIn w lo hi a gs) :
    Calls Tryd.prog 18 #[.slice a gs.length cap] w fun e w' => e = .returned (.int .i64 (kinCount gs : Nat)) ∧ w' = w := by
  refine specKinCount_core a cap gs.length lo hi (grAt gs) w hn.1 (fun i hi => (hn.2 i hi).1) ?_
  rcases hx with rfl | ⟨b, off, rfl, h1, h2, h3⟩
  · exact .inl (Nat.le_refl _)
  · exact .inr ⟨b, off, rfl, h1, h2, h3⟩

theorem implKinCount_any (a : Option Addr) (cap lo hi : Nat) (gs : List (List Ty)) (w : World) (hn : Few gs) (hx : GroupsIn w lo hi a gs) :
    Calls Tryd.prog 17 #[.slice a gs.length cap] w fun e w' => e = .returned (.int .i64 (kinCount gs : Nat)) ∧ w' = w := by
  refine implKinCount_core a cap gs.length lo hi (grAt gs) w hn.1 (fun i hi => (hn.2 i hi).1) ?_
  rcases hx with rfl | ⟨b, off, rfl, h1, h2, h3⟩
  · exact .inl (Nat.le_refl _)
  · exact .inr ⟨b, off, rfl, h1, h2, h3⟩

theorem kinCount_le {gs : List (List Ty)} (h : Few gs) : kinCount gs ≤ 1099511627776 := by
  have := countTo_le (grAt gs) gs.length (fun i hi => (h.2 i hi).1) gs.length (Nat.le_refl _)
  have h1 := h.1
  unfold kinCount
  omega
end Go.Proofs.YtejkebfhiddhmaaDoor

/- l1Flat of the model: all types, one behind the other. -/
namespace Go.Proofs.YtejkebfhiddhmaaDoor
open Go.ChangeShapes Go.WideShapes Go.ChangeAt Go.RowKit
set_option linter.unusedVariables false

/-- All types of the first k groups. -/
def flatTo (G : Nat → List Ty) : Nat → List Ty
  | 0 => []
  | k + 1 => flatTo G k ++ G k

theorem flatTo_length (G : Nat → List Ty) (k : Nat) : (flatTo G k).length = countTo G k := by
  induction k with
  | zero => rfl
  | succ k ih => simp [flatTo, countTo, ih]

/-- A type's four cells lie in a list of cells from o on. -/
def TvAt (w : World) (lo hi : Nat) (xs : List Value) (o : Nat) (t : Ty) : Prop :=
  xs[o]? = some (.int .i64 t.kind) ∧ xs[o + 1]? = some (.int .i64 t.up) ∧ xs[o + 2]? = some (.bool t.last) ∧ ∃ fa fc, xs[o + 3]? = some (.slice fa t.fields.length fc) ∧ FieldsIn w lo hi fa t.fields

theorem TvAt.append {w : World} {lo hi : Nat} {xs : List Value} {o : Nat} {t : Ty} (h : TvAt w lo hi xs o t) (ys : List Value) : TvAt w lo hi (xs ++ ys) o t := by
  obtain ⟨a, b, c, fa, fc, d, e⟩ := h
  have q : ∀ {k : Nat} {v : Value}, xs[k]? = some v → (xs ++ ys)[k]? = some v := fun {k v} hk => by
    have := (List.getElem?_eq_some_iff.1 hk).1
    rw [List.getElem?_append_left this]; exact hk
  exact ⟨q a, q b, q c, fa, fc, q d, e⟩
theorem TvAt.keep {w w' : World} {lo hi : Nat} {xs : List Value} {o : Nat} {t : Ty} (h : TvAt w lo hi xs o t) (hb : Below hi w w') : TvAt w' lo hi xs o t := by
  obtain ⟨a, b, c, fa, fc, d, e⟩ := h
  exact ⟨a, b, c, fa, fc, d, e.keep hb⟩
theorem TvAt.here {w : World} {lo hi : Nat} (xs : List Value) (t : Ty) {fa : Option Addr} {fc : Nat} (hf : FieldsIn w lo hi fa t.fields) (o : Nat) (ho : xs.length = o) :
    TvAt w lo hi (xs ++ [.int .i64 t.kind, .int .i64 t.up, .bool t.last, .slice fa t.fields.length fc]) o t := by
  subst ho
  refine ⟨?_, ?_, ?_, fa, fc, ?_, hf⟩ <;> simp

/-- The value v is a slice of the types ts, in cells of the call's own from block S on, the fields where they were. -/
def TypeRow (w : World) (lo hi S : Nat) (a : Option Addr) (cap : Nat) (ts : List Ty) : Prop :=
  ∃ xs, w.ownsRow S 28 4 (.slice a ts.length cap) ts.length xs ∧ ∀ i, i < ts.length → TvAt w lo hi xs (i * 4) (tyAt ts i)

theorem TypeRow.types {w : World} {lo hi S cap : Nat} {a : Option Addr} {ts : List Ty} (h : TypeRow w lo hi S a cap ts) (h1 : hi ≤ w.heap.size) (h2 : lo ≤ S) : TypesIn w lo w.heap.size a ts := by
  obtain ⟨xs, ho, hT⟩ := h
  rcases owns_cells ho with h0 | ⟨g, rfl, hS, hlt, hc⟩
  · exact .inl (List.length_eq_zero_iff.1 (by omega))
  · refine .inr ⟨g, 0, rfl, by omega, hlt, fun i hi => ?_⟩
    obtain ⟨a, b, c, fa, fc, d, e⟩ := hT i hi
    rw [Nat.zero_add]
    refine ⟨?_, ?_, ?_, fa, fc, ?_, e.wide (Nat.le_refl _) h1⟩
    all_goals rw [hc _ (by omega)]; assumption

theorem tyAt_append_left (l r : List Ty) (i : Nat) (h : i < l.length) : tyAt (l ++ r) i = tyAt l i := by
  simp [tyAt, List.getD, List.getElem?_append_left h]
theorem tyAt_append_one (l : List Ty) (t : Ty) : tyAt (l ++ [t]) l.length = t := by
  simp [tyAt, List.getD]
theorem take_snoc (g : List Ty) (j : Nat) (h : j < g.length) : g.take (j + 1) = g.take j ++ [tyAt g j] := by
  rw [List.take_succ_eq_append_getElem h]
  simp [tyAt, List.getD, List.getElem?_eq_getElem h]

/-- One type more. -/
theorem TypeRow.snoc {w w1 : World} {lo hi S cap cap' : Nat} {a a' : Option Addr} {ts : List Ty} {t : Ty} {fa : Option Addr} {fc : Nat} {xs : List Value}
    (hT : ∀ i, i < ts.length → TvAt w lo hi xs (i * 4) (tyAt ts i)) (hl : xs.length = ts.length * 4) (hf : FieldsIn w lo hi fa t.fields) (hb : Below hi w w1)
    (ho : w1.ownsRow S 28 4 (.slice a' (ts.length + 1) cap') (ts.length + 1) (xs ++ [.int .i64 t.kind, .int .i64 t.up, .bool t.last, .slice fa t.fields.length fc])) :
    TypeRow w1 lo hi S a' cap' (ts ++ [t]) := by
  refine ⟨_, by simpa using ho, fun i hi => ?_⟩
  by_cases e : i < ts.length
  · rw [tyAt_append_left _ _ _ e]
    exact ((hT i e).append _).keep hb
  · have : i = ts.length := by simp at hi; omega
    subst this
    rw [tyAt_append_one]
    exact TvAt.here xs t (hf.keep hb) _ hl

/-- Two worlds that hold below B what a third holds there. -/
theorem below_from {B hi : Nat} {w a b : World} (ha : Below B w a) (hb : Below B w b) (h : hi ≤ B) (hs : a.heap.size ≤ b.heap.size := by assumption) : Below hi a b :=
  ⟨hb.os.trans ha.os.symm, hb.tape.trans ha.tape.symm, hb.output.trans ha.output.symm, hs, fun k hk => (hb.block k (by omega)).trans (ha.block k (by omega)).symm⟩
theorem flat_take_all (G : Nat → List Ty) (k : Nat) : flatTo G k ++ (G k).take (G k).length = flatTo G (k + 1) := by simp [flatTo]

set_option maxHeartbeats 800000 in
set_option maxRecDepth 100000 in
theorem l1Flat_core (a : Option Addr) (cap n lo hi : Nat) (G : Nat → List Ty) (w : World) (hn : n ≤ 1048576) (hm : ∀ i, i < n → (G i).length ≤ 1048576) (hh : hi ≤ w.heap.size)
    (hx : n ≤ 0 ∨ ∃ b off, a = some ⟨b, off, none⟩ ∧ lo ≤ b ∧ b < hi ∧ ∀ i, i < n → GroupAt w lo hi b (off + i) (G i)) :
    Calls Tryd.prog 46 #[.slice a n cap] w fun e w' => ∃ na nc, e = .returned (.slice na (countTo G n) nc) ∧ TypeRow w' lo hi w.heap.size na nc (flatTo G n) ∧ Below w.heap.size w w' := by
  have HM := hide hm
  clear hm
  obtain ⟨i0, hi0, hzz⟩ := Option.map_eq_some_iff.1 Tryd.infoType
  simp only [Prod.mk.injEq] at hzz
  obtain ⟨hz0, hs0, hb0⟩ := hzz
  have HZ := hide hz0
  have HS := hide hs0
  have HB := hide hb0
  have HI := hide hi0
  clear hz0 hs0 hb0 hi0
  rcases hx with h0 | ⟨b, off, rfl, h1, h2, h3⟩
  all_goals
    go_enter Tryd.func46, Tryd.ntmps46
    go_wp2_with fail
    go_loopw [3, 4] (fun v i wr => ∃ (k : Nat) (ra : Option Addr) (rc : Nat), k ≤ n ∧ i = .int .i64 k ∧ v = .slice ra (countTo G k) rc ∧ TypeRow wr lo hi w.heap.size ra rc (flatTo G k) ∧ Below w.heap.size w wr) (fun v i wr => n - (intOf i).toNat)
    case atStart =>
      refine ⟨0, _, _, Nat.zero_le _, rfl, rfl, ⟨[], ⟨rfl, .inr ⟨w.heap.size, 0, #[], rfl, Nat.le_refl _, Deep.blk_alloc_new _ _, Nat.le_refl _, Nat.zero_le _, rfl, rfl⟩⟩, fun i hi => absurd hi (Nat.not_lt_zero _)⟩, (Below.refl _ _).alloc (Nat.le_refl _) _⟩
    case round =>
      obtain ⟨k, ra, rc, hk, rfl, rfl, hT, hb⟩ := hrel
      have HT := hide hT
      clear hT
      by_cases hkn : k < n
      · first
        | (exfalso; omega)
        | (obtain ⟨ta, tc, c3, c4⟩ := h3 k hkn
           have q2 := HM.out k hkn
           have q3 := countTo_le G n HM.out k hk
           have h2' := Nat.lt_of_lt_of_le h2 hh
           clear h3
           go_wp2_with fail
           go_loopw [3, 5] (fun v i wi => ∃ (j : Nat) (ra : Option Addr) (rc : Nat), j ≤ (G k).length ∧ i = .int .i64 j ∧ v = .slice ra (countTo G k + j) rc ∧ TypeRow wi lo hi w.heap.size ra rc (flatTo G k ++ (G k).take j) ∧ Below w.heap.size w wi) (fun v i wi => (G k).length - (intOf i).toNat)
           case atStart => exact ⟨0, ra, rc, Nat.zero_le _, rfl, rfl, by simpa using HT.out, hb⟩
           case round =>
             clear HT hb
             obtain ⟨j, ra, rc, hj, rfl, rfl, hT, hb⟩ := hrel
             have d3 : wr.cell? ⟨b, off + k, none⟩ = some (.slice ta (G k).length tc) := by rw [hb.cell (by exact h2')]; exact c3
             by_cases hjn : j < (G k).length
             · rcases c4 with hnil | ⟨b2, off2, rfl, g1, g2, g3⟩
               · rw [hnil] at hjn; exact absurd hjn (Nat.not_lt_zero _)
               obtain ⟨e0, e1, e2, fa, fc, e3, e4⟩ := (g3 j hjn).keep (hb.mono hh) g1 g2
               have E4 := hide e4
               obtain ⟨xs, hown, hTv⟩ := hT
               have hlen : (flatTo G k ++ (G k).take j).length = countTo G k + j := by simp [flatTo_length]; omega
               have hxl := hown.1
               have HTv := hide hTv
               have HXL := hide hxl
               have HLE := hide hlen
               rw [hlen] at hown
               have HO := hide hown
               have hs := hb.size
               clear hown hTv hxl e4 g3 hlen
               go_wp2_with (first | (at_builtin; refine wpList_append_lies _ rfl _ _ 41 rfl w.heap.size 28 i0 _ 4 48 Tryd.underlying41 HI.out HZ.out HS.out HB.out rfl (by decide) _ _ xs rfl (HO.out.alloc _) ⟨wr.heap.size, 0, none⟩ 1 1 [.int .i64 (tyAt (G k) j).kind, .int .i64 (tyAt (G k) j).up, .bool (tyAt (G k) j).last, .slice fa (tyAt (G k) j).fields.length fc] rfl rfl ?c1 ?c2 (by decide) ?c3 ?c4 ?c5 _ rfl ?_))
               case c1 => exact World.news_of_block (Deep.blk_alloc_new _ _)
               case c2 => intro u hu; simp at hu; rcases hu with rfl | rfl | rfl | rfl <;> rfl
               case c3 => unfold maxLen; omega
               case c4 => omega
               case c5 => simp; omega
               intro g cap' w1 hown1 hgr hat hlt1
               have hb1 : Below w.heap.size w w1 := (hb.alloc hs _).grown hgr (by simp; omega) (owns_base HO.out)
               have HB1 := hide hb1
               have HO1 := hide hown1
               have hs1 : wr.heap.size ≤ w1.heap.size := by have := hgr.size; simp at this; omega
               clear hgr hat hown1
               go_wp2_with fail
               refine ⟨⟨j + 1, _, cap', by omega, by go_num, rfl, ?_, HB1.out⟩, by simp [intOf]; omega⟩
               rw [take_snoc _ _ hjn, ← List.append_assoc]
               have ho := HO1.out
               rw [← HLE.out] at ho
               exact TypeRow.snoc (a := ra) (cap := rc) HTv.out HXL.out E4.out (below_from hb HB1.out hh) ho
             · have hje : Hid (j = (G k).length) := Nat.le_antisymm hj (Nat.le_of_not_lt hjn)
               have HT := hide hT
               clear hT
               go_wp2_with fail
               refine ⟨⟨k + 1, ra, rc, by omega, by go_num, ?_, ?_, hb⟩, by simp [intOf]; omega⟩
               · rw [hje.out]; simp [countTo]
               · have := HT.out; rw [hje.out, flat_take_all] at this; exact this)
      · have hkn' : Hid (k = n) := Nat.le_antisymm hk (Nat.le_of_not_lt hkn)
        go_wp2_with fail
        go_ret
        rw [hkn'.out] at HT ⊢
        exact ⟨ra, rc, rfl, HT.out, hb⟩

/-- All types. -/
def flat (gs : List (List Ty)) : List Ty := flatTo (grAt gs) gs.length
theorem flat_length (gs : List (List Ty)) : (flat gs).length = kinCount gs := flatTo_length _ _

theorem l1Flat_any (a : Option Addr) (cap lo hi : Nat) (gs : List (List Ty)) (w : World) (hn : Few gs) (hx : GroupsIn w lo hi a gs) (hh : hi ≤ w.heap.size) (hl : lo ≤ hi) :
    Calls Tryd.prog 46 #[.slice a gs.length cap] w fun e w' => ∃ na nc, e = .returned (.slice na (kinCount gs) nc) ∧ TypesIn w' lo w'.heap.size na (flat gs) ∧ Below w.heap.size w w' := by
  refine (l1Flat_core a cap gs.length lo hi (grAt gs) w hn.1 (fun i hi => (hn.2 i hi).1) hh ?_).mono ?_
  · rcases hx with rfl | ⟨b, off, rfl, h1, h2, h3⟩
    · exact .inl (Nat.le_refl _)
    · exact .inr ⟨b, off, rfl, h1, h2, h3⟩
  · rintro e w' ⟨na, nc, rfl, hT, hb⟩
    exact ⟨na, nc, rfl, hT.types (Nat.le_trans hh hb.size) (by omega), hb⟩
end Go.Proofs.YtejkebfhiddhmaaDoor

/- kinFlat of the program: all types in one table, each with where its group begins and ends. -/
namespace Go.Proofs.YtejkebfhiddhmaaDoor
open Go.ChangeShapes Go.WideShapes Go.ChangeAt Go.RowKit
set_option linter.unusedVariables false

structure Kr where
  t : Ty
  b : Nat
  e : Nat

def krAt (l : List Kr) (i : Nat) : Kr := l.getD i ⟨⟨0, 0, false, []⟩, 0, 0⟩

/-- The table's rows of the first k groups. -/
def rowsTo (G : Nat → List Ty) : Nat → List Kr
  | 0 => []
  | k + 1 => rowsTo G k ++ (G k).map fun t => ⟨t, countTo G k, countTo G k + (G k).length⟩

theorem rowsTo_length (G : Nat → List Ty) (k : Nat) : (rowsTo G k).length = countTo G k := by
  induction k with
  | zero => rfl
  | succ k ih => simp [rowsTo, countTo, ih]

theorem Tryd.infoRow : (Tryd.prog.info? 60).map (fun i => (i.zero, i.size, i.bytes)) = some (some (.agg #[.int .i64 0, .int .i64 0, .bool false, .slice none 0 0, .int .i64 0, .int .i64 0]), 6, 64) := by kernel_rfl

/-- A row's six cells lie in a list of cells from o on. -/
def KvAt (w : World) (lo hi : Nat) (xs : List Value) (o : Nat) (r : Kr) : Prop :=
  TvAt w lo hi xs o r.t ∧ xs[o + 4]? = some (.int .i64 (r.b : Nat)) ∧ xs[o + 5]? = some (.int .i64 (r.e : Nat))

theorem KvAt.append {w : World} {lo hi : Nat} {xs : List Value} {o : Nat} {r : Kr} (h : KvAt w lo hi xs o r) (ys : List Value) : KvAt w lo hi (xs ++ ys) o r := by
  obtain ⟨a, b, c⟩ := h
  have q : ∀ {k : Nat} {v : Value}, xs[k]? = some v → (xs ++ ys)[k]? = some v := fun {k v} hk => by
    have := (List.getElem?_eq_some_iff.1 hk).1
    rw [List.getElem?_append_left this]; exact hk
  exact ⟨a.append _, q b, q c⟩
theorem KvAt.keep {w w' : World} {lo hi : Nat} {xs : List Value} {o : Nat} {r : Kr} (h : KvAt w lo hi xs o r) (hb : Below hi w w') : KvAt w' lo hi xs o r := ⟨h.1.keep hb, h.2⟩
theorem KvAt.here {w : World} {lo hi : Nat} (xs : List Value) (r : Kr) {fa : Option Addr} {fc : Nat} (hf : FieldsIn w lo hi fa r.t.fields) (o : Nat) (ho : xs.length = o) :
    KvAt w lo hi (xs ++ [.int .i64 r.t.kind, .int .i64 r.t.up, .bool r.t.last, .slice fa r.t.fields.length fc, .int .i64 (r.b : Nat), .int .i64 (r.e : Nat)]) o r := by
  subst ho
  refine ⟨⟨?_, ?_, ?_, fa, fc, ?_, hf⟩, ?_, ?_⟩ <;> simp

def RowRow (w : World) (lo hi S : Nat) (a : Option Addr) (cap : Nat) (rs : List Kr) : Prop :=
  ∃ xs, w.ownsRow S 60 6 (.slice a rs.length cap) rs.length xs ∧ ∀ i, i < rs.length → KvAt w lo hi xs (i * 6) (krAt rs i)

/-- The table's rows lie at a. -/
def RowsIn (w : World) (lo hi : Nat) (a : Option Addr) (rs : List Kr) : Prop :=
  rs = [] ∨ ∃ b off, a = some ⟨b, off, none⟩ ∧ lo ≤ b ∧ b < hi ∧ ∀ i, i < rs.length → TypeAt w lo hi b (off + i * 6) (krAt rs i).t ∧
    w.cell? ⟨b, off + i * 6 + 4, none⟩ = some (.int .i64 ((krAt rs i).b : Nat)) ∧ w.cell? ⟨b, off + i * 6 + 5, none⟩ = some (.int .i64 ((krAt rs i).e : Nat))

theorem RowsIn.same {lo hi lo' hi' : Nat} {w w' : World} {a : Option Addr} {rs : List Kr} (h : RowsIn w lo hi a rs) (hs : Same lo hi w w') (h1 : lo' ≤ lo) (h2 : hi ≤ hi') : RowsIn w' lo' hi' a rs := by
  rcases h with rfl | ⟨b, off, rfl, h3, h4, h5⟩
  · exact .inl rfl
  · refine .inr ⟨b, off, rfl, by omega, by omega, fun i hi => ?_⟩
    obtain ⟨x, y, z⟩ := h5 i hi
    exact ⟨x.same hs h1 h2 h3 h4, by rw [hs.cell h3 h4]; exact y, by rw [hs.cell h3 h4]; exact z⟩
theorem RowsIn.keep {lo hi : Nat} {w w' : World} {a : Option Addr} {rs : List Kr} (h : RowsIn w lo hi a rs) (hb : Below hi w w') : RowsIn w' lo hi a rs := h.same (.of_below hb (Nat.le_refl _)) (Nat.le_refl _) (Nat.le_refl _)

theorem RowRow.rows {w : World} {lo hi S cap : Nat} {a : Option Addr} {rs : List Kr} (h : RowRow w lo hi S a cap rs) (h1 : hi ≤ w.heap.size) (h2 : lo ≤ S) : RowsIn w lo w.heap.size a rs := by
  obtain ⟨xs, ho, hT⟩ := h
  rcases owns_cells ho with h0 | ⟨g, rfl, hS, hlt, hc⟩
  · exact .inl (List.length_eq_zero_iff.1 (by omega))
  · refine .inr ⟨g, 0, rfl, by omega, hlt, fun i hi => ?_⟩
    obtain ⟨⟨a, b, c, fa, fc, d, e⟩, f, g'⟩ := hT i hi
    rw [Nat.zero_add]
    refine ⟨⟨?_, ?_, ?_, fa, fc, ?_, e.wide (Nat.le_refl _) h1⟩, ?_, ?_⟩
    all_goals rw [hc _ (by omega)]; assumption

theorem krAt_append_left (l r : List Kr) (i : Nat) (h : i < l.length) : krAt (l ++ r) i = krAt l i := by
  simp [krAt, List.getD, List.getElem?_append_left h]
theorem krAt_append_one (l : List Kr) (t : Kr) : krAt (l ++ [t]) l.length = t := by
  simp [krAt, List.getD]

theorem RowRow.snoc {w w1 : World} {lo hi S cap' : Nat} {a' : Option Addr} {rs : List Kr} {r : Kr} {fa : Option Addr} {fc : Nat} {xs : List Value}
    (hT : ∀ i, i < rs.length → KvAt w lo hi xs (i * 6) (krAt rs i)) (hl : xs.length = rs.length * 6) (hf : FieldsIn w lo hi fa r.t.fields) (hb : Below hi w w1)
    (ho : w1.ownsRow S 60 6 (.slice a' (rs.length + 1) cap') (rs.length + 1) (xs ++ [.int .i64 r.t.kind, .int .i64 r.t.up, .bool r.t.last, .slice fa r.t.fields.length fc, .int .i64 (r.b : Nat), .int .i64 (r.e : Nat)])) :
    RowRow w1 lo hi S a' cap' (rs ++ [r]) := by
  refine ⟨_, by simpa using ho, fun i hi => ?_⟩
  by_cases e : i < rs.length
  · rw [krAt_append_left _ _ _ e]
    exact ((hT i e).append _).keep hb
  · have : i = rs.length := by simp at hi; omega
    subst this
    rw [krAt_append_one]
    exact KvAt.here xs r (hf.keep hb) _ hl

def rowOf (G : Nat → List Ty) (k : Nat) (t : Ty) : Kr := ⟨t, countTo G k, countTo G k + (G k).length⟩
theorem rows_take_all (G : Nat → List Ty) (k : Nat) : rowsTo G k ++ ((G k).take (G k).length).map (rowOf G k) = rowsTo G (k + 1) := by simp [rowsTo, rowOf]

set_option maxHeartbeats 800000 in
set_option maxRecDepth 100000 in
theorem kinFlat_core (a : Option Addr) (cap n lo hi : Nat) (G : Nat → List Ty) (w : World) (hn : n ≤ 1048576) (hm : ∀ i, i < n → (G i).length ≤ 1048576) (hh : hi ≤ w.heap.size)
    (hx : n ≤ 0 ∨ ∃ b off, a = some ⟨b, off, none⟩ ∧ lo ≤ b ∧ b < hi ∧ ∀ i, i < n → GroupAt w lo hi b (off + i) (G i)) :
    Calls Tryd.prog 45 #[.slice a n cap] w fun e w' => ∃ na nc, e = .returned (.slice na (countTo G n) nc) ∧ RowRow w' lo hi w.heap.size na nc (rowsTo G n) ∧ Below w.heap.size w w' := by
  have HM := hide hm
  clear hm
  obtain ⟨i0, hi0, hzz⟩ := Option.map_eq_some_iff.1 Tryd.infoRow
  simp only [Prod.mk.injEq] at hzz
  obtain ⟨hz0, hs0, hb0⟩ := hzz
  have HZ := hide hz0
  have HS := hide hs0
  have HB := hide hb0
  have HI := hide hi0
  clear hz0 hs0 hb0 hi0
  rcases hx with h0 | ⟨b, off, rfl, h1, h2, h3⟩
  all_goals
    go_enter Tryd.func45, Tryd.ntmps45
    go_wp2_with fail
    go_loopw [3, 11] (fun v i wr => ∃ (k : Nat) (ra : Option Addr) (rc : Nat), k ≤ n ∧ i = .int .i64 k ∧ v = .slice ra (countTo G k) rc ∧ RowRow wr lo hi w.heap.size ra rc (rowsTo G k) ∧ Below w.heap.size w wr) (fun v i wr => n - (intOf i).toNat)
    case atStart =>
      refine ⟨0, none, 0, Nat.zero_le _, rfl, rfl, ⟨[], ⟨rfl, .inl ⟨rfl, rfl⟩⟩, fun i hi => absurd hi (Nat.not_lt_zero _)⟩, Below.refl _ _⟩
    case round =>
      obtain ⟨k, ra, rc, hk, rfl, rfl, hT, hb⟩ := hrel
      have HT := hide hT
      clear hT
      by_cases hkn : k < n
      · first
        | (exfalso; omega)
        | (obtain ⟨ta, tc, c3, c4⟩ := h3 k hkn
           have q2 := HM.out k hkn
           have q3 := countTo_le G n HM.out k hk
           have h2' := Nat.lt_of_lt_of_le h2 hh
           have d3 : wr.cell? ⟨b, off + k, none⟩ = some (.slice ta (G k).length tc) := by rw [hb.cell (by exact h2')]; exact c3
           clear h3 c3
           rcases c4 with hnil | ⟨b2, off2, rfl, g1, g2, g3⟩
           all_goals
             go_wp2_with fail
             go_loopw [3, 19] (fun v i wi => ∃ (j : Nat) (ra : Option Addr) (rc : Nat), j ≤ (G k).length ∧ i = .int .i64 j ∧ v = .slice ra (countTo G k + j) rc ∧ RowRow wi lo hi w.heap.size ra rc (rowsTo G k ++ ((G k).take j).map (rowOf G k)) ∧ Below w.heap.size w wi) (fun v i wi => (G k).length - (intOf i).toNat)
             case atStart => exact ⟨0, ra, rc, Nat.zero_le _, rfl, rfl, by simpa using HT.out, hb⟩
             case round =>
               clear HT hb d3
               obtain ⟨j, ra, rc, hj, rfl, rfl, hT, hb⟩ := hrel
               by_cases hjn : j < (G k).length
               · first
                 | (exfalso; rw [hnil] at hjn; exact absurd hjn (Nat.not_lt_zero _))
                 | (obtain ⟨e0, e1, e2, fa, fc, e3, e4⟩ := (g3 j hjn).keep (hb.mono hh) g1 g2
                    have E4 := hide e4
                    obtain ⟨xs, hown, hTv⟩ := hT
                    have hlen : (rowsTo G k ++ ((G k).take j).map (rowOf G k)).length = countTo G k + j := by simp [rowsTo_length]; omega
                    have hxl := hown.1
                    have HTv := hide hTv
                    have HXL := hide hxl
                    have HLE := hide hlen
                    rw [hlen] at hown
                    have HO := hide hown
                    have hs := hb.size
                    clear hown hTv hxl e4 g3 hlen
                    go_wp2_with (first | (at_builtin; refine wpList_append_lies _ rfl _ _ 57 rfl w.heap.size 60 i0 _ 6 64 Tryd.underlying57 HI.out HZ.out HS.out HB.out rfl (by decide) _ _ xs rfl ((HO.out.alloc _).alloc _) ⟨wr.heap.size + 1, 0, none⟩ 1 1 [.int .i64 (tyAt (G k) j).kind, .int .i64 (tyAt (G k) j).up, .bool (tyAt (G k) j).last, .slice fa (tyAt (G k) j).fields.length fc, .int .i64 (countTo G k), .int .i64 ((countTo G k : Int) + ((G k).length : Int))] rfl rfl ?c1 ?c2 (by decide) ?c3 ?c4 ?c5 _ rfl ?_))
                    case c1 => exact World.news_of_block (by first | exact Deep.blk_alloc_new _ _ | (have := Deep.blk_alloc_new (wr.alloc (.cells #[.int .i64 (tyAt (G k) j).kind, .int .i64 (tyAt (G k) j).up, .bool (tyAt (G k) j).last, .slice fa (tyAt (G k) j).fields.length fc] 28)) (.cells #[.int .i64 (tyAt (G k) j).kind, .int .i64 (tyAt (G k) j).up, .bool (tyAt (G k) j).last, .slice fa (tyAt (G k) j).fields.length fc, .int .i64 (countTo G k), .int .i64 ((countTo G k : Int) + ((G k).length : Int))] 60); simpa using this))
                    case c2 => intro u hu; simp at hu; rcases hu with rfl | rfl | rfl | rfl | rfl | rfl <;> rfl
                    case c3 => unfold maxLen; omega
                    case c4 => omega
                    case c5 => simp; omega
                    intro g cap' w1 hown1 hgr hat hlt1
                    have hb1 : Below w.heap.size w w1 := ((hb.alloc hs _).alloc (by simp; omega) _).grown hgr (by simp; omega) (owns_base HO.out)
                    have HB1 := hide hb1
                    have HO1 := hide hown1
                    have hs1 : wr.heap.size ≤ w1.heap.size := by have := hgr.size; simp at this; omega
                    clear hgr hat hown1
                    go_wp2_with fail
                    refine ⟨⟨j + 1, _, cap', by omega, by go_num, rfl, ?_, HB1.out⟩, by simp [intOf]; omega⟩
                    rw [take_snoc _ _ hjn, List.map_append, ← List.append_assoc]
                    have ho := HO1.out
                    rw [← HLE.out] at ho
                    refine RowRow.snoc (r := rowOf G k (tyAt (G k) j)) (fc := fc) HTv.out HXL.out E4.out (below_from hb HB1.out hh) ?_
                    simpa [rowOf] using ho)
               · have hje : Hid (j = (G k).length) := Nat.le_antisymm hj (Nat.le_of_not_lt hjn)
                 have HT := hide hT
                 clear hT
                 go_wp2_with fail
                 refine ⟨⟨k + 1, ra, rc, by omega, by go_num, ?_, ?_, hb⟩, by simp [intOf]; omega⟩
                 · rw [hje.out]; simp [countTo]
                 · have := HT.out; rw [hje.out, rows_take_all] at this; exact this)
      · have hkn' : Hid (k = n) := Nat.le_antisymm hk (Nat.le_of_not_lt hkn)
        go_wp2_with fail
        go_ret
        rw [hkn'.out] at HT ⊢
        exact ⟨ra, rc, rfl, HT.out, hb⟩

/-- The table's rows. -/
def rowsOf (gs : List (List Ty)) : List Kr := rowsTo (grAt gs) gs.length
theorem rowsOf_length (gs : List (List Ty)) : (rowsOf gs).length = kinCount gs := rowsTo_length _ _

theorem kinFlat_any (a : Option Addr) (cap lo hi : Nat) (gs : List (List Ty)) (w : World) (hn : Few gs) (hx : GroupsIn w lo hi a gs) (hh : hi ≤ w.heap.size) (hl : lo ≤ hi) :
    Calls Tryd.prog 45 #[.slice a gs.length cap] w fun e w' => ∃ na nc, e = .returned (.slice na (kinCount gs) nc) ∧ RowsIn w' lo w'.heap.size na (rowsOf gs) ∧ Below w.heap.size w w' := by
  refine (kinFlat_core a cap gs.length lo hi (grAt gs) w hn.1 (fun i hi => (hn.2 i hi).1) hh ?_).mono ?_
  · rcases hx with rfl | ⟨b, off, rfl, h1, h2, h3⟩
    · exact .inl (Nat.le_refl _)
    · exact .inr ⟨b, off, rfl, h1, h2, h3⟩
  · rintro e w' ⟨na, nc, rfl, hT, hb⟩
    exact ⟨na, nc, rfl, hT.rows (Nat.le_trans hh hb.size) (by omega), hb⟩
end Go.Proofs.YtejkebfhiddhmaaDoor

/- A list of fields appended to an empty one: the same fields, in new memory. -/
namespace Go.Proofs.YtejkebfhiddhmaaDoor
open Go.ChangeShapes Go.WideShapes Go.ChangeAt Go.RowKit Go.Deep
set_option linter.unusedVariables false

def fcell (f : Fd) : Nat → Value
  | 0 => .int .i64 f.kind
  | 1 => .int .i64 f.of
  | _ => .bool f.mt
def fcells (fs : List Fd) : List Value := (List.range (fs.length * 3)).map fun j => fcell (fdAt fs (j / 3)) (j % 3)
theorem fcells_get (fs : List Fd) (j : Nat) (h : j < fs.length * 3) : (fcells fs)[j]? = some (fcell (fdAt fs (j / 3)) (j % 3)) := by
  simp [fcells, h]
theorem fcells_length (fs : List Fd) : (fcells fs).length = fs.length * 3 := by simp [fcells]
theorem fcells_one (fs : List Fd) : ∀ u ∈ fcells fs, u.oneCell' = true := by
  intro u hu
  simp only [fcells, List.mem_map] at hu
  obtain ⟨j, _, rfl⟩ := hu
  generalize j % 3 = r
  match r with
  | 0 => rfl
  | 1 => rfl
  | (k + 2) => rfl
theorem fieldAt_cell {w : World} {b off : Nat} {fs : List Fd} (h : ∀ i, i < fs.length → FieldAt w b (off + i * 3) (fdAt fs i)) (j : Nat) (hj : j < fs.length * 3) :
    w.cell? ⟨b, off + j, none⟩ = some (fcell (fdAt fs (j / 3)) (j % 3)) := by
  obtain ⟨a0, a1, a2⟩ := h (j / 3) (by omega)
  have e : off + j = off + j / 3 * 3 + j % 3 := by omega
  rw [e]
  have hr : j % 3 = 0 ∨ j % 3 = 1 ∨ j % 3 = 2 := by omega
  rcases hr with hr | hr | hr <;> rw [hr]
  · exact a0
  · exact a1
  · exact a2
theorem fieldAt_of {w : World} {b off : Nat} {fs : List Fd} (h : ∀ j, j < fs.length * 3 → w.cell? ⟨b, off + j, none⟩ = some (fcell (fdAt fs (j / 3)) (j % 3))) : ∀ i, i < fs.length → FieldAt w b (off + i * 3) (fdAt fs i) := by
  intro i hi
  have h0 := h (i * 3) (by omega)
  have h1 := h (i * 3 + 1) (by omega)
  have h2 := h (i * 3 + 2) (by omega)
  rw [show (i * 3) / 3 = i by omega, show (i * 3) % 3 = 0 by omega] at h0
  rw [show (i * 3 + 1) / 3 = i by omega, show (i * 3 + 1) % 3 = 1 by omega] at h1
  rw [show (i * 3 + 2) / 3 = i by omega, show (i * 3 + 2) % 3 = 2 by omega] at h2
  exact ⟨h0, by rw [Nat.add_assoc]; exact h1, by rw [Nat.add_assoc]; exact h2⟩

theorem frozen_none {w : World} {b o : Nat} (h : w.heap[b]? = none) : w.frozen? ⟨b, o, none⟩ = false := by
  unfold World.frozen?
  simp only [h]
theorem frozen_alloc_new (w : World) (c : Array Value) (t : TypeId) (b o : Nat) (h : w.heap.size ≤ b) : (w.alloc (.cells c t)).frozen? ⟨b, o, none⟩ = false := by
  by_cases e : b = w.heap.size
  · subst e
    unfold World.frozen?
    simp only [blk_alloc_new]
    simp
  · refine frozen_none (Array.getElem?_eq_none_iff.2 ?_)
    have : (w.alloc (.cells c t)).heap.size = w.heap.size + 1 := by simp
    omega

/-- append of the fields fs to an empty list. -/
theorem run_append_copy (ty : TypeId) (base : Option Addr) (hbase : base = none ∨ ∃ B, base = some ⟨B, 0, none⟩) (fa : Option Addr) (fc lo hi : Nat) (fs : List Fd) (w : World) (hn : fs.length ≤ 1048576) (hx : FieldsIn w lo hi fa fs) :
    ∃ na nc w', (Builtin.append_ #[26, 26] ty #[.slice base 0 0, .slice fa fs.length fc]).run Tryd.prog w = .ok (.slice na fs.length nc) w' ∧ FieldsNew w' w.heap.size w'.heap.size na fs ∧ Below w.heap.size w w' := by
  obtain ⟨i0, hi0, hzz⟩ := Option.map_eq_some_iff.1 Tryd.infoField
  simp only [Prod.mk.injEq] at hzz
  obtain ⟨hz0, hs0, hb0⟩ := hzz
  have hu := Tryd.underlying26
  by_cases h0 : fs = []
  · subst h0
    refine ⟨base, 0, w, ?_, ⟨.inl rfl, .inl rfl⟩, Below.refl _ _⟩
    · have e1 : (Builtin.firstCells i0.size 0 (.slice fa 0 fc)).run Tryd.prog w = .ok #[] w := by
        cases fa with
        | none => exact run_firstCells_none w i0.size 0 0 fc
        | some ad => exact run_firstCells_some w i0.size 0 ad 0 fc [] (by simp) (fun j u h => by simp at h)
      rcases hbase with rfl | ⟨B, rfl⟩
      · simp [Builtin.append_, run_underlying hu, sizeOf, typeInfo, hi0, Builtin.lenOf, e1]
      · simp [Builtin.append_, run_underlying hu, sizeOf, typeInfo, hi0, Builtin.lenOf, e1, storeCells]
  · rcases hx with rfl | ⟨b, off, rfl, h1, h2, h3⟩
    · exact absurd rfl h0
    have hpos : 0 < fs.length := List.length_pos_iff.2 h0
    have hsrc : Src Tryd.prog i0.size 26 (.slice (some ⟨b, off, none⟩) fs.length fc) fs.length (fcells fs) w :=
      Src.ofSlice w hu ⟨b, off, none⟩ fs.length fc (fcells fs) (by rw [fcells_length, hs0]) (fun j u hj => by
        have hlt : j < fs.length * 3 := by have := (List.getElem?_eq_some_iff.1 hj).1; rwa [fcells_length] at this
        rw [fcells_get _ _ hlt] at hj
        rw [add_plain, fieldAt_cell h3 j hlt]
        exact hj) (fcells_one fs)
    have hold : (Builtin.firstCells i0.size 0 (.slice base 0 0)).run Tryd.prog w.drew = .ok ([] : List Value).toArray w.drew := by
      cases base with
      | none => exact run_firstCells_none w.drew i0.size 0 0 0
      | some ad => exact run_firstCells_some w.drew i0.size 0 ad 0 0 [] (by simp) (fun j u h => by simp at h)
    have hrun := run_append_grow_src (P := Tryd.prog) w 26 26 ty 35 i0 _ hu hi0 hz0 base 0 0 [] hold _ fs.length (fcells fs) hsrc (by omega) (by omega)
      (growslice_fits_wide (by omega) (by rw [hb0]; omega))
    rw [Nat.zero_add] at hrun
    refine ⟨_, _, _, hrun, ⟨.inr ⟨_, 0, rfl, Nat.le_refl _, by simp, ?_⟩, .inr ⟨_, _, rfl, Nat.le_refl _, by simp, ⟨_, blk_alloc_new w.drew _, rfl⟩, ?_⟩⟩, ?_⟩
    · refine fieldAt_of fun j hj => ?_
      rw [Nat.zero_add]
      generalize hc : (([] ++ fcells fs).toArray ++ _ : Array Value) = c
      have hb' : (w.drew.alloc (.cells c 35)).heap[w.heap.size]? = some (.cells c 35 (0, 0)) := blk_alloc_new w.drew _
      simp only [World.cell?, hb']
      subst hc
      rw [← fcells_get fs j hj]
      have hl := fcells_length fs
      simp [Array.getElem?_append, hl, hj]
    · have hl := fcells_length fs
      simp [hl]
    · exact (Below.refl _ _).drew.alloc (Nat.le_refl _) _

theorem wp_append_copy {o : Oper} {a : Act} {K : Act → World → Prop} {Q : Exit → Act → World → Prop} (w : World) (s x : Operand)
    (ho : o.op = .call { callee := .builtin .append, args := #[s, x], argTypes := #[26, 26] })
    (base : Option Addr) (hbase : base = none ∨ ∃ B, base = some ⟨B, 0, none⟩) (fa : Option Addr) (fc lo hi : Nat) (fs : List Fd) (hs : a.eval s = .slice base 0 0) (hx : a.eval x = .slice fa fs.length fc) (hn : fs.length ≤ 1048576) (hf : FieldsIn w lo hi fa fs)
    (h : ∀ na nc w', FieldsNew w' w.heap.size w'.heap.size na fs → Below w.heap.size w w' → K (a.put o.dst (.slice na fs.length nc)) w') : o.wp Tryd.prog a w K Q := by
  obtain ⟨na, nc, w', hr, h2, h3⟩ := run_append_copy o.type base hbase fa fc lo hi fs w hn hf
  unfold Oper.wp execOp
  simp only [ho, resolve, invoke, builtin, Sem.run_bind, Sem.run_pure, Result.andThen_ok, List.map_toArray, List.map_cons, List.map_nil, hs, hx, hr]
  exact h na nc w' h2 h3

theorem wpList_append_copy {ops : Array Oper} {rest : List Oper} {o : Oper} {a : Act} {Q : Exit → Act → World → Prop} (w : World) (hgd : o.guard = none) (s x : Operand)
    (ho : o.op = .call { callee := .builtin .append, args := #[s, x], argTypes := #[26, 26] })
    (base : Option Addr) (hbase : base = none ∨ ∃ B, base = some ⟨B, 0, none⟩) (fa : Option Addr) (fc lo hi : Nat) (fs : List Fd) (hs : a.eval s = .slice base 0 0) (hx : a.eval x = .slice fa fs.length fc) (hn : fs.length ≤ 1048576) (hf : FieldsIn w lo hi fa fs)
    (h : ∀ na nc w', FieldsNew w' w.heap.size w'.heap.size na fs → Below w.heap.size w w' → wpList Tryd.prog ops Q rest (a.put o.dst (.slice na fs.length nc)) w') : wpList Tryd.prog ops Q (o :: rest) a w :=
  wpList_plain hgd fun _ hK => wp_append_copy w s x ho base hbase fa fc lo hi fs hs hx hn hf fun na nc w' h2 h3 => hK _ _ (h na nc w' h2 h3)

theorem step_append_copy {ops : Array Oper} {o : Oper} {a : Act} {K : Act → World → Prop} {Q : Exit → Act → World → Prop} {E : Prop} (w : World) (hgd : o.guard = none) (s x : Operand)
    (ho : o.op = .call { callee := .builtin .append, args := #[s, x], argTypes := #[26, 26] })
    (base : Option Addr) (hbase : base = none ∨ ∃ B, base = some ⟨B, 0, none⟩) (fa : Option Addr) (fc lo hi : Nat) (fs : List Fd) (hs : a.eval s = .slice base 0 0) (hx : a.eval x = .slice fa fs.length fc) (hn : fs.length ≤ 1048576) (hf : FieldsIn w lo hi fa fs)
    (h : ∀ na nc w', FieldsNew w' w.heap.size w'.heap.size na fs → Below w.heap.size w w' → K (a.put o.dst (.slice na fs.length nc)) w') :
    if Region.wanted o (yielded ops a.tmps) = true then Oper.wp Tryd.prog o a w K Q else E := by
  have hw : Region.wanted o (yielded ops a.tmps) = true := by simp [Region.wanted, hgd]
  rw [if_pos hw]
  exact wp_append_copy w s x ho base hbase fa fc lo hi fs hs hx hn hf h
end Go.Proofs.YtejkebfhiddhmaaDoor

/- l1Copy of the model: a type in new memory. -/
namespace Go.Proofs.YtejkebfhiddhmaaDoor
open Go.ChangeShapes Go.WideShapes Go.ChangeAt Go.RowKit
set_option linter.unusedVariables false

theorem Same.frozen {lo hi : Nat} {w w' : World} (h : Same lo hi w w') {b o : Nat} (h1 : lo ≤ b) (h2 : b < hi) : w'.frozen? ⟨b, o, none⟩ = w.frozen? ⟨b, o, none⟩ :=
  World.frozen?_of_block (w := w) (a := ⟨b, o, none⟩) (h b h1 h2)

theorem copy_world (w : World) (cs zs : Array Value) (t t' e : TypeId) (w1 : World) (hb : Below ((((w.alloc (.cells cs t)).alloc (.cells zs t')).alloc (.cells #[] e)).drew).heap.size ((((w.alloc (.cells cs t)).alloc (.cells zs t')).alloc (.cells #[] e)).drew) w1) :
    (∀ i, w1.cell? ⟨w.heap.size, i, none⟩ = cs[i]?) ∧ (∀ i, w1.cell? ⟨w.heap.size + 1, i, none⟩ = zs[i]?) ∧ (∀ i, w1.frozen? ⟨w.heap.size + 1, i, none⟩ = false) ∧ w.heap.size + 1 + 1 < w1.heap.size := by
  have hs := hb.size
  simp at hs
  have s1 : (w.alloc (.cells cs t)).heap.size = w.heap.size + 1 := by simp
  have s2 : ((w.alloc (.cells cs t)).alloc (.cells zs t')).heap.size = w.heap.size + 1 + 1 := by simp
  have s3 : ((((w.alloc (.cells cs t)).alloc (.cells zs t')).alloc (.cells #[] e)).drew).heap.size = w.heap.size + 1 + 1 + 1 := by simp
  have b0 : w1.heap[w.heap.size]? = some (.cells cs t (0, 0)) := by
    rw [hb.block _ (by omega)]
    show (((w.alloc (.cells cs t)).alloc (.cells zs t')).alloc (.cells #[] e)).heap[w.heap.size]? = _
    rw [Below.heap_alloc _ _ _ (by omega), Below.heap_alloc _ _ _ (by omega), Deep.blk_alloc_new]
  have b1 : w1.heap[w.heap.size + 1]? = some (.cells zs t' (0, 0)) := by
    rw [hb.block _ (by omega)]
    show (((w.alloc (.cells cs t)).alloc (.cells zs t')).alloc (.cells #[] e)).heap[w.heap.size + 1]? = _
    rw [Below.heap_alloc _ _ _ (by omega)]
    have := Deep.blk_alloc_new (w.alloc (.cells cs t)) (.cells zs t')
    rwa [s1] at this
  refine ⟨fun i => ?_, fun i => ?_, fun i => ?_, by omega⟩
  · simp only [World.cell?, b0]; simp
  · simp only [World.cell?, b1]; simp
  · simp only [World.frozen?, b1]; simp

set_option maxHeartbeats 400000 in
theorem l1Copy_any (fa : Option Addr) (fc lo hi : Nat) (t : Ty) (w : World) (hn : t.fields.length ≤ 1048576) (hx : FieldsIn w lo hi fa t.fields) (hh : hi ≤ w.heap.size) :
    Calls Tryd.prog 47 #[.agg #[.int .i64 t.kind, .int .i64 t.up, .bool t.last, .slice fa t.fields.length fc]] w fun e w' => ∃ na nc, e = .returned (.agg #[.int .i64 t.kind, .int .i64 t.up, .bool t.last, .slice na t.fields.length nc]) ∧ FieldsNew w' w.heap.size w'.heap.size na t.fields ∧ Below w.heap.size w w' := by
  have b0 : Hid (Below w.heap.size w ((((w.alloc (.cells #[.int .i64 t.kind, .int .i64 t.up, .bool t.last, .slice fa t.fields.length fc] 28)).alloc (.cells #[.int .i64 0, .int .i64 0, .bool false, .slice none 0 0] 28)).alloc (.cells #[] 35)).drew)) :=
    ((((Below.refl _ _).alloc (Nat.le_refl _) _).alloc (by simp) _).alloc (by simp; omega) _).drew
  go_enter Tryd.func47, Tryd.ntmps47
  go_wp2_with fail
  go_region_held3 (fun w' => w'.cell? ⟨w.heap.size, 0, none⟩ = some (.int .i64 t.kind) ∧ w'.cell? ⟨w.heap.size, 1, none⟩ = some (.int .i64 t.up) ∧ w'.cell? ⟨w.heap.size, 2, none⟩ = some (.bool t.last) ∧ w'.cell? ⟨w.heap.size, 3, none⟩ = some (.slice fa t.fields.length fc)) (go_keep)
    ((refine step_append_copy _ (by rfl) _ _ (by rfl) (some ⟨w.heap.size + 1 + 1, 0, none⟩) (.inr ⟨_, rfl⟩) fa fc lo hi t.fields (by rfl) (by rfl) hn (hx.keep (b0.out.mono hh)) ?_; intro na nc w1 hf1 hb1; obtain ⟨q0, q1, q2, q3⟩ := copy_world w _ _ _ _ _ w1 hb1))
  go_wp2_with fail
  refine bodyPost_ret (v := .agg #[.int .i64 t.kind, .int .i64 t.up, .bool t.last, .slice na t.fields.length nc]) (by simp [results, Tryd.results47, go_sem, q1]) rfl ⟨na, nc, rfl, ?_, ?_⟩
  · have hf2 := hf1
    have s3 : ((((w.alloc (.cells #[.int .i64 t.kind, .int .i64 t.up, .bool t.last, .slice fa t.fields.length fc] 28)).alloc (.cells #[.int .i64 0, .int .i64 0, .bool false, .slice none 0 0] 28)).alloc (.cells #[] 35)).drew).heap.size = w.heap.size + 1 + 1 + 1 := by simp
    rw [s3] at hf2
    refine hf2.same (((((Same.refl _ _ _).set ?_ _ _).set ?_ _ _).set ?_ _ _).set ?_ _ _) (by omega) (by simp) <;> omega
  · exact ((((b0.out.trans (hb1.mono (by simp; omega))).setCell (by simp) _).setCell (by simp) _).setCell (by simp) _).setCell (by simp) _

end Go.Proofs.YtejkebfhiddhmaaDoor
