/- PaOne: Base, GenRoot, Mem, FieldOk0, To0, FieldOk, To, Sz, Eq, Open. -/
import Derived.Test.YtembifoimiochaaGreatDoorRows
import Derived.WalkKit
import Derived.ProofKit
import Derived.OpenShut
import Derived.Below
import Derived.WalkSpells
import Derived.WalkLawsBesides
import Derived.Lib.SmallJoins
import Derived.Deep.OwnRows
import Derived.Deep.LoopGhost
import Derived.Deep.QuietTactic
import Derived.BigQuiet
import Derived.WalkSmall
import Derived.Handy
import Derived.Deep.RegionHeld3
import Derived.Deep.Slices
import Derived.Deep.Strs
namespace Go.Proofs.YtembifoimiochaaGreatDoor
open Go.ChangeShapes Go.WideShapes Go.ChangeAt Go.RowKit
theorem ret_bool {a b : Bool} (h : a = b) : Ending.returned (.bool a) = .returned (.bool b) := by rw [h]
theorem ret_int {k : IntKind} {a b : Int} (h : a = b) : Ending.returned (.int k a) = .returned (.int k b) := by rw [h]
theorem bcell {W w1 : World} (hb : Below W.heap.size W w1) : (∀ b o, b < W.heap.size → w1.cell? ⟨b, o, none⟩ = W.cell? ⟨b, o, none⟩) ∧ (∀ b o, b < W.heap.size → w1.frozen? ⟨b, o, none⟩ = W.frozen? ⟨b, o, none⟩) :=
 ⟨fun b o h => hb.cell (p := ⟨b, o, none⟩) h, fun b o h => hb.frozen (p := ⟨b, o, none⟩) h⟩
theorem hide {p : Prop} (h : p) : Hid p := h
theorem cell_lt {w : World} {a : Addr} {v : Value} (h : w.cell? a = some v) : a.block < w.heap.size := by
 by_cases hlt : a.block < w.heap.size
 ·exact hlt
 ·have hn : w.heap[a.block]? = none := Array.getElem?_eq_none_iff.2 (by omega)
  simp [World.cell?, hn] at h
theorem Tryz.own : ownKnob Tryz.prog.godebug = none := by kernel_rfl
theorem Tryz.laidOut : laidOutB Tryz.prog = true := by kernel_rfl
end Go.Proofs.YtembifoimiochaaGreatDoor
namespace Go.Proofs.YtembifoimiochaaGreatDoor
open Go.ChangeShapes Go.WideShapes Go.ChangeAt Go.RowKit Go.Joins Go.Deep
set_option linter.unusedVariables false
def Same (lo hi : Nat) (w w' : World) : Prop := ∀ k, lo ≤ k → k < hi → w'.heap[k]? = w.heap[k]?
theorem Same.cell {lo hi : Nat} {w w' : World} (h : Same lo hi w w') {b o : Nat} (h1 : lo ≤ b) (h2 : b < hi) : w'.cell? ⟨b, o, none⟩ = w.cell? ⟨b, o, none⟩ :=
 World.cell?_of_block (w := w) (h b h1 h2)
theorem Same.of_below {lo hi B : Nat} {w w' : World} (h : Below B w w') (hB : hi ≤ B) : Same lo hi w w' := fun k _ hk => h.block k (by omega)
theorem Same.sub {lo hi lo' hi' : Nat} {w w' : World} (h : Same lo hi w w') (h1 : lo ≤ lo') (h2 : hi' ≤ hi) : Same lo' hi' w w' := fun k a b => h k (by omega) (by omega)
theorem Same.refl (lo hi : Nat) (w : World) : Same lo hi w w := fun _ _ _ => rfl
theorem Same.trans {lo hi : Nat} {w w' w'' : World} (h : Same lo hi w w') (k : Same lo hi w' w'') : Same lo hi w w'' := fun i a b => (k i a b).trans (h i a b)
theorem Same.set {lo hi : Nat} {w w' : World} (h : Same lo hi w w') {b : Nat} (hb : b < lo ∨ hi ≤ b) (o : Nat) (v : Value) : Same lo hi w (w'.setCell ⟨b, o, none⟩ v) := fun k a c => by
 rw [Below.heap_setCell _ _ _ _ (show k ≠ b by omega)]
 exact h k a c
theorem run_make_any {P : Program} (t e : TypeId) (z : Value) (size bytes : Nat) (ht : P.underlying t = some (.slice e)) (hinfo : (P.info? e).map (fun i => (i.zero, i.size, i.bytes)) = some (some z, size, bytes))
  (n : Nat) (hbytes : bytes * n ≤ 281474976710656) (h63 : n ≤ 9223372036854775807) (w : World) :
  (Instr.makeSlice t (.int .i64 (n : Int)) (.int .i64 (n : Int))).run P w = .ok (.slice (some ⟨w.heap.size, 0, none⟩) n n) (w.alloc (.cells (madeCells z.cells (n * size)) e)) := by
 obtain ⟨i, hi, hzz⟩ := Option.map_eq_some_iff.1 hinfo
 simp only [Prod.mk.injEq] at hzz
 obtain ⟨hz, hs, hb⟩ := hzz
 have hb' : (i.bytes : Int) * (n : Int) ≤ 281474976710656 := by
  rw [hb]
  have h : ((bytes * n : Nat) : Int) ≤ 281474976710656 := by omega
  rwa [Int.natCast_mul] at h
 have hr := run_make (P := P) w t e i z ht hi hz .i64 .i64 n n (by omega) (Int.le_refl _) hb' (by omega)
 simp only [Int.toNat_natCast, hs] at hr
 exact hr
def Own (w : World) (b n : Nat) (T : TypeId) : Prop := ∃ c, w.heap[b]? = some (.cells c T (0, 0)) ∧ c.size = n
theorem Own.lt {w : World} {b n : Nat} {T : TypeId} (h : Own w b n T) : b < w.heap.size := by
 obtain ⟨c, hb, _⟩ := h
 exact (Array.getElem?_eq_some_iff.1 hb).1
theorem Own.cell {w : World} {b n : Nat} {T : TypeId} (h : Own w b n T) {o : Nat} (ho : o < n) : ∃ v, w.cell? ⟨b, o, none⟩ = some v := by
 obtain ⟨c, hb, hs⟩ := h
 exact ⟨c[o]'(by omega), by simp [World.cell?, hb, hs, ho]⟩
theorem Own.frozen {w : World} {b n : Nat} {T : TypeId} (h : Own w b n T) (o : Nat) : w.frozen? ⟨b, o, none⟩ = false := by
 obtain ⟨c, hb, _⟩ := h
 simp [World.frozen?, hb]
theorem Own.of_block {w w' : World} {b n : Nat} {T : TypeId} (h : Own w b n T) (e : w'.heap[b]? = w.heap[b]?) : Own w' b n T := by
 obtain ⟨c, hb, hs⟩ := h
 exact ⟨c, e.trans hb, hs⟩
theorem Own.below {w w' : World} {b n B : Nat} {T : TypeId} (h : Own w b n T) (hb : Below B w w') (hB : b < B) : Own w' b n T := h.of_block (hb.block b hB)
theorem Own.set {w : World} {b n : Nat} {T : TypeId} (h : Own w b n T) (b' o : Nat) (v : Value) : Own (w.setCell ⟨b', o, none⟩ v) b n T := by
 by_cases e : b = b'
 ·obtain ⟨c, hb, hs⟩ := h
  subst e
  refine ⟨c.setIfInBounds o v, ?_, by simpa using hs⟩
  simp [World.setCell, Array.getElem?_modify, hb]
 ·exact h.of_block (Below.heap_setCell _ _ _ _ e)
theorem Own.cell_set {w : World} {b n : Nat} {T : TypeId} (h : Own w b n T) {o : Nat} (ho : o < n) (v : Value) (o' : Nat) : (w.setCell ⟨b, o, none⟩ v).cell? ⟨b, o', none⟩ = if o' = o then some v else w.cell? ⟨b, o', none⟩ := by
 obtain ⟨c, hb, hs⟩ := h
 have e : (w.setCell ⟨b, o, none⟩ v).heap[b]? = some (.cells (c.setIfInBounds o v) T (0, 0)) := by
  simp [World.setCell, Array.getElem?_modify, hb]
 simp only [World.cell?, e, hb]
 simp only [Option.isSome_none, Bool.false_eq_true, if_false]
 rw [Array.getElem?_setIfInBounds]
 by_cases e1 : o' = o
 ·subst e1; simp [hs, ho]
 ·rw [if_neg (fun h => e1 h.symm), if_neg e1]
theorem Below.al {B : Nat} {w w' : World} (h : Below B w w') (hB : B ≤ w.heap.size) (o : Obj) : Below B w (w'.alloc o) := h.alloc (Nat.le_trans hB h.size) o
theorem Own.made (w : World) (z : Array Value) (n : Nat) (t : TypeId) : Own (w.alloc (.cells (madeCells z n) t)) w.heap.size n t :=
 ⟨_, Deep.blk_alloc_new _ _, size_madeCells _ _⟩
def Rec (w : World) (b : Nat) (T : TypeId) (vs : List Value) : Prop := w.heap[b]? = some (.cells vs.toArray T (0, 0))
theorem Rec.lt {w : World} {b : Nat} {T : TypeId} {vs : List Value} (h : Rec w b T vs) : b < w.heap.size := (Array.getElem?_eq_some_iff.1 h).1
theorem Rec.cell {w : World} {b : Nat} {T : TypeId} {vs : List Value} (h : Rec w b T vs) {o : Nat} {v : Value} (hv : vs[o]? = some v) : w.cell? ⟨b, o, none⟩ = some v := by
 unfold Rec at h
 simp [World.cell?, h, hv]
theorem Rec.frozen {w : World} {b : Nat} {T : TypeId} {vs : List Value} (h : Rec w b T vs) (o : Nat) : w.frozen? ⟨b, o, none⟩ = false := by
 unfold Rec at h
 simp [World.frozen?, h]
theorem Rec.set {w : World} {b : Nat} {T : TypeId} {vs : List Value} (h : Rec w b T vs) (o : Nat) (v : Value) : Rec (w.setCell ⟨b, o, none⟩ v) b T (vs.set o v) := by
 unfold Rec at *
 simp [World.setCell, Array.getElem?_modify, h]
theorem Rec.other {w : World} {b b' : Nat} {T : TypeId} {vs : List Value} (h : Rec w b T vs) (hb : b ≠ b') (o : Nat) (v : Value) : Rec (w.setCell ⟨b', o, none⟩ v) b T vs :=
 (Below.heap_setCell _ _ _ _ hb).trans h
theorem Rec.below {w w' : World} {b B : Nat} {T : TypeId} {vs : List Value} (h : Rec w b T vs) (hb : Below B w w') (hB : b < B) : Rec w' b T vs := (hb.block b hB).trans h
theorem Rec.new (w : World) (T : TypeId) (vs : List Value) : Rec (w.alloc (.cells vs.toArray T)) w.heap.size T vs := Deep.blk_alloc_new _ _
theorem Rec.new' (w : World) (T : TypeId) (vs : List Value) (b : Nat) (hb : b = w.heap.size) : Rec (w.alloc (.cells vs.toArray T)) b T vs := hb ▸ Rec.new w T vs
theorem Rec.alloc {w : World} {b : Nat} {T : TypeId} {vs : List Value} (h : Rec w b T vs) (o : Obj) : Rec (w.alloc o) b T vs := by
 have := ((Below.refl w.heap.size w).alloc (Nat.le_refl _) o).block b h.lt
 exact this.trans h
theorem list_of {α : Type} (d : α) {n : Nat} {p : Nat → α → Prop} (h : ∀ i, i < n → ∃ x, p i x) : ∃ l : List α, l.length = n ∧ ∀ i, i < n → p i (l.getD i d) := by
 induction n with
 | zero => exact ⟨[], rfl, fun i hi => absurd hi (Nat.not_lt_zero _)⟩
 | succ n ih =>
  obtain ⟨l, hl, hp⟩ := ih (fun i hi => h i (by omega))
  obtain ⟨x, hx⟩ := h n (by omega)
  refine ⟨l ++ [x], by simp [hl], fun i hi => ?_⟩
  by_cases e : i = n
  ·subst e
   simpa [List.getD, ← hl] using hx
  ·have := hp i (by omega)
   simpa [List.getD, List.getElem?_append_left (show i < l.length by omega)] using this
theorem add_none {w : World} {b off : Nat} {spot : Option Nat} {k : Nat} {v : Value} (h : w.cell? ((⟨b, off, spot⟩ : Addr).add k) = some v) (h0 : spot = none) : w.cell? ⟨b, off + k, none⟩ = some v := by
 subst h0
 rwa [add_plain] at h
theorem head_plain {w : World} {base b off n k : Nat} {spot : Option Nat} {cs : List Value} (h : w.cells? base ((⟨b, off, spot⟩ : Addr).add (0 * k)) n = some cs) (hn : 0 < n) : spot = none ∧ b < w.heap.size := by
 obtain ⟨_, hlen, hcell⟩ := World.cells?_some h
 have e := hcell 0 hn
 have e' : w.cell? ⟨b, off, spot⟩ = some (cs[0]'(by omega)) := by
  rw [List.getElem?_eq_getElem (by omega)] at e
  simpa [Addr.add] using e
 exact ⟨by simpa using World.cell?_spot e', cell_lt e'⟩
end Go.Proofs.YtembifoimiochaaGreatDoor
namespace Go.Proofs.YtembifoimiochaaGreatDoor
open Go.ChangeShapes Go.WideShapes Go.ChangeAt Go.RowKit
set_option linter.unusedVariables false
structure Fd where
 kind : Int
 of : Int
 mt : Bool
structure Ty where
 kind : Int
 up : Int
 last : Bool
 fields : List Fd
def fdAt (l : List Fd) (i : Nat) : Fd := l.getD i ⟨0, 0, false⟩
def tyAt (l : List Ty) (i : Nat) : Ty := l.getD i ⟨0, 0, false, []⟩
def grAt (l : List (List Ty)) (i : Nat) : List Ty := l.getD i []
def FieldAt (w : World) (b o : Nat) (f : Fd) : Prop :=
 w.cell? ⟨b, o, none⟩ = some (.int .i64 f.kind) ∧ w.cell? ⟨b, o + 1, none⟩ = some (.int .i64 f.of) ∧ w.cell? ⟨b, o + 2, none⟩ = some (.bool f.mt)
def FieldsIn (w : World) (lo hi : Nat) (a : Option Addr) (fs : List Fd) : Prop :=
 fs = [] ∨ ∃ b off, a = some ⟨b, off, none⟩ ∧ lo ≤ b ∧ b < hi ∧ ∀ i, i < fs.length → FieldAt w b (off + i * 3) (fdAt fs i)
def TypeAt (w : World) (lo hi : Nat) (b o : Nat) (t : Ty) : Prop :=
 w.cell? ⟨b, o, none⟩ = some (.int .i64 t.kind) ∧ w.cell? ⟨b, o + 1, none⟩ = some (.int .i64 t.up) ∧ w.cell? ⟨b, o + 2, none⟩ = some (.bool t.last) ∧
 ∃ fa fc, w.cell? ⟨b, o + 3, none⟩ = some (.slice fa t.fields.length fc) ∧ FieldsIn w lo hi fa t.fields
def TypesIn (w : World) (lo hi : Nat) (a : Option Addr) (ts : List Ty) : Prop :=
 ts = [] ∨ ∃ b off, a = some ⟨b, off, none⟩ ∧ lo ≤ b ∧ b < hi ∧ ∀ i, i < ts.length → TypeAt w lo hi b (off + i * 4) (tyAt ts i)
def GroupsIn (w : World) (lo hi : Nat) (a : Option Addr) (gs : List (List Ty)) : Prop :=
 gs = [] ∨ ∃ b off, a = some ⟨b, off, none⟩ ∧ lo ≤ b ∧ b < hi ∧ ∀ i, i < gs.length →
  ∃ ta tc, w.cell? ⟨b, off + i, none⟩ = some (.slice ta (grAt gs i).length tc) ∧ TypesIn w lo hi ta (grAt gs i)
theorem FieldAt.same {lo hi : Nat} {w w' : World} {b o : Nat} {f : Fd} (h : FieldAt w b o f) (hs : Same lo hi w w') (h1 : lo ≤ b) (h2 : b < hi) : FieldAt w' b o f := by
 unfold FieldAt at *
 rw [hs.cell h1 h2, hs.cell h1 h2, hs.cell h1 h2]
 exact h
theorem FieldsIn.same {lo hi lo' hi' : Nat} {w w' : World} {a : Option Addr} {fs : List Fd} (h : FieldsIn w lo hi a fs) (hs : Same lo hi w w') (h1 : lo' ≤ lo) (h2 : hi ≤ hi') : FieldsIn w' lo' hi' a fs := by
 rcases h with rfl | ⟨b, off, rfl, h3, h4, h5⟩
 ·exact .inl rfl
 ·exact .inr ⟨b, off, rfl, by omega, by omega, fun i hi => (h5 i hi).same hs h3 h4⟩
theorem TypeAt.same {lo hi lo' hi' : Nat} {w w' : World} {b o : Nat} {t : Ty} (h : TypeAt w lo hi b o t) (hs : Same lo hi w w') (h1 : lo' ≤ lo) (h2 : hi ≤ hi') (h3 : lo ≤ b) (h4 : b < hi) : TypeAt w' lo' hi' b o t := by
 obtain ⟨c0, c1, c2, fa, fc, c3, hf⟩ := h
 refine ⟨?_, ?_, ?_, fa, fc, ?_, hf.same hs h1 h2⟩ <;> rw [hs.cell h3 h4] <;> assumption
theorem TypesIn.same {lo hi lo' hi' : Nat} {w w' : World} {a : Option Addr} {ts : List Ty} (h : TypesIn w lo hi a ts) (hs : Same lo hi w w') (h1 : lo' ≤ lo) (h2 : hi ≤ hi') : TypesIn w' lo' hi' a ts := by
 rcases h with rfl | ⟨b, off, rfl, h3, h4, h5⟩
 ·exact .inl rfl
 ·exact .inr ⟨b, off, rfl, by omega, by omega, fun i hi => (h5 i hi).same hs h1 h2 h3 h4⟩
theorem GroupsIn.same {lo hi lo' hi' : Nat} {w w' : World} {a : Option Addr} {gs : List (List Ty)} (h : GroupsIn w lo hi a gs) (hs : Same lo hi w w') (h1 : lo' ≤ lo) (h2 : hi ≤ hi') : GroupsIn w' lo' hi' a gs := by
 rcases h with rfl | ⟨b, off, rfl, h3, h4, h5⟩
 ·exact .inl rfl
 ·refine .inr ⟨b, off, rfl, by omega, by omega, fun i hi => ?_⟩
  obtain ⟨ta, tc, hc, ht⟩ := h5 i hi
  exact ⟨ta, tc, by rw [hs.cell h3 h4]; exact hc, ht.same hs h1 h2⟩
theorem FieldsIn.keep {lo hi : Nat} {w w' : World} {a : Option Addr} {fs : List Fd} (h : FieldsIn w lo hi a fs) (hb : Below hi w w') : FieldsIn w' lo hi a fs := h.same (.of_below hb (Nat.le_refl _)) (Nat.le_refl _) (Nat.le_refl _)
theorem TypeAt.keep {lo hi : Nat} {w w' : World} {b o : Nat} {t : Ty} (h : TypeAt w lo hi b o t) (hb : Below hi w w') (h3 : lo ≤ b) (h4 : b < hi) : TypeAt w' lo hi b o t := h.same (.of_below hb (Nat.le_refl _)) (Nat.le_refl _) (Nat.le_refl _) h3 h4
theorem TypesIn.keep {lo hi : Nat} {w w' : World} {a : Option Addr} {ts : List Ty} (h : TypesIn w lo hi a ts) (hb : Below hi w w') : TypesIn w' lo hi a ts := h.same (.of_below hb (Nat.le_refl _)) (Nat.le_refl _) (Nat.le_refl _)
theorem GroupsIn.keep {lo hi : Nat} {w w' : World} {a : Option Addr} {gs : List (List Ty)} (h : GroupsIn w lo hi a gs) (hb : Below hi w w') : GroupsIn w' lo hi a gs := h.same (.of_below hb (Nat.le_refl _)) (Nat.le_refl _) (Nat.le_refl _)
theorem FieldsIn.wide {lo hi lo' hi' : Nat} {w : World} {a : Option Addr} {fs : List Fd} (h : FieldsIn w lo hi a fs) (h1 : lo' ≤ lo) (h2 : hi ≤ hi') : FieldsIn w lo' hi' a fs := h.same (fun _ _ _ => rfl) h1 h2
theorem TypesIn.wide {lo hi lo' hi' : Nat} {w : World} {a : Option Addr} {ts : List Ty} (h : TypesIn w lo hi a ts) (h1 : lo' ≤ lo) (h2 : hi ≤ hi') : TypesIn w lo' hi' a ts := h.same (fun _ _ _ => rfl) h1 h2
theorem GroupsIn.wide {lo hi lo' hi' : Nat} {w : World} {a : Option Addr} {gs : List (List Ty)} (h : GroupsIn w lo hi a gs) (h1 : lo' ≤ lo) (h2 : hi ≤ hi') : GroupsIn w lo' hi' a gs := h.same (fun _ _ _ => rfl) h1 h2
def fieldOk (k o n : Int) : Bool :=
 if k = 1 then decide (o = 0) else if k = 2 ∨ k = 3 then decide (o = -1 ∨ o = -2 ∨ (0 ≤ o ∧ o < n)) else false
set_option maxHeartbeats 400000 in
theorem specFieldOk_any (k o n : Int) (m : Bool) (w : World) :
  Calls Tryz.prog 92 #[.agg #[.int .i64 k, .int .i64 o, .bool m], .int .i64 n] w fun e w' => e = .returned (.bool (fieldOk k o n)) ∧ Below w.heap.size w w' := by
 go_enter Tryz.func92, Tryz.ntmps92
 go_wp2
 all_goals go_ret
 all_goals refine ⟨ret_bool ?_, (Below.refl _ _).alloc (Nat.le_refl _) _⟩
 all_goals (rw [Bool.eq_iff_iff]; simp_all [fieldOk] <;> omega)
set_option maxHeartbeats 400000 in
theorem implFieldOk_any (k o n : Int) (m : Bool) (w : World) :
  Calls Tryz.prog 87 #[.agg #[.int .i64 k, .int .i64 o, .bool m], .int .i64 n] w fun e w' => e = .returned (.bool (fieldOk k o n)) ∧ Below w.heap.size w w' := by
 go_enter Tryz.func87, Tryz.ntmps87
 go_wp2
 all_goals go_ret
 all_goals refine ⟨ret_bool ?_, (Below.refl _ _).alloc (Nat.le_refl _) _⟩
 all_goals (rw [Bool.eq_iff_iff]; simp_all [fieldOk] <;> omega)
theorem Tryz.infoField : (Tryz.prog.info? 70).map (fun i => (i.zero, i.size, i.bytes)) = some (some (.agg #[.int .i64 0, .int .i64 0, .bool false]), 3, 24) := by kernel_rfl
theorem Tryz.infoType : (Tryz.prog.info? 76).map (fun i => (i.zero, i.size, i.bytes)) = some (some (.agg #[.int .i64 0, .int .i64 0, .bool false, .slice none 0 0]), 4, 48) := by kernel_rfl
theorem Tryz.infoTypeS : (Tryz.prog.info? 45).map (fun i => (i.zero, i.size, i.bytes)) = some (some (.slice none 0 0), 1, 24) := by kernel_rfl
def FSh (w : World) (lo hi : Nat) (a : Option Addr) (n : Nat) : Prop := n = 0 ∨ ∃ b m, a = some ⟨b, 0, none⟩ ∧ lo ≤ b ∧ b < hi ∧ Own w b m 70 ∧ n * 3 ≤ m
def FieldsNew (w : World) (lo hi : Nat) (a : Option Addr) (fs : List Fd) : Prop := FieldsIn w lo hi a fs ∧ FSh w lo hi a fs.length
def TypeNew (w : World) (lo hi : Nat) (b o : Nat) (t : Ty) : Prop :=
 w.cell? ⟨b, o, none⟩ = some (.int .i64 t.kind) ∧ w.cell? ⟨b, o + 1, none⟩ = some (.int .i64 t.up) ∧ w.cell? ⟨b, o + 2, none⟩ = some (.bool t.last) ∧
 ∃ fa fc, w.cell? ⟨b, o + 3, none⟩ = some (.slice fa t.fields.length fc) ∧ FieldsNew w lo hi fa t.fields
def TypesNew (w : World) (lo hi : Nat) (a : Option Addr) (ts : List Ty) : Prop :=
 ts = [] ∨ ∃ b, a = some ⟨b, 0, none⟩ ∧ lo ≤ b ∧ b < hi ∧ Own w b (ts.length * 4) 76 ∧ ∀ i, i < ts.length → TypeNew w lo hi b (i * 4) (tyAt ts i)
def GroupNew (w : World) (lo hi : Nat) (b o : Nat) (g : List Ty) : Prop := ∃ ta tc, w.cell? ⟨b, o, none⟩ = some (.slice ta g.length tc) ∧ TypesNew w lo hi ta g
def GroupsNew (w : World) (lo hi : Nat) (a : Option Addr) (gs : List (List Ty)) : Prop :=
 gs = [] ∨ ∃ b, a = some ⟨b, 0, none⟩ ∧ lo ≤ b ∧ b < hi ∧ Own w b gs.length 45 ∧ ∀ i, i < gs.length → GroupNew w lo hi b i (grAt gs i)
theorem FSh.same {lo hi lo' hi' n : Nat} {w w' : World} {a : Option Addr} (h : FSh w lo hi a n) (hs : Same lo hi w w') (h1 : lo' ≤ lo) (h2 : hi ≤ hi') : FSh w' lo' hi' a n := by
 rcases h with h | ⟨b, m, rfl, h3, h4, h5, h6⟩
 ·exact .inl h
 ·exact .inr ⟨b, m, rfl, by omega, by omega, h5.of_block (hs b h3 h4), h6⟩
theorem FieldsNew.same {lo hi lo' hi' : Nat} {w w' : World} {a : Option Addr} {fs : List Fd} (h : FieldsNew w lo hi a fs) (hs : Same lo hi w w') (h1 : lo' ≤ lo) (h2 : hi ≤ hi') : FieldsNew w' lo' hi' a fs :=
 ⟨h.1.same hs h1 h2, h.2.same hs h1 h2⟩
theorem FieldsNew.wide {lo hi lo' hi' : Nat} {w : World} {a : Option Addr} {fs : List Fd} (h : FieldsNew w lo hi a fs) (h1 : lo' ≤ lo) (h2 : hi ≤ hi') : FieldsNew w lo' hi' a fs := h.same (Same.refl _ _ _) h1 h2
theorem TypeNew.same {lo hi lo' hi' : Nat} {w w' : World} {b o : Nat} {t : Ty} (h : TypeNew w lo hi b o t) (hs : Same lo hi w w') (h1 : lo' ≤ lo) (h2 : hi ≤ hi') (h3 : lo ≤ b) (h4 : b < hi) : TypeNew w' lo' hi' b o t := by
 obtain ⟨c0, c1, c2, fa, fc, c3, hf⟩ := h
 refine ⟨?_, ?_, ?_, fa, fc, ?_, hf.same hs h1 h2⟩ <;> rw [hs.cell h3 h4] <;> assumption
theorem TypesNew.same {lo hi lo' hi' : Nat} {w w' : World} {a : Option Addr} {ts : List Ty} (h : TypesNew w lo hi a ts) (hs : Same lo hi w w') (h1 : lo' ≤ lo) (h2 : hi ≤ hi') : TypesNew w' lo' hi' a ts := by
 rcases h with rfl | ⟨b, rfl, h3, h4, h5, h6⟩
 ·exact .inl rfl
 ·exact .inr ⟨b, rfl, by omega, by omega, h5.of_block (hs b h3 h4), fun i hi => (h6 i hi).same hs h1 h2 h3 h4⟩
theorem TypesNew.wide {lo hi lo' hi' : Nat} {w : World} {a : Option Addr} {ts : List Ty} (h : TypesNew w lo hi a ts) (h1 : lo' ≤ lo) (h2 : hi ≤ hi') : TypesNew w lo' hi' a ts := h.same (Same.refl _ _ _) h1 h2
theorem GroupsNew.same {lo hi lo' hi' : Nat} {w w' : World} {a : Option Addr} {gs : List (List Ty)} (h : GroupsNew w lo hi a gs) (hs : Same lo hi w w') (h1 : lo' ≤ lo) (h2 : hi ≤ hi') : GroupsNew w' lo' hi' a gs := by
 rcases h with rfl | ⟨b, rfl, h3, h4, h5, h6⟩
 ·exact .inl rfl
 ·refine .inr ⟨b, rfl, by omega, by omega, h5.of_block (hs b h3 h4), fun i hi => ?_⟩
  obtain ⟨ta, tc, hc, ht⟩ := h6 i hi
  exact ⟨ta, tc, by rw [hs.cell h3 h4]; exact hc, ht.same hs h1 h2⟩
theorem GroupsNew.keep {lo hi : Nat} {w w' : World} {a : Option Addr} {gs : List (List Ty)} (h : GroupsNew w lo hi a gs) (hb : Below hi w w') : GroupsNew w' lo hi a gs := h.same (.of_below hb (Nat.le_refl _)) (Nat.le_refl _) (Nat.le_refl _)
theorem TypesNew.plain {lo hi : Nat} {w : World} {a : Option Addr} {ts : List Ty} (h : TypesNew w lo hi a ts) : TypesIn w lo hi a ts := by
 rcases h with rfl | ⟨b, rfl, h3, h4, _, h6⟩
 ·exact .inl rfl
 ·refine .inr ⟨b, 0, rfl, h3, h4, fun i hi => ?_⟩
  obtain ⟨c0, c1, c2, fa, fc, c3, hf⟩ := h6 i hi
  rw [Nat.zero_add]
  exact ⟨c0, c1, c2, fa, fc, c3, hf.1⟩
theorem GroupsNew.plain {lo hi : Nat} {w : World} {a : Option Addr} {gs : List (List Ty)} (h : GroupsNew w lo hi a gs) : GroupsIn w lo hi a gs := by
 rcases h with rfl | ⟨b, rfl, h3, h4, _, h6⟩
 ·exact .inl rfl
 ·refine .inr ⟨b, 0, rfl, h3, h4, fun i hi => ?_⟩
  obtain ⟨ta, tc, c3, hf⟩ := h6 i hi
  rw [Nat.zero_add]
  exact ⟨ta, tc, c3, hf.plain⟩
theorem field_set {w : World} {b n : Nat} {T' : TypeId} (h : Own w b n T') (F : Nat → Fd) (k : Nat) (hk : k * 3 + 2 < n) (hF : ∀ j, j < k → FieldAt w b (j * 3) (F j)) :
  ∀ j, j < k + 1 → FieldAt (((w.setCell ⟨b, k * 3, none⟩ (.int .i64 (F k).kind)).setCell ⟨b, k * 3 + 1, none⟩ (.int .i64 (F k).of)).setCell ⟨b, k * 3 + 2, none⟩ (.bool (F k).mt)) b (j * 3) (F j) := by
 intro j hj
 have h1 := h.set b (k * 3) (.int .i64 (F k).kind)
 have h2 := h1.set b (k * 3 + 1) (.int .i64 (F k).of)
 unfold FieldAt
 simp only [h2.cell_set (o := k * 3 + 2) hk, h1.cell_set (o := k * 3 + 1) (by omega : k * 3 + 1 < n), h.cell_set (o := k * 3) (by omega : k * 3 < n)]
 by_cases e : j = k
 ·subst e
  simp
 ·obtain ⟨a1, a2, a3⟩ := hF j (by omega)
  refine ⟨?_, ?_, ?_⟩
  ·rw [if_neg (by omega), if_neg (by omega), if_neg (by omega)]; exact a1
  ·rw [if_neg (by omega), if_neg (by omega), if_neg (by omega)]; exact a2
  ·rw [if_neg (by omega), if_neg (by omega), if_neg (by omega)]; exact a3
theorem type_set {w : World} {b n lo hi fc : Nat} {T' : TypeId} {na : Option Addr} (h : Own w b n T') (T : Nat → Ty) (k : Nat) (hk : k * 4 + 3 < n) (hlo : b < lo) (hF : ∀ j, j < k → TypeNew w lo hi b (j * 4) (T j)) (hf : FieldsNew w lo hi na (T k).fields) :
  ∀ j, j < k + 1 → TypeNew ((((w.setCell ⟨b, k * 4, none⟩ (.int .i64 (T k).kind)).setCell ⟨b, k * 4 + 1, none⟩ (.int .i64 (T k).up)).setCell ⟨b, k * 4 + 2, none⟩ (.bool (T k).last)).setCell ⟨b, k * 4 + 3, none⟩ (.slice na (T k).fields.length fc)) lo hi b (j * 4) (T j) := by
 intro j hj
 have h1 := h.set b (k * 4) (.int .i64 (T k).kind)
 have h2 := h1.set b (k * 4 + 1) (.int .i64 (T k).up)
 have h3 := h2.set b (k * 4 + 2) (.bool (T k).last)
 have hs : Same lo hi w ((((w.setCell ⟨b, k * 4, none⟩ (.int .i64 (T k).kind)).setCell ⟨b, k * 4 + 1, none⟩ (.int .i64 (T k).up)).setCell ⟨b, k * 4 + 2, none⟩ (.bool (T k).last)).setCell ⟨b, k * 4 + 3, none⟩ (.slice na (T k).fields.length fc)) :=
  ((((Same.refl _ _ _).set (.inl hlo) _ _).set (.inl hlo) _ _).set (.inl hlo) _ _).set (.inl hlo) _ _
 unfold TypeNew
 simp only [h3.cell_set (o := k * 4 + 3) hk, h2.cell_set (o := k * 4 + 2) (by omega : k * 4 + 2 < n), h1.cell_set (o := k * 4 + 1) (by omega : k * 4 + 1 < n), h.cell_set (o := k * 4) (by omega : k * 4 < n)]
 by_cases e : j = k
 ·subst e
  exact ⟨by simp, by simp, by simp, na, fc, by simp, hf.same hs (Nat.le_refl _) (Nat.le_refl _)⟩
 ·obtain ⟨a1, a2, a3, fa, fc', a4, a5⟩ := hF j (by omega)
  refine ⟨?_, ?_, ?_, fa, fc', ?_, a5.same hs (Nat.le_refl _) (Nat.le_refl _)⟩
  all_goals rw [if_neg (by omega), if_neg (by omega), if_neg (by omega), if_neg (by omega)]; assumption
def GroupAt (w : World) (lo hi : Nat) (b o : Nat) (g : List Ty) : Prop := ∃ ta tc, w.cell? ⟨b, o, none⟩ = some (.slice ta g.length tc) ∧ TypesIn w lo hi ta g
theorem group_set {w : World} {b n lo hi tc : Nat} {T' : TypeId} {na : Option Addr} (h : Own w b n T') (G : Nat → List Ty) (k : Nat) (hk : k < n) (hlo : b < lo) (hF : ∀ j, j < k → GroupNew w lo hi b j (G j)) (hf : TypesNew w lo hi na (G k)) :
  ∀ j, j < k + 1 → GroupNew (w.setCell ⟨b, k, none⟩ (.slice na (G k).length tc)) lo hi b j (G j) := by
 intro j hj
 have hs : Same lo hi w (w.setCell ⟨b, k, none⟩ (.slice na (G k).length tc)) := (Same.refl _ _ _).set (.inl hlo) _ _
 unfold GroupNew
 simp only [h.cell_set (o := k) hk]
 by_cases e : j = k
 ·subst e
  exact ⟨na, tc, by simp, hf.same hs (Nat.le_refl _) (Nat.le_refl _)⟩
 ·obtain ⟨ta, tc', a4, a5⟩ := hF j (by omega)
  refine ⟨ta, tc', ?_, a5.same hs (Nat.le_refl _) (Nat.le_refl _)⟩
  rw [if_neg (by omega)]; assumption
def Few (gs : List (List Ty)) : Prop := gs.length ≤ 1048576 ∧ ∀ i, i < gs.length → (grAt gs i).length ≤ 1048576 ∧ ∀ j, j < (grAt gs i).length → (tyAt (grAt gs i) j).fields.length ≤ 1048576
end Go.Proofs.YtembifoimiochaaGreatDoor
namespace Go.Proofs.YtembifoimiochaaGreatDoor
open Go.ChangeShapes Go.WideShapes Go.ChangeAt Go.RowKit
set_option maxHeartbeats 400000 in
theorem toField_any (k o : Int) (m : Bool) (w : World) :
  Calls Tryz.prog 68 #[.agg #[.int .i64 k, .int .i64 o, .bool m]] w fun e w' => e = .returned (.agg #[.int .i64 k, .int .i64 o, .bool m]) ∧ Below w.heap.size w w' := by
 go_enter Tryz.func68, Tryz.ntmps68
 go_wp2
 refine bodyPost_ret (v := .agg #[.int .i64 k, .int .i64 o, .bool m]) (by simp [results, Tryz.results68, go_sem]) rfl ⟨rfl, ?_⟩
 repeat (first | exact Below.refl _ _ | refine Below.alloc ?_ (by simp <;> omega) _)
end Go.Proofs.YtembifoimiochaaGreatDoor
namespace Go.Proofs.YtembifoimiochaaGreatDoor
open Go.ChangeShapes Go.WideShapes Go.ChangeAt Go.RowKit
set_option linter.unusedVariables false
set_option maxHeartbeats 400000 in
theorem toFieldS_core (a : Option Addr) (cap n : Nat) (F : Nat → Fd) (w : World) (hn : n ≤ 1048576)
    (hx : n ≤ 0 ∨ ∃ b off, a = some ⟨b, off, none⟩ ∧ b < w.heap.size ∧ ∀ i, i < n → FieldAt w b (off + i * 3) (F i)) :
    Calls Tryz.prog 51 #[.slice a n cap] w fun e w' => e = .returned (.slice (some ⟨w.heap.size, 0, none⟩) n n) ∧ Own w' w.heap.size (n * 3) 70 ∧ (∀ i, i < n → FieldAt w' w.heap.size (i * 3) (F i)) ∧ Below w.heap.size w w' := by
  have hmk := run_make_any (P := Tryz.prog) 74 70 _ 3 24 Tryz.underlying74 Tryz.infoField n (by omega) (by omega)
  rcases hx with h0 | ⟨b, off, rfl, h2, h3⟩
  all_goals
    go_enter Tryz.func51, Tryz.ntmps51
    go_wp2_with fail
    go_loopw [4] (fun i wr => ∃ k : Nat, k ≤ n ∧ i = .int .i64 k ∧ Own wr w.heap.size (n * 3) 70 ∧ (∀ j, j < k → FieldAt wr w.heap.size (j * 3) (F j)) ∧ Below w.heap.size w wr) (fun i wr => n - (intOf i).toNat)
    case atStart => exact ⟨0, Nat.zero_le _, rfl, Own.made _ _ _ _, fun j hj => absurd hj (Nat.not_lt_zero _), (Below.refl _ _).alloc (Nat.le_refl _) _⟩
    case round =>
      obtain ⟨k, hk, rfl, ho, hF, hb⟩ := hrel
      by_cases hlt : k < n
      · first
        | (exfalso; omega)
        | (obtain ⟨c0, c1, c2⟩ := h3 k hlt
           rw [← hb.cell (p := ⟨b, off + k * 3, none⟩) h2] at c0
           rw [← hb.cell (p := ⟨b, off + k * 3 + 1, none⟩) h2] at c1
           rw [← hb.cell (p := ⟨b, off + k * 3 + 2, none⟩) h2] at c2
           have HF := hide hF
           have HO := hide ho
           clear h3 hF ho
           go_wp2_with fail
           refine (toField_any _ _ _ _).mono ?_
           rintro e w1 ⟨rfl, hb1⟩
           have HO1 := hide (HO.out.below hb1 HO.out.lt)
           have f0 := HO1.out.frozen (k * 3)
           have f1 := HO1.out.frozen (k * 3 + 1)
           have f2 := HO1.out.frozen (k * 3 + 2)
           obtain ⟨v0, d0⟩ := HO1.out.cell (o := k * 3) (by omega)
           obtain ⟨v1, d1⟩ := HO1.out.cell (o := k * 3 + 1) (by omega)
           obtain ⟨v2, d2⟩ := HO1.out.cell (o := k * 3 + 2) (by omega)
           go_wp2_with fail
           have hs1 := Own.lt HO.out
           have hF1 : ∀ j, j < k → FieldAt w1 w.heap.size (j * 3) (F j) := fun j hj => (HF.out j hj).same (lo := 0) (hi := wr.heap.size) (.of_below hb1 (Nat.le_refl _)) (Nat.zero_le _) hs1
           exact ⟨⟨k + 1, by omega, by go_num, ((HO1.out.set _ _ _).set _ _ _).set _ _ _, field_set HO1.out F k (by omega) hF1, (((hb.trans (hb1.mono hb.size)).setCell (Nat.le_refl _) _).setCell (Nat.le_refl _) _).setCell (Nat.le_refl _) _⟩, by simp [intOf]; omega⟩)
      · have hkn : Hid (k = n) := Nat.le_antisymm hk (Nat.le_of_not_lt hlt)
        have HF := hide hF
        clear hF
        go_wp2_with fail
        go_ret
        exact ⟨rfl, ho, hkn.out ▸ HF.out, hb⟩
theorem toFieldS_any (a : Option Addr) (cap lo hi : Nat) (fs : List Fd) (w : World) (hn : fs.length ≤ 1048576) (hx : FieldsIn w lo hi a fs) (hh : hi ≤ w.heap.size) :
    Calls Tryz.prog 51 #[.slice a fs.length cap] w fun e w' => ∃ na, e = .returned (.slice na fs.length fs.length) ∧ FieldsNew w' w.heap.size w'.heap.size na fs ∧ Below w.heap.size w w' := by
  refine (toFieldS_core a cap fs.length (fdAt fs) w hn ?_).mono ?_
  · rcases hx with rfl | ⟨b, off, rfl, h1, h2, h3⟩
    · exact .inl (Nat.le_refl _)
    · exact .inr ⟨b, off, rfl, by omega, h3⟩
  · rintro e w' ⟨rfl, ho, hF, hb⟩
    exact ⟨_, rfl, ⟨.inr ⟨_, _, rfl, Nat.le_refl _, ho.lt, fun i hi => by simpa using hF i hi⟩, .inr ⟨_, _, rfl, Nat.le_refl _, ho.lt, ho, Nat.le_refl _⟩⟩, hb⟩
set_option maxHeartbeats 400000 in
theorem toType_any (fa : Option Addr) (fc lo hi : Nat) (t : Ty) (w : World) (hn : t.fields.length ≤ 1048576) (hx : FieldsIn w lo hi fa t.fields) (hh : hi ≤ w.heap.size) :
    Calls Tryz.prog 37 #[.agg #[.int .i64 t.kind, .int .i64 t.up, .bool t.last, .slice fa t.fields.length fc]] w fun e w' => ∃ na, e = .returned (.agg #[.int .i64 t.kind, .int .i64 t.up, .bool t.last,   .slice na t.fields.length t.fields.length]) ∧ FieldsNew w' w.heap.size w'.heap.size na t.fields ∧ Below w.heap.size w w' := by
  go_enter Tryz.func37, Tryz.ntmps37
  go_wp2_with fail
  have b0 : Below w.heap.size w (((w.alloc (.cells #[.int .i64 t.kind, .int .i64 t.up, .bool t.last, .slice fa t.fields.length fc] 61)).alloc (.cells #[.int .i64 0, .int .i64 0, .bool false, .slice none 0 0] 76)).alloc (.cells #[.int .i64 t.kind, .int .i64 t.up, .bool t.last, .slice none 0 0] 76)) :=
    (((Below.refl _ _).alloc (Nat.le_refl _) _).alloc (by simp) _).alloc (by simp; omega) _
  refine (toFieldS_any fa fc lo hi t.fields _ hn (hx.keep (b0.mono hh)) ?_).mono ?_
  · simp; omega
  rintro e w1 ⟨na, rfl, hf, hb1⟩
  obtain ⟨hc, hz⟩ := bcell hb1
  have hs := hb1.size
  simp only [World.size_alloc] at hs hc hz hf
  have HB := hide hb1
  have HF := hide hf
  have B0 := hide b0
  clear hb1 hf b0
  go_wp2_with fail
  refine bodyPost_ret (v := .agg #[.int .i64 t.kind, .int .i64 t.up, .bool t.last, .slice na t.fields.length t.fields.length]) (by simp [results, Tryz.results37, go_sem, hc]) rfl ⟨na, rfl, ?_, ?_⟩
  · refine HF.out.same ((((((Same.refl _ _ _).set ?_ _ _).set ?_ _ _).set ?_ _ _).set ?_ _ _).set ?_ _ _) (by omega) (by simp) <;> omega
  · exact (((((B0.out.trans (HB.out.mono (by simp; omega))).setCell (by simp; omega) _).setCell (by simp) _).setCell (by simp) _).setCell (by simp) _).setCell (by simp) _
set_option maxHeartbeats 400000 in
theorem toTypeS_core (a : Option Addr) (cap n lo hi : Nat) (T : Nat → Ty) (w : World) (hn : n ≤ 1048576) (hm : ∀ i, i < n → (T i).fields.length ≤ 1048576) (hh : hi ≤ w.heap.size)
    (hx : n ≤ 0 ∨ ∃ b off, a = some ⟨b, off, none⟩ ∧ lo ≤ b ∧ b < hi ∧ ∀ i, i < n → TypeAt w lo hi b (off + i * 4) (T i)) :
    Calls Tryz.prog 19 #[.slice a n cap] w fun e w' => e = .returned (.slice (some ⟨w.heap.size, 0, none⟩) n n) ∧ Own w' w.heap.size (n * 4) 76 ∧ (∀ i, i < n → TypeNew w' (w.heap.size + 1) w'.heap.size w.heap.size (i * 4) (T i)) ∧ Below w.heap.size w w' := by
  have hmk := run_make_any (P := Tryz.prog) 45 76 _ 4 48 Tryz.underlying45 Tryz.infoType n (by omega) (by omega)
  have HM := hide hm
  clear hm
  rcases hx with h0 | ⟨b, off, rfl, h1, h2, h3⟩
  all_goals
    go_enter Tryz.func19, Tryz.ntmps19
    go_wp2_with fail
    go_loopw [4] (fun i wr => ∃ k : Nat, k ≤ n ∧ i = .int .i64 k ∧ Own wr w.heap.size (n * 4) 76 ∧ (∀ j, j < k → TypeNew wr (w.heap.size + 1) wr.heap.size w.heap.size (j * 4) (T j)) ∧ Below w.heap.size w wr) (fun i wr => n - (intOf i).toNat)
    case atStart => exact ⟨0, Nat.zero_le _, rfl, Own.made _ _ _ _, fun j hj => absurd hj (Nat.not_lt_zero _), (Below.refl _ _).alloc (Nat.le_refl _) _⟩
    case round =>
      obtain ⟨k, hk, rfl, ho, hF, hb⟩ := hrel
      have HF := hide hF
      have HO := hide ho
      clear hF ho
      by_cases hlt : k < n
      · first
        | (exfalso; omega)
        | (obtain ⟨c0, c1, c2, fa, fc, c3, c4⟩ := (h3 k hlt).keep (hb.mono hh) h1 h2
           have C4 := hide c4
           clear h3 c4
           go_wp2_with fail
           refine (toType_any fa fc lo hi (T k) _ (HM.out k hlt) C4.out ?_).mono ?_
           · have := hb.size; omega
           rintro e w1 ⟨na, rfl, hf1, hb1⟩
           have HO1 := hide (HO.out.below hb1 HO.out.lt)
           have f0 := HO1.out.frozen (k * 4)
           have f1 := HO1.out.frozen (k * 4 + 1)
           have f2 := HO1.out.frozen (k * 4 + 2)
           have f3 := HO1.out.frozen (k * 4 + 3)
           obtain ⟨v0, d0⟩ := HO1.out.cell (o := k * 4) (by omega)
           obtain ⟨v1, d1⟩ := HO1.out.cell (o := k * 4 + 1) (by omega)
           obtain ⟨v2, d2⟩ := HO1.out.cell (o := k * 4 + 2) (by omega)
           obtain ⟨v3, d3⟩ := HO1.out.cell (o := k * 4 + 3) (by omega)
           have hs1 := Own.lt HO.out
           have HF1 := hide hf1
           clear hf1
           go_wp2_with fail
           have hF1 : ∀ j, j < k → TypeNew w1 (w.heap.size + 1) w1.heap.size w.heap.size (j * 4) (T j) := fun j hj => by
             obtain ⟨a1, a2, a3, fa', fc', a4, a5⟩ := HF.out j hj
             refine ⟨?_, ?_, ?_, fa', fc', ?_, a5.same (.of_below hb1 (Nat.le_refl _)) (Nat.le_refl _) hb1.size⟩
             all_goals rw [hb1.cell (by exact hs1)]; assumption
           refine ⟨⟨k + 1, by omega, by go_num, (((HO1.out.set _ _ _).set _ _ _).set _ _ _).set _ _ _, ?_, ((((hb.trans (hb1.mono hb.size)).setCell (Nat.le_refl _) _).setCell (Nat.le_refl _) _).setCell (Nat.le_refl _) _).setCell (Nat.le_refl _) _⟩, by simp [intOf]; omega⟩
           have := type_set (fc := (T k).fields.length) HO1.out T k (by omega) (Nat.lt_succ_self _) hF1 (HF1.out.wide (by omega) (Nat.le_refl _))
           simpa using this)
      · have hkn : Hid (k = n) := Nat.le_antisymm hk (Nat.le_of_not_lt hlt)
        go_wp2_with fail
        go_ret
        exact ⟨rfl, HO.out, hkn.out ▸ HF.out, hb⟩
theorem toTypeS_any (a : Option Addr) (cap lo hi : Nat) (ts : List Ty) (w : World) (hn : ts.length ≤ 1048576) (hm : ∀ i, i < ts.length → (tyAt ts i).fields.length ≤ 1048576) (hx : TypesIn w lo hi a ts) (hh : hi ≤ w.heap.size) :
    Calls Tryz.prog 19 #[.slice a ts.length cap] w fun e w' => ∃ na, e = .returned (.slice na ts.length ts.length) ∧ TypesNew w' w.heap.size w'.heap.size na ts ∧ Below w.heap.size w w' := by
  refine (toTypeS_core a cap ts.length lo hi (tyAt ts) w hn hm hh ?_).mono ?_
  · rcases hx with rfl | ⟨b, off, rfl, h1, h2, h3⟩
    · exact .inl (Nat.le_refl _)
    · exact .inr ⟨b, off, rfl, h1, h2, h3⟩
  · rintro e w' ⟨rfl, ho, hF, hb⟩
    refine ⟨_, rfl, .inr ⟨_, rfl, Nat.le_refl _, ho.lt, ho, fun i hi => ?_⟩, hb⟩
    obtain ⟨a1, a2, a3, fa, fc, a4, a5⟩ := hF i hi
    exact ⟨a1, a2, a3, fa, fc, a4, a5.wide (by omega) (Nat.le_refl _)⟩
set_option maxHeartbeats 400000 in
theorem toTypeSS_core (a : Option Addr) (cap n lo hi : Nat) (G : Nat → List Ty) (w : World) (hn : n ≤ 1048576) (hm : ∀ i, i < n → (G i).length ≤ 1048576 ∧ ∀ j, j < (G i).length → (tyAt (G i) j).fields.length ≤ 1048576) (hh : hi ≤ w.heap.size)
    (hx : n ≤ 0 ∨ ∃ b off, a = some ⟨b, off, none⟩ ∧ lo ≤ b ∧ b < hi ∧ ∀ i, i < n → GroupAt w lo hi b (off + i) (G i)) :
    Calls Tryz.prog 8 #[.slice a n cap] w fun e w' => e = .returned (.slice (some ⟨w.heap.size, 0, none⟩) n n) ∧ Own w' w.heap.size n 45 ∧ (∀ i, i < n → GroupNew w' (w.heap.size + 1) w'.heap.size w.heap.size i (G i)) ∧ Below w.heap.size w w' := by
  have hmk := run_make_row' (P := Tryz.prog) 31 45 _ 24 Tryz.underlying31 Tryz.infoTypeS rfl .i64 .i64 n (by omega) (by omega)
  have HM := hide hm
  clear hm
  rcases hx with h0 | ⟨b, off, rfl, h1, h2, h3⟩
  all_goals
    go_enter Tryz.func8, Tryz.ntmps8
    go_wp2_with fail
    go_loopw [4] (fun i wr => ∃ k : Nat, k ≤ n ∧ i = .int .i64 k ∧ Own wr w.heap.size n 45 ∧ (∀ j, j < k → GroupNew wr (w.heap.size + 1) wr.heap.size w.heap.size j (G j)) ∧ Below w.heap.size w wr) (fun i wr => n - (intOf i).toNat)
    case atStart => exact ⟨0, Nat.zero_le _, rfl, Own.made _ _ _ _, fun j hj => absurd hj (Nat.not_lt_zero _), (Below.refl _ _).alloc (Nat.le_refl _) _⟩
    case round =>
      obtain ⟨k, hk, rfl, ho, hF, hb⟩ := hrel
      have HF := hide hF
      have HO := hide ho
      clear hF ho
      by_cases hlt : k < n
      · first
        | (exfalso; omega)
        | (obtain ⟨ta, tc, c3, c4⟩ := h3 k hlt
           rw [← hb.cell (p := ⟨b, off + k, none⟩) (by show b < _; omega)] at c3
           have C4 := hide (c4.keep (hb.mono hh))
           clear h3 c4
           go_wp2_with fail
           refine (toTypeS_any ta tc lo hi (G k) _ (HM.out k hlt).1 (HM.out k hlt).2 C4.out ?_).mono ?_
           · have := hb.size; omega
           rintro e w1 ⟨na, rfl, hf1, hb1⟩
           have HO1 := hide (HO.out.below hb1 HO.out.lt)
           have f0 := HO1.out.frozen k
           obtain ⟨v0, d0⟩ := HO1.out.cell (o := k) (by omega)
           have hs1 := Own.lt HO.out
           have HF1 := hide hf1
           clear hf1
           go_wp2_with fail
           have hF1 : ∀ j, j < k → GroupNew w1 (w.heap.size + 1) w1.heap.size w.heap.size j (G j) := fun j hj => by
             obtain ⟨fa', fc', a4, a5⟩ := HF.out j hj
             refine ⟨fa', fc', ?_, a5.same (.of_below hb1 (Nat.le_refl _)) (Nat.le_refl _) hb1.size⟩
             rw [hb1.cell (by exact hs1)]; assumption
           refine ⟨⟨k + 1, by omega, by go_num, HO1.out.set _ _ _, ?_, (hb.trans (hb1.mono hb.size)).setCell (Nat.le_refl _) _⟩, by simp [intOf]; omega⟩
           have := group_set (tc := (G k).length) HO1.out G k (by omega) (Nat.lt_succ_self _) hF1 (HF1.out.wide (by omega) (Nat.le_refl _))
           simpa using this)
      · have hkn : Hid (k = n) := Nat.le_antisymm hk (Nat.le_of_not_lt hlt)
        go_wp2_with fail
        go_ret
        exact ⟨rfl, HO.out, hkn.out ▸ HF.out, hb⟩
theorem toTypeSS_any (a : Option Addr) (cap lo hi : Nat) (gs : List (List Ty)) (w : World) (hn : Few gs) (hx : GroupsIn w lo hi a gs) (hh : hi ≤ w.heap.size) :
    Calls Tryz.prog 8 #[.slice a gs.length cap] w fun e w' => ∃ na, e = .returned (.slice na gs.length gs.length) ∧ GroupsNew w' w.heap.size w'.heap.size na gs ∧ Below w.heap.size w w' := by
  refine (toTypeSS_core a cap gs.length lo hi (grAt gs) w hn.1 hn.2 hh ?_).mono ?_
  · rcases hx with rfl | ⟨b, off, rfl, h1, h2, h3⟩
    · exact .inl (Nat.le_refl _)
    · exact .inr ⟨b, off, rfl, h1, h2, h3⟩
  · rintro e w' ⟨rfl, ho, hF, hb⟩
    refine ⟨_, rfl, .inr ⟨_, rfl, Nat.le_refl _, ho.lt, ho, fun i hi => ?_⟩, hb⟩
    obtain ⟨fa, fc, a4, a5⟩ := hF i hi
    exact ⟨fa, fc, a4, a5.wide (by omega) (Nat.le_refl _)⟩
set_option maxHeartbeats 400000 in
theorem szFieldS_any (a : Option Addr) (n cap : Nat) (left : Int) (w : World) (hn : n ≤ 9223372036854775807) (h0 : 0 ≤ left) (h1 : left ≤ 1048576) :
    Calls Tryz.prog 41 #[.slice a n cap, .int .i64 left] w fun e w' => ∃ r : Int, e = .returned (.int .i64 r) ∧ -1 ≤ r ∧ r ≤ left ∧ (0 ≤ r → n ≤ 1048576) ∧ w' = w := by
  by_cases hlt : left - (n : Int) < 0
  · go_enter Tryz.func41, Tryz.ntmps41
    go_wp2_with fail
    go_ret
    exact ⟨-1, rfl, by omega, by omega, by omega, rfl⟩
  · go_enter Tryz.func41, Tryz.ntmps41
    go_wp2_with fail
    go_ret
    exact ⟨left - n, rfl, by omega, by omega, by omega, rfl⟩
set_option maxHeartbeats 400000 in
theorem szType_any (k u : Int) (l : Bool) (a : Option Addr) (n cap : Nat) (left : Int) (w : World) (hn : n ≤ 9223372036854775807) (h0 : 0 ≤ left) (h1 : left ≤ 1048576) :
    Calls Tryz.prog 26 #[.agg #[.int .i64 k, .int .i64 u, .bool l, .slice a n cap], .int .i64 left] w fun e w' => ∃ r : Int, e = .returned (.int .i64 r) ∧ -1 ≤ r ∧ r ≤ left ∧ (0 ≤ r → n ≤ 1048576) ∧ Below w.heap.size w w' := by
  go_enter Tryz.func26, Tryz.ntmps26
  go_wp2_with fail
  refine (szFieldS_any _ _ _ _ _ hn h0 h1).mono ?_
  rintro e w1 ⟨r, rfl, r1, r2, r3, rfl⟩
  have R3 := hide r3
  clear r3
  by_cases hr : r < 0
  · go_wp2_with fail
    go_ret
    exact ⟨-1, rfl, by omega, by omega, by omega, (Below.refl _ _).alloc (Nat.le_refl _) _⟩
  · go_wp2_with fail
    go_ret
    exact ⟨r, rfl, by omega, by omega, R3.out, (Below.refl _ _).alloc (Nat.le_refl _) _⟩
set_option maxHeartbeats 400000 in
theorem szTypeS_core (a : Option Addr) (cap n lo hi : Nat) (T : Nat → Ty) (left : Int) (w : World) (hn : n ≤ 9223372036854775807) (hm : ∀ i, i < n → (T i).fields.length ≤ 9223372036854775807) (hh : hi ≤ w.heap.size) (l0 : 0 ≤ left) (l1 : left ≤ 1048576)
    (hx : n ≤ 0 ∨ ∃ b off, a = some ⟨b, off, none⟩ ∧ lo ≤ b ∧ b < hi ∧ ∀ i, i < n → TypeAt w lo hi b (off + i * 4) (T i)) :
    Calls Tryz.prog 15 #[.slice a n cap, .int .i64 left] w fun e w' => ∃ r : Int, e = .returned (.int .i64 r) ∧ -1 ≤ r ∧ r ≤ left ∧ (0 ≤ r → n ≤ 1048576 ∧ ∀ i, i < n → (T i).fields.length ≤ 1048576) ∧ Below w.heap.size w w' := by
  have HM := hide hm
  clear hm
  by_cases hlt : left - (n : Int) < 0
  · go_enter Tryz.func15, Tryz.ntmps15
    go_wp2_with fail
    go_ret
    exact ⟨-1, rfl, by omega, by omega, by omega, Below.refl _ _⟩
  rcases hx with h0 | ⟨b, off, rfl, h1, h2, h3⟩
  all_goals
    go_enter Tryz.func15, Tryz.ntmps15
    go_wp2_with fail
    go_loopw [1, 5] (fun l i wr => ∃ (k : Nat) (r : Int), k ≤ n ∧ i = .int .i64 k ∧ l = .int .i64 r ∧ 0 ≤ r ∧ r ≤ left ∧ (∀ j, j < k → (T j).fields.length ≤ 1048576) ∧ Below w.heap.size w wr) (fun l i wr => n - (intOf i).toNat)
    case atStart => exact ⟨0, left - n, Nat.zero_le _, rfl, rfl, by omega, by omega, fun j hj => absurd hj (Nat.not_lt_zero _), Below.refl _ _⟩
    case round =>
      obtain ⟨k, r, hk, rfl, rfl, r0, r1, hF, hb⟩ := hrel
      have HF := hide hF
      clear hF
      by_cases hkn : k < n
      · first
        | (exfalso; omega)
        | (obtain ⟨c0, c1, c2, fa, fc, c3, c4⟩ := (h3 k hkn).keep (hb.mono hh) h1 h2
           clear h3 c4
           go_wp2_with fail
           refine (szType_any _ _ _ _ _ _ _ _ (HM.out k hkn) r0 (by omega)).mono ?_
           rintro e w1 ⟨r', rfl, s0, s1, s2, hb1⟩
           have S2 := hide s2
           clear s2
           by_cases hr : r' < 0
           · go_wp2_with fail
             go_ret
             exact ⟨-1, rfl, by omega, by omega, by omega, hb.trans (hb1.mono hb.size)⟩
           · go_wp2_with fail
             refine ⟨⟨k + 1, r', by omega, by go_num, rfl, by omega, by omega, fun j hj => ?_, hb.trans (hb1.mono hb.size)⟩, by simp [intOf]; omega⟩
             by_cases e : j = k
             · subst e; exact S2.out (by omega)
             · exact HF.out j (by omega))
      · have hkn' : Hid (k = n) := Nat.le_antisymm hk (Nat.le_of_not_lt hkn)
        go_wp2_with fail
        go_ret
        exact ⟨r, rfl, by omega, by omega, fun _ => ⟨by omega, hkn'.out ▸ HF.out⟩, hb⟩
def Lens (gs : List (List Ty)) : Prop := gs.length ≤ 9223372036854775807 ∧ ∀ i, i < gs.length → (grAt gs i).length ≤ 9223372036854775807 ∧ ∀ j, j < (grAt gs i).length → (tyAt (grAt gs i) j).fields.length ≤ 9223372036854775807
set_option maxHeartbeats 400000 in
theorem szTypeSS_core (a : Option Addr) (cap n lo hi : Nat) (G : Nat → List Ty) (left : Int) (w : World) (hn : n ≤ 9223372036854775807)
    (hm : ∀ i, i < n → (G i).length ≤ 9223372036854775807 ∧ ∀ j, j < (G i).length → (tyAt (G i) j).fields.length ≤ 9223372036854775807) (hh : hi ≤ w.heap.size) (l0 : 0 ≤ left) (l1 : left ≤ 1048576)
    (hx : n ≤ 0 ∨ ∃ b off, a = some ⟨b, off, none⟩ ∧ lo ≤ b ∧ b < hi ∧ ∀ i, i < n → GroupAt w lo hi b (off + i) (G i)) :
    Calls Tryz.prog 4 #[.slice a n cap, .int .i64 left] w fun e w' => ∃ r : Int, e = .returned (.int .i64 r) ∧ -1 ≤ r ∧ r ≤ left ∧ (0 ≤ r → n ≤ 1048576 ∧ ∀ i, i < n → (G i).length ≤ 1048576 ∧ ∀ j, j < (G i).length → (tyAt (G i) j).fields.length ≤ 1048576) ∧ Below w.heap.size w w' := by
  have HM := hide hm
  clear hm
  by_cases hlt : left - (n : Int) < 0
  · go_enter Tryz.func4, Tryz.ntmps4
    go_wp2_with fail
    go_ret
    exact ⟨-1, rfl, by omega, by omega, by omega, Below.refl _ _⟩
  rcases hx with h0 | ⟨b, off, rfl, h1, h2, h3⟩
  all_goals
    go_enter Tryz.func4, Tryz.ntmps4
    go_wp2_with fail
    go_loopw [1, 5] (fun l i wr => ∃ (k : Nat) (r : Int), k ≤ n ∧ i = .int .i64 k ∧ l = .int .i64 r ∧ 0 ≤ r ∧ r ≤ left ∧ (∀ j, j < k → (G j).length ≤ 1048576 ∧ ∀ i, i < (G j).length → (tyAt (G j) i).fields.length ≤ 1048576) ∧ Below w.heap.size w wr) (fun l i wr => n - (intOf i).toNat)
    case atStart => exact ⟨0, left - n, Nat.zero_le _, rfl, rfl, by omega, by omega, fun j hj => absurd hj (Nat.not_lt_zero _), Below.refl _ _⟩
    case round =>
      obtain ⟨k, r, hk, rfl, rfl, r0, r1, hF, hb⟩ := hrel
      have HF := hide hF
      clear hF
      by_cases hkn : k < n
      · first
        | (exfalso; omega)
        | (obtain ⟨ta, tc, c3, c4⟩ := h3 k hkn
           rw [← hb.cell (p := ⟨b, off + k, none⟩) (by show b < _; omega)] at c3
           have C4 := hide (c4.keep (hb.mono hh))
           clear h3 c4
           go_wp2_with fail
           refine (szTypeS_core ta tc (G k).length lo hi (tyAt (G k)) r _ (HM.out k hkn).1 (HM.out k hkn).2 ?_ r0 (by omega) ?_).mono ?_
           · have := hb.size; omega
           · rcases C4.out with h | ⟨b', off', q1, q2, q3, q4⟩
             · exact .inl (by rw [h]; exact Nat.le_refl _)
             · exact .inr ⟨b', off', q1, q2, q3, q4⟩
           rintro e w1 ⟨r', rfl, s0, s1, s2, hb1⟩
           have S2 := hide s2
           clear s2
           by_cases hr : r' < 0
           · go_wp2_with fail
             go_ret
             exact ⟨-1, rfl, by omega, by omega, by omega, hb.trans (hb1.mono hb.size)⟩
           · go_wp2_with fail
             refine ⟨⟨k + 1, r', by omega, by go_num, rfl, by omega, by omega, fun j hj => ?_, hb.trans (hb1.mono hb.size)⟩, by simp [intOf]; omega⟩
             by_cases e : j = k
             · subst e; exact S2.out (by omega)
             · exact HF.out j (by omega))
      · have hkn' : Hid (k = n) := Nat.le_antisymm hk (Nat.le_of_not_lt hkn)
        go_wp2_with fail
        go_ret
        exact ⟨r, rfl, by omega, by omega, fun _ => ⟨by omega, hkn'.out ▸ HF.out⟩, hb⟩
theorem szTypeSS_any (a : Option Addr) (cap lo hi : Nat) (gs : List (List Ty)) (left : Int) (w : World) (hl : Lens gs) (hx : GroupsIn w lo hi a gs) (hh : hi ≤ w.heap.size) (l0 : 0 ≤ left) (l1 : left ≤ 1048576) :
    Calls Tryz.prog 4 #[.slice a gs.length cap, .int .i64 left] w fun e w' => ∃ r : Int, e = .returned (.int .i64 r) ∧ -1 ≤ r ∧ r ≤ left ∧ (0 ≤ r → Few gs) ∧ Below w.heap.size w w' := by
  refine szTypeSS_core a cap gs.length lo hi (grAt gs) left w hl.1 hl.2 hh l0 l1 ?_
  rcases hx with rfl | ⟨b, off, rfl, h1, h2, h3⟩
  · exact .inl (Nat.le_refl _)
  · exact .inr ⟨b, off, rfl, h1, h2, h3⟩
set_option maxHeartbeats 400000 in
theorem eqField_same (k o : Int) (m : Bool) (w : World) :
    Calls Tryz.prog 91 #[.agg #[.int .i64 k, .int .i64 o, .bool m], .agg #[.int .i64 k, .int .i64 o, .bool m]] w fun e w' => e = .returned (.bool true) ∧ Below w.heap.size w w' := by
  go_enter Tryz.func91, Tryz.ntmps91
  go_wp2_with fail
  go_ret
  exact ⟨rfl, ((Below.refl _ _).alloc (Nat.le_refl _) _).alloc (by simp) _⟩
set_option maxHeartbeats 400000 in
theorem eqFieldS_core (a a' : Option Addr) (cap cap' n : Nat) (F : Nat → Fd) (w : World)
    (hx : n ≤ 0 ∨ ∃ b off b' off', a = some ⟨b, off, none⟩ ∧ a' = some ⟨b', off', none⟩ ∧ b < w.heap.size ∧ b' < w.heap.size ∧ (∀ i, i < n → FieldAt w b (off + i * 3) (F i)) ∧ (∀ i, i < n → FieldAt w b' (off' + i * 3) (F i))) (hn : n ≤ 9223372036854775807) :
    Calls Tryz.prog 58 #[.slice a n cap, .slice a' n cap'] w fun e w' => e = .returned (.bool true) ∧ Below w.heap.size w w' := by
  rcases hx with h0 | ⟨b, off, b', off', rfl, rfl, h1, h2, h3, h4⟩
  all_goals
    go_enter Tryz.func58, Tryz.ntmps58
    go_wp2_with fail
    go_loopw [5] (fun i wr => ∃ k : Nat, k ≤ n ∧ i = .int .i64 k ∧ Below w.heap.size w wr) (fun i wr => n - (intOf i).toNat)
    case atStart => exact ⟨0, Nat.zero_le _, rfl, Below.refl _ _⟩
    case round =>
      obtain ⟨k, hk, rfl, hb⟩ := hrel
      by_cases hlt : k < n
      · first
        | (exfalso; omega)
        | (obtain ⟨c0, c1, c2⟩ := h3 k hlt
           obtain ⟨d0, d1, d2⟩ := h4 k hlt
           rw [← hb.cell (by exact h1)] at c0 c1 c2
           rw [← hb.cell (by exact h2)] at d0 d1 d2
           clear h3 h4
           have g1 : (0 : Int) ≤ (k : Int) := by omega
           have g2 : (k : Int) < (n : Int) := by omega
           have s1 := hb.size
           go_wp2_with fail
           go_region_held3 (fun w' => (w'.cell? ⟨b, off + k * 3, none⟩ = some (.int .i64 (F k).kind) ∧ w'.cell? ⟨b, off + k * 3 + 1, none⟩ = some (.int .i64 (F k).of) ∧ w'.cell? ⟨b, off + k * 3 + 2, none⟩ = some (.bool (F k).mt)) ∧ (w'.cell? ⟨b', off' + k * 3, none⟩ = some (.int .i64 (F k).kind) ∧ w'.cell? ⟨b', off' + k * 3 + 1, none⟩ = some (.int .i64 (F k).of) ∧ w'.cell? ⟨b', off' + k * 3 + 2, none⟩ = some (.bool (F k).mt))) (go_keep)
             ((go_at_call 91; refine (eqField_same _ _ _ _).mono ?_; rintro e w1 ⟨rfl, hb1⟩; have e1 : ∀ o, w1.cell? ⟨b, o, none⟩ = wr.cell? ⟨b, o, none⟩ := fun o => hb1.cell (Nat.lt_of_lt_of_le h1 s1); have e2 : ∀ o, w1.cell? ⟨b', o, none⟩ = wr.cell? ⟨b', o, none⟩ := fun o => hb1.cell (Nat.lt_of_lt_of_le h2 s1)))
           go_wp2_with fail
           exact ⟨⟨k + 1, by omega, by go_num, hb.drew.trans (hb1.mono s1)⟩, by simp [intOf]; omega⟩)
      · go_wp2_with fail
        go_ret
        exact ⟨rfl, hb⟩
theorem eqFieldS_same (a a' : Option Addr) (cap cap' lo hi lo' hi' : Nat) (fs : List Fd) (w : World) (hn : fs.length ≤ 9223372036854775807) (hx : FieldsIn w lo hi a fs) (hy : FieldsIn w lo' hi' a' fs) (hh : hi ≤ w.heap.size) (hh' : hi' ≤ w.heap.size) :
    Calls Tryz.prog 58 #[.slice a fs.length cap, .slice a' fs.length cap'] w fun e w' => e = .returned (.bool true) ∧ Below w.heap.size w w' := by
  refine eqFieldS_core a a' cap cap' fs.length (fdAt fs) w ?_ hn
  rcases hx with rfl | ⟨b, off, rfl, h1, h2, h3⟩
  · exact .inl (Nat.le_refl _)
  · rcases hy with rfl | ⟨b', off', rfl, h1', h2', h3'⟩
    · exact .inl (Nat.le_refl _)
    · exact .inr ⟨b, off, b', off', rfl, rfl, by omega, by omega, h3, h3'⟩
set_option maxHeartbeats 400000 in
theorem eqType_same (a a' : Option Addr) (cap cap' lo hi lo' hi' : Nat) (t : Ty) (w : World) (hn : t.fields.length ≤ 9223372036854775807) (hx : FieldsIn w lo hi a t.fields) (hy : FieldsIn w lo' hi' a' t.fields) (hh : hi ≤ w.heap.size) (hh' : hi' ≤ w.heap.size) :
    Calls Tryz.prog 40 #[.agg #[.int .i64 t.kind, .int .i64 t.up, .bool t.last, .slice a t.fields.length cap], .agg #[.int .i64 t.kind, .int .i64 t.up, .bool t.last, .slice a' t.fields.length cap']] w fun e w' => e = .returned (.bool true) ∧ Below w.heap.size w w' := by
  go_enter Tryz.func40, Tryz.ntmps40
  go_wp2_with fail
  have b0 : Below w.heap.size w ((w.alloc (.cells #[.int .i64 t.kind, .int .i64 t.up, .bool t.last, .slice a t.fields.length cap] 76)).alloc (.cells #[.int .i64 t.kind, .int .i64 t.up, .bool t.last, .slice a' t.fields.length cap'] 76)) :=
    ((Below.refl _ _).alloc (Nat.le_refl _) _).alloc (by simp) _
  refine (eqFieldS_same a a' cap cap' lo hi lo' hi' t.fields _ hn (hx.keep (b0.mono hh)) (hy.keep (b0.mono hh')) (by simp; omega) (by simp; omega)).mono ?_
  rintro e w1 ⟨rfl, hb1⟩
  go_wp2_with fail
  go_ret
  exact ⟨rfl, b0.trans (hb1.mono (by simp; omega))⟩
set_option maxHeartbeats 400000 in
theorem eqTypeS_core (a a' : Option Addr) (cap cap' n lo hi lo' hi' : Nat) (T : Nat → Ty) (w : World) (hm : ∀ i, i < n → (T i).fields.length ≤ 9223372036854775807) (hh : hi ≤ w.heap.size) (hh' : hi' ≤ w.heap.size)
    (hx : n ≤ 0 ∨ ∃ b off b' off', a = some ⟨b, off, none⟩ ∧ a' = some ⟨b', off', none⟩ ∧ lo ≤ b ∧ b < hi ∧ lo' ≤ b' ∧ b' < hi' ∧ (∀ i, i < n → TypeAt w lo hi b (off + i * 4) (T i)) ∧ (∀ i, i < n → TypeAt w lo' hi' b' (off' + i * 4) (T i))) (hn : n ≤ 9223372036854775807) :
    Calls Tryz.prog 23 #[.slice a n cap, .slice a' n cap'] w fun e w' => e = .returned (.bool true) ∧ Below w.heap.size w w' := by
  have HM := hide hm
  clear hm
  rcases hx with h0 | ⟨b, off, b', off', rfl, rfl, g1, g2, g3, g4, h3, h4⟩
  all_goals
    go_enter Tryz.func23, Tryz.ntmps23
    go_wp2_with fail
    go_loopw [5] (fun i wr => ∃ k : Nat, k ≤ n ∧ i = .int .i64 k ∧ Below w.heap.size w wr) (fun i wr => n - (intOf i).toNat)
    case atStart => exact ⟨0, Nat.zero_le _, rfl, Below.refl _ _⟩
    case round =>
      obtain ⟨k, hk, rfl, hb⟩ := hrel
      by_cases hlt : k < n
      · first
        | (exfalso; omega)
        | (obtain ⟨c0, c1, c2, fa, fc, c3, c4⟩ := (h3 k hlt).keep (hb.mono hh) g1 g2
           obtain ⟨d0, d1, d2, fa', fc', d3, d4⟩ := (h4 k hlt).keep (hb.mono hh') g3 g4
           have C4 := hide c4
           have D4 := hide d4
           clear h3 h4 c4 d4
           have k1 : (0 : Int) ≤ (k : Int) := by omega
           have k2 : (k : Int) < (n : Int) := by omega
           have s1 := hb.size
           go_wp2_with fail
           go_region_held3 (fun w' => (w'.cell? ⟨b, off + k * 4, none⟩ = some (.int .i64 (T k).kind) ∧ w'.cell? ⟨b, off + k * 4 + 1, none⟩ = some (.int .i64 (T k).up) ∧ w'.cell? ⟨b, off + k * 4 + 2, none⟩ = some (.bool (T k).last) ∧ w'.cell? ⟨b, off + k * 4 + 3, none⟩ = some (.slice fa (T k).fields.length fc)) ∧ (w'.cell? ⟨b', off' + k * 4, none⟩ = some (.int .i64 (T k).kind) ∧ w'.cell? ⟨b', off' + k * 4 + 1, none⟩ = some (.int .i64 (T k).up) ∧ w'.cell? ⟨b', off' + k * 4 + 2, none⟩ = some (.bool (T k).last) ∧ w'.cell? ⟨b', off' + k * 4 + 3, none⟩ = some (.slice fa' (T k).fields.length fc'))) (go_keep)
             ((go_at_call 40; refine (eqType_same fa fa' fc fc' lo hi lo' hi' (T k) wr.drew (HM.out k hlt) C4.out D4.out (Nat.le_trans hh s1) (Nat.le_trans hh' s1)).mono ?_; rintro e w1 ⟨rfl, hb1⟩; have e1 : ∀ o, w1.cell? ⟨b, o, none⟩ = wr.cell? ⟨b, o, none⟩ := fun o => hb1.cell (Nat.lt_of_lt_of_le g2 (Nat.le_trans hh s1)); have e2 : ∀ o, w1.cell? ⟨b', o, none⟩ = wr.cell? ⟨b', o, none⟩ := fun o => hb1.cell (Nat.lt_of_lt_of_le g4 (Nat.le_trans hh' s1))))
           go_wp2_with fail
           exact ⟨⟨k + 1, by omega, by go_num, hb.drew.trans (hb1.mono s1)⟩, by simp [intOf]; omega⟩)
      · go_wp2_with fail
        go_ret
        exact ⟨rfl, hb⟩
theorem eqTypeS_same (a a' : Option Addr) (cap cap' lo hi lo' hi' : Nat) (ts : List Ty) (w : World) (hn : ts.length ≤ 9223372036854775807) (hm : ∀ i, i < ts.length → (tyAt ts i).fields.length ≤ 9223372036854775807) (hx : TypesIn w lo hi a ts) (hy : TypesIn w lo' hi' a' ts) (hh : hi ≤ w.heap.size) (hh' : hi' ≤ w.heap.size) :
    Calls Tryz.prog 23 #[.slice a ts.length cap, .slice a' ts.length cap'] w fun e w' => e = .returned (.bool true) ∧ Below w.heap.size w w' := by
  refine eqTypeS_core a a' cap cap' ts.length lo hi lo' hi' (tyAt ts) w hm hh hh' ?_ hn
  rcases hx with rfl | ⟨b, off, rfl, h1, h2, h3⟩
  · exact .inl (Nat.le_refl _)
  · rcases hy with rfl | ⟨b', off', rfl, h1', h2', h3'⟩
    · exact .inl (Nat.le_refl _)
    · exact .inr ⟨b, off, b', off', rfl, rfl, h1, h2, h1', h2', h3, h3'⟩
set_option maxHeartbeats 400000 in
theorem eqTypeSS_core (a a' : Option Addr) (cap cap' n lo hi lo' hi' : Nat) (G : Nat → List Ty) (w : World) (hm : ∀ i, i < n → (G i).length ≤ 9223372036854775807 ∧ ∀ j, j < (G i).length → (tyAt (G i) j).fields.length ≤ 9223372036854775807) (hh : hi ≤ w.heap.size) (hh' : hi' ≤ w.heap.size)
    (hx : n ≤ 0 ∨ ∃ b off b' off', a = some ⟨b, off, none⟩ ∧ a' = some ⟨b', off', none⟩ ∧ lo ≤ b ∧ b < hi ∧ lo' ≤ b' ∧ b' < hi' ∧ (∀ i, i < n → GroupAt w lo hi b (off + i) (G i)) ∧ (∀ i, i < n → GroupAt w lo' hi' b' (off' + i) (G i))) (hn : n ≤ 9223372036854775807) :
    Calls Tryz.prog 12 #[.slice a n cap, .slice a' n cap'] w fun e w' => e = .returned (.bool true) ∧ Below w.heap.size w w' := by
  have HM := hide hm
  clear hm
  rcases hx with h0 | ⟨b, off, b', off', rfl, rfl, g1, g2, g3, g4, h3, h4⟩
  all_goals
    go_enter Tryz.func12, Tryz.ntmps12
    go_wp2_with fail
    go_loopw [5] (fun i wr => ∃ k : Nat, k ≤ n ∧ i = .int .i64 k ∧ Below w.heap.size w wr) (fun i wr => n - (intOf i).toNat)
    case atStart => exact ⟨0, Nat.zero_le _, rfl, Below.refl _ _⟩
    case round =>
      obtain ⟨k, hk, rfl, hb⟩ := hrel
      by_cases hlt : k < n
      · first
        | (exfalso; omega)
        | (obtain ⟨fa, fc, c3, c4⟩ := h3 k hlt
           obtain ⟨fa', fc', d3, d4⟩ := h4 k hlt
           have C4 := hide (c4.keep (hb.mono hh))
           have D4 := hide (d4.keep (hb.mono hh'))
           rw [← hb.cell (p := ⟨b, off + k, none⟩) (Nat.lt_of_lt_of_le g2 hh)] at c3
           rw [← hb.cell (p := ⟨b', off' + k, none⟩) (Nat.lt_of_lt_of_le g4 hh')] at d3
           clear h3 h4 c4 d4
           have k1 : (0 : Int) ≤ (k : Int) := by omega
           have k2 : (k : Int) < (n : Int) := by omega
           have s1 := hb.size
           go_wp2_with fail
           go_region_held3 (fun w' => w'.cell? ⟨b, off + k, none⟩ = some (.slice fa (G k).length fc) ∧ w'.cell? ⟨b', off' + k, none⟩ = some (.slice fa' (G k).length fc')) (go_keep)
             ((go_at_call 23; refine (eqTypeS_same fa fa' fc fc' lo hi lo' hi' (G k) wr.drew (HM.out k hlt).1 (HM.out k hlt).2 C4.out D4.out (Nat.le_trans hh s1) (Nat.le_trans hh' s1)).mono ?_; rintro e w1 ⟨rfl, hb1⟩; have e1 : ∀ o, w1.cell? ⟨b, o, none⟩ = wr.cell? ⟨b, o, none⟩ := fun o => hb1.cell (Nat.lt_of_lt_of_le g2 (Nat.le_trans hh s1)); have e2 : ∀ o, w1.cell? ⟨b', o, none⟩ = wr.cell? ⟨b', o, none⟩ := fun o => hb1.cell (Nat.lt_of_lt_of_le g4 (Nat.le_trans hh' s1))))
           go_wp2_with fail
           exact ⟨⟨k + 1, by omega, by go_num, hb.drew.trans (hb1.mono s1)⟩, by simp [intOf]; omega⟩)
      · go_wp2_with fail
        go_ret
        exact ⟨rfl, hb⟩
theorem eqTypeSS_same (a a' : Option Addr) (cap cap' lo hi lo' hi' : Nat) (gs : List (List Ty)) (w : World) (hn : Few gs) (hx : GroupsIn w lo hi a gs) (hy : GroupsIn w lo' hi' a' gs) (hh : hi ≤ w.heap.size) (hh' : hi' ≤ w.heap.size) :
    Calls Tryz.prog 12 #[.slice a gs.length cap, .slice a' gs.length cap'] w fun e w' => e = .returned (.bool true) ∧ Below w.heap.size w w' := by
  refine eqTypeSS_core a a' cap cap' gs.length lo hi lo' hi' (grAt gs) w (fun i hi => ⟨?_, fun j hj => ?_⟩) hh hh' ?_ ?_
  · have := (hn.2 i hi).1; omega
  · have := (hn.2 i hi).2 j hj; omega
  · rcases hx with rfl | ⟨b, off, rfl, h1, h2, h3⟩
    · exact .inl (Nat.le_refl _)
    · rcases hy with rfl | ⟨b', off', rfl, h1', h2', h3'⟩
      · exact .inl (Nat.le_refl _)
      · exact .inr ⟨b, off, b', off', rfl, rfl, h1, h2, h1', h2', h3, h3'⟩
  · have := hn.1; omega
end Go.Proofs.YtembifoimiochaaGreatDoor
/- A reading of groups of types that came in, as the walks want it. -/
namespace Go.Proofs.YtembifoimiochaaGreatDoor
open Go.ChangeShapes Go.WideShapes Go.ChangeAt Go.RowKit Go.Joins Go.Deep
set_option linter.unusedVariables false

section
variable {H : Type} {enc : TypeId × Value → H} {W : World} {hd : Bool} {fuel : Nat}

set_option maxRecDepth 100000 in
theorem fields_open {v : Value} {x : DataW H × List MemPlace} (h : DataW.trod enc Tryz.prog W 0 (fun _ => true) hd fuel 59 [v] = some x) :
  ∃ fa fs fc, v = .slice fa fs.length fc ∧ FieldsIn W 0 W.heap.size fa fs ∧ fs.length ≤ 9223372036854775807 := by
 rcases open_slice Tryz.underlying59 h with ⟨hcs, _⟩ | ⟨a, len, cap, m, n, D, Pl, hcs, _, hl, hm, hmm, _, hx⟩
 ·simp at hcs
  exact ⟨none, [], 0, hcs, .inl rfl, by simp⟩
 ·simp at hcs
  subst hcs
  simp at hmm
  subst hmm
  unfold maxLen at hm
  have ce : Tryz.prog.cellsOf 121 = 3 := by kernel_rfl
  by_cases h0 : len = 0
  ·subst h0
   exact ⟨some a, [], m, rfl, .inl rfl, by simp⟩
  obtain ⟨b, off, spot⟩ := a
  obtain ⟨rfl, s1⟩ : spot = none ∧ b < W.heap.size := by
   obtain ⟨cs0, h10, _⟩ := hx 0 (by omega)
   exact head_plain h10 (by omega)
  have each : ∀ i, i < len → ∃ f : Fd, FieldAt W b (off + i * 3) f := by
   intro i hi
   obtain ⟨cs', h1, h2⟩ := hx i (by omega)
   rw [ce] at h1
   obtain ⟨_, hlen, hcell⟩ := World.cells?_some h1
   obtain ⟨y0, y1, y2, k, _, _, t0, t1, t2⟩ := trod_struct3 Tryz.underlying121 h2
   match cs', hlen with
   | [v0, v1, v2], _ =>
    have e0 := hcell 0 (by omega)
    have e1 := hcell 1 (by omega)
    have e2 := hcell 2 (by omega)
    rw [add_add] at e0 e1 e2
    obtain ⟨a0, g0, _, _⟩ := DataW.trod_int Tryz.underlying3 t0
    obtain ⟨a1, g1, _, _⟩ := DataW.trod_int Tryz.underlying3 t1
    obtain ⟨a2, g2, _⟩ := DataW.trod_bool Tryz.underlying4 t2
    have c1 : Tryz.prog.cellsOf 3 = 1 := by kernel_rfl
    have c2 : Tryz.prog.cellsOf 4 = 1 := by kernel_rfl
    simp [c1, c2] at g0 g1 g2
    subst g0 g1 g2
    simp at e0 e1 e2
    refine ⟨⟨a0, a1, a2⟩, ?_, ?_, ?_⟩
    ·exact add_none e0 rfl
    ·have := add_none e1 rfl; rwa [← Nat.add_assoc] at this
    ·have := add_none e2 rfl; rwa [← Nat.add_assoc] at this
  obtain ⟨fs, hfl, hfs⟩ := list_of (⟨0, 0, false⟩ : Fd) each
  subst hfl
  exact ⟨_, fs, m, rfl, .inr ⟨b, off, rfl, Nat.zero_le _, s1, hfs⟩, by omega⟩

set_option maxRecDepth 100000 in
theorem types_open {v : Value} {x : DataW H × List MemPlace} (h : DataW.trod enc Tryz.prog W 0 (fun _ => true) hd fuel 42 [v] = some x) :
  ∃ ta ts tc, v = .slice ta ts.length tc ∧ TypesIn W 0 W.heap.size ta ts ∧ ts.length ≤ 9223372036854775807 ∧ ∀ i, i < ts.length → (tyAt ts i).fields.length ≤ 9223372036854775807 := by
 rcases open_slice Tryz.underlying42 h with ⟨hcs, _⟩ | ⟨a, len, cap, m, n, D, Pl, hcs, _, hl, hm, hmm, _, hx⟩
 ·simp at hcs
  exact ⟨none, [], 0, hcs, .inl rfl, by simp, fun i hi => absurd hi (Nat.not_lt_zero _)⟩
 ·simp at hcs
  subst hcs
  simp at hmm
  subst hmm
  unfold maxLen at hm
  have ce : Tryz.prog.cellsOf 61 = 4 := by kernel_rfl
  by_cases h0 : len = 0
  ·subst h0
   exact ⟨some a, [], m, rfl, .inl rfl, by simp, fun i hi => absurd hi (Nat.not_lt_zero _)⟩
  obtain ⟨b, off, spot⟩ := a
  obtain ⟨rfl, s1⟩ : spot = none ∧ b < W.heap.size := by
   obtain ⟨cs0, h10, _⟩ := hx 0 (by omega)
   exact head_plain h10 (by omega)
  have each : ∀ i, i < len → ∃ t : Ty, TypeAt W 0 W.heap.size b (off + i * 4) t ∧ t.fields.length ≤ 9223372036854775807 := by
   intro i hi
   obtain ⟨cs', h1, h2⟩ := hx i (by omega)
   rw [ce] at h1
   obtain ⟨_, hlen, hcell⟩ := World.cells?_some h1
   obtain ⟨y0, y1, y2, y3, k, _, _, t0, t1, t2, t3⟩ := trod_struct4 Tryz.underlying61 h2
   match cs', hlen with
   | [v0, v1, v2, v3], _ =>
    have e0 := hcell 0 (by omega)
    have e1 := hcell 1 (by omega)
    have e2 := hcell 2 (by omega)
    have e3 := hcell 3 (by omega)
    rw [add_add] at e0 e1 e2 e3
    have c1 : Tryz.prog.cellsOf 3 = 1 := by kernel_rfl
    have c2 : Tryz.prog.cellsOf 4 = 1 := by kernel_rfl
    have c3 : Tryz.prog.cellsOf 59 = 1 := by kernel_rfl
    simp [c1, c2, c3] at t0 t1 t2 t3
    obtain ⟨a0, g0, _, _⟩ := DataW.trod_int Tryz.underlying3 t0
    obtain ⟨a1, g1, _, _⟩ := DataW.trod_int Tryz.underlying3 t1
    obtain ⟨a2, g2, _⟩ := DataW.trod_bool Tryz.underlying4 t2
    obtain ⟨fa, fs, fc, g3, hfs, hfl⟩ := fields_open t3
    simp at g0 g1 g2
    subst g0 g1 g2 g3
    simp at e0 e1 e2 e3
    refine ⟨⟨a0, a1, a2, fs⟩, ⟨?_, ?_, ?_, fa, fc, ?_, hfs⟩, hfl⟩
    ·exact add_none e0 rfl
    ·have := add_none e1 rfl; rwa [← Nat.add_assoc] at this
    ·have := add_none e2 rfl; rwa [← Nat.add_assoc] at this
    ·have := add_none e3 rfl; rwa [← Nat.add_assoc] at this
  obtain ⟨ts, hfl, hfs⟩ := list_of (⟨0, 0, false, []⟩ : Ty) each
  subst hfl
  exact ⟨_, ts, m, rfl, .inr ⟨b, off, rfl, Nat.zero_le _, s1, fun i hi => (hfs i hi).1⟩, by omega, fun i hi => (hfs i hi).2⟩

set_option maxRecDepth 100000 in
theorem groups_open {a : Option Addr} {len cap : Nat} {d : DataW H} {p : List MemPlace} (h : DataW.Trod enc Tryz.prog W 0 (fun _ => true) hd 22 (.slice a len cap) d p) :
  ∃ gs : List (List Ty), gs.length = len ∧ GroupsIn W 0 W.heap.size a gs ∧ Lens gs := by
 obtain ⟨fuel, hf⟩ := h
 rcases open_slice1 Tryz.underlying22 (by kernel_rfl) hf with ⟨hcs, _⟩ | ⟨x, l, c, m, n, V, D, Pl, hcs, _, hl, hm, hmm, _, hx⟩
 ·simp [Value.cells] at hcs
  obtain ⟨rfl, rfl, rfl⟩ := hcs
  exact ⟨[], rfl, .inl rfl, by simp, fun i hi => absurd hi (Nat.not_lt_zero _)⟩
 ·simp [Value.cells] at hcs
  obtain ⟨rfl, rfl, rfl⟩ := hcs
  simp at hmm
  subst hmm
  unfold maxLen at hm
  by_cases h0 : len = 0
  ·exact ⟨[], h0.symm, .inl rfl, by simp, fun i hi => absurd hi (Nat.not_lt_zero _)⟩
  obtain ⟨b, off, spot⟩ := x
  have hc := (hx 0 (by omega)).1
  have hspot : spot = none := by simpa [Addr.add] using World.cell?_spot hc
  subst hspot
  have s1 : b < W.heap.size := cell_lt hc
  have each : ∀ i, i < len → ∃ g : List Ty, GroupAt W 0 W.heap.size b (off + i) g ∧ g.length ≤ 9223372036854775807 ∧ ∀ j, j < g.length → (tyAt g j).fields.length ≤ 9223372036854775807 := by
   intro i hi
   obtain ⟨e0, t0⟩ := hx i (by omega)
   obtain ⟨ta, ts, tc, g0, hts, q1, q2⟩ := types_open t0
   rw [g0] at e0
   exact ⟨ts, ⟨ta, tc, add_none e0 rfl, hts⟩, q1, q2⟩
  obtain ⟨gs, hgl, hgs⟩ := list_of ([] : List Ty) each
  subst hgl
  exact ⟨gs, rfl, .inr ⟨b, off, rfl, Nat.zero_le _, s1, fun i hi => (hgs i hi).1⟩, by omega, fun i hi => (hgs i hi).2⟩
end
end Go.Proofs.YtembifoimiochaaGreatDoor
