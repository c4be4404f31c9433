/- PhL: OpenHeap, OpenHeapI, HpLaw. -/
import Derived.Test.YtembifoimiochaaGreatDoorGenHeap
import Derived.Test.YtembifoimiochaaGreatDoorHpS1
import Derived.Test.YtembifoimiochaaGreatDoorPaOne
import Derived.Deep.RegionHeld3
/- Readings of what came in, as the walks want it. Written by tools/genopen.py. -/
namespace Go.Proofs.YtembifoimiochaaGreatDoor
open Go.ChangeShapes Go.WideShapes Go.ChangeAt Go.RowKit Go.Joins Go.Deep
set_option linter.unusedVariables false
section
variable {H : Type} {enc : TypeId × Value → H} {W : World} {hd : Bool} {fuel : Nat}

set_option maxRecDepth 100000 in
theorem nums_open {v : Value} {x : DataW H × List MemPlace} (h : DataW.trod enc Tryz.prog W 0 (fun _ => true) hd fuel 23 [v] = some x) :
    ∃ fa fs fc, v = .slice fa fs.length fc ∧ NumsM false W 0 W.heap.size fa fs ∧ NumsB 9223372036854775807 fs := by
  rcases open_slice Tryz.underlying23 h with ⟨hcs, _⟩ | ⟨a, len, cap, m, n, D, Pl, hcs, _, hl, hm, hmm, _, hx⟩
  · simp at hcs
    exact ⟨none, [], 0, hcs, .inl rfl, Nat.zero_le _⟩
  · simp at hcs
    subst hcs
    simp at hmm
    subst hmm
    unfold maxLen at hm
    have ce : Tryz.prog.cellsOf 3 = 1 := by kernel_rfl
    by_cases h0 : len = 0
    · subst h0
      exact ⟨some a, [], m, rfl, .inl rfl, Nat.zero_le _⟩
    obtain ⟨b, off, spot⟩ := a
    obtain ⟨rfl, s1⟩ : spot = none ∧ b < W.heap.size := by
      obtain ⟨cs0, h10, _⟩ := hx 0 (by omega)
      exact head_plain h10 (by omega)
    have each : ∀ i, i < len → ∃ f : Int, W.cell? ⟨b, off + i, none⟩ = some (.int .i64 f) := by
      intro i hi
      obtain ⟨cs', h1, h2⟩ := hx i (by omega)
      rw [ce] at h1
      obtain ⟨_, hlen, hcell⟩ := World.cells?_some h1
      obtain ⟨a0, g0, _, _⟩ := DataW.trod_int Tryz.underlying3 h2
      subst g0
      have e0 := hcell 0 (by omega)
      rw [add_add] at e0
      simp at e0
      exact ⟨a0, add_none e0 rfl⟩
    obtain ⟨fs, hfl, hfs⟩ := list_of (0 : Int) each
    subst hfl
    exact ⟨_, fs, m, rfl, .inr ⟨b, off, rfl, Nat.zero_le _, s1, (fun e => by cases e), hfs⟩, (by unfold NumsB; omega)⟩
theorem array5 {α : Type} {cs : Array α} (h : cs.size = 5) : ∃ c0 c1 c2 c3 c4, cs = #[c0, c1, c2, c3, c4] := by
  obtain ⟨l⟩ := cs
  match l, h with
  | [c0, c1, c2, c3, c4], _ => exact ⟨c0, c1, c2, c3, c4, rfl⟩
theorem trod_struct5 {P : Program} {base : Nat} {spare : Nat → Bool} {held : Bool} {fuel : Nat} {t : TypeId} {f0 f1 f2 f3 f4 : Field} {cs : List Value} {x : DataW H × List MemPlace} (ht : P.underlying t = some (.struct #[f0, f1, f2, f3, f4])) (h : DataW.trod enc P W base spare held fuel t cs = some x) :
    ∃ y0 y1 y2 y3 y4 n, x = (.agg [y0.1, y1.1, y2.1, y3.1, y4.1], y0.2 ++ (y1.2 ++ (y2.2 ++ (y3.2 ++ y4.2)))) ∧ cs.length = P.cellsOf t ∧ DataW.trod enc P W base spare held n f0.type ((cs.drop f0.offset).take (P.cellsOf f0.type)) = some y0 ∧ DataW.trod enc P W base spare held n f1.type ((cs.drop f1.offset).take (P.cellsOf f1.type)) = some y1 ∧ DataW.trod enc P W base spare held n f2.type ((cs.drop f2.offset).take (P.cellsOf f2.type)) = some y2 ∧ DataW.trod enc P W base spare held n f3.type ((cs.drop f3.offset).take (P.cellsOf f3.type)) = some y3 ∧ DataW.trod enc P W base spare held n f4.type ((cs.drop f4.offset).take (P.cellsOf f4.type)) = some y4 := by
  obtain ⟨xs, n, _, rfl, hl, hlen, hf⟩ := DataW.trod_struct ht h
  match xs, hlen with
  | [y0, y1, y2, y3, y4], _ => exact ⟨y0, y1, y2, y3, y4, n, by simp, hl, by simpa using hf 0 f0 rfl, by simpa using hf 1 f1 rfl, by simpa using hf 2 f2 rfl, by simpa using hf 3 f3 rfl, by simpa using hf 4 f4 rfl⟩
theorem open_agg5 {P : Program} {base : Nat} {spare : Nat → Bool} {held : Bool} {r : Reach} {b0 : Nat} {t : TypeId} {f0 f1 f2 f3 f4 : Field} {v : Value} {d : DataW H} {p : List MemPlace} (hs : P.underlying t = some (.struct #[f0, f1, f2, f3, f4])) (hone : oneCellFields P #[f0, f1, f2, f3, f4] = true) (hC : P.cellsOf t = 5)
    (hv : Value.okWide P W r b0 t v) (h : DataW.Trod enc P W base spare held t v d p) :
    ∃ (v0 v1 v2 v3 v4 : Value) (y0 y1 y2 y3 y4 : DataW H × List MemPlace) (n : Nat), v = .agg #[v0, v1, v2, v3, v4] ∧ d = .agg [y0.1, y1.1, y2.1, y3.1, y4.1] ∧ p = y0.2 ++ (y1.2 ++ (y2.2 ++ (y3.2 ++ y4.2))) ∧
      DataW.trod enc P W base spare held n f0.type [v0] = some y0 ∧ DataW.trod enc P W base spare held n f1.type [v1] = some y1 ∧ DataW.trod enc P W base spare held n f2.type [v2] = some y2 ∧ DataW.trod enc P W base spare held n f3.type [v3] = some y3 ∧ DataW.trod enc P W base spare held n f4.type [v4] = some y4 := by
  obtain ⟨cs, rfl, hsz⟩ := okWide_struct hs hv
  obtain ⟨c0, c1, c2, c3, c4, rfl⟩ := array5 (hsz.trans hC)
  obtain ⟨fuel, hf⟩ := h
  obtain ⟨y0, y1, y2, y3, y4, n, hx, _, h0, h1, h2, h3, h4⟩ := trod_struct5 hs hf
  obtain ⟨o0, k0⟩ := hone_of hone 0 f0 rfl
  obtain ⟨o1, k1⟩ := hone_of hone 1 f1 rfl
  obtain ⟨o2, k2⟩ := hone_of hone 2 f2 rfl
  obtain ⟨o3, k3⟩ := hone_of hone 3 f3 rfl
  obtain ⟨o4, k4⟩ := hone_of hone 4 f4 rfl
  simp only [Prod.mk.injEq] at hx
  exact ⟨c0, c1, c2, c3, c4, y0, y1, y2, y3, y4, n, rfl, hx.1, hx.2, by simpa [Value.cells, o0, k0] using h0, by simpa [Value.cells, o1, k1] using h1, by simpa [Value.cells, o2, k2] using h2, by simpa [Value.cells, o3, k3] using h3, by simpa [Value.cells, o4, k4] using h4⟩
end
end Go.Proofs.YtembifoimiochaaGreatDoor
/- A heap that came in: its lists, and that their numbers are of 64 bits. -/
namespace Go.Proofs.YtembifoimiochaaGreatDoor
open Go.ChangeShapes Go.WideShapes Go.ChangeAt Go.RowKit Go.Joins Go.Deep
set_option linter.unusedVariables false

theorem i64_lit {n : Int} (h : (Lit.int .i64 n).wf = true) : i64 n := by
 simp [Lit.wf, IntKind.min, IntKind.max, IntKind.bits, IntKind.signed] at h
 unfold i64
 omega
/-- All that a heap says is of 64 bits. -/
structure HI (h : GHeap) : Prop where
 wb : ∀ i, i64 (nAt h.words i)
 lb : ∀ i, i64 (nAt h.log i)
 ob : i64 h.old
 ab : i64 h.oldAt
 yb : i64 h.youngAt
theorem i64_zero : i64 0 := by unfold i64; omega
theorem i64_all {xs : List Int} (h : ∀ i, i < xs.length → i64 (nAt xs i)) (i : Nat) : i64 (nAt xs i) := by
 by_cases hi : i < xs.length
 ·exact h i hi
 ·have : nAt xs i = 0 := by unfold nAt; rw [List.getD_eq_getElem?_getD, List.getElem?_eq_none (by omega)]; rfl
  rw [this]; exact i64_zero
section
variable {H : Type} {enc : TypeId × Value → H} {W : World} {hd : Bool} {fuel : Nat}

set_option maxRecDepth 100000 in
theorem numsI_open {v : Value} {x : DataW H × List MemPlace} (h : DataW.trod enc Tryz.prog W 0 (fun _ => true) hd fuel 23 [v] = some x) :
  ∃ fa fs fc, v = .slice fa fs.length fc ∧ NumsM false W 0 W.heap.size fa fs ∧ NumsB 9223372036854775807 fs ∧ ∀ i, i64 (nAt fs i) := by
 rcases open_slice Tryz.underlying23 h with ⟨hcs, _⟩ | ⟨a, len, cap, m, n, D, Pl, hcs, _, hl, hm, hmm, _, hx⟩
 ·simp at hcs
  exact ⟨none, [], 0, hcs, .inl rfl, Nat.zero_le _, i64_all fun i hi => absurd hi (Nat.not_lt_zero _)⟩
 ·simp at hcs
  subst hcs
  simp at hmm
  subst hmm
  unfold maxLen at hm
  have ce : Tryz.prog.cellsOf 3 = 1 := by kernel_rfl
  by_cases h0 : len = 0
  ·subst h0
   exact ⟨some a, [], m, rfl, .inl rfl, Nat.zero_le _, i64_all fun i hi => absurd hi (Nat.not_lt_zero _)⟩
  obtain ⟨b, off, spot⟩ := a
  obtain ⟨rfl, s1⟩ : spot = none ∧ b < W.heap.size := by
   obtain ⟨cs0, h10, _⟩ := hx 0 (by omega)
   exact head_plain h10 (by omega)
  have each : ∀ i, i < len → ∃ f : Int, W.cell? ⟨b, off + i, none⟩ = some (.int .i64 f) ∧ i64 f := by
   intro i hi
   obtain ⟨cs', h1, h2⟩ := hx i (by omega)
   rw [ce] at h1
   obtain ⟨_, hlen, hcell⟩ := World.cells?_some h1
   obtain ⟨a0, g0, _, q0⟩ := DataW.trod_int Tryz.underlying3 h2
   subst g0
   have e0 := hcell 0 (by omega)
   rw [add_add] at e0
   simp at e0
   exact ⟨a0, add_none e0 rfl, i64_lit q0⟩
  obtain ⟨fs, hfl, hfs⟩ := list_of (0 : Int) each
  subst hfl
  exact ⟨_, fs, m, rfl, .inr ⟨b, off, rfl, Nat.zero_le _, s1, (fun e => by cases e), fun i hi => (hfs i hi).1⟩, (by unfold NumsB; omega), i64_all fun i hi => (hfs i hi).2⟩
end
end Go.Proofs.YtembifoimiochaaGreatDoor
namespace Go.Proofs.YtembifoimiochaaGreatDoor
open Go.ChangeShapes Go.WideShapes Go.ChangeAt Go.RowKit Go.Deep
set_option linter.unusedVariables false
/-- Groups in blocks of their own, from lo on. -/
def GN (w : World) (lo : Nat) (n : Option Addr) (gs : List (List Ty)) : Prop := ∃ hi, lo ≤ hi ∧ hi ≤ w.heap.size ∧ GroupsNew w lo hi n gs
theorem GN.below {w w' : World} {lo : Nat} {n : Option Addr} {gs : List (List Ty)} (h : GN w lo n gs) (hb : Below w.heap.size w w') : GN w' lo n gs := by
 obtain ⟨hi, h1, h2, h3⟩ := h
 exact ⟨hi, h1, Nat.le_trans h2 hb.size, h3.keep (hb.mono h2)⟩
/-- A heap's lists, as they lie. -/
def PMh (md : Bool) (w : World) (lo hi : Nat) (a0 a4 : Option Addr) (x : GHeap) : Prop := NumsM md w lo hi a0 x.words ∧ NumsM md w lo hi a4 x.log
theorem PMh.keep {md : Bool} {w w' : World} {lo hi : Nat} {a0 a4 : Option Addr} {x : GHeap} (h : PMh md w lo hi a0 a4 x) (hb : Below hi w w') : PMh md w' lo hi a0 a4 x := ⟨h.1.keep hb, h.2.keep hb⟩
/-- A heap's lists in blocks of their own, from lo on. -/
def HN (w : World) (lo : Nat) (n0 n4 : Option Addr) (x : GHeap) : Prop := ∃ hi, lo ≤ hi ∧ hi ≤ w.heap.size ∧ PMh true w lo hi n0 n4 x
theorem HN.below {w w' : World} {lo : Nat} {n0 n4 : Option Addr} {x : GHeap} (h : HN w lo n0 n4 x) (hb : Below w.heap.size w w') : HN w' lo n0 n4 x := by
 obtain ⟨hi, h1, h2, h3⟩ := h
 exact ⟨hi, h1, Nat.le_trans h2 hb.size, h3.keep (hb.mono h2)⟩
theorem numsIn {md : Bool} {w : World} {lo hi : Nat} {a : Option Addr} {xs : List Int} (h : NumsM md w lo hi a xs) : IntsIn w 0 hi a xs := by
 rcases h with h | ⟨b, off, h1, h2, h3, _, h5⟩
 ·exact .inl h
 ·exact .inr ⟨b, off, h1, Nat.zero_le _, h3, h5⟩
theorem HN.hin {w : World} {lo : Nat} {n0 n4 : Option Addr} {x : GHeap} (h : HN w lo n0 n4 x) (hB : HeapB 1048576 x) (hI : HI x) : ∃ hi, HIn w 0 hi x n0 n4 x.words.length x.log.length := by
 obtain ⟨hi, h1, h2, h3, h4⟩ := h
 exact ⟨hi, numsIn h3, numsIn h4, hB.1, hB.2, Nat.le_refl _, Nat.le_refl _, hI.wb, hI.lb, hI.ob, hI.ab, hI.yb, h2⟩
end Go.Proofs.YtembifoimiochaaGreatDoor
