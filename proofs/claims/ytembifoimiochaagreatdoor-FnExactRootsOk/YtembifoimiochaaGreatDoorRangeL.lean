/- A range over a function whose body is told what lies in memory at each yield, and may leave early. -/
import Derived.Test.YtembifoimiochaaGreatDoorPaOne
import Derived.RangeFuncNested
import Derived.RangeFuncBound
import Derived.RangeFuncCalls
import Derived.RangeFuncLeaves
import Derived.RangeFuncFrom
import Derived.RangeFuncBox
namespace Go.Proofs.YtembifoimiochaaGreatDoor
open Go.ChangeShapes Go.WideShapes Go.ChangeAt Go.RowKit Go.Deep
set_option linter.unusedVariables false

/-- The iterator's contract: G tells what lies where x is handed over. -/
def SeqL {α : Type} (F : Fence) (n : Nat) (P : Program) (g : Nat) (cap lb : Array Value) (encs : α → Array Value) (Kp : World → World → Prop) (G : List α → α → World → Prop) (S Sp : List α → Prop) (w : World) : Prop :=
 ∀ (l : Nat) (J Jx : List α → World → Prop) (W : World), Below w.heap.size w W → w.heap.size + 2 ≤ W.heap.size → OwnFrom W.heap.size J → OwnFrom W.heap.size Jx →
  (∀ pre x W1, J pre W1 → G pre x W1 → YieldAt F (n - 1) P l (encs x) W1 fun e W' => (e = .returned (.bool true) ∧ J (pre ++ [x]) W' ∧ Kp W1 W') ∨ (e = .returned (.bool false) ∧ Jx (pre ++ [x]) W' ∧ Kp W1 W')) →
  J [] W → CallsIn F n P g (cap ++ #[.func (.yield l) #[] #[]] ++ lb) W fun e W' => (∃ v, e = .returned v) ∧ ((∃ xs, S xs ∧ J xs W') ∨ (∃ pre, Sp pre ∧ Jx pre W'))

/-- How a round may end. -/
def postL {α : Type} (B : Nat) (Kp : World → World → Prop) (I : List α → World → Prop) (Ix : Code → List α → World → Prop) (xs : List α) (W : World) : Exit → Act → World → Prop
 | .normal, _, W' => KeepsFrom B W W' ∧ Kp W W' ∧ I xs W'
 | .ret, _, W' => KeepsFrom B W W' ∧ Kp W W' ∧ Ix .ret xs W'
 | .exit id, _, W' => KeepsFrom B W W' ∧ Kp W W' ∧ Ix (.exit id) xs W'
 | .goto t, _, W' => KeepsFrom B W W' ∧ Kp W W' ∧ Ix (.goto t) xs W'
 | .panic _, _, _ => False
 | .outgrown, _, _ => False

section
variable {F : Fence} {n : Nat} {P : Program}
/-- The record of the loop, and the block of its deferred calls. -/
structure LpAt (w : World) (r : Loop) (W : World) : Prop where
 lp : W.heap[w.heap.size + 1]? = some (.loop r)
 ds : W.heap[w.heap.size]? = some (.deferred (some []))

theorem range_leave {α : Type} {g : Operand} {ps : Array Tmp} {assign body : Code} {Q : Exit → Act → World → Prop} {a : Act} {w : World}
 (hro : F.round = none) (h1 : 1 ≤ n) {gf : Nat} {cap lb : Array Value} (hg : a.eval g = .func (.func gf) cap lb) (hFg : F.fn gf) (eg : ∀ args w, (callFunc gf args).run P w = .ok (.enter gf args) w)
 {encs : α → Array Value} {Kp : World → World → Prop} {G : List α → α → World → Prop} {S Sp : List α → Prop} {w0 : World} (hseq : SeqL F (n - 1) P gf cap lb encs Kp G S Sp w0)
 (hKt : ∀ {A B C : World}, Kp A B → Kp B C → Kp A C) (hKb : ∀ (W : World) (o o' : Obj), W.heap[w.heap.size + 1]? = some o → o.isCells = false → Kp W (W.putObj (w.heap.size + 1) o')) (hb0 : Below w0.heap.size w0 w) (hps : ∀ x, (encs x).size = ps.size)
 (I : List α → World → Prop) (Ix : Code → List α → World → Prop) (hI : OwnFrom w.heap.size I) (hIx : ∀ c, OwnFrom w.heap.size (Ix c)) (hG : ∀ pre, OwnFrom w.heap.size (G pre)) (h0 : I [] w) (Ax : α → Act → World → Prop) (hAx : ∀ x a', OwnFrom w.heap.size (fun (_ : Unit) W => Ax x a' W))
 (hassign : ∀ (l : Nat) (pre : List α) (x : α) (W : World) (K : Act → World → Prop), I pre W → G pre x W → (∀ a' W', KeepsFrom w.heap.size W W' → Kp W W' → I pre W' → G pre x W' → Ax x a' W' → K a' W') → assign.wpIn (F.inRound l) (n - 1 - 1) P (Exit.then K (fun _ _ _ => False)) { tmps := (ps.zip (encs x)).foldl (fun t (p, v) => t.setIfInBounds p v) a.tmps, defers := [] } W)
 (hbody : ∀ (l : Nat) (pre : List α) (x : α) (a' : Act) (W : World), I pre W → G pre x W → Ax x a' W → body.wpIn (F.inRound l) (n - 1 - 1) P (postL w.heap.size Kp I Ix (pre ++ [x]) W) a' W)
 (hdone : ∀ (D : Nat) (xs : List α) (W : World), w.heap.size ≤ D → S xs → I xs W → W.heap[D]? = some (.deferred (some [])) → Q .normal { a with defers := { target := .collected D, args := #[] } :: a.defers } W)
 (hstop : ∀ (D : Nat) (c : Code) (pre : List α) (W : World), w.heap.size ≤ D → Sp pre → Ix c pre W → W.heap[D]? = some (.deferred (some [])) → c.wpIn F n P Q { a with defers := { target := .collected D, args := #[] } :: a.defers } W) :
 (Code.rangeFunc g ps assign body).wpIn F n P Q a w := by
 refine wpIn_rangeFunc fun fn hfn => ?_
 rw [hro]
 let R : LoopState → Option Code → Loop := fun st pe => { state := st, pending := pe, fn, tmps := a.tmps, params := ps, assign, body, defers := w.heap.size }
 have hR : ∀ st pe, R st pe = { state := st, pending := pe, fn, tmps := a.tmps, params := ps, assign, body, defers := w.heap.size } := fun _ _ => rfl
 obtain ⟨V, hV⟩ : ∃ V, (w.alloc (.deferred (some []))).alloc (.loop (R .ready none)) = V := ⟨_, rfl⟩
 have hs : V.heap.size = w.heap.size + 1 + 1 := by rw [← hV]; simp
 have L0 : LpAt w (R .ready none) V := by
  rw [← hV]
  exact ⟨by have := World.alloc_heap_new (w.alloc (.deferred (some []))) (.loop (R .ready none)); rwa [World.size_alloc] at this, (Below.heap_alloc _ _ _ (by simp)).trans (World.alloc_heap_new w _)⟩
 have I0 : I [] V := by rw [← hV]; exact hI.alloc _ (hI.alloc _ h0)
 have B0 : Below w0.heap.size w0 V := by
  rw [← hV]; exact hb0.trans ((((Below.refl _ w).alloc (Nat.le_refl _) _).alloc (by simp) _).mono hb0.size)
 refine ⟨w.heap.size + 1, [{ target := .collected w.heap.size, args := #[] }], V, { target := .fn (.func gf) lb, args := cap ++ #[.func (.yield (w.heap.size + 1)) #[] #[]] }, V, gf, cap ++ #[.func (.yield (w.heap.size + 1)) #[] #[]] ++ lb, V, by rw [← hV, hR]; exact run_enterLoop_outer _ _ _ _ _, by simp only [resolve, hg]; simp [go_sem], fun f' hf' => by simp [Target.leads] at hf'; subst hf'; exact hFg, by simp [invoke, go_sem, eg], fun _ => h1, ?_⟩
 have hrow : ∀ {A B : World} {row : Option Nat}, (∀ r, row = some r → V.heap.size ≤ r ∧ ∃ o : Obj, A.heap[r]? = some o ∧ o.isCells = false) → (∀ r, row = some r → w.heap.size ≤ r ∧ ∃ o : Obj, A.heap[r]? = some o ∧ o.isCells = false) := fun hr r e => by
  obtain ⟨q1, q2⟩ := hr r e
  exact ⟨by omega, q2⟩
 have hkeep : ∀ {A B : World} {row : Option Nat} {r : Loop}, A.grownBy B row → (∀ r, row = some r → V.heap.size ≤ r ∧ ∃ o : Obj, A.heap[r]? = some o ∧ o.isCells = false) → LpAt w r A → LpAt w r B := fun hgr hr h => ⟨(hgr.block _ (Array.getElem?_eq_some_iff.1 h.lp).1 (fun e => by have := (hr _ e.symm).1; omega)).trans h.lp, (hgr.block _ (Array.getElem?_eq_some_iff.1 h.ds).1 (fun e => by have := (hr _ e.symm).1; omega)).trans h.ds⟩
 refine (hseq (w.heap.size + 1) (fun pre W => I pre W ∧ LpAt w (R .ready none) W) (fun pre W => ∃ c, Ix c pre W ∧ LpAt w (R .done (some c)) W) V B0 (by have := hb0.size; omega) (fun s A B row hh hgr hr => ⟨hI s A B row hh.1 hgr (hrow (B := B) hr), hkeep hgr hr hh.2⟩) (fun s A B row hh hgr hr => by
  obtain ⟨c, h1, h2⟩ := hh
  exact ⟨c, hIx c s A B row h1 hgr (hrow (B := B) hr), hkeep hgr hr h2⟩) ?_ ⟨I0, L0⟩).mono ?_
 ·rintro pre x W ⟨hi, hL⟩ hGx
  have hy := run_yield (P := P) (args := encs x) hL.lp (by rw [hR]; exact hps x)
  rw [hR] at hy
  refine ⟨fn, _, assign, body, hy, roundIn_of_wpIn hfn (hassign _ pre x W _ hi hGx fun a' Wa kfa kpa ia ga aa => ?_)⟩
  have lpa := kfa.same _ _ (by omega) hL.lp rfl
  have dsa := kfa.same _ _ (Nat.le_refl _) hL.ds rfl
  obtain ⟨U, hU⟩ : ∃ U, U = Wa.putObj (w.heap.size + 1) (.loop (R .busy none)) := ⟨_, rfl⟩
  have hbg : (Instr.beginRound (w.heap.size + 1)).run P Wa = .ok () U := by rw [hU]; exact run_beginRound lpa (by rw [hR])
  have u1 : U.heap[w.heap.size + 1]? = some (.loop (R .busy none)) := by rw [hU]; exact World.putObj_heap_same (Array.getElem?_eq_some_iff.1 lpa).1
  have u2 : U.heap[w.heap.size]? = some (.deferred (some [])) := by rw [hU]; exact (World.putObj_heap_other (by omega)).trans dsa
  have u3 : Kp W U := by rw [hU]; exact hKt kpa (hKb _ _ _ lpa rfl)
  have u4 : I pre U := by rw [hU]; exact hI.putObj _ ia (by omega) lpa rfl
  have u5 : G pre x U := by rw [hU]; exact (hG pre).putObj _ ga (by omega) lpa rfl
  have u6 : Ax x a' U := by rw [hU]; exact (hAx x a').putObj (s := ()) _ aa (by omega) lpa rfl
  refine ⟨U, hbg, wpIn_mono (hbody _ pre x a' U u4 u5 u6) ?_⟩
  have fin : ∀ (jump : Option Code) (W3 : World), KeepsFrom w.heap.size U W3 → ∃ W4, (Instr.endRound (w.heap.size + 1) jump).run P W3 = .ok (.bool jump.isNone) W4 ∧ W4 = W3.putObj (w.heap.size + 1) (.loop (R (if jump.isNone then .ready else .done) jump)) ∧ W3.heap[w.heap.size + 1]? = some (.loop (R .busy none)) ∧ LpAt w (R (if jump.isNone then .ready else .done) jump) W4 := fun jump W3 k3 => by
   have r3 := k3.same _ _ (by omega) u1 rfl
   exact ⟨_, run_endRound (P := P) jump r3, rfl, r3, ⟨World.putObj_heap_same (Array.getElem?_eq_some_iff.1 r3).1, (World.putObj_heap_other (by omega)).trans (k3.same _ _ (Nat.le_refl _) u2 rfl)⟩⟩
  rintro e a3 W3 hp
  cases e with
  | normal =>
   obtain ⟨k3, kp3, i3⟩ := hp
   obtain ⟨W4, he, rfl, r3, l4⟩ := fin none W3 k3
   exact ⟨_, _, he, .inl ⟨rfl, ⟨hI.putObj _ i3 (by omega) r3 rfl, l4⟩, hKt (hKt u3 kp3) (hKb _ _ _ r3 rfl)⟩⟩
  | ret =>
   obtain ⟨k3, kp3, i3⟩ := hp
   obtain ⟨W4, he, rfl, r3, l4⟩ := fin (some .ret) W3 k3
   exact ⟨_, _, he, .inr ⟨rfl, ⟨_, (hIx _).putObj _ i3 (by omega) r3 rfl, l4⟩, hKt (hKt u3 kp3) (hKb _ _ _ r3 rfl)⟩⟩
  | exit id =>
   obtain ⟨k3, kp3, i3⟩ := hp
   obtain ⟨W4, he, rfl, r3, l4⟩ := fin (some (.exit id)) W3 k3
   exact ⟨_, _, he, .inr ⟨rfl, ⟨_, (hIx _).putObj _ i3 (by omega) r3 rfl, l4⟩, hKt (hKt u3 kp3) (hKb _ _ _ r3 rfl)⟩⟩
  | goto t =>
   obtain ⟨k3, kp3, i3⟩ := hp
   obtain ⟨W4, he, rfl, r3, l4⟩ := fin (some (.goto t)) W3 k3
   exact ⟨_, _, he, .inr ⟨rfl, ⟨_, (hIx _).putObj _ i3 (by omega) r3 rfl, l4⟩, hKt (hKt u3 kp3) (hKb _ _ _ r3 rfl)⟩⟩
  | panic ch => exact hp.elim
  | outgrown => exact hp.elim
 ·rintro e W2 ⟨⟨v, rfl⟩, ⟨xs, hS, hi, hL⟩ | ⟨pre, hS, c, hi, hL⟩⟩
  ·exact ⟨none, _, run_endLoop (P := P) hL.lp (by rw [hR]; simp), hdone _ xs _ (Nat.le_refl _) hS (hI.putObj _ hi (by omega) hL.lp rfl) ((World.putObj_heap_other (by omega)).trans hL.ds)⟩
  ·exact ⟨some c, _, run_endLoop (P := P) hL.lp (by rw [hR]; simp), hstop _ c pre _ (Nat.le_refl _) hS ((hIx c).putObj _ hi (by omega) hL.lp rfl) ((World.putObj_heap_other (by omega)).trans hL.ds)⟩
end
end Go.Proofs.YtembifoimiochaaGreatDoor
