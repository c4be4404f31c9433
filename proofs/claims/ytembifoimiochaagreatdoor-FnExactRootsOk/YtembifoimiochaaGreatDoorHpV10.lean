/- The space of a heap as it is made: its cells. -/
import Derived.Test.YtembifoimiochaaGreatDoorHpV9
namespace Go.Proofs.YtembifoimiochaaGreatDoor
open Go.ChangeShapes Go.WideShapes Go.ChangeAt Go.RowKit Go.Shelf Go.Deep
set_option linter.unusedVariables false
set_option linter.unusedSimpArgs false

/-- The cells of a new space. -/
def startsZ : Nat → List Value
 | 0 => []
 | n + 1 => .int .i64 0 :: .slice none 0 0 :: startsZ n
def spaceZ (x y : Value) : List Value := [x, y] ++ (List.replicate 160 (.int .i64 0) ++ ([.slice none 0 0, .int .i64 0, .int .i64 0, .slice none 0 0, .int .i64 0, .int .i64 0] ++ (startsZ 160 ++ [.slice none 0 0, .int .u64 0, .int .u64 0, .int .u64 0])))
set_option maxRecDepth 100000 in
theorem run_build_space (x y : Value) (w : World) : (Instr.build 106 #[(0, .agg #[x, y])]).run Tryz.prog w = .ok (.agg (spaceZ x y).toArray) w := by kernel_rfl
set_option maxRecDepth 100000 in
theorem spaceZ_info : (Tryz.prog.info? 106).map (fun i => (i.size, i.zero)) = some (492, some (.agg (spaceZ (.slice none 0 0) (.slice none 0 0)).toArray)) := by kernel_rfl
set_option maxRecDepth 100000 in
theorem spaceCells (x y : Value) : (Tryz.zeroCells106.setIfInBounds 0 x).setIfInBounds 1 y = (spaceZ x y).toArray := by kernel_rfl
set_option maxRecDepth 100000 in
theorem spaceZ_len (x y : Value) : (spaceZ x y).length = 492 := by kernel_rfl
theorem splice_len {cur cs : List Value} {off : Nat} (h : off + cs.length ≤ cur.length) : (splice cur off cs).length = cur.length := by
 unfold splice
 simp only [List.length_append, List.length_take, List.length_drop]
 omega
theorem splice_out {cur cs : List Value} {off o : Nat} (h : off + cs.length ≤ cur.length) (ho : o < off ∨ off + cs.length ≤ o) : (splice cur off cs)[o]? = cur[o]? := by
 unfold splice
 have hl : (cur.take off).length = off := by rw [List.length_take]; omega
 rcases ho with ho | ho
 ·rw [List.getElem?_append_left (by omega), List.getElem?_take_of_lt ho]
 ·rw [List.getElem?_append_right (by omega), hl, List.getElem?_append_right (by omega), List.getElem?_drop]
  congr 1; omega
theorem splice_in {cur cs : List Value} {off j : Nat} (h : off + cs.length ≤ cur.length) (hj : j < cs.length) : (splice cur off cs)[off + j]? = cs[j]? := by
 unfold splice
 have hl : (cur.take off).length = off := by rw [List.length_take]; omega
 rw [List.getElem?_append_right (by omega), hl, List.getElem?_append_left (by omega)]
 congr 1; omega
theorem startsZ_at {m : List Value} : ∀ (k n : Nat), n < k → (startsZ k ++ m)[n * 2]? = some (.int .i64 0) ∧ (startsZ k ++ m)[n * 2 + 1]? = some (.slice none 0 0)
 | 0, n, h => by omega
 | k + 1, 0, _ => ⟨rfl, rfl⟩
 | k + 1, n + 1, h => by
  have := startsZ_at (m := m) k n (by omega)
  rw [show (n + 1) * 2 = n * 2 + 1 + 1 by omega]
  exact ⟨this.1, this.2⟩
theorem app3 (A B C D : List Value) (k : Nat) (ha : A.length = 2) (hb : B.length = 160) (hc : C.length = 6) : (A ++ (B ++ (C ++ D)))[168 + k]? = D[k]? := by
 rw [List.getElem?_append_right (by omega), ha, List.getElem?_append_right (by omega), hb, List.getElem?_append_right (by omega), hc]
 rw [show 168 + k - 2 - 160 - 6 = k by omega]
set_option maxRecDepth 100000 in
theorem spaceZ_starts (x y : Value) {n : Nat} (hn : n < 160) : (spaceZ x y)[168 + n * 2]? = some (.int .i64 0) ∧ (spaceZ x y)[168 + n * 2 + 1]? = some (.slice none 0 0) := by
 have h := startsZ_at (m := [.slice none 0 0, .int .u64 0, .int .u64 0, .int .u64 0]) 160 n hn
 have e : ∀ k, (spaceZ x y)[168 + k]? = (startsZ 160 ++ [.slice none 0 0, .int .u64 0, .int .u64 0, .int .u64 0])[k]? := fun k => app3 _ _ _ _ k rfl (List.length_replicate) rfl
 generalize startsZ 160 ++ [.slice none 0 0, .int .u64 0, .int .u64 0, .int .u64 0] = T at h e
 rw [show 168 + n * 2 + 1 = 168 + (n * 2 + 1) by omega, e, e]
 exact h
set_option maxRecDepth 100000 in
theorem spaceZ_ends (x y : Value) : (((spaceZ x y)[0]? = some x ∧ (spaceZ x y)[1]? = some y) ∧ ((spaceZ x y)[162]? = some (.slice none 0 0) ∧ (spaceZ x y)[163]? = some (.int .i64 0) ∧ (spaceZ x y)[164]? = some (.int .i64 0) ∧ (spaceZ x y)[165]? = some (.slice none 0 0) ∧ (spaceZ x y)[166]? = some (.int .i64 0) ∧ (spaceZ x y)[167]? = some (.int .i64 0))) ∧ ((spaceZ x y)[488]? = some (.slice none 0 0) ∧ (spaceZ x y)[489]? = some (.int .u64 0) ∧ (spaceZ x y)[490]? = some (.int .u64 0) ∧ (spaceZ x y)[491]? = some (.int .u64 0)) := by
 refine ⟨⟨⟨?_, ?_⟩, ?_, ?_, ?_, ?_, ?_, ?_⟩, ?_, ?_, ?_, ?_⟩ <;> kernel_rfl
theorem spa_mk {w : World} {lo hi sb : Nat} {gs : List (List Ty)} {h : GHeap} {ra : Option Addr} {rc cb co cc : Nat} {Z : List Value} (R : Rec w sb 106 Z) (hh : hi ≤ sb) (ht : TabIn w lo hi ra cb co gs)
 (e0 : Z[0]? = some (.slice ra (kinCount gs) rc)) (e1 : Z[1]? = some (.slice (some ⟨cb, co, none⟩) (kinCount gs) cc)) (ew : ∀ i, i < h.words.length → Z[2 + i]? = some (.int .i64 (nAt h.words i)))
 (e2 : Z[162]? = some (.slice (some ⟨sb, 2 + 0, none⟩) h.old.toNat 160)) (e3 : Z[163]? = some (.int .i64 ((0 : Nat) : Int))) (e4 : Z[164]? = some (.int .i64 ((h.oldAt.toNat : Nat) : Int)))
 (e5 : Z[165]? = some (.slice (some ⟨sb, 2 + h.old.toNat, none⟩) (h.words.length - h.old.toNat) (160 - h.old.toNat))) (e6 : Z[166]? = some (.int .i64 ((h.old.toNat : Nat) : Int))) (e7 : Z[167]? = some (.int .i64 ((h.youngAt.toNat : Nat) : Int))) : SpA w lo hi sb gs h ra rc cb co cc :=
 ⟨hh, R.lt, ht, R.cell e0, R.cell e1, fun i hi' => R.cell (ew i hi'), R.cell e2, R.cell e3, R.cell e4, R.cell e5, R.cell e6, R.cell e7⟩
theorem stAt_mk {w : World} {sb : Nat} {Z : List Value} (R : Rec w sb 106 Z) (e : ∀ n, n < 160 → Z[168 + n * 2]? = some (.int .i64 0) ∧ Z[168 + n * 2 + 1]? = some (.slice none 0 0)) : StAt w sb (fun _ => 0) :=
 fun n hn => ⟨R.cell (e n hn).1, R.cell (e n hn).2⟩
theorem logAt_mk {w : World} {sb S : Nat} {Z : List Value} (R : Rec w sb 106 Z) (e0 : Z[488]? = some (.slice none 0 0)) (e1 : Z[489]? = some (.int .u64 0)) (e2 : Z[490]? = some (.int .u64 0)) (e3 : Z[491]? = some (.int .u64 0)) : LogAt w S sb [] := by
 refine ⟨none, 0, R.cell e0, NRow.nil _ _, fun j hj => ?_⟩
 have hz : (fun i => (fun (m : Nat) => decide ((m : Int) ∈ ([] : List Int))) (64 * j + i)) = fun _ => false := by funext i; simp
 rw [hz, bv_none]
 have : j = 0 ∨ j = 1 ∨ j = 2 := by omega
 rcases this with rfl | rfl | rfl
 ·exact R.cell e1
 ·exact R.cell e2
 ·exact R.cell e3
theorem tab_blocks {w w' : World} {lo hi : Nat} {ra : Option Addr} {cb co : Nat} {gs : List (List Ty)} (h : TabIn w lo hi ra cb co gs) (b : ∀ j, j < hi → w'.heap[j]? = w.heap[j]?) : TabIn w' lo hi ra cb co gs :=
 ⟨h.1.same (fun j _ hj => b j hj) (Nat.le_refl _) (Nat.le_refl _), h.2.1, fun i hi' => (World.cell?_of_block (w := w) (b cb h.2.1)).trans (h.2.2 i hi')⟩
end Go.Proofs.YtembifoimiochaaGreatDoor
