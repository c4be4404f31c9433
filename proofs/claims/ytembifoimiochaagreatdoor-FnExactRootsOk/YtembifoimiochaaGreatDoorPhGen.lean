/- PhGen: IntList, GenNum0, GenHeap0, NRow, NRow0, ValRow. -/
import Derived.Test.YtembifoimiochaaGreatDoorPaOne
import Derived.Test.YtembifoimiochaaGreatDoorPaSpecA
import Derived.Test.YtembifoimiochaaGreatDoorPhWord
namespace Go.Proofs.YtembifoimiochaaGreatDoor
open Go.ChangeShapes Go.WideShapes Go.ChangeAt Go.RowKit
def nAt (l : List Int) (i : Nat) : Int := l.getD i 0
/-- The numbers xs lie at a, in blocks from lo on and below hi. -/
def IntsIn (w : World) (lo hi : Nat) (a : Option Addr) (xs : List Int) : Prop :=
  xs = [] ∨ ∃ b off, a = some ⟨b, off, none⟩ ∧ lo ≤ b ∧ b < hi ∧ ∀ i, i < xs.length → w.cell? ⟨b, off + i, none⟩ = some (.int .i64 (nAt xs i))
theorem IntsIn.keep {w w' : World} {lo hi : Nat} {a : Option Addr} {xs : List Int} (h : IntsIn w lo hi a xs) (hb : Below hi w w') : IntsIn w' lo hi a xs := by
  rcases h with rfl | ⟨b, off, rfl, h1, h2, h3⟩
  · exact .inl rfl
  · exact .inr ⟨b, off, rfl, h1, h2, fun i hi' => by rw [hb.cell (p := ⟨b, off + i, none⟩) h2]; exact h3 i hi'⟩
end Go.Proofs.YtembifoimiochaaGreatDoor
namespace Go.Proofs.YtembifoimiochaaGreatDoor
open Go.ChangeShapes Go.WideShapes Go.ChangeAt Go.RowKit Go.Joins Go.Deep
set_option linter.unusedVariables false
/-- xs lies at a; in a block of its own, if md. -/
def NumsM (md : Bool) (w : World) (lo hi : Nat) (a : Option Addr) (xs : List Int) : Prop :=
  xs = [] ∨ ∃ b off, a = some ⟨b, off, none⟩ ∧ lo ≤ b ∧ b < hi ∧ (md = true → off = 0 ∧ ∃ m, Own w b m 3 ∧ xs.length ≤ m) ∧ ∀ i, i < xs.length → w.cell? ⟨b, off + i, none⟩ = some (.int .i64 (nAt xs i))
theorem NumsM.same {md : Bool} {lo hi lo' hi' : Nat} {w w' : World} {a : Option Addr} {xs : List Int} (h : NumsM md w lo hi a xs) (hs : Same lo hi w w') (h1 : lo' ≤ lo) (h2 : hi ≤ hi') : NumsM md w' lo' hi' a xs := by
  rcases h with rfl | ⟨b, off, rfl, h3, h4, h5, h6⟩
  · exact .inl rfl
  · exact .inr ⟨b, off, rfl, by omega, by omega, fun e => ⟨(h5 e).1, (h5 e).2.imp fun m hm => ⟨hm.1.of_block (hs b h3 h4), hm.2⟩⟩, fun i hi => (hs.cell h3 h4).trans (h6 i hi)⟩
theorem NumsM.plain {md : Bool} {lo hi : Nat} {w : World} {a : Option Addr} {xs : List Int} (h : NumsM md w lo hi a xs) : NumsM false w lo hi a xs := by
  rcases h with rfl | ⟨b, off, rfl, h3, h4, h5, h6⟩
  · exact .inl rfl
  · exact .inr ⟨b, off, rfl, h3, h4, fun e => (by cases e), h6⟩
theorem NumsM.keep {md : Bool} {lo hi : Nat} {w w' : World} {a : Option Addr} {xs : List Int} (h : NumsM md w lo hi a xs) (hb : Below hi w w') : NumsM md w' lo hi a xs := h.same (.of_below hb (Nat.le_refl _)) (Nat.le_refl _) (Nat.le_refl _)
theorem NumsM.wide {md : Bool} {lo hi lo' hi' : Nat} {w : World} {a : Option Addr} {xs : List Int} (h : NumsM md w lo hi a xs) (h1 : lo' ≤ lo) (h2 : hi ≤ hi') : NumsM md w lo' hi' a xs := h.same (Same.refl _ _ _) h1 h2
theorem NumsM.ints {md : Bool} {lo hi : Nat} {w : World} {a : Option Addr} {xs : List Int} (h : NumsM md w lo hi a xs) : IntsIn w lo hi a xs := by
  rcases h with rfl | ⟨b, off, rfl, h3, h4, h5, h6⟩
  · exact .inl rfl
  · exact .inr ⟨b, off, rfl, h3, h4, h6⟩
def NumsB (N : Nat) (xs : List Int) : Prop := xs.length ≤ N
structure GHeap where
  words : List Int
  old : Int
  oldAt : Int
  youngAt : Int
  log : List Int
def GHeap.d : GHeap := ⟨[], 0, 0, 0, []⟩
/-- x lies at ⟨b, o⟩. -/
def HeapAt (md : Bool) (w : World) (lo hi b o : Nat) (x : GHeap) : Prop :=
  ∃ a0 c0 a4 c4, w.cell? ⟨b, o, none⟩ = some (.slice a0 x.words.length c0) ∧ w.cell? ⟨b, o + 1, none⟩ = some (.int .i64 x.old) ∧ w.cell? ⟨b, o + 2, none⟩ = some (.int .i64 x.oldAt) ∧ w.cell? ⟨b, o + 3, none⟩ = some (.int .i64 x.youngAt) ∧ w.cell? ⟨b, o + 4, none⟩ = some (.slice a4 x.log.length c4) ∧ NumsM md w lo hi a0 x.words ∧ NumsM md w lo hi a4 x.log
theorem HeapAt.same {md : Bool} {lo hi lo' hi' b o : Nat} {w w' : World} {x : GHeap} (h : HeapAt md w lo hi b o x) (hs : Same lo hi w w') (h1 : lo' ≤ lo) (h2 : hi ≤ hi') (h3 : lo ≤ b) (h4 : b < hi) : HeapAt md w' lo' hi' b o x := by
  obtain ⟨a0, c0, a4, c4, e0, e1, e2, e3, e4, l0, l4⟩ := h
  exact ⟨a0, c0, a4, c4, (hs.cell h3 h4).trans e0, (hs.cell h3 h4).trans e1, (hs.cell h3 h4).trans e2, (hs.cell h3 h4).trans e3, (hs.cell h3 h4).trans e4, l0.same hs h1 h2, l4.same hs h1 h2⟩
theorem HeapAt.plain {md : Bool} {lo hi b o : Nat} {w : World} {x : GHeap} (h : HeapAt md w lo hi b o x) : HeapAt false w lo hi b o x := by
  obtain ⟨a0, c0, a4, c4, e0, e1, e2, e3, e4, l0, l4⟩ := h
  exact ⟨a0, c0, a4, c4, e0, e1, e2, e3, e4, l0.plain, l4.plain⟩
def HeapB (N : Nat) (x : GHeap) : Prop := NumsB N x.words ∧ NumsB N x.log
end Go.Proofs.YtembifoimiochaaGreatDoor
namespace Go.Proofs.YtembifoimiochaaGreatDoor
open Go.ChangeShapes Go.WideShapes Go.ChangeAt Go.RowKit Go.Deep
set_option linter.unusedVariables false
/-- Numbers, as they lie. -/
def numsV (xs : List Int) : List Value := xs.map fun l => .int .i64 l
theorem numsV_len (xs : List Int) : (numsV xs).length = xs.length := by simp [numsV]
theorem numsV_app (xs ys : List Int) : numsV (xs ++ ys) = numsV xs ++ numsV ys := by simp [numsV]
theorem numsV_one (xs : List Int) : ∀ u ∈ numsV xs, u.oneCell' = true := by
  intro u hu
  obtain ⟨l, _, rfl⟩ := List.mem_map.1 hu
  rfl
/-- The numbers xs are in the slice v, which is none, or a row of the call's own from block S on. -/
def NRow (w : World) (S : Nat) (v : Value) (xs : List Int) : Prop := w.ownsRow S 3 1 v xs.length (numsV xs)
theorem Tryz.infoNum : (Tryz.prog.info? 3).map (fun i => (i.zero, i.size, i.bytes)) = some (some (.int .i64 0), 1, 8) := by kernel_rfl
theorem NRow.nil (w : World) (S : Nat) : NRow w S (.slice none 0 0) [] := ⟨rfl, .inl ⟨rfl, rfl⟩⟩
theorem NRow.new (w : World) (S : Nat) (l : Int) (hS : S ≤ w.heap.size) : NRow (w.alloc (.cells #[.int .i64 l] 3)) S (.slice (some ⟨w.heap.size, 0, none⟩) 1 1) [l] :=
  ⟨rfl, .inr ⟨w.heap.size, 1, _, rfl, hS, Deep.blk_alloc_new _ _, Nat.le_refl _, by unfold maxLen; omega, rfl, rfl⟩⟩
theorem NRow.below {w w' : World} {S : Nat} {v : Value} {xs : List Int} (h : NRow w S v xs) (hb : Below w.heap.size w w') : NRow w' S v xs := owns_below h hb
theorem NRow.alloc {w : World} {S : Nat} {v : Value} {xs : List Int} (h : NRow w S v xs) (o : Obj) : NRow (w.alloc o) S v xs := World.ownsRow.alloc h o
theorem NRow.lower {w : World} {S S' : Nat} {v : Value} {xs : List Int} (h : NRow w S v xs) (hS : S' ≤ S) : NRow w S' v xs := owns_lower h hS
theorem NRow.form {w : World} {S : Nat} {v : Value} {xs : List Int} (h : NRow w S v xs) (hn : 0 < xs.length) : ∃ g cap, v = .slice (some ⟨g, 0, none⟩) xs.length cap ∧ S ≤ g ∧ g < w.heap.size ∧ xs.length ≤ cap := by
  rcases h.2 with ⟨_, h0⟩ | ⟨g, cap, cur, h1, h2, h3, h4, _⟩
  · omega
  · exact ⟨g, cap, h1, h2, (Array.getElem?_eq_some_iff.1 h3).1, h4⟩
theorem NRow.val {w : World} {S : Nat} {v : Value} {xs : List Int} (h : NRow w S v xs) : ∃ a cap, v = .slice a xs.length cap := by
  rcases h.2 with ⟨h1, h0⟩ | ⟨g, cap, cur, h1, _⟩
  · exact ⟨none, 0, by rw [h1, h0]⟩
  · exact ⟨_, _, h1⟩
/-- One number more. -/
theorem wpList_snoc_num {ops : Array Oper} {rest : List Oper} {o : Oper} {a : Act} {Q : Exit → Act → World → Prop} {w0 : World} (hgd : o.guard = none) (s x : Operand)
    (ho : o.op = .call { callee := .builtin .append, args := #[s, x], argTypes := #[23, 23] })
    (S : Nat) (v : Value) (xs : List Int) (l : Int) (hs : a.eval s = v) (hown : NRow w0 S v xs) (hx : a.eval x = .slice (some ⟨w0.heap.size, 0, none⟩) 1 1) (hn : xs.length ≤ 1000) (hS : S ≤ w0.heap.size)
    (h : ∀ g cap w', NRow w' S (.slice (some ⟨g, 0, none⟩) (xs.length + 1) cap) (xs ++ [l]) → Below S w0 w' → wpList Tryz.prog ops Q rest (a.put o.dst (.slice (some ⟨g, 0, none⟩) (xs.length + 1) cap)) w') :
    wpList Tryz.prog ops Q (o :: rest) a (w0.alloc (.cells #[.int .i64 l] 3)) := by
  obtain ⟨i0, hi0, hzz⟩ := Option.map_eq_some_iff.1 Tryz.infoNum
  simp only [Prod.mk.injEq] at hzz
  obtain ⟨hz0, hs0, hb0⟩ := hzz
  refine wpList_append_lies _ hgd s x 23 ho S 3 i0 _ 1 8 Tryz.underlying23 hi0 hz0 hs0 hb0 rfl (by decide) v xs.length (numsV xs) hs (hown.alloc _) ⟨w0.heap.size, 0, none⟩ 1 1 [.int .i64 l] hx rfl (World.news_of_block (Deep.blk_alloc_new _ _)) (by intro u hu; simp at hu; subst hu; rfl) (by decide) (by unfold maxLen; omega) (by omega) (by simp; omega) _ rfl ?_
  intro g cap w' h1 h2 h3 h4
  refine h g cap w' ?_ (((Below.refl S w0).alloc hS _).grown h2 (by simp; omega) (owns_base hown))
  unfold NRow
  rw [numsV_app]
  have e : (xs ++ [l]).length = xs.length + 1 := by simp
  rw [e]
  exact h1
/-- Numbers more. -/
theorem wpList_app_num {ops : Array Oper} {rest : List Oper} {o : Oper} {a : Act} {Q : Exit → Act → World → Prop} {w0 : World} (hgd : o.guard = none) (s x : Operand)
    (ho : o.op = .call { callee := .builtin .append, args := #[s, x], argTypes := #[23, 23] })
    (S S2 g2 cap2 : Nat) (v : Value) (xs ys : List Int) (hs : a.eval s = v) (hown : NRow w0 S v xs) (hown2 : NRow w0 S2 (.slice (some ⟨g2, 0, none⟩) ys.length cap2) ys) (hx : a.eval x = .slice (some ⟨g2, 0, none⟩) ys.length cap2) (hn : xs.length ≤ 1000) (hm : ys.length ≤ 1000) (hm0 : 0 < ys.length) (hS : S ≤ w0.heap.size)
    (h : ∀ g cap w', NRow w' S (.slice (some ⟨g, 0, none⟩) (xs.length + ys.length) cap) (xs ++ ys) → Below S w0 w' → wpList Tryz.prog ops Q rest (a.put o.dst (.slice (some ⟨g, 0, none⟩) (xs.length + ys.length) cap)) w') :
    wpList Tryz.prog ops Q (o :: rest) a w0 := by
  obtain ⟨i0, hi0, hzz⟩ := Option.map_eq_some_iff.1 Tryz.infoNum
  simp only [Prod.mk.injEq] at hzz
  obtain ⟨hz0, hs0, hb0⟩ := hzz
  refine wpList_append_lies _ hgd s x 23 ho S 3 i0 _ 1 8 Tryz.underlying23 hi0 hz0 hs0 hb0 rfl (by decide) v xs.length (numsV xs) hs hown ⟨g2, 0, none⟩ ys.length cap2 (numsV ys) hx (by rw [numsV_len]; omega) (fun j u hj => World.ownsRow.cells hown2 rfl j u hj) (numsV_one ys) hm0 (by unfold maxLen; omega) (by omega) hS _ rfl ?_
  intro g cap w' h1 h2 h3 h4
  refine h g cap w' ?_ ((Below.refl S w0).grown h2 hS (owns_base hown))
  unfold NRow
  rw [numsV_app]
  have e : (xs ++ ys).length = xs.length + ys.length := by simp
  rw [e]
  exact h1
theorem NRow.new2 (w : World) (S : Nat) (l m : Int) (hS : S ≤ w.heap.size) : NRow (w.alloc (.cells #[.int .i64 l, .int .i64 m] 3)) S (.slice (some ⟨w.heap.size, 0, none⟩) 2 2) [l, m] :=
  ⟨rfl, .inr ⟨w.heap.size, 2, _, rfl, hS, Deep.blk_alloc_new _ _, Nat.le_refl _, by unfold maxLen; omega, rfl, rfl⟩⟩
theorem NRow.cell {w : World} {S g cap : Nat} {xs : List Int} (h : NRow w S (.slice (some ⟨g, 0, none⟩) xs.length cap) xs) {i : Nat} (hi : i < xs.length) : w.cell? ⟨g, i, none⟩ = some (.int .i64 xs[i]) := by
  have h1 := World.ownsRow.cellAt h i (by omega)
  rw [h1]
  simp [numsV, hi]
/-- One number more, at a step of a region that draws its order. -/
theorem step_snoc_num {ops : Array Oper} {o : Oper} {a : Act} {K : Act → World → Prop} {Q : Exit → Act → World → Prop} {E : Prop} {w0 : World} (hgd : o.guard = none) (s x : Operand)
    (ho : o.op = .call { callee := .builtin .append, args := #[s, x], argTypes := #[23, 23] })
    (S : Nat) (v : Value) (xs : List Int) (l : Int) (hs : a.eval s = v) (hown : NRow w0 S v xs) (hx : a.eval x = .slice (some ⟨w0.heap.size, 0, none⟩) 1 1) (hn : xs.length ≤ 1000) (hS : S ≤ w0.heap.size)
    (h : ∀ g cap w', NRow w' S (.slice (some ⟨g, 0, none⟩) (xs.length + 1) cap) (xs ++ [l]) → Below S w0 w' → K (a.put o.dst (.slice (some ⟨g, 0, none⟩) (xs.length + 1) cap)) w') :
    if Region.wanted o (yielded ops a.tmps) = true then Oper.wp Tryz.prog o a (w0.alloc (.cells #[.int .i64 l] 3)) K Q else E := by
  obtain ⟨i0, hi0, hzz⟩ := Option.map_eq_some_iff.1 Tryz.infoNum
  simp only [Prod.mk.injEq] at hzz
  obtain ⟨hz0, hs0, hb0⟩ := hzz
  refine step_append_lies _ hgd s x 23 ho S 3 i0 _ 1 8 Tryz.underlying23 hi0 hz0 hs0 hb0 rfl (by decide) v xs.length (numsV xs) hs (hown.alloc _) ⟨w0.heap.size, 0, none⟩ 1 1 [.int .i64 l] hx rfl (World.news_of_block (Deep.blk_alloc_new _ _)) (by intro u hu; simp at hu; subst hu; rfl) (by decide) (by unfold maxLen; omega) (by omega) (by simp; omega) _ rfl ?_
  intro g cap w' h1 h2 h3 h4
  refine h g cap w' ?_ (((Below.refl S w0).alloc hS _).grown h2 (by simp; omega) (owns_base hown))
  unfold NRow
  rw [numsV_app]
  have e : (xs ++ [l]).length = xs.length + 1 := by simp
  rw [e]
  exact h1
/-- A call answers with a list of numbers in memory of its own. -/
def NumsAt (e : Ending) (W w' : World) (F : List Int) : Prop := ∃ g cap, e = .returned (.slice (some ⟨g, 0, none⟩) F.length cap) ∧ NRow w' W.heap.size (.slice (some ⟨g, 0, none⟩) F.length cap) F ∧ Below W.heap.size W w'
theorem NRow.new0 (w : World) (S : Nat) (hS : S ≤ w.heap.size) : NRow (w.alloc (.cells #[] 3)) S (.slice (some ⟨w.heap.size, 0, none⟩) 0 0) [] :=
 ⟨rfl, .inr ⟨w.heap.size, 0, #[], rfl, hS, Deep.blk_alloc_new w _, Nat.le_refl _, Nat.zero_le _, rfl, rfl⟩⟩
theorem wpList_app_num0 {ops : Array Oper} {rest : List Oper} {o : Oper} {a : Act} {Q : Exit → Act → World → Prop} {w : World} (hgd : o.guard = none) (s x : Operand)
  (ho : o.op = .call { callee := .builtin .append, args := #[s, x], argTypes := #[23, 23] })
  (S g c : Nat) (v : Value) (xs : List Int) (hs : a.eval s = v) (hown : NRow w S v xs) (hx : a.eval x = .slice (some ⟨g, 0, none⟩) 0 c)
  (h : wpList Tryz.prog ops Q rest (a.put o.dst v) w) : wpList Tryz.prog ops Q (o :: rest) a w := by
 obtain ⟨i0, hi0, hzz⟩ := Option.map_eq_some_iff.1 Tryz.infoNum
 simp only [Prod.mk.injEq] at hzz
 obtain ⟨hz0, hs0, hb0⟩ := hzz
 have hu := Tryz.underlying23
 have e1 : (Builtin.firstCells i0.size 0 (.slice (some ⟨g, 0, none⟩) 0 c)).run Tryz.prog w = .ok #[] w := run_firstCells_some w i0.size 0 ⟨g, 0, none⟩ 0 c [] (by simp) (fun j u h => by simp at h)
 have hr : (Builtin.append_ #[23, 23] o.type #[v, .slice (some ⟨g, 0, none⟩) 0 c]).run Tryz.prog w = .ok v w := by
  rcases hown.2 with ⟨hv, _⟩ | ⟨g, cap, cur, hv, _, _, hcap, _⟩
  ·subst hv
   simp [Builtin.append_, run_underlying hu, sizeOf, typeInfo, hi0, Builtin.lenOf, e1]
  ·subst hv
   simp [Builtin.append_, run_underlying hu, sizeOf, typeInfo, hi0, Builtin.lenOf, e1, storeCells, hcap]
 refine wpList_plain hgd fun K hK => ?_
 unfold Oper.wp execOp
 simp only [ho, resolve, invoke, builtin, Sem.run_bind, Sem.run_pure, Result.andThen_ok, List.map_toArray, List.map_cons, List.map_nil, hs, hx, hr]
 exact hK _ _ h
def vcells (vs : List GVal) : List Value := vs.flatMap fun v => [.int .i64 v.kind, .int .i64 v.n]
theorem vcells_length (vs : List GVal) : (vcells vs).length = vs.length * 2 := by
  induction vs with
  | nil => rfl
  | cons v vs ih => simp [vcells] at *; omega
theorem vcells_snoc (vs : List GVal) (v : GVal) : vcells (vs ++ [v]) = vcells vs ++ [.int .i64 v.kind, .int .i64 v.n] := by simp [vcells]
theorem vcells_get (vs : List GVal) (i : Nat) (h : i < vs.length) : (vcells vs)[i * 2]? = some (.int .i64 (valAt' vs i).kind) ∧ (vcells vs)[i * 2 + 1]? = some (.int .i64 (valAt' vs i).n) := by
  induction vs generalizing i with
  | nil => simp at h
  | cons v vs ih =>
    cases i with
    | zero => simp [vcells, valAt']
    | succ i =>
      have := ih i (by simpa using h)
      have e : vcells (v :: vs) = .int .i64 v.kind :: .int .i64 v.n :: vcells vs := by simp [vcells]
      rw [e, show (i + 1) * 2 = i * 2 + 1 + 1 by omega, show i * 2 + 1 + 1 + 1 = (i * 2 + 1) + 1 + 1 by omega]
      simpa [valAt'] using this
theorem vcells_one (vs : List GVal) : ∀ u ∈ vcells vs, u.oneCell' = true := by
  intro u hu
  simp [vcells] at hu
  obtain ⟨v, _, rfl | rfl⟩ := hu <;> rfl
/-- The values vs lie at a, in a row of the call's own from block S on. -/
def ValRow (w : World) (S : Nat) (a : Option Addr) (cap : Nat) (vs : List GVal) : Prop := w.ownsRow S 49 2 (.slice a vs.length cap) vs.length (vcells vs)
theorem ValRow.vals {w : World} {S cap : Nat} {a : Option Addr} {vs : List GVal} (h : ValRow w S a cap vs) : ValsM false w S w.heap.size a vs := by
  rcases owns_cells h with h0 | ⟨g, rfl, hS, hlt, hc⟩
  · exact .inl (List.length_eq_zero_iff.1 (by omega))
  · refine .inr ⟨g, 0, rfl, hS, hlt, (fun e => by cases e), fun i hi => ?_⟩
    obtain ⟨e0, e1⟩ := vcells_get vs i hi
    rw [Nat.zero_add]
    exact ⟨(hc _ (by omega)).trans e0, (hc _ (by omega)).trans e1⟩
theorem ValRow.nil (w : World) (S : Nat) : ValRow w S none 0 [] := World.ownsRow_nil _ _ _ _
theorem ValRow.below {w w' : World} {S cap : Nat} {a : Option Addr} {vs : List GVal} (h : ValRow w S a cap vs) (hb : Below w.heap.size w w') : ValRow w' S a cap vs := owns_below h hb
theorem ValRow.of_snoc {w : World} {S cap : Nat} {a : Option Addr} {vs : List GVal} {v : GVal} (h : w.ownsRow S 49 2 (.slice a (vs.length + 1) cap) (vs.length + 1) (vcells vs ++ [.int .i64 v.kind, .int .i64 v.n])) : ValRow w S a cap (vs ++ [v]) := by
  unfold ValRow
  rw [vcells_snoc]
  simpa using h
theorem valAt_snoc_left (l : List GVal) (v : GVal) (i : Nat) (h : i < l.length) : valAt' (l ++ [v]) i = valAt' l i := by
  unfold valAt'; simp [List.getElem?_append_left h]
theorem valAt_snoc_last (l : List GVal) (v : GVal) : valAt' (l ++ [v]) l.length = v := by unfold valAt'; simp
theorem infoVal : (Tryz.prog.info? 49).map (fun i => (i.zero, i.size, i.bytes)) = some (some (.agg #[.int .i64 0, .int .i64 0]), 2, 16) := by kernel_rfl
end Go.Proofs.YtembifoimiochaaGreatDoor
