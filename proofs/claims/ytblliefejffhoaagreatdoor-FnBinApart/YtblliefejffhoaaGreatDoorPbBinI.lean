/- PbBinI: NRow, Bld, BTxtI, BTxtI2, BTxtI3. -/
import Derived.Test.YtblliefejffhoaaGreatDoorRowB
import Derived.Shelf.Strings.BuilderK
import Derived.Shelf.Lay
import Derived.Ground.NamesProg
import Derived.BigCall
import Derived.Test.YtblliefejffhoaaGreatDoorGenRoot
import Derived.Test.YtblliefejffhoaaGreatDoorPbBinS
/- Lists of numbers of the call's own, grown by append. -/
namespace Go.Proofs.YtblliefejffhoaaGreatDoor
open Go.ChangeShapes Go.WideShapes Go.ChangeAt Go.RowKit Go.Deep
set_option linter.unusedVariables false

/-- Numbers, as they lie. -/
def numsV (xs : List Int) : List Value := xs.map fun l => .int .i64 l
theorem numsV_len (xs : List Int) : (numsV xs).length = xs.length := by simp [numsV]
theorem numsV_app (xs ys : List Int) : numsV (xs ++ ys) = numsV xs ++ numsV ys := by simp [numsV]
theorem numsV_one (xs : List Int) : ∀ u ∈ numsV xs, u.oneCell' = true := by
  intro u hu
  obtain ⟨l, _, rfl⟩ := List.mem_map.1 hu
  rfl

/-- The numbers xs are in the slice v, which is none, or a row of the call's own from block S on. -/
def NRow (w : World) (S : Nat) (v : Value) (xs : List Int) : Prop := w.ownsRow S 3 1 v xs.length (numsV xs)
theorem Tryz.infoNum : (Tryz.prog.info? 3).map (fun i => (i.zero, i.size, i.bytes)) = some (some (.int .i64 0), 1, 8) := by kernel_rfl
theorem NRow.nil (w : World) (S : Nat) : NRow w S (.slice none 0 0) [] := ⟨rfl, .inl ⟨rfl, rfl⟩⟩
theorem NRow.new (w : World) (S : Nat) (l : Int) (hS : S ≤ w.heap.size) : NRow (w.alloc (.cells #[.int .i64 l] 3)) S (.slice (some ⟨w.heap.size, 0, none⟩) 1 1) [l] :=
  ⟨rfl, .inr ⟨w.heap.size, 1, _, rfl, hS, Deep.blk_alloc_new _ _, Nat.le_refl _, by unfold maxLen; omega, rfl, rfl⟩⟩
theorem NRow.below {w w' : World} {S : Nat} {v : Value} {xs : List Int} (h : NRow w S v xs) (hb : Below w.heap.size w w') : NRow w' S v xs := owns_below h hb
theorem NRow.alloc {w : World} {S : Nat} {v : Value} {xs : List Int} (h : NRow w S v xs) (o : Obj) : NRow (w.alloc o) S v xs := World.ownsRow.alloc h o
theorem NRow.lower {w : World} {S S' : Nat} {v : Value} {xs : List Int} (h : NRow w S v xs) (hS : S' ≤ S) : NRow w S' v xs := owns_lower h hS
theorem NRow.form {w : World} {S : Nat} {v : Value} {xs : List Int} (h : NRow w S v xs) (hn : 0 < xs.length) : ∃ g cap, v = .slice (some ⟨g, 0, none⟩) xs.length cap ∧ S ≤ g ∧ g < w.heap.size ∧ xs.length ≤ cap := by
  rcases h.2 with ⟨_, h0⟩ | ⟨g, cap, cur, h1, h2, h3, h4, _⟩
  · omega
  · exact ⟨g, cap, h1, h2, (Array.getElem?_eq_some_iff.1 h3).1, h4⟩
theorem NRow.val {w : World} {S : Nat} {v : Value} {xs : List Int} (h : NRow w S v xs) : ∃ a cap, v = .slice a xs.length cap := by
  rcases h.2 with ⟨h1, h0⟩ | ⟨g, cap, cur, h1, _⟩
  · exact ⟨none, 0, by rw [h1, h0]⟩
  · exact ⟨_, _, h1⟩

/-- One number more. -/
theorem wpList_snoc_num {ops : Array Oper} {rest : List Oper} {o : Oper} {a : Act} {Q : Exit → Act → World → Prop} {w0 : World} (hgd : o.guard = none) (s x : Operand)
    (ho : o.op = .call { callee := .builtin .append, args := #[s, x], argTypes := #[74, 74] })
    (S : Nat) (v : Value) (xs : List Int) (l : Int) (hs : a.eval s = v) (hown : NRow w0 S v xs) (hx : a.eval x = .slice (some ⟨w0.heap.size, 0, none⟩) 1 1) (hn : xs.length ≤ 1000) (hS : S ≤ w0.heap.size)
    (h : ∀ g cap w', NRow w' S (.slice (some ⟨g, 0, none⟩) (xs.length + 1) cap) (xs ++ [l]) → Below S w0 w' → wpList Tryz.prog ops Q rest (a.put o.dst (.slice (some ⟨g, 0, none⟩) (xs.length + 1) cap)) w') :
    wpList Tryz.prog ops Q (o :: rest) a (w0.alloc (.cells #[.int .i64 l] 3)) := by
  obtain ⟨i0, hi0, hzz⟩ := Option.map_eq_some_iff.1 Tryz.infoNum
  simp only [Prod.mk.injEq] at hzz
  obtain ⟨hz0, hs0, hb0⟩ := hzz
  refine wpList_append_lies _ hgd s x 74 ho S 3 i0 _ 1 8 Tryz.underlying74 hi0 hz0 hs0 hb0 rfl (by decide) v xs.length (numsV xs) hs (hown.alloc _) ⟨w0.heap.size, 0, none⟩ 1 1 [.int .i64 l] hx rfl (World.news_of_block (Deep.blk_alloc_new _ _)) (by intro u hu; simp at hu; subst hu; rfl) (by decide) (by unfold maxLen; omega) (by omega) (by simp; omega) _ rfl ?_
  intro g cap w' h1 h2 h3 h4
  refine h g cap w' ?_ (((Below.refl S w0).alloc hS _).grown h2 (by simp; omega) (owns_base hown))
  unfold NRow
  rw [numsV_app]
  have e : (xs ++ [l]).length = xs.length + 1 := by simp
  rw [e]
  exact h1

/-- Numbers more. -/
theorem wpList_app_num {ops : Array Oper} {rest : List Oper} {o : Oper} {a : Act} {Q : Exit → Act → World → Prop} {w0 : World} (hgd : o.guard = none) (s x : Operand)
    (ho : o.op = .call { callee := .builtin .append, args := #[s, x], argTypes := #[74, 74] })
    (S S2 g2 cap2 : Nat) (v : Value) (xs ys : List Int) (hs : a.eval s = v) (hown : NRow w0 S v xs) (hown2 : NRow w0 S2 (.slice (some ⟨g2, 0, none⟩) ys.length cap2) ys) (hx : a.eval x = .slice (some ⟨g2, 0, none⟩) ys.length cap2) (hn : xs.length ≤ 1000) (hm : ys.length ≤ 1000) (hm0 : 0 < ys.length) (hS : S ≤ w0.heap.size)
    (h : ∀ g cap w', NRow w' S (.slice (some ⟨g, 0, none⟩) (xs.length + ys.length) cap) (xs ++ ys) → Below S w0 w' → wpList Tryz.prog ops Q rest (a.put o.dst (.slice (some ⟨g, 0, none⟩) (xs.length + ys.length) cap)) w') :
    wpList Tryz.prog ops Q (o :: rest) a w0 := by
  obtain ⟨i0, hi0, hzz⟩ := Option.map_eq_some_iff.1 Tryz.infoNum
  simp only [Prod.mk.injEq] at hzz
  obtain ⟨hz0, hs0, hb0⟩ := hzz
  refine wpList_append_lies _ hgd s x 74 ho S 3 i0 _ 1 8 Tryz.underlying74 hi0 hz0 hs0 hb0 rfl (by decide) v xs.length (numsV xs) hs hown ⟨g2, 0, none⟩ ys.length cap2 (numsV ys) hx (by rw [numsV_len]; omega) (fun j u hj => World.ownsRow.cells hown2 rfl j u hj) (numsV_one ys) hm0 (by unfold maxLen; omega) (by omega) hS _ rfl ?_
  intro g cap w' h1 h2 h3 h4
  refine h g cap w' ?_ ((Below.refl S w0).grown h2 hS (owns_base hown))
  unfold NRow
  rw [numsV_app]
  have e : (xs ++ ys).length = xs.length + ys.length := by simp
  rw [e]
  exact h1
theorem NRow.new2 (w : World) (S : Nat) (l m : Int) (hS : S ≤ w.heap.size) : NRow (w.alloc (.cells #[.int .i64 l, .int .i64 m] 3)) S (.slice (some ⟨w.heap.size, 0, none⟩) 2 2) [l, m] :=
  ⟨rfl, .inr ⟨w.heap.size, 2, _, rfl, hS, Deep.blk_alloc_new _ _, Nat.le_refl _, by unfold maxLen; omega, rfl, rfl⟩⟩
theorem NRow.cell {w : World} {S g cap : Nat} {xs : List Int} (h : NRow w S (.slice (some ⟨g, 0, none⟩) xs.length cap) xs) {i : Nat} (hi : i < xs.length) : w.cell? ⟨g, i, none⟩ = some (.int .i64 xs[i]) := by
  have h1 := World.ownsRow.cellAt h i (by omega)
  rw [h1]
  simp [numsV, hi]

/-- A call answers with a list of numbers in memory of its own. -/
def NumsAt (e : Ending) (W w' : World) (F : List Int) : Prop := ∃ g cap, e = .returned (.slice (some ⟨g, 0, none⟩) F.length cap) ∧ NRow w' W.heap.size (.slice (some ⟨g, 0, none⟩) F.length cap) F ∧ Below W.heap.size W w'
end Go.Proofs.YtblliefejffhoaaGreatDoor

/- strings.Builder at this program: copyCheck and WriteString walked (the cut's copyCheck has no panic, so the shelf's is not laid), String off the shelf; a builder is kept by what makes memory. -/
namespace Go.Proofs
open Go.Shelf Go.RowKit

shelf_lay Lays.n169 Nm 169 at Tryz as Tryz.lays169
theorem Tryz.extra169 : Builder.Extra Tryz.prog Tryz.lays169_ren where
  sizeBuilder := by kernel_rfl
  liesBuilder := by kernel_rfl
  t5 := Tryz.underlying5
  a5 := Tryz.isAgg5
  z5 := Tryz.sizeOf5
  v5 := Tryz.zeroValue5
  infoByte := by kernel_rfl
  cellsByte := by kernel_rfl
  sizeByte := by kernel_rfl
  neB5 := by decide
end Go.Proofs
namespace Go.Proofs.YtblliefejffhoaaGreatDoor
open Go.ChangeShapes Go.WideShapes Go.ChangeAt Go.RowKit
set_option linter.unusedVariables false

/-- A builder in block b that holds these bytes; what it has made lies from B on. -/
def Bld (B b : Nat) (l : List UInt8) (w : World) : Prop := Lib.IsBuilderF 69 5 B b (Lib.byteCells l) w

theorem Bld.below {B b : Nat} {l : List UInt8} {w w' : World} (h : Bld B b l w) (hb : Below w.heap.size w w') : Bld B b l w' := by
  have key : ∀ p, Lib.BuilderAtF 69 5 B b p (Lib.byteCells l) w → Lib.BuilderAtF 69 5 B b p (Lib.byteCells l) w' := by
    intro p h
    have hlt := h.lt
    obtain ⟨hB, v, hv, hown, hne⟩ := h
    exact ⟨hB, v, (hb.block b hlt).trans hv, hown.kept (row := none) ⟨hb.os, hb.tape, hb.output, hb.size, fun k hk _ => hb.block k hk⟩ (Classical.em _), hne⟩
  exact h.elim (fun x => .inl (key _ x)) (fun x => .inr (key _ x))
theorem Bld.alloc {B b : Nat} {l : List UInt8} {w : World} (h : Bld B b l w) (o : Obj) : Bld B b l (w.alloc o) := h.below ((Below.refl _ _).alloc (Nat.le_refl _) o)
theorem Bld.lt {B b : Nat} {l : List UInt8} {w : World} (h : Bld B b l w) : b < w.heap.size := h.elim (fun x => x.lt) (fun x => x.lt)
theorem Bld.new (w : World) (B b : Nat) (hB : B ≤ b) (hb : b = w.heap.size) : Bld B b [] (w.alloc (.cells #[.pointer none, .slice none 0 0] 69)) := by
  subst hb
  exact .inl ⟨hB, .slice none 0 0, Deep.blk_alloc_new _ _, World.ownsRowF_nil _ _ _ _, by simp [Value.ownBlock]⟩

theorem sizeB : (Tryz.prog.info? 69).map (·.size) = some 2 := by kernel_rfl
theorem liesB : liesAt Tryz.prog Tryz.prog.depth 69 (2 / Tryz.prog.cellsOf 69) 0 69 1 = true := by kernel_rfl
theorem infoU8 : (Tryz.prog.info? 5).map (fun i => (i.zero, i.size, i.bytes)) = some (some (.int .u8 0), 1, 1) := by kernel_rfl

set_option maxHeartbeats 1000000 in
set_option maxRecDepth 100000 in
theorem copyCheck_used (b : Nat) (w : World) (h0 : w.cell? ⟨b, 0, none⟩ = some (.pointer (some ⟨b, 0, none⟩))) :
    Calls Tryz.prog 77 #[.pointer (some ⟨b, 0, none⟩)] w fun e w' => e = .returned (.tuple #[]) ∧ w' = w := by
  obtain ⟨j, hj, _⟩ := Option.map_eq_some_iff.1 sizeB
  go_enter Tryz.func77, Tryz.ntmps77
  go_wp2
  rw [Lib.run_neq_ptr_same w _ Tryz.underlying67 hj]
  go_wp2
  go_end0
  exact ⟨rfl, rfl⟩

set_option maxHeartbeats 1000000 in
set_option maxRecDepth 100000 in
theorem copyCheck_fresh (b : Nat) (w : World) (h0 : w.cell? ⟨b, 0, none⟩ = some (.pointer none)) (hsh : w.shape? b = some (69, 2)) (hfz : w.frozen? ⟨b, 0, none⟩ = false) :
    Calls Tryz.prog 77 #[.pointer (some ⟨b, 0, none⟩)] w fun e w' => e = .returned (.tuple #[]) ∧ w' = w.setCell ⟨b, 0, none⟩ (.pointer (some ⟨b, 0, none⟩)) := by
  obtain ⟨j, hj, hjs⟩ := Option.map_eq_some_iff.1 sizeB
  go_enter Tryz.func77, Tryz.ntmps77
  go_wp2
  rw [Lib.run_to_unsafe w ⟨b, 0, none⟩ Tryz.underlying67 Tryz.underlying127 hj (by rw [hjs]; decide) hsh (Nat.zero_lt_succ 1)]
  simp only [Result.andThen]
  rw [Oper.upon_value]
  go_wp2
  rw [run_callFunc_extern Tryz.func115 (by kernel_rfl) (by kernel_rfl) (by kernel_rfl) (e := Extern.AbiNoEscape.same) (by kernel_rfl)]
  rw [Lib.run_noEscape]
  simp only [Result.andThen]
  rw [Oper.upon_value]
  go_wp2
  rw [Lib.run_from_unsafe w ⟨b, 0, none⟩ Tryz.underlying127 Tryz.underlying67 hj hsh liesB]
  simp only [Result.andThen]
  rw [Oper.upon_value]
  go_wp2
  go_end0
  exact ⟨rfl, rfl⟩

theorem copyCheck_any (B b : Nat) (bs : List Value) (w : World) (h : Lib.IsBuilderF 69 5 B b bs w) :
    Calls Tryz.prog 77 #[.pointer (some ⟨b, 0, none⟩)] w fun e w' => e = .returned (.tuple #[]) ∧ Lib.BuilderAtF 69 5 B b (.pointer (some ⟨b, 0, none⟩)) bs w' ∧ Below B w w' ∧ Lib.OthersKept 5 (some b) w w' := by
  rcases h with h | h
  · refine (copyCheck_fresh b w h.cell0 h.shape h.frozen0).mono ?_
    rintro e w' ⟨rfl, rfl⟩
    exact ⟨rfl, h.used _, (Below.refl B w).setCell (p := ⟨b, 0, none⟩) h.1 _, (Lib.OthersKept.refl _ _ w).setCell ⟨b, 0, none⟩ rfl _⟩
  · refine (copyCheck_used b w h.cell0).mono ?_
    rintro e w' ⟨rfl, rfl⟩
    exact ⟨rfl, h, Below.refl B _, Lib.OthersKept.refl _ _ _⟩

set_option maxHeartbeats 2000000 in
set_option maxRecDepth 100000 in
theorem write_cells (B b : Nat) (bs : List Value) (s : ByteArray) (w : World) (h : Lib.IsBuilderF 69 5 B b bs w) (hlen : bs.length + s.size ≤ 140737488355328) (hBw : B ≤ w.heap.size) :
    Calls Tryz.prog 44 #[.pointer (some ⟨b, 0, none⟩), .string s] w fun e w' => e = .returned (.tuple #[.int .i64 s.size, .nilIface]) ∧ Lib.BuilderAtF 69 5 B b (.pointer (some ⟨b, 0, none⟩)) (bs ++ Lib.strCells s) w' ∧ Below B w w' ∧ Lib.OthersKept 5 (some b) w w' := by
  obtain ⟨i0, hi, hz0, hz1, hz2⟩ := info_parts infoU8
  go_enter Tryz.func44, Tryz.ntmps44
  go_wp2_with fail
  refine (copyCheck_any B b bs _ h).mono ?_
  rintro e w1 ⟨rfl, h1, hb1, hk1⟩
  obtain ⟨hB, v, hbk, hown, hne⟩ := h1
  have c0 : w1.cell? ⟨b, 0, none⟩ = some (.pointer (some ⟨b, 0, none⟩)) := by rw [Lib.cell_of_heap hbk]; rfl
  have c1 : w1.cell? ⟨b, 1, none⟩ = some v := by rw [Lib.cell_of_heap hbk]; rfl
  go_wp2_with (at_builtin; refine Lib.wpList_append_own_stringF _ rfl _ _ 22 9 rfl B 5 i0 Tryz.underlying22 Tryz.underlying9 hi hz0 hz1 hz2 _ _ _ rfl hown s rfl ?c3 ?c4 ?c5 ?_)
  case c3 => unfold maxLen; omega
  case c4 => omega
  case c5 => have := hb1.size; omega
  intro v' w2 hown' hgrow _
  have hlt : b < w1.heap.size := by
    rcases Nat.lt_or_ge b w1.heap.size with h' | h'
    · exact h'
    · simp [Array.getElem?_eq_none h'] at hbk
  have hb2 : w2.heap[b]? = some (.cells #[.pointer (some ⟨b, 0, none⟩), v] 69 (0, 0)) := by
    rw [hgrow.block b hlt (fun e => hne e.symm)]
    exact hbk
  have d0 : w2.cell? ⟨b, 0, none⟩ = some (.pointer (some ⟨b, 0, none⟩)) := by rw [Lib.cell_of_heap hb2]; rfl
  have d1 : w2.cell? ⟨b, 1, none⟩ = some v := by rw [Lib.cell_of_heap hb2]; rfl
  have f1 : w2.frozen? ⟨b, 1, none⟩ = false := Lib.frozen_of_heap hb2 1
  obtain ⟨ao, n', cap, rfl⟩ : ∃ ao n' cap, v' = .slice ao n' cap := by
    rcases hown'.2 with ⟨hv, _⟩ | ⟨g, cap, cur, fz, hv, _⟩
    · exact ⟨_, _, _, hv⟩
    · exact ⟨_, _, _, hv⟩
  go_wp2
  go_ret2
  refine ⟨rfl, ?_, ?_, (hk1.grown hgrow (Lib.ownsRowF_kind hown)).setCell ⟨b, 1, none⟩ rfl _⟩
  · exact Lib.BuilderAtF.put (T := 69) (e := 5) hB hb2 (bs' := bs ++ Lib.strCells s) (by simpa [Lib.strCells_length] using hown') (by decide)
  · exact (hb1.grown hgrow (by have := hb1.size; omega) (fun k hk => (hown.lt k hk).1)).setCell (p := ⟨b, 1, none⟩) hB _

theorem write_any (B b : Nat) (l s : List UInt8) (w : World) (h : Bld B b l w) (hlen : l.length + s.length ≤ 140737488355328) (hB : B ≤ w.heap.size) :
    Calls Tryz.prog 44 #[.pointer (some ⟨b, 0, none⟩), .string ⟨s.toArray⟩] w fun e w' => e = .returned (.tuple #[.int .i64 s.length, .nilIface]) ∧ Bld B b (l ++ s) w' ∧ Below B w w' ∧ Lib.OthersKept 5 (some b) w w' := by
  refine (write_cells B b (Lib.byteCells l) ⟨s.toArray⟩ w h (by simpa [Lib.byteCells, ByteArray.size] using hlen) hB).mono ?_
  rintro e w' ⟨rfl, h1, h2, h3⟩
  refine ⟨by simp [ByteArray.size], .inr ?_, h2, h3⟩
  have e : Lib.byteCells (l ++ s) = Lib.byteCells l ++ Lib.strCells ⟨s.toArray⟩ := by simp [Lib.byteCells, Lib.strCells]
  rw [e]
  exact h1

theorem told_any (B b : Nat) (l : List UInt8) (w : World) (h : Bld B b l w) (hB : B ≤ w.heap.size) :
    Calls Tryz.prog 47 #[.pointer (some ⟨b, 0, none⟩)] w fun e w' => e = .returned (.string ⟨l.toArray⟩) ∧ Bld B b l w' ∧ Below B w w' ∧ Lib.OthersKept 5 (some b) w w' :=
  Any.Builder_String_any_k Tryz.lays169 Tryz.extra169 B b l w h hB

/-- A struct's block is kept by what a builder does. -/
theorem Rec.kept {w w' : World} {b q : Nat} {T : TypeId} {vs : List Value} (h : Rec w q T vs) (hk : Lib.OthersKept 5 (some b) w w') (hq : q ≠ b) (hT : T ≠ 5) : Rec w' q T vs :=
  hk q _ h (fun e => hq (Option.some.inj e)) (fun c fz e => hT (by injection e))
end Go.Proofs.YtblliefejffhoaaGreatDoor

/- binFieldNums, binTypeNums, binGroupNums of the program, and its lists of them. -/
namespace Go.Proofs.YtblliefejffhoaaGreatDoor
open Go.ChangeShapes Go.WideShapes Go.ChangeAt Go.RowKit
set_option linter.unusedVariables false

set_option maxHeartbeats 400000 in
theorem binKindNum_any (k : Int) (f : Bool) (w : World) (h1 : 1 ≤ k) (h2 : k ≤ 3) :
    Calls Tryz.prog 118 #[.int .i64 k, .bool f] w fun e w' => e = .returned (.int .i64 (kNum k f)) ∧ w' = w := by
  have hw : IntKind.i64.wrap (k + 4) = k + 4 := wrapI (by omega) (by omega)
  cases f
  all_goals
    go_enter Tryz.func118, Tryz.ntmps118
    go_wp2_with fail
    go_ret
    exact ⟨rfl, rfl⟩

set_option maxHeartbeats 1600000 in
theorem binFieldNums_any (f : Fd) (w : World) (h : FdS f) :
    Calls Tryz.prog 81 #[.agg #[.int .i64 f.kind, .int .i64 f.of, .bool f.mt]] w fun e w' => NumsAt e w w' (fdNums f) := by
  obtain ⟨fk, fo, fm⟩ := f
  obtain ⟨⟨k1, k2⟩, o1, o2⟩ := h
  simp only at k1 k2 o1 o2 ⊢
  have HK := hide (fun W => binKindNum_any fk fm W k1 k2)
  have hw2 : IntKind.i64.wrap (fo + 2) = fo + 2 := wrapI (by omega) (by omega)
  have hw3 : IntKind.i64.wrap (fo - -2) = fo + 2 := by rw [show fo - -2 = fo + 2 by omega]; exact hw2
  have HT1 : Hid (fk = 1 → fdNums ⟨fk, fo, fm⟩ = [kNum fk fm]) := fun e => by simp [fdNums, ofNum, e]
  have HT2 : Hid (¬ fk = 1 → fdNums ⟨fk, fo, fm⟩ = [kNum fk fm] ++ [fo + 2]) := fun e => by simp [fdNums, ofNum, e]
  generalize fdNums ⟨fk, fo, fm⟩ = TT at HT1 HT2 ⊢
  generalize kNum fk fm = kn at HK HT1 HT2
  have B0 : Hid (Below w.heap.size w (w.alloc (.cells #[.int .i64 fk, .int .i64 fo, .bool fm] 33))) := (Below.refl _ _).alloc (Nat.le_refl _) _
  have S1 := hide (NRow.new (w.alloc (.cells #[.int .i64 fk, .int .i64 fo, .bool fm] 33)) (w.heap.size + 1) kn (by simp))
  have B1 := hide (B0.out.alloc B0.out.size (.cells #[.int .i64 kn] 3))
  by_cases hk : fk = 1
  · have HT := hide (HT1.out hk)
    subst hk
    clear HT1 HT2
    go_enter Tryz.func81, Tryz.ntmps81
    go_wp2_with fail
    refine (HK.out _).mono ?_
    rintro e w1 ⟨rfl, rfl⟩
    go_wp2_with fail
    go_ret
    rw [HT.out]
    exact ⟨_, 1, rfl, by simpa using S1.out.lower (Nat.le_succ _), B1.out⟩
  · have HT := hide (HT2.out hk)
    have hkk : (fk == 1) = false := beq_eq_false_iff_ne.2 hk
    clear HT1 HT2 hk
    have z1 : w.heap.size + 1 ≤ ((w.alloc (.cells #[.int .i64 fk, .int .i64 fo, .bool fm] 33)).alloc (.cells #[.int .i64 kn] 3)).heap.size := by simp
    go_enter Tryz.func81, Tryz.ntmps81
    go_wp2_with fail
    refine (HK.out _).mono ?_
    rintro e w1 ⟨rfl, rfl⟩
    go_wp2_with (first | (at_builtin; refine wpList_snoc_num rfl _ _ rfl (w.heap.size + 1) (.slice (some ⟨w.heap.size + 1, 0, none⟩) 1 1) [kn] (fo + 2) rfl (by simpa using S1.out) (by first | rfl | (simp; rfl)) (by simp) z1 ?_))
    intro g6 cap6 w6 h6 b6
    have S6 := hide h6
    have B6 := hide (B1.out.trans (b6.mono (Nat.le_succ _)))
    clear h6 b6
    go_wp2_with fail
    go_ret
    rw [HT.out]
    exact ⟨g6, cap6, rfl, S6.out.lower (Nat.le_succ _), B6.out⟩

set_option maxHeartbeats 1600000 in
theorem binListField_any (a : Option Addr) (c lo hi : Nat) (fs : List Fd) (w : World) (hs : FdsS 4 fs) (hx : FieldsIn w lo hi a fs) (hh : hi ≤ w.heap.size) :
    Calls Tryz.prog 80 #[.slice a fs.length c, .func (.func 81) #[] #[]] w fun e w' => NumsAt e w w' ((fs.length : Int) :: upNums (fun i => fdNums (fdAt fs i)) fs.length) := by
  have HX := hide hx
  have HS := hide hs.2
  have hn : fs.length ≤ 4 := hs.1
  have HUL : Hid (∀ k, k ≤ fs.length → (upNums (fun i => fdNums (fdAt fs i)) k).length ≤ 100) := fun k hk => Nat.le_trans (upNums_len (F := fun i => fdNums (fdAt fs i)) (c := 2) k fun i _ => fdNums_len _) (by omega)
  have HUS : Hid (∀ k, upNums (fun i => fdNums (fdAt fs i)) (k + 1) = upNums (fun i => fdNums (fdAt fs i)) k ++ fdNums (fdAt fs k)) := fun k => rfl
  have HU0 : Hid (upNums (fun i => fdNums (fdAt fs i)) 0 = []) := rfl
  clear hx hs
  generalize hUg : upNums (fun i => fdNums (fdAt fs i)) = U at HUL HUS HU0 ⊢
  clear hUg
  obtain ⟨n, hnn⟩ : ∃ n, fs.length = n := ⟨_, rfl⟩
  have HN := hide hnn
  rw [hnn] at hn HUL ⊢
  clear hnn
  have S0 := hide (NRow.new w w.heap.size (n : Int) (Nat.le_refl _))
  have B0 : Hid (Below w.heap.size w (w.alloc (.cells #[.int .i64 (n : Int)] 3))) := (Below.refl _ _).alloc (Nat.le_refl _) _
  go_enter Tryz.func80, Tryz.ntmps80
  go_wp2_with fail
  go_loopw [5, 13] (fun o i wr => ∃ (k : Nat) (v : Value) (L : List Int), k ≤ n ∧ v = o ∧ i = .int .i64 k ∧ L = (n : Int) :: U k ∧ NRow wr w.heap.size v L ∧ Below w.heap.size w wr) (fun o i wr => n - (intOf i).toNat)
  case atStart => exact ⟨0, _, _, Nat.zero_le _, rfl, rfl, by rw [HU0.out], S0.out, B0.out⟩
  case round =>
    clear S0 B0
    obtain ⟨k, v, L, hk, rfl, rfl, hL, hsr, hb⟩ := hrel
    have HA := hide hL
    have HB := hide hb
    have HSR := hide hsr
    have s1 := hb.size
    have hlen : L.length ≤ 600 := by
      have i2 := HUL.out k hk
      rw [hL, List.length_cons]
      omega
    clear hL hb hsr
    by_cases hlt : k < n
    · have hk2 : k < fs.length := by rw [HN.out]; exact hlt
      rcases HX.out with hnil | ⟨b, off, rfl, g1, g2, g3⟩
      · rw [hnil] at hk2; exact absurd hk2 (Nat.not_lt_zero _)
      obtain ⟨f0, f1, f2⟩ := (g3 k hk2).same (lo := lo) (hi := hi) (.of_below HB.out hh) g1 g2
      clear g3
      have HC : Hid (∀ W, Below wr.heap.size wr W → _) := fun W (hW : Below wr.heap.size wr W) => binFieldNums_any (fdAt fs k) W (HS.out k hk2)
      have HE : Hid ((n : Int) :: U (k + 1) = L ++ fdNums (fdAt fs k)) := by show _ = _; rw [HUS.out k, HA.out]; rfl
      have hpos : 0 < (fdNums (fdAt fs k)).length := fdNums_pos _
      have hml : (fdNums (fdAt fs k)).length ≤ 600 := by
        have i2 := HUL.out (k + 1) (by omega)
        rw [HUS.out k, List.length_append] at i2
        omega
      generalize fdNums (fdAt fs k) = M at HC HE hpos hml
      generalize fdAt fs k = f at f0 f1 f2 HC
      obtain ⟨fk, fo, fm⟩ := f
      simp only at f0 f1 f2 HC
      have j1 : (0 : Int) ≤ (k : Int) := by omega
      have j2 : (k : Int) < (n : Int) := by omega
      have BA := hide (HB.out.alloc s1 (.cells #[.int .i64 fk, .int .i64 fo, .bool fm] 33))
      have SA := hide (HSR.out.alloc (.cells #[.int .i64 fk, .int .i64 fo, .bool fm] 33))
      go_wp2_with fail
      refine (HC.out _ ((Below.refl _ _).alloc (Nat.le_refl _) _)).mono ?_
      rintro e w5 ⟨gM, capM, rfl, hM, b5⟩
      have B5 : Hid (Below w.heap.size w w5) := BA.out.trans (b5.mono BA.out.size)
      have S5 := hide (SA.out.below b5)
      have M5 := hide hM
      have s5 : w.heap.size ≤ w5.heap.size := B5.out.size
      clear b5 hM
      go_wp2_with (first | (at_builtin; refine wpList_app_num rfl _ _ rfl w.heap.size _ gM capM v L M rfl S5.out M5.out rfl (by omega) (by omega) hpos s5 ?_))
      intro g6 cap6 w6 h6 b6
      have S6 := hide h6
      have B6 := hide (B5.out.trans b6)
      clear h6 b6
      go_wp2_with fail
      exact ⟨⟨k + 1, _, L ++ M, by omega, rfl, by go_num, HE.out.symm, S6.out, B6.out⟩, by simp [intOf]; omega⟩
    · have hkn : k = n := by omega
      have hpos : 0 < L.length := by rw [HA.out]; simp
      obtain ⟨g, cap, rfl, hg1, hg2, hcap⟩ := HSR.out.form hpos
      have HE : Hid (L = (n : Int) :: U n) := by show _ = _; rw [HA.out, hkn]
      clear hkn
      go_wp2_with fail
      go_ret
      rw [← HE.out]
      exact ⟨g, cap, rfl, HSR.out, HB.out⟩

set_option maxHeartbeats 1600000 in
theorem binTypeNums_any (fa : Option Addr) (fc lo hi : Nat) (t : Ty) (w : World) (h : TyS t) (hx : FieldsIn w lo hi fa t.fields) (hh : hi ≤ w.heap.size) :
    Calls Tryz.prog 117 #[.agg #[.int .i64 t.kind, .int .i64 t.up, .bool t.last, .slice fa t.fields.length fc]] w fun e w' => NumsAt e w w' (tyNums t) := by
  have HX : Hid (∀ W, Below w.heap.size w W → Calls Tryz.prog 80 #[.slice fa t.fields.length fc, .func (.func 81) #[] #[]] W fun e w' => NumsAt e W w' (fdsNums t.fields)) := fun W hW => binListField_any fa fc lo hi t.fields W h.2 (hx.same (Same.of_below hW hh) (Nat.le_refl _) (Nat.le_refl _)) (Nat.le_trans hh hW.size)
  have hl3 : (fdsNums t.fields).length ≤ 9 := by
    have h2 := fdsNums_len t.fields
    have h3 : t.fields.length ≤ 4 := h.2.1
    omega
  have hp3 : 0 < (fdsNums t.fields).length := by simp [fdsNums]
  obtain ⟨⟨⟨k1, k2⟩, u1, u2⟩, hf⟩ := h
  clear hf hx
  have HK := hide (fun W => binKindNum_any t.kind t.last W k1 (by omega))
  have HT : Hid (tyNums t = [kNum t.kind t.last, t.up + 1] ++ fdsNums t.fields) := rfl
  generalize tyNums t = TT at HT ⊢
  generalize fdsNums t.fields = M at HX HT hl3 hp3
  generalize kNum t.kind t.last = kn at HK HT
  obtain ⟨tk, tu, tl, fs⟩ := t
  simp only at k1 k2 u1 u2 HX HT HK ⊢
  have hw2 : IntKind.i64.wrap (tu + 1) = tu + 1 := wrapI (by omega) (by omega)
  have hw3 : IntKind.i64.wrap (tu - -1) = tu + 1 := by rw [show tu - -1 = tu + 1 by omega]; exact hw2
  have B0 : Hid (Below w.heap.size w (w.alloc (.cells #[.int .i64 tk, .int .i64 tu, .bool tl, .slice fa fs.length fc] 44))) := (Below.refl _ _).alloc (Nat.le_refl _) _
  have R0 : Hid (Rec (w.alloc (.cells #[.int .i64 tk, .int .i64 tu, .bool tl, .slice fa fs.length fc] 44)) w.heap.size 44 [.int .i64 tk, .int .i64 tu, .bool tl, .slice fa fs.length fc]) := Rec.new _ _ _
  have S1 : Hid (NRow (((w.alloc (.cells #[.int .i64 tk, .int .i64 tu, .bool tl, .slice fa fs.length fc] 44)).drew).alloc (.cells #[.int .i64 kn, .int .i64 (tu + 1)] 3)) (w.heap.size + 1) (.slice (some ⟨w.heap.size + 1, 0, none⟩) 2 2) [kn, tu + 1]) := by
    show NRow _ _ _ _
    have := NRow.new2 ((w.alloc (.cells #[.int .i64 tk, .int .i64 tu, .bool tl, .slice fa fs.length fc] 44)).drew) (w.heap.size + 1) kn (tu + 1) (by simp)
    simpa using this
  have B1 := hide ((B0.out.drew).alloc B0.out.size (.cells #[.int .i64 kn, .int .i64 (tu + 1)] 3))
  have R1 : Hid (Rec (((w.alloc (.cells #[.int .i64 tk, .int .i64 tu, .bool tl, .slice fa fs.length fc] 44)).drew).alloc (.cells #[.int .i64 kn, .int .i64 (tu + 1)] 3)) w.heap.size 44 [.int .i64 tk, .int .i64 tu, .bool tl, .slice fa fs.length fc]) := Rec.alloc (w := (w.alloc (.cells #[.int .i64 tk, .int .i64 tu, .bool tl, .slice fa fs.length fc] 44)).drew) R0.out _
  go_enter Tryz.func117, Tryz.ntmps117
  go_wp2_with fail
  go_region_held3 (fun w' => w'.cell? ⟨w.heap.size, 0, none⟩ = some (.int .i64 tk) ∧ w'.cell? ⟨w.heap.size, 1, none⟩ = some (.int .i64 tu) ∧ w'.cell? ⟨w.heap.size, 2, none⟩ = some (.bool tl))
    (go_keep)
    ((go_at_call 118; refine (HK.out _).mono ?_; rintro e w1 ⟨rfl, rfl⟩))
  have r3 := R1.out.cell (o := 3) rfl
  go_wp2_with fail
  refine (HX.out _ B1.out).mono ?_
  rintro e w5 ⟨gM, capM, rfl, hM, b5⟩
  have B5 : Hid (Below w.heap.size w w5) := B1.out.trans (b5.mono B1.out.size)
  have S5 := hide (S1.out.below b5)
  have M5 := hide hM
  have s5 : w.heap.size + 1 ≤ w5.heap.size := by have := b5.size; simp at this; omega
  clear b5 hM
  go_wp2_with (first | (at_builtin; refine wpList_app_num rfl _ _ rfl (w.heap.size + 1) _ gM capM (.slice (some ⟨w.heap.size + 1, 0, none⟩) 2 2) [kn, tu + 1] M rfl S5.out M5.out rfl (by simp) (by omega) hp3 s5 ?_))
  intro g6 cap6 w6 h6 b6
  have S6 := hide h6
  have B6 := hide (B5.out.trans (b6.mono (Nat.le_succ _)))
  clear h6 b6
  go_wp2_with fail
  go_ret
  rw [HT.out]
  refine ⟨g6, cap6, ?_, ?_, B6.out⟩
  · simp <;> omega
  · have e : ([kn, tu + 1] ++ M).length = [kn, tu + 1].length + M.length := List.length_append
    rw [e]
    exact S6.out.lower (Nat.le_succ w.heap.size)

set_option maxHeartbeats 1600000 in
theorem binListType_any (a : Option Addr) (c lo hi : Nat) (g : List Ty) (w : World) (hs : GrS g) (hx : TypesIn w lo hi a g) (hh : hi ≤ w.heap.size) :
    Calls Tryz.prog 116 #[.slice a g.length c, .func (.func 117) #[] #[]] w fun e w' => NumsAt e w w' ((g.length : Int) :: upNums (fun i => tyNums (tyAt g i)) g.length) := by
  have HX := hide hx
  have HS := hide hs.2
  have hn : g.length ≤ 8 := hs.1
  have HUL : Hid (∀ k, k ≤ g.length → (upNums (fun i => tyNums (tyAt g i)) k).length ≤ 100) := fun k hk => Nat.le_trans (upTy_len hs k hk) (by omega)
  have HUS : Hid (∀ k, upNums (fun i => tyNums (tyAt g i)) (k + 1) = upNums (fun i => tyNums (tyAt g i)) k ++ tyNums (tyAt g k)) := fun k => rfl
  have HU0 : Hid (upNums (fun i => tyNums (tyAt g i)) 0 = []) := rfl
  clear hx hs
  generalize hUg : upNums (fun i => tyNums (tyAt g i)) = U at HUL HUS HU0 ⊢
  clear hUg
  obtain ⟨n, hnn⟩ : ∃ n, g.length = n := ⟨_, rfl⟩
  have HN := hide hnn
  rw [hnn] at hn HUL ⊢
  clear hnn
  have S0 := hide (NRow.new w w.heap.size (n : Int) (Nat.le_refl _))
  have B0 : Hid (Below w.heap.size w (w.alloc (.cells #[.int .i64 (n : Int)] 3))) := (Below.refl _ _).alloc (Nat.le_refl _) _
  go_enter Tryz.func116, Tryz.ntmps116
  go_wp2_with fail
  go_loopw [5, 13] (fun o i wr => ∃ (k : Nat) (v : Value) (L : List Int), k ≤ n ∧ v = o ∧ i = .int .i64 k ∧ L = (n : Int) :: U k ∧ NRow wr w.heap.size v L ∧ Below w.heap.size w wr) (fun o i wr => n - (intOf i).toNat)
  case atStart => exact ⟨0, _, _, Nat.zero_le _, rfl, rfl, by rw [HU0.out], S0.out, B0.out⟩
  case round =>
    clear S0 B0
    obtain ⟨k, v, L, hk, rfl, rfl, hL, hsr, hb⟩ := hrel
    have HA := hide hL
    have HB := hide hb
    have HSR := hide hsr
    have s1 := hb.size
    have hlen : L.length ≤ 600 := by
      have i2 := HUL.out k hk
      rw [hL, List.length_cons]
      omega
    clear hL hb hsr
    by_cases hlt : k < n
    · have hk2 : k < g.length := by rw [HN.out]; exact hlt
      rcases HX.out with hnil | ⟨b, off, rfl, g1, g2, g3⟩
      · rw [hnil] at hk2; exact absurd hk2 (Nat.not_lt_zero _)
      obtain ⟨x0, x1, x2, fa, fc, x3, hF⟩ := (g3 k hk2).same (lo' := lo) (hi' := hi) (.of_below HB.out hh) (Nat.le_refl _) (Nat.le_refl _) g1 g2
      have HF := hide hF
      clear g3 hF
      have HC : Hid (∀ W, Below wr.heap.size wr W → _) := fun W (hW : Below wr.heap.size wr W) => binTypeNums_any fa fc lo hi (tyAt g k) W (HS.out k hk2) (HF.out.same (Same.of_below hW (Nat.le_trans hh s1)) (Nat.le_refl _) (Nat.le_refl _)) (Nat.le_trans hh (Nat.le_trans s1 hW.size))
      have HE : Hid ((n : Int) :: U (k + 1) = L ++ tyNums (tyAt g k)) := by show _ = _; rw [HUS.out k, HA.out]; rfl
      have hpos : 0 < (tyNums (tyAt g k)).length := by simp [tyNums]
      have hml : (tyNums (tyAt g k)).length ≤ 600 := by
        have i2 := HUL.out (k + 1) (by omega)
        rw [HUS.out k, List.length_append] at i2
        omega
      generalize tyNums (tyAt g k) = M at HC HE hpos hml
      clear HF
      generalize tyAt g k = ty at x0 x1 x2 x3 HC
      obtain ⟨yk, yu, yl, yf⟩ := ty
      simp only at x0 x1 x2 x3 HC
      have j1 : (0 : Int) ≤ (k : Int) := by omega
      have j2 : (k : Int) < (n : Int) := by omega
      have BA := hide (HB.out.alloc s1 (.cells #[.int .i64 yk, .int .i64 yu, .bool yl, .slice fa yf.length fc] 44))
      have SA := hide (HSR.out.alloc (.cells #[.int .i64 yk, .int .i64 yu, .bool yl, .slice fa yf.length fc] 44))
      go_wp2_with fail
      refine (HC.out _ ((Below.refl _ _).alloc (Nat.le_refl _) _)).mono ?_
      rintro e w5 ⟨gM, capM, rfl, hM, b5⟩
      have B5 : Hid (Below w.heap.size w w5) := BA.out.trans (b5.mono BA.out.size)
      have S5 := hide (SA.out.below b5)
      have M5 := hide hM
      have s5 : w.heap.size ≤ w5.heap.size := B5.out.size
      clear b5 hM
      go_wp2_with (first | (at_builtin; refine wpList_app_num rfl _ _ rfl w.heap.size _ gM capM v L M rfl S5.out M5.out rfl (by omega) (by omega) hpos s5 ?_))
      intro g6 cap6 w6 h6 b6
      have S6 := hide h6
      have B6 := hide (B5.out.trans b6)
      clear h6 b6
      go_wp2_with fail
      exact ⟨⟨k + 1, _, L ++ M, by omega, rfl, by go_num, HE.out.symm, S6.out, B6.out⟩, by simp [intOf]; omega⟩
    · have hkn : k = n := by omega
      have hpos : 0 < L.length := by rw [HA.out]; simp
      obtain ⟨g, cap, rfl, hg1, hg2, hcap⟩ := HSR.out.form hpos
      have HE : Hid (L = (n : Int) :: U n) := by show _ = _; rw [HA.out, hkn]
      clear hkn
      go_wp2_with fail
      go_ret
      rw [← HE.out]
      exact ⟨g, cap, rfl, HSR.out, HB.out⟩

set_option maxHeartbeats 400000 in
theorem binGroupNums_any (a : Option Addr) (c lo hi : Nat) (g : List Ty) (w : World) (hs : GrS g) (hx : TypesIn w lo hi a g) (hh : hi ≤ w.heap.size) :
    Calls Tryz.prog 79 #[.slice a g.length c] w fun e w' => NumsAt e w w' (grNums g) := by
  have HC : Hid (Calls Tryz.prog 116 #[.slice a g.length c, .func (.func 117) #[] #[]] w fun e w' => NumsAt e w w' (grNums g)) := binListType_any a c lo hi g w hs hx hh
  clear hx hs
  go_enter Tryz.func79, Tryz.ntmps79
  go_wp2_with fail
  refine HC.out.mono ?_
  rintro e w5 ⟨gM, capM, rfl, hM, b5⟩
  go_wp2_with fail
  go_ret
  exact ⟨gM, capM, rfl, hM, b5⟩

set_option maxHeartbeats 1600000 in
theorem binListGroup_any (a : Option Addr) (c lo hi : Nat) (gs : List (List Ty)) (w : World) (hs : TysS gs) (hx : GroupsIn w lo hi a gs) (hh : hi ≤ w.heap.size) :
    Calls Tryz.prog 78 #[.slice a gs.length c, .func (.func 79) #[] #[]] w fun e w' => NumsAt e w w' ((gs.length : Int) :: upNums (fun i => grNums (grAt gs i)) gs.length) := by
  have HX := hide hx
  have HS := hide hs.2
  have hn : gs.length ≤ 4 := hs.1
  have HUL : Hid (∀ k, k ≤ gs.length → (upNums (fun i => grNums (grAt gs i)) k).length ≤ 356) := fun k hk => upGr_len hs k hk
  have HUS : Hid (∀ k, upNums (fun i => grNums (grAt gs i)) (k + 1) = upNums (fun i => grNums (grAt gs i)) k ++ grNums (grAt gs k)) := fun k => rfl
  have HU0 : Hid (upNums (fun i => grNums (grAt gs i)) 0 = []) := rfl
  clear hx hs
  generalize hUg : upNums (fun i => grNums (grAt gs i)) = U at HUL HUS HU0 ⊢
  clear hUg
  obtain ⟨n, hnn⟩ : ∃ n, gs.length = n := ⟨_, rfl⟩
  have HN := hide hnn
  rw [hnn] at hn HUL ⊢
  clear hnn
  have S0 := hide (NRow.new w w.heap.size (n : Int) (Nat.le_refl _))
  have B0 : Hid (Below w.heap.size w (w.alloc (.cells #[.int .i64 (n : Int)] 3))) := (Below.refl _ _).alloc (Nat.le_refl _) _
  go_enter Tryz.func78, Tryz.ntmps78
  go_wp2_with fail
  go_loopw [5, 13] (fun o i wr => ∃ (k : Nat) (v : Value) (L : List Int), k ≤ n ∧ v = o ∧ i = .int .i64 k ∧ L = (n : Int) :: U k ∧ NRow wr w.heap.size v L ∧ Below w.heap.size w wr) (fun o i wr => n - (intOf i).toNat)
  case atStart => exact ⟨0, _, _, Nat.zero_le _, rfl, rfl, by rw [HU0.out], S0.out, B0.out⟩
  case round =>
    clear S0 B0
    obtain ⟨k, v, L, hk, rfl, rfl, hL, hsr, hb⟩ := hrel
    have HA := hide hL
    have HB := hide hb
    have HSR := hide hsr
    have s1 := hb.size
    have hlen : L.length ≤ 600 := by
      have i2 := HUL.out k hk
      rw [hL, List.length_cons]
      omega
    clear hL hb hsr
    by_cases hlt : k < n
    · have hk2 : k < gs.length := by rw [HN.out]; exact hlt
      rcases HX.out with hnil | ⟨b, off, rfl, g1, g2, g3⟩
      · rw [hnil] at hk2; exact absurd hk2 (Nat.not_lt_zero _)
      obtain ⟨ta, tc, e0, hT⟩ := g3 k hk2
      have e0' : wr.cell? ⟨b, off + k, none⟩ = some (.slice ta (grAt gs k).length tc) := by rw [HB.out.cell (p := ⟨b, off + k, none⟩) (by show b < _; omega)]; exact e0
      have HF := hide (hT.same (lo' := lo) (hi' := hi) (Same.of_below HB.out hh) (Nat.le_refl _) (Nat.le_refl _))
      clear g3 hT e0
      have HC : Hid (∀ W, Below wr.heap.size wr W → _) := fun W (hW : Below wr.heap.size wr W) => binGroupNums_any ta tc lo hi (grAt gs k) W (HS.out k hk2) (HF.out.same (Same.of_below hW (Nat.le_trans hh s1)) (Nat.le_refl _) (Nat.le_refl _)) (Nat.le_trans hh (Nat.le_trans s1 hW.size))
      have HE : Hid ((n : Int) :: U (k + 1) = L ++ grNums (grAt gs k)) := by show _ = _; rw [HUS.out k, HA.out]; rfl
      have hpos : 0 < (grNums (grAt gs k)).length := by simp [grNums]
      have hml : (grNums (grAt gs k)).length ≤ 600 := by
        have i2 := HUL.out (k + 1) (by omega)
        rw [HUS.out k, List.length_append] at i2
        omega
      generalize grNums (grAt gs k) = M at HC HE hpos hml
      clear HF
      generalize grAt gs k = g at e0' HC
      have j1 : (0 : Int) ≤ (k : Int) := by omega
      have j2 : (k : Int) < (n : Int) := by omega
      have BA := HB
      have SA := HSR
      go_wp2_with fail
      refine (HC.out _ (Below.refl _ _)).mono ?_
      rintro e w5 ⟨gM, capM, rfl, hM, b5⟩
      have B5 : Hid (Below w.heap.size w w5) := BA.out.trans (b5.mono BA.out.size)
      have S5 := hide (SA.out.below b5)
      have M5 := hide hM
      have s5 : w.heap.size ≤ w5.heap.size := B5.out.size
      clear b5 hM
      go_wp2_with (first | (at_builtin; refine wpList_app_num rfl _ _ rfl w.heap.size _ gM capM v L M rfl S5.out M5.out rfl (by omega) (by omega) hpos s5 ?_))
      intro g6 cap6 w6 h6 b6
      have S6 := hide h6
      have B6 := hide (B5.out.trans b6)
      clear h6 b6
      go_wp2_with fail
      exact ⟨⟨k + 1, _, L ++ M, by omega, rfl, by go_num, HE.out.symm, S6.out, B6.out⟩, by simp [intOf]; omega⟩
    · have hkn : k = n := by omega
      have hpos : 0 < L.length := by rw [HA.out]; simp
      obtain ⟨g, cap, rfl, hg1, hg2, hcap⟩ := HSR.out.form hpos
      have HE : Hid (L = (n : Int) :: U n) := by show _ = _; rw [HA.out, hkn]
      clear hkn
      go_wp2_with fail
      go_ret
      rw [← HE.out]
      exact ⟨g, cap, rfl, HSR.out, HB.out⟩

end Go.Proofs.YtblliefejffhoaaGreatDoor

/- binInsNums and binFunNums of the program, and its lists of them. -/
namespace Go.Proofs.YtblliefejffhoaaGreatDoor
open Go.ChangeShapes Go.WideShapes Go.ChangeAt Go.RowKit
set_option linter.unusedVariables false

/-- One number more, at a step of a region that draws its order; what else is there is kept. -/
theorem step_snoc_num2 {ops : Array Oper} {o : Oper} {a : Act} {K : Act → World → Prop} {Q : Exit → Act → World → Prop} {E : Prop} {w0 : World} (hgd : o.guard = none) (s x : Operand)
    (ho : o.op = .call { callee := .builtin .append, args := #[s, x], argTypes := #[74, 74] })
    (S g0 n0 cap0 : Nat) (xs : List Int) (l : Int) (hs : a.eval s = .slice (some ⟨g0, 0, none⟩) n0 cap0) (hown : NRow w0 S (.slice (some ⟨g0, 0, none⟩) n0 cap0) xs) (hx : a.eval x = .slice (some ⟨w0.heap.size, 0, none⟩) 1 1) (hn : xs.length ≤ 1000) (hS : S ≤ w0.heap.size)
    (h : ∀ g cap w', NRow w' S (.slice (some ⟨g, 0, none⟩) (xs.length + 1) cap) (xs ++ [l]) → Below S w0 w' → (∀ k, k < w0.heap.size → k ≠ g0 → w'.heap[k]? = w0.heap[k]?) → (g = g0 ∨ w0.heap.size ≤ g) → w0.heap.size ≤ w'.heap.size → K (a.put o.dst (.slice (some ⟨g, 0, none⟩) (xs.length + 1) cap)) w') :
    if Region.wanted o (yielded ops a.tmps) = true then Oper.wp Tryz.prog o a (w0.alloc (.cells #[.int .i64 l] 3)) K Q else E := by
  obtain ⟨i0, hi0, hzz⟩ := Option.map_eq_some_iff.1 Tryz.infoNum
  simp only [Prod.mk.injEq] at hzz
  obtain ⟨hz0, hs0, hb0⟩ := hzz
  refine step_append_lies _ hgd s x 74 ho S 3 i0 _ 1 8 Tryz.underlying74 hi0 hz0 hs0 hb0 rfl (by decide) _ xs.length (numsV xs) hs (hown.alloc _) ⟨w0.heap.size, 0, none⟩ 1 1 [.int .i64 l] hx rfl (World.news_of_block (Deep.blk_alloc_new _ _)) (by intro u hu; simp at hu; subst hu; rfl) (by decide) (by unfold maxLen; omega) (by omega) (by simp; omega) _ rfl ?_
  intro g cap w' h1 h2 h3 h4
  refine h g cap w' ?_ (((Below.refl S w0).alloc hS _).grown h2 (by simp; omega) (owns_base hown)) (fun k hk hne => ?_) ?_ ?_
  · unfold NRow
    rw [numsV_app]
    have e : (xs ++ [l]).length = xs.length + 1 := by simp
    rw [e]
    exact h1
  · have := h2.block k (by simp; omega) (by simp [Value.ownBlock]; omega)
    rw [this, Below.heap_alloc _ _ _ hk]
  · rcases h3 with h3 | h3
    · simp [Value.ownBlock] at h3
      exact .inl h3.symm
    · simp at h3
      exact .inr (by omega)
  · have := h2.size
    simp at this
    omega

theorem cell_blk {w w' : World} {b o : Nat} (h : w'.heap[b]? = w.heap[b]?) : w'.cell? ⟨b, o, none⟩ = w.cell? ⟨b, o, none⟩ := World.cell?_of_block (w := w) (a := ⟨b, o, none⟩) h
theorem spanLo_le (op : Int) : -2 ≤ spanLo op ∧ spanLo op ≤ 0 := by unfold spanLo; split <;> omega

set_option maxHeartbeats 3200000 in
theorem binInsNums_any (i : GIns) (w : World) (h : InsS i) :
    Calls Tryz.prog 120 #[.agg #[.int .i64 i.op, .int .i64 i.a, .int .i64 i.b]] w fun e w' => NumsAt e w w' (insNums i) := by
  obtain ⟨op, a, b⟩ := i
  obtain ⟨⟨o1, o2⟩, ⟨a1, a2⟩, b1, b2⟩ := insS_at h
  simp only at o1 o2 a1 a2 b1 b2 ⊢
  clear h
  have hsl := spanLo_le op
  have HT0 : Hid (spanN op = 0 → insNums ⟨op, a, b⟩ = [op]) := fun h => by simp [insNums, spanNums, h]
  have HT1 : Hid (spanN op = 1 → insNums ⟨op, a, b⟩ = [op] ++ [a - spanLo op]) := fun h => by simp [insNums, spanNums, h]
  have HT2 : Hid (spanN op = 2 → insNums ⟨op, a, b⟩ = [op] ++ [a - spanLo op] ++ [b]) := fun h => by simp [insNums, spanNums, h]
  generalize insNums ⟨op, a, b⟩ = TT at HT0 HT1 HT2 ⊢
  have hw1 : IntKind.i64.wrap (a - spanLo op) = a - spanLo op := wrapI (by omega) (by omega)
  have hw2 : IntKind.i64.wrap b = b := wrapI (by omega) (by omega)
  have hw3 : IntKind.i64.wrap (b - 0) = b := by rw [Int.sub_zero]; exact hw2
  have B0 : Hid (Below w.heap.size w (((w.alloc (.cells #[.int .i64 op, .int .i64 a, .int .i64 b] 59)).alloc (.cells #[.int .i64 op] 3)).alloc (.cells #[.int .i64 a, .int .i64 b] 145))) := (((Below.refl _ _).alloc (Nat.le_refl _) _).alloc (by simp) _).alloc (by simp; omega) _
  have S0 : Hid (NRow (((w.alloc (.cells #[.int .i64 op, .int .i64 a, .int .i64 b] 59)).alloc (.cells #[.int .i64 op] 3)).alloc (.cells #[.int .i64 a, .int .i64 b] 145)) (w.heap.size + 1) (.slice (some ⟨w.heap.size + 1, 0, none⟩) 1 1) [op]) := by
    show NRow _ _ _ _
    have := (NRow.new (w.alloc (.cells #[.int .i64 op, .int .i64 a, .int .i64 b] 59)) (w.heap.size + 1) op (by simp)).alloc (.cells #[.int .i64 a, .int .i64 b] 145)
    simpa using this
  have A0 : Hid (Rec (((w.alloc (.cells #[.int .i64 op, .int .i64 a, .int .i64 b] 59)).alloc (.cells #[.int .i64 op] 3)).alloc (.cells #[.int .i64 a, .int .i64 b] 145)) (w.heap.size + 1 + 1) 145 [.int .i64 a, .int .i64 b]) := Rec.new' _ _ _ _ (by simp)
  have z0 : (((w.alloc (.cells #[.int .i64 op, .int .i64 a, .int .i64 b] 59)).alloc (.cells #[.int .i64 op] 3)).alloc (.cells #[.int .i64 a, .int .i64 b] 145)).heap.size = w.heap.size + 1 + 1 + 1 := by simp
  have HZ0 := hide z0
  clear z0
  rcases spanN_3 op with hn | hn | hn
  · have HT := hide (HT0.out hn)
    have HN := hide hn
    clear HT0 HT1 HT2 hn
    go_enter Tryz.func120, Tryz.ntmps120
    go_wp2_with fail
    refine (insSpans_at op 0 HN.out _).mono ?_
    rintro e w1 ⟨sa, rfl, hsp, b1⟩
    have B1 := hide (B0.out.trans (b1.mono B0.out.size))
    have S1 := hide (S0.out.below b1)
    have A1 := hide (A0.out.below b1 A0.out.lt)
    have z1 : w.heap.size + 1 + 1 + 1 ≤ w1.heap.size := by have := b1.size; rw [HZ0.out] at this; exact this
    rw [HZ0.out] at hsp
    clear b1
    go_wp2_with fail
    go_loopw [3, 19] (fun o i wr => o = .slice (some ⟨w.heap.size + 1, 0, none⟩) 1 1 ∧ i = .int .i64 0 ∧ wr = w1) (fun o i wr => 0)
    case atStart => exact ⟨rfl, rfl, rfl⟩
    case round =>
      obtain ⟨rfl, rfl, rfl⟩ := hrel
      go_wp2_with fail
      go_ret
      rw [HT.out]
      exact ⟨_, 1, rfl, S1.out.lower (Nat.le_succ _), B1.out⟩
  · have HT := hide (HT1.out hn)
    have HN := hide hn
    clear HT0 HT1 HT2 hn
    go_enter Tryz.func120, Tryz.ntmps120
    go_wp2_with fail
    refine (insSpans_at op 1 HN.out _).mono ?_
    rintro e w1 ⟨sa, rfl, hsp, b1⟩
    have B1 := hide (B0.out.trans (b1.mono B0.out.size))
    have S1 := hide (S0.out.below b1)
    have A1 := hide (A0.out.below b1 A0.out.lt)
    have z1 : w.heap.size + 1 + 1 + 1 ≤ w1.heap.size := by have := b1.size; rw [HZ0.out] at this; exact this
    rw [HZ0.out] at hsp
    clear b1
    rcases hsp with h0 | ⟨sb, rfl, s1, s2, s3, s4, s5⟩
    · rw [HN.out] at h0; exact absurd h0 (by decide)
    clear s5
    generalize spanLo op = slo at *
    generalize spanHi op = shi at *
    go_wp2_with fail
    go_loopw [3, 19] (fun o i wr => ∃ (k g cap : Nat) (L : List Int), k ≤ 1 ∧ o = .slice (some ⟨g, 0, none⟩) L.length cap ∧ i = .int .i64 k ∧ L = ([op] ++ [a - slo]).take (k + 1) ∧ NRow wr (w.heap.size + 1) (.slice (some ⟨g, 0, none⟩) L.length cap) L ∧ (g ≠ w.heap.size + 1 + 1 ∧ g ≠ sb) ∧ Rec wr (w.heap.size + 1 + 1) 145 [.int .i64 a, .int .i64 b] ∧ (wr.cell? ⟨sb, 0, none⟩ = some (.int .i64 slo) ∧ wr.cell? ⟨sb, 1, none⟩ = some (.int .i64 shi)) ∧ (sb < wr.heap.size ∧ w.heap.size + 1 + 1 < wr.heap.size ∧ g < wr.heap.size) ∧ Below w.heap.size w wr) (fun o i wr => 1 - (intOf i).toNat)
    case atStart => exact ⟨0, w.heap.size + 1, 1, [op], by omega, rfl, rfl, rfl, S1.out, ⟨by omega, by omega⟩, A1.out, ⟨s3, s4⟩, ⟨s2, by omega, by omega⟩, B1.out⟩
    case round =>
      clear S0 S1 A0 A1 B0 B1 s3 s4
      obtain ⟨k, g, cap, L, hk, rfl, rfl, hL, hsr, ⟨hg1, hg2⟩, har, hsp, ⟨hz1, hz2, hz3⟩, hb⟩ := hrel
      have HA := hide hL
      have HB := hide hb
      have HSR := hide hsr
      have HAR := hide har
      have HSP := hide hsp
      have s1 := hb.size
      have hlen : L.length ≤ 3 := by rw [hL, List.length_take]; simp <;> omega
      clear hL hb hsr har hsp
      have hkk : k = 0 ∨ k = 1 := by omega
      rcases hkk with rfl | rfl
      · have c0 := HSP.out.1
        have c1 := HSP.out.2
        have d0 := HAR.out.cell (o := 0) rfl
        have HSA := hide (HSR.out.alloc (.cells #[.int .i64 slo, .int .i64 shi] 126))
        have HAA := hide (HAR.out.alloc (.cells #[.int .i64 slo, .int .i64 shi] 126))
        have HBA := hide (HB.out.alloc s1 (.cells #[.int .i64 slo, .int .i64 shi] 126))
        have zA : w.heap.size + 1 ≤ (wr.alloc (.cells #[.int .i64 slo, .int .i64 shi] 126)).drew.heap.size := by simp; omega
        have q0 : (wr.alloc (.cells #[.int .i64 slo, .int .i64 shi] 126)).cell? ⟨wr.heap.size, 0, none⟩ = some (.int .i64 slo) := by simp
        have zz : (wr.alloc (.cells #[.int .i64 slo, .int .i64 shi] 126)).heap.size = wr.heap.size + 1 := by simp
        go_wp2_with fail
        go_region_held3 (fun w' => w'.cell? ⟨w.heap.size + 1 + 1, 0, none⟩ = some (.int .i64 a) ∧ w'.cell? ⟨wr.heap.size, 0, none⟩ = some (.int .i64 slo))
          (go_keep)
          ((refine step_snoc_num2 (w0 := (wr.alloc (.cells #[.int .i64 slo, .int .i64 shi] 126)).drew) (by rfl) _ _ (by rfl) (w.heap.size + 1) g L.length cap L (a - slo) (by rfl) HSA.out (by first | rfl | (simp; rfl)) (by omega) zA ?_; intro g6 cap6 w6 h6 b6 k6 hg6 s6; have e1 : w6.cell? ⟨w.heap.size + 1 + 1, 0, none⟩ = some (.int .i64 a) := (cell_blk (k6 _ (by simp; omega) (by omega))).trans (HAA.out.cell (o := 0) rfl); have e2 : w6.cell? ⟨wr.heap.size, 0, none⟩ = some (.int .i64 slo) := (cell_blk (k6 _ (by simp) (by omega))).trans q0))
        have K6 : ∀ k, k < wr.heap.size → k ≠ g → w6.heap[k]? = wr.heap[k]? := fun k hk hne => (k6 k (by simp; omega) hne).trans (Below.heap_alloc _ _ _ hk)
        have S6 := hide h6
        have B6 := hide (HBA.out.drew.trans (b6.mono (Nat.le_succ _)))
        have A6 : Hid (Rec w6 (w.heap.size + 1 + 1) 145 [.int .i64 a, .int .i64 b]) := (K6 _ hz2 (by omega)).trans HAR.out
        have hz6 : wr.heap.size < w6.heap.size := by have := s6; simp at this; omega
        have SP6 : Hid (w6.cell? ⟨sb, 0, none⟩ = some (.int .i64 slo) ∧ w6.cell? ⟨sb, 1, none⟩ = some (.int .i64 shi)) := ⟨(cell_blk (K6 _ hz1 (fun e => hg2 e.symm))).trans HSP.out.1, (cell_blk (K6 _ hz1 (fun e => hg2 e.symm))).trans HSP.out.2⟩
        have hg6' : g6 ≠ w.heap.size + 1 + 1 ∧ g6 ≠ sb := by
          rcases hg6 with e | e
          · rw [e]; exact ⟨hg1, hg2⟩
          · simp at e; omega
        have hg7 : g6 < w6.heap.size := by
          obtain ⟨gx, cx, hx, _, hxx, _⟩ := h6.form (by simp)
          simp at hx
          omega
        clear h6 b6 K6
        clear k6 e1 e2
        go_wp2_with fail
        refine ⟨⟨1, g6, cap6, L ++ [(a - slo)], by omega, by simp, by go_num, ?_, ?_, hg6', A6.out, SP6.out, ⟨by omega, by omega, hg7⟩, B6.out⟩, by simp [intOf]⟩
        · rw [HA.out]; rfl
        · have := S6.out
          simpa using this
      · go_wp2_with fail
        go_ret
        have hE : L = TT := by rw [HT.out, HA.out]; rfl
        rw [← hE]
        exact ⟨g, cap, rfl, HSR.out.lower (Nat.le_succ _), HB.out⟩
  · have HT := hide (HT2.out hn)
    have HN := hide hn
    clear HT0 HT1 HT2 hn
    go_enter Tryz.func120, Tryz.ntmps120
    go_wp2_with fail
    refine (insSpans_at op 2 HN.out _).mono ?_
    rintro e w1 ⟨sa, rfl, hsp, b1⟩
    have B1 := hide (B0.out.trans (b1.mono B0.out.size))
    have S1 := hide (S0.out.below b1)
    have A1 := hide (A0.out.below b1 A0.out.lt)
    have z1 : w.heap.size + 1 + 1 + 1 ≤ w1.heap.size := by have := b1.size; rw [HZ0.out] at this; exact this
    rw [HZ0.out] at hsp
    clear b1
    rcases hsp with h0 | ⟨sb, rfl, s1, s2, s3, s4, s5⟩
    · rw [HN.out] at h0; exact absurd h0 (by decide)
    obtain ⟨s5, s6⟩ := s5 HN.out
    generalize spanLo op = slo at *
    generalize spanHi op = shi at *
    go_wp2_with fail
    go_loopw [3, 19] (fun o i wr => ∃ (k g cap : Nat) (L : List Int), k ≤ 2 ∧ o = .slice (some ⟨g, 0, none⟩) L.length cap ∧ i = .int .i64 k ∧ L = ([op] ++ [a - slo] ++ [b]).take (k + 1) ∧ NRow wr (w.heap.size + 1) (.slice (some ⟨g, 0, none⟩) L.length cap) L ∧ (g ≠ w.heap.size + 1 + 1 ∧ g ≠ sb) ∧ Rec wr (w.heap.size + 1 + 1) 145 [.int .i64 a, .int .i64 b] ∧ (wr.cell? ⟨sb, 0, none⟩ = some (.int .i64 slo) ∧ wr.cell? ⟨sb, 1, none⟩ = some (.int .i64 shi) ∧ wr.cell? ⟨sb, 2, none⟩ = some (.int .i64 0) ∧ wr.cell? ⟨sb, 3, none⟩ = some (.int .i64 4)) ∧ (sb < wr.heap.size ∧ w.heap.size + 1 + 1 < wr.heap.size ∧ g < wr.heap.size) ∧ Below w.heap.size w wr) (fun o i wr => 2 - (intOf i).toNat)
    case atStart => exact ⟨0, w.heap.size + 1, 1, [op], by omega, rfl, rfl, rfl, S1.out, ⟨by omega, by omega⟩, A1.out, ⟨s3, s4, s5, s6⟩, ⟨s2, by omega, by omega⟩, B1.out⟩
    case round =>
      clear S0 S1 A0 A1 B0 B1 s3 s4 s5 s6
      obtain ⟨k, g, cap, L, hk, rfl, rfl, hL, hsr, ⟨hg1, hg2⟩, har, hsp, ⟨hz1, hz2, hz3⟩, hb⟩ := hrel
      have HA := hide hL
      have HB := hide hb
      have HSR := hide hsr
      have HAR := hide har
      have HSP := hide hsp
      have s1 := hb.size
      have hlen : L.length ≤ 3 := by rw [hL, List.length_take]; simp <;> omega
      clear hL hb hsr har hsp
      have hkk : k = 0 ∨ k = 1 ∨ k = 2 := by omega
      rcases hkk with rfl | rfl | rfl
      · have c0 := HSP.out.1
        have c1 := HSP.out.2.1
        have d0 := HAR.out.cell (o := 0) rfl
        have HSA := hide (HSR.out.alloc (.cells #[.int .i64 slo, .int .i64 shi] 126))
        have HAA := hide (HAR.out.alloc (.cells #[.int .i64 slo, .int .i64 shi] 126))
        have HBA := hide (HB.out.alloc s1 (.cells #[.int .i64 slo, .int .i64 shi] 126))
        have zA : w.heap.size + 1 ≤ (wr.alloc (.cells #[.int .i64 slo, .int .i64 shi] 126)).drew.heap.size := by simp; omega
        have q0 : (wr.alloc (.cells #[.int .i64 slo, .int .i64 shi] 126)).cell? ⟨wr.heap.size, 0, none⟩ = some (.int .i64 slo) := by simp
        have zz : (wr.alloc (.cells #[.int .i64 slo, .int .i64 shi] 126)).heap.size = wr.heap.size + 1 := by simp
        go_wp2_with fail
        go_region_held3 (fun w' => w'.cell? ⟨w.heap.size + 1 + 1, 0, none⟩ = some (.int .i64 a) ∧ w'.cell? ⟨wr.heap.size, 0, none⟩ = some (.int .i64 slo))
          (go_keep)
          ((refine step_snoc_num2 (w0 := (wr.alloc (.cells #[.int .i64 slo, .int .i64 shi] 126)).drew) (by rfl) _ _ (by rfl) (w.heap.size + 1) g L.length cap L (a - slo) (by rfl) HSA.out (by first | rfl | (simp; rfl)) (by omega) zA ?_; intro g6 cap6 w6 h6 b6 k6 hg6 s6; have e1 : w6.cell? ⟨w.heap.size + 1 + 1, 0, none⟩ = some (.int .i64 a) := (cell_blk (k6 _ (by simp; omega) (by omega))).trans (HAA.out.cell (o := 0) rfl); have e2 : w6.cell? ⟨wr.heap.size, 0, none⟩ = some (.int .i64 slo) := (cell_blk (k6 _ (by simp) (by omega))).trans q0))
        have K6 : ∀ k, k < wr.heap.size → k ≠ g → w6.heap[k]? = wr.heap[k]? := fun k hk hne => (k6 k (by simp; omega) hne).trans (Below.heap_alloc _ _ _ hk)
        have S6 := hide h6
        have B6 := hide (HBA.out.drew.trans (b6.mono (Nat.le_succ _)))
        have A6 : Hid (Rec w6 (w.heap.size + 1 + 1) 145 [.int .i64 a, .int .i64 b]) := (K6 _ hz2 (by omega)).trans HAR.out
        have hz6 : wr.heap.size < w6.heap.size := by have := s6; simp at this; omega
        have SP6 : Hid (w6.cell? ⟨sb, 0, none⟩ = some (.int .i64 slo) ∧ w6.cell? ⟨sb, 1, none⟩ = some (.int .i64 shi) ∧ w6.cell? ⟨sb, 2, none⟩ = some (.int .i64 0) ∧ w6.cell? ⟨sb, 3, none⟩ = some (.int .i64 4)) := ⟨(cell_blk (K6 _ hz1 (fun e => hg2 e.symm))).trans HSP.out.1, (cell_blk (K6 _ hz1 (fun e => hg2 e.symm))).trans HSP.out.2.1, (cell_blk (K6 _ hz1 (fun e => hg2 e.symm))).trans HSP.out.2.2.1, (cell_blk (K6 _ hz1 (fun e => hg2 e.symm))).trans HSP.out.2.2.2⟩
        have hg6' : g6 ≠ w.heap.size + 1 + 1 ∧ g6 ≠ sb := by
          rcases hg6 with e | e
          · rw [e]; exact ⟨hg1, hg2⟩
          · simp at e; omega
        have hg7 : g6 < w6.heap.size := by
          obtain ⟨gx, cx, hx, _, hxx, _⟩ := h6.form (by simp)
          simp at hx
          omega
        clear h6 b6 K6
        clear k6 e1 e2
        go_wp2_with fail
        refine ⟨⟨1, g6, cap6, L ++ [(a - slo)], by omega, by simp, by go_num, ?_, ?_, hg6', A6.out, SP6.out, ⟨by omega, by omega, hg7⟩, B6.out⟩, by simp [intOf]⟩
        · rw [HA.out]; rfl
        · have := S6.out
          simpa using this
      · have c0 := HSP.out.2.2.1
        have c1 := HSP.out.2.2.2
        have d0 := HAR.out.cell (o := 1) rfl
        have HSA := hide (HSR.out.alloc (.cells #[.int .i64 0, .int .i64 4] 126))
        have HAA := hide (HAR.out.alloc (.cells #[.int .i64 0, .int .i64 4] 126))
        have HBA := hide (HB.out.alloc s1 (.cells #[.int .i64 0, .int .i64 4] 126))
        have zA : w.heap.size + 1 ≤ (wr.alloc (.cells #[.int .i64 0, .int .i64 4] 126)).drew.heap.size := by simp; omega
        have q0 : (wr.alloc (.cells #[.int .i64 0, .int .i64 4] 126)).cell? ⟨wr.heap.size, 0, none⟩ = some (.int .i64 0) := by simp
        have zz : (wr.alloc (.cells #[.int .i64 0, .int .i64 4] 126)).heap.size = wr.heap.size + 1 := by simp
        go_wp2_with fail
        go_region_held3 (fun w' => w'.cell? ⟨w.heap.size + 1 + 1, 1, none⟩ = some (.int .i64 b) ∧ w'.cell? ⟨wr.heap.size, 0, none⟩ = some (.int .i64 0))
          (go_keep)
          ((refine step_snoc_num2 (w0 := (wr.alloc (.cells #[.int .i64 0, .int .i64 4] 126)).drew) (by rfl) _ _ (by rfl) (w.heap.size + 1) g L.length cap L (b) (by rfl) HSA.out (by first | rfl | (simp; rfl)) (by omega) zA ?_; intro g6 cap6 w6 h6 b6 k6 hg6 s6; have e1 : w6.cell? ⟨w.heap.size + 1 + 1, 1, none⟩ = some (.int .i64 b) := (cell_blk (k6 _ (by simp; omega) (by omega))).trans (HAA.out.cell (o := 1) rfl); have e2 : w6.cell? ⟨wr.heap.size, 0, none⟩ = some (.int .i64 0) := (cell_blk (k6 _ (by simp) (by omega))).trans q0))
        have K6 : ∀ k, k < wr.heap.size → k ≠ g → w6.heap[k]? = wr.heap[k]? := fun k hk hne => (k6 k (by simp; omega) hne).trans (Below.heap_alloc _ _ _ hk)
        have S6 := hide h6
        have B6 := hide (HBA.out.drew.trans (b6.mono (Nat.le_succ _)))
        have A6 : Hid (Rec w6 (w.heap.size + 1 + 1) 145 [.int .i64 a, .int .i64 b]) := (K6 _ hz2 (by omega)).trans HAR.out
        have hz6 : wr.heap.size < w6.heap.size := by have := s6; simp at this; omega
        have SP6 : Hid (w6.cell? ⟨sb, 0, none⟩ = some (.int .i64 slo) ∧ w6.cell? ⟨sb, 1, none⟩ = some (.int .i64 shi) ∧ w6.cell? ⟨sb, 2, none⟩ = some (.int .i64 0) ∧ w6.cell? ⟨sb, 3, none⟩ = some (.int .i64 4)) := ⟨(cell_blk (K6 _ hz1 (fun e => hg2 e.symm))).trans HSP.out.1, (cell_blk (K6 _ hz1 (fun e => hg2 e.symm))).trans HSP.out.2.1, (cell_blk (K6 _ hz1 (fun e => hg2 e.symm))).trans HSP.out.2.2.1, (cell_blk (K6 _ hz1 (fun e => hg2 e.symm))).trans HSP.out.2.2.2⟩
        have hg6' : g6 ≠ w.heap.size + 1 + 1 ∧ g6 ≠ sb := by
          rcases hg6 with e | e
          · rw [e]; exact ⟨hg1, hg2⟩
          · simp at e; omega
        have hg7 : g6 < w6.heap.size := by
          obtain ⟨gx, cx, hx, _, hxx, _⟩ := h6.form (by simp)
          simp at hx
          omega
        clear h6 b6 K6
        clear k6 e1 e2
        go_wp2_with fail
        refine ⟨⟨2, g6, cap6, L ++ [b], by omega, by simp, by go_num, ?_, ?_, hg6', A6.out, SP6.out, ⟨by omega, by omega, hg7⟩, B6.out⟩, by simp [intOf]⟩
        · rw [HA.out]; rfl
        · have := S6.out
          simpa using this
      · go_wp2_with fail
        go_ret
        have hE : L = TT := by rw [HT.out, HA.out]; rfl
        rw [← hE]
        exact ⟨g, cap, rfl, HSR.out.lower (Nat.le_succ _), HB.out⟩

set_option maxHeartbeats 1600000 in
theorem binListIns_any {md : Bool} (a : Option Addr) (c lo hi : Nat) (bs : List GIns) (w : World) (hs : InssS bs) (hx : InssM md w lo hi a bs) (hh : hi ≤ w.heap.size) :
    Calls Tryz.prog 119 #[.slice a bs.length c, .func (.func 120) #[] #[]] w fun e w' => NumsAt e w w' ((bs.length : Int) :: upNums (fun i => insNums (insAt' bs i)) bs.length) := by
  have HX := hide hx
  have HS := hide hs.2
  have hn : bs.length ≤ 30 := hs.1
  have HUL : Hid (∀ k, k ≤ bs.length → (upNums (fun i => insNums (insAt' bs i)) k).length ≤ 90) := fun k hk => upIns_len hs k hk
  have HUS : Hid (∀ k, upNums (fun i => insNums (insAt' bs i)) (k + 1) = upNums (fun i => insNums (insAt' bs i)) k ++ insNums (insAt' bs k)) := fun k => rfl
  have HU0 : Hid (upNums (fun i => insNums (insAt' bs i)) 0 = []) := rfl
  clear hx hs
  generalize hUg : upNums (fun i => insNums (insAt' bs i)) = U at HUL HUS HU0 ⊢
  clear hUg
  obtain ⟨n, hnn⟩ : ∃ n, bs.length = n := ⟨_, rfl⟩
  have HN := hide hnn
  rw [hnn] at hn HUL ⊢
  clear hnn
  have S0 := hide (NRow.new w w.heap.size (n : Int) (Nat.le_refl _))
  have B0 : Hid (Below w.heap.size w (w.alloc (.cells #[.int .i64 (n : Int)] 3))) := (Below.refl _ _).alloc (Nat.le_refl _) _
  go_enter Tryz.func119, Tryz.ntmps119
  go_wp2_with fail
  go_loopw [5, 13] (fun o i wr => ∃ (k : Nat) (v : Value) (L : List Int), k ≤ n ∧ v = o ∧ i = .int .i64 k ∧ L = (n : Int) :: U k ∧ NRow wr w.heap.size v L ∧ Below w.heap.size w wr) (fun o i wr => n - (intOf i).toNat)
  case atStart => exact ⟨0, _, _, Nat.zero_le _, rfl, rfl, by rw [HU0.out], S0.out, B0.out⟩
  case round =>
    clear S0 B0
    obtain ⟨k, v, L, hk, rfl, rfl, hL, hsr, hb⟩ := hrel
    have HA := hide hL
    have HB := hide hb
    have HSR := hide hsr
    have s1 := hb.size
    have hlen : L.length ≤ 600 := by
      have i2 := HUL.out k hk
      rw [hL, List.length_cons]
      omega
    clear hL hb hsr
    by_cases hlt : k < n
    · have hk2 : k < bs.length := by rw [HN.out]; exact hlt
      rcases HX.out with hnil | ⟨b, off, rfl, g1, g2, _, g3⟩
      · rw [hnil] at hk2; exact absurd hk2 (Nat.not_lt_zero _)
      obtain ⟨i0, i1, i2⟩ := (g3 k hk2).same (lo' := lo) (hi' := hi) (.of_below HB.out hh) (Nat.le_refl _) (Nat.le_refl _) g1 g2
      clear g3
      have HC : Hid (∀ W, Below wr.heap.size wr W → _) := fun W (hW : Below wr.heap.size wr W) => binInsNums_any (insAt' bs k) W (HS.out k hk2)
      have HE : Hid ((n : Int) :: U (k + 1) = L ++ insNums (insAt' bs k)) := by show _ = _; rw [HUS.out k, HA.out]; rfl
      have hpos : 0 < (insNums (insAt' bs k)).length := by simp [insNums]
      have hml : (insNums (insAt' bs k)).length ≤ 600 := by
        have i2 := HUL.out (k + 1) (by omega)
        rw [HUS.out k, List.length_append] at i2
        omega
      generalize insNums (insAt' bs k) = M at HC HE hpos hml
      generalize insAt' bs k = i at i0 i1 i2 HC
      obtain ⟨io, ia, ib⟩ := i
      simp only at i0 i1 i2 HC
      have j1 : (0 : Int) ≤ (k : Int) := by omega
      have j2 : (k : Int) < (n : Int) := by omega
      have BA := hide (HB.out.alloc s1 (.cells #[.int .i64 io, .int .i64 ia, .int .i64 ib] 59))
      have SA := hide (HSR.out.alloc (.cells #[.int .i64 io, .int .i64 ia, .int .i64 ib] 59))
      go_wp2_with fail
      refine (HC.out _ ((Below.refl _ _).alloc (Nat.le_refl _) _)).mono ?_
      rintro e w5 ⟨gM, capM, rfl, hM, b5⟩
      have B5 : Hid (Below w.heap.size w w5) := BA.out.trans (b5.mono BA.out.size)
      have S5 := hide (SA.out.below b5)
      have M5 := hide hM
      have s5 : w.heap.size ≤ w5.heap.size := B5.out.size
      clear b5 hM
      go_wp2_with (first | (at_builtin; refine wpList_app_num rfl _ _ rfl w.heap.size _ gM capM v L M rfl S5.out M5.out rfl (by omega) (by omega) hpos s5 ?_))
      intro g6 cap6 w6 h6 b6
      have S6 := hide h6
      have B6 := hide (B5.out.trans b6)
      clear h6 b6
      go_wp2_with fail
      exact ⟨⟨k + 1, _, L ++ M, by omega, rfl, by go_num, HE.out.symm, S6.out, B6.out⟩, by simp [intOf]; omega⟩
    · have hkn : k = n := by omega
      have hpos : 0 < L.length := by rw [HA.out]; simp
      obtain ⟨g, cap, rfl, hg1, hg2, hcap⟩ := HSR.out.form hpos
      have HE : Hid (L = (n : Int) :: U n) := by show _ = _; rw [HA.out, hkn]
      clear hkn
      go_wp2_with fail
      go_ret
      rw [← HE.out]
      exact ⟨g, cap, rfl, HSR.out, HB.out⟩

set_option maxHeartbeats 1600000 in
theorem binFunNums_any {md : Bool} (a0 a4 a5 : Option Addr) (c0 c4 c5 lo hi : Nat) (f : GFun) (w : World) (hs : FunS f) (h0 : FieldsM md w lo hi a0 f.takes) (h4 : FieldsM md w lo hi a4 f.own) (h5 : InssM md w lo hi a5 f.body) (hh : hi ≤ w.heap.size) :
    Calls Tryz.prog 83 #[.agg #[.slice a0 f.takes.length c0, .int .i64 f.gives.kind, .int .i64 f.gives.of, .bool f.gives.mt, .slice a4 f.own.length c4, .slice a5 f.body.length c5]] w fun e w' => NumsAt e w w' (funNums f) := by
  have HT : Hid (funNums f = fdNums f.gives ++ fdsNums f.takes ++ fdsNums f.own ++ inssNums f.body) := rfl
  have HC0 := hide (fun W => binFieldNums_any f.gives W hs.1)
  have HC1 : Hid (∀ W, Below w.heap.size w W → Calls Tryz.prog 80 #[.slice a0 f.takes.length c0, .func (.func 81) #[] #[]] W fun e w' => NumsAt e W w' (fdsNums f.takes)) := fun W hb => binListField_any a0 c0 lo hi f.takes W ⟨Nat.le_trans hs.2.1.1 (by omega), hs.2.1.2⟩ (h0.1.keep (hb.mono hh)) (Nat.le_trans hh hb.size)
  have HC2 : Hid (∀ W, Below w.heap.size w W → Calls Tryz.prog 80 #[.slice a4 f.own.length c4, .func (.func 81) #[] #[]] W fun e w' => NumsAt e W w' (fdsNums f.own)) := fun W hb => binListField_any a4 c4 lo hi f.own W ⟨Nat.le_trans hs.2.2.1.1 (by omega), hs.2.2.1.2⟩ (h4.1.keep (hb.mono hh)) (Nat.le_trans hh hb.size)
  have HC3 : Hid (∀ W, Below w.heap.size w W → Calls Tryz.prog 119 #[.slice a5 f.body.length c5, .func (.func 120) #[] #[]] W fun e w' => NumsAt e W w' (inssNums f.body)) := fun W hb => binListIns_any a5 c5 lo hi f.body W hs.2.2.2 (h5.keep (hb.mono hh)) (Nat.le_trans hh hb.size)
  have l0 := fdNums_len f.gives
  have p0 := fdNums_pos f.gives
  have l1 : (fdsNums f.takes).length ≤ 7 := by have := fdsNums_len f.takes; have : f.takes.length ≤ 3 := hs.2.1.1; omega
  have p1 : 0 < (fdsNums f.takes).length := by simp [fdsNums]
  have l2 : (fdsNums f.own).length ≤ 7 := by have := fdsNums_len f.own; have : f.own.length ≤ 3 := hs.2.2.1.1; omega
  have p2 : 0 < (fdsNums f.own).length := by simp [fdsNums]
  have l3 : (inssNums f.body).length ≤ 91 := by have := upIns_len hs.2.2.2 _ (Nat.le_refl _); simp [inssNums]; omega
  have p3 : 0 < (inssNums f.body).length := by simp [inssNums]
  clear h0 h4 h5 hs
  generalize funNums f = TT at HT ⊢
  generalize fdNums f.gives = M0 at HT HC0 l0 p0
  generalize fdsNums f.takes = M1 at HT HC1 l1 p1
  generalize fdsNums f.own = M2 at HT HC2 l2 p2
  generalize inssNums f.body = M3 at HT HC3 l3 p3
  obtain ⟨ts, ⟨gk, go, gm⟩, os, bs⟩ := f
  simp only at HC0 HC1 HC2 HC3 ⊢
  have R0 : Hid (Rec (w.alloc (.cells #[.slice a0 ts.length c0, .int .i64 gk, .int .i64 go, .bool gm, .slice a4 os.length c4, .slice a5 bs.length c5] 36)) w.heap.size 36 [.slice a0 ts.length c0, .int .i64 gk, .int .i64 go, .bool gm, .slice a4 os.length c4, .slice a5 bs.length c5]) := Rec.new _ _ _
  have B0 : Hid (Below w.heap.size w (w.alloc (.cells #[.slice a0 ts.length c0, .int .i64 gk, .int .i64 go, .bool gm, .slice a4 os.length c4, .slice a5 bs.length c5] 36))) := (Below.refl _ _).alloc (Nat.le_refl _) _
  go_enter Tryz.func83, Tryz.ntmps83
  go_wp2_with fail
  refine (HC0.out _).mono ?_
  rintro e w1 ⟨g0, cap0, rfl, hM0, b1⟩
  have B1 := hide (B0.out.trans (b1.mono B0.out.size))
  have R1 := hide (R0.out.below b1 R0.out.lt)
  have S1 : Hid (NRow w1 (w.heap.size + 1) (.slice (some ⟨g0, 0, none⟩) M0.length cap0) M0) := hM0.lower (by simp)
  have r0 := R1.out.cell (o := 0) rfl
  clear b1 hM0 R0 B0
  go_wp2_with fail
  refine (HC1.out _ B1.out).mono ?_
  rintro e u1 ⟨gM1, capM1, rfl, hM1, b1⟩
  have BU1 := hide (B1.out.trans (b1.mono B1.out.size))
  have RU1 := hide (R1.out.below b1 R1.out.lt)
  have SU1 := hide (S1.out.below b1)
  have MU1 := hide hM1
  have zU1 : w.heap.size + 1 ≤ u1.heap.size := RU1.out.lt
  clear b1 hM1
  go_wp2_with (first | (at_builtin; refine wpList_app_num rfl _ _ rfl (w.heap.size + 1) _ gM1 capM1 (.slice (some ⟨g0, 0, none⟩) M0.length cap0) M0 M1 rfl SU1.out MU1.out rfl (by omega) (by omega) p1 zU1 ?_))
  intro g1 cap1 w2 h2 b2
  rw [← List.length_append] at h2 ⊢
  generalize hN1 : M0 ++ M1 = N1 at h2 ⊢
  have HN1 := hide hN1
  have lN1 : N1.length ≤ 10 := by rw [← hN1, List.length_append]; omega
  clear hN1
  have S2 := hide h2
  have B2 := hide (BU1.out.trans (b2.mono (Nat.le_succ _)))
  have R2 := hide (RU1.out.below b2 (Nat.lt_succ_self _))
  clear h2 b2
  have r4 := R2.out.cell (o := 4) rfl
  go_wp2_with fail
  refine (HC2.out _ B2.out).mono ?_
  rintro e u2 ⟨gM2, capM2, rfl, hM2, b2⟩
  have BU2 := hide (B2.out.trans (b2.mono B2.out.size))
  have RU2 := hide (R2.out.below b2 R2.out.lt)
  have SU2 := hide (S2.out.below b2)
  have MU2 := hide hM2
  have zU2 : w.heap.size + 1 ≤ u2.heap.size := RU2.out.lt
  clear b2 hM2
  go_wp2_with (first | (at_builtin; refine wpList_app_num rfl _ _ rfl (w.heap.size + 1) _ gM2 capM2 (.slice (some ⟨g1, 0, none⟩) N1.length cap1) N1 M2 rfl SU2.out MU2.out rfl (by omega) (by omega) p2 zU2 ?_))
  intro g2 cap2 w3 h3 b3
  rw [← List.length_append] at h3 ⊢
  generalize hN2 : N1 ++ M2 = N2 at h3 ⊢
  have HN2 := hide hN2
  have lN2 : N2.length ≤ 100 := by rw [← hN2, List.length_append]; omega
  clear hN2
  have S3 := hide h3
  have B3 := hide (BU2.out.trans (b3.mono (Nat.le_succ _)))
  have R3 := hide (RU2.out.below b3 (Nat.lt_succ_self _))
  clear h3 b3
  have r5 := R3.out.cell (o := 5) rfl
  go_wp2_with fail
  refine (HC3.out _ B3.out).mono ?_
  rintro e u3 ⟨gM3, capM3, rfl, hM3, b3⟩
  have BU3 := hide (B3.out.trans (b3.mono B3.out.size))
  have RU3 := hide (R3.out.below b3 R3.out.lt)
  have SU3 := hide (S3.out.below b3)
  have MU3 := hide hM3
  have zU3 : w.heap.size + 1 ≤ u3.heap.size := RU3.out.lt
  clear b3 hM3
  go_wp2_with (first | (at_builtin; refine wpList_app_num rfl _ _ rfl (w.heap.size + 1) _ gM3 capM3 (.slice (some ⟨g2, 0, none⟩) N2.length cap2) N2 M3 rfl SU3.out MU3.out rfl (by omega) (by omega) p3 zU3 ?_))
  intro g3 cap3 w4 h4 b4
  rw [← List.length_append] at h4 ⊢
  generalize hN3 : N2 ++ M3 = N3 at h4 ⊢
  have HN3 := hide hN3
  have lN3 : N3.length ≤ 200 := by rw [← hN3, List.length_append]; omega
  clear hN3
  have S4 := hide h4
  have B4 := hide (BU3.out.trans (b4.mono (Nat.le_succ _)))
  have R4 := hide (RU3.out.below b4 (Nat.lt_succ_self _))
  clear h4 b4
  go_wp2_with fail
  go_ret
  have hE : TT = N3 := by rw [HT.out, HN1.out, HN2.out, HN3.out]
  rw [hE]
  exact ⟨g3, cap3, rfl, S4.out.lower (Nat.le_succ w.heap.size), B4.out⟩

set_option maxHeartbeats 1600000 in
theorem binListFun_any {md : Bool} (a : Option Addr) (c lo hi : Nat) (fs : List GFun) (w : World) (hs : FunsS fs) (hx : FunsM md w lo hi a fs) (hh : hi ≤ w.heap.size) :
    Calls Tryz.prog 82 #[.slice a fs.length c, .func (.func 83) #[] #[]] w fun e w' => NumsAt e w w' ((fs.length : Int) :: upNums (fun i => funNums (funAt' fs i)) fs.length) := by
  have HX := hide hx
  have HS := hide hs.2
  have hn : fs.length ≤ 5 := hs.1
  have HUL : Hid (∀ k, k ≤ fs.length → (upNums (fun i => funNums (funAt' fs i)) k).length ≤ 535) := fun k hk => upFun_len hs k hk
  have HUS : Hid (∀ k, upNums (fun i => funNums (funAt' fs i)) (k + 1) = upNums (fun i => funNums (funAt' fs i)) k ++ funNums (funAt' fs k)) := fun k => rfl
  have HU0 : Hid (upNums (fun i => funNums (funAt' fs i)) 0 = []) := rfl
  clear hx hs
  generalize hUg : upNums (fun i => funNums (funAt' fs i)) = U at HUL HUS HU0 ⊢
  clear hUg
  obtain ⟨n, hnn⟩ : ∃ n, fs.length = n := ⟨_, rfl⟩
  have HN := hide hnn
  rw [hnn] at hn HUL ⊢
  clear hnn
  have S0 := hide (NRow.new w w.heap.size (n : Int) (Nat.le_refl _))
  have B0 : Hid (Below w.heap.size w (w.alloc (.cells #[.int .i64 (n : Int)] 3))) := (Below.refl _ _).alloc (Nat.le_refl _) _
  go_enter Tryz.func82, Tryz.ntmps82
  go_wp2_with fail
  go_loopw [5, 13] (fun o i wr => ∃ (k : Nat) (v : Value) (L : List Int), k ≤ n ∧ v = o ∧ i = .int .i64 k ∧ L = (n : Int) :: U k ∧ NRow wr w.heap.size v L ∧ Below w.heap.size w wr) (fun o i wr => n - (intOf i).toNat)
  case atStart => exact ⟨0, _, _, Nat.zero_le _, rfl, rfl, by rw [HU0.out], S0.out, B0.out⟩
  case round =>
    clear S0 B0
    obtain ⟨k, v, L, hk, rfl, rfl, hL, hsr, hb⟩ := hrel
    have HA := hide hL
    have HB := hide hb
    have HSR := hide hsr
    have s1 := hb.size
    have hlen : L.length ≤ 600 := by
      have i2 := HUL.out k hk
      rw [hL, List.length_cons]
      omega
    clear hL hb hsr
    by_cases hlt : k < n
    · have hk2 : k < fs.length := by rw [HN.out]; exact hlt
      rcases HX.out with hnil | ⟨b, off, rfl, g1, g2, _, g3⟩
      · rw [hnil] at hk2; exact absurd hk2 (Nat.not_lt_zero _)
      obtain ⟨p0, q0, p4, q4, p5, q5, y0, y1, y2, y3, y4, y5, z0, z4, z5⟩ := (g3 k hk2).same (lo' := lo) (hi' := hi) (.of_below HB.out hh) (Nat.le_refl _) (Nat.le_refl _) g1 g2
      have Z0 := hide z0
      have Z4 := hide z4
      have Z5 := hide z5
      clear g3 z0 z4 z5
      have HC : Hid (∀ W, Below wr.heap.size wr W → _) := fun W (hW : Below wr.heap.size wr W) => binFunNums_any p0 p4 p5 q0 q4 q5 lo hi (funAt' fs k) W (HS.out k hk2) (Z0.out.keep (hW.mono (Nat.le_trans hh s1))) (Z4.out.keep (hW.mono (Nat.le_trans hh s1))) (Z5.out.keep (hW.mono (Nat.le_trans hh s1))) (Nat.le_trans hh (Nat.le_trans s1 hW.size))
      have HE : Hid ((n : Int) :: U (k + 1) = L ++ funNums (funAt' fs k)) := by show _ = _; rw [HUS.out k, HA.out]; rfl
      have hpos : 0 < (funNums (funAt' fs k)).length := by simp [funNums, fdNums]
      have hml : (funNums (funAt' fs k)).length ≤ 600 := by
        have i2 := HUL.out (k + 1) (by omega)
        rw [HUS.out k, List.length_append] at i2
        omega
      generalize funNums (funAt' fs k) = M at HC HE hpos hml
      clear Z0 Z4 Z5
      generalize funAt' fs k = f at y0 y1 y2 y3 y4 y5 HC
      obtain ⟨fts, ⟨gk, go, gm⟩, fos, fbs⟩ := f
      simp only at y0 y1 y2 y3 y4 y5 HC
      have j1 : (0 : Int) ≤ (k : Int) := by omega
      have j2 : (k : Int) < (n : Int) := by omega
      have BA := hide (HB.out.alloc s1 (.cells #[.slice p0 fts.length q0, .int .i64 gk, .int .i64 go, .bool gm, .slice p4 fos.length q4, .slice p5 fbs.length q5] 36))
      have SA := hide (HSR.out.alloc (.cells #[.slice p0 fts.length q0, .int .i64 gk, .int .i64 go, .bool gm, .slice p4 fos.length q4, .slice p5 fbs.length q5] 36))
      go_wp2_with fail
      refine (HC.out _ ((Below.refl _ _).alloc (Nat.le_refl _) _)).mono ?_
      rintro e w5 ⟨gM, capM, rfl, hM, b5⟩
      have B5 : Hid (Below w.heap.size w w5) := BA.out.trans (b5.mono BA.out.size)
      have S5 := hide (SA.out.below b5)
      have M5 := hide hM
      have s5 : w.heap.size ≤ w5.heap.size := B5.out.size
      clear b5 hM
      go_wp2_with (first | (at_builtin; refine wpList_app_num rfl _ _ rfl w.heap.size _ gM capM v L M rfl S5.out M5.out rfl (by omega) (by omega) hpos s5 ?_))
      intro g6 cap6 w6 h6 b6
      have S6 := hide h6
      have B6 := hide (B5.out.trans b6)
      clear h6 b6
      go_wp2_with fail
      exact ⟨⟨k + 1, _, L ++ M, by omega, rfl, by go_num, HE.out.symm, S6.out, B6.out⟩, by simp [intOf]; omega⟩
    · have hkn : k = n := by omega
      have hpos : 0 < L.length := by rw [HA.out]; simp
      obtain ⟨g, cap, rfl, hg1, hg2, hcap⟩ := HSR.out.form hpos
      have HE : Hid (L = (n : Int) :: U n) := by show _ = _; rw [HA.out, hkn]
      clear hkn
      go_wp2_with fail
      go_ret
      rw [← HE.out]
      exact ⟨g, cap, rfl, HSR.out, HB.out⟩

end Go.Proofs.YtblliefejffhoaaGreatDoor

/- binProgNums and BinOf of the program. -/
namespace Go.Proofs.YtblliefejffhoaaGreatDoor
open Go.ChangeShapes Go.WideShapes Go.ChangeAt Go.RowKit
set_option linter.unusedVariables false

set_option maxHeartbeats 1600000 in
theorem binProgNums_any {md : Bool} (a0 a1 a2 : Option Addr) (c0 c1 c2 lo hi : Nat) (p : GProg) (w : World) (hs : ProgS p) (hx : PM md w lo hi a0 a1 a2 p) (hh : hi ≤ w.heap.size) :
    Calls Tryz.prog 45 #[.agg #[.slice a0 p.types.length c0, .slice a1 p.glob.length c1, .slice a2 p.funs.length c2]] w fun e w' => NumsAt e w w' (progNums p) := by
  have HT : Hid (progNums p = tysNums p.types ++ fdsNums p.glob ++ funsNums p.funs) := rfl
  have HC0 : Hid (∀ W, Below w.heap.size w W → Calls Tryz.prog 78 #[.slice a0 p.types.length c0, .func (.func 79) #[] #[]] W fun e w' => NumsAt e W w' (tysNums p.types)) := fun W hb => binListGroup_any a0 c0 lo hi p.types W hs.1 (hx.1.1.keep (hb.mono hh)) (Nat.le_trans hh hb.size)
  have HC1 : Hid (∀ W, Below w.heap.size w W → Calls Tryz.prog 80 #[.slice a1 p.glob.length c1, .func (.func 81) #[] #[]] W fun e w' => NumsAt e W w' (fdsNums p.glob)) := fun W hb => binListField_any a1 c1 lo hi p.glob W ⟨Nat.le_trans hs.2.1.1 (by omega), hs.2.1.2⟩ (hx.2.1.1.keep (hb.mono hh)) (Nat.le_trans hh hb.size)
  have HC2 : Hid (∀ W, Below w.heap.size w W → Calls Tryz.prog 82 #[.slice a2 p.funs.length c2, .func (.func 83) #[] #[]] W fun e w' => NumsAt e W w' (funsNums p.funs)) := fun W hb => binListFun_any a2 c2 lo hi p.funs W hs.2.2 (hx.2.2.keep (hb.mono hh)) (Nat.le_trans hh hb.size)
  have l0 : (tysNums p.types).length ≤ 357 := by have := upGr_len hs.1 _ (Nat.le_refl _); simp [tysNums]; omega
  have p0 : 0 < (tysNums p.types).length := by simp [tysNums]
  have l1 : (fdsNums p.glob).length ≤ 7 := by have := fdsNums_len p.glob; have : p.glob.length ≤ 3 := hs.2.1.1; omega
  have p1 : 0 < (fdsNums p.glob).length := by simp [fdsNums]
  have l2 : (funsNums p.funs).length ≤ 536 := by have := upFun_len hs.2.2 _ (Nat.le_refl _); simp [funsNums]; omega
  have p2 : 0 < (funsNums p.funs).length := by simp [funsNums]
  clear hx hs
  generalize progNums p = TT at HT ⊢
  generalize tysNums p.types = M0 at HT HC0 l0 p0
  generalize fdsNums p.glob = M1 at HT HC1 l1 p1
  generalize funsNums p.funs = M2 at HT HC2 l2 p2
  obtain ⟨gs, gl, fs⟩ := p
  simp only at HC0 HC1 HC2 ⊢
  have R0 : Hid (Rec (w.alloc (.cells #[.slice a0 gs.length c0, .slice a1 gl.length c1, .slice a2 fs.length c2] 27)) w.heap.size 27 [.slice a0 gs.length c0, .slice a1 gl.length c1, .slice a2 fs.length c2]) := Rec.new _ _ _
  have B0 : Hid (Below w.heap.size w (w.alloc (.cells #[.slice a0 gs.length c0, .slice a1 gl.length c1, .slice a2 fs.length c2] 27))) := (Below.refl _ _).alloc (Nat.le_refl _) _
  go_enter Tryz.func45, Tryz.ntmps45
  go_wp2_with fail
  refine (HC0.out _ B0.out).mono ?_
  rintro e w1 ⟨g0, cap0, rfl, hM0, b1⟩
  have B1 := hide (B0.out.trans (b1.mono B0.out.size))
  have R1 := hide (R0.out.below b1 R0.out.lt)
  have S1 : Hid (NRow w1 (w.heap.size + 1) (.slice (some ⟨g0, 0, none⟩) M0.length cap0) M0) := hM0.lower (by simp)
  have r1 := R1.out.cell (o := 1) rfl
  clear b1 hM0 R0 B0
  go_wp2_with fail
  refine (HC1.out _ B1.out).mono ?_
  rintro e u1 ⟨gM1, capM1, rfl, hM1, b1⟩
  have BU1 := hide (B1.out.trans (b1.mono B1.out.size))
  have RU1 := hide (R1.out.below b1 R1.out.lt)
  have SU1 := hide (S1.out.below b1)
  have MU1 := hide hM1
  have zU1 : w.heap.size + 1 ≤ u1.heap.size := RU1.out.lt
  clear b1 hM1
  go_wp2_with (first | (at_builtin; refine wpList_app_num rfl _ _ rfl (w.heap.size + 1) _ gM1 capM1 (.slice (some ⟨g0, 0, none⟩) M0.length cap0) M0 M1 rfl SU1.out MU1.out rfl (by omega) (by omega) p1 zU1 ?_))
  intro g1 cap1 w2 h2 b2
  rw [← List.length_append] at h2 ⊢
  generalize hN1 : M0 ++ M1 = N1 at h2 ⊢
  have HN1 := hide hN1
  have lN1 : N1.length ≤ 400 := by rw [← hN1, List.length_append]; omega
  clear hN1
  have S2 := hide h2
  have B2 := hide (BU1.out.trans (b2.mono (Nat.le_succ _)))
  have R2 := hide (RU1.out.below b2 (Nat.lt_succ_self _))
  clear h2 b2
  have r2 := R2.out.cell (o := 2) rfl
  go_wp2_with fail
  refine (HC2.out _ B2.out).mono ?_
  rintro e u2 ⟨gM2, capM2, rfl, hM2, b2⟩
  have BU2 := hide (B2.out.trans (b2.mono B2.out.size))
  have RU2 := hide (R2.out.below b2 R2.out.lt)
  have SU2 := hide (S2.out.below b2)
  have MU2 := hide hM2
  have zU2 : w.heap.size + 1 ≤ u2.heap.size := RU2.out.lt
  clear b2 hM2
  go_wp2_with (first | (at_builtin; refine wpList_app_num rfl _ _ rfl (w.heap.size + 1) _ gM2 capM2 (.slice (some ⟨g1, 0, none⟩) N1.length cap1) N1 M2 rfl SU2.out MU2.out rfl (by omega) (by omega) p2 zU2 ?_))
  intro g2 cap2 w3 h3 b3
  rw [← List.length_append] at h3 ⊢
  generalize hN2 : N1 ++ M2 = N2 at h3 ⊢
  have HN2 := hide hN2
  have lN2 : N2.length ≤ 1000 := by rw [← hN2, List.length_append]; omega
  clear hN2
  have S3 := hide h3
  have B3 := hide (BU2.out.trans (b3.mono (Nat.le_succ _)))
  have R3 := hide (RU2.out.below b3 (Nat.lt_succ_self _))
  clear h3 b3
  go_wp2_with fail
  go_ret
  have hE : TT = N2 := by rw [HT.out, HN1.out, HN2.out]
  rw [hE]
  exact ⟨g2, cap2, rfl, S3.out.lower (Nat.le_succ w.heap.size), B3.out⟩

theorem implBin_l (n : Int) {l : List UInt8} (h : binB n = l) (w : World) : Calls Tryz.prog 46 #[.int .i64 n] w fun e w' => e = .returned (.string ⟨l.toArray⟩) ∧ Below w.heap.size w w' := h ▸ implBinOfNum_any n w
theorem bin_take (ns : List Int) (k : Nat) (h : k < ns.length) : bin (ns.take (k + 1)) = bin (ns.take k) ++ binB ns[k] := by
  rw [List.take_succ_eq_append_getElem h, bin_append, bin_one]
theorem NRow.kept {w w' : World} {S b g n cap : Nat} {xs : List Int} (h : NRow w S (.slice (some ⟨g, 0, none⟩) n cap) xs) (hk : Lib.OthersKept 5 (some b) w w') (hb : g ≠ b) : NRow w' S (.slice (some ⟨g, 0, none⟩) n cap) xs := by
  refine owns_of_block h fun k hkk => ?_
  simp [Value.ownBlock] at hkk
  subst hkk
  rcases h.2 with ⟨h0, _⟩ | ⟨g', cap', cur, h1, h2, h3, _⟩
  · cases h0
  · simp at h1
    obtain ⟨rfl, _⟩ := h1
    rw [h3]
    exact hk _ _ h3 (fun e => hb (Option.some.inj e)) (fun c fz e => absurd e (by simp))

set_option maxHeartbeats 3200000 in
set_option maxRecDepth 100000 in
theorem implBinOf_any {md : Bool} (a0 a1 a2 : Option Addr) (c0 c1 c2 lo hi : Nat) (p : GProg) (w : World) (hB : ProgB 1048576 p) (hx : PM md w lo hi a0 a1 a2 p) (hl : lo ≤ hi) (hh : hi ≤ w.heap.size) (hp : pow10 w) :
    Calls Tryz.prog 15 #[.agg #[.slice a0 p.types.length c0, .slice a1 p.glob.length c1, .slice a2 p.funs.length c2]] w fun e w' => e = .returned (.string ⟨(binTxt p).toArray⟩) ∧ Below w.heap.size w w' := by
  have HOk := hide (fun W (hb : Below w.heap.size w W) => implProgOk_any a0 a1 a2 c0 c1 c2 lo hi p W hB (hx.keep (hb.mono hh)) hl (Nat.le_trans hh hb.size) (pow10_keep hp hb))
  have HT0 : Hid (progOkF p = false → binTxt p = []) := fun h => by unfold binTxt; rw [h]; rfl
  have HT1 : Hid (progOkF p = true → binTxt p = lairW ++ bin (progNums p)) := fun h => by unfold binTxt; rw [h]; rfl
  have HC : Hid (progOkF p = true → ∀ W, Below w.heap.size w W → Calls Tryz.prog 45 #[.agg #[.slice a0 p.types.length c0, .slice a1 p.glob.length c1, .slice a2 p.funs.length c2]] W fun e w' => NumsAt e W w' (progNums p)) := fun h W hb => binProgNums_any a0 a1 a2 c0 c1 c2 lo hi p W (progS_of h) (hx.keep (hb.mono hh)) (Nat.le_trans hh hb.size)
  have HLn : Hid (progOkF p = true → (progNums p).length ≤ 1000) := fun h => progNums_len (progS_of h)
  generalize binTxt p = TT at HT0 HT1 ⊢
  clear hx hB hp
  generalize progOkF p = R at HOk HT0 HT1 HC HLn
  generalize progNums p = ns at HT1 HC HLn
  obtain ⟨gs, gl, fs⟩ := p
  simp only at HOk HC ⊢
  have r0 : Rec (w.alloc (.cells #[.slice a0 gs.length c0, .slice a1 gl.length c1, .slice a2 fs.length c2] 27)) w.heap.size 27 [.slice a0 gs.length c0, .slice a1 gl.length c1, .slice a2 fs.length c2] := Rec.new _ _ _
  have b0 : Below w.heap.size w (w.alloc (.cells #[.slice a0 gs.length c0, .slice a1 gl.length c1, .slice a2 fs.length c2] 27)) := (Below.refl _ _).alloc (Nat.le_refl _) _
  have R0 := hide r0
  have B0 := hide b0
  clear r0 b0
  go_enter Tryz.func15, Tryz.ntmps15
  go_wp2_with fail
  refine (HOk.out _ B0.out).mono ?_
  rintro e w1 ⟨rfl, b1⟩
  have B1 := hide (B0.out.trans (b1.mono B0.out.size))
  have R1 := hide (R0.out.below b1 R0.out.lt)
  clear b1 R0 B0 HOk
  cases R with
  | false =>
    have hT := HT0.out rfl
    have HT := hide hT
    clear hT HT0 HT1 HC HLn
    go_wp2_with fail
    go_ret
    exact ⟨by rw [HT.out]; rfl, B1.out⟩
  | true =>
  have HT := hide (HT1.out rfl)
  have HCN := hide (HC.out rfl)
  have hlen := HLn.out rfl
  clear HT0 HT1 HC HLn
  have s1 := B1.out.size
  have D0 : Hid (Bld w1.heap.size w1.heap.size [] (w1.alloc (.cells #[.pointer none, .slice none 0 0] 69))) := Bld.new _ _ _ (Nat.le_refl _) rfl
  have BA := hide ((Below.refl w1.heap.size w1).alloc (Nat.le_refl _) (.cells #[.pointer none, .slice none 0 0] 69))
  go_wp2_with fail
  refine (write_any w1.heap.size w1.heap.size [] [108, 97, 105, 114] _ D0.out (by simp) BA.out.size).mono ?_
  rintro e w2 ⟨rfl, d2, b2, k2⟩
  have D2 : Hid (Bld w1.heap.size w1.heap.size [108, 97, 105, 114] w2) := d2
  have B2 := hide (BA.out.trans b2)
  have R2 := hide (R1.out.below B2.out R1.out.lt)
  have z2 : w1.heap.size < w2.heap.size := D2.out.lt
  clear d2 b2 k2 D0 BA
  have q0 := R2.out.cell (o := 0) rfl
  have q1 := R2.out.cell (o := 1) rfl
  have q2 := R2.out.cell (o := 2) rfl
  go_wp2_with fail
  refine (HCN.out _ (B1.out.trans (B2.out.mono s1))).mono ?_
  rintro e w3 ⟨gN, capN, rfl, hN, b3⟩
  have D3 := hide (D2.out.below b3)
  have N3 := hide hN
  have B3 := hide (B2.out.trans (b3.mono B2.out.size))
  have hgN : w2.heap.size ≤ gN := by
    rcases hN.2 with ⟨h0, _⟩ | ⟨g', cap', cur, h1, h2, _⟩
    · cases h0
    · simp at h1; omega
  clear b3 hN q0 q1 q2
  obtain ⟨n, hn⟩ : ∃ n, ns.length = n := ⟨_, rfl⟩
  rw [hn] at hlen ⊢
  have HN := hide hn
  clear hn
  go_wp2_with fail
  go_loopw [13] (fun i wr => ∃ (k : Nat) (acc : List UInt8), k ≤ n ∧ i = .int .i64 k ∧ acc = lairW ++ bin (ns.take k) ∧ Bld w1.heap.size w1.heap.size acc wr ∧ NRow wr w2.heap.size (.slice (some ⟨gN, 0, none⟩) ns.length capN) ns ∧ Below w1.heap.size w1 wr) (fun i wr => n - (intOf i).toNat)
  case atStart => exact ⟨0, _, Nat.zero_le _, rfl, by simp [bin, lairW], D3.out, N3.out, B3.out⟩
  case round =>
    clear D2 D3 N3 B2 B3 R2
    obtain ⟨k, acc, hk, rfl, hacc, hd, hnr, hb⟩ := hrel
    have HA := hide hacc
    have HB := hide hb
    have HD := hide hd
    have HNR := hide hnr
    have sb := hb.size
    have hal : acc.length ≤ 5000 := by
      have i1 := bin_len (ns.take k)
      have i2 : (ns.take k).length ≤ k := by simp; omega
      rw [hacc, List.length_append]
      simp [lairW]
      omega
    clear hacc hb hd hnr
    by_cases hlt : k < n
    · have hk2 : k < ns.length := by rw [HN.out]; exact hlt
      have c0 := HNR.out.cell hk2
      have HE : Hid (lairW ++ bin (ns.take (k + 1)) = acc ++ binB ns[k]) := by show _ = _; rw [bin_take ns k hk2, HA.out]; simp
      generalize ns[k] = v at c0 HE
      obtain ⟨t, ht⟩ : ∃ l, binB v = l := ⟨_, rfl⟩
      have hlt2 := binB_len2 ht
      have HTt := hide ht
      rw [ht] at HE
      clear ht
      have j1 : (0 : Int) ≤ (k : Int) := by omega
      have j2 : (k : Int) < (n : Int) := by omega
      go_wp2_with fail
      refine (implBin_l v HTt.out wr).mono ?_
      rintro e w4 ⟨rfl, b4⟩
      have B4 := hide (HB.out.trans (b4.mono sb))
      have D4 := hide (HD.out.below b4)
      have N4 := hide (HNR.out.below b4)
      have s4 := B4.out.size
      clear b4
      go_wp2_with fail
      refine (write_any w1.heap.size w1.heap.size acc t w4 D4.out (by omega) s4).mono ?_
      rintro e w5 ⟨rfl, d5, b5, k5⟩
      have N5 := hide (N4.out.kept k5 (by omega))
      have B5 := hide (B4.out.trans b5)
      clear b5 k5
      go_wp2_with fail
      exact ⟨⟨k + 1, acc ++ t, by omega, by go_num, HE.out.symm, d5, N5.out, B5.out⟩, by simp [intOf]; omega⟩
    · have hkn : k = n := by omega
      have HE : Hid (acc = TT) := by show _ = _; rw [HA.out, hkn, HT.out, List.take_of_length_le (by rw [HN.out]; exact Nat.le_refl _)]
      clear hkn
      go_wp2_with fail
      refine (told_any w1.heap.size w1.heap.size acc wr HD.out sb).mono ?_
      rintro e w4 ⟨rfl, _, b4, _⟩
      go_wp2_with fail
      go_ret
      rw [← HE.out]
      exact ⟨rfl, B1.out.trans ((HB.out.trans b4).mono s1)⟩
end Go.Proofs.YtblliefejffhoaaGreatDoor
