/- The space of a heap: what lies in its block; its views. -/
import Derived.Test.YtembifoimiochaaGreatDoorHpI5
namespace Go.Proofs.YtembifoimiochaaGreatDoor
open Go.ChangeShapes Go.WideShapes Go.ChangeAt Go.RowKit Go.Shelf Go.Deep
set_option linter.unusedVariables false
set_option linter.unusedSimpArgs false
attribute [local go_sem] Oper.semAt_some

/-- The space of a heap: its table, words and views. -/
structure SpA (w : World) (lo hi sb : Nat) (gs : List (List Ty)) (h : GHeap) (ra : Option Addr) (rc cb co cc : Nat) : Prop where
 hh : hi ≤ sb
 lt : sb < w.heap.size
 tab : TabIn w lo hi ra cb co gs
 k0 : w.cell? ⟨sb, 0, none⟩ = some (.slice ra (kinCount gs) rc)
 k1 : w.cell? ⟨sb, 1, none⟩ = some (.slice (some ⟨cb, co, none⟩) (kinCount gs) cc)
 ws : WordsAt w sb h.words
 o0 : w.cell? ⟨sb, 162, none⟩ = some (.slice (some ⟨sb, 2 + 0, none⟩) h.old.toNat 160)
 o1 : w.cell? ⟨sb, 163, none⟩ = some (.int .i64 ((0 : Nat) : Int))
 o2 : w.cell? ⟨sb, 164, none⟩ = some (.int .i64 ((h.oldAt.toNat : Nat) : Int))
 y0 : w.cell? ⟨sb, 165, none⟩ = some (.slice (some ⟨sb, 2 + h.old.toNat, none⟩) (h.words.length - h.old.toNat) (160 - h.old.toNat))
 y1 : w.cell? ⟨sb, 166, none⟩ = some (.int .i64 ((h.old.toNat : Nat) : Int))
 y2 : w.cell? ⟨sb, 167, none⟩ = some (.int .i64 ((h.youngAt.toNat : Nat) : Int))
theorem SpA.keep {w w' : World} {lo hi sb : Nat} {gs : List (List Ty)} {h : GHeap} {ra : Option Addr} {rc cb co cc : Nat} (H : SpA w lo hi sb gs h ra rc cb co cc) (hb : Below w.heap.size w w') : SpA w' lo hi sb gs h ra rc cb co cc := by
 have c : ∀ o, w'.cell? ⟨sb, o, none⟩ = w.cell? ⟨sb, o, none⟩ := fun o => hb.cell (p := ⟨sb, o, none⟩) H.lt
 exact ⟨H.hh, Nat.lt_of_lt_of_le H.lt hb.size, H.tab.keep (hb.mono (Nat.le_trans H.hh (Nat.le_of_lt H.lt))), (c _).trans H.k0, (c _).trans H.k1, H.ws.keep c, (c _).trans H.o0, (c _).trans H.o1, (c _).trans H.o2, (c _).trans H.y0, (c _).trans H.y1, (c _).trans H.y2⟩
/-- The facts of a heap that is looked at: its sizes are right, its words are numbers. -/
structure HOk (gs : List (List Ty)) (h : GHeap) : Prop where
 pa : Parts gs
 sz : SizeOk h
 wb : ∀ i, -9223372036854775808 ≤ nAt h.words i ∧ nAt h.words i ≤ 9223372036854775807
theorem HOk.len {gs : List (List Ty)} {h : GHeap} (H : HOk gs h) : h.words.length ≤ 160 := by have := H.sz.o2; have := H.sz.n2; omega

theorem drew_heap (X : World) : X.drew.heap = X.heap := rfl
theorem rec_drew' {X : World} {b : Nat} {T : TypeId} {vs : List Value} (h : Rec X b T vs) : Rec X.drew b T vs := h
theorem heap6 {w : World} {b' k : Nat} {v0 v1 v2 v3 v4 v5 : Value} (h : k ≠ b') : ((((((w.setCell ⟨b', 0, none⟩ v0).setCell ⟨b', 1, none⟩ v1).setCell ⟨b', 2, none⟩ v2).setCell ⟨b', 3, none⟩ v3).setCell ⟨b', 4, none⟩ v4).setCell ⟨b', 5, none⟩ v5).drew.heap[k]? = w.heap[k]? := by
 rw [drew_heap]
 exact (Below.heap_setCell _ _ _ _ h).trans ((Below.heap_setCell _ _ _ _ h).trans ((Below.heap_setCell _ _ _ _ h).trans ((Below.heap_setCell _ _ _ _ h).trans ((Below.heap_setCell _ _ _ _ h).trans (Below.heap_setCell _ _ _ _ h)))))
theorem cell6 {w : World} {b b' o : Nat} {v0 v1 v2 v3 v4 v5 : Value} (h : b ≠ b') : ((((((w.setCell ⟨b', 0, none⟩ v0).setCell ⟨b', 1, none⟩ v1).setCell ⟨b', 2, none⟩ v2).setCell ⟨b', 3, none⟩ v3).setCell ⟨b', 4, none⟩ v4).setCell ⟨b', 5, none⟩ v5).drew.cell? ⟨b, o, none⟩ = w.cell? ⟨b, o, none⟩ := World.cell?_of_block (w := w) (heap6 h)
theorem rec6 {w : World} {b : Nat} {T : TypeId} {u0 u1 u2 u3 u4 u5 v0 v1 v2 v3 v4 v5 : Value} (h : Rec w b T [u0, u1, u2, u3, u4, u5]) : Rec ((((((w.setCell ⟨b, 0, none⟩ v0).setCell ⟨b, 1, none⟩ v1).setCell ⟨b, 2, none⟩ v2).setCell ⟨b, 3, none⟩ v3).setCell ⟨b, 4, none⟩ v4).setCell ⟨b, 5, none⟩ v5).drew b T [v0, v1, v2, v3, v4, v5] := rec_drew' ((((((h.set 0 v0).set 1 v1).set 2 v2).set 3 v3).set 4 v4).set 5 v5)
theorem below6 {w0 w : World} {B b : Nat} {v0 v1 v2 v3 v4 v5 : Value} (h : Below B w0 w) (hb : B ≤ b) : Below B w0 ((((((w.setCell ⟨b, 0, none⟩ v0).setCell ⟨b, 1, none⟩ v1).setCell ⟨b, 2, none⟩ v2).setCell ⟨b, 3, none⟩ v3).setCell ⟨b, 4, none⟩ v4).setCell ⟨b, 5, none⟩ v5).drew := ((((((h.setCell hb _).setCell hb _).setCell hb _).setCell hb _).setCell hb _).setCell hb _).drew

set_option maxHeartbeats 1600000 in
set_option maxRecDepth 100000 in
theorem views_any (sb an ac bn bc : Nat) (aa ba : Option Addr) (a1 a2 b1 b2 : Int) (w : World) (hb : sb < w.heap.size)
  (c0 : w.cell? ⟨sb, 162, none⟩ = some (.slice aa an ac)) (c1 : w.cell? ⟨sb, 163, none⟩ = some (.int .i64 a1)) (c2 : w.cell? ⟨sb, 164, none⟩ = some (.int .i64 a2)) (d0 : w.cell? ⟨sb, 165, none⟩ = some (.slice ba bn bc)) (d1 : w.cell? ⟨sb, 166, none⟩ = some (.int .i64 b1)) (d2 : w.cell? ⟨sb, 167, none⟩ = some (.int .i64 b2)) :
  Calls Tryz.prog 74 #[.pointer (some ⟨sb, 0, none⟩)] w fun e w' => e = .returned (.agg #[.slice aa an ac, .int .i64 a1, .int .i64 a2, .slice ba bn bc, .int .i64 b1, .int .i64 b2]) ∧ Below w.heap.size w w' := by
 have hb1 : sb < w.heap.size + 1 := by omega
 obtain ⟨W1, hW1⟩ : ∃ W1, W1 = w.alloc (.cells #[.slice none 0 0, .int .i64 0, .int .i64 0, .slice none 0 0, .int .i64 0, .int .i64 0] 126) := ⟨_, rfl⟩
 have B1 : Hid (Below w.heap.size w W1) := by show Below _ _ _; rw [hW1]; exact two_b _ _
 have R1 : Hid (Rec W1 w.heap.size 126 [.slice none 0 0, .int .i64 0, .int .i64 0, .slice none 0 0, .int .i64 0, .int .i64 0]) := by show Rec _ _ _ _; rw [hW1]; exact Rec.new _ _ _
 have e0 := (B1.out.cell (p := ⟨sb, 162, none⟩) hb).trans c0
 have e1 := (B1.out.cell (p := ⟨sb, 163, none⟩) hb).trans c1
 have e2 := (B1.out.cell (p := ⟨sb, 164, none⟩) hb).trans c2
 have g0 := (B1.out.cell (p := ⟨sb, 165, none⟩) hb).trans d0
 have g1 := (B1.out.cell (p := ⟨sb, 166, none⟩) hb).trans d1
 have g2 := (B1.out.cell (p := ⟨sb, 167, none⟩) hb).trans d2
 have t0 := R1.out.cell (o := 0) rfl
 have t1 := R1.out.cell (o := 1) rfl
 have t2 := R1.out.cell (o := 2) rfl
 have t3 := R1.out.cell (o := 3) rfl
 have t4 := R1.out.cell (o := 4) rfl
 have t5 := R1.out.cell (o := 5) rfl
 have f0 := R1.out.frozen 0
 have f1 := R1.out.frozen 1
 have f2 := R1.out.frozen 2
 have f3 := R1.out.frozen 3
 have f4 := R1.out.frozen 4
 have f5 := R1.out.frozen 5
 clear c0 c1 c2 d0 d1 d2
 go_enter Tryz.func74, Tryz.ntmps74
 go_upto_region 1 with (fail)
 rw [← hW1]
 clear hW1
 go_region_held3 (fun w' => w'.cell? ⟨sb, 162, none⟩ = some (.slice aa an ac) ∧ w'.cell? ⟨sb, 163, none⟩ = some (.int .i64 a1) ∧ w'.cell? ⟨sb, 164, none⟩ = some (.int .i64 a2) ∧ w'.cell? ⟨sb, 165, none⟩ = some (.slice ba bn bc) ∧ w'.cell? ⟨sb, 166, none⟩ = some (.int .i64 b1) ∧ w'.cell? ⟨sb, 167, none⟩ = some (.int .i64 b2)) (first | with_reducible exact ⟨(cell6 (by omega)).trans e0, (cell6 (by omega)).trans e1, (cell6 (by omega)).trans e2, (cell6 (by omega)).trans g0, (cell6 (by omega)).trans g1, (cell6 (by omega)).trans g2⟩ | go_keep) (fail)
 have R5 := hide (rec6 (v0 := .slice aa an ac) (v1 := .int .i64 a1) (v2 := .int .i64 a2) (v3 := .slice ba bn bc) (v4 := .int .i64 b1) (v5 := .int .i64 b2) R1.out)
 have BB := hide (below6 (v0 := .slice aa an ac) (v1 := .int .i64 a1) (v2 := .int .i64 a2) (v3 := .slice ba bn bc) (v4 := .int .i64 b1) (v5 := .int .i64 b2) B1.out (Nat.le_refl _))
 go_wp2_with fail
 exact bodyPost_ret (results_cell_row rfl _ _ _ _ _ (0, 0) _ rfl R5.out Tryz.underlying126 rfl (by kernel_rfl)) rfl ⟨rfl, BB.out⟩
end Go.Proofs.YtembifoimiochaaGreatDoor
