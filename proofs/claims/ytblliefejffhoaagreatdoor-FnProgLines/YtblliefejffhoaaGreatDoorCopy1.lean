/- l1Copy of the model: a type in new memory. -/
import Derived.Test.YtblliefejffhoaaGreatDoorCopy
import Derived.Deep.RegionHeld3
import Derived.Deep.RegionLaw
namespace Go.Proofs.YtblliefejffhoaaGreatDoor
open Go.ChangeShapes Go.WideShapes Go.ChangeAt Go.RowKit
set_option linter.unusedVariables false

theorem Same.frozen {lo hi : Nat} {w w' : World} (h : Same lo hi w w') {b o : Nat} (h1 : lo ≤ b) (h2 : b < hi) : w'.frozen? ⟨b, o, none⟩ = w.frozen? ⟨b, o, none⟩ :=
  World.frozen?_of_block (w := w) (a := ⟨b, o, none⟩) (h b h1 h2)

theorem copy_world (w : World) (cs zs : Array Value) (t t' e : TypeId) (w1 : World) (hb : Below ((((w.alloc (.cells cs t)).alloc (.cells zs t')).alloc (.cells #[] e)).drew).heap.size ((((w.alloc (.cells cs t)).alloc (.cells zs t')).alloc (.cells #[] e)).drew) w1) :
    (∀ i, w1.cell? ⟨w.heap.size, i, none⟩ = cs[i]?) ∧ (∀ i, w1.cell? ⟨w.heap.size + 1, i, none⟩ = zs[i]?) ∧ (∀ i, w1.frozen? ⟨w.heap.size + 1, i, none⟩ = false) ∧ w.heap.size + 1 + 1 < w1.heap.size := by
  have hs := hb.size
  simp at hs
  have s1 : (w.alloc (.cells cs t)).heap.size = w.heap.size + 1 := by simp
  have s2 : ((w.alloc (.cells cs t)).alloc (.cells zs t')).heap.size = w.heap.size + 1 + 1 := by simp
  have s3 : ((((w.alloc (.cells cs t)).alloc (.cells zs t')).alloc (.cells #[] e)).drew).heap.size = w.heap.size + 1 + 1 + 1 := by simp
  have b0 : w1.heap[w.heap.size]? = some (.cells cs t (0, 0)) := by
    rw [hb.block _ (by omega)]
    show (((w.alloc (.cells cs t)).alloc (.cells zs t')).alloc (.cells #[] e)).heap[w.heap.size]? = _
    rw [Below.heap_alloc _ _ _ (by omega), Below.heap_alloc _ _ _ (by omega), Deep.blk_alloc_new]
  have b1 : w1.heap[w.heap.size + 1]? = some (.cells zs t' (0, 0)) := by
    rw [hb.block _ (by omega)]
    show (((w.alloc (.cells cs t)).alloc (.cells zs t')).alloc (.cells #[] e)).heap[w.heap.size + 1]? = _
    rw [Below.heap_alloc _ _ _ (by omega)]
    have := Deep.blk_alloc_new (w.alloc (.cells cs t)) (.cells zs t')
    rwa [s1] at this
  refine ⟨fun i => ?_, fun i => ?_, fun i => ?_, by omega⟩
  · simp only [World.cell?, b0]; simp
  · simp only [World.cell?, b1]; simp
  · simp only [World.frozen?, b1]; simp

set_option maxHeartbeats 400000 in
theorem l1Copy_any (fa : Option Addr) (fc lo hi : Nat) (t : Ty) (w : World) (hn : t.fields.length ≤ 1048576) (hx : FieldsIn w lo hi fa t.fields) (hh : hi ≤ w.heap.size) :
    Calls Tryz.prog 106 #[.agg #[.int .i64 t.kind, .int .i64 t.up, .bool t.last, .slice fa t.fields.length fc]] w fun e w' => ∃ na nc, e = .returned (.agg #[.int .i64 t.kind, .int .i64 t.up, .bool t.last, .slice na t.fields.length nc]) ∧ FieldsNew w' w.heap.size w'.heap.size na t.fields ∧ Below w.heap.size w w' := by
  have b0 : Hid (Below w.heap.size w ((((w.alloc (.cells #[.int .i64 t.kind, .int .i64 t.up, .bool t.last, .slice fa t.fields.length fc] 44)).alloc (.cells #[.int .i64 0, .int .i64 0, .bool false, .slice none 0 0] 44)).alloc (.cells #[] 33)).drew)) :=
    ((((Below.refl _ _).alloc (Nat.le_refl _) _).alloc (by simp) _).alloc (by simp; omega) _).drew
  go_enter Tryz.func106, Tryz.ntmps106
  go_wp2_with fail
  go_region_held3 (fun w' => w'.cell? ⟨w.heap.size, 0, none⟩ = some (.int .i64 t.kind) ∧ w'.cell? ⟨w.heap.size, 1, none⟩ = some (.int .i64 t.up) ∧ w'.cell? ⟨w.heap.size, 2, none⟩ = some (.bool t.last) ∧ w'.cell? ⟨w.heap.size, 3, none⟩ = some (.slice fa t.fields.length fc)) (go_keep)
    ((refine step_append_copy _ (by rfl) _ _ (by rfl) (some ⟨w.heap.size + 1 + 1, 0, none⟩) (.inr ⟨_, rfl⟩) fa fc lo hi t.fields (by rfl) (by rfl) hn (hx.keep (b0.out.mono hh)) ?_; intro na nc w1 hf1 hb1; obtain ⟨q0, q1, q2, q3⟩ := copy_world w _ _ _ _ _ w1 hb1))
  go_wp2_with fail
  refine bodyPost_ret (v := .agg #[.int .i64 t.kind, .int .i64 t.up, .bool t.last, .slice na t.fields.length nc]) (by simp [results, Tryz.results106, go_sem, q1]) rfl ⟨na, nc, rfl, ?_, ?_⟩
  · have hf2 := hf1
    have s3 : ((((w.alloc (.cells #[.int .i64 t.kind, .int .i64 t.up, .bool t.last, .slice fa t.fields.length fc] 44)).alloc (.cells #[.int .i64 0, .int .i64 0, .bool false, .slice none 0 0] 44)).alloc (.cells #[] 33)).drew).heap.size = w.heap.size + 1 + 1 + 1 := by simp
    rw [s3] at hf2
    refine hf2.same (((((Same.refl _ _ _).set ?_ _ _).set ?_ _ _).set ?_ _ _).set ?_ _ _) (by omega) (by simp) <;> omega
  · exact ((((b0.out.trans (hb1.mono (by simp; omega))).setCell (by simp) _).setCell (by simp) _).setCell (by simp) _).setCell (by simp) _

end Go.Proofs.YtblliefejffhoaaGreatDoor
