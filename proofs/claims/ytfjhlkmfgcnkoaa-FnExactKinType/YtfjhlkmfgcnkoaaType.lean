/- KinType of the program and of the model. -/
import Derived.Test.YtfjhlkmfgcnkoaaCopy
import Derived.Deep.RegionHeld3
import Derived.Deep.RegionLaw
namespace Go.Proofs.Ytfjhlkmfgcnkoaa
open Go.ChangeShapes Go.WideShapes Go.ChangeAt Go.RowKit
set_option linter.unusedVariables false

theorem Same.frozen {lo hi : Nat} {w w' : World} (h : Same lo hi w w') {b o : Nat} (h1 : lo ≤ b) (h2 : b < hi) : w'.frozen? ⟨b, o, none⟩ = w.frozen? ⟨b, o, none⟩ :=
  World.frozen?_of_block (w := w) (a := ⟨b, o, none⟩) (h b h1 h2)

theorem copy_world (w : World) (cs zs : Array Value) (t t' e : TypeId) (w1 : World) (hb : Below ((((w.alloc (.cells cs t)).alloc (.cells zs t')).alloc (.cells #[] e)).drew).heap.size ((((w.alloc (.cells cs t)).alloc (.cells zs t')).alloc (.cells #[] e)).drew) w1) :
    (∀ i, w1.cell? ⟨w.heap.size, i, none⟩ = cs[i]?) ∧ (∀ i, w1.cell? ⟨w.heap.size + 1, i, none⟩ = zs[i]?) ∧ (∀ i, w1.frozen? ⟨w.heap.size + 1, i, none⟩ = false) ∧ w.heap.size + 1 + 1 < w1.heap.size := by
  have hs := hb.size
  simp at hs
  have s1 : (w.alloc (.cells cs t)).heap.size = w.heap.size + 1 := by simp
  have s2 : ((w.alloc (.cells cs t)).alloc (.cells zs t')).heap.size = w.heap.size + 1 + 1 := by simp
  have s3 : ((((w.alloc (.cells cs t)).alloc (.cells zs t')).alloc (.cells #[] e)).drew).heap.size = w.heap.size + 1 + 1 + 1 := by simp
  have b0 : w1.heap[w.heap.size]? = some (.cells cs t (0, 0)) := by
    rw [hb.block _ (by omega)]
    show (((w.alloc (.cells cs t)).alloc (.cells zs t')).alloc (.cells #[] e)).heap[w.heap.size]? = _
    rw [Below.heap_alloc _ _ _ (by omega), Below.heap_alloc _ _ _ (by omega), Deep.blk_alloc_new]
  have b1 : w1.heap[w.heap.size + 1]? = some (.cells zs t' (0, 0)) := by
    rw [hb.block _ (by omega)]
    show (((w.alloc (.cells cs t)).alloc (.cells zs t')).alloc (.cells #[] e)).heap[w.heap.size + 1]? = _
    rw [Below.heap_alloc _ _ _ (by omega)]
    have := Deep.blk_alloc_new (w.alloc (.cells cs t)) (.cells zs t')
    rwa [s1] at this
  refine ⟨fun i => ?_, fun i => ?_, fun i => ?_, by omega⟩
  · simp only [World.cell?, b0]; simp
  · simp only [World.cell?, b1]; simp
  · simp only [World.frozen?, b1]; simp

set_option maxHeartbeats 400000 in
theorem l1Copy_any (fa : Option Addr) (fc lo hi : Nat) (t : Ty) (w : World) (hn : t.fields.length ≤ 1048576) (hx : FieldsIn w lo hi fa t.fields) (hh : hi ≤ w.heap.size) :
    Calls Try.prog 29 #[.agg #[.int .i64 t.kind, .int .i64 t.up, .bool t.last, .slice fa t.fields.length fc]] w fun e w' => ∃ na nc, e = .returned (.agg #[.int .i64 t.kind, .int .i64 t.up, .bool t.last, .slice na t.fields.length nc]) ∧ FieldsNew w' w.heap.size w'.heap.size na t.fields ∧ Below w.heap.size w w' := by
  have b0 : Hid (Below w.heap.size w ((((w.alloc (.cells #[.int .i64 t.kind, .int .i64 t.up, .bool t.last, .slice fa t.fields.length fc] 31)).alloc (.cells #[.int .i64 0, .int .i64 0, .bool false, .slice none 0 0] 31)).alloc (.cells #[] 44)).drew)) :=
    ((((Below.refl _ _).alloc (Nat.le_refl _) _).alloc (by simp) _).alloc (by simp; omega) _).drew
  go_enter Try.func29, Try.ntmps29
  go_wp2_with fail
  go_region_held3 (fun w' => w'.cell? ⟨w.heap.size, 0, none⟩ = some (.int .i64 t.kind) ∧ w'.cell? ⟨w.heap.size, 1, none⟩ = some (.int .i64 t.up) ∧ w'.cell? ⟨w.heap.size, 2, none⟩ = some (.bool t.last) ∧ w'.cell? ⟨w.heap.size, 3, none⟩ = some (.slice fa t.fields.length fc)) (go_keep)
    ((refine step_append_copy _ (by rfl) _ _ (by rfl) (some ⟨w.heap.size + 1 + 1, 0, none⟩) (.inr ⟨_, rfl⟩) fa fc lo hi t.fields (by rfl) (by rfl) hn (hx.keep (b0.out.mono hh)) ?_; intro na nc w1 hf1 hb1; obtain ⟨q0, q1, q2, q3⟩ := copy_world w _ _ _ _ _ w1 hb1))
  go_wp2_with fail
  refine bodyPost_ret (v := .agg #[.int .i64 t.kind, .int .i64 t.up, .bool t.last, .slice na t.fields.length nc]) (by simp [results, Try.results29, go_sem, q1]) rfl ⟨na, nc, rfl, ?_, ?_⟩
  · have hf2 := hf1
    have s3 : ((((w.alloc (.cells #[.int .i64 t.kind, .int .i64 t.up, .bool t.last, .slice fa t.fields.length fc] 31)).alloc (.cells #[.int .i64 0, .int .i64 0, .bool false, .slice none 0 0] 31)).alloc (.cells #[] 44)).drew).heap.size = w.heap.size + 1 + 1 + 1 := by simp
    rw [s3] at hf2
    refine hf2.same (((((Same.refl _ _ _).set ?_ _ _).set ?_ _ _).set ?_ _ _).set ?_ _ _) (by omega) (by simp) <;> omega
  · exact ((((b0.out.trans (hb1.mono (by simp; omega))).setCell (by simp) _).setCell (by simp) _).setCell (by simp) _).setCell (by simp) _

theorem flatTo_few (G : Nat → List Ty) (n : Nat) (h : ∀ i, i < n → ∀ j, j < (G i).length → (tyAt (G i) j).fields.length ≤ 1048576) : ∀ k, k ≤ n → ∀ i, i < countTo G k → (tyAt (flatTo G k) i).fields.length ≤ 1048576 := by
  intro k
  induction k with
  | zero => intro _ i hi; exact absurd hi (Nat.not_lt_zero _)
  | succ k ih =>
    intro hk i hi
    by_cases e : i < countTo G k
    · rw [flatTo, tyAt_append_left _ _ _ (by rw [flatTo_length]; exact e)]
      exact ih (by omega) i e
    · have hl := flatTo_length G k
      have : tyAt (flatTo G k ++ G k) i = tyAt (G k) (i - countTo G k) := by
        simp [tyAt, List.getD, List.getElem?_append_right (show (flatTo G k).length ≤ i by omega), hl]
      rw [flatTo, this]
      simp only [countTo] at hi
      exact h k (by omega) _ (by omega)

theorem flat_few {gs : List (List Ty)} (h : Few gs) (i : Nat) (hi : i < kinCount gs) : (tyAt (flat gs) i).fields.length ≤ 1048576 :=
  flatTo_few (grAt gs) gs.length (fun i hi => (h.2 i hi).2) gs.length (Nat.le_refl _) i hi

theorem rows_flat (G : Nat → List Ty) (k : Nat) : (rowsTo G k).map (·.t) = flatTo G k := by
  induction k with
  | zero => rfl
  | succ k ih => simp [rowsTo, flatTo, ih, Function.comp_def]

theorem rowsOf_t (gs : List (List Ty)) (i : Nat) (hi : i < kinCount gs) : (krAt (rowsOf gs) i).t = tyAt (flat gs) i := by
  have h := rows_flat (grAt gs) gs.length
  have hl := rowsOf_length gs
  unfold rowsOf at hl
  unfold flat rowsOf tyAt krAt
  rw [← h]
  simp [List.getD, List.getElem?_eq_getElem (show i < (rowsTo (grAt gs) gs.length).length by omega)]

/-- The type of that number, or nothing. -/
def tyOr (gs : List (List Ty)) (a : Int) : Ty := if 0 ≤ a ∧ a < (kinCount gs : Int) then tyAt (flat gs) a.toNat else ⟨0, 0, false, []⟩
def inKin (gs : List (List Ty)) (a : Int) : Bool := decide (0 ≤ a) && decide (a < (kinCount gs : Int))

set_option maxHeartbeats 800000 in
theorem specKinType_any (a : Option Addr) (cap lo hi : Nat) (gs : List (List Ty)) (n : Int) (w : World) (hn : Few gs) (hx : GroupsIn w lo hi a gs) (hh : hi ≤ w.heap.size) (hl : lo ≤ hi) :
    Calls Try.prog 12 #[.slice a gs.length cap, .int .i64 n] w fun e w' => ∃ na nc, e = .returned (.tuple #[.agg #[.int .i64 (tyOr gs n).kind, .int .i64 (tyOr gs n).up, .bool (tyOr gs n).last, .slice na (tyOr gs n).fields.length nc], .bool (inKin gs n)]) ∧ FieldsNew w' w.heap.size w'.heap.size na (tyOr gs n).fields ∧ Below w.heap.size w w' := by
  have hc := kinCount_le hn
  by_cases hin : 0 ≤ n ∧ n < (kinCount gs : Int)
  · have hT : tyOr gs n = tyAt (flat gs) n.toNat := by unfold tyOr; rw [if_pos hin]
    have hI : inKin gs n = true := by simp [inKin, hin.1, hin.2]
    rw [hT, hI]
    have hfew := hide (flat_few hn n.toNat (by omega))
    obtain ⟨h0, h1⟩ := hin
    clear hT hI
    obtain ⟨m, rfl⟩ := Int.eq_ofNat_of_zero_le h0
    rw [Int.toNat_natCast] at hfew ⊢
    go_enter Try.func12, Try.ntmps12
    go_wp2_with fail
    have b0 : Below w.heap.size w (w.alloc (.cells #[.int .i64 0, .int .i64 0, .bool false, .slice none 0 0] 31)) := (Below.refl _ _).alloc (Nat.le_refl _) _
    refine (l1Flat_any a cap lo hi gs _ hn (hx.keep (b0.mono hh)) (Nat.le_trans hh b0.size) hl).mono ?_
    rintro e w1 ⟨fa, fc, rfl, hf1, hb1⟩
    have hm : m < (flat gs).length := by rw [flat_length]; omega
    rcases hf1 with hnil | ⟨b1, off1, rfl, g1, g2, g3⟩
    · rw [hnil] at hm; exact absurd hm (Nat.not_lt_zero _)
    obtain ⟨e0, e1, e2, ga, gc, e3, e4⟩ := g3 m hm
    have E4 := hide e4
    have B1 := hide hb1
    have hs1 := hb1.size
    obtain ⟨hc1, hc2⟩ := bcell hb1
    simp only [World.size_alloc] at hc1 hc2 hs1
    clear g3 e4 hm hb1
    go_wp2_with fail
    refine (l1Copy_any ga gc _ _ (tyAt (flat gs) m) _ hfew.out E4.out (Nat.le_refl _)).mono ?_
    rintro e w2 ⟨na, nc, rfl, hf2, hb2⟩
    have q0 : ∀ o, w2.cell? ⟨w.heap.size, o, none⟩ = #[Value.int .i64 0, .int .i64 0, .bool false, .slice none 0 0][o]? := fun o => by
      rw [hb2.cell (by show w.heap.size < _; omega), hc1 _ _ (by omega)]; simp
    have q1 : ∀ o, w2.frozen? ⟨w.heap.size, o, none⟩ = false := fun o => by
      rw [hb2.frozen (by show w.heap.size < _; omega), hc2 _ _ (by omega)]; simp
    have hs2 := hb2.size
    have HF2 := hide hf2
    have B2 := hide hb2
    clear hc1 hc2 hf2 hb2
    go_wp2_with fail
    refine bodyPost_ret (v := .tuple #[.agg #[.int .i64 (tyAt (flat gs) m).kind, .int .i64 (tyAt (flat gs) m).up, .bool (tyAt (flat gs) m).last, .slice na (tyAt (flat gs) m).fields.length nc], .bool true]) (by simp [results, Try.results12, go_sem, q0]) rfl ⟨na, nc, rfl, ?_, ?_⟩
    · refine HF2.out.same (((((Same.refl _ _ _).set ?_ _ _).set ?_ _ _).set ?_ _ _).set ?_ _ _) (by omega) (by simp) <;> (left; omega)
    · exact ((((((b0.trans (B1.out.mono (by simp))).trans (B2.out.mono (by omega))).setCell (Nat.le_refl _) _).setCell (Nat.le_refl _) _).setCell (Nat.le_refl _) _).setCell (Nat.le_refl _) _)
  · have hT : tyOr gs n = ⟨0, 0, false, []⟩ := by unfold tyOr; rw [if_neg hin]
    have hI : inKin gs n = false := by
      cases h : inKin gs n with
      | false => rfl
      | true => simp [inKin] at h; exact absurd h hin
    rw [hT, hI]
    clear hT hI
    have b0 : Below w.heap.size w (w.alloc (.cells #[.int .i64 0, .int .i64 0, .bool false, .slice none 0 0] 31)) := (Below.refl _ _).alloc (Nat.le_refl _) _
    have hout : n < 0 ∨ (kinCount gs : Int) ≤ n := by omega
    rcases hout with ho | ho
    all_goals
      go_enter Try.func12, Try.ntmps12
      go_wp2_with fail
      refine (l1Flat_any a cap lo hi gs _ hn (hx.keep (b0.mono hh)) (Nat.le_trans hh b0.size) hl).mono ?_
      rintro e w1 ⟨fa, fc, rfl, hf1, hb1⟩
      have B1 := hide hb1
      have hs1 := hb1.size
      obtain ⟨hc1, hc2⟩ := bcell hb1
      simp only [World.size_alloc] at hc1 hc2 hs1
      clear hf1 hb1
      go_wp2_with fail
      refine bodyPost_ret (v := .tuple #[.agg #[.int .i64 0, .int .i64 0, .bool false, .slice none 0 0], .bool false]) (by simp [results, Try.results12, go_sem, hc1]) rfl ⟨none, 0, rfl, ⟨.inl rfl, .inl rfl⟩, ?_⟩
      exact (((((b0.trans (B1.out.mono (by simp))).setCell (Nat.le_refl _) _).setCell (Nat.le_refl _) _).setCell (Nat.le_refl _) _).setCell (Nat.le_refl _) _)

set_option maxHeartbeats 800000 in
theorem implKinType_any (a : Option Addr) (cap lo hi : Nat) (gs : List (List Ty)) (n : Int) (w : World) (hn : Few gs) (hx : GroupsIn w lo hi a gs) (hh : hi ≤ w.heap.size) (hl : lo ≤ hi) :
    Calls Try.prog 13 #[.slice a gs.length cap, .int .i64 n] w fun e w' => ∃ na nc, e = .returned (.tuple #[.agg #[.int .i64 (tyOr gs n).kind, .int .i64 (tyOr gs n).up, .bool (tyOr gs n).last, .slice na (tyOr gs n).fields.length nc], .bool (inKin gs n)]) ∧ FieldsNew w' w.heap.size w'.heap.size na (tyOr gs n).fields ∧ Below w.heap.size w w' := by
  have hc := kinCount_le hn
  have b0 : Below w.heap.size w (w.alloc (.cells #[.int .i64 0, .int .i64 0, .bool false, .slice none 0 0] 31)) := (Below.refl _ _).alloc (Nat.le_refl _) _
  by_cases hin : 0 ≤ n ∧ n < (kinCount gs : Int)
  · have hT : tyOr gs n = tyAt (flat gs) n.toNat := by unfold tyOr; rw [if_pos hin]
    have hI : inKin gs n = true := by simp [inKin, hin.1, hin.2]
    rw [hT, hI]
    have hfew := hide (flat_few hn n.toNat (by omega))
    obtain ⟨h0, h1⟩ := hin
    clear hT hI
    obtain ⟨m, rfl⟩ := Int.eq_ofNat_of_zero_le h0
    rw [Int.toNat_natCast] at hfew ⊢
    go_enter Try.func13, Try.ntmps13
    go_wp2_with fail
    refine (kinFlat_any a cap lo hi gs _ hn (hx.keep (b0.mono hh)) (Nat.le_trans hh b0.size) hl).mono ?_
    rintro e w1 ⟨fa, fc, rfl, hf1, hb1⟩
    have hm : m < (rowsOf gs).length := by rw [rowsOf_length]; omega
    rcases hf1 with hnil | ⟨b1, off1, rfl, g1, g2, g3⟩
    · rw [hnil] at hm; exact absurd hm (Nat.not_lt_zero _)
    obtain ⟨⟨e0, e1, e2, ga, gc, e3, e4⟩, _, _⟩ := g3 m hm
    rw [rowsOf_t gs m (by omega)] at e0 e1 e2 e3 e4
    have E4 := hide e4
    have B1 := hide hb1
    have hs1 := hb1.size
    obtain ⟨hc1, hc2⟩ := bcell hb1
    simp only [World.size_alloc] at hc1 hc2 hs1
    have E5 := hide (E4.out.keep ((Below.refl w1.heap.size w1).alloc (Nat.le_refl _) (.cells #[.int .i64 (tyAt (flat gs) m).kind, .int .i64 (tyAt (flat gs) m).up, .bool (tyAt (flat gs) m).last, .slice ga (tyAt (flat gs) m).fields.length gc] 31)))
    clear g3 e4 hm hb1
    go_wp2_with (first | (at_builtin; refine wpList_append_copy _ rfl _ _ rfl none (.inl rfl) ga gc lo w1.heap.size (tyAt (flat gs) m).fields rfl rfl hfew.out E5.out ?_))
    intro na nc w2 hf2 hb2
    have hs2 := hb2.size
    simp only [World.size_alloc] at hs2
    have bw : Below (w.heap.size + 1) (w.alloc (.cells #[.int .i64 0, .int .i64 0, .bool false, .slice none 0 0] 31)) w2 := ((B1.out.mono (by simp)).alloc hs1 _).trans (hb2.mono (by omega))
    have q0 : ∀ o, w2.cell? ⟨w.heap.size, o, none⟩ = #[Value.int .i64 0, .int .i64 0, .bool false, .slice none 0 0][o]? := fun o => by
      rw [bw.cell (by show w.heap.size < _; omega)]; simp
    have q1 : ∀ o, w2.frozen? ⟨w.heap.size, o, none⟩ = false := fun o => by
      rw [bw.frozen (by show w.heap.size < _; omega)]; simp
    have r0 : ∀ o, w2.cell? ⟨w1.heap.size, o, none⟩ = #[Value.int .i64 (tyAt (flat gs) m).kind, .int .i64 (tyAt (flat gs) m).up, .bool (tyAt (flat gs) m).last, .slice ga (tyAt (flat gs) m).fields.length gc][o]? := fun o => by
      rw [hb2.cell (by show w1.heap.size < _; simp)]; simp
    have r1 : ∀ o, w2.frozen? ⟨w1.heap.size, o, none⟩ = false := fun o => by
      rw [hb2.frozen (by show w1.heap.size < _; simp)]; simp
    have HF2 := hide hf2
    have B2 := hide hb2
    clear hc1 hc2 hf2 hb2
    have BW := hide bw
    clear bw
    go_wp2_with fail
    refine bodyPost_ret (v := .tuple #[.agg #[.int .i64 (tyAt (flat gs) m).kind, .int .i64 (tyAt (flat gs) m).up, .bool (tyAt (flat gs) m).last, .slice na (tyAt (flat gs) m).fields.length nc], .bool true]) (by simp [results, Try.results13, go_sem, q0]) rfl ⟨na, nc, rfl, ?_, ?_⟩
    · refine HF2.out.same ((((((Same.refl _ _ _).set ?_ _ _).set ?_ _ _).set ?_ _ _).set ?_ _ _).set ?_ _ _) (by omega) (by simp) <;> (left; omega)
    · exact (((((b0.trans (BW.out.mono (by omega))).setCell (by show _ ≤ w1.heap.size; omega) _).setCell (Nat.le_refl _) _).setCell (Nat.le_refl _) _).setCell (Nat.le_refl _) _).setCell (Nat.le_refl _) _
  · have hT : tyOr gs n = ⟨0, 0, false, []⟩ := by unfold tyOr; rw [if_neg hin]
    have hI : inKin gs n = false := by
      cases h : inKin gs n with
      | false => rfl
      | true => simp [inKin] at h; exact absurd h hin
    rw [hT, hI]
    clear hT hI
    have hout : n < 0 ∨ (kinCount gs : Int) ≤ n := by omega
    rcases hout with ho | ho
    all_goals
      go_enter Try.func13, Try.ntmps13
      go_wp2_with fail
      refine (kinFlat_any a cap lo hi gs _ hn (hx.keep (b0.mono hh)) (Nat.le_trans hh b0.size) hl).mono ?_
      rintro e w1 ⟨fa, fc, rfl, hf1, hb1⟩
      have B1 := hide hb1
      have hs1 := hb1.size
      obtain ⟨hc1, hc2⟩ := bcell hb1
      simp only [World.size_alloc] at hc1 hc2 hs1
      clear hf1 hb1
      go_wp2_with fail
      refine bodyPost_ret (v := .tuple #[.agg #[.int .i64 0, .int .i64 0, .bool false, .slice none 0 0], .bool false]) (by simp [results, Try.results13, go_sem, hc1]) rfl ⟨none, 0, rfl, ⟨.inl rfl, .inl rfl⟩, ?_⟩
      · exact (((((b0.trans (B1.out.mono (by simp))).setCell (Nat.le_refl _) _).setCell (Nat.le_refl _) _).setCell (Nat.le_refl _) _).setCell (Nat.le_refl _) _)
end Go.Proofs.Ytfjhlkmfgcnkoaa
