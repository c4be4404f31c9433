/- KaType: Type, GsType. -/
import Derived.Test.YtfnipbnchkonoaaDoorKaOne
import Derived.Deep.RegionHeld3
import Derived.Deep.RegionLaw
import Derived.Test.YtfnipbnchkonoaaDoorKaGs
import Derived.Test.YtfnipbnchkonoaaDoorKaMore
/- KinType of the program and of the model. -/
namespace Go.Proofs.YtfnipbnchkonoaaDoor
open Go.ChangeShapes Go.WideShapes Go.ChangeAt Go.RowKit
set_option linter.unusedVariables false

theorem flatTo_few (G : Nat → List Ty) (n : Nat) (h : ∀ i, i < n → ∀ j, j < (G i).length → (tyAt (G i) j).fields.length ≤ 1048576) : ∀ k, k ≤ n → ∀ i, i < countTo G k → (tyAt (flatTo G k) i).fields.length ≤ 1048576 := by
  intro k
  induction k with
  | zero => intro _ i hi; exact absurd hi (Nat.not_lt_zero _)
  | succ k ih =>
    intro hk i hi
    by_cases e : i < countTo G k
    · rw [flatTo, tyAt_append_left _ _ _ (by rw [flatTo_length]; exact e)]
      exact ih (by omega) i e
    · have hl := flatTo_length G k
      have : tyAt (flatTo G k ++ G k) i = tyAt (G k) (i - countTo G k) := by
        simp [tyAt, List.getD, List.getElem?_append_right (show (flatTo G k).length ≤ i by omega), hl]
      rw [flatTo, this]
      simp only [countTo] at hi
      exact h k (by omega) _ (by omega)

theorem flat_few {gs : List (List Ty)} (h : Few gs) (i : Nat) (hi : i < kinCount gs) : (tyAt (flat gs) i).fields.length ≤ 1048576 :=
  flatTo_few (grAt gs) gs.length (fun i hi => (h.2 i hi).2) gs.length (Nat.le_refl _) i hi

theorem rows_flat (G : Nat → List Ty) (k : Nat) : (rowsTo G k).map (·.t) = flatTo G k := by
  induction k with
  | zero => rfl
  | succ k ih => simp [rowsTo, flatTo, ih, Function.comp_def]

theorem rowsOf_t (gs : List (List Ty)) (i : Nat) (hi : i < kinCount gs) : (krAt (rowsOf gs) i).t = tyAt (flat gs) i := by
  have h := rows_flat (grAt gs) gs.length
  have hl := rowsOf_length gs
  unfold rowsOf at hl
  unfold flat rowsOf tyAt krAt
  rw [← h]
  simp [List.getD, List.getElem?_eq_getElem (show i < (rowsTo (grAt gs) gs.length).length by omega)]

/-- The type of that number, or nothing. -/
def tyOr (gs : List (List Ty)) (a : Int) : Ty := if 0 ≤ a ∧ a < (kinCount gs : Int) then tyAt (flat gs) a.toNat else ⟨0, 0, false, []⟩
def inKin (gs : List (List Ty)) (a : Int) : Bool := decide (0 ≤ a) && decide (a < (kinCount gs : Int))

set_option maxHeartbeats 800000 in
theorem specKinType_any (a : Option Addr) (cap lo hi : Nat) (gs : List (List Ty)) (n : Int) (w : World) (hn : Few gs) (hx : GroupsIn w lo hi a gs) (hh : hi ≤ w.heap.size) (hl : lo ≤ hi) :
    Calls Tryd.prog 16 #[.slice a gs.length cap, .int .i64 n] w fun e w' => ∃ na nc, e = .returned (.tuple #[.agg #[.int .i64 (tyOr gs n).kind, .int .i64 (tyOr gs n).up, .bool (tyOr gs n).last, .slice na (tyOr gs n).fields.length nc], .bool (inKin gs n)]) ∧ FieldsNew w' w.heap.size w'.heap.size na (tyOr gs n).fields ∧ Below w.heap.size w w' := by
  have hc := kinCount_le hn
  by_cases hin : 0 ≤ n ∧ n < (kinCount gs : Int)
  · have hT : tyOr gs n = tyAt (flat gs) n.toNat := by unfold tyOr; rw [if_pos hin]
    have hI : inKin gs n = true := by simp [inKin, hin.1, hin.2]
    rw [hT, hI]
    have hfew := hide (flat_few hn n.toNat (by omega))
    obtain ⟨h0, h1⟩ := hin
    clear hT hI
    obtain ⟨m, rfl⟩ := Int.eq_ofNat_of_zero_le h0
    rw [Int.toNat_natCast] at hfew ⊢
    go_enter Tryd.func16, Tryd.ntmps16
    go_wp2_with fail
    have b0 : Below w.heap.size w (w.alloc (.cells #[.int .i64 0, .int .i64 0, .bool false, .slice none 0 0] 28)) := (Below.refl _ _).alloc (Nat.le_refl _) _
    refine (l1Flat_any a cap lo hi gs _ hn (hx.keep (b0.mono hh)) (Nat.le_trans hh b0.size) hl).mono ?_
    rintro e w1 ⟨fa, fc, rfl, hf1, hb1⟩
    have hm : m < (flat gs).length := by rw [flat_length]; omega
    rcases hf1 with hnil | ⟨b1, off1, rfl, g1, g2, g3⟩
    · rw [hnil] at hm; exact absurd hm (Nat.not_lt_zero _)
    obtain ⟨e0, e1, e2, ga, gc, e3, e4⟩ := g3 m hm
    have E4 := hide e4
    have B1 := hide hb1
    have hs1 := hb1.size
    obtain ⟨hc1, hc2⟩ := bcell hb1
    simp only [World.size_alloc] at hc1 hc2 hs1
    clear g3 e4 hm hb1
    go_wp2_with fail
    refine (l1Copy_any ga gc _ _ (tyAt (flat gs) m) _ hfew.out E4.out (Nat.le_refl _)).mono ?_
    rintro e w2 ⟨na, nc, rfl, hf2, hb2⟩
    have q0 : ∀ o, w2.cell? ⟨w.heap.size, o, none⟩ = #[Value.int .i64 0, .int .i64 0, .bool false, .slice none 0 0][o]? := fun o => by
      rw [hb2.cell (by show w.heap.size < _; omega), hc1 _ _ (by omega)]; simp
    have q1 : ∀ o, w2.frozen? ⟨w.heap.size, o, none⟩ = false := fun o => by
      rw [hb2.frozen (by show w.heap.size < _; omega), hc2 _ _ (by omega)]; simp
    have hs2 := hb2.size
    have HF2 := hide hf2
    have B2 := hide hb2
    clear hc1 hc2 hf2 hb2
    go_wp2_with fail
    refine bodyPost_ret (v := .tuple #[.agg #[.int .i64 (tyAt (flat gs) m).kind, .int .i64 (tyAt (flat gs) m).up, .bool (tyAt (flat gs) m).last, .slice na (tyAt (flat gs) m).fields.length nc], .bool true]) (by simp [results, Tryd.results16, go_sem, q0]) rfl ⟨na, nc, rfl, ?_, ?_⟩
    · refine HF2.out.same (((((Same.refl _ _ _).set ?_ _ _).set ?_ _ _).set ?_ _ _).set ?_ _ _) (by omega) (by simp) <;> (left; omega)
    · exact ((((((b0.trans (B1.out.mono (by simp))).trans (B2.out.mono (by omega))).setCell (Nat.le_refl _) _).setCell (Nat.le_refl _) _).setCell (Nat.le_refl _) _).setCell (Nat.le_refl _) _)
  · have hT : tyOr gs n = ⟨0, 0, false, []⟩ := by unfold tyOr; rw [if_neg hin]
    have hI : inKin gs n = false := by
      cases h : inKin gs n with
      | false => rfl
      | true => simp [inKin] at h; exact absurd h hin
    rw [hT, hI]
    clear hT hI
    have b0 : Below w.heap.size w (w.alloc (.cells #[.int .i64 0, .int .i64 0, .bool false, .slice none 0 0] 28)) := (Below.refl _ _).alloc (Nat.le_refl _) _
    have hout : n < 0 ∨ (kinCount gs : Int) ≤ n := by omega
    rcases hout with ho | ho
    all_goals
      go_enter Tryd.func16, Tryd.ntmps16
      go_wp2_with fail
      refine (l1Flat_any a cap lo hi gs _ hn (hx.keep (b0.mono hh)) (Nat.le_trans hh b0.size) hl).mono ?_
      rintro e w1 ⟨fa, fc, rfl, hf1, hb1⟩
      have B1 := hide hb1
      have hs1 := hb1.size
      obtain ⟨hc1, hc2⟩ := bcell hb1
      simp only [World.size_alloc] at hc1 hc2 hs1
      clear hf1 hb1
      go_wp2_with fail
      refine bodyPost_ret (v := .tuple #[.agg #[.int .i64 0, .int .i64 0, .bool false, .slice none 0 0], .bool false]) (by simp [results, Tryd.results16, go_sem, hc1]) rfl ⟨none, 0, rfl, ⟨.inl rfl, .inl rfl⟩, ?_⟩
      exact (((((b0.trans (B1.out.mono (by simp))).setCell (Nat.le_refl _) _).setCell (Nat.le_refl _) _).setCell (Nat.le_refl _) _).setCell (Nat.le_refl _) _)

set_option maxHeartbeats 800000 in
theorem implKinType_any (a : Option Addr) (cap lo hi : Nat) (gs : List (List Ty)) (n : Int) (w : World) (hn : Few gs) (hx : GroupsIn w lo hi a gs) (hh : hi ≤ w.heap.size) (hl : lo ≤ hi) :
    Calls Tryd.prog 15 #[.slice a gs.length cap, .int .i64 n] w fun e w' => ∃ na nc, e = .returned (.tuple #[.agg #[.int .i64 (tyOr gs n).kind, .int .i64 (tyOr gs n).up, .bool (tyOr gs n).last, .slice na (tyOr gs n).fields.length nc], .bool (inKin gs n)]) ∧ FieldsNew w' w.heap.size w'.heap.size na (tyOr gs n).fields ∧ Below w.heap.size w w' := by
  have hc := kinCount_le hn
  have b0 : Below w.heap.size w (w.alloc (.cells #[.int .i64 0, .int .i64 0, .bool false, .slice none 0 0] 28)) := (Below.refl _ _).alloc (Nat.le_refl _) _
  by_cases hin : 0 ≤ n ∧ n < (kinCount gs : Int)
  · have hT : tyOr gs n = tyAt (flat gs) n.toNat := by unfold tyOr; rw [if_pos hin]
    have hI : inKin gs n = true := by simp [inKin, hin.1, hin.2]
    rw [hT, hI]
    have hfew := hide (flat_few hn n.toNat (by omega))
    obtain ⟨h0, h1⟩ := hin
    clear hT hI
    obtain ⟨m, rfl⟩ := Int.eq_ofNat_of_zero_le h0
    rw [Int.toNat_natCast] at hfew ⊢
    go_enter Tryd.func15, Tryd.ntmps15
    go_wp2_with fail
    refine (kinFlat_any a cap lo hi gs _ hn (hx.keep (b0.mono hh)) (Nat.le_trans hh b0.size) hl).mono ?_
    rintro e w1 ⟨fa, fc, rfl, hf1, hb1⟩
    have hm : m < (rowsOf gs).length := by rw [rowsOf_length]; omega
    rcases hf1 with hnil | ⟨b1, off1, rfl, g1, g2, g3⟩
    · rw [hnil] at hm; exact absurd hm (Nat.not_lt_zero _)
    obtain ⟨⟨e0, e1, e2, ga, gc, e3, e4⟩, _, _⟩ := g3 m hm
    rw [rowsOf_t gs m (by omega)] at e0 e1 e2 e3 e4
    have E4 := hide e4
    have B1 := hide hb1
    have hs1 := hb1.size
    obtain ⟨hc1, hc2⟩ := bcell hb1
    simp only [World.size_alloc] at hc1 hc2 hs1
    have E5 := hide (E4.out.keep ((Below.refl w1.heap.size w1).alloc (Nat.le_refl _) (.cells #[.int .i64 (tyAt (flat gs) m).kind, .int .i64 (tyAt (flat gs) m).up, .bool (tyAt (flat gs) m).last, .slice ga (tyAt (flat gs) m).fields.length gc] 28)))
    clear g3 e4 hm hb1
    go_wp2_with (first | (at_builtin; refine wpList_append_copy _ rfl _ _ rfl none (.inl rfl) ga gc lo w1.heap.size (tyAt (flat gs) m).fields rfl rfl hfew.out E5.out ?_))
    intro na nc w2 hf2 hb2
    have hs2 := hb2.size
    simp only [World.size_alloc] at hs2
    have bw : Below (w.heap.size + 1) (w.alloc (.cells #[.int .i64 0, .int .i64 0, .bool false, .slice none 0 0] 28)) w2 := ((B1.out.mono (by simp)).alloc hs1 _).trans (hb2.mono (by omega))
    have q0 : ∀ o, w2.cell? ⟨w.heap.size, o, none⟩ = #[Value.int .i64 0, .int .i64 0, .bool false, .slice none 0 0][o]? := fun o => by
      rw [bw.cell (by show w.heap.size < _; omega)]; simp
    have q1 : ∀ o, w2.frozen? ⟨w.heap.size, o, none⟩ = false := fun o => by
      rw [bw.frozen (by show w.heap.size < _; omega)]; simp
    have r0 : ∀ o, w2.cell? ⟨w1.heap.size, o, none⟩ = #[Value.int .i64 (tyAt (flat gs) m).kind, .int .i64 (tyAt (flat gs) m).up, .bool (tyAt (flat gs) m).last, .slice ga (tyAt (flat gs) m).fields.length gc][o]? := fun o => by
      rw [hb2.cell (by show w1.heap.size < _; simp)]; simp
    have r1 : ∀ o, w2.frozen? ⟨w1.heap.size, o, none⟩ = false := fun o => by
      rw [hb2.frozen (by show w1.heap.size < _; simp)]; simp
    have HF2 := hide hf2
    have B2 := hide hb2
    clear hc1 hc2 hf2 hb2
    have BW := hide bw
    clear bw
    go_wp2_with fail
    refine bodyPost_ret (v := .tuple #[.agg #[.int .i64 (tyAt (flat gs) m).kind, .int .i64 (tyAt (flat gs) m).up, .bool (tyAt (flat gs) m).last, .slice na (tyAt (flat gs) m).fields.length nc], .bool true]) (by simp [results, Tryd.results15, go_sem, q0]) rfl ⟨na, nc, rfl, ?_, ?_⟩
    · refine HF2.out.same ((((((Same.refl _ _ _).set ?_ _ _).set ?_ _ _).set ?_ _ _).set ?_ _ _).set ?_ _ _) (by omega) (by simp) <;> (left; omega)
    · exact (((((b0.trans (BW.out.mono (by omega))).setCell (by show _ ≤ w1.heap.size; omega) _).setCell (Nat.le_refl _) _).setCell (Nat.le_refl _) _).setCell (Nat.le_refl _) _).setCell (Nat.le_refl _) _
  · have hT : tyOr gs n = ⟨0, 0, false, []⟩ := by unfold tyOr; rw [if_neg hin]
    have hI : inKin gs n = false := by
      cases h : inKin gs n with
      | false => rfl
      | true => simp [inKin] at h; exact absurd h hin
    rw [hT, hI]
    clear hT hI
    have hout : n < 0 ∨ (kinCount gs : Int) ≤ n := by omega
    rcases hout with ho | ho
    all_goals
      go_enter Tryd.func15, Tryd.ntmps15
      go_wp2_with fail
      refine (kinFlat_any a cap lo hi gs _ hn (hx.keep (b0.mono hh)) (Nat.le_trans hh b0.size) hl).mono ?_
      rintro e w1 ⟨fa, fc, rfl, hf1, hb1⟩
      have B1 := hide hb1
      have hs1 := hb1.size
      obtain ⟨hc1, hc2⟩ := bcell hb1
      simp only [World.size_alloc] at hc1 hc2 hs1
      clear hf1 hb1
      go_wp2_with fail
      refine bodyPost_ret (v := .tuple #[.agg #[.int .i64 0, .int .i64 0, .bool false, .slice none 0 0], .bool false]) (by simp [results, Tryd.results15, go_sem, hc1]) rfl ⟨none, 0, rfl, ⟨.inl rfl, .inl rfl⟩, ?_⟩
      · exact (((((b0.trans (B1.out.mono (by simp))).setCell (Nat.le_refl _) _).setCell (Nat.le_refl _) _).setCell (Nat.le_refl _) _).setCell (Nat.le_refl _) _)
end Go.Proofs.YtfnipbnchkonoaaDoor

/- KinType of both sides on groups that were drawn; calls that keep a cell too. -/
namespace Go.Proofs.YtfnipbnchkonoaaDoor
open Go.ChangeShapes Go.WideShapes Go.ChangeAt Go.RowKit Go.Deep
set_option linter.unusedVariables false

theorem GS.implType {w0 w : World} {ga gc : Nat} {gs : List (List Ty)} (h : GS w0 w ga gc gs) (n : Int) {t : Ty} (ht : tyOr gs n = t) {v : Bool} (hv : isTypeF gs n = v) :
    Calls Tryd.prog 15 #[.slice (some ⟨ga, 0, none⟩) gs.length gc, .int .i64 n] w fun e w' => ∃ na nc, e = .returned (.tuple #[.agg #[.int .i64 t.kind, .int .i64 t.up, .bool t.last, .slice na t.fields.length nc], .bool v]) ∧ FieldsIn w' w.heap.size w'.heap.size na t.fields ∧ Below w.heap.size w w' ∧ GS w0 w' ga gc gs := by
  obtain ⟨hi, h1, h2, h3⟩ := h.mem
  subst ht hv
  exact (implKinType_any (some ⟨ga, 0, none⟩) gc _ hi gs n w h.few h3 h2 h1).mono fun e w' ⟨na, nc, q1, q2, q3⟩ => ⟨na, nc, q1, q2.1, q3, h.keep q3⟩
theorem GS.specType {w0 w : World} {ga gc : Nat} {gs : List (List Ty)} (h : GS w0 w ga gc gs) (n : Int) {t : Ty} (ht : tyOr gs n = t) {v : Bool} (hv : isTypeF gs n = v) :
    Calls Tryd.prog 16 #[.slice (some ⟨ga, 0, none⟩) gs.length gc, .int .i64 n] w fun e w' => ∃ na nc, e = .returned (.tuple #[.agg #[.int .i64 t.kind, .int .i64 t.up, .bool t.last, .slice na t.fields.length nc], .bool v]) ∧ FieldsIn w' w.heap.size w'.heap.size na t.fields ∧ Below w.heap.size w w' ∧ GS w0 w' ga gc gs := by
  obtain ⟨hi, h1, h2, h3⟩ := h.mem
  subst ht hv
  exact (specKinType_any (some ⟨ga, 0, none⟩) gc _ hi gs n w h.few h3 h2 h1).mono fun e w' ⟨na, nc, q1, q2, q3⟩ => ⟨na, nc, q1, q2.1, q3, h.keep q3⟩

theorem cell_below {w w' : World} {p : Addr} {v : Value} (hb : Below w.heap.size w w') (h : w.cell? ⟨p.block, p.off, none⟩ = some v) : w'.cell? ⟨p.block, p.off, none⟩ = some v := by
  rw [hb.cell (p := ⟨p.block, p.off, none⟩) (cell_lt h)]; exact h
theorem GS.underC {w0 w : World} {ga gc b o : Nat} {v : Value} {gs : List (List Ty)} (h : w.cell? ⟨b, o, none⟩ = some v ∧ GS w0 w ga gc gs) (x y : Int) :
    Calls Tryd.prog 28 #[.slice (some ⟨ga, 0, none⟩) gs.length gc, .int .i64 x, .int .i64 y] w fun e w' => e = .returned (.bool (underB gs x y)) ∧ w'.cell? ⟨b, o, none⟩ = some v ∧ GS w0 w' ga gc gs :=
  (h.2.implUnder rfl).mono fun e w' q => ⟨q.1, cell_below (p := ⟨b, o, none⟩) q.2.1 h.1, q.2.2⟩
theorem GS.sameC {w0 w : World} {ga gc b o : Nat} {v : Value} {gs : List (List Ty)} (h : w.cell? ⟨b, o, none⟩ = some v ∧ GS w0 w ga gc gs) (x y : Int) :
    Calls Tryd.prog 23 #[.slice (some ⟨ga, 0, none⟩) gs.length gc, .int .i64 x, .int .i64 y] w fun e w' => e = .returned (.bool (sameB gs x y)) ∧ w'.cell? ⟨b, o, none⟩ = some v ∧ GS w0 w' ga gc gs :=
  (h.2.implSame rfl).mono fun e w' q => ⟨q.1, cell_below (p := ⟨b, o, none⟩) q.2.1 h.1, q.2.2⟩
theorem GS.underV {w0 w : World} {ga gc b o : Nat} {u : Value} {gs : List (List Ty)} {x y : Int} {v : Bool} (hv : underB gs x y = v) (h : w.cell? ⟨b, o, none⟩ = some u ∧ GS w0 w ga gc gs) :
    Calls Tryd.prog 28 #[.slice (some ⟨ga, 0, none⟩) gs.length gc, .int .i64 x, .int .i64 y] w fun e w' => e = .returned (.bool v) ∧ w'.cell? ⟨b, o, none⟩ = some u ∧ GS w0 w' ga gc gs := by
  subst hv; exact GS.underC h x y
theorem tyOr_of {gs : List (List Ty)} {a : Int} (h1 : 0 ≤ a) (h2 : a < (kinCount gs : Int)) : tyOr gs a = tyN gs a.toNat := by unfold tyOr tyN; rw [if_pos ⟨h1, h2⟩]
theorem tyOr_not {gs : List (List Ty)} {a : Int} (h : isTypeF gs a = false) : tyOr gs a = ⟨0, 0, false, []⟩ := by
  unfold tyOr
  rw [if_neg]
  rintro ⟨h1, h2⟩
  simp [isTypeF, h1, h2] at h
end Go.Proofs.YtfnipbnchkonoaaDoor
