/- l1Flat of the model: all types, one behind the other. -/
import Derived.Test.YtblliefejffhoaaGreatDoorCount
import Derived.Test.YtblliefejffhoaaGreatDoorRowB
import Derived.Deep.AppendLies
namespace Go.Proofs.YtblliefejffhoaaGreatDoor
open Go.ChangeShapes Go.WideShapes Go.ChangeAt Go.RowKit
set_option linter.unusedVariables false

/-- All types of the first k groups. -/
def flatTo (G : Nat → List Ty) : Nat → List Ty
  | 0 => []
  | k + 1 => flatTo G k ++ G k

theorem flatTo_length (G : Nat → List Ty) (k : Nat) : (flatTo G k).length = countTo G k := by
  induction k with
  | zero => rfl
  | succ k ih => simp [flatTo, countTo, ih]

/-- A type's four cells lie in a list of cells from o on. -/
def TvAt (w : World) (lo hi : Nat) (xs : List Value) (o : Nat) (t : Ty) : Prop :=
  xs[o]? = some (.int .i64 t.kind) ∧ xs[o + 1]? = some (.int .i64 t.up) ∧ xs[o + 2]? = some (.bool t.last) ∧ ∃ fa fc, xs[o + 3]? = some (.slice fa t.fields.length fc) ∧ FieldsIn w lo hi fa t.fields

theorem TvAt.append {w : World} {lo hi : Nat} {xs : List Value} {o : Nat} {t : Ty} (h : TvAt w lo hi xs o t) (ys : List Value) : TvAt w lo hi (xs ++ ys) o t := by
  obtain ⟨a, b, c, fa, fc, d, e⟩ := h
  have q : ∀ {k : Nat} {v : Value}, xs[k]? = some v → (xs ++ ys)[k]? = some v := fun {k v} hk => by
    have := (List.getElem?_eq_some_iff.1 hk).1
    rw [List.getElem?_append_left this]; exact hk
  exact ⟨q a, q b, q c, fa, fc, q d, e⟩
theorem TvAt.keep {w w' : World} {lo hi : Nat} {xs : List Value} {o : Nat} {t : Ty} (h : TvAt w lo hi xs o t) (hb : Below hi w w') : TvAt w' lo hi xs o t := by
  obtain ⟨a, b, c, fa, fc, d, e⟩ := h
  exact ⟨a, b, c, fa, fc, d, e.keep hb⟩
theorem TvAt.here {w : World} {lo hi : Nat} (xs : List Value) (t : Ty) {fa : Option Addr} {fc : Nat} (hf : FieldsIn w lo hi fa t.fields) (o : Nat) (ho : xs.length = o) :
    TvAt w lo hi (xs ++ [.int .i64 t.kind, .int .i64 t.up, .bool t.last, .slice fa t.fields.length fc]) o t := by
  subst ho
  refine ⟨?_, ?_, ?_, fa, fc, ?_, hf⟩ <;> simp

/-- The value v is a slice of the types ts, in cells of the call's own from block S on, the fields where they were. -/
def TypeRow (w : World) (lo hi S : Nat) (a : Option Addr) (cap : Nat) (ts : List Ty) : Prop :=
  ∃ xs, w.ownsRow S 44 4 (.slice a ts.length cap) ts.length xs ∧ ∀ i, i < ts.length → TvAt w lo hi xs (i * 4) (tyAt ts i)

theorem TypeRow.types {w : World} {lo hi S cap : Nat} {a : Option Addr} {ts : List Ty} (h : TypeRow w lo hi S a cap ts) (h1 : hi ≤ w.heap.size) (h2 : lo ≤ S) : TypesIn w lo w.heap.size a ts := by
  obtain ⟨xs, ho, hT⟩ := h
  rcases owns_cells ho with h0 | ⟨g, rfl, hS, hlt, hc⟩
  · exact .inl (List.length_eq_zero_iff.1 (by omega))
  · refine .inr ⟨g, 0, rfl, by omega, hlt, fun i hi => ?_⟩
    obtain ⟨a, b, c, fa, fc, d, e⟩ := hT i hi
    rw [Nat.zero_add]
    refine ⟨?_, ?_, ?_, fa, fc, ?_, e.wide (Nat.le_refl _) h1⟩
    all_goals rw [hc _ (by omega)]; assumption

theorem tyAt_append_left (l r : List Ty) (i : Nat) (h : i < l.length) : tyAt (l ++ r) i = tyAt l i := by
  simp [tyAt, List.getD, List.getElem?_append_left h]
theorem tyAt_append_one (l : List Ty) (t : Ty) : tyAt (l ++ [t]) l.length = t := by
  simp [tyAt, List.getD]
theorem take_snoc (g : List Ty) (j : Nat) (h : j < g.length) : g.take (j + 1) = g.take j ++ [tyAt g j] := by
  rw [List.take_succ_eq_append_getElem h]
  simp [tyAt, List.getD, List.getElem?_eq_getElem h]

/-- One type more. -/
theorem TypeRow.snoc {w w1 : World} {lo hi S cap cap' : Nat} {a a' : Option Addr} {ts : List Ty} {t : Ty} {fa : Option Addr} {fc : Nat} {xs : List Value}
    (hT : ∀ i, i < ts.length → TvAt w lo hi xs (i * 4) (tyAt ts i)) (hl : xs.length = ts.length * 4) (hf : FieldsIn w lo hi fa t.fields) (hb : Below hi w w1)
    (ho : w1.ownsRow S 44 4 (.slice a' (ts.length + 1) cap') (ts.length + 1) (xs ++ [.int .i64 t.kind, .int .i64 t.up, .bool t.last, .slice fa t.fields.length fc])) :
    TypeRow w1 lo hi S a' cap' (ts ++ [t]) := by
  refine ⟨_, by simpa using ho, fun i hi => ?_⟩
  by_cases e : i < ts.length
  · rw [tyAt_append_left _ _ _ e]
    exact ((hT i e).append _).keep hb
  · have : i = ts.length := by simp at hi; omega
    subst this
    rw [tyAt_append_one]
    exact TvAt.here xs t (hf.keep hb) _ hl

/-- Two worlds that hold below B what a third holds there. -/
theorem below_from {B hi : Nat} {w a b : World} (ha : Below B w a) (hb : Below B w b) (h : hi ≤ B) (hs : a.heap.size ≤ b.heap.size := by assumption) : Below hi a b :=
  ⟨hb.os.trans ha.os.symm, hb.tape.trans ha.tape.symm, hb.output.trans ha.output.symm, hs, fun k hk => (hb.block k (by omega)).trans (ha.block k (by omega)).symm⟩
theorem flat_take_all (G : Nat → List Ty) (k : Nat) : flatTo G k ++ (G k).take (G k).length = flatTo G (k + 1) := by simp [flatTo]

set_option maxHeartbeats 800000 in
set_option maxRecDepth 100000 in
theorem l1Flat_core (a : Option Addr) (cap n lo hi : Nat) (G : Nat → List Ty) (w : World) (hn : n ≤ 1048576) (hm : ∀ i, i < n → (G i).length ≤ 1048576) (hh : hi ≤ w.heap.size)
    (hx : n ≤ 0 ∨ ∃ b off, a = some ⟨b, off, none⟩ ∧ lo ≤ b ∧ b < hi ∧ ∀ i, i < n → GroupAt w lo hi b (off + i) (G i)) :
    Calls Tryz.prog 61 #[.slice a n cap] w fun e w' => ∃ na nc, e = .returned (.slice na (countTo G n) nc) ∧ TypeRow w' lo hi w.heap.size na nc (flatTo G n) ∧ Below w.heap.size w w' := by
  have HM := hide hm
  clear hm
  obtain ⟨i0, hi0, hzz⟩ := Option.map_eq_some_iff.1 Tryz.infoType
  simp only [Prod.mk.injEq] at hzz
  obtain ⟨hz0, hs0, hb0⟩ := hzz
  have HZ := hide hz0
  have HS := hide hs0
  have HB := hide hb0
  have HI := hide hi0
  clear hz0 hs0 hb0 hi0
  rcases hx with h0 | ⟨b, off, rfl, h1, h2, h3⟩
  all_goals
    go_enter Tryz.func61, Tryz.ntmps61
    go_wp2_with fail
    go_loopw [3, 4] (fun v i wr => ∃ (k : Nat) (ra : Option Addr) (rc : Nat), k ≤ n ∧ i = .int .i64 k ∧ v = .slice ra (countTo G k) rc ∧ TypeRow wr lo hi w.heap.size ra rc (flatTo G k) ∧ Below w.heap.size w wr) (fun v i wr => n - (intOf i).toNat)
    case atStart =>
      refine ⟨0, _, _, Nat.zero_le _, rfl, rfl, ⟨[], ⟨rfl, .inr ⟨w.heap.size, 0, #[], rfl, Nat.le_refl _, Deep.blk_alloc_new _ _, Nat.le_refl _, Nat.zero_le _, rfl, rfl⟩⟩, fun i hi => absurd hi (Nat.not_lt_zero _)⟩, (Below.refl _ _).alloc (Nat.le_refl _) _⟩
    case round =>
      obtain ⟨k, ra, rc, hk, rfl, rfl, hT, hb⟩ := hrel
      have HT := hide hT
      clear hT
      by_cases hkn : k < n
      · first
        | (exfalso; omega)
        | (obtain ⟨ta, tc, c3, c4⟩ := h3 k hkn
           have q2 := HM.out k hkn
           have q3 := countTo_le G n HM.out k hk
           have h2' := Nat.lt_of_lt_of_le h2 hh
           clear h3
           go_wp2_with fail
           go_loopw [3, 5] (fun v i wi => ∃ (j : Nat) (ra : Option Addr) (rc : Nat), j ≤ (G k).length ∧ i = .int .i64 j ∧ v = .slice ra (countTo G k + j) rc ∧ TypeRow wi lo hi w.heap.size ra rc (flatTo G k ++ (G k).take j) ∧ Below w.heap.size w wi) (fun v i wi => (G k).length - (intOf i).toNat)
           case atStart => exact ⟨0, ra, rc, Nat.zero_le _, rfl, rfl, by simpa using HT.out, hb⟩
           case round =>
             clear HT hb
             obtain ⟨j, ra, rc, hj, rfl, rfl, hT, hb⟩ := hrel
             have d3 : wr.cell? ⟨b, off + k, none⟩ = some (.slice ta (G k).length tc) := by rw [hb.cell (by exact h2')]; exact c3
             by_cases hjn : j < (G k).length
             · rcases c4 with hnil | ⟨b2, off2, rfl, g1, g2, g3⟩
               · rw [hnil] at hjn; exact absurd hjn (Nat.not_lt_zero _)
               obtain ⟨e0, e1, e2, fa, fc, e3, e4⟩ := (g3 j hjn).keep (hb.mono hh) g1 g2
               have E4 := hide e4
               obtain ⟨xs, hown, hTv⟩ := hT
               have hlen : (flatTo G k ++ (G k).take j).length = countTo G k + j := by simp [flatTo_length]; omega
               have hxl := hown.1
               have HTv := hide hTv
               have HXL := hide hxl
               have HLE := hide hlen
               rw [hlen] at hown
               have HO := hide hown
               have hs := hb.size
               clear hown hTv hxl e4 g3 hlen
               go_wp2_with (first | (at_builtin; refine wpList_append_lies _ rfl _ _ 42 rfl w.heap.size 44 i0 _ 4 48 Tryz.underlying42 HI.out HZ.out HS.out HB.out rfl (by decide) _ _ xs rfl (HO.out.alloc _) ⟨wr.heap.size, 0, none⟩ 1 1 [.int .i64 (tyAt (G k) j).kind, .int .i64 (tyAt (G k) j).up, .bool (tyAt (G k) j).last, .slice fa (tyAt (G k) j).fields.length fc] rfl rfl ?c1 ?c2 (by decide) ?c3 ?c4 ?c5 _ rfl ?_))
               case c1 => exact World.news_of_block (Deep.blk_alloc_new _ _)
               case c2 => intro u hu; simp at hu; rcases hu with rfl | rfl | rfl | rfl <;> rfl
               case c3 => unfold maxLen; omega
               case c4 => omega
               case c5 => simp; omega
               intro g cap' w1 hown1 hgr hat hlt1
               have hb1 : Below w.heap.size w w1 := (hb.alloc hs _).grown hgr (by simp; omega) (owns_base HO.out)
               have HB1 := hide hb1
               have HO1 := hide hown1
               have hs1 : wr.heap.size ≤ w1.heap.size := by have := hgr.size; simp at this; omega
               clear hgr hat hown1
               go_wp2_with fail
               refine ⟨⟨j + 1, _, cap', by omega, by go_num, rfl, ?_, HB1.out⟩, by simp [intOf]; omega⟩
               rw [take_snoc _ _ hjn, ← List.append_assoc]
               have ho := HO1.out
               rw [← HLE.out] at ho
               exact TypeRow.snoc (a := ra) (cap := rc) HTv.out HXL.out E4.out (below_from hb HB1.out hh) ho
             · have hje : Hid (j = (G k).length) := Nat.le_antisymm hj (Nat.le_of_not_lt hjn)
               have HT := hide hT
               clear hT
               go_wp2_with fail
               refine ⟨⟨k + 1, ra, rc, by omega, by go_num, ?_, ?_, hb⟩, by simp [intOf]; omega⟩
               · rw [hje.out]; simp [countTo]
               · have := HT.out; rw [hje.out, flat_take_all] at this; exact this)
      · have hkn' : Hid (k = n) := Nat.le_antisymm hk (Nat.le_of_not_lt hkn)
        go_wp2_with fail
        go_ret
        rw [hkn'.out] at HT ⊢
        exact ⟨ra, rc, rfl, HT.out, hb⟩

/-- All types. -/
def flat (gs : List (List Ty)) : List Ty := flatTo (grAt gs) gs.length
theorem flat_length (gs : List (List Ty)) : (flat gs).length = kinCount gs := flatTo_length _ _

theorem l1Flat_any (a : Option Addr) (cap lo hi : Nat) (gs : List (List Ty)) (w : World) (hn : Few gs) (hx : GroupsIn w lo hi a gs) (hh : hi ≤ w.heap.size) (hl : lo ≤ hi) :
    Calls Tryz.prog 61 #[.slice a gs.length cap] w fun e w' => ∃ na nc, e = .returned (.slice na (kinCount gs) nc) ∧ TypesIn w' lo w'.heap.size na (flat gs) ∧ Below w.heap.size w w' := by
  refine (l1Flat_core a cap gs.length lo hi (grAt gs) w hn.1 (fun i hi => (hn.2 i hi).1) hh ?_).mono ?_
  · rcases hx with rfl | ⟨b, off, rfl, h1, h2, h3⟩
    · exact .inl (Nat.le_refl _)
    · exact .inr ⟨b, off, rfl, h1, h2, h3⟩
  · rintro e w' ⟨na, nc, rfl, hT, hb⟩
    exact ⟨na, nc, rfl, hT.types (Nat.le_trans hh hb.size) (by omega), hb⟩
end Go.Proofs.YtblliefejffhoaaGreatDoor
