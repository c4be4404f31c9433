/- PaSpecA: Count, RowB, Flat, SpecA, SpecB, SpecC. -/
import Derived.Test.YtembifoimiochaaGreatDoorPaOne
import Derived.Deep.AppendLies
import Derived.Deep.RegionHeld3
namespace Go.Proofs.YtembifoimiochaaGreatDoor
open Go.ChangeShapes Go.WideShapes Go.ChangeAt Go.RowKit
set_option linter.unusedVariables false
def countTo (G : Nat → List Ty) : Nat → Nat
  | 0 => 0
  | k + 1 => countTo G k + (G k).length
theorem countTo_le (G : Nat → List Ty) (n : Nat) (h : ∀ i, i < n → (G i).length ≤ 1048576) (k : Nat) (hk : k ≤ n) : countTo G k ≤ k * 1048576 := by
  induction k with
  | zero => simp [countTo]
  | succ k ih => have := ih (by omega); have := h k (by omega); simp only [countTo]; omega
set_option maxHeartbeats 400000 in
theorem specKinCount_core (a : Option Addr) (cap n lo hi : Nat) (G : Nat → List Ty) (w : World) (hn : n ≤ 1048576) (hm : ∀ i, i < n → (G i).length ≤ 1048576)
    (hx : n ≤ 0 ∨ ∃ b off, a = some ⟨b, off, none⟩ ∧ lo ≤ b ∧ b < hi ∧ ∀ i, i < n → GroupAt w lo hi b (off + i) (G i)) :
    Calls Tryz.prog 59 #[.slice a n cap] w fun e w' => e = .returned (.int .i64 (countTo G n : Nat)) ∧ w' = w := by
  have HM := hide hm
  clear hm
  rcases hx with h0 | ⟨b, off, rfl, h1, h2, h3⟩
  all_goals
    go_enter Tryz.func59, Tryz.ntmps59
    go_wp2_with fail
    go_loop [3, 4] (fun c i => ∃ k : Nat, k ≤ n ∧ i = .int .i64 k ∧ c = .int .i64 (countTo G k : Nat)) (fun c i => n - (intOf i).toNat)
    case atStart => exact ⟨0, Nat.zero_le _, rfl, rfl⟩
    case round =>
      obtain ⟨k, hk, rfl, rfl⟩ := hrel
      have q1 := countTo_le G n HM.out k hk
      by_cases hkn : k < n
      · first
        | (exfalso; omega)
        | (obtain ⟨ta, tc, c3, c4⟩ := h3 k hkn
           have q2 := HM.out k hkn
           clear h3 c4
           go_wp2_with fail
           refine ⟨⟨k + 1, by omega, by go_num, ?_⟩, by simp [intOf]; omega⟩
           simp [countTo])
      · have hkn' : Hid (k = n) := Nat.le_antisymm hk (Nat.le_of_not_lt hkn)
        go_wp2_with fail
        go_ret
        exact ⟨ret_int (by rw [hkn'.out]), rfl⟩
set_option maxHeartbeats 400000 in
theorem implKinCount_core (a : Option Addr) (cap n lo hi : Nat) (G : Nat → List Ty) (w : World) (hn : n ≤ 1048576) (hm : ∀ i, i < n → (G i).length ≤ 1048576)
    (hx : n ≤ 0 ∨ ∃ b off, a = some ⟨b, off, none⟩ ∧ lo ≤ b ∧ b < hi ∧ ∀ i, i < n → GroupAt w lo hi b (off + i) (G i)) :
    Calls Tryz.prog 98 #[.slice a n cap] w fun e w' => e = .returned (.int .i64 (countTo G n : Nat)) ∧ w' = w := by
  have HM := hide hm
  clear hm
  rcases hx with h0 | ⟨b, off, rfl, h1, h2, h3⟩
  all_goals
    go_enter Tryz.func98, Tryz.ntmps98
    go_wp2_with fail
    go_loop [3, 8] (fun c i => ∃ k : Nat, k ≤ n ∧ i = .int .i64 k ∧ c = .int .i64 (countTo G k : Nat)) (fun c i => n - (intOf i).toNat)
    case atStart => exact ⟨0, Nat.zero_le _, rfl, rfl⟩
    case round =>
      obtain ⟨k, hk, rfl, rfl⟩ := hrel
      have q1 := countTo_le G n HM.out k hk
      by_cases hkn : k < n
      · first
        | (exfalso; omega)
        | (obtain ⟨ta, tc, c3, c4⟩ := h3 k hkn
           have q2 := HM.out k hkn
           clear h3 c4
           go_wp2_with fail
           refine ⟨⟨k + 1, by omega, by go_num, ?_⟩, by simp [intOf]; omega⟩
           simp [countTo])
      · have hkn' : Hid (k = n) := Nat.le_antisymm hk (Nat.le_of_not_lt hkn)
        go_wp2_with fail
        go_ret
        exact ⟨ret_int (by rw [hkn'.out]), rfl⟩
def kinCount (gs : List (List Ty)) : Nat := countTo (grAt gs) gs.length
theorem specKinCount_any (a : Option Addr) (cap lo hi : Nat) (gs : List (List Ty)) (w : World) (hn : Few gs) (hx : GroupsIn w lo hi a gs) :
    Calls Tryz.prog 59 #[.slice a gs.length cap] w fun e w' => e = .returned (.int .i64 (kinCount gs : Nat)) ∧ w' = w := by
  refine specKinCount_core a cap gs.length lo hi (grAt gs) w hn.1 (fun i hi => (hn.2 i hi).1) ?_
  rcases hx with rfl | ⟨b, off, rfl, h1, h2, h3⟩
  · exact .inl (Nat.le_refl _)
  · exact .inr ⟨b, off, rfl, h1, h2, h3⟩
theorem implKinCount_any (a : Option Addr) (cap lo hi : Nat) (gs : List (List Ty)) (w : World) (hn : Few gs) (hx : GroupsIn w lo hi a gs) :
    Calls Tryz.prog 98 #[.slice a gs.length cap] w fun e w' => e = .returned (.int .i64 (kinCount gs : Nat)) ∧ w' = w := by
  refine implKinCount_core a cap gs.length lo hi (grAt gs) w hn.1 (fun i hi => (hn.2 i hi).1) ?_
  rcases hx with rfl | ⟨b, off, rfl, h1, h2, h3⟩
  · exact .inl (Nat.le_refl _)
  · exact .inr ⟨b, off, rfl, h1, h2, h3⟩
theorem kinCount_le {gs : List (List Ty)} (h : Few gs) : kinCount gs ≤ 1099511627776 := by
  have := countTo_le (grAt gs) gs.length (fun i hi => (h.2 i hi).1) gs.length (Nat.le_refl _)
  have h1 := h.1
  unfold kinCount
  omega
end Go.Proofs.YtembifoimiochaaGreatDoor
namespace Go.Proofs.YtembifoimiochaaGreatDoor
open Go.ChangeShapes Go.WideShapes Go.ChangeAt Go.RowKit Go.Deep
set_option linter.unusedVariables false
theorem owns_cells {w : World} {S e size n cap : Nat} {a : Option Addr} {xs : List Value} (h : w.ownsRow S e size (.slice a n cap) n xs) :
  n ≤ 0 ∨ ∃ g, a = some ⟨g, 0, none⟩ ∧ S ≤ g ∧ g < w.heap.size ∧ ∀ j, j < n * size → w.cell? ⟨g, j, none⟩ = xs[j]? := by
 rcases h.2 with ⟨_, h0⟩ | ⟨g, cap', cur, hv, hb, hg, h1, h2, h3, h4⟩
 ·exact .inl (by omega)
 ·simp at hv
  obtain ⟨rfl, rfl⟩ := hv
  refine .inr ⟨g, rfl, hb, (Array.getElem?_eq_some_iff.1 hg).1, fun j hj => ?_⟩
  rw [← h4]
  simp [World.cell?, hg, hj]
theorem owns_base {w : World} {S e size n : Nat} {v : Value} {xs : List Value} (h : w.ownsRow S e size v n xs) : ∀ k, v.ownBlock = some k → S ≤ k := by
 intro k hk
 rcases h.2 with ⟨rfl, _⟩ | ⟨g, cap', cur, rfl, hb, _⟩
 ·simp [Value.ownBlock] at hk
 ·simp [Value.ownBlock] at hk
  omega
theorem owns_of_block {w w' : World} {S e size n : Nat} {v : Value} {xs : List Value} (h : w.ownsRow S e size v n xs) (hb : ∀ k, v.ownBlock = some k → w'.heap[k]? = w.heap[k]?) : w'.ownsRow S e size v n xs := by
 refine ⟨h.1, ?_⟩
 rcases h.2 with h0 | ⟨g, cap', cur, rfl, hS, hg, h1, h2, h3, h4⟩
 ·exact .inl h0
 ·exact .inr ⟨g, cap', cur, rfl, hS, (hb g rfl).trans hg, h1, h2, h3, h4⟩
theorem owns_lt {w : World} {S e size n : Nat} {v : Value} {xs : List Value} (h : w.ownsRow S e size v n xs) : ∀ k, v.ownBlock = some k → k < w.heap.size := by
 intro k hk
 rcases h.2 with ⟨rfl, _⟩ | ⟨g, cap', cur, rfl, hS, hg, _⟩
 ·simp [Value.ownBlock] at hk
 ·simp [Value.ownBlock] at hk
  subst hk
  exact (Array.getElem?_eq_some_iff.1 hg).1
theorem owns_below {w w' : World} {S e size n : Nat} {v : Value} {xs : List Value} (h : w.ownsRow S e size v n xs) (hb : Below w.heap.size w w') : w'.ownsRow S e size v n xs :=
 owns_of_block h fun k hk => hb.block k (owns_lt h k hk)
theorem owns_lower {w : World} {S S' e size n : Nat} {v : Value} {xs : List Value} (h : w.ownsRow S e size v n xs) (hS : S' ≤ S) : w.ownsRow S' e size v n xs := by
 refine ⟨h.1, ?_⟩
 rcases h.2 with h0 | ⟨g, cap', cur, rfl, h1, h2⟩
 ·exact .inl h0
 ·exact .inr ⟨g, cap', cur, rfl, by omega, h2⟩
theorem owns_cap {w : World} {S e size n cap m : Nat} {a : Option Addr} {xs : List Value} (h : w.ownsRow S e size (.slice a n cap) m xs) : n ≤ cap := by
 rcases h.2 with ⟨h0, _⟩ | ⟨g, cap', cur, h0, h1, h2, h3, _⟩
 ·simp at h0; omega
 ·simp at h0
  obtain ⟨_, rfl, rfl⟩ := h0
  exact h3
theorem row_ne {w : World} {S e size n b : Nat} {v : Value} {xs : List Value} (h : w.ownsRow S e size v n xs) (hb : b < S) : some b ≠ v.ownBlock := fun e => by have := owns_base h b e.symm; omega
theorem Rec.grown {w w' : World} {b : Nat} {T : TypeId} {vs : List Value} {row : Option Nat} (h : Rec w b T vs) (hg : w.grownBy w' row) (hr : some b ≠ row) : Rec w' b T vs := (hg.block b h.lt hr).trans h
end Go.Proofs.YtembifoimiochaaGreatDoor
namespace Go.Proofs.YtembifoimiochaaGreatDoor
open Go.ChangeShapes Go.WideShapes Go.ChangeAt Go.RowKit
set_option linter.unusedVariables false
def flatTo (G : Nat → List Ty) : Nat → List Ty
  | 0 => []
  | k + 1 => flatTo G k ++ G k
theorem flatTo_length (G : Nat → List Ty) (k : Nat) : (flatTo G k).length = countTo G k := by
  induction k with
  | zero => rfl
  | succ k ih => simp [flatTo, countTo, ih]
def TvAt (w : World) (lo hi : Nat) (xs : List Value) (o : Nat) (t : Ty) : Prop :=
  xs[o]? = some (.int .i64 t.kind) ∧ xs[o + 1]? = some (.int .i64 t.up) ∧ xs[o + 2]? = some (.bool t.last) ∧ ∃ fa fc, xs[o + 3]? = some (.slice fa t.fields.length fc) ∧ FieldsIn w lo hi fa t.fields
theorem TvAt.append {w : World} {lo hi : Nat} {xs : List Value} {o : Nat} {t : Ty} (h : TvAt w lo hi xs o t) (ys : List Value) : TvAt w lo hi (xs ++ ys) o t := by
  obtain ⟨a, b, c, fa, fc, d, e⟩ := h
  have q : ∀ {k : Nat} {v : Value}, xs[k]? = some v → (xs ++ ys)[k]? = some v := fun {k v} hk => by
    have := (List.getElem?_eq_some_iff.1 hk).1
    rw [List.getElem?_append_left this]; exact hk
  exact ⟨q a, q b, q c, fa, fc, q d, e⟩
theorem TvAt.keep {w w' : World} {lo hi : Nat} {xs : List Value} {o : Nat} {t : Ty} (h : TvAt w lo hi xs o t) (hb : Below hi w w') : TvAt w' lo hi xs o t := by
  obtain ⟨a, b, c, fa, fc, d, e⟩ := h
  exact ⟨a, b, c, fa, fc, d, e.keep hb⟩
theorem TvAt.here {w : World} {lo hi : Nat} (xs : List Value) (t : Ty) {fa : Option Addr} {fc : Nat} (hf : FieldsIn w lo hi fa t.fields) (o : Nat) (ho : xs.length = o) :
    TvAt w lo hi (xs ++ [.int .i64 t.kind, .int .i64 t.up, .bool t.last, .slice fa t.fields.length fc]) o t := by
  subst ho
  refine ⟨?_, ?_, ?_, fa, fc, ?_, hf⟩ <;> simp
def TypeRow (w : World) (lo hi S : Nat) (a : Option Addr) (cap : Nat) (ts : List Ty) : Prop :=
  ∃ xs, w.ownsRow S 76 4 (.slice a ts.length cap) ts.length xs ∧ ∀ i, i < ts.length → TvAt w lo hi xs (i * 4) (tyAt ts i)
theorem TypeRow.types {w : World} {lo hi S cap : Nat} {a : Option Addr} {ts : List Ty} (h : TypeRow w lo hi S a cap ts) (h1 : hi ≤ w.heap.size) (h2 : lo ≤ S) : TypesIn w lo w.heap.size a ts := by
  obtain ⟨xs, ho, hT⟩ := h
  rcases owns_cells ho with h0 | ⟨g, rfl, hS, hlt, hc⟩
  · exact .inl (List.length_eq_zero_iff.1 (by omega))
  · refine .inr ⟨g, 0, rfl, by omega, hlt, fun i hi => ?_⟩
    obtain ⟨a, b, c, fa, fc, d, e⟩ := hT i hi
    rw [Nat.zero_add]
    refine ⟨?_, ?_, ?_, fa, fc, ?_, e.wide (Nat.le_refl _) h1⟩
    all_goals rw [hc _ (by omega)]; assumption
theorem tyAt_append_left (l r : List Ty) (i : Nat) (h : i < l.length) : tyAt (l ++ r) i = tyAt l i := by
  simp [tyAt, List.getD, List.getElem?_append_left h]
theorem tyAt_append_one (l : List Ty) (t : Ty) : tyAt (l ++ [t]) l.length = t := by
  simp [tyAt, List.getD]
theorem take_snoc (g : List Ty) (j : Nat) (h : j < g.length) : g.take (j + 1) = g.take j ++ [tyAt g j] := by
  rw [List.take_succ_eq_append_getElem h]
  simp [tyAt, List.getD, List.getElem?_eq_getElem h]
theorem TypeRow.snoc {w w1 : World} {lo hi S cap cap' : Nat} {a a' : Option Addr} {ts : List Ty} {t : Ty} {fa : Option Addr} {fc : Nat} {xs : List Value}
    (hT : ∀ i, i < ts.length → TvAt w lo hi xs (i * 4) (tyAt ts i)) (hl : xs.length = ts.length * 4) (hf : FieldsIn w lo hi fa t.fields) (hb : Below hi w w1)
    (ho : w1.ownsRow S 76 4 (.slice a' (ts.length + 1) cap') (ts.length + 1) (xs ++ [.int .i64 t.kind, .int .i64 t.up, .bool t.last, .slice fa t.fields.length fc])) :
    TypeRow w1 lo hi S a' cap' (ts ++ [t]) := by
  refine ⟨_, by simpa using ho, fun i hi => ?_⟩
  by_cases e : i < ts.length
  · rw [tyAt_append_left _ _ _ e]
    exact ((hT i e).append _).keep hb
  · have : i = ts.length := by simp at hi; omega
    subst this
    rw [tyAt_append_one]
    exact TvAt.here xs t (hf.keep hb) _ hl
theorem below_from {B hi : Nat} {w a b : World} (ha : Below B w a) (hb : Below B w b) (h : hi ≤ B) (hs : a.heap.size ≤ b.heap.size := by assumption) : Below hi a b :=
  ⟨hb.os.trans ha.os.symm, hb.tape.trans ha.tape.symm, hb.output.trans ha.output.symm, hs, fun k hk => (hb.block k (by omega)).trans (ha.block k (by omega)).symm⟩
theorem flat_take_all (G : Nat → List Ty) (k : Nat) : flatTo G k ++ (G k).take (G k).length = flatTo G (k + 1) := by simp [flatTo]
set_option maxHeartbeats 800000 in
set_option maxRecDepth 100000 in
theorem l1Flat_core (a : Option Addr) (cap n lo hi : Nat) (G : Nat → List Ty) (w : World) (hn : n ≤ 1048576) (hm : ∀ i, i < n → (G i).length ≤ 1048576) (hh : hi ≤ w.heap.size)
    (hx : n ≤ 0 ∨ ∃ b off, a = some ⟨b, off, none⟩ ∧ lo ≤ b ∧ b < hi ∧ ∀ i, i < n → GroupAt w lo hi b (off + i) (G i)) :
    Calls Tryz.prog 30 #[.slice a n cap] w fun e w' => ∃ na nc, e = .returned (.slice na (countTo G n) nc) ∧ TypeRow w' lo hi w.heap.size na nc (flatTo G n) ∧ Below w.heap.size w w' := by
  have HM := hide hm
  clear hm
  obtain ⟨i0, hi0, hzz⟩ := Option.map_eq_some_iff.1 Tryz.infoType
  simp only [Prod.mk.injEq] at hzz
  obtain ⟨hz0, hs0, hb0⟩ := hzz
  have HZ := hide hz0
  have HS := hide hs0
  have HB := hide hb0
  have HI := hide hi0
  clear hz0 hs0 hb0 hi0
  rcases hx with h0 | ⟨b, off, rfl, h1, h2, h3⟩
  all_goals
    go_enter Tryz.func30, Tryz.ntmps30
    go_wp2_with fail
    go_loopw [3, 4] (fun v i wr => ∃ (k : Nat) (ra : Option Addr) (rc : Nat), k ≤ n ∧ i = .int .i64 k ∧ v = .slice ra (countTo G k) rc ∧ TypeRow wr lo hi w.heap.size ra rc (flatTo G k) ∧ Below w.heap.size w wr) (fun v i wr => n - (intOf i).toNat)
    case atStart =>
      refine ⟨0, _, _, Nat.zero_le _, rfl, rfl, ⟨[], ⟨rfl, .inr ⟨w.heap.size, 0, #[], rfl, Nat.le_refl _, Deep.blk_alloc_new _ _, Nat.le_refl _, Nat.zero_le _, rfl, rfl⟩⟩, fun i hi => absurd hi (Nat.not_lt_zero _)⟩, (Below.refl _ _).alloc (Nat.le_refl _) _⟩
    case round =>
      obtain ⟨k, ra, rc, hk, rfl, rfl, hT, hb⟩ := hrel
      have HT := hide hT
      clear hT
      by_cases hkn : k < n
      · first
        | (exfalso; omega)
        | (obtain ⟨ta, tc, c3, c4⟩ := h3 k hkn
           have q2 := HM.out k hkn
           have q3 := countTo_le G n HM.out k hk
           have h2' := Nat.lt_of_lt_of_le h2 hh
           clear h3
           go_wp2_with fail
           go_loopw [3, 5] (fun v i wi => ∃ (j : Nat) (ra : Option Addr) (rc : Nat), j ≤ (G k).length ∧ i = .int .i64 j ∧ v = .slice ra (countTo G k + j) rc ∧ TypeRow wi lo hi w.heap.size ra rc (flatTo G k ++ (G k).take j) ∧ Below w.heap.size w wi) (fun v i wi => (G k).length - (intOf i).toNat)
           case atStart => exact ⟨0, ra, rc, Nat.zero_le _, rfl, rfl, by simpa using HT.out, hb⟩
           case round =>
             clear HT hb
             obtain ⟨j, ra, rc, hj, rfl, rfl, hT, hb⟩ := hrel
             have d3 : wr.cell? ⟨b, off + k, none⟩ = some (.slice ta (G k).length tc) := by rw [hb.cell (by exact h2')]; exact c3
             by_cases hjn : j < (G k).length
             · rcases c4 with hnil | ⟨b2, off2, rfl, g1, g2, g3⟩
               · rw [hnil] at hjn; exact absurd hjn (Nat.not_lt_zero _)
               obtain ⟨e0, e1, e2, fa, fc, e3, e4⟩ := (g3 j hjn).keep (hb.mono hh) g1 g2
               have E4 := hide e4
               obtain ⟨xs, hown, hTv⟩ := hT
               have hlen : (flatTo G k ++ (G k).take j).length = countTo G k + j := by simp [flatTo_length]; omega
               have hxl := hown.1
               have HTv := hide hTv
               have HXL := hide hxl
               have HLE := hide hlen
               rw [hlen] at hown
               have HO := hide hown
               have hs := hb.size
               clear hown hTv hxl e4 g3 hlen
               go_wp2_with (first | (at_builtin; refine wpList_append_lies _ rfl _ _ 45 rfl w.heap.size 76 i0 _ 4 48 Tryz.underlying45 HI.out HZ.out HS.out HB.out rfl (by decide) _ _ xs rfl (HO.out.alloc _) ⟨wr.heap.size, 0, none⟩ 1 1 [.int .i64 (tyAt (G k) j).kind, .int .i64 (tyAt (G k) j).up, .bool (tyAt (G k) j).last, .slice fa (tyAt (G k) j).fields.length fc] rfl rfl ?c1 ?c2 (by decide) ?c3 ?c4 ?c5 _ rfl ?_))
               case c1 => exact World.news_of_block (Deep.blk_alloc_new _ _)
               case c2 => intro u hu; simp at hu; rcases hu with rfl | rfl | rfl | rfl <;> rfl
               case c3 => unfold maxLen; omega
               case c4 => omega
               case c5 => simp; omega
               intro g cap' w1 hown1 hgr hat hlt1
               have hb1 : Below w.heap.size w w1 := (hb.alloc hs _).grown hgr (by simp; omega) (owns_base HO.out)
               have HB1 := hide hb1
               have HO1 := hide hown1
               have hs1 : wr.heap.size ≤ w1.heap.size := by have := hgr.size; simp at this; omega
               clear hgr hat hown1
               go_wp2_with fail
               refine ⟨⟨j + 1, _, cap', by omega, by go_num, rfl, ?_, HB1.out⟩, by simp [intOf]; omega⟩
               rw [take_snoc _ _ hjn, ← List.append_assoc]
               have ho := HO1.out
               rw [← HLE.out] at ho
               exact TypeRow.snoc (a := ra) (cap := rc) HTv.out HXL.out E4.out (below_from hb HB1.out hh) ho
             · have hje : Hid (j = (G k).length) := Nat.le_antisymm hj (Nat.le_of_not_lt hjn)
               have HT := hide hT
               clear hT
               go_wp2_with fail
               refine ⟨⟨k + 1, ra, rc, by omega, by go_num, ?_, ?_, hb⟩, by simp [intOf]; omega⟩
               · rw [hje.out]; simp [countTo]
               · have := HT.out; rw [hje.out, flat_take_all] at this; exact this)
      · have hkn' : Hid (k = n) := Nat.le_antisymm hk (Nat.le_of_not_lt hkn)
        go_wp2_with fail
        go_ret
        rw [hkn'.out] at HT ⊢
        exact ⟨ra, rc, rfl, HT.out, hb⟩
def flat (gs : List (List Ty)) : List Ty := flatTo (grAt gs) gs.length
theorem flat_length (gs : List (List Ty)) : (flat gs).length = kinCount gs := flatTo_length _ _
theorem l1Flat_any (a : Option Addr) (cap lo hi : Nat) (gs : List (List Ty)) (w : World) (hn : Few gs) (hx : GroupsIn w lo hi a gs) (hh : hi ≤ w.heap.size) (hl : lo ≤ hi) :
    Calls Tryz.prog 30 #[.slice a gs.length cap] w fun e w' => ∃ na nc, e = .returned (.slice na (kinCount gs) nc) ∧ TypesIn w' lo w'.heap.size na (flat gs) ∧ Below w.heap.size w w' := by
  refine (l1Flat_core a cap gs.length lo hi (grAt gs) w hn.1 (fun i hi => (hn.2 i hi).1) hh ?_).mono ?_
  · rcases hx with rfl | ⟨b, off, rfl, h1, h2, h3⟩
    · exact .inl (Nat.le_refl _)
    · exact .inr ⟨b, off, rfl, h1, h2, h3⟩
  · rintro e w' ⟨na, nc, rfl, hT, hb⟩
    exact ⟨na, nc, rfl, hT.types (Nat.le_trans hh hb.size) (by omega), hb⟩
theorem countTo_mono (G : Nat → List Ty) {i j : Nat} (h : i ≤ j) : countTo G i ≤ countTo G j := by
  induction j with
  | zero => have : i = 0 := by omega
            subst this; exact Nat.le_refl _
  | succ j ih =>
    by_cases e : i = j + 1
    · subst e; exact Nat.le_refl _
    · have := ih (by omega)
      simp only [countTo]
      omega
def grpFrom (G : Nat → List Ty) (a : Nat) : Nat → Nat → Nat
  | 0, k => k
  | f + 1, k => if a < countTo G (k + 1) then k else grpFrom G a f (k + 1)
def grp (gs : List (List Ty)) (a : Nat) : Nat := grpFrom (grAt gs) a gs.length 0
theorem grpFrom_spec (G : Nat → List Ty) (a : Nat) : ∀ f k, countTo G k ≤ a → a < countTo G (k + f) → grpFrom G a f k < k + f ∧ countTo G (grpFrom G a f k) ≤ a ∧ a < countTo G (grpFrom G a f k + 1) := by
  intro f
  induction f with
  | zero => intro k h1 h2; simp at h2; omega
  | succ f ih =>
    intro k h1 h2
    unfold grpFrom
    split
    · rename_i h; exact ⟨by omega, h1, h⟩
    · rename_i h
      have := ih (k + 1) (by omega) (by rw [show k + 1 + f = k + (f + 1) by omega]; exact h2)
      exact ⟨by omega, this.2.1, this.2.2⟩
theorem grp_spec (gs : List (List Ty)) (a : Nat) (h : a < kinCount gs) : grp gs a < gs.length ∧ countTo (grAt gs) (grp gs a) ≤ a ∧ a < countTo (grAt gs) (grp gs a + 1) := by
  have := grpFrom_spec (grAt gs) a gs.length 0 (Nat.zero_le _) (by simpa [kinCount] using h)
  simpa [grp] using this
theorem grp_uniq {G : Nat → List Ty} {a x y : Nat} (h1 : countTo G x ≤ a) (h2 : a < countTo G (x + 1)) (h3 : countTo G y ≤ a) (h4 : a < countTo G (y + 1)) : x = y := by
  rcases Nat.lt_trichotomy x y with h | h | h
  · have := countTo_mono G (show x + 1 ≤ y by omega); omega
  · exact h
  · have := countTo_mono G (show y + 1 ≤ x by omega); omega
set_option maxHeartbeats 400000 in
theorem l1Begin_any (a : Option Addr) (cap lo hi k : Nat) (gs : List (List Ty)) (w : World) (hn : Few gs) (hc : gs.length ≤ cap) (hk : k ≤ gs.length) (hx : GroupsIn w lo hi a gs) :
    Calls Tryz.prog 60 #[.slice a gs.length cap, .int .i64 (k : Int)] w fun e w' => e = .returned (.int .i64 (countTo (grAt gs) k : Nat)) ∧ w' = w := by
  have l1 := hn.1
  have HN := hide hn
  clear hn
  have hx' : k ≤ 0 ∨ ∃ b off, a = some ⟨b, off, none⟩ ∧ lo ≤ b ∧ b < hi ∧ ∀ i, i < k → GroupAt w lo hi b (off + i) (grAt gs i) := by
    rcases hx with rfl | ⟨b, off, rfl, h1, h2, h3⟩
    · exact .inl (by simpa using hk)
    · exact .inr ⟨b, off, rfl, h1, h2, fun i hi => h3 i (by omega)⟩
  have HX := hide hx'
  clear hx hx'
  rcases a with _ | ⟨ad⟩
  · have h0 : k ≤ 0 := by
      rcases HX.out with h | ⟨b, off, h, _⟩
      · exact h
      · cases h
    have hk0 : k = 0 := by omega
    subst hk0
    go_enter Tryz.func60, Tryz.ntmps60
    go_wp2_with fail
    refine (specKinCount_core none cap 0 lo hi (grAt gs) w (by omega) (fun i hi => (HN.out.2 i (by omega)).1) HX.out).mono ?_
    rintro e w1 ⟨rfl, rfl⟩
    go_wp2_with fail
    go_ret
    exact ⟨rfl, rfl⟩
  · go_enter Tryz.func60, Tryz.ntmps60
    go_wp2_with fail
    refine (specKinCount_core (some _) cap k lo hi (grAt gs) w (by omega) (fun i hi => (HN.out.2 i (by omega)).1) HX.out).mono ?_
    rintro e w1 ⟨rfl, rfl⟩
    go_wp2_with fail
    go_ret
    exact ⟨rfl, rfl⟩
set_option maxHeartbeats 400000 in
theorem l1Group_any (a : Option Addr) (cap lo hi m : Nat) (gs : List (List Ty)) (w : World) (hn : Few gs) (hm : m < kinCount gs) (hx : GroupsIn w lo hi a gs) :
    Calls Tryz.prog 96 #[.slice a gs.length cap, .int .i64 (m : Int)] w fun e w' => e = .returned (.int .i64 (grp gs m : Nat)) ∧ w' = w := by
  have l1 := hn.1
  have HN := hide hn
  clear hn
  have hg := hide (grp_spec gs m hm)
  rcases hx with rfl | ⟨b, off, rfl, h1, h2, h3⟩
  · simp [kinCount, countTo] at hm
  · have HM := hide hm
    clear hm
    go_enter Tryz.func96, Tryz.ntmps96
    go_wp2_with fail
    go_loop [5, 6] (fun c i => ∃ k : Nat, k ≤ gs.length ∧ i = .int .i64 k ∧ c = .int .i64 (countTo (grAt gs) k : Nat) ∧ countTo (grAt gs) k ≤ m) (fun c i => gs.length - (intOf i).toNat)
    case atStart => exact ⟨0, Nat.zero_le _, rfl, rfl, Nat.zero_le _⟩
    case round =>
      obtain ⟨k, hk, rfl, rfl, hc⟩ := hrel
      have q1 := countTo_le (grAt gs) gs.length (fun i hi => (HN.out.2 i hi).1) k hk
      by_cases hkn : k < gs.length
      · obtain ⟨ta, tc, c3, c4⟩ := h3 k hkn
        have q2 := (HN.out.2 k hkn).1
        have q3 : countTo (grAt gs) (k + 1) = countTo (grAt gs) k + (grAt gs k).length := rfl
        have Q3 := hide q3
        clear h3 c4 q3
        by_cases hlt : m < countTo (grAt gs) k + (grAt gs k).length
        · go_wp2_with fail
          go_ret
          have e : grp gs m = k := grp_uniq hg.out.2.1 hg.out.2.2 hc (by rw [Q3.out]; exact hlt)
          exact ⟨ret_int (by rw [e]), rfl⟩
        · go_wp2_with fail
          exact ⟨⟨k + 1, by omega, by go_num, by rw [Q3.out]; simp, by rw [Q3.out]; omega⟩, by simp [intOf]; omega⟩
      · exfalso
        have : k = gs.length := by omega
        subst this
        have := HM.out
        unfold kinCount at this
        omega
def allTo (p : Nat → Bool) : Nat → Bool
  | 0 => true
  | k + 1 => allTo p k && p k
def formOk (t : Ty) (me n : Int) : Bool :=
  ((decide (-1 ≤ t.up) && decide (t.up < me)) && decide (t.fields.length ≤ 4)) && ((decide (t.kind = 1) || (decide (t.kind = 2) && decide (t.fields.length = 1))) && allTo (fun i => fieldOk (fdAt t.fields i).kind (fdAt t.fields i).of n) t.fields.length)
theorem allTo_false {p : Nat → Bool} {k n : Nat} (hk : k < n) (h : p k = false) : allTo p n = false := by
  induction n with
  | zero => omega
  | succ n ih =>
    simp only [allTo]
    by_cases e : k = n
    · subst e; simp [h]
    · simp [ih (by omega)]
set_option maxHeartbeats 800000 in
theorem l1Form_core (fa : Option Addr) (fc lo hi : Nat) (tk tu : Int) (tl : Bool) (fs : List Fd) (me n : Int) (w : World) (hn : fs.length ≤ 1048576) (hx : FieldsIn w lo hi fa fs) (hh : hi ≤ w.heap.size) :
    Calls Tryz.prog 61 #[.agg #[.int .i64 tk, .int .i64 tu, .bool tl, .slice fa fs.length fc], .int .i64 me, .int .i64 n] w fun e w' => e = .returned (.bool (formOk ⟨tk, tu, tl, fs⟩ me n)) ∧ Below w.heap.size w w' := by
  by_cases h1 : -1 ≤ tu ∧ tu < me ∧ fs.length ≤ 4
  · by_cases h2 : tk = 1 ∨ (tk = 2 ∧ fs.length = 1)
    · have HF : Hid (formOk ⟨tk, tu, tl, fs⟩ me n = allTo (fun i => fieldOk (fdAt fs i).kind (fdAt fs i).of n) fs.length) := by
        show formOk ⟨tk, tu, tl, fs⟩ me n = _
        unfold formOk
        have e1 : (decide (tk = 1) || (decide (tk = 2) && decide (fs.length = 1))) = true := by simpa using h2
        simp only [e1]
        simp [h1.1, h1.2.1, h1.2.2]
      obtain ⟨u1, u2, u3⟩ := h1
      have hkind : (tk = 1 ∧ True) ∨ (tk = 2 ∧ 1 ≤ fs.length ∧ fs.length ≤ 1 ∧ ((fs.length : Int) != 1) = false) := by
        rcases h2 with h | ⟨h, h'⟩
        · exact .inl ⟨h, trivial⟩
        · exact .inr ⟨h, by omega, by omega, by simp [h']⟩
      clear h2
      have hx' := hide hx
      clear hx
      rcases hkind with ⟨rfl, _⟩ | ⟨rfl, hk3, hk4, hk5⟩
      all_goals
        go_enter Tryz.func61, Tryz.ntmps61
        go_wp2_with fail
        go_loopw [7] (fun i wr => ∃ j : Nat, j ≤ fs.length ∧ i = .int .i64 j ∧ allTo (fun i => fieldOk (fdAt fs i).kind (fdAt fs i).of n) j = true ∧ Below w.heap.size w wr ∧ wr.cell? ⟨w.heap.size, 3, none⟩ = some (.slice fa fs.length fc)) (fun i wr => fs.length - (intOf i).toNat)
        case atStart => exact ⟨0, Nat.zero_le _, rfl, rfl, (Below.refl _ _).alloc (Nat.le_refl _) _, by simp⟩
        case round =>
          obtain ⟨j, hj, rfl, hA, hb, c3⟩ := hrel
          have HA := hide hA
          have HW := hide hb
          have s1 : w.heap.size < wr.heap.size := cell_lt c3
          clear hA hb
          by_cases hjn : j < fs.length
          · rcases hx'.out with hnil | ⟨b, off, rfl, g1, g2, g3⟩
            · rw [hnil] at hjn; exact absurd hjn (Nat.not_lt_zero _)
            obtain ⟨d0, d1, d2⟩ := (g3 j hjn).same (lo := lo) (hi := hi) (.of_below HW.out hh) g1 g2
            clear g3
            go_wp2_with fail
            refine (specFieldOk_any _ _ _ _ _).mono ?_
            rintro e w1 ⟨rfl, hb1⟩
            have HB1 := hide hb1
            have c3' : w1.cell? ⟨w.heap.size, 3, none⟩ = some (.slice (some ⟨b, off, none⟩) fs.length fc) := by rw [hb1.cell (by exact s1)]; exact c3
            have C3 := hide c3'
            clear hb1 c3'
            cases hfo : fieldOk (fdAt fs j).kind (fdAt fs j).of n with
            | true =>
              have HO := hide hfo
              clear hfo
              go_wp2_with fail
              have ha : allTo (fun i => fieldOk (fdAt fs i).kind (fdAt fs i).of n) (j + 1) = true := by simp only [allTo, HA.out, HO.out, Bool.and_self]
              have hw1 := HW.out.trans (HB1.out.mono (Nat.le_of_lt s1))
              first
              | exact ⟨⟨j + 1, by omega, by go_num, ha, hw1, C3.out⟩, by simp [intOf]; omega⟩
              | (go_roundw
                 case rel => exact ⟨j + 1, by omega, by go_num, ha, hw1, C3.out⟩
                 case measure => simp [intOf]; omega)
            | false =>
              have HO := hide hfo
              clear hfo
              go_wp2_with fail
              go_ret
              exact ⟨ret_bool (by rw [HF.out]; exact (allTo_false hjn HO.out).symm), HW.out.trans (HB1.out.mono (by omega))⟩
          · have hje : Hid (j = fs.length) := Nat.le_antisymm hj (Nat.le_of_not_lt hjn)
            go_wp2_with fail
            go_ret
            exact ⟨ret_bool (by rw [HF.out, ← hje.out]; exact HA.out.symm), HW.out⟩
    · have HF : Hid (formOk ⟨tk, tu, tl, fs⟩ me n = false) := by
        show formOk ⟨tk, tu, tl, fs⟩ me n = false
        unfold formOk
        simp
        intro _ _ _ h
        exact absurd (by rcases h with h | h; exact .inl h; exact .inr h) h2
      obtain ⟨u1, u2, u3⟩ := h1
      have hout : (tk < 1) ∨ (2 < tk) ∨ (tk = 2 ∧ fs.length < 1) ∨ (tk = 2 ∧ 1 < fs.length) := by
        have e1 : tk ≠ 1 := fun e => h2 (.inl e)
        by_cases e2 : tk = 2
        · have : fs.length ≠ 1 := fun e => h2 (.inr ⟨e2, e⟩)
          omega
        · omega
      clear h2
      rcases hout with hk2 | hk2 | ⟨rfl, hk4⟩ | ⟨rfl, hk4⟩
      all_goals
        go_enter Tryz.func61, Tryz.ntmps61
        go_wp2_with fail
        go_ret
        exact ⟨ret_bool HF.out.symm, (Below.refl _ _).alloc (Nat.le_refl _) _⟩
  · have HF : Hid (formOk ⟨tk, tu, tl, fs⟩ me n = false) := by
      show formOk ⟨tk, tu, tl, fs⟩ me n = false
      unfold formOk
      simp
      intro a b c
      exact absurd ⟨a, b, c⟩ h1
    have hout : tu < -1 ∨ (-1 ≤ tu ∧ me ≤ tu) ∨ (-1 ≤ tu ∧ tu < me ∧ 4 < fs.length) := by omega
    rcases hout with ho | ⟨ho1, ho2⟩ | ⟨ho1, ho2, ho3⟩
    all_goals
      go_enter Tryz.func61, Tryz.ntmps61
      go_wp2_with fail
      go_ret
      exact ⟨ret_bool HF.out.symm, (Below.refl _ _).alloc (Nat.le_refl _) _⟩
theorem l1Form_any (fa : Option Addr) (fc lo hi : Nat) (t : Ty) (me n : Int) (w : World) (hn : t.fields.length ≤ 1048576) (hx : FieldsIn w lo hi fa t.fields) (hh : hi ≤ w.heap.size) :
    Calls Tryz.prog 61 #[.agg #[.int .i64 t.kind, .int .i64 t.up, .bool t.last, .slice fa t.fields.length fc], .int .i64 me, .int .i64 n] w fun e w' => e = .returned (.bool (formOk t me n)) ∧ Below w.heap.size w w' :=
  l1Form_core fa fc lo hi t.kind t.up t.last t.fields me n w hn hx hh
def Parts (gs : List (List Ty)) : Prop := gs.length ≤ 4 ∧ kinCount gs ≤ 8 ∧ ∀ x, x < gs.length → 0 < (grAt gs x).length ∧ ∀ i, i < (grAt gs x).length →
 formOk (tyAt (grAt gs x) i) ((countTo (grAt gs) x + i : Nat) : Int) ((countTo (grAt gs) x + (grAt gs x).length : Nat) : Int) = true
def PartsW (gs : List (List Ty)) : Prop := kinCount gs ≤ 8 ∧ ∀ x, x < gs.length → ∀ i, i < (grAt gs x).length →
 (tyAt (grAt gs x) i).fields.length ≤ 4 ∧ (-1 ≤ (tyAt (grAt gs x) i).up ∧ (tyAt (grAt gs x) i).up < ((countTo (grAt gs) x + i : Nat) : Int)) ∧ ∀ j, j < (tyAt (grAt gs x) i).fields.length → -2 ≤ (fdAt (tyAt (grAt gs x) i).fields j).of ∧ (fdAt (tyAt (grAt gs x) i).fields j).of ≤ 1000
def beg (gs : List (List Ty)) (x : Nat) : Nat := countTo (grAt gs) x
def matchF (S : Nat → Nat → Bool) (gs : List (List Ty)) (a b : Int) (x y : Nat) : Bool :=
 if a < 0 ∨ b < 0 then a == b
 else if (beg gs x : Int) ≤ a ∧ (beg gs y : Int) ≤ b then a - (beg gs x : Int) == b - (beg gs y : Int)
 else (decide (a < (beg gs x : Int)) && decide (b < (beg gs y : Int))) && S a.toNat b.toNat
theorem beg_le {gs : List (List Ty)} {x : Nat} (h : x ≤ gs.length) : beg gs x ≤ kinCount gs := countTo_mono (grAt gs) h
def SameSaid (ga : Option Addr) (gc lo hi : Nat) (gs : List (List Ty)) (S : Nat → Nat → Bool) (B : Nat) : Prop :=
 ∀ p q, p < B → q < kinCount gs → ∀ w : World, hi ≤ w.heap.size → GroupsIn w lo hi ga gs →
  Calls Tryz.prog 67 #[.slice ga gs.length gc, .int .i64 (p : Int), .int .i64 (q : Int)] w fun e w' => e = .returned (.bool (S p q)) ∧ Below w.heap.size w w'
set_option maxHeartbeats 800000 in
theorem l1Match_any (ga : Option Addr) (gc lo hi : Nat) (gs : List (List Ty)) (S : Nat → Nat → Bool) (a b : Int) (x y : Nat) (w : World) (hP : PartsW gs) (hN : Few gs) (hc : gs.length ≤ gc) (hh : hi ≤ w.heap.size) (hx : GroupsIn w lo hi ga gs)
  (h1 : x < gs.length) (h2 : y < gs.length) (a0 : -2 ≤ a) (a1 : a ≤ 1000) (b0 : -2 ≤ b) (b1 : b ≤ 1000) (ih : SameSaid ga gc lo hi gs S (beg gs x)) :
  Calls Tryz.prog 109 #[.slice ga gs.length gc, .int .i64 a, .int .i64 b, .int .i64 (x : Int), .int .i64 (y : Int)] w fun e w' => e = .returned (.bool (matchF S gs a b x y)) ∧ Below w.heap.size w w' := by
 have m1 := beg_le (Nat.le_of_lt h1)
 have m2 := beg_le (Nat.le_of_lt h2)
 have m3 := hP.1
 have HX := hide hx
 have HN := hide hN
 clear hx hN hP
 by_cases ha : a < 0
 ·have HF : Hid (matchF S gs a b x y = (a == b)) := by show _ = _; unfold matchF; rw [if_pos (.inl ha)]
  go_enter Tryz.func109, Tryz.ntmps109
  go_wp2_with fail
  go_ret
  exact ⟨ret_bool HF.out.symm, Below.refl _ _⟩
 by_cases hb : b < 0
 ·have HF : Hid (matchF S gs a b x y = (a == b)) := by show _ = _; unfold matchF; rw [if_pos (.inr hb)]
  go_enter Tryz.func109, Tryz.ntmps109
  go_wp2_with fail
  go_ret
  exact ⟨ret_bool HF.out.symm, Below.refl _ _⟩
 obtain ⟨p, rfl⟩ := Int.eq_ofNat_of_zero_le (show 0 ≤ a by omega)
 obtain ⟨q, rfl⟩ := Int.eq_ofNat_of_zero_le (show 0 ≤ b by omega)
 have hne : ¬ ((p : Int) < 0 ∨ (q : Int) < 0) := by omega
 have HB1 := hide (l1Begin_any ga gc lo hi x gs w HN.out hc (Nat.le_of_lt h1) HX.out)
 have HB2 := hide (l1Begin_any ga gc lo hi y gs w HN.out hc (Nat.le_of_lt h2) HX.out)
 by_cases c1 : beg gs x ≤ p
 ·by_cases c2 : beg gs y ≤ q
  ·have HF : Hid (matchF S gs p q x y = ((p : Int) - (beg gs x : Int) == (q : Int) - (beg gs y : Int))) := by
    show _ = _; unfold matchF; rw [if_neg hne, if_pos ⟨by omega, by omega⟩]
   unfold beg at *
   go_enter Tryz.func109, Tryz.ntmps109
   go_wp2_with fail
   refine HB1.out.mono ?_
   rintro e w1 ⟨rfl, rfl⟩
   go_wp2_with fail
   refine HB2.out.mono ?_
   rintro e w1 ⟨rfl, rfl⟩
   go_wp2_with fail
   go_ret
   exact ⟨ret_bool HF.out.symm, Below.refl _ _⟩
  ·have HF : Hid (matchF S gs p q x y = false) := by
    show _ = _; unfold matchF; rw [if_neg hne, if_neg (by omega)]; simp; omega
   unfold beg at *
   go_enter Tryz.func109, Tryz.ntmps109
   go_wp2_with fail
   refine HB1.out.mono ?_
   rintro e w1 ⟨rfl, rfl⟩
   go_wp2_with fail
   refine HB2.out.mono ?_
   rintro e w1 ⟨rfl, rfl⟩
   go_wp2_with fail
   go_ret
   exact ⟨ret_bool HF.out.symm, Below.refl _ _⟩
 ·by_cases c2 : beg gs y ≤ q
  ·have HF : Hid (matchF S gs p q x y = false) := by
    show _ = _; unfold matchF; rw [if_neg hne, if_neg (by omega)]; simp; omega
   unfold beg at *
   go_enter Tryz.func109, Tryz.ntmps109
   go_wp2_with fail
   refine HB1.out.mono ?_
   rintro e w1 ⟨rfl, rfl⟩
   go_wp2_with fail
   refine HB2.out.mono ?_
   rintro e w1 ⟨rfl, rfl⟩
   go_wp2_with fail
   go_ret
   exact ⟨ret_bool HF.out.symm, Below.refl _ _⟩
  ·have HF : Hid (matchF S gs p q x y = S p q) := by
    show _ = _; unfold matchF; rw [if_neg hne, if_neg (by omega)]
    have e1 : decide ((p : Int) < (beg gs x : Int)) = true := by simp; omega
    have e2 : decide ((q : Int) < (beg gs y : Int)) = true := by simp; omega
    rw [e1, e2]; simp
   have HC := hide (ih p q (by omega) (by omega) w hh HX.out)
   unfold beg at *
   go_enter Tryz.func109, Tryz.ntmps109
   go_wp2_with fail
   refine HB1.out.mono ?_
   rintro e w1 ⟨rfl, rfl⟩
   go_wp2_with fail
   refine HB2.out.mono ?_
   rintro e w1 ⟨rfl, rfl⟩
   go_wp2_with fail
   refine HC.out.mono ?_
   rintro e w1 ⟨rfl, hb1⟩
   have HB := hide hb1
   clear hb1
   go_wp2_with fail
   go_ret
   exact ⟨ret_bool HF.out.symm, HB.out⟩
def fAlike (S : Nat → Nat → Bool) (gs : List (List Ty)) (f g : Fd) (x y : Nat) : Bool := ((f.kind == g.kind) && (f.mt == g.mt)) && ((f.kind == 1) || matchF S gs f.of g.of x y)
def alikeF (S : Nat → Nat → Bool) (gs : List (List Ty)) (s t : Ty) (x y : Nat) : Bool :=
 (((s.kind == t.kind) && (s.last == t.last)) && (s.fields.length == t.fields.length)) && (matchF S gs s.up t.up x y && allTo (fun i => fAlike S gs (fdAt s.fields i) (fdAt t.fields i) x y) s.fields.length)
def FsAt (w : World) (lo hi : Nat) (a : Option Addr) (n : Nat) (F : Nat → Fd) : Prop :=
 n ≤ 0 ∨ ∃ b off, a = some ⟨b, off, none⟩ ∧ lo ≤ b ∧ b < hi ∧ ∀ i, i < n → FieldAt w b (off + i * 3) (F i)
theorem FieldsIn.fsAt {w : World} {lo hi : Nat} {a : Option Addr} {fs : List Fd} (h : FieldsIn w lo hi a fs) : FsAt w lo hi a fs.length (fdAt fs) := by
 rcases h with rfl | ⟨b, off, h1, h2, h3, h4⟩
 ·exact .inl (Nat.le_refl _)
 ·exact .inr ⟨b, off, h1, h2, h3, h4⟩
set_option maxHeartbeats 1600000 in
set_option maxRecDepth 100000 in
theorem l1Alike_loop (ga : Option Addr) (gc lo hi : Nat) (gs : List (List Ty)) (S : Nat → Nat → Bool) (k u v : Int) (l : Bool) (fa fb : Option Addr) (fc fd n : Nat) (F H : Nat → Fd) (x y : Nat) (w : World) (hP : PartsW gs) (hN : Few gs) (hc : gs.length ≤ gc) (hh : hi ≤ w.heap.size) (hx : GroupsIn w lo hi ga gs)
  (h1 : x < gs.length) (h2 : y < gs.length) (hn : n ≤ 4) (u0 : -2 ≤ u) (u1 : u ≤ 1000) (v0 : -2 ≤ v) (v1 : v ≤ 1000) (hF : ∀ i, i < n → -2 ≤ (F i).of ∧ (F i).of ≤ 1000) (hH : ∀ i, i < n → -2 ≤ (H i).of ∧ (H i).of ≤ 1000) (ff : FsAt w lo hi fa n F) (fh : FsAt w lo hi fb n H) (ih : SameSaid ga gc lo hi gs S (beg gs x)) :
  Calls Tryz.prog 97 #[.slice ga gs.length gc, .agg #[.int .i64 k, .int .i64 u, .bool l, .slice fa n fc], .agg #[.int .i64 k, .int .i64 v, .bool l, .slice fb n fd], .int .i64 (x : Int), .int .i64 (y : Int)] w
   fun e w' => e = .returned (.bool (matchF S gs u v x y && allTo (fun i => fAlike S gs (F i) (H i) x y) n)) ∧ Below w.heap.size w w' := by
 have HX := hide hx
 have HN := hide hN
 have HP := hide hP
 have HF := hide hF
 have HH := hide hH
 have FF := hide ff
 have FH := hide fh
 have IH := hide ih
 clear hx hN hP hF hH ff fh ih
 have b0 : Below w.heap.size w ((w.alloc (.cells #[.int .i64 k, .int .i64 u, .bool l, .slice fa n fc] 76)).alloc (.cells #[.int .i64 k, .int .i64 v, .bool l, .slice fb n fd] 76)) := ((Below.refl _ _).alloc (Nat.le_refl _) _).alloc (by simp) _
 have B0 := hide b0
 clear b0
 go_enter Tryz.func97, Tryz.ntmps97
 go_wp2_with fail
 refine (l1Match_any ga gc lo hi gs S u v x y _ HP.out HN.out hc (Nat.le_trans hh B0.out.size) (HX.out.keep (B0.out.mono hh)) h1 h2 u0 u1 v0 v1 IH.out).mono ?_
 rintro e w1 ⟨rfl, hb1⟩
 obtain ⟨hc1, hf1⟩ := bcell hb1
 have hs1 := hb1.size
 simp only [World.size_alloc] at hc1 hs1
 have c3 : w1.cell? ⟨w.heap.size, 3, none⟩ = some (.slice fa n fc) := by rw [hc1 _ _ (by omega)]; simp
 have c4 : w1.cell? ⟨w.heap.size + 1, 3, none⟩ = some (.slice fb n fd) := by rw [hc1 _ _ (by omega)]; simp
 have B1 := hide (B0.out.trans (hb1.mono (by simp; omega)))
 clear hc1 hf1 hb1
 cases hm : matchF S gs u v x y with
 | false =>
  have HM := hide hm
  clear hm
  go_wp2_with fail
  go_ret
  exact ⟨ret_bool (by rw [HM.out]; simp), B1.out⟩
 | true =>
  have HM := hide hm
  clear hm
  go_wp2_with fail
  go_loopw [11] (fun i wr => ∃ j : Nat, j ≤ n ∧ i = .int .i64 j ∧ allTo (fun i => fAlike S gs (F i) (H i) x y) j = true ∧ Below w.heap.size w wr ∧ wr.cell? ⟨w.heap.size, 3, none⟩ = some (.slice fa n fc) ∧ wr.cell? ⟨w.heap.size + 1, 3, none⟩ = some (.slice fb n fd)) (fun i wr => n - (intOf i).toNat)
  case atStart => exact ⟨0, Nat.zero_le _, rfl, rfl, B1.out, c3, c4⟩
  case round =>
   clear c3 c4 B1
   obtain ⟨j, hj, rfl, hA, hb, c3, c4⟩ := hrel
   have HA := hide hA
   have HB := hide hb
   have s1 : w.heap.size + 1 < wr.heap.size := cell_lt c4
   clear hA hb
   by_cases hjn : j < n
   ·rcases FF.out with h0 | ⟨b, off, rfl, g1, g2, g3⟩
    ·omega
    rcases FH.out with h0 | ⟨b', off', rfl, g1', g2', g3'⟩
    ·omega
    obtain ⟨d0, d1, d2⟩ := (g3 j hjn).same (lo := lo) (hi := hi) (.of_below HB.out hh) g1 g2
    obtain ⟨e0, e1, e2⟩ := (g3' j hjn).same (lo := lo) (hi := hi) (.of_below HB.out hh) g1' g2'
    have o1 := HF.out j hjn
    have o2 := HH.out j hjn
    have HA1 : Hid (allTo (fun i => fAlike S gs (F i) (H i) x y) (j + 1) = fAlike S gs (F j) (H j) x y) := by
     show (allTo (fun i => fAlike S gs (F i) (H i) x y) j && fAlike S gs (F j) (H j) x y) = _
     rw [HA.out]; simp
    have HA2 : Hid (fAlike S gs (F j) (H j) x y = false → allTo (fun i => fAlike S gs (F i) (H i) x y) n = false) := fun h => allTo_false hjn h
    clear g3 g3'
    generalize F j = f at *
    generalize H j = g at *
    obtain ⟨fk, fo, fm⟩ := f
    obtain ⟨gk, go, gm⟩ := g
    simp only at d0 d1 d2 e0 e1 e2 o1 o2
    by_cases ek : fk = gk
    ·subst ek
     have k1 : (0 : Int) ≤ (j : Int) := by omega
     have k2 : (j : Int) < (n : Int) := by omega
     have HW : Hid (fm ≠ gm → fAlike S gs ⟨fk, fo, fm⟩ ⟨fk, go, gm⟩ x y = false) := fun h => by simp [fAlike, h]
     have HV : Hid (fm = gm → fAlike S gs ⟨fk, fo, fm⟩ ⟨fk, go, gm⟩ x y = ((fk == 1) || matchF S gs fo go x y)) := fun h => by simp [fAlike, h]
     cases fm <;> cases gm
     case false.true | true.false =>
      go_wp2_with fail
      go_quiet (fail)
      go_wp2_with fail
      go_ret
      exact ⟨ret_bool (by rw [HA2.out (HW.out (by decide))]; simp), below_drewN HB.out _⟩
     all_goals
      by_cases hk1 : fk = 1
      ·subst hk1
       have HA3 := hide (HA1.out.trans (HV.out rfl))
       go_wp2_with fail
       go_quiet (fail)
       go_wp2_with fail
       go_quiet (fail)
       go_wp2_with fail
       exact ⟨⟨j + 1, by omega, by go_num, by rw [HA3.out]; simp, below_drewN HB.out _, c3, c4⟩, by simp [intOf]; omega⟩
      ·have hk2 : (fk != 1) = true := by simp [hk1]
       have hk3 : (fk == 1) = false := by simp [hk1]
       have hs2 : hi ≤ wr.heap.size := by omega
       have HA3 : Hid (allTo (fun i => fAlike S gs (F i) (H i) x y) (j + 1) = matchF S gs fo go x y) := by
        show _ = _
        rw [HA1.out, HV.out rfl, hk3]; simp
       have HA4 : Hid (matchF S gs fo go x y = false → allTo (fun i => fAlike S gs (F i) (H i) x y) n = false) := fun h => HA2.out (by rw [HV.out rfl, hk3, h]; rfl)
       obtain ⟨o11, o12⟩ := o1
       obtain ⟨o21, o22⟩ := o2
       go_wp2_with fail
       go_quiet (fail)
       go_wp2_with fail
       go_region_held3 (fun w' => w'.cell? ⟨w.heap.size, 3, none⟩ = some (.slice (some ⟨b, off, none⟩) n fc) ∧ w'.cell? ⟨w.heap.size + 1, 3, none⟩ = some (.slice (some ⟨b', off', none⟩) n fd) ∧ w'.cell? ⟨b, off + j * 3, none⟩ = some (.int .i64 fk) ∧ w'.cell? ⟨b, off + j * 3 + 1, none⟩ = some (.int .i64 fo) ∧ w'.cell? ⟨b', off' + j * 3 + 1, none⟩ = some (.int .i64 go)) (go_keep)
        ((go_at_call 109; refine (l1Match_any ga gc lo hi gs S fo go x y _ HP.out HN.out hc (by exact hs2) (by exact HX.out.keep (below_drewN (HB.out.mono hh) _)) h1 h2 o11 o12 o21 o22 IH.out).mono ?_; rintro e w2 ⟨rfl, hb2⟩; have q1 : ∀ o, w2.cell? ⟨w.heap.size, o, none⟩ = wr.cell? ⟨w.heap.size, o, none⟩ := fun o => hb2.cell (Nat.lt_of_succ_lt s1); have q2 : ∀ o, w2.cell? ⟨w.heap.size + 1, o, none⟩ = wr.cell? ⟨w.heap.size + 1, o, none⟩ := fun o => hb2.cell s1; have q3 : ∀ o, w2.cell? ⟨b, o, none⟩ = wr.cell? ⟨b, o, none⟩ := fun o => hb2.cell (Nat.lt_of_lt_of_le g2 hs2); have q4 : ∀ o, w2.cell? ⟨b', o, none⟩ = wr.cell? ⟨b', o, none⟩ := fun o => hb2.cell (Nat.lt_of_lt_of_le g2' hs2)))
       have C3 := hide ((q1 3).trans c3)
       have C4 := hide ((q2 3).trans c4)
       have HB2 := hide ((below_drewN HB.out nq).trans ((Below.refl _ _).drew.trans (hb2.mono (by exact Nat.le_of_lt (Nat.lt_of_succ_lt s1)))))
       clear q1 q2 q3 q4 hb2
       cases hmm : matchF S gs fo go x y with
       | true =>
        have HMM := hide hmm
        clear hmm
        go_wp2_with fail
        exact ⟨⟨j + 1, by omega, by go_num, by rw [HA3.out]; exact HMM.out, HB2.out, C3.out, C4.out⟩, by simp [intOf]; omega⟩
       | false =>
        have HMM := hide hmm
        clear hmm
        go_wp2_with fail
        go_ret
        exact ⟨ret_bool (by rw [HA4.out HMM.out]; simp), HB2.out⟩
    ·have HW : Hid (fAlike S gs ⟨fk, fo, fm⟩ ⟨gk, go, gm⟩ x y = false) := by show _ = _; simp [fAlike, ek]
     have hk2 : (fk != gk) = true := by simp [ek]
     have k1 : (0 : Int) ≤ (j : Int) := by omega
     have k2 : (j : Int) < (n : Int) := by omega
     go_wp2_with fail
     go_quiet (fail)
     go_wp2_with fail
     go_ret
     exact ⟨ret_bool (by rw [HA2.out HW.out]; simp), below_drewN HB.out _⟩
   ·have hje : Hid (j = n) := Nat.le_antisymm hj (Nat.le_of_not_lt hjn)
    go_wp2_with fail
    go_ret
    exact ⟨ret_bool (by rw [HM.out, ← hje.out, HA.out]; simp), HB.out⟩
set_option maxHeartbeats 800000 in
set_option maxRecDepth 100000 in
theorem l1Alike_short (ga : Option Addr) (gc : Nat) (gs : List (List Ty)) (sk tk u v : Int) (sl tl : Bool) (fa fb : Option Addr) (fc fd n m : Nat) (x y : Nat) (w : World) (hn : n ≤ 4) (hm : m ≤ 4) (h : sk ≠ tk ∨ (sk = tk ∧ sl ≠ tl) ∨ (sk = tk ∧ sl = tl ∧ n ≠ m)) :
  Calls Tryz.prog 97 #[.slice ga gs.length gc, .agg #[.int .i64 sk, .int .i64 u, .bool sl, .slice fa n fc], .agg #[.int .i64 tk, .int .i64 v, .bool tl, .slice fb m fd], .int .i64 (x : Int), .int .i64 (y : Int)] w
   fun e w' => e = .returned (.bool false) ∧ Below w.heap.size w w' := by
 rcases h with h | ⟨rfl, h⟩ | ⟨rfl, rfl, h⟩
 ·have hk2 : (sk != tk) = true := by simp [h]
  go_enter Tryz.func97, Tryz.ntmps97
  go_wp2_with fail
  go_ret
  exact ⟨rfl, ((Below.refl _ _).alloc (Nat.le_refl _) _).alloc (by simp) _⟩
 ·cases sl <;> cases tl
  case false.false | true.true => exact absurd rfl h
  all_goals
   go_enter Tryz.func97, Tryz.ntmps97
   go_wp2_with fail
   go_ret
   exact ⟨rfl, ((Below.refl _ _).alloc (Nat.le_refl _) _).alloc (by simp) _⟩
 ·have hlt : n < m ∨ m < n := by omega
  clear h
  rcases hlt with h | h
  all_goals
   go_enter Tryz.func97, Tryz.ntmps97
   go_wp2_with fail
   go_ret
   exact ⟨rfl, ((Below.refl _ _).alloc (Nat.le_refl _) _).alloc (by simp) _⟩
theorem l1Alike_any (ga : Option Addr) (gc lo hi : Nat) (gs : List (List Ty)) (S : Nat → Nat → Bool) (s t : Ty) (fa fb : Option Addr) (fc fd x y : Nat) (w : World) (hP : PartsW gs) (hN : Few gs) (hc : gs.length ≤ gc) (hh : hi ≤ w.heap.size) (hx : GroupsIn w lo hi ga gs)
  (h1 : x < gs.length) (h2 : y < gs.length) (ls : s.fields.length ≤ 4) (lt : t.fields.length ≤ 4) (u0 : -2 ≤ s.up ∧ s.up ≤ 1000) (v0 : -2 ≤ t.up ∧ t.up ≤ 1000) (hF : ∀ i, i < s.fields.length → -2 ≤ (fdAt s.fields i).of ∧ (fdAt s.fields i).of ≤ 1000) (hH : ∀ i, i < t.fields.length → -2 ≤ (fdAt t.fields i).of ∧ (fdAt t.fields i).of ≤ 1000)
  (ff : FieldsIn w lo hi fa s.fields) (fh : FieldsIn w lo hi fb t.fields) (ih : SameSaid ga gc lo hi gs S (beg gs x)) :
  Calls Tryz.prog 97 #[.slice ga gs.length gc, .agg #[.int .i64 s.kind, .int .i64 s.up, .bool s.last, .slice fa s.fields.length fc], .agg #[.int .i64 t.kind, .int .i64 t.up, .bool t.last, .slice fb t.fields.length fd], .int .i64 (x : Int), .int .i64 (y : Int)] w
   fun e w' => e = .returned (.bool (alikeF S gs s t x y)) ∧ Below w.heap.size w w' := by
 by_cases e : s.kind = t.kind ∧ s.last = t.last ∧ s.fields.length = t.fields.length
 ·obtain ⟨e1, e2, e3⟩ := e
  have hA : alikeF S gs s t x y = (matchF S gs s.up t.up x y && allTo (fun i => fAlike S gs (fdAt s.fields i) (fdAt t.fields i) x y) s.fields.length) := by
   simp [alikeF, e1, e2, e3]
  rw [hA, ← e1, ← e2, ← e3]
  exact l1Alike_loop ga gc lo hi gs S s.kind s.up t.up s.last fa fb fc fd s.fields.length (fdAt s.fields) (fdAt t.fields) x y w hP hN hc hh hx h1 h2 ls u0.1 u0.2 v0.1 v0.2 hF (fun i hi => hH i (by omega)) ff.fsAt (e3 ▸ fh.fsAt) ih
 ·have hA : alikeF S gs s t x y = false := by
   by_cases e1 : s.kind = t.kind
   ·by_cases e2 : s.last = t.last
    ·have e3 : s.fields.length ≠ t.fields.length := fun h => e ⟨e1, e2, h⟩
     simp [alikeF, e3]
    ·simp [alikeF, e2]
   ·simp [alikeF, e1]
  rw [hA]
  refine l1Alike_short ga gc gs s.kind t.kind s.up t.up s.last t.last fa fb fc fd _ _ x y w ls lt ?_
  by_cases e1 : s.kind = t.kind
  ·by_cases e2 : s.last = t.last
   ·exact .inr (.inr ⟨e1, e2, fun h => e ⟨e1, e2, h⟩⟩)
   ·exact .inr (.inl ⟨e1, e2⟩)
  ·exact .inl e1
end Go.Proofs.YtembifoimiochaaGreatDoor
