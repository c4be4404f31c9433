/- kinFlat of the program: all types in one table, each with where its group begins and ends. -/
import Derived.Test.YtblliefejffhoaaGreatDoorFlat
namespace Go.Proofs.YtblliefejffhoaaGreatDoor
open Go.ChangeShapes Go.WideShapes Go.ChangeAt Go.RowKit
set_option linter.unusedVariables false

structure Kr where
  t : Ty
  b : Nat
  e : Nat

def krAt (l : List Kr) (i : Nat) : Kr := l.getD i ⟨⟨0, 0, false, []⟩, 0, 0⟩

/-- The table's rows of the first k groups. -/
def rowsTo (G : Nat → List Ty) : Nat → List Kr
  | 0 => []
  | k + 1 => rowsTo G k ++ (G k).map fun t => ⟨t, countTo G k, countTo G k + (G k).length⟩

theorem rowsTo_length (G : Nat → List Ty) (k : Nat) : (rowsTo G k).length = countTo G k := by
  induction k with
  | zero => rfl
  | succ k ih => simp [rowsTo, countTo, ih]

theorem Tryz.infoRow : (Tryz.prog.info? 139).map (fun i => (i.zero, i.size, i.bytes)) = some (some (.agg #[.int .i64 0, .int .i64 0, .bool false, .slice none 0 0, .int .i64 0, .int .i64 0]), 6, 64) := by kernel_rfl

/-- A row's six cells lie in a list of cells from o on. -/
def KvAt (w : World) (lo hi : Nat) (xs : List Value) (o : Nat) (r : Kr) : Prop :=
  TvAt w lo hi xs o r.t ∧ xs[o + 4]? = some (.int .i64 (r.b : Nat)) ∧ xs[o + 5]? = some (.int .i64 (r.e : Nat))

theorem KvAt.append {w : World} {lo hi : Nat} {xs : List Value} {o : Nat} {r : Kr} (h : KvAt w lo hi xs o r) (ys : List Value) : KvAt w lo hi (xs ++ ys) o r := by
  obtain ⟨a, b, c⟩ := h
  have q : ∀ {k : Nat} {v : Value}, xs[k]? = some v → (xs ++ ys)[k]? = some v := fun {k v} hk => by
    have := (List.getElem?_eq_some_iff.1 hk).1
    rw [List.getElem?_append_left this]; exact hk
  exact ⟨a.append _, q b, q c⟩
theorem KvAt.keep {w w' : World} {lo hi : Nat} {xs : List Value} {o : Nat} {r : Kr} (h : KvAt w lo hi xs o r) (hb : Below hi w w') : KvAt w' lo hi xs o r := ⟨h.1.keep hb, h.2⟩
theorem KvAt.here {w : World} {lo hi : Nat} (xs : List Value) (r : Kr) {fa : Option Addr} {fc : Nat} (hf : FieldsIn w lo hi fa r.t.fields) (o : Nat) (ho : xs.length = o) :
    KvAt w lo hi (xs ++ [.int .i64 r.t.kind, .int .i64 r.t.up, .bool r.t.last, .slice fa r.t.fields.length fc, .int .i64 (r.b : Nat), .int .i64 (r.e : Nat)]) o r := by
  subst ho
  refine ⟨⟨?_, ?_, ?_, fa, fc, ?_, hf⟩, ?_, ?_⟩ <;> simp

def RowRow (w : World) (lo hi S : Nat) (a : Option Addr) (cap : Nat) (rs : List Kr) : Prop :=
  ∃ xs, w.ownsRow S 139 6 (.slice a rs.length cap) rs.length xs ∧ ∀ i, i < rs.length → KvAt w lo hi xs (i * 6) (krAt rs i)

/-- The table's rows lie at a. -/
def RowsIn (w : World) (lo hi : Nat) (a : Option Addr) (rs : List Kr) : Prop :=
  rs = [] ∨ ∃ b off, a = some ⟨b, off, none⟩ ∧ lo ≤ b ∧ b < hi ∧ ∀ i, i < rs.length → TypeAt w lo hi b (off + i * 6) (krAt rs i).t ∧
    w.cell? ⟨b, off + i * 6 + 4, none⟩ = some (.int .i64 ((krAt rs i).b : Nat)) ∧ w.cell? ⟨b, off + i * 6 + 5, none⟩ = some (.int .i64 ((krAt rs i).e : Nat))

theorem RowsIn.same {lo hi lo' hi' : Nat} {w w' : World} {a : Option Addr} {rs : List Kr} (h : RowsIn w lo hi a rs) (hs : Same lo hi w w') (h1 : lo' ≤ lo) (h2 : hi ≤ hi') : RowsIn w' lo' hi' a rs := by
  rcases h with rfl | ⟨b, off, rfl, h3, h4, h5⟩
  · exact .inl rfl
  · refine .inr ⟨b, off, rfl, by omega, by omega, fun i hi => ?_⟩
    obtain ⟨x, y, z⟩ := h5 i hi
    exact ⟨x.same hs h1 h2 h3 h4, by rw [hs.cell h3 h4]; exact y, by rw [hs.cell h3 h4]; exact z⟩
theorem RowsIn.keep {lo hi : Nat} {w w' : World} {a : Option Addr} {rs : List Kr} (h : RowsIn w lo hi a rs) (hb : Below hi w w') : RowsIn w' lo hi a rs := h.same (.of_below hb (Nat.le_refl _)) (Nat.le_refl _) (Nat.le_refl _)

theorem RowRow.rows {w : World} {lo hi S cap : Nat} {a : Option Addr} {rs : List Kr} (h : RowRow w lo hi S a cap rs) (h1 : hi ≤ w.heap.size) (h2 : lo ≤ S) : RowsIn w lo w.heap.size a rs := by
  obtain ⟨xs, ho, hT⟩ := h
  rcases owns_cells ho with h0 | ⟨g, rfl, hS, hlt, hc⟩
  · exact .inl (List.length_eq_zero_iff.1 (by omega))
  · refine .inr ⟨g, 0, rfl, by omega, hlt, fun i hi => ?_⟩
    obtain ⟨⟨a, b, c, fa, fc, d, e⟩, f, g'⟩ := hT i hi
    rw [Nat.zero_add]
    refine ⟨⟨?_, ?_, ?_, fa, fc, ?_, e.wide (Nat.le_refl _) h1⟩, ?_, ?_⟩
    all_goals rw [hc _ (by omega)]; assumption

theorem krAt_append_left (l r : List Kr) (i : Nat) (h : i < l.length) : krAt (l ++ r) i = krAt l i := by
  simp [krAt, List.getD, List.getElem?_append_left h]
theorem krAt_append_one (l : List Kr) (t : Kr) : krAt (l ++ [t]) l.length = t := by
  simp [krAt, List.getD]

theorem RowRow.snoc {w w1 : World} {lo hi S cap' : Nat} {a' : Option Addr} {rs : List Kr} {r : Kr} {fa : Option Addr} {fc : Nat} {xs : List Value}
    (hT : ∀ i, i < rs.length → KvAt w lo hi xs (i * 6) (krAt rs i)) (hl : xs.length = rs.length * 6) (hf : FieldsIn w lo hi fa r.t.fields) (hb : Below hi w w1)
    (ho : w1.ownsRow S 139 6 (.slice a' (rs.length + 1) cap') (rs.length + 1) (xs ++ [.int .i64 r.t.kind, .int .i64 r.t.up, .bool r.t.last, .slice fa r.t.fields.length fc, .int .i64 (r.b : Nat), .int .i64 (r.e : Nat)])) :
    RowRow w1 lo hi S a' cap' (rs ++ [r]) := by
  refine ⟨_, by simpa using ho, fun i hi => ?_⟩
  by_cases e : i < rs.length
  · rw [krAt_append_left _ _ _ e]
    exact ((hT i e).append _).keep hb
  · have : i = rs.length := by simp at hi; omega
    subst this
    rw [krAt_append_one]
    exact KvAt.here xs r (hf.keep hb) _ hl

def rowOf (G : Nat → List Ty) (k : Nat) (t : Ty) : Kr := ⟨t, countTo G k, countTo G k + (G k).length⟩
theorem rows_take_all (G : Nat → List Ty) (k : Nat) : rowsTo G k ++ ((G k).take (G k).length).map (rowOf G k) = rowsTo G (k + 1) := by simp [rowsTo, rowOf]

set_option maxHeartbeats 800000 in
set_option maxRecDepth 100000 in
theorem kinFlat_core (a : Option Addr) (cap n lo hi : Nat) (G : Nat → List Ty) (w : World) (hn : n ≤ 1048576) (hm : ∀ i, i < n → (G i).length ≤ 1048576) (hh : hi ≤ w.heap.size)
    (hx : n ≤ 0 ∨ ∃ b off, a = some ⟨b, off, none⟩ ∧ lo ≤ b ∧ b < hi ∧ ∀ i, i < n → GroupAt w lo hi b (off + i) (G i)) :
    Calls Tryz.prog 108 #[.slice a n cap] w fun e w' => ∃ na nc, e = .returned (.slice na (countTo G n) nc) ∧ RowRow w' lo hi w.heap.size na nc (rowsTo G n) ∧ Below w.heap.size w w' := by
  have HM := hide hm
  clear hm
  obtain ⟨i0, hi0, hzz⟩ := Option.map_eq_some_iff.1 Tryz.infoRow
  simp only [Prod.mk.injEq] at hzz
  obtain ⟨hz0, hs0, hb0⟩ := hzz
  have HZ := hide hz0
  have HS := hide hs0
  have HB := hide hb0
  have HI := hide hi0
  clear hz0 hs0 hb0 hi0
  rcases hx with h0 | ⟨b, off, rfl, h1, h2, h3⟩
  all_goals
    go_enter Tryz.func108, Tryz.ntmps108
    go_wp2_with fail
    go_loopw [3, 11] (fun v i wr => ∃ (k : Nat) (ra : Option Addr) (rc : Nat), k ≤ n ∧ i = .int .i64 k ∧ v = .slice ra (countTo G k) rc ∧ RowRow wr lo hi w.heap.size ra rc (rowsTo G k) ∧ Below w.heap.size w wr) (fun v i wr => n - (intOf i).toNat)
    case atStart =>
      refine ⟨0, none, 0, Nat.zero_le _, rfl, rfl, ⟨[], ⟨rfl, .inl ⟨rfl, rfl⟩⟩, fun i hi => absurd hi (Nat.not_lt_zero _)⟩, Below.refl _ _⟩
    case round =>
      obtain ⟨k, ra, rc, hk, rfl, rfl, hT, hb⟩ := hrel
      have HT := hide hT
      clear hT
      by_cases hkn : k < n
      · first
        | (exfalso; omega)
        | (obtain ⟨ta, tc, c3, c4⟩ := h3 k hkn
           have q2 := HM.out k hkn
           have q3 := countTo_le G n HM.out k hk
           have h2' := Nat.lt_of_lt_of_le h2 hh
           have d3 : wr.cell? ⟨b, off + k, none⟩ = some (.slice ta (G k).length tc) := by rw [hb.cell (by exact h2')]; exact c3
           clear h3 c3
           rcases c4 with hnil | ⟨b2, off2, rfl, g1, g2, g3⟩
           all_goals
             go_wp2_with fail
             go_loopw [3, 19] (fun v i wi => ∃ (j : Nat) (ra : Option Addr) (rc : Nat), j ≤ (G k).length ∧ i = .int .i64 j ∧ v = .slice ra (countTo G k + j) rc ∧ RowRow wi lo hi w.heap.size ra rc (rowsTo G k ++ ((G k).take j).map (rowOf G k)) ∧ Below w.heap.size w wi) (fun v i wi => (G k).length - (intOf i).toNat)
             case atStart => exact ⟨0, ra, rc, Nat.zero_le _, rfl, rfl, by simpa using HT.out, hb⟩
             case round =>
               clear HT hb d3
               obtain ⟨j, ra, rc, hj, rfl, rfl, hT, hb⟩ := hrel
               by_cases hjn : j < (G k).length
               · first
                 | (exfalso; rw [hnil] at hjn; exact absurd hjn (Nat.not_lt_zero _))
                 | (obtain ⟨e0, e1, e2, fa, fc, e3, e4⟩ := (g3 j hjn).keep (hb.mono hh) g1 g2
                    have E4 := hide e4
                    obtain ⟨xs, hown, hTv⟩ := hT
                    have hlen : (rowsTo G k ++ ((G k).take j).map (rowOf G k)).length = countTo G k + j := by simp [rowsTo_length]; omega
                    have hxl := hown.1
                    have HTv := hide hTv
                    have HXL := hide hxl
                    have HLE := hide hlen
                    rw [hlen] at hown
                    have HO := hide hown
                    have hs := hb.size
                    clear hown hTv hxl e4 g3 hlen
                    go_wp2_with (first | (at_builtin; refine wpList_append_lies _ rfl _ _ 95 rfl w.heap.size 139 i0 _ 6 64 Tryz.underlying95 HI.out HZ.out HS.out HB.out rfl (by decide) _ _ xs rfl ((HO.out.alloc _).alloc _) ⟨wr.heap.size + 1, 0, none⟩ 1 1 [.int .i64 (tyAt (G k) j).kind, .int .i64 (tyAt (G k) j).up, .bool (tyAt (G k) j).last, .slice fa (tyAt (G k) j).fields.length fc, .int .i64 (countTo G k), .int .i64 ((countTo G k : Int) + ((G k).length : Int))] rfl rfl ?c1 ?c2 (by decide) ?c3 ?c4 ?c5 _ rfl ?_))
                    case c1 => exact World.news_of_block (by first | exact Deep.blk_alloc_new _ _ | (have := Deep.blk_alloc_new (wr.alloc (.cells #[.int .i64 (tyAt (G k) j).kind, .int .i64 (tyAt (G k) j).up, .bool (tyAt (G k) j).last, .slice fa (tyAt (G k) j).fields.length fc] 44)) (.cells #[.int .i64 (tyAt (G k) j).kind, .int .i64 (tyAt (G k) j).up, .bool (tyAt (G k) j).last, .slice fa (tyAt (G k) j).fields.length fc, .int .i64 (countTo G k), .int .i64 ((countTo G k : Int) + ((G k).length : Int))] 139); simpa using this))
                    case c2 => intro u hu; simp at hu; rcases hu with rfl | rfl | rfl | rfl | rfl | rfl <;> rfl
                    case c3 => unfold maxLen; omega
                    case c4 => omega
                    case c5 => simp; omega
                    intro g cap' w1 hown1 hgr hat hlt1
                    have hb1 : Below w.heap.size w w1 := ((hb.alloc hs _).alloc (by simp; omega) _).grown hgr (by simp; omega) (owns_base HO.out)
                    have HB1 := hide hb1
                    have HO1 := hide hown1
                    have hs1 : wr.heap.size ≤ w1.heap.size := by have := hgr.size; simp at this; omega
                    clear hgr hat hown1
                    go_wp2_with fail
                    refine ⟨⟨j + 1, _, cap', by omega, by go_num, rfl, ?_, HB1.out⟩, by simp [intOf]; omega⟩
                    rw [take_snoc _ _ hjn, List.map_append, ← List.append_assoc]
                    have ho := HO1.out
                    rw [← HLE.out] at ho
                    refine RowRow.snoc (r := rowOf G k (tyAt (G k) j)) (fc := fc) HTv.out HXL.out E4.out (below_from hb HB1.out hh) ?_
                    simpa [rowOf] using ho)
               · have hje : Hid (j = (G k).length) := Nat.le_antisymm hj (Nat.le_of_not_lt hjn)
                 have HT := hide hT
                 clear hT
                 go_wp2_with fail
                 refine ⟨⟨k + 1, ra, rc, by omega, by go_num, ?_, ?_, hb⟩, by simp [intOf]; omega⟩
                 · rw [hje.out]; simp [countTo]
                 · have := HT.out; rw [hje.out, rows_take_all] at this; exact this)
      · have hkn' : Hid (k = n) := Nat.le_antisymm hk (Nat.le_of_not_lt hkn)
        go_wp2_with fail
        go_ret
        rw [hkn'.out] at HT ⊢
        exact ⟨ra, rc, rfl, HT.out, hb⟩

/-- The table's rows. -/
def rowsOf (gs : List (List Ty)) : List Kr := rowsTo (grAt gs) gs.length
theorem rowsOf_length (gs : List (List Ty)) : (rowsOf gs).length = kinCount gs := rowsTo_length _ _

end Go.Proofs.YtblliefejffhoaaGreatDoor
