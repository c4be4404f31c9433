/- PaKinA: RowFlat, KinA, KinB, ItoaRow, KinC, KinD, KinE. -/
import Derived.Test.YtembifoimiochaaGreatDoorPaSpecA
import Derived.Test.YtembifoimiochaaGreatDoorPaSpecB
import Derived.Shelf.Strconv.Itoa3
import Derived.Shelf.Lay
import Derived.Ground.NamesProg
import Derived.Test.YtembifoimiochaaGreatDoorPaOne
import Derived.BigCall
import Derived.Laws.BytesString
import Derived.Maps.OwnOps
import Derived.Maps.OwnSet
namespace Go.Proofs.YtembifoimiochaaGreatDoor
open Go.ChangeShapes Go.WideShapes Go.ChangeAt Go.RowKit
set_option linter.unusedVariables false
structure Kr where
  t : Ty
  b : Nat
  e : Nat
def krAt (l : List Kr) (i : Nat) : Kr := l.getD i ⟨⟨0, 0, false, []⟩, 0, 0⟩
def rowsTo (G : Nat → List Ty) : Nat → List Kr
  | 0 => []
  | k + 1 => rowsTo G k ++ (G k).map fun t => ⟨t, countTo G k, countTo G k + (G k).length⟩
theorem rowsTo_length (G : Nat → List Ty) (k : Nat) : (rowsTo G k).length = countTo G k := by
  induction k with
  | zero => rfl
  | succ k ih => simp [rowsTo, countTo, ih]
theorem Tryz.infoRow : (Tryz.prog.info? 146).map (fun i => (i.zero, i.size, i.bytes)) = some (some (.agg #[.int .i64 0, .int .i64 0, .bool false, .slice none 0 0, .int .i64 0, .int .i64 0]), 6, 64) := by kernel_rfl
def KvAt (w : World) (lo hi : Nat) (xs : List Value) (o : Nat) (r : Kr) : Prop :=
  TvAt w lo hi xs o r.t ∧ xs[o + 4]? = some (.int .i64 (r.b : Nat)) ∧ xs[o + 5]? = some (.int .i64 (r.e : Nat))
theorem KvAt.append {w : World} {lo hi : Nat} {xs : List Value} {o : Nat} {r : Kr} (h : KvAt w lo hi xs o r) (ys : List Value) : KvAt w lo hi (xs ++ ys) o r := by
  obtain ⟨a, b, c⟩ := h
  have q : ∀ {k : Nat} {v : Value}, xs[k]? = some v → (xs ++ ys)[k]? = some v := fun {k v} hk => by
    have := (List.getElem?_eq_some_iff.1 hk).1
    rw [List.getElem?_append_left this]; exact hk
  exact ⟨a.append _, q b, q c⟩
theorem KvAt.keep {w w' : World} {lo hi : Nat} {xs : List Value} {o : Nat} {r : Kr} (h : KvAt w lo hi xs o r) (hb : Below hi w w') : KvAt w' lo hi xs o r := ⟨h.1.keep hb, h.2⟩
theorem KvAt.here {w : World} {lo hi : Nat} (xs : List Value) (r : Kr) {fa : Option Addr} {fc : Nat} (hf : FieldsIn w lo hi fa r.t.fields) (o : Nat) (ho : xs.length = o) :
    KvAt w lo hi (xs ++ [.int .i64 r.t.kind, .int .i64 r.t.up, .bool r.t.last, .slice fa r.t.fields.length fc, .int .i64 (r.b : Nat), .int .i64 (r.e : Nat)]) o r := by
  subst ho
  refine ⟨⟨?_, ?_, ?_, fa, fc, ?_, hf⟩, ?_, ?_⟩ <;> simp
def RowRow (w : World) (lo hi S : Nat) (a : Option Addr) (cap : Nat) (rs : List Kr) : Prop :=
  ∃ xs, w.ownsRow S 146 6 (.slice a rs.length cap) rs.length xs ∧ ∀ i, i < rs.length → KvAt w lo hi xs (i * 6) (krAt rs i)
def RowsIn (w : World) (lo hi : Nat) (a : Option Addr) (rs : List Kr) : Prop :=
  rs = [] ∨ ∃ b off, a = some ⟨b, off, none⟩ ∧ lo ≤ b ∧ b < hi ∧ ∀ i, i < rs.length → TypeAt w lo hi b (off + i * 6) (krAt rs i).t ∧
    w.cell? ⟨b, off + i * 6 + 4, none⟩ = some (.int .i64 ((krAt rs i).b : Nat)) ∧ w.cell? ⟨b, off + i * 6 + 5, none⟩ = some (.int .i64 ((krAt rs i).e : Nat))
theorem RowsIn.same {lo hi lo' hi' : Nat} {w w' : World} {a : Option Addr} {rs : List Kr} (h : RowsIn w lo hi a rs) (hs : Same lo hi w w') (h1 : lo' ≤ lo) (h2 : hi ≤ hi') : RowsIn w' lo' hi' a rs := by
  rcases h with rfl | ⟨b, off, rfl, h3, h4, h5⟩
  · exact .inl rfl
  · refine .inr ⟨b, off, rfl, by omega, by omega, fun i hi => ?_⟩
    obtain ⟨x, y, z⟩ := h5 i hi
    exact ⟨x.same hs h1 h2 h3 h4, by rw [hs.cell h3 h4]; exact y, by rw [hs.cell h3 h4]; exact z⟩
theorem RowsIn.keep {lo hi : Nat} {w w' : World} {a : Option Addr} {rs : List Kr} (h : RowsIn w lo hi a rs) (hb : Below hi w w') : RowsIn w' lo hi a rs := h.same (.of_below hb (Nat.le_refl _)) (Nat.le_refl _) (Nat.le_refl _)
theorem RowRow.rows {w : World} {lo hi S cap : Nat} {a : Option Addr} {rs : List Kr} (h : RowRow w lo hi S a cap rs) (h1 : hi ≤ w.heap.size) (h2 : lo ≤ S) : RowsIn w lo w.heap.size a rs := by
  obtain ⟨xs, ho, hT⟩ := h
  rcases owns_cells ho with h0 | ⟨g, rfl, hS, hlt, hc⟩
  · exact .inl (List.length_eq_zero_iff.1 (by omega))
  · refine .inr ⟨g, 0, rfl, by omega, hlt, fun i hi => ?_⟩
    obtain ⟨⟨a, b, c, fa, fc, d, e⟩, f, g'⟩ := hT i hi
    rw [Nat.zero_add]
    refine ⟨⟨?_, ?_, ?_, fa, fc, ?_, e.wide (Nat.le_refl _) h1⟩, ?_, ?_⟩
    all_goals rw [hc _ (by omega)]; assumption
theorem krAt_append_left (l r : List Kr) (i : Nat) (h : i < l.length) : krAt (l ++ r) i = krAt l i := by
  simp [krAt, List.getD, List.getElem?_append_left h]
theorem krAt_append_one (l : List Kr) (t : Kr) : krAt (l ++ [t]) l.length = t := by
  simp [krAt, List.getD]
theorem RowRow.snoc {w w1 : World} {lo hi S cap' : Nat} {a' : Option Addr} {rs : List Kr} {r : Kr} {fa : Option Addr} {fc : Nat} {xs : List Value}
    (hT : ∀ i, i < rs.length → KvAt w lo hi xs (i * 6) (krAt rs i)) (hl : xs.length = rs.length * 6) (hf : FieldsIn w lo hi fa r.t.fields) (hb : Below hi w w1)
    (ho : w1.ownsRow S 146 6 (.slice a' (rs.length + 1) cap') (rs.length + 1) (xs ++ [.int .i64 r.t.kind, .int .i64 r.t.up, .bool r.t.last, .slice fa r.t.fields.length fc, .int .i64 (r.b : Nat), .int .i64 (r.e : Nat)])) :
    RowRow w1 lo hi S a' cap' (rs ++ [r]) := by
  refine ⟨_, by simpa using ho, fun i hi => ?_⟩
  by_cases e : i < rs.length
  · rw [krAt_append_left _ _ _ e]
    exact ((hT i e).append _).keep hb
  · have : i = rs.length := by simp at hi; omega
    subst this
    rw [krAt_append_one]
    exact KvAt.here xs r (hf.keep hb) _ hl
def rowOf (G : Nat → List Ty) (k : Nat) (t : Ty) : Kr := ⟨t, countTo G k, countTo G k + (G k).length⟩
theorem rows_take_all (G : Nat → List Ty) (k : Nat) : rowsTo G k ++ ((G k).take (G k).length).map (rowOf G k) = rowsTo G (k + 1) := by simp [rowsTo, rowOf]
set_option maxHeartbeats 800000 in
set_option maxRecDepth 100000 in
theorem kinFlat_core (a : Option Addr) (cap n lo hi : Nat) (G : Nat → List Ty) (w : World) (hn : n ≤ 1048576) (hm : ∀ i, i < n → (G i).length ≤ 1048576) (hh : hi ≤ w.heap.size)
    (hx : n ≤ 0 ∨ ∃ b off, a = some ⟨b, off, none⟩ ∧ lo ≤ b ∧ b < hi ∧ ∀ i, i < n → GroupAt w lo hi b (off + i) (G i)) :
    Calls Tryz.prog 70 #[.slice a n cap] w fun e w' => ∃ na nc, e = .returned (.slice na (countTo G n) nc) ∧ RowRow w' lo hi w.heap.size na nc (rowsTo G n) ∧ Below w.heap.size w w' := by
  have HM := hide hm
  clear hm
  obtain ⟨i0, hi0, hzz⟩ := Option.map_eq_some_iff.1 Tryz.infoRow
  simp only [Prod.mk.injEq] at hzz
  obtain ⟨hz0, hs0, hb0⟩ := hzz
  have HZ := hide hz0
  have HS := hide hs0
  have HB := hide hb0
  have HI := hide hi0
  clear hz0 hs0 hb0 hi0
  rcases hx with h0 | ⟨b, off, rfl, h1, h2, h3⟩
  all_goals
    go_enter Tryz.func70, Tryz.ntmps70
    go_wp2_with fail
    go_loopw [3, 11] (fun v i wr => ∃ (k : Nat) (ra : Option Addr) (rc : Nat), k ≤ n ∧ i = .int .i64 k ∧ v = .slice ra (countTo G k) rc ∧ RowRow wr lo hi w.heap.size ra rc (rowsTo G k) ∧ Below w.heap.size w wr) (fun v i wr => n - (intOf i).toNat)
    case atStart =>
      refine ⟨0, none, 0, Nat.zero_le _, rfl, rfl, ⟨[], ⟨rfl, .inl ⟨rfl, rfl⟩⟩, fun i hi => absurd hi (Nat.not_lt_zero _)⟩, Below.refl _ _⟩
    case round =>
      obtain ⟨k, ra, rc, hk, rfl, rfl, hT, hb⟩ := hrel
      have HT := hide hT
      clear hT
      by_cases hkn : k < n
      · first
        | (exfalso; omega)
        | (obtain ⟨ta, tc, c3, c4⟩ := h3 k hkn
           have q2 := HM.out k hkn
           have q3 := countTo_le G n HM.out k hk
           have h2' := Nat.lt_of_lt_of_le h2 hh
           have d3 : wr.cell? ⟨b, off + k, none⟩ = some (.slice ta (G k).length tc) := by rw [hb.cell (by exact h2')]; exact c3
           clear h3 c3
           rcases c4 with hnil | ⟨b2, off2, rfl, g1, g2, g3⟩
           all_goals
             go_wp2_with fail
             go_loopw [3, 19] (fun v i wi => ∃ (j : Nat) (ra : Option Addr) (rc : Nat), j ≤ (G k).length ∧ i = .int .i64 j ∧ v = .slice ra (countTo G k + j) rc ∧ RowRow wi lo hi w.heap.size ra rc (rowsTo G k ++ ((G k).take j).map (rowOf G k)) ∧ Below w.heap.size w wi) (fun v i wi => (G k).length - (intOf i).toNat)
             case atStart => exact ⟨0, ra, rc, Nat.zero_le _, rfl, rfl, by simpa using HT.out, hb⟩
             case round =>
               clear HT hb d3
               obtain ⟨j, ra, rc, hj, rfl, rfl, hT, hb⟩ := hrel
               by_cases hjn : j < (G k).length
               · first
                 | (exfalso; rw [hnil] at hjn; exact absurd hjn (Nat.not_lt_zero _))
                 | (obtain ⟨e0, e1, e2, fa, fc, e3, e4⟩ := (g3 j hjn).keep (hb.mono hh) g1 g2
                    have E4 := hide e4
                    obtain ⟨xs, hown, hTv⟩ := hT
                    have hlen : (rowsTo G k ++ ((G k).take j).map (rowOf G k)).length = countTo G k + j := by simp [rowsTo_length]; omega
                    have hxl := hown.1
                    have HTv := hide hTv
                    have HXL := hide hxl
                    have HLE := hide hlen
                    rw [hlen] at hown
                    have HO := hide hown
                    have hs := hb.size
                    clear hown hTv hxl e4 g3 hlen
                    go_wp2_with (first | (at_builtin; refine wpList_append_lies _ rfl _ _ 91 rfl w.heap.size 146 i0 _ 6 64 Tryz.underlying91 HI.out HZ.out HS.out HB.out rfl (by decide) _ _ xs rfl ((HO.out.alloc _).alloc _) ⟨wr.heap.size + 1, 0, none⟩ 1 1 [.int .i64 (tyAt (G k) j).kind, .int .i64 (tyAt (G k) j).up, .bool (tyAt (G k) j).last, .slice fa (tyAt (G k) j).fields.length fc, .int .i64 (countTo G k), .int .i64 ((countTo G k : Int) + ((G k).length : Int))] rfl rfl ?c1 ?c2 (by decide) ?c3 ?c4 ?c5 _ rfl ?_))
                    case c1 => exact World.news_of_block (by first | exact Deep.blk_alloc_new _ _ | (have := Deep.blk_alloc_new (wr.alloc (.cells #[.int .i64 (tyAt (G k) j).kind, .int .i64 (tyAt (G k) j).up, .bool (tyAt (G k) j).last, .slice fa (tyAt (G k) j).fields.length fc] 76)) (.cells #[.int .i64 (tyAt (G k) j).kind, .int .i64 (tyAt (G k) j).up, .bool (tyAt (G k) j).last, .slice fa (tyAt (G k) j).fields.length fc, .int .i64 (countTo G k), .int .i64 ((countTo G k : Int) + ((G k).length : Int))] 146); simpa using this))
                    case c2 => intro u hu; simp at hu; rcases hu with rfl | rfl | rfl | rfl | rfl | rfl <;> rfl
                    case c3 => unfold maxLen; omega
                    case c4 => omega
                    case c5 => simp; omega
                    intro g cap' w1 hown1 hgr hat hlt1
                    have hb1 : Below w.heap.size w w1 := ((hb.alloc hs _).alloc (by simp; omega) _).grown hgr (by simp; omega) (owns_base HO.out)
                    have HB1 := hide hb1
                    have HO1 := hide hown1
                    have hs1 : wr.heap.size ≤ w1.heap.size := by have := hgr.size; simp at this; omega
                    clear hgr hat hown1
                    go_wp2_with fail
                    refine ⟨⟨j + 1, _, cap', by omega, by go_num, rfl, ?_, HB1.out⟩, by simp [intOf]; omega⟩
                    rw [take_snoc _ _ hjn, List.map_append, ← List.append_assoc]
                    have ho := HO1.out
                    rw [← HLE.out] at ho
                    refine RowRow.snoc (r := rowOf G k (tyAt (G k) j)) (fc := fc) HTv.out HXL.out E4.out (below_from hb HB1.out hh) ?_
                    simpa [rowOf] using ho)
               · have hje : Hid (j = (G k).length) := Nat.le_antisymm hj (Nat.le_of_not_lt hjn)
                 have HT := hide hT
                 clear hT
                 go_wp2_with fail
                 refine ⟨⟨k + 1, ra, rc, by omega, by go_num, ?_, ?_, hb⟩, by simp [intOf]; omega⟩
                 · rw [hje.out]; simp [countTo]
                 · have := HT.out; rw [hje.out, rows_take_all] at this; exact this)
      · have hkn' : Hid (k = n) := Nat.le_antisymm hk (Nat.le_of_not_lt hkn)
        go_wp2_with fail
        go_ret
        rw [hkn'.out] at HT ⊢
        exact ⟨ra, rc, rfl, HT.out, hb⟩
def rowsOf (gs : List (List Ty)) : List Kr := rowsTo (grAt gs) gs.length
theorem rowsOf_length (gs : List (List Ty)) : (rowsOf gs).length = kinCount gs := rowsTo_length _ _
theorem kinFlat_any (a : Option Addr) (cap lo hi : Nat) (gs : List (List Ty)) (w : World) (hn : Few gs) (hx : GroupsIn w lo hi a gs) (hh : hi ≤ w.heap.size) (hl : lo ≤ hi) :
    Calls Tryz.prog 70 #[.slice a gs.length cap] w fun e w' => ∃ na nc, e = .returned (.slice na (kinCount gs) nc) ∧ RowsIn w' lo w'.heap.size na (rowsOf gs) ∧ Below w.heap.size w w' := by
  refine (kinFlat_core a cap gs.length lo hi (grAt gs) w hn.1 (fun i hi => (hn.2 i hi).1) hh ?_).mono ?_
  · rcases hx with rfl | ⟨b, off, rfl, h1, h2, h3⟩
    · exact .inl (Nat.le_refl _)
    · exact .inr ⟨b, off, rfl, h1, h2, h3⟩
  · rintro e w' ⟨na, nc, rfl, hT, hb⟩
    exact ⟨na, nc, rfl, hT.rows (Nat.le_trans hh hb.size) (by omega), hb⟩
def someF (gs : List (List Ty)) (k : Nat) : Bool := allTo (fun x => decide (0 < (grAt gs x).length)) k
def fewF (gs : List (List Ty)) : Bool := decide (gs.length ≤ 4) && (someF gs gs.length && decide (kinCount gs ≤ 8))
set_option maxHeartbeats 800000 in
theorem kinFewEnough_any (ga : Option Addr) (gc lo hi : Nat) (gs : List (List Ty)) (w : World) (hN : Few gs) (hx : GroupsIn w lo hi ga gs) :
    Calls Tryz.prog 69 #[.slice ga gs.length gc] w fun e w' => e = .returned (.bool (fewF gs)) ∧ w' = w := by
  have HC := hide (implKinCount_any ga gc lo hi gs w hN hx)
  have HN := hide hN
  have n1 := hN.1
  have n2 := kinCount_le hN
  clear hN
  by_cases h4 : gs.length ≤ 4
  · have hx' : gs.length ≤ 0 ∨ ∃ b off, ga = some ⟨b, off, none⟩ ∧ lo ≤ b ∧ b < hi ∧ ∀ i, i < gs.length → GroupAt w lo hi b (off + i) (grAt gs i) := by
      rcases hx with rfl | ⟨b, off, rfl, h1, h2, h3⟩
      · exact .inl (Nat.le_refl _)
      · exact .inr ⟨b, off, rfl, h1, h2, h3⟩
    clear hx
    have HF : Hid (fewF gs = (someF gs gs.length && decide (kinCount gs ≤ 8))) := by show _ = _; simp [fewF, h4]
    rcases hx' with h0 | ⟨b, off, rfl, h1, h2, h3⟩
    all_goals
      go_enter Tryz.func69, Tryz.ntmps69
      go_wp2_with fail
      go_loop [10] (fun i => ∃ k : Nat, k ≤ gs.length ∧ i = .int .i64 k ∧ someF gs k = true) (fun i => gs.length - (intOf i).toNat)
      case atStart => exact ⟨0, Nat.zero_le _, rfl, rfl⟩
      case round =>
        obtain ⟨k, hk, rfl, hA⟩ := hrel
        have HA := hide hA
        clear hA
        by_cases hkn : k < gs.length
        · first
          | (exfalso; omega)
          | (obtain ⟨ta, tc, c3, c4⟩ := h3 k hkn
             have q2 := (HN.out.2 k hkn).1
             clear h3 c4
             by_cases h0 : (grAt gs k).length = 0
             · have HZ : Hid (fewF gs = false) := by
                 show _ = _
                 have : someF gs gs.length = false := allTo_false hkn (by simp [h0])
                 rw [HF.out, this]; rfl
               rw [h0] at c3
               clear h0
               go_wp2_with fail
               go_ret
               exact ⟨ret_bool HZ.out.symm, rfl⟩
             · have h0' : (((grAt gs k).length : Int) == 0) = false := beq_eq_false_iff_ne.2 (by omega)
               go_wp2_with fail
               exact ⟨⟨k + 1, by omega, by go_num, by show (someF gs k && _) = true; rw [HA.out]; simp; omega⟩, by simp [intOf]; omega⟩)
        · have hke : Hid (k = gs.length) := Nat.le_antisymm hk (Nat.le_of_not_lt hkn)
          go_wp2_with fail
          refine HC.out.mono ?_
          rintro e w1 ⟨rfl, rfl⟩
          go_wp2_with fail
          go_ret
          refine ⟨ret_bool ?_, rfl⟩
          rw [HF.out, ← hke.out, HA.out, Bool.eq_iff_iff]
          simp <;> omega
  · have HF : Hid (fewF gs = false) := by show _ = _; simp [fewF, h4]
    go_enter Tryz.func69, Tryz.ntmps69
    go_wp2_with fail
    go_ret
    exact ⟨ret_bool HF.out.symm, rfl⟩
def fieldsFewF (k : Int) (n : Nat) : Bool := if k = 1 then decide (n ≤ 4) else if k = 2 then decide (n = 1) else false
set_option maxHeartbeats 800000 in
theorem kinFieldsFew_any (k u : Int) (l : Bool) (fa : Option Addr) (n fc : Nat) (w : World) (hn : n ≤ 1048576) :
    Calls Tryz.prog 99 #[.agg #[.int .i64 k, .int .i64 u, .bool l, .slice fa n fc]] w fun e w' => e = .returned (.bool (fieldsFewF k n)) ∧ Below w.heap.size w w' := by
  by_cases h1 : k = 1
  · subst h1
    go_enter Tryz.func99, Tryz.ntmps99
    go_wp2_with fail
    go_ret
    refine ⟨ret_bool ?_, (Below.refl _ _).alloc (Nat.le_refl _) _⟩
    rw [Bool.eq_iff_iff]; simp [fieldsFewF]; try omega
  by_cases h2 : k = 2
  · subst h2
    go_enter Tryz.func99, Tryz.ntmps99
    go_wp2_with fail
    go_ret
    refine ⟨ret_bool ?_, (Below.refl _ _).alloc (Nat.le_refl _) _⟩
    rw [Bool.eq_iff_iff]; simp [fieldsFewF]; try omega
  have n1 : (k == 1) = false := beq_eq_false_iff_ne.2 h1
  have n2 : (k == 2) = false := beq_eq_false_iff_ne.2 h2
  have HF : Hid (fieldsFewF k n = false) := by show _ = _; simp [fieldsFewF, h1, h2]
  clear h1 h2
  go_enter Tryz.func99, Tryz.ntmps99
  go_wp2_with fail
  go_ret
  exact ⟨ret_bool HF.out.symm, (Below.refl _ _).alloc (Nat.le_refl _) _⟩
def upF (u tk : Int) (fn a : Nat) (rs : List Kr) : Bool :=
 decide (u = -1) || ((decide (0 ≤ u) && decide (u < (a : Int))) && (((krAt rs u.toNat).t.kind == tk) && (!(krAt rs u.toNat).t.last && decide ((krAt rs u.toNat).t.fields.length ≤ fn))))
def okFields (fs : List Fd) (e : Nat) (k : Nat) : Bool := allTo (fun i => fieldOk (fdAt fs i).kind (fdAt fs i).of (e : Int)) k
def wellF (rs : List Kr) (a : Nat) : Bool :=
 fieldsFewF (krAt rs a).t.kind (krAt rs a).t.fields.length && (okFields (krAt rs a).t.fields (krAt rs a).e (krAt rs a).t.fields.length && upF (krAt rs a).t.up (krAt rs a).t.kind (krAt rs a).t.fields.length a rs)
set_option maxHeartbeats 1600000 in
set_option maxRecDepth 100000 in
theorem kinWellFormed_any (ra : Option Addr) (rc lo hi : Nat) (rs : List Kr) (a : Nat) (w : World) (hn : rs.length ≤ 1048576) (hf : ∀ i, i < rs.length → (krAt rs i).t.fields.length ≤ 1048576) (hx : RowsIn w lo hi ra rs) (hh : hi ≤ w.heap.size) (ha : a < rs.length) :
  Calls Tryz.prog 71 #[.slice ra rs.length rc, .int .i64 (a : Int)] w fun e w' => e = .returned (.bool (wellF rs a)) ∧ Below w.heap.size w w' := by
 rcases hx with rfl | ⟨b, off, rfl, h1, h2, h3⟩
 ·exact absurd ha (Nat.not_lt_zero _)
 have H3 := hide h3
 have HFn := hide hf
 have hfl := hf a ha
 obtain ⟨⟨c0, c1, c2, fa, fc, c3, c4⟩, c5, c6⟩ := h3 a ha
 clear h3 hf
 have HW : Hid (wellF rs a = (fieldsFewF (krAt rs a).t.kind (krAt rs a).t.fields.length && (okFields (krAt rs a).t.fields (krAt rs a).e (krAt rs a).t.fields.length && upF (krAt rs a).t.up (krAt rs a).t.kind (krAt rs a).t.fields.length a rs))) := rfl
 generalize wellF rs a = R at *
 generalize krAt rs a = r at *
 obtain ⟨⟨tk, tu, tl, fs⟩, rb, re⟩ := r
 simp only at hfl c0 c1 c2 c3 c4 c5 c6 HW
 have C4 := hide c4
 clear c4
 have hb5 : b < w.heap.size := Nat.lt_of_lt_of_le h2 hh
 have i1 : (0 : Int) ≤ (a : Int) := by omega
 have i2 : (a : Int) < (rs.length : Int) := by omega
 have r0 : Rec (w.alloc (.cells #[.int .i64 tk, .int .i64 tu, .bool tl, .slice fa fs.length fc, .int .i64 (rb : Nat), .int .i64 (re : Nat)] 146)) w.heap.size 146 [.int .i64 tk, .int .i64 tu, .bool tl, .slice fa fs.length fc, .int .i64 (rb : Nat), .int .i64 (re : Nat)] := Rec.new _ _ _
 have R0 := hide r0
 have b0 : Below w.heap.size w (w.alloc (.cells #[.int .i64 tk, .int .i64 tu, .bool tl, .slice fa fs.length fc, .int .i64 (rb : Nat), .int .i64 (re : Nat)] 146)) := (Below.refl _ _).alloc (Nat.le_refl _) _
 have B0 := hide b0
 clear r0 b0
 go_enter Tryz.func71, Tryz.ntmps71
 go_wp2_with fail
 refine (kinFieldsFew_any tk tu tl fa fs.length fc _ hfl).mono ?_
 rintro e w1 ⟨rfl, hb1⟩
 have R1 := hide (R0.out.below hb1 R0.out.lt)
 have B1 := hide (B0.out.trans (hb1.mono B0.out.size))
 have s1 : w.heap.size < w1.heap.size := R1.out.lt
 clear hb1 R0 B0
 cases hff : fieldsFewF tk fs.length with
 | false =>
  have HZ : Hid (R = false) := by rw [HW.out, hff]; rfl
  clear hff
  go_wp2_with fail
  go_ret
  exact ⟨ret_bool HZ.out.symm, B1.out⟩
 | true =>
  have HZ : Hid (R = (okFields fs re fs.length && upF tu tk fs.length a rs)) := by rw [HW.out, hff]; rfl
  clear hff HW
  have d3 := R1.out.cell (o := 3) rfl
  go_wp2_with fail
  go_loopw [22] (fun i wr => ∃ j : Nat, j ≤ fs.length ∧ i = .int .i64 j ∧ okFields fs re j = true ∧ Below w.heap.size w wr ∧ Rec wr w.heap.size 146 [.int .i64 tk, .int .i64 tu, .bool tl, .slice fa fs.length fc, .int .i64 (rb : Nat), .int .i64 (re : Nat)]) (fun i wr => fs.length - (intOf i).toNat)
  case atStart => exact ⟨0, Nat.zero_le _, rfl, rfl, B1.out, R1.out⟩
  case round =>
   clear R1 B1 d3
   obtain ⟨j, hj, rfl, hA, hb, hr⟩ := hrel
   have HA := hide hA
   have HB := hide hb
   have HR := hide hr
   have s2 : w.heap.size < wr.heap.size := hr.lt
   have d5 := hr.cell (o := 5) rfl
   have d0 := hr.cell (o := 0) rfl
   have d1 := hr.cell (o := 1) rfl
   have d3 := hr.cell (o := 3) rfl
   clear hA hb hr
   by_cases hjn : j < fs.length
   ·rcases C4.out with hnil | ⟨b2, off2, rfl, g1, g2, g3⟩
    ·rw [hnil] at hjn; exact absurd hjn (Nat.not_lt_zero _)
    obtain ⟨f0, f1, f2⟩ := (g3 j hjn).same (lo := lo) (hi := hi) (.of_below HB.out hh) g1 g2
    clear g3
    go_wp2_with fail
    refine (implFieldOk_any _ _ _ _ _).mono ?_
    rintro e w2 ⟨rfl, hb2⟩
    have q := hide (hb2.mono (show wr.heap.size ≤ _ by simp))
    have HB2 := hide ((HB.out.alloc (Nat.le_of_lt s2) (.cells #[.int .i64 (fdAt fs j).kind, .int .i64 (fdAt fs j).of, .bool (fdAt fs j).mt] 70)).trans (hb2.mono (by simp; omega)))
    have HR2 := hide ((HR.out.alloc (.cells #[.int .i64 (fdAt fs j).kind, .int .i64 (fdAt fs j).of, .bool (fdAt fs j).mt] 70)).below hb2 (by simp; omega))
    have s3 := HR2.out.lt
    clear hb2 q
    cases hfo : fieldOk (fdAt fs j).kind (fdAt fs j).of re with
    | true =>
     have HO := hide hfo
     clear hfo
     go_wp2_with fail
     have ha' : okFields fs re (j + 1) = true := by show (okFields fs re j && fieldOk (fdAt fs j).kind (fdAt fs j).of (re : Int)) = true; rw [HA.out, HO.out]; rfl
     exact ⟨⟨j + 1, by omega, by go_num, ha', HB2.out, HR2.out⟩, by simp [intOf]; omega⟩
    | false =>
     have HO := hide hfo
     clear hfo
     go_wp2_with fail
     go_ret
     refine ⟨ret_bool ?_, HB2.out⟩
     have : okFields fs re fs.length = false := allTo_false hjn HO.out
     rw [HZ.out, this]; rfl
   ·have hje : Hid (j = fs.length) := Nat.le_antisymm hj (Nat.le_of_not_lt hjn)
    have HU : Hid (R = upF tu tk fs.length a rs) := by
     have hA' := HA.out
     rw [hje.out] at hA'
     show R = _
     rw [HZ.out, hA']; rfl
    clear HZ HA
    by_cases u1 : tu = -1
    ·subst u1
     have HT : Hid (R = true) := by rw [HU.out]; rfl
     go_wp2_with fail
     go_ret
     exact ⟨ret_bool HT.out.symm, HB.out⟩
    have n1 : (tu == -1) = false := beq_eq_false_iff_ne.2 u1
    by_cases u2 : tu < 0
    ·have HT : Hid (R = false) := by rw [HU.out]; simp [upF, Hid]; omega
     go_wp2_with fail
     go_ret
     exact ⟨ret_bool HT.out.symm, HB.out⟩
    by_cases u3 : tu < (a : Int)
    ·obtain ⟨m, rfl⟩ := Int.eq_ofNat_of_zero_le (show 0 ≤ tu by omega)
     have hm : m < rs.length := by omega
     obtain ⟨⟨g0, g1, g2, ga, gc, g3, _⟩, _, _⟩ := H3.out m hm
     have hml := HFn.out m hm
     have qb : ∀ o, wr.cell? ⟨b, o, none⟩ = w.cell? ⟨b, o, none⟩ := fun o => HB.out.cell (by exact hb5)
     have k0 : wr.cell? ⟨b, off + m * 6, none⟩ = some (.int .i64 (krAt rs m).t.kind) := by rw [qb]; exact g0
     have k1 : wr.cell? ⟨b, off + m * 6 + 1, none⟩ = some (.int .i64 (krAt rs m).t.up) := by rw [qb]; exact g1
     have k2 : wr.cell? ⟨b, off + m * 6 + 2, none⟩ = some (.bool (krAt rs m).t.last) := by rw [qb]; exact g2
     have k3 : wr.cell? ⟨b, off + m * 6 + 3, none⟩ = some (.slice ga (krAt rs m).t.fields.length gc) := by rw [qb]; exact g3
     have m1 : (0 : Int) ≤ (m : Int) := by omega
     have m2 : (m : Int) < (rs.length : Int) := by omega
     have HV : Hid (R = (((krAt rs m).t.kind == tk) && (!(krAt rs m).t.last && decide ((krAt rs m).t.fields.length ≤ fs.length)))) := by
      rw [HU.out]
      have e1 : decide ((m : Int) = -1) = false := by simp
      have e2 : decide ((0 : Int) ≤ (m : Int)) = true := by simp
      have e3 : decide ((m : Int) < (a : Int)) = true := by simp; omega
      unfold upF
      rw [e1, e2, e3]
      simp [Hid]
     clear g0 g1 g2 g3 qb HU
     generalize krAt rs m = v at *
     obtain ⟨⟨vk, vu, vl, vs⟩, vb, ve⟩ := v
     simp only at k0 k1 k2 k3 hml HV
     by_cases e1 : vk = tk
     ·subst e1
      have hd : (vk == vk) = true := by simp
      cases vl with
      | true =>
       have HT : Hid (R = false) := by rw [HV.out]; simp [Hid]
       go_wp2_with fail
       go_ret
       exact ⟨ret_bool HT.out.symm, HB.out.alloc (Nat.le_of_lt s2) _⟩
      | false =>
       have HT : Hid (R = decide (vs.length ≤ fs.length)) := by rw [HV.out]; simp [Hid]
       go_wp2_with fail
       go_ret
       refine ⟨ret_bool ?_, HB.out.alloc (Nat.le_of_lt s2) _⟩
       rw [HT.out, Bool.eq_iff_iff]
     ·have hd : (vk == tk) = false := beq_eq_false_iff_ne.2 e1
      have HT : Hid (R = false) := by rw [HV.out, hd]; simp [Hid]
      go_wp2_with fail
      go_ret
      exact ⟨ret_bool HT.out.symm, HB.out.alloc (Nat.le_of_lt s2) _⟩
    ·have HT : Hid (R = false) := by rw [HU.out]; simp [upF, Hid]; try omega
     go_wp2_with fail
     go_ret
     exact ⟨ret_bool HT.out.symm, HB.out⟩
end Go.Proofs.YtembifoimiochaaGreatDoor
/- strconv.Itoa at this program, off the shelf; the table that it reads; strings put together. -/
namespace Go.Proofs
open Go.Shelf Go.RowKit

shelf_lay LaysM.n171 Nm 171 at Tryz as Tryz.lays171

theorem Tryz.itoa (n : Int) (h0 : -9223372036854775808 ≤ n) (h1 : n ≤ 9223372036854775807) (w : World) (htab : Lib.TabIs Tryz.prog w "internal/strconv.uint64pow10" .u64 Lib.pow10Tab) :
  Calls Tryz.prog 110 #[.int .i64 n] w fun e w' => e = .returned (.string ⟨(Lib.itoa n).toArray⟩) ∧ ∃ k os, w' = Sort.grow (w.drewN k) os := Any.strconv_Itoa { Tryz.lays171 with } n h0 h1 w htab
end Go.Proofs
namespace Go.Proofs.YtembifoimiochaaGreatDoor
open Go.ChangeShapes Go.WideShapes Go.ChangeAt Go.RowKit
set_option linter.unusedVariables false

theorem grown_below (w : World) (k : Nat) (os : Array Obj) : Below w.heap.size w (Sort.grow (w.drewN k) os) := by
 refine ⟨rfl, rfl, rfl, ?_, fun i hi => ?_⟩
 ·show w.heap.size ≤ (w.heap ++ os).size
  simp
 ·show (w.heap ++ os)[i]? = w.heap[i]?
  rw [Array.getElem?_append_left hi]

theorem gPow : Tryz.prog.globalNamed "internal/strconv.uint64pow10" = some 0 := by kernel_rfl

def pow10 (w : World) : Prop := Lib.TabIs Tryz.prog w "internal/strconv.uint64pow10" .u64 Lib.pow10Tab

theorem pow10_keep {w w' : World} (h : pow10 w) (hb : Below w.heap.size w w') : pow10 w' := Joins.tab_stays gPow h hb (Nat.le_refl _)

theorem below_more {w v : World} (h : Below w.heap.size w v) (o : Obj) : Below w.heap.size w (v.alloc o) := h.alloc h.size o
theorem add_at (x y z : List UInt8) (h : x ++ y = z) (hx : x.length ≤ 1000) (hy : y.length ≤ 1000) : ∀ W : World, (Op.stringOp .add ⟨x.toArray⟩ ⟨y.toArray⟩).run Tryz.prog W = .ok (.string ⟨z.toArray⟩) W := by
 intro W
 rw [run_string_add_lists (P := Tryz.prog) W x y (by omega) (by omega), h]

end Go.Proofs.YtembifoimiochaaGreatDoor
namespace Go.Proofs.YtembifoimiochaaGreatDoor
open Go.ChangeShapes Go.WideShapes Go.ChangeAt Go.RowKit
set_option linter.unusedVariables false
theorem formatBool_any (b : Bool) (w : World) :
  Calls Tryz.prog 111 #[.bool b] w fun e w' => e = .returned (.string ⟨(boolW b).toArray⟩) ∧ w' = w := by
 cases b
 all_goals
  go_enter Tryz.func111, Tryz.ntmps111
  go_wp2
  go_ret
  exact ⟨rfl, rfl⟩
theorem formatBool_at (b : Bool) (l : List UInt8) (h : boolW b = l) (w0 w : World) (B0 : Below w0.heap.size w0 w) :
  Calls Tryz.prog 111 #[.bool b] w fun e w' => e = .returned (.string ⟨l.toArray⟩) ∧ (∀ q o v, w.cell? ⟨q, o, none⟩ = some v → w'.cell? ⟨q, o, none⟩ = some v) ∧ Below w0.heap.size w0 w' := by
 refine (formatBool_any b w).mono ?_
 rintro e w' ⟨rfl, rfl⟩
 exact ⟨by rw [h], fun _ _ _ h => h, B0⟩
theorem itoa_any (n : Int) (h0 : -9 ≤ n) (h1 : n ≤ 9) (w : World) (hp : pow10 w) :
  Calls Tryz.prog 110 #[.int .i64 n] w fun e w' => e = .returned (.string ⟨(Lib.itoa n).toArray⟩) ∧ Below w.heap.size w w' := by
 refine (Tryz.itoa n (by omega) (by omega) w hp).mono ?_
 rintro e w1 ⟨rfl, k, os, rfl⟩
 exact ⟨rfl, grown_below w k os⟩
theorem itoa_at (n : Int) (l : List UInt8) (h : Lib.itoa n = l) (h0 : -9 ≤ n) (h1 : n ≤ 9) (w0 w : World) (B0 : Below w0.heap.size w0 w) (hp : pow10 w0) :
  Calls Tryz.prog 110 #[.int .i64 n] w fun e w' => e = .returned (.string ⟨l.toArray⟩) ∧ (∀ q o v, w.cell? ⟨q, o, none⟩ = some v → w'.cell? ⟨q, o, none⟩ = some v) ∧ Below w0.heap.size w0 w' := by
 refine (itoa_any n h0 h1 w (pow10_keep hp B0)).mono ?_
 rintro e w' ⟨rfl, hb⟩
 exact ⟨by rw [h], fun q o v hv => by rw [hb.cell (p := ⟨q, o, none⟩) (cell_lt hv)]; exact hv, B0.trans (hb.mono B0.size)⟩
def CanIn (w : World) (a : Option Addr) (k : Nat) (C : Nat → Nat) : Prop :=
 k ≤ 0 ∨ ∃ q off, a = some ⟨q, off, none⟩ ∧ q < w.heap.size ∧ ∀ i, i < k → w.cell? ⟨q, off + i, none⟩ = some (.int .i64 (C i : Nat))
theorem CanIn.keep {w w' : World} {a : Option Addr} {k : Nat} {C : Nat → Nat} (h : CanIn w a k C) (hb : Below w.heap.size w w') : CanIn w' a k C := by
 rcases h with h | ⟨q, off, e, h1, h2⟩
 ·exact .inl h
 ·exact .inr ⟨q, off, e, Nat.lt_of_lt_of_le h1 hb.size, fun i hi => by rw [hb.cell (p := ⟨q, off + i, none⟩) h1]; exact h2 i hi⟩
theorem sm_len (n : Int) : (sm n).length ≤ 2 := by unfold sm; split <;> simp
theorem itoa_len {n : Int} (h1 : -9 ≤ n) (h2 : n ≤ 9) : (Lib.itoa n).length ≤ 2 := by rw [itoa_sm n h1 h2]; exact sm_len n
theorem boolW_len (b : Bool) : (boolW b).length ≤ 5 := by cases b <;> simp [boolW]
theorem nameK_len {C : Nat → Nat} {b : Nat} {o : Int} (h : NameOk C o) : (nameK C b o).length ≤ 3 := by
 obtain ⟨h1, h2, h3⟩ := h
 unfold nameK
 split
 ·have := itoa_len (n := o) (by omega) (by omega); omega
 ·split
  ·have := itoa_len (n := o - b) (by omega) (by omega); simp; omega
  ·have := h3 o.toNat (by omega)
   have := itoa_len (n := (C o.toNat : Nat)) (by omega) (by omega); omega
set_option maxHeartbeats 800000 in
theorem kinNamed_any (ca : Option Addr) (cn cc b : Nat) (o : Int) (C : Nat → Nat) (w : World) (hp : pow10 w) (ho : NameOk C o) (hb : b ≤ 8) (hcn : b ≤ cn) (hc8 : cn ≤ 8) (hx : CanIn w ca b C) :
  Calls Tryz.prog 112 #[.slice ca cn cc, .int .i64 (b : Int), .int .i64 o] w fun e w' => e = .returned (.string ⟨(nameK C b o).toArray⟩) ∧ Below w.heap.size w w' := by
 have HP := hide hp
 obtain ⟨o1, o2, o3⟩ := ho
 clear hp
 by_cases h1 : o < 0
 ·have HN : Hid (nameK C b o = Lib.itoa o) := by show _ = _; unfold nameK; rw [if_pos h1]
  clear hx o3
  go_enter Tryz.func112, Tryz.ntmps112
  go_wp2_with fail
  refine (itoa_any o (by omega) (by omega) w HP.out).mono ?_
  rintro e w1 ⟨rfl, b1⟩
  have B1 := hide b1
  clear b1
  go_wp2_with fail
  go_ret
  exact ⟨by rw [HN.out]; rfl, B1.out⟩
 by_cases h2 : (b : Int) ≤ o
 ·have HN : Hid (nameK C b o = 43 :: Lib.itoa (o - b)) := by show _ = _; unfold nameK; rw [if_neg h1, if_pos h2]
  have hl := itoa_len (n := o - b) (by omega) (by omega)
  have HI := hide (itoa_any (o - b) (by omega) (by omega) w HP.out)
  have hx1 := add_at [43] (Lib.itoa (o - b)) (43 :: Lib.itoa (o - b)) rfl (by simp) (by omega)
  generalize 43 :: Lib.itoa (o - b) = x1 at hx1 HN
  generalize Lib.itoa (o - b) = x0 at hx1 HI
  clear hx o3 hl
  go_enter Tryz.func112, Tryz.ntmps112
  go_wp2_with fail
  refine HI.out.mono ?_
  rintro e w1 ⟨rfl, b1⟩
  have B1 := hide b1
  clear b1
  go_wp2_with fail
  go_ret
  exact ⟨by rw [HN.out]; rfl, B1.out⟩
 ·obtain ⟨m, rfl⟩ := Int.eq_ofNat_of_zero_le (show 0 ≤ o by omega)
  have hm : m < b := by omega
  have HN : Hid (nameK C b m = Lib.itoa (C m : Nat)) := by show _ = _; unfold nameK; rw [if_neg h1, if_neg h2]; simp
  have h8 := o3 m (by omega)
  rcases hx with h0 | ⟨q, off, rfl, q1, q2⟩
  ·exfalso; omega
  have c0 := q2 m hm
  have m1 : (0 : Int) ≤ (m : Int) := by omega
  have m2 : (m : Int) < (cn : Int) := by omega
  clear q2 o3
  go_enter Tryz.func112, Tryz.ntmps112
  go_wp2_with fail
  refine (itoa_any (C m : Nat) (by omega) (by omega) w HP.out).mono ?_
  rintro e w1 ⟨rfl, b1⟩
  have B1 := hide b1
  clear b1
  go_wp2_with fail
  go_ret
  exact ⟨by rw [HN.out]; rfl, B1.out⟩
theorem kinNamed_at (ca : Option Addr) (cn cc b : Nat) (o : Int) (C : Nat → Nat) (l : List UInt8) (h : nameK C b o = l) (w0 w : World) (B0 : Below w0.heap.size w0 w) (hp : pow10 w0) (ho : NameOk C o) (hb : b ≤ 8) (hcn : b ≤ cn) (hc8 : cn ≤ 8) (hx : CanIn w0 ca b C) :
  Calls Tryz.prog 112 #[.slice ca cn cc, .int .i64 (b : Int), .int .i64 o] w fun e w' => e = .returned (.string ⟨l.toArray⟩) ∧ (∀ q o v, w.cell? ⟨q, o, none⟩ = some v → w'.cell? ⟨q, o, none⟩ = some v) ∧ Below w0.heap.size w0 w' := by
 refine (kinNamed_any ca cn cc b o C w (pow10_keep hp B0) ho hb hcn hc8 (hx.keep B0)).mono ?_
 rintro e w' ⟨rfl, hb⟩
 exact ⟨by rw [h], fun q o v hv => by rw [hb.cell (p := ⟨q, o, none⟩) (cell_lt hv)]; exact hv, B0.trans (hb.mono B0.size)⟩
def headTxt (C : Nat → Nat) (b : Nat) (t : Ty) : List UInt8 := Lib.itoa t.kind ++ (32 :: (boolW t.last ++ (32 :: nameK C b t.up)))
theorem rowTxt_head (C : Nat → Nat) (b : Nat) (t : Ty) : rowTxt C b t = (headTxt C b t ++ fldsTxt C b t.fields) ++ [59] := by simp [rowTxt, headTxt]
theorem fd_take_snoc (g : List Fd) (j : Nat) (h : j < g.length) : g.take (j + 1) = g.take j ++ [fdAt g j] := by
 rw [List.take_succ_eq_append_getElem h]
 simp [fdAt, List.getD, List.getElem?_eq_getElem h]
theorem fldsTxt_snoc (C : Nat → Nat) (b : Nat) (fs : List Fd) (j : Nat) (h : j < fs.length) : fldsTxt C b (fs.take (j + 1)) = fldsTxt C b (fs.take j) ++ fldTxt C b (fdAt fs j) := by
 rw [fd_take_snoc fs j h]
 simp [fldsTxt, fldsTok, fldTxt, toksTxt]
theorem grpTxt_snoc (C : Nat → Nat) (b : Nat) (ts : List Ty) (j : Nat) (h : j < ts.length) : grpTxt C b (ts.take (j + 1)) = grpTxt C b (ts.take j) ++ rowTxt C b (tyAt ts j) := by
 rw [take_snoc ts j h]
 simp [grpTxt]
theorem fldTxt_eq (C : Nat → Nat) (b : Nat) (f : Fd) : fldTxt C b f = (44 :: (Lib.itoa f.kind ++ (32 :: boolW f.mt))) ++ (if f.kind = 1 then [] else 32 :: nameK C b f.of) := by
 unfold fldTxt fldTok
 split <;> simp [toksTxt]
theorem fldTxt_len {C : Nat → Nat} {b : Nat} {f : Fd} (h : FdOk C f) : (fldTxt C b f).length ≤ 14 := by
 rw [fldTxt_eq]
 have h1 := itoa_len (n := f.kind) (by have := h.1; omega) (by have := h.1; omega)
 have h2 := boolW_len f.mt
 have h3 := nameK_len (b := b) h.2
 split <;> simp <;> omega
theorem fldsTxt_len {C : Nat → Nat} {b : Nat} {fs : List Fd} (h : ∀ i, i < fs.length → FdOk C (fdAt fs i)) : ∀ j, j ≤ fs.length → (fldsTxt C b (fs.take j)).length ≤ 14 * j := by
 intro j
 induction j with
 | zero => intro _; simp [fldsTxt, fldsTok, toksTxt]
 | succ j ih =>
  intro hj
  rw [fldsTxt_snoc C b fs j hj]
  have := ih (by omega)
  have := fldTxt_len (b := b) (h j hj)
  simp; omega
theorem headTxt_len {C : Nat → Nat} {b : Nat} {t : Ty} (h : TyOk C t) : (headTxt C b t).length ≤ 13 := by
 have h1 := itoa_len (n := t.kind) (by have := h.1; omega) (by have := h.1; omega)
 have h2 := boolW_len t.last
 have h3 := nameK_len (b := b) h.2.1
 simp [headTxt]; omega
theorem rowTxt_len {C : Nat → Nat} {b : Nat} {t : Ty} (h : TyOk C t) (h4 : t.fields.length ≤ 4) : (rowTxt C b t).length ≤ 70 := by
 rw [rowTxt_head]
 have h1 := headTxt_len (b := b) h
 have h2 := fldsTxt_len (b := b) h.2.2 t.fields.length (Nat.le_refl _)
 rw [List.take_length] at h2
 simp; omega
theorem grpTxt_len {C : Nat → Nat} {b : Nat} {ts : List Ty} (h : ∀ i, i < ts.length → TyOk C (tyAt ts i)) (h4 : ∀ i, i < ts.length → (tyAt ts i).fields.length ≤ 4) : ∀ j, j ≤ ts.length → (grpTxt C b (ts.take j)).length ≤ 70 * j := by
 intro j
 induction j with
 | zero => intro _; simp [grpTxt]
 | succ j ih =>
  intro hj
  rw [grpTxt_snoc C b ts j hj]
  have := ih (by omega)
  have := rowTxt_len (b := b) (h j hj) (h4 j hj)
  simp; omega
set_option maxHeartbeats 3200000 in
set_option maxRecDepth 100000 in
theorem kinWritten_core (rb ro rn rc lo hi : Nat) (ca : Option Addr) (cn cc b : Nat) (ts : List Ty) (C : Nat → Nat) (w : World) (hp : pow10 w) (hh : hi ≤ w.heap.size) (h1 : lo ≤ rb) (h2 : rb < hi)
  (ht : ∀ i, i < ts.length → TyOk C (tyAt ts i)) (ht4 : ∀ i, i < ts.length → (tyAt ts i).fields.length ≤ 4) (h0 : 0 < ts.length) (hbn : b + ts.length ≤ rn) (hrn : rn ≤ 8) (hrc : rn ≤ rc)
  (hT : ∀ i, i < ts.length → TypeAt w lo hi rb (ro + b * 6 + i * 6) (tyAt ts i)) (hE : w.cell? ⟨rb, ro + b * 6 + 5, none⟩ = some (.int .i64 ((b + ts.length : Nat) : Int)))
  (hK : ∀ i, i < ts.length → (∃ v, w.cell? ⟨rb, ro + b * 6 + i * 6 + 4, none⟩ = some (.int .i64 v)) ∧ ∃ v, w.cell? ⟨rb, ro + b * 6 + i * 6 + 5, none⟩ = some (.int .i64 v))
  (hcn : b ≤ cn) (hc8 : cn ≤ 8) (hC : CanIn w ca b C) :
  Calls Tryz.prog 100 #[.slice (some ⟨rb, ro, none⟩) rn rc, .slice ca cn cc, .int .i64 (b : Int)] w fun e w' => e = .returned (.string ⟨(grpTxt C b ts).toArray⟩) ∧ Below w.heap.size w w' := by
 have HP := hide hp
 have HT := hide hT
 have HK := hide hK
 have HC := hide hC
 have HTy := hide ht
 have HT4 := hide ht4
 have HLen := hide (grpTxt_len (b := b) ht ht4)
 have hr5 : rb < w.heap.size := Nat.lt_of_lt_of_le h2 hh
 clear hp hT hC ht ht4 hK
 have b1 : (0 : Int) ≤ (b : Int) := by omega
 have b2 : (b : Int) < (rn : Int) := by omega
 have e2 : ((b + ts.length : Nat) : Int) = (b : Int) + (ts.length : Int) := by omega
 rw [e2] at hE
 clear e2
 go_enter Tryz.func100, Tryz.ntmps100
 go_wp2_with fail
 simp only [Nat.add_sub_cancel_left]
 go_loopw [7, 21] (fun v i wr => ∃ (j : Nat) (l : List UInt8), j ≤ ts.length ∧ i = .int .i64 j ∧ v = .string ⟨l.toArray⟩ ∧ l = grpTxt C b (ts.take j) ∧ Below w.heap.size w wr) (fun v i wr => ts.length - (intOf i).toNat)
 case atStart => exact ⟨0, [], Nat.zero_le _, rfl, rfl, rfl, Below.refl _ _⟩
 case round =>
  obtain ⟨j, l, hj, rfl, rfl, hl, hb⟩ := hrel
  have HL := hide hl
  have HB := hide hb
  have s1 := hb.size
  have qb : ∀ o, wr.cell? ⟨rb, o, none⟩ = w.cell? ⟨rb, o, none⟩ := fun o => hb.cell (by exact hr5)
  have hll := HLen.out j hj
  rw [← hl] at hll
  clear hl hb
  by_cases hjn : j < ts.length
  ·obtain ⟨c0, c1, c2, fa, fc, c3, c4⟩ := HT.out j hjn
   obtain ⟨⟨v4, c5⟩, v5, c6⟩ := HK.out j hjn
   have ty := HTy.out j hjn
   have t4 := HT4.out j hjn
   have HSn := hide (grpTxt_snoc C b ts j hjn)
   rw [← qb] at c0 c1 c2 c3 c5 c6
   generalize tyAt ts j = t at c0 c1 c2 c3 c4 ty t4 HSn
   obtain ⟨tk, tu, tl, fs⟩ := t
   simp only at c0 c1 c2 c3 c4 t4
   obtain ⟨⟨k1, k2⟩, tn, tf⟩ := ty
   simp only at k1 k2 tn tf
   have C4 := hide c4
   have TF := hide tf
   have HRow : Hid (rowTxt C b ⟨tk, tu, tl, fs⟩ = (headTxt C b ⟨tk, tu, tl, fs⟩ ++ fldsTxt C b fs) ++ [59]) := rowTxt_head C b _
   have HFl := hide (fldsTxt_len (b := b) tf)
   have lk := itoa_len (n := tk) (by omega) (by omega)
   have lb := boolW_len tl
   have ln := nameK_len (b := b) tn
   have HH : Hid (headTxt C b ⟨tk, tu, tl, fs⟩ = Lib.itoa tk ++ (32 :: (boolW tl ++ (32 :: nameK C b tu)))) := rfl
   obtain ⟨xk, ek⟩ : ∃ xk, Lib.itoa tk = xk := ⟨_, rfl⟩
   obtain ⟨xb, eb⟩ : ∃ xb, boolW tl = xb := ⟨_, rfl⟩
   obtain ⟨xn, en⟩ : ∃ xn, nameK C b tu = xn := ⟨_, rfl⟩
   have EK := hide ek
   have EB := hide eb
   have EN := hide en
   rw [ek] at lk
   rw [eb] at lb
   rw [en] at ln
   have hd : headTxt C b ⟨tk, tu, tl, fs⟩ = xk ++ (32 :: (xb ++ (32 :: xn))) := by rw [HH.out, ek, eb, en]
   have HD := hide hd
   clear ek eb en hd HH
   have y1 := add_at xk [32] (xk ++ [32]) rfl (by omega) (by simp)
   have y2 := add_at (xk ++ [32]) xb (xk ++ 32 :: xb) (by simp) (by simp; omega) (by omega)
   have y3 := add_at (xk ++ 32 :: xb) [32] (xk ++ 32 :: (xb ++ [32])) (by simp) (by simp; omega) (by simp)
   have y4 := add_at (xk ++ 32 :: (xb ++ [32])) xn (xk ++ 32 :: (xb ++ 32 :: xn)) (by simp) (by simp; omega) (by omega)
   have y5 := add_at l (xk ++ 32 :: (xb ++ 32 :: xn)) (l ++ (xk ++ 32 :: (xb ++ 32 :: xn))) rfl (by omega) (by simp; omega)
   have l5 : (l ++ (xk ++ 32 :: (xb ++ 32 :: xn))).length ≤ 70 * j + 13 := by simp; omega
   obtain ⟨z5, e5⟩ : ∃ z, z = l ++ (xk ++ 32 :: (xb ++ 32 :: xn)) := ⟨_, rfl⟩
   rw [← e5] at y5 l5
   have E5 : Hid (z5 = l ++ headTxt C b ⟨tk, tu, tl, fs⟩) := by show _ = _; rw [e5, HD.out]
   clear e5
   generalize xk ++ 32 :: (xb ++ 32 :: xn) = z4 at y4 y5
   generalize xk ++ 32 :: (xb ++ [32]) = z3 at y3 y4
   generalize xk ++ 32 :: xb = z2 at y2 y3
   generalize xk ++ [32] = z1 at y1 y2
   have j1 : (0 : Int) ≤ (j : Int) := by omega
   have j2 : (j : Int) < (ts.length : Int) := by omega
   have B1 : Below w.heap.size w (wr.alloc (.cells #[.int .i64 tk, .int .i64 tu, .bool tl, .slice fa fs.length fc, .int .i64 v4, .int .i64 v5] 146)) := HB.out.alloc s1 _
   have R1 := Rec.new wr 146 [.int .i64 tk, .int .i64 tu, .bool tl, .slice fa fs.length fc, .int .i64 v4, .int .i64 v5]
   have r0 := R1.cell (o := 0) rfl
   have r1 := R1.cell (o := 1) rfl
   have r2 := R1.cell (o := 2) rfl
   have r3 := R1.cell (o := 3) rfl
   have HB1 := hide B1
   clear HT HK c4 tf R1 B1 qb HD
   go_wp2_with fail
   go_region_held3 (fun w' => w'.cell? ⟨wr.heap.size, 0, none⟩ = some (.int .i64 tk) ∧ w'.cell? ⟨wr.heap.size, 1, none⟩ = some (.int .i64 tu) ∧ w'.cell? ⟨wr.heap.size, 2, none⟩ = some (.bool tl) ∧ w'.cell? ⟨wr.heap.size, 3, none⟩ = some (.slice fa fs.length fc) ∧ Below w.heap.size w w')
    (refine ⟨?_, ?_, ?_, ?_, ?_⟩ <;> first | assumption | exact HB1.out.drew | go_keep)
    ((first
     | (go_at_call 110; have hS := ‹(World.cell? _ ⟨wr.heap.size, 0, none⟩ = some (.int .i64 tk) ∧ _ ∧ _ ∧ _ ∧ Below w.heap.size w _)›; refine (itoa_at _ _ EK.out (by omega) (by omega) w _ hS.2.2.2.2 HP.out).mono ?_; rintro e w3 ⟨rfl, kp, B3⟩; have d0 := kp _ _ _ hS.1; have d1 := kp _ _ _ hS.2.1; have d2 := kp _ _ _ hS.2.2.1; have d3 := kp _ _ _ hS.2.2.2.1; clear hS kp)
     | (go_at_call 111; have hS := ‹(World.cell? _ ⟨wr.heap.size, 0, none⟩ = some (.int .i64 tk) ∧ _ ∧ _ ∧ _ ∧ Below w.heap.size w _)›; refine (formatBool_at _ _ EB.out w _ hS.2.2.2.2).mono ?_; rintro e w3 ⟨rfl, kp, B3⟩; have d0 := kp _ _ _ hS.1; have d1 := kp _ _ _ hS.2.1; have d2 := kp _ _ _ hS.2.2.1; have d3 := kp _ _ _ hS.2.2.2.1; clear hS kp)
     | (go_at_call 112; have hS := ‹(World.cell? _ ⟨wr.heap.size, 0, none⟩ = some (.int .i64 tk) ∧ _ ∧ _ ∧ _ ∧ Below w.heap.size w _)›; refine (kinNamed_at _ _ _ _ _ _ _ EN.out w _ hS.2.2.2.2 HP.out tn (by omega) hcn hc8 HC.out).mono ?_; rintro e w3 ⟨rfl, kp, B3⟩; have d0 := kp _ _ _ hS.1; have d1 := kp _ _ _ hS.2.1; have d2 := kp _ _ _ hS.2.2.1; have d3 := kp _ _ _ hS.2.2.2.1; clear hS kp)))
   rename_i hHeld
   clear hHeld
   have HB3 := hide B3
   clear r0 r1 r2 r3 d0 d1 d2 y1 y2 y3 y4 y5 c0 c1 c2 c3 c5 c6 B3
   go_wp2_with fail
   go_loopw [7, 49] (fun v i wi => ∃ (k : Nat) (m : List UInt8), k ≤ fs.length ∧ i = .int .i64 k ∧ v = .string ⟨m.toArray⟩ ∧ m = z5 ++ fldsTxt C b (fs.take k) ∧ Below w.heap.size w wi) (fun v i wi => fs.length - (intOf i).toNat)
   case atStart => exact ⟨0, z5, Nat.zero_le _, rfl, rfl, by simp [fldsTxt, fldsTok, toksTxt], HB3.out⟩
   case round =>
    clear HB3 d3
    obtain ⟨k, m, hk, rfl, rfl, hm, hb⟩ := hrel
    have HM := hide hm
    have HBi := hide hb
    have s2 := hb.size
    have hml : m.length ≤ 70 * j + 13 + 14 * k := by have := HFl.out k hk; rw [hm]; simp; omega
    clear hm hb
    by_cases hkn : k < fs.length
    ·rcases C4.out with hnil | ⟨b2, off2, rfl, g1, g2, g3⟩
     ·rw [hnil] at hkn; exact absurd hkn (Nat.not_lt_zero _)
     obtain ⟨f0, f1, f2⟩ := (g3 k hkn).same (lo := lo) (hi := hi) (.of_below HBi.out hh) g1 g2
     have fo := TF.out k hkn
     have HS2 := hide (fldsTxt_snoc C b fs k hkn)
     have HF2 := hide (fldTxt_eq C b (fdAt fs k))
     clear g3
     generalize fdAt fs k = f at f0 f1 f2 fo HS2 HF2
     obtain ⟨fk, fo', fm⟩ := f
     obtain ⟨⟨p1, p2⟩, pn⟩ := fo
     simp only at f0 f1 f2 p1 p2 pn HF2
     have lk := itoa_len (n := fk) (by omega) (by omega)
     have lb := boolW_len fm
     have ln := nameK_len (b := b) pn
     obtain ⟨uk, ek⟩ : ∃ xk, Lib.itoa fk = xk := ⟨_, rfl⟩
     obtain ⟨ub, eb⟩ : ∃ xb, boolW fm = xb := ⟨_, rfl⟩
     obtain ⟨un, en⟩ : ∃ xn, nameK C b fo' = xn := ⟨_, rfl⟩
     have FK := hide ek
     have FB := hide eb
     have FN := hide en
     rw [ek] at lk
     rw [eb] at lb
     rw [en] at ln
     have hd : fldTxt C b ⟨fk, fo', fm⟩ = (44 :: (uk ++ 32 :: ub)) ++ (if fk = 1 then [] else 32 :: un) := by rw [HF2.out, ek, eb, en]
     have HD2 := hide hd
     clear ek eb en hd HF2
     have y1 := add_at [44] uk (44 :: uk) rfl (by simp) (by omega)
     have y2 := add_at (44 :: uk) [32] (44 :: (uk ++ [32])) (by simp) (by simp; omega) (by simp)
     have y3 := add_at (44 :: (uk ++ [32])) ub (44 :: (uk ++ 32 :: ub)) (by simp) (by simp; omega) (by omega)
     have y4 := add_at m (44 :: (uk ++ 32 :: ub)) (m ++ 44 :: (uk ++ 32 :: ub)) rfl (by omega) (by simp; omega)
     have y5 := add_at [32] un (32 :: un) rfl (by simp) (by omega)
     have y6 := add_at (m ++ 44 :: (uk ++ 32 :: ub)) (32 :: un) (m ++ 44 :: (uk ++ 32 :: (ub ++ 32 :: un))) (by simp) (by simp; omega) (by simp; omega)
     obtain ⟨q6, e6⟩ : ∃ z, z = m ++ 44 :: (uk ++ 32 :: (ub ++ 32 :: un)) := ⟨_, rfl⟩
     obtain ⟨q4, e4⟩ : ∃ z, z = m ++ 44 :: (uk ++ 32 :: ub) := ⟨_, rfl⟩
     rw [← e6] at y6
     rw [← e4] at y4 y6
     have E6 : Hid (fk ≠ 1 → q6 = m ++ fldTxt C b ⟨fk, fo', fm⟩) := fun h => by rw [e6, HD2.out, if_neg h]; simp
     have E4 : Hid (fk = 1 → q4 = m ++ fldTxt C b ⟨fk, fo', fm⟩) := fun h => by rw [e4, HD2.out, if_pos h]; simp
     clear e6 e4 HD2
     generalize 32 :: un = q5 at y5 y6
     generalize 44 :: (uk ++ 32 :: ub) = q3 at y3 y4
     generalize 44 :: (uk ++ [32]) = q2 at y2 y3
     generalize 44 :: uk = q1 at y1 y2
     have j3 : (0 : Int) ≤ (k : Int) := by omega
     have j4 : (k : Int) < (fs.length : Int) := by omega
     have B1 : Below w.heap.size w (wr.alloc (.cells #[.int .i64 fk, .int .i64 fo', .bool fm] 70)) := HBi.out.alloc s2 _
     have R1 := Rec.new wr 70 [.int .i64 fk, .int .i64 fo', .bool fm]
     have r0 := R1.cell (o := 0) rfl
     have r1 := R1.cell (o := 1) rfl
     have r2 := R1.cell (o := 2) rfl
     have HB1 := hide B1
     clear R1 B1
     go_wp2_with fail
     go_region_held3 (fun w' => w'.cell? ⟨wr.heap.size, 0, none⟩ = some (.int .i64 fk) ∧ w'.cell? ⟨wr.heap.size, 1, none⟩ = some (.int .i64 fo') ∧ w'.cell? ⟨wr.heap.size, 2, none⟩ = some (.bool fm) ∧ Below w.heap.size w w')
      (refine ⟨?_, ?_, ?_, ?_⟩ <;> first | assumption | exact HB1.out.drew | go_keep)
      ((first
       | (go_at_call 110; have hS := ‹(World.cell? _ ⟨wr.heap.size, 0, none⟩ = some (.int .i64 fk) ∧ _ ∧ _ ∧ Below w.heap.size w _)›; refine (itoa_at _ _ FK.out (by omega) (by omega) w _ hS.2.2.2 HP.out).mono ?_; rintro e w3 ⟨rfl, kp, B3⟩; have d0 := kp _ _ _ hS.1; have d1 := kp _ _ _ hS.2.1; have d2 := kp _ _ _ hS.2.2.1; clear hS kp)
       | (go_at_call 111; have hS := ‹(World.cell? _ ⟨wr.heap.size, 0, none⟩ = some (.int .i64 fk) ∧ _ ∧ _ ∧ Below w.heap.size w _)›; refine (formatBool_at _ _ FB.out w _ hS.2.2.2).mono ?_; rintro e w3 ⟨rfl, kp, B3⟩; have d0 := kp _ _ _ hS.1; have d1 := kp _ _ _ hS.2.1; have d2 := kp _ _ _ hS.2.2.1; clear hS kp)))
     rename_i hHeld
     clear hHeld
     have HB4 := hide B3
     clear r0 r1 r2 y1 y2 y3 y4 f0 f1 f2 B3
     by_cases hf1 : fk = 1
     ·subst hf1
      go_wp2_with fail
      exact ⟨⟨k + 1, q4, by omega, by go_num, rfl, by rw [E4.out rfl, HM.out, HS2.out, List.append_assoc], HB4.out⟩, by simp [intOf]; omega⟩
     ·have nf : (fk != 1) = true := by simpa using hf1
      go_wp2_with fail
      refine (kinNamed_at _ _ _ _ _ _ _ FN.out w _ HB4.out HP.out pn (by omega) hcn hc8 HC.out).mono ?_
      rintro e w4 ⟨rfl, kp, B5⟩
      have HB5 := hide B5
      clear B5 kp
      go_wp2_with fail
      exact ⟨⟨k + 1, q6, by omega, by go_num, rfl, by rw [E6.out hf1, HM.out, HS2.out, List.append_assoc], HB5.out⟩, by simp [intOf]; omega⟩
    ·have hke : Hid (k = fs.length) := Nat.le_antisymm hk (Nat.le_of_not_lt hkn)
     have y1 := add_at m [59] (m ++ [59]) rfl (by omega) (by simp)
     obtain ⟨q1, e1⟩ : ∃ z, z = m ++ [59] := ⟨_, rfl⟩
     rw [← e1] at y1
     have E1 := hide e1
     clear e1
     go_wp2_with fail
     have eq : q1 = grpTxt C b (ts.take (j + 1)) := by
      rw [E1.out, HM.out, hke.out, List.take_length, E5.out, HL.out, HSn.out, HRow.out]
      simp [List.append_assoc]
     exact ⟨⟨j + 1, q1, by omega, by go_num, rfl, eq, HBi.out⟩, by simp [intOf]; omega⟩
  ·have hje : Hid (j = ts.length) := Nat.le_antisymm hj (Nat.le_of_not_lt hjn)
   go_wp2_with fail
   go_ret
   refine ⟨?_, HB.out⟩
   have e := HL.out
   rw [hje.out, List.take_length] at e
   rw [e]; rfl
end Go.Proofs.YtembifoimiochaaGreatDoor
namespace Go.Proofs.YtembifoimiochaaGreatDoor
open Go.ChangeShapes Go.WideShapes Go.ChangeAt Go.RowKit Go.Maps
set_option linter.unusedVariables false
def firstsD (gs : List (List Ty)) : Nat → DataW Unit
 | 0 => .map []
 | x + 1 => if Maps.has (firstsD gs x) (.string (txt gs x)) then firstsD gs x else (firstsD gs x).put (.string (txt gs x)) (.lit (.int .i64 (beg gs x : Nat)))
theorem firsts_isMap (gs : List (List Ty)) (x : Nat) : IsMap (firstsD gs x) := by
 induction x with
 | zero => exact isMap_empty
 | succ x ih =>
  unfold firstsD
  split
  ·exact ih
  ·exact ih.put _ _
theorem firsts_has (gs : List (List Ty)) : ∀ x s, Maps.has (firstsD gs x) (.string s) = true ↔ ∃ y, y < x ∧ txt gs y = s := by
 intro x
 induction x with
 | zero =>
  intro s; constructor
  ·intro h; cases h
  ·rintro ⟨y, h, _⟩; omega
 | succ x ih =>
  intro s
  unfold firstsD
  split
  ·rename_i h
   rw [ih]
   constructor
   ·rintro ⟨y, h1, h2⟩; exact ⟨y, by omega, h2⟩
   ·rintro ⟨y, h1, h2⟩
    by_cases e : y = x
    ·subst e
     obtain ⟨z, h3, h4⟩ := (ih _).1 h
     exact ⟨z, h3, h4.trans h2⟩
    ·exact ⟨y, by omega, h2⟩
  ·by_cases e : s = txt gs x
   ·subst e
    rw [has_put_same (firsts_isMap gs x) (k := .string (txt gs x)) (by exact trivial)]
    simp only [true_iff]
    exact ⟨x, by omega, rfl⟩
   ·rw [has_put_other (by intro h; exact e (by injection h)), ih]
    constructor
    ·rintro ⟨y, h1, h2⟩; exact ⟨y, by omega, h2⟩
    ·rintro ⟨y, h1, h2⟩
     by_cases e' : y = x
     ·subst e'; exact absurd h2.symm e
     ·exact ⟨y, by omega, h2⟩
theorem lead_eq {gs : List (List Ty)} {x y : Nat} (h : txt gs y = txt gs x) : lead gs y = lead gs x := by
 have h1 := lead_least gs x (lead gs y) ((lead_txt gs y).trans h)
 have h2 := lead_least gs y (lead gs x) ((lead_txt gs x).trans h.symm)
 omega
theorem firsts_at (gs : List (List Ty)) (z : DataW Unit) : ∀ x y, y < x → (firstsD gs x).atKey (.string (txt gs y)) z = .lit (.int .i64 (beg gs (lead gs y) : Nat)) := by
 intro x
 induction x with
 | zero => intro y h; omega
 | succ x ih =>
  intro y hy
  unfold firstsD
  split
  ·rename_i h
   by_cases e : y = x
   ·subst e
    obtain ⟨v, h3, h4⟩ := (firsts_has gs _ _).1 h
    rw [← h4, ih v h3, lead_eq h4]
   ·exact ih y (by omega)
  ·rename_i h
   by_cases e : txt gs y = txt gs x
   ·rw [e, atKey_put_same (firsts_isMap gs x) (k := .string (txt gs x)) (by exact trivial), lead_eq e]
    have h1 := lead_le gs x
    have h2 : ¬ lead gs x < x := fun hl => h ((firsts_has gs _ _).2 ⟨_, hl, lead_txt gs x⟩)
    rw [show lead gs x = x by omega]
   ·rw [atKey_put_other (by intro h; exact e (by injection h))]
    exact ih y (by
     by_cases e' : y = x
     ·subst e'; exact absurd rfl e
     ·omega)
theorem lead_new {gs : List (List Ty)} {x : Nat} (h : Maps.has (firstsD gs x) (.string (txt gs x)) = false) : lead gs x = x := by
 have h1 := lead_le gs x
 have h2 : ¬ lead gs x < x := fun hl => by rw [(firsts_has gs _ _).2 ⟨_, hl, lead_txt gs x⟩] at h; cases h
 omega
theorem lead_old {gs : List (List Ty)} {x : Nat} (h : Maps.has (firstsD gs x) (.string (txt gs x)) = true) (z : DataW Unit) : (firstsD gs x).atKey (.string (txt gs x)) z = .lit (.int .i64 (beg gs (lead gs x) : Nat)) := by
 obtain ⟨y, h1, h2⟩ := (firsts_has gs _ _).1 h
 rw [← h2, firsts_at gs z x y h1, lead_eq h2]
theorem rowsTo_at (G : Nat → List Ty) (x i : Nat) (hi : i < (G x).length) : ∀ k, x < k → krAt (rowsTo G k) (countTo G x + i) = ⟨tyAt (G x) i, countTo G x, countTo G (x + 1)⟩ := by
 intro k
 induction k with
 | zero => intro h; omega
 | succ k ih =>
  intro hk
  by_cases e : x = k
  ·subst e
   have hl := rowsTo_length G x
   simp [rowsTo, krAt, List.getD, List.getElem?_append_right (show (rowsTo G x).length ≤ countTo G x + i by omega), hl, List.getElem?_eq_getElem hi, tyAt, countTo]
  ·have hm := countTo_mono G (show x + 1 ≤ k by omega)
   have h1 : countTo G (x + 1) = countTo G x + (G x).length := rfl
   rw [rowsTo, krAt_append_left _ _ _ (by rw [rowsTo_length]; omega)]
   exact ih (by omega)
theorem rows_at {gs : List (List Ty)} {x i : Nat} (hx : x < gs.length) (hi : i < (grAt gs x).length) : krAt (rowsOf gs) (beg gs x + i) = ⟨tyAt (grAt gs x) i, beg gs x, beg gs (x + 1)⟩ := rowsTo_at (grAt gs) x i hi gs.length hx
theorem parts_len4 {gs : List (List Ty)} (hP : Parts gs) {x i : Nat} (hx : x < gs.length) (hi : i < (grAt gs x).length) : (tyAt (grAt gs x) i).fields.length ≤ 4 := (parts_bounds hP.w hx hi).1
theorem beg_succ (gs : List (List Ty)) (x : Nat) : beg gs (x + 1) = beg gs x + (grAt gs x).length := rfl
theorem kinWritten_any (rb ro rc lo hi : Nat) (ca : Option Addr) (cc : Nat) (gs : List (List Ty)) (x : Nat) (w : World) (hP : Parts gs) (hp : pow10 w) (hh : hi ≤ w.heap.size) (hx : x < gs.length) (h1 : lo ≤ rb) (h2 : rb < hi) (hrc : kinCount gs ≤ rc)
  (hR : ∀ i, i < kinCount gs → TypeAt w lo hi rb (ro + i * 6) (krAt (rowsOf gs) i).t ∧ w.cell? ⟨rb, ro + i * 6 + 4, none⟩ = some (.int .i64 ((krAt (rowsOf gs) i).b : Nat)) ∧ w.cell? ⟨rb, ro + i * 6 + 5, none⟩ = some (.int .i64 ((krAt (rowsOf gs) i).e : Nat)))
  (hC : CanIn w ca (beg gs x) (canon gs)) :
  Calls Tryz.prog 100 #[.slice (some ⟨rb, ro, none⟩) (kinCount gs) rc, .slice ca (kinCount gs) cc, .int .i64 (beg gs x : Nat)] w fun e w' => e = .returned (.string ⟨(txt gs x).toArray⟩) ∧ Below w.heap.size w w' := by
 have hc : beg gs (x + 1) ≤ kinCount gs := beg_le hx
 have hs := beg_succ gs x
 have h0 := (hP.2.2 x hx).1
 have hrow : ∀ i, i < (grAt gs x).length → TypeAt w lo hi rb (ro + beg gs x * 6 + i * 6) (tyAt (grAt gs x) i) ∧ w.cell? ⟨rb, ro + beg gs x * 6 + i * 6 + 4, none⟩ = some (.int .i64 (beg gs x : Nat)) ∧ w.cell? ⟨rb, ro + beg gs x * 6 + i * 6 + 5, none⟩ = some (.int .i64 (beg gs (x + 1) : Nat)) := by
  intro i hi
  have h := hR (beg gs x + i) (by omega)
  rw [rows_at hx hi, Nat.add_mul, ← Nat.add_assoc] at h
  exact h
 refine kinWritten_core rb ro (kinCount gs) rc lo hi ca (kinCount gs) cc (beg gs x) (grAt gs x) (canon gs) w hp hh h1 h2 (parts_tyOk hP hx) (fun i hi => parts_len4 hP hx hi) h0 (by omega) hP.2.1 hrc (fun i hi => (hrow i hi).1) ?_ (fun i hi => ⟨⟨_, (hrow i hi).2.1⟩, _, (hrow i hi).2.2⟩) (beg_le (Nat.le_of_lt hx)) hP.2.1 hC
 have := (hrow 0 h0).2.2
 rw [hs] at this
 simpa using this
def filledN (f : Nat → Nat) (k : Nat) : Nat → Value := fun j => if j < k then .int .i64 (f j : Nat) else .int .i64 0
theorem filledN_step (f : Nat → Nat) (k : Nat) {n : Nat} (j : Nat) (_ : j < n) : (if j = k then Value.int .i64 (f k : Nat) else filledN f k j) = filledN f (k + 1) j := by
 unfold filledN
 by_cases e : j = k
 ·subst e; simp
 ·rw [if_neg e]
  by_cases h : j < k
  ·rw [if_pos h, if_pos (by omega)]
  ·rw [if_neg h, if_neg (by omega)]
theorem rowIs_below {w w' : World} {b n B : Nat} {t : TypeId} {f : Nat → Value} (h : w.rowIs b t n f) (hb : Below B w w') (hB : b < B) : w'.rowIs b t n f := h.of_block (hb.block b hB)
theorem ownsMap_below {w w' : World} {P : Program} {K : TypeId} {R : Value → Option (DataW Unit × List MemPlace)} {b n B : Nat} {D : DataW Unit} (h : w.ownsMap P K R b n D) (hb : Below B w w') (hB : b < B) : w'.ownsMap P K R b n D := by
 obtain ⟨es, clock, h1, h2⟩ := h
 exact ⟨es, clock, (hb.block b hB).trans h1, h2⟩
theorem rowIs_canIn {w : World} {b n k : Nat} {t : TypeId} {f : Nat → Nat} (h : w.rowIs b t n (filledN f k)) (hk : k ≤ n) : CanIn w (some ⟨b, 0, none⟩) k f := by
 refine .inr ⟨b, 0, rfl, h.lt, fun i hi => ?_⟩
 rw [Nat.zero_add, h.cell (show i < n by omega)]
 simp [filledN, hi]
theorem Tryz.keyS : Keyed Tryz.prog 9 := string_keyed Tryz.underlying9
theorem Tryz.zeroI (w : World) : (zeroValue 3).run Tryz.prog w = .ok (.int .i64 0) w := by kernel_rfl
theorem Tryz.infoIntC : (Tryz.prog.info? 3).map (fun i => (i.zero, i.size, i.bytes)) = some (some (.int .i64 0), 1, 8) := by kernel_rfl
end Go.Proofs.YtembifoimiochaaGreatDoor
