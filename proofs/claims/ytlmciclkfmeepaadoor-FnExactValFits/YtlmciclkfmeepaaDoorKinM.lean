/- kinTableOf and KinOk of the program. -/
import Derived.Test.YtlmciclkfmeepaaDoorKinL
namespace Go.Proofs.YtlmciclkfmeepaaDoor
open Go.ChangeShapes Go.WideShapes Go.ChangeAt Go.RowKit
set_option linter.unusedVariables false

theorem RowRow.cap {w : World} {lo hi S cap : Nat} {a : Option Addr} {rs : List Kr} (h : RowRow w lo hi S a cap rs) : rs.length ≤ cap := by
  obtain ⟨xs, ho, _⟩ := h
  rcases ho.2 with ⟨hv, h0⟩ | ⟨g, cap', cur, hv, hb, hg, h1, _⟩
  · simp only [Value.slice.injEq] at hv; omega
  · simp only [Value.slice.injEq] at hv; omega

theorem kinFlat_cap (a : Option Addr) (cap lo hi : Nat) (gs : List (List Ty)) (w : World) (hn : Few gs) (hx : GroupsIn w lo hi a gs) (hh : hi ≤ w.heap.size) (hl : lo ≤ hi) :
    Calls Tryd.prog 45 #[.slice a gs.length cap] w fun e w' => ∃ na nc, e = .returned (.slice na (kinCount gs) nc) ∧ RowsIn w' lo w'.heap.size na (rowsOf gs) ∧ kinCount gs ≤ nc ∧ Below w.heap.size w w' := by
  refine (kinFlat_core a cap gs.length lo hi (grAt gs) w hn.1 (fun i hi => (hn.2 i hi).1) hh ?_).mono ?_
  · rcases hx with rfl | ⟨b, off, rfl, h1, h2, h3⟩
    · exact .inl (Nat.le_refl _)
    · exact .inr ⟨b, off, rfl, h1, h2, h3⟩
  · rintro e w' ⟨na, nc, rfl, hT, hb⟩
    have hc := hT.cap
    rw [rowsTo_length] at hc
    exact ⟨na, nc, rfl, hT.rows (Nat.le_trans hh hb.size) (by omega), hc, hb⟩

theorem few_rows {gs : List (List Ty)} (hN : Few gs) : ∀ i, i < (rowsOf gs).length → (krAt (rowsOf gs) i).t.fields.length ≤ 1048576 := by
  intro i hi
  rw [rows_len] at hi
  obtain ⟨g1, g2, g3⟩ := grp_place hi
  have h := rows_at (gs := gs) g1 g2
  rw [g3] at h
  rw [h]
  exact (hN.2 _ g1).2 _ g2

/-- No number stands in block r. -/
def NotInt (w : World) (r : Nat) : Prop := ∀ o k v, w.cell? ⟨r, o, none⟩ ≠ some (.int k v)
theorem Rec.notInt {w : World} {r : Nat} {T : TypeId} {a d : Option Addr} {b c e f : Nat} (h : Rec w r T [.slice a b c, .slice d e f]) : NotInt w r := by
  intro o k v hc
  unfold Rec at h
  simp only [World.cell?, h] at hc
  match o, hc with
  | 0, hc => simp at hc
  | 1, hc => simp at hc
  | o + 2, hc => simp at hc
theorem cell_other {w : World} {b r o o' : Nat} {v u : Value} (hb : b ≠ r) (h : w.cell? ⟨b, o, none⟩ = some v) : (w.setCell ⟨r, o', none⟩ u).cell? ⟨b, o, none⟩ = some v := by
  rw [World.cell?_setCell_other _ _ _ _ (by intro e; cases e; exact hb rfl)]; exact h
theorem FieldsIn.other {w : World} {lo hi r o : Nat} {a : Option Addr} {fs : List Fd} {u : Value} (h : FieldsIn w lo hi a fs) (hr : NotInt w r) : FieldsIn (w.setCell ⟨r, o, none⟩ u) lo hi a fs := by
  rcases h with rfl | ⟨b, off, e, h1, h2, h3⟩
  · exact .inl rfl
  · refine .inr ⟨b, off, e, h1, h2, fun i hi => ?_⟩
    obtain ⟨x, y, z⟩ := h3 i hi
    have hb : b ≠ r := fun e => by subst e; exact hr _ _ _ x
    exact ⟨cell_other hb x, cell_other hb y, cell_other hb z⟩
theorem TypeAt.other {w : World} {lo hi r o b off : Nat} {t : Ty} {u : Value} (h : TypeAt w lo hi b off t) (hr : NotInt w r) : b ≠ r ∧ TypeAt (w.setCell ⟨r, o, none⟩ u) lo hi b off t := by
  obtain ⟨x, y, z, fa, fc, v, f⟩ := h
  have hb : b ≠ r := fun e => by subst e; exact hr _ _ _ x
  exact ⟨hb, cell_other hb x, cell_other hb y, cell_other hb z, fa, fc, cell_other hb v, f.other hr⟩
theorem RowsIn.other {w : World} {lo hi r o : Nat} {a : Option Addr} {rs : List Kr} {u : Value} (h : RowsIn w lo hi a rs) (hr : NotInt w r) : RowsIn (w.setCell ⟨r, o, none⟩ u) lo hi a rs := by
  rcases h with rfl | ⟨b, off, e, h1, h2, h3⟩
  · exact .inl rfl
  · refine .inr ⟨b, off, e, h1, h2, fun i hi => ?_⟩
    obtain ⟨x, y, z⟩ := h3 i hi
    obtain ⟨hb, x'⟩ := x.other (o := o) (u := u) hr
    exact ⟨x', cell_other hb y, cell_other hb z⟩
theorem TabIn.other {w : World} {lo hi r o : Nat} {ra : Option Addr} {cb co : Nat} {gs : List (List Ty)} {u : Value} (h : TabIn w lo hi ra cb co gs) (hr : NotInt w r) : TabIn (w.setCell ⟨r, o, none⟩ u) lo hi ra cb co gs := by
  refine ⟨h.1.other hr, h.2.1, fun i hi => ?_⟩
  have x := h.2.2 i hi
  have hb : cb ≠ r := fun e => by subst e; exact hr _ _ _ x
  exact cell_other hb x

def Table (gs : List (List Ty)) (lo : Nat) (e : Ending) (w' : World) : Prop :=
  (kinOkF gs = false ∧ e = .returned (.tuple #[.agg #[.slice none 0 0, .slice none 0 0], .bool false])) ∨
  (kinOkF gs = true ∧ Parts gs ∧ ∃ ra rc cb, e = .returned (.tuple #[.agg #[.slice ra (kinCount gs) rc, .slice (some ⟨cb, 0, none⟩) (kinCount gs) (kinCount gs)], .bool true]) ∧ TabIn w' lo w'.heap.size ra cb 0 gs)

set_option maxHeartbeats 3200000 in
set_option maxRecDepth 100000 in
theorem kinTableOf_any (ga : Option Addr) (gc lo hi : Nat) (gs : List (List Ty)) (w : World) (hN : Few gs) (hl : lo ≤ hi) (hh : hi ≤ w.heap.size) (hx : GroupsIn w lo hi ga gs) (hp : pow10 w) :
    Calls Tryd.prog 25 #[.slice ga gs.length gc] w fun e w' => Table gs lo e w' ∧ Below w.heap.size w w' := by
  have HN := hide hN
  have HX := hide hx
  have Hp := hide hp
  have n2 := kinCount_le hN
  have n1 := hN.1
  clear hN hx hp
  have r0 : Rec (w.alloc (.cells #[.slice none 0 0, .slice none 0 0] 62)) w.heap.size 62 [.slice none 0 0, .slice none 0 0] := Rec.new _ _ _
  have b0 : Below w.heap.size w (w.alloc (.cells #[.slice none 0 0, .slice none 0 0] 62)) := (Below.refl _ _).alloc (Nat.le_refl _) _
  have R0 := hide r0
  have B0 := hide b0
  clear r0 b0
  go_enter Tryd.func25, Tryd.ntmps25
  go_wp2_with fail
  refine (kinFewEnough_any ga gc lo hi gs _ HN.out (HX.out.keep (B0.out.mono hh))).mono ?_
  rintro e w1 ⟨rfl, rfl⟩
  cases hfew : fewF gs with
  | false =>
    have HZ := hide (kinOk_few hfew)
    clear hfew
    have c0 := R0.out.cell (o := 0) rfl
    have c1 := R0.out.cell (o := 1) rfl
    go_wp2_with fail
    refine bodyPost_ret (v := .tuple #[.agg #[.slice none 0 0, .slice none 0 0], .bool false]) (by simp [results, Tryd.results25, go_sem]) rfl ⟨.inl ⟨HZ.out, rfl⟩, B0.out⟩
  | true =>
    have HFew := hide hfew
    have k8 : kinCount gs ≤ 8 := by
      unfold fewF at hfew
      simp only [Bool.and_eq_true, decide_eq_true_eq] at hfew
      exact hfew.2.2
    clear hfew
    go_wp2_with fail
    refine (kinFlat_cap ga gc lo hi gs _ HN.out (HX.out.keep (B0.out.mono hh)) (Nat.le_trans hh B0.out.size) hl).mono ?_
    rintro e w1 ⟨na, nc, rfl, hrows, hnc, hb1⟩
    have HRows := hide hrows
    have R1 := hide (R0.out.below hb1 R0.out.lt)
    have B1 := hide (B0.out.trans (hb1.mono B0.out.size))
    clear hrows hb1 R0 B0
    go_wp2_with fail
    go_loopw [16] (fun i wr => ∃ j : Nat, j ≤ kinCount gs ∧ i = .int .i64 j ∧ wellAll gs j = true ∧ Below w.heap.size w wr ∧ Below w1.heap.size w1 wr ∧ Rec wr w.heap.size 62 [.slice none 0 0, .slice none 0 0]) (fun i wr => kinCount gs - (intOf i).toNat)
    case atStart => exact ⟨0, Nat.zero_le _, rfl, rfl, B1.out, Below.refl _ _, R1.out⟩
    case round =>
      clear B1 R1
      obtain ⟨j, hj, rfl, hA, hb, hbb, hr⟩ := hrel
      have HA := hide hA
      have HB := hide hb
      have HBB := hide hbb
      have HR := hide hr
      have s1 := hb.size
      have s2 := hbb.size
      clear hA hb hbb hr
      by_cases hjn : j < kinCount gs
      · have hcall := kinWellFormed_any na nc lo w1.heap.size (rowsOf gs) j wr (by rw [rows_len]; omega) (few_rows HN.out) (HRows.out.keep HBB.out) s2 (by rw [rows_len]; exact hjn)
        rw [rows_len] at hcall
        have HCall := hide hcall
        have HA1 : Hid (wellF (rowsOf gs) j = true → wellAll gs (j + 1) = true) := fun h => by
          show (wellAll gs j && wellF (rowsOf gs) j) = true
          rw [HA.out, h]; rfl
        have HA2 : Hid (wellF (rowsOf gs) j = false → kinOkF gs = false) := fun h => kinOk_well (allTo_false hjn h)
        clear hcall
        generalize wellF (rowsOf gs) j = v at HCall HA1 HA2
        go_wp2_with fail
        refine HCall.out.mono ?_
        rintro e w2 ⟨rfl, hb2⟩
        have B2 := hide (HB.out.trans (hb2.mono s1))
        have BB2 := hide (HBB.out.trans (hb2.mono s2))
        have R2 := hide (HR.out.below hb2 HR.out.lt)
        have c0 := R2.out.cell (o := 0) rfl
        have c1 := R2.out.cell (o := 1) rfl
        have f0 := R2.out.frozen 0
        have f1 := R2.out.frozen 1
        clear hb2
        cases v with
        | true =>
          go_wp2_with fail
          exact ⟨⟨j + 1, by omega, by go_num, HA1.out (by first | rfl | trivial), B2.out, BB2.out, R2.out⟩, by simp [intOf]; omega⟩
        | false =>
          have HZ := hide (HA2.out rfl)
          clear HA1 HA2
          go_wp2_with fail
          have RF := (R2.out.set 0 (.slice none 0 0)).set 1 (.slice none 0 0)
          have q0 := RF.cell (o := 0) rfl
          have q1 := RF.cell (o := 1) rfl
          refine bodyPost_ret (v := .tuple #[.agg #[.slice none 0 0, .slice none 0 0], .bool false]) (by simp [results, Tryd.results25, go_sem, q0, q1]) rfl ⟨.inl ⟨HZ.out, rfl⟩, ?_⟩
          exact (B2.out.setCell (Nat.le_refl _) _).setCell (Nat.le_refl _) _
      · have hje : Hid (j = kinCount gs) := Nat.le_antisymm hj (Nat.le_of_not_lt hjn)
        have hw : wellAll gs (kinCount gs) = true := by rw [← hje.out]; exact HA.out
        have HW := hide hw
        obtain ⟨hP, hU⟩ := wellAll_parts HFew.out hw
        have HP := hide hP
        have HU := hide hU
        have hrows := HRows.out.keep HBB.out
        have HRc : gs.length ≤ 0 ∨ ∃ rb ro, na = some ⟨rb, ro, none⟩ ∧ lo ≤ rb ∧ rb < w1.heap.size ∧ ∀ i, i < kinCount gs → TypeAt wr lo w1.heap.size rb (ro + i * 6) (krAt (rowsOf gs) i).t ∧ wr.cell? ⟨rb, ro + i * 6 + 4, none⟩ = some (.int .i64 ((krAt (rowsOf gs) i).b : Nat)) ∧ wr.cell? ⟨rb, ro + i * 6 + 5, none⟩ = some (.int .i64 ((krAt (rowsOf gs) i).e : Nat)) := by
          rcases hrows with h0 | ⟨rb, ro, e1, e2, e3, e4⟩
          · left
            have hl0 := rows_len gs
            rw [h0] at hl0
            have hk0 : kinCount gs = 0 := by simpa using hl0.symm
            by_cases hg : 0 < gs.length
            · have h1 := (hP.2.2 0 hg).1
              have h2 := (grp_at (gs := gs) hg h1).1
              omega
            · omega
          · exact .inr ⟨rb, ro, e1, e2, e3, fun i hi => e4 i (by rw [rows_len]; exact hi)⟩
        have hcn := kinCanons_core na nc lo w1.heap.size gs wr hP (pow10_keep Hp.out HB.out) s2 hnc HRc
        have hrlt := HR.out.lt
        obtain ⟨w3s, hw3⟩ : ∃ k, wr.heap.size = k := ⟨_, rfl⟩
        rw [hw3] at hcn s1 s2 hrlt
        have HCan := hide hcn
        clear hw hP hU hrows HRc hcn hw3
        go_wp2_with fail
        refine HCan.out.mono ?_
        rintro e w2 ⟨rfl, hcan, hb2⟩
        have HC2 := hide hcan
        have HR2 := hide (HR.out.below hb2 hrlt)
        have HB2 := hide (HB.out.trans (hb2.mono s1))
        have HBB2 := hide (HBB.out.trans (hb2.mono s2))
        have s3 := hcan.lt
        have s4 := hb2.size
        have tab : TabIn w2 lo w2.heap.size na w3s 0 gs := ⟨(HRows.out.keep HBB2.out).same (fun _ _ _ => rfl) (Nat.le_refl _) HBB2.out.size, s3, fun i hi => by
          rw [Nat.zero_add, hcan.cell hi]
          simp [filledN, hi]⟩
        have HTab := hide tab
        clear hcan hb2 HCan tab HBB HB HR HRows
        have rt : Rec (w2.alloc (.cells #[.slice na (kinCount gs) nc, .slice (some ⟨w3s, 0, none⟩) (kinCount gs) (kinCount gs)] 62)) w2.heap.size 62 [.slice na (kinCount gs) nc, .slice (some ⟨w3s, 0, none⟩) (kinCount gs) (kinCount gs)] := Rec.new _ _ _
        have RT := hide rt
        have RR := hide (HR2.out.alloc (.cells #[.slice na (kinCount gs) nc, .slice (some ⟨w3s, 0, none⟩) (kinCount gs) (kinCount gs)] 62))
        have BT := hide (HB2.out.alloc (by omega) (.cells #[.slice na (kinCount gs) nc, .slice (some ⟨w3s, 0, none⟩) (kinCount gs) (kinCount gs)] 62))
        have BW := hide ((Below.refl w2.heap.size w2).alloc (Nat.le_refl _) (.cells #[.slice na (kinCount gs) nc, .slice (some ⟨w3s, 0, none⟩) (kinCount gs) (kinCount gs)] 62))
        clear rt HR2 HB2
        go_wp2_with fail
        go_loopw [31] (fun i wi => ∃ k : Nat, k ≤ kinCount gs ∧ i = .int .i64 k ∧ fitsAll gs k = true ∧ Below w.heap.size w wi ∧ Below w2.heap.size w2 wi ∧ Rec wi w.heap.size 62 [.slice none 0 0, .slice none 0 0] ∧ Rec wi w2.heap.size 62 [.slice na (kinCount gs) nc, .slice (some ⟨w3s, 0, none⟩) (kinCount gs) (kinCount gs)]) (fun i wi => kinCount gs - (intOf i).toNat)
        case atStart => exact ⟨0, Nat.zero_le _, rfl, rfl, BT.out, BW.out, RR.out, RT.out⟩
        case round =>
          clear BT BW RR RT
          obtain ⟨k, hk, rfl, hA', hb, hbb, hr, ht⟩ := hrel
          have HA' := hide hA'
          have HB := hide hb
          have HBB := hide hbb
          have HR := hide hr
          have HT := hide ht
          have s5 := hb.size
          have s6 := hbb.size
          have t0 := ht.cell (o := 0) rfl
          have t1 := ht.cell (o := 1) rfl
          have c0 := hr.cell (o := 0) rfl
          have c1 := hr.cell (o := 1) rfl
          have f0 := hr.frozen 0
          have f1 := hr.frozen 1
          clear hA' hb hbb hr ht
          by_cases hkn : k < kinCount gs
          · have hcall := fitsAbove_any na nc w3s 0 (kinCount gs) lo w2.heap.size gs k wr HP.out (HTab.out.keep HBB.out) s6 hkn (fun h0 => by
              have hu := HU.out k hkn
              unfold upN at hu
              have e : decide ((tyN gs k).up < 0) = false := by simp; omega
              rw [e] at hu
              simp only [Bool.false_or, Bool.and_eq_true, decide_eq_true_eq] at hu
              exact hu.2.2)
            have HCall := hide hcall
            have HA1 : Hid (fitsAboveF gs k = true → fitsAll gs (k + 1) = true) := fun h => by
              show (fitsAll gs k && fitsAboveF gs k) = true
              rw [HA'.out, h]; rfl
            have HA2 : Hid (fitsAboveF gs k = false → kinOkF gs = false) := fun h => by rw [kinOk_fits HFew.out HW.out]; exact allTo_false hkn h
            clear hcall
            generalize fitsAboveF gs k = v at HCall HA1 HA2
            go_wp2_with fail
            refine HCall.out.mono ?_
            rintro e w3 ⟨rfl, hb3⟩
            have B3 := hide (HB.out.trans (hb3.mono s5))
            have BB3 := hide (HBB.out.trans (hb3.mono s6))
            have R3 := hide (HR.out.below hb3 HR.out.lt)
            have T3 := hide (HT.out.below hb3 HT.out.lt)
            have c0 := R3.out.cell (o := 0) rfl
            have c1 := R3.out.cell (o := 1) rfl
            have f0 := R3.out.frozen 0
            have f1 := R3.out.frozen 1
            clear hb3
            cases v with
            | true =>
              go_wp2_with fail
              exact ⟨⟨k + 1, by omega, by go_num, HA1.out (by first | rfl | trivial), B3.out, BB3.out, R3.out, T3.out⟩, by simp [intOf]; omega⟩
            | false =>
              have HZ := hide (HA2.out rfl)
              clear HA1 HA2
              go_wp2_with fail
              have RF := (R3.out.set 0 (.slice none 0 0)).set 1 (.slice none 0 0)
              have q0 := RF.cell (o := 0) rfl
              have q1 := RF.cell (o := 1) rfl
              refine bodyPost_ret (v := .tuple #[.agg #[.slice none 0 0, .slice none 0 0], .bool false]) (by simp [results, Tryd.results25, go_sem, q0, q1]) rfl ⟨.inl ⟨HZ.out, rfl⟩, ?_⟩
              exact (B3.out.setCell (Nat.le_refl _) _).setCell (Nat.le_refl _) _
          · have hke : Hid (k = kinCount gs) := Nat.le_antisymm hk (Nat.le_of_not_lt hkn)
            have HZ : Hid (kinOkF gs = true) := by show _ = _; rw [kinOk_fits HFew.out HW.out, ← hke.out]; exact HA'.out
            go_wp2_with fail
            have RF := (HR.out.set 0 (.slice na (kinCount gs) nc)).set 1 (.slice (some ⟨w3s, 0, none⟩) (kinCount gs) (kinCount gs))
            have q0 := RF.cell (o := 0) rfl
            have q1 := RF.cell (o := 1) rfl
            have bfin := (HB.out.setCell (p := ⟨w.heap.size, 0, none⟩) (Nat.le_refl _) (.slice na (kinCount gs) nc)).setCell (p := ⟨w.heap.size, 1, none⟩) (Nat.le_refl _) (.slice (some ⟨w3s, 0, none⟩) (kinCount gs) (kinCount gs))
            have tb : TabIn wr lo wr.heap.size na w3s 0 gs := (HTab.out.keep HBB.out).wide (Nat.le_refl _) s6
            have tb1 := tb.other (o := 0) (u := .slice na (kinCount gs) nc) HR.out.notInt
            have tb2 := tb1.other (o := 1) (u := .slice (some ⟨w3s, 0, none⟩) (kinCount gs) (kinCount gs)) (HR.out.set 0 (.slice na (kinCount gs) nc)).notInt
            refine bodyPost_ret (v := .tuple #[.agg #[.slice na (kinCount gs) nc, .slice (some ⟨w3s, 0, none⟩) (kinCount gs) (kinCount gs)], .bool true]) (by simp [results, Tryd.results25, go_sem, q0, q1]) rfl ⟨.inr ⟨HZ.out, HP.out, na, nc, w3s, rfl, ?_⟩, bfin⟩
            exact tb2.wide (Nat.le_refl _) (by simp)

/-- The table of right groups. -/
theorem kinTableOf_ok (ga : Option Addr) (gc lo hi : Nat) (gs : List (List Ty)) (w : World) (hN : Few gs) (hl : lo ≤ hi) (hh : hi ≤ w.heap.size) (hx : GroupsIn w lo hi ga gs) (hp : pow10 w) (hk : kinOkF gs = true) :
    Calls Tryd.prog 25 #[.slice ga gs.length gc] w fun e w' => ∃ ra rc cb, e = .returned (.tuple #[.agg #[.slice ra (kinCount gs) rc, .slice (some ⟨cb, 0, none⟩) (kinCount gs) (kinCount gs)], .bool true]) ∧ TabIn w' lo w'.heap.size ra cb 0 gs ∧ Below w.heap.size w w' := by
  refine (kinTableOf_any ga gc lo hi gs w hN hl hh hx hp).mono ?_
  rintro e w' ⟨⟨h1, _⟩ | ⟨_, _, ra, rc, cb, rfl, ht⟩, hb⟩
  · rw [hk] at h1; cases h1
  · exact ⟨ra, rc, cb, rfl, ht, hb⟩
theorem kinTableOf_no (ga : Option Addr) (gc lo hi : Nat) (gs : List (List Ty)) (w : World) (hN : Few gs) (hl : lo ≤ hi) (hh : hi ≤ w.heap.size) (hx : GroupsIn w lo hi ga gs) (hp : pow10 w) (hk : kinOkF gs = false) :
    Calls Tryd.prog 25 #[.slice ga gs.length gc] w fun e w' => e = .returned (.tuple #[.agg #[.slice none 0 0, .slice none 0 0], .bool false]) ∧ Below w.heap.size w w' := by
  refine (kinTableOf_any ga gc lo hi gs w hN hl hh hx hp).mono ?_
  rintro e w' ⟨⟨_, h1⟩ | ⟨h1, _⟩, hb⟩
  · exact ⟨h1, hb⟩
  · rw [hk] at h1; cases h1
theorem kinOk_parts {gs : List (List Ty)} (h : kinOkF gs = true) : Parts gs := by
  unfold kinOkF at h
  simp only [Bool.and_eq_true] at h
  exact (partsF_iff gs).1 h.1

end Go.Proofs.YtlmciclkfmeepaaDoor
