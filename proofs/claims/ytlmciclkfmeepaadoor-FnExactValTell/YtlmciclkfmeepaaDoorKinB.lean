/- kinWellFormed of the program. -/
import Derived.Test.YtlmciclkfmeepaaDoorKinA
namespace Go.Proofs.YtlmciclkfmeepaaDoor
open Go.ChangeShapes Go.WideShapes Go.ChangeAt Go.RowKit
set_option linter.unusedVariables false

/-- What is above a type is right by its form. -/
def upF (u tk : Int) (fn a : Nat) (rs : List Kr) : Bool :=
  decide (u = -1) || ((decide (0 ≤ u) && decide (u < (a : Int))) && (((krAt rs u.toNat).t.kind == tk) && (!(krAt rs u.toNat).t.last && decide ((krAt rs u.toNat).t.fields.length ≤ fn))))
def okFields (fs : List Fd) (e : Nat) (k : Nat) : Bool := allTo (fun i => fieldOk (fdAt fs i).kind (fdAt fs i).of (e : Int)) k
/-- kinWellFormed. -/
def wellF (rs : List Kr) (a : Nat) : Bool :=
  fieldsFewF (krAt rs a).t.kind (krAt rs a).t.fields.length && (okFields (krAt rs a).t.fields (krAt rs a).e (krAt rs a).t.fields.length && upF (krAt rs a).t.up (krAt rs a).t.kind (krAt rs a).t.fields.length a rs)

set_option maxHeartbeats 1600000 in
set_option maxRecDepth 100000 in
theorem kinWellFormed_any (ra : Option Addr) (rc lo hi : Nat) (rs : List Kr) (a : Nat) (w : World) (hn : rs.length ≤ 1048576) (hf : ∀ i, i < rs.length → (krAt rs i).t.fields.length ≤ 1048576) (hx : RowsIn w lo hi ra rs) (hh : hi ≤ w.heap.size) (ha : a < rs.length) :
    Calls Tryd.prog 46 #[.slice ra rs.length rc, .int .i64 (a : Int)] w fun e w' => e = .returned (.bool (wellF rs a)) ∧ Below w.heap.size w w' := by
  rcases hx with rfl | ⟨b, off, rfl, h1, h2, h3⟩
  · exact absurd ha (Nat.not_lt_zero _)
  have H3 := hide h3
  have HFn := hide hf
  have hfl := hf a ha
  obtain ⟨⟨c0, c1, c2, fa, fc, c3, c4⟩, c5, c6⟩ := h3 a ha
  clear h3 hf
  have HW : Hid (wellF rs a = (fieldsFewF (krAt rs a).t.kind (krAt rs a).t.fields.length && (okFields (krAt rs a).t.fields (krAt rs a).e (krAt rs a).t.fields.length && upF (krAt rs a).t.up (krAt rs a).t.kind (krAt rs a).t.fields.length a rs))) := rfl
  generalize wellF rs a = R at *
  generalize krAt rs a = r at *
  obtain ⟨⟨tk, tu, tl, fs⟩, rb, re⟩ := r
  simp only at hfl c0 c1 c2 c3 c4 c5 c6 HW
  have C4 := hide c4
  clear c4
  have hb5 : b < w.heap.size := Nat.lt_of_lt_of_le h2 hh
  have i1 : (0 : Int) ≤ (a : Int) := by omega
  have i2 : (a : Int) < (rs.length : Int) := by omega
  have r0 : Rec (w.alloc (.cells #[.int .i64 tk, .int .i64 tu, .bool tl, .slice fa fs.length fc, .int .i64 (rb : Nat), .int .i64 (re : Nat)] 98)) w.heap.size 98 [.int .i64 tk, .int .i64 tu, .bool tl, .slice fa fs.length fc, .int .i64 (rb : Nat), .int .i64 (re : Nat)] := Rec.new _ _ _
  have R0 := hide r0
  have b0 : Below w.heap.size w (w.alloc (.cells #[.int .i64 tk, .int .i64 tu, .bool tl, .slice fa fs.length fc, .int .i64 (rb : Nat), .int .i64 (re : Nat)] 98)) := (Below.refl _ _).alloc (Nat.le_refl _) _
  have B0 := hide b0
  clear r0 b0
  go_enter Tryd.func46, Tryd.ntmps46
  go_wp2_with fail
  refine (kinFieldsFew_any tk tu tl fa fs.length fc _ hfl).mono ?_
  rintro e w1 ⟨rfl, hb1⟩
  have R1 := hide (R0.out.below hb1 R0.out.lt)
  have B1 := hide (B0.out.trans (hb1.mono B0.out.size))
  have s1 : w.heap.size < w1.heap.size := R1.out.lt
  clear hb1 R0 B0
  cases hff : fieldsFewF tk fs.length with
  | false =>
    have HZ : Hid (R = false) := by rw [HW.out, hff]; rfl
    clear hff
    go_wp2_with fail
    go_ret
    exact ⟨ret_bool HZ.out.symm, B1.out⟩
  | true =>
    have HZ : Hid (R = (okFields fs re fs.length && upF tu tk fs.length a rs)) := by rw [HW.out, hff]; rfl
    clear hff HW
    have d3 := R1.out.cell (o := 3) rfl
    go_wp2_with fail
    go_loopw [22] (fun i wr => ∃ j : Nat, j ≤ fs.length ∧ i = .int .i64 j ∧ okFields fs re j = true ∧ Below w.heap.size w wr ∧ Rec wr w.heap.size 98 [.int .i64 tk, .int .i64 tu, .bool tl, .slice fa fs.length fc, .int .i64 (rb : Nat), .int .i64 (re : Nat)]) (fun i wr => fs.length - (intOf i).toNat)
    case atStart => exact ⟨0, Nat.zero_le _, rfl, rfl, B1.out, R1.out⟩
    case round =>
      clear R1 B1 d3
      obtain ⟨j, hj, rfl, hA, hb, hr⟩ := hrel
      have HA := hide hA
      have HB := hide hb
      have HR := hide hr
      have s2 : w.heap.size < wr.heap.size := hr.lt
      have d5 := hr.cell (o := 5) rfl
      have d0 := hr.cell (o := 0) rfl
      have d1 := hr.cell (o := 1) rfl
      have d3 := hr.cell (o := 3) rfl
      clear hA hb hr
      by_cases hjn : j < fs.length
      · rcases C4.out with hnil | ⟨b2, off2, rfl, g1, g2, g3⟩
        · rw [hnil] at hjn; exact absurd hjn (Nat.not_lt_zero _)
        obtain ⟨f0, f1, f2⟩ := (g3 j hjn).same (lo := lo) (hi := hi) (.of_below HB.out hh) g1 g2
        clear g3
        go_wp2_with fail
        refine (implFieldOk_any _ _ _ _ _).mono ?_
        rintro e w2 ⟨rfl, hb2⟩
        have q := hide (hb2.mono (show wr.heap.size ≤ _ by simp))
        have HB2 := hide ((HB.out.alloc (Nat.le_of_lt s2) (.cells #[.int .i64 (fdAt fs j).kind, .int .i64 (fdAt fs j).of, .bool (fdAt fs j).mt] 37)).trans (hb2.mono (by simp; omega)))
        have HR2 := hide ((HR.out.alloc (.cells #[.int .i64 (fdAt fs j).kind, .int .i64 (fdAt fs j).of, .bool (fdAt fs j).mt] 37)).below hb2 (by simp; omega))
        have s3 := HR2.out.lt
        clear hb2 q
        cases hfo : fieldOk (fdAt fs j).kind (fdAt fs j).of re with
        | true =>
          have HO := hide hfo
          clear hfo
          go_wp2_with fail
          have ha' : okFields fs re (j + 1) = true := by show (okFields fs re j && fieldOk (fdAt fs j).kind (fdAt fs j).of (re : Int)) = true; rw [HA.out, HO.out]; rfl
          exact ⟨⟨j + 1, by omega, by go_num, ha', HB2.out, HR2.out⟩, by simp [intOf]; omega⟩
        | false =>
          have HO := hide hfo
          clear hfo
          go_wp2_with fail
          go_ret
          refine ⟨ret_bool ?_, HB2.out⟩
          have : okFields fs re fs.length = false := allTo_false hjn HO.out
          rw [HZ.out, this]; rfl
      · have hje : Hid (j = fs.length) := Nat.le_antisymm hj (Nat.le_of_not_lt hjn)
        have HU : Hid (R = upF tu tk fs.length a rs) := by
          have hA' := HA.out
          rw [hje.out] at hA'
          show R = _
          rw [HZ.out, hA']; rfl
        clear HZ HA
        by_cases u1 : tu = -1
        · subst u1
          have HT : Hid (R = true) := by rw [HU.out]; rfl
          go_wp2_with fail
          go_ret
          exact ⟨ret_bool HT.out.symm, HB.out⟩
        have n1 : (tu == -1) = false := beq_eq_false_iff_ne.2 u1
        by_cases u2 : tu < 0
        · have HT : Hid (R = false) := by rw [HU.out]; simp [upF, Hid]; omega
          go_wp2_with fail
          go_ret
          exact ⟨ret_bool HT.out.symm, HB.out⟩
        by_cases u3 : tu < (a : Int)
        · obtain ⟨m, rfl⟩ := Int.eq_ofNat_of_zero_le (show 0 ≤ tu by omega)
          have hm : m < rs.length := by omega
          obtain ⟨⟨g0, g1, g2, ga, gc, g3, _⟩, _, _⟩ := H3.out m hm
          have hml := HFn.out m hm
          have qb : ∀ o, wr.cell? ⟨b, o, none⟩ = w.cell? ⟨b, o, none⟩ := fun o => HB.out.cell (by exact hb5)
          have k0 : wr.cell? ⟨b, off + m * 6, none⟩ = some (.int .i64 (krAt rs m).t.kind) := by rw [qb]; exact g0
          have k1 : wr.cell? ⟨b, off + m * 6 + 1, none⟩ = some (.int .i64 (krAt rs m).t.up) := by rw [qb]; exact g1
          have k2 : wr.cell? ⟨b, off + m * 6 + 2, none⟩ = some (.bool (krAt rs m).t.last) := by rw [qb]; exact g2
          have k3 : wr.cell? ⟨b, off + m * 6 + 3, none⟩ = some (.slice ga (krAt rs m).t.fields.length gc) := by rw [qb]; exact g3
          have m1 : (0 : Int) ≤ (m : Int) := by omega
          have m2 : (m : Int) < (rs.length : Int) := by omega
          have HV : Hid (R = (((krAt rs m).t.kind == tk) && (!(krAt rs m).t.last && decide ((krAt rs m).t.fields.length ≤ fs.length)))) := by
            rw [HU.out]
            have e1 : decide ((m : Int) = -1) = false := by simp
            have e2 : decide ((0 : Int) ≤ (m : Int)) = true := by simp
            have e3 : decide ((m : Int) < (a : Int)) = true := by simp; omega
            unfold upF
            rw [e1, e2, e3]
            simp [Hid]
          clear g0 g1 g2 g3 qb HU
          generalize krAt rs m = v at *
          obtain ⟨⟨vk, vu, vl, vs⟩, vb, ve⟩ := v
          simp only at k0 k1 k2 k3 hml HV
          by_cases e1 : vk = tk
          · subst e1
            have hd : (vk == vk) = true := by simp
            cases vl with
            | true =>
              have HT : Hid (R = false) := by rw [HV.out]; simp [Hid]
              go_wp2_with fail
              go_ret
              exact ⟨ret_bool HT.out.symm, HB.out.alloc (Nat.le_of_lt s2) _⟩
            | false =>
              have HT : Hid (R = decide (vs.length ≤ fs.length)) := by rw [HV.out]; simp [Hid]
              go_wp2_with fail
              go_ret
              refine ⟨ret_bool ?_, HB.out.alloc (Nat.le_of_lt s2) _⟩
              rw [HT.out, Bool.eq_iff_iff]
          · have hd : (vk == tk) = false := beq_eq_false_iff_ne.2 e1
            have HT : Hid (R = false) := by rw [HV.out, hd]; simp [Hid]
            go_wp2_with fail
            go_ret
            exact ⟨ret_bool HT.out.symm, HB.out.alloc (Nat.le_of_lt s2) _⟩
        · have HT : Hid (R = false) := by rw [HU.out]; simp [upF, Hid]; try omega
          go_wp2_with fail
          go_ret
          exact ⟨ret_bool HT.out.symm, HB.out⟩
end Go.Proofs.YtlmciclkfmeepaaDoor
