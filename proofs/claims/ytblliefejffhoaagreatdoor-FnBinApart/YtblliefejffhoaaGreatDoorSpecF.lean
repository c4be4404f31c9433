/- l1Below, l1Parts and KinOk of the model. -/
import Derived.Test.YtblliefejffhoaaGreatDoorSpecE
namespace Go.Proofs.YtblliefejffhoaaGreatDoor
open Go.ChangeShapes Go.WideShapes Go.ChangeAt Go.RowKit
set_option linter.unusedVariables false

/-- A type may be under another one. -/
def belowF (gs : List (List Ty)) (t u : Ty) : Bool :=
  (((t.kind == u.kind) && !u.last) && decide (u.fields.length ≤ t.fields.length)) && allTo (fun i => fitsF gs (fdAt t.fields i) (fdAt u.fields i)) u.fields.length

/-- What may be asked whether it fits. -/
def OfOk (gs : List (List Ty)) (f : Fd) : Prop := -2 ≤ f.of ∧ (f.of < (kinCount gs : Int) ∨ f.kind = 1)

set_option maxHeartbeats 1600000 in
set_option maxRecDepth 100000 in
theorem l1Below_loop (ga : Option Addr) (gc lo hi : Nat) (gs : List (List Ty)) (k u v : Int) (l : Bool) (fa fb : Option Addr) (fc fd n m : Nat) (F H : Nat → Fd) (w : World) (hP : Parts gs) (hN : Few gs) (hc : gs.length ≤ gc) (hl : lo ≤ hi) (hh : hi ≤ w.heap.size) (hx : GroupsIn w lo hi ga gs)
    (hn : n ≤ 4) (hm : m ≤ n) (hF : ∀ i, i < n → OfOk gs (F i)) (hH : ∀ i, i < m → OfOk gs (H i)) (ff : FsAt w lo hi fa n F) (fh : FsAt w lo hi fb m H) :
    Calls Tryz.prog 62 #[.slice ga gs.length gc, .agg #[.int .i64 k, .int .i64 u, .bool l, .slice fa n fc], .agg #[.int .i64 k, .int .i64 v, .bool false, .slice fb m fd]] w
      fun e w' => e = .returned (.bool (allTo (fun i => fitsF gs (F i) (H i)) m)) ∧ Below w.heap.size w w' := by
  have HX := hide hx
  have HN := hide hN
  have HP := hide hP
  have HF := hide hF
  have HH := hide hH
  have FF := hide ff
  have FH := hide fh
  clear hx hN hP hF hH ff fh
  have hnm : decide (n < m) = false := by simp; omega
  go_enter Tryz.func62, Tryz.ntmps62
  go_wp2_with fail
  go_loopw [7] (fun i wr => ∃ j : Nat, j ≤ m ∧ i = .int .i64 j ∧ allTo (fun i => fitsF gs (F i) (H i)) j = true ∧ Below w.heap.size w wr ∧ wr.cell? ⟨w.heap.size, 3, none⟩ = some (.slice fa n fc) ∧ wr.cell? ⟨w.heap.size + 1, 3, none⟩ = some (.slice fb m fd)) (fun i wr => m - (intOf i).toNat)
  case atStart => exact ⟨0, Nat.zero_le _, rfl, rfl, ((Below.refl _ _).alloc (Nat.le_refl _) _).alloc (by simp) _, by simp, by simp⟩
  case round =>
    obtain ⟨j, hj, rfl, hA, hb, c3, c4⟩ := hrel
    have HA := hide hA
    have HB := hide hb
    have s1 : w.heap.size + 1 < wr.heap.size := cell_lt c4
    have s2 : hi ≤ wr.heap.size := by omega
    clear hA hb
    by_cases hjn : j < m
    · rcases FF.out with h0 | ⟨b, off, rfl, g1, g2, g3⟩
      · omega
      rcases FH.out with h0 | ⟨b', off', rfl, g1', g2', g3'⟩
      · omega
      obtain ⟨d0, d1, d2⟩ := (g3 j (by omega)).same (lo := lo) (hi := hi) (.of_below HB.out hh) g1 g2
      obtain ⟨e0, e1, e2⟩ := (g3' j hjn).same (lo := lo) (hi := hi) (.of_below HB.out hh) g1' g2'
      have o1 := hide (HF.out j (by omega))
      have o2 := hide (HH.out j hjn)
      have k1 : (0 : Int) ≤ (j : Int) := by omega
      have k2 : (j : Int) < (m : Int) := by omega
      have k3 : (j : Int) < (n : Int) := by omega
      have b5 : b < wr.heap.size := Nat.lt_of_lt_of_le g2 s2
      have b6 : b' < wr.heap.size := Nat.lt_of_lt_of_le g2' s2
      clear g3 g3'
      go_wp2_with fail
      go_region_held3 (fun w' => (w'.cell? ⟨w.heap.size, 3, none⟩ = some (.slice (some ⟨b, off, none⟩) n fc) ∧ w'.cell? ⟨w.heap.size + 1, 3, none⟩ = some (.slice (some ⟨b', off', none⟩) m fd)) ∧ (w'.cell? ⟨b, off + j * 3, none⟩ = some (.int .i64 (F j).kind) ∧ w'.cell? ⟨b, off + j * 3 + 1, none⟩ = some (.int .i64 (F j).of) ∧ w'.cell? ⟨b, off + j * 3 + 2, none⟩ = some (.bool (F j).mt)) ∧ (w'.cell? ⟨b', off' + j * 3, none⟩ = some (.int .i64 (H j).kind) ∧ w'.cell? ⟨b', off' + j * 3 + 1, none⟩ = some (.int .i64 (H j).of) ∧ w'.cell? ⟨b', off' + j * 3 + 2, none⟩ = some (.bool (H j).mt))) (go_keep)
        ((go_at_call 99; refine (l1Fits_any ga gc lo hi gs (F j) (H j) wr.drew HP.out HN.out hc hl s2 (HX.out.keep (HB.out.mono hh).drew) o1.out.1 o1.out.2 o2.out.1 o2.out.2).mono ?_; rintro e w2 ⟨rfl, hb2⟩; have q1 : ∀ o, w2.cell? ⟨w.heap.size, o, none⟩ = wr.cell? ⟨w.heap.size, o, none⟩ := fun o => hb2.cell (Nat.lt_of_succ_lt s1); have q2 : ∀ o, w2.cell? ⟨w.heap.size + 1, o, none⟩ = wr.cell? ⟨w.heap.size + 1, o, none⟩ := fun o => hb2.cell s1; have q3 : ∀ o, w2.cell? ⟨b, o, none⟩ = wr.cell? ⟨b, o, none⟩ := fun o => hb2.cell b5; have q4 : ∀ o, w2.cell? ⟨b', o, none⟩ = wr.cell? ⟨b', o, none⟩ := fun o => hb2.cell b6))
      have C3 := hide ((q1 3).trans c3)
      have C4 := hide ((q2 3).trans c4)
      have HB2 := hide (HB.out.drew.trans (hb2.mono (by exact Nat.le_of_lt (Nat.lt_of_succ_lt s1))))
      clear q1 q2 q3 q4 hb2
      cases hmm : fitsF gs (F j) (H j) with
      | true =>
        have HMM := hide hmm
        clear hmm
        go_wp2_with fail
        exact ⟨⟨j + 1, by omega, by go_num, by simp only [allTo, HA.out, HMM.out, Bool.and_self], HB2.out, C3.out, C4.out⟩, by simp [intOf]; omega⟩
      | false =>
        have HMM := hide hmm
        clear hmm
        go_wp2_with fail
        go_ret
        exact ⟨ret_bool (allTo_false hjn HMM.out).symm, HB2.out⟩
    · have hje : Hid (j = m) := Nat.le_antisymm hj (Nat.le_of_not_lt hjn)
      go_wp2_with fail
      go_ret
      exact ⟨ret_bool (by rw [← hje.out, HA.out]), HB.out⟩

set_option maxHeartbeats 800000 in
theorem l1Below_short (ga : Option Addr) (gc : Nat) (gs : List (List Ty)) (sk tk u v : Int) (sl tl : Bool) (fa fb : Option Addr) (fc fd n m : Nat) (w : World) (hn : n ≤ 4) (hm : m ≤ 4) (h : sk ≠ tk ∨ (sk = tk ∧ tl = true) ∨ (sk = tk ∧ tl = false ∧ n < m)) :
    Calls Tryz.prog 62 #[.slice ga gs.length gc, .agg #[.int .i64 sk, .int .i64 u, .bool sl, .slice fa n fc], .agg #[.int .i64 tk, .int .i64 v, .bool tl, .slice fb m fd]] w
      fun e w' => e = .returned (.bool false) ∧ Below w.heap.size w w' := by
  rcases h with h | ⟨rfl, rfl⟩ | ⟨rfl, rfl, h⟩
  · have hk2 : (sk != tk) = true := by simp [h]
    go_enter Tryz.func62, Tryz.ntmps62
    go_wp2_with fail
    go_ret
    exact ⟨rfl, ((Below.refl _ _).alloc (Nat.le_refl _) _).alloc (by simp) _⟩
  all_goals
    go_enter Tryz.func62, Tryz.ntmps62
    go_wp2_with fail
    go_ret
    exact ⟨rfl, ((Below.refl _ _).alloc (Nat.le_refl _) _).alloc (by simp) _⟩

theorem l1Below_any (ga : Option Addr) (gc lo hi : Nat) (gs : List (List Ty)) (s t : Ty) (fa fb : Option Addr) (fc fd : Nat) (w : World) (hP : Parts gs) (hN : Few gs) (hc : gs.length ≤ gc) (hl : lo ≤ hi) (hh : hi ≤ w.heap.size) (hx : GroupsIn w lo hi ga gs)
    (ls : s.fields.length ≤ 4) (lt : t.fields.length ≤ 4) (hF : ∀ i, i < s.fields.length → OfOk gs (fdAt s.fields i)) (hH : ∀ i, i < t.fields.length → OfOk gs (fdAt t.fields i)) (ff : FieldsIn w lo hi fa s.fields) (fh : FieldsIn w lo hi fb t.fields) :
    Calls Tryz.prog 62 #[.slice ga gs.length gc, .agg #[.int .i64 s.kind, .int .i64 s.up, .bool s.last, .slice fa s.fields.length fc], .agg #[.int .i64 t.kind, .int .i64 t.up, .bool t.last, .slice fb t.fields.length fd]] w
      fun e w' => e = .returned (.bool (belowF gs s t)) ∧ Below w.heap.size w w' := by
  by_cases e : s.kind = t.kind ∧ t.last = false ∧ t.fields.length ≤ s.fields.length
  · obtain ⟨e1, e2, e3⟩ := e
    have hA : belowF gs s t = allTo (fun i => fitsF gs (fdAt s.fields i) (fdAt t.fields i)) t.fields.length := by
      simp [belowF, e1, e2, e3]
    rw [hA, ← e1, e2]
    exact l1Below_loop ga gc lo hi gs s.kind s.up t.up s.last fa fb fc fd s.fields.length t.fields.length (fdAt s.fields) (fdAt t.fields) w hP hN hc hl hh hx ls e3 hF hH ff.fsAt fh.fsAt
  · have hA : belowF gs s t = false := by
      by_cases e1 : s.kind = t.kind
      · cases e2 : t.last with
        | false =>
          have e3 : ¬ t.fields.length ≤ s.fields.length := fun h => e ⟨e1, e2, h⟩
          simp [belowF, e3]
        | true => simp [belowF, e2]
      · simp [belowF, e1]
    rw [hA]
    refine l1Below_short ga gc gs s.kind t.kind s.up t.up s.last t.last fa fb fc fd _ _ w ls lt ?_
    by_cases e1 : s.kind = t.kind
    · cases e2 : t.last with
      | false => exact .inr (.inr ⟨e1, rfl, Nat.lt_of_not_le fun h => e ⟨e1, e2, h⟩⟩)
      | true => exact .inr (.inl ⟨e1, rfl⟩)
    · exact .inl e1

/-- l1Parts: Parts, told. -/
def formsF (gs : List (List Ty)) (x : Nat) (j : Nat) : Bool := allTo (fun i => formOk (tyAt (grAt gs x) i) ((countTo (grAt gs) x + i : Nat) : Int) ((countTo (grAt gs) x + (grAt gs x).length : Nat) : Int)) j
def partsF (gs : List (List Ty)) : Bool := (decide (gs.length ≤ 4) && decide (kinCount gs ≤ 8)) && allTo (fun x => decide (0 < (grAt gs x).length) && formsF gs x (grAt gs x).length) gs.length

theorem allTo_of {p : Nat → Bool} {n : Nat} (h : ∀ i, i < n → p i = true) : allTo p n = true := by
  induction n with
  | zero => rfl
  | succ n ih => simp only [allTo]; rw [ih (fun i hi => h i (by omega)), h n (by omega)]; rfl
theorem partsF_iff (gs : List (List Ty)) : partsF gs = true ↔ Parts gs := by
  unfold partsF Parts
  simp only [Bool.and_eq_true, decide_eq_true_eq]
  constructor
  · rintro ⟨⟨h1, h2⟩, h3⟩
    refine ⟨h1, h2, fun x hx => ?_⟩
    have := allTo_true h3 x hx
    simp only [Bool.and_eq_true, decide_eq_true_eq] at this
    exact ⟨this.1, allTo_true this.2⟩
  · rintro ⟨h1, h2, h3⟩
    refine ⟨⟨h1, h2⟩, allTo_of fun x hx => ?_⟩
    simp only [Bool.and_eq_true, decide_eq_true_eq]
    exact ⟨(h3 x hx).1, allTo_of (h3 x hx).2⟩

set_option maxHeartbeats 1600000 in
set_option maxRecDepth 100000 in
theorem l1Parts_any (ga : Option Addr) (gc lo hi : Nat) (gs : List (List Ty)) (w : World) (hN : Few gs) (hc : gs.length ≤ gc) (hl : lo ≤ hi) (hh : hi ≤ w.heap.size) (hx : GroupsIn w lo hi ga gs) :
    Calls Tryz.prog 60 #[.slice ga gs.length gc] w fun e w' => e = .returned (.bool (partsF gs)) ∧ Below w.heap.size w w' := by
  have l1 := hN.1
  have HX := hide hx
  have HN := hide hN
  have HC := hide (specKinCount_any ga gc lo hi gs w hN hx)
  have kc := kinCount_le hN
  clear hx hN
  by_cases h4 : gs.length ≤ 4
  · by_cases h8 : kinCount gs ≤ 8
    · have HZ : Hid (partsF gs = allTo (fun x => decide (0 < (grAt gs x).length) && formsF gs x (grAt gs x).length) gs.length) := by
        show _ = _; simp [partsF, h4, h8]
      go_enter Tryz.func60, Tryz.ntmps60
      go_wp2_with fail
      refine HC.out.mono ?_
      rintro e w ⟨rfl, rfl⟩
      go_wp2_with fail
      go_loopw [3, 4] (fun me i wr => ∃ k : Nat, k ≤ gs.length ∧ i = .int .i64 k ∧ me = .int .i64 (countTo (grAt gs) k : Nat) ∧ allTo (fun x => decide (0 < (grAt gs x).length) && formsF gs x (grAt gs x).length) k = true ∧ Below w.heap.size w wr) (fun me i wr => gs.length - (intOf i).toNat)
      case atStart => exact ⟨0, Nat.zero_le _, rfl, rfl, rfl, Below.refl _ _⟩
      case round =>
        obtain ⟨k, hk, rfl, rfl, hA, hb⟩ := hrel
        have HA := hide hA
        have HB := hide hb
        have s1 := hb.size
        clear hA hb
        by_cases hkn : k < gs.length
        · rcases HX.out with hnil | ⟨b, off, rfl, k1, k2, k3⟩
          · rw [hnil] at hkn; exact absurd hkn (Nat.not_lt_zero _)
          obtain ⟨ta, tc, c3', c4⟩ := k3 k hkn
          have C4 := hide c4
          have b4 : b < w.heap.size := Nat.lt_of_lt_of_le k2 hh
          have c3 : wr.cell? ⟨b, off + k, none⟩ = some (.slice ta (grAt gs k).length tc) := by rw [HB.out.cell (by exact b4)]; exact c3'
          have ln := (HN.out.2 k hkn).1
          have q1 := countTo_le (grAt gs) gs.length (fun i hi => (HN.out.2 i hi).1) k hk
          have HBg := hide (fun i => l1Begin_any (some ⟨b, off, none⟩) gc lo hi k gs (wr.drewN i) HN.out hc (Nat.le_of_lt hkn) (HX.out.keep (below_drewN (HB.out.mono hh) i)))
          have i1 : (0 : Int) ≤ (k : Int) := by omega
          have i2 : (k : Int) < (gs.length : Int) := by omega
          have HA1 : Hid (allTo (fun x => decide (0 < (grAt gs x).length) && formsF gs x (grAt gs x).length) (k + 1) = (decide (0 < (grAt gs k).length) && formsF gs k (grAt gs k).length)) := by
            show (allTo _ k && _) = _
            rw [HA.out]; simp
          have HA2 : Hid ((decide (0 < (grAt gs k).length) && formsF gs k (grAt gs k).length) = false → partsF gs = false) := fun h => by rw [HZ.out]; exact allTo_false hkn h
          clear k3 c4
          by_cases h0 : (grAt gs k).length ≤ 0
          · have h0' : (((grAt gs k).length : Int) == 0) = true := beq_iff_eq.2 (by omega)
            have HL0 := hide h0'
            go_wp2_with fail
            go_ret
            exact ⟨ret_bool (HA2.out (by simp; omega)).symm, HB.out⟩
          · have h0' : (((grAt gs k).length : Int) == 0) = false := beq_eq_false_iff_ne.2 (by omega)
            rcases C4.out with hnil | ⟨b2, off2, rfl, t1, t2, t3⟩
            · rw [hnil] at h0; exact absurd (Nat.le_refl _) h0
            have T3 := hide t3
            clear t3 C4
            go_wp2_with fail
            go_quiet (first | (go_at_call 97; exact Calls.quiet_of_same (HBg.out _)))
            go_wp2_with fail
            go_loopw [3, 6] (fun me i wi => ∃ j : Nat, j ≤ (grAt gs k).length ∧ i = .int .i64 j ∧ me = .int .i64 ((countTo (grAt gs) k : Int) + (j : Int)) ∧ formsF gs k j = true ∧ Below w.heap.size w wi) (fun me i wi => (grAt gs k).length - (intOf i).toNat)
            case atStart => exact ⟨0, Nat.zero_le _, rfl, by simp, rfl, below_drewN HB.out _⟩
            case round =>
              clear c3 s1
              obtain ⟨j, hj, rfl, rfl, hA', hb'⟩ := hrel
              have HA' := hide hA'
              have HB' := hide hb'
              have s1 := hb'.size
              have c3 : wr.cell? ⟨b, off + k, none⟩ = some (.slice (some ⟨b2, off2, none⟩) (grAt gs k).length tc) := by rw [hb'.cell (by exact b4)]; exact c3'
              clear hA' hb'
              by_cases hjn : j < (grAt gs k).length
              · obtain ⟨e0, e1, e2, fa, fc, e3, e4⟩ := (T3.out j hjn).keep (HB'.out.mono hh) t1 t2
                have E4 := hide e4
                have ff := hide ((HN.out.2 k hkn).2 j hjn)
                have j1 : (0 : Int) ≤ (j : Int) := by omega
                have j2 : (j : Int) < ((grAt gs k).length : Int) := by omega
                clear e4
                go_wp2_with fail
                refine (l1Form_any fa fc lo hi (tyAt (grAt gs k) j) _ _ _ ff.out E4.out (by omega)).mono ?_
                rintro e w2 ⟨rfl, hb2⟩
                have HB2 := hide (HB'.out.trans (hb2.mono s1))
                clear hb2
                have HFm : Hid (formsF gs k (j + 1) = formOk (tyAt (grAt gs k) j) ((countTo (grAt gs) k : Int) + (j : Int)) ((countTo (grAt gs) k : Int) + ((grAt gs k).length : Int))) := by
                  show (formsF gs k j && formOk _ _ _) = _
                  rw [HA'.out]
                  simp
                have HFf : Hid (formOk (tyAt (grAt gs k) j) ((countTo (grAt gs) k : Int) + (j : Int)) ((countTo (grAt gs) k : Int) + ((grAt gs k).length : Int)) = false → formsF gs k (grAt gs k).length = false) := fun h => allTo_false hjn (by simpa using h)
                cases hfo : formOk (tyAt (grAt gs k) j) ((countTo (grAt gs) k : Int) + (j : Int)) ((countTo (grAt gs) k : Int) + ((grAt gs k).length : Int)) with
                | true =>
                  have HO := hide hfo
                  clear hfo
                  go_wp2_with fail
                  refine ⟨⟨j + 1, by omega, by go_num, ?_, by rw [HFm.out]; exact HO.out, HB2.out⟩, by simp [intOf]; omega⟩
                  congr 1
                  try omega
                | false =>
                  have HO := hide hfo
                  clear hfo
                  go_wp2_with fail
                  go_ret
                  exact ⟨ret_bool (HA2.out (by rw [HFf.out HO.out]; simp)).symm, HB2.out⟩
              · have hje : Hid (j = (grAt gs k).length) := Nat.le_antisymm hj (Nat.le_of_not_lt hjn)
                go_wp2_with fail
                refine ⟨⟨k + 1, by omega, by go_num, ?_, ?_, HB'.out⟩, by simp [intOf]; omega⟩
                · have := hje.out
                  simp only [countTo]
                  congr 1
                  try omega
                · have h0'' : decide (0 < (grAt gs k).length) = true := by simp; omega
                  rw [HA1.out, h0'', ← hje.out, HA'.out]; rfl
        · have hke : Hid (k = gs.length) := Nat.le_antisymm hk (Nat.le_of_not_lt hkn)
          go_wp2_with fail
          go_ret
          exact ⟨ret_bool (by rw [HZ.out, ← hke.out, HA.out]), HB.out⟩
    · have HZ : Hid (partsF gs = false) := by show _ = _; simp [partsF, h8]
      go_enter Tryz.func60, Tryz.ntmps60
      go_wp2_with fail
      refine HC.out.mono ?_
      rintro e w ⟨rfl, rfl⟩
      go_wp2_with fail
      go_ret
      exact ⟨ret_bool HZ.out.symm, Below.refl _ _⟩
  · have HZ : Hid (partsF gs = false) := by show _ = _; simp [partsF, h4]
    go_enter Tryz.func60, Tryz.ntmps60
    go_wp2_with fail
    go_ret
    exact ⟨ret_bool HZ.out.symm, Below.refl _ _⟩

/-- KinOk. -/
def kinOkF (gs : List (List Ty)) : Bool := partsF gs && allTo (fun i => decide ((tyN gs i).up < 0) || belowF gs (tyN gs i) (tyN gs (tyN gs i).up.toNat)) (kinCount gs)

theorem ofOk_of {gs : List (List Ty)} {f : Fd} (h : fieldOk f.kind f.of (kinCount gs : Nat) = true) : OfOk gs f := by
  unfold fieldOk at h
  split at h
  · rename_i h1; simp at h; exact ⟨by omega, .inr h1⟩
  · split at h
    · simp at h; exact ⟨by omega, .inl (by omega)⟩
    · simp at h

set_option maxHeartbeats 1600000 in
set_option maxRecDepth 100000 in
theorem specKinOk_any (ga : Option Addr) (gc lo hi : Nat) (gs : List (List Ty)) (w : World) (hN : Few gs) (hc : gs.length ≤ gc) (hl : lo ≤ hi) (hh : hi ≤ w.heap.size) (hx : GroupsIn w lo hi ga gs) :
    Calls Tryz.prog 26 #[.slice ga gs.length gc] w fun e w' => e = .returned (.bool (kinOkF gs)) ∧ Below w.heap.size w w' := by
  have HX := hide hx
  have HN := hide hN
  clear hx hN
  go_enter Tryz.func26, Tryz.ntmps26
  go_wp2_with fail
  refine (l1Parts_any ga gc lo hi gs w HN.out hc hl hh HX.out).mono ?_
  rintro e w1 ⟨rfl, hb1⟩
  have HB1 := hide hb1
  have s1 := hb1.size
  clear hb1
  cases hpf : partsF gs with
  | false =>
    have HZ : Hid (kinOkF gs = false) := by show _ = _; simp [kinOkF, hpf]
    clear hpf
    go_wp2_with fail
    go_ret
    exact ⟨ret_bool HZ.out.symm, HB1.out⟩
  | true =>
    have HZ : Hid (kinOkF gs = allTo (fun i => decide ((tyN gs i).up < 0) || belowF gs (tyN gs i) (tyN gs (tyN gs i).up.toNat)) (kinCount gs)) := by show _ = _; simp [kinOkF, hpf]
    have HP := hide ((partsF_iff gs).1 hpf)
    have m8 := HP.out.2.1
    clear hpf
    go_wp2_with fail
    refine (l1Flat_any ga gc lo hi gs _ HN.out (HX.out.keep (HB1.out.mono hh)) (Nat.le_trans hh s1) hl).mono ?_
    rintro e w2 ⟨na, nc, rfl, ht, hb2⟩
    have HT := hide ht
    have HB2 := hide (HB1.out.trans (hb2.mono s1))
    have s2 := hb2.size
    clear ht hb2
    go_wp2_with fail
    go_loopw [4] (fun i wr => ∃ j : Nat, j ≤ kinCount gs ∧ i = .int .i64 j ∧ allTo (fun i => decide ((tyN gs i).up < 0) || belowF gs (tyN gs i) (tyN gs (tyN gs i).up.toNat)) j = true ∧ Below w.heap.size w wr ∧ Below w2.heap.size w2 wr) (fun i wr => kinCount gs - (intOf i).toNat)
    case atStart => exact ⟨0, Nat.zero_le _, rfl, rfl, HB2.out, Below.refl _ _⟩
    case round =>
      obtain ⟨j, hj, rfl, hA, hb, hbb⟩ := hrel
      have HA := hide hA
      have HB := hide hb
      have HBB := hide hbb
      have s3 := hbb.size
      clear hA hb hbb
      by_cases hjn : j < kinCount gs
      · rcases HT.out with hnil | ⟨b, off, rfl, g1, g2, g3⟩
        · have := flat_length gs
          rw [hnil] at this
          simp at this
          omega
        obtain ⟨p1, ⟨p2, p3⟩, p4⟩ := parts_flat HP.out hjn
        obtain ⟨e0, e1, e2, fa, fc, e3, e4⟩ := (g3 j (by rw [flat_length]; exact hjn)).keep HBB.out g1 g2
        have G3 := hide g3
        have E4 := hide e4
        have j1 : (0 : Int) ≤ (j : Int) := by omega
        have j2 : (j : Int) < (kinCount gs : Int) := by omega
        have HA1 : Hid (allTo (fun i => decide ((tyN gs i).up < 0) || belowF gs (tyN gs i) (tyN gs (tyN gs i).up.toNat)) (j + 1) = (decide ((tyN gs j).up < 0) || belowF gs (tyN gs j) (tyN gs (tyN gs j).up.toNat))) := by
          show (allTo _ j && _) = _
          rw [HA.out]; simp
        have HA2 : Hid ((decide ((tyN gs j).up < 0) || belowF gs (tyN gs j) (tyN gs (tyN gs j).up.toNat)) = false → kinOkF gs = false) := fun h => by rw [HZ.out]; exact allTo_false hjn h
        have e1' : wr.cell? ⟨b, off + j * 4 + 1, none⟩ = some (.int .i64 (tyN gs j).up) := e1
        have e0' : wr.cell? ⟨b, off + j * 4, none⟩ = some (.int .i64 (tyN gs j).kind) := e0
        have e2' : wr.cell? ⟨b, off + j * 4 + 2, none⟩ = some (.bool (tyN gs j).last) := e2
        have e3' : wr.cell? ⟨b, off + j * 4 + 3, none⟩ = some (.slice fa (tyN gs j).fields.length fc) := e3
        have P4 := hide p4
        clear g3 e0 e1 e2 e3 e4 p4
        by_cases hup : (tyN gs j).up < 0
        · have hd : decide (0 ≤ (tyN gs j).up) = false := by simp; omega
          go_wp2_with fail
          go_quiet (fail)
          go_wp2_with fail
          exact ⟨⟨j + 1, by omega, by go_num, by rw [HA1.out]; simp [hup], below_drewN HB.out _, below_drewN HBB.out _⟩, by simp [intOf]; omega⟩
        · obtain ⟨m, hm⟩ := Int.eq_ofNat_of_zero_le (show 0 ≤ (tyN gs j).up by omega)
          have hmc : m < kinCount gs := by omega
          obtain ⟨q1, _, q4⟩ := parts_flat HP.out hmc
          obtain ⟨f0, f1, f2, fb, fd, f3, f4⟩ := (G3.out m (by rw [flat_length]; exact hmc)).keep HBB.out g1 g2
          have f0' : wr.cell? ⟨b, off + m * 4, none⟩ = some (.int .i64 (tyN gs m).kind) := f0
          have f1' : wr.cell? ⟨b, off + m * 4 + 1, none⟩ = some (.int .i64 (tyN gs m).up) := f1
          have f2' : wr.cell? ⟨b, off + m * 4 + 2, none⟩ = some (.bool (tyN gs m).last) := f2
          have f3' : wr.cell? ⟨b, off + m * 4 + 3, none⟩ = some (.slice fb (tyN gs m).fields.length fd) := f3
          have F4 := hide f4
          have Q4 := hide q4
          have HMt : Hid ((tyN gs j).up.toNat = m) := by show _ = _; rw [hm]; simp
          have m1 : (0 : Int) ≤ (m : Int) := by omega
          have m2 : (m : Int) < (kinCount gs : Int) := by omega
          have b5 : b < wr.heap.size := by omega
          have hs4 : w2.heap.size ≤ wr.heap.size := s3
          have HU : Hid ((tyN gs j).up = (m : Int)) := hm
          rw [hm] at e1'
          clear f0 f1 f2 f3 f4 q4 hm
          have hcall : Calls Tryz.prog 62 #[.slice ga gs.length gc, .agg #[.int .i64 (tyN gs j).kind, .int .i64 (m : Int), .bool (tyN gs j).last, .slice fa (tyN gs j).fields.length fc], .agg #[.int .i64 (tyN gs m).kind, .int .i64 (tyN gs m).up, .bool (tyN gs m).last, .slice fb (tyN gs m).fields.length fd]] wr.drew
              fun e w' => e = .returned (.bool (belowF gs (tyN gs j) (tyN gs m))) ∧ Below wr.heap.size wr.drew w' := by
            have h := l1Below_any ga gc lo w2.heap.size gs (tyN gs j) (tyN gs m) fa fb fc fd wr.drew HP.out HN.out hc (by omega) s3 ((HX.out.keep (HB.out.mono hh).drew).wide (Nat.le_refl _) (by omega)) p1 q1 (fun i hi => ofOk_of (P4.out i hi)) (fun i hi => ofOk_of (Q4.out i hi)) E4.out F4.out
            rw [HU.out] at h
            exact h
          have HC := hide hcall
          clear hcall
          have HBl : Hid ((decide ((tyN gs j).up < 0) || belowF gs (tyN gs j) (tyN gs (tyN gs j).up.toNat)) = belowF gs (tyN gs j) (tyN gs m)) := by
            show _ = _
            rw [HMt.out]
            have : decide ((tyN gs j).up < 0) = false := by simp; omega
            rw [this]; rfl
          clear hup p2 p3
          have hd : decide ((0 : Int) ≤ (m : Int)) = true := by simp
          go_wp2_with fail
          go_region_held3 (fun w' => (w'.cell? ⟨b, off + j * 4, none⟩ = some (.int .i64 (tyN gs j).kind) ∧ w'.cell? ⟨b, off + j * 4 + 1, none⟩ = some (.int .i64 (m : Int)) ∧ w'.cell? ⟨b, off + j * 4 + 2, none⟩ = some (.bool (tyN gs j).last) ∧ w'.cell? ⟨b, off + j * 4 + 3, none⟩ = some (.slice fa (tyN gs j).fields.length fc)) ∧ (w'.cell? ⟨b, off + m * 4, none⟩ = some (.int .i64 (tyN gs m).kind) ∧ w'.cell? ⟨b, off + m * 4 + 1, none⟩ = some (.int .i64 (tyN gs m).up) ∧ w'.cell? ⟨b, off + m * 4 + 2, none⟩ = some (.bool (tyN gs m).last) ∧ w'.cell? ⟨b, off + m * 4 + 3, none⟩ = some (.slice fb (tyN gs m).fields.length fd))) (go_keep)
            ((go_at_call 62; refine HC.out.mono ?_; rintro e w3 ⟨rfl, hb3⟩; have q1 : ∀ o, w3.cell? ⟨b, o, none⟩ = wr.cell? ⟨b, o, none⟩ := fun o => hb3.cell b5))
          have HB3 := hide (HB.out.drew.trans (hb3.mono (by omega)))
          have HBB3 := hide (HBB.out.drew.trans (hb3.mono s3))
          clear q1 hb3
          cases hbf : belowF gs (tyN gs j) (tyN gs m) with
          | true =>
            have HO := hide hbf
            clear hbf
            go_wp2_with fail
            exact ⟨⟨j + 1, by omega, by go_num, by rw [HA1.out, HBl.out, HO.out], HB3.out, HBB3.out⟩, by simp [intOf]; omega⟩
          | false =>
            have HO := hide hbf
            clear hbf
            go_wp2_with fail
            go_ret
            exact ⟨ret_bool (HA2.out (HBl.out.trans HO.out)).symm, HB3.out⟩
      · have hje : Hid (j = kinCount gs) := Nat.le_antisymm hj (Nat.le_of_not_lt hjn)
        go_wp2_with fail
        go_ret
        exact ⟨ret_bool (by rw [HZ.out, ← hje.out, HA.out]), HB.out⟩
end Go.Proofs.YtblliefejffhoaaGreatDoor
