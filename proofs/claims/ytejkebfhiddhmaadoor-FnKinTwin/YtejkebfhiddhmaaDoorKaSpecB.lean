/- KaSpecB: SpecD, SpecE, SpecF. -/
import Derived.Test.YtejkebfhiddhmaaDoorKaSpec
/- l1Same of the model: whether two types are the same. -/
namespace Go.Proofs.YtejkebfhiddhmaaDoor
open Go.ChangeShapes Go.WideShapes Go.ChangeAt Go.RowKit
set_option linter.unusedVariables false

/-- Whether two types are the same, given what is known of those ahead. -/
def sameStep (S : Nat → Nat → Bool) (gs : List (List Ty)) (p q : Nat) : Bool :=
  if p = q then true
  else if grp gs p = grp gs q ∨ p - beg gs (grp gs p) ≠ q - beg gs (grp gs q) ∨ (grAt gs (grp gs p)).length ≠ (grAt gs (grp gs q)).length then false
  else allTo (fun i => alikeF S gs (tyAt (grAt gs (grp gs p)) i) (tyAt (grAt gs (grp gs q)) i) (grp gs p) (grp gs q)) (grAt gs (grp gs p)).length
def sameF : Nat → List (List Ty) → Nat → Nat → Bool
  | 0, _ => fun _ _ => false
  | f + 1, gs => sameStep (sameF f gs) gs
/-- KinSame of types of right groups. -/
def same (gs : List (List Ty)) (p q : Nat) : Bool := sameF (p + 1) gs p q

theorem matchF_congr {S S' : Nat → Nat → Bool} {gs : List (List Ty)} {a b : Int} {x y : Nat} (h : ∀ p q, p < beg gs x → S p q = S' p q) : matchF S gs a b x y = matchF S' gs a b x y := by
  unfold matchF
  split
  · rfl
  · split
    · rfl
    · by_cases c : a < (beg gs x : Int)
      · rw [h _ _ (by omega)]
      · simp [c]
theorem allTo_congr {p p' : Nat → Bool} {n : Nat} (h : ∀ i, i < n → p i = p' i) : allTo p n = allTo p' n := by
  induction n with
  | zero => rfl
  | succ n ih => simp only [allTo]; rw [ih (fun i hi => h i (by omega)), h n (by omega)]
theorem alikeF_congr {S S' : Nat → Nat → Bool} {gs : List (List Ty)} {s t : Ty} {x y : Nat} (h : ∀ p q, p < beg gs x → S p q = S' p q) : alikeF S gs s t x y = alikeF S' gs s t x y := by
  unfold alikeF
  rw [matchF_congr h, allTo_congr (p' := fun i => fAlike S' gs (fdAt s.fields i) (fdAt t.fields i) x y) (fun i _ => by unfold fAlike; rw [matchF_congr h])]
theorem sameStep_congr {S S' : Nat → Nat → Bool} {gs : List (List Ty)} {p q : Nat} (h : ∀ a b, a < beg gs (grp gs p) → S a b = S' a b) : sameStep S gs p q = sameStep S' gs p q := by
  unfold sameStep
  split
  · rfl
  · split
    · rfl
    · exact allTo_congr fun i _ => alikeF_congr h

theorem sameF_stable (gs : List (List Ty)) : ∀ f f' p q, p < kinCount gs → p < f → p < f' → sameF f gs p q = sameF f' gs p q := by
  intro f
  induction f with
  | zero => intro f' p q _ h; omega
  | succ f ih =>
    intro f' p q hc h1 h2
    cases f' with
    | zero => omega
    | succ f' =>
      refine sameStep_congr fun a b ha => ?_
      have := (grp_spec gs p hc).2.1
      unfold beg at ha
      exact ih f' a b (by omega) (by omega) (by omega)
theorem same_step (gs : List (List Ty)) (p q : Nat) (hp : p < kinCount gs) : same gs p q = sameStep (same gs) gs p q := by
  show sameStep (sameF p gs) gs p q = _
  refine sameStep_congr fun a b ha => ?_
  have := (grp_spec gs p hp).2.1
  unfold beg at ha
  exact sameF_stable gs p (a + 1) a b (by omega) (by omega) (by omega)

theorem allTo_true {p : Nat → Bool} {n : Nat} (h : allTo p n = true) : ∀ i, i < n → p i = true := by
  induction n with
  | zero => intro i hi; omega
  | succ n ih =>
    simp only [allTo, Bool.and_eq_true] at h
    intro i hi
    by_cases e : i = n
    · subst e; exact h.2
    · exact ih h.1 i (by omega)

theorem parts_bounds {gs : List (List Ty)} (hP : PartsW gs) {x i : Nat} (hx : x < gs.length) (hi : i < (grAt gs x).length) :
    (tyAt (grAt gs x) i).fields.length ≤ 4 ∧ (-2 ≤ (tyAt (grAt gs x) i).up ∧ (tyAt (grAt gs x) i).up ≤ 1000) ∧ ∀ j, j < (tyAt (grAt gs x) i).fields.length → -2 ≤ (fdAt (tyAt (grAt gs x) i).fields j).of ∧ (fdAt (tyAt (grAt gs x) i).fields j).of ≤ 1000 := by
  obtain ⟨h1, ⟨h2, h3⟩, h4⟩ := hP.2 x hx i hi
  have hc : countTo (grAt gs) (x + 1) ≤ kinCount gs := countTo_mono (grAt gs) hx
  have h8 := hP.1
  simp only [countTo] at hc
  exact ⟨h1, ⟨by omega, by omega⟩, h4⟩

theorem Parts.w {gs : List (List Ty)} (hP : Parts gs) : PartsW gs := by
  refine ⟨hP.2.1, fun x hx i hi => ?_⟩
  have h := (hP.2.2 x hx).2 i hi
  have hc : countTo (grAt gs) (x + 1) ≤ kinCount gs := countTo_mono (grAt gs) hx
  have h8 := hP.2.1
  simp only [countTo] at hc
  unfold formOk at h
  simp only [Bool.and_eq_true, decide_eq_true_eq] at h
  obtain ⟨⟨⟨a1, a2⟩, a3⟩, _, a5⟩ := h
  refine ⟨a3, ⟨by omega, by omega⟩, fun j hj => ?_⟩
  have hf := allTo_true a5 j hj
  unfold fieldOk at hf
  split at hf
  · simp at hf; omega
  · split at hf
    · simp at hf; omega
    · simp at hf

set_option maxHeartbeats 1600000 in
set_option maxRecDepth 100000 in
theorem l1Same_step (ga : Option Addr) (gc lo hi : Nat) (gs : List (List Ty)) (S : Nat → Nat → Bool) (p q : Nat) (w : World) (hP : PartsW gs) (hN : Few gs) (hc : gs.length ≤ gc) (hh : hi ≤ w.heap.size) (hx : GroupsIn w lo hi ga gs)
    (hp : p < kinCount gs) (hq : q < kinCount gs) (ih : SameSaid ga gc lo hi gs S (beg gs (grp gs p))) :
    Calls Tryd.prog 51 #[.slice ga gs.length gc, .int .i64 (p : Int), .int .i64 (q : Int)] w fun e w' => e = .returned (.bool (sameStep S gs p q)) ∧ Below w.heap.size w w' := by
  have m3 := hP.1
  have HX := hide hx
  have HN := hide hN
  have HP := hide hP
  have IH := hide ih
  clear hx hN hP ih
  by_cases hpq : p = q
  · subst hpq
    have HF : Hid (sameStep S gs p p = true) := by show _ = _; simp [sameStep]
    go_enter Tryd.func51, Tryd.ntmps51
    go_wp2_with fail
    go_ret
    exact ⟨ret_bool HF.out.symm, Below.refl _ _⟩
  have hne : ((p : Int) == (q : Int)) = false := by simp; omega
  have HG1 := hide (l1Group_any ga gc lo hi p gs w HN.out hp HX.out)
  have HG2 := hide (l1Group_any ga gc lo hi q gs w HN.out hq HX.out)
  obtain ⟨g1, g2, g3⟩ := grp_spec gs p hp
  obtain ⟨g1', g2', g3'⟩ := grp_spec gs q hq
  have HS : Hid (sameStep S gs p q = if grp gs p = grp gs q ∨ p - beg gs (grp gs p) ≠ q - beg gs (grp gs q) ∨ (grAt gs (grp gs p)).length ≠ (grAt gs (grp gs q)).length then false
      else allTo (fun i => alikeF S gs (tyAt (grAt gs (grp gs p)) i) (tyAt (grAt gs (grp gs q)) i) (grp gs p) (grp gs q)) (grAt gs (grp gs p)).length) := by
    show _ = _; unfold sameStep; rw [if_neg hpq]
  unfold beg at HS
  generalize hz : sameStep S gs p q = z at *
  clear hz
  have IH' : Hid (SameSaid ga gc lo hi gs S (beg gs (grp gs p))) := IH
  generalize hx1 : grp gs p = x at *
  generalize hy1 : grp gs q = y at *
  clear hx1 hy1 IH
  by_cases hxy : x = y
  · subst hxy
    have HZ : Hid (z = false) := by rw [HS.out, if_pos (.inl rfl)]; rfl
    clear HS
    go_enter Tryd.func51, Tryd.ntmps51
    go_wp2_with fail
    refine HG1.out.mono ?_
    rintro e w ⟨rfl, rfl⟩
    go_wp2_with fail
    refine HG2.out.mono ?_
    rintro e w ⟨rfl, rfl⟩
    go_wp2_with fail
    go_quiet (fail)
    go_wp2_with fail
    go_ret
    exact ⟨ret_bool HZ.out.symm, below_drewN (Below.refl _ _) _⟩
  have hxy' : ((x : Int) == (y : Int)) = false := by simp; omega
  have HB1 := hide (fun k => l1Begin_any ga gc lo hi x gs (w.drewN k) HN.out hc (Nat.le_of_lt g1) HX.out)
  have HB2 := hide (fun k => l1Begin_any ga gc lo hi y gs (w.drewN k) HN.out hc (Nat.le_of_lt g1') HX.out)
  by_cases hd : p - countTo (grAt gs) x = q - countTo (grAt gs) y
  · have hd' : ((p : Int) - (countTo (grAt gs) x : Int) != (q : Int) - (countTo (grAt gs) y : Int)) = false := by simp; omega
    have HD := hide hd
    clear hd
    rcases HX.out with hnil | ⟨b, off, rfl, k1, k2, k3⟩
    · rw [hnil] at g1; exact absurd g1 (Nat.not_lt_zero _)
    obtain ⟨ta, tc, c3, c4⟩ := k3 x g1
    obtain ⟨ta', tc', d3, d4⟩ := k3 y g1'
    have i1 : (0 : Int) ≤ (x : Int) := by omega
    have i2 : (x : Int) < (gs.length : Int) := by omega
    have i3 : (0 : Int) ≤ (y : Int) := by omega
    have i4 : (y : Int) < (gs.length : Int) := by omega
    have C4 := hide c4
    have D4 := hide d4
    clear k3 c4 d4
    by_cases hl : (grAt gs x).length = (grAt gs y).length
    · have HZ : Hid (z = allTo (fun i => alikeF S gs (tyAt (grAt gs x) i) (tyAt (grAt gs y) i) x y) (grAt gs x).length) := by
        rw [HS.out, if_neg]; rfl
        rintro (h | h | h)
        · exact hxy h
        · exact h HD.out
        · exact h hl
      have n0 : 0 < (grAt gs x).length := by have h9 := g3; simp only [countTo] at h9; omega
      have nlen := (HN.out.2 x g1).1
      rcases C4.out with hnil | ⟨b2, off2, rfl, t1, t2, t3⟩
      · rw [hnil] at n0; exact absurd n0 (Nat.lt_irrefl _)
      rcases D4.out with hnil | ⟨b3, off3, rfl, u1, u2, u3⟩
      · rw [hl, hnil] at n0; exact absurd n0 (Nat.lt_irrefl _)
      rw [← hl] at d3
      have HL := hide hl
      have T3 := hide t3
      have U3 := hide u3
      have HDD := hide hd'
      clear HS C4 D4 hl t3 u3
      go_enter Tryd.func51, Tryd.ntmps51
      go_wp2_with fail
      refine HG1.out.mono ?_
      rintro e w ⟨rfl, rfl⟩
      go_wp2_with fail
      refine HG2.out.mono ?_
      rintro e w ⟨rfl, rfl⟩
      go_wp2_with fail
      go_quiet (first | (go_at_call_of 71 (Value.int IntKind.i64 (x : Int)); exact Calls.quiet_of_same (HB1.out _)) | (go_at_call_of 71 (Value.int IntKind.i64 (y : Int)); exact Calls.quiet_of_same (HB2.out _)))
      clear hd'
      go_wp2_with fail
      go_loopw [9] (fun i wr => ∃ j : Nat, j ≤ (grAt gs x).length ∧ i = .int .i64 j ∧ allTo (fun i => alikeF S gs (tyAt (grAt gs x) i) (tyAt (grAt gs y) i) x y) j = true ∧ Below w.heap.size w wr) (fun i wr => (grAt gs x).length - (intOf i).toNat)
      case atStart => exact ⟨0, Nat.zero_le _, rfl, rfl, below_drewN (Below.refl _ _) _⟩
      case round =>
        obtain ⟨j, hj, rfl, hA, hb⟩ := hrel
        have HA := hide hA
        have HB := hide hb
        have s1 := hb.size
        have b4 : b < w.heap.size := Nat.lt_of_lt_of_le k2 hh
        have c5 : wr.cell? ⟨b, off + x, none⟩ = some (.slice (some ⟨b2, off2, none⟩) (grAt gs x).length tc) := by rw [hb.cell (by exact b4)]; exact c3
        have d5 : wr.cell? ⟨b, off + y, none⟩ = some (.slice (some ⟨b3, off3, none⟩) (grAt gs x).length tc') := by rw [hb.cell (by exact b4)]; exact d3
        clear hA hb c3 d3
        by_cases hjn : j < (grAt gs x).length
        · obtain ⟨e0, e1, e2, fa, fc, e3, e4⟩ := (T3.out j hjn).keep (HB.out.mono hh) t1 t2
          obtain ⟨f0, f1, f2, fb, fd, f3, f4⟩ := (U3.out j (by have := HL.out; omega)).keep (HB.out.mono hh) u1 u2
          obtain ⟨p1, p2, p3⟩ := parts_bounds HP.out g1 hjn
          obtain ⟨p1', p2', p3'⟩ := parts_bounds HP.out g1' (i := j) (by have := HL.out; omega)
          have E4 := hide e4
          have F4 := hide f4
          have P2 := hide p2
          have P3 := hide p3
          have P2' := hide p2'
          have P3' := hide p3'
          have j1 : (0 : Int) ≤ (j : Int) := by omega
          have j2 : (j : Int) < ((grAt gs x).length : Int) := by omega
          have hs2 : hi ≤ wr.heap.size := Nat.le_trans hh s1
          have b5 : b < wr.heap.size := Nat.lt_of_lt_of_le b4 s1
          have b6 : b2 < wr.heap.size := Nat.lt_of_lt_of_le t2 hs2
          have b7 : b3 < wr.heap.size := Nat.lt_of_lt_of_le u2 hs2
          clear e4 f4 p2 p3 p2' p3'
          go_wp2_with fail
          go_region_held3 (fun w' => (w'.cell? ⟨b, off + x, none⟩ = some (.slice (some ⟨b2, off2, none⟩) (grAt gs x).length tc) ∧ w'.cell? ⟨b, off + y, none⟩ = some (.slice (some ⟨b3, off3, none⟩) (grAt gs x).length tc')) ∧
              (w'.cell? ⟨b2, off2 + j * 4, none⟩ = some (.int .i64 (tyAt (grAt gs x) j).kind) ∧ w'.cell? ⟨b2, off2 + j * 4 + 1, none⟩ = some (.int .i64 (tyAt (grAt gs x) j).up) ∧ w'.cell? ⟨b2, off2 + j * 4 + 2, none⟩ = some (.bool (tyAt (grAt gs x) j).last) ∧ w'.cell? ⟨b2, off2 + j * 4 + 3, none⟩ = some (.slice fa (tyAt (grAt gs x) j).fields.length fc)) ∧
              (w'.cell? ⟨b3, off3 + j * 4, none⟩ = some (.int .i64 (tyAt (grAt gs y) j).kind) ∧ w'.cell? ⟨b3, off3 + j * 4 + 1, none⟩ = some (.int .i64 (tyAt (grAt gs y) j).up) ∧ w'.cell? ⟨b3, off3 + j * 4 + 2, none⟩ = some (.bool (tyAt (grAt gs y) j).last) ∧ w'.cell? ⟨b3, off3 + j * 4 + 3, none⟩ = some (.slice fb (tyAt (grAt gs y) j).fields.length fd))) (go_keep)
            ((go_at_call 75; refine (l1Alike_any (some ⟨b, off, none⟩) gc lo hi gs S (tyAt (grAt gs x) j) (tyAt (grAt gs y) j) fa fb fc fd x y wr.drew HP.out HN.out hc hs2 (HX.out.keep (HB.out.mono hh).drew) g1 g1' p1 p1' P2.out P2'.out P3.out P3'.out E4.out F4.out IH'.out).mono ?_; rintro e w2 ⟨rfl, hb2⟩; have q1 : ∀ o, w2.cell? ⟨b, o, none⟩ = wr.cell? ⟨b, o, none⟩ := fun o => hb2.cell b5; have q2 : ∀ o, w2.cell? ⟨b2, o, none⟩ = wr.cell? ⟨b2, o, none⟩ := fun o => hb2.cell b6; have q3 : ∀ o, w2.cell? ⟨b3, o, none⟩ = wr.cell? ⟨b3, o, none⟩ := fun o => hb2.cell b7))
          have HB2 := hide (HB.out.drew.trans (hb2.mono (by exact s1)))
          clear q1 q2 q3 hb2
          cases hal : alikeF S gs (tyAt (grAt gs x) j) (tyAt (grAt gs y) j) x y with
          | true =>
            have HAL := hide hal
            clear hal
            go_wp2_with fail
            exact ⟨⟨j + 1, by omega, by go_num, by simp only [allTo, HA.out, HAL.out, Bool.and_self], HB2.out⟩, by simp [intOf]; omega⟩
          | false =>
            have HAL := hide hal
            clear hal
            go_wp2_with fail
            go_ret
            exact ⟨ret_bool (by rw [HZ.out]; exact (allTo_false hjn HAL.out).symm), HB2.out⟩
        · have hje : Hid (j = (grAt gs x).length) := Nat.le_antisymm hj (Nat.le_of_not_lt hjn)
          go_wp2_with fail
          go_ret
          exact ⟨ret_bool (by rw [HZ.out, ← hje.out, HA.out]), HB.out⟩
    · have HZ : Hid (z = false) := by rw [HS.out, if_pos (.inr (.inr hl))]; rfl
      have hl' : (((grAt gs x).length : Int) != ((grAt gs y).length : Int)) = true := by simp; omega
      clear HS
      go_enter Tryd.func51, Tryd.ntmps51
      go_wp2_with fail
      refine HG1.out.mono ?_
      rintro e w ⟨rfl, rfl⟩
      go_wp2_with fail
      refine HG2.out.mono ?_
      rintro e w ⟨rfl, rfl⟩
      go_wp2_with fail
      go_quiet (first | (go_at_call_of 71 (Value.int IntKind.i64 (x : Int)); exact Calls.quiet_of_same (HB1.out _)) | (go_at_call_of 71 (Value.int IntKind.i64 (y : Int)); exact Calls.quiet_of_same (HB2.out _)))
      go_wp2_with fail
      go_ret
      exact ⟨ret_bool HZ.out.symm, below_drewN (Below.refl _ _) _⟩
  · have HZ : Hid (z = false) := by rw [HS.out, if_pos (.inr (.inl hd))]; rfl
    have hd' : ((p : Int) - (countTo (grAt gs) x : Int) != (q : Int) - (countTo (grAt gs) y : Int)) = true := by simp; omega
    clear HS
    go_enter Tryd.func51, Tryd.ntmps51
    go_wp2_with fail
    refine HG1.out.mono ?_
    rintro e w ⟨rfl, rfl⟩
    go_wp2_with fail
    refine HG2.out.mono ?_
    rintro e w ⟨rfl, rfl⟩
    go_wp2_with fail
    go_quiet (first | (go_at_call_of 71 (Value.int IntKind.i64 (x : Int)); exact Calls.quiet_of_same (HB1.out _)) | (go_at_call_of 71 (Value.int IntKind.i64 (y : Int)); exact Calls.quiet_of_same (HB2.out _)))
    go_wp2_with fail
    go_ret
    exact ⟨ret_bool HZ.out.symm, below_drewN (Below.refl _ _) _⟩

/-- l1Same answers what same says. -/
theorem sameSaid (ga : Option Addr) (gc lo hi : Nat) (gs : List (List Ty)) (hP : PartsW gs) (hN : Few gs) (hc : gs.length ≤ gc) : ∀ B, B ≤ kinCount gs → SameSaid ga gc lo hi gs (same gs) B := by
  intro B
  induction B with
  | zero => intro _ p q hp; omega
  | succ B ih =>
    intro hB p q hp hq w hh hx
    have ih' := ih (by omega)
    have hpc : p < kinCount gs := by omega
    rw [same_step gs p q hpc]
    refine l1Same_step ga gc lo hi gs (same gs) p q w hP hN hc hh hx hpc hq ?_
    intro p' q' hp' hq' w' hh' hx'
    have := (grp_spec gs p hpc).2.1
    unfold beg at hp'
    exact ih' p' q' (by omega) hq' w' hh' hx'
theorem l1Same_w (ga : Option Addr) (gc lo hi : Nat) (gs : List (List Ty)) (p q : Nat) (w : World) (hP : PartsW gs) (hN : Few gs) (hc : gs.length ≤ gc) (hp : p < kinCount gs) (hq : q < kinCount gs) (hh : hi ≤ w.heap.size) (hx : GroupsIn w lo hi ga gs) :
    Calls Tryd.prog 51 #[.slice ga gs.length gc, .int .i64 (p : Int), .int .i64 (q : Int)] w fun e w' => e = .returned (.bool (same gs p q)) ∧ Below w.heap.size w w' :=
  sameSaid ga gc lo hi gs hP hN hc (kinCount gs) (Nat.le_refl _) p q hp hq w hh hx

theorem l1Same_any (ga : Option Addr) (gc lo hi : Nat) (gs : List (List Ty)) (p q : Nat) (w : World) (hP : Parts gs) (hN : Few gs) (hc : gs.length ≤ gc) (hp : p < kinCount gs) (hq : q < kinCount gs) (hh : hi ≤ w.heap.size) (hx : GroupsIn w lo hi ga gs) :
    Calls Tryd.prog 51 #[.slice ga gs.length gc, .int .i64 (p : Int), .int .i64 (q : Int)] w fun e w' => e = .returned (.bool (same gs p q)) ∧ Below w.heap.size w w' :=
  l1Same_w ga gc lo hi gs p q w hP.w hN hc hp hq hh hx
end Go.Proofs.YtejkebfhiddhmaaDoor

/- l1Under, l1Sort and l1Fits of the model. -/
namespace Go.Proofs.YtejkebfhiddhmaaDoor
open Go.ChangeShapes Go.WideShapes Go.ChangeAt Go.RowKit
set_option linter.unusedVariables false

theorem flatTo_at (G : Nat → List Ty) (x p : Nat) (h1 : countTo G x ≤ p) (h2 : p < countTo G (x + 1)) : ∀ k, x < k → tyAt (flatTo G k) p = tyAt (G x) (p - countTo G x) := by
  intro k
  induction k with
  | zero => intro h; omega
  | succ k ih =>
    intro hk
    by_cases e : x = k
    · subst e
      have hl := flatTo_length G x
      simp [flatTo, tyAt, List.getD, List.getElem?_append_right (show (flatTo G x).length ≤ p by omega), hl]
    · have hm := countTo_mono G (show x + 1 ≤ k by omega)
      rw [flatTo, tyAt_append_left _ _ _ (by rw [flatTo_length]; omega)]
      exact ih (by omega)
theorem flat_at {gs : List (List Ty)} {p : Nat} (hp : p < kinCount gs) : tyAt (flat gs) p = tyAt (grAt gs (grp gs p)) (p - beg gs (grp gs p)) :=
  let g := grp_spec gs p hp
  flatTo_at (grAt gs) (grp gs p) p g.2.1 g.2.2 gs.length g.1

/-- The type of that number. -/
def tyN (gs : List (List Ty)) (p : Nat) : Ty := tyAt (flat gs) p

theorem parts_flat {gs : List (List Ty)} (hP : Parts gs) {p : Nat} (hp : p < kinCount gs) :
    (tyN gs p).fields.length ≤ 4 ∧ (-1 ≤ (tyN gs p).up ∧ (tyN gs p).up < (p : Int)) ∧ ∀ j, j < (tyN gs p).fields.length → fieldOk (fdAt (tyN gs p).fields j).kind (fdAt (tyN gs p).fields j).of (kinCount gs : Nat) = true := by
  obtain ⟨g1, g2, g3⟩ := grp_spec gs p hp
  have h := (hP.2.2 _ g1).2 (p - beg gs (grp gs p)) (by unfold beg; simp only [countTo] at g3; omega)
  have hc : countTo (grAt gs) (grp gs p + 1) ≤ kinCount gs := countTo_mono (grAt gs) g1
  unfold tyN
  rw [flat_at hp]
  unfold formOk at h
  simp only [Bool.and_eq_true, decide_eq_true_eq] at h
  obtain ⟨⟨⟨a1, a2⟩, a3⟩, _, a5⟩ := h
  unfold beg at *
  refine ⟨a3, ⟨a1, by omega⟩, fun j hj => ?_⟩
  have hf := allTo_true a5 j hj
  simp only [countTo] at hc
  unfold fieldOk at hf ⊢
  split at hf
  · rename_i h1; rw [if_pos h1]; exact hf
  · rename_i h1
    rw [if_neg h1]
    split at hf
    · rename_i h2
      rw [if_pos h2]
      simp at hf ⊢
      omega
    · simp at hf

theorem partsW_flat {gs : List (List Ty)} (hP : PartsW gs) {p : Nat} (hp : p < kinCount gs) :
    (tyN gs p).fields.length ≤ 4 ∧ (-1 ≤ (tyN gs p).up ∧ (tyN gs p).up < (p : Int)) ∧ ∀ j, j < (tyN gs p).fields.length → -2 ≤ (fdAt (tyN gs p).fields j).of ∧ (fdAt (tyN gs p).fields j).of ≤ 1000 := by
  obtain ⟨g1, g2, g3⟩ := grp_spec gs p hp
  have h := hP.2 _ g1 (p - beg gs (grp gs p)) (by unfold beg; simp only [countTo] at g3; omega)
  unfold tyN
  rw [flat_at hp]
  obtain ⟨h1, ⟨h2, h3⟩, h4⟩ := h
  unfold beg at *
  exact ⟨h1, ⟨h2, by omega⟩, h4⟩

/-- A type, or one above it, is the same as q. -/
def upSame (gs : List (List Ty)) (q : Nat) : Nat → Int → Bool
  | 0, _ => false
  | f + 1, a => if a < 0 then false else same gs a.toNat q || upSame gs q f (tyN gs a.toNat).up
/-- KinUnder in right groups. -/
def under (gs : List (List Ty)) (a b : Int) : Bool :=
  if b = -1 ∨ a = b then true else if a < 0 ∨ b < 0 then false else upSame gs b.toNat (a.toNat + 1) a

set_option maxHeartbeats 800000 in
theorem l1Under_loop (ga : Option Addr) (gc lo hi : Nat) (gs : List (List Ty)) (p q : Nat) (w : World) (hP : PartsW gs) (hN : Few gs) (hc : gs.length ≤ gc) (hl : lo ≤ hi) (hh : hi ≤ w.heap.size) (hx : GroupsIn w lo hi ga gs)
    (hp : p < kinCount gs) (hq : q < kinCount gs) (hpq : p ≠ q) :
    Calls Tryd.prog 57 #[.slice ga gs.length gc, .int .i64 (p : Int), .int .i64 (q : Int)] w fun e w' => e = .returned (.bool (upSame gs q (p + 1) p)) ∧ Below w.heap.size w w' := by
  have m3 := hP.1
  have n1 : ((q : Int) == -1) = false := by simp <;> omega
  have n2 : ((p : Int) == (q : Int)) = false := by simp; omega
  have HX := hide hx
  have HN := hide hN
  have HP := hide hP
  clear hx hN hP hpq
  generalize hR : upSame gs q (p + 1) p = R
  have HR := hide hR
  clear hR
  go_enter Tryd.func57, Tryd.ntmps57
  go_wp2_with fail
  refine (l1Flat_any ga gc lo hi gs w HN.out HX.out hh hl).mono ?_
  rintro e w1 ⟨na, nc, rfl, ht, hb1⟩
  have HT := hide ht
  have HB1 := hide hb1
  clear ht hb1
  go_wp2_with fail
  go_loopw [1] (fun a wr => ∃ (c : Int) (f : Nat), a = .int .i64 c ∧ -1 ≤ c ∧ c < (kinCount gs : Int) ∧ c < (f : Int) ∧ upSame gs q f c = R ∧ Below w.heap.size w wr ∧ Below w1.heap.size w1 wr) (fun a wr => (intOf a + 1).toNat)
  case atStart => exact ⟨p, p + 1, rfl, by omega, by omega, by omega, HR.out, HB1.out, Below.refl _ _⟩
  case round =>
    obtain ⟨c, f, rfl, c1, c2, c3, hU, hb, hbb⟩ := hrel
    have HU := hide hU
    have HB := hide hb
    have HBB := hide hbb
    have s1 := hbb.size
    have s2 := HB1.out.size
    clear hU hb hbb
    by_cases hc0 : c < 0
    · have HZ : Hid (R = false) := by
        show R = false
        rw [← HU.out]
        cases f with
        | zero => rfl
        | succ f => simp [upSame, hc0]
      go_wp2_with fail
      go_ret
      exact ⟨ret_bool HZ.out.symm, HB.out⟩
    · obtain ⟨m, rfl⟩ := Int.eq_ofNat_of_zero_le (show 0 ≤ c by omega)
      have hm : m < kinCount gs := by omega
      obtain ⟨f', rfl⟩ : ∃ f', f = f' + 1 := ⟨f - 1, by omega⟩
      have HV : Hid (R = (same gs m q || upSame gs q f' (tyN gs m).up)) := by
        show R = _
        rw [← HU.out]
        simp [upSame, hc0]
      obtain ⟨_, ⟨u1, u2⟩, _⟩ := partsW_flat HP.out hm
      go_wp2_with fail
      refine (l1Same_w ga gc lo hi gs m q _ HP.out HN.out hc hm hq (by omega) (HX.out.keep (HB.out.mono hh))).mono ?_
      rintro e w2 ⟨rfl, hb2⟩
      have HB2 := hide hb2
      have s3 := hb2.size
      clear hb2
      cases hs : same gs m q with
      | true =>
        have HS := hide hs
        clear hs
        go_wp2_with fail
        go_ret
        exact ⟨ret_bool (by rw [HV.out, HS.out]; rfl), HB.out.trans (HB2.out.mono (by omega))⟩
      | false =>
        have HS := hide hs
        clear hs
        rcases HT.out with hnil | ⟨b, off, rfl, g1, g2, g3⟩
        · have := flat_length gs
          rw [hnil] at this
          simp at this
          omega
        have hbw : Below w1.heap.size w1 w2 := HBB.out.trans (HB2.out.mono (by omega))
        obtain ⟨e0, e1, e2, fa, fc, e3, e4⟩ := (g3 m (by rw [flat_length]; exact hm)).keep hbw g1 g2
        have HBW := hide hbw
        have e1' : w2.cell? ⟨b, off + m * 4 + 1, none⟩ = some (.int .i64 (tyN gs m).up) := e1
        clear g3 e4 hbw e0 e1 e2 e3
        go_wp2_with fail
        exact ⟨⟨(tyN gs m).up, f', rfl, u1, by omega, by omega, by rw [HV.out, HS.out]; rfl, HB.out.trans (HB2.out.mono (by omega)), HBW.out⟩, by simp [intOf]; omega⟩

set_option maxHeartbeats 800000 in
theorem l1Under_w (ga : Option Addr) (gc lo hi : Nat) (gs : List (List Ty)) (a b : Int) (w : World) (hP : PartsW gs) (hN : Few gs) (hc : gs.length ≤ gc) (hl : lo ≤ hi) (hh : hi ≤ w.heap.size) (hx : GroupsIn w lo hi ga gs)
    (a0 : -2 ≤ a) (a1 : a < (kinCount gs : Int)) (b0 : -2 ≤ b) (b1 : b < (kinCount gs : Int)) :
    Calls Tryd.prog 57 #[.slice ga gs.length gc, .int .i64 a, .int .i64 b] w fun e w' => e = .returned (.bool (under gs a b)) ∧ Below w.heap.size w w' := by
  have m3 := hP.1
  by_cases e1 : b = -1
  · subst e1
    have HF : Hid (under gs a (-1) = true) := by show _ = _; simp [under]
    clear hx hP hN
    go_enter Tryd.func57, Tryd.ntmps57
    go_wp2_with fail
    go_ret
    exact ⟨ret_bool HF.out.symm, Below.refl _ _⟩
  by_cases e2 : a = b
  · subst e2
    have HF : Hid (under gs a a = true) := by show _ = _; simp [under]
    have n1 : (a == -1) = false := by simp [e1]
    clear hx hP hN
    go_enter Tryd.func57, Tryd.ntmps57
    go_wp2_with fail
    go_ret
    exact ⟨ret_bool HF.out.symm, Below.refl _ _⟩
  have n1 : (b == -1) = false := by simp [e1]
  have n2 : (a == b) = false := by simp [e2]
  by_cases e3 : a < 0
  · have HF : Hid (under gs a b = false) := by show _ = _; simp [under, e1, e2, e3]
    clear hx hP hN
    go_enter Tryd.func57, Tryd.ntmps57
    go_wp2_with fail
    go_ret
    exact ⟨ret_bool HF.out.symm, Below.refl _ _⟩
  by_cases e4 : b < 0
  · have HF : Hid (under gs a b = false) := by show _ = _; simp [under, e1, e2, e4]
    clear hx hP hN
    go_enter Tryd.func57, Tryd.ntmps57
    go_wp2_with fail
    go_ret
    exact ⟨ret_bool HF.out.symm, Below.refl _ _⟩
  obtain ⟨p, rfl⟩ := Int.eq_ofNat_of_zero_le (show 0 ≤ a by omega)
  obtain ⟨q, rfl⟩ := Int.eq_ofNat_of_zero_le (show 0 ≤ b by omega)
  have hu : under gs (p : Int) (q : Int) = upSame gs q (p + 1) p := by
    unfold under
    rw [if_neg (by omega), if_neg (by omega)]
    simp
  rw [hu]
  exact l1Under_loop ga gc lo hi gs p q w hP hN hc hl hh hx (by omega) (by omega) (by omega)
theorem l1Under_any (ga : Option Addr) (gc lo hi : Nat) (gs : List (List Ty)) (a b : Int) (w : World) (hP : Parts gs) (hN : Few gs) (hc : gs.length ≤ gc) (hl : lo ≤ hi) (hh : hi ≤ w.heap.size) (hx : GroupsIn w lo hi ga gs)
    (a0 : -2 ≤ a) (a1 : a < (kinCount gs : Int)) (b0 : -2 ≤ b) (b1 : b < (kinCount gs : Int)) :
    Calls Tryd.prog 57 #[.slice ga gs.length gc, .int .i64 a, .int .i64 b] w fun e w' => e = .returned (.bool (under gs a b)) ∧ Below w.heap.size w w' :=
  l1Under_w ga gc lo hi gs a b w hP.w hN hc hl hh hx a0 a1 b0 b1


/-- FieldUnder in right groups. -/
def sortF (gs : List (List Ty)) (f g : Fd) : Bool := if f.kind = 1 ∨ g.kind = 1 then f.kind == g.kind else ((f.kind == 3) || (g.kind == 2)) && under gs f.of g.of
def fitsF (gs : List (List Ty)) (f g : Fd) : Bool := if f.mt = g.mt then sortF gs f g && (!f.mt || sortF gs g f) else false

set_option maxHeartbeats 800000 in
theorem l1Sort_any (ga : Option Addr) (gc lo hi : Nat) (gs : List (List Ty)) (f g : Fd) (w : World) (hP : Parts gs) (hN : Few gs) (hc : gs.length ≤ gc) (hl : lo ≤ hi) (hh : hi ≤ w.heap.size) (hx : GroupsIn w lo hi ga gs)
    (a0 : -2 ≤ f.of) (a1 : f.of < (kinCount gs : Int) ∨ f.kind = 1) (b0 : -2 ≤ g.of) (b1 : g.of < (kinCount gs : Int) ∨ g.kind = 1) :
    Calls Tryd.prog 63 #[.slice ga gs.length gc, .agg #[.int .i64 f.kind, .int .i64 f.of, .bool f.mt], .agg #[.int .i64 g.kind, .int .i64 g.of, .bool g.mt]] w fun e w' => e = .returned (.bool (sortF gs f g)) ∧ Below w.heap.size w w' := by
  obtain ⟨fk, fo, fm⟩ := f
  obtain ⟨gk, go, gm⟩ := g
  simp only at a0 a1 b0 b1 ⊢
  have HX := hide hx
  have HN := hide hN
  have HP := hide hP
  clear hx hN hP
  by_cases e1 : fk = 1
  · subst e1
    have HF : Hid (sortF gs ⟨1, fo, fm⟩ ⟨gk, go, gm⟩ = ((1 : Int) == gk)) := by show _ = _; simp [sortF]
    go_enter Tryd.func63, Tryd.ntmps63
    go_wp2_with fail
    go_ret
    exact ⟨ret_bool HF.out.symm, ((Below.refl _ _).alloc (Nat.le_refl _) _).alloc (by simp) _⟩
  by_cases e2 : gk = 1
  · subst e2
    have n1 : (fk == 1) = false := by simp [e1]
    have HF : Hid (sortF gs ⟨fk, fo, fm⟩ ⟨1, go, gm⟩ = (fk == 1)) := by show _ = _; simp [sortF]
    go_enter Tryd.func63, Tryd.ntmps63
    go_wp2_with fail
    go_ret
    exact ⟨ret_bool (by rw [HF.out]; simp [e1]), ((Below.refl _ _).alloc (Nat.le_refl _) _).alloc (by simp) _⟩
  have n1 : (fk == 1) = false := by simp [e1]
  have n2 : (gk == 1) = false := by simp [e2]
  have a2 : fo < (kinCount gs : Int) := by omega
  have b2 : go < (kinCount gs : Int) := by omega
  have b0' : Below w.heap.size w ((w.alloc (.cells #[.int .i64 fk, .int .i64 fo, .bool fm] 35)).alloc (.cells #[.int .i64 gk, .int .i64 go, .bool gm] 35)) := ((Below.refl _ _).alloc (Nat.le_refl _) _).alloc (by simp) _
  have B0 := hide b0'
  have HC := hide (l1Under_any ga gc lo hi gs fo go _ HP.out HN.out hc hl (Nat.le_trans hh b0'.size) (HX.out.keep (b0'.mono hh)) a0 a2 b0 b2)
  clear b0'
  by_cases e3 : fk = 3
  · subst e3
    have HF : Hid (sortF gs ⟨3, fo, fm⟩ ⟨gk, go, gm⟩ = under gs fo go) := by show _ = _; simp [sortF, e2]
    go_enter Tryd.func63, Tryd.ntmps63
    go_wp2_with fail
    refine HC.out.mono ?_
    rintro e w1 ⟨rfl, hb1⟩
    have HB1 := hide hb1
    clear hb1
    go_wp2_with fail
    go_ret
    exact ⟨ret_bool HF.out.symm, B0.out.trans (HB1.out.mono B0.out.size)⟩
  have n3 : (fk == 3) = false := by simp [e3]
  by_cases e4 : gk = 2
  · subst e4
    have HF : Hid (sortF gs ⟨fk, fo, fm⟩ ⟨2, go, gm⟩ = under gs fo go) := by show _ = _; simp [sortF, e1]
    go_enter Tryd.func63, Tryd.ntmps63
    go_wp2_with fail
    refine HC.out.mono ?_
    rintro e w1 ⟨rfl, hb1⟩
    have HB1 := hide hb1
    clear hb1
    go_wp2_with fail
    go_ret
    exact ⟨ret_bool HF.out.symm, B0.out.trans (HB1.out.mono B0.out.size)⟩
  have n4 : (gk == 2) = false := by simp [e4]
  have HF : Hid (sortF gs ⟨fk, fo, fm⟩ ⟨gk, go, gm⟩ = false) := by show _ = _; simp [sortF, e1, e2, e3, e4]
  go_enter Tryd.func63, Tryd.ntmps63
  go_wp2_with fail
  go_ret
  exact ⟨ret_bool HF.out.symm, B0.out⟩

set_option maxHeartbeats 800000 in
theorem l1Fits_any (ga : Option Addr) (gc lo hi : Nat) (gs : List (List Ty)) (f g : Fd) (w : World) (hP : Parts gs) (hN : Few gs) (hc : gs.length ≤ gc) (hl : lo ≤ hi) (hh : hi ≤ w.heap.size) (hx : GroupsIn w lo hi ga gs)
    (a0 : -2 ≤ f.of) (a1 : f.of < (kinCount gs : Int) ∨ f.kind = 1) (b0 : -2 ≤ g.of) (b1 : g.of < (kinCount gs : Int) ∨ g.kind = 1) :
    Calls Tryd.prog 73 #[.slice ga gs.length gc, .agg #[.int .i64 f.kind, .int .i64 f.of, .bool f.mt], .agg #[.int .i64 g.kind, .int .i64 g.of, .bool g.mt]] w fun e w' => e = .returned (.bool (fitsF gs f g)) ∧ Below w.heap.size w w' := by
  have b0' : Below w.heap.size w ((w.alloc (.cells #[.int .i64 f.kind, .int .i64 f.of, .bool f.mt] 35)).alloc (.cells #[.int .i64 g.kind, .int .i64 g.of, .bool g.mt] 35)) := ((Below.refl _ _).alloc (Nat.le_refl _) _).alloc (by simp) _
  have B0 := hide b0'
  have HC := hide (l1Sort_any ga gc lo hi gs f g _ hP hN hc hl (Nat.le_trans hh b0'.size) (hx.keep (b0'.mono hh)) a0 a1 b0 b1)
  have HD := hide (fun w2 (h : Below w.heap.size w w2) => l1Sort_any ga gc lo hi gs g f w2 hP hN hc hl (Nat.le_trans hh h.size) (hx.keep (h.mono hh)) b0 b1 a0 a1)
  clear hx hN hP b0' a0 a1 b0 b1
  have HF : Hid (fitsF gs f g = if f.mt = g.mt then sortF gs f g && (!f.mt || sortF gs g f) else false) := rfl
  generalize fitsF gs f g = R at *
  generalize sortF gs f g = s1 at *
  generalize sortF gs g f = s2 at *
  obtain ⟨fk, fo, fm⟩ := f
  obtain ⟨gk, go, gm⟩ := g
  simp only at B0 HC HD HF ⊢
  cases fm <;> cases gm
  case false.true | true.false =>
    have HZ : Hid (R = false) := by rw [HF.out]; rfl
    go_enter Tryd.func73, Tryd.ntmps73
    go_wp2_with fail
    go_ret
    exact ⟨ret_bool HZ.out.symm, B0.out⟩
  case false.false =>
    have HZ : Hid (R = s1) := by rw [HF.out]; simp [Hid]
    go_enter Tryd.func73, Tryd.ntmps73
    go_wp2_with fail
    refine HC.out.mono ?_
    rintro e w1 ⟨rfl, hb1⟩
    obtain ⟨hc1, hf1⟩ := bcell hb1
    have hs1 := hb1.size
    simp only [World.size_alloc] at hc1 hs1
    have c2 : w1.cell? ⟨w.heap.size, 2, none⟩ = some (.bool false) := by rw [hc1 _ _ (by omega)]; simp
    have B1 := hide (B0.out.trans (hb1.mono B0.out.size))
    clear hc1 hf1 hb1
    cases s1
    all_goals
      go_wp2_with fail
      go_ret
      exact ⟨ret_bool HZ.out.symm, B1.out⟩
  case true.true =>
    have HZ : Hid (R = (s1 && s2)) := by rw [HF.out]; simp [Hid]
    go_enter Tryd.func73, Tryd.ntmps73
    go_wp2_with fail
    refine HC.out.mono ?_
    rintro e w1 ⟨rfl, hb1⟩
    obtain ⟨hc1, hf1⟩ := bcell hb1
    have hs1 := hb1.size
    simp only [World.size_alloc] at hc1 hs1
    have c0 : w1.cell? ⟨w.heap.size, 0, none⟩ = some (.int .i64 fk) := by rw [hc1 _ _ (by omega)]; simp
    have c1 : w1.cell? ⟨w.heap.size, 1, none⟩ = some (.int .i64 fo) := by rw [hc1 _ _ (by omega)]; simp
    have c2 : w1.cell? ⟨w.heap.size, 2, none⟩ = some (.bool true) := by rw [hc1 _ _ (by omega)]; simp
    have d0 : w1.cell? ⟨w.heap.size + 1, 0, none⟩ = some (.int .i64 gk) := by rw [hc1 _ _ (by omega)]; simp
    have d1 : w1.cell? ⟨w.heap.size + 1, 1, none⟩ = some (.int .i64 go) := by rw [hc1 _ _ (by omega)]; simp
    have d2 : w1.cell? ⟨w.heap.size + 1, 2, none⟩ = some (.bool true) := by rw [hc1 _ _ (by omega)]; simp
    have B1 := hide (B0.out.trans (hb1.mono B0.out.size))
    clear hc1 hf1 hb1
    cases s1
    · go_wp2_with fail
      go_ret
      exact ⟨ret_bool HZ.out.symm, B1.out⟩
    · go_wp2_with fail
      refine (HD.out _ B1.out).mono ?_
      rintro e w2 ⟨rfl, hb2⟩
      have B2 := hide (B1.out.trans (hb2.mono B1.out.size))
      clear hb2
      go_wp2_with fail
      go_ret
      exact ⟨ret_bool (by rw [HZ.out]; simp), B2.out⟩
end Go.Proofs.YtejkebfhiddhmaaDoor

/- l1Below, l1Parts and KinOk of the model. -/
namespace Go.Proofs.YtejkebfhiddhmaaDoor
open Go.ChangeShapes Go.WideShapes Go.ChangeAt Go.RowKit
set_option linter.unusedVariables false

/-- A type may be under another one. -/
def belowF (gs : List (List Ty)) (t u : Ty) : Bool :=
  (((t.kind == u.kind) && !u.last) && decide (u.fields.length ≤ t.fields.length)) && allTo (fun i => fitsF gs (fdAt t.fields i) (fdAt u.fields i)) u.fields.length

/-- What may be asked whether it fits. -/
def OfOk (gs : List (List Ty)) (f : Fd) : Prop := -2 ≤ f.of ∧ (f.of < (kinCount gs : Int) ∨ f.kind = 1)

set_option maxHeartbeats 1600000 in
set_option maxRecDepth 100000 in
theorem l1Below_loop (ga : Option Addr) (gc lo hi : Nat) (gs : List (List Ty)) (k u v : Int) (l : Bool) (fa fb : Option Addr) (fc fd n m : Nat) (F H : Nat → Fd) (w : World) (hP : Parts gs) (hN : Few gs) (hc : gs.length ≤ gc) (hl : lo ≤ hi) (hh : hi ≤ w.heap.size) (hx : GroupsIn w lo hi ga gs)
    (hn : n ≤ 4) (hm : m ≤ n) (hF : ∀ i, i < n → OfOk gs (F i)) (hH : ∀ i, i < m → OfOk gs (H i)) (ff : FsAt w lo hi fa n F) (fh : FsAt w lo hi fb m H) :
    Calls Tryd.prog 50 #[.slice ga gs.length gc, .agg #[.int .i64 k, .int .i64 u, .bool l, .slice fa n fc], .agg #[.int .i64 k, .int .i64 v, .bool false, .slice fb m fd]] w
      fun e w' => e = .returned (.bool (allTo (fun i => fitsF gs (F i) (H i)) m)) ∧ Below w.heap.size w w' := by
  have HX := hide hx
  have HN := hide hN
  have HP := hide hP
  have HF := hide hF
  have HH := hide hH
  have FF := hide ff
  have FH := hide fh
  clear hx hN hP hF hH ff fh
  have hnm : decide (n < m) = false := by simp; omega
  go_enter Tryd.func50, Tryd.ntmps50
  go_wp2_with fail
  go_loopw [7] (fun i wr => ∃ j : Nat, j ≤ m ∧ i = .int .i64 j ∧ allTo (fun i => fitsF gs (F i) (H i)) j = true ∧ Below w.heap.size w wr ∧ wr.cell? ⟨w.heap.size, 3, none⟩ = some (.slice fa n fc) ∧ wr.cell? ⟨w.heap.size + 1, 3, none⟩ = some (.slice fb m fd)) (fun i wr => m - (intOf i).toNat)
  case atStart => exact ⟨0, Nat.zero_le _, rfl, rfl, ((Below.refl _ _).alloc (Nat.le_refl _) _).alloc (by simp) _, by simp, by simp⟩
  case round =>
    obtain ⟨j, hj, rfl, hA, hb, c3, c4⟩ := hrel
    have HA := hide hA
    have HB := hide hb
    have s1 : w.heap.size + 1 < wr.heap.size := cell_lt c4
    have s2 : hi ≤ wr.heap.size := by omega
    clear hA hb
    by_cases hjn : j < m
    · rcases FF.out with h0 | ⟨b, off, rfl, g1, g2, g3⟩
      · omega
      rcases FH.out with h0 | ⟨b', off', rfl, g1', g2', g3'⟩
      · omega
      obtain ⟨d0, d1, d2⟩ := (g3 j (by omega)).same (lo := lo) (hi := hi) (.of_below HB.out hh) g1 g2
      obtain ⟨e0, e1, e2⟩ := (g3' j hjn).same (lo := lo) (hi := hi) (.of_below HB.out hh) g1' g2'
      have o1 := hide (HF.out j (by omega))
      have o2 := hide (HH.out j hjn)
      have k1 : (0 : Int) ≤ (j : Int) := by omega
      have k2 : (j : Int) < (m : Int) := by omega
      have k3 : (j : Int) < (n : Int) := by omega
      have b5 : b < wr.heap.size := Nat.lt_of_lt_of_le g2 s2
      have b6 : b' < wr.heap.size := Nat.lt_of_lt_of_le g2' s2
      clear g3 g3'
      go_wp2_with fail
      go_region_held3 (fun w' => (w'.cell? ⟨w.heap.size, 3, none⟩ = some (.slice (some ⟨b, off, none⟩) n fc) ∧ w'.cell? ⟨w.heap.size + 1, 3, none⟩ = some (.slice (some ⟨b', off', none⟩) m fd)) ∧ (w'.cell? ⟨b, off + j * 3, none⟩ = some (.int .i64 (F j).kind) ∧ w'.cell? ⟨b, off + j * 3 + 1, none⟩ = some (.int .i64 (F j).of) ∧ w'.cell? ⟨b, off + j * 3 + 2, none⟩ = some (.bool (F j).mt)) ∧ (w'.cell? ⟨b', off' + j * 3, none⟩ = some (.int .i64 (H j).kind) ∧ w'.cell? ⟨b', off' + j * 3 + 1, none⟩ = some (.int .i64 (H j).of) ∧ w'.cell? ⟨b', off' + j * 3 + 2, none⟩ = some (.bool (H j).mt))) (go_keep)
        ((go_at_call 73; refine (l1Fits_any ga gc lo hi gs (F j) (H j) wr.drew HP.out HN.out hc hl s2 (HX.out.keep (HB.out.mono hh).drew) o1.out.1 o1.out.2 o2.out.1 o2.out.2).mono ?_; rintro e w2 ⟨rfl, hb2⟩; have q1 : ∀ o, w2.cell? ⟨w.heap.size, o, none⟩ = wr.cell? ⟨w.heap.size, o, none⟩ := fun o => hb2.cell (Nat.lt_of_succ_lt s1); have q2 : ∀ o, w2.cell? ⟨w.heap.size + 1, o, none⟩ = wr.cell? ⟨w.heap.size + 1, o, none⟩ := fun o => hb2.cell s1; have q3 : ∀ o, w2.cell? ⟨b, o, none⟩ = wr.cell? ⟨b, o, none⟩ := fun o => hb2.cell b5; have q4 : ∀ o, w2.cell? ⟨b', o, none⟩ = wr.cell? ⟨b', o, none⟩ := fun o => hb2.cell b6))
      have C3 := hide ((q1 3).trans c3)
      have C4 := hide ((q2 3).trans c4)
      have HB2 := hide (HB.out.drew.trans (hb2.mono (by exact Nat.le_of_lt (Nat.lt_of_succ_lt s1))))
      clear q1 q2 q3 q4 hb2
      cases hmm : fitsF gs (F j) (H j) with
      | true =>
        have HMM := hide hmm
        clear hmm
        go_wp2_with fail
        exact ⟨⟨j + 1, by omega, by go_num, by simp only [allTo, HA.out, HMM.out, Bool.and_self], HB2.out, C3.out, C4.out⟩, by simp [intOf]; omega⟩
      | false =>
        have HMM := hide hmm
        clear hmm
        go_wp2_with fail
        go_ret
        exact ⟨ret_bool (allTo_false hjn HMM.out).symm, HB2.out⟩
    · have hje : Hid (j = m) := Nat.le_antisymm hj (Nat.le_of_not_lt hjn)
      go_wp2_with fail
      go_ret
      exact ⟨ret_bool (by rw [← hje.out, HA.out]), HB.out⟩

set_option maxHeartbeats 800000 in
theorem l1Below_short (ga : Option Addr) (gc : Nat) (gs : List (List Ty)) (sk tk u v : Int) (sl tl : Bool) (fa fb : Option Addr) (fc fd n m : Nat) (w : World) (hn : n ≤ 4) (hm : m ≤ 4) (h : sk ≠ tk ∨ (sk = tk ∧ tl = true) ∨ (sk = tk ∧ tl = false ∧ n < m)) :
    Calls Tryd.prog 50 #[.slice ga gs.length gc, .agg #[.int .i64 sk, .int .i64 u, .bool sl, .slice fa n fc], .agg #[.int .i64 tk, .int .i64 v, .bool tl, .slice fb m fd]] w
      fun e w' => e = .returned (.bool false) ∧ Below w.heap.size w w' := by
  rcases h with h | ⟨rfl, rfl⟩ | ⟨rfl, rfl, h⟩
  · have hk2 : (sk != tk) = true := by simp [h]
    go_enter Tryd.func50, Tryd.ntmps50
    go_wp2_with fail
    go_ret
    exact ⟨rfl, ((Below.refl _ _).alloc (Nat.le_refl _) _).alloc (by simp) _⟩
  all_goals
    go_enter Tryd.func50, Tryd.ntmps50
    go_wp2_with fail
    go_ret
    exact ⟨rfl, ((Below.refl _ _).alloc (Nat.le_refl _) _).alloc (by simp) _⟩

theorem l1Below_any (ga : Option Addr) (gc lo hi : Nat) (gs : List (List Ty)) (s t : Ty) (fa fb : Option Addr) (fc fd : Nat) (w : World) (hP : Parts gs) (hN : Few gs) (hc : gs.length ≤ gc) (hl : lo ≤ hi) (hh : hi ≤ w.heap.size) (hx : GroupsIn w lo hi ga gs)
    (ls : s.fields.length ≤ 4) (lt : t.fields.length ≤ 4) (hF : ∀ i, i < s.fields.length → OfOk gs (fdAt s.fields i)) (hH : ∀ i, i < t.fields.length → OfOk gs (fdAt t.fields i)) (ff : FieldsIn w lo hi fa s.fields) (fh : FieldsIn w lo hi fb t.fields) :
    Calls Tryd.prog 50 #[.slice ga gs.length gc, .agg #[.int .i64 s.kind, .int .i64 s.up, .bool s.last, .slice fa s.fields.length fc], .agg #[.int .i64 t.kind, .int .i64 t.up, .bool t.last, .slice fb t.fields.length fd]] w
      fun e w' => e = .returned (.bool (belowF gs s t)) ∧ Below w.heap.size w w' := by
  by_cases e : s.kind = t.kind ∧ t.last = false ∧ t.fields.length ≤ s.fields.length
  · obtain ⟨e1, e2, e3⟩ := e
    have hA : belowF gs s t = allTo (fun i => fitsF gs (fdAt s.fields i) (fdAt t.fields i)) t.fields.length := by
      simp [belowF, e1, e2, e3]
    rw [hA, ← e1, e2]
    exact l1Below_loop ga gc lo hi gs s.kind s.up t.up s.last fa fb fc fd s.fields.length t.fields.length (fdAt s.fields) (fdAt t.fields) w hP hN hc hl hh hx ls e3 hF hH ff.fsAt fh.fsAt
  · have hA : belowF gs s t = false := by
      by_cases e1 : s.kind = t.kind
      · cases e2 : t.last with
        | false =>
          have e3 : ¬ t.fields.length ≤ s.fields.length := fun h => e ⟨e1, e2, h⟩
          simp [belowF, e3]
        | true => simp [belowF, e2]
      · simp [belowF, e1]
    rw [hA]
    refine l1Below_short ga gc gs s.kind t.kind s.up t.up s.last t.last fa fb fc fd _ _ w ls lt ?_
    by_cases e1 : s.kind = t.kind
    · cases e2 : t.last with
      | false => exact .inr (.inr ⟨e1, rfl, Nat.lt_of_not_le fun h => e ⟨e1, e2, h⟩⟩)
      | true => exact .inr (.inl ⟨e1, rfl⟩)
    · exact .inl e1

/-- l1Parts: Parts, told. -/
def formsF (gs : List (List Ty)) (x : Nat) (j : Nat) : Bool := allTo (fun i => formOk (tyAt (grAt gs x) i) ((countTo (grAt gs) x + i : Nat) : Int) ((countTo (grAt gs) x + (grAt gs x).length : Nat) : Int)) j
def partsF (gs : List (List Ty)) : Bool := (decide (gs.length ≤ 4) && decide (kinCount gs ≤ 8)) && allTo (fun x => decide (0 < (grAt gs x).length) && formsF gs x (grAt gs x).length) gs.length

theorem allTo_of {p : Nat → Bool} {n : Nat} (h : ∀ i, i < n → p i = true) : allTo p n = true := by
  induction n with
  | zero => rfl
  | succ n ih => simp only [allTo]; rw [ih (fun i hi => h i (by omega)), h n (by omega)]; rfl
theorem partsF_iff (gs : List (List Ty)) : partsF gs = true ↔ Parts gs := by
  unfold partsF Parts
  simp only [Bool.and_eq_true, decide_eq_true_eq]
  constructor
  · rintro ⟨⟨h1, h2⟩, h3⟩
    refine ⟨h1, h2, fun x hx => ?_⟩
    have := allTo_true h3 x hx
    simp only [Bool.and_eq_true, decide_eq_true_eq] at this
    exact ⟨this.1, allTo_true this.2⟩
  · rintro ⟨h1, h2, h3⟩
    refine ⟨⟨h1, h2⟩, allTo_of fun x hx => ?_⟩
    simp only [Bool.and_eq_true, decide_eq_true_eq]
    exact ⟨(h3 x hx).1, allTo_of (h3 x hx).2⟩

set_option maxHeartbeats 1600000 in
set_option maxRecDepth 100000 in
theorem l1Parts_any (ga : Option Addr) (gc lo hi : Nat) (gs : List (List Ty)) (w : World) (hN : Few gs) (hc : gs.length ≤ gc) (hl : lo ≤ hi) (hh : hi ≤ w.heap.size) (hx : GroupsIn w lo hi ga gs) :
    Calls Tryd.prog 49 #[.slice ga gs.length gc] w fun e w' => e = .returned (.bool (partsF gs)) ∧ Below w.heap.size w w' := by
  have l1 := hN.1
  have HX := hide hx
  have HN := hide hN
  have HC := hide (specKinCount_any ga gc lo hi gs w hN hx)
  have kc := kinCount_le hN
  clear hx hN
  by_cases h4 : gs.length ≤ 4
  · by_cases h8 : kinCount gs ≤ 8
    · have HZ : Hid (partsF gs = allTo (fun x => decide (0 < (grAt gs x).length) && formsF gs x (grAt gs x).length) gs.length) := by
        show _ = _; simp [partsF, h4, h8]
      go_enter Tryd.func49, Tryd.ntmps49
      go_wp2_with fail
      refine HC.out.mono ?_
      rintro e w ⟨rfl, rfl⟩
      go_wp2_with fail
      go_loopw [3, 4] (fun me i wr => ∃ k : Nat, k ≤ gs.length ∧ i = .int .i64 k ∧ me = .int .i64 (countTo (grAt gs) k : Nat) ∧ allTo (fun x => decide (0 < (grAt gs x).length) && formsF gs x (grAt gs x).length) k = true ∧ Below w.heap.size w wr) (fun me i wr => gs.length - (intOf i).toNat)
      case atStart => exact ⟨0, Nat.zero_le _, rfl, rfl, rfl, Below.refl _ _⟩
      case round =>
        obtain ⟨k, hk, rfl, rfl, hA, hb⟩ := hrel
        have HA := hide hA
        have HB := hide hb
        have s1 := hb.size
        clear hA hb
        by_cases hkn : k < gs.length
        · rcases HX.out with hnil | ⟨b, off, rfl, k1, k2, k3⟩
          · rw [hnil] at hkn; exact absurd hkn (Nat.not_lt_zero _)
          obtain ⟨ta, tc, c3', c4⟩ := k3 k hkn
          have C4 := hide c4
          have b4 : b < w.heap.size := Nat.lt_of_lt_of_le k2 hh
          have c3 : wr.cell? ⟨b, off + k, none⟩ = some (.slice ta (grAt gs k).length tc) := by rw [HB.out.cell (by exact b4)]; exact c3'
          have ln := (HN.out.2 k hkn).1
          have q1 := countTo_le (grAt gs) gs.length (fun i hi => (HN.out.2 i hi).1) k hk
          have HBg := hide (fun i => l1Begin_any (some ⟨b, off, none⟩) gc lo hi k gs (wr.drewN i) HN.out hc (Nat.le_of_lt hkn) (HX.out.keep (below_drewN (HB.out.mono hh) i)))
          have i1 : (0 : Int) ≤ (k : Int) := by omega
          have i2 : (k : Int) < (gs.length : Int) := by omega
          have HA1 : Hid (allTo (fun x => decide (0 < (grAt gs x).length) && formsF gs x (grAt gs x).length) (k + 1) = (decide (0 < (grAt gs k).length) && formsF gs k (grAt gs k).length)) := by
            show (allTo _ k && _) = _
            rw [HA.out]; simp
          have HA2 : Hid ((decide (0 < (grAt gs k).length) && formsF gs k (grAt gs k).length) = false → partsF gs = false) := fun h => by rw [HZ.out]; exact allTo_false hkn h
          clear k3 c4
          by_cases h0 : (grAt gs k).length ≤ 0
          · have h0' : (((grAt gs k).length : Int) == 0) = true := beq_iff_eq.2 (by omega)
            have HL0 := hide h0'
            go_wp2_with fail
            go_ret
            exact ⟨ret_bool (HA2.out (by simp; omega)).symm, HB.out⟩
          · have h0' : (((grAt gs k).length : Int) == 0) = false := beq_eq_false_iff_ne.2 (by omega)
            rcases C4.out with hnil | ⟨b2, off2, rfl, t1, t2, t3⟩
            · rw [hnil] at h0; exact absurd (Nat.le_refl _) h0
            have T3 := hide t3
            clear t3 C4
            go_wp2_with fail
            go_quiet (first | (go_at_call 71; exact Calls.quiet_of_same (HBg.out _)))
            go_wp2_with fail
            go_loopw [3, 6] (fun me i wi => ∃ j : Nat, j ≤ (grAt gs k).length ∧ i = .int .i64 j ∧ me = .int .i64 ((countTo (grAt gs) k : Int) + (j : Int)) ∧ formsF gs k j = true ∧ Below w.heap.size w wi) (fun me i wi => (grAt gs k).length - (intOf i).toNat)
            case atStart => exact ⟨0, Nat.zero_le _, rfl, by simp, rfl, below_drewN HB.out _⟩
            case round =>
              clear c3 s1
              obtain ⟨j, hj, rfl, rfl, hA', hb'⟩ := hrel
              have HA' := hide hA'
              have HB' := hide hb'
              have s1 := hb'.size
              have c3 : wr.cell? ⟨b, off + k, none⟩ = some (.slice (some ⟨b2, off2, none⟩) (grAt gs k).length tc) := by rw [hb'.cell (by exact b4)]; exact c3'
              clear hA' hb'
              by_cases hjn : j < (grAt gs k).length
              · obtain ⟨e0, e1, e2, fa, fc, e3, e4⟩ := (T3.out j hjn).keep (HB'.out.mono hh) t1 t2
                have E4 := hide e4
                have ff := hide ((HN.out.2 k hkn).2 j hjn)
                have j1 : (0 : Int) ≤ (j : Int) := by omega
                have j2 : (j : Int) < ((grAt gs k).length : Int) := by omega
                clear e4
                go_wp2_with fail
                refine (l1Form_any fa fc lo hi (tyAt (grAt gs k) j) _ _ _ ff.out E4.out (by omega)).mono ?_
                rintro e w2 ⟨rfl, hb2⟩
                have HB2 := hide (HB'.out.trans (hb2.mono s1))
                clear hb2
                have HFm : Hid (formsF gs k (j + 1) = formOk (tyAt (grAt gs k) j) ((countTo (grAt gs) k : Int) + (j : Int)) ((countTo (grAt gs) k : Int) + ((grAt gs k).length : Int))) := by
                  show (formsF gs k j && formOk _ _ _) = _
                  rw [HA'.out]
                  simp
                have HFf : Hid (formOk (tyAt (grAt gs k) j) ((countTo (grAt gs) k : Int) + (j : Int)) ((countTo (grAt gs) k : Int) + ((grAt gs k).length : Int)) = false → formsF gs k (grAt gs k).length = false) := fun h => allTo_false hjn (by simpa using h)
                cases hfo : formOk (tyAt (grAt gs k) j) ((countTo (grAt gs) k : Int) + (j : Int)) ((countTo (grAt gs) k : Int) + ((grAt gs k).length : Int)) with
                | true =>
                  have HO := hide hfo
                  clear hfo
                  go_wp2_with fail
                  refine ⟨⟨j + 1, by omega, by go_num, ?_, by rw [HFm.out]; exact HO.out, HB2.out⟩, by simp [intOf]; omega⟩
                  congr 1
                  try omega
                | false =>
                  have HO := hide hfo
                  clear hfo
                  go_wp2_with fail
                  go_ret
                  exact ⟨ret_bool (HA2.out (by rw [HFf.out HO.out]; simp)).symm, HB2.out⟩
              · have hje : Hid (j = (grAt gs k).length) := Nat.le_antisymm hj (Nat.le_of_not_lt hjn)
                go_wp2_with fail
                refine ⟨⟨k + 1, by omega, by go_num, ?_, ?_, HB'.out⟩, by simp [intOf]; omega⟩
                · have := hje.out
                  simp only [countTo]
                  congr 1
                  try omega
                · have h0'' : decide (0 < (grAt gs k).length) = true := by simp; omega
                  rw [HA1.out, h0'', ← hje.out, HA'.out]; rfl
        · have hke : Hid (k = gs.length) := Nat.le_antisymm hk (Nat.le_of_not_lt hkn)
          go_wp2_with fail
          go_ret
          exact ⟨ret_bool (by rw [HZ.out, ← hke.out, HA.out]), HB.out⟩
    · have HZ : Hid (partsF gs = false) := by show _ = _; simp [partsF, h8]
      go_enter Tryd.func49, Tryd.ntmps49
      go_wp2_with fail
      refine HC.out.mono ?_
      rintro e w ⟨rfl, rfl⟩
      go_wp2_with fail
      go_ret
      exact ⟨ret_bool HZ.out.symm, Below.refl _ _⟩
  · have HZ : Hid (partsF gs = false) := by show _ = _; simp [partsF, h4]
    go_enter Tryd.func49, Tryd.ntmps49
    go_wp2_with fail
    go_ret
    exact ⟨ret_bool HZ.out.symm, Below.refl _ _⟩

/-- KinOk. -/
def kinOkF (gs : List (List Ty)) : Bool := partsF gs && allTo (fun i => decide ((tyN gs i).up < 0) || belowF gs (tyN gs i) (tyN gs (tyN gs i).up.toNat)) (kinCount gs)

theorem ofOk_of {gs : List (List Ty)} {f : Fd} (h : fieldOk f.kind f.of (kinCount gs : Nat) = true) : OfOk gs f := by
  unfold fieldOk at h
  split at h
  · rename_i h1; simp at h; exact ⟨by omega, .inr h1⟩
  · split at h
    · simp at h; exact ⟨by omega, .inl (by omega)⟩
    · simp at h

set_option maxHeartbeats 1600000 in
set_option maxRecDepth 100000 in
theorem specKinOk_any (ga : Option Addr) (gc lo hi : Nat) (gs : List (List Ty)) (w : World) (hN : Few gs) (hc : gs.length ≤ gc) (hl : lo ≤ hi) (hh : hi ≤ w.heap.size) (hx : GroupsIn w lo hi ga gs) :
    Calls Tryd.prog 20 #[.slice ga gs.length gc] w fun e w' => e = .returned (.bool (kinOkF gs)) ∧ Below w.heap.size w w' := by
  have HX := hide hx
  have HN := hide hN
  clear hx hN
  go_enter Tryd.func20, Tryd.ntmps20
  go_wp2_with fail
  refine (l1Parts_any ga gc lo hi gs w HN.out hc hl hh HX.out).mono ?_
  rintro e w1 ⟨rfl, hb1⟩
  have HB1 := hide hb1
  have s1 := hb1.size
  clear hb1
  cases hpf : partsF gs with
  | false =>
    have HZ : Hid (kinOkF gs = false) := by show _ = _; simp [kinOkF, hpf]
    clear hpf
    go_wp2_with fail
    go_ret
    exact ⟨ret_bool HZ.out.symm, HB1.out⟩
  | true =>
    have HZ : Hid (kinOkF gs = allTo (fun i => decide ((tyN gs i).up < 0) || belowF gs (tyN gs i) (tyN gs (tyN gs i).up.toNat)) (kinCount gs)) := by show _ = _; simp [kinOkF, hpf]
    have HP := hide ((partsF_iff gs).1 hpf)
    have m8 := HP.out.2.1
    clear hpf
    go_wp2_with fail
    refine (l1Flat_any ga gc lo hi gs _ HN.out (HX.out.keep (HB1.out.mono hh)) (Nat.le_trans hh s1) hl).mono ?_
    rintro e w2 ⟨na, nc, rfl, ht, hb2⟩
    have HT := hide ht
    have HB2 := hide (HB1.out.trans (hb2.mono s1))
    have s2 := hb2.size
    clear ht hb2
    go_wp2_with fail
    go_loopw [4] (fun i wr => ∃ j : Nat, j ≤ kinCount gs ∧ i = .int .i64 j ∧ allTo (fun i => decide ((tyN gs i).up < 0) || belowF gs (tyN gs i) (tyN gs (tyN gs i).up.toNat)) j = true ∧ Below w.heap.size w wr ∧ Below w2.heap.size w2 wr) (fun i wr => kinCount gs - (intOf i).toNat)
    case atStart => exact ⟨0, Nat.zero_le _, rfl, rfl, HB2.out, Below.refl _ _⟩
    case round =>
      obtain ⟨j, hj, rfl, hA, hb, hbb⟩ := hrel
      have HA := hide hA
      have HB := hide hb
      have HBB := hide hbb
      have s3 := hbb.size
      clear hA hb hbb
      by_cases hjn : j < kinCount gs
      · rcases HT.out with hnil | ⟨b, off, rfl, g1, g2, g3⟩
        · have := flat_length gs
          rw [hnil] at this
          simp at this
          omega
        obtain ⟨p1, ⟨p2, p3⟩, p4⟩ := parts_flat HP.out hjn
        obtain ⟨e0, e1, e2, fa, fc, e3, e4⟩ := (g3 j (by rw [flat_length]; exact hjn)).keep HBB.out g1 g2
        have G3 := hide g3
        have E4 := hide e4
        have j1 : (0 : Int) ≤ (j : Int) := by omega
        have j2 : (j : Int) < (kinCount gs : Int) := by omega
        have HA1 : Hid (allTo (fun i => decide ((tyN gs i).up < 0) || belowF gs (tyN gs i) (tyN gs (tyN gs i).up.toNat)) (j + 1) = (decide ((tyN gs j).up < 0) || belowF gs (tyN gs j) (tyN gs (tyN gs j).up.toNat))) := by
          show (allTo _ j && _) = _
          rw [HA.out]; simp
        have HA2 : Hid ((decide ((tyN gs j).up < 0) || belowF gs (tyN gs j) (tyN gs (tyN gs j).up.toNat)) = false → kinOkF gs = false) := fun h => by rw [HZ.out]; exact allTo_false hjn h
        have e1' : wr.cell? ⟨b, off + j * 4 + 1, none⟩ = some (.int .i64 (tyN gs j).up) := e1
        have e0' : wr.cell? ⟨b, off + j * 4, none⟩ = some (.int .i64 (tyN gs j).kind) := e0
        have e2' : wr.cell? ⟨b, off + j * 4 + 2, none⟩ = some (.bool (tyN gs j).last) := e2
        have e3' : wr.cell? ⟨b, off + j * 4 + 3, none⟩ = some (.slice fa (tyN gs j).fields.length fc) := e3
        have P4 := hide p4
        clear g3 e0 e1 e2 e3 e4 p4
        by_cases hup : (tyN gs j).up < 0
        · have hd : decide (0 ≤ (tyN gs j).up) = false := by simp; omega
          go_wp2_with fail
          go_quiet (fail)
          go_wp2_with fail
          exact ⟨⟨j + 1, by omega, by go_num, by rw [HA1.out]; simp [hup], below_drewN HB.out _, below_drewN HBB.out _⟩, by simp [intOf]; omega⟩
        · obtain ⟨m, hm⟩ := Int.eq_ofNat_of_zero_le (show 0 ≤ (tyN gs j).up by omega)
          have hmc : m < kinCount gs := by omega
          obtain ⟨q1, _, q4⟩ := parts_flat HP.out hmc
          obtain ⟨f0, f1, f2, fb, fd, f3, f4⟩ := (G3.out m (by rw [flat_length]; exact hmc)).keep HBB.out g1 g2
          have f0' : wr.cell? ⟨b, off + m * 4, none⟩ = some (.int .i64 (tyN gs m).kind) := f0
          have f1' : wr.cell? ⟨b, off + m * 4 + 1, none⟩ = some (.int .i64 (tyN gs m).up) := f1
          have f2' : wr.cell? ⟨b, off + m * 4 + 2, none⟩ = some (.bool (tyN gs m).last) := f2
          have f3' : wr.cell? ⟨b, off + m * 4 + 3, none⟩ = some (.slice fb (tyN gs m).fields.length fd) := f3
          have F4 := hide f4
          have Q4 := hide q4
          have HMt : Hid ((tyN gs j).up.toNat = m) := by show _ = _; rw [hm]; simp
          have m1 : (0 : Int) ≤ (m : Int) := by omega
          have m2 : (m : Int) < (kinCount gs : Int) := by omega
          have b5 : b < wr.heap.size := by omega
          have hs4 : w2.heap.size ≤ wr.heap.size := s3
          have HU : Hid ((tyN gs j).up = (m : Int)) := hm
          rw [hm] at e1'
          clear f0 f1 f2 f3 f4 q4 hm
          have hcall : Calls Tryd.prog 50 #[.slice ga gs.length gc, .agg #[.int .i64 (tyN gs j).kind, .int .i64 (m : Int), .bool (tyN gs j).last, .slice fa (tyN gs j).fields.length fc], .agg #[.int .i64 (tyN gs m).kind, .int .i64 (tyN gs m).up, .bool (tyN gs m).last, .slice fb (tyN gs m).fields.length fd]] wr.drew
              fun e w' => e = .returned (.bool (belowF gs (tyN gs j) (tyN gs m))) ∧ Below wr.heap.size wr.drew w' := by
            have h := l1Below_any ga gc lo w2.heap.size gs (tyN gs j) (tyN gs m) fa fb fc fd wr.drew HP.out HN.out hc (by omega) s3 ((HX.out.keep (HB.out.mono hh).drew).wide (Nat.le_refl _) (by omega)) p1 q1 (fun i hi => ofOk_of (P4.out i hi)) (fun i hi => ofOk_of (Q4.out i hi)) E4.out F4.out
            rw [HU.out] at h
            exact h
          have HC := hide hcall
          clear hcall
          have HBl : Hid ((decide ((tyN gs j).up < 0) || belowF gs (tyN gs j) (tyN gs (tyN gs j).up.toNat)) = belowF gs (tyN gs j) (tyN gs m)) := by
            show _ = _
            rw [HMt.out]
            have : decide ((tyN gs j).up < 0) = false := by simp; omega
            rw [this]; rfl
          clear hup p2 p3
          have hd : decide ((0 : Int) ≤ (m : Int)) = true := by simp
          go_wp2_with fail
          go_region_held3 (fun w' => (w'.cell? ⟨b, off + j * 4, none⟩ = some (.int .i64 (tyN gs j).kind) ∧ w'.cell? ⟨b, off + j * 4 + 1, none⟩ = some (.int .i64 (m : Int)) ∧ w'.cell? ⟨b, off + j * 4 + 2, none⟩ = some (.bool (tyN gs j).last) ∧ w'.cell? ⟨b, off + j * 4 + 3, none⟩ = some (.slice fa (tyN gs j).fields.length fc)) ∧ (w'.cell? ⟨b, off + m * 4, none⟩ = some (.int .i64 (tyN gs m).kind) ∧ w'.cell? ⟨b, off + m * 4 + 1, none⟩ = some (.int .i64 (tyN gs m).up) ∧ w'.cell? ⟨b, off + m * 4 + 2, none⟩ = some (.bool (tyN gs m).last) ∧ w'.cell? ⟨b, off + m * 4 + 3, none⟩ = some (.slice fb (tyN gs m).fields.length fd))) (go_keep)
            ((go_at_call 50; refine HC.out.mono ?_; rintro e w3 ⟨rfl, hb3⟩; have q1 : ∀ o, w3.cell? ⟨b, o, none⟩ = wr.cell? ⟨b, o, none⟩ := fun o => hb3.cell b5))
          have HB3 := hide (HB.out.drew.trans (hb3.mono (by omega)))
          have HBB3 := hide (HBB.out.drew.trans (hb3.mono s3))
          clear q1 hb3
          cases hbf : belowF gs (tyN gs j) (tyN gs m) with
          | true =>
            have HO := hide hbf
            clear hbf
            go_wp2_with fail
            exact ⟨⟨j + 1, by omega, by go_num, by rw [HA1.out, HBl.out, HO.out], HB3.out, HBB3.out⟩, by simp [intOf]; omega⟩
          | false =>
            have HO := hide hbf
            clear hbf
            go_wp2_with fail
            go_ret
            exact ⟨ret_bool (HA2.out (HBl.out.trans HO.out)).symm, HB3.out⟩
      · have hje : Hid (j = kinCount gs) := Nat.le_antisymm hj (Nat.le_of_not_lt hjn)
        go_wp2_with fail
        go_ret
        exact ⟨ret_bool (by rw [HZ.out, ← hje.out, HA.out]), HB.out⟩
end Go.Proofs.YtejkebfhiddhmaaDoor
