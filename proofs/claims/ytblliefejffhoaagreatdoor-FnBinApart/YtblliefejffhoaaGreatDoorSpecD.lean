/- l1Same of the model: whether two types are the same. -/
import Derived.Test.YtblliefejffhoaaGreatDoorSpecC
namespace Go.Proofs.YtblliefejffhoaaGreatDoor
open Go.ChangeShapes Go.WideShapes Go.ChangeAt Go.RowKit
set_option linter.unusedVariables false

/-- Whether two types are the same, given what is known of those ahead. -/
def sameStep (S : Nat → Nat → Bool) (gs : List (List Ty)) (p q : Nat) : Bool :=
  if p = q then true
  else if grp gs p = grp gs q ∨ p - beg gs (grp gs p) ≠ q - beg gs (grp gs q) ∨ (grAt gs (grp gs p)).length ≠ (grAt gs (grp gs q)).length then false
  else allTo (fun i => alikeF S gs (tyAt (grAt gs (grp gs p)) i) (tyAt (grAt gs (grp gs q)) i) (grp gs p) (grp gs q)) (grAt gs (grp gs p)).length
def sameF : Nat → List (List Ty) → Nat → Nat → Bool
  | 0, _ => fun _ _ => false
  | f + 1, gs => sameStep (sameF f gs) gs
/-- KinSame of types of right groups. -/
def same (gs : List (List Ty)) (p q : Nat) : Bool := sameF (p + 1) gs p q

theorem matchF_congr {S S' : Nat → Nat → Bool} {gs : List (List Ty)} {a b : Int} {x y : Nat} (h : ∀ p q, p < beg gs x → S p q = S' p q) : matchF S gs a b x y = matchF S' gs a b x y := by
  unfold matchF
  split
  · rfl
  · split
    · rfl
    · by_cases c : a < (beg gs x : Int)
      · rw [h _ _ (by omega)]
      · simp [c]
theorem allTo_congr {p p' : Nat → Bool} {n : Nat} (h : ∀ i, i < n → p i = p' i) : allTo p n = allTo p' n := by
  induction n with
  | zero => rfl
  | succ n ih => simp only [allTo]; rw [ih (fun i hi => h i (by omega)), h n (by omega)]
theorem alikeF_congr {S S' : Nat → Nat → Bool} {gs : List (List Ty)} {s t : Ty} {x y : Nat} (h : ∀ p q, p < beg gs x → S p q = S' p q) : alikeF S gs s t x y = alikeF S' gs s t x y := by
  unfold alikeF
  rw [matchF_congr h, allTo_congr (p' := fun i => fAlike S' gs (fdAt s.fields i) (fdAt t.fields i) x y) (fun i _ => by unfold fAlike; rw [matchF_congr h])]
theorem sameStep_congr {S S' : Nat → Nat → Bool} {gs : List (List Ty)} {p q : Nat} (h : ∀ a b, a < beg gs (grp gs p) → S a b = S' a b) : sameStep S gs p q = sameStep S' gs p q := by
  unfold sameStep
  split
  · rfl
  · split
    · rfl
    · exact allTo_congr fun i _ => alikeF_congr h

theorem sameF_stable (gs : List (List Ty)) : ∀ f f' p q, p < kinCount gs → p < f → p < f' → sameF f gs p q = sameF f' gs p q := by
  intro f
  induction f with
  | zero => intro f' p q _ h; omega
  | succ f ih =>
    intro f' p q hc h1 h2
    cases f' with
    | zero => omega
    | succ f' =>
      refine sameStep_congr fun a b ha => ?_
      have := (grp_spec gs p hc).2.1
      unfold beg at ha
      exact ih f' a b (by omega) (by omega) (by omega)
theorem same_step (gs : List (List Ty)) (p q : Nat) (hp : p < kinCount gs) : same gs p q = sameStep (same gs) gs p q := by
  show sameStep (sameF p gs) gs p q = _
  refine sameStep_congr fun a b ha => ?_
  have := (grp_spec gs p hp).2.1
  unfold beg at ha
  exact sameF_stable gs p (a + 1) a b (by omega) (by omega) (by omega)

theorem allTo_true {p : Nat → Bool} {n : Nat} (h : allTo p n = true) : ∀ i, i < n → p i = true := by
  induction n with
  | zero => intro i hi; omega
  | succ n ih =>
    simp only [allTo, Bool.and_eq_true] at h
    intro i hi
    by_cases e : i = n
    · subst e; exact h.2
    · exact ih h.1 i (by omega)

theorem parts_bounds {gs : List (List Ty)} (hP : PartsW gs) {x i : Nat} (hx : x < gs.length) (hi : i < (grAt gs x).length) :
    (tyAt (grAt gs x) i).fields.length ≤ 4 ∧ (-2 ≤ (tyAt (grAt gs x) i).up ∧ (tyAt (grAt gs x) i).up ≤ 1000) ∧ ∀ j, j < (tyAt (grAt gs x) i).fields.length → -2 ≤ (fdAt (tyAt (grAt gs x) i).fields j).of ∧ (fdAt (tyAt (grAt gs x) i).fields j).of ≤ 1000 := by
  obtain ⟨h1, ⟨h2, h3⟩, h4⟩ := hP.2 x hx i hi
  have hc : countTo (grAt gs) (x + 1) ≤ kinCount gs := countTo_mono (grAt gs) hx
  have h8 := hP.1
  simp only [countTo] at hc
  exact ⟨h1, ⟨by omega, by omega⟩, h4⟩

theorem Parts.w {gs : List (List Ty)} (hP : Parts gs) : PartsW gs := by
  refine ⟨hP.2.1, fun x hx i hi => ?_⟩
  have h := (hP.2.2 x hx).2 i hi
  have hc : countTo (grAt gs) (x + 1) ≤ kinCount gs := countTo_mono (grAt gs) hx
  have h8 := hP.2.1
  simp only [countTo] at hc
  unfold formOk at h
  simp only [Bool.and_eq_true, decide_eq_true_eq] at h
  obtain ⟨⟨⟨a1, a2⟩, a3⟩, _, a5⟩ := h
  refine ⟨a3, ⟨by omega, by omega⟩, fun j hj => ?_⟩
  have hf := allTo_true a5 j hj
  unfold fieldOk at hf
  split at hf
  · simp at hf; omega
  · split at hf
    · simp at hf; omega
    · simp at hf

set_option maxHeartbeats 1600000 in
set_option maxRecDepth 100000 in
theorem l1Same_step (ga : Option Addr) (gc lo hi : Nat) (gs : List (List Ty)) (S : Nat → Nat → Bool) (p q : Nat) (w : World) (hP : PartsW gs) (hN : Few gs) (hc : gs.length ≤ gc) (hh : hi ≤ w.heap.size) (hx : GroupsIn w lo hi ga gs)
    (hp : p < kinCount gs) (hq : q < kinCount gs) (ih : SameSaid ga gc lo hi gs S (beg gs (grp gs p))) :
    Calls Tryz.prog 142 #[.slice ga gs.length gc, .int .i64 (p : Int), .int .i64 (q : Int)] w fun e w' => e = .returned (.bool (sameStep S gs p q)) ∧ Below w.heap.size w w' := by
  have m3 := hP.1
  have HX := hide hx
  have HN := hide hN
  have HP := hide hP
  have IH := hide ih
  clear hx hN hP ih
  by_cases hpq : p = q
  · subst hpq
    have HF : Hid (sameStep S gs p p = true) := by show _ = _; simp [sameStep]
    go_enter Tryz.func142, Tryz.ntmps142
    go_wp2_with fail
    go_ret
    exact ⟨ret_bool HF.out.symm, Below.refl _ _⟩
  have hne : ((p : Int) == (q : Int)) = false := by simp; omega
  have HG1 := hide (l1Group_any ga gc lo hi p gs w HN.out hp HX.out)
  have HG2 := hide (l1Group_any ga gc lo hi q gs w HN.out hq HX.out)
  obtain ⟨g1, g2, g3⟩ := grp_spec gs p hp
  obtain ⟨g1', g2', g3'⟩ := grp_spec gs q hq
  have HS : Hid (sameStep S gs p q = if grp gs p = grp gs q ∨ p - beg gs (grp gs p) ≠ q - beg gs (grp gs q) ∨ (grAt gs (grp gs p)).length ≠ (grAt gs (grp gs q)).length then false
      else allTo (fun i => alikeF S gs (tyAt (grAt gs (grp gs p)) i) (tyAt (grAt gs (grp gs q)) i) (grp gs p) (grp gs q)) (grAt gs (grp gs p)).length) := by
    show _ = _; unfold sameStep; rw [if_neg hpq]
  unfold beg at HS
  generalize hz : sameStep S gs p q = z at *
  clear hz
  have IH' : Hid (SameSaid ga gc lo hi gs S (beg gs (grp gs p))) := IH
  generalize hx1 : grp gs p = x at *
  generalize hy1 : grp gs q = y at *
  clear hx1 hy1 IH
  by_cases hxy : x = y
  · subst hxy
    have HZ : Hid (z = false) := by rw [HS.out, if_pos (.inl rfl)]; rfl
    clear HS
    go_enter Tryz.func142, Tryz.ntmps142
    go_wp2_with fail
    refine HG1.out.mono ?_
    rintro e w ⟨rfl, rfl⟩
    go_wp2_with fail
    refine HG2.out.mono ?_
    rintro e w ⟨rfl, rfl⟩
    go_wp2_with fail
    go_quiet (fail)
    go_wp2_with fail
    go_ret
    exact ⟨ret_bool HZ.out.symm, below_drewN (Below.refl _ _) _⟩
  have hxy' : ((x : Int) == (y : Int)) = false := by simp; omega
  have HB1 := hide (fun k => l1Begin_any ga gc lo hi x gs (w.drewN k) HN.out hc (Nat.le_of_lt g1) HX.out)
  have HB2 := hide (fun k => l1Begin_any ga gc lo hi y gs (w.drewN k) HN.out hc (Nat.le_of_lt g1') HX.out)
  by_cases hd : p - countTo (grAt gs) x = q - countTo (grAt gs) y
  · have hd' : ((p : Int) - (countTo (grAt gs) x : Int) != (q : Int) - (countTo (grAt gs) y : Int)) = false := by simp; omega
    have HD := hide hd
    clear hd
    rcases HX.out with hnil | ⟨b, off, rfl, k1, k2, k3⟩
    · rw [hnil] at g1; exact absurd g1 (Nat.not_lt_zero _)
    obtain ⟨ta, tc, c3, c4⟩ := k3 x g1
    obtain ⟨ta', tc', d3, d4⟩ := k3 y g1'
    have i1 : (0 : Int) ≤ (x : Int) := by omega
    have i2 : (x : Int) < (gs.length : Int) := by omega
    have i3 : (0 : Int) ≤ (y : Int) := by omega
    have i4 : (y : Int) < (gs.length : Int) := by omega
    have C4 := hide c4
    have D4 := hide d4
    clear k3 c4 d4
    by_cases hl : (grAt gs x).length = (grAt gs y).length
    · have HZ : Hid (z = allTo (fun i => alikeF S gs (tyAt (grAt gs x) i) (tyAt (grAt gs y) i) x y) (grAt gs x).length) := by
        rw [HS.out, if_neg]; rfl
        rintro (h | h | h)
        · exact hxy h
        · exact h HD.out
        · exact h hl
      have n0 : 0 < (grAt gs x).length := by have h9 := g3; simp only [countTo] at h9; omega
      have nlen := (HN.out.2 x g1).1
      rcases C4.out with hnil | ⟨b2, off2, rfl, t1, t2, t3⟩
      · rw [hnil] at n0; exact absurd n0 (Nat.lt_irrefl _)
      rcases D4.out with hnil | ⟨b3, off3, rfl, u1, u2, u3⟩
      · rw [hl, hnil] at n0; exact absurd n0 (Nat.lt_irrefl _)
      rw [← hl] at d3
      have HL := hide hl
      have T3 := hide t3
      have U3 := hide u3
      have HDD := hide hd'
      clear HS C4 D4 hl t3 u3
      go_enter Tryz.func142, Tryz.ntmps142
      go_wp2_with fail
      refine HG1.out.mono ?_
      rintro e w ⟨rfl, rfl⟩
      go_wp2_with fail
      refine HG2.out.mono ?_
      rintro e w ⟨rfl, rfl⟩
      go_wp2_with fail
      go_quiet (first | (go_at_call_of 97 (Value.int IntKind.i64 (x : Int)); exact Calls.quiet_of_same (HB1.out _)) | (go_at_call_of 97 (Value.int IntKind.i64 (y : Int)); exact Calls.quiet_of_same (HB2.out _)))
      clear hd'
      go_wp2_with fail
      go_loopw [9] (fun i wr => ∃ j : Nat, j ≤ (grAt gs x).length ∧ i = .int .i64 j ∧ allTo (fun i => alikeF S gs (tyAt (grAt gs x) i) (tyAt (grAt gs y) i) x y) j = true ∧ Below w.heap.size w wr) (fun i wr => (grAt gs x).length - (intOf i).toNat)
      case atStart => exact ⟨0, Nat.zero_le _, rfl, rfl, below_drewN (Below.refl _ _) _⟩
      case round =>
        obtain ⟨j, hj, rfl, hA, hb⟩ := hrel
        have HA := hide hA
        have HB := hide hb
        have s1 := hb.size
        have b4 : b < w.heap.size := Nat.lt_of_lt_of_le k2 hh
        have c5 : wr.cell? ⟨b, off + x, none⟩ = some (.slice (some ⟨b2, off2, none⟩) (grAt gs x).length tc) := by rw [hb.cell (by exact b4)]; exact c3
        have d5 : wr.cell? ⟨b, off + y, none⟩ = some (.slice (some ⟨b3, off3, none⟩) (grAt gs x).length tc') := by rw [hb.cell (by exact b4)]; exact d3
        clear hA hb c3 d3
        by_cases hjn : j < (grAt gs x).length
        · obtain ⟨e0, e1, e2, fa, fc, e3, e4⟩ := (T3.out j hjn).keep (HB.out.mono hh) t1 t2
          obtain ⟨f0, f1, f2, fb, fd, f3, f4⟩ := (U3.out j (by have := HL.out; omega)).keep (HB.out.mono hh) u1 u2
          obtain ⟨p1, p2, p3⟩ := parts_bounds HP.out g1 hjn
          obtain ⟨p1', p2', p3'⟩ := parts_bounds HP.out g1' (i := j) (by have := HL.out; omega)
          have E4 := hide e4
          have F4 := hide f4
          have P2 := hide p2
          have P3 := hide p3
          have P2' := hide p2'
          have P3' := hide p3'
          have j1 : (0 : Int) ≤ (j : Int) := by omega
          have j2 : (j : Int) < ((grAt gs x).length : Int) := by omega
          have hs2 : hi ≤ wr.heap.size := Nat.le_trans hh s1
          have b5 : b < wr.heap.size := Nat.lt_of_lt_of_le b4 s1
          have b6 : b2 < wr.heap.size := Nat.lt_of_lt_of_le t2 hs2
          have b7 : b3 < wr.heap.size := Nat.lt_of_lt_of_le u2 hs2
          clear e4 f4 p2 p3 p2' p3'
          go_wp2_with fail
          go_region_held3 (fun w' => (w'.cell? ⟨b, off + x, none⟩ = some (.slice (some ⟨b2, off2, none⟩) (grAt gs x).length tc) ∧ w'.cell? ⟨b, off + y, none⟩ = some (.slice (some ⟨b3, off3, none⟩) (grAt gs x).length tc')) ∧
              (w'.cell? ⟨b2, off2 + j * 4, none⟩ = some (.int .i64 (tyAt (grAt gs x) j).kind) ∧ w'.cell? ⟨b2, off2 + j * 4 + 1, none⟩ = some (.int .i64 (tyAt (grAt gs x) j).up) ∧ w'.cell? ⟨b2, off2 + j * 4 + 2, none⟩ = some (.bool (tyAt (grAt gs x) j).last) ∧ w'.cell? ⟨b2, off2 + j * 4 + 3, none⟩ = some (.slice fa (tyAt (grAt gs x) j).fields.length fc)) ∧
              (w'.cell? ⟨b3, off3 + j * 4, none⟩ = some (.int .i64 (tyAt (grAt gs y) j).kind) ∧ w'.cell? ⟨b3, off3 + j * 4 + 1, none⟩ = some (.int .i64 (tyAt (grAt gs y) j).up) ∧ w'.cell? ⟨b3, off3 + j * 4 + 2, none⟩ = some (.bool (tyAt (grAt gs y) j).last) ∧ w'.cell? ⟨b3, off3 + j * 4 + 3, none⟩ = some (.slice fb (tyAt (grAt gs y) j).fields.length fd))) (go_keep)
            ((go_at_call 148; refine (l1Alike_any (some ⟨b, off, none⟩) gc lo hi gs S (tyAt (grAt gs x) j) (tyAt (grAt gs y) j) fa fb fc fd x y wr.drew HP.out HN.out hc hs2 (HX.out.keep (HB.out.mono hh).drew) g1 g1' p1 p1' P2.out P2'.out P3.out P3'.out E4.out F4.out IH'.out).mono ?_; rintro e w2 ⟨rfl, hb2⟩; have q1 : ∀ o, w2.cell? ⟨b, o, none⟩ = wr.cell? ⟨b, o, none⟩ := fun o => hb2.cell b5; have q2 : ∀ o, w2.cell? ⟨b2, o, none⟩ = wr.cell? ⟨b2, o, none⟩ := fun o => hb2.cell b6; have q3 : ∀ o, w2.cell? ⟨b3, o, none⟩ = wr.cell? ⟨b3, o, none⟩ := fun o => hb2.cell b7))
          have HB2 := hide (HB.out.drew.trans (hb2.mono (by exact s1)))
          clear q1 q2 q3 hb2
          cases hal : alikeF S gs (tyAt (grAt gs x) j) (tyAt (grAt gs y) j) x y with
          | true =>
            have HAL := hide hal
            clear hal
            go_wp2_with fail
            exact ⟨⟨j + 1, by omega, by go_num, by simp only [allTo, HA.out, HAL.out, Bool.and_self], HB2.out⟩, by simp [intOf]; omega⟩
          | false =>
            have HAL := hide hal
            clear hal
            go_wp2_with fail
            go_ret
            exact ⟨ret_bool (by rw [HZ.out]; exact (allTo_false hjn HAL.out).symm), HB2.out⟩
        · have hje : Hid (j = (grAt gs x).length) := Nat.le_antisymm hj (Nat.le_of_not_lt hjn)
          go_wp2_with fail
          go_ret
          exact ⟨ret_bool (by rw [HZ.out, ← hje.out, HA.out]), HB.out⟩
    · have HZ : Hid (z = false) := by rw [HS.out, if_pos (.inr (.inr hl))]; rfl
      have hl' : (((grAt gs x).length : Int) != ((grAt gs y).length : Int)) = true := by simp; omega
      clear HS
      go_enter Tryz.func142, Tryz.ntmps142
      go_wp2_with fail
      refine HG1.out.mono ?_
      rintro e w ⟨rfl, rfl⟩
      go_wp2_with fail
      refine HG2.out.mono ?_
      rintro e w ⟨rfl, rfl⟩
      go_wp2_with fail
      go_quiet (first | (go_at_call_of 97 (Value.int IntKind.i64 (x : Int)); exact Calls.quiet_of_same (HB1.out _)) | (go_at_call_of 97 (Value.int IntKind.i64 (y : Int)); exact Calls.quiet_of_same (HB2.out _)))
      go_wp2_with fail
      go_ret
      exact ⟨ret_bool HZ.out.symm, below_drewN (Below.refl _ _) _⟩
  · have HZ : Hid (z = false) := by rw [HS.out, if_pos (.inr (.inl hd))]; rfl
    have hd' : ((p : Int) - (countTo (grAt gs) x : Int) != (q : Int) - (countTo (grAt gs) y : Int)) = true := by simp; omega
    clear HS
    go_enter Tryz.func142, Tryz.ntmps142
    go_wp2_with fail
    refine HG1.out.mono ?_
    rintro e w ⟨rfl, rfl⟩
    go_wp2_with fail
    refine HG2.out.mono ?_
    rintro e w ⟨rfl, rfl⟩
    go_wp2_with fail
    go_quiet (first | (go_at_call_of 97 (Value.int IntKind.i64 (x : Int)); exact Calls.quiet_of_same (HB1.out _)) | (go_at_call_of 97 (Value.int IntKind.i64 (y : Int)); exact Calls.quiet_of_same (HB2.out _)))
    go_wp2_with fail
    go_ret
    exact ⟨ret_bool HZ.out.symm, below_drewN (Below.refl _ _) _⟩

/-- l1Same answers what same says. -/
theorem sameSaid (ga : Option Addr) (gc lo hi : Nat) (gs : List (List Ty)) (hP : PartsW gs) (hN : Few gs) (hc : gs.length ≤ gc) : ∀ B, B ≤ kinCount gs → SameSaid ga gc lo hi gs (same gs) B := by
  intro B
  induction B with
  | zero => intro _ p q hp; omega
  | succ B ih =>
    intro hB p q hp hq w hh hx
    have ih' := ih (by omega)
    have hpc : p < kinCount gs := by omega
    rw [same_step gs p q hpc]
    refine l1Same_step ga gc lo hi gs (same gs) p q w hP hN hc hh hx hpc hq ?_
    intro p' q' hp' hq' w' hh' hx'
    have := (grp_spec gs p hpc).2.1
    unfold beg at hp'
    exact ih' p' q' (by omega) hq' w' hh' hx'
theorem l1Same_w (ga : Option Addr) (gc lo hi : Nat) (gs : List (List Ty)) (p q : Nat) (w : World) (hP : PartsW gs) (hN : Few gs) (hc : gs.length ≤ gc) (hp : p < kinCount gs) (hq : q < kinCount gs) (hh : hi ≤ w.heap.size) (hx : GroupsIn w lo hi ga gs) :
    Calls Tryz.prog 142 #[.slice ga gs.length gc, .int .i64 (p : Int), .int .i64 (q : Int)] w fun e w' => e = .returned (.bool (same gs p q)) ∧ Below w.heap.size w w' :=
  sameSaid ga gc lo hi gs hP hN hc (kinCount gs) (Nat.le_refl _) p q hp hq w hh hx

end Go.Proofs.YtblliefejffhoaaGreatDoor
