/- PaSpecB: SpecD, SpecE, SpecF, CanonA, CanonB. -/
import Derived.Test.YtembifoimiochaaGreatDoorPaSpecA
import Derived.Lib.ItoaNum
namespace Go.Proofs.YtembifoimiochaaGreatDoor
open Go.ChangeShapes Go.WideShapes Go.ChangeAt Go.RowKit
set_option linter.unusedVariables false
def sameStep (S : Nat → Nat → Bool) (gs : List (List Ty)) (p q : Nat) : Bool :=
 if p = q then true
 else if grp gs p = grp gs q ∨ p - beg gs (grp gs p) ≠ q - beg gs (grp gs q) ∨ (grAt gs (grp gs p)).length ≠ (grAt gs (grp gs q)).length then false
 else allTo (fun i => alikeF S gs (tyAt (grAt gs (grp gs p)) i) (tyAt (grAt gs (grp gs q)) i) (grp gs p) (grp gs q)) (grAt gs (grp gs p)).length
def sameF : Nat → List (List Ty) → Nat → Nat → Bool
 | 0, _ => fun _ _ => false
 | f + 1, gs => sameStep (sameF f gs) gs
def same (gs : List (List Ty)) (p q : Nat) : Bool := sameF (p + 1) gs p q
theorem matchF_congr {S S' : Nat → Nat → Bool} {gs : List (List Ty)} {a b : Int} {x y : Nat} (h : ∀ p q, p < beg gs x → S p q = S' p q) : matchF S gs a b x y = matchF S' gs a b x y := by
 unfold matchF
 split
 ·rfl
 ·split
  ·rfl
  ·by_cases c : a < (beg gs x : Int)
   ·rw [h _ _ (by omega)]
   ·simp [c]
theorem allTo_congr {p p' : Nat → Bool} {n : Nat} (h : ∀ i, i < n → p i = p' i) : allTo p n = allTo p' n := by
 induction n with
 | zero => rfl
 | succ n ih => simp only [allTo]; rw [ih (fun i hi => h i (by omega)), h n (by omega)]
theorem alikeF_congr {S S' : Nat → Nat → Bool} {gs : List (List Ty)} {s t : Ty} {x y : Nat} (h : ∀ p q, p < beg gs x → S p q = S' p q) : alikeF S gs s t x y = alikeF S' gs s t x y := by
 unfold alikeF
 rw [matchF_congr h, allTo_congr (p' := fun i => fAlike S' gs (fdAt s.fields i) (fdAt t.fields i) x y) (fun i _ => by unfold fAlike; rw [matchF_congr h])]
theorem sameStep_congr {S S' : Nat → Nat → Bool} {gs : List (List Ty)} {p q : Nat} (h : ∀ a b, a < beg gs (grp gs p) → S a b = S' a b) : sameStep S gs p q = sameStep S' gs p q := by
 unfold sameStep
 split
 ·rfl
 ·split
  ·rfl
  ·exact allTo_congr fun i _ => alikeF_congr h
theorem sameF_stable (gs : List (List Ty)) : ∀ f f' p q, p < kinCount gs → p < f → p < f' → sameF f gs p q = sameF f' gs p q := by
 intro f
 induction f with
 | zero => intro f' p q _ h; omega
 | succ f ih =>
  intro f' p q hc h1 h2
  cases f' with
  | zero => omega
  | succ f' =>
   refine sameStep_congr fun a b ha => ?_
   have := (grp_spec gs p hc).2.1
   unfold beg at ha
   exact ih f' a b (by omega) (by omega) (by omega)
theorem same_step (gs : List (List Ty)) (p q : Nat) (hp : p < kinCount gs) : same gs p q = sameStep (same gs) gs p q := by
 show sameStep (sameF p gs) gs p q = _
 refine sameStep_congr fun a b ha => ?_
 have := (grp_spec gs p hp).2.1
 unfold beg at ha
 exact sameF_stable gs p (a + 1) a b (by omega) (by omega) (by omega)
theorem allTo_true {p : Nat → Bool} {n : Nat} (h : allTo p n = true) : ∀ i, i < n → p i = true := by
 induction n with
 | zero => intro i hi; omega
 | succ n ih =>
  simp only [allTo, Bool.and_eq_true] at h
  intro i hi
  by_cases e : i = n
  ·subst e; exact h.2
  ·exact ih h.1 i (by omega)
theorem parts_bounds {gs : List (List Ty)} (hP : PartsW gs) {x i : Nat} (hx : x < gs.length) (hi : i < (grAt gs x).length) :
  (tyAt (grAt gs x) i).fields.length ≤ 4 ∧ (-2 ≤ (tyAt (grAt gs x) i).up ∧ (tyAt (grAt gs x) i).up ≤ 1000) ∧ ∀ j, j < (tyAt (grAt gs x) i).fields.length → -2 ≤ (fdAt (tyAt (grAt gs x) i).fields j).of ∧ (fdAt (tyAt (grAt gs x) i).fields j).of ≤ 1000 := by
 obtain ⟨h1, ⟨h2, h3⟩, h4⟩ := hP.2 x hx i hi
 have hc : countTo (grAt gs) (x + 1) ≤ kinCount gs := countTo_mono (grAt gs) hx
 have h8 := hP.1
 simp only [countTo] at hc
 exact ⟨h1, ⟨by omega, by omega⟩, h4⟩
theorem Parts.w {gs : List (List Ty)} (hP : Parts gs) : PartsW gs := by
 refine ⟨hP.2.1, fun x hx i hi => ?_⟩
 have h := (hP.2.2 x hx).2 i hi
 have hc : countTo (grAt gs) (x + 1) ≤ kinCount gs := countTo_mono (grAt gs) hx
 have h8 := hP.2.1
 simp only [countTo] at hc
 unfold formOk at h
 simp only [Bool.and_eq_true, decide_eq_true_eq] at h
 obtain ⟨⟨⟨a1, a2⟩, a3⟩, _, a5⟩ := h
 refine ⟨a3, ⟨by omega, by omega⟩, fun j hj => ?_⟩
 have hf := allTo_true a5 j hj
 unfold fieldOk at hf
 split at hf
 ·simp at hf; omega
 ·split at hf
  ·simp at hf; omega
  ·simp at hf
set_option maxHeartbeats 1600000 in
set_option maxRecDepth 100000 in
theorem l1Same_step (ga : Option Addr) (gc lo hi : Nat) (gs : List (List Ty)) (S : Nat → Nat → Bool) (p q : Nat) (w : World) (hP : PartsW gs) (hN : Few gs) (hc : gs.length ≤ gc) (hh : hi ≤ w.heap.size) (hx : GroupsIn w lo hi ga gs)
  (hp : p < kinCount gs) (hq : q < kinCount gs) (ih : SameSaid ga gc lo hi gs S (beg gs (grp gs p))) :
  Calls Tryz.prog 67 #[.slice ga gs.length gc, .int .i64 (p : Int), .int .i64 (q : Int)] w fun e w' => e = .returned (.bool (sameStep S gs p q)) ∧ Below w.heap.size w w' := by
 have m3 := hP.1
 have HX := hide hx
 have HN := hide hN
 have HP := hide hP
 have IH := hide ih
 clear hx hN hP ih
 by_cases hpq : p = q
 ·subst hpq
  have HF : Hid (sameStep S gs p p = true) := by show _ = _; simp [sameStep]
  go_enter Tryz.func67, Tryz.ntmps67
  go_wp2_with fail
  go_ret
  exact ⟨ret_bool HF.out.symm, Below.refl _ _⟩
 have hne : ((p : Int) == (q : Int)) = false := by simp; omega
 have HG1 := hide (l1Group_any ga gc lo hi p gs w HN.out hp HX.out)
 have HG2 := hide (l1Group_any ga gc lo hi q gs w HN.out hq HX.out)
 obtain ⟨g1, g2, g3⟩ := grp_spec gs p hp
 obtain ⟨g1', g2', g3'⟩ := grp_spec gs q hq
 have HS : Hid (sameStep S gs p q = if grp gs p = grp gs q ∨ p - beg gs (grp gs p) ≠ q - beg gs (grp gs q) ∨ (grAt gs (grp gs p)).length ≠ (grAt gs (grp gs q)).length then false
   else allTo (fun i => alikeF S gs (tyAt (grAt gs (grp gs p)) i) (tyAt (grAt gs (grp gs q)) i) (grp gs p) (grp gs q)) (grAt gs (grp gs p)).length) := by
  show _ = _; unfold sameStep; rw [if_neg hpq]
 unfold beg at HS
 generalize hz : sameStep S gs p q = z at *
 clear hz
 have IH' : Hid (SameSaid ga gc lo hi gs S (beg gs (grp gs p))) := IH
 generalize hx1 : grp gs p = x at *
 generalize hy1 : grp gs q = y at *
 clear hx1 hy1 IH
 by_cases hxy : x = y
 ·subst hxy
  have HZ : Hid (z = false) := by rw [HS.out, if_pos (.inl rfl)]; rfl
  clear HS
  go_enter Tryz.func67, Tryz.ntmps67
  go_wp2_with fail
  refine HG1.out.mono ?_
  rintro e w ⟨rfl, rfl⟩
  go_wp2_with fail
  refine HG2.out.mono ?_
  rintro e w ⟨rfl, rfl⟩
  go_wp2_with fail
  go_quiet (fail)
  go_wp2_with fail
  go_ret
  exact ⟨ret_bool HZ.out.symm, below_drewN (Below.refl _ _) _⟩
 have hxy' : ((x : Int) == (y : Int)) = false := by simp; omega
 have HB1 := hide (fun k => l1Begin_any ga gc lo hi x gs (w.drewN k) HN.out hc (Nat.le_of_lt g1) HX.out)
 have HB2 := hide (fun k => l1Begin_any ga gc lo hi y gs (w.drewN k) HN.out hc (Nat.le_of_lt g1') HX.out)
 by_cases hd : p - countTo (grAt gs) x = q - countTo (grAt gs) y
 ·have hd' : ((p : Int) - (countTo (grAt gs) x : Int) != (q : Int) - (countTo (grAt gs) y : Int)) = false := by simp; omega
  have HD := hide hd
  clear hd
  rcases HX.out with hnil | ⟨b, off, rfl, k1, k2, k3⟩
  ·rw [hnil] at g1; exact absurd g1 (Nat.not_lt_zero _)
  obtain ⟨ta, tc, c3, c4⟩ := k3 x g1
  obtain ⟨ta', tc', d3, d4⟩ := k3 y g1'
  have i1 : (0 : Int) ≤ (x : Int) := by omega
  have i2 : (x : Int) < (gs.length : Int) := by omega
  have i3 : (0 : Int) ≤ (y : Int) := by omega
  have i4 : (y : Int) < (gs.length : Int) := by omega
  have C4 := hide c4
  have D4 := hide d4
  clear k3 c4 d4
  by_cases hl : (grAt gs x).length = (grAt gs y).length
  ·have HZ : Hid (z = allTo (fun i => alikeF S gs (tyAt (grAt gs x) i) (tyAt (grAt gs y) i) x y) (grAt gs x).length) := by
    rw [HS.out, if_neg]; rfl
    rintro (h | h | h)
    ·exact hxy h
    ·exact h HD.out
    ·exact h hl
   have n0 : 0 < (grAt gs x).length := by have h9 := g3; simp only [countTo] at h9; omega
   have nlen := (HN.out.2 x g1).1
   rcases C4.out with hnil | ⟨b2, off2, rfl, t1, t2, t3⟩
   ·rw [hnil] at n0; exact absurd n0 (Nat.lt_irrefl _)
   rcases D4.out with hnil | ⟨b3, off3, rfl, u1, u2, u3⟩
   ·rw [hl, hnil] at n0; exact absurd n0 (Nat.lt_irrefl _)
   rw [← hl] at d3
   have HL := hide hl
   have T3 := hide t3
   have U3 := hide u3
   have HDD := hide hd'
   clear HS C4 D4 hl t3 u3
   go_enter Tryz.func67, Tryz.ntmps67
   go_wp2_with fail
   refine HG1.out.mono ?_
   rintro e w ⟨rfl, rfl⟩
   go_wp2_with fail
   refine HG2.out.mono ?_
   rintro e w ⟨rfl, rfl⟩
   go_wp2_with fail
   go_quiet (first | (go_at_call_of 60 (Value.int IntKind.i64 (x : Int)); exact Calls.quiet_of_same (HB1.out _)) | (go_at_call_of 60 (Value.int IntKind.i64 (y : Int)); exact Calls.quiet_of_same (HB2.out _)))
   clear hd'
   go_wp2_with fail
   go_loopw [9] (fun i wr => ∃ j : Nat, j ≤ (grAt gs x).length ∧ i = .int .i64 j ∧ allTo (fun i => alikeF S gs (tyAt (grAt gs x) i) (tyAt (grAt gs y) i) x y) j = true ∧ Below w.heap.size w wr) (fun i wr => (grAt gs x).length - (intOf i).toNat)
   case atStart => exact ⟨0, Nat.zero_le _, rfl, rfl, below_drewN (Below.refl _ _) _⟩
   case round =>
    obtain ⟨j, hj, rfl, hA, hb⟩ := hrel
    have HA := hide hA
    have HB := hide hb
    have s1 := hb.size
    have b4 : b < w.heap.size := Nat.lt_of_lt_of_le k2 hh
    have c5 : wr.cell? ⟨b, off + x, none⟩ = some (.slice (some ⟨b2, off2, none⟩) (grAt gs x).length tc) := by rw [hb.cell (by exact b4)]; exact c3
    have d5 : wr.cell? ⟨b, off + y, none⟩ = some (.slice (some ⟨b3, off3, none⟩) (grAt gs x).length tc') := by rw [hb.cell (by exact b4)]; exact d3
    clear hA hb c3 d3
    by_cases hjn : j < (grAt gs x).length
    ·obtain ⟨e0, e1, e2, fa, fc, e3, e4⟩ := (T3.out j hjn).keep (HB.out.mono hh) t1 t2
     obtain ⟨f0, f1, f2, fb, fd, f3, f4⟩ := (U3.out j (by have := HL.out; omega)).keep (HB.out.mono hh) u1 u2
     obtain ⟨p1, p2, p3⟩ := parts_bounds HP.out g1 hjn
     obtain ⟨p1', p2', p3'⟩ := parts_bounds HP.out g1' (i := j) (by have := HL.out; omega)
     have E4 := hide e4
     have F4 := hide f4
     have P2 := hide p2
     have P3 := hide p3
     have P2' := hide p2'
     have P3' := hide p3'
     have j1 : (0 : Int) ≤ (j : Int) := by omega
     have j2 : (j : Int) < ((grAt gs x).length : Int) := by omega
     have hs2 : hi ≤ wr.heap.size := Nat.le_trans hh s1
     have b5 : b < wr.heap.size := Nat.lt_of_lt_of_le b4 s1
     have b6 : b2 < wr.heap.size := Nat.lt_of_lt_of_le t2 hs2
     have b7 : b3 < wr.heap.size := Nat.lt_of_lt_of_le u2 hs2
     clear e4 f4 p2 p3 p2' p3'
     go_wp2_with fail
     go_region_held3 (fun w' => (w'.cell? ⟨b, off + x, none⟩ = some (.slice (some ⟨b2, off2, none⟩) (grAt gs x).length tc) ∧ w'.cell? ⟨b, off + y, none⟩ = some (.slice (some ⟨b3, off3, none⟩) (grAt gs x).length tc')) ∧
       (w'.cell? ⟨b2, off2 + j * 4, none⟩ = some (.int .i64 (tyAt (grAt gs x) j).kind) ∧ w'.cell? ⟨b2, off2 + j * 4 + 1, none⟩ = some (.int .i64 (tyAt (grAt gs x) j).up) ∧ w'.cell? ⟨b2, off2 + j * 4 + 2, none⟩ = some (.bool (tyAt (grAt gs x) j).last) ∧ w'.cell? ⟨b2, off2 + j * 4 + 3, none⟩ = some (.slice fa (tyAt (grAt gs x) j).fields.length fc)) ∧
       (w'.cell? ⟨b3, off3 + j * 4, none⟩ = some (.int .i64 (tyAt (grAt gs y) j).kind) ∧ w'.cell? ⟨b3, off3 + j * 4 + 1, none⟩ = some (.int .i64 (tyAt (grAt gs y) j).up) ∧ w'.cell? ⟨b3, off3 + j * 4 + 2, none⟩ = some (.bool (tyAt (grAt gs y) j).last) ∧ w'.cell? ⟨b3, off3 + j * 4 + 3, none⟩ = some (.slice fb (tyAt (grAt gs y) j).fields.length fd))) (go_keep)
      ((go_at_call 97; refine (l1Alike_any (some ⟨b, off, none⟩) gc lo hi gs S (tyAt (grAt gs x) j) (tyAt (grAt gs y) j) fa fb fc fd x y wr.drew HP.out HN.out hc hs2 (HX.out.keep (HB.out.mono hh).drew) g1 g1' p1 p1' P2.out P2'.out P3.out P3'.out E4.out F4.out IH'.out).mono ?_; rintro e w2 ⟨rfl, hb2⟩; have q1 : ∀ o, w2.cell? ⟨b, o, none⟩ = wr.cell? ⟨b, o, none⟩ := fun o => hb2.cell b5; have q2 : ∀ o, w2.cell? ⟨b2, o, none⟩ = wr.cell? ⟨b2, o, none⟩ := fun o => hb2.cell b6; have q3 : ∀ o, w2.cell? ⟨b3, o, none⟩ = wr.cell? ⟨b3, o, none⟩ := fun o => hb2.cell b7))
     have HB2 := hide (HB.out.drew.trans (hb2.mono (by exact s1)))
     clear q1 q2 q3 hb2
     cases hal : alikeF S gs (tyAt (grAt gs x) j) (tyAt (grAt gs y) j) x y with
     | true =>
      have HAL := hide hal
      clear hal
      go_wp2_with fail
      exact ⟨⟨j + 1, by omega, by go_num, by simp only [allTo, HA.out, HAL.out, Bool.and_self], HB2.out⟩, by simp [intOf]; omega⟩
     | false =>
      have HAL := hide hal
      clear hal
      go_wp2_with fail
      go_ret
      exact ⟨ret_bool (by rw [HZ.out]; exact (allTo_false hjn HAL.out).symm), HB2.out⟩
    ·have hje : Hid (j = (grAt gs x).length) := Nat.le_antisymm hj (Nat.le_of_not_lt hjn)
     go_wp2_with fail
     go_ret
     exact ⟨ret_bool (by rw [HZ.out, ← hje.out, HA.out]), HB.out⟩
  ·have HZ : Hid (z = false) := by rw [HS.out, if_pos (.inr (.inr hl))]; rfl
   have hl' : (((grAt gs x).length : Int) != ((grAt gs y).length : Int)) = true := by simp; omega
   clear HS
   go_enter Tryz.func67, Tryz.ntmps67
   go_wp2_with fail
   refine HG1.out.mono ?_
   rintro e w ⟨rfl, rfl⟩
   go_wp2_with fail
   refine HG2.out.mono ?_
   rintro e w ⟨rfl, rfl⟩
   go_wp2_with fail
   go_quiet (first | (go_at_call_of 60 (Value.int IntKind.i64 (x : Int)); exact Calls.quiet_of_same (HB1.out _)) | (go_at_call_of 60 (Value.int IntKind.i64 (y : Int)); exact Calls.quiet_of_same (HB2.out _)))
   go_wp2_with fail
   go_ret
   exact ⟨ret_bool HZ.out.symm, below_drewN (Below.refl _ _) _⟩
 ·have HZ : Hid (z = false) := by rw [HS.out, if_pos (.inr (.inl hd))]; rfl
  have hd' : ((p : Int) - (countTo (grAt gs) x : Int) != (q : Int) - (countTo (grAt gs) y : Int)) = true := by simp; omega
  clear HS
  go_enter Tryz.func67, Tryz.ntmps67
  go_wp2_with fail
  refine HG1.out.mono ?_
  rintro e w ⟨rfl, rfl⟩
  go_wp2_with fail
  refine HG2.out.mono ?_
  rintro e w ⟨rfl, rfl⟩
  go_wp2_with fail
  go_quiet (first | (go_at_call_of 60 (Value.int IntKind.i64 (x : Int)); exact Calls.quiet_of_same (HB1.out _)) | (go_at_call_of 60 (Value.int IntKind.i64 (y : Int)); exact Calls.quiet_of_same (HB2.out _)))
  go_wp2_with fail
  go_ret
  exact ⟨ret_bool HZ.out.symm, below_drewN (Below.refl _ _) _⟩
theorem sameSaid (ga : Option Addr) (gc lo hi : Nat) (gs : List (List Ty)) (hP : PartsW gs) (hN : Few gs) (hc : gs.length ≤ gc) : ∀ B, B ≤ kinCount gs → SameSaid ga gc lo hi gs (same gs) B := by
 intro B
 induction B with
 | zero => intro _ p q hp; omega
 | succ B ih =>
  intro hB p q hp hq w hh hx
  have ih' := ih (by omega)
  have hpc : p < kinCount gs := by omega
  rw [same_step gs p q hpc]
  refine l1Same_step ga gc lo hi gs (same gs) p q w hP hN hc hh hx hpc hq ?_
  intro p' q' hp' hq' w' hh' hx'
  have := (grp_spec gs p hpc).2.1
  unfold beg at hp'
  exact ih' p' q' (by omega) hq' w' hh' hx'
theorem l1Same_w (ga : Option Addr) (gc lo hi : Nat) (gs : List (List Ty)) (p q : Nat) (w : World) (hP : PartsW gs) (hN : Few gs) (hc : gs.length ≤ gc) (hp : p < kinCount gs) (hq : q < kinCount gs) (hh : hi ≤ w.heap.size) (hx : GroupsIn w lo hi ga gs) :
  Calls Tryz.prog 67 #[.slice ga gs.length gc, .int .i64 (p : Int), .int .i64 (q : Int)] w fun e w' => e = .returned (.bool (same gs p q)) ∧ Below w.heap.size w w' :=
 sameSaid ga gc lo hi gs hP hN hc (kinCount gs) (Nat.le_refl _) p q hp hq w hh hx
theorem l1Same_any (ga : Option Addr) (gc lo hi : Nat) (gs : List (List Ty)) (p q : Nat) (w : World) (hP : Parts gs) (hN : Few gs) (hc : gs.length ≤ gc) (hp : p < kinCount gs) (hq : q < kinCount gs) (hh : hi ≤ w.heap.size) (hx : GroupsIn w lo hi ga gs) :
  Calls Tryz.prog 67 #[.slice ga gs.length gc, .int .i64 (p : Int), .int .i64 (q : Int)] w fun e w' => e = .returned (.bool (same gs p q)) ∧ Below w.heap.size w w' :=
 l1Same_w ga gc lo hi gs p q w hP.w hN hc hp hq hh hx
theorem flatTo_at (G : Nat → List Ty) (x p : Nat) (h1 : countTo G x ≤ p) (h2 : p < countTo G (x + 1)) : ∀ k, x < k → tyAt (flatTo G k) p = tyAt (G x) (p - countTo G x) := by
 intro k
 induction k with
 | zero => intro h; omega
 | succ k ih =>
  intro hk
  by_cases e : x = k
  ·subst e
   have hl := flatTo_length G x
   simp [flatTo, tyAt, List.getD, List.getElem?_append_right (show (flatTo G x).length ≤ p by omega), hl]
  ·have hm := countTo_mono G (show x + 1 ≤ k by omega)
   rw [flatTo, tyAt_append_left _ _ _ (by rw [flatTo_length]; omega)]
   exact ih (by omega)
theorem flat_at {gs : List (List Ty)} {p : Nat} (hp : p < kinCount gs) : tyAt (flat gs) p = tyAt (grAt gs (grp gs p)) (p - beg gs (grp gs p)) :=
 let g := grp_spec gs p hp
 flatTo_at (grAt gs) (grp gs p) p g.2.1 g.2.2 gs.length g.1
def tyN (gs : List (List Ty)) (p : Nat) : Ty := tyAt (flat gs) p
theorem parts_flat {gs : List (List Ty)} (hP : Parts gs) {p : Nat} (hp : p < kinCount gs) :
  (tyN gs p).fields.length ≤ 4 ∧ (-1 ≤ (tyN gs p).up ∧ (tyN gs p).up < (p : Int)) ∧ ∀ j, j < (tyN gs p).fields.length → fieldOk (fdAt (tyN gs p).fields j).kind (fdAt (tyN gs p).fields j).of (kinCount gs : Nat) = true := by
 obtain ⟨g1, g2, g3⟩ := grp_spec gs p hp
 have h := (hP.2.2 _ g1).2 (p - beg gs (grp gs p)) (by unfold beg; simp only [countTo] at g3; omega)
 have hc : countTo (grAt gs) (grp gs p + 1) ≤ kinCount gs := countTo_mono (grAt gs) g1
 unfold tyN
 rw [flat_at hp]
 unfold formOk at h
 simp only [Bool.and_eq_true, decide_eq_true_eq] at h
 obtain ⟨⟨⟨a1, a2⟩, a3⟩, _, a5⟩ := h
 unfold beg at *
 refine ⟨a3, ⟨a1, by omega⟩, fun j hj => ?_⟩
 have hf := allTo_true a5 j hj
 simp only [countTo] at hc
 unfold fieldOk at hf ⊢
 split at hf
 ·rename_i h1; rw [if_pos h1]; exact hf
 ·rename_i h1
  rw [if_neg h1]
  split at hf
  ·rename_i h2
   rw [if_pos h2]
   simp at hf ⊢
   omega
  ·simp at hf
theorem partsW_flat {gs : List (List Ty)} (hP : PartsW gs) {p : Nat} (hp : p < kinCount gs) :
  (tyN gs p).fields.length ≤ 4 ∧ (-1 ≤ (tyN gs p).up ∧ (tyN gs p).up < (p : Int)) ∧ ∀ j, j < (tyN gs p).fields.length → -2 ≤ (fdAt (tyN gs p).fields j).of ∧ (fdAt (tyN gs p).fields j).of ≤ 1000 := by
 obtain ⟨g1, g2, g3⟩ := grp_spec gs p hp
 have h := hP.2 _ g1 (p - beg gs (grp gs p)) (by unfold beg; simp only [countTo] at g3; omega)
 unfold tyN
 rw [flat_at hp]
 obtain ⟨h1, ⟨h2, h3⟩, h4⟩ := h
 unfold beg at *
 exact ⟨h1, ⟨h2, by omega⟩, h4⟩
def upSame (gs : List (List Ty)) (q : Nat) : Nat → Int → Bool
 | 0, _ => false
 | f + 1, a => if a < 0 then false else same gs a.toNat q || upSame gs q f (tyN gs a.toNat).up
def under (gs : List (List Ty)) (a b : Int) : Bool :=
 if b = -1 ∨ a = b then true else if a < 0 ∨ b < 0 then false else upSame gs b.toNat (a.toNat + 1) a
set_option maxHeartbeats 800000 in
theorem l1Under_loop (ga : Option Addr) (gc lo hi : Nat) (gs : List (List Ty)) (p q : Nat) (w : World) (hP : PartsW gs) (hN : Few gs) (hc : gs.length ≤ gc) (hl : lo ≤ hi) (hh : hi ≤ w.heap.size) (hx : GroupsIn w lo hi ga gs)
  (hp : p < kinCount gs) (hq : q < kinCount gs) (hpq : p ≠ q) :
  Calls Tryz.prog 50 #[.slice ga gs.length gc, .int .i64 (p : Int), .int .i64 (q : Int)] w fun e w' => e = .returned (.bool (upSame gs q (p + 1) p)) ∧ Below w.heap.size w w' := by
 have m3 := hP.1
 have n1 : ((q : Int) == -1) = false := by simp <;> omega
 have n2 : ((p : Int) == (q : Int)) = false := by simp; omega
 have HX := hide hx
 have HN := hide hN
 have HP := hide hP
 clear hx hN hP hpq
 generalize hR : upSame gs q (p + 1) p = R
 have HR := hide hR
 clear hR
 go_enter Tryz.func50, Tryz.ntmps50
 go_wp2_with fail
 refine (l1Flat_any ga gc lo hi gs w HN.out HX.out hh hl).mono ?_
 rintro e w1 ⟨na, nc, rfl, ht, hb1⟩
 have HT := hide ht
 have HB1 := hide hb1
 clear ht hb1
 go_wp2_with fail
 go_loopw [1] (fun a wr => ∃ (c : Int) (f : Nat), a = .int .i64 c ∧ -1 ≤ c ∧ c < (kinCount gs : Int) ∧ c < (f : Int) ∧ upSame gs q f c = R ∧ Below w.heap.size w wr ∧ Below w1.heap.size w1 wr) (fun a wr => (intOf a + 1).toNat)
 case atStart => exact ⟨p, p + 1, rfl, by omega, by omega, by omega, HR.out, HB1.out, Below.refl _ _⟩
 case round =>
  obtain ⟨c, f, rfl, c1, c2, c3, hU, hb, hbb⟩ := hrel
  have HU := hide hU
  have HB := hide hb
  have HBB := hide hbb
  have s1 := hbb.size
  have s2 := HB1.out.size
  clear hU hb hbb
  by_cases hc0 : c < 0
  ·have HZ : Hid (R = false) := by
    show R = false
    rw [← HU.out]
    cases f with
    | zero => rfl
    | succ f => simp [upSame, hc0]
   go_wp2_with fail
   go_ret
   exact ⟨ret_bool HZ.out.symm, HB.out⟩
  ·obtain ⟨m, rfl⟩ := Int.eq_ofNat_of_zero_le (show 0 ≤ c by omega)
   have hm : m < kinCount gs := by omega
   obtain ⟨f', rfl⟩ : ∃ f', f = f' + 1 := ⟨f - 1, by omega⟩
   have HV : Hid (R = (same gs m q || upSame gs q f' (tyN gs m).up)) := by
    show R = _
    rw [← HU.out]
    simp [upSame, hc0]
   obtain ⟨_, ⟨u1, u2⟩, _⟩ := partsW_flat HP.out hm
   go_wp2_with fail
   refine (l1Same_w ga gc lo hi gs m q _ HP.out HN.out hc hm hq (by omega) (HX.out.keep (HB.out.mono hh))).mono ?_
   rintro e w2 ⟨rfl, hb2⟩
   have HB2 := hide hb2
   have s3 := hb2.size
   clear hb2
   cases hs : same gs m q with
   | true =>
    have HS := hide hs
    clear hs
    go_wp2_with fail
    go_ret
    exact ⟨ret_bool (by rw [HV.out, HS.out]; rfl), HB.out.trans (HB2.out.mono (by omega))⟩
   | false =>
    have HS := hide hs
    clear hs
    rcases HT.out with hnil | ⟨b, off, rfl, g1, g2, g3⟩
    ·have := flat_length gs
     rw [hnil] at this
     simp at this
     omega
    have hbw : Below w1.heap.size w1 w2 := HBB.out.trans (HB2.out.mono (by omega))
    obtain ⟨e0, e1, e2, fa, fc, e3, e4⟩ := (g3 m (by rw [flat_length]; exact hm)).keep hbw g1 g2
    have HBW := hide hbw
    have e1' : w2.cell? ⟨b, off + m * 4 + 1, none⟩ = some (.int .i64 (tyN gs m).up) := e1
    clear g3 e4 hbw e0 e1 e2 e3
    go_wp2_with fail
    exact ⟨⟨(tyN gs m).up, f', rfl, u1, by omega, by omega, by rw [HV.out, HS.out]; rfl, HB.out.trans (HB2.out.mono (by omega)), HBW.out⟩, by simp [intOf]; omega⟩
set_option maxHeartbeats 800000 in
theorem l1Under_w (ga : Option Addr) (gc lo hi : Nat) (gs : List (List Ty)) (a b : Int) (w : World) (hP : PartsW gs) (hN : Few gs) (hc : gs.length ≤ gc) (hl : lo ≤ hi) (hh : hi ≤ w.heap.size) (hx : GroupsIn w lo hi ga gs)
  (a0 : -2 ≤ a) (a1 : a < (kinCount gs : Int)) (b0 : -2 ≤ b) (b1 : b < (kinCount gs : Int)) :
  Calls Tryz.prog 50 #[.slice ga gs.length gc, .int .i64 a, .int .i64 b] w fun e w' => e = .returned (.bool (under gs a b)) ∧ Below w.heap.size w w' := by
 have m3 := hP.1
 by_cases e1 : b = -1
 ·subst e1
  have HF : Hid (under gs a (-1) = true) := by show _ = _; simp [under]
  clear hx hP hN
  go_enter Tryz.func50, Tryz.ntmps50
  go_wp2_with fail
  go_ret
  exact ⟨ret_bool HF.out.symm, Below.refl _ _⟩
 by_cases e2 : a = b
 ·subst e2
  have HF : Hid (under gs a a = true) := by show _ = _; simp [under]
  have n1 : (a == -1) = false := by simp [e1]
  clear hx hP hN
  go_enter Tryz.func50, Tryz.ntmps50
  go_wp2_with fail
  go_ret
  exact ⟨ret_bool HF.out.symm, Below.refl _ _⟩
 have n1 : (b == -1) = false := by simp [e1]
 have n2 : (a == b) = false := by simp [e2]
 by_cases e3 : a < 0
 ·have HF : Hid (under gs a b = false) := by show _ = _; simp [under, e1, e2, e3]
  clear hx hP hN
  go_enter Tryz.func50, Tryz.ntmps50
  go_wp2_with fail
  go_ret
  exact ⟨ret_bool HF.out.symm, Below.refl _ _⟩
 by_cases e4 : b < 0
 ·have HF : Hid (under gs a b = false) := by show _ = _; simp [under, e1, e2, e4]
  clear hx hP hN
  go_enter Tryz.func50, Tryz.ntmps50
  go_wp2_with fail
  go_ret
  exact ⟨ret_bool HF.out.symm, Below.refl _ _⟩
 obtain ⟨p, rfl⟩ := Int.eq_ofNat_of_zero_le (show 0 ≤ a by omega)
 obtain ⟨q, rfl⟩ := Int.eq_ofNat_of_zero_le (show 0 ≤ b by omega)
 have hu : under gs (p : Int) (q : Int) = upSame gs q (p + 1) p := by
  unfold under
  rw [if_neg (by omega), if_neg (by omega)]
  simp
 rw [hu]
 exact l1Under_loop ga gc lo hi gs p q w hP hN hc hl hh hx (by omega) (by omega) (by omega)
theorem l1Under_any (ga : Option Addr) (gc lo hi : Nat) (gs : List (List Ty)) (a b : Int) (w : World) (hP : Parts gs) (hN : Few gs) (hc : gs.length ≤ gc) (hl : lo ≤ hi) (hh : hi ≤ w.heap.size) (hx : GroupsIn w lo hi ga gs)
  (a0 : -2 ≤ a) (a1 : a < (kinCount gs : Int)) (b0 : -2 ≤ b) (b1 : b < (kinCount gs : Int)) :
  Calls Tryz.prog 50 #[.slice ga gs.length gc, .int .i64 a, .int .i64 b] w fun e w' => e = .returned (.bool (under gs a b)) ∧ Below w.heap.size w w' :=
 l1Under_w ga gc lo hi gs a b w hP.w hN hc hl hh hx a0 a1 b0 b1
def sortF (gs : List (List Ty)) (f g : Fd) : Bool := if f.kind = 1 ∨ g.kind = 1 then f.kind == g.kind else ((f.kind == 3) || (g.kind == 2)) && under gs f.of g.of
def fitsF (gs : List (List Ty)) (f g : Fd) : Bool := if f.mt = g.mt then sortF gs f g && (!f.mt || sortF gs g f) else false
set_option maxHeartbeats 800000 in
theorem l1Sort_any (ga : Option Addr) (gc lo hi : Nat) (gs : List (List Ty)) (f g : Fd) (w : World) (hP : Parts gs) (hN : Few gs) (hc : gs.length ≤ gc) (hl : lo ≤ hi) (hh : hi ≤ w.heap.size) (hx : GroupsIn w lo hi ga gs)
  (a0 : -2 ≤ f.of) (a1 : f.of < (kinCount gs : Int) ∨ f.kind = 1) (b0 : -2 ≤ g.of) (b1 : g.of < (kinCount gs : Int) ∨ g.kind = 1) :
  Calls Tryz.prog 93 #[.slice ga gs.length gc, .agg #[.int .i64 f.kind, .int .i64 f.of, .bool f.mt], .agg #[.int .i64 g.kind, .int .i64 g.of, .bool g.mt]] w fun e w' => e = .returned (.bool (sortF gs f g)) ∧ Below w.heap.size w w' := by
 obtain ⟨fk, fo, fm⟩ := f
 obtain ⟨gk, go, gm⟩ := g
 simp only at a0 a1 b0 b1 ⊢
 have HX := hide hx
 have HN := hide hN
 have HP := hide hP
 clear hx hN hP
 by_cases e1 : fk = 1
 ·subst e1
  have HF : Hid (sortF gs ⟨1, fo, fm⟩ ⟨gk, go, gm⟩ = ((1 : Int) == gk)) := by show _ = _; simp [sortF]
  go_enter Tryz.func93, Tryz.ntmps93
  go_wp2_with fail
  go_ret
  exact ⟨ret_bool HF.out.symm, ((Below.refl _ _).alloc (Nat.le_refl _) _).alloc (by simp) _⟩
 by_cases e2 : gk = 1
 ·subst e2
  have n1 : (fk == 1) = false := by simp [e1]
  have HF : Hid (sortF gs ⟨fk, fo, fm⟩ ⟨1, go, gm⟩ = (fk == 1)) := by show _ = _; simp [sortF]
  go_enter Tryz.func93, Tryz.ntmps93
  go_wp2_with fail
  go_ret
  exact ⟨ret_bool (by rw [HF.out]; simp [e1]), ((Below.refl _ _).alloc (Nat.le_refl _) _).alloc (by simp) _⟩
 have n1 : (fk == 1) = false := by simp [e1]
 have n2 : (gk == 1) = false := by simp [e2]
 have a2 : fo < (kinCount gs : Int) := by omega
 have b2 : go < (kinCount gs : Int) := by omega
 have b0' : Below w.heap.size w ((w.alloc (.cells #[.int .i64 fk, .int .i64 fo, .bool fm] 70)).alloc (.cells #[.int .i64 gk, .int .i64 go, .bool gm] 70)) := ((Below.refl _ _).alloc (Nat.le_refl _) _).alloc (by simp) _
 have B0 := hide b0'
 have HC := hide (l1Under_any ga gc lo hi gs fo go _ HP.out HN.out hc hl (Nat.le_trans hh b0'.size) (HX.out.keep (b0'.mono hh)) a0 a2 b0 b2)
 clear b0'
 by_cases e3 : fk = 3
 ·subst e3
  have HF : Hid (sortF gs ⟨3, fo, fm⟩ ⟨gk, go, gm⟩ = under gs fo go) := by show _ = _; simp [sortF, e2]
  go_enter Tryz.func93, Tryz.ntmps93
  go_wp2_with fail
  refine HC.out.mono ?_
  rintro e w1 ⟨rfl, hb1⟩
  have HB1 := hide hb1
  clear hb1
  go_wp2_with fail
  go_ret
  exact ⟨ret_bool HF.out.symm, B0.out.trans (HB1.out.mono B0.out.size)⟩
 have n3 : (fk == 3) = false := by simp [e3]
 by_cases e4 : gk = 2
 ·subst e4
  have HF : Hid (sortF gs ⟨fk, fo, fm⟩ ⟨2, go, gm⟩ = under gs fo go) := by show _ = _; simp [sortF, e1]
  go_enter Tryz.func93, Tryz.ntmps93
  go_wp2_with fail
  refine HC.out.mono ?_
  rintro e w1 ⟨rfl, hb1⟩
  have HB1 := hide hb1
  clear hb1
  go_wp2_with fail
  go_ret
  exact ⟨ret_bool HF.out.symm, B0.out.trans (HB1.out.mono B0.out.size)⟩
 have n4 : (gk == 2) = false := by simp [e4]
 have HF : Hid (sortF gs ⟨fk, fo, fm⟩ ⟨gk, go, gm⟩ = false) := by show _ = _; simp [sortF, e1, e2, e3, e4]
 go_enter Tryz.func93, Tryz.ntmps93
 go_wp2_with fail
 go_ret
 exact ⟨ret_bool HF.out.symm, B0.out⟩
set_option maxHeartbeats 800000 in
theorem l1Fits_any (ga : Option Addr) (gc lo hi : Nat) (gs : List (List Ty)) (f g : Fd) (w : World) (hP : Parts gs) (hN : Few gs) (hc : gs.length ≤ gc) (hl : lo ≤ hi) (hh : hi ≤ w.heap.size) (hx : GroupsIn w lo hi ga gs)
  (a0 : -2 ≤ f.of) (a1 : f.of < (kinCount gs : Int) ∨ f.kind = 1) (b0 : -2 ≤ g.of) (b1 : g.of < (kinCount gs : Int) ∨ g.kind = 1) :
  Calls Tryz.prog 62 #[.slice ga gs.length gc, .agg #[.int .i64 f.kind, .int .i64 f.of, .bool f.mt], .agg #[.int .i64 g.kind, .int .i64 g.of, .bool g.mt]] w fun e w' => e = .returned (.bool (fitsF gs f g)) ∧ Below w.heap.size w w' := by
 have b0' : Below w.heap.size w ((w.alloc (.cells #[.int .i64 f.kind, .int .i64 f.of, .bool f.mt] 70)).alloc (.cells #[.int .i64 g.kind, .int .i64 g.of, .bool g.mt] 70)) := ((Below.refl _ _).alloc (Nat.le_refl _) _).alloc (by simp) _
 have B0 := hide b0'
 have HC := hide (l1Sort_any ga gc lo hi gs f g _ hP hN hc hl (Nat.le_trans hh b0'.size) (hx.keep (b0'.mono hh)) a0 a1 b0 b1)
 have HD := hide (fun w2 (h : Below w.heap.size w w2) => l1Sort_any ga gc lo hi gs g f w2 hP hN hc hl (Nat.le_trans hh h.size) (hx.keep (h.mono hh)) b0 b1 a0 a1)
 clear hx hN hP b0' a0 a1 b0 b1
 have HF : Hid (fitsF gs f g = if f.mt = g.mt then sortF gs f g && (!f.mt || sortF gs g f) else false) := rfl
 generalize fitsF gs f g = R at *
 generalize sortF gs f g = s1 at *
 generalize sortF gs g f = s2 at *
 obtain ⟨fk, fo, fm⟩ := f
 obtain ⟨gk, go, gm⟩ := g
 simp only at B0 HC HD HF ⊢
 cases fm <;> cases gm
 case false.true | true.false =>
  have HZ : Hid (R = false) := by rw [HF.out]; rfl
  go_enter Tryz.func62, Tryz.ntmps62
  go_wp2_with fail
  go_ret
  exact ⟨ret_bool HZ.out.symm, B0.out⟩
 case false.false =>
  have HZ : Hid (R = s1) := by rw [HF.out]; simp [Hid]
  go_enter Tryz.func62, Tryz.ntmps62
  go_wp2_with fail
  refine HC.out.mono ?_
  rintro e w1 ⟨rfl, hb1⟩
  obtain ⟨hc1, hf1⟩ := bcell hb1
  have hs1 := hb1.size
  simp only [World.size_alloc] at hc1 hs1
  have c2 : w1.cell? ⟨w.heap.size, 2, none⟩ = some (.bool false) := by rw [hc1 _ _ (by omega)]; simp
  have B1 := hide (B0.out.trans (hb1.mono B0.out.size))
  clear hc1 hf1 hb1
  cases s1
  all_goals
   go_wp2_with fail
   go_ret
   exact ⟨ret_bool HZ.out.symm, B1.out⟩
 case true.true =>
  have HZ : Hid (R = (s1 && s2)) := by rw [HF.out]; simp [Hid]
  go_enter Tryz.func62, Tryz.ntmps62
  go_wp2_with fail
  refine HC.out.mono ?_
  rintro e w1 ⟨rfl, hb1⟩
  obtain ⟨hc1, hf1⟩ := bcell hb1
  have hs1 := hb1.size
  simp only [World.size_alloc] at hc1 hs1
  have c0 : w1.cell? ⟨w.heap.size, 0, none⟩ = some (.int .i64 fk) := by rw [hc1 _ _ (by omega)]; simp
  have c1 : w1.cell? ⟨w.heap.size, 1, none⟩ = some (.int .i64 fo) := by rw [hc1 _ _ (by omega)]; simp
  have c2 : w1.cell? ⟨w.heap.size, 2, none⟩ = some (.bool true) := by rw [hc1 _ _ (by omega)]; simp
  have d0 : w1.cell? ⟨w.heap.size + 1, 0, none⟩ = some (.int .i64 gk) := by rw [hc1 _ _ (by omega)]; simp
  have d1 : w1.cell? ⟨w.heap.size + 1, 1, none⟩ = some (.int .i64 go) := by rw [hc1 _ _ (by omega)]; simp
  have d2 : w1.cell? ⟨w.heap.size + 1, 2, none⟩ = some (.bool true) := by rw [hc1 _ _ (by omega)]; simp
  have B1 := hide (B0.out.trans (hb1.mono B0.out.size))
  clear hc1 hf1 hb1
  cases s1
  ·go_wp2_with fail
   go_ret
   exact ⟨ret_bool HZ.out.symm, B1.out⟩
  ·go_wp2_with fail
   refine (HD.out _ B1.out).mono ?_
   rintro e w2 ⟨rfl, hb2⟩
   have B2 := hide (B1.out.trans (hb2.mono B1.out.size))
   clear hb2
   go_wp2_with fail
   go_ret
   exact ⟨ret_bool (by rw [HZ.out]; simp), B2.out⟩
def belowF (gs : List (List Ty)) (t u : Ty) : Bool :=
 (((t.kind == u.kind) && !u.last) && decide (u.fields.length ≤ t.fields.length)) && allTo (fun i => fitsF gs (fdAt t.fields i) (fdAt u.fields i)) u.fields.length
def OfOk (gs : List (List Ty)) (f : Fd) : Prop := -2 ≤ f.of ∧ (f.of < (kinCount gs : Int) ∨ f.kind = 1)
set_option maxHeartbeats 1600000 in
set_option maxRecDepth 100000 in
theorem l1Below_loop (ga : Option Addr) (gc lo hi : Nat) (gs : List (List Ty)) (k u v : Int) (l : Bool) (fa fb : Option Addr) (fc fd n m : Nat) (F H : Nat → Fd) (w : World) (hP : Parts gs) (hN : Few gs) (hc : gs.length ≤ gc) (hl : lo ≤ hi) (hh : hi ≤ w.heap.size) (hx : GroupsIn w lo hi ga gs)
  (hn : n ≤ 4) (hm : m ≤ n) (hF : ∀ i, i < n → OfOk gs (F i)) (hH : ∀ i, i < m → OfOk gs (H i)) (ff : FsAt w lo hi fa n F) (fh : FsAt w lo hi fb m H) :
  Calls Tryz.prog 43 #[.slice ga gs.length gc, .agg #[.int .i64 k, .int .i64 u, .bool l, .slice fa n fc], .agg #[.int .i64 k, .int .i64 v, .bool false, .slice fb m fd]] w
   fun e w' => e = .returned (.bool (allTo (fun i => fitsF gs (F i) (H i)) m)) ∧ Below w.heap.size w w' := by
 have HX := hide hx
 have HN := hide hN
 have HP := hide hP
 have HF := hide hF
 have HH := hide hH
 have FF := hide ff
 have FH := hide fh
 clear hx hN hP hF hH ff fh
 have hnm : decide (n < m) = false := by simp; omega
 go_enter Tryz.func43, Tryz.ntmps43
 go_wp2_with fail
 go_loopw [7] (fun i wr => ∃ j : Nat, j ≤ m ∧ i = .int .i64 j ∧ allTo (fun i => fitsF gs (F i) (H i)) j = true ∧ Below w.heap.size w wr ∧ wr.cell? ⟨w.heap.size, 3, none⟩ = some (.slice fa n fc) ∧ wr.cell? ⟨w.heap.size + 1, 3, none⟩ = some (.slice fb m fd)) (fun i wr => m - (intOf i).toNat)
 case atStart => exact ⟨0, Nat.zero_le _, rfl, rfl, ((Below.refl _ _).alloc (Nat.le_refl _) _).alloc (by simp) _, by simp, by simp⟩
 case round =>
  obtain ⟨j, hj, rfl, hA, hb, c3, c4⟩ := hrel
  have HA := hide hA
  have HB := hide hb
  have s1 : w.heap.size + 1 < wr.heap.size := cell_lt c4
  have s2 : hi ≤ wr.heap.size := by omega
  clear hA hb
  by_cases hjn : j < m
  ·rcases FF.out with h0 | ⟨b, off, rfl, g1, g2, g3⟩
   ·omega
   rcases FH.out with h0 | ⟨b', off', rfl, g1', g2', g3'⟩
   ·omega
   obtain ⟨d0, d1, d2⟩ := (g3 j (by omega)).same (lo := lo) (hi := hi) (.of_below HB.out hh) g1 g2
   obtain ⟨e0, e1, e2⟩ := (g3' j hjn).same (lo := lo) (hi := hi) (.of_below HB.out hh) g1' g2'
   have o1 := hide (HF.out j (by omega))
   have o2 := hide (HH.out j hjn)
   have k1 : (0 : Int) ≤ (j : Int) := by omega
   have k2 : (j : Int) < (m : Int) := by omega
   have k3 : (j : Int) < (n : Int) := by omega
   have b5 : b < wr.heap.size := Nat.lt_of_lt_of_le g2 s2
   have b6 : b' < wr.heap.size := Nat.lt_of_lt_of_le g2' s2
   clear g3 g3'
   go_wp2_with fail
   go_region_held3 (fun w' => (w'.cell? ⟨w.heap.size, 3, none⟩ = some (.slice (some ⟨b, off, none⟩) n fc) ∧ w'.cell? ⟨w.heap.size + 1, 3, none⟩ = some (.slice (some ⟨b', off', none⟩) m fd)) ∧ (w'.cell? ⟨b, off + j * 3, none⟩ = some (.int .i64 (F j).kind) ∧ w'.cell? ⟨b, off + j * 3 + 1, none⟩ = some (.int .i64 (F j).of) ∧ w'.cell? ⟨b, off + j * 3 + 2, none⟩ = some (.bool (F j).mt)) ∧ (w'.cell? ⟨b', off' + j * 3, none⟩ = some (.int .i64 (H j).kind) ∧ w'.cell? ⟨b', off' + j * 3 + 1, none⟩ = some (.int .i64 (H j).of) ∧ w'.cell? ⟨b', off' + j * 3 + 2, none⟩ = some (.bool (H j).mt))) (go_keep)
    ((go_at_call 62; refine (l1Fits_any ga gc lo hi gs (F j) (H j) wr.drew HP.out HN.out hc hl s2 (HX.out.keep (HB.out.mono hh).drew) o1.out.1 o1.out.2 o2.out.1 o2.out.2).mono ?_; rintro e w2 ⟨rfl, hb2⟩; have q1 : ∀ o, w2.cell? ⟨w.heap.size, o, none⟩ = wr.cell? ⟨w.heap.size, o, none⟩ := fun o => hb2.cell (Nat.lt_of_succ_lt s1); have q2 : ∀ o, w2.cell? ⟨w.heap.size + 1, o, none⟩ = wr.cell? ⟨w.heap.size + 1, o, none⟩ := fun o => hb2.cell s1; have q3 : ∀ o, w2.cell? ⟨b, o, none⟩ = wr.cell? ⟨b, o, none⟩ := fun o => hb2.cell b5; have q4 : ∀ o, w2.cell? ⟨b', o, none⟩ = wr.cell? ⟨b', o, none⟩ := fun o => hb2.cell b6))
   have C3 := hide ((q1 3).trans c3)
   have C4 := hide ((q2 3).trans c4)
   have HB2 := hide (HB.out.drew.trans (hb2.mono (by exact Nat.le_of_lt (Nat.lt_of_succ_lt s1))))
   clear q1 q2 q3 q4 hb2
   cases hmm : fitsF gs (F j) (H j) with
   | true =>
    have HMM := hide hmm
    clear hmm
    go_wp2_with fail
    exact ⟨⟨j + 1, by omega, by go_num, by simp only [allTo, HA.out, HMM.out, Bool.and_self], HB2.out, C3.out, C4.out⟩, by simp [intOf]; omega⟩
   | false =>
    have HMM := hide hmm
    clear hmm
    go_wp2_with fail
    go_ret
    exact ⟨ret_bool (allTo_false hjn HMM.out).symm, HB2.out⟩
  ·have hje : Hid (j = m) := Nat.le_antisymm hj (Nat.le_of_not_lt hjn)
   go_wp2_with fail
   go_ret
   exact ⟨ret_bool (by rw [← hje.out, HA.out]), HB.out⟩
set_option maxHeartbeats 800000 in
theorem l1Below_short (ga : Option Addr) (gc : Nat) (gs : List (List Ty)) (sk tk u v : Int) (sl tl : Bool) (fa fb : Option Addr) (fc fd n m : Nat) (w : World) (hn : n ≤ 4) (hm : m ≤ 4) (h : sk ≠ tk ∨ (sk = tk ∧ tl = true) ∨ (sk = tk ∧ tl = false ∧ n < m)) :
  Calls Tryz.prog 43 #[.slice ga gs.length gc, .agg #[.int .i64 sk, .int .i64 u, .bool sl, .slice fa n fc], .agg #[.int .i64 tk, .int .i64 v, .bool tl, .slice fb m fd]] w
   fun e w' => e = .returned (.bool false) ∧ Below w.heap.size w w' := by
 rcases h with h | ⟨rfl, rfl⟩ | ⟨rfl, rfl, h⟩
 ·have hk2 : (sk != tk) = true := by simp [h]
  go_enter Tryz.func43, Tryz.ntmps43
  go_wp2_with fail
  go_ret
  exact ⟨rfl, ((Below.refl _ _).alloc (Nat.le_refl _) _).alloc (by simp) _⟩
 all_goals
  go_enter Tryz.func43, Tryz.ntmps43
  go_wp2_with fail
  go_ret
  exact ⟨rfl, ((Below.refl _ _).alloc (Nat.le_refl _) _).alloc (by simp) _⟩
theorem l1Below_any (ga : Option Addr) (gc lo hi : Nat) (gs : List (List Ty)) (s t : Ty) (fa fb : Option Addr) (fc fd : Nat) (w : World) (hP : Parts gs) (hN : Few gs) (hc : gs.length ≤ gc) (hl : lo ≤ hi) (hh : hi ≤ w.heap.size) (hx : GroupsIn w lo hi ga gs)
  (ls : s.fields.length ≤ 4) (lt : t.fields.length ≤ 4) (hF : ∀ i, i < s.fields.length → OfOk gs (fdAt s.fields i)) (hH : ∀ i, i < t.fields.length → OfOk gs (fdAt t.fields i)) (ff : FieldsIn w lo hi fa s.fields) (fh : FieldsIn w lo hi fb t.fields) :
  Calls Tryz.prog 43 #[.slice ga gs.length gc, .agg #[.int .i64 s.kind, .int .i64 s.up, .bool s.last, .slice fa s.fields.length fc], .agg #[.int .i64 t.kind, .int .i64 t.up, .bool t.last, .slice fb t.fields.length fd]] w
   fun e w' => e = .returned (.bool (belowF gs s t)) ∧ Below w.heap.size w w' := by
 by_cases e : s.kind = t.kind ∧ t.last = false ∧ t.fields.length ≤ s.fields.length
 ·obtain ⟨e1, e2, e3⟩ := e
  have hA : belowF gs s t = allTo (fun i => fitsF gs (fdAt s.fields i) (fdAt t.fields i)) t.fields.length := by
   simp [belowF, e1, e2, e3]
  rw [hA, ← e1, e2]
  exact l1Below_loop ga gc lo hi gs s.kind s.up t.up s.last fa fb fc fd s.fields.length t.fields.length (fdAt s.fields) (fdAt t.fields) w hP hN hc hl hh hx ls e3 hF hH ff.fsAt fh.fsAt
 ·have hA : belowF gs s t = false := by
   by_cases e1 : s.kind = t.kind
   ·cases e2 : t.last with
    | false =>
     have e3 : ¬ t.fields.length ≤ s.fields.length := fun h => e ⟨e1, e2, h⟩
     simp [belowF, e3]
    | true => simp [belowF, e2]
   ·simp [belowF, e1]
  rw [hA]
  refine l1Below_short ga gc gs s.kind t.kind s.up t.up s.last t.last fa fb fc fd _ _ w ls lt ?_
  by_cases e1 : s.kind = t.kind
  ·cases e2 : t.last with
   | false => exact .inr (.inr ⟨e1, rfl, Nat.lt_of_not_le fun h => e ⟨e1, e2, h⟩⟩)
   | true => exact .inr (.inl ⟨e1, rfl⟩)
  ·exact .inl e1
def formsF (gs : List (List Ty)) (x : Nat) (j : Nat) : Bool := allTo (fun i => formOk (tyAt (grAt gs x) i) ((countTo (grAt gs) x + i : Nat) : Int) ((countTo (grAt gs) x + (grAt gs x).length : Nat) : Int)) j
def partsF (gs : List (List Ty)) : Bool := (decide (gs.length ≤ 4) && decide (kinCount gs ≤ 8)) && allTo (fun x => decide (0 < (grAt gs x).length) && formsF gs x (grAt gs x).length) gs.length
theorem allTo_of {p : Nat → Bool} {n : Nat} (h : ∀ i, i < n → p i = true) : allTo p n = true := by
 induction n with
 | zero => rfl
 | succ n ih => simp only [allTo]; rw [ih (fun i hi => h i (by omega)), h n (by omega)]; rfl
theorem partsF_iff (gs : List (List Ty)) : partsF gs = true ↔ Parts gs := by
 unfold partsF Parts
 simp only [Bool.and_eq_true, decide_eq_true_eq]
 constructor
 ·rintro ⟨⟨h1, h2⟩, h3⟩
  refine ⟨h1, h2, fun x hx => ?_⟩
  have := allTo_true h3 x hx
  simp only [Bool.and_eq_true, decide_eq_true_eq] at this
  exact ⟨this.1, allTo_true this.2⟩
 ·rintro ⟨h1, h2, h3⟩
  refine ⟨⟨h1, h2⟩, allTo_of fun x hx => ?_⟩
  simp only [Bool.and_eq_true, decide_eq_true_eq]
  exact ⟨(h3 x hx).1, allTo_of (h3 x hx).2⟩
set_option maxHeartbeats 1600000 in
set_option maxRecDepth 100000 in
theorem l1Parts_any (ga : Option Addr) (gc lo hi : Nat) (gs : List (List Ty)) (w : World) (hN : Few gs) (hc : gs.length ≤ gc) (hl : lo ≤ hi) (hh : hi ≤ w.heap.size) (hx : GroupsIn w lo hi ga gs) :
  Calls Tryz.prog 42 #[.slice ga gs.length gc] w fun e w' => e = .returned (.bool (partsF gs)) ∧ Below w.heap.size w w' := by
 have l1 := hN.1
 have HX := hide hx
 have HN := hide hN
 have HC := hide (specKinCount_any ga gc lo hi gs w hN hx)
 have kc := kinCount_le hN
 clear hx hN
 by_cases h4 : gs.length ≤ 4
 ·by_cases h8 : kinCount gs ≤ 8
  ·have HZ : Hid (partsF gs = allTo (fun x => decide (0 < (grAt gs x).length) && formsF gs x (grAt gs x).length) gs.length) := by
    show _ = _; simp [partsF, h4, h8]
   go_enter Tryz.func42, Tryz.ntmps42
   go_wp2_with fail
   refine HC.out.mono ?_
   rintro e w ⟨rfl, rfl⟩
   go_wp2_with fail
   go_loopw [3, 4] (fun me i wr => ∃ k : Nat, k ≤ gs.length ∧ i = .int .i64 k ∧ me = .int .i64 (countTo (grAt gs) k : Nat) ∧ allTo (fun x => decide (0 < (grAt gs x).length) && formsF gs x (grAt gs x).length) k = true ∧ Below w.heap.size w wr) (fun me i wr => gs.length - (intOf i).toNat)
   case atStart => exact ⟨0, Nat.zero_le _, rfl, rfl, rfl, Below.refl _ _⟩
   case round =>
    obtain ⟨k, hk, rfl, rfl, hA, hb⟩ := hrel
    have HA := hide hA
    have HB := hide hb
    have s1 := hb.size
    clear hA hb
    by_cases hkn : k < gs.length
    ·rcases HX.out with hnil | ⟨b, off, rfl, k1, k2, k3⟩
     ·rw [hnil] at hkn; exact absurd hkn (Nat.not_lt_zero _)
     obtain ⟨ta, tc, c3', c4⟩ := k3 k hkn
     have C4 := hide c4
     have b4 : b < w.heap.size := Nat.lt_of_lt_of_le k2 hh
     have c3 : wr.cell? ⟨b, off + k, none⟩ = some (.slice ta (grAt gs k).length tc) := by rw [HB.out.cell (by exact b4)]; exact c3'
     have ln := (HN.out.2 k hkn).1
     have q1 := countTo_le (grAt gs) gs.length (fun i hi => (HN.out.2 i hi).1) k hk
     have HBg := hide (fun i => l1Begin_any (some ⟨b, off, none⟩) gc lo hi k gs (wr.drewN i) HN.out hc (Nat.le_of_lt hkn) (HX.out.keep (below_drewN (HB.out.mono hh) i)))
     have i1 : (0 : Int) ≤ (k : Int) := by omega
     have i2 : (k : Int) < (gs.length : Int) := by omega
     have HA1 : Hid (allTo (fun x => decide (0 < (grAt gs x).length) && formsF gs x (grAt gs x).length) (k + 1) = (decide (0 < (grAt gs k).length) && formsF gs k (grAt gs k).length)) := by
      show (allTo _ k && _) = _
      rw [HA.out]; simp
     have HA2 : Hid ((decide (0 < (grAt gs k).length) && formsF gs k (grAt gs k).length) = false → partsF gs = false) := fun h => by rw [HZ.out]; exact allTo_false hkn h
     clear k3 c4
     by_cases h0 : (grAt gs k).length ≤ 0
     ·have h0' : (((grAt gs k).length : Int) == 0) = true := beq_iff_eq.2 (by omega)
      have HL0 := hide h0'
      go_wp2_with fail
      go_ret
      exact ⟨ret_bool (HA2.out (by simp; omega)).symm, HB.out⟩
     ·have h0' : (((grAt gs k).length : Int) == 0) = false := beq_eq_false_iff_ne.2 (by omega)
      rcases C4.out with hnil | ⟨b2, off2, rfl, t1, t2, t3⟩
      ·rw [hnil] at h0; exact absurd (Nat.le_refl _) h0
      have T3 := hide t3
      clear t3 C4
      go_wp2_with fail
      go_quiet (first | (go_at_call 60; exact Calls.quiet_of_same (HBg.out _)))
      go_wp2_with fail
      go_loopw [3, 6] (fun me i wi => ∃ j : Nat, j ≤ (grAt gs k).length ∧ i = .int .i64 j ∧ me = .int .i64 ((countTo (grAt gs) k : Int) + (j : Int)) ∧ formsF gs k j = true ∧ Below w.heap.size w wi) (fun me i wi => (grAt gs k).length - (intOf i).toNat)
      case atStart => exact ⟨0, Nat.zero_le _, rfl, by simp, rfl, below_drewN HB.out _⟩
      case round =>
       clear c3 s1
       obtain ⟨j, hj, rfl, rfl, hA', hb'⟩ := hrel
       have HA' := hide hA'
       have HB' := hide hb'
       have s1 := hb'.size
       have c3 : wr.cell? ⟨b, off + k, none⟩ = some (.slice (some ⟨b2, off2, none⟩) (grAt gs k).length tc) := by rw [hb'.cell (by exact b4)]; exact c3'
       clear hA' hb'
       by_cases hjn : j < (grAt gs k).length
       ·obtain ⟨e0, e1, e2, fa, fc, e3, e4⟩ := (T3.out j hjn).keep (HB'.out.mono hh) t1 t2
        have E4 := hide e4
        have ff := hide ((HN.out.2 k hkn).2 j hjn)
        have j1 : (0 : Int) ≤ (j : Int) := by omega
        have j2 : (j : Int) < ((grAt gs k).length : Int) := by omega
        clear e4
        go_wp2_with fail
        refine (l1Form_any fa fc lo hi (tyAt (grAt gs k) j) _ _ _ ff.out E4.out (by omega)).mono ?_
        rintro e w2 ⟨rfl, hb2⟩
        have HB2 := hide (HB'.out.trans (hb2.mono s1))
        clear hb2
        have HFm : Hid (formsF gs k (j + 1) = formOk (tyAt (grAt gs k) j) ((countTo (grAt gs) k : Int) + (j : Int)) ((countTo (grAt gs) k : Int) + ((grAt gs k).length : Int))) := by
         show (formsF gs k j && formOk _ _ _) = _
         rw [HA'.out]
         simp
        have HFf : Hid (formOk (tyAt (grAt gs k) j) ((countTo (grAt gs) k : Int) + (j : Int)) ((countTo (grAt gs) k : Int) + ((grAt gs k).length : Int)) = false → formsF gs k (grAt gs k).length = false) := fun h => allTo_false hjn (by simpa using h)
        cases hfo : formOk (tyAt (grAt gs k) j) ((countTo (grAt gs) k : Int) + (j : Int)) ((countTo (grAt gs) k : Int) + ((grAt gs k).length : Int)) with
        | true =>
         have HO := hide hfo
         clear hfo
         go_wp2_with fail
         refine ⟨⟨j + 1, by omega, by go_num, ?_, by rw [HFm.out]; exact HO.out, HB2.out⟩, by simp [intOf]; omega⟩
         congr 1
         try omega
        | false =>
         have HO := hide hfo
         clear hfo
         go_wp2_with fail
         go_ret
         exact ⟨ret_bool (HA2.out (by rw [HFf.out HO.out]; simp)).symm, HB2.out⟩
       ·have hje : Hid (j = (grAt gs k).length) := Nat.le_antisymm hj (Nat.le_of_not_lt hjn)
        go_wp2_with fail
        refine ⟨⟨k + 1, by omega, by go_num, ?_, ?_, HB'.out⟩, by simp [intOf]; omega⟩
        ·have := hje.out
         simp only [countTo]
         congr 1
         try omega
        ·have h0'' : decide (0 < (grAt gs k).length) = true := by simp; omega
         rw [HA1.out, h0'', ← hje.out, HA'.out]; rfl
    ·have hke : Hid (k = gs.length) := Nat.le_antisymm hk (Nat.le_of_not_lt hkn)
     go_wp2_with fail
     go_ret
     exact ⟨ret_bool (by rw [HZ.out, ← hke.out, HA.out]), HB.out⟩
  ·have HZ : Hid (partsF gs = false) := by show _ = _; simp [partsF, h8]
   go_enter Tryz.func42, Tryz.ntmps42
   go_wp2_with fail
   refine HC.out.mono ?_
   rintro e w ⟨rfl, rfl⟩
   go_wp2_with fail
   go_ret
   exact ⟨ret_bool HZ.out.symm, Below.refl _ _⟩
 ·have HZ : Hid (partsF gs = false) := by show _ = _; simp [partsF, h4]
  go_enter Tryz.func42, Tryz.ntmps42
  go_wp2_with fail
  go_ret
  exact ⟨ret_bool HZ.out.symm, Below.refl _ _⟩
def kinOkF (gs : List (List Ty)) : Bool := partsF gs && allTo (fun i => decide ((tyN gs i).up < 0) || belowF gs (tyN gs i) (tyN gs (tyN gs i).up.toNat)) (kinCount gs)
theorem ofOk_of {gs : List (List Ty)} {f : Fd} (h : fieldOk f.kind f.of (kinCount gs : Nat) = true) : OfOk gs f := by
 unfold fieldOk at h
 split at h
 ·rename_i h1; simp at h; exact ⟨by omega, .inr h1⟩
 ·split at h
  ·simp at h; exact ⟨by omega, .inl (by omega)⟩
  ·simp at h
set_option maxHeartbeats 1600000 in
set_option maxRecDepth 100000 in
theorem specKinOk_any (ga : Option Addr) (gc lo hi : Nat) (gs : List (List Ty)) (w : World) (hN : Few gs) (hc : gs.length ≤ gc) (hl : lo ≤ hi) (hh : hi ≤ w.heap.size) (hx : GroupsIn w lo hi ga gs) :
  Calls Tryz.prog 27 #[.slice ga gs.length gc] w fun e w' => e = .returned (.bool (kinOkF gs)) ∧ Below w.heap.size w w' := by
 have HX := hide hx
 have HN := hide hN
 clear hx hN
 go_enter Tryz.func27, Tryz.ntmps27
 go_wp2_with fail
 refine (l1Parts_any ga gc lo hi gs w HN.out hc hl hh HX.out).mono ?_
 rintro e w1 ⟨rfl, hb1⟩
 have HB1 := hide hb1
 have s1 := hb1.size
 clear hb1
 cases hpf : partsF gs with
 | false =>
  have HZ : Hid (kinOkF gs = false) := by show _ = _; simp [kinOkF, hpf]
  clear hpf
  go_wp2_with fail
  go_ret
  exact ⟨ret_bool HZ.out.symm, HB1.out⟩
 | true =>
  have HZ : Hid (kinOkF gs = allTo (fun i => decide ((tyN gs i).up < 0) || belowF gs (tyN gs i) (tyN gs (tyN gs i).up.toNat)) (kinCount gs)) := by show _ = _; simp [kinOkF, hpf]
  have HP := hide ((partsF_iff gs).1 hpf)
  have m8 := HP.out.2.1
  clear hpf
  go_wp2_with fail
  refine (l1Flat_any ga gc lo hi gs _ HN.out (HX.out.keep (HB1.out.mono hh)) (Nat.le_trans hh s1) hl).mono ?_
  rintro e w2 ⟨na, nc, rfl, ht, hb2⟩
  have HT := hide ht
  have HB2 := hide (HB1.out.trans (hb2.mono s1))
  have s2 := hb2.size
  clear ht hb2
  go_wp2_with fail
  go_loopw [4] (fun i wr => ∃ j : Nat, j ≤ kinCount gs ∧ i = .int .i64 j ∧ allTo (fun i => decide ((tyN gs i).up < 0) || belowF gs (tyN gs i) (tyN gs (tyN gs i).up.toNat)) j = true ∧ Below w.heap.size w wr ∧ Below w2.heap.size w2 wr) (fun i wr => kinCount gs - (intOf i).toNat)
  case atStart => exact ⟨0, Nat.zero_le _, rfl, rfl, HB2.out, Below.refl _ _⟩
  case round =>
   obtain ⟨j, hj, rfl, hA, hb, hbb⟩ := hrel
   have HA := hide hA
   have HB := hide hb
   have HBB := hide hbb
   have s3 := hbb.size
   clear hA hb hbb
   by_cases hjn : j < kinCount gs
   ·rcases HT.out with hnil | ⟨b, off, rfl, g1, g2, g3⟩
    ·have := flat_length gs
     rw [hnil] at this
     simp at this
     omega
    obtain ⟨p1, ⟨p2, p3⟩, p4⟩ := parts_flat HP.out hjn
    obtain ⟨e0, e1, e2, fa, fc, e3, e4⟩ := (g3 j (by rw [flat_length]; exact hjn)).keep HBB.out g1 g2
    have G3 := hide g3
    have E4 := hide e4
    have j1 : (0 : Int) ≤ (j : Int) := by omega
    have j2 : (j : Int) < (kinCount gs : Int) := by omega
    have HA1 : Hid (allTo (fun i => decide ((tyN gs i).up < 0) || belowF gs (tyN gs i) (tyN gs (tyN gs i).up.toNat)) (j + 1) = (decide ((tyN gs j).up < 0) || belowF gs (tyN gs j) (tyN gs (tyN gs j).up.toNat))) := by
     show (allTo _ j && _) = _
     rw [HA.out]; simp
    have HA2 : Hid ((decide ((tyN gs j).up < 0) || belowF gs (tyN gs j) (tyN gs (tyN gs j).up.toNat)) = false → kinOkF gs = false) := fun h => by rw [HZ.out]; exact allTo_false hjn h
    have e1' : wr.cell? ⟨b, off + j * 4 + 1, none⟩ = some (.int .i64 (tyN gs j).up) := e1
    have e0' : wr.cell? ⟨b, off + j * 4, none⟩ = some (.int .i64 (tyN gs j).kind) := e0
    have e2' : wr.cell? ⟨b, off + j * 4 + 2, none⟩ = some (.bool (tyN gs j).last) := e2
    have e3' : wr.cell? ⟨b, off + j * 4 + 3, none⟩ = some (.slice fa (tyN gs j).fields.length fc) := e3
    have P4 := hide p4
    clear g3 e0 e1 e2 e3 e4 p4
    by_cases hup : (tyN gs j).up < 0
    ·have hd : decide (0 ≤ (tyN gs j).up) = false := by simp; omega
     go_wp2_with fail
     go_quiet (fail)
     go_wp2_with fail
     exact ⟨⟨j + 1, by omega, by go_num, by rw [HA1.out]; simp [hup], below_drewN HB.out _, below_drewN HBB.out _⟩, by simp [intOf]; omega⟩
    ·obtain ⟨m, hm⟩ := Int.eq_ofNat_of_zero_le (show 0 ≤ (tyN gs j).up by omega)
     have hmc : m < kinCount gs := by omega
     obtain ⟨q1, _, q4⟩ := parts_flat HP.out hmc
     obtain ⟨f0, f1, f2, fb, fd, f3, f4⟩ := (G3.out m (by rw [flat_length]; exact hmc)).keep HBB.out g1 g2
     have f0' : wr.cell? ⟨b, off + m * 4, none⟩ = some (.int .i64 (tyN gs m).kind) := f0
     have f1' : wr.cell? ⟨b, off + m * 4 + 1, none⟩ = some (.int .i64 (tyN gs m).up) := f1
     have f2' : wr.cell? ⟨b, off + m * 4 + 2, none⟩ = some (.bool (tyN gs m).last) := f2
     have f3' : wr.cell? ⟨b, off + m * 4 + 3, none⟩ = some (.slice fb (tyN gs m).fields.length fd) := f3
     have F4 := hide f4
     have Q4 := hide q4
     have HMt : Hid ((tyN gs j).up.toNat = m) := by show _ = _; rw [hm]; simp
     have m1 : (0 : Int) ≤ (m : Int) := by omega
     have m2 : (m : Int) < (kinCount gs : Int) := by omega
     have b5 : b < wr.heap.size := by omega
     have hs4 : w2.heap.size ≤ wr.heap.size := s3
     have HU : Hid ((tyN gs j).up = (m : Int)) := hm
     rw [hm] at e1'
     clear f0 f1 f2 f3 f4 q4 hm
     have hcall : Calls Tryz.prog 43 #[.slice ga gs.length gc, .agg #[.int .i64 (tyN gs j).kind, .int .i64 (m : Int), .bool (tyN gs j).last, .slice fa (tyN gs j).fields.length fc], .agg #[.int .i64 (tyN gs m).kind, .int .i64 (tyN gs m).up, .bool (tyN gs m).last, .slice fb (tyN gs m).fields.length fd]] wr.drew
       fun e w' => e = .returned (.bool (belowF gs (tyN gs j) (tyN gs m))) ∧ Below wr.heap.size wr.drew w' := by
      have h := l1Below_any ga gc lo w2.heap.size gs (tyN gs j) (tyN gs m) fa fb fc fd wr.drew HP.out HN.out hc (by omega) s3 ((HX.out.keep (HB.out.mono hh).drew).wide (Nat.le_refl _) (by omega)) p1 q1 (fun i hi => ofOk_of (P4.out i hi)) (fun i hi => ofOk_of (Q4.out i hi)) E4.out F4.out
      rw [HU.out] at h
      exact h
     have HC := hide hcall
     clear hcall
     have HBl : Hid ((decide ((tyN gs j).up < 0) || belowF gs (tyN gs j) (tyN gs (tyN gs j).up.toNat)) = belowF gs (tyN gs j) (tyN gs m)) := by
      show _ = _
      rw [HMt.out]
      have : decide ((tyN gs j).up < 0) = false := by simp; omega
      rw [this]; rfl
     clear hup p2 p3
     have hd : decide ((0 : Int) ≤ (m : Int)) = true := by simp
     go_wp2_with fail
     go_region_held3 (fun w' => (w'.cell? ⟨b, off + j * 4, none⟩ = some (.int .i64 (tyN gs j).kind) ∧ w'.cell? ⟨b, off + j * 4 + 1, none⟩ = some (.int .i64 (m : Int)) ∧ w'.cell? ⟨b, off + j * 4 + 2, none⟩ = some (.bool (tyN gs j).last) ∧ w'.cell? ⟨b, off + j * 4 + 3, none⟩ = some (.slice fa (tyN gs j).fields.length fc)) ∧ (w'.cell? ⟨b, off + m * 4, none⟩ = some (.int .i64 (tyN gs m).kind) ∧ w'.cell? ⟨b, off + m * 4 + 1, none⟩ = some (.int .i64 (tyN gs m).up) ∧ w'.cell? ⟨b, off + m * 4 + 2, none⟩ = some (.bool (tyN gs m).last) ∧ w'.cell? ⟨b, off + m * 4 + 3, none⟩ = some (.slice fb (tyN gs m).fields.length fd))) (go_keep)
      ((go_at_call 43; refine HC.out.mono ?_; rintro e w3 ⟨rfl, hb3⟩; have q1 : ∀ o, w3.cell? ⟨b, o, none⟩ = wr.cell? ⟨b, o, none⟩ := fun o => hb3.cell b5))
     have HB3 := hide (HB.out.drew.trans (hb3.mono (by omega)))
     have HBB3 := hide (HBB.out.drew.trans (hb3.mono s3))
     clear q1 hb3
     cases hbf : belowF gs (tyN gs j) (tyN gs m) with
     | true =>
      have HO := hide hbf
      clear hbf
      go_wp2_with fail
      exact ⟨⟨j + 1, by omega, by go_num, by rw [HA1.out, HBl.out, HO.out], HB3.out, HBB3.out⟩, by simp [intOf]; omega⟩
     | false =>
      have HO := hide hbf
      clear hbf
      go_wp2_with fail
      go_ret
      exact ⟨ret_bool (HA2.out (HBl.out.trans HO.out)).symm, HB3.out⟩
   ·have hje : Hid (j = kinCount gs) := Nat.le_antisymm hj (Nat.le_of_not_lt hjn)
    go_wp2_with fail
    go_ret
    exact ⟨ret_bool (by rw [HZ.out, ← hje.out, HA.out]), HB.out⟩
def sepB (c : UInt8) : Bool := c == 32 || c == 44 || c == 59
abbrev Tok := UInt8 × List UInt8
def tokOk (t : Tok) : Prop := sepB t.1 = true ∧ ∀ c ∈ t.2, sepB c = false
def toksTxt (l : List Tok) : List UInt8 := l.flatMap fun t => t.1 :: t.2
theorem toksTxt_nil : toksTxt [] = [] := rfl
theorem toksTxt_cons (t : Tok) (l : List Tok) : toksTxt (t :: l) = t.1 :: (t.2 ++ toksTxt l) := by simp [toksTxt]
theorem toksTxt_append (a b : List Tok) : toksTxt (a ++ b) = toksTxt a ++ toksTxt b := by simp [toksTxt]
def Starts (r : List UInt8) : Prop := r = [] ∨ ∃ c t, r = c :: t ∧ sepB c = true
theorem toksTxt_starts (l : List Tok) (h : ∀ t ∈ l, tokOk t) : Starts (toksTxt l) := by
 cases l with
 | nil => exact .inl rfl
 | cons t l => exact .inr ⟨t.1, _, toksTxt_cons t l, (h t (by simp)).1⟩
theorem word_inj : ∀ (a b r s : List UInt8), (∀ c ∈ a, sepB c = false) → (∀ c ∈ b, sepB c = false) → Starts r → Starts s → a ++ r = b ++ s → a = b ∧ r = s := by
 intro a
 induction a with
 | nil =>
  intro b r s _ hb hr hs e
  cases b with
  | nil => exact ⟨rfl, e⟩
  | cons c b =>
   rcases hr with rfl | ⟨d, t, rfl, hd⟩
   ·simp at e
   ·simp at e
    have := hb c (by simp)
    rw [← e.1, hd] at this
    cases this
 | cons c a ih =>
  intro b r s ha hb hr hs e
  cases b with
  | nil =>
   rcases hs with rfl | ⟨d, t, rfl, hd⟩
   ·simp at e
   ·simp at e
    have := ha c (by simp)
    rw [e.1, hd] at this
    cases this
  | cons d b =>
   simp at e
   obtain ⟨h1, h2⟩ := ih b r s (fun x hx => ha x (by simp [hx])) (fun x hx => hb x (by simp [hx])) hr hs e.2
   exact ⟨by rw [e.1, h1], h2⟩
theorem toks_inj : ∀ (x y : List Tok), (∀ t ∈ x, tokOk t) → (∀ t ∈ y, tokOk t) → toksTxt x = toksTxt y → x = y := by
 intro x
 induction x with
 | nil =>
  intro y _ _ e
  cases y with
  | nil => rfl
  | cons t y => rw [toksTxt_cons] at e; simp [toksTxt] at e
 | cons t x ih =>
  intro y hx hy e
  cases y with
  | nil => rw [toksTxt_cons] at e; simp [toksTxt] at e
  | cons u y =>
   rw [toksTxt_cons, toksTxt_cons] at e
   simp only [List.cons.injEq] at e
   obtain ⟨e1, e2⟩ := e
   have hx' : ∀ t ∈ x, tokOk t := fun z hz => hx z (by simp [hz])
   have hy' : ∀ t ∈ y, tokOk t := fun z hz => hy z (by simp [hz])
   obtain ⟨h1, h2⟩ := word_inj t.2 u.2 _ _ (hx t (by simp)).2 (hy u (by simp)).2 (toksTxt_starts x hx') (toksTxt_starts y hy') e2
   rw [ih y hx' hy' h2, Prod.ext e1 h1]
def sm (n : Int) : List UInt8 := if n < 0 then [45, UInt8.ofNat (48 + n.natAbs)] else [UInt8.ofNat (48 + n.toNat)]
theorem itoa_sm (n : Int) (h1 : -9 ≤ n) (h2 : n ≤ 9) : Lib.itoa n = sm n := by
 unfold Lib.itoa sm
 split
 ·rw [Lib.decDigits]; simp; omega
 ·rw [Lib.decDigits]; simp; omega
theorem sm_inj_fin : ∀ a b : Fin 12, sm ((a.val : Int) - 2) = sm ((b.val : Int) - 2) → a = b := by decide +kernel
theorem sm_sep_fin : ∀ a : Fin 12, ∀ c ∈ sm ((a.val : Int) - 2), sepB c = false ∧ c ≠ 43 := by decide +kernel
theorem fin12 {a : Int} (h1 : -2 ≤ a) (h2 : a ≤ 9) : ∃ f : Fin 12, a = (f.val : Int) - 2 := ⟨⟨(a + 2).toNat, by omega⟩, by simp; omega⟩
theorem itoa_inj {a b : Int} (h1 : -2 ≤ a) (h2 : a ≤ 9) (h3 : -2 ≤ b) (h4 : b ≤ 9) (e : Lib.itoa a = Lib.itoa b) : a = b := by
 rw [itoa_sm a (by omega) (by omega), itoa_sm b (by omega) (by omega)] at e
 obtain ⟨f, rfl⟩ := fin12 h1 h2
 obtain ⟨g, rfl⟩ := fin12 h3 h4
 rw [sm_inj_fin f g e]
theorem itoa_word {a : Int} (h1 : -2 ≤ a) (h2 : a ≤ 9) : ∀ c ∈ Lib.itoa a, sepB c = false ∧ c ≠ 43 := by
 rw [itoa_sm a (by omega) (by omega)]
 obtain ⟨f, rfl⟩ := fin12 h1 h2
 exact sm_sep_fin f
theorem itoa_ne {a : Int} (h1 : -2 ≤ a) (h2 : a ≤ 9) : Lib.itoa a ≠ [] := by
 rw [itoa_sm a (by omega) (by omega)]
 unfold sm
 split <;> simp
def boolW (b : Bool) : List UInt8 := if b then [116, 114, 117, 101] else [102, 97, 108, 115, 101]
theorem boolW_inj {a b : Bool} (h : boolW a = boolW b) : a = b := by cases a <;> cases b <;> simp [boolW] at h ⊢
theorem boolW_word (b : Bool) : ∀ c ∈ boolW b, sepB c = false := by cases b <;> decide
def nameK (C : Nat → Nat) (b : Nat) (o : Int) : List UInt8 :=
 if o < 0 then Lib.itoa o else if (b : Int) ≤ o then 43 :: Lib.itoa (o - b) else Lib.itoa (C o.toNat : Nat)
def NameOk (C : Nat → Nat) (o : Int) : Prop := -2 ≤ o ∧ o < 8 ∧ ∀ a, a < 8 → C a < 8
theorem nameK_word {C : Nat → Nat} {b : Nat} {o : Int} (h : NameOk C o) : ∀ c ∈ nameK C b o, sepB c = false := by
 obtain ⟨h1, h2, h3⟩ := h
 unfold nameK
 split
 ·exact fun c hc => (itoa_word h1 (by omega) c hc).1
 ·split
  ·intro c hc
   simp at hc
   rcases hc with rfl | hc
   ·decide
   ·exact (itoa_word (by omega) (by omega) c hc).1
  ·have := h3 o.toNat (by omega)
   exact fun c hc => (itoa_word (by omega) (by omega) c hc).1
theorem nameK_iff {C : Nat → Nat} {gs : List (List Ty)} {x y : Nat} {o p : Int} (ho : NameOk C o) (hp : NameOk C p) :
  nameK C (beg gs x) o = nameK C (beg gs y) p ↔ matchF (fun a b => C a == C b) gs o p x y = true := by
 obtain ⟨o1, o2, o3⟩ := ho
 obtain ⟨p1, p2, _⟩ := hp
 unfold nameK matchF
 have plus : ∀ {a : Int} {l : List UInt8}, -2 ≤ a → a ≤ 9 → 43 :: l ≠ Lib.itoa a := fun {a l} h1 h2 e =>
  absurd rfl (itoa_word h1 h2 43 (by rw [← e]; simp)).2
 by_cases h1 : o < 0
 ·rw [if_pos h1, if_pos (show o < 0 ∨ p < 0 from .inl h1)]
  by_cases h2 : p < 0
  ·rw [if_pos h2, beq_iff_eq]
   exact ⟨itoa_inj o1 (by omega) p1 (by omega), fun e => by rw [e]⟩
  ·rw [if_neg h2, beq_iff_eq]
   constructor
   ·intro e
    split at e
    ·exact absurd e.symm (plus o1 (by omega))
    ·have := o3 p.toNat (by omega)
     have := itoa_inj o1 (by omega) (by omega) (by omega) e
     omega
   ·intro e; omega
 ·rw [if_neg h1]
  by_cases h2 : p < 0
  ·rw [if_pos h2, if_pos (show o < 0 ∨ p < 0 from .inr h2), beq_iff_eq]
   constructor
   ·intro e
    split at e
    ·exact absurd e (plus p1 (by omega))
    ·have := o3 o.toNat (by omega)
     have := itoa_inj (by omega) (by omega) p1 (by omega) e
     omega
   ·intro e; omega
  ·rw [if_neg h2, if_neg (show ¬ (o < 0 ∨ p < 0) by omega)]
   by_cases h3 : (beg gs x : Int) ≤ o
   ·rw [if_pos h3]
    by_cases h4 : (beg gs y : Int) ≤ p
    ·rw [if_pos h4, if_pos ⟨h3, h4⟩, beq_iff_eq]
     constructor
     ·intro e
      simp only [List.cons.injEq, true_and] at e
      exact itoa_inj (by omega) (by omega) (by omega) (by omega) e
     ·intro e; rw [e]
    ·rw [if_neg h4, if_neg (show ¬ ((beg gs x : Int) ≤ o ∧ (beg gs y : Int) ≤ p) by omega)]
     have := o3 p.toNat (by omega)
     constructor
     ·intro e; exact absurd e (plus (by omega) (by omega))
     ·intro e; simp at e; omega
   ·rw [if_neg h3, if_neg (show ¬ ((beg gs x : Int) ≤ o ∧ (beg gs y : Int) ≤ p) by omega)]
    have t1 := o3 o.toNat (by omega)
    by_cases h4 : (beg gs y : Int) ≤ p
    ·rw [if_pos h4]
     constructor
     ·intro e; exact absurd e.symm (plus (by omega) (by omega))
     ·intro e; simp at e; omega
    ·rw [if_neg h4]
     have t2 := o3 p.toNat (by omega)
     simp only [Bool.and_eq_true, decide_eq_true_eq, beq_iff_eq]
     constructor
     ·intro e
      have := itoa_inj (by omega) (by omega) (by omega) (by omega) e
      exact ⟨⟨by omega, by omega⟩, by omega⟩
     ·rintro ⟨_, e⟩; rw [e]
def fldTok (C : Nat → Nat) (b : Nat) (f : Fd) : List Tok := (44, Lib.itoa f.kind) :: (32, boolW f.mt) :: (if f.kind = 1 then [] else [(32, nameK C b f.of)])
def fldsTok (C : Nat → Nat) (b : Nat) (fs : List Fd) : List Tok := fs.flatMap (fldTok C b)
def rowTok (C : Nat → Nat) (b : Nat) (t : Ty) : List Tok := (59, Lib.itoa t.kind) :: (32, boolW t.last) :: (32, nameK C b t.up) :: fldsTok C b t.fields
def rowsTok (C : Nat → Nat) (b : Nat) (ts : List Ty) : List Tok := ts.flatMap (rowTok C b)
def grpTok (C : Nat → Nat) (b : Nat) (ts : List Ty) : List Tok := rowsTok C b ts ++ [(59, [])]
def fldTxt (C : Nat → Nat) (b : Nat) (f : Fd) : List UInt8 := toksTxt (fldTok C b f)
def fldsTxt (C : Nat → Nat) (b : Nat) (fs : List Fd) : List UInt8 := toksTxt (fldsTok C b fs)
def rowTxt (C : Nat → Nat) (b : Nat) (t : Ty) : List UInt8 := Lib.itoa t.kind ++ (32 :: (boolW t.last ++ (32 :: (nameK C b t.up ++ (fldsTxt C b t.fields ++ [59])))))
def grpTxt (C : Nat → Nat) (b : Nat) (ts : List Ty) : List UInt8 := ts.flatMap (rowTxt C b)
theorem grpTxt_toks (C : Nat → Nat) (b : Nat) (ts : List Ty) : 59 :: grpTxt C b ts = toksTxt (grpTok C b ts) := by
 induction ts with
 | nil => rfl
 | cons t ts ih =>
  have e : toksTxt (grpTok C b (t :: ts)) = toksTxt (rowTok C b t) ++ toksTxt (grpTok C b ts) := by
   simp [grpTok, rowsTok, toksTxt_append]
  rw [e, ← ih]
  simp [grpTxt, rowTxt, rowTok, toksTxt_cons, fldsTxt]
def FdOk (C : Nat → Nat) (f : Fd) : Prop := (1 ≤ f.kind ∧ f.kind ≤ 3) ∧ NameOk C f.of
def TyOk (C : Nat → Nat) (t : Ty) : Prop := (1 ≤ t.kind ∧ t.kind ≤ 2) ∧ NameOk C t.up ∧ ∀ i, i < t.fields.length → FdOk C (fdAt t.fields i)
theorem fdAt_mem {l : List Fd} {f : Fd} (h : f ∈ l) : ∃ i, i < l.length ∧ fdAt l i = f := by
 obtain ⟨i, hi, e⟩ := List.getElem_of_mem h
 exact ⟨i, hi, by simp [fdAt, List.getD, List.getElem?_eq_getElem hi, e]⟩
theorem tyAt_mem {l : List Ty} {t : Ty} (h : t ∈ l) : ∃ i, i < l.length ∧ tyAt l i = t := by
 obtain ⟨i, hi, e⟩ := List.getElem_of_mem h
 exact ⟨i, hi, by simp [tyAt, List.getD, List.getElem?_eq_getElem hi, e]⟩
theorem fldTok_ok {C : Nat → Nat} {b : Nat} {f : Fd} (h : FdOk C f) : ∀ t ∈ fldTok C b f, tokOk t := by
 obtain ⟨⟨k1, k2⟩, hn⟩ := h
 intro t ht
 simp only [fldTok, List.mem_cons] at ht
 rcases ht with rfl | rfl | ht
 ·exact ⟨rfl, fun c hc => (itoa_word (by omega) (by omega) c hc).1⟩
 ·exact ⟨rfl, boolW_word _⟩
 ·split at ht
  ·simp at ht
  ·simp at ht
   subst ht
   exact ⟨rfl, nameK_word hn⟩
theorem fldsTok_ok {C : Nat → Nat} {b : Nat} {fs : List Fd} (h : ∀ i, i < fs.length → FdOk C (fdAt fs i)) : ∀ t ∈ fldsTok C b fs, tokOk t := by
 intro t ht
 simp only [fldsTok, List.mem_flatMap] at ht
 obtain ⟨f, hf, ht⟩ := ht
 obtain ⟨i, hi, rfl⟩ := fdAt_mem hf
 exact fldTok_ok (h i hi) t ht
theorem rowTok_ok {C : Nat → Nat} {b : Nat} {t : Ty} (h : TyOk C t) : ∀ k ∈ rowTok C b t, tokOk k := by
 obtain ⟨⟨k1, k2⟩, hn, hf⟩ := h
 intro k hk
 simp only [rowTok, List.mem_cons] at hk
 rcases hk with rfl | rfl | rfl | hk
 ·exact ⟨rfl, fun c hc => (itoa_word (by omega) (by omega) c hc).1⟩
 ·exact ⟨rfl, boolW_word _⟩
 ·exact ⟨rfl, nameK_word hn⟩
 ·exact fldsTok_ok hf k hk
theorem grpTok_ok {C : Nat → Nat} {b : Nat} {ts : List Ty} (h : ∀ i, i < ts.length → TyOk C (tyAt ts i)) : ∀ k ∈ grpTok C b ts, tokOk k := by
 intro k hk
 simp only [grpTok, rowsTok, List.mem_append, List.mem_flatMap, List.mem_singleton] at hk
 rcases hk with ⟨t, ht, hk⟩ | rfl
 ·obtain ⟨i, hi, rfl⟩ := tyAt_mem ht
  exact rowTok_ok (h i hi) k hk
 ·exact ⟨rfl, fun c hc => by simp at hc⟩
def FEq (C : Nat → Nat) (b c : Nat) (f g : Fd) : Prop := f.kind = g.kind ∧ f.mt = g.mt ∧ (f.kind = 1 ∨ nameK C b f.of = nameK C c g.of)
def TEq (C : Nat → Nat) (b c : Nat) (s t : Ty) : Prop := s.kind = t.kind ∧ s.last = t.last ∧ nameK C b s.up = nameK C c t.up ∧ s.fields.length = t.fields.length ∧ ∀ i, i < s.fields.length → FEq C b c (fdAt s.fields i) (fdAt t.fields i)
def Semi (R : List Tok) : Prop := ∃ w T, R = (59, w) :: T
theorem fldTok_eq {C : Nat → Nat} {b c : Nat} {f g : Fd} (h : FEq C b c f g) : fldTok C b f = fldTok C c g := by
 obtain ⟨h1, h2, h3⟩ := h
 unfold fldTok
 rw [← h1, ← h2]
 by_cases e : f.kind = 1
 ·rw [if_pos e, if_pos e]
 ·rw [if_neg e, if_neg e, h3.resolve_left e]
theorem fdAt_cons_zero (f : Fd) (l : List Fd) : fdAt (f :: l) 0 = f := rfl
theorem fdAt_cons_succ (f : Fd) (l : List Fd) (i : Nat) : fdAt (f :: l) (i + 1) = fdAt l i := rfl
theorem tyAt_cons_zero (f : Ty) (l : List Ty) : tyAt (f :: l) 0 = f := rfl
theorem tyAt_cons_succ (f : Ty) (l : List Ty) (i : Nat) : tyAt (f :: l) (i + 1) = tyAt l i := rfl
theorem fldsTok_inj {C : Nat → Nat} {b c : Nat} : ∀ (fs gs : List Fd) (R S : List Tok), (∀ i, i < fs.length → FdOk C (fdAt fs i)) → (∀ i, i < gs.length → FdOk C (fdAt gs i)) → Semi R → Semi S →
  fldsTok C b fs ++ R = fldsTok C c gs ++ S → (fs.length = gs.length ∧ ∀ i, i < fs.length → FEq C b c (fdAt fs i) (fdAt gs i)) ∧ R = S := by
 intro fs
 induction fs with
 | nil =>
  intro gs R S _ hg hR hS e
  cases gs with
  | nil => exact ⟨⟨rfl, fun i hi => absurd hi (Nat.not_lt_zero _)⟩, e⟩
  | cons g gs =>
   obtain ⟨w, T, rfl⟩ := hR
   simp [fldsTok, fldTok] at e
 | cons f fs ih =>
  intro gs R S hf hg hR hS e
  cases gs with
  | nil =>
   obtain ⟨w, T, rfl⟩ := hS
   simp [fldsTok, fldTok] at e
  | cons g gs =>
   have f0 := hf 0 (by simp)
   have g0 := hg 0 (by simp)
   rw [fdAt_cons_zero] at f0 g0
   have e' : fldTok C b f ++ (fldsTok C b fs ++ R) = fldTok C c g ++ (fldsTok C c gs ++ S) := by simpa [fldsTok] using e
   have key : FEq C b c f g ∧ fldsTok C b fs ++ R = fldsTok C c gs ++ S := by
    unfold fldTok at e'
    simp only [List.cons_append, List.cons.injEq, Prod.mk.injEq, true_and] at e'
    obtain ⟨k1, k2, k3⟩ := e'
    have hk := itoa_inj (by have := f0.1; omega) (by have := f0.1; omega) (by have := g0.1; omega) (by have := g0.1; omega) k1
    have hm := boolW_inj k2
    rw [← hk] at k3
    by_cases e1 : f.kind = 1
    ·rw [if_pos e1, if_pos e1] at k3
     exact ⟨⟨hk, hm, .inl e1⟩, by simpa using k3⟩
    ·rw [if_neg e1, if_neg e1] at k3
     simp only [List.cons_append, List.nil_append, List.cons.injEq, Prod.mk.injEq, true_and] at k3
     exact ⟨⟨hk, hm, .inr k3.1⟩, k3.2⟩
   obtain ⟨⟨h1, h2⟩, h3⟩ := ih gs R S (fun i hi => hf (i + 1) (by simpa using hi)) (fun i hi => hg (i + 1) (by simpa using hi)) hR hS key.2
   refine ⟨⟨by simp [h1], fun i hi => ?_⟩, h3⟩
   cases i with
   | zero => exact key.1
   | succ i => rw [fdAt_cons_succ, fdAt_cons_succ]; exact h2 i (by simpa using hi)
theorem fldsTok_eq {C : Nat → Nat} {b c : Nat} : ∀ (fs gs : List Fd), fs.length = gs.length → (∀ i, i < fs.length → FEq C b c (fdAt fs i) (fdAt gs i)) → fldsTok C b fs = fldsTok C c gs := by
 intro fs
 induction fs with
 | nil =>
  intro gs h _
  cases gs with
  | nil => rfl
  | cons g gs => simp at h
 | cons f fs ih =>
  intro gs h hE
  cases gs with
  | nil => simp at h
  | cons g gs =>
   show fldTok C b f ++ fldsTok C b fs = fldTok C c g ++ fldsTok C c gs
   rw [fldTok_eq (f := f) (g := g) (hE 0 (by simp)), ih gs (by simpa using h) (fun i hi => hE (i + 1) (by simpa using hi))]
theorem rowTok_eq {C : Nat → Nat} {b c : Nat} {s t : Ty} (h : TEq C b c s t) : rowTok C b s = rowTok C c t := by
 obtain ⟨h1, h2, h3, h4, h5⟩ := h
 unfold rowTok
 rw [h1, h2, h3, fldsTok_eq _ _ h4 h5]
theorem grpTok_semi (C : Nat → Nat) (b : Nat) (ts : List Ty) : Semi (grpTok C b ts) := by
 cases ts with
 | nil => exact ⟨_, _, rfl⟩
 | cons t ts => exact ⟨Lib.itoa t.kind, _, by simp [grpTok, rowsTok, rowTok]; rfl⟩
theorem grpTok_inj {C : Nat → Nat} {b c : Nat} : ∀ (ts us : List Ty), (∀ i, i < ts.length → TyOk C (tyAt ts i)) → (∀ i, i < us.length → TyOk C (tyAt us i)) →
  grpTok C b ts = grpTok C c us → ts.length = us.length ∧ ∀ i, i < ts.length → TEq C b c (tyAt ts i) (tyAt us i) := by
 intro ts
 induction ts with
 | nil =>
  intro us _ hu e
  cases us with
  | nil => exact ⟨rfl, fun i hi => absurd hi (Nat.not_lt_zero _)⟩
  | cons u us =>
   have := (hu 0 (by simp)).1
   rw [tyAt_cons_zero] at this
   simp [grpTok, rowsTok, rowTok] at e
 | cons t ts ih =>
  intro us ht hu e
  cases us with
  | nil => simp [grpTok, rowsTok, rowTok] at e
  | cons u us =>
   have t0 := ht 0 (by simp)
   have u0 := hu 0 (by simp)
   rw [tyAt_cons_zero] at t0 u0
   have e' : rowTok C b t ++ grpTok C b ts = rowTok C c u ++ grpTok C c us := by simpa [grpTok, rowsTok] using e
   unfold rowTok at e'
   simp only [List.cons_append, List.cons.injEq, Prod.mk.injEq, true_and] at e'
   obtain ⟨k1, k2, k3, k4⟩ := e'
   obtain ⟨⟨f1, f2⟩, f3⟩ := fldsTok_inj t.fields u.fields _ _ t0.2.2 u0.2.2 (grpTok_semi C b ts) (grpTok_semi C c us) k4
   obtain ⟨h1, h2⟩ := ih us (fun i hi => ht (i + 1) (by simpa using hi)) (fun i hi => hu (i + 1) (by simpa using hi)) f3
   have hk := itoa_inj (by have := t0.1; omega) (by have := t0.1; omega) (by have := u0.1; omega) (by have := u0.1; omega) k1
   refine ⟨by simp [h1], fun i hi => ?_⟩
   cases i with
   | zero => exact ⟨hk, boolW_inj k2, k3, f1, f2⟩
   | succ i => rw [tyAt_cons_succ, tyAt_cons_succ]; exact h2 i (by simpa using hi)
theorem grpTok_eq {C : Nat → Nat} {b c : Nat} : ∀ (ts us : List Ty), ts.length = us.length → (∀ i, i < ts.length → TEq C b c (tyAt ts i) (tyAt us i)) → grpTok C b ts = grpTok C c us := by
 intro ts
 induction ts with
 | nil =>
  intro us h _
  cases us with
  | nil => rfl
  | cons u us => simp at h
 | cons t ts ih =>
  intro us h hE
  cases us with
  | nil => simp at h
  | cons u us =>
   have e : ∀ (b : Nat) (t : Ty) (ts : List Ty), grpTok C b (t :: ts) = rowTok C b t ++ grpTok C b ts := fun b t ts => by simp [grpTok, rowsTok]
   rw [e, e, rowTok_eq (s := t) (t := u) (hE 0 (by simp)), ih us (by simpa using h) (fun i hi => hE (i + 1) (by simpa using hi))]
theorem grpTxt_iff {C : Nat → Nat} {b c : Nat} (ts us : List Ty) (ht : ∀ i, i < ts.length → TyOk C (tyAt ts i)) (hu : ∀ i, i < us.length → TyOk C (tyAt us i)) :
  grpTxt C b ts = grpTxt C c us ↔ ts.length = us.length ∧ ∀ i, i < ts.length → TEq C b c (tyAt ts i) (tyAt us i) := by
 constructor
 ·intro e
  refine grpTok_inj ts us ht hu (toks_inj _ _ (grpTok_ok ht) (grpTok_ok hu) ?_)
  rw [← grpTxt_toks, ← grpTxt_toks, e]
 ·rintro ⟨h1, h2⟩
  have := congrArg toksTxt (grpTok_eq (C := C) (b := b) (c := c) ts us h1 h2)
  rw [← grpTxt_toks, ← grpTxt_toks] at this
  simpa using this
def firstFrom (p : Nat → Bool) : Nat → Nat → Nat
 | 0, i => i
 | f + 1, i => if p i then i else firstFrom p f (i + 1)
theorem firstFrom_spec (p : Nat → Bool) : ∀ f i, i ≤ firstFrom p f i ∧ firstFrom p f i ≤ i + f ∧ (firstFrom p f i < i + f → p (firstFrom p f i) = true) ∧ ∀ j, i ≤ j → j < firstFrom p f i → p j = false := by
 intro f
 induction f with
 | zero => intro i; refine ⟨Nat.le_refl _, Nat.le_refl _, fun h => absurd h (Nat.lt_irrefl _), fun j h1 h2 => ?_⟩; simp only [firstFrom] at h2; omega
 | succ f ih =>
  intro i
  unfold firstFrom
  split
  ·rename_i h
   exact ⟨Nat.le_refl _, by omega, fun _ => h, fun j h1 h2 => by omega⟩
  ·rename_i h
   obtain ⟨a, b, c, d⟩ := ih (i + 1)
   refine ⟨by omega, by omega, fun hl => c (by omega), fun j h1 h2 => ?_⟩
   by_cases e : j = i
   ·subst e; simpa using h
   ·exact d j (by omega) h2
def canon (gs : List (List Ty)) (a : Nat) : Nat := firstFrom (fun i => same gs i a) a 0
def txt (gs : List (List Ty)) (x : Nat) : List UInt8 := grpTxt (canon gs) (beg gs x) (grAt gs x)
def lead (gs : List (List Ty)) (x : Nat) : Nat := firstFrom (fun y => decide (txt gs y = txt gs x)) x 0
theorem canon_le (gs : List (List Ty)) (a : Nat) : canon gs a ≤ a := by have := (firstFrom_spec (fun i => same gs i a) a 0).2.1; rw [Nat.zero_add] at this; exact this
theorem lead_le (gs : List (List Ty)) (x : Nat) : lead gs x ≤ x := by have := (firstFrom_spec (fun y => decide (txt gs y = txt gs x)) x 0).2.1; rw [Nat.zero_add] at this; exact this
theorem lead_txt (gs : List (List Ty)) (x : Nat) : txt gs (lead gs x) = txt gs x := by
 have h := (firstFrom_spec (fun y => decide (txt gs y = txt gs x)) x 0).2.2.1
 by_cases e : lead gs x = x
 ·rw [e]
 ·have := lead_le gs x
  exact of_decide_eq_true (h (show lead gs x < 0 + x by omega))
theorem lead_least (gs : List (List Ty)) (x y : Nat) (h : txt gs y = txt gs x) : lead gs x ≤ y := by
 by_cases e : y < lead gs x
 ·have := (firstFrom_spec (fun y => decide (txt gs y = txt gs x)) x 0).2.2.2 y (Nat.zero_le _) e
  simp [h] at this
 ·omega
theorem same_refl (gs : List (List Ty)) (a : Nat) : same gs a a = true := by
 show sameStep _ gs a a = true
 simp [sameStep]
theorem canon_same (gs : List (List Ty)) (a : Nat) : same gs (canon gs a) a = true := by
 have h := (firstFrom_spec (fun i => same gs i a) a 0).2.2.1
 by_cases e : canon gs a = a
 ·rw [e]; exact same_refl gs a
 ·have := canon_le gs a
  exact h (show canon gs a < 0 + a by omega)
theorem canon_least (gs : List (List Ty)) (a j : Nat) (h : j < canon gs a) : same gs j a = false := (firstFrom_spec (fun i => same gs i a) a 0).2.2.2 j (Nat.zero_le _) h
def KeyEq (gs : List (List Ty)) (p q : Nat) : Prop := p - beg gs (grp gs p) = q - beg gs (grp gs q) ∧ txt gs (grp gs p) = txt gs (grp gs q)
theorem canon_key {gs : List (List Ty)} {M : Nat} (hk : ∀ p q, p < M → q < M → (same gs p q = true ↔ KeyEq gs p q)) {a b : Nat} (ha : a < M) (hb : b < M) : canon gs a = canon gs b ↔ KeyEq gs a b := by
 have la := canon_le gs a
 have lb := canon_le gs b
 have ka := (hk _ _ (by omega) ha).1 (canon_same gs a)
 have kb := (hk _ _ (by omega) hb).1 (canon_same gs b)
 constructor
 ·intro e
  rw [e] at ka
  exact ⟨ka.1.symm.trans kb.1, ka.2.symm.trans kb.2⟩
 ·intro h
  have h1 : ¬ canon gs a < canon gs b := fun hl => by
   have := canon_least gs b _ hl
   rw [(hk _ _ (by omega) hb).2 ⟨ka.1.trans h.1, ka.2.trans h.2⟩] at this
   cases this
  have h2 : ¬ canon gs b < canon gs a := fun hl => by
   have := canon_least gs a _ hl
   rw [(hk _ _ (by omega) ha).2 ⟨kb.1.trans h.1.symm, kb.2.trans h.2.symm⟩] at this
   cases this
  omega
theorem canon_small {gs : List (List Ty)} {o : Int} (h1 : -2 ≤ o) (h2 : o < 8) : NameOk (canon gs) o := ⟨h1, h2, fun a ha => by have := canon_le gs a; omega⟩
theorem parts_tyOk {gs : List (List Ty)} (hP : Parts gs) {x : Nat} (hx : x < gs.length) : ∀ i, i < (grAt gs x).length → TyOk (canon gs) (tyAt (grAt gs x) i) := by
 intro i hi
 have h := (hP.2.2 x hx).2 i hi
 have hc : countTo (grAt gs) (x + 1) ≤ kinCount gs := countTo_mono (grAt gs) hx
 have h8 := hP.2.1
 simp only [countTo] at hc
 unfold formOk at h
 simp only [Bool.and_eq_true, Bool.or_eq_true, decide_eq_true_eq] at h
 obtain ⟨⟨⟨a1, a2⟩, a3⟩, a4, a5⟩ := h
 refine ⟨by omega, canon_small (by omega) (by omega), fun j hj => ?_⟩
 have hf := allTo_true a5 j hj
 unfold fieldOk at hf
 split at hf
 ·simp at hf; exact ⟨by omega, canon_small (by omega) (by omega)⟩
 ·split at hf
  ·simp at hf; exact ⟨by omega, canon_small (by omega) (by omega)⟩
  ·simp at hf
theorem matchF_congr2 {S S' : Nat → Nat → Bool} {gs : List (List Ty)} {a b : Int} {x y : Nat} (h : ∀ p q, p < beg gs x → q < beg gs y → S p q = S' p q) : matchF S gs a b x y = matchF S' gs a b x y := by
 unfold matchF
 split
 ·rfl
 ·split
  ·rfl
  ·by_cases c : a < (beg gs x : Int)
   ·by_cases d : b < (beg gs y : Int)
    ·rw [h _ _ (by omega) (by omega)]
    ·simp [d]
   ·simp [c]
theorem allTo_iff {p : Nat → Bool} {n : Nat} : allTo p n = true ↔ ∀ i, i < n → p i = true := ⟨allTo_true, allTo_of⟩
theorem alike_iff {gs : List (List Ty)} {S C x y} {s t : Ty} (hS : ∀ p q, p < beg gs x → q < beg gs y → (S p q = true ↔ C p = C q)) (hs : TyOk C s) (ht : TyOk C t) :
  alikeF S gs s t x y = true ↔ TEq C (beg gs x) (beg gs y) s t := by
 have hm : ∀ a b, matchF S gs a b x y = matchF (fun a b => C a == C b) gs a b x y := fun a b => matchF_congr2 fun p q hp hq => by
  rw [Bool.eq_iff_iff, hS p q hp hq]; simp
 unfold alikeF TEq
 rw [hm]
 simp only [Bool.and_eq_true, beq_iff_eq]
 rw [← nameK_iff hs.2.1 ht.2.1, allTo_iff]
 constructor
 ·rintro ⟨⟨⟨a, b⟩, c⟩, d, e⟩
  refine ⟨a, b, d, c, fun i hi => ?_⟩
  have := e i hi
  unfold fAlike at this
  rw [hm] at this
  simp only [Bool.and_eq_true, Bool.or_eq_true, beq_iff_eq] at this
  rw [← nameK_iff (hs.2.2 i hi).2 (ht.2.2 i (by omega)).2] at this
  exact ⟨this.1.1, this.1.2, this.2⟩
 ·rintro ⟨a, b, d, c, e⟩
  refine ⟨⟨⟨a, b⟩, c⟩, d, fun i hi => ?_⟩
  obtain ⟨f1, f2, f3⟩ := e i hi
  unfold fAlike
  rw [hm]
  simp only [Bool.and_eq_true, Bool.or_eq_true, beq_iff_eq]
  rw [← nameK_iff (hs.2.2 i hi).2 (ht.2.2 i (by omega)).2]
  exact ⟨⟨f1, f2⟩, f3⟩
theorem same_key {gs : List (List Ty)} (hP : Parts gs) : ∀ M, M ≤ gs.length → ∀ p q, p < beg gs M → q < beg gs M → (same gs p q = true ↔ KeyEq gs p q) := by
 intro M
 induction M with
 | zero => intro _ p q hp; exact absurd hp (Nat.not_lt_zero _)
 | succ M ih =>
  intro hM p q hp hq
  have ih' := ih (by omega)
  have hc : beg gs (M + 1) ≤ kinCount gs := beg_le hM
  have gp := grp_spec gs p (by omega)
  have gq := grp_spec gs q (by omega)
  have hpM : grp gs p ≤ M := by
   by_cases h : M + 1 ≤ grp gs p
   ·have := countTo_mono (grAt gs) h; unfold beg at hp; omega
   ·omega
  have hqM : grp gs q ≤ M := by
   by_cases h : M + 1 ≤ grp gs q
   ·have := countTo_mono (grAt gs) h; unfold beg at hq; omega
   ·omega
  rw [same_step gs p q (by omega)]
  unfold sameStep
  by_cases e : p = q
  ·subst e; simp [KeyEq]
  rw [if_neg e]
  have tx := grpTxt_iff (C := canon gs) (b := beg gs (grp gs p)) (c := beg gs (grp gs q)) (grAt gs (grp gs p)) (grAt gs (grp gs q)) (parts_tyOk hP gp.1) (parts_tyOk hP gq.1)
  have hS : ∀ a b, a < beg gs (grp gs p) → b < beg gs (grp gs q) → (same gs a b = true ↔ canon gs a = canon gs b) := fun a b ha hb => by
   have m1 : beg gs (grp gs p) ≤ beg gs M := countTo_mono (grAt gs) hpM
   have m2 : beg gs (grp gs q) ≤ beg gs M := countTo_mono (grAt gs) hqM
   rw [canon_key (M := beg gs M) ih' (by omega) (by omega)]
   exact ih' a b (by omega) (by omega)
  constructor
  ·intro h
   split at h
   ·cases h
   ·rename_i hn
    have hn2 : p - beg gs (grp gs p) = q - beg gs (grp gs q) := Classical.byContradiction fun hh => hn (.inr (.inl hh))
    have hn3 : (grAt gs (grp gs p)).length = (grAt gs (grp gs q)).length := Classical.byContradiction fun hh => hn (.inr (.inr hh))
    refine ⟨hn2, tx.2 ⟨hn3, fun i hi => ?_⟩⟩
    exact (alike_iff hS (parts_tyOk hP gp.1 i hi) (parts_tyOk hP gq.1 i (by omega))).1 (allTo_true h i hi)
  ·rintro ⟨h1, h2⟩
   obtain ⟨h3, h4⟩ := tx.1 h2
   have hne : grp gs p ≠ grp gs q := fun hh => e (by
    rw [hh] at h1 gp
    unfold beg at h1
    omega)
   rw [if_neg (by rintro (h | h | h); exact hne h; exact h h1; exact h h3)]
   exact allTo_of fun i hi => (alike_iff hS (parts_tyOk hP gp.1 i hi) (parts_tyOk hP gq.1 i (by omega))).2 (h4 i hi)
theorem same_canon {gs : List (List Ty)} (hP : Parts gs) {p q : Nat} (hp : p < kinCount gs) (hq : q < kinCount gs) : same gs p q = decide (canon gs p = canon gs q) := by
 rw [Bool.eq_iff_iff, same_key hP gs.length (Nat.le_refl _) p q hp hq, decide_eq_true_eq]
 exact (canon_key (M := beg gs gs.length) (same_key hP gs.length (Nat.le_refl _)) hp hq).symm
theorem grp_at {gs : List (List Ty)} {x i : Nat} (hx : x < gs.length) (hi : i < (grAt gs x).length) : beg gs x + i < kinCount gs ∧ grp gs (beg gs x + i) = x := by
 have hc : countTo (grAt gs) (x + 1) ≤ kinCount gs := countTo_mono (grAt gs) hx
 have h1 : countTo (grAt gs) (x + 1) = countTo (grAt gs) x + (grAt gs x).length := rfl
 have hl : beg gs x + i < kinCount gs := by unfold beg; omega
 have := grp_spec gs _ hl
 exact ⟨hl, grp_uniq this.2.1 this.2.2 (by unfold beg; omega) (by unfold beg; omega)⟩
theorem lead_len {gs : List (List Ty)} (hP : Parts gs) {x : Nat} (hx : x < gs.length) : (grAt gs (lead gs x)).length = (grAt gs x).length := by
 have h := lead_le gs x
 exact ((grpTxt_iff (C := canon gs) (b := beg gs (lead gs x)) (c := beg gs x) (grAt gs (lead gs x)) (grAt gs x) (parts_tyOk hP (by omega)) (parts_tyOk hP hx)).1 (lead_txt gs x)).1
theorem canon_at {gs : List (List Ty)} (hP : Parts gs) {x i : Nat} (hx : x < gs.length) (hi : i < (grAt gs x).length) : canon gs (beg gs x + i) = beg gs (lead gs x) + i := by
 have hl := lead_le gs x
 obtain ⟨p1, p2⟩ := grp_at hx hi
 obtain ⟨q1, q2⟩ := grp_at (gs := gs) (x := lead gs x) (i := i) (by omega) (by rw [lead_len hP hx]; exact hi)
 have sk := same_key hP gs.length (Nat.le_refl _)
 have hqp : same gs (beg gs (lead gs x) + i) (beg gs x + i) = true := by
  refine (sk _ _ q1 p1).2 ⟨?_, ?_⟩
  ·rw [p2, q2]; omega
  ·rw [p2, q2]; exact lead_txt gs x
 have h1 : ¬ beg gs (lead gs x) + i < canon gs (beg gs x + i) := fun h => by
  have := canon_least gs _ _ h
  rw [hqp] at this; cases this
 have hcl := canon_le gs (beg gs x + i)
 have hc : canon gs (beg gs x + i) < kinCount gs := by omega
 obtain ⟨k1, k2⟩ := (sk _ _ (show _ < beg gs gs.length from hc) p1).1 (canon_same gs (beg gs x + i))
 rw [p2] at k1 k2
 have hj := grp_spec gs _ hc
 have h2 := lead_least gs x _ k2
 have h3 : beg gs (lead gs x) ≤ beg gs (grp gs (canon gs (beg gs x + i))) := countTo_mono (grAt gs) h2
 have h4 : beg gs (grp gs (canon gs (beg gs x + i))) ≤ canon gs (beg gs x + i) := hj.2.1
 omega
end Go.Proofs.YtembifoimiochaaGreatDoor
