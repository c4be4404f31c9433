/- What stands in a thing: thingFields of the program's table. -/
import Derived.Test.YtembifoimiochaaGreatDoorHpI1
import Derived.Test.YtembifoimiochaaGreatDoorHpQ2
import Derived.Test.YtembifoimiochaaGreatDoorPaKinC
import Derived.BigQuiet
namespace Go.Proofs.YtembifoimiochaaGreatDoor
open Go.ChangeShapes Go.WideShapes Go.ChangeAt Go.RowKit Go.Deep
set_option linter.unusedVariables false
set_option linter.unusedSimpArgs false

/-- There can be a thing of that type with so many values. -/
def fldOk (gs : List (List Ty)) (t : Int) (n : Nat) : Bool := isTypeF gs t && (if (tyN gs t.toNat).kind = 1 then decide (n = (tyN gs t.toNat).fields.length) else decide (n ≤ 6))
theorem fldOk_len {gs : List (List Ty)} (hP : Parts gs) {head : Int} (h0 : 0 ≤ head) : fldOk gs (head / 16) (head % 16).toNat = decide (0 ≤ lenF gs head) := by
 unfold fldOk isTypeF lenF
 by_cases h1 : head / 16 < (kinCount gs : Int)
 ·have hp : (head / 16).toNat < kinCount gs := by omega
  have hf := (parts_flat hP hp).1
  have hk := kind_of_parts hP hp
  rw [decide_eq_true h1, decide_eq_true (show 0 ≤ head / 16 by omega), if_neg (show ¬ (head < 0 ∨ (kinCount gs : Int) ≤ head / 16) by omega)]
  generalize tyN gs (head / 16).toNat = t at *
  by_cases hk1 : t.kind = 1
  ·rw [if_pos hk1]
   by_cases e : (head % 16).toNat = t.fields.length
   ·rw [if_neg (show ¬ ((t.kind = 1 ∧ head % 16 ≠ (t.fields.length : Int)) ∨ 6 < head % 16) by omega)]; simp [e]; omega
   ·rw [if_pos (show (t.kind = 1 ∧ head % 16 ≠ (t.fields.length : Int)) ∨ 6 < head % 16 by omega)]; simp [e]
  ·rw [if_neg hk1]
   by_cases e : (head % 16).toNat ≤ 6
   ·rw [if_neg (show ¬ ((t.kind = 1 ∧ head % 16 ≠ (t.fields.length : Int)) ∨ 6 < head % 16) by omega)]; simp [e]; omega
   ·rw [if_pos (show (t.kind = 1 ∧ head % 16 ≠ (t.fields.length : Int)) ∨ 6 < head % 16 by omega)]; simp [e]
 ·rw [if_pos (show head < 0 ∨ (kinCount gs : Int) ≤ head / 16 by omega), decide_eq_false h1]; simp
/-- Fields that lie in the table, or in new memory. -/
def FldIn (w : World) (lo hi S : Nat) (a : Option Addr) (fs : List Fd) : Prop := FieldsIn w lo hi a fs ∨ FieldsIn w S w.heap.size a fs

theorem tabRow {w : World} {lo hi : Nat} {ra : Option Addr} {cb co : Nat} {gs : List (List Ty)} (hT : TabIn w lo hi ra cb co gs) {p : Nat} (hp : p < kinCount gs) :
 ∃ rb ro fa fc, ra = some ⟨rb, ro, none⟩ ∧ rb < hi ∧ w.cell? ⟨rb, ro + p * 6, none⟩ = some (.int .i64 (tyN gs p).kind) ∧ w.cell? ⟨rb, ro + p * 6 + 1, none⟩ = some (.int .i64 (tyN gs p).up) ∧ w.cell? ⟨rb, ro + p * 6 + 2, none⟩ = some (.bool (tyN gs p).last) ∧ w.cell? ⟨rb, ro + p * 6 + 3, none⟩ = some (.slice fa (tyN gs p).fields.length fc) ∧ FieldsIn w lo hi fa (tyN gs p).fields := by
 obtain ⟨h1, _, _⟩ := hT
 have hl := rowsOf_length gs
 rcases h1 with h0 | ⟨b, off, rfl, q1, q2, q3⟩
 ·rw [h0] at hl; simp at hl; omega
 obtain ⟨⟨c0, c1, c2, fa, fc, c3, hf⟩, _⟩ := q3 p (by omega)
 rw [rows_ty gs hp] at c0 c1 c2 c3 hf
 exact ⟨b, off, fa, fc, rfl, q2, c0, c1, c2, c3, hf⟩

def FldPost (gs : List (List Ty)) (t : Int) (n lo hi : Nat) (w : World) (e : Ending) (w' : World) : Prop :=
 (∃ a k c, e = .returned (.tuple #[.slice a k c, .bool (fldOk gs t n)]) ∧ (fldOk gs t n = true → k = n ∧ FldIn w' lo hi w.heap.size a (fieldsT (tyN gs t.toNat) n))) ∧ Below w.heap.size w w'

set_option maxHeartbeats 3200000 in
theorem thingFields_any (ra : Option Addr) (rc cb co cc lo hi : Nat) (gs : List (List Ty)) (t : Int) (n : Nat) (w : World) (hn : n ≤ 15) (hP : Parts gs) (hT : TabIn w lo hi ra cb co gs) (hh : hi ≤ w.heap.size) :
 Calls Tryz.prog 114 #[.agg #[.slice ra (kinCount gs) rc, .slice (some ⟨cb, co, none⟩) (kinCount gs) cc], .int .i64 t, .int .i64 (n : Int)] w fun e w' => FldPost gs t n lo hi w e w' := by
 have hN := hP.2.1
 have B1 := hide (two_b w (.cells #[.slice ra (kinCount gs) rc, .slice (some ⟨cb, co, none⟩) (kinCount gs) cc] 93))
 have R1 := hide (Rec.new w 93 [.slice ra (kinCount gs) rc, .slice (some ⟨cb, co, none⟩) (kinCount gs) cc])
 cases hit : isTypeF gs t with
 | false =>
  have HF : Hid (fldOk gs t n = false) := by show _ = _; unfold fldOk; rw [hit]; rfl
  clear hP hT
  go_enter Tryz.func114, Tryz.ntmps114
  go_wp2_with fail
  refine (isType_any ra (some ⟨cb, co, none⟩) rc cc gs t _ (by omega)).mono ?_
  rintro e w2 ⟨rfl, b2⟩
  have B2 := hide (B1.out.trans (b2.mono B1.out.size))
  clear b2 B1 R1
  go_wp2_with fail
  have hq : FldPost gs t n lo hi w (.returned (.tuple #[.slice none 0 0, .bool false])) w2 := ⟨⟨none, 0, 0, by rw [HF.out], fun e => by rw [HF.out] at e; cases e⟩, B2.out⟩
  exact bodyPost_ret (results_tmp2 (t := 6) (u := 7) rfl _ _ _) rfl hq
 | true =>
  have ht := hit
  unfold isTypeF at ht
  simp only [Bool.and_eq_true, decide_eq_true_eq] at ht
  obtain ⟨p, rfl⟩ := Int.eq_ofNat_of_zero_le ht.1
  have hp : p < kinCount gs := by omega
  obtain ⟨rb, ro, fa, fc, rfl, hrb, c0, c1, c2, c3, hf⟩ := tabRow hT hp
  have hfl := (parts_flat hP hp).1
  have hk := kind_of_parts hP hp
  have HF : Hid (fldOk gs (p : Int) n = (if (tyN gs p).kind = 1 then decide (n = (tyN gs p).fields.length) else decide (n ≤ 6))) := by show _ = _; unfold fldOk; rw [hit]; rfl
  have HP : Hid (∀ a k c w', (fldOk gs (p : Int) n = true → k = n ∧ FldIn w' lo hi w.heap.size a (fieldsT (tyN gs p) n)) → Below w.heap.size w w' → FldPost gs (p : Int) n lo hi w (.returned (.tuple #[.slice a k c, .bool (fldOk gs (p : Int) n)])) w') := fun a k c w' h1 h2 => ⟨⟨a, k, c, rfl, h1⟩, h2⟩
  have HIT := hide (fun W => isType_any (some ⟨rb, ro, none⟩) (some ⟨cb, co, none⟩) rc cc gs (p : Int) W (by omega))
  rw [hit] at HIT
  have hrw : rb < w.heap.size := by omega
  have g1 : (0 : Int) ≤ (p : Int) := by omega
  have g2 : (p : Int) < (kinCount gs : Int) := by omega
  have HFI := hide hf
  clear hP hT hf hit ht
  generalize fldOk gs (p : Int) n = ok at *
  have HFT : Hid (fieldsT (tyN gs p) n = if (tyN gs p).kind = 2 then List.replicate n (fdAt (tyN gs p).fields 0) else (tyN gs p).fields) := rfl
  generalize fieldsT (tyN gs p) n = FS at *
  generalize tyN gs p = T at *
  obtain ⟨kd, up, ls, fs⟩ := T
  simp only at c0 c1 c2 c3 hfl hk HF HFT HFI
  have C0 := hide c0
  have C1 := hide c1
  have C2 := hide c2
  have C3 := hide c3
  clear c0 c1 c2 c3
  go_enter Tryz.func114, Tryz.ntmps114
  go_wp2_with fail
  refine (HIT.out _).mono ?_
  rintro e w2 ⟨rfl, b2⟩
  have B2 := hide (B1.out.trans (b2.mono B1.out.size))
  have R2 := hide (R1.out.below b2 R1.out.lt)
  clear b2 B1 R1 HIT
  have c0 := (B2.out.cell (p := ⟨rb, ro + p * 6, none⟩) hrw).trans C0.out
  have c1 := (B2.out.cell (p := ⟨rb, ro + p * 6 + 1, none⟩) hrw).trans C1.out
  have c2 := (B2.out.cell (p := ⟨rb, ro + p * 6 + 2, none⟩) hrw).trans C2.out
  have c3 := (B2.out.cell (p := ⟨rb, ro + p * 6 + 3, none⟩) hrw).trans C3.out
  have k0 := R2.out.cell (o := 0) rfl
  have hs2 := B2.out.size
  have hrb2 : rb < w2.heap.size := by omega
  clear C0 C1 C2 C3
  have B3 := hide (B2.out.trans ((two_b w2 (.cells #[.int .i64 kd, .int .i64 up, .bool ls, .slice fa fs.length fc] 76)).mono hs2))
  rcases hk with rfl | ⟨rfl, hl1⟩
  ·have he : Hid (ok = decide (n = fs.length)) := by show _ = _; rw [HF.out]; rfl
   have hFS : Hid (FS = fs) := by show _ = _; rw [HFT.out]; rfl
   clear HF HFT
   go_wp2_with fail
   go_quiet (fail)
   all_goals go_wp2_with fail
   have eb : ((n : Int) == (fs.length : Int)) = ok := by rw [he.out, Bool.eq_iff_iff, beq_iff_eq, decide_eq_true_eq]; omega
   have BW := hide (below_drewN B3.out nq)
   have hq : FldPost gs (p : Int) n lo hi w (.returned (.tuple #[.slice fa fs.length fc, .bool ((n : Int) == (fs.length : Int))])) ((w2.alloc (.cells #[.int .i64 1, .int .i64 up, .bool ls, .slice fa fs.length fc] 76)).drewN nq) := by
    rw [eb]
    refine HP.out fa fs.length fc _ (fun h => ?_) BW.out
    rw [he.out] at h
    rw [hFS.out]
    exact ⟨(of_decide_eq_true h).symm, .inl (HFI.out.keep (BW.out.mono hh))⟩
   exact bodyPost_ret (results_tmp2 (t := 6) (u := 7) rfl _ _ _) rfl hq
  ·have he : Hid (ok = decide (n ≤ 6)) := by show _ = _; rw [HF.out]; rfl
   have hFS : Hid (FS = List.replicate n (fdAt fs 0)) := by show _ = _; rw [HFT.out]; rfl
   clear HF HFT
   rw [hl1] at c3 B3
   by_cases h6 : n ≤ 6
   ·have g6 : ¬ (6 : Int) < (n : Int) := by omega
    obtain ⟨fb, fo, rfl, b1, b2, hfa⟩ : ∃ fb fo, fa = some ⟨fb, fo, none⟩ ∧ lo ≤ fb ∧ fb < hi ∧ FieldAt w fb fo (fdAt fs 0) := by
     rcases HFI.out with h0 | ⟨b, off, e, h1, h2, h3⟩
     ·rw [h0] at hl1; cases hl1
     ·exact ⟨b, off, e, h1, h2, h3 0 (by omega)⟩
    have fbw : fb < w.heap.size := by omega
    have CF := hide (fun (W : World) (hb : Below w.heap.size w W) => repeat_any fb fo fc (fdAt fs 0) n h6 W (Nat.lt_of_lt_of_le fbw hb.size) ⟨(hb.cell (p := ⟨fb, fo, none⟩) fbw).trans hfa.1, (hb.cell (p := ⟨fb, fo + 1, none⟩) fbw).trans hfa.2.1, (hb.cell (p := ⟨fb, fo + 2, none⟩) fbw).trans hfa.2.2⟩)
    clear hfa HFI
    generalize fdAt fs 0 = f0 at *
    go_wp2_with fail
    refine (CF.out _ B3.out).mono ?_
    rintro e w4 ⟨rfl, hF4, b4⟩
    have s3 := B3.out.size
    have hq : FldPost gs (p : Int) n lo hi w (.returned (.tuple #[.slice (some ⟨w2.heap.size + 1, 0, none⟩) n n, .bool true])) w4 := by
     have e : ok = true := by rw [he.out]; exact decide_eq_true h6
     have := HP.out (some ⟨w2.heap.size + 1, 0, none⟩) n n w4 (fun _ => ⟨rfl, .inr (by rw [hFS.out]; simp only [World.size_alloc] at hF4; exact hF4.wide (by omega) (Nat.le_refl _))⟩) (B3.out.trans (b4.mono s3))
     rw [e] at this
     exact this
    have HQ := hide hq
    clear hF4 b4 hq
    go_wp2_with fail
    exact bodyPost_ret (results_tmp2 (t := 6) (u := 7) rfl _ _ _) rfl HQ.out
   ·have g6 : (6 : Int) < (n : Int) := by omega
    have hq : ∀ W, Below w.heap.size w W → FldPost gs (p : Int) n lo hi w (.returned (.tuple #[.slice none 0 0, .bool false])) W := fun W hb => by
     have e : ok = false := by rw [he.out]; exact decide_eq_false h6
     have := HP.out none 0 0 W (fun h => by rw [e] at h; cases h) hb
     rw [e] at this
     exact this
    have HQ := hide (hq _ B3.out)
    clear hq
    go_wp2_with fail
    exact bodyPost_ret (results_tmp2 (t := 6) (u := 7) rfl _ _ _) rfl HQ.out
end Go.Proofs.YtembifoimiochaaGreatDoor
