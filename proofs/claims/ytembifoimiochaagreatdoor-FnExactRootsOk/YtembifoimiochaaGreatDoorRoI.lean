/- rootsSpaceOf and impl.RootsOk. -/
import Derived.Test.YtembifoimiochaaGreatDoorRoM
import Derived.Test.YtembifoimiochaaGreatDoorHpV13
namespace Go.Proofs.YtembifoimiochaaGreatDoor
open Go.ChangeShapes Go.WideShapes Go.ChangeAt Go.RowKit Go.Shelf Go.Deep
set_option linter.unusedVariables false
set_option linter.unusedSimpArgs false

theorem vals_atI {md : Bool} {w : World} {lo hi : Nat} {a : Option Addr} {xs : List GVal} (h : ValsM md w lo hi a xs) {i : Nat} (hi' : i < xs.length) : ∃ b off, a = some ⟨b, off, none⟩ ∧ lo ≤ b ∧ b < hi ∧ w.cell? ⟨b, off + i * 2, none⟩ = some (.int .i64 (valAt' xs i).kind) ∧ w.cell? ⟨b, off + i * 2 + 1, none⟩ = some (.int .i64 (valAt' xs i).n) := by
 rcases h with h0 | ⟨b, off, e, h1, h2, _, h3⟩
 ·rw [h0] at hi'; exact absurd hi' (Nat.not_lt_zero _)
 ·obtain ⟨e0, e1⟩ := h3 i hi'
  exact ⟨b, off, e, h1, h2, e0, e1⟩

set_option maxRecDepth 100000 in
set_option maxHeartbeats 8000000 in
theorem rootsSpaceOf_any (ga ra : Option Addr) (gc rc lo hi lo4 hi4 : Nat) (gs : List (List Ty)) (h : GHeap) (rs : List GVal) (wa la : Option Addr) (wc lc hi' : Nat) (w : World) (hN : Few gs) (hl : lo ≤ hi) (hh : hi ≤ w.heap.size) (hx : GroupsIn w lo hi ga gs) (hp : pow10 w) (hW : HIn w 0 hi' h wa la wc lc) (hh' : hi' ≤ w.heap.size) (hr : ValsM true w lo4 hi4 ra rs) (hh4 : hi4 ≤ w.heap.size) (hrl : rs.length ≤ 1048576) :
 Calls Tryz.prog 22 #[.slice ga gs.length gc, heapV h wa la wc lc, .slice ra rs.length rc] w fun e w' => Below w.heap.size w w' ∧ ((rootsOkF gs h rs = false ∧ e = .returned (.tuple #[.pointer none, .bool false])) ∨ (rootsOkF gs h rs = true ∧ ∃ sb : Nat, e = .returned (.tuple #[.pointer (some ⟨sb, 0, none⟩), .bool true]))) := by
 obtain ⟨w1, hw1⟩ : ∃ w1, w1 = w.alloc (.cells #[.slice wa h.words.length wc, .int .i64 h.old, .int .i64 h.oldAt, .int .i64 h.youngAt, .slice la h.log.length lc] 33) := ⟨_, rfl⟩
 have B1 : Hid (Below w.heap.size w w1) := by show Below _ _ _; rw [hw1]; exact two_b _ _
 have HC := hide (heapSpaceOf_any ga gc lo hi gs h wa la wc lc hi' w1 hN hl (Nat.le_trans hh B1.out.size) (hx.keep (B1.out.mono hh)) (pow10_keep hp B1.out) (hW.keep (B1.out.mono hh')) (Nat.le_trans hh' B1.out.size))
 have HWB : Hid (∀ i, -9223372036854775808 ≤ nAt h.words i ∧ nAt h.words i ≤ 9223372036854775807) := hW.wb
 have HRV := hide (fun (W : World) (hb : Below w.heap.size w W) => hr.same (lo' := lo4) (hi' := hi4) (fun k _ h2 => hb.block k (Nat.lt_of_lt_of_le h2 hh4)) (Nat.le_refl _) (Nat.le_refl _))
 have HRO : Hid (rootsOkF gs h rs = (heapOkF gs h && allTo (fun i => rootF gs h (startsF gs h) (valAt' rs i)) rs.length)) := rfl
 generalize hROK : rootsOkF gs h rs = RK at HRO ⊢
 clear hROK
 unfold heapV at HC ⊢
 clear hx hp hN hW hr
 subst hw1
 go_enter Tryz.func22, Tryz.ntmps22
 go_wp2_with fail
 refine HC.out.mono ?_
 rintro e w2 ⟨b2, ⟨hf, rfl⟩ | ⟨hf, sb, S, lo', hi2, tra, trc, cb, cc, rfl, hsb, hsps, _⟩⟩
 ·have B2 := hide (B1.out.trans (b2.mono B1.out.size))
  have HF : Hid (RK = false) := by show _ = _; rw [HRO.out, hf]; rfl
  clear b2 hf HC
  go_wp2_with fail
  refine bodyPost_ret (v := .tuple #[.pointer none, .bool false]) (by simp [results, Tryz.results22, go_sem]) rfl ⟨B2.out, .inl ⟨HF.out, rfl⟩⟩
 have B2 := hide (B1.out.trans (b2.mono B1.out.size))
 have HO : HOk gs h := by
  have h1 : kinOkF gs = true ∧ sizeF h = true := by
   unfold heapOkF at hf
   simp only [Bool.and_eq_true] at hf
   exact ⟨hf.1.1, hf.1.2.1⟩
  exact ⟨kinOk_parts h1.1, (sizeF_iff h).1 h1.2, HWB.out⟩
 have HFT := hide (fun (k n fk fo : Int) (fm : Bool) (W : World) (hb : Below w2.heap.size w2 W) => spFits_any lo' hi2 sb tra trc cb 0 cc gs h HO k n fk fo fm W (hsps.keep hb))
 have HRT := hide (fun (k n : Int) => root_fits (gs := gs) (h := h) (S := startsF gs h) (starts_ok HO.sz) k n)
 rw [hf, Bool.true_and] at HRO
 obtain ⟨F, hF⟩ : ∃ F : Nat → Bool, F = fun i => rootF gs h (startsF gs h) (valAt' rs i) := ⟨_, rfl⟩
 have HFj : Hid (∀ j, F j = rootF gs h (startsF gs h) (valAt' rs j)) := fun j => by rw [hF]
 rw [← hF] at HRO
 clear hF b2 hf HC hsps HO HWB B1
 go_wp2_with fail
 go_loopw [22] (fun i wr => ∃ j : Nat, j ≤ rs.length ∧ i = .int .i64 (j : Int) ∧ Hid (allTo F j = true) ∧ Hid (Below w2.heap.size w2 wr)) (fun i wr => rs.length - (intOf i).toNat)
 case atStart => exact ⟨0, Nat.zero_le _, rfl, rfl, Below.refl _ _⟩
 case round =>
  obtain ⟨j, hj, rfl, HA, HB⟩ := hrel
  have Br := hide (B2.out.trans (HB.out.mono B2.out.size))
  by_cases hlt : j < rs.length
  ·obtain ⟨vb, off, rfl, v1, v2, cv0, cv1⟩ := vals_atI (HRV.out wr Br.out) hlt
   have hvb : vb < wr.heap.size := by have := Br.out.size; omega
   have HEj := hide (HFj.out j)
   have HYN : Hid (F j = true → allTo F (j + 1) = true) := fun e => by show (allTo F j && F j) = true; rw [HA.out, e]; rfl
   have HNO : Hid (F j = false → allTo F rs.length = false) := fun e => allTo_false hlt e
   have q0 : (0 : Int) ≤ (j : Int) := by omega
   have q1 : (j : Int) < (rs.length : Int) := by omega
   generalize valAt' rs j = v at *
   obtain ⟨k, n⟩ := v
   simp only at cv0 cv1
   rw [← HRT.out] at HEj
   have b3 := two_b wr (.cells #[.int .i64 k, .int .i64 n] 49)
   have HB3 := hide (HB.out.trans (b3.mono HB.out.size))
   have HF1 := hide (fun (W : World) (hb : Below w2.heap.size w2 W) => HFT.out k n 1 0 false W hb)
   have HF2 := hide (fun (W : World) (hb : Below w2.heap.size w2 W) => HFT.out k n 2 (-1) false W hb)
   have RV := hide (Rec.new wr 49 [.int .i64 k, .int .i64 n])
   obtain ⟨r1, hr1⟩ : ∃ r, r = fitsV gs (stL h (startsF gs h)) k n ⟨1, 0, false⟩ := ⟨_, rfl⟩
   obtain ⟨r2, hr2⟩ : ∃ r, r = fitsV gs (stL h (startsF gs h)) k n ⟨2, -1, false⟩ := ⟨_, rfl⟩
   rw [← hr1] at HF1 HEj
   rw [← hr2] at HF2 HEj
   clear hr1 hr2 HFT HRT HFj HA b3
   have hsz2 := B2.out.size
   go_wp2_with fail
   refine (HF1.out _ HB3.out).mono ?_
   rintro e w4 ⟨rfl, b4⟩
   have HB4 := hide (HB3.out.trans (b4.mono HB3.out.size))
   have RV4 := hide (RV.out.below b4 RV.out.lt)
   have c0 := RV4.out.cell (o := 0) rfl
   have c1 := RV4.out.cell (o := 1) rfl
   clear b4 RV HF1 cv0 cv1
   cases r1 with
   | true =>
    have HY := hide (HYN.out (by rw [HEj.out]; rfl))
    clear HYN HNO HEj
    go_wp2_with fail
    exact ⟨⟨j + 1, by omega, by go_num, HY, HB4⟩, by simp [intOf]; omega⟩
   | false =>
    go_wp2_with fail
    refine (HF2.out _ HB4.out).mono ?_
    rintro e w5 ⟨rfl, b5⟩
    have HB5 := hide (HB4.out.trans (b5.mono HB4.out.size))
    have B5 := hide (B2.out.trans (HB5.out.mono hsz2))
    clear b5 HF2 c0 c1 RV4
    cases r2 with
    | true =>
     have HY := hide (HYN.out (by rw [HEj.out]; rfl))
     clear HYN HNO HEj
     go_wp2_with fail
     exact ⟨⟨j + 1, by omega, by go_num, HY, HB5⟩, by simp [intOf]; omega⟩
    | false =>
     have HF : Hid (RK = false) := by show _ = _; rw [HRO.out]; exact HNO.out (by rw [HEj.out]; rfl)
     clear HYN HNO HEj
     go_wp2_with fail
     refine bodyPost_ret (v := .tuple #[.pointer none, .bool false]) (by simp [results, Tryz.results22, go_sem]) rfl ⟨B5.out, .inl ⟨HF.out, rfl⟩⟩
  ·have hq : ¬ (j : Int) < (rs.length : Int) := by omega
   have HF : Hid (RK = true) := by show _ = _; rw [HRO.out, ← show j = rs.length by omega]; exact HA.out
   go_wp2_with fail
   refine bodyPost_ret (v := .tuple #[.pointer (some ⟨sb, 0, none⟩), .bool true]) (by simp [results, Tryz.results22, go_sem]) rfl ⟨Br.out, .inr ⟨HF.out, sb, rfl⟩⟩

set_option maxRecDepth 100000 in
theorem implRootsOk_any (ga ra : Option Addr) (gc rc lo hi lo4 hi4 : Nat) (gs : List (List Ty)) (h : GHeap) (rs : List GVal) (wa la : Option Addr) (wc lc hi' : Nat) (w : World) (hN : Few gs) (hl : lo ≤ hi) (hh : hi ≤ w.heap.size) (hx : GroupsIn w lo hi ga gs) (hp : pow10 w) (hW : HIn w 0 hi' h wa la wc lc) (hh' : hi' ≤ w.heap.size) (hr : ValsM true w lo4 hi4 ra rs) (hh4 : hi4 ≤ w.heap.size) (hrl : rs.length ≤ 1048576) :
 Calls Tryz.prog 11 #[.slice ga gs.length gc, heapV h wa la wc lc, .slice ra rs.length rc] w fun e w' => e = .returned (.bool (rootsOkF gs h rs)) ∧ Below w.heap.size w w' := by
 obtain ⟨w1, hw1⟩ : ∃ w1, w1 = w.alloc (.cells #[.slice wa h.words.length wc, .int .i64 h.old, .int .i64 h.oldAt, .int .i64 h.youngAt, .slice la h.log.length lc] 33) := ⟨_, rfl⟩
 have B1 : Hid (Below w.heap.size w w1) := by show Below _ _ _; rw [hw1]; exact two_b _ _
 have HC := hide (rootsSpaceOf_any ga ra gc rc lo hi lo4 hi4 gs h rs wa la wc lc hi' w1 hN hl (Nat.le_trans hh B1.out.size) (hx.keep (B1.out.mono hh)) (pow10_keep hp B1.out) (hW.keep (B1.out.mono hh')) (Nat.le_trans hh' B1.out.size) (hr.same (lo' := lo4) (hi' := hi4) (fun k _ h2 => B1.out.block k (Nat.lt_of_lt_of_le h2 hh4)) (Nat.le_refl _) (Nat.le_refl _)) (Nat.le_trans hh4 B1.out.size) hrl)
 unfold heapV at HC ⊢
 clear hx hp hN hW hr
 subst hw1
 go_enter Tryz.func11, Tryz.ntmps11
 go_wp2_with fail
 refine HC.out.mono ?_
 rintro e w2 ⟨b2, ⟨hf, rfl⟩ | ⟨hf, sb, rfl⟩⟩
 ·have B2 := hide (B1.out.trans (b2.mono B1.out.size))
  have HF := hide hf
  clear b2 hf
  go_wp2_with fail
  go_ret
  exact ⟨ret_bool HF.out.symm, B2.out⟩
 ·have B2 := hide (B1.out.trans (b2.mono B1.out.size))
  have HF := hide hf
  clear b2 hf
  go_wp2_with fail
  go_ret
  exact ⟨ret_bool HF.out.symm, B2.out⟩
end Go.Proofs.YtembifoimiochaaGreatDoor
