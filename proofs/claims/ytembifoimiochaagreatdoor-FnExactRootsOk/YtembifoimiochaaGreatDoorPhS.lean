/- PhS: HpS5, HpS6, HpS7, HpS8, HpS9. -/
import Derived.Test.YtembifoimiochaaGreatDoorHpS4
import Derived.Test.YtembifoimiochaaGreatDoorPhWord
import Derived.Test.YtembifoimiochaaGreatDoorHpQ2
import Derived.Test.YtembifoimiochaaGreatDoorPaSpecB
import Derived.Test.YtembifoimiochaaGreatDoorPaOne
namespace Go.Proofs.YtembifoimiochaaGreatDoor
open Go.ChangeShapes Go.WideShapes Go.ChangeAt Go.RowKit Go.Deep
set_option linter.unusedVariables false
set_option linter.unusedSimpArgs false
theorem one_b (w : World) (o : Obj) : Below w.heap.size w (w.alloc o) := (Below.refl _ _).alloc (Nat.le_refl _) _
def fdV (f : Fd) : Value := .agg #[.int .i64 f.kind, .int .i64 f.of, .bool f.mt]
def tyV (t : Ty) (fa : Option Addr) (fc : Nat) : Value := .agg #[.int .i64 t.kind, .int .i64 t.up, .bool t.last, .slice fa t.fields.length fc]
theorem tyField_any (gs : List (List Ty)) (hP : Parts gs) (head : Int) (h0 : 0 ≤ lenF gs head) (i t : Nat) (hi : i < (head % 16).toNat) (ht : head / 16 = (t : Int)) (fa : Option Addr) (fc lo hi' : Nat) (w : World) (hx : FieldsIn w lo hi' fa (tyN gs t).fields) (hh : hi' ≤ w.heap.size) :
 Calls Tryz.prog 47 #[tyV (tyN gs t) fa fc, .int .i64 (i : Int)] w fun e w' => e = .returned (fdV (fieldF (tyN gs t) i)) ∧ Below w.heap.size w w' := by
 obtain ⟨e1, e2, e3, e4, e5⟩ := lenF_pos h0
 have htk : t < kinCount gs := by omega
 rw [ht, Int.toNat_natCast] at e4
 have hk := kind_of_parts hP htk
 refine l7Field_any (tyN gs t).kind (tyN gs t).up (tyN gs t).last fa fc lo hi' (tyN gs t).fields i w hx hh ⟨fun h2 => ?_, fun h2 => ?_⟩ ?_
 ·rcases hk with h | ⟨_, h⟩
  ·omega
  ·omega
 ·rcases hk with h | ⟨h, _⟩
  ·have := e4 h; omega
  ·exact absurd h h2
 ·have := (parts_flat hP htk).1; omega
theorem field_of {k o n : Int} (h : fieldOk k o n = true) : ¬ k = 1 → -2 ≤ o ∧ o < n ∨ n ≤ 0 := by
 intro h1
 unfold fieldOk at h
 rw [if_neg h1] at h
 split at h
 ·simp at h; omega
 ·cases h
theorem field_of' {k o : Int} {n : Nat} (hn : 0 < n) (h : fieldOk k o (n : Nat) = true) : ¬ k = 1 → -2 ≤ o ∧ o < (n : Int) := fun h1 => by
 rcases field_of h h1 with h2 | h2
 ·exact h2
 ·omega
set_option maxHeartbeats 6400000 in
set_option maxRecDepth 20000 in
theorem l7Words_any (ga ta sa wa la : Option Addr) (gc tc sc wc lc lo hi lot hit lo2 hi2 lo3 hi3 : Nat) (gs : List (List Ty)) (h : GHeap) (S : List Int) (a : Nat) (w : World) (hP : Parts gs) (hN : Few gs) (hc : gs.length ≤ gc) (hl : lo ≤ hi) (hh : hi ≤ w.heap.size) (hx : GroupsIn w lo hi ga gs) (hxt : TypesIn w lot hit ta (flat gs)) (hht : hit ≤ w.heap.size) (H : HIn w lo2 hi2 h wa la wc lc) (hsx : IntsIn w lo3 hi3 sa S) (hh3 : hi3 ≤ w.heap.size) (hSl : S.length ≤ 1048576) (hS : StOk gs h S) (h0 : 0 ≤ lenF gs (nAt h.words a)) (hin : a + 1 + lenA gs h a ≤ h.words.length) (h160 : h.words.length ≤ 160) :
 Calls Tryz.prog 33 #[.slice ga gs.length gc, .slice ta (kinCount gs) tc, heapV h wa la wc lc, .slice sa S.length sc, .int .i64 (a : Int)] w fun e w' => e = .returned (.bool (wordsF gs h S a)) ∧ Below w.heap.size w w' := by
 obtain ⟨e1, e2, e3, e4, e5⟩ := lenF_pos h0
 obtain ⟨t, ht⟩ : ∃ t : Nat, nAt h.words a / 16 = (t : Int) := Int.eq_ofNat_of_zero_le (by omega)
 have htk : t < kinCount gs := by omega
 obtain ⟨tb, toff, fa, fc, rfl, tb1, tb2, c0, c1, c2, c3, hfx⟩ := types_at hxt htk
 obtain ⟨n, hn⟩ : ∃ n : Nat, n = lenA gs h a := ⟨_, rfl⟩
 have hn' : nAt h.words a % 16 = (n : Int) := by rw [hn]; unfold lenA; omega
 have hty : tyA gs h a = tyN gs t := by unfold tyA; rw [ht, Int.toNat_natCast]
 have HFD := hide (fun (W : World) (hb : Below w.heap.size w W) (i : Nat) (hj : i < n) => tyField_any gs hP (nAt h.words a) h0 i t (by rw [hn', Int.toNat_natCast]; exact hj) ht fa fc lot hit W (hfx.keep (hb.mono hht)) (Nat.le_trans hht hb.size))
 have HFT := hide (fun (W : World) (hb : Below w.heap.size w W) (i : Nat) (hj : i < n) (k m : Int) => l7Fits_any ga sa wa la gc sc wc lc lo hi lo2 hi2 lo3 hi3 gs h S k m (fieldF (tyN gs t) i).kind (fieldF (tyN gs t) i).of (fieldF (tyN gs t) i).mt W hP hN hc hl (Nat.le_trans hh hb.size) (hx.keep (hb.mono hh)) (H.keep (hb.mono H.hh)) (hsx.keep (hb.mono hh3)) (Nat.le_trans hh3 hb.size) hSl hS (field_of' (by omega) (by rw [← hty]; exact thing_ty hP h0 (hn ▸ hj))))
 have HFN := hide (fun (W : World) (hb : Below w.heap.size w W) (m : Int) => l6Find_any la lc lo2 hi2 h.log m W H.ll (H.lg.keep (hb.mono H.hh)) (Nat.le_trans H.hh hb.size))
 have HWV := hide (fun (W : World) (i : Nat) (k o : Int) (m : Bool) => specWordVal_any k o m (nAt h.words (a + 1 + i)) W (H.wb _).2 (H.wb _).1)
 have HWS := hide (fun (W : World) (hb : Below w.heap.size w W) => (H.keep (hb.mono H.hh)).ws)
 have HW1 : Hid (∀ i, word1 gs h S a i = match wordVal (fieldF (tyN gs t) i).kind (nAt h.words (a + 1 + i)) with | none => false | some (k, m) => hfitF gs h S k m (fieldF (tyN gs t) i) && knownF h a i k m) := fun i => by rw [← hty]; rfl
 have HF : Hid (wordsF gs h S a = allTo (word1 gs h S a) n) := by show _ = _; rw [hn]; rfl
 rw [HF.out]
 have hwh := H.hh
 have x0 : 0 ≤ nAt h.words a := e2
 have x1 : nAt h.words a ≤ 9223372036854775807 := (H.wb a).2
 obtain ⟨b, off, rfl, b1, b2, ca⟩ := ints_at H.ws (i := a) (by omega)
 have HWC : Hid (∀ (W : World), Below w.heap.size w W → ∀ q, q < h.words.length → W.cell? ⟨b, off + q, none⟩ = some (.int .i64 (nAt h.words q))) := fun W hb q hq => by
  rcases HWS.out W hb with h1 | ⟨b', off', e, h1, h2, h3⟩
  ·rw [h1] at hq; exact absurd hq (Nat.not_lt_zero _)
  ·cases e; exact h3 q hq
 have hin2 : a + 1 + n ≤ h.words.length := by omega
 have hal : a < h.words.length := by omega
 have HCA : Hid (∀ (W : World), Below w.heap.size w W → W.cell? ⟨b, off + a, none⟩ = some (.int .i64 (nAt h.words a))) := fun W hb => HWC.out W hb a hal
 have hi64 : ∀ i, i64 (nAt h.words i) := H.wb
 have ho64 := H.ob
 have HI64 := hide hi64
 have HO64 := hide ho64
 clear hP hN hx H hsx hS hxt hfx hin e1 e2 e3 e4 e5 h0 HWS hty hn HF hi64 ho64
 unfold heapV tyV at *
 generalize tyN gs t = TY at *
 obtain ⟨ty0, ty1, ty2, tyf⟩ := TY
 simp only at c0 c1 c2 c3
 generalize word1 gs h S a = wf at *
 obtain ⟨X, hX⟩ : ∃ X, X = nAt h.words a := ⟨_, rfl⟩
 rw [← hX] at ca x0 x1 ht hn' HCA
 clear hX
 have hbl : b < w.heap.size := by omega
 have htl : tb < w.heap.size := by omega
 have q0 : (0 : Int) ≤ (a : Int) := by omega
 have q1 : (a : Int) < (h.words.length : Int) := by omega
 have q2 : (0 : Int) ≤ (t : Int) := by omega
 have q3 : (t : Int) < (kinCount gs : Int) := by omega
 have ht2 : IntKind.i64.wrap (X.tdiv 16) = (t : Int) := by rw [Int.tdiv_eq_ediv_of_nonneg x0, ht]; exact wrapIh (by omega) (by omega)
 have hm : IntKind.i64.wrap (X.tmod 16) = (n : Int) := by rw [Int.tmod_eq_emod_of_nonneg x0, hn']; exact wrapIh (by omega) (by omega)
 have hn16 : n < 16 := by omega
 obtain ⟨W1, hW1⟩ : ∃ W1, W1 = (w.alloc (.cells #[.slice (some ⟨b, off, none⟩) h.words.length wc, .int .i64 h.old, .int .i64 h.oldAt, .int .i64 h.youngAt, .slice la h.log.length lc] 33)).alloc (.cells #[.int .i64 ty0, .int .i64 ty1, .bool ty2, .slice fa tyf.length fc] 76) := ⟨_, rfl⟩
 have B1 : Hid (Below w.heap.size w W1) := by show Below _ _ _; rw [hW1]; exact ((Below.refl _ _).alloc (Nat.le_refl _) _).alloc (by simp) _
 have P1 : Hid (Rec W1 w.heap.size 33 [.slice (some ⟨b, off, none⟩) h.words.length wc, .int .i64 h.old, .int .i64 h.oldAt, .int .i64 h.youngAt, .slice la h.log.length lc]) := by show Rec _ _ _ _; rw [hW1]; exact (Rec.new _ _ _).alloc _
 have T1 : Hid (Rec W1 (w.heap.size + 1) 76 [.int .i64 ty0, .int .i64 ty1, .bool ty2, .slice fa tyf.length fc]) := by show Rec _ _ _ _; rw [hW1]; exact Rec.new' _ _ _ _ (by simp)
 clear hh hht hh3 hSl ht htk tb1 tb2 hl hwh b1 b2
 go_enter Tryz.func33, Tryz.ntmps33
 go_upto_region 1 with (fail)
 go_upto_region 3 with (fail)
 rw [← hW1]
 clear hW1 c0 c1 c2 c3
 go_loopw [12] (fun i wr => ∃ j : Nat, j ≤ n ∧ i = .int .i64 (j : Int) ∧ Hid (allTo wf j = true) ∧ Hid (Rec wr w.heap.size 33 [.slice (some ⟨b, off, none⟩) h.words.length wc, .int .i64 h.old, .int .i64 h.oldAt, .int .i64 h.youngAt, .slice la h.log.length lc]) ∧ Hid (Rec wr (w.heap.size + 1) 76 [.int .i64 ty0, .int .i64 ty1, .bool ty2, .slice fa tyf.length fc]) ∧ Hid (Below w.heap.size w wr)) (fun i wr => n - (intOf i).toNat)
 case atStart => exact ⟨0, Nat.zero_le _, rfl, rfl, P1, T1, B1⟩
 case round =>
  clear P1 T1 B1 ca ht2 q2 q3
  obtain ⟨j, hj, rfl, HA, HP, HT, HB⟩ := hrel
  have p0 := HP.out.cell (o := 0) rfl
  have p1 := HP.out.cell (o := 1) rfl
  have p2 := HP.out.cell (o := 2) rfl
  have p3 := HP.out.cell (o := 3) rfl
  have p4 := HP.out.cell (o := 4) rfl
  have ca : wr.cell? ⟨b, off + a, none⟩ = some (.int .i64 X) := HCA.out wr HB.out
  by_cases hlt : j < n
  ·have t0 := HT.out.cell (o := 0) rfl
   have t1 := HT.out.cell (o := 1) rfl
   have t2 := HT.out.cell (o := 2) rfl
   have t3 := HT.out.cell (o := 3) rfl
   have cj := HWC.out wr HB.out (a + 1 + j) (by omega)
   have q4 : (j : Int) < (n : Int) := by omega
   have q5 : ((a : Int) + 1 + (j : Int)) < (h.words.length : Int) := by omega
   have q6 : (0 : Int) ≤ (a : Int) + 1 + (j : Int) := by omega
   have HYN : Hid (wf j = true → allTo wf (j + 1) = true) := fun e => by show (allTo wf j && wf j) = true; rw [HA.out, e]; rfl
   have HNO : Hid (wf j = false → allTo wf n = false) := fun e => allTo_false hlt e
   have HFj := hide (HFD.out wr HB.out j hlt)
   have HTj := hide (fun (W : World) (hb : Below w.heap.size w W) (k m : Int) => HFT.out W hb j hlt k m)
   have HWj := hide (fun (W : World) (k o : Int) (m : Bool) => HWV.out W j k o m)
   have HEj := hide (HW1.out j)
   have hy64 := HI64.out (a + 1 + j)
   generalize fieldF ⟨ty0, ty1, ty2, tyf⟩ j = f at *
   obtain ⟨f0, f1, f2⟩ := f
   simp only [fdV] at HFj HTj HEj
   generalize nAt h.words (a + 1 + j) = y at *
   clear HA HFD HFT HWV HW1 HI64
   go_wp2_with fail
   refine HFj.out.mono ?_
   rintro e w2 ⟨rfl, b2⟩
   have B2 := hide (HB.out.trans (b2.mono HB.out.size))
   have P2 := hide (HP.out.below b2 HP.out.lt)
   have T2 := hide (HT.out.below b2 HT.out.lt)
   clear b2 HB HP HT p0 p1 p2 p3 p4 t0 t1 t2 t3 ca cj HFj
   have WJ := hide (fun (W : World) => HWj.out W f0 f1 f2)
   clear HWj
   have bF := hide (one_b w2 (.cells #[.int .i64 f0, .int .i64 f1, .bool f2] 70))
   have rF := hide (Rec.new w2 70 [.int .i64 f0, .int .i64 f1, .bool f2])
   cases hwv : wordVal f0 y with
   | none =>
    have HR : Hid (allTo wf n = false) := HNO.out (by rw [HEj.out, hwv])
    rw [hwv] at WJ
    simp only [valOr] at WJ
    clear hwv HEj HYN HNO
    go_wp2_with fail
    refine (WJ.out _).mono ?_
    rintro e w3 ⟨rfl, b3⟩
    have B3 := hide (B2.out.trans ((bF.out.trans (b3.mono bF.out.size)).mono B2.out.size))
    clear b3 P2 T2
    go_wp2_with fail
    go_ret
    exact ⟨ret_bool HR.out.symm, B3.out.alloc B3.out.size _⟩
   | some km =>
    obtain ⟨k, m⟩ := km
    rw [hwv] at WJ HEj
    simp only [valOr] at WJ HEj
    clear hwv
    go_wp2_with fail
    refine (WJ.out _).mono ?_
    rintro e w3 ⟨rfl, b3⟩
    have b23 := hide (bF.out.trans (b3.mono bF.out.size))
    have B3 := hide (B2.out.trans (b23.out.mono B2.out.size))
    have P3 := hide (P2.out.below b23.out P2.out.lt)
    have T3 := hide (T2.out.below b23.out T2.out.lt)
    have F3 := hide (rF.out.below b3 rF.out.lt)
    have bV := hide (one_b w3 (.cells #[.int .i64 k, .int .i64 m] 49))
    have rV := hide (Rec.new w3 49 [.int .i64 k, .int .i64 m])
    clear b3 b23 B2 P2 T2 rF bF WJ
    have hp3 : w.heap.size < w3.heap.size := P3.out.lt
    have hf3 : w2.heap.size < w3.heap.size := F3.out.lt
    have p0 := P3.out.cell (o := 0) rfl
    have p1 := P3.out.cell (o := 1) rfl
    have p2 := P3.out.cell (o := 2) rfl
    have p3 := P3.out.cell (o := 3) rfl
    have p4 := P3.out.cell (o := 4) rfl
    have f0c := F3.out.cell (o := 0) rfl
    have f1c := F3.out.cell (o := 1) rfl
    have f2c := F3.out.cell (o := 2) rfl
    go_wp2_with fail
    refine (HTj.out _ (B3.out.alloc B3.out.size _) k m).mono ?_
    rintro e w4 ⟨rfl, b4⟩
    have B4 := hide ((B3.out.alloc B3.out.size (.cells #[.int .i64 k, .int .i64 m] 49)).trans (b4.mono (B3.out.alloc B3.out.size (.cells #[.int .i64 k, .int .i64 m] 49)).size))
    have P4 := hide ((P3.out.below bV.out P3.out.lt).below b4 (Nat.lt_of_lt_of_le P3.out.lt bV.out.size))
    have T4 := hide ((T3.out.below bV.out T3.out.lt).below b4 (Nat.lt_of_lt_of_le T3.out.lt bV.out.size))
    have V4 := hide (rV.out.below b4 rV.out.lt)
    clear b4 B3 P3 T3 F3 rV bV p0 p1 p2 p3 p4 f0c f1c f2c HTj hp3 hf3
    obtain ⟨r, hr⟩ : ∃ r, r = hfitF gs h S k m ⟨f0, f1, f2⟩ := ⟨_, rfl⟩
    rw [← hr] at HEj ⊢
    clear hr
    cases r with
    | false =>
     have HR : Hid (allTo wf n = false) := HNO.out (by rw [HEj.out]; rfl)
     clear HEj HYN HNO
     go_wp2_with fail
     go_ret
     exact ⟨ret_bool HR.out.symm, B4.out⟩
    | true =>
     rw [Bool.true_and] at HEj
     have p1 := P4.out.cell (o := 1) rfl
     have p4 := P4.out.cell (o := 4) rfl
     have v0 := V4.out.cell (o := 0) rfl
     have v1 := V4.out.cell (o := 1) rfl
     have HFk := hide (HFN.out w4 B4.out ((a : Int) + 1 + (j : Int)))
     have ho := HO64.out
     have EK : Hid (knownF h a j k m = !(decide ((a : Int) < h.old ∧ k = 4 ∧ h.old ≤ m) && !decide ((a : Int) + 1 + (j : Int) ∈ h.log))) := rfl
     rw [EK.out] at HEj
     clear EK HFN
     unfold i64 at ho
     by_cases d1 : (a : Int) < h.old
     ·by_cases d2 : k = 4
      ·by_cases d3 : h.old ≤ m
       ·subst d2
        have d3' : decide (h.old ≤ m) = true := by simpa using d3
        go_wp2_with fail
        refine HFk.out.mono ?_
        rintro e w5 ⟨⟨r, rfl, hr1, hr2⟩, rfl⟩
        by_cases hr0 : 0 ≤ r
        ·have HY := hide (HYN.out (by rw [HEj.out, decide_eq_true (hr2.1 hr0)]; simp))
         have d4 : decide (r < 0) = false := by simpa using hr0
         clear HEj HYN HNO hr2
         go_wp2_with fail
         exact ⟨⟨j + 1, by omega, by go_num, HY, P4, T4, B4⟩, by simp [intOf]; omega⟩
        ·have HR := hide (HNO.out (by rw [HEj.out, decide_eq_false (fun e => hr0 (hr2.2 e)), decide_eq_true (by exact ⟨d1, (by simp), d3⟩)]; rfl))
         have d4 : decide (r < 0) = true := by simpa using hr0
         clear HEj HYN HNO hr2
         go_wp2_with fail
         go_ret
         exact ⟨ret_bool HR.out.symm, B4.out⟩
       ·have HY := hide (HYN.out (by rw [HEj.out, decide_eq_false (fun e => d3 e.2.2)]; rfl))
        have d3' : decide (h.old ≤ m) = false := by simpa using d3
        subst d2
        clear HEj HYN HNO
        go_wp2_with fail
        exact ⟨⟨j + 1, by omega, by go_num, HY, P4, T4, B4⟩, by simp [intOf]; omega⟩
      ·have HY := hide (HYN.out (by rw [HEj.out, decide_eq_false (fun e => d2 e.2.1)]; rfl))
       have d2' : (k == 4) = false := beq_eq_false_iff_ne.2 d2
       clear HEj HYN HNO
       go_wp2_with fail
       exact ⟨⟨j + 1, by omega, by go_num, HY, P4, T4, B4⟩, by simp [intOf]; omega⟩
     ·have HY := hide (HYN.out (by rw [HEj.out, decide_eq_false (fun e => d1 e.1)]; rfl))
      have d1' : decide ((a : Int) < h.old) = false := by simpa using d1
      clear HEj HYN HNO
      go_wp2_with fail
      exact ⟨⟨j + 1, by omega, by go_num, HY, P4, T4, B4⟩, by simp [intOf]; omega⟩
  ·have hq : ¬ (j : Int) < (n : Int) := by omega
   have HR : Hid (allTo wf n = true) := by show _ = _; rw [← show j = n by omega]; exact HA.out
   go_wp2_with fail
   go_ret
   exact ⟨ret_bool HR.out.symm, HB.out⟩
/-- One number more; boxes of other types are kept. -/
theorem wpList_snoc_num2 {ops : Array Oper} {rest : List Oper} {o : Oper} {a : Act} {Q : Exit → Act → World → Prop} {w0 : World} (hgd : o.guard = none) (s x : Operand)
  (ho : o.op = .call { callee := .builtin .append, args := #[s, x], argTypes := #[23, 23] })
  (S : Nat) (v : Value) (xs : List Int) (l : Int) (hs : a.eval s = v) (hown : NRow w0 S v xs) (hx : a.eval x = .slice (some ⟨w0.heap.size, 0, none⟩) 1 1) (hn : xs.length ≤ 1000) (hS : S ≤ w0.heap.size)
  (h : ∀ g cap w', NRow w' S (.slice (some ⟨g, 0, none⟩) (xs.length + 1) cap) (xs ++ [l]) → Below S w0 w' → (∀ B T vs, T ≠ 3 → Rec w0 B T vs → Rec w' B T vs) → wpList Tryz.prog ops Q rest (a.put o.dst (.slice (some ⟨g, 0, none⟩) (xs.length + 1) cap)) w') :
  wpList Tryz.prog ops Q (o :: rest) a (w0.alloc (.cells #[.int .i64 l] 3)) := by
 obtain ⟨i0, hi0, hzz⟩ := Option.map_eq_some_iff.1 Tryz.infoNum
 simp only [Prod.mk.injEq] at hzz
 obtain ⟨hz0, hs0, hb0⟩ := hzz
 refine wpList_append_lies _ hgd s x 23 ho S 3 i0 _ 1 8 Tryz.underlying23 hi0 hz0 hs0 hb0 rfl (by decide) v xs.length (numsV xs) hs (hown.alloc _) ⟨w0.heap.size, 0, none⟩ 1 1 [.int .i64 l] hx rfl (World.news_of_block (Deep.blk_alloc_new _ _)) (by intro u hu; simp at hu; subst hu; rfl) (by decide) (by unfold maxLen; omega) (by omega) (by simp; omega) _ rfl ?_
 intro g cap w' h1 h2 h3 h4
 refine h g cap w' ?_ (((Below.refl S w0).alloc hS _).grown h2 (by simp; omega) (owns_base hown)) fun B T vs hT hr => ?_
 ·unfold NRow
  rw [numsV_app]
  have e : (xs ++ [l]).length = xs.length + 1 := by simp
  rw [e]
  exact h1
 ·have hk := hr.lt
  have hr0 : w0.heap[B]? = some (.cells vs.toArray T (0, 0)) := hr
  have hne : v.ownBlock ≠ some B := by
   rcases hown.2 with ⟨hv, _⟩ | ⟨g0, cap0, cur, hv, _, h7, _⟩
   ·rw [hv]; simp [Value.ownBlock]
   ·rw [hv]
    intro e
    simp [Value.ownBlock] at e
    subst e
    rw [hr0] at h7
    cases h7
    exact hT rfl
  have := h2.block B (by simp; omega) (fun e => hne e.symm)
  exact (this.trans (Below.heap_alloc _ _ _ hk)).trans hr0
theorem fieldK (a b c : Value) (w : World) : (Instr.field 70 (.agg #[a, b, c]) 0).run Tryz.prog w = .ok a w := by
 obtain ⟨i0, hi0, hzz⟩ := Option.map_eq_some_iff.1 (show (Tryz.prog.info? 3).map (·.size) = some 1 by kernel_rfl)
 have hu := run_underlying Tryz.underlying70
 simp [Instr.field, hu, part, isAgg, sizeOf, typeInfo, hi0, hzz, go_sem]
 rfl
/-- What begins somewhere is a whole thing of the words. -/
def StW (gs : List (List Ty)) (h : GHeap) (S : List Int) : Prop := ∀ a ∈ S, ∃ q : Nat, a = (q : Int) ∧ 0 ≤ lenF gs (nAt h.words q) ∧ q + 1 + lenA gs h q ≤ h.words.length
theorem starts_w {gs : List (List Ty)} {h : GHeap} (hs : SizeOk h) : StW gs h (startsF gs h) := fun a ha => by
 obtain ⟨k, e, h0, h1, _⟩ := starts_mem hs ha
 exact ⟨k, e, h0, by rw [lenA_eq h0]; exact h1⟩
theorem refs1_len (gs : List (List Ty)) (h : GHeap) (a : Nat) : ∀ n, (refs1 gs h a n).length ≤ n
 | 0 => by simp [refs1]
 | n + 1 => by
  have := refs1_len gs h a n
  unfold refs1
  split
  ·omega
  ·simp; omega
set_option maxHeartbeats 6400000 in
set_option maxRecDepth 20000 in
theorem l7Refs_any (ta sa wa la : Option Addr) (tc sc wc lc lot hit lo2 hi2 lo3 hi3 : Nat) (gs : List (List Ty)) (h : GHeap) (S : List Int) (w : World) (hP : Parts gs) (hxt : TypesIn w lot hit ta (flat gs)) (hht : hit ≤ w.heap.size) (H : HIn w lo2 hi2 h wa la wc lc) (hsx : IntsIn w lo3 hi3 sa S) (hh3 : hi3 ≤ w.heap.size) (hSl : S.length ≤ 160) (hS : StW gs h S) (h160 : h.words.length ≤ 160) :
 Calls Tryz.prog 45 #[.slice ta (kinCount gs) tc, heapV h wa la wc lc, .slice sa S.length sc] w fun e w' => ∃ g cap, e = .returned (.slice (some ⟨g, 0, none⟩) (refsF gs h S).length cap) ∧ NRow w' w.heap.size (.slice (some ⟨g, 0, none⟩) (refsF gs h S).length cap) (refsF gs h S) ∧ Below w.heap.size w w' := by
 have HXT := hide (fun (W : World) (hb : Below w.heap.size w W) => hxt.keep (hb.mono hht))
 have HFD := hide (fun (W : World) (hb : Below w.heap.size w W) (head : Int) (h0 : 0 ≤ lenF gs head) (i t : Nat) (hi : i < (head % 16).toNat) (ht : head / 16 = (t : Int)) (fa : Option Addr) (fc : Nat) (hx : FieldsIn W lot hit fa (tyN gs t).fields) => tyField_any gs hP head h0 i t hi ht fa fc lot hit W hx (Nat.le_trans hht hb.size))
 have HWS := hide (fun (W : World) (hb : Below w.heap.size w W) => (H.keep (hb.mono H.hh)).ws)
 have HSX := hide (fun (W : World) (hb : Below w.heap.size w W) => hsx.keep (hb.mono hh3))
 have HSW := hide hS
 have hwh := H.hh
 have HI64 := hide H.wb
 have HO64 := hide H.ob
 have HR1 : Hid (∀ a i, refs1 gs h a (i + 1) = if (fieldF (tyA gs h a) i).kind = 1 then refs1 gs h a i else refs1 gs h a i ++ [(a : Int) + 1 + i]) := fun a i => rfl
 have HRA : Hid (∀ q : Nat, refsA gs h (q : Int) = if (q : Int) < h.old then refs1 gs h q (lenA gs h q) else []) := fun q => by show _ = _; unfold refsA; rw [Int.toNat_natCast]
 have HRT : Hid (∀ k, refsTo gs h S (k + 1) = refsTo gs h S k ++ refsA gs h (nAt S k)) := fun k => rfl
 have HRL : Hid (∀ a n, (refs1 gs h a n).length ≤ n) := fun a n => refs1_len gs h a n
 have HRF : Hid (refsF gs h S = refsTo gs h S S.length) := rfl
 rw [HRF.out]
 have HTY : Hid (∀ q t : Nat, nAt h.words q / 16 = (t : Int) → tyA gs h q = tyN gs t) := fun q t e => by show _ = _; unfold tyA; rw [e, Int.toNat_natCast]
 have HLA : Hid (∀ q : Nat, lenA gs h q = (nAt h.words q % 16).toNat) := fun q => rfl
 have RT0 : Hid (refsTo gs h S 0 = []) := rfl
 have R10 : Hid (∀ a, refs1 gs h a 0 = []) := fun a => rfl
 clear hP hxt H hsx hS HRF
 generalize refsTo gs h S = RT at *
 unfold heapV at *
 obtain ⟨W1, hW1⟩ : ∃ W1, W1 = w.alloc (.cells #[.slice wa h.words.length wc, .int .i64 h.old, .int .i64 h.oldAt, .int .i64 h.youngAt, .slice la h.log.length lc] 33) := ⟨_, rfl⟩
 have z1 : W1.heap.size = w.heap.size + 1 := by rw [hW1]; simp
 have B1 := hide (one_b w (.cells #[.slice wa h.words.length wc, .int .i64 h.old, .int .i64 h.oldAt, .int .i64 h.youngAt, .slice la h.log.length lc] 33))
 have P1 := hide (Rec.new w 33 [.slice wa h.words.length wc, .int .i64 h.old, .int .i64 h.oldAt, .int .i64 h.youngAt, .slice la h.log.length lc])
 rw [← hW1] at B1
 have P1 : Hid (Rec W1 w.heap.size 33 [.slice wa h.words.length wc, .int .i64 h.old, .int .i64 h.oldAt, .int .i64 h.youngAt, .slice la h.log.length lc]) := by show Rec _ _ _ _; rw [hW1]; exact P1.out
 have S2 := hide (NRow.new0 W1 (w.heap.size + 1) (by omega))
 have P2 := hide (P1.out.alloc (.cells #[] 3))
 have B2 := hide (B1.out.alloc B1.out.size (.cells #[] 3))
 clear P1 B1
 go_enter Tryz.func45, Tryz.ntmps45
 go_upto_region 1 with (fail)
 rw [← hW1]
 clear hW1
 go_wp2_with fail
 rw [z1] at S2
 go_loopw [7, 8] (fun o kv wr => ∃ (k g cap : Nat) (T : List Int), o = .slice (some ⟨g, 0, none⟩) T.length cap ∧ kv = .int .i64 (k : Int) ∧ k ≤ S.length ∧ T.length ≤ 6 * k ∧ Hid (RT k = T) ∧ Hid (NRow wr (w.heap.size + 1) (.slice (some ⟨g, 0, none⟩) T.length cap) T) ∧ Hid (Rec wr w.heap.size 33 [.slice wa h.words.length wc, .int .i64 h.old, .int .i64 h.oldAt, .int .i64 h.youngAt, .slice la h.log.length lc]) ∧ Hid (Below w.heap.size w wr)) (fun o kv wr => S.length - (intOf kv).toNat)
 case atStart => exact ⟨0, _, 0, [], rfl, rfl, Nat.zero_le _, Nat.zero_le _, RT0, S2, P2, B2⟩
 case round =>
  obtain ⟨wo, hwo⟩ : ∃ x, x = wr := ⟨wr, rfl⟩
  subst hwo
  clear RT0 S2 P2 B2
  obtain ⟨k, g, cap, T, rfl, rfl, hk, hTl, HT, HR, HC, HB⟩ := hrel
  have p0 := HC.out.cell (o := 0) rfl
  have p1 := HC.out.cell (o := 1) rfl
  by_cases hlt : k < S.length
  ·obtain ⟨q, hq, hq0, hq1⟩ := HSW.out (nAt S k) (mem_of_nAt hlt)
   obtain ⟨sb, soff, hsa, s1, s2, cs⟩ := ints_at (HSX.out wo HB.out) hlt
   rw [hq] at cs
   have hql : q < h.words.length := by omega
   obtain ⟨b, off, hwa, b1, b2, ca⟩ := ints_at (HWS.out wo HB.out) hql
   obtain ⟨e1, e2, e3, e4, e5⟩ := lenF_pos hq0
   obtain ⟨t, ht⟩ : ∃ t : Nat, nAt h.words q / 16 = (t : Int) := Int.eq_ofNat_of_zero_le (by omega)
   obtain ⟨tb, toff, fa, fc, hta, tb1, tb2, c0, c1, c2, c3, hfx⟩ := types_at (HXT.out wo HB.out) (i := t) (by omega)
   obtain ⟨n, hn⟩ : ∃ n : Nat, n = lenA gs h q := ⟨_, rfl⟩
   have hn6 : n ≤ 6 := by rw [hn, HLA.out]; omega
   have hn' : nAt h.words q % 16 = (n : Int) := by rw [hn, HLA.out]; omega
   have htk : t < kinCount gs := by omega
   have HRq := hide (HRA.out q)
   rw [← hn] at HRq
   have HRTk := hide (HRT.out k)
   rw [HT.out, hq, HRq.out] at HRTk
   have HR1q := hide (HR1.out q)
   rw [HTY.out q t ht] at HR1q
   have HFq := hide (fun (W : World) (hb : Below w.heap.size w W) (i : Nat) (hi : i < n) (hx : FieldsIn W lot hit fa (tyN gs t).fields) => HFD.out W hb (nAt h.words q) hq0 i t (by rw [hn']; omega) ht fa fc hx)
   have HFX := hide (fun (W : World) (hb : Below w.heap.size wo W) => hfx.keep (hb.mono hht))
   have HWC : Hid (∀ (W : World), Below w.heap.size w W → W.cell? ⟨b, off + q, none⟩ = some (.int .i64 (nAt h.words q))) := fun W hb => by
    rcases HWS.out W hb with h1 | ⟨b', off', e, h1, h2, h3⟩
    ·rw [h1] at hql; exact absurd hql (Nat.not_lt_zero _)
    ·rw [hwa] at e; cases e; exact h3 q hql
   have HRLq := hide (HRL.out q)
   have x0 : 0 ≤ nAt h.words q := e2
   have x1 : nAt h.words q ≤ 9223372036854775807 := (HI64.out q).2
   subst hsa hwa hta
   obtain ⟨X, hX⟩ : ∃ X, X = nAt h.words q := ⟨_, rfl⟩
   rw [← hX] at ca x0 x1 ht hn' HWC
   have ht2 : IntKind.i64.wrap (X.tdiv 16) = (t : Int) := by rw [Int.tdiv_eq_ediv_of_nonneg x0, ht]; exact wrapIh (by omega) (by omega)
   have hm : IntKind.i64.wrap (X.tmod 16) = (n : Int) := by rw [Int.tmod_eq_emod_of_nonneg x0, hn']; exact wrapIh (by omega) (by omega)
   clear hX HRA HRT HR1 HTY HLA HFD HRL HXT HWS HSW hfx e1 e2 e3 e4 e5 hq0 hq1 hn HT hq
   generalize tyN gs t = TY at *
   obtain ⟨ty0, ty1, ty2, tyf⟩ := TY
   simp only [tyV, fdV] at c0 c1 c2 c3 HFq HFX HR1q
   have q0 : (0 : Int) ≤ (k : Int) := by omega
   have q1 : (k : Int) < (S.length : Int) := by omega
   have q2 : (0 : Int) ≤ (q : Int) := by omega
   have q3 : (q : Int) < (h.words.length : Int) := by omega
   have q4 : (0 : Int) ≤ (t : Int) := by omega
   have q5 : (t : Int) < (kinCount gs : Int) := by omega
   go_wp2_with fail
   obtain ⟨Wt, hWt⟩ : ∃ Wt, Wt = wo.alloc (.cells #[.int .i64 ty0, .int .i64 ty1, .bool ty2, .slice fa tyf.length fc] 76) := ⟨_, rfl⟩
   have hzt : Wt.heap.size = wo.heap.size + 1 := by rw [hWt]; simp
   have bt : Below wo.heap.size wo Wt := by rw [hWt]; exact one_b _ _
   have TT : Hid (Rec Wt wo.heap.size 76 [.int .i64 ty0, .int .i64 ty1, .bool ty2, .slice fa tyf.length fc]) := by show Rec _ _ _ _; rw [hWt]; exact Rec.new _ _ _
   have szo := HB.out.size
   have Bo : Hid (Below w.heap.size wo Wt) := bt.mono szo
   have Bt := hide (HB.out.trans Bo.out)
   have HRt := hide (HR.out.below bt)
   have HCt := hide (HC.out.below bt HC.out.lt)
   rw [← hWt]
   clear hWt c0 c1 c2 c3 ca cs bt p0 p1
   have hd1 : w.heap.size < wo.heap.size := HC.out.lt
   by_cases hold : (q : Int) < h.old
   ·have hold' : decide ((q : Int) < h.old) = true := by simpa using hold
    rw [if_pos hold] at HRTk
    go_loopw [7, 11] (fun o iv wi => ∃ (i g cap : Nat) (T2 : List Int), o = .slice (some ⟨g, 0, none⟩) T2.length cap ∧ iv = .int .i64 (i : Int) ∧ i ≤ n ∧ T2.length ≤ 6 * k + i ∧ Hid (T2 = T ++ refs1 gs h q i) ∧ Hid (NRow wi (w.heap.size + 1) (.slice (some ⟨g, 0, none⟩) T2.length cap) T2) ∧ Hid (Rec wi w.heap.size 33 [.slice (some ⟨b, off, none⟩) h.words.length wc, .int .i64 h.old, .int .i64 h.oldAt, .int .i64 h.youngAt, .slice la h.log.length lc]) ∧ Hid (Rec wi wo.heap.size 76 [.int .i64 ty0, .int .i64 ty1, .bool ty2, .slice fa tyf.length fc]) ∧ Hid (Below w.heap.size w wi) ∧ Hid (Below w.heap.size wo wi)) (fun o iv wi => n - (intOf iv).toNat)
    case atStart => exact ⟨0, g, cap, T, rfl, rfl, Nat.zero_le _, by omega, (by show _ = _; rw [R10.out]; simp), HRt, HCt, TT, Bt, Bo⟩
    case round =>
     clear HRt HCt TT Bt Bo HR HC HB
     obtain ⟨i, g2, cap2, T2, rfl, rfl, hi, hT2, HT2, HR2, HC2, HD2, HB2, HO2⟩ := hrel
     have p0 := HC2.out.cell (o := 0) rfl
     have p1 := HC2.out.cell (o := 1) rfl
     have ca := HWC.out wr HB2.out
     by_cases hin : i < n
     ·have t0 := HD2.out.cell (o := 0) rfl
      have t1 := HD2.out.cell (o := 1) rfl
      have t2 := HD2.out.cell (o := 2) rfl
      have t3 := HD2.out.cell (o := 3) rfl
      have q6 : (i : Int) < (n : Int) := by omega
      have HFi := hide (HFq.out wr HB2.out i hin (HFX.out wr HO2.out))
      have HRi := hide (HR1q.out i)
      generalize fieldF ⟨ty0, ty1, ty2, tyf⟩ i = f at *
      obtain ⟨f0, f1, f2⟩ := f
      simp only at HFi HRi
      go_wp2_with fail
      refine HFi.out.mono ?_
      rintro e w2 ⟨rfl, bb⟩
      have sz2 := HB2.out.size
      have HB3 := hide (HB2.out.trans (bb.mono sz2))
      have HO3 := hide (HO2.out.trans (bb.mono sz2))
      have HC3 := hide (HC2.out.below bb HC2.out.lt)
      have HD3 := hide (HD2.out.below bb HD2.out.lt)
      have HR3 := hide (HR2.out.below bb)
      clear bb HB2 HO2 HC2 HD2 HR2 p0 p1 ca t0 t1 t2 t3 HFi
      go_wp2_with fail
      rw [fieldK]
      by_cases hf : f0 = 1
      ·subst hf
       rw [if_pos rfl] at HRi
       have HT3 : Hid (T2 = T ++ refs1 gs h q (i + 1)) := by show _ = _; rw [HRi.out]; exact HT2.out
       clear HT2 HRi
       go_wp2_with fail
       exact ⟨⟨i + 1, g2, cap2, T2, rfl, by go_num, by omega, by omega, HT3, HR3, HC3, HD3, HB3, HO3⟩, by simp [intOf]; omega⟩
      ·have hf' : (f0 != 1) = true := by simpa using hf
       rw [if_neg hf] at HRi
       have HT3 : Hid (T2 ++ [(q : Int) + 1 + (i : Int)] = T ++ refs1 gs h q (i + 1)) := by show _ = _; rw [HRi.out, HT2.out]; simp
       have zz : w.heap.size + 1 ≤ w2.heap.size := HC3.out.lt
       have q160 : q < 160 := by omega
       clear HT2 HRi hf
       go_wp2_with (first | (at_builtin; refine wpList_snoc_num2 rfl _ _ rfl (w.heap.size + 1) (.slice (some ⟨g2, 0, none⟩) T2.length cap2) T2 ((q : Int) + 1 + (i : Int)) rfl HR3.out rfl (by omega) zz ?_))
       intro g6 cap6 w6 h6 b6 k6
       have HR6 := hide h6
       have HB6 := hide (HB3.out.trans (b6.mono (Nat.le_succ _)))
       have HO6 := hide (HO3.out.trans (b6.mono (Nat.le_succ _)))
       have HC6 := hide (k6 _ _ _ (by decide) HC3.out)
       have HD6 := hide (k6 _ _ _ (by decide) HD3.out)
       clear h6 b6 k6 HC3 HB3 HR3 HD3 HO3
       go_wp2_with fail
       exact ⟨⟨i + 1, g6, cap6, T2 ++ [(q : Int) + 1 + (i : Int)], by simp, by go_num, by omega, by simp; omega, HT3, by rw [List.length_append]; exact HR6, HC6, HD6, HB6, HO6⟩, by simp [intOf]; omega⟩
     ·have q6 : ¬ (i : Int) < (n : Int) := by omega
      obtain rfl : i = n := by omega
      have HTK : Hid (RT (k + 1) = T2) := by show _ = _; rw [HRTk.out]; exact HT2.out.symm
      go_wp2_with fail
      exact ⟨⟨k + 1, g2, cap2, T2, rfl, by go_num, by omega, by omega, HTK, HR2, HC2, HB2⟩, by simp [intOf]; omega⟩
   ·have hold' : decide ((q : Int) < h.old) = false := by simpa using hold
    rw [if_neg hold, List.append_nil] at HRTk
    go_loopw [7, 11] (fun o iv wi => o = .slice (some ⟨g, 0, none⟩) T.length cap ∧ iv = .int .i64 0 ∧ wi = Wt) (fun o iv wi => 0)
    case atStart => exact ⟨rfl, rfl, rfl⟩
    case round =>
     obtain ⟨rfl, rfl, rfl⟩ := hrel
     have p1 := HCt.out.cell (o := 1) rfl
     go_wp2_with fail
     exact ⟨⟨k + 1, g, cap, T, rfl, by go_num, by omega, by omega, HRTk, HRt, HCt, Bt⟩, by simp [intOf]; omega⟩
  ·have hq : ¬ (k : Int) < (S.length : Int) := by omega
   obtain rfl : k = S.length := by omega
   subst HT
   go_wp2_with fail
   go_ret
   exact ⟨g, cap, rfl, HR.out.lower (Nat.le_succ _), HB.out⟩
theorem NRow.intsIn {w : World} {S g cap : Nat} {xs : List Int} (h : NRow w S (.slice (some ⟨g, 0, none⟩) xs.length cap) xs) : IntsIn w S w.heap.size (some ⟨g, 0, none⟩) xs := by
 by_cases h0 : xs = []
 ·exact .inl h0
 ·have hp : 0 < xs.length := List.length_pos_iff.2 h0
  obtain ⟨g', cap', e, h1, h2, _⟩ := h.form hp
  cases e
  refine .inr ⟨g, 0, rfl, h1, h2, fun i hi => ?_⟩
  rw [← nAt_get hi, Nat.zero_add]
  exact h.cell hi
theorem refsTo_len {gs : List (List Ty)} {h : GHeap} {S : List Int} (hS : StW gs h S) : ∀ k, k ≤ S.length → (refsTo gs h S k).length ≤ 6 * k
 | 0, _ => by simp [refsTo]
 | k + 1, hk => by
  have ih := refsTo_len hS k (by omega)
  obtain ⟨q, hq, hq0, _⟩ := hS (nAt S k) (mem_of_nAt (by omega))
  have e := lenF_pos hq0
  have h6 : lenA gs h q ≤ 6 := by unfold lenA; omega
  have h1 : (refsA gs h (nAt S k)).length ≤ 6 := by
   rw [hq]
   unfold refsA
   split
   ·rw [Int.toNat_natCast]; have := refs1_len gs h q (lenA gs h q); omega
   ·simp
  unfold refsTo
  rw [List.length_append]
  omega
theorem intsIn_take {w : World} {lo hi : Nat} {a : Option Addr} {xs : List Int} (h : IntsIn w lo hi a xs) (i : Nat) (hi' : i ≤ xs.length) : IntsIn w lo hi a (xs.take i) := by
 rcases h with h0 | ⟨b, off, e, h1, h2, h3⟩
 ·exact .inl (by rw [h0]; simp)
 ·refine .inr ⟨b, off, e, h1, h2, fun j hj => ?_⟩
  rw [List.length_take] at hj
  have e2 : nAt (xs.take i) j = nAt xs j := by unfold nAt; rw [List.getD_eq_getElem?_getD, List.getD_eq_getElem?_getD, List.getElem?_take, if_pos (by omega)]
  rw [e2]
  exact h3 j (by omega)
set_option maxHeartbeats 6400000 in
set_option maxRecDepth 20000 in
theorem l7Log_any (ta sa wa la : Option Addr) (tc sc wc lc lot hit lo2 hi2 lo3 hi3 : Nat) (gs : List (List Ty)) (h : GHeap) (S : List Int) (w : World) (hP : Parts gs) (hxt : TypesIn w lot hit ta (flat gs)) (hht : hit ≤ w.heap.size) (H : HIn w lo2 hi2 h wa la wc lc) (hsx : IntsIn w lo3 hi3 sa S) (hh3 : hi3 ≤ w.heap.size) (hSl : S.length ≤ 160) (hS : StW gs h S) (h160 : h.words.length ≤ 160) :
 Calls Tryz.prog 32 #[.slice ta (kinCount gs) tc, heapV h wa la wc lc, .slice sa S.length sc] w fun e w' => e = .returned (.bool (logF gs h S)) ∧ Below w.heap.size w w' := by
 have HB0 := hide (one_b w (.cells #[.slice wa h.words.length wc, .int .i64 h.old, .int .i64 h.oldAt, .int .i64 h.youngAt, .slice la h.log.length lc] 33))
 have HP0 := hide (Rec.new w 33 [.slice wa h.words.length wc, .int .i64 h.old, .int .i64 h.oldAt, .int .i64 h.youngAt, .slice la h.log.length lc])
 have HRf := hide (fun (W : World) (hb : Below w.heap.size w W) => l7Refs_any ta sa wa la tc sc wc lc lot hit lo2 hi2 lo3 hi3 gs h S W hP (hxt.keep (hb.mono hht)) (Nat.le_trans hht hb.size) (H.keep (hb.mono H.hh)) (hsx.keep (hb.mono hh3)) (Nat.le_trans hh3 hb.size) hSl hS h160)
 have HLG := hide (fun (W : World) (hb : Below w.heap.size w W) => H.lg.keep (hb.mono H.hh))
 have hRl : (refsF gs h S).length ≤ 1048576 := by have := refsTo_len hS S.length (Nat.le_refl _); unfold refsF; omega
 have hll := H.ll
 have hlc := H.lc'
 have hwh := H.hh
 have HTK := hide (fun (W : World) (hb : Below w.heap.size w W) (i : Nat) (hi : i ≤ h.log.length) (y : Int) => l6Find_any la lc lo2 hi2 (h.log.take i) y W (by rw [List.length_take]; omega) (intsIn_take (H.lg.keep (hb.mono H.hh)) i hi) (Nat.le_trans H.hh hb.size))
 have HF : Hid (logF gs h S = allTo (log1 h (refsF gs h S)) h.log.length) := rfl
 have HL1 : Hid (∀ i, log1 h (refsF gs h S) i = (decide (nAt h.log i ∈ refsF gs h S) && !decide (nAt h.log i ∈ h.log.take i))) := fun i => rfl
 rw [HF.out]
 clear hP hxt H hsx hS HF
 generalize log1 h (refsF gs h S) = lf at *
 generalize refsF gs h S = R at *
 unfold heapV at *
 go_enter Tryz.func32, Tryz.ntmps32
 go_wp2_with fail
 refine (HRf.out _ HB0.out).mono ?_
 rintro e w2 ⟨g, cap, rfl, hr, b2⟩
 have B2 := hide (HB0.out.trans (b2.mono HB0.out.size))
 have P2 := hide (HP0.out.below b2 HP0.out.lt)
 have HRr := hide (hr.intsIn)
 have HFd := hide (fun (W : World) (hb : Below w2.heap.size w2 W) (y : Int) => l6Find_any (some ⟨g, 0, none⟩) cap _ _ R y W hRl (HRr.out.keep hb) hb.size)
 clear hr b2 HB0 HP0 HRf HRr
 have p4 := P2.out.cell (o := 4) rfl
 go_wp2_with fail
 go_loopw [8] (fun i wr => ∃ j : Nat, j ≤ h.log.length ∧ i = .int .i64 (j : Int) ∧ Hid (allTo lf j = true) ∧ Hid (Below w2.heap.size w2 wr)) (fun i wr => h.log.length - (intOf i).toNat)
 case atStart => exact ⟨0, Nat.zero_le _, rfl, rfl, Below.refl _ _⟩
 case round =>
  obtain ⟨j, hj, rfl, HA, HB⟩ := hrel
  clear p4
  have Br := hide (B2.out.trans (HB.out.mono B2.out.size))
  have Pr := hide (P2.out.below HB.out P2.out.lt)
  have LG := hide (HLG.out wr Br.out)
  have p4 := Pr.out.cell (o := 4) rfl
  by_cases hlt : j < h.log.length
  ·obtain ⟨lb, loff, hla, l1, l2, cl⟩ := ints_at LG.out hlt
   have hlbw : lb < wr.heap.size := by have := Br.out.size; omega
   subst hla
   have HEj := hide (HL1.out j)
   have HTj := hide (fun (W : World) (hb : Below wr.heap.size wr W) => HTK.out W (Br.out.trans (hb.mono Br.out.size)) j (by omega))
   have ht2 : (h.log.take j).length = j := by rw [List.length_take]; omega
   rw [ht2] at HTj
   have HFJ := hide (fun (W : World) (hb : Below wr.heap.size wr W) => HFd.out W (HB.out.trans (hb.mono HB.out.size)))
   clear ht2 HL1 HTK LG
   have HYN : Hid (lf j = true → allTo lf (j + 1) = true) := fun e => by show (allTo lf j && lf j) = true; rw [HA.out, e]; rfl
   have HNO : Hid (lf j = false → allTo lf h.log.length = false) := fun e => allTo_false hlt e
   have q0 : (0 : Int) ≤ (j : Int) := by omega
   have q1 : (j : Int) < (h.log.length : Int) := by omega
   have q2 : (j : Int) ≤ (lc : Int) := by omega
   generalize nAt h.log j = y at *
   clear HA
   by_cases hm : y ∈ R
   ·have HFy : Hid (Calls Tryz.prog 46 #[.slice (some ⟨g, 0, none⟩) R.length cap, .int .i64 y] wr.drew fun e w' => (∃ r : Int, e = .returned (.int .i64 r) ∧ 0 ≤ r) ∧ w' = wr.drew) := (HFJ.out _ (Below.refl _ _).drew y).mono fun e w' h => by
     obtain ⟨⟨r, h1, h2, h3⟩, h4⟩ := h
     exact ⟨⟨r, h1, h3.2 hm⟩, h4⟩
    by_cases hm2 : y ∈ h.log.take j
    ·have HTy : Hid (Calls Tryz.prog 46 #[.slice (some ⟨lb, loff, none⟩) j lc, .int .i64 y] wr.drew fun e w' => (∃ r : Int, e = .returned (.int .i64 r) ∧ 0 ≤ r) ∧ w' = wr.drew) := (HTj.out _ (Below.refl _ _).drew y).mono fun e w' h => by
      obtain ⟨⟨r, h1, h2, h3⟩, h4⟩ := h
      exact ⟨⟨r, h1, h3.2 hm2⟩, h4⟩
     have HR := hide (HNO.out (by rw [HEj.out, decide_eq_true hm2]; simp))
     clear HEj HYN HNO HTj HFJ HFd HB hm hm2
     go_wp2_with fail
     refine wp_region_held_drew (S := (fun w' => w'.cell? ⟨w.heap.size, 4, none⟩ = some (.slice (some ⟨lb, loff, none⟩) h.log.length lc) ∧ w'.cell? ⟨lb, loff + j, none⟩ = some (.int .i64 y))) (by kernel_rfl) ?_ (fun hHeld => ?_)
     · (try dsimp only); (first | exact ⟨p4, cl⟩ | exact hHeld)
     refine takeL (i := 0) (v := ?v0n1) rfl (by kernel_rfl) (by kernel_rfl) (by kernel_rfl) (fun _ _ _ h => h) (by kernel_rfl) (by assumption) ?y0n1 ?r0n1; case y0n1 => (intro w hSw; (try dsimp only at hSw); go_simp; try with_reducible rfl); (try simp only [Act.put, List.setIfInBounds_toArray, List.set_cons_zero, List.set_cons_succ])
     refine takeL (i := 1) (v := ?v1n2) rfl (by kernel_rfl) (by kernel_rfl) (by kernel_rfl) (fun _ _ _ h => h) (by kernel_rfl) (by assumption) ?y1n2 ?r1n2; case y1n2 => (intro w hSw; (try dsimp only at hSw); go_simp; try with_reducible rfl); (try simp only [Act.put, List.setIfInBounds_toArray, List.set_cons_zero, List.set_cons_succ])
     refine takeL (i := 2) (v := ?v2n3) rfl (by kernel_rfl) (by kernel_rfl) (by kernel_rfl) (fun _ _ _ h => h) (by kernel_rfl) (by assumption) ?y2n3 ?r2n3; case y2n3 => (intro w hSw; (try dsimp only at hSw); go_simp; try with_reducible rfl); (try simp only [Act.put, List.setIfInBounds_toArray, List.set_cons_zero, List.set_cons_succ])
     refine takeL (i := 3) (v := ?v3n4) rfl (by kernel_rfl) (by kernel_rfl) (by kernel_rfl) (fun _ _ _ h => h) (by kernel_rfl) (by assumption) ?y3n4 ?r3n4; case y3n4 => (intro w hSw; (try dsimp only at hSw); go_simp; try with_reducible rfl); (try simp only [Act.put, List.setIfInBounds_toArray, List.set_cons_zero, List.set_cons_succ])
     refine takeL (i := 4) (v := ?v4n5) rfl (by kernel_rfl) (by kernel_rfl) (by kernel_rfl) (fun _ _ _ h => h) (by kernel_rfl) (by assumption) ?y4n5 ?r4n5; case y4n5 => (intro w hSw; (try dsimp only at hSw); go_simp; try with_reducible rfl); (try simp only [Act.put, List.setIfInBounds_toArray, List.set_cons_zero, List.set_cons_succ])
     refine takeL (i := 5) (v := ?v5n6) rfl (by kernel_rfl) (by kernel_rfl) (by kernel_rfl) (fun _ _ _ h => h) (by kernel_rfl) (by assumption) ?y5n6 ?r5n6; case y5n6 => (intro w hSw; (try dsimp only at hSw); go_simp; try with_reducible rfl); (try simp only [Act.put, List.setIfInBounds_toArray, List.set_cons_zero, List.set_cons_succ])
     refine doL (i := 6) rfl (by kernel_rfl) (fun K hK => ?_)
     go_simp
     (go_at_call 46; refine HFy.out.mono ?_; rintro e wx ⟨⟨r, rfl, hr0⟩, rfl⟩; have d1 : decide (0 ≤ r) = true := (by simpa using hr0); have d1' : decide (r < 0) = false := (by simpa using hr0))
     (try go_wp2_with fail)
     refine hK.out _ _ ?_ (fun hHeld2 => ?_)
     · (try dsimp only); (first | exact ⟨p4, cl⟩ | exact hHeld)
     clear hK K hHeld
     have hHeld := hHeld2
     clear hHeld2
     try simp only [Act.put, List.setIfInBounds_toArray, List.set_cons_zero, List.set_cons_succ]
     refine takeL (i := 7) (v := ?v7n7) rfl (by kernel_rfl) (by kernel_rfl) (by kernel_rfl) (fun _ _ _ h => h) (by kernel_rfl) (by assumption) ?y7n7 ?r7n7; case y7n7 => (intro w hSw; (try dsimp only at hSw); go_simp; try with_reducible rfl); (try simp only [Act.put, List.setIfInBounds_toArray, List.set_cons_zero, List.set_cons_succ])
     refine takeL (i := 8) (v := ?v8n8) rfl (by kernel_rfl) (by kernel_rfl) (by kernel_rfl) (fun _ _ _ h => h) (by kernel_rfl) (by assumption) ?y8n8 ?r8n8; case y8n8 => (intro w hSw; (try dsimp only at hSw); go_simp; try with_reducible rfl); (try simp only [Act.put, List.setIfInBounds_toArray, List.set_cons_zero, List.set_cons_succ])
     refine takeL (i := 9) (v := ?v9n9) rfl (by kernel_rfl) (by kernel_rfl) (by kernel_rfl) (fun _ _ _ h => h) (by kernel_rfl) (by assumption) ?y9n9 ?r9n9; case y9n9 => (intro w hSw; (try dsimp only at hSw); go_simp; try with_reducible rfl); (try simp only [Act.put, List.setIfInBounds_toArray, List.set_cons_zero, List.set_cons_succ])
     refine takeL (i := 10) (v := ?v10n10) rfl (by kernel_rfl) (by kernel_rfl) (by kernel_rfl) (fun _ _ _ h => h) (by kernel_rfl) (by assumption) ?y10n10 ?r10n10; case y10n10 => (intro w hSw; (try dsimp only at hSw); go_simp; try with_reducible rfl); (try simp only [Act.put, List.setIfInBounds_toArray, List.set_cons_zero, List.set_cons_succ])
     refine takeL (i := 11) (v := ?v11n11) rfl (by kernel_rfl) (by kernel_rfl) (by kernel_rfl) (fun _ _ _ h => h) (by kernel_rfl) (by assumption) ?y11n11 ?r11n11; case y11n11 => (intro w hSw; (try dsimp only at hSw); go_simp; try with_reducible rfl); (try simp only [Act.put, List.setIfInBounds_toArray, List.set_cons_zero, List.set_cons_succ])
     refine takeL (i := 12) (v := ?v12n12) rfl (by kernel_rfl) (by kernel_rfl) (by kernel_rfl) (fun _ _ _ h => h) (by kernel_rfl) (by assumption) ?y12n12 ?r12n12; case y12n12 => (intro w hSw; (try dsimp only at hSw); go_simp; try with_reducible rfl); (try simp only [Act.put, List.setIfInBounds_toArray, List.set_cons_zero, List.set_cons_succ])
     refine takeL (i := 13) (v := ?v13n13) rfl (by kernel_rfl) (by kernel_rfl) (by kernel_rfl) (fun _ _ _ h => h) (by kernel_rfl) (by assumption) ?y13n13 ?r13n13; case y13n13 => (intro w hSw; (try dsimp only at hSw); go_simp; try with_reducible rfl); (try simp only [Act.put, List.setIfInBounds_toArray, List.set_cons_zero, List.set_cons_succ])
     refine takeL (i := 14) (v := ?v14n14) rfl (by kernel_rfl) (by kernel_rfl) (by kernel_rfl) (fun _ _ _ h => h) (by kernel_rfl) (by assumption) ?y14n14 ?r14n14; case y14n14 => (intro w hSw; (try dsimp only at hSw); go_simp; try with_reducible rfl); (try simp only [Act.put, List.setIfInBounds_toArray, List.set_cons_zero, List.set_cons_succ])
     refine takeL (i := 15) (v := ?v15n15) rfl (by kernel_rfl) (by kernel_rfl) (by kernel_rfl) (fun _ _ _ h => h) (by kernel_rfl) (by assumption) ?y15n15 ?r15n15; case y15n15 => (intro w hSw; (try dsimp only at hSw); go_simp; try with_reducible rfl); (try simp only [Act.put, List.setIfInBounds_toArray, List.set_cons_zero, List.set_cons_succ])
     refine takeL (i := 16) (v := ?v16n16) rfl (by kernel_rfl) (by kernel_rfl) (by kernel_rfl) (fun _ _ _ h => h) (by kernel_rfl) (by assumption) ?y16n16 ?r16n16; case y16n16 => (intro w hSw; (try dsimp only at hSw); go_simp; try with_reducible rfl); (try simp only [Act.put, List.setIfInBounds_toArray, List.set_cons_zero, List.set_cons_succ])
     refine takeL (i := 17) (v := ?v17n17) rfl (by kernel_rfl) (by kernel_rfl) (by kernel_rfl) (fun _ _ _ h => h) (by kernel_rfl) (by assumption) ?y17n17 ?r17n17; case y17n17 => (intro w hSw; (try dsimp only at hSw); go_simp; try with_reducible rfl); (try simp only [Act.put, List.setIfInBounds_toArray, List.set_cons_zero, List.set_cons_succ])
     refine doL (i := 18) rfl (by kernel_rfl) (fun K hK => ?_)
     go_simp
     (go_at_call 46; refine HTy.out.mono ?_; rintro e wx ⟨⟨r, rfl, hr0⟩, rfl⟩; have d2 : decide (0 ≤ r) = true := (by simpa using hr0); have d2' : decide (r < 0) = false := (by simpa using hr0))
     (try go_wp2_with fail)
     refine hK.out _ _ ?_ (fun hHeld2 => ?_)
     · (try dsimp only); (first | exact ⟨p4, cl⟩ | exact hHeld)
     clear hK K hHeld
     have hHeld := hHeld2
     clear hHeld2
     try simp only [Act.put, List.setIfInBounds_toArray, List.set_cons_zero, List.set_cons_succ]
     refine takeL (i := 19) (v := ?v19n18) rfl (by kernel_rfl) (by kernel_rfl) (by kernel_rfl) (fun _ _ _ h => h) (by kernel_rfl) (by assumption) ?y19n18 ?r19n18; case y19n18 => (intro w hSw; (try dsimp only at hSw); go_simp; try with_reducible rfl); (try simp only [Act.put, List.setIfInBounds_toArray, List.set_cons_zero, List.set_cons_succ])
     refine takeL (i := 20) (v := ?v20n19) rfl (by kernel_rfl) (by kernel_rfl) (by kernel_rfl) (fun _ _ _ h => h) (by kernel_rfl) (by assumption) ?y20n19 ?r20n19; case y20n19 => (intro w hSw; (try dsimp only at hSw); go_simp; try with_reducible rfl); (try simp only [Act.put, List.setIfInBounds_toArray, List.set_cons_zero, List.set_cons_succ])
     refine wpAnyH_done (by kernel_rfl) ?_ _
     go_wp2_with fail
     go_ret
     exact ⟨ret_bool HR.out.symm, Br.out.drew⟩
    ·have HTy : Hid (Calls Tryz.prog 46 #[.slice (some ⟨lb, loff, none⟩) j lc, .int .i64 y] wr.drew fun e w' => e = .returned (.int .i64 (-1)) ∧ w' = wr.drew) := (HTj.out _ (Below.refl _ _).drew y).mono fun e w' h => by
      obtain ⟨⟨r, h1, h2, h3⟩, h4⟩ := h
      have : ¬ 0 ≤ r := fun e => hm2 (h3.1 e)
      exact ⟨by rw [h1, show r = -1 by omega], h4⟩
     have HD : Hid (Below w2.heap.size w2 wr.drew) := HB.out.drew
     have HY := hide (HYN.out (by rw [HEj.out, decide_eq_false hm2, decide_eq_true hm]; rfl))
     clear HEj HYN HNO HTj HFJ HFd HB hm hm2
     go_wp2_with fail
     refine wp_region_held_drew (S := (fun w' => w'.cell? ⟨w.heap.size, 4, none⟩ = some (.slice (some ⟨lb, loff, none⟩) h.log.length lc) ∧ w'.cell? ⟨lb, loff + j, none⟩ = some (.int .i64 y))) (by kernel_rfl) ?_ (fun hHeld => ?_)
     · (try dsimp only); (first | exact ⟨p4, cl⟩ | exact hHeld)
     refine takeL (i := 0) (v := ?v0n20) rfl (by kernel_rfl) (by kernel_rfl) (by kernel_rfl) (fun _ _ _ h => h) (by kernel_rfl) (by assumption) ?y0n20 ?r0n20; case y0n20 => (intro w hSw; (try dsimp only at hSw); go_simp; try with_reducible rfl); (try simp only [Act.put, List.setIfInBounds_toArray, List.set_cons_zero, List.set_cons_succ])
     refine takeL (i := 1) (v := ?v1n21) rfl (by kernel_rfl) (by kernel_rfl) (by kernel_rfl) (fun _ _ _ h => h) (by kernel_rfl) (by assumption) ?y1n21 ?r1n21; case y1n21 => (intro w hSw; (try dsimp only at hSw); go_simp; try with_reducible rfl); (try simp only [Act.put, List.setIfInBounds_toArray, List.set_cons_zero, List.set_cons_succ])
     refine takeL (i := 2) (v := ?v2n22) rfl (by kernel_rfl) (by kernel_rfl) (by kernel_rfl) (fun _ _ _ h => h) (by kernel_rfl) (by assumption) ?y2n22 ?r2n22; case y2n22 => (intro w hSw; (try dsimp only at hSw); go_simp; try with_reducible rfl); (try simp only [Act.put, List.setIfInBounds_toArray, List.set_cons_zero, List.set_cons_succ])
     refine takeL (i := 3) (v := ?v3n23) rfl (by kernel_rfl) (by kernel_rfl) (by kernel_rfl) (fun _ _ _ h => h) (by kernel_rfl) (by assumption) ?y3n23 ?r3n23; case y3n23 => (intro w hSw; (try dsimp only at hSw); go_simp; try with_reducible rfl); (try simp only [Act.put, List.setIfInBounds_toArray, List.set_cons_zero, List.set_cons_succ])
     refine takeL (i := 4) (v := ?v4n24) rfl (by kernel_rfl) (by kernel_rfl) (by kernel_rfl) (fun _ _ _ h => h) (by kernel_rfl) (by assumption) ?y4n24 ?r4n24; case y4n24 => (intro w hSw; (try dsimp only at hSw); go_simp; try with_reducible rfl); (try simp only [Act.put, List.setIfInBounds_toArray, List.set_cons_zero, List.set_cons_succ])
     refine takeL (i := 5) (v := ?v5n25) rfl (by kernel_rfl) (by kernel_rfl) (by kernel_rfl) (fun _ _ _ h => h) (by kernel_rfl) (by assumption) ?y5n25 ?r5n25; case y5n25 => (intro w hSw; (try dsimp only at hSw); go_simp; try with_reducible rfl); (try simp only [Act.put, List.setIfInBounds_toArray, List.set_cons_zero, List.set_cons_succ])
     refine doL (i := 6) rfl (by kernel_rfl) (fun K hK => ?_)
     go_simp
     (go_at_call 46; refine HFy.out.mono ?_; rintro e wx ⟨⟨r, rfl, hr0⟩, rfl⟩; have d1 : decide (0 ≤ r) = true := (by simpa using hr0); have d1' : decide (r < 0) = false := (by simpa using hr0))
     (try go_wp2_with fail)
     refine hK.out _ _ ?_ (fun hHeld2 => ?_)
     · (try dsimp only); (first | exact ⟨p4, cl⟩ | exact hHeld)
     clear hK K hHeld
     have hHeld := hHeld2
     clear hHeld2
     try simp only [Act.put, List.setIfInBounds_toArray, List.set_cons_zero, List.set_cons_succ]
     refine takeL (i := 7) (v := ?v7n26) rfl (by kernel_rfl) (by kernel_rfl) (by kernel_rfl) (fun _ _ _ h => h) (by kernel_rfl) (by assumption) ?y7n26 ?r7n26; case y7n26 => (intro w hSw; (try dsimp only at hSw); go_simp; try with_reducible rfl); (try simp only [Act.put, List.setIfInBounds_toArray, List.set_cons_zero, List.set_cons_succ])
     refine takeL (i := 8) (v := ?v8n27) rfl (by kernel_rfl) (by kernel_rfl) (by kernel_rfl) (fun _ _ _ h => h) (by kernel_rfl) (by assumption) ?y8n27 ?r8n27; case y8n27 => (intro w hSw; (try dsimp only at hSw); go_simp; try with_reducible rfl); (try simp only [Act.put, List.setIfInBounds_toArray, List.set_cons_zero, List.set_cons_succ])
     refine takeL (i := 9) (v := ?v9n28) rfl (by kernel_rfl) (by kernel_rfl) (by kernel_rfl) (fun _ _ _ h => h) (by kernel_rfl) (by assumption) ?y9n28 ?r9n28; case y9n28 => (intro w hSw; (try dsimp only at hSw); go_simp; try with_reducible rfl); (try simp only [Act.put, List.setIfInBounds_toArray, List.set_cons_zero, List.set_cons_succ])
     refine takeL (i := 10) (v := ?v10n29) rfl (by kernel_rfl) (by kernel_rfl) (by kernel_rfl) (fun _ _ _ h => h) (by kernel_rfl) (by assumption) ?y10n29 ?r10n29; case y10n29 => (intro w hSw; (try dsimp only at hSw); go_simp; try with_reducible rfl); (try simp only [Act.put, List.setIfInBounds_toArray, List.set_cons_zero, List.set_cons_succ])
     refine takeL (i := 11) (v := ?v11n30) rfl (by kernel_rfl) (by kernel_rfl) (by kernel_rfl) (fun _ _ _ h => h) (by kernel_rfl) (by assumption) ?y11n30 ?r11n30; case y11n30 => (intro w hSw; (try dsimp only at hSw); go_simp; try with_reducible rfl); (try simp only [Act.put, List.setIfInBounds_toArray, List.set_cons_zero, List.set_cons_succ])
     refine takeL (i := 12) (v := ?v12n31) rfl (by kernel_rfl) (by kernel_rfl) (by kernel_rfl) (fun _ _ _ h => h) (by kernel_rfl) (by assumption) ?y12n31 ?r12n31; case y12n31 => (intro w hSw; (try dsimp only at hSw); go_simp; try with_reducible rfl); (try simp only [Act.put, List.setIfInBounds_toArray, List.set_cons_zero, List.set_cons_succ])
     refine takeL (i := 13) (v := ?v13n32) rfl (by kernel_rfl) (by kernel_rfl) (by kernel_rfl) (fun _ _ _ h => h) (by kernel_rfl) (by assumption) ?y13n32 ?r13n32; case y13n32 => (intro w hSw; (try dsimp only at hSw); go_simp; try with_reducible rfl); (try simp only [Act.put, List.setIfInBounds_toArray, List.set_cons_zero, List.set_cons_succ])
     refine takeL (i := 14) (v := ?v14n33) rfl (by kernel_rfl) (by kernel_rfl) (by kernel_rfl) (fun _ _ _ h => h) (by kernel_rfl) (by assumption) ?y14n33 ?r14n33; case y14n33 => (intro w hSw; (try dsimp only at hSw); go_simp; try with_reducible rfl); (try simp only [Act.put, List.setIfInBounds_toArray, List.set_cons_zero, List.set_cons_succ])
     refine takeL (i := 15) (v := ?v15n34) rfl (by kernel_rfl) (by kernel_rfl) (by kernel_rfl) (fun _ _ _ h => h) (by kernel_rfl) (by assumption) ?y15n34 ?r15n34; case y15n34 => (intro w hSw; (try dsimp only at hSw); go_simp; try with_reducible rfl); (try simp only [Act.put, List.setIfInBounds_toArray, List.set_cons_zero, List.set_cons_succ])
     refine takeL (i := 16) (v := ?v16n35) rfl (by kernel_rfl) (by kernel_rfl) (by kernel_rfl) (fun _ _ _ h => h) (by kernel_rfl) (by assumption) ?y16n35 ?r16n35; case y16n35 => (intro w hSw; (try dsimp only at hSw); go_simp; try with_reducible rfl); (try simp only [Act.put, List.setIfInBounds_toArray, List.set_cons_zero, List.set_cons_succ])
     refine takeL (i := 17) (v := ?v17n36) rfl (by kernel_rfl) (by kernel_rfl) (by kernel_rfl) (fun _ _ _ h => h) (by kernel_rfl) (by assumption) ?y17n36 ?r17n36; case y17n36 => (intro w hSw; (try dsimp only at hSw); go_simp; try with_reducible rfl); (try simp only [Act.put, List.setIfInBounds_toArray, List.set_cons_zero, List.set_cons_succ])
     refine doL (i := 18) rfl (by kernel_rfl) (fun K hK => ?_)
     go_simp
     (go_at_call 46; refine HTy.out.mono ?_; rintro e wx ⟨rfl, rfl⟩)
     (try go_wp2_with fail)
     refine hK.out _ _ ?_ (fun hHeld2 => ?_)
     · (try dsimp only); (first | exact ⟨p4, cl⟩ | exact hHeld)
     clear hK K hHeld
     have hHeld := hHeld2
     clear hHeld2
     try simp only [Act.put, List.setIfInBounds_toArray, List.set_cons_zero, List.set_cons_succ]
     refine takeL (i := 19) (v := ?v19n37) rfl (by kernel_rfl) (by kernel_rfl) (by kernel_rfl) (fun _ _ _ h => h) (by kernel_rfl) (by assumption) ?y19n37 ?r19n37; case y19n37 => (intro w hSw; (try dsimp only at hSw); go_simp; try with_reducible rfl); (try simp only [Act.put, List.setIfInBounds_toArray, List.set_cons_zero, List.set_cons_succ])
     refine takeL (i := 20) (v := ?v20n38) rfl (by kernel_rfl) (by kernel_rfl) (by kernel_rfl) (fun _ _ _ h => h) (by kernel_rfl) (by assumption) ?y20n38 ?r20n38; case y20n38 => (intro w hSw; (try dsimp only at hSw); go_simp; try with_reducible rfl); (try simp only [Act.put, List.setIfInBounds_toArray, List.set_cons_zero, List.set_cons_succ])
     refine wpAnyH_done (by kernel_rfl) ?_ _
     go_wp2_with fail
     exact ⟨⟨j + 1, by omega, by go_num, HY, HD⟩, by simp [intOf]; omega⟩
   ·have HFy : Hid (Calls Tryz.prog 46 #[.slice (some ⟨g, 0, none⟩) R.length cap, .int .i64 y] wr.drew fun e w' => e = .returned (.int .i64 (-1)) ∧ w' = wr.drew) := (HFJ.out _ (Below.refl _ _).drew y).mono fun e w' h => by
     obtain ⟨⟨r, h1, h2, h3⟩, h4⟩ := h
     have : ¬ 0 ≤ r := fun e => hm (h3.1 e)
     exact ⟨by rw [h1, show r = -1 by omega], h4⟩
    have HR := hide (HNO.out (by rw [HEj.out, decide_eq_false hm]; rfl))
    clear HEj HYN HNO HTj HFJ HFd HB hm
    go_wp2_with fail
    refine wp_region_held_drew (S := (fun w' => w'.cell? ⟨w.heap.size, 4, none⟩ = some (.slice (some ⟨lb, loff, none⟩) h.log.length lc) ∧ w'.cell? ⟨lb, loff + j, none⟩ = some (.int .i64 y))) (by kernel_rfl) ?_ (fun hHeld => ?_)
    · (try dsimp only); (first | exact ⟨p4, cl⟩ | exact hHeld)
    refine takeL (i := 0) (v := ?v0n39) rfl (by kernel_rfl) (by kernel_rfl) (by kernel_rfl) (fun _ _ _ h => h) (by kernel_rfl) (by assumption) ?y0n39 ?r0n39; case y0n39 => (intro w hSw; (try dsimp only at hSw); go_simp; try with_reducible rfl); (try simp only [Act.put, List.setIfInBounds_toArray, List.set_cons_zero, List.set_cons_succ])
    refine takeL (i := 1) (v := ?v1n40) rfl (by kernel_rfl) (by kernel_rfl) (by kernel_rfl) (fun _ _ _ h => h) (by kernel_rfl) (by assumption) ?y1n40 ?r1n40; case y1n40 => (intro w hSw; (try dsimp only at hSw); go_simp; try with_reducible rfl); (try simp only [Act.put, List.setIfInBounds_toArray, List.set_cons_zero, List.set_cons_succ])
    refine takeL (i := 2) (v := ?v2n41) rfl (by kernel_rfl) (by kernel_rfl) (by kernel_rfl) (fun _ _ _ h => h) (by kernel_rfl) (by assumption) ?y2n41 ?r2n41; case y2n41 => (intro w hSw; (try dsimp only at hSw); go_simp; try with_reducible rfl); (try simp only [Act.put, List.setIfInBounds_toArray, List.set_cons_zero, List.set_cons_succ])
    refine takeL (i := 3) (v := ?v3n42) rfl (by kernel_rfl) (by kernel_rfl) (by kernel_rfl) (fun _ _ _ h => h) (by kernel_rfl) (by assumption) ?y3n42 ?r3n42; case y3n42 => (intro w hSw; (try dsimp only at hSw); go_simp; try with_reducible rfl); (try simp only [Act.put, List.setIfInBounds_toArray, List.set_cons_zero, List.set_cons_succ])
    refine takeL (i := 4) (v := ?v4n43) rfl (by kernel_rfl) (by kernel_rfl) (by kernel_rfl) (fun _ _ _ h => h) (by kernel_rfl) (by assumption) ?y4n43 ?r4n43; case y4n43 => (intro w hSw; (try dsimp only at hSw); go_simp; try with_reducible rfl); (try simp only [Act.put, List.setIfInBounds_toArray, List.set_cons_zero, List.set_cons_succ])
    refine takeL (i := 5) (v := ?v5n44) rfl (by kernel_rfl) (by kernel_rfl) (by kernel_rfl) (fun _ _ _ h => h) (by kernel_rfl) (by assumption) ?y5n44 ?r5n44; case y5n44 => (intro w hSw; (try dsimp only at hSw); go_simp; try with_reducible rfl); (try simp only [Act.put, List.setIfInBounds_toArray, List.set_cons_zero, List.set_cons_succ])
    refine doL (i := 6) rfl (by kernel_rfl) (fun K hK => ?_)
    go_simp
    (go_at_call 46; refine HFy.out.mono ?_; rintro e wx ⟨rfl, rfl⟩)
    (try go_wp2_with fail)
    refine hK.out _ _ ?_ (fun hHeld2 => ?_)
    · (try dsimp only); (first | exact ⟨p4, cl⟩ | exact hHeld)
    clear hK K hHeld
    have hHeld := hHeld2
    clear hHeld2
    try simp only [Act.put, List.setIfInBounds_toArray, List.set_cons_zero, List.set_cons_succ]
    refine takeL (i := 7) (v := ?v7n45) rfl (by kernel_rfl) (by kernel_rfl) (by kernel_rfl) (fun _ _ _ h => h) (by kernel_rfl) (by assumption) ?y7n45 ?r7n45; case y7n45 => (intro w hSw; (try dsimp only at hSw); go_simp; try with_reducible rfl); (try simp only [Act.put, List.setIfInBounds_toArray, List.set_cons_zero, List.set_cons_succ])
    refine takeL (i := 8) (v := ?v8n46) rfl (by kernel_rfl) (by kernel_rfl) (by kernel_rfl) (fun _ _ _ h => h) (by kernel_rfl) (by assumption) ?y8n46 ?r8n46; case y8n46 => (intro w hSw; (try dsimp only at hSw); go_simp; try with_reducible rfl); (try simp only [Act.put, List.setIfInBounds_toArray, List.set_cons_zero, List.set_cons_succ])
    refine skipL (i := 9) rfl (by kernel_rfl) (by kernel_rfl) (by kernel_rfl) (fun _ _ _ h => h) (by kernel_rfl) (by assumption) ?_; (try simp only [Act.put, List.setIfInBounds_toArray, List.set_cons_zero, List.set_cons_succ])
    refine skipL (i := 10) rfl (by kernel_rfl) (by kernel_rfl) (by kernel_rfl) (fun _ _ _ h => h) (by kernel_rfl) (by assumption) ?_; (try simp only [Act.put, List.setIfInBounds_toArray, List.set_cons_zero, List.set_cons_succ])
    refine skipL (i := 11) rfl (by kernel_rfl) (by kernel_rfl) (by kernel_rfl) (fun _ _ _ h => h) (by kernel_rfl) (by assumption) ?_; (try simp only [Act.put, List.setIfInBounds_toArray, List.set_cons_zero, List.set_cons_succ])
    refine skipL (i := 12) rfl (by kernel_rfl) (by kernel_rfl) (by kernel_rfl) (fun _ _ _ h => h) (by kernel_rfl) (by assumption) ?_; (try simp only [Act.put, List.setIfInBounds_toArray, List.set_cons_zero, List.set_cons_succ])
    refine skipL (i := 13) rfl (by kernel_rfl) (by kernel_rfl) (by kernel_rfl) (fun _ _ _ h => h) (by kernel_rfl) (by assumption) ?_; (try simp only [Act.put, List.setIfInBounds_toArray, List.set_cons_zero, List.set_cons_succ])
    refine skipL (i := 14) rfl (by kernel_rfl) (by kernel_rfl) (by kernel_rfl) (fun _ _ _ h => h) (by kernel_rfl) (by assumption) ?_; (try simp only [Act.put, List.setIfInBounds_toArray, List.set_cons_zero, List.set_cons_succ])
    refine skipL (i := 15) rfl (by kernel_rfl) (by kernel_rfl) (by kernel_rfl) (fun _ _ _ h => h) (by kernel_rfl) (by assumption) ?_; (try simp only [Act.put, List.setIfInBounds_toArray, List.set_cons_zero, List.set_cons_succ])
    refine skipL (i := 16) rfl (by kernel_rfl) (by kernel_rfl) (by kernel_rfl) (fun _ _ _ h => h) (by kernel_rfl) (by assumption) ?_; (try simp only [Act.put, List.setIfInBounds_toArray, List.set_cons_zero, List.set_cons_succ])
    refine skipL (i := 17) rfl (by kernel_rfl) (by kernel_rfl) (by kernel_rfl) (fun _ _ _ h => h) (by kernel_rfl) (by assumption) ?_; (try simp only [Act.put, List.setIfInBounds_toArray, List.set_cons_zero, List.set_cons_succ])
    refine skipL (i := 18) rfl (by kernel_rfl) (by kernel_rfl) (by kernel_rfl) (fun _ _ _ h => h) (by kernel_rfl) (by assumption) ?_; (try simp only [Act.put, List.setIfInBounds_toArray, List.set_cons_zero, List.set_cons_succ])
    refine skipL (i := 19) rfl (by kernel_rfl) (by kernel_rfl) (by kernel_rfl) (fun _ _ _ h => h) (by kernel_rfl) (by assumption) ?_; (try simp only [Act.put, List.setIfInBounds_toArray, List.set_cons_zero, List.set_cons_succ])
    refine takeL (i := 20) (v := ?v20n47) rfl (by kernel_rfl) (by kernel_rfl) (by kernel_rfl) (fun _ _ _ h => h) (by kernel_rfl) (by assumption) ?y20n47 ?r20n47; case y20n47 => (intro w hSw; (try dsimp only at hSw); go_simp; try with_reducible rfl); (try simp only [Act.put, List.setIfInBounds_toArray, List.set_cons_zero, List.set_cons_succ])
    refine wpAnyH_done (by kernel_rfl) ?_ _
    go_wp2_with fail
    go_ret
    exact ⟨ret_bool HR.out.symm, Br.out.drew⟩
  ·have hq : ¬ (j : Int) < (h.log.length : Int) := by omega
   have HR : Hid (allTo lf h.log.length = true) := by show _ = _; rw [← show j = h.log.length by omega]; exact HA.out
   go_wp2_with fail
   go_ret
   exact ⟨ret_bool HR.out.symm, Br.out⟩
set_option maxHeartbeats 6400000 in
set_option maxRecDepth 20000 in
theorem specHeapOk_any (ga : Option Addr) (gc lo hi : Nat) (gs : List (List Ty)) (h : GHeap) (wa la : Option Addr) (wc lc lo2 hi2 : Nat) (w : World) (hN : Few gs) (hc : gs.length ≤ gc) (hl : lo ≤ hi) (hh : hi ≤ w.heap.size) (hx : GroupsIn w lo hi ga gs) (H : HIn w lo2 hi2 h wa la wc lc) :
 Calls Tryz.prog 17 #[.slice ga gs.length gc, heapV h wa la wc lc] w fun e w' => e = .returned (.bool (heapOkF gs h)) ∧ Below w.heap.size w w' := by
 have HKO := hide (fun (W : World) (hb : Below w.heap.size w W) => specKinOk_any ga gc lo hi gs W hN hc hl (Nat.le_trans hh hb.size) (hx.keep (hb.mono hh)))
 have HFL := hide (fun (W : World) (hb : Below w.heap.size w W) => l1Flat_any ga gc lo hi gs W hN (hx.keep (hb.mono hh)) (Nat.le_trans hh hb.size) hl)
 have HSZ := hide (fun (W : World) (hb : Below w.heap.size w W) => l7Size_any h wa la wc lc lo2 hi2 W (H.keep (hb.mono H.hh)))
 have HZE := hide (fun (hs : SizeOk h) (W : World) (hb : Below w.heap.size w W) => l7Zero_any h wa la wc lc lo2 hi2 W (H.keep (hb.mono H.hh)) hs)
 have HTH := hide (fun (hs : SizeOk h) (hk : kinCount gs ≤ 8) (ta : Option Addr) (tc lot hit : Nat) (W : World) (hb : Below w.heap.size w W) (hxt : TypesIn W lot hit ta (flat gs)) (hht : hit ≤ W.heap.size) => l7Things_any ta wa la tc wc lc lot hit lo2 hi2 gs h W hk hxt hht (H.keep (hb.mono H.hh)) hs)
 have HLO := hide (fun (hP : Parts gs) (hs : SizeOk h) (ta sa : Option Addr) (tc sc lot hit lo3 hi3 : Nat) (W : World) (hb : Below w.heap.size w W) (hxt : TypesIn W lot hit ta (flat gs)) (hht : hit ≤ W.heap.size) (hsx : IntsIn W lo3 hi3 sa (startsF gs h)) (hh3 : hi3 ≤ W.heap.size) => l7Log_any ta sa wa la tc sc wc lc lot hit lo2 hi2 lo3 hi3 gs h (startsF gs h) W hP hxt hht (H.keep (hb.mono H.hh)) hsx hh3 (starts_len hs) (starts_w hs) (by have := hs.o2; have := hs.n2; omega))
 have HWO := hide (fun (hP : Parts gs) (hs : SizeOk h) (ta sa : Option Addr) (tc sc lot hit lo3 hi3 a : Nat) (W : World) (hb : Below w.heap.size w W) (hxt : TypesIn W lot hit ta (flat gs)) (hht : hit ≤ W.heap.size) (hsx : IntsIn W lo3 hi3 sa (startsF gs h)) (hh3 : hi3 ≤ W.heap.size) (h0 : 0 ≤ lenF gs (nAt h.words a)) (hin : a + 1 + lenA gs h a ≤ h.words.length) => l7Words_any ga ta sa wa la gc tc sc wc lc lo hi lot hit lo2 hi2 lo3 hi3 gs h (startsF gs h) a W hP hN hc hl (Nat.le_trans hh hb.size) (hx.keep (hb.mono hh)) hxt hht (H.keep (hb.mono H.hh)) hsx hh3 (by have := starts_len (gs := gs) hs; omega) (starts_ok hs) h0 hin (by have := hs.o2; have := hs.n2; omega))
 have HB1 := hide (one_b w (.cells #[.slice wa h.words.length wc, .int .i64 h.old, .int .i64 h.oldAt, .int .i64 h.youngAt, .slice la h.log.length lc] 33))
 have HP1 := hide (Rec.new w 33 [.slice wa h.words.length wc, .int .i64 h.old, .int .i64 h.oldAt, .int .i64 h.youngAt, .slice la h.log.length lc])
 have HOK : Hid (heapOkF gs h = ((kinOkF gs && (sizeF h && zeroF h)) && (wholeF gs h && (logF gs h (startsF gs h) && allTo (fun j => wordsF gs h (startsF gs h) (nAt (startsF gs h) j).toNat) (startsF gs h).length)))) := rfl
 have HPA : Hid (kinOkF gs = true → Parts gs ∧ kinCount gs ≤ 8) := fun e => ⟨kinOk_parts e, (kinOk_parts e).w.1⟩
 have HSI : Hid (sizeF h = true → SizeOk h) := fun e => (sizeF_iff h).1 e
 have HSW := hide (fun (hs : SizeOk h) => starts_w (gs := gs) hs)
 have HSL := hide (fun (hs : SizeOk h) => starts_len (gs := gs) hs)
 clear hN hx H
 unfold heapV at *
 generalize heapOkF gs h = R at *
 go_enter Tryz.func17, Tryz.ntmps17
 go_wp2_with fail
 refine (HKO.out _ HB1.out).mono ?_
 rintro e w2 ⟨rfl, b2⟩
 have B2 := hide (HB1.out.trans (b2.mono HB1.out.size))
 have P2 := hide (HP1.out.below b2 HP1.out.lt)
 clear b2 HB1 HP1 HKO
 cases hk : kinOkF gs with
 | false =>
  have HR : Hid (R = false) := by show _ = _; rw [HOK.out, hk]; rfl
  clear HOK hk
  go_wp2_with fail
  go_ret
  exact ⟨ret_bool HR.out.symm, B2.out⟩
 | true =>
 obtain ⟨hP, hk8⟩ := HPA.out hk
 have p0 := P2.out.cell (o := 0) rfl
 have p1 := P2.out.cell (o := 1) rfl
 have p2 := P2.out.cell (o := 2) rfl
 have p3 := P2.out.cell (o := 3) rfl
 have p4 := P2.out.cell (o := 4) rfl
 have HP := hide hP
 rw [hk, Bool.true_and] at HOK
 clear HPA hk hP
 go_wp2_with fail
 refine (HSZ.out _ B2.out).mono ?_
 rintro e w3 ⟨rfl, b3⟩
 have B3 := hide (B2.out.trans (b3.mono B2.out.size))
 have P3 := hide (P2.out.below b3 P2.out.lt)
 clear b3 B2 P2 p0 p1 p2 p3 p4 HSZ
 cases hs : sizeF h with
 | false =>
  have HR : Hid (R = false) := by show _ = _; rw [HOK.out, hs]; rfl
  clear HOK hs
  go_wp2_with fail
  go_ret
  exact ⟨ret_bool HR.out.symm, B3.out⟩
 | true =>
 have HSO := hide (HSI.out hs)
 have p0 := P3.out.cell (o := 0) rfl
 have p1 := P3.out.cell (o := 1) rfl
 have p2 := P3.out.cell (o := 2) rfl
 have p3 := P3.out.cell (o := 3) rfl
 have p4 := P3.out.cell (o := 4) rfl
 rw [hs, Bool.true_and] at HOK
 clear HSI hs
 go_wp2_with fail
 refine (HZE.out HSO.out _ B3.out).mono ?_
 rintro e w4 ⟨rfl, b4⟩
 have B4 := hide (B3.out.trans (b4.mono B3.out.size))
 have P4 := hide (P3.out.below b4 P3.out.lt)
 clear b4 B3 P3 p0 p1 p2 p3 p4 HZE
 cases hz : zeroF h with
 | false =>
  have HR : Hid (R = false) := by show _ = _; rw [HOK.out, hz]; rfl
  clear HOK hz
  go_wp2_with fail
  go_ret
  exact ⟨ret_bool HR.out.symm, B4.out⟩
 | true =>
 rw [hz, Bool.true_and] at HOK
 clear hz
 go_wp2_with fail
 refine (HFL.out _ B4.out).mono ?_
 rintro e w5 ⟨ta, tc, rfl, hty, b5⟩
 have B5 := hide (B4.out.trans (b5.mono B4.out.size))
 have P5 := hide (P4.out.below b5 P4.out.lt)
 have T5 := hide hty
 clear hty b5 B4 P4 HFL
 have p0 := P5.out.cell (o := 0) rfl
 have p1 := P5.out.cell (o := 1) rfl
 have p2 := P5.out.cell (o := 2) rfl
 have p3 := P5.out.cell (o := 3) rfl
 have p4 := P5.out.cell (o := 4) rfl
 go_wp2_with fail
 refine (HTH.out HSO.out hk8 ta tc lo w5.heap.size _ B5.out T5.out (Nat.le_refl _)).mono ?_
 rintro e w6 ⟨g, cap, rfl, hr, b6⟩
 have B6 := hide (B5.out.trans (b6.mono B5.out.size))
 have P6 := hide (P5.out.below b6 P5.out.lt)
 have T6 := hide (T5.out.keep b6)
 have t6 : w5.heap.size ≤ w6.heap.size := b6.size
 have S6 := hide hr.intsIn
 clear hr b6 B5 P5 T5 p0 p1 p2 p3 p4 HTH
 cases hw : wholeF gs h with
 | false =>
  have HR : Hid (R = false) := by show _ = _; rw [HOK.out, hw]; rfl
  clear HOK hw
  go_wp2_with fail
  go_ret
  exact ⟨ret_bool HR.out.symm, B6.out⟩
 | true =>
 rw [hw, Bool.true_and] at HOK
 clear hw
 have p0 := P6.out.cell (o := 0) rfl
 have p1 := P6.out.cell (o := 1) rfl
 have p2 := P6.out.cell (o := 2) rfl
 have p3 := P6.out.cell (o := 3) rfl
 have p4 := P6.out.cell (o := 4) rfl
 go_wp2_with fail
 refine (HLO.out HP.out HSO.out ta (some ⟨g, 0, none⟩) tc cap lo w5.heap.size w5.heap.size w6.heap.size _ B6.out T6.out t6 S6.out (Nat.le_refl _)).mono ?_
 rintro e w7 ⟨rfl, b7⟩
 have B7 := hide (B6.out.trans (b7.mono B6.out.size))
 have P7 := hide (P6.out.below b7 P6.out.lt)
 have T7 := hide (T6.out.keep (b7.mono t6))
 have t7 : w5.heap.size ≤ w7.heap.size := Nat.le_trans t6 b7.size
 have s7 : w6.heap.size ≤ w7.heap.size := b7.size
 have S7 := hide (S6.out.keep b7)
 clear b7 B6 P6 T6 S6 p0 p1 p2 p3 p4 HLO
 cases hg : logF gs h (startsF gs h) with
 | false =>
  have HR : Hid (R = false) := by show _ = _; rw [HOK.out, hg]; rfl
  clear HOK hg
  go_wp2_with fail
  go_ret
  exact ⟨ret_bool HR.out.symm, B7.out⟩
 | true =>
 rw [hg, Bool.true_and] at HOK
 clear hg
 have HWX := hide (fun (a : Nat) (h0 : 0 ≤ lenF gs (nAt h.words a)) (hin : a + 1 + lenA gs h a ≤ h.words.length) (W : World) (hb : Below w7.heap.size w7 W) => HWO.out HP.out HSO.out ta (some ⟨g, 0, none⟩) tc cap lo w5.heap.size w5.heap.size w6.heap.size a W (B7.out.trans (hb.mono B7.out.size)) (T7.out.keep (hb.mono t7)) (Nat.le_trans t7 hb.size) (S7.out.keep (hb.mono s7)) (Nat.le_trans s7 hb.size) h0 hin)
 have HSK := hide (fun (W : World) (hb : Below w7.heap.size w7 W) => S7.out.keep (hb.mono s7))
 have HSw := hide (HSW.out HSO.out)
 have hsl := HSL.out HSO.out
 clear HWO HSW HSL T7 S7 HP HSO hk8
 obtain ⟨S, hS⟩ : ∃ S, S = startsF gs h := ⟨_, rfl⟩
 rw [← hS] at HWX HSK HSw hsl HOK ⊢
 clear hS
 obtain ⟨F, hF⟩ : ∃ F : Nat → Bool, F = fun j => wordsF gs h S (nAt S j).toNat := ⟨_, rfl⟩
 have HFj : Hid (∀ j, F j = wordsF gs h S (nAt S j).toNat) := fun j => by rw [hF]
 rw [← hF] at HOK
 clear hF
 go_wp2_with fail
 go_loopw [8] (fun i wr => ∃ j : Nat, j ≤ S.length ∧ i = .int .i64 (j : Int) ∧ Hid (allTo F j = true) ∧ Hid (Below w7.heap.size w7 wr)) (fun i wr => S.length - (intOf i).toNat)
 case atStart => exact ⟨0, Nat.zero_le _, rfl, rfl, Below.refl _ _⟩
 case round =>
  obtain ⟨j, hj, rfl, HA, HB⟩ := hrel
  have Br := hide (B7.out.trans (HB.out.mono B7.out.size))
  have Pr := hide (P7.out.below HB.out P7.out.lt)
  have SK := hide (HSK.out wr HB.out)
  by_cases hlt : j < S.length
  ·obtain ⟨q, hq, hq0, hq1⟩ := HSw.out (nAt S j) (mem_of_nAt hlt)
   obtain ⟨g', off, hga, g1, g2, cs⟩ := ints_at SK.out hlt
   cases hga
   rw [hq, Nat.zero_add] at cs
   have p0 := Pr.out.cell (o := 0) rfl
   have p1 := Pr.out.cell (o := 1) rfl
   have p2 := Pr.out.cell (o := 2) rfl
   have p3 := Pr.out.cell (o := 3) rfl
   have p4 := Pr.out.cell (o := 4) rfl
   have hgl : g < wr.heap.size := by have := HB.out.size; omega
   have HC := hide (HWX.out q hq0 hq1 wr.drew HB.out.drew)
   have HYN : Hid (F j = true → allTo F (j + 1) = true) := fun e => by show (allTo F j && F j) = true; rw [HA.out, e]; rfl
   have HNO : Hid (F j = false → allTo F S.length = false) := fun e => allTo_false hlt e
   have HEj := hide (HFj.out j)
   rw [hq, Int.toNat_natCast] at HEj
   have q0 : (0 : Int) ≤ (j : Int) := by omega
   have q1 : (j : Int) < (S.length : Int) := by omega
   have bd : Hid (Below w7.heap.size w7 wr.drew) := HB.out.drew
   have sz := HB.out.size
   clear HFj HSw HWX HSK SK HA hq0 hq1 hq HB
   obtain ⟨r, hr⟩ : ∃ r, r = wordsF gs h S q := ⟨_, rfl⟩
   rw [← hr] at HC HEj
   clear hr
   cases r with
   | false =>
    have HR : Hid (R = false) := by show _ = _; rw [HOK.out]; exact HNO.out HEj.out
    clear HOK HYN HNO HEj
    go_wp2_with fail
    refine wp_region_held_drew (S := (fun w' => w'.cell? ⟨w.heap.size, 0, none⟩ = some (.slice wa h.words.length wc) ∧ w'.cell? ⟨w.heap.size, 1, none⟩ = some (.int .i64 h.old) ∧ w'.cell? ⟨w.heap.size, 2, none⟩ = some (.int .i64 h.oldAt) ∧ w'.cell? ⟨w.heap.size, 3, none⟩ = some (.int .i64 h.youngAt) ∧ w'.cell? ⟨w.heap.size, 4, none⟩ = some (.slice la h.log.length lc) ∧ w'.cell? ⟨g, j, none⟩ = some (.int .i64 (q : Int)))) (by kernel_rfl) ?_ (fun hHeld => ?_)
    · (try dsimp only); (first | exact ⟨p0, p1, p2, p3, p4, cs⟩ | exact ⟨k0, k1, k2, k3, k4, k5⟩)
    refine takeL (i := 0) (v := ?v0n1) rfl (by kernel_rfl) (by kernel_rfl) (by kernel_rfl) (fun _ _ _ h => h) (by kernel_rfl) (by assumption) ?y0n1 ?r0n1; case y0n1 => (intro w hSw; (try dsimp only at hSw); go_simp; try with_reducible rfl); (try simp only [Act.put, List.setIfInBounds_toArray, List.set_cons_zero, List.set_cons_succ])
    refine takeL (i := 1) (v := ?v1n2) rfl (by kernel_rfl) (by kernel_rfl) (by kernel_rfl) (fun _ _ _ h => h) (by kernel_rfl) (by assumption) ?y1n2 ?r1n2; case y1n2 => (intro w hSw; (try dsimp only at hSw); go_simp; try with_reducible rfl); (try simp only [Act.put, List.setIfInBounds_toArray, List.set_cons_zero, List.set_cons_succ])
    refine takeL (i := 2) (v := ?v2n3) rfl (by kernel_rfl) (by kernel_rfl) (by kernel_rfl) (fun _ _ _ h => h) (by kernel_rfl) (by assumption) ?y2n3 ?r2n3; case y2n3 => (intro w hSw; (try dsimp only at hSw); go_simp; try with_reducible rfl); (try simp only [Act.put, List.setIfInBounds_toArray, List.set_cons_zero, List.set_cons_succ])
    refine takeL (i := 3) (v := ?v3n4) rfl (by kernel_rfl) (by kernel_rfl) (by kernel_rfl) (fun _ _ _ h => h) (by kernel_rfl) (by assumption) ?y3n4 ?r3n4; case y3n4 => (intro w hSw; (try dsimp only at hSw); go_simp; try with_reducible rfl); (try simp only [Act.put, List.setIfInBounds_toArray, List.set_cons_zero, List.set_cons_succ])
    refine takeL (i := 4) (v := ?v4n5) rfl (by kernel_rfl) (by kernel_rfl) (by kernel_rfl) (fun _ _ _ h => h) (by kernel_rfl) (by assumption) ?y4n5 ?r4n5; case y4n5 => (intro w hSw; (try dsimp only at hSw); go_simp; try with_reducible rfl); (try simp only [Act.put, List.setIfInBounds_toArray, List.set_cons_zero, List.set_cons_succ])
    refine takeL (i := 5) (v := ?v5n6) rfl (by kernel_rfl) (by kernel_rfl) (by kernel_rfl) (fun _ _ _ h => h) (by kernel_rfl) (by assumption) ?y5n6 ?r5n6; case y5n6 => (intro w hSw; (try dsimp only at hSw); go_simp; try with_reducible rfl); (try simp only [Act.put, List.setIfInBounds_toArray, List.set_cons_zero, List.set_cons_succ])
    refine takeL (i := 6) (v := ?v6n7) rfl (by kernel_rfl) (by kernel_rfl) (by kernel_rfl) (fun _ _ _ h => h) (by kernel_rfl) (by assumption) ?y6n7 ?r6n7; case y6n7 => (intro w hSw; (try dsimp only at hSw); go_simp; try with_reducible rfl); (try simp only [Act.put, List.setIfInBounds_toArray, List.set_cons_zero, List.set_cons_succ])
    refine takeL (i := 7) (v := ?v7n8) rfl (by kernel_rfl) (by kernel_rfl) (by kernel_rfl) (fun _ _ _ h => h) (by kernel_rfl) (by assumption) ?y7n8 ?r7n8; case y7n8 => (intro w hSw; (try dsimp only at hSw); go_simp; try with_reducible rfl); (try simp only [Act.put, List.setIfInBounds_toArray, List.set_cons_zero, List.set_cons_succ])
    refine doL (i := 8) rfl (by kernel_rfl) (fun K hK => ?_)
    go_simp
    (go_at_call 33; refine HC.out.mono ?_; rintro e we ⟨rfl, be⟩; have k0 := (be.cell (p := ⟨w.heap.size, 0, none⟩) Pr.out.lt).trans hHeld.1; have k1 := (be.cell (p := ⟨w.heap.size, 1, none⟩) Pr.out.lt).trans hHeld.2.1; have k2 := (be.cell (p := ⟨w.heap.size, 2, none⟩) Pr.out.lt).trans hHeld.2.2.1; have k3 := (be.cell (p := ⟨w.heap.size, 3, none⟩) Pr.out.lt).trans hHeld.2.2.2.1; have k4 := (be.cell (p := ⟨w.heap.size, 4, none⟩) Pr.out.lt).trans hHeld.2.2.2.2.1; have k5 := (be.cell (p := ⟨g, j, none⟩) hgl).trans hHeld.2.2.2.2.2; have bo := hide (bd.out.trans (be.mono sz)); have Be := hide (B7.out.trans (bo.out.mono B7.out.size)); clear be)
    (try go_wp2_with fail)
    refine hK.out _ _ ?_ (fun hHeld2 => ?_)
    · (try dsimp only); (first | exact ⟨p0, p1, p2, p3, p4, cs⟩ | exact ⟨k0, k1, k2, k3, k4, k5⟩)
    clear hK K hHeld
    have hHeld := hHeld2
    clear hHeld2
    try simp only [Act.put, List.setIfInBounds_toArray, List.set_cons_zero, List.set_cons_succ]
    refine takeL (i := 9) (v := ?v9n9) rfl (by kernel_rfl) (by kernel_rfl) (by kernel_rfl) (fun _ _ _ h => h) (by kernel_rfl) (by assumption) ?y9n9 ?r9n9; case y9n9 => (intro w hSw; (try dsimp only at hSw); go_simp; try with_reducible rfl); (try simp only [Act.put, List.setIfInBounds_toArray, List.set_cons_zero, List.set_cons_succ])
    refine wpAnyH_done (by kernel_rfl) ?_ _
    go_wp2_with fail
    go_ret
    exact ⟨ret_bool HR.out.symm, Be.out⟩
   | true =>
    have HY := hide (HYN.out HEj.out)
    clear HYN HNO HEj
    go_wp2_with fail
    refine wp_region_held_drew (S := (fun w' => w'.cell? ⟨w.heap.size, 0, none⟩ = some (.slice wa h.words.length wc) ∧ w'.cell? ⟨w.heap.size, 1, none⟩ = some (.int .i64 h.old) ∧ w'.cell? ⟨w.heap.size, 2, none⟩ = some (.int .i64 h.oldAt) ∧ w'.cell? ⟨w.heap.size, 3, none⟩ = some (.int .i64 h.youngAt) ∧ w'.cell? ⟨w.heap.size, 4, none⟩ = some (.slice la h.log.length lc) ∧ w'.cell? ⟨g, j, none⟩ = some (.int .i64 (q : Int)))) (by kernel_rfl) ?_ (fun hHeld => ?_)
    · (try dsimp only); (first | exact ⟨p0, p1, p2, p3, p4, cs⟩ | exact ⟨k0, k1, k2, k3, k4, k5⟩)
    refine takeL (i := 0) (v := ?v0n10) rfl (by kernel_rfl) (by kernel_rfl) (by kernel_rfl) (fun _ _ _ h => h) (by kernel_rfl) (by assumption) ?y0n10 ?r0n10; case y0n10 => (intro w hSw; (try dsimp only at hSw); go_simp; try with_reducible rfl); (try simp only [Act.put, List.setIfInBounds_toArray, List.set_cons_zero, List.set_cons_succ])
    refine takeL (i := 1) (v := ?v1n11) rfl (by kernel_rfl) (by kernel_rfl) (by kernel_rfl) (fun _ _ _ h => h) (by kernel_rfl) (by assumption) ?y1n11 ?r1n11; case y1n11 => (intro w hSw; (try dsimp only at hSw); go_simp; try with_reducible rfl); (try simp only [Act.put, List.setIfInBounds_toArray, List.set_cons_zero, List.set_cons_succ])
    refine takeL (i := 2) (v := ?v2n12) rfl (by kernel_rfl) (by kernel_rfl) (by kernel_rfl) (fun _ _ _ h => h) (by kernel_rfl) (by assumption) ?y2n12 ?r2n12; case y2n12 => (intro w hSw; (try dsimp only at hSw); go_simp; try with_reducible rfl); (try simp only [Act.put, List.setIfInBounds_toArray, List.set_cons_zero, List.set_cons_succ])
    refine takeL (i := 3) (v := ?v3n13) rfl (by kernel_rfl) (by kernel_rfl) (by kernel_rfl) (fun _ _ _ h => h) (by kernel_rfl) (by assumption) ?y3n13 ?r3n13; case y3n13 => (intro w hSw; (try dsimp only at hSw); go_simp; try with_reducible rfl); (try simp only [Act.put, List.setIfInBounds_toArray, List.set_cons_zero, List.set_cons_succ])
    refine takeL (i := 4) (v := ?v4n14) rfl (by kernel_rfl) (by kernel_rfl) (by kernel_rfl) (fun _ _ _ h => h) (by kernel_rfl) (by assumption) ?y4n14 ?r4n14; case y4n14 => (intro w hSw; (try dsimp only at hSw); go_simp; try with_reducible rfl); (try simp only [Act.put, List.setIfInBounds_toArray, List.set_cons_zero, List.set_cons_succ])
    refine takeL (i := 5) (v := ?v5n15) rfl (by kernel_rfl) (by kernel_rfl) (by kernel_rfl) (fun _ _ _ h => h) (by kernel_rfl) (by assumption) ?y5n15 ?r5n15; case y5n15 => (intro w hSw; (try dsimp only at hSw); go_simp; try with_reducible rfl); (try simp only [Act.put, List.setIfInBounds_toArray, List.set_cons_zero, List.set_cons_succ])
    refine takeL (i := 6) (v := ?v6n16) rfl (by kernel_rfl) (by kernel_rfl) (by kernel_rfl) (fun _ _ _ h => h) (by kernel_rfl) (by assumption) ?y6n16 ?r6n16; case y6n16 => (intro w hSw; (try dsimp only at hSw); go_simp; try with_reducible rfl); (try simp only [Act.put, List.setIfInBounds_toArray, List.set_cons_zero, List.set_cons_succ])
    refine takeL (i := 7) (v := ?v7n17) rfl (by kernel_rfl) (by kernel_rfl) (by kernel_rfl) (fun _ _ _ h => h) (by kernel_rfl) (by assumption) ?y7n17 ?r7n17; case y7n17 => (intro w hSw; (try dsimp only at hSw); go_simp; try with_reducible rfl); (try simp only [Act.put, List.setIfInBounds_toArray, List.set_cons_zero, List.set_cons_succ])
    refine doL (i := 8) rfl (by kernel_rfl) (fun K hK => ?_)
    go_simp
    (go_at_call 33; refine HC.out.mono ?_; rintro e we ⟨rfl, be⟩; have k0 := (be.cell (p := ⟨w.heap.size, 0, none⟩) Pr.out.lt).trans hHeld.1; have k1 := (be.cell (p := ⟨w.heap.size, 1, none⟩) Pr.out.lt).trans hHeld.2.1; have k2 := (be.cell (p := ⟨w.heap.size, 2, none⟩) Pr.out.lt).trans hHeld.2.2.1; have k3 := (be.cell (p := ⟨w.heap.size, 3, none⟩) Pr.out.lt).trans hHeld.2.2.2.1; have k4 := (be.cell (p := ⟨w.heap.size, 4, none⟩) Pr.out.lt).trans hHeld.2.2.2.2.1; have k5 := (be.cell (p := ⟨g, j, none⟩) hgl).trans hHeld.2.2.2.2.2; have bo := hide (bd.out.trans (be.mono sz)); have Be := hide (B7.out.trans (bo.out.mono B7.out.size)); clear be)
    (try go_wp2_with fail)
    refine hK.out _ _ ?_ (fun hHeld2 => ?_)
    · (try dsimp only); (first | exact ⟨p0, p1, p2, p3, p4, cs⟩ | exact ⟨k0, k1, k2, k3, k4, k5⟩)
    clear hK K hHeld
    have hHeld := hHeld2
    clear hHeld2
    try simp only [Act.put, List.setIfInBounds_toArray, List.set_cons_zero, List.set_cons_succ]
    refine takeL (i := 9) (v := ?v9n18) rfl (by kernel_rfl) (by kernel_rfl) (by kernel_rfl) (fun _ _ _ h => h) (by kernel_rfl) (by assumption) ?y9n18 ?r9n18; case y9n18 => (intro w hSw; (try dsimp only at hSw); go_simp; try with_reducible rfl); (try simp only [Act.put, List.setIfInBounds_toArray, List.set_cons_zero, List.set_cons_succ])
    refine wpAnyH_done (by kernel_rfl) ?_ _
    go_wp2_with fail
    exact ⟨⟨j + 1, by omega, by go_num, HY, bo⟩, by simp [intOf]; omega⟩
  ·have hq : ¬ (j : Int) < (S.length : Int) := by omega
   have HR : Hid (R = true) := by show _ = _; rw [HOK.out, ← show j = S.length by omega]; exact HA.out
   go_wp2_with fail
   go_ret
   exact ⟨ret_bool HR.out.symm, Br.out⟩
theorem field_in {k o : Int} {n : Nat} (h : fieldOk k o (n : Nat) = true) : ¬ k = 1 → -2 ≤ o ∧ o < (n : Int) := fun h1 => by
 unfold fieldOk at h
 rw [if_neg h1] at h
 split at h
 ·simp at h; omega
 ·cases h
/-- A value is of a sort, in a heap. -/
def heapFitsF (gs : List (List Ty)) (h : GHeap) (k n : Int) (f : Fd) : Bool := heapOkF gs h && (fieldOk f.kind f.of (kinCount gs : Nat) && hfitF gs h (startsF gs h) k n f)
theorem heapOk_ok {gs : List (List Ty)} {h : GHeap} (e : heapOkF gs h = true) : Parts gs ∧ kinCount gs ≤ 8 ∧ SizeOk h := by
 unfold heapOkF at e
 simp only [Bool.and_eq_true] at e
 exact ⟨kinOk_parts e.1.1, (kinOk_parts e.1.1).w.1, (sizeF_iff h).1 e.1.2.1⟩
theorem heapFitsF_fits (gs : List (List Ty)) (h : GHeap) (k n fk fo : Int) (fm : Bool) : heapFitsF gs h k n ⟨fk, fo, fm⟩ = (heapOkF gs h && fitsV gs (stL h (startsF gs h)) k n ⟨fk, fo, fm⟩) := by
 unfold heapFitsF
 cases e : heapOkF gs h with
 | false => rfl
 | true => rw [hfit_fits (starts_ok (heapOk_ok e).2.2)]
end Go.Proofs.YtembifoimiochaaGreatDoor
