/- PaKinB: KinF, KinG, QuietRound, KinH, KinI. -/
import Derived.Test.YtembifoimiochaaGreatDoorPaKinA
import Derived.RangeFuncFrom
import Derived.RangeFuncLeaves
import Derived.Shelf.Abstract
import Derived.WalkKit
import Derived.OwnWalkIn
import Derived.TacticsInMore
import Derived.LoopNIn
import Derived.LoopIn
import Derived.Test.YtembifoimiochaaGreatDoorPaOne
import Derived.Sort.QuietIn
import Derived.TacticsIn
namespace Go.Proofs.YtembifoimiochaaGreatDoor
open Go.ChangeShapes Go.WideShapes Go.ChangeAt Go.RowKit Go.Maps
set_option linter.unusedVariables false
set_option maxHeartbeats 3200000 in
set_option maxRecDepth 100000 in
theorem kinCanons_core (ra : Option Addr) (rc lo hi : Nat) (gs : List (List Ty)) (w : World) (hP : Parts gs) (hp : pow10 w) (hh : hi ≤ w.heap.size) (hrc : kinCount gs ≤ rc)
    (hR : gs.length ≤ 0 ∨ ∃ rb ro, ra = some ⟨rb, ro, none⟩ ∧ lo ≤ rb ∧ rb < hi ∧ ∀ i, i < kinCount gs → TypeAt w lo hi rb (ro + i * 6) (krAt (rowsOf gs) i).t ∧ w.cell? ⟨rb, ro + i * 6 + 4, none⟩ = some (.int .i64 ((krAt (rowsOf gs) i).b : Nat)) ∧ w.cell? ⟨rb, ro + i * 6 + 5, none⟩ = some (.int .i64 ((krAt (rowsOf gs) i).e : Nat))) :
    Calls Tryz.prog 72 #[.slice ra (kinCount gs) rc] w fun e w' => e = .returned (.slice (some ⟨w.heap.size, 0, none⟩) (kinCount gs) (kinCount gs)) ∧ w'.rowIs w.heap.size 3 (kinCount gs) (filledN (canon gs) (kinCount gs)) ∧ Below w.heap.size w w' := by
  have HP := hide hP
  have Hp := hide hp
  have k8 := hP.2.1
  have hmk := run_make_row' (P := Tryz.prog) 23 3 (.int .i64 0) 8 Tryz.underlying23 Tryz.infoIntC rfl .i64 .i64 (kinCount gs) (by omega) (by omega)
  have hmm := @run_makeMap Tryz.prog
  clear hP hp
  rcases hR with h0 | ⟨rb, ro, rfl, h1, h2, h3⟩
  all_goals
    go_enter Tryz.func72, Tryz.ntmps72
    go_wp2_with fail
    go_loopw [5] (fun v wr => ∃ x : Nat, x ≤ gs.length ∧ v = .int .i64 (beg gs x : Nat) ∧ wr.rowIs w.heap.size 3 (kinCount gs) (filledN (canon gs) (beg gs x)) ∧ wr.ownsMap Tryz.prog 9 (plainElem Tryz.prog 3) (w.heap.size + 1) x (firstsD gs x) ∧ Below w.heap.size w wr) (fun v wr => kinCount gs - (intOf v).toNat)
    case atStart =>
      refine ⟨0, Nat.zero_le _, rfl, ((World.rowIs_made w _ (kinCount gs) _).congr (fun j _ => by simp [filledN, beg, countTo])).alloc _, ?_, ((Below.refl _ _).alloc (Nat.le_refl _) _).alloc (by simp) _⟩
      have := World.ownsMap_made (H := Unit) (w.alloc (.cells (madeCells #[Value.int .i64 0] (kinCount gs)) 3)) Tryz.prog 9 (plainElem Tryz.prog 3)
      have e0 : firstsD gs 0 = .map [] := rfl
      rw [e0]
      simpa using this
    case round =>
      obtain ⟨x, hx, rfl, hr, hm, hb⟩ := hrel
      by_cases hxn : x < gs.length
      · first
        | (exfalso; omega)
        | (have hc : beg gs (x + 1) ≤ kinCount gs := beg_le hxn
           have hs := beg_succ gs x
           have hn0 := (HP.out.2.2 x hxn).1
           have hrow : Hid (∀ W : World, Below w.heap.size w W → ∀ i, i < kinCount gs → TypeAt W lo hi rb (ro + i * 6) (krAt (rowsOf gs) i).t ∧ W.cell? ⟨rb, ro + i * 6 + 4, none⟩ = some (.int .i64 ((krAt (rowsOf gs) i).b : Nat)) ∧ W.cell? ⟨rb, ro + i * 6 + 5, none⟩ = some (.int .i64 ((krAt (rowsOf gs) i).e : Nat))) := fun W hW i hi => by
             obtain ⟨t1, t2, t3⟩ := h3 i hi
             have q : ∀ o, W.cell? ⟨rb, o, none⟩ = w.cell? ⟨rb, o, none⟩ := fun o => hW.cell (by exact Nat.lt_of_lt_of_le h2 hh)
             exact ⟨t1.keep (hW.mono hh) h1 h2, by rw [q]; exact t2, by rw [q]; exact t3⟩
           have HCall := hide (kinWritten_any rb ro rc lo hi (some ⟨w.heap.size, 0, none⟩) (kinCount gs) gs x wr HP.out (pow10_keep Hp.out hb) (Nat.le_trans hh hb.size) hxn h1 h2 hrc (hrow.out wr hb) (rowIs_canIn hr (by omega)))
           have E5 : Hid (∀ W : World, Below w.heap.size w W → W.cell? ⟨rb, ro + beg gs x * 6 + 5, none⟩ = some (.int .i64 ((beg gs x : Int) + ((grAt gs x).length : Int)))) := fun W hW => by
             have h := (hrow.out W hW (beg gs x) (by omega)).2.2
             have e := rows_at (gs := gs) hxn hn0
             rw [Nat.add_zero] at e
             rw [e] at h
             simp only at h
             rw [hs] at h
             simpa using h
           have HCa : Hid (∀ i, i < (grAt gs x).length → canon gs (beg gs x + i) = beg gs (lead gs x) + i) := fun i hi => canon_at HP.out hxn hi
           have hl8 : beg gs (lead gs x) ≤ 8 := by have := beg_le (gs := gs) (x := lead gs x) (by have := lead_le gs x; omega); omega
           have HOld := hide (fun (h : Maps.has (firstsD gs x) (.string (txt gs x)) = true) z => lead_old h z)
           have HNew := hide (fun (h : Maps.has (firstsD gs x) (.string (txt gs x)) = false) => lead_new h)
           have hkey : keyOf Tryz.prog 9 (.string ⟨(txt gs x).toArray⟩) = some (.string (txt gs x)) := by
             have hl := grpTxt_len (b := beg gs x) (parts_tyOk HP.out hxn) (fun i hi => parts_len4 HP.out hxn hi) (grAt gs x).length (Nat.le_refl _)
             rw [List.take_length] at hl
             have h8 : (grAt gs x).length ≤ 8 := by omega
             rw [WideMaps.keyOf_string_mk Tryz.underlying9 (by show (txt gs x).toArray.size ≤ maxLen; unfold maxLen; simp; unfold txt; omega)]
           have HD1 : Hid (firstsD gs (x + 1) = if Maps.has (firstsD gs x) (.string (txt gs x)) then firstsD gs x else (firstsD gs x).put (.string (txt gs x)) (.lit (.int .i64 (beg gs x : Nat)))) := rfl
           have HS := hide hs
           have HLt : Hid (beg gs x < kinCount gs) := by show _ < _; omega
           have b1 : (0 : Int) ≤ (beg gs x : Int) := by omega
           have b2 : (beg gs x : Int) < (kinCount gs : Int) := by omega
           have hbn : beg gs x + (grAt gs x).length ≤ kinCount gs := by omega
           have HR := hide hr
           have HM := hide hm
           have HB := hide hb
           clear hs hc h3 hr hm hb hrow
           obtain ⟨D1, hD1⟩ : ∃ D, D = firstsD gs (x + 1) := ⟨_, rfl⟩
           rw [← hD1] at HD1
           have HDe := hide hD1
           clear hD1
           generalize txt gs x = t at *
           generalize firstsD gs x = D at *
           generalize hF : beg gs (lead gs x) = F at *
           generalize hbx : beg gs x = bx at *
           generalize (grAt gs x).length = n at *
           have HF := hide hF
           have HBX := hide hbx
           clear hF hbx
           go_wp2_with fail
           refine HCall.out.mono ?_
           rintro e w1 ⟨rfl, hb1⟩
           have hr1 := rowIs_below HR.out hb1 HR.out.lt
           have hm1 := ownsMap_below HM.out hb1 HM.out.lt
           have hB1 := HB.out.trans (hb1.mono HB.out.size)
           have R0 := hide hr1
           have M0 := hide hm1
           have B0 := hide hB1
           clear hr1 hm1 hB1 hb1 HR HM HB HCall
           cases hhas : Maps.has D (.string t) with
           | true =>
             have HOl : Hid (∀ z, D.atKey (.string t) z = .lit (.int .i64 (F : Nat))) := HOld.out hhas
             have HD2 : Hid (D1 = D) := by show _ = _; rw [HD1.out, hhas]; rfl
             clear HOld HNew HD1
             have tok : True := trivial
             go_wp2_with (first | (at_lookup; refine wpList_lookup_own_ok_int _ rfl _ _ 148 rfl 9 3 .i64 Tryz.keyS Tryz.underlying148 Tryz.underlying3 (Tryz.zeroI _) (w.heap.size + 1) x _ rfl M0.out _ _ rfl hkey ?_; intro c hat hwc; have hcF : c = (F : Int) := (by have h := HOl.out (.lit (.int .i64 0)); rw [hat] at h; injection h with h; injection h); clear hat hwc; subst hcF; rw [hhas]))
             have R1 : Hid (w1.rowIs w.heap.size 3 (kinCount gs) (filledN (canon gs) (bx + 0))) := R0.out
             have M1 : Hid (w1.ownsMap Tryz.prog 9 (plainElem Tryz.prog 3) (w.heap.size + 1) (x + 1) D1) := by rw [HD2.out]; exact M0.out.mono (by omega)
             have B1 := hide B0.out
             clear R0 M0 B0
             go_loopw [9] (fun v wi => ∃ i : Nat, i ≤ n ∧ v = .int .i64 ((bx : Int) + (i : Int)) ∧ wi.rowIs w.heap.size 3 (kinCount gs) (filledN (canon gs) (bx + i)) ∧ wi.ownsMap Tryz.prog 9 (plainElem Tryz.prog 3) (w.heap.size + 1) (x + 1) D1 ∧ Below w.heap.size w wi) (fun v wi => n - (intOf v - (bx : Int)).toNat)
             case atStart => exact ⟨0, Nat.zero_le _, by simp, R1.out, M1.out, B1.out⟩
             case round =>
               clear R1 M1 B1
               obtain ⟨i, hi, rfl, hr, hm, hb⟩ := hrel
               have HM := hide hm
               have HB := hide hb
               have c5 := E5.out wr hb
               clear hm hb
               by_cases hin : i < n
               · have cell := hr.cell (i := bx + i) (by omega)
                 have fz := hr.frozen (bx + i)
                 have HR := hide hr
                 have hv : Hid (canon gs (bx + i) = F + i) := HCa.out i hin
                 clear hr
                 go_wp2_with fail
                 refine ⟨⟨i + 1, by omega, by go_num, ?_, HM.out.setCell (by simp) _, HB.out.setCell (Nat.le_refl _) _⟩, by simp [intOf]; omega⟩
                 have e := (HR.out.set (bx + i) (.int .i64 (canon gs (bx + i) : Nat))).congr (filledN_step (canon gs) (bx + i))
                 rw [hv.out] at e
                 have e2 : ((F + i : Nat) : Int) = (F : Int) + ((bx : Int) + (i : Int)) - (bx : Int) := by omega
                 rw [e2] at e
                 exact e
               · have hie : Hid (i = n) := Nat.le_antisymm hi (Nat.le_of_not_lt hin)
                 have HR := hide hr
                 clear hr
                 go_wp2_with fail
                 have eR := HR.out
                 rw [hie.out, ← HS.out] at eR
                 have hlt := HLt.out
                 have eV : Value.int .i64 ((bx : Int) + (n : Int)) = Value.int .i64 (beg gs (x + 1) : Nat) := by rw [HS.out]; simp
                 exact ⟨⟨x + 1, by omega, eV, eR, HDe.out ▸ HM.out, HB.out⟩, by simp [intOf]; omega⟩
           | false =>
             have hFx : F = bx := by rw [← HF.out, ← HBX.out, HNew.out hhas]
             have HD2 : Hid (D1 = D.put (.string t) (.lit (.int .i64 (bx : Nat)))) := by show _ = _; rw [HD1.out, hhas]; rfl
             clear HOld HNew HD1 HF
             subst hFx
             have hx5 : x ≤ 1048576 := by have := HP.out.1; omega
             go_wp2_with (first | (at_lookup; refine wpList_lookup_own_ok_int _ rfl _ _ 148 rfl 9 3 .i64 Tryz.keyS Tryz.underlying148 Tryz.underlying3 (Tryz.zeroI _) (w.heap.size + 1) x _ rfl M0.out _ _ rfl hkey ?_; intro c hat hwc; clear hat hwc; rw [hhas]) | (at_mapUpdate; refine wpList_mapUpdate_own _ rfl _ _ _ 148 rfl 9 3 Tryz.keyS Tryz.underlying148 _ (w.heap.size + 1) x _ rfl M0.out (by unfold maxLen; omega) _ _ _ rfl rfl hkey _ [] (plainElem_int Tryz.underlying3 (WalkArith.wf_i64 (by omega))) ?_; intro w2 hm2 hg2))
             have R1 : Hid (w2.rowIs w.heap.size 3 (kinCount gs) (filledN (canon gs) (F + 0))) := R0.out.of_block (hg2.block _ R0.out.lt (by simp))
             have M1 : Hid (w2.ownsMap Tryz.prog 9 (plainElem Tryz.prog 3) (w.heap.size + 1) (x + 1) D1) := by rw [HD2.out]; exact hm2
             have B1 : Hid (Below w.heap.size w w2) := B0.out.grown hg2 B0.out.size (fun k e => by cases e; simp)
             clear R0 M0 B0 hm2 hg2
             go_loopw [9] (fun v wi => ∃ i : Nat, i ≤ n ∧ v = .int .i64 ((F : Int) + (i : Int)) ∧ wi.rowIs w.heap.size 3 (kinCount gs) (filledN (canon gs) (F + i)) ∧ wi.ownsMap Tryz.prog 9 (plainElem Tryz.prog 3) (w.heap.size + 1) (x + 1) D1 ∧ Below w.heap.size w wi) (fun v wi => n - (intOf v - (F : Int)).toNat)
             case atStart => exact ⟨0, Nat.zero_le _, by simp, R1.out, M1.out, B1.out⟩
             case round =>
               clear R1 M1 B1
               obtain ⟨i, hi, rfl, hr, hm, hb⟩ := hrel
               have HM := hide hm
               have HB := hide hb
               have c5 := E5.out wr hb
               clear hm hb
               by_cases hin : i < n
               · have cell := hr.cell (i := F + i) (by omega)
                 have fz := hr.frozen (F + i)
                 have HR := hide hr
                 have hv : Hid (canon gs (F + i) = F + i) := HCa.out i hin
                 clear hr
                 go_wp2_with fail
                 refine ⟨⟨i + 1, by omega, by go_num, ?_, HM.out.setCell (by simp) _, HB.out.setCell (Nat.le_refl _) _⟩, by simp [intOf]; omega⟩
                 have e := (HR.out.set (F + i) (.int .i64 (canon gs (F + i) : Nat))).congr (filledN_step (canon gs) (F + i))
                 rw [hv.out] at e
                 have e2 : ((F + i : Nat) : Int) = (F : Int) + ((F : Int) + (i : Int)) - (F : Int) := by omega
                 rw [e2] at e
                 exact e
               · have hie : Hid (i = n) := Nat.le_antisymm hi (Nat.le_of_not_lt hin)
                 have HR := hide hr
                 clear hr
                 go_wp2_with fail
                 have eR := HR.out
                 rw [hie.out, ← HS.out] at eR
                 have hlt := HLt.out
                 have eV : Value.int .i64 ((F : Int) + (n : Int)) = Value.int .i64 (beg gs (x + 1) : Nat) := by rw [HS.out]; simp
                 exact ⟨⟨x + 1, by omega, eV, eR, HDe.out ▸ HM.out, HB.out⟩, by simp [intOf]; omega⟩
)
      · have hxe : Hid (x = gs.length) := Nat.le_antisymm hx (Nat.le_of_not_lt hxn)
        have HR := hide hr
        have HB := hide hb
        have hk : Hid (beg gs x = kinCount gs) := by show _ = _; rw [hxe.out]; rfl
        have hk2 : (beg gs x : Int) = (kinCount gs : Int) := by rw [hk.out]
        clear hr hm hb
        rw [hk2]
        go_wp2_with fail
        go_ret
        have := HR.out
        rw [hk.out] at this
        exact ⟨rfl, this, HB.out⟩
end Go.Proofs.YtembifoimiochaaGreatDoor
namespace Go.Proofs.YtembifoimiochaaGreatDoor
open Go.ChangeShapes Go.WideShapes Go.ChangeAt Go.RowKit Go.Shelf
set_option linter.unusedVariables false
attribute [local go_sem] Oper.semAt_some
def upL (U : Nat → Int) (n : Nat) : Nat → Int → List (Fin n)
 | 0, _ => []
 | f + 1, a => if h : 0 ≤ a ∧ a.toNat < n then ⟨a.toNat, h.2⟩ :: upL U n f (U a.toNat) else []
def UpsAt (W : World) (n₀ rb ro n : Nat) (U : Nat → Int) : Prop := rb < n₀ ∧ ∀ i, i < n → W.cell? ⟨rb, ro + i * 6 + 1, none⟩ = some (.int .i64 (U i))
theorem UpsAt.below {W W' : World} {n₀ rb ro n : Nat} {U : Nat → Int} (h : UpsAt W n₀ rb ro n U) (hb : Below n₀ W W') : UpsAt W' n₀ rb ro n U :=
 ⟨h.1, fun i hi => by rw [hb.cell (p := ⟨rb, ro + i * 6 + 1, none⟩) h.1]; exact h.2 i hi⟩
set_option maxHeartbeats 1000000 in
theorem upward_in (F : Fence) (n : Nat) (hf : F.fn 108) (hro : F.round = none) (ra ca : Option Addr) (rn rc cn cc : Nat) (a : Int) (w : World) :
  CallsIn F n Tryz.prog 108 #[.agg #[.slice ra rn rc, .slice ca cn cc], .int .i64 a] w fun e w' =>
   e = .returned (.func (.func 117) #[] #[.pointer (some ⟨w.heap.size + 1, 0, none⟩), .pointer (some ⟨w.heap.size, 0, none⟩)]) ∧ w' = (w.alloc (.cells #[.slice ra rn rc, .slice ca cn cc] 93)).alloc (.cells #[.int .i64 a] 3) := by
 refine callsIn_of_wp Tryz.func108 rfl hf ?_ hro
 simp only [Tryz.ntmps108, List.size_toArray, List.length_cons, List.length_nil, Nat.reduceAdd, Nat.reduceSub, Array.replicate_succ, Array.replicate_zero, List.push_toArray, List.append_toArray, List.nil_append, List.cons_append]
 gi_wp2
 go_ret
 exact ⟨by simp, rfl⟩
set_option maxRecDepth 100000 in
set_option maxHeartbeats 1000000 in
theorem upIter_in (F : Fence) (n : Nat) (hf : F.fn 117) (hro : F.round = none) (hn : 1 ≤ n) (l Ba Bt n₀ rb ro rn rc cn cc : Nat) (ca : Option Addr) (U : Nat → Int) (a : Int) (J Jx : List (Fin rn) → World → Prop)
  (ha : -1 ≤ a ∧ a < (rn : Int)) (hrn : rn ≤ 8) (hU : ∀ i, i < rn → -1 ≤ U i ∧ U i < (i : Int))
  (hY : ∀ pre (x : Fin rn) W, J pre W → pre.length < (upL U rn (rn + 1) a).length → YieldAt F (n - 1) Tryz.prog l #[.int .i64 (x.val : Int)] W fun e W' =>
   (e = .returned (.bool true) ∧ J (pre ++ [x]) W' ∧ Below n₀ W W') ∨ (e = .returned (.bool false) ∧ Jx (pre ++ [x]) W'))
  (W : World) (hBa : Ba < n₀) (hBt : Bt < n₀) (c0 : W.cell? ⟨Ba, 0, none⟩ = some (.int .i64 a)) (c1 : W.cell? ⟨Bt, 0, none⟩ = some (.slice (some ⟨rb, ro, none⟩) rn rc)) (hL : UpsAt W n₀ rb ro rn U) (h0 : J [] W) :
  CallsIn F n Tryz.prog 117 #[.func (.yield l) #[] #[], .pointer (some ⟨Ba, 0, none⟩), .pointer (some ⟨Bt, 0, none⟩)] W fun e W' => (∃ v, e = .returned v) ∧
   ((∃ ys, ys = upL U rn (rn + 1) a ∧ J ys W') ∨ (∃ pre, pre <+: upL U rn (rn + 1) a ∧ Jx pre W')) := by
 refine callsIn_of_wp Tryz.func117 rfl hf ?_ hro
 simp only [Tryz.ntmps117, List.size_toArray, List.length_cons, List.length_nil, Nat.reduceAdd, Nat.reduceSub, Array.replicate_succ, Array.replicate_zero, List.push_toArray, List.append_toArray, List.nil_append, List.cons_append]
 have HU := hide hU
 clear hU
 generalize hLL : upL U rn (rn + 1) a = L at *
 have HL := hide hLL
 clear hLL
 gi_wp2
 gi_loopw [4] (fun v wr => ∃ (pre rest : List (Fin rn)) (c : Int) (f : Nat), v = .int .i64 c ∧ L = pre ++ rest ∧ rest = upL U rn f c ∧ -1 ≤ c ∧ c < (rn : Int) ∧ c < (f : Int) ∧ wr.cell? ⟨Bt, 0, none⟩ = some (.slice (some ⟨rb, ro, none⟩) rn rc) ∧ UpsAt wr n₀ rb ro rn U ∧ J pre wr)
  (fun v wr => (intOf v + 1).toNat)
 case atStart =>
  exact ⟨[], L, a, rn + 1, rfl, rfl, HL.out.symm, by omega, by omega, by omega, c1, hL, h0⟩
 case round =>
  obtain ⟨pre, rest, c, f, rfl, hx, hr, b1, b2, b3, hc, hl, hJs⟩ := hrel
  have HX := hide hx
  have HR := hide hr
  have HJ := hide hJs
  clear hx hr hL c0 c1
  by_cases hneg : c < 0
  ·have hnil : rest = [] := by
    rw [HR.out]
    cases f with
    | zero => rfl
    | succ f => unfold upL; rw [dif_neg (by omega)]
   clear hJs hY
   gi_wp2
   go_end0
   exact ⟨⟨_, rfl⟩, .inl ⟨pre, by rw [HX.out, hnil]; simp, HJ.out⟩⟩
  ·obtain ⟨m, rfl⟩ := Int.eq_ofNat_of_zero_le (show 0 ≤ c by omega)
   have hm : m < rn := by omega
   obtain ⟨f', rfl⟩ : ∃ f', f = f' + 1 := ⟨f - 1, by omega⟩
   have hrest : rest = ⟨m, hm⟩ :: upL U rn f' (U m) := by
    rw [HR.out]
    show (if h : 0 ≤ (m : Int) ∧ (m : Int).toNat < rn then _ else _) = _
    rw [dif_pos ⟨by omega, by simpa using hm⟩]
    simp
   have HRe := hide hrest
   obtain ⟨u1, u2⟩ := HU.out m hm
   obtain ⟨fn, tmps, assign, body, hy, hR⟩ := hY pre ⟨m, hm⟩ wr hJs (by rw [HX.out, hrest]; simp)
   have hrb := hl.1
   have HLs := hide hl
   have m1 : (0 : Int) ≤ (m : Int) := by omega
   have m2 : (m : Int) < (rn : Int) := by omega
   clear hrest hJs hY hl
   gi_wp2
   refine hR.mono ?_
   rintro e W3 (⟨rfl, hJ3, hk3⟩ | ⟨rfl, hJx3⟩)
   ·have q1 : W3.cell? ⟨Bt, 0, none⟩ = some (.slice (some ⟨rb, ro, none⟩) rn rc) := (hk3.cell (p := ⟨Bt, 0, none⟩) hBt).trans hc
    have q2 := (HLs.out.below hk3).2 m hm
    have HK := hide hk3
    have HJ3 := hide hJ3
    clear hR hk3 hJ3
    gi_wp2
    go_roundw
    case rel => exact ⟨pre ++ [⟨m, hm⟩], upL U rn f' (U m), U m, f', rfl, by rw [HX.out, HRe.out]; simp, rfl, u1, by omega, by omega, q1, HLs.out.below HK.out, HJ3.out⟩
    case measure => simp [intOf]; omega
   ·have HJx := hide hJx3
    clear hR hJx3
    gi_wp2
    refine bodyPost_ret (results_none rfl _ _ _) rfl ?_
    exact ⟨⟨_, rfl⟩, .inr ⟨pre ++ [⟨m, hm⟩], ⟨upL U rn f' (U m), by rw [HX.out, HRe.out]; simp⟩, HJx.out⟩⟩
theorem up_stops (F : Fence) (n : Nat) (hf : F.fn 117) (hro : F.round = none) (hn : 1 ≤ n) (Ba Bt n₀ rb ro rn rc cn cc : Nat) (ca : Option Addr) (U : Nat → Int) (a : Int)
  (ha : -1 ≤ a ∧ a < (rn : Int)) (hrn : rn ≤ 8) (hU : ∀ i, i < rn → -1 ≤ U i ∧ U i < (i : Int)) (w : World) (hn₀ : n₀ = w.heap.size) (hBa : Ba < n₀) (hBt : Bt < n₀)
  (c0 : w.cell? ⟨Ba, 0, none⟩ = some (.int .i64 a)) (c1 : w.cell? ⟨Bt, 0, none⟩ = some (.slice (some ⟨rb, ro, none⟩) rn rc)) (hL : UpsAt w n₀ rb ro rn U) :
  SeqStopsK F n Tryz.prog 117 #[.pointer (some ⟨Ba, 0, none⟩), .pointer (some ⟨Bt, 0, none⟩)] (fun x : Fin rn => #[Value.int .i64 (x.val : Int)]) (Below n₀) (fun ys => ys = upL U rn (rn + 1) a) (fun pre => pre <+: upL U rn (rn + 1) a) (upL U rn (rn + 1) a).length w := fun l J Jx W hW _ _ hY h0 => by
 subst hn₀
 exact upIter_in F n hf hro hn l Ba Bt w.heap.size rb ro rn rc cn cc ca U a J Jx ha hrn hU hY W hBa hBt ((hW.cell (p := ⟨Ba, 0, none⟩) hBa).trans c0) ((hW.cell (p := ⟨Bt, 0, none⟩) hBt).trans c1) (hL.below hW) h0
end Go.Proofs.YtembifoimiochaaGreatDoor
/- A region that draws its order, inside a round of a range over a function: one walk of the lexical order serves every order there too, if nothing is deferred. -/
namespace Go.Proofs.YtembifoimiochaaGreatDoor
open Go.RowKit
set_option linter.unusedVariables false

section
variable {F : Fence} {n : Nat} {P : Program} {ops : Array Oper} {C : World → Prop}

def NoDefer (ops : Array Oper) : Prop := ∀ o ∈ ops.toList, ∀ c, o.op ≠ .defer c

theorem oper_round {r : Nat} {o : Oper} {a : Act} {K : Act → Prop} {K' : Act → World → Prop} {Q' : Exit → Act → World → Prop} {w : World} (hro : F.round = some r) (hd : ∀ c, o.op ≠ .defer c) (hw : C w) (h : ∀ a w', C w' → K a → K' a w')
  (ha : o.askedIn F P a C) (hh : o.quietIn F n P a C K) : o.wpIn F n P a w K' Q' := by
 obtain ⟨v, hv, hk⟩ := hh
 have hq := hv w hw
 unfold Oper.quietAtIn at hq
 refine ⟨ha w hw, ?_⟩
 rw [hro, Oper.semAt_some r _ o hd]
 revert hq
 generalize (execOp a.eval o).run P w = res
 intro hq
 match res, hq with
 | .ok (.value u) w', ⟨e1, e2⟩ => subst e1; subst e2; exact h _ _ hw hk
 | .ok .skip w', ⟨e1, e2⟩ => subst e1; subst e2; exact h _ _ hw hk
 | .ok (.enter f args) w', ⟨e1, e2, e3⟩ =>
  subst e1
  exact ⟨e2, e3.mono fun e w'' hx => by obtain ⟨rfl, hx2⟩ := hx; exact h _ _ hx2 hk⟩

theorem any_round {r : Nat} {md : Region.Mode} {Q : Act → Prop} {Q' : Exit → Act → World → Prop} (hro : F.round = some r) (hd : NoDefer ops) (hQ : ∀ a w, C w → Q a → Q' .normal a w) (fuel : Nat) : ∀ (listed : Array Bool) (a : Act) (w : World), C w →
  wpAnyQIn F n P md ops C Q fuel listed a → wpAnyIn F n P md ops Q' fuel listed a w := by
 induction fuel with
 | zero => intro listed a w hw h; exact ⟨h.1, hQ _ _ hw h.2⟩
 | succ fuel ih =>
  intro listed a w hw h
  refine ⟨fun h0 => hQ _ _ hw (h.1 h0), fun i hi => ?_⟩
  have hq := h.2 i hi
  unfold qOpIn at hq
  unfold wpOpIn
  cases ho : ops[i]? with
  | none => simp only [ho] at hq; exact ih _ _ _ hw hq
  | some o =>
   simp only [ho] at hq
   obtain ⟨q1, q2⟩ := hq
   have hmem : o ∈ ops.toList := by
    have := Array.mem_of_getElem? ho
    simpa using this
   by_cases hwd : Region.wanted o (yielded ops a.tmps) = true
   ·simp only [hwd, if_true] at q2 ⊢
    exact oper_round hro (hd o hmem) hw (fun a' w' hw' hk => ih _ a' w' hw' hk) q1 q2
   ·simp only [hwd] at q2 ⊢
    exact ⟨q1 w hw, ih _ _ _ hw q2⟩

theorem region_round {r id : Nat} {Q : Exit → Act → World → Prop} {a : Act} {w : World} {l : List Oper} (hro : F.round = some r) (hd : NoDefer l.toArray) (hm : P.follows .mixedOrders = true) (hB : Region.lexB .any l.toArray = true)
  (h : wpQuietIn F n P l.toArray (fun w' => ∃ n, w' = w.drewN n) (fun a' => ∀ w', (∃ n, w' = w.drewN n) → Q .normal a' w') l a) : (Code.region id l.toArray true).wpIn F n P Q a w := by
 simp only [Region.lexB, Bool.and_eq_true] at hB
 have hall := wpAnyQIn_lex (F := F) (n := n) (P := P) (C := fun w' => ∃ n, w' = w.drewN n) (md := .any) hB.1 l 0 (Array.replicate l.toArray.size false) a (by simp) (by simpa using hB.2) h
 refine wpIn_region_any hm (any_round (C := fun w' => ∃ n, w' = w.drewN n) (Q := fun a' => ∀ w', (∃ n, w' = w.drewN n) → Q .normal a' w') hro hd (fun _ w' hw' hk => hk w' hw') _ _ _ _ ?_ ?_)
 ·exact ⟨1, rfl⟩
 ·simpa using hall
end
end Go.Proofs.YtembifoimiochaaGreatDoor
namespace Go.Proofs.YtembifoimiochaaGreatDoor
open Go.ChangeShapes Go.WideShapes Go.ChangeAt Go.RowKit Go.Shelf
set_option linter.unusedVariables false
attribute [local go_sem] Oper.semAt_some
theorem keeps_drewN (W : World) (k : Nat) : KeepsOthers W (W.drewN k) := ⟨Nat.le_refl _, fun _ _ h _ => h⟩
theorem cell_of_box_h {W : World} {B : Nat} {v : Value} {t : TypeId} (h : W.heap[B]? = some (.cells #[v] t (0, 0))) : W.cell? ⟨B, 0, none⟩ = some v ∧ W.frozen? ⟨B, 0, none⟩ = false := by
 constructor <;> simp [World.cell?, World.frozen?, h]
set_option maxRecDepth 100000 in
set_option maxHeartbeats 2000000 in
theorem under_walk (F : Fence) (n : Nat) (hf : F.fn 89) (hf1 : F.fn 108) (hf2 : F.fn 117) (hro : F.round = none) (hn : 3 ≤ n) (rb ro rn rc cb co cc : Nat) (U : Nat → Int) (C : Nat → Nat) (p q : Nat) (w : World)
  (hrn : rn ≤ 8) (hp : p < rn) (hq : q < rn) (hpq : p ≠ q) (hU : ∀ i, i < rn → -1 ≤ U i ∧ U i < (i : Int)) (hL : UpsAt w w.heap.size rb ro rn U) (hcb : cb < w.heap.size) (hC : ∀ i, i < rn → w.cell? ⟨cb, co + i, none⟩ = some (.int .i64 (C i : Nat))) :
  CallsIn F n Tryz.prog 89 #[.agg #[.slice (some ⟨rb, ro, none⟩) rn rc, .slice (some ⟨cb, co, none⟩) rn cc], .int .i64 (p : Int), .int .i64 (q : Int)] w fun e W' =>
   e = .returned (.bool ((upL U rn (rn + 1) p).any fun x => C x.val == C q)) ∧ Below w.heap.size w W' := by
 have h1 : 1 ≤ n := by omega
 have n1 : ((q : Int) == -1) = false := beq_eq_false_iff_ne.2 (by omega)
 have n2 : ((p : Int) == (q : Int)) = false := beq_eq_false_iff_ne.2 (by omega)
 have d1 : decide ((p : Int) < 0) = false := by simp
 have d2 : decide ((q : Int) < 0) = false := by simp
 have hmo : Tryz.prog.follows .mixedOrders = true := by kernel_rfl
 have HU := hide hU
 have HC := hide hC
 have HL := hide hL
 clear hU hC hL
 refine callsIn_of_wp_marks Tryz.func89 rfl hf ?_ hro
 simp only [Tryz.ntmps89, List.size_toArray, List.length_cons, List.length_nil, Nat.reduceAdd, Nat.reduceSub, Array.replicate_succ, Array.replicate_zero, List.push_toArray, List.append_toArray, List.nil_append, List.cons_append]
 gi_wp2_with (gi_at_call 108; refine (upward_in F (n - 1) hf1 hro _ _ _ _ _ _ _ _).mono ?_; rintro e w' ⟨rfl, rfl⟩)
 obtain ⟨W0, hW0⟩ : ∃ W0, W0 = (((((w.alloc (.cells #[.slice (some ⟨rb, ro, none⟩) rn rc, .slice (some ⟨cb, co, none⟩) rn cc] 93)).alloc (.cells #[.int .i64 (q : Int)] 3)).alloc (.cells #[.bool false] 4)).alloc (.cells #[.slice (some ⟨rb, ro, none⟩) rn rc, .slice (some ⟨cb, co, none⟩) rn cc] 93)).alloc (.cells #[.int .i64 (p : Int)] 3)) := ⟨_, rfl⟩
 have B0 : Below w.heap.size w W0 := by
  rw [hW0]
  refine ((((((Below.refl _ w).alloc (Nat.le_refl _) _).alloc ?_ _).alloc ?_ _).alloc ?_ _).alloc ?_ _) <;> simp <;> omega
 have hsz : W0.heap.size = w.heap.size + 5 := by rw [hW0]; simp
 have R0 : Rec W0 w.heap.size 93 [.slice (some ⟨rb, ro, none⟩) rn rc, .slice (some ⟨cb, co, none⟩) rn cc] := by rw [hW0]; exact ((((Rec.new _ _ _).alloc _).alloc _).alloc _).alloc _
 have R1 : Rec W0 (w.heap.size + 1) 3 [.int .i64 (q : Int)] := by rw [hW0]; exact (((Rec.new' _ _ _ _ (by simp)).alloc _).alloc _).alloc _
 have R2 : Rec W0 (w.heap.size + 1 + 1) 4 [.bool false] := by rw [hW0]; exact ((Rec.new' _ _ _ _ (by simp)).alloc _).alloc _
 have R3 : Rec W0 (w.heap.size + 1 + 1 + 1) 93 [.slice (some ⟨rb, ro, none⟩) rn rc, .slice (some ⟨cb, co, none⟩) rn cc] := by rw [hW0]; exact (Rec.new' _ _ _ _ (by simp)).alloc _
 have R4 : Rec W0 (w.heap.size + 1 + 1 + 1 + 1) 3 [.int .i64 (p : Int)] := by rw [hW0]; exact Rec.new' _ _ _ _ (by simp)
 have k1 := R0.cell (o := 1) rfl
 have k2 := R1.cell (o := 0) rfl
 have k3 := R2.cell (o := 0) rfl
 have k4 := R2.frozen 0
 have k5 := R4.cell (o := 0) rfl
 have k6 := R3.cell (o := 0) rfl
 clear R0 R1 R2 R3 R4
 rw [← hW0]
 clear hW0
 have hUp : UpsAt W0 W0.heap.size rb ro rn U := ⟨by have := HL.out.1; omega, fun i hi => by rw [B0.cell (p := ⟨rb, ro + i * 6 + 1, none⟩) HL.out.1]; exact HL.out.2 i hi⟩
 refine wpIn_rangeFunc_ownF hro h1 (gf := 117) (lb := #[.pointer (some ⟨w.heap.size + 1 + 1 + 1 + 1, 0, none⟩), .pointer (some ⟨w.heap.size + 1 + 1 + 1, 0, none⟩)]) rfl hf2 (enters_of Tryz.func117 (by kernel_rfl) rfl)
  (up_stops F (n - 1) hf2 hro (by omega) (w.heap.size + 1 + 1 + 1 + 1) (w.heap.size + 1 + 1 + 1) W0.heap.size rb ro rn rc 0 0 none U (p : Int) ⟨by omega, by omega⟩ hrn HU.out W0 rfl (by omega) (by omega) k5 k6 hUp) belowK_t (belowK_b (by omega)) (Below.refl _ _) (fun _ => rfl)
  (fun pre W => ((∀ y ∈ pre, C y.val ≠ C q) ∧ W.cell? ⟨w.heap.size, 1, none⟩ = some (.slice (some ⟨cb, co, none⟩) rn cc) ∧ W.cell? ⟨w.heap.size + 1, 0, none⟩ = some (.int .i64 (q : Int)) ∧ W.cell? ⟨w.heap.size + 1 + 1, 0, none⟩ = some (.bool false) ∧ W.frozen? ⟨w.heap.size + 1 + 1, 0, none⟩ = false) ∧ Below w.heap.size w W)
  (fun c pre W => (c = .ret ∧ (∃ y ∈ pre, C y.val = C q) ∧ W.cell? ⟨w.heap.size + 1 + 1, 0, none⟩ = some (.bool true)) ∧ Below w.heap.size w W)
  (OwnFrom.and (Own.from (fun s A B row hs hg hr => ⟨hs.1, cell_kept hs.2.1 hg hr, cell_kept hs.2.2.1 hg hr, cell_kept hs.2.2.2.1 hg hr, (frozen_kept hs.2.2.2.1 hg hr).trans hs.2.2.2.2⟩) _) (ownFrom_below (Nat.le_refl _) (by omega)))
  (fun c => OwnFrom.and (Own.from (fun s A B row hs hg hr => ⟨hs.1, hs.2.1, cell_kept hs.2.2 hg hr⟩) _) (ownFrom_below (Nat.le_refl _) (by omega)))
  ⟨⟨by simp, k1, k2, k3, k4⟩, B0⟩
  (fun x => { tmps := #[.agg #[.slice (some ⟨rb, ro, none⟩) rn rc, .slice (some ⟨cb, co, none⟩) rn cc], .int .i64 (p : Int), .int .i64 (q : Int), .pointer (some ⟨w.heap.size, 0, none⟩), undef, .pointer (some ⟨w.heap.size + 1, 0, none⟩), .pointer (some ⟨w.heap.size + 1 + 1, 0, none⟩), .int .i64 (x.val : Int), .int .i64 (p : Int), .int .i64 (q : Int), .bool false, .bool false, .int .i64 (q : Int), .bool false, .bool false, .int .i64 (p : Int), .bool false, .bool false, .int .i64 (q : Int), .bool false, .bool false, .agg #[.slice (some ⟨rb, ro, none⟩) rn rc, .slice (some ⟨cb, co, none⟩) rn cc], .int .i64 (p : Int), .func (.func 117) #[] #[.pointer (some ⟨w.heap.size + 1 + 1 + 1 + 1, 0, none⟩), .pointer (some ⟨w.heap.size + 1 + 1 + 1, 0, none⟩)], .int .i64 (x.val : Int), undef, undef, undef, undef, undef, undef, undef, undef, undef, undef, undef], defers := [] }) ?assign ?body ?done ?stop
 case assign =>
  intro l x W K hK
  gi_wp2
  exact hK
 case body =>
  rintro l pre x W ⟨⟨hp', g1, g2, g3, g4⟩, hB⟩ _
  have e1 : W.cell? ⟨cb, co + x.val, none⟩ = some (.int .i64 (C x.val : Nat)) := by rw [hB.cell (p := ⟨cb, co + x.val, none⟩) hcb]; exact HC.out _ x.isLt
  have e2 : W.cell? ⟨cb, co + q, none⟩ = some (.int .i64 (C q : Nat)) := by rw [hB.cell (p := ⟨cb, co + q, none⟩) hcb]; exact HC.out _ hq
  have x1 : (0 : Int) ≤ (x.val : Int) := by omega
  have x2 : (x.val : Int) < (rn : Int) := by have := x.isLt; omega
  have q1 : (0 : Int) ≤ (q : Int) := by omega
  have q2 : (q : Int) < (rn : Int) := by omega
  have HB := hide hB
  clear hB k1 k2 k3 k4 k5 k6
  by_cases hx : C x.val = C q
  ·have hx' : ((C x.val : Int) == (C q : Int)) = true := by rw [hx]; simp
   gi_wp2
   refine region_round (r := l) rfl (by simp [NoDefer]) hmo (by kernel_rfl) ?_
   repeat (gi_big_quiet_step (fail))
   refine wpQuietIn_nil ?_
   intro _ hw'
   obtain ⟨nq, hw''⟩ := hw'
   subst hw''
   gi_wp2
   have g3' : (W.drewN nq).cell? ⟨w.heap.size + 1 + 1, 0, none⟩ = some (.bool false) := g3
   exact ⟨(keeps_drewN W nq).trans (KeepsOthers.setCell _ _ _), ⟨rfl, ⟨x, by simp, hx⟩, World.cell?_setCell_same' _ _ _ (by rw [g3']; rfl)⟩, (below_drewN HB.out nq).setCell (p := ⟨w.heap.size + 1 + 1, 0, none⟩) (by simp; omega) _⟩
  ·have hx' : ((C x.val : Int) == (C q : Int)) = false := beq_eq_false_iff_ne.2 (by omega)
   gi_wp2
   refine region_round (r := l) rfl (by simp [NoDefer]) hmo (by kernel_rfl) ?_
   repeat (gi_big_quiet_step (fail))
   refine wpQuietIn_nil ?_
   intro _ hw'
   obtain ⟨nq, hw''⟩ := hw'
   subst hw''
   gi_wp2
   exact ⟨keeps_drewN W nq, below_drewN (Below.refl _ _) nq, ⟨fun y hy => (List.mem_append.1 hy).elim (hp' y) (fun e => by simp at e; subst e; exact hx), g1, g2, g3, g4⟩, below_drewN HB.out nq⟩
 case done =>
  rintro D ys W hD rfl ⟨⟨hne, _, _, hcr, hfr⟩, hB⟩ hK
  gi_wp2
  have hK' := (KeepsOthers.setCell W ⟨w.heap.size + 1 + 1, 0, none⟩ (.bool false)).same D _ hK rfl
  refine ⟨by simp, .inl ⟨_, _, rfl, run_takeDeferred hK', ?_⟩⟩
  have hc5 := cell_kept (World.cell?_setCell_same' W ⟨w.heap.size + 1 + 1, 0, none⟩ (.bool false) (by rw [hcr]; rfl)) (grownBy_putObj' _ D (.deferred none)) (fun r e => by cases e; exact ⟨_, hK', rfl⟩)
  refine ⟨.bool false, ?_, ?_, (hB.setCell (p := ⟨w.heap.size + 1 + 1, 0, none⟩) (by simp; omega) _).trans (belowK_b (w := w) (Nat.le_refl _) _ D _ _ (by omega) hK' rfl rfl)⟩
  ·simp [results, Tryz.f89, go_sem, hc5]
  ·have : ((upL U rn (rn + 1) (p : Int)).any fun x => C x.val == C q) = false := by
    rw [List.any_eq_false]
    intro y hy
    simpa using hne y hy
   rw [this]
 case stop =>
  rintro D c pre W hD hpre ⟨⟨rfl, ⟨y, hy, hyq⟩, hcr⟩, hB⟩ hK
  gi_wp2
  refine ⟨by simp, .inl ⟨_, _, rfl, run_takeDeferred hK, ?_⟩⟩
  have hc5 := cell_kept hcr (grownBy_putObj' _ D (.deferred none)) (fun r e => by cases e; exact ⟨_, hK, rfl⟩)
  refine ⟨.bool true, ?_, ?_, hB.trans (belowK_b (w := w) (Nat.le_refl _) W D _ _ (by omega) hK rfl rfl)⟩
  ·simp [results, Tryz.f89, go_sem, hc5]
  ·have : ((upL U rn (rn + 1) (p : Int)).any fun x => C x.val == C q) = true := by
    rw [List.any_eq_true]
    exact ⟨y, hpre.subset hy, by simpa using hyq⟩
   rw [this]
end Go.Proofs.YtembifoimiochaaGreatDoor
namespace Go.Proofs.YtembifoimiochaaGreatDoor
open Go.ChangeShapes Go.WideShapes Go.ChangeAt Go.RowKit
set_option linter.unusedVariables false
def TabIn (w : World) (lo hi : Nat) (ra : Option Addr) (cb co : Nat) (gs : List (List Ty)) : Prop :=
 RowsIn w lo hi ra (rowsOf gs) ∧ cb < hi ∧ ∀ i, i < kinCount gs → w.cell? ⟨cb, co + i, none⟩ = some (.int .i64 (canon gs i : Nat))
theorem TabIn.keep {w w' : World} {lo hi : Nat} {ra : Option Addr} {cb co : Nat} {gs : List (List Ty)} (h : TabIn w lo hi ra cb co gs) (hb : Below hi w w') : TabIn w' lo hi ra cb co gs :=
 ⟨h.1.keep hb, h.2.1, fun i hi => by rw [hb.cell (p := ⟨cb, co + i, none⟩) h.2.1]; exact h.2.2 i hi⟩
theorem TabIn.wide {w : World} {lo hi lo' hi' : Nat} {ra : Option Addr} {cb co : Nat} {gs : List (List Ty)} (h : TabIn w lo hi ra cb co gs) (h1 : lo' ≤ lo) (h2 : hi ≤ hi') : TabIn w lo' hi' ra cb co gs :=
 ⟨h.1.same (fun _ _ _ => rfl) h1 h2, Nat.lt_of_lt_of_le h.2.1 h2, h.2.2⟩
theorem rows_ty (gs : List (List Ty)) {p : Nat} (hp : p < kinCount gs) : (krAt (rowsOf gs) p).t = tyN gs p := by
 obtain ⟨g1, g2, g3⟩ := grp_spec gs p hp
 have hi : p - beg gs (grp gs p) < (grAt gs (grp gs p)).length := by unfold beg; simp only [countTo] at g3; omega
 have h := rows_at (gs := gs) g1 hi
 have e : beg gs (grp gs p) + (p - beg gs (grp gs p)) = p := by unfold beg; omega
 rw [e] at h
 rw [h]
 unfold tyN
 rw [flat_at hp]
theorem rows_len (gs : List (List Ty)) : (rowsOf gs).length = kinCount gs := rowsOf_length gs
theorem upL_succ (U : Nat → Int) (n f m : Nat) (hm : m < n) : upL U n (f + 1) (m : Int) = ⟨m, hm⟩ :: upL U n f (U m) := by
 show (if h : 0 ≤ (m : Int) ∧ (m : Int).toNat < n then _ else _) = _
 rw [dif_pos ⟨by omega, by simpa using hm⟩]
 simp
theorem upSame_any {gs : List (List Ty)} (hP : Parts gs) {q : Nat} (hq : q < kinCount gs) : ∀ (f f' : Nat) (c : Int), -1 ≤ c → c < (kinCount gs : Int) → c < (f : Int) → c < (f' : Int) →
  upSame gs q f c = (upL (fun i => (tyN gs i).up) (kinCount gs) f' c).any fun x => canon gs x.val == canon gs q := by
 intro f
 induction f with
 | zero =>
  intro f' c h1 h2 h3 h4
  have : c = -1 := by omega
  subst this
  cases f' with
  | zero => rfl
  | succ f' => unfold upL; rw [dif_neg (by omega)]; rfl
 | succ f ih =>
  intro f' c h1 h2 h3 h4
  by_cases hc : c < 0
  ·cases f' with
   | zero => simp [upSame, hc, upL]
   | succ f' => unfold upL; rw [dif_neg (by omega)]; simp [upSame, hc]
  ·obtain ⟨m, rfl⟩ := Int.eq_ofNat_of_zero_le (show 0 ≤ c by omega)
   cases f' with
   | zero => omega
   | succ f' =>
    have hm : m < kinCount gs := by omega
    obtain ⟨_, ⟨u1, u2⟩, _⟩ := parts_flat hP hm
    have e1 : upSame gs q (f + 1) (m : Int) = (same gs m q || upSame gs q f (tyN gs m).up) := by simp [upSame, hc]
    rw [e1, ih f' _ u1 (by omega) (by omega) (by omega), same_canon hP hm hq]
    rw [upL_succ _ _ _ _ hm, List.any_cons]
    congr 1
set_option maxHeartbeats 800000 in
theorem under_any (ra : Option Addr) (rc cb co cc lo hi : Nat) (gs : List (List Ty)) (a b : Int) (w : World) (hP : Parts gs) (hT : TabIn w lo hi ra cb co gs) (hh : hi ≤ w.heap.size)
  (a0 : -2 ≤ a) (a1 : a < (kinCount gs : Int)) (b0 : -2 ≤ b) (b1 : b < (kinCount gs : Int)) :
  Calls Tryz.prog 89 #[.agg #[.slice ra (kinCount gs) rc, .slice (some ⟨cb, co, none⟩) (kinCount gs) cc], .int .i64 a, .int .i64 b] w fun e w' => e = .returned (.bool (under gs a b)) ∧ Below w.heap.size w w' := by
 have m8 := hP.2.1
 have B0 : ∀ o0 o1 o2, Below w.heap.size w (((w.alloc o0).alloc o1).alloc o2) := fun o0 o1 o2 => by
  refine (((Below.refl _ _).alloc (Nat.le_refl _) _).alloc ?_ _).alloc ?_ _ <;> simp <;> omega
 have HB0 := hide B0
 clear B0
 by_cases e1 : b = -1
 ·subst e1
  have HF : Hid (under gs a (-1) = true) := by show _ = _; simp [under]
  clear hT hP
  by_cases e2 : a = -1
  ·subst e2
   go_enter Tryz.func89, Tryz.ntmps89
   go_wp2_with fail
   refine bodyPost_ret (v := .bool true) (by simp [results, Tryz.results89, go_sem]) rfl ⟨ret_bool HF.out.symm, HB0.out _ _ _⟩
  ·have n1 : (a == -1) = false := beq_eq_false_iff_ne.2 e2
   go_enter Tryz.func89, Tryz.ntmps89
   go_wp2_with fail
   refine bodyPost_ret (v := .bool true) (by simp [results, Tryz.results89, go_sem]) rfl ⟨ret_bool HF.out.symm, HB0.out _ _ _⟩
 by_cases e2 : a = b
 ·subst e2
  have HF : Hid (under gs a a = true) := by show _ = _; simp [under]
  have n1 : (a == a) = true := by simp
  clear hT hP
  go_enter Tryz.func89, Tryz.ntmps89
  go_wp2_with fail
  refine bodyPost_ret (v := .bool true) (by simp [results, Tryz.results89, go_sem]) rfl ⟨ret_bool HF.out.symm, HB0.out _ _ _⟩
 have n1 : (b == -1) = false := beq_eq_false_iff_ne.2 e1
 have n2 : (a == b) = false := beq_eq_false_iff_ne.2 e2
 by_cases e3 : a < 0
 ·have HF : Hid (under gs a b = false) := by show _ = _; simp [under, e1, e2, e3]
  clear hT hP
  go_enter Tryz.func89, Tryz.ntmps89
  go_wp2_with fail
  refine bodyPost_ret (v := .bool false) (by simp [results, Tryz.results89, go_sem]) rfl ⟨ret_bool HF.out.symm, HB0.out _ _ _⟩
 by_cases e4 : b < 0
 ·have HF : Hid (under gs a b = false) := by show _ = _; simp [under, e1, e2, e4]
  clear hT hP
  go_enter Tryz.func89, Tryz.ntmps89
  go_wp2_with fail
  refine bodyPost_ret (v := .bool false) (by simp [results, Tryz.results89, go_sem]) rfl ⟨ret_bool HF.out.symm, HB0.out _ _ _⟩
 obtain ⟨p, rfl⟩ := Int.eq_ofNat_of_zero_le (show 0 ≤ a by omega)
 obtain ⟨q, rfl⟩ := Int.eq_ofNat_of_zero_le (show 0 ≤ b by omega)
 have hp : p < kinCount gs := by omega
 have hq : q < kinCount gs := by omega
 have hu : under gs (p : Int) (q : Int) = upSame gs q (p + 1) p := by
  unfold under
  rw [if_neg (by omega), if_neg (by omega)]
  simp
 rw [hu, upSame_any hP hq (p + 1) (kinCount gs + 1) p (by omega) (by omega) (by omega) (by omega)]
 obtain ⟨hR, hcb, hC⟩ := hT
 rcases hR with h0 | ⟨rb, ro, rfl, r1, r2, r3⟩
 ·have := rows_len gs
  rw [h0] at this
  simp at this
  omega
 refine (callsIn_wide (n := 3)).1 ?_
 refine under_walk _ 3 trivial trivial trivial rfl (Nat.le_refl _) rb ro (kinCount gs) rc cb co cc (fun i => (tyN gs i).up) (canon gs) p q w m8 hp hq (by omega) (fun i hi => (parts_flat hP hi).2.1) ⟨by omega, fun i hi => ?_⟩ (by omega) hC
 have h := (r3 i (by rw [rows_len]; exact hi)).1.2.1
 rw [rows_ty gs hi] at h
 exact h
end Go.Proofs.YtembifoimiochaaGreatDoor
