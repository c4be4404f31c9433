/- kinCanons of the program, walked. -/
import Derived.Test.YtlmciclkfmeepaaDoorKinE
namespace Go.Proofs.YtlmciclkfmeepaaDoor
open Go.ChangeShapes Go.WideShapes Go.ChangeAt Go.RowKit Go.Maps
set_option linter.unusedVariables false

set_option maxHeartbeats 3200000 in
set_option maxRecDepth 100000 in
theorem kinCanons_core (ra : Option Addr) (rc lo hi : Nat) (gs : List (List Ty)) (w : World) (hP : Parts gs) (hp : pow10 w) (hh : hi ≤ w.heap.size) (hrc : kinCount gs ≤ rc)
    (hR : gs.length ≤ 0 ∨ ∃ rb ro, ra = some ⟨rb, ro, none⟩ ∧ lo ≤ rb ∧ rb < hi ∧ ∀ i, i < kinCount gs → TypeAt w lo hi rb (ro + i * 6) (krAt (rowsOf gs) i).t ∧ w.cell? ⟨rb, ro + i * 6 + 4, none⟩ = some (.int .i64 ((krAt (rowsOf gs) i).b : Nat)) ∧ w.cell? ⟨rb, ro + i * 6 + 5, none⟩ = some (.int .i64 ((krAt (rowsOf gs) i).e : Nat))) :
    Calls Tryd.prog 47 #[.slice ra (kinCount gs) rc] w fun e w' => e = .returned (.slice (some ⟨w.heap.size, 0, none⟩) (kinCount gs) (kinCount gs)) ∧ w'.rowIs w.heap.size 3 (kinCount gs) (filledN (canon gs) (kinCount gs)) ∧ Below w.heap.size w w' := by
  have HP := hide hP
  have Hp := hide hp
  have k8 := hP.2.1
  have hmk := run_make_row' (P := Tryd.prog) 60 3 (.int .i64 0) 8 Tryd.underlying60 Tryd.infoIntC rfl .i64 .i64 (kinCount gs) (by omega) (by omega)
  have hmm := @run_makeMap Tryd.prog
  clear hP hp
  rcases hR with h0 | ⟨rb, ro, rfl, h1, h2, h3⟩
  all_goals
    go_enter Tryd.func47, Tryd.ntmps47
    go_wp2_with fail
    go_loopw [5] (fun v wr => ∃ x : Nat, x ≤ gs.length ∧ v = .int .i64 (beg gs x : Nat) ∧ wr.rowIs w.heap.size 3 (kinCount gs) (filledN (canon gs) (beg gs x)) ∧ wr.ownsMap Tryd.prog 9 (plainElem Tryd.prog 3) (w.heap.size + 1) x (firstsD gs x) ∧ Below w.heap.size w wr) (fun v wr => kinCount gs - (intOf v).toNat)
    case atStart =>
      refine ⟨0, Nat.zero_le _, rfl, ((World.rowIs_made w _ (kinCount gs) _).congr (fun j _ => by simp [filledN, beg, countTo])).alloc _, ?_, ((Below.refl _ _).alloc (Nat.le_refl _) _).alloc (by simp) _⟩
      have := World.ownsMap_made (H := Unit) (w.alloc (.cells (madeCells #[Value.int .i64 0] (kinCount gs)) 3)) Tryd.prog 9 (plainElem Tryd.prog 3)
      have e0 : firstsD gs 0 = .map [] := rfl
      rw [e0]
      simpa using this
    case round =>
      obtain ⟨x, hx, rfl, hr, hm, hb⟩ := hrel
      by_cases hxn : x < gs.length
      · first
        | (exfalso; omega)
        | (have hc : beg gs (x + 1) ≤ kinCount gs := beg_le hxn
           have hs := beg_succ gs x
           have hn0 := (HP.out.2.2 x hxn).1
           have hrow : Hid (∀ W : World, Below w.heap.size w W → ∀ i, i < kinCount gs → TypeAt W lo hi rb (ro + i * 6) (krAt (rowsOf gs) i).t ∧ W.cell? ⟨rb, ro + i * 6 + 4, none⟩ = some (.int .i64 ((krAt (rowsOf gs) i).b : Nat)) ∧ W.cell? ⟨rb, ro + i * 6 + 5, none⟩ = some (.int .i64 ((krAt (rowsOf gs) i).e : Nat))) := fun W hW i hi => by
             obtain ⟨t1, t2, t3⟩ := h3 i hi
             have q : ∀ o, W.cell? ⟨rb, o, none⟩ = w.cell? ⟨rb, o, none⟩ := fun o => hW.cell (by exact Nat.lt_of_lt_of_le h2 hh)
             exact ⟨t1.keep (hW.mono hh) h1 h2, by rw [q]; exact t2, by rw [q]; exact t3⟩
           have HCall := hide (kinWritten_any rb ro rc lo hi (some ⟨w.heap.size, 0, none⟩) (kinCount gs) gs x wr HP.out (pow10_keep Hp.out hb) (Nat.le_trans hh hb.size) hxn h1 h2 hrc (hrow.out wr hb) (rowIs_canIn hr (by omega)))
           have E5 : Hid (∀ W : World, Below w.heap.size w W → W.cell? ⟨rb, ro + beg gs x * 6 + 5, none⟩ = some (.int .i64 ((beg gs x : Int) + ((grAt gs x).length : Int)))) := fun W hW => by
             have h := (hrow.out W hW (beg gs x) (by omega)).2.2
             have e := rows_at (gs := gs) hxn hn0
             rw [Nat.add_zero] at e
             rw [e] at h
             simp only at h
             rw [hs] at h
             simpa using h
           have HCa : Hid (∀ i, i < (grAt gs x).length → canon gs (beg gs x + i) = beg gs (lead gs x) + i) := fun i hi => canon_at HP.out hxn hi
           have hl8 : beg gs (lead gs x) ≤ 8 := by have := beg_le (gs := gs) (x := lead gs x) (by have := lead_le gs x; omega); omega
           have HOld := hide (fun (h : Maps.has (firstsD gs x) (.string (txt gs x)) = true) z => lead_old h z)
           have HNew := hide (fun (h : Maps.has (firstsD gs x) (.string (txt gs x)) = false) => lead_new h)
           have hkey : keyOf Tryd.prog 9 (.string ⟨(txt gs x).toArray⟩) = some (.string (txt gs x)) := by
             have hl := grpTxt_len (b := beg gs x) (parts_tyOk HP.out hxn) (fun i hi => parts_len4 HP.out hxn hi) (grAt gs x).length (Nat.le_refl _)
             rw [List.take_length] at hl
             have h8 : (grAt gs x).length ≤ 8 := by omega
             rw [WideMaps.keyOf_string_mk Tryd.underlying9 (by show (txt gs x).toArray.size ≤ maxLen; unfold maxLen; simp; unfold txt; omega)]
           have HD1 : Hid (firstsD gs (x + 1) = if Maps.has (firstsD gs x) (.string (txt gs x)) then firstsD gs x else (firstsD gs x).put (.string (txt gs x)) (.lit (.int .i64 (beg gs x : Nat)))) := rfl
           have HS := hide hs
           have HLt : Hid (beg gs x < kinCount gs) := by show _ < _; omega
           have b1 : (0 : Int) ≤ (beg gs x : Int) := by omega
           have b2 : (beg gs x : Int) < (kinCount gs : Int) := by omega
           have hbn : beg gs x + (grAt gs x).length ≤ kinCount gs := by omega
           have HR := hide hr
           have HM := hide hm
           have HB := hide hb
           clear hs hc h3 hr hm hb hrow
           obtain ⟨D1, hD1⟩ : ∃ D, D = firstsD gs (x + 1) := ⟨_, rfl⟩
           rw [← hD1] at HD1
           have HDe := hide hD1
           clear hD1
           generalize txt gs x = t at *
           generalize firstsD gs x = D at *
           generalize hF : beg gs (lead gs x) = F at *
           generalize hbx : beg gs x = bx at *
           generalize (grAt gs x).length = n at *
           have HF := hide hF
           have HBX := hide hbx
           clear hF hbx
           go_wp2_with fail
           refine HCall.out.mono ?_
           rintro e w1 ⟨rfl, hb1⟩
           have hr1 := rowIs_below HR.out hb1 HR.out.lt
           have hm1 := ownsMap_below HM.out hb1 HM.out.lt
           have hB1 := HB.out.trans (hb1.mono HB.out.size)
           have R0 := hide hr1
           have M0 := hide hm1
           have B0 := hide hB1
           clear hr1 hm1 hB1 hb1 HR HM HB HCall
           cases hhas : Maps.has D (.string t) with
           | true =>
             have HOl : Hid (∀ z, D.atKey (.string t) z = .lit (.int .i64 (F : Nat))) := HOld.out hhas
             have HD2 : Hid (D1 = D) := by show _ = _; rw [HD1.out, hhas]; rfl
             clear HOld HNew HD1
             have tok : True := trivial
             go_wp2_with (first | (at_lookup; refine wpList_lookup_own_ok_int _ rfl _ _ 100 rfl 9 3 .i64 Tryd.keyS Tryd.underlying100 Tryd.underlying3 (Tryd.zeroI _) (w.heap.size + 1) x _ rfl M0.out _ _ rfl hkey ?_; intro c hat hwc; have hcF : c = (F : Int) := (by have h := HOl.out (.lit (.int .i64 0)); rw [hat] at h; injection h with h; injection h); clear hat hwc; subst hcF; rw [hhas]))
             have R1 : Hid (w1.rowIs w.heap.size 3 (kinCount gs) (filledN (canon gs) (bx + 0))) := R0.out
             have M1 : Hid (w1.ownsMap Tryd.prog 9 (plainElem Tryd.prog 3) (w.heap.size + 1) (x + 1) D1) := by rw [HD2.out]; exact M0.out.mono (by omega)
             have B1 := hide B0.out
             clear R0 M0 B0
             go_loopw [9] (fun v wi => ∃ i : Nat, i ≤ n ∧ v = .int .i64 ((bx : Int) + (i : Int)) ∧ wi.rowIs w.heap.size 3 (kinCount gs) (filledN (canon gs) (bx + i)) ∧ wi.ownsMap Tryd.prog 9 (plainElem Tryd.prog 3) (w.heap.size + 1) (x + 1) D1 ∧ Below w.heap.size w wi) (fun v wi => n - (intOf v - (bx : Int)).toNat)
             case atStart => exact ⟨0, Nat.zero_le _, by simp, R1.out, M1.out, B1.out⟩
             case round =>
               clear R1 M1 B1
               obtain ⟨i, hi, rfl, hr, hm, hb⟩ := hrel
               have HM := hide hm
               have HB := hide hb
               have c5 := E5.out wr hb
               clear hm hb
               by_cases hin : i < n
               · have cell := hr.cell (i := bx + i) (by omega)
                 have fz := hr.frozen (bx + i)
                 have HR := hide hr
                 have hv : Hid (canon gs (bx + i) = F + i) := HCa.out i hin
                 clear hr
                 go_wp2_with fail
                 refine ⟨⟨i + 1, by omega, by go_num, ?_, HM.out.setCell (by simp) _, HB.out.setCell (Nat.le_refl _) _⟩, by simp [intOf]; omega⟩
                 have e := (HR.out.set (bx + i) (.int .i64 (canon gs (bx + i) : Nat))).congr (filledN_step (canon gs) (bx + i))
                 rw [hv.out] at e
                 have e2 : ((F + i : Nat) : Int) = (F : Int) + ((bx : Int) + (i : Int)) - (bx : Int) := by omega
                 rw [e2] at e
                 exact e
               · have hie : Hid (i = n) := Nat.le_antisymm hi (Nat.le_of_not_lt hin)
                 have HR := hide hr
                 clear hr
                 go_wp2_with fail
                 have eR := HR.out
                 rw [hie.out, ← HS.out] at eR
                 have hlt := HLt.out
                 have eV : Value.int .i64 ((bx : Int) + (n : Int)) = Value.int .i64 (beg gs (x + 1) : Nat) := by rw [HS.out]; simp
                 exact ⟨⟨x + 1, by omega, eV, eR, HDe.out ▸ HM.out, HB.out⟩, by simp [intOf]; omega⟩
           | false =>
             have hFx : F = bx := by rw [← HF.out, ← HBX.out, HNew.out hhas]
             have HD2 : Hid (D1 = D.put (.string t) (.lit (.int .i64 (bx : Nat)))) := by show _ = _; rw [HD1.out, hhas]; rfl
             clear HOld HNew HD1 HF
             subst hFx
             have hx5 : x ≤ 1048576 := by have := HP.out.1; omega
             go_wp2_with (first | (at_lookup; refine wpList_lookup_own_ok_int _ rfl _ _ 100 rfl 9 3 .i64 Tryd.keyS Tryd.underlying100 Tryd.underlying3 (Tryd.zeroI _) (w.heap.size + 1) x _ rfl M0.out _ _ rfl hkey ?_; intro c hat hwc; clear hat hwc; rw [hhas]) | (at_mapUpdate; refine wpList_mapUpdate_own _ rfl _ _ _ 100 rfl 9 3 Tryd.keyS Tryd.underlying100 _ (w.heap.size + 1) x _ rfl M0.out (by unfold maxLen; omega) _ _ _ rfl rfl hkey _ [] (plainElem_int Tryd.underlying3 (WalkArith.wf_i64 (by omega))) ?_; intro w2 hm2 hg2))
             have R1 : Hid (w2.rowIs w.heap.size 3 (kinCount gs) (filledN (canon gs) (F + 0))) := R0.out.of_block (hg2.block _ R0.out.lt (by simp))
             have M1 : Hid (w2.ownsMap Tryd.prog 9 (plainElem Tryd.prog 3) (w.heap.size + 1) (x + 1) D1) := by rw [HD2.out]; exact hm2
             have B1 : Hid (Below w.heap.size w w2) := B0.out.grown hg2 B0.out.size (fun k e => by cases e; simp)
             clear R0 M0 B0 hm2 hg2
             go_loopw [9] (fun v wi => ∃ i : Nat, i ≤ n ∧ v = .int .i64 ((F : Int) + (i : Int)) ∧ wi.rowIs w.heap.size 3 (kinCount gs) (filledN (canon gs) (F + i)) ∧ wi.ownsMap Tryd.prog 9 (plainElem Tryd.prog 3) (w.heap.size + 1) (x + 1) D1 ∧ Below w.heap.size w wi) (fun v wi => n - (intOf v - (F : Int)).toNat)
             case atStart => exact ⟨0, Nat.zero_le _, by simp, R1.out, M1.out, B1.out⟩
             case round =>
               clear R1 M1 B1
               obtain ⟨i, hi, rfl, hr, hm, hb⟩ := hrel
               have HM := hide hm
               have HB := hide hb
               have c5 := E5.out wr hb
               clear hm hb
               by_cases hin : i < n
               · have cell := hr.cell (i := F + i) (by omega)
                 have fz := hr.frozen (F + i)
                 have HR := hide hr
                 have hv : Hid (canon gs (F + i) = F + i) := HCa.out i hin
                 clear hr
                 go_wp2_with fail
                 refine ⟨⟨i + 1, by omega, by go_num, ?_, HM.out.setCell (by simp) _, HB.out.setCell (Nat.le_refl _) _⟩, by simp [intOf]; omega⟩
                 have e := (HR.out.set (F + i) (.int .i64 (canon gs (F + i) : Nat))).congr (filledN_step (canon gs) (F + i))
                 rw [hv.out] at e
                 have e2 : ((F + i : Nat) : Int) = (F : Int) + ((F : Int) + (i : Int)) - (F : Int) := by omega
                 rw [e2] at e
                 exact e
               · have hie : Hid (i = n) := Nat.le_antisymm hi (Nat.le_of_not_lt hin)
                 have HR := hide hr
                 clear hr
                 go_wp2_with fail
                 have eR := HR.out
                 rw [hie.out, ← HS.out] at eR
                 have hlt := HLt.out
                 have eV : Value.int .i64 ((F : Int) + (n : Int)) = Value.int .i64 (beg gs (x + 1) : Nat) := by rw [HS.out]; simp
                 exact ⟨⟨x + 1, by omega, eV, eR, HDe.out ▸ HM.out, HB.out⟩, by simp [intOf]; omega⟩
)
      · have hxe : Hid (x = gs.length) := Nat.le_antisymm hx (Nat.le_of_not_lt hxn)
        have HR := hide hr
        have HB := hide hb
        have hk : Hid (beg gs x = kinCount gs) := by show _ = _; rw [hxe.out]; rfl
        have hk2 : (beg gs x : Int) = (kinCount gs : Int) := by rw [hk.out]
        clear hr hm hb
        rw [hk2]
        go_wp2_with fail
        go_ret
        have := HR.out
        rw [hk.out] at this
        exact ⟨rfl, this, HB.out⟩
end Go.Proofs.YtlmciclkfmeepaaDoor
