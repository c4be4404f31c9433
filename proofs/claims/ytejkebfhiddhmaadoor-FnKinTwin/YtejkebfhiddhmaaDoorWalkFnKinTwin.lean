/- The law of a group that is written once more. -/
import Derived.Test.YtejkebfhiddhmaaDoorKinBentG
import Derived.Test.YtejkebfhiddhmaaDoorKinTwinM
import Derived.Test.YtejkebfhiddhmaaDoorWpShift
import Derived.Test.YtejkebfhiddhmaaDoorWalkFnKinMore
import Derived.Test.YtejkebfhiddhmaaDoorWalkFnKinBent
import Derived.Deep.CutRange
namespace Go.Proofs.YtejkebfhiddhmaaDoor
open Go.ChangeShapes Go.WideShapes Go.ChangeAt Go.RowKit Go.Deep
set_option linter.unusedVariables false
set_option linter.unusedSimpArgs false

theorem wrap_sm {x : Int} (h1 : -9223372036854775808 ≤ x) (h2 : x ≤ 9223372036854775807) : IntKind.i64.wrap x = x := by
  have e : IntKind.i64.wrap x = if 9223372036854775808 ≤ x % 18446744073709551616 then x % 18446744073709551616 - 18446744073709551616 else x % 18446744073709551616 := by simp [IntKind.wrap, IntKind.bits, IntKind.signed]
  rw [e]
  split <;> omega
theorem countTo_take (gs : List (List Ty)) (k : Nat) (hk : k ≤ gs.length) : kinCount (gs.take k) = beg gs k := by
  unfold kinCount beg
  rw [List.length_take, Nat.min_eq_left hk]
  exact countTo_congr k fun i hi => by simp [grAt, List.getD, hi]
theorem small_of {gs : List (List Ty)} (hP : Parts gs) {k : Nat} (hk : k < gs.length) : Small (grAt gs k) := by
  have hb := beg_end hk
  have h8 := hP.2.1
  refine ⟨by omega, fun i hi => ?_⟩
  obtain ⟨⟨a, b⟩, c, d, e⟩ := (formOk_iff _ _ _).1 ((hP.2.2 k hk).2 i hi)
  have e0 : countTo (grAt gs) k = beg gs k := rfl
  rw [e0] at b e
  refine ⟨by omega, ⟨by omega, by omega⟩, fun j hj => ?_⟩
  have := (fieldOk_iff _ _ _).1 (e j hj)
  omega
theorem keepT_B {S B : Nat} {w w' : World} (hB : w.heap[B]? = some (.cells #[] 41 (0, 0))) (hg : w.grownBy w' (some B)) : KeepT S w w' :=
  ⟨fun k cur _ hk => (grown_otherB hB hg hk (by decide)).trans hk.symm, fun k cur _ hk => (grown_otherB hB hg hk (by decide)).trans hk.symm⟩
theorem TRow.keepT {w w' : World} {S cap : Nat} {a : Option Addr} {ts : List Ty} (h : TRow w S a cap ts) (k : KeepT S w w') : TRow w' S a cap ts := h.keep k.1 k.2
theorem TRow.al {w : World} {S cap : Nat} {a : Option Addr} {ts : List Ty} (h : TRow w S a cap ts) (o : Obj) : TRow (w.alloc o) S a cap ts := h.below ((Below.refl _ _).alloc (Nat.le_refl _) o)
theorem TRow.dr {w : World} {S cap : Nat} {a : Option Addr} {ts : List Ty} (h : TRow w S a cap ts) : TRow w.drew S a cap ts := h.below (Below.refl _ _).drew
theorem GS.twinned {w0 w w6 : World} {ga gc hi g6 cap6 S nc k : Nat} {na : Option Addr} {gs : List (List Ty)} {xs : List Value} (h : GS w0 w ga gc gs) (hh : w0.heap.size ≤ hi ∧ hi ≤ w.heap.size) (hl : xs.length = gs.length)
    (hg : ∀ i, i < gs.length → ∃ ta tc, xs[i]? = some (.slice ta (grAt gs i).length tc) ∧ TypesIn w w0.heap.size hi ta (grAt gs i)) (hb : Below w.heap.size w w6)
    (ho : w6.ownsRow w.heap.size 41 1 (.slice (some ⟨g6, 0, none⟩) (gs.length + 1) cap6) (gs.length + 1) (xs ++ [.slice na (grAt gs k).length nc]))
    (ht : TRow w6 S na nc (twin gs k)) (hS : w.heap.size ≤ S) (f1 : gs.length ≤ 1048575) (hP : Parts gs) (hk : k < gs.length) : GS w0 w6 g6 cap6 (gs ++ [twin gs k]) := by
  have sm := small_of hP hk
  refine h.snoc hh hl hg hb h.bel.size ho twin_length (ht.lower (Nat.le_trans h.bel.size hS)).types f1 (by rw [twin_length]; have := sm.1; omega) fun j hj => ?_
  rw [twin_length] at hj
  rw [twin_at j hj, shiftTy_len]
  have := (sm.2 j hj).1
  omega

set_option maxHeartbeats 12000000 in
set_option maxRecDepth 100000 in
theorem fnKinTwin_walk (a0 : Option Addr) (cap0 n0 : Nat) (hc0 : n0 ≤ cap0) (w : World) (h0 : BytesIn w w.heap.size a0 n0) (ht : pow10 w) :
    Calls Tryd.prog 5 #[.slice a0 n0 cap0] w fun e w' => e = .returned (.bool true) ∧ Below w.heap.size w w' := by
  by_cases l0 : 1048576 < n0
  · have k0 : (1048576 : Int) < (n0 : Int) := by omega
    go_enter Tryd.func5, Tryd.ntmps5
    go_wp2_with fail
    go_ret
    exact ⟨rfl, Below.refl _ _⟩
  have k0 : (n0 : Int) ≤ 1048576 := by omega
  go_enter Tryd.func5, Tryd.ntmps5
  go_wp2_with fail
  refine (drawKinUnder_any a0 cap0 n0 w hc0 h0 ht).mono ?_
  rintro e w1 ⟨gs, ga, gc, a, b, rfl, G1, ⟨a1, a2⟩, b1, b2⟩
  have n2 := G1.count
  obtain ⟨x, hx⟩ : ∃ x, underB gs a b = x := ⟨_, rfl⟩
  have HX := hide hx
  clear hx
  have gl : gs.length ≤ 1048576 := G1.few.1
  have gcap : gs.length ≤ gc := G1.cap
  cases hk : kinOkF gs
  · have HK := hide hk
    clear hk
    go_wp2_with fail
    refine (G1.implOk HK.out).mono ?_
    rintro e w2 ⟨rfl, _, G2⟩
    clear G1
    go_wp2_with fail
    refine (G2.specOk HK.out).mono ?_
    rintro e w3 ⟨rfl, _, G3⟩
    clear G2
    go_wp2_with fail
    refine (G3.implUnder HX.out).mono ?_
    rintro e w4 ⟨rfl, _, G4⟩
    clear G3
    go_wp2_with fail
    refine (G4.specUnder HX.out).mono ?_
    rintro e w5 ⟨rfl, _, G5⟩
    clear G4
    go_wp2_with fail
    refine (G5.specOk HK.out).mono ?_
    rintro e w6 ⟨rfl, _, G6⟩
    clear G5
    go_wp2_with fail
    refine (G6.implOk HK.out).mono ?_
    rintro e w7 ⟨rfl, _, G7⟩
    clear G6
    go_wp2_with fail
    refine (G7.specOk HK.out).mono ?_
    rintro e w8 ⟨rfl, _, G8⟩
    clear G7
    go_wp2_with fail
    refine (G8.implUnder HX.out).mono ?_
    rintro e w9 ⟨rfl, _, G9⟩
    clear G8
    go_wp2_with fail
    refine (G9.specUnder HX.out).mono ?_
    rintro e w10 ⟨rfl, _, G10⟩
    clear G9
    go_wp2_with fail
    go_ret
    exact ⟨rfl, G10.bel⟩
  have HK := hide hk
  have HP := hide (kinOk_parts hk)
  have c8 : kinCount gs ≤ 8 := HP.out.2.1
  clear hk
  by_cases h04 : gs.length = 0 ∨ 4 ≤ gs.length
  · have hcase : ((gs.length : Int) == 0) = true ∨ (((gs.length : Int) == 0) = false ∧ (4 : Int) ≤ (gs.length : Int)) := by
      rcases h04 with h | h
      · exact .inl (beq_iff_eq.2 (by omega))
      · exact .inr ⟨beq_eq_false_iff_ne.2 (by omega), by omega⟩
    clear h04
    rcases hcase with z0 | ⟨z0, z1⟩
    all_goals
      go_wp2_with fail
      refine (G1.implOk HK.out).mono ?_
      rintro e w2 ⟨rfl, _, G2⟩
      clear G1
      go_wp2_with fail
      refine (G2.specOk HK.out).mono ?_
      rintro e w3 ⟨rfl, _, G3⟩
      clear G2
      go_wp2_with fail
      refine (G3.implUnder HX.out).mono ?_
      rintro e w4 ⟨rfl, _, G4⟩
      clear G3
      go_wp2_with fail
      refine (G4.specUnder HX.out).mono ?_
      rintro e w5 ⟨rfl, _, G5⟩
      clear G4
      go_wp2_with fail
      refine (G5.specOk HK.out).mono ?_
      rintro e w6 ⟨rfl, _, G6⟩
      clear G5
      go_wp2_with fail
      refine (G6.implOk HK.out).mono ?_
      rintro e w7 ⟨rfl, _, G7⟩
      clear G6
      go_wp2_with fail
      refine (G7.specOk HK.out).mono ?_
      rintro e w8 ⟨rfl, _, G8⟩
      clear G7
      go_wp2_with fail
      refine (G8.implUnder HX.out).mono ?_
      rintro e w9 ⟨rfl, _, G9⟩
      clear G8
      go_wp2_with fail
      refine (G9.specUnder HX.out).mono ?_
      rintro e w10 ⟨rfl, _, G10⟩
      clear G9
      go_wp2_with fail
      go_ret
      exact ⟨rfl, G10.bel⟩
  have z0 : ((gs.length : Int) == 0) = false := beq_eq_false_iff_ne.2 (by omega)
  have z1 : (gs.length : Int) < 4 := by omega
  have hz1 : ¬ (gs.length : Int) = 0 := by omega
  have hz2 : (0 : Int) < (gs.length : Int) := by omega
  obtain ⟨k, hkk⟩ : ∃ k : Nat, (n0 : Int) % (gs.length : Int) = (k : Int) := ⟨n0 % gs.length, by simp⟩
  have kl : k < gs.length := by have := Int.emod_lt_of_pos (n0 : Int) hz2; rw [hkk] at this; omega
  have kl1 : (k : Int) ≤ (gs.length : Int) := by omega
  have kl2 : (k : Int) ≤ (gc : Int) := by omega
  have kl3 : (k : Int) < (gs.length : Int) := by omega
  have kl0 : (0 : Int) ≤ (k : Int) := by omega
  have tl : (gs.take k).length = k := by rw [List.length_take]; omega
  have HKT := hide (countTo_take gs k (by omega))
  have hend := beg_end kl
  clear h04
  go_wp2_with fail
  refine (G1.implOk HK.out).mono ?_
  rintro e w2 ⟨rfl, _, G2⟩
  clear G1
  go_wp2_with fail
  refine (G2.specOk HK.out).mono ?_
  rintro e w3 ⟨rfl, _, G3⟩
  clear G2
  go_wp2_with fail
  refine (G3.implUnder HX.out).mono ?_
  rintro e w4 ⟨rfl, _, G4⟩
  clear G3
  go_wp2_with fail
  refine (G4.specUnder HX.out).mono ?_
  rintro e w5 ⟨rfl, _, G5⟩
  clear G4
  go_wp2_with fail
  refine (G5.specOk HK.out).mono ?_
  rintro e w6 ⟨rfl, _, G6⟩
  clear G5
  go_wp2_with fail
  refine G6.implCount.mono ?_
  rintro e w7 ⟨rfl, rfl⟩
  have CT := (G6.take k).implCount
  rw [tl, HKT.out] at CT
  have CT2 := hide CT
  clear CT tl
  go_wp2_with fail
  refine CT2.out.mono ?_
  rintro e w8 ⟨rfl, rfl⟩
  clear CT2
  obtain ⟨xs, hi, hhi, hxl, hx1, hxc, hxg⟩ := G6.heads2
  obtain ⟨ta, tc, hxk, htk⟩ := hxg k kl
  have HTK := hide htk
  have HXK := hide hxk
  have hck : w8.cell? ⟨ga, k, none⟩ = some (.slice ta (grAt gs k).length tc) := hxc _ (Below.refl _ _) k _ hxk
  have HX1C := hide hx1
  have HXC := hide hxc
  have HXG := hide hxg
  clear hxc hx1 hxg hxk htk
  have hgalt : ga < w8.heap.size := cell_lt hck
  by_cases h8 : 8 < (kinCount gs : Int) + ((grAt gs k).length : Int)
  · go_wp2_with fail
    go_ret
    exact ⟨rfl, G6.bel⟩
  have h8b : (kinCount gs : Int) + ((grAt gs k).length : Int) ≤ 8 := by omega
  clear h8
  have HSm := hide (small_of HP.out kl)
  have HO2 : Hid (kinOkF (gs ++ [twin gs k]) = true) := ok_twin HK.out kl (by omega) (by omega)
  have HP2 := hide (kinOk_parts HO2.out)
  have KE : Hid ((gs ++ [twin gs k]).length = gs.length + 1) := by show _ = _; simp
  have KC : Hid (kinCount (gs ++ [twin gs k]) = kinCount gs + (grAt gs k).length) := by show _ = _; rw [kinCount_snoc, twin_length]
  have HR1 : Hid (∀ i : Nat, i < (grAt gs k).length → sameB (gs ++ [twin gs k]) ((beg gs k : Int) + (i : Int)) ((kinCount gs : Int) + (i : Int)) = true ∧ (∃ c : Int, canonF (gs ++ [twin gs k]) ((kinCount gs : Int) + (i : Int)) = c ∧ c ≤ (beg gs k : Int) + (i : Int)) ∧ underB (gs ++ [twin gs k]) ((kinCount gs : Int) + (i : Int)) ((beg gs k : Int) + (i : Int)) = true ∧ underB (gs ++ [twin gs k]) ((beg gs k : Int) + (i : Int)) ((kinCount gs : Int) + (i : Int)) = true ∧ (-2 ≤ b → b < (kinCount gs : Int) → underB (gs ++ [twin gs k]) ((kinCount gs : Int) + (i : Int)) b = underB gs ((beg gs k : Int) + (i : Int)) b)) := by
    intro i hi
    obtain ⟨t0, t1, t2, t3, t4⟩ := twin_grp kl hi
    have sm := same_twin HP2.out HP.out kl hi
    have bo := (under_anti HP2.out t1 t2).2 sm
    have q1 : ((beg gs k : Int) + (i : Int)) = ((beg gs k + i : Nat) : Int) := by omega
    have q2 : ((kinCount gs : Int) + (i : Int)) = ((kinCount gs + i : Nat) : Int) := by omega
    rw [q1, q2]
    refine ⟨?_, ?_, ?_, ?_, fun hb1 hb2 => ?_⟩
    · unfold sameB isTypeF
      rw [HO2.out, Int.toNat_natCast, Int.toNat_natCast, sm]
      simp
      omega
    · refine ⟨_, rfl, ?_⟩
      unfold canonF isTypeF
      rw [HO2.out, Int.toNat_natCast, ← (same_iff HP2.out t1 t2).1 sm]
      have hc := canon_le (gs ++ [twin gs k]) (beg gs k + i)
      split
      · omega
      · omega
    · rw [underB_of HO2.out (by omega) (by omega) (by omega) (by omega)]; exact bo.2
    · rw [underB_of HO2.out (by omega) (by omega) (by omega) (by omega)]; exact bo.1
    · rw [underB_of HO2.out (by omega) (by omega) hb1 (by have := KC.out; omega), underB_of HK.out (by omega) (by omega) hb1 hb2]
      rw [← under_more (hs := [twin gs k]) HP.out (by omega) hb2]
      exact under_both HP2.out bo.1 bo.2 (under_refl _ _) (under_refl _ _) (by omega) (by omega) (by have := KC.out; omega) (by have := KC.out; omega)
  have HR2 : Hid (a < (kinCount gs : Int) → b < (kinCount gs : Int) → underB (gs ++ [twin gs k]) a b = x) := fun h1 h2 => (underB_more HO2.out h1 h2).trans HX.out
  have TW : Hid ((grAt gs k).map (shiftTy (beg gs k : Nat) ((kinCount gs : Int) - (beg gs k : Nat))) = twin gs k) := rfl
  have hbn : beg gs k ≤ kinCount gs := by omega
  have hwr : IntKind.i64.wrap ((kinCount gs : Int) - (beg gs k : Int)) = (kinCount gs : Int) - (beg gs k : Int) := wrap_sm (by omega) (by omega)
  go_upto_region 11 with (fail)
  go_cut [9] from 86 to 99 (fun v wx => ∃ (g c : Nat), v = .slice (some ⟨g, 0, none⟩) (gs.length + 1) c ∧ Hid (GS w wx g c (gs ++ [twin gs k])) ∧ Hid (Below w8.heap.size w8 wx))
  case first =>
    have HCK := hide hck
    go_region_held3 (fun w' => w'.cell? ⟨ga, k, none⟩ = some (.slice ta (grAt gs k).length tc)) ((refine Eq.trans (Below.cell (w := w8) (B := w8.heap.size) (p := ⟨ga, k, none⟩) ?_ hgalt) HCK.out <;> (repeat (first | with_reducible exact Below.refl _ _ | with_reducible exact B6.out | with_reducible exact B5.out | with_reducible exact BC.out | with_reducible refine Below.alloc ?_ (by (first | omega | (simp; omega) | (simp; done))) _ | with_reducible refine Below.drew ?_)))) ((first | (go_at_call 30; refine (wpShift_any ta tc w.heap.size hi (grAt gs k) (beg gs k : Nat) ((kinCount gs : Int) - (beg gs k : Nat)) _ HSm.out (by omega) (by omega) (HTK.out.keep (Below.mono (by (repeat (first | with_reducible exact Below.refl _ _ | with_reducible exact B6.out | with_reducible exact B5.out | with_reducible exact BC.out | with_reducible refine Below.alloc ?_ (by (first | omega | (simp; omega) | (simp; done))) _ | with_reducible refine Below.drew ?_))) hhi.2)) (by have q := hhi.2; first | omega | (simp; omega))).mono ?_; rintro e wC ⟨na, nc, rfl, htr, hbc⟩; rw [TW.out] at htr; have HTR := hide htr; have HQC := hide hbc; have BC : Hid (Below w8.heap.size w8 wC) := hide (Below.trans (by (repeat (first | with_reducible exact Below.refl _ _ | with_reducible exact B6.out | with_reducible exact B5.out | with_reducible exact BC.out | with_reducible refine Below.alloc ?_ (by (first | omega | (simp; omega) | (simp; done))) _ | with_reducible refine Below.drew ?_))) (hbc.mono (by (first | omega | (simp; omega) | (simp; done))))); have zC : w8.heap.size ≤ wC.heap.size := BC.out.size; have sC : _ ≤ wC.heap.size := hbc.size; (try simp at sC); obtain ⟨hcc, hzc⟩ := bcell hbc; have hck := Eq.trans (Below.cell (p := ⟨ga, k, none⟩) BC.out hgalt) HCK.out; clear htr hbc) | (refine step_gapp1 _ _ (by rfl) (by rfl) w8.heap.size _ (by rfl) (by (repeat (first | (with_reducible refine blk_at _ _ _ ?_; focus (first | omega | (simp; omega) | (simp; done))) | (with_reducible refine blk_past _ _ _ _ ?_ ?_; focus (first | omega | (simp; omega) | (simp; done))) | with_reducible refine drew_blk ?_ | (with_reducible refine Eq.trans (HQC.out.block _ ?_) ?_; focus (first | omega | (simp; omega) | (simp; done)))))) (by (first | omega | (simp; omega) | (simp; done))) ga gs.length _ xs (by rfl) hxl (HXC.out _ (by (repeat (first | with_reducible exact Below.refl _ _ | with_reducible exact B6.out | with_reducible exact B5.out | with_reducible exact BC.out | with_reducible refine Below.alloc ?_ (by (first | omega | (simp; omega) | (simp; done))) _ | with_reducible refine Below.drew ?_)))) HX1C.out gl ?_; intro a5 c5 wA hB5 hown5 hgr5 hb5; have B5 : Hid (Below w8.heap.size w8 wA) := hide (Below.trans (by (repeat (first | with_reducible exact Below.refl _ _ | with_reducible exact B6.out | with_reducible exact B5.out | with_reducible exact BC.out | with_reducible refine Below.alloc ?_ (by (first | omega | (simp; omega) | (simp; done))) _ | with_reducible refine Below.drew ?_))) (hb5.mono (by first | exact Nat.le_refl _ | omega | simp))); have HO5 := hide hown5; have HGR5 := hide hgr5; have HB5 := hide hB5; have z5 : w8.heap.size ≤ wA.heap.size := B5.out.size; have s5 : _ ≤ wA.heap.size := hb5.size; (try simp at s5); have hck := Eq.trans (Below.cell (p := ⟨ga, k, none⟩) B5.out hgalt) HCK.out; clear hown5 hgr5 hb5 hB5) | (refine step_gapp2 _ _ (by rfl) (by rfl) w8.heap.size a5 gs.length c5 xs (by rfl) (by (repeat (first | with_reducible exact HO5.out | with_reducible refine World.ownsRow.alloc ?_ _ | with_reducible refine owns_drew ?_ | with_reducible refine owns_below ?_ HQC.out))) _ _ _ _ (by rfl) (by (repeat (first | (with_reducible refine blk_at _ _ _ ?_; focus (first | omega | (simp; omega) | (simp; done))) | (with_reducible refine blk_past _ _ _ _ ?_ ?_; focus (first | omega | (simp; omega) | (simp; done))) | (with_reducible refine grown_at HGR5.out ?_ ?_; rotate_left; focus (first | (simp; omega) | (simp; done))) | with_reducible refine drew_blk ?_))) gl (by (first | omega | (simp; omega) | (simp; done))) ?_; intro g6 c6 w6 how6 hown6 hgr6 hlt6; have B6 : Hid (Below w8.heap.size w8 w6) := hide (Below.grown (by (repeat (first | with_reducible exact Below.refl _ _ | with_reducible exact B6.out | with_reducible exact B5.out | with_reducible exact BC.out | with_reducible refine Below.alloc ?_ (by (first | omega | (simp; omega) | (simp; done))) _ | with_reducible refine Below.drew ?_))) hgr6 (by (first | omega | (simp; omega) | (simp; done))) (owns_base HO5.out)); have HO6 := hide hown6; have HGR6 := hide hgr6; have HOW := hide how6; have hck := Eq.trans (Below.cell (p := ⟨ga, k, none⟩) B6.out hgalt) HCK.out; clear hown6 hgr6 how6)))
    all_goals
      go_wp2_with fail
      go_meet
      exact ⟨g6, c6, rfl, hide (GS.twinned (S := wA.heap.size) G6 hhi hxl HXG.out B6.out HO6.out ((HTR.out.al _).keepT (.grown HOW.out HGR6.out)) z5 (by omega) HP.out kl), B6⟩
  case rest =>
    obtain ⟨g9, c9, rfl, HG9, HB9⟩ := hcut
    have GH := HG9.out
    have G9 := G6.keep HB9.out
    have hck9 := Eq.trans (Below.cell (p := ⟨ga, k, none⟩) HB9.out hgalt) hck
    have HGL : Hid (ga < wc.heap.size) := Nat.lt_of_lt_of_le hgalt HB9.out.size
    have hck := hck9
    clear hwr hck9 HG9 HB9 HX1C HXC HXG HTK HXK hhi hxl hgalt G6
    generalize beg gs k = fr at *
    generalize kinCount gs = n at *
    generalize hL : (grAt gs k).length = L at *
    generalize hG : gs ++ [twin gs k] = hs at *
    rw [← KE.out]
    clear hG hL
    go_wp2_with fail
    refine (GH.implOk HO2.out).mono ?_
    rintro e w21 ⟨rfl, bb, GH'⟩
    replace G9 := G9.keep bb
    replace hck := Eq.trans (Below.cell (p := ⟨ga, k, none⟩) bb HGL.out) hck
    replace HGL : Hid (ga < w21.heap.size) := Nat.lt_of_lt_of_le HGL.out bb.size
    clear bb GH
    have GH := GH'
    clear GH'
    skip
    have HLOOP : Hid (∀ i : Nat, i < L → True) := fun _ _ => trivial
    by_cases hab : a < (n : Int) ∧ b < (n : Int)
    · obtain ⟨r1, r2⟩ := hab
      have HXX : Hid (underB hs a b = x) := HR2.out r1 r2
      go_wp2_with fail
      refine (GH.implUnder HXX.out).mono ?_
      rintro e w22 ⟨rfl, bb, GH'⟩
      replace G9 := G9.keep bb
      replace hck := Eq.trans (Below.cell (p := ⟨ga, k, none⟩) bb HGL.out) hck
      replace HGL : Hid (ga < w22.heap.size) := Nat.lt_of_lt_of_le HGL.out bb.size
      clear bb GH
      have GH := GH'
      clear GH'
      go_wp2_with fail
      refine (G9.implUnder HX.out).mono ?_
      rintro e w23 ⟨rfl, bb, G9'⟩
      replace GH := GH.keep bb
      replace hck := Eq.trans (Below.cell (p := ⟨ga, k, none⟩) bb HGL.out) hck
      replace HGL : Hid (ga < w23.heap.size) := Nat.lt_of_lt_of_le HGL.out bb.size
      clear bb G9
      have G9 := G9'
      clear G9'
      go_wp2_with fail
      go_loopw [10] (fun iv wr => ∃ i : Nat, iv = .int .i64 (i : Int) ∧ i ≤ L ∧ Hid (GS w wr g9 c9 hs) ∧ Hid (GS w wr ga gc gs) ∧ Hid (wr.cell? ⟨ga, k, none⟩ = some (.slice ta L tc) ∧ ga < wr.heap.size)) (fun iv wr => L - (intOf iv).toNat)
      case atStart => exact ⟨0, rfl, Nat.zero_le _, GH, G9, ⟨hck, HGL.out⟩⟩
      case round =>
        clear GH G9 hck HGL
        obtain ⟨i, rfl, hiL, HGH, HG9, HCK⟩ := hrel
        have GH := HGH.out
        have G9 := HG9.out
        have hck := HCK.out.1
        have HGL := hide HCK.out.2
        clear HGH HG9 HCK
        by_cases hlt : i < L
        · obtain ⟨r1, ⟨c, r2, r2b⟩, r3, r4, r5⟩ := HR1.out i hlt
          have R1 := hide r1
          have R2 := hide r2
          have R3 := hide r3
          have R4 := hide r4
          have R5 := hide r5
          have hlti : (i : Int) < (L : Int) := by omega
          have r2c : ¬ ((fr : Int) + (i : Int) < c) := by omega
          clear r1 r2 r3 r4 r5
          go_wp2_with fail
          refine (GH.implSame R1.out).mono ?_
          rintro e w124 ⟨rfl, bb, GH'⟩
          replace G9 := G9.keep bb
          replace hck := Eq.trans (Below.cell (p := ⟨ga, k, none⟩) bb HGL.out) hck
          replace HGL : Hid (ga < w124.heap.size) := Nat.lt_of_lt_of_le HGL.out bb.size
          clear bb GH
          have GH := GH'
          clear GH'
          go_wp2_with fail
          refine (GH.implCanon R2.out).mono ?_
          rintro e w125 ⟨rfl, bb, GH'⟩
          replace G9 := G9.keep bb
          replace hck := Eq.trans (Below.cell (p := ⟨ga, k, none⟩) bb HGL.out) hck
          replace HGL : Hid (ga < w125.heap.size) := Nat.lt_of_lt_of_le HGL.out bb.size
          clear bb GH
          have GH := GH'
          clear GH'
          go_wp2_with fail
          refine (GH.implUnder R3.out).mono ?_
          rintro e w126 ⟨rfl, bb, GH'⟩
          replace G9 := G9.keep bb
          replace hck := Eq.trans (Below.cell (p := ⟨ga, k, none⟩) bb HGL.out) hck
          replace HGL : Hid (ga < w126.heap.size) := Nat.lt_of_lt_of_le HGL.out bb.size
          clear bb GH
          have GH := GH'
          clear GH'
          go_wp2_with fail
          refine (GH.implUnder R4.out).mono ?_
          rintro e w127 ⟨rfl, bb, GH'⟩
          replace G9 := G9.keep bb
          replace hck := Eq.trans (Below.cell (p := ⟨ga, k, none⟩) bb HGL.out) hck
          replace HGL : Hid (ga < w127.heap.size) := Nat.lt_of_lt_of_le HGL.out bb.size
          clear bb GH
          have GH := GH'
          clear GH'
          by_cases hb : -2 ≤ b ∧ b < (n : Int)
          · obtain ⟨hb1, hb2⟩ := hb
            obtain ⟨z, hz⟩ : ∃ z, underB gs ((fr : Int) + (i : Int)) b = z := ⟨_, rfl⟩
            have Z1 : Hid (underB hs ((n : Int) + (i : Int)) b = z) := (R5.out hb1 hb2).trans hz
            have Z2 := hide hz
            clear hz
            go_wp2_with fail
            refine (GH.implUnder Z1.out).mono ?_
            rintro e w128 ⟨rfl, bb, GH'⟩
            replace G9 := G9.keep bb
            replace hck := Eq.trans (Below.cell (p := ⟨ga, k, none⟩) bb HGL.out) hck
            replace HGL : Hid (ga < w128.heap.size) := Nat.lt_of_lt_of_le HGL.out bb.size
            clear bb GH
            have GH := GH'
            clear GH'
            go_wp2_with fail
            refine (G9.implUnder Z2.out).mono ?_
            rintro e w129 ⟨rfl, bb, G9'⟩
            replace GH := GH.keep bb
            replace hck := Eq.trans (Below.cell (p := ⟨ga, k, none⟩) bb HGL.out) hck
            replace HGL : Hid (ga < w129.heap.size) := Nat.lt_of_lt_of_le HGL.out bb.size
            clear bb G9
            have G9 := G9'
            clear G9'
            go_wp2_with fail
            exact ⟨⟨i + 1, by go_num, by omega, GH, G9, ⟨hck, HGL.out⟩⟩, by (simp [intOf] <;> omega)⟩
          · have hbc : b < -2 ∨ (-2 ≤ b ∧ (n : Int) ≤ b) := by omega
            clear hb
            rcases hbc with hb1 | ⟨hb1, hb2⟩
            all_goals
              (go_wp2_with fail) <;> exact ⟨⟨i + 1, by go_num, by omega, GH, G9, ⟨hck, HGL.out⟩⟩, by (simp [intOf] <;> omega)⟩
        · have hlti : ¬ ((i : Int) < (L : Int)) := by omega
          go_wp2_with fail
          go_ret
          exact ⟨rfl, GH.bel⟩
    · have hac : (n : Int) ≤ a ∨ (a < (n : Int) ∧ (n : Int) ≤ b) := by omega
      clear hab
      rcases hac with r1 | ⟨r1, r2⟩
      · skip
        go_wp2_with fail
        go_loopw [10] (fun iv wr => ∃ i : Nat, iv = .int .i64 (i : Int) ∧ i ≤ L ∧ Hid (GS w wr g9 c9 hs) ∧ Hid (GS w wr ga gc gs) ∧ Hid (wr.cell? ⟨ga, k, none⟩ = some (.slice ta L tc) ∧ ga < wr.heap.size)) (fun iv wr => L - (intOf iv).toNat)
        case atStart => exact ⟨0, rfl, Nat.zero_le _, GH, G9, ⟨hck, HGL.out⟩⟩
        case round =>
          clear GH G9 hck HGL
          obtain ⟨i, rfl, hiL, HGH, HG9, HCK⟩ := hrel
          have GH := HGH.out
          have G9 := HG9.out
          have hck := HCK.out.1
          have HGL := hide HCK.out.2
          clear HGH HG9 HCK
          by_cases hlt : i < L
          · obtain ⟨r1, ⟨c, r2, r2b⟩, r3, r4, r5⟩ := HR1.out i hlt
            have R1 := hide r1
            have R2 := hide r2
            have R3 := hide r3
            have R4 := hide r4
            have R5 := hide r5
            have hlti : (i : Int) < (L : Int) := by omega
            have r2c : ¬ ((fr : Int) + (i : Int) < c) := by omega
            clear r1 r2 r3 r4 r5
            go_wp2_with fail
            refine (GH.implSame R1.out).mono ?_
            rintro e w122 ⟨rfl, bb, GH'⟩
            replace G9 := G9.keep bb
            replace hck := Eq.trans (Below.cell (p := ⟨ga, k, none⟩) bb HGL.out) hck
            replace HGL : Hid (ga < w122.heap.size) := Nat.lt_of_lt_of_le HGL.out bb.size
            clear bb GH
            have GH := GH'
            clear GH'
            go_wp2_with fail
            refine (GH.implCanon R2.out).mono ?_
            rintro e w123 ⟨rfl, bb, GH'⟩
            replace G9 := G9.keep bb
            replace hck := Eq.trans (Below.cell (p := ⟨ga, k, none⟩) bb HGL.out) hck
            replace HGL : Hid (ga < w123.heap.size) := Nat.lt_of_lt_of_le HGL.out bb.size
            clear bb GH
            have GH := GH'
            clear GH'
            go_wp2_with fail
            refine (GH.implUnder R3.out).mono ?_
            rintro e w124 ⟨rfl, bb, GH'⟩
            replace G9 := G9.keep bb
            replace hck := Eq.trans (Below.cell (p := ⟨ga, k, none⟩) bb HGL.out) hck
            replace HGL : Hid (ga < w124.heap.size) := Nat.lt_of_lt_of_le HGL.out bb.size
            clear bb GH
            have GH := GH'
            clear GH'
            go_wp2_with fail
            refine (GH.implUnder R4.out).mono ?_
            rintro e w125 ⟨rfl, bb, GH'⟩
            replace G9 := G9.keep bb
            replace hck := Eq.trans (Below.cell (p := ⟨ga, k, none⟩) bb HGL.out) hck
            replace HGL : Hid (ga < w125.heap.size) := Nat.lt_of_lt_of_le HGL.out bb.size
            clear bb GH
            have GH := GH'
            clear GH'
            by_cases hb : -2 ≤ b ∧ b < (n : Int)
            · obtain ⟨hb1, hb2⟩ := hb
              obtain ⟨z, hz⟩ : ∃ z, underB gs ((fr : Int) + (i : Int)) b = z := ⟨_, rfl⟩
              have Z1 : Hid (underB hs ((n : Int) + (i : Int)) b = z) := (R5.out hb1 hb2).trans hz
              have Z2 := hide hz
              clear hz
              go_wp2_with fail
              refine (GH.implUnder Z1.out).mono ?_
              rintro e w126 ⟨rfl, bb, GH'⟩
              replace G9 := G9.keep bb
              replace hck := Eq.trans (Below.cell (p := ⟨ga, k, none⟩) bb HGL.out) hck
              replace HGL : Hid (ga < w126.heap.size) := Nat.lt_of_lt_of_le HGL.out bb.size
              clear bb GH
              have GH := GH'
              clear GH'
              go_wp2_with fail
              refine (G9.implUnder Z2.out).mono ?_
              rintro e w127 ⟨rfl, bb, G9'⟩
              replace GH := GH.keep bb
              replace hck := Eq.trans (Below.cell (p := ⟨ga, k, none⟩) bb HGL.out) hck
              replace HGL : Hid (ga < w127.heap.size) := Nat.lt_of_lt_of_le HGL.out bb.size
              clear bb G9
              have G9 := G9'
              clear G9'
              go_wp2_with fail
              exact ⟨⟨i + 1, by go_num, by omega, GH, G9, ⟨hck, HGL.out⟩⟩, by (simp [intOf] <;> omega)⟩
            · have hbc : b < -2 ∨ (-2 ≤ b ∧ (n : Int) ≤ b) := by omega
              clear hb
              rcases hbc with hb1 | ⟨hb1, hb2⟩
              all_goals
                (go_wp2_with fail) <;> exact ⟨⟨i + 1, by go_num, by omega, GH, G9, ⟨hck, HGL.out⟩⟩, by (simp [intOf] <;> omega)⟩
          · have hlti : ¬ ((i : Int) < (L : Int)) := by omega
            go_wp2_with fail
            go_ret
            exact ⟨rfl, GH.bel⟩
      · skip
        go_wp2_with fail
        go_loopw [10] (fun iv wr => ∃ i : Nat, iv = .int .i64 (i : Int) ∧ i ≤ L ∧ Hid (GS w wr g9 c9 hs) ∧ Hid (GS w wr ga gc gs) ∧ Hid (wr.cell? ⟨ga, k, none⟩ = some (.slice ta L tc) ∧ ga < wr.heap.size)) (fun iv wr => L - (intOf iv).toNat)
        case atStart => exact ⟨0, rfl, Nat.zero_le _, GH, G9, ⟨hck, HGL.out⟩⟩
        case round =>
          clear GH G9 hck HGL
          obtain ⟨i, rfl, hiL, HGH, HG9, HCK⟩ := hrel
          have GH := HGH.out
          have G9 := HG9.out
          have hck := HCK.out.1
          have HGL := hide HCK.out.2
          clear HGH HG9 HCK
          by_cases hlt : i < L
          · obtain ⟨r1, ⟨c, r2, r2b⟩, r3, r4, r5⟩ := HR1.out i hlt
            have R1 := hide r1
            have R2 := hide r2
            have R3 := hide r3
            have R4 := hide r4
            have R5 := hide r5
            have hlti : (i : Int) < (L : Int) := by omega
            have r2c : ¬ ((fr : Int) + (i : Int) < c) := by omega
            clear r1 r2 r3 r4 r5
            go_wp2_with fail
            refine (GH.implSame R1.out).mono ?_
            rintro e w122 ⟨rfl, bb, GH'⟩
            replace G9 := G9.keep bb
            replace hck := Eq.trans (Below.cell (p := ⟨ga, k, none⟩) bb HGL.out) hck
            replace HGL : Hid (ga < w122.heap.size) := Nat.lt_of_lt_of_le HGL.out bb.size
            clear bb GH
            have GH := GH'
            clear GH'
            go_wp2_with fail
            refine (GH.implCanon R2.out).mono ?_
            rintro e w123 ⟨rfl, bb, GH'⟩
            replace G9 := G9.keep bb
            replace hck := Eq.trans (Below.cell (p := ⟨ga, k, none⟩) bb HGL.out) hck
            replace HGL : Hid (ga < w123.heap.size) := Nat.lt_of_lt_of_le HGL.out bb.size
            clear bb GH
            have GH := GH'
            clear GH'
            go_wp2_with fail
            refine (GH.implUnder R3.out).mono ?_
            rintro e w124 ⟨rfl, bb, GH'⟩
            replace G9 := G9.keep bb
            replace hck := Eq.trans (Below.cell (p := ⟨ga, k, none⟩) bb HGL.out) hck
            replace HGL : Hid (ga < w124.heap.size) := Nat.lt_of_lt_of_le HGL.out bb.size
            clear bb GH
            have GH := GH'
            clear GH'
            go_wp2_with fail
            refine (GH.implUnder R4.out).mono ?_
            rintro e w125 ⟨rfl, bb, GH'⟩
            replace G9 := G9.keep bb
            replace hck := Eq.trans (Below.cell (p := ⟨ga, k, none⟩) bb HGL.out) hck
            replace HGL : Hid (ga < w125.heap.size) := Nat.lt_of_lt_of_le HGL.out bb.size
            clear bb GH
            have GH := GH'
            clear GH'
            have hb1 : -2 ≤ b := by omega
            (go_wp2_with fail) <;> exact ⟨⟨i + 1, by go_num, by omega, GH, G9, ⟨hck, HGL.out⟩⟩, by (simp [intOf] <;> omega)⟩
          · have hlti : ¬ ((i : Int) < (L : Int)) := by omega
            go_wp2_with fail
            go_ret
            exact ⟨rfl, GH.bel⟩
end Go.Proofs.YtejkebfhiddhmaaDoor
