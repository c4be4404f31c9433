/- PbKin: DrawKin, DrawProg2. -/
import Derived.Test.YtblliefejffhoaaGreatDoorPbShift
import Derived.Test.YtblliefejffhoaaGreatDoorDrawType
import Derived.Test.YtblliefejffhoaaGreatDoorPbKinA
import Derived.Deep.CutRange
import Derived.Test.YtblliefejffhoaaGreatDoorPbProg
/- l1Kin of the model: groups of types, drawn. Written by tools/made/drawkin.py. -/
namespace Go.Proofs.YtblliefejffhoaaGreatDoor
open Go.ChangeShapes Go.WideShapes Go.ChangeAt Go.RowKit Go.Deep
set_option linter.unusedVariables false

/-- What l1Kin answers. -/
def KinPost (g p : Nat) (w : World) (e : Ending) (w' : World) : Prop :=
  ∃ (gs : List (List Ty)) (gb gc : Nat), e = .returned (.slice (some ⟨gb, 0, none⟩) gs.length gc) ∧ (gs = [] ∨ kinOkF gs = true) ∧ gs.length ≤ gc ∧ GroupsIn w' w.heap.size w'.heap.size (some ⟨gb, 0, none⟩) gs ∧ Few gs ∧ (∃ p', p' ≤ p + 500 ∧ Rd w' g p') ∧ Only g w w'

theorem GInv.tbound {gs : List (List Ty)} (h : GInv gs) (M : Int) (hM : 100 * (gs.length : Int) ≤ M) : ∀ q, q < kinCount gs → TBound M q (tyN gs q) := by
  intro q hq
  obtain ⟨g1, g2, g3⟩ := grp_spec gs q hq
  have hi : q - beg gs (grp gs q) < (grAt gs (grp gs q)).length := by unfold beg; simp only [countTo] at g3; omega
  have := (h.2 _ g1).2 _ hi
  unfold tyN
  rw [flat_at hq]
  refine ⟨this.1, ⟨this.2.1.1, ?_⟩, fun j hj => ?_⟩
  · have := this.2.1.2
    unfold beg at *
    omega
  · have := this.2.2 j hj
    refine ⟨this.1, ?_⟩
    have h1 := this.2
    omega
theorem TBound.tinv {gs : List (List Ty)} {c : Nat} {t : Ty} (h : TBound (100 * ((gs.length + 1 : Nat) : Int)) c t) : TInv gs.length c t := ⟨h.1, h.2.1, fun j hj => by have := h.2.2 j hj; omega⟩

theorem TRow.other {w : World} {S b cap D o : Nat} {ts : List Ty} {vs : List Value} {v : Value} (h : TRow w S (some ⟨b, 0, none⟩) cap ts) (hD : Rec w D 44 vs) (hne : D ≠ b) : TRow (w.setCell ⟨D, o, none⟩ v) S (some ⟨b, 0, none⟩) cap ts := by
  obtain ⟨xs, ho, hT⟩ := h
  exact ⟨xs, owns_of_block ho (fun k hk => Below.heap_setCell _ _ _ _ (by simp [Value.ownBlock] at hk; subst hk; exact hne.symm)), fun i hi => (hT i hi).keep (KeepE.set _ hD (by decide))⟩
theorem sets_alloc (w : World) (o : Obj) (D b n : Nat) (hD : D < w.heap.size) (hb : b < w.heap.size) (v0 v1 v2 v3 v4 v5 v6 v7 : Value) :
    ((((((((w.alloc o).setCell ⟨D, 0, none⟩ v0).setCell ⟨D, 1, none⟩ v1).setCell ⟨D, 2, none⟩ v2).setCell ⟨D, 3, none⟩ v3).setCell ⟨b, n, none⟩ v4).setCell ⟨b, n + 1, none⟩ v5).setCell ⟨b, n + 2, none⟩ v6).setCell ⟨b, n + 3, none⟩ v7
      = (((((((((w.setCell ⟨D, 0, none⟩ v0).setCell ⟨D, 1, none⟩ v1).setCell ⟨D, 2, none⟩ v2).setCell ⟨D, 3, none⟩ v3).setCell ⟨b, n, none⟩ v4).setCell ⟨b, n + 1, none⟩ v5).setCell ⟨b, n + 2, none⟩ v6).setCell ⟨b, n + 3, none⟩ v7).alloc o) := by
  rw [World.setCell_alloc_past o D 0 v0 hD, World.setCell_alloc_past o D 1 v1 (by simpa using hD), World.setCell_alloc_past o D 2 v2 (by simpa using hD), World.setCell_alloc_past o D 3 v3 (by simpa using hD),
    World.setCell_alloc_past o b n v4 (by simpa using hb), World.setCell_alloc_past o b (n + 1) v5 (by simpa using hb), World.setCell_alloc_past o b (n + 2) v6 (by simpa using hb), World.setCell_alloc_past o b (n + 3) v7 (by simpa using hb)]
/-- The type that stands in for one that is not right. -/
def boxT : Ty := ⟨1, -1, false, [⟨2, -1, true⟩, ⟨1, 0, false⟩]⟩
abbrev boxF : Obj := .cells #[.int .i64 2, .int .i64 (-1), .bool true, .int .i64 1, .int .i64 0, .bool false] 33
theorem last_new {w : World} {S ga cap D : Nat} {ts : List Ty} {t : Ty} {vs : List Value} (h : TRow w S (some ⟨ga, 0, none⟩) cap (ts ++ [t])) (hV : Rec w D 44 vs) (hne : ga ≠ D) (hS : S ≤ w.heap.size) (hg : ga < w.heap.size) :
    TRow (((((((((w.setCell ⟨D, 0, none⟩ (.int .i64 1)).setCell ⟨D, 1, none⟩ (.int .i64 (-1))).setCell ⟨D, 2, none⟩ (.bool false)).setCell ⟨D, 3, none⟩ (.slice (some ⟨w.heap.size, 0, none⟩) 2 2)).setCell ⟨ga, ts.length * 4, none⟩ (.int .i64 1)).setCell ⟨ga, ts.length * 4 + 1, none⟩ (.int .i64 (-1))).setCell ⟨ga, ts.length * 4 + 2, none⟩ (.bool false)).setCell ⟨ga, ts.length * 4 + 3, none⟩ (.slice (some ⟨w.heap.size, 0, none⟩) 2 2)).alloc boxF) S (some ⟨ga, 0, none⟩) cap (ts ++ [boxT]) := by
  rw [← sets_alloc w boxF D ga (ts.length * 4) hV.lt hg]
  have FA : FieldRow (w.alloc boxF) S (some ⟨w.heap.size, 0, none⟩) 2 [⟨2, -1, true⟩, ⟨1, 0, false⟩] :=
    ⟨rfl, .inr ⟨w.heap.size, 2, #[.int .i64 2, .int .i64 (-1), .bool true, .int .i64 1, .int .i64 0, .bool false], rfl, hS, Deep.blk_alloc_new _ _, Nat.le_refl _, by unfold maxLen; omega, rfl, rfl⟩⟩
  have TA := h.below ((Below.refl _ _).alloc (Nat.le_refl _) boxF)
  have VA := hV.alloc boxF
  have VB := VA.set 0 (.int .i64 1)
  have VC := VB.set 1 (.int .i64 (-1))
  have VD := VC.set 2 (.bool false)
  have TD := (((TA.other (o := 0) (v := .int .i64 1) VA hne.symm).other (o := 1) (v := .int .i64 (-1)) VB hne.symm).other (o := 2) (v := .bool false) VC hne.symm).other (o := 3) (v := .slice (some ⟨w.heap.size, 0, none⟩) 2 2) VD hne.symm
  have FD := owns_keepE (owns_keepE (owns_keepE (owns_keepE FA (KeepE.set (o := 0) (.int .i64 1) VA (by decide))) (KeepE.set (o := 1) (.int .i64 (-1)) VB (by decide))) (KeepE.set (o := 2) (.bool false) VC (by decide))) (KeepE.set (o := 3) (.slice (some ⟨w.heap.size, 0, none⟩) 2 2) VD (by decide))
  exact TRow.setLast (t0 := boxT) TD rfl FD
theorem boxT_inv {gs : List (List Ty)} {ts : List Ty} (h : PInv gs ts) (ht : ts.length ≤ 2) : PInv gs (ts ++ [boxT]) := h.snoc ht ⟨by simp [boxT], ⟨by simp [boxT], by show (-1 : Int) < _; omega⟩, fun j hj => by
  have hj2 : j = 0 ∨ j = 1 := by simp [boxT] at hj; omega
  rcases hj2 with rfl | rfl <;> simp [boxT, fdAt] <;> omega⟩
def slen : Value → Nat
  | .slice _ n _ => n
  | _ => 0
theorem grAt_take (gs : List (List Ty)) (k i : Nat) (h : i < k) : grAt (gs.take k) i = grAt gs i := by
  simp [grAt, List.getD, h]
theorem GroupsIn.take {w : World} {lo hi : Nat} {a : Option Addr} {gs : List (List Ty)} (h : GroupsIn w lo hi a gs) (k : Nat) : GroupsIn w lo hi a (gs.take k) := by
  rcases h with rfl | ⟨b, off, rfl, h1, h2, h3⟩
  · exact .inl (by simp)
  · refine .inr ⟨b, off, rfl, h1, h2, fun i hi => ?_⟩
    have hl : i < k ∧ i < gs.length := by simp at hi; omega
    rw [grAt_take _ _ _ hl.1]
    exact h3 i hl.2
theorem Few.take {gs : List (List Ty)} (h : Few gs) (k : Nat) : Few (gs.take k) := by
  refine ⟨by have := h.1; simp; omega, fun i hi => ?_⟩
  have hl : i < k ∧ i < gs.length := by simp at hi; omega
  rw [grAt_take _ _ _ hl.1]
  exact h.2 i hl.2

/-- l1Type, of groups and one more so far. -/
theorem l1Type_and (g p : Nat) (g8 cap8 S : Nat) (gs : List (List Ty)) (ts : List Ty) (sz : Int) (w : World) (hp : p < 800000) (h : Rd w g p) (hg : g < S) (hG : GInv gs) (hl : gs.length ≤ 2) (hT : PInv gs ts) (ht : ts.length ≤ 2) (hS : S ≤ w.heap.size) (hx : GRow w S (some ⟨g8, 0, none⟩) cap8 (gs ++ [ts])) (z0 : 0 ≤ sz) (z1 : sz ≤ 3) :
    Calls Tryz.prog 102 #[.pointer (some ⟨g, 0, none⟩), .slice (some ⟨g8, 0, none⟩) (gs.length + 1) cap8, .int .i64 ((kinCount gs : Int) + (ts.length : Int)), .int .i64 ((kinCount gs : Int) + sz)] w (TypePost g p (100 * ((gs.length + 1 : Nat) : Int)) (kinCount gs + ts.length) w) := by
  have hG2 := hG.snoc hl hT
  have hc := hG.count gs.length (Nat.le_refl _)
  have hk : kinCount gs ≤ 6 := by unfold kinCount; omega
  have e1 : (gs ++ [ts]).length = gs.length + 1 := by simp
  have e2 := kinCount_snoc gs ts
  have h9 := l1Type_any g p (some ⟨g8, 0, none⟩) cap8 S w.heap.size (gs ++ [ts]) ((kinCount gs : Int) + sz) (100 * ((gs.length + 1 : Nat) : Int)) w hp h hg (hG2.partsW (by omega)) hG2.few hx.len hS (Nat.le_refl _) hx.groups (hG2.tbound _ (by rw [e1]; omega)) (by omega) (by omega) (by omega) (by omega) (kinCount gs + ts.length) e2.symm
  rw [e1, e2, Int.natCast_add] at h9
  exact h9

set_option maxHeartbeats 8000000 in
set_option maxRecDepth 100000 in
theorem l1Kin_any (g p : Nat) (w : World) (hp : p < 700000) (h : Rd w g p) :
    Calls Tryz.prog 65 #[.pointer (some ⟨g, 0, none⟩)] w (KinPost g p w) := by
  have hlt := h.lt
  obtain ⟨i0, hi0, hzz⟩ := Option.map_eq_some_iff.1 Tryz.infoType
  simp only [Prod.mk.injEq] at hzz
  obtain ⟨hz0, hs0, hb0⟩ := hzz
  have HZ := hide hz0
  have HS := hide hs0
  have HB := hide hb0
  have HI := hide hi0
  clear hz0 hs0 hb0 hi0
  obtain ⟨i1, hi1, hzz⟩ := Option.map_eq_some_iff.1 Tryz.infoTypeS
  simp only [Prod.mk.injEq] at hzz
  obtain ⟨hz1, hs1, hb1⟩ := hzz
  have HZ1 := hide hz1
  have HS1 := hide hs1
  have HB1 := hide hb1
  have HI1 := hide hi1
  clear hz1 hs1 hb1 hi1
  go_enter Tryz.func65, Tryz.ntmps65
  go_wp2_with fail
  refine (pick_only g p _ _ (by omega) (h.alloc _)).mono ?_
  rintro e w1 ⟨k1, rfl, _, l1, u1, r1, o1, s1⟩
  have u1' := u1 (by omega)
  have O1 : Hid (Only g w w1) := ((Only.refl g w).alloc _).trans o1
  have G1 : Hid (GRow w1 w.heap.size (some ⟨w.heap.size, 0, none⟩) 0 []) := ⟨[], owns_only (empty_row _ _ _ _ 1 (Deep.blk_alloc_new _ _) (Nat.le_refl _)) o1 hlt, fun i hi => absurd hi (by simp)⟩
  clear o1 h u1 s1
  go_wp2_with fail
  go_loopw [3, 4] (fun gv iv wr => ∃ (gs : List (List Ty)) (gb gc : Nat) (i : Int) (pq : Nat), gv = .slice (some ⟨gb, 0, none⟩) gs.length gc ∧ iv = .int .i64 i ∧ 0 ≤ i ∧ i ≤ 3 ∧ Hid (gs.length + i.toNat ≤ 3) ∧ Hid (GRow wr w.heap.size (some ⟨gb, 0, none⟩) gc gs) ∧ Hid (GInv gs) ∧ Hid (Only g w wr) ∧ Hid (Rd wr g pq) ∧ pq + 150 * i.toNat ≤ p + 460) (fun gv iv wr => (intOf iv).toNat)
  case atStart => exact ⟨[], w.heap.size, 0, 1 + k1, p + 1, rfl, rfl, by omega, by omega, (by show 0 + (1 + k1).toNat ≤ 3; omega), G1, GInv.nil, O1, r1, by omega⟩
  case round =>
    clear G1 O1 r1 l1 u1'
    obtain ⟨gs, gb, gc, i, pq, rfl, rfl, n0, n3, HLn, GR, GI, OW, RR, hpq⟩ := hrel
    obtain ⟨wo, hwo⟩ : ∃ x, x = wr := ⟨wr, rfl⟩
    subst hwo
    by_cases hi : 0 < i
    · have hl2 : gs.length ≤ 2 := by have h9 : gs.length + i.toNat ≤ 3 := HLn.out; omega
      have HX : Hid (GroupsIn wo w.heap.size wo.heap.size (some ⟨gb, 0, none⟩) gs) := GR.out.groups
      have hFew := hide GI.out.few
      have hkc : kinCount gs ≤ 6 := by have := GI.out.count gs.length (Nat.le_refl _); unfold kinCount; omega
      go_wp2_with fail
      refine (specKinCount_any _ _ _ _ gs wo hFew.out HX.out).mono ?_
      rintro e w2 ⟨rfl, rfl⟩
      go_upto_region 6 with fail
      go_cut [28] from 21 to 27 (fun c wx => ∃ (b : Bool) (pr : Nat), c = .bool b ∧ Hid (b = true → 0 < gs.length) ∧ Hid (GRow wx w.heap.size (some ⟨gb, 0, none⟩) gc gs) ∧ Hid (Only g w wx) ∧ Hid (Rd wx g pr) ∧ pr ≤ pq + 1)
      case first =>
        by_cases hg0 : gs.length = 0
        · have hg0' : ((gs.length : Int)) = 0 := by omega
          have hg0d : decide ((0 : Int) < (gs.length : Int)) = false := by rw [hg0']; rfl
          go_wp2_with fail
          go_meet
          exact ⟨false, pq, rfl, fun h => by simp at h, GR, OW, RR, by omega⟩
        · have hg0' : (0 : Int) < (gs.length : Int) := by omega
          have HGP : Hid (∀ (b : Bool), b = true → 0 < gs.length) := fun _ _ => by omega
          go_wp2_with fail
          refine (pick_only g pq _ _ (by omega) RR.out).mono ?_
          rintro e w3 ⟨k3, rfl, _, _, _, r3, o3, s3⟩
          go_wp2_with fail
          go_meet
          exact ⟨k3 == 0, pq + 1, rfl, HGP.out _, GR.out.only o3 hlt, OW.out.trans o3, r3, by omega⟩
      case rest =>
        clear GR OW RR HX
        obtain ⟨b, pr, rfl, hb0, GR, OW, RR, hpr⟩ := hcut
        cases b with
        | true =>
          have gpos : 0 < gs.length := hb0.out rfl
          go_wp2_with fail
          refine (pick_only g pr _ _ (by omega) RR.out).mono ?_
          rintro e w4 ⟨k4, rfl, _, l4, u4, r4, o4, s4⟩
          obtain ⟨x, rfl⟩ := Int.eq_ofNat_of_zero_le l4
          have x1 : x < gs.length := by have := u4 (by omega); omega
          have GR4 := hide (GR.out.only o4 hlt)
          have OW4 := hide (OW.out.trans o4)
          clear GR OW RR o4 u4
          obtain ⟨xs, hown, hTx⟩ := GR4.out
          have HXS := hide hTx
          have HOW := hide hown
          obtain ⟨ta, tc, hxc, hxt⟩ := hTx x x1
          have HTx := hide hxt
          have hcell : w4.cell? ⟨gb, x, none⟩ = some (.slice ta (grAt gs x).length tc) := by
            have := row_news hown x _ hxc
            rwa [add_plain, Nat.zero_add] at this
          have HX4 : Hid (GroupsIn w4 w.heap.size w4.heap.size (some ⟨gb, 0, none⟩) gs) := GR4.out.groups
          have HBg := hide (fun k => l1Begin_any (some ⟨gb, 0, none⟩) gc w.heap.size w4.heap.size x gs (w4.drewN k) hFew.out GR4.out.len (Nat.le_of_lt x1) HX4.out)
          have HPI := hide (shift_pinv GI.out x1)
          have HSm : Hid (Small (grAt gs x)) := by
            refine ⟨by have := (GI.out.2 x x1).1; omega, fun i hi => ?_⟩
            obtain ⟨h1, h2, h3⟩ := (GI.out.2 x x1).2 i hi
            have hc := GI.out.count x (by omega)
            have := (GI.out.2 x x1).1
            exact ⟨by omega, ⟨by omega, by omega⟩, fun j hj => by have := h3 j hj; omega⟩
          have hbx : beg gs x ≤ kinCount gs := beg_le (by omega)
          have x2 : (0 : Int) ≤ (x : Int) := by omega
          have x3 : (x : Int) < (gs.length : Int) := by omega
          have y0 : -1000 ≤ (kinCount gs : Int) - (countTo (grAt gs) x : Nat) := by unfold beg at hbx; omega
          have y1 : (kinCount gs : Int) - (countTo (grAt gs) x : Nat) ≤ 1000 := by omega
          have hw : IntKind.i64.wrap ((kinCount gs : Int) - ((countTo (grAt gs) x : Nat) : Int)) = (kinCount gs : Int) - ((countTo (grAt gs) x : Nat) : Int) := by
            simp [IntKind.wrap, IntKind.signed, IntKind.bits]
            omega
          clear hown hTx hxc hxt
          go_wp2_with fail
          go_region_law ((first
            | (refine step_append_lies _ (by rfl) _ _ 23 (by rfl) w.heap.size 42 i1 _ 1 24 Tryz.underlying23 HI1.out HZ1.out HS1.out HB1.out (by rfl) (by decide) (.slice (some ⟨gb, 0, none⟩) gs.length gc) gs.length xs (by rfl) (HO5.out.alloc _) ⟨w5.heap.size, 0, none⟩ 1 1 [.slice na (grAt gs x).length nc] (by rfl) rfl (World.news_of_block (Deep.blk_alloc_new _ _)) (by intro u hu; simp at hu; subst hu; rfl) (by decide) (by unfold maxLen; omega) (by omega) (by simp; omega) _ rfl ?_; intro gB cap6 w6 hown6 hgr6 hat6 hlt6)
            | (go_simp; go_at_call 97; refine (l1Begin_any (some ⟨gb, 0, none⟩) gc w.heap.size w4.heap.size x gs _ hFew.out GR4.out.len (Nat.le_of_lt x1) (by exact HX4.out)).mono ?_; rintro e w7 ⟨rfl, rfl⟩)
            | (go_simp; go_at_call 69; refine (l1Shift_any ta tc w.heap.size w4.heap.size (grAt gs x) _ _ _ HSm.out y0 y1 (by exact HTx.out.types) (by exact Nat.le_refl _)).mono ?_; rintro e w5 ⟨na, nc, rfl, ht5, hb5⟩; have HT5 := hide ht5; have HB5 : Hid (Below w4.heap.size w4 w5) := (Below.refl _ _).drew.trans hb5; have HO5 := hide (owns_below HOW.out HB5.out); have s5 : w.heap.size ≤ w5.heap.size := Nat.le_trans OW4.out.size HB5.out.size; clear ht5 hb5)))
          all_goals
            have e7 : (gs ++ [(grAt gs x).map (shiftTy (beg gs x : Int) ((kinCount gs : Int) - (beg gs x : Int)))]).length = gs.length + 1 := by simp
            have KT : KeepT w.heap.size w5 w6 := (KeepT.below ((Below.refl _ _).alloc (Nat.le_refl _) _)).trans (KeepT.grown (HO5.out.alloc _) hgr6)
            have G7 : Hid (GRow w6 w.heap.size (some ⟨gB, 0, none⟩) cap6 (gs ++ [(grAt gs x).map (shiftTy (beg gs x : Int) ((kinCount gs : Int) - (beg gs x : Int)))])) := by
              refine GRow.snoc (xs := xs) (ta := na) (tc := nc) (fun i hi => ?_) (by have := HOW.out.1; omega) ((HT5.out.lower OW4.out.size).keep KT.1 KT.2) ?_
              · obtain ⟨ta', tc', h1, h2⟩ := HXS.out i hi
                exact ⟨ta', tc', h1, (h2.below HB5.out).keep KT.1 KT.2⟩
              · rw [List.length_map]
                exact hown6
            have I7 : Hid (GInv (gs ++ [(grAt gs x).map (shiftTy (beg gs x : Int) ((kinCount gs : Int) - (beg gs x : Int)))])) := GI.out.snoc hl2 HPI.out
            have O7 : Hid (Only g w w6) := (((OW4.out.trans (Only.of_below HB5.out)).alloc _).grown hgr6 (owns_base HO5.out))
            have R7 : Hid (Rd w6 g (pr + 1)) := (r4.keep HB5.out).keep' (((Below.refl _ _).alloc (by omega) _).grown hgr6 (by simp; omega) (fun q hq => by have := owns_base HO5.out q hq; omega))
            have L7 : Hid ((gs ++ [(grAt gs x).map (shiftTy (beg gs x : Int) ((kinCount gs : Int) - (beg gs x : Int)))]).length + (i - 1).toNat ≤ 3) := by
              show _ ≤ _
              have h9 : gs.length + i.toNat ≤ 3 := HLn.out
              rw [e7]; omega
            go_wp2_with fail
            exact ⟨⟨_, gB, cap6, i - 1, pr + 1, (by rw [e7]), rfl, by omega, by omega, L7, G7, I7, O7, R7, by omega⟩, by simp [intOf]; omega⟩
        | false =>
          go_wp2_with fail
          refine (pick_only g pr _ _ (by omega) RR.out).mono ?_
          rintro e w5 ⟨k5, rfl, _, l5, u5, r5, o5, s5⟩
          have u5' := u5 (by omega)
          have GR5 := hide (GR.out.only o5 hlt)
          have OW5 := hide (OW.out.trans o5)
          have sw5 : w.heap.size ≤ w5.heap.size := OW5.out.size
          clear GR OW RR o5 u5 s5
          have T5 : Hid (TRow (w5.alloc (.cells #[] 44)) w5.heap.size (some ⟨w5.heap.size, 0, none⟩) 0 []) := ⟨[], empty_row _ _ _ _ 4 (Deep.blk_alloc_new _ _) (Nat.le_refl _), fun i hi => absurd hi (by simp)⟩
          have A5 : Hid (Only g w5 (w5.alloc (.cells #[] 44))) := (Only.refl g w5).alloc _
          have R5 : Hid (Rd (w5.alloc (.cells #[] 44)) g (pr + 1)) := r5.alloc _
          go_wp2_with fail
          go_loopw [8, 9] (fun gv kv wi => ∃ (ts : List Ty) (tb tc ps : Nat), gv = .slice (some ⟨tb, 0, none⟩) ts.length tc ∧ kv = .int .i64 (ts.length : Int) ∧ (ts.length : Int) ≤ 1 + k5 ∧ Hid (TRow wi w5.heap.size (some ⟨tb, 0, none⟩) tc ts) ∧ Hid (PInv gs ts) ∧ Hid (Only g w5 wi) ∧ Hid (Rd wi g ps) ∧ ps ≤ pr + 1 + 40 * ts.length) (fun gv kv wi => (1 + k5 - intOf kv).toNat)
          case atStart => exact ⟨[], w5.heap.size, 0, pr + 1, rfl, rfl, by simp; omega, T5, ⟨by simp, fun i hi => absurd hi (by simp)⟩, A5, R5, by omega⟩
          case round =>
            clear T5 A5 R5 r5
            obtain ⟨ts, tb, tc, ps, rfl, rfl, hts, TR, PI, AW, RR, hps⟩ := hrel
            obtain ⟨wi, hwi⟩ : ∃ x, x = wr := ⟨wr, rfl⟩
            subst hwi
            have GRi := hide (GR5.out.only AW.out hlt)
            have swi : w5.heap.size ≤ wi.heap.size := AW.out.size
            have HTS := hide (TR.out.lower sw5)
            by_cases hj : (ts.length : Int) < 1 + k5
            · have t2 : ts.length ≤ 2 := by omega
              obtain ⟨xs, hown, hTx⟩ := GRi.out
              have HXS := hide hTx
              have HOW := hide hown
              have hxl : xs.length = gs.length := by have := hown.1; omega
              have H1C := hide (GRow.one hxl hTx)
              clear hown hTx
              go_wp2_with (first
                | (at_builtin; refine wpList_append_lies _ rfl _ _ 23 rfl wi.heap.size 42 i1 _ 1 24 Tryz.underlying23 HI1.out HZ1.out HS1.out HB1.out rfl (by decide) v7 gs.length xs rfl (HO7.out.alloc _) ⟨w7.heap.size, 0, none⟩ 1 1 [.slice (some ⟨tb, 0, none⟩) ts.length tc] rfl rfl (World.news_of_block (Deep.blk_alloc_new _ _)) (by intro u hu; simp at hu; subst hu; rfl) (by decide) (by unfold maxLen; omega) (by omega) (by simp; omega) _ rfl ?_; intro g8 cap8 w8 hown8 hgr8 hat8 hlt8)
                | (at_builtin; refine wpList_append_own_at _ rfl _ _ 23 rfl wi.heap.size 42 i1 _ 1 24 Tryz.underlying23 HI1.out HZ1.out HS1.out HB1.out rfl (by decide) (.slice (some ⟨wi.heap.size, 0, none⟩) 0 0) 0 [] rfl (empty_row _ _ _ _ 1 (Deep.blk_alloc_new _ _) (Nat.le_refl _)) ⟨gb, 0, none⟩ gs.length gc xs rfl (by omega) (row_news (HOW.out.alloc _)) H1C.out (by unfold maxLen; omega) (by omega) (by simp) ?_; intro v7 w7 hown7 hgr7 hnil7 hat7; rw [Nat.zero_add, List.nil_append] at hown7; have HO7 := hide hown7; have s7 := hgr7.size; simp at s7))
              have B7 : Below wi.heap.size wi w7 := ((Below.refl _ _).alloc (Nat.le_refl _) _).grown hgr7 (by simp) (fun k hk => by simp [Value.ownBlock] at hk; omega)
              have B8 := hide ((B7.alloc B7.size _).grown hgr8 (by have := B7.size; simp; omega) (owns_base HO7.out))
              have G8 := hide (GRow.and HXS.out hxl HTS.out B8.out hown8 (Nat.le_trans sw5 swi))
              have s8 : wi.heap.size ≤ w8.heap.size := B8.out.size
              clear hown8 hgr8 hat8 hlt8 hgr7 hnil7 hat7 hown7 HO7 B7 HXS HOW H1C
              refine (l1Type_and g ps g8 cap8 w.heap.size gs ts (1 + k5) w8 (by omega) (RR.out.keep B8.out) hlt GI.out hl2 PI.out t2 (by omega) G8.out (by omega) (by omega)).mono ?_
              rintro e w9 ⟨t, fa, fc, rfl, ft9, tb9, ⟨p9, hp9, r9⟩, o9⟩
              have PI9 := hide (PI.out.snoc t2 tb9.tinv)
              have F9 := hide (ft9.lower (show w5.heap.size ≤ w8.heap.size by omega))
              have T9 : Hid (TRow w9 w5.heap.size (some ⟨tb, 0, none⟩) tc ts) := (TR.out.below B8.out).keep (KeepE.only o9 (by omega)) (KeepE.only o9 (by omega))
              have A9 := hide ((AW.out.trans (Only.of_below B8.out)).trans o9)
              have GR9 := hide ((GRi.out.below B8.out).only o9 hlt)
              have s9 : w8.heap.size ≤ w9.heap.size := o9.size
              have R9 := hide r9
              obtain ⟨xs2, hown2, hTv2⟩ := T9.out
              have HO2 := hide hown2
              have HTv := hide hTv2
              have hx2 := hide hown2.1
              have V9 : Hid (Rec (w9.alloc (.cells #[.int .i64 t.kind, .int .i64 t.up, .bool t.last, .slice fa t.fields.length fc] 44)) w9.heap.size 44 [.int .i64 t.kind, .int .i64 t.up, .bool t.last, .slice fa t.fields.length fc]) := Rec.new _ _ _
              clear ft9 tb9 o9 r9 hown2 hTv2 TR AW RR GRi G8 B8 T9 HTS
              go_upto_region 16 with (first
                | (at_builtin; refine wpList_append_lies _ rfl _ _ 42 rfl w5.heap.size 44 i0 _ 4 48 Tryz.underlying42 HI.out HZ.out HS.out HB.out rfl (by decide) (.slice (some ⟨tb, 0, none⟩) ts.length tc) ts.length xs2 rfl ((HO2.out.alloc _).alloc _) ⟨w9.heap.size + 1, 0, none⟩ 1 1 [.int .i64 t.kind, .int .i64 t.up, .bool t.last, .slice fa t.fields.length fc] rfl rfl ?c1 ?c2 (by decide) ?c3 ?c4 ?c5 _ rfl ?_))
              case c1 => exact World.news_of_block (by have := Deep.blk_alloc_new (w9.alloc (.cells #[.int .i64 t.kind, .int .i64 t.up, .bool t.last, .slice fa t.fields.length fc] 44)) (.cells #[.int .i64 t.kind, .int .i64 t.up, .bool t.last, .slice fa t.fields.length fc] 44); simpa using this)
              case c2 => intro u hu; simp at hu; rcases hu with rfl | rfl | rfl | rfl <;> rfl
              case c3 => unfold maxLen; omega
              case c4 => omega
              case c5 => simp; omega
              intro ga cap10 w10 hown10 hgr10 hat10 hlt10
              have hgw5 : g < w5.heap.size := by omega
              have hga : ga ≠ w9.heap.size := by
                have h0 : tb < w9.heap.size := owns_lt HO2.out tb rfl
                rcases hat10 with h | h
                · simp [Value.ownBlock] at h; omega
                · first | omega | (simp at h; omega)
              have tblt : tb < w9.heap.size := owns_lt HO2.out tb rfl
              have KF : KeepE w5.heap.size 33 w9 w10 := (KeepE.below (((Below.refl _ _).alloc (Nat.le_refl _) _).alloc (by simp) _)).trans (KeepE.grown ((HO2.out.alloc _).alloc _) hgr10 (by decide))
              have T10 := hide (TRow.snoc (fun i hi => (HTv.out i hi).keep KF) hx2.out (owns_keepE F9.out KF) hown10)
              have A10 := hide (((A9.out.alloc _).alloc _).grown hgr10 (owns_base HO2.out))
              have V10 := hide ((V9.out.alloc _).grown hgr10 (by intro e; simp [Value.ownBlock] at e; omega))
              have R10 : Hid (Rd w10 g p9) := R9.out.keep' ((((Below.refl _ _).alloc (by omega) _).alloc (by simp; omega) _).grown hgr10 (by simp; omega) (fun q hq => by have := owns_base HO2.out q hq; omega))
              have s10 : w9.heap.size + 1 < w10.heap.size := by have := hgr10.size; simp at this; omega
              have G10 := hide (GR5.out.only A10.out hlt)
              obtain ⟨xs3, hown3, hTx3⟩ := G10.out
              have HO3 := hide hown3
              have HX3 := hide hTx3
              have hx3 : xs3.length = gs.length := by have := hown3.1; omega
              have H13 := hide (GRow.one hx3 hTx3)
              have hSm : Hid (Small (ts ++ [t])) := PI9.out.small hl2 (by omega)
              have el : (ts ++ [t]).length = ts.length + 1 := by simp
              clear hown10 hgr10 hat10 hlt10 hown3 hTx3 KF V9 R9 A9 HO2 HTv hx2 F9 GR9
              go_wp2_with (first
                | (at_builtin; refine wpList_append_own_at _ rfl _ _ 23 rfl w10.heap.size 42 i1 _ 1 24 Tryz.underlying23 HI1.out HZ1.out HS1.out HB1.out rfl (by decide) (.slice (some ⟨w10.heap.size, 0, none⟩) 0 0) 0 [] rfl (empty_row _ _ _ _ 1 (Deep.blk_alloc_new _ _) (Nat.le_refl _)) ⟨gb, 0, none⟩ gs.length gc xs3 rfl (by omega) (row_news (HO3.out.alloc _)) H13.out (by unfold maxLen; omega) (by omega) (by simp) ?_; intro v11 w11 hown11 hgr11 hnil11 hat11; rw [Nat.zero_add, List.nil_append] at hown11; have HO11 := hide hown11; have s11 := hgr11.size; simp at s11))
              have B11 := hide (((Below.refl _ _).alloc (Nat.le_refl _) _).grown hgr11 (by simp) (fun k hk => by simp [Value.ownBlock] at hk; omega))
              have HCap : Hid (Calls Tryz.prog 103 #[.slice (some ⟨ga, 0, none⟩) (ts.length + 1) cap10, .int .i64 ((kinCount gs : Int) + (ts.length : Int) + 1)] w11 fun e w' => ∃ na nc, e = .returned (.slice na (ts.length + 1) nc) ∧ TRow w' w11.heap.size na nc ((ts ++ [t]).map (capTy ((kinCount gs : Int) + (ts.length : Int) + 1))) ∧ Below w11.heap.size w11 w') := by
                have h9 := l1Cap_any (some ⟨ga, 0, none⟩) cap10 w5.heap.size w11.heap.size (ts ++ [t]) ((kinCount gs : Int) + (ts.length : Int) + 1) w11 hSm.out (by omega) (by omega) (T10.out.below B11.out).types (Nat.le_refl _)
                rwa [el] at h9
              clear hown11 hgr11 hnil11 hat11
              refine HCap.out.mono ?_
              rintro e w12 ⟨na, nc, rfl, ht12, hb12⟩
              have HT12 := hide (ht12.lower (show w.heap.size ≤ w11.heap.size by omega))
              have HO12 := hide (owns_below HO11.out hb12)
              have B12 := hide (B11.out.trans (hb12.mono B11.out.size))
              have s12 : w11.heap.size ≤ w12.heap.size := hb12.size
              clear ht12 hb12 HO11 HCap
              go_wp2_with (first
                | (at_builtin; refine wpList_append_lies _ rfl _ _ 23 rfl w10.heap.size 42 i1 _ 1 24 Tryz.underlying23 HI1.out HZ1.out HS1.out HB1.out rfl (by decide) v11 gs.length xs3 rfl (HO12.out.alloc _) ⟨w12.heap.size, 0, none⟩ 1 1 [.slice na (ts.length + 1) nc] rfl rfl (World.news_of_block (Deep.blk_alloc_new _ _)) (by intro u hu; simp at hu; subst hu; rfl) (by decide) (by unfold maxLen; omega) (by omega) (by simp; omega) _ rfl ?_; intro g13 cap13 w13 hown13 hgr13 hat13 hlt13))
              have hown13' : w13.ownsRow w10.heap.size 42 1 (.slice (some ⟨g13, 0, none⟩) (gs.length + 1) cap13) (gs.length + 1) (xs3 ++ [.slice na ((ts ++ [t]).map (capTy ((kinCount gs : Int) + (ts.length : Int) + 1))).length nc]) := by rw [List.length_map, el]; exact hown13
              have Bz : Below w10.heap.size w12 w13 := ((Below.refl _ _).alloc (by omega) _).grown hgr13 (by simp; omega) (owns_base HO12.out)
              have B13 := hide (B12.out.trans Bz)
              have G13 : Hid (GRow w13 w.heap.size (some ⟨g13, 0, none⟩) cap13 (gs ++ [(ts ++ [t]).map (capTy ((kinCount gs : Int) + (ts.length : Int) + 1))])) := by
                have KT : KeepT w.heap.size w12 w13 := (KeepT.below ((Below.refl _ _).alloc (Nat.le_refl _) _)).trans (KeepT.grown (HO12.out.alloc _) hgr13)
                refine GRow.snoc (xs := xs3) (fun i hi => ?_) hx3 (HT12.out.keep KT.1 KT.2) (owns_lower hown13' (by omega))
                obtain ⟨ta', tc', h1, h2⟩ := HX3.out i hi
                exact ⟨ta', tc', h1, (h2.below B12.out).keep KT.1 KT.2⟩
              have ge : (gs ++ [(ts ++ [t]).map (capTy ((kinCount gs : Int) + (ts.length : Int) + 1))]).length = gs.length + 1 := by simp
              have s13 : w12.heap.size ≤ w13.heap.size := Bz.size
              have HKo : Hid (Calls Tryz.prog 26 #[.slice (some ⟨g13, 0, none⟩) (gs.length + 1) cap13] w13 fun e w' => e = .returned (.bool (kinOkF (gs ++ [(ts ++ [t]).map (capTy ((kinCount gs : Int) + (ts.length : Int) + 1))]))) ∧ Below w13.heap.size w13 w') := by
                have h9 := specKinOk_any (some ⟨g13, 0, none⟩) cap13 w.heap.size w13.heap.size (gs ++ [(ts ++ [t]).map (capTy ((kinCount gs : Int) + (ts.length : Int) + 1))]) w13 (PI9.out.cap_few GI.out _) G13.out.len (by omega) (Nat.le_refl _) G13.out.groups
                rwa [ge] at h9
              generalize kinOkF (gs ++ [(ts ++ [t]).map (capTy ((kinCount gs : Int) + (ts.length : Int) + 1))]) = KO at *
              clear hown13 hown13' hgr13 hat13 hlt13 Bz G13 HT12 HO12
              refine HKo.out.mono ?_
              rintro e w14 ⟨rfl, hb14⟩
              have B14 := hide (B13.out.trans (hb14.mono B13.out.size))
              have T14 := hide (T10.out.below B14.out)
              have A14 := hide (A10.out.trans (Only.of_below B14.out))
              have V14 := hide (V10.out.below B14.out V10.out.lt)
              have R14 := hide (R10.out.keep B14.out)
              have s14 : w10.heap.size ≤ w14.heap.size := B14.out.size
              clear hb14 HKo B11 B12 B13 T10 A10 V10 R10 G10 HX3 HO3 H13
              cases KO with
              | true =>
                go_wp2_with fail
                exact ⟨⟨ts ++ [t], ga, cap10, p9, (by rw [el]), (by rw [el]; go_num), (by rw [el]; omega), T14, PI9, A14, R14, (by rw [el]; omega)⟩, by simp [intOf]; omega⟩
              | false =>
                obtain ⟨xs4, hown4, hTv4⟩ := T14.out
                rw [el] at hown4 hTv4
                have hS4 : w5.heap.size ≤ ga := owns_base hown4 ga rfl
                have hlt4 : ga < w14.heap.size := owns_lt hown4 ga rfl
                have hga4 : ∀ o, w14.frozen? ⟨ga, o, none⟩ = false := fun o => by
                  rcases hown4.2 with ⟨h0, _⟩ | ⟨q, cap', cur, h0, _, hg, _⟩
                  · simp at h0
                  · simp at h0
                    obtain ⟨rfl, _⟩ := h0
                    simp [World.frozen?, hg]
                obtain ⟨q0, q1, q2, fa', fc', q3, _⟩ := hTv4 ts.length (Nat.lt_succ_self _)
                rw [tyAt_append_one] at q0 q1 q2 q3
                rcases owns_cells hown4 with h0 | ⟨q, hq, _, _, hcl⟩
                · omega
                simp at hq
                subst hq
                rw [← hcl _ (by omega)] at q0 q1 q2 q3
                have z0 := hga4 (ts.length * 4)
                have z1 := hga4 (ts.length * 4 + 1)
                have z2 := hga4 (ts.length * 4 + 2)
                have z3 := hga4 (ts.length * 4 + 3)
                have v0 := V14.out.cell (o := 0) rfl
                have v1 := V14.out.cell (o := 1) rfl
                have v2 := V14.out.cell (o := 2) rfl
                have v3 := V14.out.cell (o := 3) rfl
                have y0 := V14.out.frozen 0
                have y1 := V14.out.frozen 1
                have y2 := V14.out.frozen 2
                have y3 := V14.out.frozen 3
                have vlt := V14.out.lt
                have i1a : (0 : Int) ≤ (ts.length : Int) := by omega
                have i1b : (ts.length : Int) < (ts.length : Int) + 1 := by omega
                have N1 := hide (last_new T14.out V14.out hga (by omega) hlt4)
                have PI2 := hide (boxT_inv PI.out t2)
                have el0 : (ts ++ [boxT]).length = ts.length + 1 := by simp
                have A15 : Hid (Only g w5 (((((((((w14.setCell ⟨w9.heap.size, 0, none⟩ (.int .i64 1)).setCell ⟨w9.heap.size, 1, none⟩ (.int .i64 (-1))).setCell ⟨w9.heap.size, 2, none⟩ (.bool false)).setCell ⟨w9.heap.size, 3, none⟩ (.slice (some ⟨w14.heap.size, 0, none⟩) 2 2)).setCell ⟨ga, ts.length * 4, none⟩ (.int .i64 1)).setCell ⟨ga, ts.length * 4 + 1, none⟩ (.int .i64 (-1))).setCell ⟨ga, ts.length * 4 + 2, none⟩ (.bool false)).setCell ⟨ga, ts.length * 4 + 3, none⟩ (.slice (some ⟨w14.heap.size, 0, none⟩) 2 2)).alloc boxF)) :=
                  ((((((((A14.out.setNew (show w5.heap.size ≤ w9.heap.size by omega) _ _).setNew (show w5.heap.size ≤ w9.heap.size by omega) _ _).setNew (show w5.heap.size ≤ w9.heap.size by omega) _ _).setNew (show w5.heap.size ≤ w9.heap.size by omega) _ _).setNew hS4 _ _).setNew hS4 _ _).setNew hS4 _ _).setNew hS4 _ _).alloc _
                have R15 : Hid (Rd (((((((((w14.setCell ⟨w9.heap.size, 0, none⟩ (.int .i64 1)).setCell ⟨w9.heap.size, 1, none⟩ (.int .i64 (-1))).setCell ⟨w9.heap.size, 2, none⟩ (.bool false)).setCell ⟨w9.heap.size, 3, none⟩ (.slice (some ⟨w14.heap.size, 0, none⟩) 2 2)).setCell ⟨ga, ts.length * 4, none⟩ (.int .i64 1)).setCell ⟨ga, ts.length * 4 + 1, none⟩ (.int .i64 (-1))).setCell ⟨ga, ts.length * 4 + 2, none⟩ (.bool false)).setCell ⟨ga, ts.length * 4 + 3, none⟩ (.slice (some ⟨w14.heap.size, 0, none⟩) 2 2)).alloc boxF) g p9) :=
                  (R14.out.keep' ((((((((((Below.refl _ _).setCell (show g + 1 ≤ w9.heap.size by omega) _).setCell (show g + 1 ≤ w9.heap.size by omega) _).setCell (show g + 1 ≤ w9.heap.size by omega) _).setCell (show g + 1 ≤ w9.heap.size by omega) _).setCell (show g + 1 ≤ ga by omega) _).setCell (show g + 1 ≤ ga by omega) _).setCell (show g + 1 ≤ ga by omega) _).setCell (show g + 1 ≤ ga by omega) _))).alloc _
                clear hown4 hTv4 hcl hga4 T14 V14 A14 R14
                go_wp2_with fail
                exact ⟨⟨ts ++ [boxT], ga, cap10, p9, (by rw [el0]), (by rw [el0]; go_num), (by rw [el0]; omega), N1, PI2, A15, R15, (by rw [el0]; omega)⟩, by simp [intOf]; omega⟩
            · have hje : Hid ((ts.length : Int) = 1 + k5) := by show _ = _; omega
              obtain ⟨xs, hown, hTx⟩ := GRi.out
              have HXS := hide hTx
              have HOW := hide hown
              have hxl : xs.length = gs.length := by have := hown.1; omega
              have hj' : 1 + k5 ≤ (ts.length : Int) := by omega
              have hjd : decide ((ts.length : Int) < 1 + k5) = false := by simp; omega
              clear hown hTx
              go_wp2_with (first
                | (at_builtin; refine wpList_append_lies _ rfl _ _ 23 rfl w.heap.size 42 i1 _ 1 24 Tryz.underlying23 HI1.out HZ1.out HS1.out HB1.out rfl (by decide) (.slice (some ⟨gb, 0, none⟩) gs.length gc) gs.length xs rfl (HOW.out.alloc _) ⟨wi.heap.size, 0, none⟩ 1 1 [.slice (some ⟨tb, 0, none⟩) ts.length tc] rfl rfl (World.news_of_block (Deep.blk_alloc_new _ _)) (by intro u hu; simp at hu; subst hu; rfl) (by decide) (by unfold maxLen; omega) (by omega) (by simp; omega) _ rfl ?_; intro gB cap6 w6 hown6 hgr6 hat6 hlt6))
              have KT : KeepT w.heap.size wi w6 := (KeepT.below ((Below.refl _ _).alloc (Nat.le_refl _) _)).trans (KeepT.grown (HOW.out.alloc _) hgr6)
              have G7 : Hid (GRow w6 w.heap.size (some ⟨gB, 0, none⟩) cap6 (gs ++ [ts])) := by
                refine GRow.snoc (xs := xs) (fun i hi => ?_) hxl (HTS.out.keep KT.1 KT.2) hown6
                obtain ⟨ta', tc', h1, h2⟩ := HXS.out i hi
                exact ⟨ta', tc', h1, h2.keep KT.1 KT.2⟩
              have e7 : (gs ++ [ts]).length = gs.length + 1 := by simp
              have I7 : Hid (GInv (gs ++ [ts])) := GI.out.snoc hl2 PI.out
              have O7 : Hid (Only g w w6) := (((OW5.out.trans AW.out).alloc _).grown hgr6 (owns_base HOW.out))
              have R7 : Hid (Rd w6 g ps) := RR.out.keep' (((Below.refl _ _).alloc (by omega) _).grown hgr6 (by simp; omega) (fun q hq => by have := owns_base HOW.out q hq; omega))
              have L7 : Hid ((gs ++ [ts]).length + (i - 1).toNat ≤ 3) := by
                show _ ≤ _
                have h9 : gs.length + i.toNat ≤ 3 := HLn.out
                rw [e7]; omega
              clear KT hown6 hgr6 hat6 hlt6
              go_wp2_with fail
              exact ⟨⟨gs ++ [ts], gB, cap6, i - 1, ps, (by rw [e7]), rfl, by omega, by omega, L7, G7, I7, O7, R7, by omega⟩, by simp [intOf]; omega⟩
    · have hi' : i ≤ 0 := by omega
      have hl3 : gs.length ≤ 3 := GI.out.1
      have HX : Hid (GroupsIn wo w.heap.size wo.heap.size (some ⟨gb, 0, none⟩) gs) := GR.out.groups
      have hglen : gs.length ≤ gc := GR.out.len
      have sw := OW.out.size
      go_wp2_with fail
      go_loopw [3] (fun gv wi => ∃ k : Nat, gv = .slice (some ⟨gb, 0, none⟩) k gc ∧ k ≤ gs.length ∧ Hid (Below wo.heap.size wo wi)) (fun gv wi => slen gv)
      case atStart => exact ⟨gs.length, rfl, Nat.le_refl _, Below.refl _ _⟩
      case round =>
        obtain ⟨k, rfl, hk, BW⟩ := hrel
        have e1 : (gs.take k).length = k := by simp; omega
        have X1 : Hid (GroupsIn wr w.heap.size wo.heap.size (some ⟨gb, 0, none⟩) (gs.take k)) := (HX.out.take k).keep BW.out
        have N1 : Hid (Few (gs.take k)) := GI.out.few.take k
        have HCn : Hid (Calls Tryz.prog 25 #[.slice (some ⟨gb, 0, none⟩) k gc] wr fun e w' => e = .returned (.int .i64 (kinCount (gs.take k) : Nat)) ∧ w' = wr) := by
          have h9 := specKinCount_any (some ⟨gb, 0, none⟩) gc w.heap.size wo.heap.size (gs.take k) wr N1.out X1.out
          rwa [e1] at h9
        have HCo : Hid (Calls Tryz.prog 26 #[.slice (some ⟨gb, 0, none⟩) k gc] wr fun e w' => e = .returned (.bool (kinOkF (gs.take k))) ∧ Below wr.heap.size wr w') := by
          have h9 := specKinOk_any (some ⟨gb, 0, none⟩) gc w.heap.size wo.heap.size (gs.take k) wr N1.out (by rw [e1]; omega) sw BW.out.size X1.out
          rwa [e1] at h9
        have hkc : kinCount (gs.take k) ≤ 1099511627776 := kinCount_le N1.out
        have kgc : k ≤ gc := by omega
        have RW : Hid (Rd wr g pq) := RR.out.keep BW.out
        have k4 : (k : Int) ≤ 4 := by omega
        have k4d : decide ((4 : Int) < (k : Int)) = false := by simp; omega
        generalize hK : kinCount (gs.take k) = K at *
        by_cases h8 : 8 < K
        · have hk0 : 0 < k := by
            rcases Nat.eq_zero_or_pos k with h | h
            · subst h; simp [kinCount, countTo] at hK; omega
            · exact h
          have h8' : (8 : Int) < (K : Int) := by omega
          have h8d : decide ((8 : Int) < (K : Int)) = true := by simp; omega
          have hk1 : (0 : Int) ≤ (k : Int) - 1 := by omega
          have hk2 : (k : Int) - 1 ≤ (gc : Int) := by omega
          go_wp2_with fail
          refine HCn.out.mono ?_
          rintro e w2 ⟨rfl, rfl⟩
          go_wp2_with fail
          exact ⟨⟨k - 1, rfl, by omega, BW⟩, by show k - 1 < k; omega⟩
        · have h8' : (K : Int) ≤ 8 := by omega
          have h8d : decide ((8 : Int) < (K : Int)) = false := by simp; omega
          by_cases hk0 : k = 0
          · subst hk0
            go_wp2_with fail
            refine HCn.out.mono ?_
            rintro e w2 ⟨rfl, rfl⟩
            go_wp2_with fail
            go_ret
            exact ⟨[], gb, gc, rfl, .inl rfl, Nat.zero_le _, .inl rfl, GInv.nil.few, ⟨pq, by omega, RW.out⟩, OW.out.trans (Only.of_below BW.out)⟩
          · have hk0' : (0 : Int) < (k : Int) := by omega
            have hk0d : decide ((0 : Int) < (k : Int)) = true := by simp; omega
            go_wp2_with fail
            refine HCn.out.mono ?_
            rintro e w2 ⟨rfl, rfl⟩
            go_wp2_with fail
            refine HCo.out.mono ?_
            rintro e w2 ⟨rfl, hb2⟩
            have B2 := hide (BW.out.trans (hb2.mono BW.out.size))
            cases hko : kinOkF (gs.take k) with
            | true =>
              have HKO := hide hko
              have X2 : Hid (GroupsIn w2 w.heap.size w2.heap.size (some ⟨gb, 0, none⟩) (gs.take k)) := (X1.out.keep (hb2.mono BW.out.size)).wide (Nat.le_refl _) B2.out.size
              have R2 : Hid (Rd w2 g pq) := RW.out.keep hb2
              go_wp2_with fail
              go_ret
              exact ⟨gs.take k, gb, gc, (by rw [e1]; rfl), .inr HKO.out, (by rw [e1]; exact kgc), X2.out, N1.out, ⟨pq, by omega, R2.out⟩, OW.out.trans (Only.of_below B2.out)⟩
            | false =>
              go_wp2_with fail
              exact ⟨⟨k - 1, rfl, by omega, B2⟩, by show k - 1 < k; omega⟩
end Go.Proofs.YtblliefejffhoaaGreatDoor

/- l3Prog of the model: a program, drawn. -/
namespace Go.Proofs.YtblliefejffhoaaGreatDoor
theorem l3Prog_any (g p : Nat) (w : World) (hp : p < 600000) (h : Rd w g p) : Calls Tryz.prog 30 #[.pointer (some ⟨g, 0, none⟩)] w (ProgPost g p w) :=
  l3Prog_of g p w hp h fun q W hq hr => l1Kin_any g q W hq hr
end Go.Proofs.YtblliefejffhoaaGreatDoor
