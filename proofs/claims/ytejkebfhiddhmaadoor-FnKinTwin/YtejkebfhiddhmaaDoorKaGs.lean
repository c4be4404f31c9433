/- KaGs: DrawKin, DrawBentT, Gs. -/
import Derived.Test.YtejkebfhiddhmaaDoorKaRow
import Derived.Test.YtejkebfhiddhmaaDoorDrawType
import Derived.Test.YtejkebfhiddhmaaDoorKaCanon
import Derived.Deep.CutRange
import Derived.Test.YtejkebfhiddhmaaDoorKaKinC
import Derived.Test.YtejkebfhiddhmaaDoorKaKinD
/- l1Kin of the model: groups of types, drawn. Written by tools/made/drawkin.py. -/
namespace Go.Proofs.YtejkebfhiddhmaaDoor
open Go.ChangeShapes Go.WideShapes Go.ChangeAt Go.RowKit Go.Deep
set_option linter.unusedVariables false

/-- What l1Kin answers. -/
def KinPost (g p : Nat) (w : World) (e : Ending) (w' : World) : Prop :=
  ∃ (gs : List (List Ty)) (gb gc : Nat), e = .returned (.slice (some ⟨gb, 0, none⟩) gs.length gc) ∧ (gs = [] ∨ kinOkF gs = true) ∧ gs.length ≤ gc ∧ GroupsIn w' w.heap.size w'.heap.size (some ⟨gb, 0, none⟩) gs ∧ Few gs ∧ (∃ p', p' ≤ p + 500 ∧ Rd w' g p') ∧ Only g w w'

theorem GInv.tbound {gs : List (List Ty)} (h : GInv gs) (M : Int) (hM : 100 * (gs.length : Int) ≤ M) : ∀ q, q < kinCount gs → TBound M q (tyN gs q) := by
  intro q hq
  obtain ⟨g1, g2, g3⟩ := grp_spec gs q hq
  have hi : q - beg gs (grp gs q) < (grAt gs (grp gs q)).length := by unfold beg; simp only [countTo] at g3; omega
  have := (h.2 _ g1).2 _ hi
  unfold tyN
  rw [flat_at hq]
  refine ⟨this.1, ⟨this.2.1.1, ?_⟩, fun j hj => ?_⟩
  · have := this.2.1.2
    unfold beg at *
    omega
  · have := this.2.2 j hj
    refine ⟨this.1, ?_⟩
    have h1 := this.2
    omega
theorem TBound.tinv {gs : List (List Ty)} {c : Nat} {t : Ty} (h : TBound (100 * ((gs.length + 1 : Nat) : Int)) c t) : TInv gs.length c t := ⟨h.1, h.2.1, fun j hj => by have := h.2.2 j hj; omega⟩

theorem TRow.other {w : World} {S b cap D o : Nat} {ts : List Ty} {vs : List Value} {v : Value} (h : TRow w S (some ⟨b, 0, none⟩) cap ts) (hD : Rec w D 28 vs) (hne : D ≠ b) : TRow (w.setCell ⟨D, o, none⟩ v) S (some ⟨b, 0, none⟩) cap ts := by
  obtain ⟨xs, ho, hT⟩ := h
  exact ⟨xs, owns_of_block ho (fun k hk => Below.heap_setCell _ _ _ _ (by simp [Value.ownBlock] at hk; subst hk; exact hne.symm)), fun i hi => (hT i hi).keep (KeepE.set _ hD (by decide))⟩
theorem sets_alloc (w : World) (o : Obj) (D b n : Nat) (hD : D < w.heap.size) (hb : b < w.heap.size) (v0 v1 v2 v3 v4 v5 v6 v7 : Value) :
    ((((((((w.alloc o).setCell ⟨D, 0, none⟩ v0).setCell ⟨D, 1, none⟩ v1).setCell ⟨D, 2, none⟩ v2).setCell ⟨D, 3, none⟩ v3).setCell ⟨b, n, none⟩ v4).setCell ⟨b, n + 1, none⟩ v5).setCell ⟨b, n + 2, none⟩ v6).setCell ⟨b, n + 3, none⟩ v7
      = (((((((((w.setCell ⟨D, 0, none⟩ v0).setCell ⟨D, 1, none⟩ v1).setCell ⟨D, 2, none⟩ v2).setCell ⟨D, 3, none⟩ v3).setCell ⟨b, n, none⟩ v4).setCell ⟨b, n + 1, none⟩ v5).setCell ⟨b, n + 2, none⟩ v6).setCell ⟨b, n + 3, none⟩ v7).alloc o) := by
  rw [World.setCell_alloc_past o D 0 v0 hD, World.setCell_alloc_past o D 1 v1 (by simpa using hD), World.setCell_alloc_past o D 2 v2 (by simpa using hD), World.setCell_alloc_past o D 3 v3 (by simpa using hD),
    World.setCell_alloc_past o b n v4 (by simpa using hb), World.setCell_alloc_past o b (n + 1) v5 (by simpa using hb), World.setCell_alloc_past o b (n + 2) v6 (by simpa using hb), World.setCell_alloc_past o b (n + 3) v7 (by simpa using hb)]
/-- The type that stands in for one that is not right. -/
def boxT : Ty := ⟨1, -1, false, [⟨2, -1, true⟩, ⟨1, 0, false⟩]⟩
abbrev boxF : Obj := .cells #[.int .i64 2, .int .i64 (-1), .bool true, .int .i64 1, .int .i64 0, .bool false] 35
theorem last_new {w : World} {S ga cap D : Nat} {ts : List Ty} {t : Ty} {vs : List Value} (h : TRow w S (some ⟨ga, 0, none⟩) cap (ts ++ [t])) (hV : Rec w D 28 vs) (hne : ga ≠ D) (hS : S ≤ w.heap.size) (hg : ga < w.heap.size) :
    TRow (((((((((w.setCell ⟨D, 0, none⟩ (.int .i64 1)).setCell ⟨D, 1, none⟩ (.int .i64 (-1))).setCell ⟨D, 2, none⟩ (.bool false)).setCell ⟨D, 3, none⟩ (.slice (some ⟨w.heap.size, 0, none⟩) 2 2)).setCell ⟨ga, ts.length * 4, none⟩ (.int .i64 1)).setCell ⟨ga, ts.length * 4 + 1, none⟩ (.int .i64 (-1))).setCell ⟨ga, ts.length * 4 + 2, none⟩ (.bool false)).setCell ⟨ga, ts.length * 4 + 3, none⟩ (.slice (some ⟨w.heap.size, 0, none⟩) 2 2)).alloc boxF) S (some ⟨ga, 0, none⟩) cap (ts ++ [boxT]) := by
  rw [← sets_alloc w boxF D ga (ts.length * 4) hV.lt hg]
  have FA : FieldRow (w.alloc boxF) S (some ⟨w.heap.size, 0, none⟩) 2 [⟨2, -1, true⟩, ⟨1, 0, false⟩] :=
    ⟨rfl, .inr ⟨w.heap.size, 2, #[.int .i64 2, .int .i64 (-1), .bool true, .int .i64 1, .int .i64 0, .bool false], rfl, hS, Deep.blk_alloc_new _ _, Nat.le_refl _, by unfold maxLen; omega, rfl, rfl⟩⟩
  have TA := h.below ((Below.refl _ _).alloc (Nat.le_refl _) boxF)
  have VA := hV.alloc boxF
  have VB := VA.set 0 (.int .i64 1)
  have VC := VB.set 1 (.int .i64 (-1))
  have VD := VC.set 2 (.bool false)
  have TD := (((TA.other (o := 0) (v := .int .i64 1) VA hne.symm).other (o := 1) (v := .int .i64 (-1)) VB hne.symm).other (o := 2) (v := .bool false) VC hne.symm).other (o := 3) (v := .slice (some ⟨w.heap.size, 0, none⟩) 2 2) VD hne.symm
  have FD := owns_keepE (owns_keepE (owns_keepE (owns_keepE FA (KeepE.set (o := 0) (.int .i64 1) VA (by decide))) (KeepE.set (o := 1) (.int .i64 (-1)) VB (by decide))) (KeepE.set (o := 2) (.bool false) VC (by decide))) (KeepE.set (o := 3) (.slice (some ⟨w.heap.size, 0, none⟩) 2 2) VD (by decide))
  exact TRow.setLast (t0 := boxT) TD rfl FD
theorem boxT_inv {gs : List (List Ty)} {ts : List Ty} (h : PInv gs ts) (ht : ts.length ≤ 2) : PInv gs (ts ++ [boxT]) := h.snoc ht ⟨by simp [boxT], ⟨by simp [boxT], by show (-1 : Int) < _; omega⟩, fun j hj => by
  have hj2 : j = 0 ∨ j = 1 := by simp [boxT] at hj; omega
  rcases hj2 with rfl | rfl <;> simp [boxT, fdAt] <;> omega⟩
def slen : Value → Nat
  | .slice _ n _ => n
  | _ => 0
theorem grAt_take (gs : List (List Ty)) (k i : Nat) (h : i < k) : grAt (gs.take k) i = grAt gs i := by
  simp [grAt, List.getD, h]
theorem GroupsIn.take {w : World} {lo hi : Nat} {a : Option Addr} {gs : List (List Ty)} (h : GroupsIn w lo hi a gs) (k : Nat) : GroupsIn w lo hi a (gs.take k) := by
  rcases h with rfl | ⟨b, off, rfl, h1, h2, h3⟩
  · exact .inl (by simp)
  · refine .inr ⟨b, off, rfl, h1, h2, fun i hi => ?_⟩
    have hl : i < k ∧ i < gs.length := by simp at hi; omega
    rw [grAt_take _ _ _ hl.1]
    exact h3 i hl.2
theorem Few.take {gs : List (List Ty)} (h : Few gs) (k : Nat) : Few (gs.take k) := by
  refine ⟨by have := h.1; simp; omega, fun i hi => ?_⟩
  have hl : i < k ∧ i < gs.length := by simp at hi; omega
  rw [grAt_take _ _ _ hl.1]
  exact h.2 i hl.2

/-- l1Type, of groups and one more so far. -/
theorem l1Type_and (g p : Nat) (g8 cap8 S : Nat) (gs : List (List Ty)) (ts : List Ty) (sz : Int) (w : World) (hp : p < 800000) (h : Rd w g p) (hg : g < S) (hG : GInv gs) (hl : gs.length ≤ 2) (hT : PInv gs ts) (ht : ts.length ≤ 2) (hS : S ≤ w.heap.size) (hx : GRow w S (some ⟨g8, 0, none⟩) cap8 (gs ++ [ts])) (z0 : 0 ≤ sz) (z1 : sz ≤ 3) :
    Calls Tryd.prog 77 #[.pointer (some ⟨g, 0, none⟩), .slice (some ⟨g8, 0, none⟩) (gs.length + 1) cap8, .int .i64 ((kinCount gs : Int) + (ts.length : Int)), .int .i64 ((kinCount gs : Int) + sz)] w (TypePost g p (100 * ((gs.length + 1 : Nat) : Int)) (kinCount gs + ts.length) w) := by
  have hG2 := hG.snoc hl hT
  have hc := hG.count gs.length (Nat.le_refl _)
  have hk : kinCount gs ≤ 6 := by unfold kinCount; omega
  have e1 : (gs ++ [ts]).length = gs.length + 1 := by simp
  have e2 := kinCount_snoc gs ts
  have h9 := l1Type_any g p (some ⟨g8, 0, none⟩) cap8 S w.heap.size (gs ++ [ts]) ((kinCount gs : Int) + sz) (100 * ((gs.length + 1 : Nat) : Int)) w hp h hg (hG2.partsW (by omega)) hG2.few hx.len hS (Nat.le_refl _) hx.groups (hG2.tbound _ (by rw [e1]; omega)) (by omega) (by omega) (by omega) (by omega) (kinCount gs + ts.length) e2.symm
  rw [e1, e2, Int.natCast_add] at h9
  exact h9

set_option maxHeartbeats 8000000 in
set_option maxRecDepth 100000 in
theorem l1Kin_any (g p : Nat) (w : World) (hp : p < 700000) (h : Rd w g p) :
    Calls Tryd.prog 64 #[.pointer (some ⟨g, 0, none⟩)] w (KinPost g p w) := by
  have hlt := h.lt
  obtain ⟨i0, hi0, hzz⟩ := Option.map_eq_some_iff.1 Tryd.infoType
  simp only [Prod.mk.injEq] at hzz
  obtain ⟨hz0, hs0, hb0⟩ := hzz
  have HZ := hide hz0
  have HS := hide hs0
  have HB := hide hb0
  have HI := hide hi0
  clear hz0 hs0 hb0 hi0
  obtain ⟨i1, hi1, hzz⟩ := Option.map_eq_some_iff.1 Tryd.infoTypeS
  simp only [Prod.mk.injEq] at hzz
  obtain ⟨hz1, hs1, hb1⟩ := hzz
  have HZ1 := hide hz1
  have HS1 := hide hs1
  have HB1 := hide hb1
  have HI1 := hide hi1
  clear hz1 hs1 hb1 hi1
  go_enter Tryd.func64, Tryd.ntmps64
  go_wp2_with fail
  refine (pick_only g p _ _ (by omega) (h.alloc _)).mono ?_
  rintro e w1 ⟨k1, rfl, _, l1, u1, r1, o1, s1⟩
  have u1' := u1 (by omega)
  have O1 : Hid (Only g w w1) := ((Only.refl g w).alloc _).trans o1
  have G1 : Hid (GRow w1 w.heap.size (some ⟨w.heap.size, 0, none⟩) 0 []) := ⟨[], owns_only (empty_row _ _ _ _ 1 (Deep.blk_alloc_new _ _) (Nat.le_refl _)) o1 hlt, fun i hi => absurd hi (by simp)⟩
  clear o1 h u1 s1
  go_wp2_with fail
  go_loopw [3, 4] (fun gv iv wr => ∃ (gs : List (List Ty)) (gb gc : Nat) (i : Int) (pq : Nat), gv = .slice (some ⟨gb, 0, none⟩) gs.length gc ∧ iv = .int .i64 i ∧ 0 ≤ i ∧ i ≤ 3 ∧ Hid (gs.length + i.toNat ≤ 3) ∧ Hid (GRow wr w.heap.size (some ⟨gb, 0, none⟩) gc gs) ∧ Hid (GInv gs) ∧ Hid (Only g w wr) ∧ Hid (Rd wr g pq) ∧ pq + 150 * i.toNat ≤ p + 460) (fun gv iv wr => (intOf iv).toNat)
  case atStart => exact ⟨[], w.heap.size, 0, 1 + k1, p + 1, rfl, rfl, by omega, by omega, (by show 0 + (1 + k1).toNat ≤ 3; omega), G1, GInv.nil, O1, r1, by omega⟩
  case round =>
    clear G1 O1 r1 l1 u1'
    obtain ⟨gs, gb, gc, i, pq, rfl, rfl, n0, n3, HLn, GR, GI, OW, RR, hpq⟩ := hrel
    obtain ⟨wo, hwo⟩ : ∃ x, x = wr := ⟨wr, rfl⟩
    subst hwo
    by_cases hi : 0 < i
    · have hl2 : gs.length ≤ 2 := by have h9 : gs.length + i.toNat ≤ 3 := HLn.out; omega
      have HX : Hid (GroupsIn wo w.heap.size wo.heap.size (some ⟨gb, 0, none⟩) gs) := GR.out.groups
      have hFew := hide GI.out.few
      have hkc : kinCount gs ≤ 6 := by have := GI.out.count gs.length (Nat.le_refl _); unfold kinCount; omega
      go_wp2_with fail
      refine (specKinCount_any _ _ _ _ gs wo hFew.out HX.out).mono ?_
      rintro e w2 ⟨rfl, rfl⟩
      go_upto_region 6 with fail
      go_cut [28] from 21 to 27 (fun c wx => ∃ (b : Bool) (pr : Nat), c = .bool b ∧ Hid (b = true → 0 < gs.length) ∧ Hid (GRow wx w.heap.size (some ⟨gb, 0, none⟩) gc gs) ∧ Hid (Only g w wx) ∧ Hid (Rd wx g pr) ∧ pr ≤ pq + 1)
      case first =>
        by_cases hg0 : gs.length = 0
        · have hg0' : ((gs.length : Int)) = 0 := by omega
          have hg0d : decide ((0 : Int) < (gs.length : Int)) = false := by rw [hg0']; rfl
          go_wp2_with fail
          go_meet
          exact ⟨false, pq, rfl, fun h => by simp at h, GR, OW, RR, by omega⟩
        · have hg0' : (0 : Int) < (gs.length : Int) := by omega
          have HGP : Hid (∀ (b : Bool), b = true → 0 < gs.length) := fun _ _ => by omega
          go_wp2_with fail
          refine (pick_only g pq _ _ (by omega) RR.out).mono ?_
          rintro e w3 ⟨k3, rfl, _, _, _, r3, o3, s3⟩
          go_wp2_with fail
          go_meet
          exact ⟨k3 == 0, pq + 1, rfl, HGP.out _, GR.out.only o3 hlt, OW.out.trans o3, r3, by omega⟩
      case rest =>
        clear GR OW RR HX
        obtain ⟨b, pr, rfl, hb0, GR, OW, RR, hpr⟩ := hcut
        cases b with
        | true =>
          have gpos : 0 < gs.length := hb0.out rfl
          go_wp2_with fail
          refine (pick_only g pr _ _ (by omega) RR.out).mono ?_
          rintro e w4 ⟨k4, rfl, _, l4, u4, r4, o4, s4⟩
          obtain ⟨x, rfl⟩ := Int.eq_ofNat_of_zero_le l4
          have x1 : x < gs.length := by have := u4 (by omega); omega
          have GR4 := hide (GR.out.only o4 hlt)
          have OW4 := hide (OW.out.trans o4)
          clear GR OW RR o4 u4
          obtain ⟨xs, hown, hTx⟩ := GR4.out
          have HXS := hide hTx
          have HOW := hide hown
          obtain ⟨ta, tc, hxc, hxt⟩ := hTx x x1
          have HTx := hide hxt
          have hcell : w4.cell? ⟨gb, x, none⟩ = some (.slice ta (grAt gs x).length tc) := by
            have := row_news hown x _ hxc
            rwa [add_plain, Nat.zero_add] at this
          have HX4 : Hid (GroupsIn w4 w.heap.size w4.heap.size (some ⟨gb, 0, none⟩) gs) := GR4.out.groups
          have HBg := hide (fun k => l1Begin_any (some ⟨gb, 0, none⟩) gc w.heap.size w4.heap.size x gs (w4.drewN k) hFew.out GR4.out.len (Nat.le_of_lt x1) HX4.out)
          have HPI := hide (shift_pinv GI.out x1)
          have HSm : Hid (Small (grAt gs x)) := by
            refine ⟨by have := (GI.out.2 x x1).1; omega, fun i hi => ?_⟩
            obtain ⟨h1, h2, h3⟩ := (GI.out.2 x x1).2 i hi
            have hc := GI.out.count x (by omega)
            have := (GI.out.2 x x1).1
            exact ⟨by omega, ⟨by omega, by omega⟩, fun j hj => by have := h3 j hj; omega⟩
          have hbx : beg gs x ≤ kinCount gs := beg_le (by omega)
          have x2 : (0 : Int) ≤ (x : Int) := by omega
          have x3 : (x : Int) < (gs.length : Int) := by omega
          have y0 : -1000 ≤ (kinCount gs : Int) - (countTo (grAt gs) x : Nat) := by unfold beg at hbx; omega
          have y1 : (kinCount gs : Int) - (countTo (grAt gs) x : Nat) ≤ 1000 := by omega
          have hw : IntKind.i64.wrap ((kinCount gs : Int) - ((countTo (grAt gs) x : Nat) : Int)) = (kinCount gs : Int) - ((countTo (grAt gs) x : Nat) : Int) := by
            simp [IntKind.wrap, IntKind.signed, IntKind.bits]
            omega
          clear hown hTx hxc hxt
          go_wp2_with fail
          go_region_law ((first
            | (refine step_append_lies _ (by rfl) _ _ 23 (by rfl) w.heap.size 41 i1 _ 1 24 Tryd.underlying23 HI1.out HZ1.out HS1.out HB1.out (by rfl) (by decide) (.slice (some ⟨gb, 0, none⟩) gs.length gc) gs.length xs (by rfl) (HO5.out.alloc _) ⟨w5.heap.size, 0, none⟩ 1 1 [.slice na (grAt gs x).length nc] (by rfl) rfl (World.news_of_block (Deep.blk_alloc_new _ _)) (by intro u hu; simp at hu; subst hu; rfl) (by decide) (by unfold maxLen; omega) (by omega) (by simp; omega) _ rfl ?_; intro gB cap6 w6 hown6 hgr6 hat6 hlt6)
            | (go_simp; go_at_call 71; refine (l1Begin_any (some ⟨gb, 0, none⟩) gc w.heap.size w4.heap.size x gs _ hFew.out GR4.out.len (Nat.le_of_lt x1) (by exact HX4.out)).mono ?_; rintro e w7 ⟨rfl, rfl⟩)
            | (go_simp; go_at_call 65; refine (l1Shift_any ta tc w.heap.size w4.heap.size (grAt gs x) _ _ _ HSm.out y0 y1 (by exact HTx.out.types) (by exact Nat.le_refl _)).mono ?_; rintro e w5 ⟨na, nc, rfl, ht5, hb5⟩; have HT5 := hide ht5; have HB5 : Hid (Below w4.heap.size w4 w5) := (Below.refl _ _).drew.trans hb5; have HO5 := hide (owns_below HOW.out HB5.out); have s5 : w.heap.size ≤ w5.heap.size := Nat.le_trans OW4.out.size HB5.out.size; clear ht5 hb5)))
          all_goals
            have e7 : (gs ++ [(grAt gs x).map (shiftTy (beg gs x : Int) ((kinCount gs : Int) - (beg gs x : Int)))]).length = gs.length + 1 := by simp
            have KT : KeepT w.heap.size w5 w6 := (KeepT.below ((Below.refl _ _).alloc (Nat.le_refl _) _)).trans (KeepT.grown (HO5.out.alloc _) hgr6)
            have G7 : Hid (GRow w6 w.heap.size (some ⟨gB, 0, none⟩) cap6 (gs ++ [(grAt gs x).map (shiftTy (beg gs x : Int) ((kinCount gs : Int) - (beg gs x : Int)))])) := by
              refine GRow.snoc (xs := xs) (ta := na) (tc := nc) (fun i hi => ?_) (by have := HOW.out.1; omega) ((HT5.out.lower OW4.out.size).keep KT.1 KT.2) ?_
              · obtain ⟨ta', tc', h1, h2⟩ := HXS.out i hi
                exact ⟨ta', tc', h1, (h2.below HB5.out).keep KT.1 KT.2⟩
              · rw [List.length_map]
                exact hown6
            have I7 : Hid (GInv (gs ++ [(grAt gs x).map (shiftTy (beg gs x : Int) ((kinCount gs : Int) - (beg gs x : Int)))])) := GI.out.snoc hl2 HPI.out
            have O7 : Hid (Only g w w6) := (((OW4.out.trans (Only.of_below HB5.out)).alloc _).grown hgr6 (owns_base HO5.out))
            have R7 : Hid (Rd w6 g (pr + 1)) := (r4.keep HB5.out).keep' (((Below.refl _ _).alloc (by omega) _).grown hgr6 (by simp; omega) (fun q hq => by have := owns_base HO5.out q hq; omega))
            have L7 : Hid ((gs ++ [(grAt gs x).map (shiftTy (beg gs x : Int) ((kinCount gs : Int) - (beg gs x : Int)))]).length + (i - 1).toNat ≤ 3) := by
              show _ ≤ _
              have h9 : gs.length + i.toNat ≤ 3 := HLn.out
              rw [e7]; omega
            go_wp2_with fail
            exact ⟨⟨_, gB, cap6, i - 1, pr + 1, (by rw [e7]), rfl, by omega, by omega, L7, G7, I7, O7, R7, by omega⟩, by simp [intOf]; omega⟩
        | false =>
          go_wp2_with fail
          refine (pick_only g pr _ _ (by omega) RR.out).mono ?_
          rintro e w5 ⟨k5, rfl, _, l5, u5, r5, o5, s5⟩
          have u5' := u5 (by omega)
          have GR5 := hide (GR.out.only o5 hlt)
          have OW5 := hide (OW.out.trans o5)
          have sw5 : w.heap.size ≤ w5.heap.size := OW5.out.size
          clear GR OW RR o5 u5 s5
          have T5 : Hid (TRow (w5.alloc (.cells #[] 28)) w5.heap.size (some ⟨w5.heap.size, 0, none⟩) 0 []) := ⟨[], empty_row _ _ _ _ 4 (Deep.blk_alloc_new _ _) (Nat.le_refl _), fun i hi => absurd hi (by simp)⟩
          have A5 : Hid (Only g w5 (w5.alloc (.cells #[] 28))) := (Only.refl g w5).alloc _
          have R5 : Hid (Rd (w5.alloc (.cells #[] 28)) g (pr + 1)) := r5.alloc _
          go_wp2_with fail
          go_loopw [8, 9] (fun gv kv wi => ∃ (ts : List Ty) (tb tc ps : Nat), gv = .slice (some ⟨tb, 0, none⟩) ts.length tc ∧ kv = .int .i64 (ts.length : Int) ∧ (ts.length : Int) ≤ 1 + k5 ∧ Hid (TRow wi w5.heap.size (some ⟨tb, 0, none⟩) tc ts) ∧ Hid (PInv gs ts) ∧ Hid (Only g w5 wi) ∧ Hid (Rd wi g ps) ∧ ps ≤ pr + 1 + 40 * ts.length) (fun gv kv wi => (1 + k5 - intOf kv).toNat)
          case atStart => exact ⟨[], w5.heap.size, 0, pr + 1, rfl, rfl, by simp; omega, T5, ⟨by simp, fun i hi => absurd hi (by simp)⟩, A5, R5, by omega⟩
          case round =>
            clear T5 A5 R5 r5
            obtain ⟨ts, tb, tc, ps, rfl, rfl, hts, TR, PI, AW, RR, hps⟩ := hrel
            obtain ⟨wi, hwi⟩ : ∃ x, x = wr := ⟨wr, rfl⟩
            subst hwi
            have GRi := hide (GR5.out.only AW.out hlt)
            have swi : w5.heap.size ≤ wi.heap.size := AW.out.size
            have HTS := hide (TR.out.lower sw5)
            by_cases hj : (ts.length : Int) < 1 + k5
            · have t2 : ts.length ≤ 2 := by omega
              obtain ⟨xs, hown, hTx⟩ := GRi.out
              have HXS := hide hTx
              have HOW := hide hown
              have hxl : xs.length = gs.length := by have := hown.1; omega
              have H1C := hide (GRow.one hxl hTx)
              clear hown hTx
              go_wp2_with (first
                | (at_builtin; refine wpList_append_lies _ rfl _ _ 23 rfl wi.heap.size 41 i1 _ 1 24 Tryd.underlying23 HI1.out HZ1.out HS1.out HB1.out rfl (by decide) v7 gs.length xs rfl (HO7.out.alloc _) ⟨w7.heap.size, 0, none⟩ 1 1 [.slice (some ⟨tb, 0, none⟩) ts.length tc] rfl rfl (World.news_of_block (Deep.blk_alloc_new _ _)) (by intro u hu; simp at hu; subst hu; rfl) (by decide) (by unfold maxLen; omega) (by omega) (by simp; omega) _ rfl ?_; intro g8 cap8 w8 hown8 hgr8 hat8 hlt8)
                | (at_builtin; refine wpList_append_own_at _ rfl _ _ 23 rfl wi.heap.size 41 i1 _ 1 24 Tryd.underlying23 HI1.out HZ1.out HS1.out HB1.out rfl (by decide) (.slice (some ⟨wi.heap.size, 0, none⟩) 0 0) 0 [] rfl (empty_row _ _ _ _ 1 (Deep.blk_alloc_new _ _) (Nat.le_refl _)) ⟨gb, 0, none⟩ gs.length gc xs rfl (by omega) (row_news (HOW.out.alloc _)) H1C.out (by unfold maxLen; omega) (by omega) (by simp) ?_; intro v7 w7 hown7 hgr7 hnil7 hat7; rw [Nat.zero_add, List.nil_append] at hown7; have HO7 := hide hown7; have s7 := hgr7.size; simp at s7))
              have B7 : Below wi.heap.size wi w7 := ((Below.refl _ _).alloc (Nat.le_refl _) _).grown hgr7 (by simp) (fun k hk => by simp [Value.ownBlock] at hk; omega)
              have B8 := hide ((B7.alloc B7.size _).grown hgr8 (by have := B7.size; simp; omega) (owns_base HO7.out))
              have G8 := hide (GRow.and HXS.out hxl HTS.out B8.out hown8 (Nat.le_trans sw5 swi))
              have s8 : wi.heap.size ≤ w8.heap.size := B8.out.size
              clear hown8 hgr8 hat8 hlt8 hgr7 hnil7 hat7 hown7 HO7 B7 HXS HOW H1C
              refine (l1Type_and g ps g8 cap8 w.heap.size gs ts (1 + k5) w8 (by omega) (RR.out.keep B8.out) hlt GI.out hl2 PI.out t2 (by omega) G8.out (by omega) (by omega)).mono ?_
              rintro e w9 ⟨t, fa, fc, rfl, ft9, tb9, ⟨p9, hp9, r9⟩, o9⟩
              have PI9 := hide (PI.out.snoc t2 tb9.tinv)
              have F9 := hide (ft9.lower (show w5.heap.size ≤ w8.heap.size by omega))
              have T9 : Hid (TRow w9 w5.heap.size (some ⟨tb, 0, none⟩) tc ts) := (TR.out.below B8.out).keep (KeepE.only o9 (by omega)) (KeepE.only o9 (by omega))
              have A9 := hide ((AW.out.trans (Only.of_below B8.out)).trans o9)
              have GR9 := hide ((GRi.out.below B8.out).only o9 hlt)
              have s9 : w8.heap.size ≤ w9.heap.size := o9.size
              have R9 := hide r9
              obtain ⟨xs2, hown2, hTv2⟩ := T9.out
              have HO2 := hide hown2
              have HTv := hide hTv2
              have hx2 := hide hown2.1
              have V9 : Hid (Rec (w9.alloc (.cells #[.int .i64 t.kind, .int .i64 t.up, .bool t.last, .slice fa t.fields.length fc] 28)) w9.heap.size 28 [.int .i64 t.kind, .int .i64 t.up, .bool t.last, .slice fa t.fields.length fc]) := Rec.new _ _ _
              clear ft9 tb9 o9 r9 hown2 hTv2 TR AW RR GRi G8 B8 T9 HTS
              go_upto_region 16 with (first
                | (at_builtin; refine wpList_append_lies _ rfl _ _ 41 rfl w5.heap.size 28 i0 _ 4 48 Tryd.underlying41 HI.out HZ.out HS.out HB.out rfl (by decide) (.slice (some ⟨tb, 0, none⟩) ts.length tc) ts.length xs2 rfl ((HO2.out.alloc _).alloc _) ⟨w9.heap.size + 1, 0, none⟩ 1 1 [.int .i64 t.kind, .int .i64 t.up, .bool t.last, .slice fa t.fields.length fc] rfl rfl ?c1 ?c2 (by decide) ?c3 ?c4 ?c5 _ rfl ?_))
              case c1 => exact World.news_of_block (by have := Deep.blk_alloc_new (w9.alloc (.cells #[.int .i64 t.kind, .int .i64 t.up, .bool t.last, .slice fa t.fields.length fc] 28)) (.cells #[.int .i64 t.kind, .int .i64 t.up, .bool t.last, .slice fa t.fields.length fc] 28); simpa using this)
              case c2 => intro u hu; simp at hu; rcases hu with rfl | rfl | rfl | rfl <;> rfl
              case c3 => unfold maxLen; omega
              case c4 => omega
              case c5 => simp; omega
              intro ga cap10 w10 hown10 hgr10 hat10 hlt10
              have hgw5 : g < w5.heap.size := by omega
              have hga : ga ≠ w9.heap.size := by
                have h0 : tb < w9.heap.size := owns_lt HO2.out tb rfl
                rcases hat10 with h | h
                · simp [Value.ownBlock] at h; omega
                · first | omega | (simp at h; omega)
              have tblt : tb < w9.heap.size := owns_lt HO2.out tb rfl
              have KF : KeepE w5.heap.size 35 w9 w10 := (KeepE.below (((Below.refl _ _).alloc (Nat.le_refl _) _).alloc (by simp) _)).trans (KeepE.grown ((HO2.out.alloc _).alloc _) hgr10 (by decide))
              have T10 := hide (TRow.snoc (fun i hi => (HTv.out i hi).keep KF) hx2.out (owns_keepE F9.out KF) hown10)
              have A10 := hide (((A9.out.alloc _).alloc _).grown hgr10 (owns_base HO2.out))
              have V10 := hide ((V9.out.alloc _).grown hgr10 (by intro e; simp [Value.ownBlock] at e; omega))
              have R10 : Hid (Rd w10 g p9) := R9.out.keep' ((((Below.refl _ _).alloc (by omega) _).alloc (by simp; omega) _).grown hgr10 (by simp; omega) (fun q hq => by have := owns_base HO2.out q hq; omega))
              have s10 : w9.heap.size + 1 < w10.heap.size := by have := hgr10.size; simp at this; omega
              have G10 := hide (GR5.out.only A10.out hlt)
              obtain ⟨xs3, hown3, hTx3⟩ := G10.out
              have HO3 := hide hown3
              have HX3 := hide hTx3
              have hx3 : xs3.length = gs.length := by have := hown3.1; omega
              have H13 := hide (GRow.one hx3 hTx3)
              have hSm : Hid (Small (ts ++ [t])) := PI9.out.small hl2 (by omega)
              have el : (ts ++ [t]).length = ts.length + 1 := by simp
              clear hown10 hgr10 hat10 hlt10 hown3 hTx3 KF V9 R9 A9 HO2 HTv hx2 F9 GR9
              go_wp2_with (first
                | (at_builtin; refine wpList_append_own_at _ rfl _ _ 23 rfl w10.heap.size 41 i1 _ 1 24 Tryd.underlying23 HI1.out HZ1.out HS1.out HB1.out rfl (by decide) (.slice (some ⟨w10.heap.size, 0, none⟩) 0 0) 0 [] rfl (empty_row _ _ _ _ 1 (Deep.blk_alloc_new _ _) (Nat.le_refl _)) ⟨gb, 0, none⟩ gs.length gc xs3 rfl (by omega) (row_news (HO3.out.alloc _)) H13.out (by unfold maxLen; omega) (by omega) (by simp) ?_; intro v11 w11 hown11 hgr11 hnil11 hat11; rw [Nat.zero_add, List.nil_append] at hown11; have HO11 := hide hown11; have s11 := hgr11.size; simp at s11))
              have B11 := hide (((Below.refl _ _).alloc (Nat.le_refl _) _).grown hgr11 (by simp) (fun k hk => by simp [Value.ownBlock] at hk; omega))
              have HCap : Hid (Calls Tryd.prog 78 #[.slice (some ⟨ga, 0, none⟩) (ts.length + 1) cap10, .int .i64 ((kinCount gs : Int) + (ts.length : Int) + 1)] w11 fun e w' => ∃ na nc, e = .returned (.slice na (ts.length + 1) nc) ∧ TRow w' w11.heap.size na nc ((ts ++ [t]).map (capTy ((kinCount gs : Int) + (ts.length : Int) + 1))) ∧ Below w11.heap.size w11 w') := by
                have h9 := l1Cap_any (some ⟨ga, 0, none⟩) cap10 w5.heap.size w11.heap.size (ts ++ [t]) ((kinCount gs : Int) + (ts.length : Int) + 1) w11 hSm.out (by omega) (by omega) (T10.out.below B11.out).types (Nat.le_refl _)
                rwa [el] at h9
              clear hown11 hgr11 hnil11 hat11
              refine HCap.out.mono ?_
              rintro e w12 ⟨na, nc, rfl, ht12, hb12⟩
              have HT12 := hide (ht12.lower (show w.heap.size ≤ w11.heap.size by omega))
              have HO12 := hide (owns_below HO11.out hb12)
              have B12 := hide (B11.out.trans (hb12.mono B11.out.size))
              have s12 : w11.heap.size ≤ w12.heap.size := hb12.size
              clear ht12 hb12 HO11 HCap
              go_wp2_with (first
                | (at_builtin; refine wpList_append_lies _ rfl _ _ 23 rfl w10.heap.size 41 i1 _ 1 24 Tryd.underlying23 HI1.out HZ1.out HS1.out HB1.out rfl (by decide) v11 gs.length xs3 rfl (HO12.out.alloc _) ⟨w12.heap.size, 0, none⟩ 1 1 [.slice na (ts.length + 1) nc] rfl rfl (World.news_of_block (Deep.blk_alloc_new _ _)) (by intro u hu; simp at hu; subst hu; rfl) (by decide) (by unfold maxLen; omega) (by omega) (by simp; omega) _ rfl ?_; intro g13 cap13 w13 hown13 hgr13 hat13 hlt13))
              have hown13' : w13.ownsRow w10.heap.size 41 1 (.slice (some ⟨g13, 0, none⟩) (gs.length + 1) cap13) (gs.length + 1) (xs3 ++ [.slice na ((ts ++ [t]).map (capTy ((kinCount gs : Int) + (ts.length : Int) + 1))).length nc]) := by rw [List.length_map, el]; exact hown13
              have Bz : Below w10.heap.size w12 w13 := ((Below.refl _ _).alloc (by omega) _).grown hgr13 (by simp; omega) (owns_base HO12.out)
              have B13 := hide (B12.out.trans Bz)
              have G13 : Hid (GRow w13 w.heap.size (some ⟨g13, 0, none⟩) cap13 (gs ++ [(ts ++ [t]).map (capTy ((kinCount gs : Int) + (ts.length : Int) + 1))])) := by
                have KT : KeepT w.heap.size w12 w13 := (KeepT.below ((Below.refl _ _).alloc (Nat.le_refl _) _)).trans (KeepT.grown (HO12.out.alloc _) hgr13)
                refine GRow.snoc (xs := xs3) (fun i hi => ?_) hx3 (HT12.out.keep KT.1 KT.2) (owns_lower hown13' (by omega))
                obtain ⟨ta', tc', h1, h2⟩ := HX3.out i hi
                exact ⟨ta', tc', h1, (h2.below B12.out).keep KT.1 KT.2⟩
              have ge : (gs ++ [(ts ++ [t]).map (capTy ((kinCount gs : Int) + (ts.length : Int) + 1))]).length = gs.length + 1 := by simp
              have s13 : w12.heap.size ≤ w13.heap.size := Bz.size
              have HKo : Hid (Calls Tryd.prog 20 #[.slice (some ⟨g13, 0, none⟩) (gs.length + 1) cap13] w13 fun e w' => e = .returned (.bool (kinOkF (gs ++ [(ts ++ [t]).map (capTy ((kinCount gs : Int) + (ts.length : Int) + 1))]))) ∧ Below w13.heap.size w13 w') := by
                have h9 := specKinOk_any (some ⟨g13, 0, none⟩) cap13 w.heap.size w13.heap.size (gs ++ [(ts ++ [t]).map (capTy ((kinCount gs : Int) + (ts.length : Int) + 1))]) w13 (PI9.out.cap_few GI.out _) G13.out.len (by omega) (Nat.le_refl _) G13.out.groups
                rwa [ge] at h9
              generalize kinOkF (gs ++ [(ts ++ [t]).map (capTy ((kinCount gs : Int) + (ts.length : Int) + 1))]) = KO at *
              clear hown13 hown13' hgr13 hat13 hlt13 Bz G13 HT12 HO12
              refine HKo.out.mono ?_
              rintro e w14 ⟨rfl, hb14⟩
              have B14 := hide (B13.out.trans (hb14.mono B13.out.size))
              have T14 := hide (T10.out.below B14.out)
              have A14 := hide (A10.out.trans (Only.of_below B14.out))
              have V14 := hide (V10.out.below B14.out V10.out.lt)
              have R14 := hide (R10.out.keep B14.out)
              have s14 : w10.heap.size ≤ w14.heap.size := B14.out.size
              clear hb14 HKo B11 B12 B13 T10 A10 V10 R10 G10 HX3 HO3 H13
              cases KO with
              | true =>
                go_wp2_with fail
                exact ⟨⟨ts ++ [t], ga, cap10, p9, (by rw [el]), (by rw [el]; go_num), (by rw [el]; omega), T14, PI9, A14, R14, (by rw [el]; omega)⟩, by simp [intOf]; omega⟩
              | false =>
                obtain ⟨xs4, hown4, hTv4⟩ := T14.out
                rw [el] at hown4 hTv4
                have hS4 : w5.heap.size ≤ ga := owns_base hown4 ga rfl
                have hlt4 : ga < w14.heap.size := owns_lt hown4 ga rfl
                have hga4 : ∀ o, w14.frozen? ⟨ga, o, none⟩ = false := fun o => by
                  rcases hown4.2 with ⟨h0, _⟩ | ⟨q, cap', cur, h0, _, hg, _⟩
                  · simp at h0
                  · simp at h0
                    obtain ⟨rfl, _⟩ := h0
                    simp [World.frozen?, hg]
                obtain ⟨q0, q1, q2, fa', fc', q3, _⟩ := hTv4 ts.length (Nat.lt_succ_self _)
                rw [tyAt_append_one] at q0 q1 q2 q3
                rcases owns_cells hown4 with h0 | ⟨q, hq, _, _, hcl⟩
                · omega
                simp at hq
                subst hq
                rw [← hcl _ (by omega)] at q0 q1 q2 q3
                have z0 := hga4 (ts.length * 4)
                have z1 := hga4 (ts.length * 4 + 1)
                have z2 := hga4 (ts.length * 4 + 2)
                have z3 := hga4 (ts.length * 4 + 3)
                have v0 := V14.out.cell (o := 0) rfl
                have v1 := V14.out.cell (o := 1) rfl
                have v2 := V14.out.cell (o := 2) rfl
                have v3 := V14.out.cell (o := 3) rfl
                have y0 := V14.out.frozen 0
                have y1 := V14.out.frozen 1
                have y2 := V14.out.frozen 2
                have y3 := V14.out.frozen 3
                have vlt := V14.out.lt
                have i1a : (0 : Int) ≤ (ts.length : Int) := by omega
                have i1b : (ts.length : Int) < (ts.length : Int) + 1 := by omega
                have N1 := hide (last_new T14.out V14.out hga (by omega) hlt4)
                have PI2 := hide (boxT_inv PI.out t2)
                have el0 : (ts ++ [boxT]).length = ts.length + 1 := by simp
                have A15 : Hid (Only g w5 (((((((((w14.setCell ⟨w9.heap.size, 0, none⟩ (.int .i64 1)).setCell ⟨w9.heap.size, 1, none⟩ (.int .i64 (-1))).setCell ⟨w9.heap.size, 2, none⟩ (.bool false)).setCell ⟨w9.heap.size, 3, none⟩ (.slice (some ⟨w14.heap.size, 0, none⟩) 2 2)).setCell ⟨ga, ts.length * 4, none⟩ (.int .i64 1)).setCell ⟨ga, ts.length * 4 + 1, none⟩ (.int .i64 (-1))).setCell ⟨ga, ts.length * 4 + 2, none⟩ (.bool false)).setCell ⟨ga, ts.length * 4 + 3, none⟩ (.slice (some ⟨w14.heap.size, 0, none⟩) 2 2)).alloc boxF)) :=
                  ((((((((A14.out.setNew (show w5.heap.size ≤ w9.heap.size by omega) _ _).setNew (show w5.heap.size ≤ w9.heap.size by omega) _ _).setNew (show w5.heap.size ≤ w9.heap.size by omega) _ _).setNew (show w5.heap.size ≤ w9.heap.size by omega) _ _).setNew hS4 _ _).setNew hS4 _ _).setNew hS4 _ _).setNew hS4 _ _).alloc _
                have R15 : Hid (Rd (((((((((w14.setCell ⟨w9.heap.size, 0, none⟩ (.int .i64 1)).setCell ⟨w9.heap.size, 1, none⟩ (.int .i64 (-1))).setCell ⟨w9.heap.size, 2, none⟩ (.bool false)).setCell ⟨w9.heap.size, 3, none⟩ (.slice (some ⟨w14.heap.size, 0, none⟩) 2 2)).setCell ⟨ga, ts.length * 4, none⟩ (.int .i64 1)).setCell ⟨ga, ts.length * 4 + 1, none⟩ (.int .i64 (-1))).setCell ⟨ga, ts.length * 4 + 2, none⟩ (.bool false)).setCell ⟨ga, ts.length * 4 + 3, none⟩ (.slice (some ⟨w14.heap.size, 0, none⟩) 2 2)).alloc boxF) g p9) :=
                  (R14.out.keep' ((((((((((Below.refl _ _).setCell (show g + 1 ≤ w9.heap.size by omega) _).setCell (show g + 1 ≤ w9.heap.size by omega) _).setCell (show g + 1 ≤ w9.heap.size by omega) _).setCell (show g + 1 ≤ w9.heap.size by omega) _).setCell (show g + 1 ≤ ga by omega) _).setCell (show g + 1 ≤ ga by omega) _).setCell (show g + 1 ≤ ga by omega) _).setCell (show g + 1 ≤ ga by omega) _))).alloc _
                clear hown4 hTv4 hcl hga4 T14 V14 A14 R14
                go_wp2_with fail
                exact ⟨⟨ts ++ [boxT], ga, cap10, p9, (by rw [el0]), (by rw [el0]; go_num), (by rw [el0]; omega), N1, PI2, A15, R15, (by rw [el0]; omega)⟩, by simp [intOf]; omega⟩
            · have hje : Hid ((ts.length : Int) = 1 + k5) := by show _ = _; omega
              obtain ⟨xs, hown, hTx⟩ := GRi.out
              have HXS := hide hTx
              have HOW := hide hown
              have hxl : xs.length = gs.length := by have := hown.1; omega
              have hj' : 1 + k5 ≤ (ts.length : Int) := by omega
              have hjd : decide ((ts.length : Int) < 1 + k5) = false := by simp; omega
              clear hown hTx
              go_wp2_with (first
                | (at_builtin; refine wpList_append_lies _ rfl _ _ 23 rfl w.heap.size 41 i1 _ 1 24 Tryd.underlying23 HI1.out HZ1.out HS1.out HB1.out rfl (by decide) (.slice (some ⟨gb, 0, none⟩) gs.length gc) gs.length xs rfl (HOW.out.alloc _) ⟨wi.heap.size, 0, none⟩ 1 1 [.slice (some ⟨tb, 0, none⟩) ts.length tc] rfl rfl (World.news_of_block (Deep.blk_alloc_new _ _)) (by intro u hu; simp at hu; subst hu; rfl) (by decide) (by unfold maxLen; omega) (by omega) (by simp; omega) _ rfl ?_; intro gB cap6 w6 hown6 hgr6 hat6 hlt6))
              have KT : KeepT w.heap.size wi w6 := (KeepT.below ((Below.refl _ _).alloc (Nat.le_refl _) _)).trans (KeepT.grown (HOW.out.alloc _) hgr6)
              have G7 : Hid (GRow w6 w.heap.size (some ⟨gB, 0, none⟩) cap6 (gs ++ [ts])) := by
                refine GRow.snoc (xs := xs) (fun i hi => ?_) hxl (HTS.out.keep KT.1 KT.2) hown6
                obtain ⟨ta', tc', h1, h2⟩ := HXS.out i hi
                exact ⟨ta', tc', h1, h2.keep KT.1 KT.2⟩
              have e7 : (gs ++ [ts]).length = gs.length + 1 := by simp
              have I7 : Hid (GInv (gs ++ [ts])) := GI.out.snoc hl2 PI.out
              have O7 : Hid (Only g w w6) := (((OW5.out.trans AW.out).alloc _).grown hgr6 (owns_base HOW.out))
              have R7 : Hid (Rd w6 g ps) := RR.out.keep' (((Below.refl _ _).alloc (by omega) _).grown hgr6 (by simp; omega) (fun q hq => by have := owns_base HOW.out q hq; omega))
              have L7 : Hid ((gs ++ [ts]).length + (i - 1).toNat ≤ 3) := by
                show _ ≤ _
                have h9 : gs.length + i.toNat ≤ 3 := HLn.out
                rw [e7]; omega
              clear KT hown6 hgr6 hat6 hlt6
              go_wp2_with fail
              exact ⟨⟨gs ++ [ts], gB, cap6, i - 1, ps, (by rw [e7]), rfl, by omega, by omega, L7, G7, I7, O7, R7, by omega⟩, by simp [intOf]; omega⟩
    · have hi' : i ≤ 0 := by omega
      have hl3 : gs.length ≤ 3 := GI.out.1
      have HX : Hid (GroupsIn wo w.heap.size wo.heap.size (some ⟨gb, 0, none⟩) gs) := GR.out.groups
      have hglen : gs.length ≤ gc := GR.out.len
      have sw := OW.out.size
      go_wp2_with fail
      go_loopw [3] (fun gv wi => ∃ k : Nat, gv = .slice (some ⟨gb, 0, none⟩) k gc ∧ k ≤ gs.length ∧ Hid (Below wo.heap.size wo wi)) (fun gv wi => slen gv)
      case atStart => exact ⟨gs.length, rfl, Nat.le_refl _, Below.refl _ _⟩
      case round =>
        obtain ⟨k, rfl, hk, BW⟩ := hrel
        have e1 : (gs.take k).length = k := by simp; omega
        have X1 : Hid (GroupsIn wr w.heap.size wo.heap.size (some ⟨gb, 0, none⟩) (gs.take k)) := (HX.out.take k).keep BW.out
        have N1 : Hid (Few (gs.take k)) := GI.out.few.take k
        have HCn : Hid (Calls Tryd.prog 18 #[.slice (some ⟨gb, 0, none⟩) k gc] wr fun e w' => e = .returned (.int .i64 (kinCount (gs.take k) : Nat)) ∧ w' = wr) := by
          have h9 := specKinCount_any (some ⟨gb, 0, none⟩) gc w.heap.size wo.heap.size (gs.take k) wr N1.out X1.out
          rwa [e1] at h9
        have HCo : Hid (Calls Tryd.prog 20 #[.slice (some ⟨gb, 0, none⟩) k gc] wr fun e w' => e = .returned (.bool (kinOkF (gs.take k))) ∧ Below wr.heap.size wr w') := by
          have h9 := specKinOk_any (some ⟨gb, 0, none⟩) gc w.heap.size wo.heap.size (gs.take k) wr N1.out (by rw [e1]; omega) sw BW.out.size X1.out
          rwa [e1] at h9
        have hkc : kinCount (gs.take k) ≤ 1099511627776 := kinCount_le N1.out
        have kgc : k ≤ gc := by omega
        have RW : Hid (Rd wr g pq) := RR.out.keep BW.out
        have k4 : (k : Int) ≤ 4 := by omega
        have k4d : decide ((4 : Int) < (k : Int)) = false := by simp; omega
        generalize hK : kinCount (gs.take k) = K at *
        by_cases h8 : 8 < K
        · have hk0 : 0 < k := by
            rcases Nat.eq_zero_or_pos k with h | h
            · subst h; simp [kinCount, countTo] at hK; omega
            · exact h
          have h8' : (8 : Int) < (K : Int) := by omega
          have h8d : decide ((8 : Int) < (K : Int)) = true := by simp; omega
          have hk1 : (0 : Int) ≤ (k : Int) - 1 := by omega
          have hk2 : (k : Int) - 1 ≤ (gc : Int) := by omega
          go_wp2_with fail
          refine HCn.out.mono ?_
          rintro e w2 ⟨rfl, rfl⟩
          go_wp2_with fail
          exact ⟨⟨k - 1, rfl, by omega, BW⟩, by show k - 1 < k; omega⟩
        · have h8' : (K : Int) ≤ 8 := by omega
          have h8d : decide ((8 : Int) < (K : Int)) = false := by simp; omega
          by_cases hk0 : k = 0
          · subst hk0
            go_wp2_with fail
            refine HCn.out.mono ?_
            rintro e w2 ⟨rfl, rfl⟩
            go_wp2_with fail
            go_ret
            exact ⟨[], gb, gc, rfl, .inl rfl, Nat.zero_le _, .inl rfl, GInv.nil.few, ⟨pq, by omega, RW.out⟩, OW.out.trans (Only.of_below BW.out)⟩
          · have hk0' : (0 : Int) < (k : Int) := by omega
            have hk0d : decide ((0 : Int) < (k : Int)) = true := by simp; omega
            go_wp2_with fail
            refine HCn.out.mono ?_
            rintro e w2 ⟨rfl, rfl⟩
            go_wp2_with fail
            refine HCo.out.mono ?_
            rintro e w2 ⟨rfl, hb2⟩
            have B2 := hide (BW.out.trans (hb2.mono BW.out.size))
            cases hko : kinOkF (gs.take k) with
            | true =>
              have HKO := hide hko
              have X2 : Hid (GroupsIn w2 w.heap.size w2.heap.size (some ⟨gb, 0, none⟩) (gs.take k)) := (X1.out.keep (hb2.mono BW.out.size)).wide (Nat.le_refl _) B2.out.size
              have R2 : Hid (Rd w2 g pq) := RW.out.keep hb2
              go_wp2_with fail
              go_ret
              exact ⟨gs.take k, gb, gc, (by rw [e1]; rfl), .inr HKO.out, (by rw [e1]; exact kgc), X2.out, N1.out, ⟨pq, by omega, R2.out⟩, OW.out.trans (Only.of_below B2.out)⟩
            | false =>
              go_wp2_with fail
              exact ⟨⟨k - 1, rfl, by omega, B2⟩, by show k - 1 < k; omega⟩
end Go.Proofs.YtejkebfhiddhmaaDoor

/- l1Bent of the model: groups of types, drawn, one in eight bent. -/
namespace Go.Proofs.YtejkebfhiddhmaaDoor
open Go.ChangeShapes Go.WideShapes Go.ChangeAt Go.RowKit Go.Deep
set_option linter.unusedVariables false

/-- What l1Bent answers. -/
def BentPost (g p : Nat) (w : World) (e : Ending) (w' : World) : Prop :=
  ∃ (gs : List (List Ty)) (ga : Nat) (gc : Nat), e = .returned (.slice (some ⟨ga, 0, none⟩) gs.length gc) ∧ gs.length ≤ gc ∧ GroupsIn w' w.heap.size w'.heap.size (some ⟨ga, 0, none⟩) gs ∧ Few gs ∧ (∃ p', p' ≤ p + 600 ∧ Rd w' g p') ∧ Only g w w'

theorem parts_small {gs : List (List Ty)} (hP : Parts gs) {x : Nat} (hx : x < gs.length) : 0 < (grAt gs x).length ∧ (grAt gs x).length ≤ 8 ∧ Small (grAt gs x) ∧ ∀ i, i < (grAt gs x).length → (tyAt (grAt gs x) i).fields.length ≤ 4 := by
  have hc : countTo (grAt gs) (x + 1) ≤ kinCount gs := countTo_mono (grAt gs) hx
  have h8 := hP.2.1
  simp only [countTo] at hc
  refine ⟨(hP.2.2 x hx).1, by omega, ⟨by omega, fun i hi => ?_⟩, fun i hi => (hP.w.2 x hx i hi).1⟩
  obtain ⟨h1, h2, h3⟩ := hP.w.2 x hx i hi
  exact ⟨by omega, ⟨by omega, by omega⟩, fun j hj => by have := h3 j hj; omega⟩
theorem set_take_drop (xs : List Value) (x : Nat) (v : Value) (h : x < xs.length) : xs.take x ++ [v] ++ xs.drop (x + 1) = xs.set x v := by
  rw [List.set_eq_take_append_cons_drop, if_pos h]; simp
theorem kinOk_parts' {gs : List (List Ty)} (h : kinOkF gs = true) : Parts gs := by
  unfold kinOkF at h
  simp only [Bool.and_eq_true] at h
  exact (partsF_iff gs).1 h.1

theorem bent_fin {g p : Nat} {w w3 w' : World} {hi B S3 x g7 cap7 nb nc N : Nat} {gs : List (List Ty)} {ts : List Ty} {xs : List Value} (hx : x < gs.length) (hl : xs.length = gs.length)
    (hg : ∀ i, i < gs.length → ∃ ta tc, xs[i]? = some (.slice ta (grAt gs i).length tc) ∧ TypesIn w3 w.heap.size hi ta (grAt gs i)) (hs : Same w.heap.size hi w3 w') (hh : hi ≤ w'.heap.size) (hB : w.heap.size ≤ B)
    (ho : w'.ownsRow B 41 1 (.slice (some ⟨g7, 0, none⟩) gs.length cap7) gs.length (xs.set x (.slice (some ⟨nb, 0, none⟩) N nc))) (hN : ts.length = N) (hS : w.heap.size ≤ S3) (ht : TypesIn w' S3 w'.heap.size (some ⟨nb, 0, none⟩) ts)
    (hF : Few gs) (h1 : N ≤ 1048576) (h2 : ∀ j, j < ts.length → (tyAt ts j).fields.length ≤ 1048576) (hc : gs.length ≤ cap7) {q : Nat} (hq : q ≤ p + 600) (r : Rd w' g q) (o : Only g w w') :
    BentPost g p w (.returned (.slice (some ⟨g7, 0, none⟩) gs.length cap7)) w' := by
  subst hN
  exact ⟨gs.set x ts, g7, cap7, by rw [List.length_set], by rw [List.length_set]; exact hc, out_groups hx hl hg hs hh hB ho (ht.wide hS (Nat.le_refl _)), few_set hF hx h1 h2, ⟨q, hq, r⟩, o⟩
theorem grAt_append_right (l r : List (List Ty)) (i : Nat) (h : l.length ≤ i) : grAt (l ++ r) i = grAt r (i - l.length) := by
  simp [grAt, List.getD, List.getElem?_append_right h]
theorem row_groups {w' : World} {S B g2 cap2 n : Nat} {G : List (List Ty)} {ys : List Value} (hn : G.length = n) (hB : S ≤ B) (ho : w'.ownsRow B 41 1 (.slice (some ⟨g2, 0, none⟩) n cap2) n ys)
    (hg : ∀ i, i < n → ∃ ta tc, ys[i]? = some (.slice ta (grAt G i).length tc) ∧ TypesIn w' S w'.heap.size ta (grAt G i)) : GroupsIn w' S w'.heap.size (some ⟨g2, 0, none⟩) G := by
  subst hn
  rcases owns_cells ho with h0 | ⟨g, hg2, hS, hlt, hc⟩
  · exact .inl (List.length_eq_zero_iff.1 (by omega))
  simp at hg2
  subst hg2
  refine .inr ⟨g2, 0, rfl, by omega, hlt, fun i hi => ?_⟩
  obtain ⟨ta', tc', h1, h2⟩ := hg i hi
  exact ⟨ta', tc', by rw [Nat.zero_add, hc i (by omega)]; exact h1, h2⟩
theorem cell_off {w : World} {b o o' : Nat} (v : Value) (h : o' ≠ o) : (w.setCell ⟨b, o, none⟩ v).cell? ⟨b, o', none⟩ = w.cell? ⟨b, o', none⟩ :=
  World.cell?_setCell_other w _ _ _ (by intro e; injection e with _ e2 _; exact h e2.symm)
theorem fdAt_set (fs : List Fd) (f : Fd) (i : Nat) (hl : 0 < fs.length) : fdAt (fs.set 0 f) i = if i = 0 then f else fdAt fs i := by
  simp only [fdAt, List.getD_eq_getElem?_getD, List.getElem?_set]
  by_cases e : 0 = i
  · subst e; simp [hl]
  · rw [if_neg e, if_neg (fun h => e h.symm)]
theorem first_fields {w : World} {S fb cap : Nat} {fs : List Fd} (h : FieldRow w S (some ⟨fb, 0, none⟩) cap fs) (hl : 0 < fs.length) :
    FieldAt w fb 0 (fdAt fs 0) ∧ (∀ v, FieldsIn (w.setCell ⟨fb, 1, none⟩ (.int .i64 v)) S (w.setCell ⟨fb, 1, none⟩ (.int .i64 v)).heap.size (some ⟨fb, 0, none⟩) (fs.set 0 ⟨(fdAt fs 0).kind, v, (fdAt fs 0).mt⟩)) ∧
    ∀ v, FieldsIn (w.setCell ⟨fb, 2, none⟩ (.bool v)) S (w.setCell ⟨fb, 2, none⟩ (.bool v)).heap.size (some ⟨fb, 0, none⟩) (fs.set 0 ⟨(fdAt fs 0).kind, (fdAt fs 0).of, v⟩) := by
  rcases h.fields with hn | ⟨b, off, he, h1, h2, hq⟩
  · rw [hn] at hl; simp at hl
  simp at he
  obtain ⟨rfl, rfl⟩ := he
  have h0 := hq 0 hl
  simp only [Nat.zero_mul, Nat.add_zero] at h0
  obtain ⟨a0, a1, a2⟩ := h0
  refine ⟨⟨a0, a1, a2⟩, fun v => .inr ⟨fb, 0, rfl, h1, by simpa using h2, fun i hi => ?_⟩, fun v => .inr ⟨fb, 0, rfl, h1, by simpa using h2, fun i hi => ?_⟩⟩
  · rw [List.length_set] at hi
    rw [fdAt_set _ _ _ hl]
    by_cases e : i = 0
    · subst e
      rw [if_pos rfl]
      exact ⟨by simp only [Nat.zero_mul, Nat.add_zero]; rw [cell_off _ (by omega)]; exact a0, World.cell?_setCell_same' w _ _ (by simp only [Nat.zero_add] at a1 ⊢; rw [a1]; rfl), by simp only [Nat.zero_mul, Nat.add_zero]; rw [cell_off _ (by omega)]; exact a2⟩
    · rw [if_neg e]
      obtain ⟨c0, c1, c2⟩ := hq i hi
      exact ⟨by rw [cell_off _ (by omega)]; exact c0, by rw [cell_off _ (by omega)]; exact c1, by rw [cell_off _ (by omega)]; exact c2⟩
  · rw [List.length_set] at hi
    rw [fdAt_set _ _ _ hl]
    by_cases e : i = 0
    · subst e
      rw [if_pos rfl]
      exact ⟨by simp only [Nat.zero_mul, Nat.add_zero]; rw [cell_off _ (by omega)]; exact a0, by simp only [Nat.zero_mul, Nat.add_zero]; rw [cell_off _ (by omega)]; exact a1, World.cell?_setCell_same' w _ _ (by simp only [Nat.zero_add] at a2 ⊢; rw [a2]; rfl)⟩
    · rw [if_neg e]
      obtain ⟨c0, c1, c2⟩ := hq i hi
      exact ⟨by rw [cell_off _ (by omega)]; exact c0, by rw [cell_off _ (by omega)]; exact c1, by rw [cell_off _ (by omega)]; exact c2⟩
/-- A number or a mark of a type turned. -/
theorem TypeOf.set {w : World} {S b y fc : Nat} {t : Ty} {fa : Option Addr} (h : TypeOf w S b y t fa fc) (o : Nat) (v : Value) (t' : Ty) (hf : t'.fields = t.fields)
    (ho : (o = 0 ∧ v = .int .i64 t'.kind ∧ t'.up = t.up ∧ t'.last = t.last) ∨ (o = 1 ∧ v = .int .i64 t'.up ∧ t'.kind = t.kind ∧ t'.last = t.last) ∨ (o = 2 ∧ v = .bool t'.last ∧ t'.kind = t.kind ∧ t'.up = t.up)) :
    TypeAt (w.setCell ⟨b, y * 4 + o, none⟩ v) S (w.setCell ⟨b, y * 4 + o, none⟩ v).heap.size b (y * 4) t' := by
  obtain ⟨cur, hb⟩ := h.blk
  have hfr : FieldRow (w.setCell ⟨b, y * 4 + o, none⟩ v) S fa fc t.fields := owns_keepE h.fr (KeepE.set v hb (by decide))
  have here : ∀ {u : Value}, w.cell? ⟨b, y * 4 + o, none⟩ = some u → (w.setCell ⟨b, y * 4 + o, none⟩ v).cell? ⟨b, y * 4 + o, none⟩ = some v := fun hu => World.cell?_setCell_same' w _ _ (by rw [hu]; rfl)
  have c0 := h.c0; have c1 := h.c1; have c2 := h.c2; have c3 := h.c3
  rcases ho with ⟨rfl, rfl, e1, e2⟩ | ⟨rfl, rfl, e1, e2⟩ | ⟨rfl, rfl, e1, e2⟩
  · refine ⟨here c0, ?_, ?_, fa, fc, ?_, hf ▸ hfr.fields⟩
    · rw [cell_off _ (by omega), c1, e1]
    · rw [cell_off _ (by omega), c2, e2]
    · rw [cell_off _ (by omega), c3, hf]
  · refine ⟨?_, here c1, ?_, fa, fc, ?_, hf ▸ hfr.fields⟩
    · rw [cell_off _ (by omega), c0, e1]
    · rw [cell_off _ (by omega), c2, e2]
    · rw [cell_off _ (by omega), c3, hf]
  · refine ⟨?_, ?_, here c2, fa, fc, ?_, hf ▸ hfr.fields⟩
    · rw [cell_off _ (by omega), c0, e1]
    · rw [cell_off _ (by omega), c1, e2]
    · rw [cell_off _ (by omega), c3, hf]

theorem bent_kept {w : World} {S b y fc : Nat} {t : Ty} {fa : Option Addr} (h : TypeOf w S b y t fa fc) (hb : S ≤ b) {v9 : Int} (w' : World) (hgr : (w.alloc (.cells #[.int .i64 1, .int .i64 v9, .bool false] 35)).grownBy w' (Value.slice fa t.fields.length fc).ownBlock) :
    w'.cell? ⟨b, y * 4 + 3, none⟩ = some (.slice fa t.fields.length fc) ∧ w'.frozen? ⟨b, y * 4 + 3, none⟩ = false := by
  obtain ⟨cur, hblk⟩ := h.blk
  have hlt : b < w.heap.size := (Array.getElem?_eq_some_iff.1 hblk).1
  have hk0 := Below.heap_alloc w (.cells #[.int .i64 1, .int .i64 v9, .bool false] 35) b hlt
  have hk1 : w'.heap[b]? = w.heap[b]? := ((KeepE.grown (S := S) (e := 28) (h.fr.alloc _) hgr (by decide)) b cur hb (hk0.trans hblk)).trans hk0
  exact ⟨(World.cell?_of_block (w := w) hk1).trans h.c3, by rw [World.frozen?_of_block (w := w) (a := ⟨b, y * 4 + 3, none⟩) hk1]; exact h.fz _⟩

set_option maxHeartbeats 8000000 in
set_option maxRecDepth 100000 in
theorem l1Bent_any (g p : Nat) (w : World) (hp : p < 600000) (h : Rd w g p) :
    Calls Tryd.prog 43 #[.pointer (some ⟨g, 0, none⟩)] w (BentPost g p w) := by
  have hlt := h.lt
  obtain ⟨i1, hi1, hzz⟩ := Option.map_eq_some_iff.1 Tryd.infoTypeS
  simp only [Prod.mk.injEq] at hzz
  obtain ⟨hz1, hs1, hb1⟩ := hzz
  have HZ1 := hide hz1
  have HS1 := hide hs1
  have HB1 := hide hb1
  have HI1 := hide hi1
  clear hz1 hs1 hb1 hi1
  obtain ⟨i0, hi0, hzz⟩ := Option.map_eq_some_iff.1 Tryd.infoField
  simp only [Prod.mk.injEq] at hzz
  obtain ⟨hz0, hs0, hb0⟩ := hzz
  have HZ0 := hide hz0
  have HS0 := hide hs0
  have HB0 := hide hb0
  have HI0 := hide hi0
  clear hz0 hs0 hb0 hi0
  go_enter Tryd.func43, Tryd.ntmps43
  go_wp2_with fail
  refine (l1Kin_any g p w (by omega) h).mono ?_
  rintro e w1 ⟨gs, gb, gc, rfl, hor, hgc, hx1, hF1, ⟨p1, hp1, r1⟩, o1⟩
  have HOR := hide hor
  have X1 := hide hx1
  have HF := hide hF1
  have O1 := hide o1
  have gs6 : gs.length ≤ 1048576 := hF1.1
  clear hor hx1 hF1 o1 h
  go_wp2_with fail
  refine (pick_only g p1 _ _ (by omega) r1).mono ?_
  rintro e w2 ⟨k2, rfl, _, l2, u2, r2, o2, s2⟩
  have u2' := u2 (by omega)
  have X2 : Hid (GroupsIn w2 w.heap.size w1.heap.size (some ⟨gb, 0, none⟩) gs) := X1.out.same (o2.same hlt (Nat.le_refl _)) (Nat.le_refl _) (Nat.le_refl _)
  have O2 := hide (O1.out.trans o2)
  have z12 : w1.heap.size ≤ w2.heap.size := o2.size
  have z01 : w.heap.size ≤ w1.heap.size := O1.out.size
  clear o2 u2 s2 r1 X1 O1
  by_cases hret : gs.length = 0 ∨ 7 < k2
  · have XR := hide (X2.out.wide (Nat.le_refl _) z12)
    have hret' : (gs.length : Int) = 0 ∨ ((0 : Int) < (gs.length : Int) ∧ 7 < k2) := by omega
    clear hret
    rcases hret' with hr | ⟨hr, hr2⟩
    · have hrb : ((gs.length : Int) == 0) = true := by simpa using hr
      have HG0 : Hid (gs.length = 0) := by show _ = _; omega
      go_wp2_with fail
      go_ret
      refine ⟨gs, gb, gc, ?_, hgc, XR.out, HF.out, ⟨p1 + 1, by omega, r2⟩, O2.out⟩
      first | rfl | (rw [HG0.out]; rfl)
    · have hrb : ((gs.length : Int) == 0) = false := beq_eq_false_iff_ne.2 (by omega)
      go_wp2_with fail
      go_ret
      exact ⟨gs, gb, gc, rfl, hgc, XR.out, HF.out, ⟨p1 + 1, by omega, r2⟩, O2.out⟩
  · have gpos : 0 < gs.length := by omega
    have k7 : k2 ≤ 7 := by omega
    have hP : Hid (Parts gs) := by
      rcases HOR.out with h | h
      · rw [h] at gpos; simp at gpos
      · exact kinOk_parts' h
    have g8 : gs.length ≤ 4 := hP.out.1
    have hrb : ((gs.length : Int) == 0) = false := beq_eq_false_iff_ne.2 (by omega)
    clear hret
    go_wp2_with fail
    refine (pick_only g (p1 + 1) _ _ (by omega) r2).mono ?_
    rintro e w3 ⟨x', rfl, _, l3, u3, r3, o3, s3⟩
    obtain ⟨x, rfl⟩ := Int.eq_ofNat_of_zero_le l3
    have x1 : x < gs.length := by have := u3 (by omega); omega
    have X3 : Hid (GroupsIn w3 w.heap.size w1.heap.size (some ⟨gb, 0, none⟩) gs) := X2.out.same (o3.same hlt z12) (Nat.le_refl _) (Nat.le_refl _)
    have O3 := hide (O2.out.trans o3)
    have z13 : w1.heap.size ≤ w3.heap.size := Nat.le_trans z12 o3.size
    clear o3 u3 s3 r2 X2 O2
    obtain ⟨xs, hxl, ⟨hgb1, hgb2⟩, hcl, hgx⟩ := headers X3.out gpos
    obtain ⟨ta, tc, hxc, hxt⟩ := hgx x x1
    have HGX := hide hgx
    have HCL := hide hcl
    have HXT := hide hxt
    have hcell := hcl x _ hxc
    obtain ⟨n1, n8, hSm, hf4⟩ := parts_small hP.out x1
    have HSm := hide hSm
    have HF4 := hide hf4
    have x2 : (0 : Int) ≤ (x : Int) := by omega
    have x3 : (x : Int) < (gs.length : Int) := by omega
    have x4 : (x : Int) ≤ (gs.length : Int) := by omega
    have x5 : (x : Int) + 1 ≤ (gs.length : Int) := by omega
    have hgbs : gb < w3.heap.size := by omega
    clear hgx hcl hxt hSm hf4 hxc
    go_wp2_with fail
    refine (l1Shift_apart ta tc w.heap.size w1.heap.size (grAt gs x) 0 0 w3 HSm.out (by omega) (by omega) HXT.out z13).mono ?_
    rintro e w4 ⟨na, nc, rfl, ht4, hb4⟩
    have e4 : ((grAt gs x).map (shiftTy 0 0)).length = (grAt gs x).length := by simp
    obtain ⟨nb, rfl⟩ : ∃ nb, na = some ⟨nb, 0, none⟩ := by
      obtain ⟨xsT, hoT, _⟩ := ht4
      obtain ⟨nb, capb, hv, _⟩ := hoT.form (by omega)
      simp at hv
      exact ⟨nb, hv.1⟩
    have HT4 := hide ht4
    have HB4 := hide hb4
    have z34 : w3.heap.size ≤ w4.heap.size := hb4.size
    have R4 := hide (r3.keep hb4)
    have H1C : Hid (∀ u ∈ xs, u.oneCell' = true) := by
      intro u hu
      obtain ⟨i, hi, rfl⟩ := List.mem_iff_getElem.1 hu
      obtain ⟨ta', tc', h1, _⟩ := HGX.out i (by omega)
      rw [List.getElem?_eq_getElem hi] at h1
      injection h1 with h1
      rw [h1]; rfl
    have C4 : Hid (∀ j u, xs[j]? = some u → w4.cell? ⟨gb, j, none⟩ = some u) := fun j u hj => by rw [hb4.cell (p := ⟨gb, j, none⟩) hgbs]; exact HCL.out j u hj
    clear ht4 hb4 r3 hcell
    go_upto_region 8 with (first
      | (at_builtin; refine wpList_append_lies _ rfl _ _ 23 rfl w4.heap.size 41 i1 _ 1 24 Tryd.underlying23 HI1.out HZ1.out HS1.out HB1.out rfl (by decide) v5 x (xs.take x) rfl (HO5.out.alloc _) ⟨w5.heap.size, 0, none⟩ 1 1 [.slice (some ⟨nb, 0, none⟩) (grAt gs x).length nc] rfl rfl (World.news_of_block (Deep.blk_alloc_new _ _)) (by intro u hu; simp at hu; subst hu; rfl) (by decide) (by unfold maxLen; omega) (by omega) (by simp; omega) _ rfl ?_; intro g6 cap6 w6 hown6 hgr6 hat6 hlt6; have HO6 := hide hown6; have B6 := hide ((B5.out.alloc B5.out.size _).grown hgr6 (by have := B5.out.size; simp; omega) (owns_base HO5.out)); have z46 : w4.heap.size ≤ w6.heap.size := B6.out.size; clear hown6 hgr6)
      | (at_builtin; refine wpList_append_own_at _ rfl _ _ 23 rfl w4.heap.size 41 i1 _ 1 24 Tryd.underlying23 HI1.out HZ1.out HS1.out HB1.out rfl (by decide) (.slice (some ⟨w4.heap.size, 0, none⟩) 0 0) 0 [] rfl (empty_row _ _ _ _ 1 (Deep.blk_alloc_new _ _) (Nat.le_refl _)) ⟨gb, 0, none⟩ x _ (xs.take x) rfl (by simp; omega) (fun j u hj => by rw [add_plain, Nat.zero_add, World.cell?_alloc_past _ _ _ (by show gb < _; omega)]; exact C4.out j u (by rw [List.getElem?_take] at hj; split at hj; exact hj; cases hj)) (fun u hu => H1C.out u (List.mem_of_mem_take hu)) (by unfold maxLen; omega) (by omega) (by simp) ?_; intro v5 w5 hown5 hgr5 hnil5 hat5; rw [Nat.zero_add, List.nil_append] at hown5; have HO5 := hide hown5; have B5 : Hid (Below w4.heap.size w4 w5) := ((Below.refl _ _).alloc (Nat.le_refl _) _).grown hgr5 (by simp) (fun k hk => by simp [Value.ownBlock] at hk; omega); have z45 : w4.heap.size ≤ w5.heap.size := B5.out.size; clear hown5 hgr5))
    go_cut [7] from 38 to 43 (fun ov wx => ∃ g7 cap7 : Nat, ov = .slice (some ⟨g7, 0, none⟩) gs.length cap7 ∧ Hid (wx.ownsRow w4.heap.size 41 1 (.slice (some ⟨g7, 0, none⟩) gs.length cap7) gs.length (xs.set x (.slice (some ⟨nb, 0, none⟩) (grAt gs x).length nc))) ∧ Hid (Below w4.heap.size w4 wx))
    case first =>
      by_cases hcap : gc = x + 1
      · have hA : gs.length = x + 1 := by omega
        have OA : Hid (w6.ownsRow w4.heap.size 41 1 (.slice (some ⟨g6, 0, none⟩) gs.length cap6) gs.length (xs.set x (.slice (some ⟨nb, 0, none⟩) (grAt gs x).length nc))) := by
          have hd : xs.drop (x + 1) = [] := List.drop_eq_nil_of_le (by omega)
          show World.ownsRow _ _ _ _ _ _ _
          rw [← set_take_drop xs x _ (by omega), hd, hA, List.append_nil]
          exact HO6.out
        have hA1 : gs.length - (x + 1) = 0 := by omega
        have hA2 : gc - (x + 1) = 0 := by omega
        have HA := hide hA
        have hc6 : x + 1 ≤ cap6 := owns_cap HO6.out
        clear hA hcap
        go_wp2_with fail
        go_meet
        exact ⟨g6, cap6, (by rw [HA.out]), OA, B6⟩
      · have hB : x + 1 < gc := by omega
        have hB1 : (x : Int) + 1 < (gc : Int) := by omega
        have hB2 : ¬ gc - (x + 1) = 0 := by omega
        go_wp2_with (first | (at_builtin; refine wpList_append_own_at _ rfl _ _ 23 rfl w4.heap.size 41 i1 _ 1 24 Tryd.underlying23 HI1.out HZ1.out HS1.out HB1.out rfl (by decide) (.slice (some ⟨g6, 0, none⟩) (x + 1) cap6) (x + 1) (xs.take x ++ [.slice (some ⟨nb, 0, none⟩) (grAt gs x).length nc]) rfl HO6.out ⟨gb, x + 1, none⟩ (gs.length - (x + 1)) (gc - (x + 1)) (xs.drop (x + 1)) rfl (by simp; omega) (fun j u hj => by rw [add_plain, (B6.out.cell (p := ⟨gb, x + 1 + j, none⟩) (by show gb < _; omega))]; exact C4.out _ u (by rw [List.getElem?_drop] at hj; exact hj)) (fun u hu => H1C.out u (List.mem_of_mem_drop hu)) (by unfold maxLen; omega) (by omega) (by omega) ?_; intro v7 w7 hown7 hgr7 hnil7 hat7))
        have B7 := hide (B6.out.grown hgr7 z46 (owns_base HO6.out))
        have hown7' : w7.ownsRow w4.heap.size 41 1 v7 gs.length (xs.set x (.slice (some ⟨nb, 0, none⟩) (grAt gs x).length nc)) := by
          rw [← set_take_drop xs x _ (by omega)]
          have hc : x + 1 + (gs.length - (x + 1)) = gs.length := by omega
          rw [hc] at hown7
          exact hown7
        obtain ⟨g7, cap7, rfl, _⟩ := hown7'.form gpos
        have O7 := hide hown7'
        clear hown7 hown7' hgr7 hnil7 hat7
        go_wp2_with fail
        go_meet
        exact ⟨g7, cap7, rfl, O7, B7⟩
    case rest =>
      obtain ⟨g7, cap7, rfl, HO7, B7⟩ := hcut
      clear B5 B6 HO5 HO6 C4 H1C HCL hat6 hlt6 hnil5 hat5 z45 z46
      have hcap7 : gs.length ≤ cap7 := owns_cap HO7.out
      have z47 : w4.heap.size ≤ wc.heap.size := B7.out.size
      go_wp2_with fail
      refine (pick_only g (p1 + 1 + 1) _ _ (by omega) (R4.out.keep B7.out)).mono ?_
      rintro e w8 ⟨y', rfl, _, l8, u8, r8, o8, s8⟩
      obtain ⟨y, rfl⟩ := Int.eq_ofNat_of_zero_le l8
      have y1 : y < (grAt gs x).length := by have := u8 (by omega); omega
      have HO8 := hide (owns_only HO7.out o8 (by omega))
      have HT8 := hide ((HT4.out.below B7.out).keep (KeepE.only o8 (by omega)) (KeepE.only o8 (by omega)))
      have S8 : Hid (Same w.heap.size w1.heap.size w3 w8) := ((Same.of_below HB4.out z13).trans (Same.of_below B7.out (by omega))).trans (o8.same hlt (by omega))
      have O8 := hide (((O3.out.trans (Only.of_below HB4.out)).trans (Only.of_below B7.out)).trans o8)
      have z8 : wc.heap.size ≤ w8.heap.size := o8.size
      have ey : y < ((grAt gs x).map (shiftTy 0 0)).length := by omega
      have y2 : (0 : Int) ≤ (y : Int) := by omega
      have y3 : (y : Int) < ((grAt gs x).length : Int) := by omega
      obtain ⟨fa, fc, hTO, hTurn⟩ := HT8.out.at ey
      have HTO := hide hTO
      have HTN := hide hTurn
      clear o8 u8 s8 hTO hTurn R4 HB4 B7 HT4 HO7
      have k28 : k2 = 0 ∨ k2 = 1 ∨ k2 = 2 ∨ k2 = 3 ∨ k2 = 4 ∨ k2 = 5 ∨ k2 = 6 ∨ k2 = 7 := by omega
      have q0 := HTO.out.c0
      have q1 := HTO.out.c1
      have q2 := HTO.out.c2
      have q3 := HTO.out.c3
      have z0 := HTO.out.fz (y * 4)
      have z1 := HTO.out.fz (y * 4 + 1)
      have z2 := HTO.out.fz (y * 4 + 2)
      have z3 := HTO.out.fz (y * 4 + 3)
      have hnb : w3.heap.size ≤ nb := by
        obtain ⟨xsT, hoT, _⟩ := HT8.out
        exact owns_base hoT nb rfl
      have nblt : nb < w8.heap.size := cell_lt q0
      have e5 : (((grAt gs x).map (shiftTy 0 0))).length = (grAt gs x).length := by simp
      have HL5 : Hid (∀ (t' : Ty), t'.fields.length ≤ 1000 → ∀ j, j < (((grAt gs x).map (shiftTy 0 0)).set y t').length → (tyAt (((grAt gs x).map (shiftTy 0 0)).set y t') j).fields.length ≤ 1048576) := by
        intro t' ht' j hj
        rw [tyAt_set _ _ _ _ ey]
        split
        · omega
        · have hj' : j < (grAt gs x).length := by simpa using hj
          have e6 : tyAt ((grAt gs x).map (shiftTy 0 0)) j = shiftTy 0 0 (tyAt (grAt gs x) j) := by simp [tyAt, hj']
          rw [e6]
          have := HF4.out j hj'
          simp [shiftTy]; omega
      have HFy : Hid ((tyAt ((grAt gs x).map (shiftTy 0 0)) y).fields.length ≤ 1000) := by
        have e6 : tyAt ((grAt gs x).map (shiftTy 0 0)) y = shiftTy 0 0 (tyAt (grAt gs x) y) := by simp [tyAt, y1]
        show _ ≤ _
        rw [e6]
        have := HF4.out y y1
        simp [shiftTy]; omega
      have HF5 : Hid ((tyAt ((grAt gs x).map (shiftTy 0 0)) y).fields.length ≤ 4) := by
        have e6 : tyAt ((grAt gs x).map (shiftTy 0 0)) y = shiftTy 0 0 (tyAt (grAt gs x) y) := by simp [tyAt, y1]
        show _ ≤ _
        rw [e6]
        have := HF4.out y y1
        simp [shiftTy]; omega
      have HLt : Hid (∀ j, j < ((grAt gs x).map (shiftTy 0 0)).length → (tyAt ((grAt gs x).map (shiftTy 0 0)) j).fields.length ≤ 1048576) := by
        intro j hj
        have hj' : j < (grAt gs x).length := by simpa using hj
        have e6 : tyAt ((grAt gs x).map (shiftTy 0 0)) j = shiftTy 0 0 (tyAt (grAt gs x) j) := by simp [tyAt, hj']
        rw [e6]
        have := HF4.out j hj'
        simp [shiftTy]; omega
      have HFz : Hid ((tyAt ((grAt gs x).map (shiftTy 0 0)) y).fields.length ≤ 1048576) := by have h9 : (tyAt ((grAt gs x).map (shiftTy 0 0)) y).fields.length ≤ 1000 := HFy.out; show _ ≤ _; omega
      generalize hTY : tyAt ((grAt gs x).map (shiftTy 0 0)) y = TY at *
      have HTY := hide hTY
      clear hTY
      rcases k28 with rfl | rfl | rfl | rfl | rfl | rfl | rfl | rfl
      · go_wp2_with fail
        refine (num_list [0, 3, 2] g (p1 + 1 + 1 + 1) _ _ _ (by simp) (by omega) r8 (by simp) (by simp)).mono ?_
        rintro e w9 ⟨k9, hk9, rfl, r9, o9, s9⟩
        generalize nAt [0, 3, 2] k9 = v9
        have HTO9 := hide (HTO.out.only o9 (by omega) hnb)
        have z9 : w8.heap.size ≤ w9.heap.size := o9.size
        have N1 : Hid (TypesIn (w9.setCell ⟨nb, y * 4 + 0, none⟩ (.int .i64 v9)) w3.heap.size (w9.setCell ⟨nb, y * 4 + 0, none⟩ (.int .i64 v9)).heap.size (some ⟨nb, 0, none⟩) (((grAt gs x).map (shiftTy 0 0)).set y ⟨v9, TY.up, TY.last, TY.fields⟩)) :=
          HTN.out _ _ (fun k hS hk _ hl => (Below.heap_setCell _ _ _ _ hk).trans (o9.block k (by omega) hl)) (fun o' h' => (cell_off _ (by omega)).trans (o9.cell (by omega) nblt)) (by simp; omega) (HTO9.out.set 0 (.int .i64 v9) ⟨v9, TY.up, TY.last, TY.fields⟩ rfl (.inl ⟨rfl, rfl, rfl, rfl⟩))
        have N2 : Hid (World.ownsRow (w9.setCell ⟨nb, y * 4 + 0, none⟩ (.int .i64 v9)) w4.heap.size 41 1 (.slice (some ⟨g7, 0, none⟩) gs.length cap7) gs.length (xs.set x (.slice (some ⟨nb, 0, none⟩) (grAt gs x).length nc))) := by
          obtain ⟨cur, hb⟩ := HTO9.out.blk
          exact owns_keepE (owns_only HO8.out o9 (by omega)) (KeepE.set _ hb (by decide))
        have N3 : Hid (BentPost g p w (.returned (.slice (some ⟨g7, 0, none⟩) gs.length cap7)) (w9.setCell ⟨nb, y * 4 + 0, none⟩ (.int .i64 v9))) :=
          bent_fin x1 hxl HGX.out ((S8.out.trans (o9.same hlt (by omega))).set (Or.inr (by omega)) _ _) (by simp; omega) (by omega) N2.out (by simp) (by omega) N1.out HF.out (by omega) (HL5.out _ HFy.out) hcap7 (by omega) (r9.keep' ((Below.refl _ _).setCell (by show g + 1 ≤ nb; omega) _)) ((O8.out.trans o9).setNew (by omega) _ _)
        have q0 := HTO9.out.c0
        have q1 := HTO9.out.c1
        have z0 := HTO9.out.fz (y * 4)
        have z1 := HTO9.out.fz (y * 4 + 1)
        clear o9 s9 hk9
        go_wp2_with fail
        go_ret
        exact N3.out
      · go_wp2_with fail
        refine (num_list [-2, 7, (y : Int), 0] g (p1 + 1 + 1 + 1) _ _ _ (by simp) (by omega) r8 (by simp) (by simp)).mono ?_
        rintro e w9 ⟨k9, hk9, rfl, r9, o9, s9⟩
        generalize nAt [-2, 7, (y : Int), 0] k9 = v9
        have HTO9 := hide (HTO.out.only o9 (by omega) hnb)
        have z9 : w8.heap.size ≤ w9.heap.size := o9.size
        have N1 : Hid (TypesIn (w9.setCell ⟨nb, y * 4 + 1, none⟩ (.int .i64 v9)) w3.heap.size (w9.setCell ⟨nb, y * 4 + 1, none⟩ (.int .i64 v9)).heap.size (some ⟨nb, 0, none⟩) (((grAt gs x).map (shiftTy 0 0)).set y ⟨TY.kind, v9, TY.last, TY.fields⟩)) :=
          HTN.out _ _ (fun k hS hk _ hl => (Below.heap_setCell _ _ _ _ hk).trans (o9.block k (by omega) hl)) (fun o' h' => (cell_off _ (by omega)).trans (o9.cell (by omega) nblt)) (by simp; omega) (HTO9.out.set 1 (.int .i64 v9) ⟨TY.kind, v9, TY.last, TY.fields⟩ rfl (.inr (.inl ⟨rfl, rfl, rfl, rfl⟩)))
        have N2 : Hid (World.ownsRow (w9.setCell ⟨nb, y * 4 + 1, none⟩ (.int .i64 v9)) w4.heap.size 41 1 (.slice (some ⟨g7, 0, none⟩) gs.length cap7) gs.length (xs.set x (.slice (some ⟨nb, 0, none⟩) (grAt gs x).length nc))) := by
          obtain ⟨cur, hb⟩ := HTO9.out.blk
          exact owns_keepE (owns_only HO8.out o9 (by omega)) (KeepE.set _ hb (by decide))
        have N3 : Hid (BentPost g p w (.returned (.slice (some ⟨g7, 0, none⟩) gs.length cap7)) (w9.setCell ⟨nb, y * 4 + 1, none⟩ (.int .i64 v9))) :=
          bent_fin x1 hxl HGX.out ((S8.out.trans (o9.same hlt (by omega))).set (Or.inr (by omega)) _ _) (by simp; omega) (by omega) N2.out (by simp) (by omega) N1.out HF.out (by omega) (HL5.out _ HFy.out) hcap7 (by omega) (r9.keep' ((Below.refl _ _).setCell (by show g + 1 ≤ nb; omega) _)) ((O8.out.trans o9).setNew (by omega) _ _)
        have q0 := HTO9.out.c0
        have q1 := HTO9.out.c1
        have z0 := HTO9.out.fz (y * 4)
        have z1 := HTO9.out.fz (y * 4 + 1)
        clear o9 s9 hk9
        go_wp2_with fail
        go_ret
        exact N3.out
      · have N1 : Hid (TypesIn (w8.setCell ⟨nb, y * 4 + 2, none⟩ (.bool true)) w3.heap.size (w8.setCell ⟨nb, y * 4 + 2, none⟩ (.bool true)).heap.size (some ⟨nb, 0, none⟩) (((grAt gs x).map (shiftTy 0 0)).set y ⟨TY.kind, TY.up, true, TY.fields⟩)) :=
          HTN.out _ _ (fun k _ hk _ _ => Below.heap_setCell _ _ _ _ hk) (fun o' h' => cell_off _ (by omega)) (by simp) (HTO.out.set 2 (.bool true) ⟨TY.kind, TY.up, true, TY.fields⟩ rfl (.inr (.inr ⟨rfl, rfl, rfl, rfl⟩)))
        have N2 : Hid (World.ownsRow (w8.setCell ⟨nb, y * 4 + 2, none⟩ (.bool true)) w4.heap.size 41 1 (.slice (some ⟨g7, 0, none⟩) gs.length cap7) gs.length (xs.set x (.slice (some ⟨nb, 0, none⟩) (grAt gs x).length nc))) := by
          obtain ⟨cur, hb⟩ := HTO.out.blk
          exact owns_keepE HO8.out (KeepE.set _ hb (by decide))
        have N3 : Hid (BentPost g p w (.returned (.slice (some ⟨g7, 0, none⟩) gs.length cap7)) (w8.setCell ⟨nb, y * 4 + 2, none⟩ (.bool true))) :=
          bent_fin x1 hxl HGX.out (S8.out.set (Or.inr (by omega)) _ _) (by simp; omega) (by omega) N2.out (by simp) (by omega) N1.out HF.out (by omega) (HL5.out _ HFy.out) hcap7 (by omega) (r8.keep' ((Below.refl _ _).setCell (by show g + 1 ≤ nb; omega) _)) (O8.out.setNew (by omega) _ _)
        go_wp2_with fail
        go_ret
        exact N3.out
      · have FIN : Hid (∀ (v9 : Int) (w9 w10 : World) (gB cap9 : Nat), Only g w8 w9 → Rd w9 g (p1 + 1 + 1 + 1 + 1) → (w9.alloc (.cells #[.int .i64 1, .int .i64 v9, .bool false] 35)).grownBy w10 (Value.slice fa TY.fields.length fc).ownBlock → w10.ownsRow w3.heap.size 35 3 (.slice (some ⟨gB, 0, none⟩) (TY.fields.length + 1) cap9) (TY.fields.length + 1) (fcells TY.fields ++ [.int .i64 1, .int .i64 v9, .bool false]) →
            BentPost g p w (.returned (.slice (some ⟨g7, 0, none⟩) gs.length cap7)) (w10.setCell ⟨nb, y * 4 + 3, none⟩ (.slice (some ⟨gB, 0, none⟩) (TY.fields.length + 1) cap9))) := by
          intro v9 w9 w10 gB cap9 o9 r9 hgr hown
          have H9 := HTO.out.only o9 (by omega) hnb
          have z9 : w8.heap.size ≤ w9.heap.size := o9.size
          obtain ⟨cur, hblk⟩ := H9.blk
          have hk0 := Below.heap_alloc w9 (.cells #[.int .i64 1, .int .i64 v9, .bool false] 35) nb (by omega)
          have hk1 : w10.heap[nb]? = w9.heap[nb]? := ((KeepE.grown (S := w3.heap.size) (e := 28) (H9.fr.alloc _) hgr (by decide)) nb cur hnb (hk0.trans hblk)).trans hk0
          have hblk10 := hk1.trans hblk
          have hc : ∀ o, w10.cell? ⟨nb, o, none⟩ = w9.cell? ⟨nb, o, none⟩ := fun o => World.cell?_of_block (w := w9) hk1
          have zg : w9.heap.size + 1 ≤ w10.heap.size := by have := hgr.size; simpa using this
          have hfr := FieldRow.of_snoc (f := ⟨1, v9, false⟩) hown
          have hfr' : FieldRow (w10.setCell ⟨nb, y * 4 + 3, none⟩ (.slice (some ⟨gB, 0, none⟩) (TY.fields.length + 1) cap9)) w3.heap.size (some ⟨gB, 0, none⟩) cap9 (TY.fields ++ [⟨1, v9, false⟩]) := owns_keepE hfr (KeepE.set _ hblk10 (by decide))
          have N1 := HTN.out (w10.setCell ⟨nb, y * 4 + 3, none⟩ (.slice (some ⟨gB, 0, none⟩) (TY.fields.length + 1) cap9)) ⟨TY.kind, TY.up, TY.last, TY.fields ++ [⟨1, v9, false⟩]⟩
            (fun k hS hk hk2 hl => (Below.heap_setCell _ _ _ _ hk).trans ((hgr.block k (by simp; omega) hk2).trans ((Below.heap_alloc _ _ _ (by omega)).trans (o9.block k (by omega) hl))))
            (fun o' h' => (cell_off _ (by omega)).trans ((hc o').trans (o9.cell (by omega) nblt))) (by simp; omega)
            ⟨(cell_off _ (by omega)).trans ((hc _).trans H9.c0), (cell_off _ (by omega)).trans ((hc _).trans H9.c1), (cell_off _ (by omega)).trans ((hc _).trans H9.c2), some ⟨gB, 0, none⟩, cap9, (World.cell?_setCell_same' w10 _ _ (by rw [hc, H9.c3]; rfl)).trans (by simp), hfr'.fields⟩
          have N2 := owns_keepE (owns_keepE ((owns_only HO8.out o9 (by omega)).alloc (.cells #[.int .i64 1, .int .i64 v9, .bool false] 35)) (KeepE.grown (S := w4.heap.size) (e := 41) (H9.fr.alloc _) hgr (by decide))) (KeepE.set (o := y * 4 + 3) (.slice (some ⟨gB, 0, none⟩) (TY.fields.length + 1) cap9) hblk10 (by decide))
          have hbase : ∀ q, (Value.slice fa TY.fields.length fc).ownBlock = some q → w3.heap.size ≤ q := fun q hq => owns_base H9.fr q hq
          have R9 := r9.keep' ((((Below.refl _ _).alloc (show g + 1 ≤ w9.heap.size by omega) (.cells #[.int .i64 1, .int .i64 v9, .bool false] 35)).grown hgr (by simp; omega) (fun q hq => by have := hbase q hq; omega)).setCell (show g + 1 ≤ nb by omega) (.slice (some ⟨gB, 0, none⟩) (TY.fields.length + 1) cap9) (p := ⟨nb, y * 4 + 3, none⟩))
          have O9 := (((O8.out.trans o9).alloc (.cells #[.int .i64 1, .int .i64 v9, .bool false] 35)).grown hgr (fun q hq => by have := hbase q hq; omega)).setNew (show w.heap.size ≤ nb by omega) (y * 4 + 3) (.slice (some ⟨gB, 0, none⟩) (TY.fields.length + 1) cap9)
          have S9 : Same w.heap.size w1.heap.size w3 (w10.setCell ⟨nb, y * 4 + 3, none⟩ (.slice (some ⟨gB, 0, none⟩) (TY.fields.length + 1) cap9)) := Same.set (Same.trans (S8.out.trans (o9.same hlt (by omega))) (fun q h1 h2 => (hgr.block q (by simp; omega) (by intro e; have := hbase q e.symm; omega)).trans (Below.heap_alloc _ _ _ (by omega)))) (Or.inr (by omega)) (y * 4 + 3) _
          exact bent_fin x1 hxl HGX.out S9 (by simp; omega) (by omega) N2 (by simp) (by omega) N1 HF.out (by omega) (HL5.out _ (by have h9 : TY.fields.length ≤ 4 := HF5.out; simp; omega)) hcap7 (by omega) R9 O9
        have h4 : TY.fields.length ≤ 4 := HF5.out
        have hFR := hide HTO.out.fr
        go_wp2_with fail
        go_region_law ((first
          | (refine step_append_lies _ (by rfl) _ _ 26 (by rfl) w3.heap.size 35 i0 _ 3 24 Tryd.underlying26 HI0.out HZ0.out HS0.out HB0.out (by rfl) (by decide) (.slice fa TY.fields.length fc) TY.fields.length (fcells TY.fields) (by rfl) (F9.out.alloc _) ⟨w9.heap.size, 0, none⟩ 1 1 [.int .i64 1, .int .i64 v9, .bool false] (by rfl) rfl (World.news_of_block (Deep.blk_alloc_new _ _)) (by intro u hu; simp at hu; rcases hu with rfl | rfl | rfl <;> rfl) (by decide) (by unfold maxLen; omega) (by omega) (by simp; omega) _ rfl ?_; intro gB cap9 w10 hown10 hgr10 hat10 hlt10; have d3 := (KK.out w10 hgr10).1; have d3f := (KK.out w10 hgr10).2)
          | (go_simp; go_at_call 44; refine (pick_only g (p1 + 1 + 1 + 1) _ _ (by omega) (by exact r8)).mono ?_; rintro e w9 ⟨v9, rfl, _, _, _, r9, o9', s9⟩; have o9 := hide (Only.trans (b := w8.drew) ((Only.refl g w8).drewN 1) o9'); have F9 := hide (owns_only hFR.out o9.out (by omega)); have H9 := hide (HTO.out.only o9.out (by omega) hnb); have q3' := H9.out.c3; have z3' := H9.out.fz (y * 4 + 3); have nblt9 : nb < w9.heap.size := Nat.lt_of_lt_of_le nblt o9.out.size; have KK := hide (bent_kept H9.out hnb (v9 := v9)); clear o9' s9)))
        all_goals
          have N3 := hide (FIN.out v9 w9 w10 gB cap9 o9.out r9 hgr10 hown10)
          clear FIN KK hown10 hgr10 hat10 hlt10
          go_wp2_with fail
          go_ret
          exact N3.out
      · by_cases hf0 : TY.fields.length = 0
        · have hz0 : (TY.fields.length : Int) = 0 := by omega
          have N3 : Hid (BentPost g p w (.returned (.slice (some ⟨g7, 0, none⟩) gs.length cap7)) w8) :=
            bent_fin (ts := (grAt gs x).map (shiftTy 0 0)) x1 hxl HGX.out S8.out (by omega) (by omega) HO8.out (by simp) (by omega) HT8.out.trow.types HF.out (by omega) HLt.out hcap7 (by omega) r8 O8.out
          go_wp2_with fail
          go_ret
          exact N3.out
        · have hfp : 0 < TY.fields.length := by omega
          have hfp' : (0 : Int) < (TY.fields.length : Int) := by omega
          rcases HTO.out.fr.2 with ⟨h0, _⟩ | ⟨fb, cap', cur, h0, hS', hg', _⟩
          · exfalso; simp at h0; omega
          simp at h0
          obtain ⟨rfl, rfl⟩ := h0
          have hne : fb ≠ nb := by
            intro h
            obtain ⟨c2', hb2⟩ := HTO.out.blk
            rw [← h, hg'] at hb2
            simp at hb2
          have hflt : fb < w8.heap.size := (Array.getElem?_eq_some_iff.1 hg').1
          have FIN : Hid (∀ (v9 : Int) (w9 : World), Only g w8 w9 → Rd w9 g (p1 + 1 + 1 + 1 + 1) → (w9.cell? ⟨nb, y * 4 + 3, none⟩ = some (.slice (some ⟨fb, 0, none⟩) TY.fields.length fc) ∧ w9.cell? ⟨fb, 1, none⟩ = some (.int .i64 (fdAt TY.fields 0).of) ∧ w9.frozen? ⟨fb, 1, none⟩ = false) ∧ BentPost g p w (.returned (.slice (some ⟨g7, 0, none⟩) gs.length cap7)) (w9.setCell ⟨fb, 1, none⟩ (.int .i64 v9))) := by
            intro v9 w9 o9 r9
            have H9 := HTO.out.only o9 (by omega) hnb
            have z9 : w8.heap.size ≤ w9.heap.size := o9.size
            obtain ⟨⟨m0, m1, m2⟩, F1, F2⟩ := first_fields H9.fr hfp
            have hbl := (o9.block fb (by omega) hflt).trans hg'
            have N1 := HTN.out (w9.setCell ⟨fb, 1, none⟩ (.int .i64 v9)) ⟨TY.kind, TY.up, TY.last, TY.fields.set 0 ⟨(fdAt TY.fields 0).kind, v9, (fdAt TY.fields 0).mt⟩⟩
              (fun k hS _ hk hl => (Below.heap_setCell _ _ _ _ (fun e => hk (by show some k = some fb; rw [e]))).trans (o9.block k (by omega) hl)) (fun o' _ => (cell_ne _ hne.symm).trans (o9.cell (by omega) nblt)) (by simp; omega)
              ⟨(cell_ne _ hne.symm).trans H9.c0, (cell_ne _ hne.symm).trans H9.c1, (cell_ne _ hne.symm).trans H9.c2, some ⟨fb, 0, none⟩, fc, (cell_ne _ hne.symm).trans (by rw [List.length_set]; exact H9.c3), F1 _⟩
            have N2 := owns_keepE (owns_only HO8.out o9 (by omega)) (KeepE.set (o := 1) (.int .i64 v9) hbl (by decide))
            have R9 : Rd (w9.setCell ⟨fb, 1, none⟩ (.int .i64 v9)) g (p1 + 1 + 1 + 1 + 1) := r9.keep' ((Below.refl _ _).setCell (show g + 1 ≤ fb by omega) _)
            exact ⟨⟨H9.c3, m1, by simp [World.frozen?, hbl]⟩, bent_fin (w' := w9.setCell ⟨fb, 1, none⟩ (.int .i64 v9)) x1 hxl HGX.out ((S8.out.trans (o9.same hlt (by omega))).set (Or.inr (show w1.heap.size ≤ fb by omega)) _ _) (by simp; omega) (show w.heap.size ≤ w4.heap.size by omega) N2 (by simp) (show w.heap.size ≤ w3.heap.size by omega) N1 HF.out (by omega) (HL5.out _ (by simpa using HFy.out)) hcap7 (show p1 + 1 + 1 + 1 + 1 ≤ p + 600 by omega) R9 ((O8.out.trans o9).setNew (show w.heap.size ≤ fb by omega) _ _)⟩
          obtain ⟨⟨m0, m1, m2⟩, _, _⟩ := first_fields HTO.out.fr hfp
          have hfz : w8.frozen? ⟨fb, 1, none⟩ = false := by simp [World.frozen?, hg']
          generalize fdAt TY.fields 0 = F0 at *
          clear hg'
          go_wp2_with fail
          go_region_law ((go_simp; go_at_call 66; refine (num_listD [-3, 8, 1, -1] g (p1 + 1 + 1 + 1) _ w8 _ (by simp) (by omega) r8 (by simp) (by simp)).mono ?_; rintro e w9 ⟨k9, hk9, rfl, r9, o9, s9⟩; obtain ⟨⟨t3, t1, tf⟩, N3'⟩ := FIN.out (nAt [-3, 8, 1, -1] k9) w9 o9 r9; have N3 := hide N3'; clear N3'))
          all_goals
            generalize nAt [-3, 8, 1, -1] k9 = v9 at *
            go_wp2_with fail
            go_ret
            exact N3.out
      · by_cases hf0 : TY.fields.length = 0
        · have hz0 : (TY.fields.length : Int) = 0 := by omega
          have N3 : Hid (BentPost g p w (.returned (.slice (some ⟨g7, 0, none⟩) gs.length cap7)) w8) :=
            bent_fin (ts := (grAt gs x).map (shiftTy 0 0)) x1 hxl HGX.out S8.out (by omega) (by omega) HO8.out (by simp) (by omega) HT8.out.trow.types HF.out (by omega) HLt.out hcap7 (by omega) r8 O8.out
          go_wp2_with fail
          go_ret
          exact N3.out
        · have hfp : 0 < TY.fields.length := by omega
          have hfp' : (0 : Int) < (TY.fields.length : Int) := by omega
          rcases HTO.out.fr.2 with ⟨h0, _⟩ | ⟨fb, cap', cur, h0, hS', hg', _⟩
          · exfalso; simp at h0; omega
          simp at h0
          obtain ⟨rfl, rfl⟩ := h0
          have hne : fb ≠ nb := by
            intro h
            obtain ⟨c2', hb2⟩ := HTO.out.blk
            rw [← h, hg'] at hb2
            simp at hb2
          obtain ⟨⟨m0, m1, m2⟩, F1, F2⟩ := first_fields HTO.out.fr hfp
          have hfz : ∀ o, w8.frozen? ⟨fb, o, none⟩ = false := fun o => by simp [World.frozen?, hg']
          have y2' := hfz 2
          have hflt : fb < w8.heap.size := (Array.getElem?_eq_some_iff.1 hg').1
          have N1 := hide (HTN.out (w8.setCell ⟨fb, 2, none⟩ (.bool (!(fdAt TY.fields 0).mt))) ⟨TY.kind, TY.up, TY.last, TY.fields.set 0 ⟨(fdAt TY.fields 0).kind, (fdAt TY.fields 0).of, !(fdAt TY.fields 0).mt⟩⟩
            (fun k _ _ hk _ => Below.heap_setCell _ _ _ _ (fun e => hk (by show some k = some fb; rw [e]))) (fun o' _ => cell_ne _ hne.symm) (by simp)
            ⟨(cell_ne _ hne.symm).trans q0, (cell_ne _ hne.symm).trans q1, (cell_ne _ hne.symm).trans q2, some ⟨fb, 0, none⟩, fc, (cell_ne _ hne.symm).trans (by rw [List.length_set]; exact q3), F2 _⟩)
          have N2 := hide (owns_keepE HO8.out (KeepE.set (o := 2) (.bool (!(fdAt TY.fields 0).mt)) hg' (by decide)))
          have R9 : Rd (w8.setCell ⟨fb, 2, none⟩ (.bool (!(fdAt TY.fields 0).mt))) g (p1 + 1 + 1 + 1) := r8.keep' ((Below.refl _ _).setCell (show g + 1 ≤ fb by omega) _)
          have N3 : Hid (BentPost g p w (.returned (.slice (some ⟨g7, 0, none⟩) gs.length cap7)) (w8.setCell ⟨fb, 2, none⟩ (.bool (!(fdAt TY.fields 0).mt))).drew) :=
            bent_fin (w' := (w8.setCell ⟨fb, 2, none⟩ (.bool (!(fdAt TY.fields 0).mt))).drew) x1 hxl HGX.out (S8.out.set (Or.inr (show w1.heap.size ≤ fb by omega)) _ _) (by simp; omega) (show w.heap.size ≤ w4.heap.size by omega) N2.out (by simp) (show w.heap.size ≤ w3.heap.size by omega) N1.out HF.out (by omega) (HL5.out _ (by simpa using HFy.out)) hcap7 (show p1 + 1 + 1 + 1 ≤ p + 600 by omega) R9 ((O8.out.setNew (show w.heap.size ≤ fb by omega) _ _).drewN 1)
          generalize fdAt TY.fields 0 = F0 at *
          clear F1 F2 hfz hg' N1 N2
          go_wp2_with fail
          go_region_law (fail)
          all_goals
            go_wp2_with fail
            go_ret
            exact N3.out
      · have HS0 : Hid (Few ((gs.set x ((grAt gs x).map (shiftTy 0 0))) ++ [[]])) := by
          have hs0 : Few (gs.set x ((grAt gs x).map (shiftTy 0 0))) := few_set HF.out x1 (by omega) (fun j hj => by
            have h9 := HL5.out TY HFy.out j (by simpa using hj)
            rw [tyAt_set _ _ _ _ ey] at h9
            split at h9
            · rename_i e; rw [e, HTY.out]; exact HFz.out
            · exact h9)
          refine ⟨by simp; omega, fun i hi => ?_⟩
          by_cases e : i < (gs.set x ((grAt gs x).map (shiftTy 0 0))).length
          · rw [grAt_append_left _ _ _ e]; exact hs0.2 i e
          · have : i = (gs.set x ((grAt gs x).map (shiftTy 0 0))).length := by simp at hi e ⊢; omega
            rw [this, grAt_append_one]; exact ⟨by simp, fun j hj => absurd hj (by simp)⟩
        go_wp2_with (first
          | (at_builtin; refine wpList_append_lies _ rfl _ _ 23 rfl w4.heap.size 41 i1 _ 1 24 Tryd.underlying23 HI1.out HZ1.out HS1.out HB1.out rfl (by decide) (.slice (some ⟨g7, 0, none⟩) gs.length cap7) gs.length (xs.set x (.slice (some ⟨nb, 0, none⟩) (grAt gs x).length nc)) rfl ((HO8.out.alloc _).alloc _) ⟨w8.heap.size + 1, 0, none⟩ 1 1 [.slice (some ⟨w8.heap.size, 0, none⟩) 0 0] rfl rfl (World.news_of_block (by have := Deep.blk_alloc_new (w8.alloc (.cells #[] 28)) (.cells #[.slice (some ⟨w8.heap.size, 0, none⟩) 0 0] 41); simpa using this)) (by intro u hu; simp at hu; subst hu; rfl) (by decide) (by unfold maxLen; omega) (by omega) (by simp; omega) _ rfl ?_; intro g9 cap9 w9 hown9 hgr9 hat9 hlt9))
        have BW : Below w4.heap.size w8 w9 := (((Below.refl _ _).alloc (by omega) _).alloc (by simp; omega) _).grown hgr9 (by simp; omega) (owns_base HO8.out)
        have z9 : w8.heap.size ≤ w9.heap.size := BW.size
        have HTW := hide (HT8.out.keep ((KeepE.below (((Below.refl _ _).alloc (Nat.le_refl _) _).alloc (by simp) _)).trans (KeepE.grown ((HO8.out.alloc _).alloc _) hgr9 (by decide))) ((KeepE.below (((Below.refl _ _).alloc (Nat.le_refl _) _).alloc (by simp) _)).trans (KeepE.grown ((HO8.out.alloc _).alloc _) hgr9 (by decide))))
        have SW := hide (S8.out.trans (Same.of_below BW (by omega)))
        have HH : Hid (∀ i, i < gs.length → ∃ ta tc, (xs.set x (.slice (some ⟨nb, 0, none⟩) (grAt gs x).length nc))[i]? = some (.slice ta (grAt (gs.set x ((grAt gs x).map (shiftTy 0 0))) i).length tc) ∧ TypesIn w9 w.heap.size w9.heap.size ta (grAt (gs.set x ((grAt gs x).map (shiftTy 0 0))) i)) := by
          intro i hi
          rw [grAt_set _ _ _ _ x1, List.getElem?_set]
          by_cases e : i = x
          · subst e
            rw [if_pos rfl, if_pos rfl, if_pos (by omega), List.length_map]
            exact ⟨_, _, rfl, HTW.out.trow.types.wide (by omega) (Nat.le_refl _)⟩
          · rw [if_neg e, if_neg (fun h => e h.symm)]
            obtain ⟨ta', tc', h1, h2⟩ := HGX.out i hi
            exact ⟨ta', tc', h1, h2.same SW.out (Nat.le_refl _) (by omega)⟩
        have O9 : Hid (Only g w w9) := ((O8.out.alloc _).alloc _).grown hgr9 (fun q hq => by have := owns_base HO8.out q hq; omega)
        have R9 : Hid (Rd w9 g (p1 + 1 + 1 + 1)) := r8.keep' (BW.mono (by omega))
        have hc9 : gs.length + 1 ≤ cap9 := owns_cap hown9
        have N3 : Hid (BentPost g p w (.returned (.slice (some ⟨g9, 0, none⟩) (gs.length + 1) cap9)) w9) := by
          refine ⟨(gs.set x ((grAt gs x).map (shiftTy 0 0))) ++ [[]], g9, cap9, by simp, by simpa using hc9, row_groups (n := gs.length + 1) (B := w4.heap.size) (by simp) (by omega) hown9 (fun i hi => ?_), HS0.out, ⟨_, by omega, R9.out⟩, O9.out⟩
          by_cases e : i < gs.length
          · rw [grAt_append_left _ _ _ (by simpa using e), List.getElem?_append_left (by simp; omega)]
            exact HH.out i e
          · have e6 : i = (gs.set x ((grAt gs x).map (shiftTy 0 0))).length := by simp; omega
            have e7 : i = (xs.set x (.slice (some ⟨nb, 0, none⟩) (grAt gs x).length nc)).length := by simp; omega
            refine ⟨some ⟨w8.heap.size, 0, none⟩, 0, ?_, ?_⟩
            · rw [e6, grAt_append_one, ← e6, e7]; simp
            · rw [e6, grAt_append_one]; exact .inl rfl
        clear hown9 hgr9 hat9 hlt9 BW
        go_wp2_with fail
        go_ret
        exact N3.out
      · have HS0 : Hid (Few ((gs.set x ((grAt gs x).map (shiftTy 0 0))) ++ (gs.set x ((grAt gs x).map (shiftTy 0 0))))) := by
          have hs0 : Few (gs.set x ((grAt gs x).map (shiftTy 0 0))) := few_set HF.out x1 (by omega) (fun j hj => by
            have h9 := HL5.out TY HFy.out j (by simpa using hj)
            rw [tyAt_set _ _ _ _ ey] at h9
            split at h9
            · rename_i e; rw [e, HTY.out]; exact HFz.out
            · exact h9)
          refine ⟨by simp; omega, fun i hi => ?_⟩
          by_cases e : i < (gs.set x ((grAt gs x).map (shiftTy 0 0))).length
          · rw [grAt_append_left _ _ _ e]; exact hs0.2 i e
          · have e6 : grAt ((gs.set x ((grAt gs x).map (shiftTy 0 0))) ++ (gs.set x ((grAt gs x).map (shiftTy 0 0)))) i = grAt (gs.set x ((grAt gs x).map (shiftTy 0 0))) (i - (gs.set x ((grAt gs x).map (shiftTy 0 0))).length) := grAt_append_right _ _ _ (Nat.le_of_not_lt e)
            rw [e6]
            exact hs0.2 _ (by have eG : (gs.set x ((grAt gs x).map (shiftTy 0 0))).length = gs.length := List.length_set ..; rw [List.length_append, eG] at hi; rw [eG] at e ⊢; omega)
        have H1Y : Hid (∀ u ∈ (xs.set x (.slice (some ⟨nb, 0, none⟩) (grAt gs x).length nc)), u.oneCell' = true) := by
          intro u hu
          rcases List.mem_or_eq_of_mem_set hu with h | h
          · obtain ⟨i, hi, rfl⟩ := List.mem_iff_getElem.1 h
            obtain ⟨ta', tc', h1, _⟩ := HGX.out i (by omega)
            rw [List.getElem?_eq_getElem hi] at h1
            injection h1 with h1
            rw [h1]; rfl
          · rw [h]; rfl
        have hyl : (xs.set x (.slice (some ⟨nb, 0, none⟩) (grAt gs x).length nc)).length = gs.length := by simp; omega
        go_wp2_with (first
          | (at_builtin; refine wpList_append_lies _ rfl _ _ 23 rfl w8.heap.size 41 i1 _ 1 24 Tryd.underlying23 HI1.out HZ1.out HS1.out HB1.out rfl (by decide) (.slice (some ⟨g9, 0, none⟩) gs.length cap9) gs.length (xs.set x (.slice (some ⟨nb, 0, none⟩) (grAt gs x).length nc)) rfl HO9.out ⟨g7, 0, none⟩ gs.length cap7 (xs.set x (.slice (some ⟨nb, 0, none⟩) (grAt gs x).length nc)) rfl (by omega) (row_news (owns_below HO8.out B9.out)) H1Y.out gpos (by unfold maxLen; omega) (by omega) z89 _ rfl ?_; intro g10 cap10 w10 hown10 hgr10 hat10 hlt10)
          | (at_builtin; refine wpList_append_lies _ rfl _ _ 23 rfl w8.heap.size 41 i1 _ 1 24 Tryd.underlying23 HI1.out HZ1.out HS1.out HB1.out rfl (by decide) (.slice (some ⟨w8.heap.size, 0, none⟩) 0 0) 0 [] rfl (empty_row _ _ _ _ 1 (Deep.blk_alloc_new _ _) (Nat.le_refl _)) ⟨g7, 0, none⟩ gs.length cap7 (xs.set x (.slice (some ⟨nb, 0, none⟩) (grAt gs x).length nc)) rfl (by omega) (row_news (HO8.out.alloc _)) H1Y.out gpos (by unfold maxLen; omega) (by omega) (by simp) _ rfl ?_; intro g9 cap9 w9 hown9 hgr9 hat9 hlt9; rw [Nat.zero_add, List.nil_append] at hown9; have HO9 := hide hown9; have B9 : Hid (Below w8.heap.size w8 w9) := ((Below.refl _ _).alloc (Nat.le_refl _) _).grown hgr9 (by simp) (fun k hk => by simp [Value.ownBlock] at hk; omega); have z89 : w8.heap.size ≤ w9.heap.size := B9.out.size; clear hown9 hgr9))
        have BW : Below w8.heap.size w8 w10 := B9.out.grown hgr10 z89 (owns_base HO9.out)
        have z9 : w8.heap.size ≤ w10.heap.size := BW.size
        have HTW := hide (HT8.out.below BW)
        have SW := hide (S8.out.trans (Same.of_below BW (by omega)))
        have HH : Hid (∀ i, i < gs.length → ∃ ta tc, (xs.set x (.slice (some ⟨nb, 0, none⟩) (grAt gs x).length nc))[i]? = some (.slice ta (grAt (gs.set x ((grAt gs x).map (shiftTy 0 0))) i).length tc) ∧ TypesIn w10 w.heap.size w10.heap.size ta (grAt (gs.set x ((grAt gs x).map (shiftTy 0 0))) i)) := by
          intro i hi
          rw [grAt_set _ _ _ _ x1, List.getElem?_set]
          by_cases e : i = x
          · subst e
            rw [if_pos rfl, if_pos rfl, if_pos (by omega), List.length_map]
            exact ⟨_, _, rfl, HTW.out.trow.types.wide (by omega) (Nat.le_refl _)⟩
          · rw [if_neg e, if_neg (fun h => e h.symm)]
            obtain ⟨ta', tc', h1, h2⟩ := HGX.out i hi
            exact ⟨ta', tc', h1, h2.same SW.out (Nat.le_refl _) (by omega)⟩
        have O9 : Hid (Only g w w10) := O8.out.trans (Only.of_below BW)
        have R9 : Hid (Rd w10 g (p1 + 1 + 1 + 1)) := r8.keep BW
        have hc9 : gs.length + gs.length ≤ cap10 := owns_cap hown10
        have N3 : Hid (BentPost g p w (.returned (.slice (some ⟨g10, 0, none⟩) (gs.length + gs.length) cap10)) w10) := by
          refine ⟨(gs.set x ((grAt gs x).map (shiftTy 0 0))) ++ (gs.set x ((grAt gs x).map (shiftTy 0 0))), g10, cap10, by simp, by simpa using hc9, row_groups (n := gs.length + gs.length) (B := w8.heap.size) (by simp) (by omega) hown10 (fun i hi => ?_), HS0.out, ⟨_, by omega, R9.out⟩, O9.out⟩
          by_cases e : i < gs.length
          · rw [grAt_append_left _ _ _ (by simpa using e), List.getElem?_append_left (by omega)]
            exact HH.out i e
          · have e6 : grAt ((gs.set x ((grAt gs x).map (shiftTy 0 0))) ++ (gs.set x ((grAt gs x).map (shiftTy 0 0)))) i = grAt (gs.set x ((grAt gs x).map (shiftTy 0 0))) (i - gs.length) := by
              rw [grAt_append_right _ _ _ (by rw [List.length_set]; omega), List.length_set]
            rw [e6, List.getElem?_append_right (by omega), hyl]
            exact HH.out _ (by omega)
        clear hown10 hgr10 hat10 hlt10 BW
        go_wp2_with fail
        go_ret
        exact N3.out
end Go.Proofs.YtejkebfhiddhmaaDoor

/- Groups of types that were drawn, and what the functions of both sides answer of them. -/
namespace Go.Proofs.YtejkebfhiddhmaaDoor
open Go.ChangeShapes Go.WideShapes Go.ChangeAt Go.RowKit Go.Deep
set_option linter.unusedVariables false

/-- The groups gs lie at ga, in memory that was made since w0; nothing that was there then has turned. -/
structure GS (w0 w : World) (ga : Nat) (gc : Nat) (gs : List (List Ty)) : Prop where
  cap : gs.length ≤ gc
  few : Few gs
  pow : pow10 w
  bel : Below w0.heap.size w0 w
  mem : ∃ hi, w0.heap.size ≤ hi ∧ hi ≤ w.heap.size ∧ GroupsIn w w0.heap.size hi (some ⟨ga, 0, none⟩) gs

theorem GS.keep {w0 w w' : World} {ga : Nat} {gc : Nat} {gs : List (List Ty)} (h : GS w0 w ga gc gs) (hb : Below w.heap.size w w') : GS w0 w' ga gc gs := by
  obtain ⟨hi, h1, h2, h3⟩ := h.mem
  exact ⟨h.cap, h.few, pow10_keep h.pow hb, h.bel.trans (hb.mono h.bel.size), hi, h1, Nat.le_trans h2 hb.size, h3.keep (hb.mono h2)⟩
theorem GS.alloc {w0 w : World} {ga : Nat} {gc : Nat} {gs : List (List Ty)} (h : GS w0 w ga gc gs) (o : Obj) : GS w0 (w.alloc o) ga gc gs := h.keep ((Below.refl _ _).alloc (Nat.le_refl _) o)
theorem GS.drewN {w0 w : World} {ga : Nat} {gc : Nat} {gs : List (List Ty)} (h : GS w0 w ga gc gs) (q : Nat) : GS w0 (w.drewN q) ga gc gs := h.keep (below_drewN (Below.refl _ _) q)
theorem GS.count {w0 w : World} {ga : Nat} {gc : Nat} {gs : List (List Ty)} (h : GS w0 w ga gc gs) : kinCount gs ≤ 1099511627776 := kinCount_le h.few
theorem GS.take {w0 w : World} {ga : Nat} {gc : Nat} {gs : List (List Ty)} (h : GS w0 w ga gc gs) (k : Nat) : GS w0 w ga gc (gs.take k) := by
  obtain ⟨hi, h1, h2, h3⟩ := h.mem
  exact ⟨by have := h.cap; simp; omega, h.few.take k, h.pow, h.bel, hi, h1, h2, h3.take k⟩

theorem GS.implCount {w0 w : World} {ga : Nat} {gc : Nat} {gs : List (List Ty)} (h : GS w0 w ga gc gs) :
    Calls Tryd.prog 17 #[.slice (some ⟨ga, 0, none⟩) gs.length gc] w fun e w' => e = .returned (.int .i64 (kinCount gs : Nat)) ∧ w' = w := by
  obtain ⟨hi, h1, h2, h3⟩ := h.mem
  exact implKinCount_any (some ⟨ga, 0, none⟩) gc _ hi gs w h.few h3
theorem GS.specCount {w0 w : World} {ga : Nat} {gc : Nat} {gs : List (List Ty)} (h : GS w0 w ga gc gs) :
    Calls Tryd.prog 18 #[.slice (some ⟨ga, 0, none⟩) gs.length gc] w fun e w' => e = .returned (.int .i64 (kinCount gs : Nat)) ∧ w' = w := by
  obtain ⟨hi, h1, h2, h3⟩ := h.mem
  exact specKinCount_any (some ⟨ga, 0, none⟩) gc _ hi gs w h.few h3
theorem GS.implOk {w0 w : World} {ga : Nat} {gc : Nat} {gs : List (List Ty)} (h : GS w0 w ga gc gs) {v : Bool} (hv : kinOkF gs = v) :
    Calls Tryd.prog 19 #[.slice (some ⟨ga, 0, none⟩) gs.length gc] w fun e w' => e = .returned (.bool v) ∧ Below w.heap.size w w' ∧ GS w0 w' ga gc gs := by
  obtain ⟨hi, h1, h2, h3⟩ := h.mem
  exact (implKinOk_any (some ⟨ga, 0, none⟩) gc _ hi gs w h.few h1 h2 h3 h.pow).mono fun e w' q => ⟨by rw [← hv]; exact q.1, q.2, h.keep q.2⟩
theorem GS.specOk {w0 w : World} {ga : Nat} {gc : Nat} {gs : List (List Ty)} (h : GS w0 w ga gc gs) {v : Bool} (hv : kinOkF gs = v) :
    Calls Tryd.prog 20 #[.slice (some ⟨ga, 0, none⟩) gs.length gc] w fun e w' => e = .returned (.bool v) ∧ Below w.heap.size w w' ∧ GS w0 w' ga gc gs := by
  obtain ⟨hi, h1, h2, h3⟩ := h.mem
  exact (specKinOk_any (some ⟨ga, 0, none⟩) gc _ hi gs w h.few h.cap h1 h2 h3).mono fun e w' q => ⟨by rw [← hv]; exact q.1, q.2, h.keep q.2⟩
theorem GS.implCanon {w0 w : World} {ga : Nat} {gc : Nat} {gs : List (List Ty)} (h : GS w0 w ga gc gs) {a v : Int} (hv : canonF gs a = v) :
    Calls Tryd.prog 26 #[.slice (some ⟨ga, 0, none⟩) gs.length gc, .int .i64 a] w fun e w' => e = .returned (.int .i64 v) ∧ Below w.heap.size w w' ∧ GS w0 w' ga gc gs := by
  obtain ⟨hi, h1, h2, h3⟩ := h.mem
  exact (implKinCanon_any (some ⟨ga, 0, none⟩) gc _ hi gs a w h.few h1 h2 h3 h.pow).mono fun e w' q => ⟨by rw [← hv]; exact q.1, q.2, h.keep q.2⟩
theorem GS.specCanon {w0 w : World} {ga : Nat} {gc : Nat} {gs : List (List Ty)} (h : GS w0 w ga gc gs) {a v : Int} (hv : canonF gs a = v) :
    Calls Tryd.prog 25 #[.slice (some ⟨ga, 0, none⟩) gs.length gc, .int .i64 a] w fun e w' => e = .returned (.int .i64 v) ∧ Below w.heap.size w w' ∧ GS w0 w' ga gc gs := by
  obtain ⟨hi, h1, h2, h3⟩ := h.mem
  exact (specKinCanon_any (some ⟨ga, 0, none⟩) gc _ hi gs a w h.few h.cap h1 h2 h3).mono fun e w' q => ⟨by rw [← hv]; exact q.1, q.2, h.keep q.2⟩
theorem GS.implSame {w0 w : World} {ga : Nat} {gc : Nat} {gs : List (List Ty)} (h : GS w0 w ga gc gs) {a b : Int} {v : Bool} (hv : sameB gs a b = v) :
    Calls Tryd.prog 23 #[.slice (some ⟨ga, 0, none⟩) gs.length gc, .int .i64 a, .int .i64 b] w fun e w' => e = .returned (.bool v) ∧ Below w.heap.size w w' ∧ GS w0 w' ga gc gs := by
  obtain ⟨hi, h1, h2, h3⟩ := h.mem
  exact (implKinSame_any (some ⟨ga, 0, none⟩) gc _ hi gs a b w h.few h1 h2 h3 h.pow).mono fun e w' q => ⟨by rw [← hv]; exact q.1, q.2, h.keep q.2⟩
theorem GS.specSame {w0 w : World} {ga : Nat} {gc : Nat} {gs : List (List Ty)} (h : GS w0 w ga gc gs) {a b : Int} {v : Bool} (hv : sameB gs a b = v) :
    Calls Tryd.prog 24 #[.slice (some ⟨ga, 0, none⟩) gs.length gc, .int .i64 a, .int .i64 b] w fun e w' => e = .returned (.bool v) ∧ Below w.heap.size w w' ∧ GS w0 w' ga gc gs := by
  obtain ⟨hi, h1, h2, h3⟩ := h.mem
  exact (specKinSame_any (some ⟨ga, 0, none⟩) gc _ hi gs a b w h.few h.cap h1 h2 h3).mono fun e w' q => ⟨by rw [← hv]; exact q.1, q.2, h.keep q.2⟩
theorem GS.implUnder {w0 w : World} {ga : Nat} {gc : Nat} {gs : List (List Ty)} (h : GS w0 w ga gc gs) {a b : Int} {v : Bool} (hv : underB gs a b = v) :
    Calls Tryd.prog 28 #[.slice (some ⟨ga, 0, none⟩) gs.length gc, .int .i64 a, .int .i64 b] w fun e w' => e = .returned (.bool v) ∧ Below w.heap.size w w' ∧ GS w0 w' ga gc gs := by
  obtain ⟨hi, h1, h2, h3⟩ := h.mem
  exact (implKinUnder_any (some ⟨ga, 0, none⟩) gc _ hi gs a b w h.few h1 h2 h3 h.pow).mono fun e w' q => ⟨by rw [← hv]; exact q.1, q.2, h.keep q.2⟩
theorem GS.specUnder {w0 w : World} {ga : Nat} {gc : Nat} {gs : List (List Ty)} (h : GS w0 w ga gc gs) {a b : Int} {v : Bool} (hv : underB gs a b = v) :
    Calls Tryd.prog 29 #[.slice (some ⟨ga, 0, none⟩) gs.length gc, .int .i64 a, .int .i64 b] w fun e w' => e = .returned (.bool v) ∧ Below w.heap.size w w' ∧ GS w0 w' ga gc gs := by
  obtain ⟨hi, h1, h2, h3⟩ := h.mem
  exact (specKinUnder_any (some ⟨ga, 0, none⟩) gc _ hi gs a b w h.few h.cap h1 h2 h3).mono fun e w' q => ⟨by rw [← hv]; exact q.1, q.2, h.keep q.2⟩

/-- What l1Bent draws, at a reader that was opened just now. -/
theorem bent_gs {w w1 w2 : World} {gs : List (List Ty)} {ga : Nat} {gc : Nat} (b1 : Below w.heap.size w w1) (s1 : w1.heap.size = w.heap.size + 1) (hc : gs.length ≤ gc) (hx : GroupsIn w2 w1.heap.size w2.heap.size (some ⟨ga, 0, none⟩) gs) (hF : Few gs) (o2 : Only w.heap.size w1 w2) (hp : pow10 w) {w3 : World} (o3 : Only w.heap.size w2 w3) : GS w w3 ga gc gs := by
  have hb : Below w.heap.size w w3 := (b1.trans (o2.below (Nat.le_refl _) b1.size)).trans (o3.below (Nat.le_refl _) (by have := o2.size; omega))
  exact ⟨hc, hF, pow10_keep hp hb, hb, w2.heap.size, by have := o2.size; omega, o3.size, hx.same (o3.same (by omega) (Nat.le_refl _)) (by omega) (Nat.le_refl _)⟩

set_option maxHeartbeats 1000000 in
theorem drawKinOk_any (a : Option Addr) (cap n : Nat) (w : World) (hc : n ≤ cap) (h : BytesIn w w.heap.size a n) (hp : pow10 w) :
    Calls Tryd.prog 41 #[.slice a n cap] w fun e w' => ∃ (gs : List (List Ty)) (ga : Nat) (gc : Nat), e = .returned (.slice (some ⟨ga, 0, none⟩) gs.length gc) ∧ GS w w' ga gc gs := by
  go_enter Tryd.func41, Tryd.ntmps41
  go_wp2_with fail
  refine (open_any a cap n w hc h).mono ?_
  rintro e w1 ⟨rfl, r1, b1, s1⟩
  go_wp2_with fail
  refine (l1Bent_any w.heap.size 0 w1 (by omega) r1).mono ?_
  rintro e w2 ⟨gs, ga, gc, rfl, hc2, hx2, hF, ⟨p2, hp2, r2⟩, o2⟩
  have G := hide (bent_gs b1 s1 hc2 hx2 hF o2 hp (Only.refl _ _))
  clear hx2 hF o2
  go_wp2_with fail
  go_ret
  exact ⟨gs, ga, gc, rfl, G.out⟩

set_option maxHeartbeats 2000000 in
theorem drawKinType_any (a : Option Addr) (cap n : Nat) (w : World) (hc : n ≤ cap) (h : BytesIn w w.heap.size a n) (hp : pow10 w) :
    Calls Tryd.prog 14 #[.slice a n cap] w fun e w' => ∃ (gs : List (List Ty)) (ga : Nat) (gc : Nat) (x : Int), e = .returned (.tuple #[.slice (some ⟨ga, 0, none⟩) gs.length gc, .int .i64 x]) ∧ GS w w' ga gc gs ∧ -1 ≤ x ∧ x ≤ (kinCount gs : Int) := by
  go_enter Tryd.func14, Tryd.ntmps14
  go_wp2_with fail
  refine (open_any a cap n w hc h).mono ?_
  rintro e w1 ⟨rfl, r1, b1, s1⟩
  go_wp2_with fail
  refine (l1Bent_any w.heap.size 0 w1 (by omega) r1).mono ?_
  rintro e w2 ⟨gs, ga, gc, rfl, hc2, hx2, hF, ⟨p2, hp2, r2⟩, o2⟩
  have HC := hide (fun w3 => @bent_gs w w1 w2 gs ga gc b1 s1 hc2 hx2 hF o2 hp w3)
  have HK := hide (specKinCount_any (some ⟨ga, 0, none⟩) gc _ _ gs w2 hF hx2)
  have n2 := kinCount_le hF
  clear hx2 hF o2 b1 s1 r1
  go_wp2_with fail
  refine HK.out.mono ?_
  rintro e w3 ⟨rfl, rfl⟩
  go_wp2_with fail
  refine (pick_only w.heap.size p2 _ w3 (by omega) r2).mono ?_
  rintro e w4 ⟨x, rfl, _, x0, x1, r4, o4, s4⟩
  have x2 := x1 (by omega)
  have G := hide (HC.out w4 o4)
  clear o4 x1 HC HK
  go_wp2_with fail
  refine bodyPost_ret (v := .tuple #[.slice (some ⟨ga, 0, none⟩) gs.length gc, .int .i64 (x - 1)]) (by simp [results, Tryd.results14, go_sem]) rfl ⟨gs, ga, gc, x - 1, rfl, G.out, by omega, by omega⟩

set_option maxHeartbeats 2000000 in
theorem drawKinSame_any (a : Option Addr) (cap n : Nat) (w : World) (hc : n ≤ cap) (h : BytesIn w w.heap.size a n) (hp : pow10 w) :
    Calls Tryd.prog 22 #[.slice a n cap] w fun e w' => ∃ (gs : List (List Ty)) (ga : Nat) (gc : Nat) (x y : Int), e = .returned (.tuple #[.slice (some ⟨ga, 0, none⟩) gs.length gc, .int .i64 x, .int .i64 y]) ∧ GS w w' ga gc gs ∧ (-1 ≤ x ∧ x ≤ (kinCount gs : Int)) ∧ -1 ≤ y ∧ y ≤ (kinCount gs : Int) := by
  go_enter Tryd.func22, Tryd.ntmps22
  go_wp2_with fail
  refine (open_any a cap n w hc h).mono ?_
  rintro e w1 ⟨rfl, r1, b1, s1⟩
  go_wp2_with fail
  refine (l1Bent_any w.heap.size 0 w1 (by omega) r1).mono ?_
  rintro e w2 ⟨gs, ga, gc, rfl, hc2, hx2, hF, ⟨p2, hp2, r2⟩, o2⟩
  have HC := hide (fun w3 => @bent_gs w w1 w2 gs ga gc b1 s1 hc2 hx2 hF o2 hp w3)
  have HK := hide (specKinCount_any (some ⟨ga, 0, none⟩) gc _ _ gs w2 hF hx2)
  have n2 := kinCount_le hF
  clear hx2 hF o2 b1 s1 r1
  go_wp2_with fail
  refine HK.out.mono ?_
  rintro e w3 ⟨rfl, rfl⟩
  go_wp2_with fail
  refine (pick_only w.heap.size p2 _ w3 (by omega) r2).mono ?_
  rintro e w4 ⟨x, rfl, _, x0, x1, r4, o4, s4⟩
  have x2 := x1 (by omega)
  have O4 := hide o4
  clear o4 x1 HK
  go_wp2_with fail
  refine (pick_only w.heap.size (p2 + 1) _ w4 (by omega) r4).mono ?_
  rintro e w5 ⟨y, rfl, _, y0, y1, r5, o5, s5⟩
  have y2 := y1 (by omega)
  have G := hide (HC.out w5 (O4.out.trans o5))
  clear o5 y1 HC O4
  go_wp2_with fail
  refine bodyPost_ret (v := .tuple #[.slice (some ⟨ga, 0, none⟩) gs.length gc, .int .i64 (x - 1), .int .i64 (y - 1)]) (by simp [results, Tryd.results22, go_sem]) rfl ⟨gs, ga, gc, x - 1, y - 1, rfl, G.out, ⟨by omega, by omega⟩, by omega, by omega⟩

set_option maxHeartbeats 2000000 in
theorem drawKinUnder_any (a : Option Addr) (cap n : Nat) (w : World) (hc : n ≤ cap) (h : BytesIn w w.heap.size a n) (hp : pow10 w) :
    Calls Tryd.prog 27 #[.slice a n cap] w fun e w' => ∃ (gs : List (List Ty)) (ga : Nat) (gc : Nat) (x y : Int), e = .returned (.tuple #[.slice (some ⟨ga, 0, none⟩) gs.length gc, .int .i64 x, .int .i64 y]) ∧ GS w w' ga gc gs ∧ (-3 ≤ x ∧ x ≤ (kinCount gs : Int)) ∧ -3 ≤ y ∧ y ≤ (kinCount gs : Int) := by
  go_enter Tryd.func27, Tryd.ntmps27
  go_wp2_with fail
  refine (open_any a cap n w hc h).mono ?_
  rintro e w1 ⟨rfl, r1, b1, s1⟩
  go_wp2_with fail
  refine (l1Bent_any w.heap.size 0 w1 (by omega) r1).mono ?_
  rintro e w2 ⟨gs, ga, gc, rfl, hc2, hx2, hF, ⟨p2, hp2, r2⟩, o2⟩
  have HC := hide (fun w3 => @bent_gs w w1 w2 gs ga gc b1 s1 hc2 hx2 hF o2 hp w3)
  have HK := hide (specKinCount_any (some ⟨ga, 0, none⟩) gc _ _ gs w2 hF hx2)
  have n2 := kinCount_le hF
  clear hx2 hF o2 b1 s1 r1
  go_wp2_with fail
  refine HK.out.mono ?_
  rintro e w3 ⟨rfl, rfl⟩
  go_wp2_with fail
  refine (pick_only w.heap.size p2 _ w3 (by omega) r2).mono ?_
  rintro e w4 ⟨x, rfl, _, x0, x1, r4, o4, s4⟩
  have x2 := x1 (by omega)
  have O4 := hide o4
  clear o4 x1 HK
  go_wp2_with fail
  refine (pick_only w.heap.size (p2 + 1) _ w4 (by omega) r4).mono ?_
  rintro e w5 ⟨y, rfl, _, y0, y1, r5, o5, s5⟩
  have y2 := y1 (by omega)
  have G := hide (HC.out w5 (O4.out.trans o5))
  clear o5 y1 HC O4
  go_wp2_with fail
  refine bodyPost_ret (v := .tuple #[.slice (some ⟨ga, 0, none⟩) gs.length gc, .int .i64 (x - 3), .int .i64 (y - 3)]) (by simp [results, Tryd.results27, go_sem]) rfl ⟨gs, ga, gc, x - 3, y - 3, rfl, G.out, ⟨by omega, by omega⟩, by omega, by omega⟩
end Go.Proofs.YtejkebfhiddhmaaDoor
