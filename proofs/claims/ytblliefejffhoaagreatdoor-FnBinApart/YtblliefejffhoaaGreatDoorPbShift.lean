/- PbShift: DrawShift, DrawCap, RowG, RowG2. -/
import Derived.Test.YtblliefejffhoaaGreatDoorPbRow
import Derived.Deep.RegionLaw
/- l1Shift of the model: a group that stands further on, in memory of its own. Written by tools/made/drawshift.py. -/
namespace Go.Proofs.YtblliefejffhoaaGreatDoor
open Go.ChangeShapes Go.WideShapes Go.ChangeAt Go.RowKit
set_option linter.unusedVariables false

def shiftFd (fr bY : Int) (f : Fd) : Fd := if fr ≤ f.of ∧ f.kind ≠ 1 then ⟨f.kind, f.of + bY, f.mt⟩ else f
def shiftTy (fr bY : Int) (t : Ty) : Ty := ⟨t.kind, if fr ≤ t.up then t.up + bY else t.up, t.last, t.fields.map (shiftFd fr bY)⟩

theorem fdAt_map (f : Fd → Fd) (l : List Fd) (i : Nat) (h : i < l.length) : fdAt (l.map f) i = f (fdAt l i) := by
  simp [fdAt, h]
theorem fd_ext {a b : List Fd} (hl : a.length = b.length) (h : ∀ i, i < a.length → fdAt a i = fdAt b i) : a = b := by
  refine List.ext_getElem hl fun i h1 h2 => ?_
  have := h i h1
  simpa [fdAt, h1, h2] using this
theorem take_map_snoc (f : Ty → Ty) (l : List Ty) (k : Nat) (h : k < l.length) : (l.take (k + 1)).map f = (l.take k).map f ++ [f (tyAt l k)] := by
  rw [take_snoc _ _ h]; simp

/-- A group whose numbers are small. -/
def Small (ts : List Ty) : Prop := ts.length ≤ 1000 ∧ ∀ i, i < ts.length → (tyAt ts i).fields.length ≤ 1000 ∧ (-1000 ≤ (tyAt ts i).up ∧ (tyAt ts i).up ≤ 1000) ∧ ∀ j, j < (tyAt ts i).fields.length → -1000 ≤ (fdAt (tyAt ts i).fields j).of ∧ (fdAt (tyAt ts i).fields j).of ≤ 1000

set_option maxHeartbeats 4000000 in
set_option maxRecDepth 100000 in
theorem l1Shift_any (a : Option Addr) (cap lo hi : Nat) (ts : List Ty) (fr bY : Int) (w : World) (hS : Small ts) (b0 : -1000 ≤ bY) (b1 : bY ≤ 1000) (hx : TypesIn w lo hi a ts) (hh : hi ≤ w.heap.size) :
    Calls Tryz.prog 69 #[.slice a ts.length cap, .int .i64 fr, .int .i64 bY] w fun e w' => ∃ na nc, e = .returned (.slice na ts.length nc) ∧ TRow w' w.heap.size na nc (ts.map (shiftTy fr bY)) ∧ Below w.heap.size w w' := by
  have n1 := hS.1
  have HSm := hide hS
  have HX := hide hx
  clear hS hx
  obtain ⟨i0, hi0, hzz⟩ := Option.map_eq_some_iff.1 Tryz.infoType
  simp only [Prod.mk.injEq] at hzz
  obtain ⟨hz0, hs0, hb0⟩ := hzz
  have HZ := hide hz0
  have HS := hide hs0
  have HB := hide hb0
  have HI := hide hi0
  clear hz0 hs0 hb0 hi0
  go_enter Tryz.func69, Tryz.ntmps69
  go_wp2_with fail
  go_loopw [7, 8] (fun v i wr => ∃ (k : Nat) (ra : Option Addr) (rc : Nat), k ≤ ts.length ∧ i = .int .i64 (k : Int) ∧ v = .slice ra k rc ∧ Hid (TRow wr w.heap.size ra rc ((ts.take k).map (shiftTy fr bY))) ∧ Hid (Below w.heap.size w wr)) (fun v i wr => ts.length - (intOf i).toNat)
  case atStart =>
    refine ⟨0, _, _, Nat.zero_le _, rfl, rfl, ⟨[], empty_row _ _ _ _ 4 (Deep.blk_alloc_new _ _) (Nat.le_refl _), fun i hi => absurd hi (by simp)⟩, (Below.refl _ _).alloc (Nat.le_refl _) _⟩
  case round =>
    obtain ⟨k, ra, rc, hk, rfl, rfl, HT, HBw⟩ := hrel
    obtain ⟨wo, hwo⟩ : ∃ x, x = wr := ⟨wr, rfl⟩
    subst hwo
    have sw := HBw.out.size
    by_cases hkn : k < ts.length
    · rcases HX.out with hnil | ⟨b, off, rfl, l1, l2, h3⟩
      · exfalso; rw [hnil] at hkn; exact absurd hkn (Nat.not_lt_zero _)
      obtain ⟨e0, e1, e2, fa, fc, e3, e4⟩ := (h3 k hkn).same (Same.of_below HBw.out hh) (Nat.le_refl _) (Nat.le_refl _) l1 l2
      have HMk := hide (HSm.out.2 k hkn)
      have HNx := hide (take_map_snoc (shiftTy fr bY) ts k hkn)
      generalize tyAt ts k = T at *
      obtain ⟨tk, tu, tl, tf⟩ := T
      simp only at e0 e1 e2 e3 e4
      have E4 := hide e4
      obtain ⟨f1, ⟨u1, u2⟩, fo⟩ := HMk.out
      simp only at f1 u1 u2 fo
      have FO := hide fo
      have bsz : b < wo.heap.size := cell_lt e0
      have k1 : (0 : Int) ≤ (k : Int) := by omega
      have k2 : (k : Int) < (ts.length : Int) := by omega
      clear h3 e4 fo
      go_wp2_with fail
      refine (l1Copy_row fa fc lo hi ⟨tk, tu, tl, tf⟩ wo (by show tf.length ≤ _; omega) E4.out (Nat.le_trans hh sw)).mono ?_
      rintro e w2 ⟨na, nc, rfl, hf2, hb2⟩
      have F2 : Hid (FieldRow w2 wo.heap.size na nc tf) := hf2
      have HB2 := hide hb2
      have B2 := hide (HBw.out.trans (hb2.mono sw))
      have s2 : wo.heap.size ≤ w2.heap.size := hb2.size
      clear hf2 hb2 e0 e1 e2 e3 E4
      simp only
      by_cases hu : fr ≤ tu
      · have hup : Hid ((if fr ≤ tu then tu + bY else tu) = tu + bY) := if_pos hu
        go_wp2_with fail
        go_loopw [10] (fun kv wi => ∃ (j : Nat) (fs : List Fd), kv = .int .i64 (j : Int) ∧ j ≤ tf.length ∧ Hid (fs.length = tf.length) ∧ Hid (∀ i, i < tf.length → fdAt fs i = if i < j then shiftFd fr bY (fdAt tf i) else fdAt tf i) ∧ Hid (Rec wi w2.heap.size 44 [.int .i64 tk, .int .i64 (tu + bY), .bool tl, .slice na tf.length nc]) ∧ Hid (FieldRow wi wo.heap.size na nc fs) ∧ Hid (Below wo.heap.size wo wi)) (fun kv wi => tf.length - (intOf kv).toNat)
        case atStart =>
          exact ⟨0, tf, rfl, Nat.zero_le _, rfl, fun i _ => by rw [if_neg (Nat.not_lt_zero _)], Rec.new _ _ _, owns_below F2.out ((Below.refl _ _).alloc (Nat.le_refl _) _), HB2.out.alloc s2 _⟩
        case round =>
          clear HB2 B2 F2
          obtain ⟨j, fs, rfl, hj, HL, HF, RT, FR, BW⟩ := hrel
          have c0 := RT.out.cell (o := 0) rfl
          have c1 := RT.out.cell (o := 1) rfl
          have c2 := RT.out.cell (o := 2) rfl
          have c3 := RT.out.cell (o := 3) rfl
          have tlt := RT.out.lt
          have sw2 := BW.out.size
          by_cases hjn : j < tf.length
          · have hjf : j < fs.length := by have := HL.out; omega
            rcases FR.out.2 with ⟨h0, _⟩ | ⟨fb, cap', cur, h0, hS', hg', _⟩
            · exfalso; simp at h0; rw [h0.2.1] at hjf; exact absurd hjf (Nat.not_lt_zero _)
            simp at h0
            obtain ⟨rfl, rfl⟩ := h0
            have hne : fb ≠ w2.heap.size := by
              intro h
              have hr := RT.out
              unfold Rec at hr
              rw [← h, hg'] at hr
              simp at hr
            have hfz : ∀ o, wr.frozen? ⟨fb, o, none⟩ = false := fun o => by simp [World.frozen?, hg']
            have z1 := hfz (j * 3 + 1)
            obtain ⟨m0, m1, m2⟩ : FieldAt wr fb (j * 3) (fdAt fs j) := by
              rcases FR.out.fields with hnil | ⟨b', off', he, _, _, hq⟩
              · exfalso; rw [hnil] at hjf; exact absurd hjf (Nat.not_lt_zero _)
              · simp at he
                obtain ⟨rfl, rfl⟩ := he
                have := hq j hjf
                rwa [Nat.zero_add] at this
            have HFj := HF.out j hjn
            rw [if_neg (Nat.lt_irrefl _)] at HFj
            rw [HFj] at m0 m1 m2
            obtain ⟨fo1, fo2⟩ := FO.out j hjn
            have HG : Hid (∀ i, i < tf.length → fdAt fs i = if i < j then shiftFd fr bY (fdAt tf i) else fdAt tf i) := HF
            have HFj' : Hid (fdAt fs j = fdAt tf j) := HFj
            have hflt : fb < wr.heap.size := (Array.getElem?_eq_some_iff.1 hg').1
            have HE : Hid (wr.heap[fb]? = some (.cells cur 33 (0, 0))) := hg'
            have j1 : (0 : Int) ≤ (j : Int) := by omega
            have j2 : (j : Int) < (tf.length : Int) := by omega
            have HSF : Hid (shiftFd fr bY (fdAt tf j) = if fr ≤ (fdAt tf j).of ∧ (fdAt tf j).kind ≠ 1 then ⟨(fdAt tf j).kind, (fdAt tf j).of + bY, (fdAt tf j).mt⟩ else fdAt tf j) := rfl
            generalize hF0 : fdAt tf j = F0 at *
            obtain ⟨fk, fo, fm⟩ := F0
            simp only at m0 m1 m2 fo1 fo2
            have hS2 : wo.heap.size ≤ fb := hS'
            clear hg' hfz HFj HF hS'
            by_cases hc : fr ≤ fo ∧ fk ≠ 1
            · obtain ⟨hc1, hc2⟩ := hc
              have hc3 : (fk != 1) = true := by simpa using hc2
              have N1 : Hid (FieldRow (wr.setCell ⟨fb, j * 3 + 1, none⟩ (.int .i64 (fo + bY))) wo.heap.size (some ⟨fb, 0, none⟩) nc (setOf fs j (fo + bY))) := FieldRow.setOf FR.out j _ hjf
              have N2 := hide (RT.out.other (show w2.heap.size ≠ fb by omega) (j * 3 + 1) (.int .i64 (fo + bY)))
              have N3 : Hid (Below wo.heap.size wo (wr.setCell ⟨fb, j * 3 + 1, none⟩ (.int .i64 (fo + bY)))) := BW.out.setCell hS2 _
              have N4 : Hid (∀ i, i < tf.length → fdAt (setOf fs j (fo + bY)) i = if i < j + 1 then shiftFd fr bY (fdAt tf i) else fdAt tf i) := by
                intro i hi
                rw [setOf_at _ _ _ _ hjf, HFj'.out]
                by_cases e : i = j
                · subst e
                  rw [if_pos rfl, if_pos (Nat.lt_succ_self _), hF0, HSF.out, if_pos ⟨hc1, hc2⟩]
                · rw [if_neg e, HG.out i hi]
                  by_cases e2 : i < j
                  · rw [if_pos e2, if_pos (by omega)]
                  · rw [if_neg e2, if_neg (by omega)]
              go_wp2_with fail
              go_region_law (fail)
              all_goals
                go_wp2_with fail
                exact ⟨⟨j + 1, setOf fs j (fo + bY), by go_num, by omega, (by show (setOf fs j (fo + bY)).length = _; rw [setOf_length]; exact HL.out), N4, N2, N1, N3.out.drew⟩, by simp [intOf]; omega⟩
            · have N4 : Hid (∀ i, i < tf.length → fdAt fs i = if i < j + 1 then shiftFd fr bY (fdAt tf i) else fdAt tf i) := by
                intro i hi
                rw [HG.out i hi]
                by_cases e : i = j
                · subst e
                  rw [if_neg (Nat.lt_irrefl _), if_pos (Nat.lt_succ_self _), hF0, HSF.out, if_neg hc]
                · by_cases e2 : i < j
                  · rw [if_pos e2, if_pos (by omega)]
                  · rw [if_neg e2, if_neg (by omega)]
              have hc' : fo < fr ∨ (fr ≤ fo ∧ fk = 1) := by omega
              clear hc
              rcases hc' with hc1 | ⟨hc1, rfl⟩
              all_goals
                go_wp2_with fail
                exact ⟨⟨j + 1, fs, by go_num, by omega, HL, N4, RT, FR, BW⟩, by simp [intOf]; omega⟩
          · have hje : Hid (j = tf.length) := Nat.le_antisymm hj (Nat.le_of_not_lt hjn)
            have HTT : Hid (TRow wr w.heap.size ra rc ((ts.take k).map (shiftTy fr bY))) := HT.out.below BW.out
            obtain ⟨xs, hown, hTv⟩ := HTT.out
            have hlen : ((ts.take k).map (shiftTy fr bY)).length = k := by simp; omega
            have HXL := hide hown.1
            have HLE := hide hlen
            have HTv := hide hTv
            rw [hlen] at hown
            have HO := hide hown
            have ETy : Hid (shiftTy fr bY ⟨tk, tu, tl, tf⟩ = ⟨tk, tu + bY, tl, fs⟩) := by
              show (⟨tk, if fr ≤ tu then tu + bY else tu, tl, tf.map (shiftFd fr bY)⟩ : Ty) = _
              rw [hup.out]
              congr 1
              refine (fd_ext (by simp [HL.out]) fun i hi => ?_).symm
              have hi' : i < tf.length := by have := HL.out; omega
              rw [HF.out i hi', if_pos (by have := hje.out; omega), fdAt_map _ _ _ hi']
            have HL' := HL
            clear hown hTv hlen HTT
            go_wp2_with (first | (at_builtin; refine wpList_append_lies _ rfl _ _ 42 rfl w.heap.size 44 i0 _ 4 48 Tryz.underlying42 HI.out HZ.out HS.out HB.out rfl (by decide) _ _ xs rfl (HO.out.alloc _) ⟨wr.heap.size, 0, none⟩ 1 1 [.int .i64 tk, .int .i64 (tu + bY), .bool tl, .slice na tf.length nc] rfl rfl ?c1 ?c2 (by decide) ?c3 ?c4 ?c5 _ rfl ?_))
            case c1 => exact World.news_of_block (Deep.blk_alloc_new _ _)
            case c2 => intro u hu; simp at hu; rcases hu with rfl | rfl | rfl | rfl <;> rfl
            case c3 => unfold maxLen; omega
            case c4 => omega
            case c5 => simp; omega
            intro gB cap6 w6 hown6 hgr6 hat6 hlt6
            have N1 : Hid (TRow w6 w.heap.size (some ⟨gB, 0, none⟩) cap6 ((ts.take (k + 1)).map (shiftTy fr bY))) := by
              have KF : KeepE w.heap.size 33 wr w6 := (KeepE.below ((Below.refl _ _).alloc (Nat.le_refl _) _)).trans (KeepE.grown (HO.out.alloc _) hgr6 (by decide))
              show TRow _ _ _ _ _
              rw [HNx.out, ETy.out]
              refine TRow.snoc (fa := na) (fc := nc) (xs := xs) (fun i hi => (HTv.out i hi).keep KF) HXL.out (owns_keepE (FR.out.lower sw) KF) ?_
              rw [HLE.out]
              show w6.ownsRow _ _ _ _ _ (xs ++ [.int .i64 tk, .int .i64 (tu + bY), .bool tl, .slice na fs.length nc])
              rw [HL'.out]
              exact hown6
            have N2 := hide (((HBw.out.trans (BW.out.mono sw)).alloc (by omega) (.cells #[.int .i64 tk, .int .i64 (tu + bY), .bool tl, .slice na tf.length nc] 44)).grown hgr6 (by simp; omega) (owns_base HO.out))
            clear hown6 hgr6 hat6
            go_wp2_with fail
            exact ⟨⟨k + 1, some ⟨gB, 0, none⟩, cap6, by omega, by go_num, rfl, N1, N2⟩, by simp [intOf]; omega⟩
      · have hup : Hid ((if fr ≤ tu then tu + bY else tu) = tu) := if_neg hu
        have hu' : tu < fr := by omega
        go_wp2_with fail
        go_loopw [10] (fun kv wi => ∃ (j : Nat) (fs : List Fd), kv = .int .i64 (j : Int) ∧ j ≤ tf.length ∧ Hid (fs.length = tf.length) ∧ Hid (∀ i, i < tf.length → fdAt fs i = if i < j then shiftFd fr bY (fdAt tf i) else fdAt tf i) ∧ Hid (Rec wi w2.heap.size 44 [.int .i64 tk, .int .i64 (tu), .bool tl, .slice na tf.length nc]) ∧ Hid (FieldRow wi wo.heap.size na nc fs) ∧ Hid (Below wo.heap.size wo wi)) (fun kv wi => tf.length - (intOf kv).toNat)
        case atStart =>
          exact ⟨0, tf, rfl, Nat.zero_le _, rfl, fun i _ => by rw [if_neg (Nat.not_lt_zero _)], Rec.new _ _ _, owns_below F2.out ((Below.refl _ _).alloc (Nat.le_refl _) _), HB2.out.alloc s2 _⟩
        case round =>
          clear HB2 B2 F2
          obtain ⟨j, fs, rfl, hj, HL, HF, RT, FR, BW⟩ := hrel
          have c0 := RT.out.cell (o := 0) rfl
          have c1 := RT.out.cell (o := 1) rfl
          have c2 := RT.out.cell (o := 2) rfl
          have c3 := RT.out.cell (o := 3) rfl
          have tlt := RT.out.lt
          have sw2 := BW.out.size
          by_cases hjn : j < tf.length
          · have hjf : j < fs.length := by have := HL.out; omega
            rcases FR.out.2 with ⟨h0, _⟩ | ⟨fb, cap', cur, h0, hS', hg', _⟩
            · exfalso; simp at h0; rw [h0.2.1] at hjf; exact absurd hjf (Nat.not_lt_zero _)
            simp at h0
            obtain ⟨rfl, rfl⟩ := h0
            have hne : fb ≠ w2.heap.size := by
              intro h
              have hr := RT.out
              unfold Rec at hr
              rw [← h, hg'] at hr
              simp at hr
            have hfz : ∀ o, wr.frozen? ⟨fb, o, none⟩ = false := fun o => by simp [World.frozen?, hg']
            have z1 := hfz (j * 3 + 1)
            obtain ⟨m0, m1, m2⟩ : FieldAt wr fb (j * 3) (fdAt fs j) := by
              rcases FR.out.fields with hnil | ⟨b', off', he, _, _, hq⟩
              · exfalso; rw [hnil] at hjf; exact absurd hjf (Nat.not_lt_zero _)
              · simp at he
                obtain ⟨rfl, rfl⟩ := he
                have := hq j hjf
                rwa [Nat.zero_add] at this
            have HFj := HF.out j hjn
            rw [if_neg (Nat.lt_irrefl _)] at HFj
            rw [HFj] at m0 m1 m2
            obtain ⟨fo1, fo2⟩ := FO.out j hjn
            have HG : Hid (∀ i, i < tf.length → fdAt fs i = if i < j then shiftFd fr bY (fdAt tf i) else fdAt tf i) := HF
            have HFj' : Hid (fdAt fs j = fdAt tf j) := HFj
            have hflt : fb < wr.heap.size := (Array.getElem?_eq_some_iff.1 hg').1
            have HE : Hid (wr.heap[fb]? = some (.cells cur 33 (0, 0))) := hg'
            have j1 : (0 : Int) ≤ (j : Int) := by omega
            have j2 : (j : Int) < (tf.length : Int) := by omega
            have HSF : Hid (shiftFd fr bY (fdAt tf j) = if fr ≤ (fdAt tf j).of ∧ (fdAt tf j).kind ≠ 1 then ⟨(fdAt tf j).kind, (fdAt tf j).of + bY, (fdAt tf j).mt⟩ else fdAt tf j) := rfl
            generalize hF0 : fdAt tf j = F0 at *
            obtain ⟨fk, fo, fm⟩ := F0
            simp only at m0 m1 m2 fo1 fo2
            have hS2 : wo.heap.size ≤ fb := hS'
            clear hg' hfz HFj HF hS'
            by_cases hc : fr ≤ fo ∧ fk ≠ 1
            · obtain ⟨hc1, hc2⟩ := hc
              have hc3 : (fk != 1) = true := by simpa using hc2
              have N1 : Hid (FieldRow (wr.setCell ⟨fb, j * 3 + 1, none⟩ (.int .i64 (fo + bY))) wo.heap.size (some ⟨fb, 0, none⟩) nc (setOf fs j (fo + bY))) := FieldRow.setOf FR.out j _ hjf
              have N2 := hide (RT.out.other (show w2.heap.size ≠ fb by omega) (j * 3 + 1) (.int .i64 (fo + bY)))
              have N3 : Hid (Below wo.heap.size wo (wr.setCell ⟨fb, j * 3 + 1, none⟩ (.int .i64 (fo + bY)))) := BW.out.setCell hS2 _
              have N4 : Hid (∀ i, i < tf.length → fdAt (setOf fs j (fo + bY)) i = if i < j + 1 then shiftFd fr bY (fdAt tf i) else fdAt tf i) := by
                intro i hi
                rw [setOf_at _ _ _ _ hjf, HFj'.out]
                by_cases e : i = j
                · subst e
                  rw [if_pos rfl, if_pos (Nat.lt_succ_self _), hF0, HSF.out, if_pos ⟨hc1, hc2⟩]
                · rw [if_neg e, HG.out i hi]
                  by_cases e2 : i < j
                  · rw [if_pos e2, if_pos (by omega)]
                  · rw [if_neg e2, if_neg (by omega)]
              go_wp2_with fail
              go_region_law (fail)
              all_goals
                go_wp2_with fail
                exact ⟨⟨j + 1, setOf fs j (fo + bY), by go_num, by omega, (by show (setOf fs j (fo + bY)).length = _; rw [setOf_length]; exact HL.out), N4, N2, N1, N3.out.drew⟩, by simp [intOf]; omega⟩
            · have N4 : Hid (∀ i, i < tf.length → fdAt fs i = if i < j + 1 then shiftFd fr bY (fdAt tf i) else fdAt tf i) := by
                intro i hi
                rw [HG.out i hi]
                by_cases e : i = j
                · subst e
                  rw [if_neg (Nat.lt_irrefl _), if_pos (Nat.lt_succ_self _), hF0, HSF.out, if_neg hc]
                · by_cases e2 : i < j
                  · rw [if_pos e2, if_pos (by omega)]
                  · rw [if_neg e2, if_neg (by omega)]
              have hc' : fo < fr ∨ (fr ≤ fo ∧ fk = 1) := by omega
              clear hc
              rcases hc' with hc1 | ⟨hc1, rfl⟩
              all_goals
                go_wp2_with fail
                exact ⟨⟨j + 1, fs, by go_num, by omega, HL, N4, RT, FR, BW⟩, by simp [intOf]; omega⟩
          · have hje : Hid (j = tf.length) := Nat.le_antisymm hj (Nat.le_of_not_lt hjn)
            have HTT : Hid (TRow wr w.heap.size ra rc ((ts.take k).map (shiftTy fr bY))) := HT.out.below BW.out
            obtain ⟨xs, hown, hTv⟩ := HTT.out
            have hlen : ((ts.take k).map (shiftTy fr bY)).length = k := by simp; omega
            have HXL := hide hown.1
            have HLE := hide hlen
            have HTv := hide hTv
            rw [hlen] at hown
            have HO := hide hown
            have ETy : Hid (shiftTy fr bY ⟨tk, tu, tl, tf⟩ = ⟨tk, tu, tl, fs⟩) := by
              show (⟨tk, if fr ≤ tu then tu + bY else tu, tl, tf.map (shiftFd fr bY)⟩ : Ty) = _
              rw [hup.out]
              congr 1
              refine (fd_ext (by simp [HL.out]) fun i hi => ?_).symm
              have hi' : i < tf.length := by have := HL.out; omega
              rw [HF.out i hi', if_pos (by have := hje.out; omega), fdAt_map _ _ _ hi']
            have HL' := HL
            clear hown hTv hlen HTT
            go_wp2_with (first | (at_builtin; refine wpList_append_lies _ rfl _ _ 42 rfl w.heap.size 44 i0 _ 4 48 Tryz.underlying42 HI.out HZ.out HS.out HB.out rfl (by decide) _ _ xs rfl (HO.out.alloc _) ⟨wr.heap.size, 0, none⟩ 1 1 [.int .i64 tk, .int .i64 (tu), .bool tl, .slice na tf.length nc] rfl rfl ?c1 ?c2 (by decide) ?c3 ?c4 ?c5 _ rfl ?_))
            case c1 => exact World.news_of_block (Deep.blk_alloc_new _ _)
            case c2 => intro u hu; simp at hu; rcases hu with rfl | rfl | rfl | rfl <;> rfl
            case c3 => unfold maxLen; omega
            case c4 => omega
            case c5 => simp; omega
            intro gB cap6 w6 hown6 hgr6 hat6 hlt6
            have N1 : Hid (TRow w6 w.heap.size (some ⟨gB, 0, none⟩) cap6 ((ts.take (k + 1)).map (shiftTy fr bY))) := by
              have KF : KeepE w.heap.size 33 wr w6 := (KeepE.below ((Below.refl _ _).alloc (Nat.le_refl _) _)).trans (KeepE.grown (HO.out.alloc _) hgr6 (by decide))
              show TRow _ _ _ _ _
              rw [HNx.out, ETy.out]
              refine TRow.snoc (fa := na) (fc := nc) (xs := xs) (fun i hi => (HTv.out i hi).keep KF) HXL.out (owns_keepE (FR.out.lower sw) KF) ?_
              rw [HLE.out]
              show w6.ownsRow _ _ _ _ _ (xs ++ [.int .i64 tk, .int .i64 (tu), .bool tl, .slice na fs.length nc])
              rw [HL'.out]
              exact hown6
            have N2 := hide (((HBw.out.trans (BW.out.mono sw)).alloc (by omega) (.cells #[.int .i64 tk, .int .i64 (tu), .bool tl, .slice na tf.length nc] 44)).grown hgr6 (by simp; omega) (owns_base HO.out))
            clear hown6 hgr6 hat6
            go_wp2_with fail
            exact ⟨⟨k + 1, some ⟨gB, 0, none⟩, cap6, by omega, by go_num, rfl, N1, N2⟩, by simp [intOf]; omega⟩
    · have hkn' : Hid (k = ts.length) := Nat.le_antisymm hk (Nat.le_of_not_lt hkn)
      go_wp2_with fail
      go_ret
      rw [hkn'.out] at HT ⊢
      refine ⟨ra, rc, rfl, ?_, HBw.out⟩
      have := HT.out
      rwa [List.take_length] at this
end Go.Proofs.YtblliefejffhoaaGreatDoor

/- l1Cap of the model: a group in which nothing names what is not there yet, in memory of its own. -/
namespace Go.Proofs.YtblliefejffhoaaGreatDoor
open Go.ChangeShapes Go.WideShapes Go.ChangeAt Go.RowKit
set_option linter.unusedVariables false

def capFd (n : Int) (f : Fd) : Fd := ⟨f.kind, if f.of < n - 1 then f.of else n - 1, f.mt⟩
def capTy (n : Int) (t : Ty) : Ty := ⟨t.kind, t.up, t.last, t.fields.map (capFd n)⟩

set_option maxHeartbeats 1600000 in
theorem l1Min_cap (a b : Int) (w : World) : Calls Tryz.prog 124 #[.int .i64 a, .int .i64 b] w fun e w' => e = .returned (.int .i64 (if a < b then a else b)) ∧ w' = w := by
  by_cases h : a < b
  · have h' : (if a < b then a else b) = a := if_pos h
    rw [h']
    go_enter Tryz.func124, Tryz.ntmps124
    go_wp2_with fail
    go_ret
    exact ⟨rfl, rfl⟩
  · have h' : (if a < b then a else b) = b := if_neg h
    rw [h']
    have h2 : b ≤ a := by omega
    go_enter Tryz.func124, Tryz.ntmps124
    go_wp2_with fail
    go_ret
    exact ⟨rfl, rfl⟩

set_option maxHeartbeats 4000000 in
set_option maxRecDepth 100000 in
theorem l1Cap_any (a : Option Addr) (cap lo hi : Nat) (ts : List Ty) (n : Int) (w : World) (hS : Small ts) (b0 : -1000 ≤ n) (b1 : n ≤ 1000) (hx : TypesIn w lo hi a ts) (hh : hi ≤ w.heap.size) :
    Calls Tryz.prog 103 #[.slice a ts.length cap, .int .i64 n] w fun e w' => ∃ na nc, e = .returned (.slice na ts.length nc) ∧ TRow w' w.heap.size na nc (ts.map (capTy n)) ∧ Below w.heap.size w w' := by
  have hw : IntKind.i64.wrap (n - 1) = n - 1 := by
    simp [IntKind.wrap, IntKind.signed, IntKind.bits]
    omega
  have n1 := hS.1
  have HSm := hide hS
  have HX := hide hx
  clear hS hx
  obtain ⟨i0, hi0, hzz⟩ := Option.map_eq_some_iff.1 Tryz.infoType
  simp only [Prod.mk.injEq] at hzz
  obtain ⟨hz0, hs0, hb0⟩ := hzz
  have HZ := hide hz0
  have HS := hide hs0
  have HB := hide hb0
  have HI := hide hi0
  clear hz0 hs0 hb0 hi0
  go_enter Tryz.func103, Tryz.ntmps103
  go_wp2_with fail
  go_loopw [5, 6] (fun v i wr => ∃ (k : Nat) (ra : Option Addr) (rc : Nat), k ≤ ts.length ∧ i = .int .i64 (k : Int) ∧ v = .slice ra k rc ∧ Hid (TRow wr w.heap.size ra rc ((ts.take k).map (capTy n))) ∧ Hid (Below w.heap.size w wr)) (fun v i wr => ts.length - (intOf i).toNat)
  case atStart =>
    refine ⟨0, _, _, Nat.zero_le _, rfl, rfl, ⟨[], empty_row _ _ _ _ 4 (Deep.blk_alloc_new _ _) (Nat.le_refl _), fun i hi => absurd hi (by simp)⟩, (Below.refl _ _).alloc (Nat.le_refl _) _⟩
  case round =>
    obtain ⟨k, ra, rc, hk, rfl, rfl, HT, HBw⟩ := hrel
    obtain ⟨wo, hwo⟩ : ∃ x, x = wr := ⟨wr, rfl⟩
    subst hwo
    have sw := HBw.out.size
    by_cases hkn : k < ts.length
    · rcases HX.out with hnil | ⟨b, off, rfl, l1, l2, h3⟩
      · exfalso; rw [hnil] at hkn; exact absurd hkn (Nat.not_lt_zero _)
      obtain ⟨e0, e1, e2, fa, fc, e3, e4⟩ := (h3 k hkn).same (Same.of_below HBw.out hh) (Nat.le_refl _) (Nat.le_refl _) l1 l2
      have HMk := hide (HSm.out.2 k hkn)
      have HNx := hide (take_map_snoc (capTy n) ts k hkn)
      generalize tyAt ts k = T at *
      obtain ⟨tk, tu, tl, tf⟩ := T
      simp only at e0 e1 e2 e3 e4
      have E4 := hide e4
      obtain ⟨f1, ⟨u1, u2⟩, fo⟩ := HMk.out
      simp only at f1 u1 u2 fo
      have FO := hide fo
      have bsz : b < wo.heap.size := cell_lt e0
      have k1 : (0 : Int) ≤ (k : Int) := by omega
      have k2 : (k : Int) < (ts.length : Int) := by omega
      clear h3 e4 fo
      go_wp2_with fail
      refine (l1Copy_row fa fc lo hi ⟨tk, tu, tl, tf⟩ wo (by show tf.length ≤ _; omega) E4.out (Nat.le_trans hh sw)).mono ?_
      rintro e w2 ⟨na, nc, rfl, hf2, hb2⟩
      have F2 : Hid (FieldRow w2 wo.heap.size na nc tf) := hf2
      have HB2 := hide hb2
      have B2 := hide (HBw.out.trans (hb2.mono sw))
      have s2 : wo.heap.size ≤ w2.heap.size := hb2.size
      clear hf2 hb2 e0 e1 e2 e3 E4
      simp only
      go_wp2_with fail
      go_loopw [8] (fun kv wi => ∃ (j : Nat) (fs : List Fd), kv = .int .i64 (j : Int) ∧ j ≤ tf.length ∧ Hid (fs.length = tf.length) ∧ Hid (∀ i, i < tf.length → fdAt fs i = if i < j then capFd n (fdAt tf i) else fdAt tf i) ∧ Hid (Rec wi w2.heap.size 44 [.int .i64 tk, .int .i64 (tu), .bool tl, .slice na tf.length nc]) ∧ Hid (FieldRow wi wo.heap.size na nc fs) ∧ Hid (Below wo.heap.size wo wi)) (fun kv wi => tf.length - (intOf kv).toNat)
      case atStart =>
        exact ⟨0, tf, rfl, Nat.zero_le _, rfl, fun i _ => by rw [if_neg (Nat.not_lt_zero _)], Rec.new _ _ _, owns_below F2.out ((Below.refl _ _).alloc (Nat.le_refl _) _), HB2.out.alloc s2 _⟩
      case round =>
        clear HB2 B2 F2
        obtain ⟨j, fs, rfl, hj, HL, HF, RT, FR, BW⟩ := hrel
        have c0 := RT.out.cell (o := 0) rfl
        have c1 := RT.out.cell (o := 1) rfl
        have c2 := RT.out.cell (o := 2) rfl
        have c3 := RT.out.cell (o := 3) rfl
        have tlt := RT.out.lt
        have sw2 := BW.out.size
        by_cases hjn : j < tf.length
        · have hjf : j < fs.length := by have := HL.out; omega
          rcases FR.out.2 with ⟨h0, _⟩ | ⟨fb, cap', cur, h0, hS', hg', _⟩
          · exfalso; simp at h0; rw [h0.2.1] at hjf; exact absurd hjf (Nat.not_lt_zero _)
          simp at h0
          obtain ⟨rfl, rfl⟩ := h0
          have hne : fb ≠ w2.heap.size := by
            intro h
            have hr := RT.out
            unfold Rec at hr
            rw [← h, hg'] at hr
            simp at hr
          have hfz : ∀ o, wr.frozen? ⟨fb, o, none⟩ = false := fun o => by simp [World.frozen?, hg']
          have z1 := hfz (j * 3 + 1)
          obtain ⟨m0, m1, m2⟩ : FieldAt wr fb (j * 3) (fdAt fs j) := by
            rcases FR.out.fields with hnil | ⟨b', off', he, _, _, hq⟩
            · exfalso; rw [hnil] at hjf; exact absurd hjf (Nat.not_lt_zero _)
            · simp at he
              obtain ⟨rfl, rfl⟩ := he
              have := hq j hjf
              rwa [Nat.zero_add] at this
          have HFj := HF.out j hjn
          rw [if_neg (Nat.lt_irrefl _)] at HFj
          rw [HFj] at m0 m1 m2
          obtain ⟨fo1, fo2⟩ := FO.out j hjn
          have HG : Hid (∀ i, i < tf.length → fdAt fs i = if i < j then capFd n (fdAt tf i) else fdAt tf i) := HF
          have HFj' : Hid (fdAt fs j = fdAt tf j) := HFj
          have hflt : fb < wr.heap.size := (Array.getElem?_eq_some_iff.1 hg').1
          have HE : Hid (wr.heap[fb]? = some (.cells cur 33 (0, 0))) := hg'
          have j1 : (0 : Int) ≤ (j : Int) := by omega
          have j2 : (j : Int) < (tf.length : Int) := by omega
          have HSF : Hid (capFd n (fdAt tf j) = ⟨(fdAt tf j).kind, if (fdAt tf j).of < n - 1 then (fdAt tf j).of else n - 1, (fdAt tf j).mt⟩) := rfl
          generalize hF0 : fdAt tf j = F0 at *
          obtain ⟨fk, fo, fm⟩ := F0
          simp only at m0 m1 m2 fo1 fo2
          have hS2 : wo.heap.size ≤ fb := hS'
          clear hg' hfz HFj HF hS'
          generalize hV : (if fo < n - 1 then fo else n - 1) = V at *
          have N1 : Hid (FieldRow (wr.setCell ⟨fb, j * 3 + 1, none⟩ (.int .i64 V)) wo.heap.size (some ⟨fb, 0, none⟩) nc (setOf fs j V)) := FieldRow.setOf FR.out j _ hjf
          have N2 := hide (RT.out.other (show w2.heap.size ≠ fb by omega) (j * 3 + 1) (.int .i64 V))
          have N3 : Hid (Below wo.heap.size wo (wr.setCell ⟨fb, j * 3 + 1, none⟩ (.int .i64 V))) := BW.out.setCell hS2 _
          have N4 : Hid (∀ i, i < tf.length → fdAt (setOf fs j V) i = if i < j + 1 then capFd n (fdAt tf i) else fdAt tf i) := by
            intro i hi
            rw [setOf_at _ _ _ _ hjf, HFj'.out]
            by_cases e : i = j
            · subst e
              rw [if_pos rfl, if_pos (Nat.lt_succ_self _), hF0, HSF.out]
            · rw [if_neg e, HG.out i hi]
              by_cases e2 : i < j
              · rw [if_pos e2, if_pos (by omega)]
              · rw [if_neg e2, if_neg (by omega)]
          have HMn : Hid (∀ w', Calls Tryz.prog 124 #[.int .i64 fo, .int .i64 (n - 1)] w' fun e w'' => e = .returned (.int .i64 V) ∧ w'' = w') := fun w' => by have h9 := l1Min_cap fo (n - 1) w'; rwa [hV] at h9
          have HV := hide hV
          clear hV
          go_wp2_with fail
          go_region_law ((first | (go_simp; go_at_call 124; refine (HMn.out _).mono ?_; rintro e w7 ⟨rfl, rfl⟩)))
          all_goals
            go_wp2_with fail
            exact ⟨⟨j + 1, setOf fs j V, by go_num, by omega, (by show (setOf fs j V).length = _; rw [setOf_length]; exact HL.out), N4, N2, N1, N3.out.drew⟩, by simp [intOf]; omega⟩
        · have hje : Hid (j = tf.length) := Nat.le_antisymm hj (Nat.le_of_not_lt hjn)
          have HTT : Hid (TRow wr w.heap.size ra rc ((ts.take k).map (capTy n))) := HT.out.below BW.out
          obtain ⟨xs, hown, hTv⟩ := HTT.out
          have hlen : ((ts.take k).map (capTy n)).length = k := by simp; omega
          have HXL := hide hown.1
          have HLE := hide hlen
          have HTv := hide hTv
          rw [hlen] at hown
          have HO := hide hown
          have ETy : Hid (capTy n ⟨tk, tu, tl, tf⟩ = ⟨tk, tu, tl, fs⟩) := by
            show (⟨tk, tu, tl, tf.map (capFd n)⟩ : Ty) = _
            congr 1
            refine (fd_ext (by simp [HL.out]) fun i hi => ?_).symm
            have hi' : i < tf.length := by have := HL.out; omega
            rw [HF.out i hi', if_pos (by have := hje.out; omega), fdAt_map _ _ _ hi']
          have HL' := HL
          clear hown hTv hlen HTT
          go_wp2_with (first | (at_builtin; refine wpList_append_lies _ rfl _ _ 42 rfl w.heap.size 44 i0 _ 4 48 Tryz.underlying42 HI.out HZ.out HS.out HB.out rfl (by decide) _ _ xs rfl (HO.out.alloc _) ⟨wr.heap.size, 0, none⟩ 1 1 [.int .i64 tk, .int .i64 (tu), .bool tl, .slice na tf.length nc] rfl rfl ?c1 ?c2 (by decide) ?c3 ?c4 ?c5 _ rfl ?_))
          case c1 => exact World.news_of_block (Deep.blk_alloc_new _ _)
          case c2 => intro u hu; simp at hu; rcases hu with rfl | rfl | rfl | rfl <;> rfl
          case c3 => unfold maxLen; omega
          case c4 => omega
          case c5 => simp; omega
          intro gB cap6 w6 hown6 hgr6 hat6 hlt6
          have N1 : Hid (TRow w6 w.heap.size (some ⟨gB, 0, none⟩) cap6 ((ts.take (k + 1)).map (capTy n))) := by
            have KF : KeepE w.heap.size 33 wr w6 := (KeepE.below ((Below.refl _ _).alloc (Nat.le_refl _) _)).trans (KeepE.grown (HO.out.alloc _) hgr6 (by decide))
            show TRow _ _ _ _ _
            rw [HNx.out, ETy.out]
            refine TRow.snoc (fa := na) (fc := nc) (xs := xs) (fun i hi => (HTv.out i hi).keep KF) HXL.out (owns_keepE (FR.out.lower sw) KF) ?_
            rw [HLE.out]
            show w6.ownsRow _ _ _ _ _ (xs ++ [.int .i64 tk, .int .i64 (tu), .bool tl, .slice na fs.length nc])
            rw [HL'.out]
            exact hown6
          have N2 := hide (((HBw.out.trans (BW.out.mono sw)).alloc (by omega) (.cells #[.int .i64 tk, .int .i64 (tu), .bool tl, .slice na tf.length nc] 44)).grown hgr6 (by simp; omega) (owns_base HO.out))
          clear hown6 hgr6 hat6
          go_wp2_with fail
          exact ⟨⟨k + 1, some ⟨gB, 0, none⟩, cap6, by omega, by go_num, rfl, N1, N2⟩, by simp [intOf]; omega⟩
    · have hkn' : Hid (k = ts.length) := Nat.le_antisymm hk (Nat.le_of_not_lt hkn)
      go_wp2_with fail
      go_ret
      rw [hkn'.out] at HT ⊢
      refine ⟨ra, rc, rfl, ?_, HBw.out⟩
      have := HT.out
      rwa [List.take_length] at this
end Go.Proofs.YtblliefejffhoaaGreatDoor

/- Rows of groups of the draws' own; groups and one more. -/
namespace Go.Proofs.YtblliefejffhoaaGreatDoor
open Go.ChangeShapes Go.WideShapes Go.ChangeAt Go.RowKit Go.Deep
set_option linter.unusedVariables false

/-- The groups gs lie at a, in a row of the call's own from block S on, and so do their types. -/
def GRow (w : World) (S : Nat) (a : Option Addr) (cap : Nat) (gs : List (List Ty)) : Prop :=
  ∃ xs, w.ownsRow S 42 1 (.slice a gs.length cap) gs.length xs ∧ ∀ i, i < gs.length → ∃ ta tc, xs[i]? = some (.slice ta (grAt gs i).length tc) ∧ TRow w S ta tc (grAt gs i)

/-- All that the draws' own lists lie in is as it was. -/
def KeepT (S : Nat) (w w' : World) : Prop := KeepE S 44 w w' ∧ KeepE S 33 w w'
theorem KeepT.below {S : Nat} {w w' : World} (h : Below w.heap.size w w') : KeepT S w w' := ⟨.below h, .below h⟩
theorem KeepT.only {S g : Nat} {w w' : World} (h : Only g w w') (hg : g < S) : KeepT S w w' := ⟨.only h hg, .only h hg⟩
theorem KeepT.trans {S : Nat} {a b c : World} (h : KeepT S a b) (k : KeepT S b c) : KeepT S a c := ⟨h.1.trans k.1, h.2.trans k.2⟩
theorem KeepT.grown {S S' n : Nat} {w w' : World} {v : Value} {xs : List Value} (ho : w.ownsRow S' 42 1 v n xs) (hg : w.grownBy w' v.ownBlock) : KeepT S w w' := ⟨.grown ho hg (by decide), .grown ho hg (by decide)⟩

theorem GRow.keep {w w' : World} {S cap : Nat} {a : Option Addr} {gs : List (List Ty)} (h : GRow w S a cap gs) (h1 : KeepE S 42 w w') (h2 : KeepT S w w') : GRow w' S a cap gs := by
  obtain ⟨xs, ho, ht⟩ := h
  refine ⟨xs, owns_keepE ho h1, fun i hi => ?_⟩
  obtain ⟨ta, tc, hc, hr⟩ := ht i hi
  exact ⟨ta, tc, hc, hr.keep h2.1 h2.2⟩
theorem GRow.below {w w' : World} {S cap : Nat} {a : Option Addr} {gs : List (List Ty)} (h : GRow w S a cap gs) (hb : Below w.heap.size w w') : GRow w' S a cap gs := h.keep (.below hb) (.below hb)
theorem GRow.only {w w' : World} {S cap g : Nat} {a : Option Addr} {gs : List (List Ty)} (h : GRow w S a cap gs) (hb : Only g w w') (hg : g < S) : GRow w' S a cap gs := h.keep (.only hb hg) (.only hb hg)
theorem GRow.groups {w : World} {S cap : Nat} {a : Option Addr} {gs : List (List Ty)} (h : GRow w S a cap gs) : GroupsIn w S w.heap.size a gs := by
  obtain ⟨xs, ho, hT⟩ := h
  rcases owns_cells ho with h0 | ⟨g, rfl, hS, hlt, hc⟩
  · exact .inl (List.length_eq_zero_iff.1 (by omega))
  · refine .inr ⟨g, 0, rfl, hS, hlt, fun i hi => ?_⟩
    obtain ⟨ta, tc, hx, hr⟩ := hT i hi
    exact ⟨ta, tc, by rw [Nat.zero_add, hc i (by omega)]; exact hx, hr.types⟩
theorem grAt_append_left (l r : List (List Ty)) (i : Nat) (h : i < l.length) : grAt (l ++ r) i = grAt l i := by
  simp [grAt, List.getD, List.getElem?_append_left h]
theorem grAt_append_one (l : List (List Ty)) (t : List Ty) : grAt (l ++ [t]) l.length = t := by
  simp [grAt, List.getD]
/-- One group more. -/
theorem GRow.snoc {w1 : World} {S cap' : Nat} {a' : Option Addr} {gs : List (List Ty)} {t : List Ty} {ta : Option Addr} {tc : Nat} {xs : List Value}
    (hT : ∀ i, i < gs.length → ∃ ta tc, xs[i]? = some (.slice ta (grAt gs i).length tc) ∧ TRow w1 S ta tc (grAt gs i)) (hl : xs.length = gs.length) (hf : TRow w1 S ta tc t)
    (ho : w1.ownsRow S 42 1 (.slice a' (gs.length + 1) cap') (gs.length + 1) (xs ++ [.slice ta t.length tc])) :
    GRow w1 S a' cap' (gs ++ [t]) := by
  refine ⟨_, by simpa using ho, fun i hi => ?_⟩
  by_cases e : i < gs.length
  · rw [grAt_append_left _ _ _ e]
    obtain ⟨ta', tc', hx, hr⟩ := hT i e
    exact ⟨ta', tc', by rw [List.getElem?_append_left (by omega)]; exact hx, hr⟩
  · have : i = gs.length := by simp at hi; omega
    subst this
    rw [grAt_append_one]
    exact ⟨ta, tc, by simp [← hl], hf⟩
theorem GRow.len {w : World} {S cap : Nat} {a : Option Addr} {gs : List (List Ty)} (h : GRow w S a cap gs) : gs.length ≤ cap := by
  obtain ⟨xs, ho, _⟩ := h
  exact owns_cap ho

/-- How many types there are, with one group more. -/
theorem countTo_congr {G G' : Nat → List Ty} : ∀ k, (∀ i, i < k → G i = G' i) → countTo G k = countTo G' k := by
  intro k
  induction k with
  | zero => intro _; rfl
  | succ k ih => intro h; simp only [countTo]; rw [ih (fun i hi => h i (by omega)), h k (by omega)]
theorem countTo_snoc (gs : List (List Ty)) (t : List Ty) (x : Nat) (hx : x ≤ gs.length) : countTo (grAt (gs ++ [t])) x = countTo (grAt gs) x :=
  countTo_congr x fun i hi => grAt_append_left _ _ _ (by omega)
theorem kinCount_snoc (gs : List (List Ty)) (t : List Ty) : kinCount (gs ++ [t]) = kinCount gs + t.length := by
  unfold kinCount
  rw [List.length_append]
  show countTo _ (gs.length + 1) = _
  simp only [countTo]
  rw [countTo_snoc _ _ _ (Nat.le_refl _), grAt_append_one]

/-- A type's parts are small: those of the group x, its place among all m. -/
def TInv (x m : Nat) (t : Ty) : Prop := t.fields.length ≤ 4 ∧ (-1 ≤ t.up ∧ t.up < (m : Int)) ∧ ∀ j, j < t.fields.length → -2 ≤ (fdAt t.fields j).of ∧ (fdAt t.fields j).of ≤ 100 * (x + 1 : Nat)
/-- Groups that were drawn. -/
def GInv (gs : List (List Ty)) : Prop := gs.length ≤ 3 ∧ ∀ x, x < gs.length → (grAt gs x).length ≤ 3 ∧ ∀ i, i < (grAt gs x).length → TInv x (countTo (grAt gs) x + i) (tyAt (grAt gs x) i)

theorem GInv.count {gs : List (List Ty)} (h : GInv gs) : ∀ x, x ≤ gs.length → countTo (grAt gs) x ≤ 3 * x := by
  intro x
  induction x with
  | zero => intro _; simp [countTo]
  | succ x ih => intro hx; have := ih (by omega); have := (h.2 x (by omega)).1; simp only [countTo]; omega
theorem GInv.few {gs : List (List Ty)} (h : GInv gs) : Few gs :=
  ⟨by have := h.1; omega, fun i hi => ⟨by have := (h.2 i hi).1; omega, fun j hj => by have := ((h.2 i hi).2 j hj).1; omega⟩⟩
theorem GInv.nil : GInv [] := ⟨by simp, fun x hx => absurd hx (by simp)⟩
/-- A group so far. -/
def PInv (gs : List (List Ty)) (t : List Ty) : Prop := t.length ≤ 3 ∧ ∀ i, i < t.length → TInv gs.length (kinCount gs + i) (tyAt t i)
theorem GInv.snoc {gs : List (List Ty)} {t : List Ty} (h : GInv gs) (hl : gs.length ≤ 2) (ht : PInv gs t) : GInv (gs ++ [t]) := by
  refine ⟨by simp; omega, fun x hx => ?_⟩
  by_cases e : x < gs.length
  · rw [grAt_append_left _ _ _ e, countTo_snoc _ _ _ (by omega)]
    exact h.2 x e
  · have : x = gs.length := by simp at hx; omega
    subst this
    rw [grAt_append_one, countTo_snoc _ _ _ (Nat.le_refl _)]
    exact ht
theorem TInv.up {x m : Nat} {t : Ty} (h : TInv x m t) (hx : x ≤ 9) : t.fields.length ≤ 4 ∧ (-1 ≤ t.up ∧ t.up < (m : Int)) ∧ ∀ j, j < t.fields.length → -2 ≤ (fdAt t.fields j).of ∧ (fdAt t.fields j).of ≤ 1000 :=
  ⟨h.1, h.2.1, fun j hj => by have := h.2.2 j hj; omega⟩
theorem GInv.partsW {gs : List (List Ty)} (h : GInv gs) (h8 : kinCount gs ≤ 8) : PartsW gs :=
  ⟨h8, fun x hx i hi => ((h.2 x hx).2 i hi).up (by have := h.1; omega)⟩
theorem PInv.snoc {gs : List (List Ty)} {t : List Ty} {u : Ty} (h : PInv gs t) (hl : t.length ≤ 2) (hu : TInv gs.length (kinCount gs + t.length) u) : PInv gs (t ++ [u]) := by
  refine ⟨by simp; omega, fun i hi => ?_⟩
  by_cases e : i < t.length
  · rw [tyAt_append_left _ _ _ e]; exact h.2 i e
  · have : i = t.length := by simp at hi; omega
    subst this
    rw [tyAt_append_one]; exact hu
end Go.Proofs.YtblliefejffhoaaGreatDoor

/- What l1Kin wants besides: the last type of a row turned, groups and one more by two appends, and that what is drawn is small. -/
namespace Go.Proofs.YtblliefejffhoaaGreatDoor
open Go.ChangeShapes Go.WideShapes Go.ChangeAt Go.RowKit Go.Deep
set_option linter.unusedVariables false

theorem GRow.and {w w2 : World} {S B cap2 tc g2 : Nat} {ta : Option Addr} {gs : List (List Ty)} {ts : List Ty} {xs : List Value} (hx : ∀ i, i < gs.length → ∃ ta tc, xs[i]? = some (.slice ta (grAt gs i).length tc) ∧ TRow w S ta tc (grAt gs i)) (hl : xs.length = gs.length)
    (ht : TRow w S ta tc ts) (hb : Below w.heap.size w w2) (ho : w2.ownsRow B 42 1 (.slice (some ⟨g2, 0, none⟩) (gs.length + 1) cap2) (gs.length + 1) (xs ++ [.slice ta ts.length tc])) (hB : S ≤ B) :
    GRow w2 S (some ⟨g2, 0, none⟩) cap2 (gs ++ [ts]) :=
  GRow.snoc (fun i hi => by obtain ⟨ta', tc', h1, h2⟩ := hx i hi; exact ⟨ta', tc', h1, h2.below hb⟩) hl (ht.below hb) (owns_lower ho hB)
theorem GRow.one {gs : List (List Ty)} {w : World} {S : Nat} {xs : List Value} (hl : xs.length = gs.length) (hx : ∀ i, i < gs.length → ∃ ta tc, xs[i]? = some (.slice ta (grAt gs i).length tc) ∧ TRow w S ta tc (grAt gs i)) : ∀ u ∈ xs, u.oneCell' = true := by
  intro u hu
  obtain ⟨i, hi, rfl⟩ := List.mem_iff_getElem.1 hu
  obtain ⟨ta, tc, h1, _⟩ := hx i (by omega)
  rw [List.getElem?_eq_getElem hi] at h1
  injection h1 with h1
  rw [h1]; rfl
theorem row_news {w : World} {S e n cap gb : Nat} {xs : List Value} (h : w.ownsRow S e 1 (.slice (some ⟨gb, 0, none⟩) n cap) n xs) : ∀ j u, xs[j]? = some u → w.cell? ((⟨gb, 0, none⟩ : Addr).add j) = some u := by
  intro j u hj
  have hlt := (List.getElem?_eq_some_iff.1 hj).1
  have hl := h.1
  rcases owns_cells h with h0 | ⟨g, hg, _, _, hc⟩
  · omega
  · simp at hg
    subst hg
    rw [add_plain, Nat.zero_add, hc j (by omega)]
    exact hj

theorem PInv.small {gs : List (List Ty)} {t : List Ty} (h : PInv gs t) (hg : gs.length ≤ 2) (hk : kinCount gs ≤ 9) : Small t := by
  refine ⟨by have := h.1; omega, fun i hi => ?_⟩
  have hl := h.1
  obtain ⟨h1, h2, h3⟩ := h.2 i hi
  exact ⟨by omega, ⟨by omega, by omega⟩, fun j hj => by have := h3 j hj; omega⟩
theorem PInv.cap_few {gs : List (List Ty)} {t : List Ty} (h : PInv gs t) (hG : GInv gs) (n : Int) : Few (gs ++ [t.map (capTy n)]) := by
  have hF := hG.few
  refine ⟨by have := hG.1; simp; omega, fun i hi => ?_⟩
  by_cases e : i < gs.length
  · rw [grAt_append_left _ _ _ e]; exact hF.2 i e
  · have : i = gs.length := by simp at hi; omega
    subst this
    rw [grAt_append_one]
    refine ⟨by have := h.1; simp; omega, fun j hj => ?_⟩
    have hj' : j < t.length := by simpa using hj
    have : tyAt (t.map (capTy n)) j = capTy n (tyAt t j) := by simp [tyAt, hj']
    rw [this]
    have := (h.2 j hj').1
    simp [capTy]
    omega
theorem shift_pinv {gs : List (List Ty)} (h : GInv gs) {x : Nat} (hx : x < gs.length) : PInv gs ((grAt gs x).map (shiftTy (beg gs x : Int) ((kinCount gs : Int) - (beg gs x : Int)))) := by
  refine ⟨by have := (h.2 x hx).1; simpa using this, fun i hi => ?_⟩
  have hi' : i < (grAt gs x).length := by simpa using hi
  have e : tyAt ((grAt gs x).map (shiftTy (beg gs x : Int) ((kinCount gs : Int) - (beg gs x : Int)))) i = shiftTy (beg gs x : Int) ((kinCount gs : Int) - (beg gs x : Int)) (tyAt (grAt gs x) i) := by simp [tyAt, hi']
  rw [e]
  obtain ⟨h1, h2, h3⟩ := (h.2 x hx).2 i hi'
  have hb : beg gs x ≤ kinCount gs := beg_le (by omega)
  have hc := h.count gs.length (Nat.le_refl _)
  have hl := h.1
  have hk : kinCount gs ≤ 9 := by unfold kinCount; omega
  refine ⟨by simpa [shiftTy] using h1, ?_, fun j hj => ?_⟩
  · unfold beg at *
    simp only [shiftTy]
    split <;> omega
  · have hj' : j < (tyAt (grAt gs x) i).fields.length := by simpa [shiftTy] using hj
    have := h3 j hj'
    simp only [shiftTy]
    rw [fdAt_map _ _ _ hj']
    unfold shiftFd
    split
    · simp only; omega
    · omega

/-- The last type of a row, written anew. -/
theorem TRow.setLast {w : World} {S b cap : Nat} {ts : List Ty} {t t0 : Ty} (h : TRow w S (some ⟨b, 0, none⟩) cap (ts ++ [t])) {fa : Option Addr} {fc : Nat} {w' : World}
    (hw : w' = (((w.setCell ⟨b, ts.length * 4, none⟩ (.int .i64 t0.kind)).setCell ⟨b, ts.length * 4 + 1, none⟩ (.int .i64 t0.up)).setCell ⟨b, ts.length * 4 + 2, none⟩ (.bool t0.last)).setCell ⟨b, ts.length * 4 + 3, none⟩ (.slice fa t0.fields.length fc))
    (hf : FieldRow w S fa fc t0.fields) : TRow w' S (some ⟨b, 0, none⟩) cap (ts ++ [t0]) := by
  obtain ⟨xs, ho, hT⟩ := h
  have hl := ho.1
  simp at hl
  rcases ho.2 with ⟨h0, _⟩ | ⟨g, cap', cur, h0, hS, hg, h1, h2, h3, h4⟩
  · simp at h0
  simp at h0
  obtain ⟨rfl, rfl⟩ := h0
  have hb' : w'.heap[b]? = some (.cells ((((cur.setIfInBounds (ts.length * 4) (.int .i64 t0.kind)).setIfInBounds (ts.length * 4 + 1) (.int .i64 t0.up)).setIfInBounds (ts.length * 4 + 2) (.bool t0.last)).setIfInBounds (ts.length * 4 + 3) (.slice fa t0.fields.length fc)) 44 (0, 0)) := by
    rw [hw]
    simp [World.setCell, Array.getElem?_modify, hg]
  have hk : KeepE S 33 w w' := fun k c hS hk => by
    have hne : k ≠ b := by
      intro e
      subst e
      rw [hk] at hg
      simp at hg
    rw [hw, Below.heap_setCell _ _ _ _ hne, Below.heap_setCell _ _ _ _ hne, Below.heap_setCell _ _ _ _ hne, Below.heap_setCell _ _ _ _ hne]
  refine ⟨(((xs.set (ts.length * 4) (.int .i64 t0.kind)).set (ts.length * 4 + 1) (.int .i64 t0.up)).set (ts.length * 4 + 2) (.bool t0.last)).set (ts.length * 4 + 3) (.slice fa t0.fields.length fc), ⟨by simp [hl], .inr ⟨b, cap, _, by simp, hS, hb', by simpa using h1, h2, by simpa using h3, ?_⟩⟩, fun i hi => ?_⟩
  · rw [← h4]
    simp only [Array.toList_setIfInBounds, List.take_set, List.length_append, List.length_singleton]
  · by_cases e : i < ts.length
    · rw [tyAt_append_left _ _ _ e]
      have := hT i (by simp; omega)
      rw [tyAt_append_left _ _ _ e] at this
      obtain ⟨a, b', c, fa', fc', d, f⟩ := this
      refine ⟨?_, ?_, ?_, fa', fc', ?_, owns_keepE f hk⟩
      all_goals
        rw [List.getElem?_set_ne (by omega), List.getElem?_set_ne (by omega), List.getElem?_set_ne (by omega), List.getElem?_set_ne (by omega)]
        assumption
    · have : i = ts.length := by simp at hi; omega
      subst this
      rw [tyAt_append_one]
      refine ⟨?_, ?_, ?_, fa, fc, ?_, owns_keepE hf hk⟩
      all_goals simp [List.getElem?_set, hl]
      all_goals omega
end Go.Proofs.YtblliefejffhoaaGreatDoor
