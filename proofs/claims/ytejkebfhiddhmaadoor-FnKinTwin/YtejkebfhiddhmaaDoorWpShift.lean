/- wpShift of the laws: a group that stands further on, in memory of its own. Written by tools/made/wpshift.py. -/
import Derived.Test.YtejkebfhiddhmaaDoorKaRow
import Derived.Deep.CutRange
import Derived.Deep.RegionHeld3
namespace Go.Proofs.YtejkebfhiddhmaaDoor
open Go.ChangeShapes Go.WideShapes Go.ChangeAt Go.RowKit
set_option linter.unusedVariables false
set_option linter.unusedSimpArgs false

theorem blk_at' (w : World) (o : Obj) (b : Nat) (hb : b = w.heap.size) : (w.alloc o).heap[b]? = some o := hb ▸ Deep.blk_alloc_new _ _
theorem blk_past' (w : World) (o x : Obj) (b : Nat) (hb : b < w.heap.size) (h : w.heap[b]? = some x) : (w.alloc o).heap[b]? = some x := (Below.heap_alloc _ _ _ hb).trans h
theorem drew_blk' {w : World} {k : Nat} {o : Obj} (h : w.heap[k]? = some o) : w.drew.heap[k]? = some o := h
theorem rec_drew' {w : World} {b : Nat} {T : TypeId} {vs : List Value} (h : Rec w b T vs) : Rec w.drew b T vs := h
theorem cell_ne' {w : World} {b b' o o' : Nat} (v : Value) (x : Option Value) (h : b ≠ b') : (w.setCell ⟨b', o', none⟩ v).cell? ⟨b, o, none⟩ = w.cell? ⟨b, o, none⟩ := World.cell?_of_block (w := w) (Below.heap_setCell _ _ _ _ h)
theorem step_append_rowW {ops : Array Oper} {o : Oper} {ac : Act} {K : Act → World → Prop} {Q : Exit → Act → World → Prop} {E : Prop} {w : World} (s x : Operand) (hgd : o.guard = none)
    (ho : o.op = .call { callee := .builtin .append, args := #[s, x], argTypes := #[26, 26] })
    (S B : Nat) (hs : ac.eval s = .slice (some ⟨B, 0, none⟩) 0 0) (hB : w.heap[B]? = some (.cells #[] 35 (0, 0))) (hS : S ≤ B)
    (fa : Option Addr) (fc lo hi : Nat) (fs : List Fd) (hx : ac.eval x = .slice fa fs.length fc) (hn : fs.length ≤ 1048576) (hf : FieldsIn w lo hi fa fs)
    (h : ∀ na nc w', FieldRow w' S na nc fs → Below w.heap.size w w' → K (ac.put o.dst (.slice na fs.length nc)) w') :
    if Region.wanted o (yielded ops ac.tmps) = true then Oper.wp Tryd.prog o ac w K Q else E := by
  have hw : Region.wanted o (yielded ops ac.tmps) = true := by simp [Region.wanted, hgd]
  rw [if_pos hw]
  obtain ⟨na, nc, w', hq, h2, h3⟩ := run_append_row o.type S B fa fc lo hi fs w hn hf hB hS
  unfold Oper.wp execOp
  simp only [ho, resolve, invoke, builtin, Sem.run_bind, Sem.run_pure, Result.andThen_ok, List.map_toArray, List.map_cons, List.map_nil, hs, hx, hq]
  exact h na nc w' h2 h3
/-- A row of fields stays where a type's block turns. -/
theorem row_set {w : World} {S b nc : Nat} {na : Option Addr} {fs : List Fd} {vs : List Value} (h : FieldRow w S na nc fs) (hr : Rec w b 28 vs) (o : Nat) (v : Value) : FieldRow (w.setCell ⟨b, o, none⟩ v) S na nc fs :=
  owns_of_block h fun k hk => Below.heap_setCell _ _ _ _ (by
    intro e
    simp at e
    subst e
    rcases h.2 with ⟨e1, _⟩ | ⟨g, cap', cur, e1, hS, hg, _⟩
    · rw [e1] at hk; simp [Value.ownBlock] at hk
    · rw [e1] at hk
      simp [Value.ownBlock] at hk
      subst hk
      unfold Rec at hr
      rw [hg] at hr
      simp at hr)
/-- What is known behind the copy. -/
structure ShF (wo W : World) (tb : Nat) (tk tu : Int) (tl : Bool) (na : Option Addr) (nc n : Nat) (fs : List Fd) : Prop where
  u : Rec W tb 28 [.int .i64 tk, .int .i64 tu, .bool tl, .slice na n nc]
  v : FieldRow W wo.heap.size na nc fs
  b : Below wo.heap.size wo W
  l : wo.heap.size ≤ tb
theorem shF_alloc {wo w2 : World} {na : Option Addr} {nc : Nat} {fs : List Fd} (hb : Below wo.heap.size wo w2) (hr : FieldRow w2 wo.heap.size na nc fs) (tk tu : Int) (tl : Bool) (n : Nat) : ShF wo (w2.alloc (.cells #[.int .i64 tk, .int .i64 tu, .bool tl, .slice na n nc] 28)) w2.heap.size tk tu tl na nc n fs :=
  ⟨Rec.new _ _ _, owns_below hr ((Below.refl _ _).alloc (Nat.le_refl _) _), hb.alloc hb.size _, hb.size⟩
theorem shF_set {wo w2 : World} {na : Option Addr} {nc : Nat} {fs : List Fd} (hb : Below wo.heap.size wo w2) (hr : FieldRow w2 wo.heap.size na nc fs) (tk tu : Int) (tl : Bool) (n ub : Nat) (hu : wo.heap.size ≤ ub) (h : Rec w2 ub 28 [.int .i64 0, .int .i64 0, .bool false, .slice none 0 0]) :
    ShF wo ((((w2.setCell ⟨ub, 0, none⟩ (.int .i64 tk)).setCell ⟨ub, 1, none⟩ (.int .i64 tu)).setCell ⟨ub, 2, none⟩ (.bool tl)).setCell ⟨ub, 3, none⟩ (.slice na n nc)) ub tk tu tl na nc n fs :=
  ⟨(((h.set 0 _).set 1 _).set 2 _).set 3 _, row_set (row_set (row_set (row_set hr h 0 _) (h.set 0 _) 1 _) ((h.set 0 _).set 1 _) 2 _) (((h.set 0 _).set 1 _).set 2 _) 3 _, (((hb.setCell hu _).setCell hu _).setCell hu _).setCell hu _, hu⟩

set_option maxHeartbeats 4000000 in
set_option maxRecDepth 100000 in
theorem wpShift_any (a : Option Addr) (cap lo hi : Nat) (ts : List Ty) (fr bY : Int) (w : World) (hS : Small ts) (b0 : -1000 ≤ bY) (b1 : bY ≤ 1000) (hx : TypesIn w lo hi a ts) (hh : hi ≤ w.heap.size) :
    Calls Tryd.prog 30 #[.slice a ts.length cap, .int .i64 fr, .int .i64 bY] w fun e w' => ∃ na nc, e = .returned (.slice na ts.length nc) ∧ TRow w' w.heap.size na nc (ts.map (shiftTy fr bY)) ∧ Below w.heap.size w w' := by
  have n1 := hS.1
  have HSm := hide hS
  have HX := hide hx
  clear hS hx
  obtain ⟨i0, hi0, hzz⟩ := Option.map_eq_some_iff.1 Tryd.infoType
  simp only [Prod.mk.injEq] at hzz
  obtain ⟨hz0, hs0, hb0⟩ := hzz
  have HZ := hide hz0
  have HS := hide hs0
  have HB := hide hb0
  have HI := hide hi0
  clear hz0 hs0 hb0 hi0
  go_enter Tryd.func30, Tryd.ntmps30
  go_wp2_with fail
  go_loopw [7, 8] (fun v i wr => ∃ (k : Nat) (ra : Option Addr) (rc : Nat), k ≤ ts.length ∧ i = .int .i64 (k : Int) ∧ v = .slice ra k rc ∧ Hid (TRow wr w.heap.size ra rc ((ts.take k).map (shiftTy fr bY))) ∧ Hid (Below w.heap.size w wr)) (fun v i wr => ts.length - (intOf i).toNat)
  case atStart =>
    refine ⟨0, _, _, Nat.zero_le _, rfl, rfl, ⟨[], empty_row _ _ _ _ 4 (Deep.blk_alloc_new _ _) (Nat.le_refl _), fun i hi => absurd hi (by simp)⟩, (Below.refl _ _).alloc (Nat.le_refl _) _⟩
  case round =>
    obtain ⟨k, ra, rc, hk, rfl, rfl, HT, HBw⟩ := hrel
    obtain ⟨wo, hwo⟩ : ∃ x, x = wr := ⟨wr, rfl⟩
    subst hwo
    have sw := HBw.out.size
    by_cases hkn : k < ts.length
    · rcases HX.out with hnil | ⟨b, off, rfl, l1, l2, h3⟩
      · exfalso; rw [hnil] at hkn; exact absurd hkn (Nat.not_lt_zero _)
      obtain ⟨e0, e1, e2, fa, fc, e3, e4⟩ := (h3 k hkn).same (Same.of_below HBw.out hh) (Nat.le_refl _) (Nat.le_refl _) l1 l2
      have HMk := hide (HSm.out.2 k hkn)
      have HNx := hide (take_map_snoc (shiftTy fr bY) ts k hkn)
      generalize tyAt ts k = T at *
      obtain ⟨tk, tu, tl, tf⟩ := T
      simp only at e0 e1 e2 e3 e4
      have E4 := hide e4
      obtain ⟨f1, ⟨u1, u2⟩, fo⟩ := HMk.out
      simp only at f1 u1 u2 fo
      have FO := hide fo
      have bsz : b < wo.heap.size := cell_lt e0
      have k1 : (0 : Int) ≤ (k : Int) := by omega
      have k2 : (k : Int) < (ts.length : Int) := by omega
      clear h3 e4 fo
      have E0 := hide e0
      have E1 := hide e1
      have E2 := hide e2
      have E3 := hide e3
      have n0 := World.new_ne wo _ e0
      have bs1 : b < wo.heap.size + 1 := by omega
      have bs2 : b < wo.heap.size + 1 + 1 := by omega
      have bn0 : ¬ b = wo.heap.size := by omega
      have bn1 : ¬ b = wo.heap.size + 1 := by omega
      have bn2 : ¬ b = wo.heap.size + 1 + 1 := by omega
      go_upto_region 5 with (fail)
      go_cut [9] from 12 to 90 (fun pv wx => ∃ (tb : Nat) (na : Option Addr) (nc : Nat), pv = .pointer (some ⟨tb, 0, none⟩) ∧ Hid (ShF wo wx tb tk tu tl na nc tf.length tf))
      case first =>
        go_region_held3 (fun w' => w'.cell? ⟨b, off + k * 4, none⟩ = some (.int .i64 tk) ∧ w'.cell? ⟨b, off + k * 4 + 1, none⟩ = some (.int .i64 tu) ∧ w'.cell? ⟨b, off + k * 4 + 2, none⟩ = some (.bool tl) ∧ w'.cell? ⟨b, off + k * 4 + 3, none⟩ = some (.slice fa tf.length fc)) ((refine ⟨Eq.trans (Below.cell (w := wo) (B := wo.heap.size) (p := ⟨b, off + k * 4, none⟩) ?_ bsz) E0.out, Eq.trans (Below.cell (w := wo) (B := wo.heap.size) (p := ⟨b, off + k * 4 + 1, none⟩) ?_ bsz) E1.out, Eq.trans (Below.cell (w := wo) (B := wo.heap.size) (p := ⟨b, off + k * 4 + 2, none⟩) ?_ bsz) E2.out, Eq.trans (Below.cell (w := wo) (B := wo.heap.size) (p := ⟨b, off + k * 4 + 3, none⟩) ?_ bsz) E3.out⟩ <;> (repeat (first | with_reducible exact Below.refl _ _ | with_reducible exact HB2.out | with_reducible refine Below.alloc ?_ (by first | omega | (simp; omega) | (simp; done)) _ | with_reducible refine Below.drew ?_ | (with_reducible refine Below.setCell ?_ ?_ _; rotate_left; focus (first | omega | (simp; omega) | (simp; done))))))) ((refine step_append_rowW _ _ (by rfl) (by rfl) wo.heap.size _ (by rfl) (by (repeat (first | (with_reducible refine blk_at' _ _ _ ?_; focus (first | omega | (simp; omega) | (simp; done))) | (with_reducible refine blk_past' _ _ _ _ ?_ ?_; focus (first | omega | (simp; omega) | (simp; done))) | with_reducible refine drew_blk' ?_))) (by first | omega | (simp; omega) | (simp; done)) fa fc lo hi tf (by rfl) (by omega) (E4.out.keep (Below.mono (by (repeat (first | with_reducible exact Below.refl _ _ | with_reducible refine Below.alloc ?_ (by first | omega | (simp; omega) | (simp; done)) _ | with_reducible refine Below.drew ?_))) (Nat.le_trans hh sw))) ?_; intro na nc w2 hf2 hb2; have F2 := hide hf2; have HB2 : Hid (Below wo.heap.size wo w2) := hide (Below.trans (by (repeat (first | with_reducible exact Below.refl _ _ | with_reducible refine Below.alloc ?_ (by first | omega | (simp; omega) | (simp; done)) _ | with_reducible refine Below.drew ?_))) (hb2.mono (by first | omega | (simp; omega) | (simp; done)))); have HQ2 := hide hb2; obtain ⟨hc2, hz2⟩ := bcell hb2; (try simp at hc2); (try simp at hz2); have s2 : _ ≤ w2.heap.size := hb2.size; (try simp at s2); have e0' := (HB2.out.cell (p := ⟨b, off + k * 4, none⟩) bsz).trans E0.out; have e1' := (HB2.out.cell (p := ⟨b, off + k * 4 + 1, none⟩) bsz).trans E1.out; have e2' := (HB2.out.cell (p := ⟨b, off + k * 4 + 2, none⟩) bsz).trans E2.out; have e3' := (HB2.out.cell (p := ⟨b, off + k * 4 + 3, none⟩) bsz).trans E3.out; clear hf2 hb2))
        all_goals
          go_wp2_with fail
          go_meet
          first
          | (have F := shF_alloc HB2.out F2.out tk tu tl tf.length; refine ⟨w2.heap.size, na, nc, by with_reducible rfl, ?_⟩; with_reducible exact hide F)
          | (have F := shF_set HB2.out F2.out tk tu tl tf.length (wo.heap.size) (by omega) (by (repeat (first | (with_reducible refine Rec.below ?_ HQ2.out ?_; rotate_left; focus (first | omega | (simp; omega) | (simp; done))) | (with_reducible refine Rec.new' _ _ _ _ ?_; focus (first | omega | (simp; omega) | (simp; done))) | with_reducible refine Rec.alloc ?_ _ | with_reducible refine rec_drew' ?_))); refine ⟨wo.heap.size, na, nc, rfl, ?_⟩; with_reducible exact hide F)
          | (have F := shF_set HB2.out F2.out tk tu tl tf.length (wo.heap.size + 1) (by omega) (by (repeat (first | (with_reducible refine Rec.below ?_ HQ2.out ?_; rotate_left; focus (first | omega | (simp; omega) | (simp; done))) | (with_reducible refine Rec.new' _ _ _ _ ?_; focus (first | omega | (simp; omega) | (simp; done))) | with_reducible refine Rec.alloc ?_ _ | with_reducible refine rec_drew' ?_))); refine ⟨wo.heap.size + 1, na, nc, rfl, ?_⟩; with_reducible exact hide F)
          | (have F := shF_set HB2.out F2.out tk tu tl tf.length (wo.heap.size + 1 + 1) (by omega) (by (repeat (first | (with_reducible refine Rec.below ?_ HQ2.out ?_; rotate_left; focus (first | omega | (simp; omega) | (simp; done))) | (with_reducible refine Rec.new' _ _ _ _ ?_; focus (first | omega | (simp; omega) | (simp; done))) | with_reducible refine Rec.alloc ?_ _ | with_reducible refine rec_drew' ?_))); refine ⟨wo.heap.size + 1 + 1, na, nc, rfl, ?_⟩; with_reducible exact hide F)
      case rest =>
        obtain ⟨tb, na, nc, rfl, HF0⟩ := hcut
        have HB2 : Hid (Below wo.heap.size wo wc) := HF0.out.b
        have F2 : Hid (FieldRow wc wo.heap.size na nc tf) := HF0.out.v
        have R2 := hide HF0.out.u
        have htb := HF0.out.l
        have q0 := R2.out.cell (o := 0) rfl
        have q1 := R2.out.cell (o := 1) rfl
        have q2 := R2.out.cell (o := 2) rfl
        have q3 := R2.out.cell (o := 3) rfl
        have qf := R2.out.frozen 1
        have s2 : wo.heap.size ≤ wc.heap.size := HB2.out.size
        clear e0 e1 e2 e3 E0 E1 E2 E3 E4 HF0 n0 bs1 bs2 bn0 bn1 bn2
        by_cases hu : fr ≤ tu
        · have hup : Hid ((if fr ≤ tu then tu + bY else tu) = tu + bY) := if_pos hu
          go_wp2_with fail
          go_loopw [10] (fun kv wi => ∃ (j : Nat) (fs : List Fd), kv = .int .i64 (j : Int) ∧ j ≤ tf.length ∧ Hid (fs.length = tf.length) ∧ Hid (∀ i, i < tf.length → fdAt fs i = if i < j then shiftFd fr bY (fdAt tf i) else fdAt tf i) ∧ Hid (Rec wi tb 28 [.int .i64 tk, .int .i64 (tu + bY), .bool tl, .slice na tf.length nc]) ∧ Hid (FieldRow wi wo.heap.size na nc fs) ∧ Hid (Below wo.heap.size wo wi)) (fun kv wi => tf.length - (intOf kv).toNat)
          case atStart =>
            exact ⟨0, tf, rfl, Nat.zero_le _, rfl, fun i _ => by rw [if_neg (Nat.not_lt_zero _)], R2.out.set 1 _, row_set F2.out R2.out 1 _, HB2.out.setCell htb _⟩
          case round =>
            clear HB2 F2 R2 q0 q1 q2 q3 qf
            obtain ⟨j, fs, rfl, hj, HL, HF, RT, FR, BW⟩ := hrel
            have c0 := RT.out.cell (o := 0) rfl
            have c1 := RT.out.cell (o := 1) rfl
            have c2 := RT.out.cell (o := 2) rfl
            have c3 := RT.out.cell (o := 3) rfl
            have tlt := RT.out.lt
            have sw2 := BW.out.size
            by_cases hjn : j < tf.length
            · have hjf : j < fs.length := by have := HL.out; omega
              rcases FR.out.2 with ⟨h0, _⟩ | ⟨fb, cap', cur, h0, hS', hg', _⟩
              · exfalso; simp at h0; rw [h0.2.1] at hjf; exact absurd hjf (Nat.not_lt_zero _)
              simp at h0
              obtain ⟨rfl, rfl⟩ := h0
              have hne : fb ≠ tb := by
                intro h
                have hr := RT.out
                unfold Rec at hr
                rw [← h, hg'] at hr
                simp at hr
              have hfz : ∀ o, wr.frozen? ⟨fb, o, none⟩ = false := fun o => by simp [World.frozen?, hg']
              have z1 := hfz (j * 3 + 1)
              obtain ⟨m0, m1, m2⟩ : FieldAt wr fb (j * 3) (fdAt fs j) := by
                rcases FR.out.fields with hnil | ⟨b', off', he, _, _, hq⟩
                · exfalso; rw [hnil] at hjf; exact absurd hjf (Nat.not_lt_zero _)
                · simp at he
                  obtain ⟨rfl, rfl⟩ := he
                  have := hq j hjf
                  rwa [Nat.zero_add] at this
              have HFj := HF.out j hjn
              rw [if_neg (Nat.lt_irrefl _)] at HFj
              rw [HFj] at m0 m1 m2
              obtain ⟨fo1, fo2⟩ := FO.out j hjn
              have HG : Hid (∀ i, i < tf.length → fdAt fs i = if i < j then shiftFd fr bY (fdAt tf i) else fdAt tf i) := HF
              have HFj' : Hid (fdAt fs j = fdAt tf j) := HFj
              have hflt : fb < wr.heap.size := (Array.getElem?_eq_some_iff.1 hg').1
              have HE : Hid (wr.heap[fb]? = some (.cells cur 35 (0, 0))) := hg'
              have j1 : (0 : Int) ≤ (j : Int) := by omega
              have j2 : (j : Int) < (tf.length : Int) := by omega
              have HSF : Hid (shiftFd fr bY (fdAt tf j) = if fr ≤ (fdAt tf j).of ∧ (fdAt tf j).kind ≠ 1 then ⟨(fdAt tf j).kind, (fdAt tf j).of + bY, (fdAt tf j).mt⟩ else fdAt tf j) := rfl
              generalize hF0 : fdAt tf j = F0 at *
              obtain ⟨fk, fo, fm⟩ := F0
              simp only at m0 m1 m2 fo1 fo2
              have hS2 : wo.heap.size ≤ fb := hS'
              clear hg' hfz HFj HF hS'
              by_cases hc : fr ≤ fo ∧ fk ≠ 1
              · obtain ⟨hc1, hc2⟩ := hc
                have hc3 : (fk != 1) = true := by simpa using hc2
                have N1 : Hid (FieldRow (wr.setCell ⟨fb, j * 3 + 1, none⟩ (.int .i64 (fo + bY))) wo.heap.size (some ⟨fb, 0, none⟩) nc (setOf fs j (fo + bY))) := FieldRow.setOf FR.out j _ hjf
                have N2 := hide (RT.out.other (show tb ≠ fb by omega) (j * 3 + 1) (.int .i64 (fo + bY)))
                have N3 : Hid (Below wo.heap.size wo (wr.setCell ⟨fb, j * 3 + 1, none⟩ (.int .i64 (fo + bY)))) := BW.out.setCell hS2 _
                have N4 : Hid (∀ i, i < tf.length → fdAt (setOf fs j (fo + bY)) i = if i < j + 1 then shiftFd fr bY (fdAt tf i) else fdAt tf i) := by
                  intro i hi
                  rw [setOf_at _ _ _ _ hjf, HFj'.out]
                  by_cases e : i = j
                  · subst e
                    rw [if_pos rfl, if_pos (Nat.lt_succ_self _), hF0, HSF.out, if_pos ⟨hc1, hc2⟩]
                  · rw [if_neg e, HG.out i hi]
                    by_cases e2 : i < j
                    · rw [if_pos e2, if_pos (by omega)]
                    · rw [if_neg e2, if_neg (by omega)]
                go_wp2_with fail
                go_region_law (fail)
                all_goals
                  go_wp2_with fail
                  exact ⟨⟨j + 1, setOf fs j (fo + bY), by go_num, by omega, (by show (setOf fs j (fo + bY)).length = _; rw [setOf_length]; exact HL.out), N4, N2, N1, N3.out.drew⟩, by simp [intOf]; omega⟩
              · have N4 : Hid (∀ i, i < tf.length → fdAt fs i = if i < j + 1 then shiftFd fr bY (fdAt tf i) else fdAt tf i) := by
                  intro i hi
                  rw [HG.out i hi]
                  by_cases e : i = j
                  · subst e
                    rw [if_neg (Nat.lt_irrefl _), if_pos (Nat.lt_succ_self _), hF0, HSF.out, if_neg hc]
                  · by_cases e2 : i < j
                    · rw [if_pos e2, if_pos (by omega)]
                    · rw [if_neg e2, if_neg (by omega)]
                have hc' : fo < fr ∨ (fr ≤ fo ∧ fk = 1) := by omega
                clear hc
                rcases hc' with hc1 | ⟨hc1, rfl⟩
                all_goals
                  go_wp2_with fail
                  exact ⟨⟨j + 1, fs, by go_num, by omega, HL, N4, RT, FR, BW⟩, by simp [intOf]; omega⟩
            · have hje : Hid (j = tf.length) := Nat.le_antisymm hj (Nat.le_of_not_lt hjn)
              have HTT : Hid (TRow wr w.heap.size ra rc ((ts.take k).map (shiftTy fr bY))) := HT.out.below BW.out
              obtain ⟨xs, hown, hTv⟩ := HTT.out
              have hlen : ((ts.take k).map (shiftTy fr bY)).length = k := by simp; omega
              have HXL := hide hown.1
              have HLE := hide hlen
              have HTv := hide hTv
              rw [hlen] at hown
              have HO := hide hown
              have ETy : Hid (shiftTy fr bY ⟨tk, tu, tl, tf⟩ = ⟨tk, tu + bY, tl, fs⟩) := by
                show (⟨tk, if fr ≤ tu then tu + bY else tu, tl, tf.map (shiftFd fr bY)⟩ : Ty) = _
                rw [hup.out]
                congr 1
                refine (fd_ext (by simp [HL.out]) fun i hi => ?_).symm
                have hi' : i < tf.length := by have := HL.out; omega
                rw [HF.out i hi', if_pos (by have := hje.out; omega), fdAt_map _ _ _ hi']
              have HL' := HL
              clear hown hTv hlen HTT
              go_wp2_with (first | (at_builtin; refine wpList_append_lies _ rfl _ _ 41 rfl w.heap.size 28 i0 _ 4 48 Tryd.underlying41 HI.out HZ.out HS.out HB.out rfl (by decide) _ _ xs rfl (HO.out.alloc _) ⟨wr.heap.size, 0, none⟩ 1 1 [.int .i64 tk, .int .i64 (tu + bY), .bool tl, .slice na tf.length nc] rfl rfl ?c1 ?c2 (by decide) ?c3 ?c4 ?c5 _ rfl ?_))
              case c1 => exact World.news_of_block (Deep.blk_alloc_new _ _)
              case c2 => intro u hu; simp at hu; rcases hu with rfl | rfl | rfl | rfl <;> rfl
              case c3 => unfold maxLen; omega
              case c4 => omega
              case c5 => simp; omega
              intro gB cap6 w6 hown6 hgr6 hat6 hlt6
              have N1 : Hid (TRow w6 w.heap.size (some ⟨gB, 0, none⟩) cap6 ((ts.take (k + 1)).map (shiftTy fr bY))) := by
                have KF : KeepE w.heap.size 35 wr w6 := (KeepE.below ((Below.refl _ _).alloc (Nat.le_refl _) _)).trans (KeepE.grown (HO.out.alloc _) hgr6 (by decide))
                show TRow _ _ _ _ _
                rw [HNx.out, ETy.out]
                refine TRow.snoc (fa := na) (fc := nc) (xs := xs) (fun i hi => (HTv.out i hi).keep KF) HXL.out (owns_keepE (FR.out.lower sw) KF) ?_
                rw [HLE.out]
                show w6.ownsRow _ _ _ _ _ (xs ++ [.int .i64 tk, .int .i64 (tu + bY), .bool tl, .slice na fs.length nc])
                rw [HL'.out]
                exact hown6
              have N2 := hide (((HBw.out.trans (BW.out.mono sw)).alloc (by omega) (.cells #[.int .i64 tk, .int .i64 (tu + bY), .bool tl, .slice na tf.length nc] 28)).grown hgr6 (by simp; omega) (owns_base HO.out))
              clear hown6 hgr6 hat6
              go_wp2_with fail
              exact ⟨⟨k + 1, some ⟨gB, 0, none⟩, cap6, by omega, by go_num, rfl, N1, N2⟩, by simp [intOf]; omega⟩
        · have hup : Hid ((if fr ≤ tu then tu + bY else tu) = tu) := if_neg hu
          have hu' : tu < fr := by omega
          go_wp2_with fail
          go_loopw [10] (fun kv wi => ∃ (j : Nat) (fs : List Fd), kv = .int .i64 (j : Int) ∧ j ≤ tf.length ∧ Hid (fs.length = tf.length) ∧ Hid (∀ i, i < tf.length → fdAt fs i = if i < j then shiftFd fr bY (fdAt tf i) else fdAt tf i) ∧ Hid (Rec wi tb 28 [.int .i64 tk, .int .i64 (tu), .bool tl, .slice na tf.length nc]) ∧ Hid (FieldRow wi wo.heap.size na nc fs) ∧ Hid (Below wo.heap.size wo wi)) (fun kv wi => tf.length - (intOf kv).toNat)
          case atStart =>
            exact ⟨0, tf, rfl, Nat.zero_le _, rfl, fun i _ => by rw [if_neg (Nat.not_lt_zero _)], R2.out, F2.out, HB2.out⟩
          case round =>
            clear HB2 F2 R2 q0 q1 q2 q3 qf
            obtain ⟨j, fs, rfl, hj, HL, HF, RT, FR, BW⟩ := hrel
            have c0 := RT.out.cell (o := 0) rfl
            have c1 := RT.out.cell (o := 1) rfl
            have c2 := RT.out.cell (o := 2) rfl
            have c3 := RT.out.cell (o := 3) rfl
            have tlt := RT.out.lt
            have sw2 := BW.out.size
            by_cases hjn : j < tf.length
            · have hjf : j < fs.length := by have := HL.out; omega
              rcases FR.out.2 with ⟨h0, _⟩ | ⟨fb, cap', cur, h0, hS', hg', _⟩
              · exfalso; simp at h0; rw [h0.2.1] at hjf; exact absurd hjf (Nat.not_lt_zero _)
              simp at h0
              obtain ⟨rfl, rfl⟩ := h0
              have hne : fb ≠ tb := by
                intro h
                have hr := RT.out
                unfold Rec at hr
                rw [← h, hg'] at hr
                simp at hr
              have hfz : ∀ o, wr.frozen? ⟨fb, o, none⟩ = false := fun o => by simp [World.frozen?, hg']
              have z1 := hfz (j * 3 + 1)
              obtain ⟨m0, m1, m2⟩ : FieldAt wr fb (j * 3) (fdAt fs j) := by
                rcases FR.out.fields with hnil | ⟨b', off', he, _, _, hq⟩
                · exfalso; rw [hnil] at hjf; exact absurd hjf (Nat.not_lt_zero _)
                · simp at he
                  obtain ⟨rfl, rfl⟩ := he
                  have := hq j hjf
                  rwa [Nat.zero_add] at this
              have HFj := HF.out j hjn
              rw [if_neg (Nat.lt_irrefl _)] at HFj
              rw [HFj] at m0 m1 m2
              obtain ⟨fo1, fo2⟩ := FO.out j hjn
              have HG : Hid (∀ i, i < tf.length → fdAt fs i = if i < j then shiftFd fr bY (fdAt tf i) else fdAt tf i) := HF
              have HFj' : Hid (fdAt fs j = fdAt tf j) := HFj
              have hflt : fb < wr.heap.size := (Array.getElem?_eq_some_iff.1 hg').1
              have HE : Hid (wr.heap[fb]? = some (.cells cur 35 (0, 0))) := hg'
              have j1 : (0 : Int) ≤ (j : Int) := by omega
              have j2 : (j : Int) < (tf.length : Int) := by omega
              have HSF : Hid (shiftFd fr bY (fdAt tf j) = if fr ≤ (fdAt tf j).of ∧ (fdAt tf j).kind ≠ 1 then ⟨(fdAt tf j).kind, (fdAt tf j).of + bY, (fdAt tf j).mt⟩ else fdAt tf j) := rfl
              generalize hF0 : fdAt tf j = F0 at *
              obtain ⟨fk, fo, fm⟩ := F0
              simp only at m0 m1 m2 fo1 fo2
              have hS2 : wo.heap.size ≤ fb := hS'
              clear hg' hfz HFj HF hS'
              by_cases hc : fr ≤ fo ∧ fk ≠ 1
              · obtain ⟨hc1, hc2⟩ := hc
                have hc3 : (fk != 1) = true := by simpa using hc2
                have N1 : Hid (FieldRow (wr.setCell ⟨fb, j * 3 + 1, none⟩ (.int .i64 (fo + bY))) wo.heap.size (some ⟨fb, 0, none⟩) nc (setOf fs j (fo + bY))) := FieldRow.setOf FR.out j _ hjf
                have N2 := hide (RT.out.other (show tb ≠ fb by omega) (j * 3 + 1) (.int .i64 (fo + bY)))
                have N3 : Hid (Below wo.heap.size wo (wr.setCell ⟨fb, j * 3 + 1, none⟩ (.int .i64 (fo + bY)))) := BW.out.setCell hS2 _
                have N4 : Hid (∀ i, i < tf.length → fdAt (setOf fs j (fo + bY)) i = if i < j + 1 then shiftFd fr bY (fdAt tf i) else fdAt tf i) := by
                  intro i hi
                  rw [setOf_at _ _ _ _ hjf, HFj'.out]
                  by_cases e : i = j
                  · subst e
                    rw [if_pos rfl, if_pos (Nat.lt_succ_self _), hF0, HSF.out, if_pos ⟨hc1, hc2⟩]
                  · rw [if_neg e, HG.out i hi]
                    by_cases e2 : i < j
                    · rw [if_pos e2, if_pos (by omega)]
                    · rw [if_neg e2, if_neg (by omega)]
                go_wp2_with fail
                go_region_law (fail)
                all_goals
                  go_wp2_with fail
                  exact ⟨⟨j + 1, setOf fs j (fo + bY), by go_num, by omega, (by show (setOf fs j (fo + bY)).length = _; rw [setOf_length]; exact HL.out), N4, N2, N1, N3.out.drew⟩, by simp [intOf]; omega⟩
              · have N4 : Hid (∀ i, i < tf.length → fdAt fs i = if i < j + 1 then shiftFd fr bY (fdAt tf i) else fdAt tf i) := by
                  intro i hi
                  rw [HG.out i hi]
                  by_cases e : i = j
                  · subst e
                    rw [if_neg (Nat.lt_irrefl _), if_pos (Nat.lt_succ_self _), hF0, HSF.out, if_neg hc]
                  · by_cases e2 : i < j
                    · rw [if_pos e2, if_pos (by omega)]
                    · rw [if_neg e2, if_neg (by omega)]
                have hc' : fo < fr ∨ (fr ≤ fo ∧ fk = 1) := by omega
                clear hc
                rcases hc' with hc1 | ⟨hc1, rfl⟩
                all_goals
                  go_wp2_with fail
                  exact ⟨⟨j + 1, fs, by go_num, by omega, HL, N4, RT, FR, BW⟩, by simp [intOf]; omega⟩
            · have hje : Hid (j = tf.length) := Nat.le_antisymm hj (Nat.le_of_not_lt hjn)
              have HTT : Hid (TRow wr w.heap.size ra rc ((ts.take k).map (shiftTy fr bY))) := HT.out.below BW.out
              obtain ⟨xs, hown, hTv⟩ := HTT.out
              have hlen : ((ts.take k).map (shiftTy fr bY)).length = k := by simp; omega
              have HXL := hide hown.1
              have HLE := hide hlen
              have HTv := hide hTv
              rw [hlen] at hown
              have HO := hide hown
              have ETy : Hid (shiftTy fr bY ⟨tk, tu, tl, tf⟩ = ⟨tk, tu, tl, fs⟩) := by
                show (⟨tk, if fr ≤ tu then tu + bY else tu, tl, tf.map (shiftFd fr bY)⟩ : Ty) = _
                rw [hup.out]
                congr 1
                refine (fd_ext (by simp [HL.out]) fun i hi => ?_).symm
                have hi' : i < tf.length := by have := HL.out; omega
                rw [HF.out i hi', if_pos (by have := hje.out; omega), fdAt_map _ _ _ hi']
              have HL' := HL
              clear hown hTv hlen HTT
              go_wp2_with (first | (at_builtin; refine wpList_append_lies _ rfl _ _ 41 rfl w.heap.size 28 i0 _ 4 48 Tryd.underlying41 HI.out HZ.out HS.out HB.out rfl (by decide) _ _ xs rfl (HO.out.alloc _) ⟨wr.heap.size, 0, none⟩ 1 1 [.int .i64 tk, .int .i64 (tu), .bool tl, .slice na tf.length nc] rfl rfl ?c1 ?c2 (by decide) ?c3 ?c4 ?c5 _ rfl ?_))
              case c1 => exact World.news_of_block (Deep.blk_alloc_new _ _)
              case c2 => intro u hu; simp at hu; rcases hu with rfl | rfl | rfl | rfl <;> rfl
              case c3 => unfold maxLen; omega
              case c4 => omega
              case c5 => simp; omega
              intro gB cap6 w6 hown6 hgr6 hat6 hlt6
              have N1 : Hid (TRow w6 w.heap.size (some ⟨gB, 0, none⟩) cap6 ((ts.take (k + 1)).map (shiftTy fr bY))) := by
                have KF : KeepE w.heap.size 35 wr w6 := (KeepE.below ((Below.refl _ _).alloc (Nat.le_refl _) _)).trans (KeepE.grown (HO.out.alloc _) hgr6 (by decide))
                show TRow _ _ _ _ _
                rw [HNx.out, ETy.out]
                refine TRow.snoc (fa := na) (fc := nc) (xs := xs) (fun i hi => (HTv.out i hi).keep KF) HXL.out (owns_keepE (FR.out.lower sw) KF) ?_
                rw [HLE.out]
                show w6.ownsRow _ _ _ _ _ (xs ++ [.int .i64 tk, .int .i64 (tu), .bool tl, .slice na fs.length nc])
                rw [HL'.out]
                exact hown6
              have N2 := hide (((HBw.out.trans (BW.out.mono sw)).alloc (by omega) (.cells #[.int .i64 tk, .int .i64 (tu), .bool tl, .slice na tf.length nc] 28)).grown hgr6 (by simp; omega) (owns_base HO.out))
              clear hown6 hgr6 hat6
              go_wp2_with fail
              exact ⟨⟨k + 1, some ⟨gB, 0, none⟩, cap6, by omega, by go_num, rfl, N1, N2⟩, by simp [intOf]; omega⟩
    · have hkn' : Hid (k = ts.length) := Nat.le_antisymm hk (Nat.le_of_not_lt hkn)
      go_wp2_with fail
      go_ret
      rw [hkn'.out] at HT ⊢
      refine ⟨ra, rc, rfl, ?_, HBw.out⟩
      have := HT.out
      rwa [List.take_length] at this
end Go.Proofs.YtejkebfhiddhmaaDoor
