/- A view onto the words of a heap: the thing that stands somewhere in it. -/
import Derived.Test.YtembifoimiochaaGreatDoorHpI2
import Derived.Test.YtembifoimiochaaGreatDoorAggRow
import Derived.Deep.RegionHeld3
import Derived.Deep.Cut
namespace Go.Proofs.YtembifoimiochaaGreatDoor
open Go.ChangeShapes Go.WideShapes Go.ChangeAt Go.RowKit Go.Deep
set_option linter.unusedVariables false
set_option linter.unusedSimpArgs false

/-- The words lie in the space's block. -/
def WordsAt (w : World) (sb : Nat) (ws : List Int) : Prop := ∀ i, i < ws.length → w.cell? ⟨sb, 2 + i, none⟩ = some (.int .i64 (nAt ws i))
theorem WordsAt.keep {w w' : World} {sb : Nat} {ws : List Int} (h : WordsAt w sb ws) (hb : ∀ o, w'.cell? ⟨sb, o, none⟩ = w.cell? ⟨sb, o, none⟩) : WordsAt w' sb ws := fun i hi => (hb _).trans (h i hi)
def lenW (gs : List (List Ty)) (ws : List Int) (a : Nat) : Nat := (lenF gs (nAt ws a)).toNat
/-- A thing as it is handed on: where it begins, where its fields and its words lie. -/
structure HTh where
 a : Nat
 fa : Option Addr
 fc : Nat
 wa : Option Addr
 wc : Nat
def thV (gs : List (List Ty)) (ws : List Int) (x : HTh) : Value := .agg #[.int .i64 (x.a : Int), .int .i64 (nAt ws x.a / 16), .slice x.fa (lenW gs ws x.a) x.fc, .slice x.wa (lenW gs ws x.a) x.wc]
def ThIn (w : World) (lo hi S sb : Nat) (gs : List (List Ty)) (ws : List Int) (x : HTh) : Prop :=
 FldIn w lo hi S x.fa (fieldsT (tyN gs (nAt ws x.a / 16).toNat) (lenW gs ws x.a)) ∧ (lenW gs ws x.a = 0 ∨ x.wa = some ⟨sb, 2 + (x.a + 1), none⟩)
/-- A whole thing stands there. -/
def okW (gs : List (List Ty)) (ws : List Int) (to a : Nat) : Bool := decide (0 ≤ lenF gs (nAt ws a)) && decide (a + 1 + lenW gs ws a ≤ to)
def zeroTh : Value := .agg #[.int .i64 0, .int .i64 0, .slice none 0 0, .slice none 0 0]
def ThPost (gs : List (List Ty)) (ws : List Int) (lo hi sb to a : Nat) (w : World) (e : Ending) (w' : World) : Prop :=
 ((okW gs ws to a = false ∧ e = .returned (.tuple #[zeroTh, .bool false])) ∨ (okW gs ws to a = true ∧ ∃ x : HTh, x.a = a ∧ e = .returned (.tuple #[thV gs ws x, .bool true]) ∧ ThIn w' lo hi w.heap.size sb gs ws x)) ∧ Below w.heap.size w w'
theorem results_ct' {fn : Func} {p u : Tmp} {a : Act} {w : World} {g : Nat} {T ty : TypeId} {vs : List Value} {d : TypeDesc} (h : fn.results = #[.cell p ty, .tmp u]) (hp : a.tmps.getD p undef = .pointer (some ⟨g, 0, none⟩)) (hr : Rec w g T vs)
 (hu : Tryz.prog.underlying ty = some d) (hd : d.isRow = true) (hi : (Tryz.prog.info? ty).map (·.size) = some vs.length) : (results fn a.tmps).run Tryz.prog w = .ok (.tuple #[.agg vs.toArray, a.tmps.getD u undef]) w := by
 have hld := run_loadVar_mid (P := Tryz.prog) w g 0 ty vs d hr.range hu hd hi
 rw [results_cell_tmp h, hp]
 simp [asAddr, Result.andThen, hld]

theorem cell4 {w : World} {b b' o : Nat} {v0 v1 v2 v3 : Value} (h : b ≠ b') : ((((w.setCell ⟨b', 0, none⟩ v0).setCell ⟨b', 1, none⟩ v1).setCell ⟨b', 2, none⟩ v2).setCell ⟨b', 3, none⟩ v3).drew.cell? ⟨b, o, none⟩ = w.cell? ⟨b, o, none⟩ :=
 World.cell?_of_block (w := w) (((Below.heap_setCell _ _ _ _ h).trans ((Below.heap_setCell _ _ _ _ h).trans ((Below.heap_setCell _ _ _ _ h).trans (Below.heap_setCell _ _ _ _ h)))))
theorem rec4 {w : World} {b : Nat} {T : TypeId} {u0 u1 u2 u3 v0 v1 v2 v3 : Value} (h : Rec w b T [u0, u1, u2, u3]) : Rec ((((w.setCell ⟨b, 0, none⟩ v0).setCell ⟨b, 1, none⟩ v1).setCell ⟨b, 2, none⟩ v2).setCell ⟨b, 3, none⟩ v3).drew b T [v0, v1, v2, v3] := (((h.set 0 v0).set 1 v1).set 2 v2).set 3 v3
theorem below4 {w0 w : World} {B b : Nat} {v0 v1 v2 v3 : Value} (h : Below B w0 w) (hb : B ≤ b) : Below B w0 ((((w.setCell ⟨b, 0, none⟩ v0).setCell ⟨b, 1, none⟩ v1).setCell ⟨b, 2, none⟩ v2).setCell ⟨b, 3, none⟩ v3).drew := ((((h.setCell hb _).setCell hb _).setCell hb _).setCell hb _).drew
theorem FldIn.set4 {w : World} {lo hi S S' b : Nat} {a : Option Addr} {fs : List Fd} {v0 v1 v2 v3 : Value} (h : FldIn w lo hi S a fs) (h1 : hi ≤ b) (h2 : b < S) (h3 : S' ≤ S) : FldIn ((((w.setCell ⟨b, 0, none⟩ v0).setCell ⟨b, 1, none⟩ v1).setCell ⟨b, 2, none⟩ v2).setCell ⟨b, 3, none⟩ v3).drew lo hi S' a fs := by
 have hs : ∀ k, k ≠ b → ((((w.setCell ⟨b, 0, none⟩ v0).setCell ⟨b, 1, none⟩ v1).setCell ⟨b, 2, none⟩ v2).setCell ⟨b, 3, none⟩ v3).drew.heap[k]? = w.heap[k]? := fun k hk => (Below.heap_setCell _ _ _ _ hk).trans ((Below.heap_setCell _ _ _ _ hk).trans ((Below.heap_setCell _ _ _ _ hk).trans (Below.heap_setCell _ _ _ _ hk)))
 rcases h with h | h
 ·exact .inl (h.same (fun k _ _ => hs k (by omega)) (Nat.le_refl _) (Nat.le_refl _))
 ·exact .inr (h.same (fun k _ _ => hs k (by omega)) h3 (by simp [World.drew]))

set_option maxHeartbeats 3200000 in
set_option maxRecDepth 100000 in
theorem viewThing_any (ra : Option Addr) (rc cb co cc lo hi sb wc : Nat) (gs : List (List Ty)) (ws : List Int) (f wn u at' : Nat) (w : World) (hP : Parts gs) (hT : TabIn w lo hi ra cb co gs) (hh : hi ≤ w.heap.size) (hW : WordsAt w sb ws) (hsb : sb < w.heap.size)
 (hu : u ≤ wn) (ha : at' < u) (hf : f + wn ≤ ws.length) (h160 : ws.length ≤ 160) (hwc : wn ≤ wc) (hwc' : wc ≤ 1000) (hI : ∀ i, -9223372036854775808 ≤ nAt ws i ∧ nAt ws i ≤ 9223372036854775807) :
 Calls Tryz.prog 103 #[.agg #[.slice (some ⟨sb, 2 + f, none⟩) wn wc, .int .i64 (f : Int), .int .i64 (u : Int)], .agg #[.slice ra (kinCount gs) rc, .slice (some ⟨cb, co, none⟩) (kinCount gs) cc], .int .i64 (at' : Int)] w fun e w' => ThPost gs ws lo hi sb (f + u) (f + at') w e w' := by
 have cw := hW (f + at') (by omega)
 rw [show 2 + (f + at') = 2 + f + at' by omega] at cw
 have hIa := hI (f + at')
 have HTF := hide (fun (W : World) (hb : Below w.heap.size w W) (t : Int) (n : Nat) (h15 : n ≤ 15) => thingFields_any ra rc cb co cc lo hi gs t n W h15 hP (hT.keep (hb.mono hh)) (Nat.le_trans hh hb.size))
 have HFL := hide (fun (h : 0 ≤ nAt ws (f + at')) => fldOk_len hP h)
 have HLN := hide (fun (h : 0 ≤ lenF gs (nAt ws (f + at'))) => (lenF_pos h).1)
 have HNEG : Hid (nAt ws (f + at') < 0 → lenF gs (nAt ws (f + at')) < 0) := fun h => by unfold lenF; rw [if_pos (.inl h)]; omega
 have HPO : Hid (∀ W, okW gs ws (f + u) (f + at') = false → Below w.heap.size w W → ThPost gs ws lo hi sb (f + u) (f + at') w (.returned (.tuple #[zeroTh, .bool false])) W) := fun W h hb => ⟨.inl ⟨h, rfl⟩, hb⟩
 have HPY : Hid (∀ W fa fc wa wc', okW gs ws (f + u) (f + at') = true → Below w.heap.size w W → ThIn W lo hi w.heap.size sb gs ws ⟨f + at', fa, fc, wa, wc'⟩ → ThPost gs ws lo hi sb (f + u) (f + at') w (.returned (.tuple #[thV gs ws ⟨f + at', fa, fc, wa, wc'⟩, .bool true])) W) := fun W fa fc wa wc' h hb ht => ⟨.inr ⟨h, ⟨f + at', fa, fc, wa, wc'⟩, rfl, rfl, ht⟩, hb⟩
 have HOK : Hid (okW gs ws (f + u) (f + at') = (decide (0 ≤ lenF gs (nAt ws (f + at'))) && decide (f + at' + 1 + lenW gs ws (f + at') ≤ f + u))) := rfl
 have HTV : Hid (∀ fa fc wa wc', thV gs ws ⟨f + at', fa, fc, wa, wc'⟩ = .agg #[.int .i64 ((f + at' : Nat) : Int), .int .i64 (nAt ws (f + at') / 16), .slice fa (lenW gs ws (f + at')) fc, .slice wa (lenW gs ws (f + at')) wc']) := fun _ _ _ _ => rfl
 have HTI : Hid (∀ W fa fc wa wc', FldIn W lo hi w.heap.size fa (fieldsT (tyN gs (nAt ws (f + at') / 16).toNat) (lenW gs ws (f + at'))) → (lenW gs ws (f + at') = 0 ∨ wa = some ⟨sb, 2 + (f + at' + 1), none⟩) → ThIn W lo hi w.heap.size sb gs ws ⟨f + at', fa, fc, wa, wc'⟩) := fun W fa fc wa wc' h1 h2 => ⟨h1, h2⟩
 have HLW : Hid (lenW gs ws (f + at') = (lenF gs (nAt ws (f + at'))).toNat) := rfl
 clear hT hW hI hP
 obtain ⟨W1, hW1⟩ : ∃ W1, W1 = ((w.alloc (.cells #[.slice (some ⟨sb, 2 + f, none⟩) wn wc, .int .i64 (f : Int), .int .i64 (u : Int)] 98)).alloc (.cells #[.slice ra (kinCount gs) rc, .slice (some ⟨cb, co, none⟩) (kinCount gs) cc] 93)).alloc (.cells #[.int .i64 0, .int .i64 0, .slice none 0 0, .slice none 0 0] 131) := ⟨_, rfl⟩
 have B1 : Hid (Below w.heap.size w W1) := by show Below _ _ _; rw [hW1]; exact (((Below.refl _ _).alloc (Nat.le_refl _) _).alloc (by simp) _).alloc (by simp; omega) _
 have P1 : Hid (Rec W1 w.heap.size 98 [.slice (some ⟨sb, 2 + f, none⟩) wn wc, .int .i64 (f : Int), .int .i64 (u : Int)]) := by show Rec _ _ _ _; rw [hW1]; exact ((Rec.new _ _ _).alloc _).alloc _
 have K1 : Hid (Rec W1 (w.heap.size + 1) 93 [.slice ra (kinCount gs) rc, .slice (some ⟨cb, co, none⟩) (kinCount gs) cc]) := by show Rec _ _ _ _; rw [hW1]; exact (Rec.new' _ _ _ _ (by simp)).alloc _
 have T1 : Hid (Rec W1 (w.heap.size + 1 + 1) 131 [.int .i64 0, .int .i64 0, .slice none 0 0, .slice none 0 0]) := by show Rec _ _ _ _; rw [hW1]; exact Rec.new' _ _ _ _ (by simp)
 have hs1 : Hid (W1.heap.size = w.heap.size + 1 + 1 + 1) := by show _ = _; rw [hW1]; simp
 have cw1 := (B1.out.cell (p := ⟨sb, 2 + f + at', none⟩) hsb).trans cw
 have p0 := P1.out.cell (o := 0) rfl
 have p2 := P1.out.cell (o := 2) rfl
 have k0 := K1.out.cell (o := 0) rfl
 have k1 := K1.out.cell (o := 1) rfl
 have q1 : (0 : Int) ≤ (at' : Int) := by omega
 have q2 : (at' : Int) < (wn : Int) := by omega
 generalize thV gs ws = tv at *
 generalize okW gs ws (f + u) (f + at') = ok at *
 generalize lenW gs ws (f + at') = n at *
 generalize lenF gs (nAt ws (f + at')) = L at *
 generalize nAt ws (f + at') = head at *
 have HC := hide cw
 clear cw
 have hszT : (Tryz.prog.info? 131).map (·.size) = some 4 := by kernel_rfl
 go_enter Tryz.func103, Tryz.ntmps103
 go_upto_region 1 with (fail)
 rw [← hW1]
 clear hW1
 by_cases hneg : head < 0
 ·have e0 : ok = false := by rw [HOK.out, decide_eq_false (by have := HNEG.out hneg; omega)]; rfl
  have HQ := hide (fun W => HPO.out W e0)
  clear HOK HPO HPY HTV HTI HLN HFL HTF HNEG HLW e0
  go_wp2_with (refine wpList_store_rec rfl 131 _ _ rfl (w.heap.size + 1 + 1) _ 131 _ rfl rfl T1.out hszT rfl (by kernel_rfl) ?_)
  intro w9 h9 _ _ b9
  replace h9 := hide h9
  replace b9 := hide (B1.out.trans (b9.mono (by omega)))
  go_wp2_with fail
  exact bodyPost_ret (results_ct' rfl rfl h9.out Tryz.underlying131 rfl hszT) rfl (HQ.out w9 b9.out)
 ·have h0 : 0 ≤ head := by omega
  have hm : (((head % 16).toNat : Nat) : Int) = head % 16 := by omega
  have HQF := hide (HTF.out W1 B1.out (head / 16) (head % 16).toNat (by omega))
  rw [hm] at HQF
  have HF2 := HFL.out h0
  have hn16 : (head % 16).toNat ≤ 15 := by omega
  have HLe : Hid (0 ≤ L → L = head % 16) := HLN.out
  clear HTF HFL HLN HNEG
  go_wp2_with fail
  refine HQF.out.mono ?_
  rintro e w2 ⟨⟨a2, k2, c2, rfl, hk2⟩, b2⟩
  have B2 := hide (B1.out.trans (b2.mono B1.out.size))
  have P2 := hide (P1.out.below b2 P1.out.lt)
  have T2 := hide (T1.out.below b2 T1.out.lt)
  clear b2 HQF
  rw [HF2] at hk2 ⊢
  have HK2 := hide hk2
  clear hk2 HF2 P1 T1 B1 cw1 p0 p2 k0 k1 K1
  have p0 := P2.out.cell (o := 0) rfl
  have p1 := P2.out.cell (o := 1) rfl
  have p2 := P2.out.cell (o := 2) rfl
  have hs2 := B2.out.size
  by_cases hL : 0 ≤ L
  ·obtain ⟨hk, hfl⟩ := HK2.out (decide_eq_true hL)
   have hLe := HLe.out hL
   rw [decide_eq_true hL] at HOK ⊢
   subst hk
   have hnk : n = (head % 16).toNat := by rw [HLW.out, hLe]
   rw [← hnk] at hfl ⊢
   have hmn : head % 16 = (n : Int) := by omega
   rw [hmn]
   clear HK2 HLe
   by_cases hto : (at' : Int) + 1 + (n : Int) ≤ (u : Int)
   ·have t0 := T2.out.cell (o := 0) rfl
    have t1 := T2.out.cell (o := 1) rfl
    have t2 := T2.out.cell (o := 2) rfl
    have t3 := T2.out.cell (o := 3) rfl
    have f0 := T2.out.frozen 0
    have f1 := T2.out.frozen 1
    have f2 := T2.out.frozen 2
    have f3 := T2.out.frozen 3
    have e1 : ok = true := by rw [HOK.out, Bool.true_and]; exact decide_eq_true (by omega)
    have z1 : (0 : Int) ≤ (at' : Int) + 1 := by omega
    have z2 : (at' : Int) + 1 ≤ (at' : Int) + 1 + (n : Int) := by omega
    have z3 : (at' : Int) + 1 + (n : Int) ≤ (wc : Int) := by omega
    have z4 : (f : Int) ≤ 1000 := by omega
    have z5 : (0 : Int) ≤ (f : Int) := by omega
    have z6 : (wc : Int) ≤ 1000 := by omega
    have FIN : Hid (∀ W wa wc', (n = 0 ∨ wa = some ⟨sb, 2 + (f + at' + 1), none⟩) → Below w.heap.size w W → FldIn W lo hi w.heap.size a2 (fieldsT (tyN gs (head / 16).toNat) n) → ThPost gs ws lo hi sb (f + u) (f + at') w (.returned (.tuple #[.agg #[.int .i64 ((f : Int) + (at' : Int)), .int .i64 (head / 16), .slice a2 n c2, .slice wa n wc'], .bool true])) W) := fun W wa wc' h1 h2 h3 => by
     have := HPY.out W a2 c2 wa wc' e1 h2 (HTI.out W a2 c2 wa wc' h3 h1)
     rw [HTV.out, Int.natCast_add] at this
     exact this
    have HFL := hide hfl
    clear HOK HPO hnk hmn hm HPY HTI HTV HLW hfl
    have zn : (0 : Int) ≤ (n : Int) := by omega
    have zz : (0 : Int) ≤ (at' : Int) + 1 + (n : Int) := by omega
    have wj : IntKind.i64.wrap ((at' : Int) + 1) = (at' : Int) + 1 := by rw [IntKind.wrap_i64]; omega
    have wf : IntKind.i64.wrap ((f : Int) + (at' : Int)) = (f : Int) + (at' : Int) := by rw [IntKind.wrap_i64]; omega
    have en : ((at' : Int) + 1 + (n : Int)).toNat - (at' + 1) = n := by omega
    by_cases hcw : wc = at' + 1
    ·obtain rfl : n = 0 := by omega
     have hcw' : (wc : Int) = (at' : Int) + 1 := by omega
     subst hcw
     go_wp2_with fail
     go_region_held3 (fun w' => w'.cell? ⟨w.heap.size, 0, none⟩ = some (.slice (some ⟨sb, 2 + f, none⟩) wn (at' + 1)) ∧ w'.cell? ⟨w.heap.size, 1, none⟩ = some (.int .i64 (f : Int))) (first | with_reducible exact ⟨(cell4 (by omega)).trans p0, (cell4 (by omega)).trans p1⟩ | go_keep) (fail)
     have R5 := hide (rec4 (v0 := .int .i64 ((f : Int) + (at' : Int))) (v1 := .int .i64 (head / 16)) (v2 := .slice a2 0 c2) (v3 := .slice (some ⟨sb, 2 + f, none⟩) 0 0) T2.out)
     have BB := hide (below4 (v0 := .int .i64 ((f : Int) + (at' : Int))) (v1 := .int .i64 (head / 16)) (v2 := .slice a2 0 c2) (v3 := .slice (some ⟨sb, 2 + f, none⟩) 0 0) B2.out (show w.heap.size ≤ w.heap.size + 1 + 1 by omega))
     have HQ := hide (FIN.out _ (some ⟨sb, 2 + f, none⟩) 0 (by simp) BB.out (HFL.out.set4 (by omega) (by rw [hs1.out]; omega) (by rw [hs1.out]; omega)))
     go_wp2_with fail
     exact bodyPost_ret (results_ct' rfl rfl R5.out Tryz.underlying131 rfl hszT) rfl HQ.out
    go_wp2_with fail
    go_region_held3 (fun w' => w'.cell? ⟨w.heap.size, 0, none⟩ = some (.slice (some ⟨sb, 2 + f, none⟩) wn wc) ∧ w'.cell? ⟨w.heap.size, 1, none⟩ = some (.int .i64 (f : Int))) (first | with_reducible exact ⟨(cell4 (by omega)).trans p0, (cell4 (by omega)).trans p1⟩ | go_keep) (fail)
    have R5 := hide (rec4 (v0 := .int .i64 ((f : Int) + (at' : Int))) (v1 := .int .i64 (head / 16)) (v2 := .slice a2 n c2) (v3 := .slice (some ⟨sb, 2 + f + (at' + 1), none⟩) n (wc - (at' + 1))) T2.out)
    have BB := hide (below4 (v0 := .int .i64 ((f : Int) + (at' : Int))) (v1 := .int .i64 (head / 16)) (v2 := .slice a2 n c2) (v3 := .slice (some ⟨sb, 2 + f + (at' + 1), none⟩) n (wc - (at' + 1))) B2.out (show w.heap.size ≤ w.heap.size + 1 + 1 by omega))
    have HQ := hide (FIN.out _ (some ⟨sb, 2 + f + (at' + 1), none⟩) (wc - (at' + 1)) (.inr (by congr 2; omega)) BB.out (HFL.out.set4 (by omega) (by rw [hs1.out]; omega) (by rw [hs1.out]; omega)))
    go_wp2_with fail
    exact bodyPost_ret (results_ct' rfl rfl R5.out Tryz.underlying131 rfl hszT) rfl HQ.out
   ·have e0 : ok = false := by rw [HOK.out, Bool.true_and]; exact decide_eq_false (by omega)
    have HQ := hide (fun W => HPO.out W e0)
    clear HOK HPO HPY HTV HTI HLW e0 hL hnk hfl
    go_wp2_with (refine wpList_store_rec rfl 131 _ _ rfl (w.heap.size + 1 + 1) _ 131 _ rfl rfl T2.out hszT rfl (by kernel_rfl) ?_)
    intro w9 h9 _ _ b9
    replace h9 := hide h9
    replace b9 := hide (B2.out.trans (b9.mono (by omega)))
    go_wp2_with fail
    exact bodyPost_ret (results_ct' rfl rfl h9.out Tryz.underlying131 rfl hszT) rfl (HQ.out w9 b9.out)
  ·have e0 : ok = false := by rw [HOK.out, decide_eq_false hL]; rfl
   have HQ := hide (fun W => HPO.out W e0)
   rw [decide_eq_false hL]
   clear HOK HPO HPY HTV HTI HLW e0 HK2 HLe hL
   go_wp2_with (refine wpList_store_rec rfl 131 _ _ rfl (w.heap.size + 1 + 1) _ 131 _ rfl rfl T2.out hszT rfl (by kernel_rfl) ?_)
   intro w9 h9 _ _ b9
   replace h9 := hide h9
   replace b9 := hide (B2.out.trans (b9.mono (by omega)))
   go_wp2_with fail
   exact bodyPost_ret (results_ct' rfl rfl h9.out Tryz.underlying131 rfl hszT) rfl (HQ.out w9 b9.out)
end Go.Proofs.YtembifoimiochaaGreatDoor
