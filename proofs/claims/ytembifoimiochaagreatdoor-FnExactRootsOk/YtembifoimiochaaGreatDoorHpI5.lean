/- The iterator of a view's things. -/
import Derived.Test.YtembifoimiochaaGreatDoorHpI4
import Derived.Test.YtembifoimiochaaGreatDoorRangeL
import Derived.Test.YtembifoimiochaaGreatDoorPaKinB
import Derived.Shelf.Abstract
import Derived.Shelf.RegionOpen
import Derived.OwnWalkIn
import Derived.TacticsInMore
import Derived.LoopNIn
import Derived.LoopIn
namespace Go.Proofs.YtembifoimiochaaGreatDoor
open Go.ChangeShapes Go.WideShapes Go.ChangeAt Go.RowKit Go.Shelf Go.Deep
set_option linter.unusedVariables false
set_option linter.unusedSimpArgs false
attribute [local go_sem] Oper.semAt_some

theorem wpListIn_load_rec' {F : Fence} {n : Nat} {ops : Array Oper} {rest : List Oper} {o : Oper} {a : Act} {w : World} {Q : Exit → Act → World → Prop} (hgd : o.guard = none) (ty : TypeId) (x : Operand) (ho : o.op = .load ty x)
 (g : Nat) (T : TypeId) (vs : List Value) (d : TypeDesc) (hx : a.eval x = .pointer (some ⟨g, 0, none⟩)) (hr : Rec w g T vs) (hu : Tryz.prog.underlying ty = some d) (hd : d.isRow = true) (hi : (Tryz.prog.info? ty).map (·.size) = some vs.length)
 (h : wpListIn F n Tryz.prog ops Q rest (a.put o.dst (.agg vs.toArray)) w) : wpListIn F n Tryz.prog ops Q (o :: rest) a w := by
 refine wpListIn_plain hgd fun K hK' => ?_
 have hrun := run_loadVar_mid (P := Tryz.prog) w g 0 ty vs d hr.range hu hd hi
 unfold Oper.wpIn
 refine ⟨?_, ?_⟩
 ·simp [Oper.about, ho]
 ·rw [Oper.semAt_plain F _ _ (by rw [ho]; intro c hc'; cases hc')]
  simp only [execOp, ho, hx, Instr.loadAt, Instr.sureAddr, Sem.run_bind, Sem.run_pure, Result.andThen_ok, hrun]
  exact hK' _ _ h

/-- What the rounds keep: the table, the words, and the boxes of views, tables and things. -/
def BoxT (T : TypeId) : Prop := T = 131 ∨ T = 98 ∨ T = 93 ∨ T = 151
structure KpC (hi sb : Nat) (A B : World) : Prop where
 sz : A.heap.size ≤ B.heap.size
 blk : ∀ k : Nat, k < hi → B.heap[k]? = A.heap[k]?
 ws : ∀ o : Nat, o < 162 → B.cell? ⟨sb, o, none⟩ = A.cell? ⟨sb, o, none⟩
 box : ∀ (k : Nat) (c : Array Value) (T : TypeId), BoxT T → T ≠ 131 → A.heap[k]? = some (Obj.cells c T (0, 0)) → B.heap[k]? = A.heap[k]?
/-- What a round may keep. -/
structure KpH (hi sb n₂ : Nat) (A B : World) : Prop extends KpC hi sb A B where
 oth : ∀ (k : Nat) (o : Obj), n₂ ≤ k → A.heap[k]? = some o → o.isCells = false → B.heap[k]? = some o
 th : ∀ (k : Nat) (c : Array Value), n₂ ≤ k → A.heap[k]? = some (Obj.cells c 131 (0, 0)) → B.heap[k]? = A.heap[k]?
theorem KpC.refl (hi sb : Nat) (A : World) : KpC hi sb A A := ⟨Nat.le_refl _, fun _ _ => rfl, fun _ _ => rfl, fun _ _ _ _ _ _ => rfl⟩
theorem KpC.trans {hi sb : Nat} {A B C : World} (h : KpC hi sb A B) (k : KpC hi sb B C) : KpC hi sb A C :=
 ⟨Nat.le_trans h.sz k.sz, fun j hj => (k.blk j hj).trans (h.blk j hj), fun o ho => (k.ws o ho).trans (h.ws o ho), fun j c T hT hn hj => (k.box j c T hT hn ((h.box j c T hT hn hj).trans hj)).trans (h.box j c T hT hn hj)⟩
theorem KpC.of_below {hi sb : Nat} {A B : World} (h : Below A.heap.size A B) (h1 : hi ≤ A.heap.size) (h2 : sb < A.heap.size) : KpC hi sb A B :=
 ⟨h.size, fun k hk => h.block k (by omega), fun o _ => h.cell (p := ⟨sb, o, none⟩) h2, fun k c T _ _ hk => h.block k (Array.getElem?_eq_some_iff.1 hk).1⟩
theorem KpC.own {β : Type} {hi sb B : Nat} {A : World} (h1 : hi ≤ B) (h2 : sb < B) (h3 : B ≤ A.heap.size) : OwnFrom B (fun (_ : β) W => KpC hi sb A W) := fun s X Y row hs hg hr => by
 have hs2 : ∀ k, k < B → Y.heap[k]? = X.heap[k]? := fun k hk => hg.block k (by have := hs.sz; omega) (fun e => by have := (hr k e.symm).1; omega)
 refine ⟨Nat.le_trans hs.sz hg.size, fun k hk => (hs2 k (by omega)).trans (hs.blk k hk), fun o ho => (World.cell?_of_block (w := X) (hs2 sb h2)).trans (hs.ws o ho), fun k c T hT hn hA => ?_⟩
 have hX := (hs.box k c T hT hn hA).trans hA
 exact (hg.block k (Array.getElem?_eq_some_iff.1 hX).1 (fun e => by
  obtain ⟨_, o, ho, hc⟩ := hr k e.symm
  rw [hX] at ho
  cases ho
  simp [Obj.isCells] at hc)).trans (hs.box k c T hT hn hA)
theorem KpH.trans {hi sb n₂ : Nat} {A B C : World} (h : KpH hi sb n₂ A B) (k : KpH hi sb n₂ B C) : KpH hi sb n₂ A C :=
 ⟨h.toKpC.trans k.toKpC, fun j o hj h1 h2 => k.oth j o hj (h.oth j o hj h1 h2) h2, fun j c hj hA => (k.th j c hj ((h.th j c hj hA).trans hA)).trans (h.th j c hj hA)⟩
theorem KpH.of_below {hi sb n₂ : Nat} {A B : World} (h : Below A.heap.size A B) (h1 : hi ≤ A.heap.size) (h2 : sb < A.heap.size) : KpH hi sb n₂ A B :=
 ⟨.of_below h h1 h2, fun k o _ hk _ => (h.block k (Array.getElem?_eq_some_iff.1 hk).1).trans hk, fun k c _ hk => h.block k (Array.getElem?_eq_some_iff.1 hk).1⟩
theorem KpH.put {hi sb n₂ l : Nat} (h1 : hi ≤ l) (h2 : sb < l) (h3 : l < n₂) (W : World) (o o' : Obj) (hW : W.heap[l]? = some o) (hc : o.isCells = false) : KpH hi sb n₂ W (W.putObj l o') := by
 have hk : ∀ k, k ≠ l → (W.putObj l o').heap[k]? = W.heap[k]? := fun k hk => World.putObj_heap_other hk
 refine ⟨⟨by simp [World.putObj], fun k h => hk k (by omega), fun o _ => World.cell?_of_block (w := W) (hk sb (by omega)), fun k c T _ _ h => hk k fun e => ?_⟩, fun k o hk' h _ => (hk k (by omega)).trans h, fun k c hk' h => hk k (by omega)⟩
 rw [e, hW] at h
 cases h
 simp [Obj.isCells] at hc
theorem KpH.less {hi sb n₂ n₃ : Nat} {A B : World} (h : KpH hi sb n₂ A B) (hn : n₂ ≤ n₃) : KpH hi sb n₃ A B := ⟨h.toKpC, fun k o hk => h.oth k o (by omega), fun k c hk => h.th k c (by omega)⟩
theorem WordsAt.kp {hi sb : Nat} {A B : World} {ws : List Int} (h : WordsAt A sb ws) (k : KpC hi sb A B) (h160 : ws.length ≤ 160) : WordsAt B sb ws := fun i hi => (k.ws _ (by omega)).trans (h i hi)
theorem Rec.kp {hi sb b : Nat} {A B : World} {T : TypeId} {vs : List Value} (h : Rec A b T vs) (k : KpC hi sb A B) (hT : BoxT T) (hn : T ≠ 131 := by decide) : Rec B b T vs := (k.box b _ T hT hn h).trans h
theorem Rec.kpT {hi sb n₂ b : Nat} {A B : World} {vs : List Value} (h : Rec A b 131 vs) (k : KpH hi sb n₂ A B) (hn : n₂ ≤ b) : Rec B b 131 vs := (k.th b _ hn h).trans h
theorem TabIn.kp {hi lo sb : Nat} {A B : World} {ra : Option Addr} {cb co : Nat} {gs : List (List Ty)} (h : TabIn A lo hi ra cb co gs) (k : KpC hi sb A B) : TabIn B lo hi ra cb co gs :=
 ⟨h.1.same (fun j _ hj => k.blk j hj) (Nat.le_refl _) (Nat.le_refl _), h.2.1, fun i hi' => (World.cell?_of_block (w := A) (k.blk cb h.2.1)).trans (h.2.2 i hi')⟩

theorem viewThings_in (F : Fence) (n : Nat) (hf : F.fn 75) (hro : F.round = none) (x0 x1 x2 y0 y1 : Value) (w : World) :
  CallsIn F n Tryz.prog 75 #[.agg #[x0, x1, x2], .agg #[y0, y1]] w fun e w' =>
   e = .returned (.func (.func 102) #[] #[.pointer (some ⟨w.heap.size, 0, none⟩), .pointer (some ⟨w.heap.size + 1, 0, none⟩)]) ∧ w' = (w.alloc (.cells #[x0, x1, x2] 98)).alloc (.cells #[y0, y1] 93) := by
 refine callsIn_of_wp Tryz.func75 rfl hf ?_ hro
 simp only [Tryz.ntmps75, List.size_toArray, List.length_cons, List.length_nil, Nat.reduceAdd, Nat.reduceSub, Array.replicate_succ, Array.replicate_zero, List.push_toArray, List.append_toArray, List.nil_append, List.cons_append]
 gi_wp2
 go_ret
 exact ⟨by simp, rfl⟩

/-- What lies where a thing is handed over. -/
def GH (lo hi S sb : Nat) (gs : List (List Ty)) (ws L : List Int) (pre : List HTh) (x : HTh) (W : World) : Prop :=
 (pre ++ [x]).map (fun y => (y.a : Int)) <+: L ∧ ThIn W lo hi S sb gs ws x
theorem grown_of {A B : World} (h : Below A.heap.size A B) : A.grownBy B none := ⟨h.os, h.tape, h.output, h.size, fun k hk _ => h.block k hk⟩
theorem thIn_below {w w' : World} {lo hi S S1 S0 sb : Nat} {gs : List (List Ty)} {ws : List Int} {x : HTh} (h : ThIn w lo hi S1 sb gs ws x) (hb : Below w.heap.size w w') (h1 : hi ≤ w.heap.size) (h2 : S ≤ S0) (h3 : S0 ≤ S1) : ThIn w' lo hi S sb gs ws x := by
 refine ⟨?_, h.2⟩
 rcases h.1 with h | h
 ·exact .inl (h.keep (hb.mono h1))
 ·exact .inr ((h.keep hb).wide (by omega) hb.size)

set_option maxRecDepth 100000 in
set_option maxHeartbeats 4000000 in
theorem viewIter (F : Fence) (n : Nat) (hf : F.fn 102) (hro : F.round = none) (hn : 1 ≤ n) (HCI : Hid (∀ n f args w R, Calls Tryz.prog f args w R → CallsIn F n Tryz.prog f args w R)) (hf2 : F.fn 103) (hf3 : F.fn 76)
 (l Bv Bk lo hi sb f wn wc u S n₂ : Nat) (ra : Option Addr) (rc cb co cc : Nat) (gs : List (List Ty)) (ws : List Int) (J Jx : List HTh → World → Prop) (hP : Parts gs)
 (hu : u ≤ wn) (hfw : f + wn ≤ ws.length) (h160 : ws.length ≤ 160) (hwc : wn ≤ wc) (hwc' : wc ≤ 1000) (hI : ∀ i, -9223372036854775808 ≤ nAt ws i ∧ nAt ws i ≤ 9223372036854775807)
 (hY : ∀ pre (x : HTh) W, J pre W → GH lo hi S sb gs ws (part gs ws (f + u) f).1 pre x W → YieldAt F (n - 1) Tryz.prog l #[thV gs ws x] W fun e W' =>
  (e = .returned (.bool true) ∧ J (pre ++ [x]) W' ∧ KpH hi sb n₂ W W') ∨ (e = .returned (.bool false) ∧ Jx (pre ++ [x]) W' ∧ KpH hi sb n₂ W W'))
 (W : World) (hn₂ : n₂ ≤ W.heap.size) (hS : S ≤ W.heap.size) (hJA : OwnFrom W.heap.size J) (hT : TabIn W lo hi ra cb co gs) (hh : hi ≤ W.heap.size) (hW : WordsAt W sb ws) (hsb : sb < W.heap.size)
 (hv : Rec W Bv 98 [.slice (some ⟨sb, 2 + f, none⟩) wn wc, .int .i64 (f : Int), .int .i64 (u : Int)]) (hk : Rec W Bk 93 [.slice ra (kinCount gs) rc, .slice (some ⟨cb, co, none⟩) (kinCount gs) cc]) (h0 : J [] W) :
 CallsIn F n Tryz.prog 102 #[.func (.yield l) #[] #[], .pointer (some ⟨Bv, 0, none⟩), .pointer (some ⟨Bk, 0, none⟩)] W fun e W' => (∃ v, e = .returned v) ∧
  ((∃ ys : List HTh, ys.map (fun y => (y.a : Int)) = (part gs ws (f + u) f).1 ∧ J ys W') ∨ (∃ pre : List HTh, pre.map (fun y => (y.a : Int)) <+: (part gs ws (f + u) f).1 ∧ Jx pre W')) := by
 have HTH := hide (fun (w : World) (c : Nat) (hc : c < u) (hT : TabIn w lo hi ra cb co gs) (hh : hi ≤ w.heap.size) (hW : WordsAt w sb ws) (hsb : sb < w.heap.size) => viewThing_any ra rc cb co cc lo hi sb wc gs ws f wn u c w hP hT hh hW hsb hu hc hfw h160 hwc hwc' hI)
 have HY := hide hY
 have HTA := hide hT
 have HWS := hide hW
 have HV := hide hv
 have HK := hide hk
 have HPB : Hid (∀ fr, fr < f + u → okW gs ws (f + u) fr = false → part gs ws (f + u) fr = ([], false)) := fun fr h1 h2 => part_bad h1 (by
  unfold okW lenW at h2
  simp only [Bool.and_eq_false_iff, decide_eq_false_iff_not] at h2
  omega)
 have HPS : Hid (∀ fr, fr < f + u → okW gs ws (f + u) fr = true → fr + 1 + lenW gs ws fr ≤ f + u ∧ part gs ws (f + u) fr = ((fr : Int) :: (part gs ws (f + u) (fr + 1 + lenW gs ws fr)).1, (part gs ws (f + u) (fr + 1 + lenW gs ws fr)).2)) := fun fr h1 h2 => by
  unfold okW at h2
  simp only [Bool.and_eq_true, decide_eq_true_eq] at h2
  refine ⟨h2.2, part_step h1 ?_⟩
  unfold lenW at h2
  omega
 have HPE : Hid (∀ fr, f + u ≤ fr → part gs ws (f + u) fr = ([], true)) := fun fr h => part_stop h
 have HTV : Hid (∀ x, thV gs ws x = .agg #[.int .i64 (x.a : Int), .int .i64 (nAt ws x.a / 16), .slice x.fa (lenW gs ws x.a) x.fc, .slice x.wa (lenW gs ws x.a) x.wc]) := fun _ => rfl
 have HTI := hide (fun (w : World) (S' : Nat) x (h : ThIn w lo hi S' sb gs ws x) => h)
 clear hY hT hW hv hk hI hP
 refine callsIn_of_wp Tryz.func102 rfl hf ?_ hro
 simp only [Tryz.ntmps102, List.size_toArray, List.length_cons, List.length_nil, Nat.reduceAdd, Nat.reduceSub, Array.replicate_succ, Array.replicate_zero, List.push_toArray, List.append_toArray, List.nil_append, List.cons_append]
 generalize hLL : (part gs ws (f + u) f).1 = L at *
 have HL := hide hLL
 clear hLL
 gi_wp2
 gi_loopw [4] (fun v4 wr => ∃ (c : Nat) (pre : List HTh), c ≤ u ∧ v4 = .int .i64 (c : Int) ∧ Hid (L = pre.map (fun y => (y.a : Int)) ++ (part gs ws (f + u) (f + c)).1) ∧ W.heap.size ≤ wr.heap.size ∧ Hid (TabIn wr lo hi ra cb co gs) ∧ Hid (WordsAt wr sb ws) ∧ Hid (Rec wr Bv 98 [.slice (some ⟨sb, 2 + f, none⟩) wn wc, .int .i64 (f : Int), .int .i64 (u : Int)]) ∧ Hid (Rec wr Bk 93 [.slice ra (kinCount gs) rc, .slice (some ⟨cb, co, none⟩) (kinCount gs) cc]) ∧ Hid (J pre wr)) (fun v4 wr => u - (intOf v4).toNat)
 case atStart => exact ⟨0, [], Nat.zero_le _, rfl, HL.out.symm, Nat.le_refl _, HTA, HWS, HV, HK, h0⟩
 case round =>
  obtain ⟨c, pre, hc, rfl, HLP, hsz, HT1, HW1, HV1, HK1, HJ⟩ := hrel
  clear HTA HWS HV HK
  have v0 := HV1.out.cell (o := 0) rfl
  have v1 := HV1.out.cell (o := 1) rfl
  have v2 := HV1.out.cell (o := 2) rfl
  have k0 := HK1.out.cell (o := 0) rfl
  have k1 := HK1.out.cell (o := 1) rfl
  by_cases hlt : c < u
  ·have g1 : (c : Int) < (u : Int) := by omega
   have g2 : (0 : Int) ≤ (c : Int) := by omega
   have hsw : sb < wr.heap.size := by omega
   have hhw : hi ≤ wr.heap.size := by omega
   have HCL := hide (HTH.out wr c hlt HT1.out hhw HW1.out hsw)
   cases hok : okW gs ws (f + u) (f + c) with
   | false =>
    have hpb := HPB.out (f + c) (by omega) hok
    have HE : Hid (pre.map (fun y => (y.a : Int)) = L) := by show _ = _; rw [HLP.out, hpb]; simp
    have HC0 : Hid (Calls Tryz.prog 103 #[.agg #[.slice (some ⟨sb, 2 + f, none⟩) wn wc, .int .i64 (f : Int), .int .i64 (u : Int)], .agg #[.slice ra (kinCount gs) rc, .slice (some ⟨cb, co, none⟩) (kinCount gs) cc], .int .i64 (c : Int)] wr fun e w' => e = .returned (.tuple #[.agg #[.int .i64 0, .int .i64 0, .slice none 0 0, .slice none 0 0], .bool false]) ∧ Below wr.heap.size wr w') := HCL.out.mono fun e w' h => by
     obtain ⟨hq, hb⟩ := h
     rcases hq with ⟨_, he⟩ | ⟨h1, _⟩
     ·exact ⟨he, hb⟩
     ·rw [hok] at h1; cases h1
    clear HCL hpb HLP HTH HPB HPS HPE HTV HTI
    gi_wp2_with (first | (gi_at_call 103; refine (HCI.out _ _ _ _ _ HC0.out).mono ?_; rintro e w4 ⟨rfl, b4⟩; have B4 := hide b4; have hJ4 := hide (hJA pre wr _ none HJ.out (grown_of (B4.out.trans ((two_b w4 (.cells #[.int .i64 0, .int .i64 0, .slice none 0 0, .slice none 0 0] 131)).mono B4.out.size))) (fun r e => by cases e)); clear b4))
    refine ⟨fun f h => (by cases h), ?_⟩
    gi_wp2
    refine bodyPost_ret (results_none rfl _ _ _) rfl ?_
    exact ⟨⟨_, rfl⟩, .inl ⟨pre, HE.out, hJ4.out⟩⟩
   | true =>
    obtain ⟨hle, hps⟩ := HPS.out (f + c) (by omega) hok
    have HTVc := HTV.out
    have HC0 : Hid (Calls Tryz.prog 103 #[.agg #[.slice (some ⟨sb, 2 + f, none⟩) wn wc, .int .i64 (f : Int), .int .i64 (u : Int)], .agg #[.slice ra (kinCount gs) rc, .slice (some ⟨cb, co, none⟩) (kinCount gs) cc], .int .i64 (c : Int)] wr fun e w' => ∃ fa fc wa wc', e = .returned (.tuple #[.agg #[.int .i64 ((f + c : Nat) : Int), .int .i64 (nAt ws (f + c) / 16), .slice fa (lenW gs ws (f + c)) fc, .slice wa (lenW gs ws (f + c)) wc'], .bool true]) ∧ ThIn w' lo hi wr.heap.size sb gs ws ⟨f + c, fa, fc, wa, wc'⟩ ∧ Below wr.heap.size wr w') := HCL.out.mono fun e w' h => by
     obtain ⟨hq, hb⟩ := h
     rcases hq with ⟨h1, _⟩ | ⟨_, x, hx, he, ht⟩
     ·rw [hok] at h1; cases h1
     ·obtain ⟨xa, fa, fc, wa, wc'⟩ := x
      simp only at hx
      subst hx
      exact ⟨fa, fc, wa, wc', he, ht, hb⟩
    have HLP2 : Hid (L = (pre.map (fun y => (y.a : Int)) ++ [((f + c : Nat) : Int)]) ++ (part gs ws (f + u) (f + (c + (1 + lenW gs ws (f + c))))).1) := by
     show _ = _
     rw [HLP.out, hps, show f + (c + (1 + lenW gs ws (f + c))) = f + c + 1 + lenW gs ws (f + c) by omega]
     simp
    have HYc : Hid (∀ fa fc wa wc' w5, J pre w5 → ThIn w5 lo hi S sb gs ws ⟨f + c, fa, fc, wa, wc'⟩ → YieldAt F (n - 1) Tryz.prog l #[.agg #[.int .i64 ((f + c : Nat) : Int), .int .i64 (nAt ws (f + c) / 16), .slice fa (lenW gs ws (f + c)) fc, .slice wa (lenW gs ws (f + c)) wc']] w5 fun e W' => (e = .returned (.bool true) ∧ J (pre ++ [⟨f + c, fa, fc, wa, wc'⟩]) W' ∧ KpH hi sb n₂ w5 W') ∨ (e = .returned (.bool false) ∧ Jx (pre ++ [⟨f + c, fa, fc, wa, wc'⟩]) W' ∧ KpH hi sb n₂ w5 W')) := fun fa fc wa wc' w5 hj ht => HY.out pre ⟨f + c, fa, fc, wa, wc'⟩ w5 hj ⟨⟨_, by rw [List.map_append]; exact HLP2.out.symm⟩, ht⟩
    have hle2 : c + (1 + lenW gs ws (f + c)) ≤ u := by omega
    have hl6 : lenW gs ws (f + c) ≤ 1000 := by omega
    clear HCL hps HLP HTH HPB HPS HPE HTV HTI HTVc
    generalize nAt ws (f + c) / 16 = ty at *
    generalize lenW gs ws (f + c) = m at *
    have hfc : ((f + c : Nat) : Int) ≤ 1000 := by omega
    have hfc0 : (0 : Int) ≤ ((f + c : Nat) : Int) := by omega
    generalize hA : ((f + c : Nat) : Int) = A at *
    gi_wp2_with (first | (gi_at_call 103; refine (HCI.out _ _ _ _ _ HC0.out).mono ?_; rintro e w4 ⟨fa, fc, wa, wc', rfl, hth, b4⟩; have B4 := hide b4; have B5 := hide (B4.out.trans ((two_b w4 (.cells #[.int .i64 A, .int .i64 ty, .slice fa m fc, .slice wa m wc'] 131)).mono B4.out.size)); have hJ5 := hJA pre wr _ none HJ.out (grown_of B5.out) (fun r e => by cases e); have hth5 := thIn_below hth (two_b w4 (.cells #[.int .i64 A, .int .i64 ty, .slice fa m fc, .slice wa m wc'] 131)) (Nat.le_trans hhw B4.out.size) hS hsz; obtain ⟨fn, tmps, assign, body, hy, hR⟩ := HYc.out fa fc wa wc' _ hJ5 hth5; have HRR := hide hR; clear hR b4 hJ5 hth hth5))
    refine HRR.out.mono ?_
    rintro e W3 (⟨rfl, hJ3, hk3⟩ | ⟨rfl, hJx3, _⟩)
    ·have HKp := hide hk3
     have HJ3 := hide hJ3
     have RB : Hid (Rec W3 w4.heap.size 131 [.int .i64 A, .int .i64 ty, .slice fa m fc, .slice wa m wc']) := (Rec.new w4 _ [.int .i64 A, .int .i64 ty, .slice fa m fc, .slice wa m wc']).kpT HKp.out (by have := B4.out.size; omega)
     have T3 := hide ((HT1.out.keep (B5.out.mono hhw)).kp HKp.out.toKpC)
     have W3w := hide ((HW1.out.keep (fun o => B5.out.cell (p := ⟨sb, o, none⟩) hsw)).kp HKp.out.toKpC h160)
     have V3 := hide ((HV1.out.below B5.out HV1.out.lt).kp HKp.out.toKpC (.inr (.inl rfl)))
     have K3 := hide ((HK1.out.below B5.out HK1.out.lt).kp HKp.out.toKpC (.inr (.inr (.inl rfl))))
     have z3 : Hid (wr.heap.size ≤ W3.heap.size) := Nat.le_trans B5.out.size HKp.out.sz
     have t0 := RB.out.cell (o := 0) rfl
     have t1 := RB.out.cell (o := 1) rfl
     have t2 := RB.out.cell (o := 2) rfl
     have t3 := RB.out.cell (o := 3) rfl
     clear HRR hk3 hJ3 hy HC0 HYc HKp HT1 HW1 HV1 HK1 v0 v1 v2 k0 k1
     have wj : IntKind.i64.wrap ((c : Int) + (1 + (m : Int))) = (c : Int) + (1 + (m : Int)) := by rw [IntKind.wrap_i64]; omega
     gi_wp2_with (gi_at_call 76; refine (HCI.out _ _ _ _ _ (thSize_any A ty fa wa m fc m wc' _ hl6)).mono ?_; rintro e w6 ⟨rfl, b6⟩; have B6 := hide b6; clear b6)
     have z4 := z3.out
     refine ⟨⟨c + (1 + m), pre ++ [⟨f + c, fa, fc, wa, wc'⟩], hle2, by go_num, ?_, by have := B6.out.size; omega, T3.out.keep (B6.out.mono (by omega)), W3w.out.keep (fun o => B6.out.cell (p := ⟨sb, o, none⟩) (by show sb < _; omega)), V3.out.below B6.out V3.out.lt, K3.out.below B6.out K3.out.lt, hJA _ W3 w6 none HJ3.out (grown_of B6.out) (fun r e => by cases e)⟩, by simp [intOf]; omega⟩
     show _ = _
     rw [HLP2.out, List.map_append, ← hA]; rfl
    ·have HJx := hide hJx3
     have HPre : Hid ((pre ++ [⟨f + c, fa, fc, wa, wc'⟩] : List HTh).map (fun y => (y.a : Int)) <+: L) := ⟨_, by rw [HLP2.out, List.map_append, ← hA]; rfl⟩
     clear HRR hJx3 hy HC0 HYc
     gi_wp2
     refine bodyPost_ret (results_none rfl _ _ _) rfl ?_
     exact ⟨⟨_, rfl⟩, .inr ⟨_, HPre.out, HJx.out⟩⟩
  ·have hq : ¬ (c : Int) < (u : Int) := by omega
   have hpe := HPE.out (f + c) (by omega)
   have HE : Hid (pre.map (fun y => (y.a : Int)) = L) := by show _ = _; rw [HLP.out, hpe]; simp
   clear hpe HLP HTH HPB HPS HPE HTV HTI
   gi_wp2
   go_end0
   exact ⟨⟨_, rfl⟩, .inl ⟨pre, HE.out, HJ.out⟩⟩
end Go.Proofs.YtembifoimiochaaGreatDoor
