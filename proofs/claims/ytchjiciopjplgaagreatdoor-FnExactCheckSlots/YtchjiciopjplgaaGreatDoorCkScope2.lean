/- in, checkFunScope and CheckSlots of the program. -/
import Derived.Test.YtchjiciopjplgaaGreatDoorCkScope
import Derived.Deep.Cut
namespace Go.Proofs.YtchjiciopjplgaaGreatDoor
open Go.ChangeShapes Go.WideShapes Go.ChangeAt Go.RowKit
set_option linter.unusedVariables false
set_option linter.unusedSimpArgs false

theorem all_set {l : List Value} (h : l.toArray.all (·.oneCell') = true) (i : Nat) {x : Value} (hx : x.oneCell' = true) : (l.set i x).toArray.all (·.oneCell') = true := by
  refine all_oneCell_toArray fun v hv => ?_
  rcases List.mem_or_eq_of_mem_set hv with h1 | rfl
  · exact (Array.all_eq_true_iff_forall_mem.1 h) v (by simpa using h1)
  · exact hx
theorem scope1_one (a0 a1 a2 ra ca : Option Addr) (n0 c0 n1 c1 n2 c2 rn rc cn cc : Nat) : (scope1 (.slice a0 n0 c0) (.slice a1 n1 c1) (.slice a2 n2 c2) (.slice ra rn rc) (.slice ca cn cc)).toArray.all (·.oneCell') = true := by
  rw [scope1_lit]
  simp [Value.oneCell']
theorem scope1_len (x0 x1 x2 rv cv : Value) : (scope1 x0 x1 x2 rv cv).length = 47 := rfl

/-- A scope in a function. -/
def scopeIn (L : List Value) (f : Int) (x0 x1 x2 x3 x4 x5 s : Value) : List Value := ((((((((L.set 39 (.int .i64 f)).set 40 x0).set 41 x1).set 42 x2).set 43 x3).set 44 x4).set 45 x5).set 46 s)

set_option maxHeartbeats 1000000 in
set_option maxRecDepth 100000 in
theorem scopeIn_any {md : Bool} (a0 a1 a2 ra ca : Option Addr) (n0 c0 n1 c1 c2 rn rc cn cc lo hi k : Nat) (fs : List GFun) (w : World) (hk : k < fs.length) (hB : FunsB 1048576 fs) (hx : FunsM md w lo hi a2 fs) (hh : hi ≤ w.heap.size) :
    Calls Tryz.prog 38 #[.agg (scope1 (.slice a0 n0 c0) (.slice a1 n1 c1) (.slice a2 fs.length c2) (.slice ra rn rc) (.slice ca cn cc)).toArray, .int .i64 (k : Int)] w fun e w' =>
      ∃ (vs : List Value) (a : Option Addr) (cap : Nat), e = .returned (.agg vs.toArray) ∧ vs.length = 47 ∧ vs.toArray.all (·.oneCell') = true ∧ vs[46]? = some (.slice a ((funAt' fs k).takes ++ (funAt' fs k).own).length cap) ∧ FdRow w' w.heap.size (.slice a ((funAt' fs k).takes ++ (funAt' fs k).own).length cap) ((funAt' fs k).takes ++ (funAt' fs k).own) ∧ Below w.heap.size w w' := by
  rcases hx with hnil | ⟨b, off, rfl, g1, g2, _, g3⟩
  · rw [hnil] at hk; exact absurd hk (Nat.not_lt_zero _)
  have hBk := hB.2 k hk
  have hFA := g3 k hk
  clear g3 hB
  generalize funAt' fs k = F at hBk hFA ⊢
  obtain ⟨ts, ⟨gk, go, gm⟩, os, bs⟩ := F
  obtain ⟨p0, q0, p4, q4, p5, q5, y0, y1, y2, y3, y4, y5, z0, z4, z5⟩ := hFA
  simp only at y0 y1 y2 y3 y4 y5 z0 z4 z5 ⊢
  have l0 : ts.length ≤ 1048576 := hBk.1
  have l1 : os.length ≤ 1048576 := hBk.2.1
  have Z0 := hide z0.1
  have Z4 := hide z4.1
  clear z0 z4 z5 hBk
  obtain ⟨L, hL⟩ : ∃ L, L = scope1 (.slice a0 n0 c0) (.slice a1 n1 c1) (.slice (some ⟨b, off, none⟩) fs.length c2) (.slice ra rn rc) (.slice ca cn cc) := ⟨_, rfl⟩
  have hone : L.toArray.all (·.oneCell') = true := by rw [hL]; exact scope1_one _ _ _ _ _ _ _ _ _ _ _ _ _ _ _
  have hlen : L.length = 47 := by rw [hL]; rfl
  have h2 : L[2]? = some (.slice (some ⟨b, off, none⟩) fs.length c2) := by rw [hL]; rfl
  rw [← hL]
  clear hL
  have hone2 : (scopeIn L (k : Int) (.slice p0 ts.length q0) (.int .i64 gk) (.int .i64 go) (.bool gm) (.slice p4 os.length q4) (.slice p5 bs.length q5) (.slice none 0 0)).length = 47 := by simp [scopeIn, hlen]
  obtain ⟨Z0L, hZ0L⟩ : ∃ z, z = scope0 := ⟨_, rfl⟩
  obtain ⟨w1, hw1⟩ : ∃ w1, w1 = (w.alloc (.cells L.toArray 61)).alloc (.cells scope0.toArray 61) := ⟨_, rfl⟩
  have hZl : Z0L.length = 47 := by rw [hZ0L]; rfl
  have R1 : Hid (Rec w1 w.heap.size 61 L) := by show Rec _ _ _ _; rw [hw1]; exact (Rec.new _ _ _).alloc _
  have G1 : Hid (Rec w1 (w.heap.size + 1) 61 Z0L) := by show Rec _ _ _ _; rw [hw1, hZ0L]; exact Rec.new' _ _ _ _ (by simp)
  have B1 : Hid (Below w.heap.size w w1) := by show Below _ _ _; rw [hw1]; exact ((Below.refl _ _).alloc (Nat.le_refl _) _).alloc (by simp) _
  have e0 := y0
  have hbw : b < w.heap.size := by omega
  have c0' : w1.cell? ⟨b, off + k * 6, none⟩ = some (.slice p0 ts.length q0) := by rw [B1.out.cell (p := ⟨b, off + k * 6, none⟩) hbw]; exact y0
  have c1' : w1.cell? ⟨b, off + k * 6 + 1, none⟩ = some (.int .i64 gk) := by rw [B1.out.cell (p := ⟨b, off + k * 6 + 1, none⟩) hbw]; exact y1
  have c2' : w1.cell? ⟨b, off + k * 6 + 2, none⟩ = some (.int .i64 go) := by rw [B1.out.cell (p := ⟨b, off + k * 6 + 2, none⟩) hbw]; exact y2
  have c3' : w1.cell? ⟨b, off + k * 6 + 3, none⟩ = some (.bool gm) := by rw [B1.out.cell (p := ⟨b, off + k * 6 + 3, none⟩) hbw]; exact y3
  have c4' : w1.cell? ⟨b, off + k * 6 + 4, none⟩ = some (.slice p4 os.length q4) := by rw [B1.out.cell (p := ⟨b, off + k * 6 + 4, none⟩) hbw]; exact y4
  have c5' : w1.cell? ⟨b, off + k * 6 + 5, none⟩ = some (.slice p5 bs.length q5) := by rw [B1.out.cell (p := ⟨b, off + k * 6 + 5, none⟩) hbw]; exact y5
  clear y0 y1 y2 y3 y4 y5 e0
  have d2 := R1.out.cell h2
  have hbne : ¬ b = w.heap.size := by omega
  have hbne2 : ¬ w.heap.size = b := by omega
  have j1 : (0 : Int) ≤ (k : Int) := by omega
  have j2 : (k : Int) < (fs.length : Int) := by omega
  have f39 := R1.out.frozen 39
  obtain ⟨v39, hv39⟩ : ∃ v, L[39]? = some v := ⟨_, List.getElem?_eq_getElem (by omega)⟩
  have e39 := R1.out.cell hv39
  have f40 := R1.out.frozen 40
  obtain ⟨v40, hv40⟩ : ∃ v, L[40]? = some v := ⟨_, List.getElem?_eq_getElem (by omega)⟩
  have e40 := R1.out.cell hv40
  have f41 := R1.out.frozen 41
  obtain ⟨v41, hv41⟩ : ∃ v, L[41]? = some v := ⟨_, List.getElem?_eq_getElem (by omega)⟩
  have e41 := R1.out.cell hv41
  have f42 := R1.out.frozen 42
  obtain ⟨v42, hv42⟩ : ∃ v, L[42]? = some v := ⟨_, List.getElem?_eq_getElem (by omega)⟩
  have e42 := R1.out.cell hv42
  have f43 := R1.out.frozen 43
  obtain ⟨v43, hv43⟩ : ∃ v, L[43]? = some v := ⟨_, List.getElem?_eq_getElem (by omega)⟩
  have e43 := R1.out.cell hv43
  have f44 := R1.out.frozen 44
  obtain ⟨v44, hv44⟩ : ∃ v, L[44]? = some v := ⟨_, List.getElem?_eq_getElem (by omega)⟩
  have e44 := R1.out.cell hv44
  have f45 := R1.out.frozen 45
  obtain ⟨v45, hv45⟩ : ∃ v, L[45]? = some v := ⟨_, List.getElem?_eq_getElem (by omega)⟩
  have e45 := R1.out.cell hv45
  have f46 := R1.out.frozen 46
  obtain ⟨v46, hv46⟩ : ∃ v, L[46]? = some v := ⟨_, List.getElem?_eq_getElem (by omega)⟩
  have e46 := R1.out.cell hv46
  go_enter Tryz.func38, Tryz.ntmps38
  go_upto_region 1 with (fail)
  unfold scope0 at hw1
  rw [← hw1]
  clear hw1 hZ0L
  obtain ⟨wc, hwc⟩ : ∃ wc, wc = (((((((w1.setCell ⟨w.heap.size, 39, none⟩ (.int .i64 (k : Int))).setCell ⟨w.heap.size, 40, none⟩ (.slice p0 ts.length q0)).setCell ⟨w.heap.size, 41, none⟩ (.int .i64 gk)).setCell ⟨w.heap.size, 42, none⟩ (.int .i64 go)).setCell ⟨w.heap.size, 43, none⟩ (.bool gm)).setCell ⟨w.heap.size, 44, none⟩ (.slice p4 os.length q4)).setCell ⟨w.heap.size, 45, none⟩ (.slice p5 bs.length q5)) := ⟨_, rfl⟩
  obtain ⟨Lc, hLc⟩ : ∃ Lc, Lc = ((((((L.set 39 (.int .i64 (k : Int))).set 40 (.slice p0 ts.length q0)).set 41 (.int .i64 gk)).set 42 (.int .i64 go)).set 43 (.bool gm)).set 44 (.slice p4 os.length q4)).set 45 (.slice p5 bs.length q5) := ⟨_, rfl⟩
  have RC : Hid (Rec wc w.heap.size 61 Lc) := by show Rec _ _ _ _; rw [hwc, hLc]; exact ((((((R1.out.set 39 _).set 40 _).set 41 _).set 42 _).set 43 _).set 44 _).set 45 _
  have GC : Hid (Rec wc (w.heap.size + 1) 61 Z0L) := by
    have hne : w.heap.size + 1 ≠ w.heap.size := by omega
    show wc.heap[w.heap.size + 1]? = _
    rw [hwc, Below.heap_setCell _ _ _ _ hne, Below.heap_setCell _ _ _ _ hne, Below.heap_setCell _ _ _ _ hne, Below.heap_setCell _ _ _ _ hne, Below.heap_setCell _ _ _ _ hne, Below.heap_setCell _ _ _ _ hne, Below.heap_setCell _ _ _ _ hne]
    exact G1.out
  have BC : Hid (Below w.heap.size w wc) := by
    show Below _ _ _; rw [hwc]
    exact ((((((B1.out.setCell (Nat.le_refl _) _).setCell (Nat.le_refl _) _).setCell (Nat.le_refl _) _).setCell (Nat.le_refl _) _).setCell (Nat.le_refl _) _).setCell (Nat.le_refl _) _).setCell (Nat.le_refl _) _
  have hone3 : Lc.toArray.all (·.oneCell') = true := by rw [hLc]; exact all_set (all_set (all_set (all_set (all_set (all_set (all_set hone 39 rfl) 40 rfl) 41 rfl) 42 rfl) 43 rfl) 44 rfl) 45 rfl
  have hlen3 : Lc.length = 47 := by rw [hLc]; simp [hlen]
  have h46 : Lc[46]? = some v46 := by rw [hLc]; simp [hv46]
  have szc : wc.heap.size = w1.heap.size := by rw [hwc]; simp
  have z1 : w.heap.size + 1 < w1.heap.size := G1.out.lt
  clear hLc
  go_wp2_with fail
  rw [← hwc]
  clear hwc
  have RD := hide (RC.out.alloc (.cells #[.slice p0 ts.length q0, .slice p4 os.length q4] 28))
  have GD := hide (GC.out.alloc (.cells #[.slice p0 ts.length q0, .slice p4 os.length q4] 28))
  have BD := hide (BC.out.alloc BC.out.size (.cells #[.slice p0 ts.length q0, .slice p4 os.length q4] 28))
  have ND : Hid (Rec (wc.alloc (.cells #[.slice p0 ts.length q0, .slice p4 os.length q4] 28)) w1.heap.size 28 [.slice p0 ts.length q0, .slice p4 os.length q4]) := Rec.new' _ _ _ _ szc.symm
  refine (concatF_any w1.heap.size p0 p4 q0 q4 lo hi ts os _ (ND.out.cell (o := 0) rfl) (ND.out.cell (o := 1) rfl) ND.out.lt (Z0.out.same (Same.of_below BD.out hh) (Nat.le_refl _) (Nat.le_refl _)) (Z4.out.same (Same.of_below BD.out hh) (Nat.le_refl _) (Nat.le_refl _)) (Nat.le_trans hh BD.out.size) l0 l1).mono ?_
  rintro e w5 ⟨a, cap, rfl, hrow, b5⟩
  have R5 := hide (RD.out.below b5 RD.out.lt)
  have G5 := hide (GD.out.below b5 GD.out.lt)
  have B5 := hide (BD.out.trans (b5.mono BD.out.size))
  have HRow := hide hrow
  have zD : w.heap.size + 1 < (wc.alloc (.cells #[.slice p0 ts.length q0, .slice p4 os.length q4] 28)).heap.size := by simp; omega
  have ZD := hide zD
  clear b5 hrow RD GD BD ND zD RC GC BC B1 R1 G1
  generalize hmm : (ts ++ os).length = m at *
  have HMM := hide hmm
  clear hmm
  obtain ⟨vs, hvs⟩ : ∃ vs, vs = Lc.set 46 (.slice a m cap) := ⟨_, rfl⟩
  have R6 : Hid (Rec (w5.setCell ⟨w.heap.size, 46, none⟩ (.slice a m cap)) w.heap.size 61 vs) := by show Rec _ _ _ _; rw [hvs]; exact R5.out.set 46 _
  have G6 := hide (G5.out.other (b' := w.heap.size) (by omega) 46 (.slice a m cap))
  have B6 : Hid (Below w.heap.size w (w5.setCell ⟨w.heap.size, 46, none⟩ (.slice a m cap))) := B5.out.setCell (Nat.le_refl _) _
  have hone4 : vs.toArray.all (·.oneCell') = true := by rw [hvs]; exact all_set hone3 46 rfl
  have hlen4 : vs.length = 47 := by rw [hvs]; simp [hlen3]
  have h464 : vs[46]? = some (.slice a m cap) := by rw [hvs]; simp [hlen3]
  have hsz : (Tryz.prog.info? 61).map (·.size) = some vs.length := by rw [hlen4]; kernel_rfl
  have hsz2 : (Tryz.prog.info? 61).map (·.size) = some vs.toArray.size := by simpa using hsz
  have hold : Z0L.length = vs.toArray.size := by simp [hlen4, hZl]
  have e46' := R5.out.cell h46
  have f46' := R5.out.frozen 46
  clear hvs hone3 hlen3 h46 R5 G5 B5
  go_wp2_with (first | (refine wpList_load_rec rfl 61 _ rfl w.heap.size 61 vs _ rfl R6.out Tryz.underlying61 rfl hsz ?_) | (refine wpList_store_rec rfl 61 _ _ rfl (w.heap.size + 1) vs.toArray 61 Z0L rfl rfl G6.out hsz2 hold hone4 ?_))
  intro w7 r7 k7 s7 b7
  have G7 := hide r7
  have B7 := hide (B6.out.trans (b7.mono (Nat.le_succ _)))
  have HRow7 : Hid (FdRow w7 w.heap.size (.slice a m cap) (ts ++ os)) := by
    show FdRow _ _ _ _
    have h1 := HRow.out
    refine owns_lower (owns_of_block h1 fun q hq => ?_) (by have := ZD.out; omega)
    have hq1 := owns_base h1 q hq
    have := ZD.out
    rw [k7 q (by omega)]
    exact Below.heap_setCell _ _ _ _ (by show q ≠ w.heap.size; omega)
  clear r7 k7 s7 b7
  go_wp2_with fail
  exact bodyPost_ret (results_cell_row rfl _ _ (w.heap.size + 1) 61 vs.toArray (0, 0) _ rfl (by simpa [Rec] using G7.out) Tryz.underlying61 rfl hsz2) rfl ⟨vs, a, cap, rfl, hlen4, hone4, by rw [HMM.out]; exact h464, by rw [HMM.out]; exact HRow7.out, B7.out⟩
end Go.Proofs.YtchjiciopjplgaaGreatDoor
