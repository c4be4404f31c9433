/- under of the program's table. -/
import Derived.Test.YtlmciclkfmeepaaDoorKinG
import Derived.Test.YtlmciclkfmeepaaDoorQuietRound
namespace Go.Proofs.YtlmciclkfmeepaaDoor
open Go.ChangeShapes Go.WideShapes Go.ChangeAt Go.RowKit Go.Shelf
set_option linter.unusedVariables false
attribute [local go_sem] Oper.semAt_some

theorem keeps_drewN (W : World) (k : Nat) : KeepsOthers W (W.drewN k) := ⟨Nat.le_refl _, fun _ _ h _ => h⟩
theorem cell_of_box_h {W : World} {B : Nat} {v : Value} {t : TypeId} (h : W.heap[B]? = some (.cells #[v] t (0, 0))) : W.cell? ⟨B, 0, none⟩ = some v ∧ W.frozen? ⟨B, 0, none⟩ = false := by
  constructor <;> simp [World.cell?, World.frozen?, h]

set_option maxRecDepth 100000 in
set_option maxHeartbeats 2000000 in
theorem under_walk (F : Fence) (n : Nat) (hf : F.fn 50) (hf1 : F.fn 66) (hf2 : F.fn 76) (hro : F.round = none) (hn : 3 ≤ n) (rb ro rn rc cb co cc : Nat) (U : Nat → Int) (C : Nat → Nat) (p q : Nat) (w : World)
    (hrn : rn ≤ 8) (hp : p < rn) (hq : q < rn) (hpq : p ≠ q) (hU : ∀ i, i < rn → -1 ≤ U i ∧ U i < (i : Int)) (hL : UpsAt w w.heap.size rb ro rn U) (hcb : cb < w.heap.size) (hC : ∀ i, i < rn → w.cell? ⟨cb, co + i, none⟩ = some (.int .i64 (C i : Nat))) :
    CallsIn F n Tryd.prog 50 #[.agg #[.slice (some ⟨rb, ro, none⟩) rn rc, .slice (some ⟨cb, co, none⟩) rn cc], .int .i64 (p : Int), .int .i64 (q : Int)] w fun e W' =>
      e = .returned (.bool ((upL U rn (rn + 1) p).any fun x => C x.val == C q)) ∧ Below w.heap.size w W' := by
  have h1 : 1 ≤ n := by omega
  have n1 : ((q : Int) == -1) = false := beq_eq_false_iff_ne.2 (by omega)
  have n2 : ((p : Int) == (q : Int)) = false := beq_eq_false_iff_ne.2 (by omega)
  have d1 : decide ((p : Int) < 0) = false := by simp
  have d2 : decide ((q : Int) < 0) = false := by simp
  have hmo : Tryd.prog.follows .mixedOrders = true := by kernel_rfl
  have HU := hide hU
  have HC := hide hC
  have HL := hide hL
  clear hU hC hL
  refine callsIn_of_wp_marks Tryd.func50 rfl hf ?_ hro
  simp only [Tryd.ntmps50, List.size_toArray, List.length_cons, List.length_nil, Nat.reduceAdd, Nat.reduceSub, Array.replicate_succ, Array.replicate_zero, List.push_toArray, List.append_toArray, List.nil_append, List.cons_append]
  gi_wp2_with (gi_at_call 66; refine (upward_in F (n - 1) hf1 hro _ _ _ _ _ _ _ _).mono ?_; rintro e w' ⟨rfl, rfl⟩)
  obtain ⟨W0, hW0⟩ : ∃ W0, W0 = (((((w.alloc (.cells #[.slice (some ⟨rb, ro, none⟩) rn rc, .slice (some ⟨cb, co, none⟩) rn cc] 62)).alloc (.cells #[.int .i64 (q : Int)] 3)).alloc (.cells #[.bool false] 4)).alloc (.cells #[.slice (some ⟨rb, ro, none⟩) rn rc, .slice (some ⟨cb, co, none⟩) rn cc] 62)).alloc (.cells #[.int .i64 (p : Int)] 3)) := ⟨_, rfl⟩
  have B0 : Below w.heap.size w W0 := by
    rw [hW0]
    refine ((((((Below.refl _ w).alloc (Nat.le_refl _) _).alloc ?_ _).alloc ?_ _).alloc ?_ _).alloc ?_ _) <;> simp <;> omega
  have hsz : W0.heap.size = w.heap.size + 5 := by rw [hW0]; simp
  have R0 : Rec W0 w.heap.size 62 [.slice (some ⟨rb, ro, none⟩) rn rc, .slice (some ⟨cb, co, none⟩) rn cc] := by rw [hW0]; exact ((((Rec.new _ _ _).alloc _).alloc _).alloc _).alloc _
  have R1 : Rec W0 (w.heap.size + 1) 3 [.int .i64 (q : Int)] := by rw [hW0]; exact (((Rec.new' _ _ _ _ (by simp)).alloc _).alloc _).alloc _
  have R2 : Rec W0 (w.heap.size + 1 + 1) 4 [.bool false] := by rw [hW0]; exact ((Rec.new' _ _ _ _ (by simp)).alloc _).alloc _
  have R3 : Rec W0 (w.heap.size + 1 + 1 + 1) 62 [.slice (some ⟨rb, ro, none⟩) rn rc, .slice (some ⟨cb, co, none⟩) rn cc] := by rw [hW0]; exact (Rec.new' _ _ _ _ (by simp)).alloc _
  have R4 : Rec W0 (w.heap.size + 1 + 1 + 1 + 1) 3 [.int .i64 (p : Int)] := by rw [hW0]; exact Rec.new' _ _ _ _ (by simp)
  have k1 := R0.cell (o := 1) rfl
  have k2 := R1.cell (o := 0) rfl
  have k3 := R2.cell (o := 0) rfl
  have k4 := R2.frozen 0
  have k5 := R4.cell (o := 0) rfl
  have k6 := R3.cell (o := 0) rfl
  clear R0 R1 R2 R3 R4
  rw [← hW0]
  clear hW0
  have hUp : UpsAt W0 W0.heap.size rb ro rn U := ⟨by have := HL.out.1; omega, fun i hi => by rw [B0.cell (p := ⟨rb, ro + i * 6 + 1, none⟩) HL.out.1]; exact HL.out.2 i hi⟩
  refine wpIn_rangeFunc_ownF hro h1 (gf := 76) (lb := #[.pointer (some ⟨w.heap.size + 1 + 1 + 1 + 1, 0, none⟩), .pointer (some ⟨w.heap.size + 1 + 1 + 1, 0, none⟩)]) rfl hf2 (enters_of Tryd.func76 (by kernel_rfl) rfl)
    (up_stops F (n - 1) hf2 hro (by omega) (w.heap.size + 1 + 1 + 1 + 1) (w.heap.size + 1 + 1 + 1) W0.heap.size rb ro rn rc 0 0 none U (p : Int) ⟨by omega, by omega⟩ hrn HU.out W0 rfl (by omega) (by omega) k5 k6 hUp) belowK_t (belowK_b (by omega)) (Below.refl _ _) (fun _ => rfl)
    (fun pre W => ((∀ y ∈ pre, C y.val ≠ C q) ∧ W.cell? ⟨w.heap.size, 1, none⟩ = some (.slice (some ⟨cb, co, none⟩) rn cc) ∧ W.cell? ⟨w.heap.size + 1, 0, none⟩ = some (.int .i64 (q : Int)) ∧ W.cell? ⟨w.heap.size + 1 + 1, 0, none⟩ = some (.bool false) ∧ W.frozen? ⟨w.heap.size + 1 + 1, 0, none⟩ = false) ∧ Below w.heap.size w W)
    (fun c pre W => (c = .ret ∧ (∃ y ∈ pre, C y.val = C q) ∧ W.cell? ⟨w.heap.size + 1 + 1, 0, none⟩ = some (.bool true)) ∧ Below w.heap.size w W)
    (OwnFrom.and (Own.from (fun s A B row hs hg hr => ⟨hs.1, cell_kept hs.2.1 hg hr, cell_kept hs.2.2.1 hg hr, cell_kept hs.2.2.2.1 hg hr, (frozen_kept hs.2.2.2.1 hg hr).trans hs.2.2.2.2⟩) _) (ownFrom_below (Nat.le_refl _) (by omega)))
    (fun c => OwnFrom.and (Own.from (fun s A B row hs hg hr => ⟨hs.1, hs.2.1, cell_kept hs.2.2 hg hr⟩) _) (ownFrom_below (Nat.le_refl _) (by omega)))
    ⟨⟨by simp, k1, k2, k3, k4⟩, B0⟩
    (fun x => { tmps := #[.agg #[.slice (some ⟨rb, ro, none⟩) rn rc, .slice (some ⟨cb, co, none⟩) rn cc], .int .i64 (p : Int), .int .i64 (q : Int), .pointer (some ⟨w.heap.size, 0, none⟩), undef, .pointer (some ⟨w.heap.size + 1, 0, none⟩), .pointer (some ⟨w.heap.size + 1 + 1, 0, none⟩), .int .i64 (x.val : Int), .int .i64 (p : Int), .int .i64 (q : Int), .bool false, .bool false, .int .i64 (q : Int), .bool false, .bool false, .int .i64 (p : Int), .bool false, .bool false, .int .i64 (q : Int), .bool false, .bool false, .agg #[.slice (some ⟨rb, ro, none⟩) rn rc, .slice (some ⟨cb, co, none⟩) rn cc], .int .i64 (p : Int), .func (.func 76) #[] #[.pointer (some ⟨w.heap.size + 1 + 1 + 1 + 1, 0, none⟩), .pointer (some ⟨w.heap.size + 1 + 1 + 1, 0, none⟩)], .int .i64 (x.val : Int), undef, undef, undef, undef, undef, undef, undef, undef, undef, undef, undef], defers := [] }) ?assign ?body ?done ?stop
  case assign =>
    intro l x W K hK
    gi_wp2
    exact hK
  case body =>
    rintro l pre x W ⟨⟨hp', g1, g2, g3, g4⟩, hB⟩ _
    have e1 : W.cell? ⟨cb, co + x.val, none⟩ = some (.int .i64 (C x.val : Nat)) := by rw [hB.cell (p := ⟨cb, co + x.val, none⟩) hcb]; exact HC.out _ x.isLt
    have e2 : W.cell? ⟨cb, co + q, none⟩ = some (.int .i64 (C q : Nat)) := by rw [hB.cell (p := ⟨cb, co + q, none⟩) hcb]; exact HC.out _ hq
    have x1 : (0 : Int) ≤ (x.val : Int) := by omega
    have x2 : (x.val : Int) < (rn : Int) := by have := x.isLt; omega
    have q1 : (0 : Int) ≤ (q : Int) := by omega
    have q2 : (q : Int) < (rn : Int) := by omega
    have HB := hide hB
    clear hB k1 k2 k3 k4 k5 k6
    by_cases hx : C x.val = C q
    · have hx' : ((C x.val : Int) == (C q : Int)) = true := by rw [hx]; simp
      gi_wp2
      refine region_round (r := l) rfl (by simp [NoDefer]) hmo (by kernel_rfl) ?_
      repeat (gi_big_quiet_step (fail))
      refine wpQuietIn_nil ?_
      intro _ hw'
      obtain ⟨nq, hw''⟩ := hw'
      subst hw''
      gi_wp2
      have g3' : (W.drewN nq).cell? ⟨w.heap.size + 1 + 1, 0, none⟩ = some (.bool false) := g3
      exact ⟨(keeps_drewN W nq).trans (KeepsOthers.setCell _ _ _), ⟨rfl, ⟨x, by simp, hx⟩, World.cell?_setCell_same' _ _ _ (by rw [g3']; rfl)⟩, (below_drewN HB.out nq).setCell (p := ⟨w.heap.size + 1 + 1, 0, none⟩) (by simp; omega) _⟩
    · have hx' : ((C x.val : Int) == (C q : Int)) = false := beq_eq_false_iff_ne.2 (by omega)
      gi_wp2
      refine region_round (r := l) rfl (by simp [NoDefer]) hmo (by kernel_rfl) ?_
      repeat (gi_big_quiet_step (fail))
      refine wpQuietIn_nil ?_
      intro _ hw'
      obtain ⟨nq, hw''⟩ := hw'
      subst hw''
      gi_wp2
      exact ⟨keeps_drewN W nq, below_drewN (Below.refl _ _) nq, ⟨fun y hy => (List.mem_append.1 hy).elim (hp' y) (fun e => by simp at e; subst e; exact hx), g1, g2, g3, g4⟩, below_drewN HB.out nq⟩
  case done =>
    rintro D ys W hD rfl ⟨⟨hne, _, _, hcr, hfr⟩, hB⟩ hK
    gi_wp2
    have hK' := (KeepsOthers.setCell W ⟨w.heap.size + 1 + 1, 0, none⟩ (.bool false)).same D _ hK rfl
    refine ⟨by simp, .inl ⟨_, _, rfl, run_takeDeferred hK', ?_⟩⟩
    have hc5 := cell_kept (World.cell?_setCell_same' W ⟨w.heap.size + 1 + 1, 0, none⟩ (.bool false) (by rw [hcr]; rfl)) (grownBy_putObj' _ D (.deferred none)) (fun r e => by cases e; exact ⟨_, hK', rfl⟩)
    refine ⟨.bool false, ?_, ?_, (hB.setCell (p := ⟨w.heap.size + 1 + 1, 0, none⟩) (by simp; omega) _).trans (belowK_b (w := w) (Nat.le_refl _) _ D _ _ (by omega) hK' rfl rfl)⟩
    · simp [results, Tryd.f50, go_sem, hc5]
    · have : ((upL U rn (rn + 1) (p : Int)).any fun x => C x.val == C q) = false := by
        rw [List.any_eq_false]
        intro y hy
        simpa using hne y hy
      rw [this]
  case stop =>
    rintro D c pre W hD hpre ⟨⟨rfl, ⟨y, hy, hyq⟩, hcr⟩, hB⟩ hK
    gi_wp2
    refine ⟨by simp, .inl ⟨_, _, rfl, run_takeDeferred hK, ?_⟩⟩
    have hc5 := cell_kept hcr (grownBy_putObj' _ D (.deferred none)) (fun r e => by cases e; exact ⟨_, hK, rfl⟩)
    refine ⟨.bool true, ?_, ?_, hB.trans (belowK_b (w := w) (Nat.le_refl _) W D _ _ (by omega) hK rfl rfl)⟩
    · simp [results, Tryd.f50, go_sem, hc5]
    · have : ((upL U rn (rn + 1) (p : Int)).any fun x => C x.val == C q) = true := by
        rw [List.any_eq_true]
        exact ⟨y, hpre.subset hy, by simpa using hyq⟩
      rw [this]
end Go.Proofs.YtlmciclkfmeepaaDoor
