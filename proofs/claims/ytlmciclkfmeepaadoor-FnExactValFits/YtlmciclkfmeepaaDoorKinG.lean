/- upward and under of the program's table: a range over a function. -/
import Derived.Test.YtlmciclkfmeepaaDoorKinF
import Derived.RangeFuncFrom
import Derived.RangeFuncLeaves
import Derived.Shelf.Abstract
import Derived.WalkKit
import Derived.OwnWalkIn
import Derived.TacticsInMore
import Derived.LoopNIn
import Derived.LoopIn
namespace Go.Proofs.YtlmciclkfmeepaaDoor
open Go.ChangeShapes Go.WideShapes Go.ChangeAt Go.RowKit Go.Shelf
set_option linter.unusedVariables false
attribute [local go_sem] Oper.semAt_some

/-- A type and those above it, by U: which number is above each. -/
def upL (U : Nat → Int) (n : Nat) : Nat → Int → List (Fin n)
  | 0, _ => []
  | f + 1, a => if h : 0 ≤ a ∧ a.toNat < n then ⟨a.toNat, h.2⟩ :: upL U n f (U a.toNat) else []

/-- What is above each type, as the table has it. -/
def UpsAt (W : World) (n₀ rb ro n : Nat) (U : Nat → Int) : Prop := rb < n₀ ∧ ∀ i, i < n → W.cell? ⟨rb, ro + i * 6 + 1, none⟩ = some (.int .i64 (U i))
theorem UpsAt.below {W W' : World} {n₀ rb ro n : Nat} {U : Nat → Int} (h : UpsAt W n₀ rb ro n U) (hb : Below n₀ W W') : UpsAt W' n₀ rb ro n U :=
  ⟨h.1, fun i hi => by rw [hb.cell (p := ⟨rb, ro + i * 6 + 1, none⟩) h.1]; exact h.2 i hi⟩

set_option maxHeartbeats 1000000 in
theorem upward_in (F : Fence) (n : Nat) (hf : F.fn 66) (hro : F.round = none) (ra ca : Option Addr) (rn rc cn cc : Nat) (a : Int) (w : World) :
    CallsIn F n Tryd.prog 66 #[.agg #[.slice ra rn rc, .slice ca cn cc], .int .i64 a] w fun e w' =>
      e = .returned (.func (.func 76) #[] #[.pointer (some ⟨w.heap.size + 1, 0, none⟩), .pointer (some ⟨w.heap.size, 0, none⟩)]) ∧ w' = (w.alloc (.cells #[.slice ra rn rc, .slice ca cn cc] 62)).alloc (.cells #[.int .i64 a] 3) := by
  refine callsIn_of_wp Tryd.func66 rfl hf ?_ hro
  simp only [Tryd.ntmps66, List.size_toArray, List.length_cons, List.length_nil, Nat.reduceAdd, Nat.reduceSub, Array.replicate_succ, Array.replicate_zero, List.push_toArray, List.append_toArray, List.nil_append, List.cons_append]
  gi_wp2
  go_ret
  exact ⟨by simp, rfl⟩

set_option maxRecDepth 100000 in
set_option maxHeartbeats 1000000 in
theorem upIter_in (F : Fence) (n : Nat) (hf : F.fn 76) (hro : F.round = none) (hn : 1 ≤ n) (l Ba Bt n₀ rb ro rn rc cn cc : Nat) (ca : Option Addr) (U : Nat → Int) (a : Int) (J Jx : List (Fin rn) → World → Prop)
    (ha : -1 ≤ a ∧ a < (rn : Int)) (hrn : rn ≤ 8) (hU : ∀ i, i < rn → -1 ≤ U i ∧ U i < (i : Int))
    (hY : ∀ pre (x : Fin rn) W, J pre W → pre.length < (upL U rn (rn + 1) a).length → YieldAt F (n - 1) Tryd.prog l #[.int .i64 (x.val : Int)] W fun e W' =>
      (e = .returned (.bool true) ∧ J (pre ++ [x]) W' ∧ Below n₀ W W') ∨ (e = .returned (.bool false) ∧ Jx (pre ++ [x]) W'))
    (W : World) (hBa : Ba < n₀) (hBt : Bt < n₀) (c0 : W.cell? ⟨Ba, 0, none⟩ = some (.int .i64 a)) (c1 : W.cell? ⟨Bt, 0, none⟩ = some (.slice (some ⟨rb, ro, none⟩) rn rc)) (hL : UpsAt W n₀ rb ro rn U) (h0 : J [] W) :
    CallsIn F n Tryd.prog 76 #[.func (.yield l) #[] #[], .pointer (some ⟨Ba, 0, none⟩), .pointer (some ⟨Bt, 0, none⟩)] W fun e W' => (∃ v, e = .returned v) ∧
      ((∃ ys, ys = upL U rn (rn + 1) a ∧ J ys W') ∨ (∃ pre, pre <+: upL U rn (rn + 1) a ∧ Jx pre W')) := by
  refine callsIn_of_wp Tryd.func76 rfl hf ?_ hro
  simp only [Tryd.ntmps76, List.size_toArray, List.length_cons, List.length_nil, Nat.reduceAdd, Nat.reduceSub, Array.replicate_succ, Array.replicate_zero, List.push_toArray, List.append_toArray, List.nil_append, List.cons_append]
  have HU := hide hU
  clear hU
  generalize hLL : upL U rn (rn + 1) a = L at *
  have HL := hide hLL
  clear hLL
  gi_wp2
  gi_loopw [4] (fun v wr => ∃ (pre rest : List (Fin rn)) (c : Int) (f : Nat), v = .int .i64 c ∧ L = pre ++ rest ∧ rest = upL U rn f c ∧ -1 ≤ c ∧ c < (rn : Int) ∧ c < (f : Int) ∧ wr.cell? ⟨Bt, 0, none⟩ = some (.slice (some ⟨rb, ro, none⟩) rn rc) ∧ UpsAt wr n₀ rb ro rn U ∧ J pre wr)
    (fun v wr => (intOf v + 1).toNat)
  case atStart =>
    exact ⟨[], L, a, rn + 1, rfl, rfl, HL.out.symm, by omega, by omega, by omega, c1, hL, h0⟩
  case round =>
    obtain ⟨pre, rest, c, f, rfl, hx, hr, b1, b2, b3, hc, hl, hJs⟩ := hrel
    have HX := hide hx
    have HR := hide hr
    have HJ := hide hJs
    clear hx hr hL c0 c1
    by_cases hneg : c < 0
    · have hnil : rest = [] := by
        rw [HR.out]
        cases f with
        | zero => rfl
        | succ f => unfold upL; rw [dif_neg (by omega)]
      clear hJs hY
      gi_wp2
      go_end0
      exact ⟨⟨_, rfl⟩, .inl ⟨pre, by rw [HX.out, hnil]; simp, HJ.out⟩⟩
    · obtain ⟨m, rfl⟩ := Int.eq_ofNat_of_zero_le (show 0 ≤ c by omega)
      have hm : m < rn := by omega
      obtain ⟨f', rfl⟩ : ∃ f', f = f' + 1 := ⟨f - 1, by omega⟩
      have hrest : rest = ⟨m, hm⟩ :: upL U rn f' (U m) := by
        rw [HR.out]
        show (if h : 0 ≤ (m : Int) ∧ (m : Int).toNat < rn then _ else _) = _
        rw [dif_pos ⟨by omega, by simpa using hm⟩]
        simp
      have HRe := hide hrest
      obtain ⟨u1, u2⟩ := HU.out m hm
      obtain ⟨fn, tmps, assign, body, hy, hR⟩ := hY pre ⟨m, hm⟩ wr hJs (by rw [HX.out, hrest]; simp)
      have hrb := hl.1
      have HLs := hide hl
      have m1 : (0 : Int) ≤ (m : Int) := by omega
      have m2 : (m : Int) < (rn : Int) := by omega
      clear hrest hJs hY hl
      gi_wp2
      refine hR.mono ?_
      rintro e W3 (⟨rfl, hJ3, hk3⟩ | ⟨rfl, hJx3⟩)
      · have q1 : W3.cell? ⟨Bt, 0, none⟩ = some (.slice (some ⟨rb, ro, none⟩) rn rc) := (hk3.cell (p := ⟨Bt, 0, none⟩) hBt).trans hc
        have q2 := (HLs.out.below hk3).2 m hm
        have HK := hide hk3
        have HJ3 := hide hJ3
        clear hR hk3 hJ3
        gi_wp2
        go_roundw
        case rel => exact ⟨pre ++ [⟨m, hm⟩], upL U rn f' (U m), U m, f', rfl, by rw [HX.out, HRe.out]; simp, rfl, u1, by omega, by omega, q1, HLs.out.below HK.out, HJ3.out⟩
        case measure => simp [intOf]; omega
      · have HJx := hide hJx3
        clear hR hJx3
        gi_wp2
        refine bodyPost_ret (results_none rfl _ _ _) rfl ?_
        exact ⟨⟨_, rfl⟩, .inr ⟨pre ++ [⟨m, hm⟩], ⟨upL U rn f' (U m), by rw [HX.out, HRe.out]; simp⟩, HJx.out⟩⟩

theorem up_stops (F : Fence) (n : Nat) (hf : F.fn 76) (hro : F.round = none) (hn : 1 ≤ n) (Ba Bt n₀ rb ro rn rc cn cc : Nat) (ca : Option Addr) (U : Nat → Int) (a : Int)
    (ha : -1 ≤ a ∧ a < (rn : Int)) (hrn : rn ≤ 8) (hU : ∀ i, i < rn → -1 ≤ U i ∧ U i < (i : Int)) (w : World) (hn₀ : n₀ = w.heap.size) (hBa : Ba < n₀) (hBt : Bt < n₀)
    (c0 : w.cell? ⟨Ba, 0, none⟩ = some (.int .i64 a)) (c1 : w.cell? ⟨Bt, 0, none⟩ = some (.slice (some ⟨rb, ro, none⟩) rn rc)) (hL : UpsAt w n₀ rb ro rn U) :
    SeqStopsK F n Tryd.prog 76 #[.pointer (some ⟨Ba, 0, none⟩), .pointer (some ⟨Bt, 0, none⟩)] (fun x : Fin rn => #[Value.int .i64 (x.val : Int)]) (Below n₀) (fun ys => ys = upL U rn (rn + 1) a) (fun pre => pre <+: upL U rn (rn + 1) a) (upL U rn (rn + 1) a).length w := fun l J Jx W hW _ _ hY h0 => by
  subst hn₀
  exact upIter_in F n hf hro hn l Ba Bt w.heap.size rb ro rn rc cn cc ca U a J Jx ha hrn hU hY W hBa hBt ((hW.cell (p := ⟨Ba, 0, none⟩) hBa).trans c0) ((hW.cell (p := ⟨Bt, 0, none⟩) hBt).trans c1) (hL.below hW) h0
end Go.Proofs.YtlmciclkfmeepaaDoor
