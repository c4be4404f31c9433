/- The program's roots: the lists of values, ranged over value by value. -/
import Derived.Test.YtbalfmlmgbmneaaRootsS
import Derived.RangeFuncNested
import Derived.RangeFuncBound
import Derived.RangeFuncCalls
import Derived.RangeFuncLeaves
import Derived.RangeFuncFrom
import Derived.Shelf.Abstract
import Derived.Shelf.RegionOpen
import Derived.OwnWalkIn
import Derived.TacticsInMore
import Derived.LoopNIn
import Derived.LoopIn
import Derived.Deep.AppendLies
namespace Go.Proofs.Ytbalfmlmgbmneaa
open Go.ChangeShapes Go.WideShapes Go.ChangeAt Go.RowKit Go.Shelf Go.Deep
set_option linter.unusedVariables false
attribute [local go_sem] Oper.semAt_some

/-- How many values stand in the lists ahead. -/
def cntTo (L : Nat → Nat) : Nat → Nat
  | 0 => 0
  | i + 1 => cntTo L i + L i
/-- Where each value of the lists stands. -/
def ptrsTo (L : Nat → Nat) (bo : Nat → Nat × Nat) : Nat → List (Nat × Nat)
  | 0 => []
  | i + 1 => ptrsTo L bo i ++ (List.range (L i)).map fun j => ((bo i).1, (bo i).2 + j * 2)
theorem ptrsTo_length (L : Nat → Nat) (bo : Nat → Nat × Nat) : ∀ n, (ptrsTo L bo n).length = cntTo L n := by
  intro n
  induction n with
  | zero => rfl
  | succ n ih => simp [ptrsTo, cntTo, ih]
theorem cntTo_mono (L : Nat → Nat) {i n : Nat} (h : i ≤ n) : cntTo L i ≤ cntTo L n := by
  induction n with
  | zero => have : i = 0 := by omega
            subst this; exact Nat.le_refl _
  | succ n ih =>
    by_cases e : i = n + 1
    · subst e; exact Nat.le_refl _
    · have := ih (by omega)
      show _ ≤ cntTo L n + L n
      omega
theorem cntTo_lt (L : Nat → Nat) {i j n : Nat} (h : i < n) (hj : j < L i) : cntTo L i + j < cntTo L n := by
  have := cntTo_mono L (show i + 1 ≤ n by omega)
  have e : cntTo L (i + 1) = cntTo L i + L i := rfl
  omega
def ptrAt (L : Nat → Nat) (bo : Nat → Nat × Nat) (n k : Nat) : Nat × Nat := (ptrsTo L bo n).getD k (0, 0)
theorem ptrAt_eq (L : Nat → Nat) (bo : Nat → Nat × Nat) {i j : Nat} (hj : j < L i) : ∀ n, i < n → ptrAt L bo n (cntTo L i + j) = ((bo i).1, (bo i).2 + j * 2) := by
  intro n
  induction n with
  | zero => intro h; omega
  | succ n ih =>
    intro h
    unfold ptrAt
    simp only [ptrsTo]
    by_cases e : i = n
    · subst e
      rw [List.getD_eq_getElem?_getD, List.getElem?_append_right (by rw [ptrsTo_length]; omega), ptrsTo_length]
      simp [hj]
    · have hlt := cntTo_lt L (show i < n by omega) hj
      rw [List.getD_eq_getElem?_getD, List.getElem?_append_left (by rw [ptrsTo_length]; exact hlt), ← List.getD_eq_getElem?_getD]
      exact ih (by omega)

/-- The lists' headers lie at ⟨lb, lo + i⟩. -/
def HeadsAt (W : World) (lb lo nl : Nat) (L : Nat → Nat) (bo : Nat → Nat × Nat) : Prop := ∀ i, i < nl → ∃ a c, W.cell? ⟨lb, lo + i, none⟩ = some (.slice a (L i) c) ∧ (0 < L i → a = some ⟨(bo i).1, (bo i).2, none⟩)

theorem snoc_range {N k : Nat} {pre : List (Fin N)} (h : pre.map Fin.val = List.range k) (hk : k < N) : (pre ++ [(⟨k, hk⟩ : Fin N)]).map Fin.val = List.range (k + 1) := by
  rw [List.map_append, h, List.range_succ]; rfl
theorem len_range {N k : Nat} {pre : List (Fin N)} (h : pre.map Fin.val = List.range k) : pre.length = k := by
  have := congrArg List.length h
  simpa using this

set_option maxRecDepth 100000 in
set_option maxHeartbeats 2000000 in
theorem rootsIter (F : Fence) (n : Nat) (hf : F.fn 36) (hro : F.round = none) (hn : 1 ≤ n) (l Bl n₀ lb lo nl lc N : Nat) (L : Nat → Nat) (bo : Nat → Nat × Nat) (hN : cntTo L nl = N) (hnl : nl ≤ 1000000000000) (hL : ∀ i, i < nl → L i ≤ 1000000000000) (J Jx : List (Fin N) → World → Prop)
    (hY : ∀ pre (x : Fin N) W, J pre W → pre.length < N → YieldAt F (n - 1) Try.prog l #[.pointer (some ⟨(ptrAt L bo nl x.val).1, (ptrAt L bo nl x.val).2, none⟩)] W fun e W' =>
      (e = .returned (.bool true) ∧ J (pre ++ [x]) W' ∧ Below n₀ W W') ∨ (e = .returned (.bool false) ∧ Jx (pre ++ [x]) W'))
    (W : World) (hBl : Bl < n₀) (hlb : lb < n₀) (c0 : W.cell? ⟨Bl, 0, none⟩ = some (.slice (some ⟨lb, lo, none⟩) nl lc)) (hH : HeadsAt W lb lo nl L bo) (h0 : J [] W) :
    CallsIn F n Try.prog 36 #[.func (.yield l) #[] #[], .pointer (some ⟨Bl, 0, none⟩)] W fun e W' => (∃ v, e = .returned v) ∧
      ((∃ ys, ys.map Fin.val = List.range N ∧ J ys W') ∨ (∃ pre : List (Fin N), True ∧ Jx pre W')) := by
  refine callsIn_of_wp Try.func36 rfl hf ?_ hro
  simp only [Try.ntmps36, List.size_toArray, List.length_cons, List.length_nil, Nat.reduceAdd, Nat.reduceSub, Array.replicate_succ, Array.replicate_zero, List.push_toArray, List.append_toArray, List.nil_append, List.cons_append]
  have HH := hide hH
  have HL := hide hL
  have HN := hide hN
  have HY := hide hY
  clear hH hL hN hY
  gi_wp2
  gi_loopw [8] (fun v wr => ∃ (i : Nat) (pre : List (Fin N)), v = .int .i64 (i : Int) ∧ i ≤ nl ∧ Hid (pre.map Fin.val = List.range (cntTo L i)) ∧ Hid (Below n₀ W wr) ∧ Hid (J pre wr)) (fun v wr => nl - (intOf v).toNat)
  case atStart => exact ⟨0, [], rfl, Nat.zero_le _, rfl, Below.refl _ _, h0⟩
  case round =>
    obtain ⟨i, pre, rfl, hi, HP, HB, HJ⟩ := hrel
    by_cases hlt : i < nl
    · obtain ⟨a, c, hc, ha⟩ := HH.out i hlt
      have hc2 : wr.cell? ⟨lb, lo + i, none⟩ = some (.slice a (L i) c) := (HB.out.cell (p := ⟨lb, lo + i, none⟩) hlb).trans hc
      have HA := hide ha
      have i1 : (0 : Int) ≤ (i : Int) := by omega
      have i2 : (i : Int) < (nl : Int) := by omega
      have hLi := HL.out i hlt
      clear hc ha
      gi_wp2
      obtain ⟨wo, hwo⟩ : ∃ x, x = wr := ⟨wr, rfl⟩
      subst hwo
      gi_loopw [14] (fun v wi => ∃ (j : Nat) (pre : List (Fin N)), v = .int .i64 (j : Int) ∧ j ≤ L i ∧ Hid (pre.map Fin.val = List.range (cntTo L i + j)) ∧ Hid (Below n₀ W wi) ∧ Hid (J pre wi)) (fun v wi => L i - (intOf v).toNat)
      case atStart => exact ⟨0, pre, rfl, Nat.zero_le _, HP, HB, HJ⟩
      case round =>
        clear hc2
        obtain ⟨j, pre2, rfl, hj, HP2, HB2, HJ2⟩ := hrel
        by_cases hjl : j < L i
        · have hx := cntTo_lt L hlt hjl
          rw [HN.out] at hx
          have hpt := ptrAt_eq L bo hjl nl hlt
          obtain ⟨fn, tmps, assign, body, hy, hR⟩ := HY.out pre2 ⟨cntTo L i + j, hx⟩ wr HJ2.out (by rw [len_range HP2.out]; exact hx)
          simp only [hpt] at hy hR
          have hae := HA.out (by omega)
          subst hae
          have j1 : (0 : Int) ≤ (j : Int) := by omega
          have j2 : (j : Int) < (L i : Int) := by omega
          have HRR := hide hR
          clear hpt hR
          gi_wp2
          refine HRR.out.mono ?_
          rintro e W3 (⟨rfl, hJ3, hk3⟩ | ⟨rfl, hJx3⟩)
          · have HK := hide hk3
            have HJ3 := hide hJ3
            clear HRR hk3 hJ3 hy
            gi_wp2
            exact ⟨⟨j + 1, pre2 ++ [(⟨cntTo L i + j, hx⟩ : Fin N)], by go_num, by omega, (snoc_range HP2.out hx : _), HB2.out.trans HK.out, HJ3⟩, by simp [intOf]; omega⟩
          · have HJx := hide hJx3
            clear HRR hJx3 hy
            gi_wp2
            refine bodyPost_ret (results_none rfl _ _ _) rfl ?_
            exact ⟨⟨_, rfl⟩, .inr ⟨_, trivial, HJx.out⟩⟩
        · have hje : Hid (j = L i) := Nat.le_antisymm hj (Nat.le_of_not_lt hjl)
          have hjl2 : ¬ (j : Int) < (L i : Int) := by omega
          gi_wp2
          exact ⟨⟨i + 1, pre2, by go_num, by omega, (by have := HP2.out; rw [hje.out] at this; exact this), HB2, HJ2⟩, by simp [intOf]; omega⟩
    · have hie : Hid (i = nl) := Nat.le_antisymm hi (Nat.le_of_not_lt hlt)
      gi_wp2
      go_end0
      exact ⟨⟨_, rfl⟩, .inl ⟨pre, (by have := HP.out; rw [hie.out, HN.out] at this; exact this), HJ.out⟩⟩

theorem roots_stops (F : Fence) (n : Nat) (hf : F.fn 36) (hro : F.round = none) (hn : 1 ≤ n) (Bl n₀ lb lo nl lc N : Nat) (L : Nat → Nat) (bo : Nat → Nat × Nat) (hN : cntTo L nl = N) (hnl : nl ≤ 1000000000000) (hL : ∀ i, i < nl → L i ≤ 1000000000000)
    (w : World) (hw : n₀ ≤ w.heap.size) (hBl : Bl < n₀) (hlb : lb < n₀) (c0 : w.cell? ⟨Bl, 0, none⟩ = some (.slice (some ⟨lb, lo, none⟩) nl lc)) (hH : HeadsAt w lb lo nl L bo) :
    SeqStopsK F n Try.prog 36 #[.pointer (some ⟨Bl, 0, none⟩)] (fun x : Fin N => #[Value.pointer (some ⟨(ptrAt L bo nl x.val).1, (ptrAt L bo nl x.val).2, none⟩)]) (Below n₀) (fun ys => ys.map Fin.val = List.range N) (fun _ => True) N w := fun l J Jx W hW _ _ hY h0 =>
  rootsIter F n hf hro hn l Bl n₀ lb lo nl lc N L bo hN hnl hL J Jx hY W hBl hlb ((hW.cell (p := ⟨Bl, 0, none⟩) (by simp; omega)).trans c0) (fun i hi => by obtain ⟨a, c, h1, h2⟩ := hH i hi; exact ⟨a, c, (hW.cell (p := ⟨lb, lo + i, none⟩) (by simp; omega)).trans h1, h2⟩) h0
end Go.Proofs.Ytbalfmlmgbmneaa
