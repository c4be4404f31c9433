/- markVal of the laws. Written by tools/genmark.py. -/
import Derived.Test.YtbalfmlmgbmneaaMarkG
import Derived.Test.YtbalfmlmgbmneaaGenVal
namespace Go.Proofs.Ytbalfmlmgbmneaa
open Go.ChangeShapes Go.WideShapes Go.ChangeAt Go.RowKit Go.Joins Go.Deep
set_option linter.unusedVariables false
/-- The numbers from k on stand there. -/
def MarkedVal (w : World) (lo hi : Nat) (a : Option Addr) (n : Nat) (k : Int) : Prop := n = 0 ∨ ∃ b, a = some ⟨b, 0, none⟩ ∧ lo ≤ b ∧ b < hi ∧ (∀ i : Nat, i < n → w.cell? ⟨b, i * 2, none⟩ = some (.int .i64 (k + 2 * (i : Int))) ∧ w.cell? ⟨b, i * 2 + 1, none⟩ = some (.int .i64 (k + 2 * (i : Int) + 1)))
theorem MarkedVal.same {w w' : World} {lo hi : Nat} {a : Option Addr} {n : Nat} {k : Int} (h : MarkedVal w lo hi a n k) (hs : ∀ b, lo ≤ b → b < hi → w'.heap[b]? = w.heap[b]?) : MarkedVal w' lo hi a n k := by
  rcases h with h | ⟨b, e, h3, h4, h5⟩
  · exact .inl h
  · have q : ∀ o, w'.cell? ⟨b, o, none⟩ = w.cell? ⟨b, o, none⟩ := fun o => World.cell?_of_block (w := w) (hs b h3 h4)
    exact .inr ⟨b, e, h3, h4, fun i hi => by simp only [q]; exact h5 i hi⟩
theorem MarkedVal.keep {w w' : World} {lo hi : Nat} {a : Option Addr} {n : Nat} {k : Int} (h : MarkedVal w lo hi a n k) (hb : Below hi w w') : MarkedVal w' lo hi a n k := h.same fun b _ h2 => hb.block b h2

set_option maxHeartbeats 800000 in
theorem markValS_m (a : Option Addr) (cap n lo hi : Nat) (k : Int) (w : World) (hn : n ≤ 4398046511104) (k0 : 0 ≤ k) (k1 : k ≤ 4611686018427387904) (hx : FlatSh 62 2 w lo hi a n) :
    Calls Try.prog 11 #[.slice a n cap, .int .i64 k] w fun e w' => e = .returned (.int .i64 (k + 2 * (n : Int))) ∧ MarksG lo hi w w' ∧ MarkedVal w' lo hi a n k := by
  rcases hx with h0 | ⟨b, m, rfl, h1, h2, h3, h4⟩
  · have h0' : n ≤ 0 := by omega
    have H0 := hide h0
    clear h0
    go_enter Try.func11, Try.ntmps11
    go_wp2_with fail
    go_loop [1, 5] (fun l i => i = .int .i64 0 ∧ l = .int .i64 k) (fun l i => 0)
    case atStart => exact ⟨rfl, rfl⟩
    case round =>
      obtain ⟨rfl, rfl⟩ := hrel
      go_wp2_with fail
      go_ret
      exact ⟨ret_int (by rw [H0.out]; simp), MarksG.refl _ _ _, .inl H0.out⟩
  · have H3 := hide h3
    clear h3
    go_enter Try.func11, Try.ntmps11
    go_wp2_with fail
    go_loopw [1, 5] (fun l i wr => ∃ j : Nat, j ≤ n ∧ i = .int .i64 j ∧ l = .int .i64 (k + 2 * (j : Int)) ∧ MarksG lo hi w wr ∧ ∀ i : Nat, i < j → wr.cell? ⟨b, i * 2, none⟩ = some (.int .i64 (k + 2 * (i : Int))) ∧ wr.cell? ⟨b, i * 2 + 1, none⟩ = some (.int .i64 (k + 2 * (i : Int) + 1))) (fun l i wr => n - (intOf i).toNat)
    case atStart => exact ⟨0, Nat.zero_le _, rfl, by simp, MarksG.refl _ _ _, fun q hq => absurd hq (Nat.not_lt_zero _)⟩
    case round =>
      obtain ⟨j, hj, rfl, rfl, hM, hF⟩ := hrel
      have HM := hide hM
      have HF := hide hF
      clear hM hF
      by_cases hjn : j < n
      · have HO := hide (HM.out.own _ _ _ H3.out)
        have g1 : (0 : Int) ≤ (j : Int) := by omega
        have g2 : (j : Int) < (n : Int) := by omega
        have f0 := HO.out.frozen (j * 2)
        obtain ⟨v0, d0⟩ := HO.out.cell (o := j * 2) (by omega)
        have f1 := HO.out.frozen (j * 2 + 1)
        obtain ⟨v1, d1⟩ := HO.out.cell (o := j * 2 + 1) (by omega)
        go_wp2_with fail
        have o1 := HO.out.set b (j * 2) (.int .i64 (k + 2 * (j : Int)))
        have o2 := o1.set b (j * 2 + 1) (.int .i64 (k + 2 * (j : Int) + 1))
        have M2 := hide (((HM.out).set HO.out h1 h2 (j * 2) (by omega) (sl_f0 Try.infoVal j (by decide) rfl) (.int .i64 (k + 2 * (j : Int)))).set o1 h1 h2 (j * 2 + 1) (by omega) (sl_f Try.infoVal j 1 (by decide) rfl) (.int .i64 (k + 2 * (j : Int) + 1)))
        refine ⟨⟨j + 1, by omega, by go_num, ?_, M2.out, fun i hi => ?_⟩, by simp [intOf]; omega⟩
        · congr 1
          omega
        · simp only [o1.cell_set (o := j * 2 + 1) (by omega : j * 2 + 1 < m), HO.out.cell_set (o := j * 2) (by omega : j * 2 < m)]
          by_cases e : i = j
          · subst e
            exact ⟨by simp, by simp⟩
          · have q := HF.out i (by omega)
            refine ⟨?_, ?_⟩
            all_goals (rw [if_neg (by omega)]; rw [if_neg (by omega)])
            · exact q.1
            · exact q.2
      · have hje : Hid (j = n) := Nat.le_antisymm hj (Nat.le_of_not_lt hjn)
        go_wp2_with fail
        go_ret
        exact ⟨ret_int (by rw [hje.out]), HM.out, .inr ⟨b, rfl, h1, h2, hje.out ▸ HF.out⟩⟩
theorem ValsM.shapeG {lo hi : Nat} {w : World} {a : Option Addr} {xs : List GVal} (h : ValsM true w lo hi a xs) : FlatSh 62 2 w lo hi a xs.length := by
  rcases h with rfl | ⟨b, off, rfl, h3, h4, h5, h6⟩
  · exact .inl rfl
  · obtain ⟨rfl, m, ho, hm⟩ := h5 rfl
    exact .inr ⟨b, m, rfl, h3, h4, ho, hm⟩
end Go.Proofs.Ytbalfmlmgbmneaa
