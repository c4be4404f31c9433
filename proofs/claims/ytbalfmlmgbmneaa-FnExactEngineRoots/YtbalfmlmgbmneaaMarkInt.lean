/- markInt of the laws. Written by tools/genmark.py. -/
import Derived.Test.YtbalfmlmgbmneaaMarkG
import Derived.Test.YtbalfmlmgbmneaaGenNum
namespace Go.Proofs.Ytbalfmlmgbmneaa
open Go.ChangeShapes Go.WideShapes Go.ChangeAt Go.RowKit Go.Joins Go.Deep
set_option linter.unusedVariables false
theorem infoIntM : (Try.prog.info? 3).map (fun i => (i.zero, i.size, i.bytes)) = some (some (.int .i64 0), 1, 8) := by kernel_rfl
/-- The numbers from k on stand there. -/
def MarkedInt (w : World) (lo hi : Nat) (a : Option Addr) (n : Nat) (k : Int) : Prop := n = 0 ∨ ∃ b, a = some ⟨b, 0, none⟩ ∧ lo ≤ b ∧ b < hi ∧ (∀ i : Nat, i < n → w.cell? ⟨b, i, none⟩ = some (.int .i64 (k + (i : Int))))
theorem MarkedInt.same {w w' : World} {lo hi : Nat} {a : Option Addr} {n : Nat} {k : Int} (h : MarkedInt w lo hi a n k) (hs : ∀ b, lo ≤ b → b < hi → w'.heap[b]? = w.heap[b]?) : MarkedInt w' lo hi a n k := by
  rcases h with h | ⟨b, e, h3, h4, h5⟩
  · exact .inl h
  · have q : ∀ o, w'.cell? ⟨b, o, none⟩ = w.cell? ⟨b, o, none⟩ := fun o => World.cell?_of_block (w := w) (hs b h3 h4)
    exact .inr ⟨b, e, h3, h4, fun i hi => by simp only [q]; exact h5 i hi⟩
theorem MarkedInt.keep {w w' : World} {lo hi : Nat} {a : Option Addr} {n : Nat} {k : Int} (h : MarkedInt w lo hi a n k) (hb : Below hi w w') : MarkedInt w' lo hi a n k := h.same fun b _ h2 => hb.block b h2

set_option maxHeartbeats 800000 in
theorem markIntS_m (a : Option Addr) (cap n lo hi : Nat) (k : Int) (w : World) (hn : n ≤ 4398046511104) (k0 : 0 ≤ k) (k1 : k ≤ 4611686018427387904) (hx : FlatSh 3 1 w lo hi a n) :
    Calls Try.prog 30 #[.slice a n cap, .int .i64 k] w fun e w' => e = .returned (.int .i64 (k + (n : Int))) ∧ MarksG lo hi w w' ∧ MarkedInt w' lo hi a n k := by
  rcases hx with h0 | ⟨b, m, rfl, h1, h2, h3, h4⟩
  · have h0' : n ≤ 0 := by omega
    have H0 := hide h0
    clear h0
    go_enter Try.func30, Try.ntmps30
    go_wp2_with fail
    go_loop [1, 5] (fun l i => i = .int .i64 0 ∧ l = .int .i64 k) (fun l i => 0)
    case atStart => exact ⟨rfl, rfl⟩
    case round =>
      obtain ⟨rfl, rfl⟩ := hrel
      go_wp2_with fail
      go_ret
      exact ⟨ret_int (by rw [H0.out]; simp), MarksG.refl _ _ _, .inl H0.out⟩
  · have H3 := hide h3
    clear h3
    go_enter Try.func30, Try.ntmps30
    go_wp2_with fail
    go_loopw [1, 5] (fun l i wr => ∃ j : Nat, j ≤ n ∧ i = .int .i64 j ∧ l = .int .i64 (k + (j : Int)) ∧ MarksG lo hi w wr ∧ ∀ i : Nat, i < j → wr.cell? ⟨b, i, none⟩ = some (.int .i64 (k + (i : Int)))) (fun l i wr => n - (intOf i).toNat)
    case atStart => exact ⟨0, Nat.zero_le _, rfl, by simp, MarksG.refl _ _ _, fun q hq => absurd hq (Nat.not_lt_zero _)⟩
    case round =>
      obtain ⟨j, hj, rfl, rfl, hM, hF⟩ := hrel
      have HM := hide hM
      have HF := hide hF
      clear hM hF
      by_cases hjn : j < n
      · have HO := hide (HM.out.own _ _ _ H3.out)
        have g1 : (0 : Int) ≤ (j : Int) := by omega
        have g2 : (j : Int) < (n : Int) := by omega
        have f0 := HO.out.frozen (j)
        obtain ⟨v0, d0⟩ := HO.out.cell (o := j) (by omega)
        go_wp2_with fail
        have o1 := HO.out.set b (j) (.int .i64 (k + (j : Int)))
        have M2 := hide ((HM.out).set HO.out h1 h2 (j) (by omega) (sl_f1 infoIntM j rfl) (.int .i64 (k + (j : Int))))
        refine ⟨⟨j + 1, by omega, by go_num, ?_, M2.out, fun i hi => ?_⟩, by simp [intOf]; omega⟩
        · congr 1
          omega
        · simp only [HO.out.cell_set (o := j) (by omega : j < m)]
          by_cases e : i = j
          · subst e
            simp
          · have q := HF.out i (by omega)
            refine ?_
            rw [if_neg (by omega)]
            exact q
      · have hje : Hid (j = n) := Nat.le_antisymm hj (Nat.le_of_not_lt hjn)
        go_wp2_with fail
        go_ret
        exact ⟨ret_int (by rw [hje.out]), HM.out, .inr ⟨b, rfl, h1, h2, hje.out ▸ HF.out⟩⟩
theorem NumsM.shapeG {lo hi : Nat} {w : World} {a : Option Addr} {xs : List Int} (h : NumsM true w lo hi a xs) : FlatSh 3 1 w lo hi a xs.length := by
  rcases h with rfl | ⟨b, off, rfl, h3, h4, h5, h6⟩
  · exact .inl rfl
  · obtain ⟨rfl, m, ho, hm⟩ := h5 rfl
    exact .inr ⟨b, m, rfl, h3, h4, ho, by omega⟩
end Go.Proofs.Ytbalfmlmgbmneaa
