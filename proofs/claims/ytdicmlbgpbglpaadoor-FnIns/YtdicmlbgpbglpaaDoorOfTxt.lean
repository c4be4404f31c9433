/- What is written of a number, or of what else a reference is to; the model's side. -/
import Derived.Test.YtdicmlbgpbglpaaDoorDec
namespace Go.Proofs.YtdicmlbgpbglpaaDoor
open Go.ChangeShapes Go.WideShapes Go.ChangeAt Go.RowKit
set_option linter.unusedVariables false

/-- What is written of a number, or of what else a reference is to. -/
def ofTxt (n : Int) : List UInt8 := if n = -1 then [97, 110, 121] else if n = -2 then [99, 104, 105, 112] else Lib.decDigits n.toNat

set_option maxHeartbeats 400000 in
theorem l2Of_any (n : Int) (w : World) (h1 : -2 ≤ n) (h2 : n < 1000000) :
    Calls Tryd.prog 31 #[.int .i64 n] w fun e w' => e = .returned (.string ⟨(ofTxt n).toArray⟩) ∧ Below w.heap.size w w' := by
  by_cases ha : n = -1
  · subst ha
    go_enter Tryd.func31, Tryd.ntmps31
    go_wp2_with fail
    go_ret
    exact ⟨rfl, Below.refl _ _⟩
  by_cases hb : n = -2
  · subst hb
    go_enter Tryd.func31, Tryd.ntmps31
    go_wp2_with fail
    go_ret
    exact ⟨rfl, Below.refl _ _⟩
  have HO : Hid (ofTxt n = Lib.decDigits n.toNat) := by simp [Hid, ofTxt, ha, hb]
  have g1 : (n == -1) = false := by simp [ha]
  have g2 : (n == -2) = false := by simp [hb]
  go_enter Tryd.func31, Tryd.ntmps31
  go_wp2_with fail
  refine (dec_any n _ (by omega) h2).mono ?_
  rintro e w1 ⟨rfl, b1⟩
  go_wp2_with fail
  go_ret
  exact ⟨by rw [HO.out]; rfl, b1⟩

theorem decDigits_len (n : Nat) (h : n < 1000000) : (Lib.decDigits n).length ≤ 6 := by
  rw [Lib.decDigits_length]
  unfold Lib.nDigits; split; omega
  unfold Lib.nDigits; split; omega
  unfold Lib.nDigits; split; omega
  unfold Lib.nDigits; split; omega
  unfold Lib.nDigits; split; omega
  unfold Lib.nDigits; split; omega
  omega

theorem ofTxt_len (n : Int) (h : n < 1000000) : (ofTxt n).length ≤ 6 := by
  unfold ofTxt
  split
  · simp
  · split
    · simp
    · exact decDigits_len _ (by omega)

theorem add_at (x y z : List UInt8) (h : x ++ y = z) (hx : x.length ≤ 1000) (hy : y.length ≤ 1000) : ∀ W : World, (Op.stringOp .add ⟨x.toArray⟩ ⟨y.toArray⟩).run Tryd.prog W = .ok (.string ⟨z.toArray⟩) W := by
  intro W
  rw [run_string_add_lists (P := Tryd.prog) W x y (by omega) (by omega), h]

theorem dec_at (a : Int) (l : List UInt8) (h : Lib.decDigits a.toNat = l) (w : World) (h1 : 0 ≤ a) (h2 : a < 1000000) :
    Calls Tryd.prog 46 #[.int .i64 a] w fun e w' => e = .returned (.string ⟨l.toArray⟩) ∧ Below w.heap.size w w' := h ▸ dec_any a w h1 h2

theorem dec_keep (a : Int) (l : List UInt8) (h : Lib.decDigits a.toNat = l) (h1 : 0 ≤ a) (h2 : a < 1000000) (w0 w : World) (B0 : Below w0.heap.size w0 w) :
    Calls Tryd.prog 46 #[.int .i64 a] w fun e w' => e = .returned (.string ⟨l.toArray⟩) ∧ (∀ q o v, w.cell? ⟨q, o, none⟩ = some v → w'.cell? ⟨q, o, none⟩ = some v) ∧ Below w0.heap.size w0 w' := by
  refine (dec_at a l h w h1 h2).mono ?_
  rintro e w' ⟨rfl, hb⟩
  exact ⟨rfl, fun q o v hv => by rw [hb.cell (p := ⟨q, o, none⟩) (cell_lt hv)]; exact hv, B0.trans (hb.mono B0.size)⟩

theorem ofTxt_pos {a : Int} (h : 0 ≤ a) : Lib.decDigits a.toNat = ofTxt a := by
  unfold ofTxt; rw [if_neg (by omega), if_neg (by omega)]
end Go.Proofs.YtdicmlbgpbglpaaDoor
