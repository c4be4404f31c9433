/- Values in a row of the call's own, grown by append. -/
import Derived.Test.YtbalfmlmgbmneaaRowB
import Derived.Test.YtbalfmlmgbmneaaGenVal
namespace Go.Proofs.Ytbalfmlmgbmneaa
open Go.ChangeShapes Go.WideShapes Go.ChangeAt Go.RowKit Go.Deep
set_option linter.unusedVariables false

def vcells (vs : List GVal) : List Value := vs.flatMap fun v => [.int .i64 v.kind, .int .i64 v.n]
theorem vcells_length (vs : List GVal) : (vcells vs).length = vs.length * 2 := by
  induction vs with
  | nil => rfl
  | cons v vs ih => simp [vcells] at *; omega
theorem vcells_snoc (vs : List GVal) (v : GVal) : vcells (vs ++ [v]) = vcells vs ++ [.int .i64 v.kind, .int .i64 v.n] := by simp [vcells]
theorem vcells_get (vs : List GVal) (i : Nat) (h : i < vs.length) : (vcells vs)[i * 2]? = some (.int .i64 (valAt' vs i).kind) ∧ (vcells vs)[i * 2 + 1]? = some (.int .i64 (valAt' vs i).n) := by
  induction vs generalizing i with
  | nil => simp at h
  | cons v vs ih =>
    cases i with
    | zero => simp [vcells, valAt']
    | succ i =>
      have := ih i (by simpa using h)
      have e : vcells (v :: vs) = .int .i64 v.kind :: .int .i64 v.n :: vcells vs := by simp [vcells]
      rw [e, show (i + 1) * 2 = i * 2 + 1 + 1 by omega, show i * 2 + 1 + 1 + 1 = (i * 2 + 1) + 1 + 1 by omega]
      simpa [valAt'] using this
theorem vcells_one (vs : List GVal) : ∀ u ∈ vcells vs, u.oneCell' = true := by
  intro u hu
  simp [vcells] at hu
  obtain ⟨v, _, rfl | rfl⟩ := hu <;> rfl

/-- The values vs lie at a, in a row of the call's own from block S on. -/
def ValRow (w : World) (S : Nat) (a : Option Addr) (cap : Nat) (vs : List GVal) : Prop := w.ownsRow S 62 2 (.slice a vs.length cap) vs.length (vcells vs)
theorem ValRow.vals {w : World} {S cap : Nat} {a : Option Addr} {vs : List GVal} (h : ValRow w S a cap vs) : ValsM false w S w.heap.size a vs := by
  rcases owns_cells h with h0 | ⟨g, rfl, hS, hlt, hc⟩
  · exact .inl (List.length_eq_zero_iff.1 (by omega))
  · refine .inr ⟨g, 0, rfl, hS, hlt, (fun e => by cases e), fun i hi => ?_⟩
    obtain ⟨e0, e1⟩ := vcells_get vs i hi
    rw [Nat.zero_add]
    exact ⟨(hc _ (by omega)).trans e0, (hc _ (by omega)).trans e1⟩
theorem ValRow.nil (w : World) (S : Nat) : ValRow w S none 0 [] := World.ownsRow_nil _ _ _ _
theorem ValRow.below {w w' : World} {S cap : Nat} {a : Option Addr} {vs : List GVal} (h : ValRow w S a cap vs) (hb : Below w.heap.size w w') : ValRow w' S a cap vs := owns_below h hb
theorem ValRow.of_snoc {w : World} {S cap : Nat} {a : Option Addr} {vs : List GVal} {v : GVal} (h : w.ownsRow S 62 2 (.slice a (vs.length + 1) cap) (vs.length + 1) (vcells vs ++ [.int .i64 v.kind, .int .i64 v.n])) : ValRow w S a cap (vs ++ [v]) := by
  unfold ValRow
  rw [vcells_snoc]
  simpa using h
theorem valAt_snoc_left (l : List GVal) (v : GVal) (i : Nat) (h : i < l.length) : valAt' (l ++ [v]) i = valAt' l i := by
  unfold valAt'; simp [List.getElem?_append_left h]
theorem valAt_snoc_last (l : List GVal) (v : GVal) : valAt' (l ++ [v]) l.length = v := by unfold valAt'; simp
theorem infoVal : (Try.prog.info? 62).map (fun i => (i.zero, i.size, i.bytes)) = some (some (.agg #[.int .i64 0, .int .i64 0]), 2, 16) := by kernel_rfl
end Go.Proofs.Ytbalfmlmgbmneaa
