/- ValFits of the model. -/
import Derived.Test.YtlmciclkfmeepaaDoorValE1
import Derived.Test.YtlmciclkfmeepaaDoorValE2
import Derived.Test.YtlmciclkfmeepaaDoorValE3
namespace Go.Proofs.YtlmciclkfmeepaaDoor
open Go.ChangeShapes Go.WideShapes Go.ChangeAt Go.RowKit
set_option linter.unusedVariables false

theorem specValFits_any {md : Bool} (ga : Option Addr) (gc lo hi : Nat) (ta : Option Addr) (tc lo' hi' : Nat) (gs : List (List Ty)) (xs : List GThing) (k n fk fo : Int) (fm : Bool) (w : World) (hN : Few gs) (hc : gs.length ≤ gc) (hl : lo ≤ hi) (hh : hi ≤ w.heap.size) (hx : GroupsIn w lo hi ga gs) (hm : xs.length ≤ 1048576) (hy : ThingsM md w lo' hi' ta xs) (hh' : hi' ≤ w.heap.size) :
    Calls Tryd.prog 7 #[.slice ga gs.length gc, .slice ta xs.length tc, .agg #[.int .i64 k, .int .i64 n], .agg #[.int .i64 fk, .int .i64 fo, .bool fm]] w fun e w' => e = .returned (.bool (valFitsF gs xs k n ⟨fk, fo, fm⟩)) ∧ Below w.heap.size w w' := by
  cases hk : kinOkF gs with
  | false => exact specValFits_1 ga gc lo hi ta tc lo' hi' gs xs k n fk fo fm w hN hc hl hh hx hm hy hh' hk
  | true =>
    cases hf : fieldOk fk fo (kinCount gs : Nat) with
    | false => exact specValFits_2 ga gc lo hi ta tc lo' hi' gs xs k n fk fo fm w hN hc hl hh hx hm hy hh' hk hf
    | true => exact specValFits_3 ga gc lo hi ta tc lo' hi' gs xs k n fk fo fm w hN hc hl hh hx hm hy hh' hk hf
end Go.Proofs.YtlmciclkfmeepaaDoor
