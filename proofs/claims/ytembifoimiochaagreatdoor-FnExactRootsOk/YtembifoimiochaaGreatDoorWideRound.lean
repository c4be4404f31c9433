/- A region that draws its order, inside a round of a range over a function: what serves it outside a round serves it there too, if nothing is deferred. -/
import Derived.Test.YtembifoimiochaaGreatDoorPaOne
import Derived.OrdersHeld
import Derived.RegionIn
import Derived.RangeFuncCalls
import Derived.TacticsIn
namespace Go.Proofs.YtembifoimiochaaGreatDoor
open Go.RowKit
set_option linter.unusedVariables false

section
variable {P : Program} {ops : Array Oper} {Q : Exit → Act → World → Prop}

theorem oper_wide {l n : Nat} {o : Oper} {a : Act} {w : World} {K : Act → World → Prop} (hd : ∀ c, o.op ≠ .defer c) (h : o.wp P a w K Q) : o.wpIn (Fence.wide.inRound l) n P a w K Q := by
  refine ⟨fun _ _ => trivial, ?_⟩
  rw [show (Fence.wide.inRound l).round = some l from rfl, Oper.semAt_some l _ o hd]
  unfold Oper.wp at h
  revert h
  generalize (execOp a.eval o).run P w = r
  intro h
  match r, h with
  | .ok (.value v) w', h => exact h
  | .ok .skip w', h => exact h
  | .ok (.defer d) w', h => exact h
  | .ok (.enter f args) w', h => exact ⟨fun e => (by cases e), CallsIn.inRound l (callsIn_wide.2 h)⟩
  | .ok (.row row args) w', h => exact ⟨fun e => (by cases e), fun c cs _ => let ⟨v, w'', r, s⟩ := h c cs; ⟨v, w'', r, stepsIn_wide.2 s⟩⟩
  | .halt (.panic v) w', h => exact h

theorem any_wide {l n : Nat} {md : Region.Mode} (hlo : ¬ LetsOut Q) (hd : ∀ o ∈ ops.toList, ∀ c, o.op ≠ .defer c) (fuel : Nat) : ∀ (listed : Array Bool) (a : Act) (w : World),
    wpAny P md ops Q fuel listed a w → wpAnyIn (Fence.wide.inRound l) n P md ops Q fuel listed a w := by
  induction fuel with
  | zero => intro listed a w h; exact h
  | succ fuel ih =>
    intro listed a w h
    refine ⟨h.1, fun i hi => ?_⟩
    have hq := h.2 i hi
    unfold wpOp at hq
    unfold wpOpIn
    cases ho : ops[i]? with
    | none => simp only [ho] at hq; exact ih _ _ _ hq
    | some o =>
      simp only [ho] at hq
      have hmem : o ∈ ops.toList := by
        have := Array.mem_of_getElem? ho
        simpa using this
      by_cases hwd : Region.wanted o (yielded ops a.tmps) = true
      · simp only [hwd, if_true] at hq ⊢
        exact Oper.wpIn_mono (fun a' w' h' => ih _ a' w' h') (oper_wide (hd o hmem) (hq.resolve_right fun h => hlo h.2))
      · simp only [hwd] at hq ⊢
        exact ⟨fun _ _ => trivial, ih _ _ _ hq⟩

/-- The beginning of such a region: its loads may be taken first, by S. -/
theorem held_wide {l n id : Nat} {S : World → Prop} {a : Act} {w : World} (hlo : ¬ LetsOut Q) (hd : ∀ o ∈ ops.toList, ∀ c, o.op ≠ .defer c) (hm : P.follows .mixedOrders = true)
    (h : wpAnyH P .any ops Q S ops.size (Array.replicate ops.size false) a w.drew) : (Code.region id ops true).wpIn (Fence.wide.inRound l) n P Q a w :=
  wpIn_region_any hm (any_wide hlo hd _ _ _ _ (wpAny_of_held _ _ _ _ h))
end
end Go.Proofs.YtembifoimiochaaGreatDoor
