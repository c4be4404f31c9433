/- A region that draws its order, inside a round of a range over a function: one walk of the lexical order serves every order there too, if nothing is deferred. -/
import Derived.Test.YtlmciclkfmeepaaDoorBase
import Derived.Sort.QuietIn
import Derived.TacticsIn
namespace Go.Proofs.YtlmciclkfmeepaaDoor
open Go.RowKit
set_option linter.unusedVariables false

section
variable {F : Fence} {n : Nat} {P : Program} {ops : Array Oper} {C : World → Prop}

def NoDefer (ops : Array Oper) : Prop := ∀ o ∈ ops.toList, ∀ c, o.op ≠ .defer c

theorem oper_round {r : Nat} {o : Oper} {a : Act} {K : Act → Prop} {K' : Act → World → Prop} {Q' : Exit → Act → World → Prop} {w : World} (hro : F.round = some r) (hd : ∀ c, o.op ≠ .defer c) (hw : C w) (h : ∀ a w', C w' → K a → K' a w')
    (ha : o.askedIn F P a C) (hh : o.quietIn F n P a C K) : o.wpIn F n P a w K' Q' := by
  obtain ⟨v, hv, hk⟩ := hh
  have hq := hv w hw
  unfold Oper.quietAtIn at hq
  refine ⟨ha w hw, ?_⟩
  rw [hro, Oper.semAt_some r _ o hd]
  revert hq
  generalize (execOp a.eval o).run P w = res
  intro hq
  match res, hq with
  | .ok (.value u) w', ⟨e1, e2⟩ => subst e1; subst e2; exact h _ _ hw hk
  | .ok .skip w', ⟨e1, e2⟩ => subst e1; subst e2; exact h _ _ hw hk
  | .ok (.enter f args) w', ⟨e1, e2, e3⟩ =>
    subst e1
    exact ⟨e2, e3.mono fun e w'' hx => by obtain ⟨rfl, hx2⟩ := hx; exact h _ _ hx2 hk⟩

theorem any_round {r : Nat} {md : Region.Mode} {Q : Act → Prop} {Q' : Exit → Act → World → Prop} (hro : F.round = some r) (hd : NoDefer ops) (hQ : ∀ a w, C w → Q a → Q' .normal a w) (fuel : Nat) : ∀ (listed : Array Bool) (a : Act) (w : World), C w →
    wpAnyQIn F n P md ops C Q fuel listed a → wpAnyIn F n P md ops Q' fuel listed a w := by
  induction fuel with
  | zero => intro listed a w hw h; exact ⟨h.1, hQ _ _ hw h.2⟩
  | succ fuel ih =>
    intro listed a w hw h
    refine ⟨fun h0 => hQ _ _ hw (h.1 h0), fun i hi => ?_⟩
    have hq := h.2 i hi
    unfold qOpIn at hq
    unfold wpOpIn
    cases ho : ops[i]? with
    | none => simp only [ho] at hq; exact ih _ _ _ hw hq
    | some o =>
      simp only [ho] at hq
      obtain ⟨q1, q2⟩ := hq
      have hmem : o ∈ ops.toList := by
        have := Array.mem_of_getElem? ho
        simpa using this
      by_cases hwd : Region.wanted o (yielded ops a.tmps) = true
      · simp only [hwd, if_true] at q2 ⊢
        exact oper_round hro (hd o hmem) hw (fun a' w' hw' hk => ih _ a' w' hw' hk) q1 q2
      · simp only [hwd] at q2 ⊢
        exact ⟨q1 w hw, ih _ _ _ hw q2⟩

theorem region_round {r id : Nat} {Q : Exit → Act → World → Prop} {a : Act} {w : World} {l : List Oper} (hro : F.round = some r) (hd : NoDefer l.toArray) (hm : P.follows .mixedOrders = true) (hB : Region.lexB .any l.toArray = true)
    (h : wpQuietIn F n P l.toArray (fun w' => ∃ n, w' = w.drewN n) (fun a' => ∀ w', (∃ n, w' = w.drewN n) → Q .normal a' w') l a) : (Code.region id l.toArray true).wpIn F n P Q a w := by
  simp only [Region.lexB, Bool.and_eq_true] at hB
  have hall := wpAnyQIn_lex (F := F) (n := n) (P := P) (C := fun w' => ∃ n, w' = w.drewN n) (md := .any) hB.1 l 0 (Array.replicate l.toArray.size false) a (by simp) (by simpa using hB.2) h
  refine wpIn_region_any hm (any_round (C := fun w' => ∃ n, w' = w.drewN n) (Q := fun a' => ∀ w', (∃ n, w' = w.drewN n) → Q .normal a' w') hro hd (fun _ w' hw' hk => hk w' hw') _ _ _ _ ?_ ?_)
  · exact ⟨1, rfl⟩
  · simpa using hall
end
end Go.Proofs.YtlmciclkfmeepaaDoor
