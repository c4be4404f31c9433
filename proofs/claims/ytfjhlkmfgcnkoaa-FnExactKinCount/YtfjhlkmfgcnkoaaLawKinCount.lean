/- FnExactKinCount: for all groups of types KinCount of the program answers as KinCount of the model does, and changes none. -/
import Derived.Test.YtfjhlkmfgcnkoaaCount
import Derived.Test.YtfjhlkmfgcnkoaaEq
import Derived.Test.YtfjhlkmfgcnkoaaOpen
namespace Go.Proofs.Ytfjhlkmfgcnkoaa.fnExactKinCount
open Go.ChangeShapes Go.WideShapes Go.ChangeAt Go.RowKit Go.Joins
set_option linter.unusedVariables false

set_option maxHeartbeats 400000 in
theorem walk (a : Option Addr) (cap : Nat) (gs : List (List Ty)) (w : World) (hl : Lens gs) (hx : GroupsIn w 0 w.heap.size a gs) :
    Calls Try.prog 3 #[.slice a gs.length cap] w fun e w' => e = .returned (.bool true) ∧ Below w.heap.size w w' := by
  go_enter Try.func3, Try.ntmps3
  go_wp2_with fail
  refine (szTypeSS_any a cap 0 w.heap.size gs 1048576 w hl hx (Nat.le_refl _) (by omega) (by omega)).mono ?_
  rintro e w0 ⟨r, rfl, r1, r2, r3, hb0⟩
  by_cases hr : r < 0
  · go_wp2_with fail
    go_ret
    exact ⟨rfl, hb0⟩
  have hf := hide (r3 (by omega))
  clear r3
  go_wp2_with fail
  refine (toTypeSS_any a cap 0 w.heap.size gs _ hf.out (hx.keep hb0) hb0.size).mono ?_
  rintro e w1 ⟨n1, rfl, hx1, hb1⟩
  have b1 := hb0.trans (hb1.mono hb0.size)
  go_wp2_with fail
  refine (specKinCount_any n1 _ _ _ gs _ hf.out hx1.plain).mono ?_
  rintro e w1' ⟨rfl, rfl⟩
  go_wp2_with fail
  refine (toTypeSS_any a cap 0 w.heap.size gs _ hf.out (hx.keep b1) b1.size).mono ?_
  rintro e w2 ⟨n2, rfl, hx2, hb2⟩
  have b2 := b1.trans (hb2.mono b1.size)
  go_wp2_with fail
  refine (implKinCount_any n2 _ _ _ gs _ hf.out hx2.plain).mono ?_
  rintro e w2' ⟨rfl, rfl⟩
  go_wp2_with fail
  refine (toTypeSS_any a cap 0 w.heap.size gs _ hf.out (hx.keep b2) b2.size).mono ?_
  rintro e w3 ⟨n3, rfl, hx3, hb3⟩
  have b3 := b2.trans (hb3.mono b2.size)
  go_wp2_with fail
  refine (eqTypeSS_same n2 n3 _ _ _ _ _ _ gs _ hf.out (hx2.keep hb3).plain hx3.plain hb3.size (Nat.le_refl _)).mono ?_
  rintro e w4 ⟨rfl, hb4⟩
  go_wp2_with fail
  go_ret
  exact ⟨rfl, b3.trans (hb4.mono b3.size)⟩

set_option maxRecDepth 100000 in
theorem lifted (os : Os) (started : os.Started) (H : Type) (enc : TypeId × Value → H) :
    ReturnsInHanded {} Try.checked os 3 .any (Rows.fnExactKinCountSpec.pre6 enc Try.prog Try.f3 Rows.fnExactKinCountRow.domain false) (Rows.fnExactKinCountSpec.post enc Try.prog Try.f3 false true false false) := by
  refine returnsInHanded_of_change (C := Try.checked) Try.own started (by kernel_rfl) Try.func3
    (ChangeSpec.witness6 (enc := enc) (C := Try.checked) false ⟨#[], #[.slice none 0 0], []⟩ 8 (by kernel_rfl) (by kernel_rfl) (by kernel_rfl) (by kernel_rfl)) ?_
  intro W base args ds gs before hval0 hW hcnd _
  have hval : ∀ (j : Nat) t v, Try.f3.params[j]? = some t → args[j]? = some v → Value.okWide Try.prog W .any base t v := hval0
  have hW' := hW
  obtain ⟨p, q, hA0, hV, rfl, hfz, hnd⟩ := hW
  have hA : DataW.TrodAll enc Try.prog W 0 (fun _ => true) true Try.f3.params.toList args.toList ds p := hA0
  rw [Try.params3] at hA hval
  obtain ⟨v0, vs0, d0, ds0, p0, q0, hargs, rfl, rfl, h0, r0⟩ := trodAll_cons hA
  obtain ⟨rfl, rfl, rfl⟩ := trodAll_nil r0
  obtain rfl : args = #[v0] := by cases args; simp_all
  obtain ⟨rfl, rfl⟩ := trodVars_none hV
  obtain ⟨a0, len0, cap0, rfl⟩ := okWide_slice Try.underlying22 (hval 0 22 v0 rfl rfl)
  have k0 := h0
  have lt0 : ∀ x ∈ p0, x.block < W.heap.size := by obtain ⟨m, hm⟩ := k0; exact DataW.trod_lt m _ _ _ hm
  obtain ⟨xs, rfl, hx, hl⟩ := groups_open h0
  clear hA0 hval0
  refine (walk a0 cap0 xs W hl hx).mono fun e W' ⟨he, bel⟩ => ?_
  subst he
  exact ⟨_, rfl, _, _, _, [], _, [], hW', trodAll_mk1 (shut_bool Try.underlying4 _), (trodAll_cons_mk (Below.trod Try.laidOut (by kernel_rfl) (of_decide_eq_true (by kernel_rfl)) k0 bel lt0) trodAll_mk0), rfl, bel.frame _, fun h => by cases h⟩

theorem over : Rows.fnExactKinCountRow.holds Try.pinned (OpenSpec.ofChange Rows.fnExactKinCountSpec) :=
  OpenClaim.holds_of_wide 3 Try.f3 rfl rfl rfl rfl rfl rfl rfl ⟨rfl, rfl, rfl, rfl, rfl⟩ rfl rfl rfl rfl rfl (by kernel_rfl) Try.func3 (by kernel_rfl)
    (of_decide_eq_true (by kernel_rfl)) (by unfold Func.isWrapper; first | (rw [if_pos (by decide +kernel)]; kernel_rfl) | (rw [if_neg (by decide +kernel)]; exact ⟨rfl, rfl⟩))
    (fun os started H enc _ => lifted os started H enc)
end Go.Proofs.Ytfjhlkmfgcnkoaa.fnExactKinCount
namespace Go.Proofs.Ytfjhlkmfgcnkoaa
theorem fnExactKinCount_holds : Rows.FnExactKinCountSaid := fnExactKinCount.over
end Go.Proofs.Ytfjhlkmfgcnkoaa
