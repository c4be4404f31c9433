/- FnExactEngineRoots: lifted from its walk. Written by tools/liftlaw.py. -/
import Derived.Test.YtbalfmlmgbmneaaWalkExactEngineRoots
import Derived.Test.YtbalfmlmgbmneaaOpenEngine
namespace Go.Proofs.Ytbalfmlmgbmneaa.fnExactEngineRoots
open Go.ChangeShapes Go.WideShapes Go.ChangeAt Go.RowKit Go.Joins Go.Deep
set_option linter.unusedVariables false

set_option maxRecDepth 100000 in
theorem lifted (os : Os) (started : os.Started) (H : Type) (enc : TypeId × Value → H) :
    ReturnsInHanded {} Try.checked os 3 .any (Rows.fnExactEngineRootsSpec.pre6 enc Try.prog Try.f3 Rows.fnExactEngineRootsRow.domain false) (Rows.fnExactEngineRootsSpec.post enc Try.prog Try.f3 false true false false) := by
  refine returnsInHanded_of_change (C := Try.checked) Try.own started (by kernel_rfl) Try.func3
    (ChangeSpec.witness6 (enc := enc) (C := Try.checked) false ⟨#[], #[.agg #[.slice none 0 0, .int .i64 0, .int .i64 0, .int .i64 0, .slice none 0 0, .slice none 0 0, .slice none 0 0, .slice none 0 0, .int .i64 0, .int .i64 0, .int .i64 0]], []⟩ 8 (by kernel_rfl) (by kernel_rfl) (by kernel_rfl) (by kernel_rfl)) ?_
  intro W base args ds gs before hval0 hW hcnd _
  have hval : ∀ (j : Nat) t v, Try.f3.params[j]? = some t → args[j]? = some v → Value.okWide Try.prog W .any base t v := hval0
  have hW' := hW
  obtain ⟨p, q, hA0, hV, rfl, hfz, hnd⟩ := hW
  have hA : DataW.TrodAll enc Try.prog W 0 (fun _ => true) true Try.f3.params.toList args.toList ds p := hA0
  rw [Try.params3] at hA hval
  obtain ⟨v0, vs0, d0, ds0, p0, q0, hargs, rfl, rfl, h0, r0⟩ := trodAll_cons hA
  obtain ⟨rfl, rfl, rfl⟩ := trodAll_nil r0
  obtain rfl : args = #[v0] := by cases args; simp_all
  obtain ⟨rfl, rfl⟩ := trodVars_none hV
  have k0 := h0
  have lt0 : ∀ x ∈ p0, x.block < W.heap.size := by obtain ⟨m, hm⟩ := k0; exact DataW.trod_lt m _ _ _ hm
  obtain ⟨c0_0, c0_1, c0_2, c0_3, c0_4, c0_5, c0_6, c0_7, c0_8, c0_9, c0_10, y0_0, y0_1, y0_2, y0_3, y0_4, y0_5, y0_6, y0_7, y0_8, y0_9, y0_10, nn0, nn0', rfl, hy0_0, hy0_1, hy0_2, hy0_3, hy0_4, hy0_5, hy0_6, hy0_7, hy0_8, hy0_9, hy0_10⟩ := open_eng (hval 0 28 v0 rfl rfl) h0
  obtain ⟨ga0_0, z0_0, gc0_0, rfl, hg0_0, bg0_0⟩ := nums_open hy0_0
  obtain ⟨z0_1, hz, _, _⟩ := DataW.trod_int Try.underlying3 hy0_1
  obtain rfl : c0_1 = .int .i64 z0_1 := by simpa using hz
  clear hz
  obtain ⟨z0_2, hz, _, _⟩ := DataW.trod_int Try.underlying3 hy0_2
  obtain rfl : c0_2 = .int .i64 z0_2 := by simpa using hz
  clear hz
  obtain ⟨z0_3, hz, _, _⟩ := DataW.trod_int Try.underlying3 hy0_3
  obtain rfl : c0_3 = .int .i64 z0_3 := by simpa using hz
  clear hz
  obtain ⟨ga0_4, z0_4, gc0_4, rfl, hg0_4, bg0_4⟩ := nums_open hy0_4
  obtain ⟨ga0_5, z0_5, gc0_5, rfl, hg0_5, bg0_5⟩ := vals_open hy0_5
  obtain ⟨ga0_6, z0_6, gc0_6, rfl, hg0_6, bg0_6⟩ := frames_open hy0_6
  obtain ⟨ga0_7, z0_7, gc0_7, rfl, hg0_7, bg0_7⟩ := nums_open hy0_7
  obtain ⟨z0_8, hz, _, _⟩ := DataW.trod_int Try.underlying3 hy0_8
  obtain rfl : c0_8 = .int .i64 z0_8 := by simpa using hz
  clear hz
  obtain ⟨z0_9, hz, _, _⟩ := DataW.trod_int Try.underlying3 hy0_9
  obtain rfl : c0_9 = .int .i64 z0_9 := by simpa using hz
  clear hz
  obtain ⟨z0_10, hz, _, _⟩ := DataW.trod_int Try.underlying3 hy0_10
  obtain rfl : c0_10 = .int .i64 z0_10 := by simpa using hz
  clear hz
  clear hA0 hval0
  refine (fnExactEngineRoots_walk ga0_0 gc0_0 ga0_4 gc0_4 ga0_5 gc0_5 ga0_6 gc0_6 ga0_7 gc0_7 ⟨⟨z0_0, z0_1, z0_2, z0_3, z0_4⟩, z0_5, z0_6, z0_7, z0_8, z0_9, z0_10⟩ W ⟨bg0_0, bg0_4, bg0_5, bg0_6, bg0_7⟩ hg0_0 hg0_4 hg0_5 hg0_6 hg0_7).mono fun e W' ⟨he, bel⟩ => ?_
  subst he
  exact ⟨_, rfl, _, _, _, [], _, [], hW', trodAll_mk1 (shut_bool Try.underlying4 _), (trodAll_cons_mk (Below.trod Try.laidOut (by kernel_rfl) (of_decide_eq_true (by kernel_rfl)) k0 bel lt0) trodAll_mk0), rfl, bel.frame _, fun h => by cases h⟩

theorem over : Rows.fnExactEngineRootsRow.holds Try.pinned (OpenSpec.ofChange Rows.fnExactEngineRootsSpec) :=
  OpenClaim.holds_of_wide 3 Try.f3 rfl rfl rfl rfl rfl rfl rfl ⟨rfl, rfl, rfl, rfl, rfl⟩ rfl rfl rfl rfl rfl (by kernel_rfl) Try.func3 (by kernel_rfl)
    (of_decide_eq_true (by kernel_rfl)) (by unfold Func.isWrapper; first | (rw [if_pos (by decide +kernel)]; kernel_rfl) | (rw [if_neg (by decide +kernel)]; exact ⟨rfl, rfl⟩))
    (fun os started H enc _ => lifted os started H enc)
end Go.Proofs.Ytbalfmlmgbmneaa.fnExactEngineRoots
namespace Go.Proofs.Ytbalfmlmgbmneaa
theorem fnExactEngineRoots_holds : Rows.FnExactEngineRootsSaid := fnExactEngineRoots.over
end Go.Proofs.Ytbalfmlmgbmneaa
