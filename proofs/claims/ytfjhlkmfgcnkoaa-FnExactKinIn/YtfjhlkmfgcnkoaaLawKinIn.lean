/- FnExactKinIn: for every two lists of numbers KinIn of the program answers as KinIn of the model does, and changes neither list. -/
import Derived.Test.YtfjhlkmfgcnkoaaInts
namespace Go.Proofs.Ytfjhlkmfgcnkoaa.fnExactKinIn
open Go.ChangeShapes Go.WideShapes Go.ChangeAt Go.RowKit Go.Joins
set_option linter.unusedVariables false

set_option maxHeartbeats 400000 in
theorem walk (a a' : Option Addr) (cap cap' : Nat) (xs ys : List Int) (w : World) (hx : IntsIn w 0 w.heap.size a xs) (hy : IntsIn w 0 w.heap.size a' ys) :
    Calls Try.prog 5 #[.slice a xs.length cap, .slice a' ys.length cap'] w fun e w' => e = .returned (.bool true) ∧ Below w.heap.size w w' := by
  by_cases l1 : 1048576 < xs.length
  · have k1 : (1048576 : Int) < (xs.length : Int) := by omega
    go_enter Try.func5, Try.ntmps5
    go_wp2_with fail
    go_ret
    exact ⟨rfl, Below.refl _ _⟩
  have k1 : (xs.length : Int) ≤ 1048576 := by omega
  by_cases l2 : 1048576 < ys.length
  · have k2 : (1048576 : Int) < (ys.length : Int) := by omega
    go_enter Try.func5, Try.ntmps5
    go_wp2_with fail
    go_ret
    exact ⟨rfl, Below.refl _ _⟩
  have k2 : (ys.length : Int) ≤ 1048576 := by omega
  go_enter Try.func5, Try.ntmps5
  go_wp2_with fail
  refine (toIntS_any a cap 0 w.heap.size xs _ (by omega) hx (Nat.le_refl _)).mono ?_
  rintro e w1 ⟨n1, rfl, hx1, hb1⟩
  go_wp2_with fail
  have b1 := hb1
  refine (toIntS_any a' cap' 0 w.heap.size ys _ (by omega) (hy.keep b1) b1.size).mono ?_
  rintro e w2 ⟨n2, rfl, hy2, hb2⟩
  go_wp2_with fail
  have b2 : Below w.heap.size w w2 := b1.trans (hb2.mono b1.size)
  refine (specKinIn_any n1 n2 _ _ _ _ _ _ xs ys _ (by omega) (by omega) (hx1.keep hb2) hy2).mono ?_
  rintro e w2' ⟨rfl, q2, rfl⟩
  go_wp2_with fail
  have b2' : Below w.heap.size w (w2.drewN q2) := below_drewN b2 q2
  refine (toIntS_any a cap 0 w.heap.size xs _ (by omega) (hx.keep b2') b2'.size).mono ?_
  rintro e w3 ⟨n3, rfl, hx3, hb3⟩
  go_wp2_with fail
  have b3 : Below w.heap.size w w3 := b2'.trans (hb3.mono b2'.size)
  refine (toIntS_any a' cap' 0 w.heap.size ys _ (by omega) (hy.keep b3) b3.size).mono ?_
  rintro e w4 ⟨n4, rfl, hy4, hb4⟩
  go_wp2_with fail
  have b4 : Below w.heap.size w w4 := b3.trans (hb4.mono b3.size)
  have hx4 := hx3.keep hb4
  refine (implKinIn_any n3 n4 _ _ _ _ _ _ xs ys _ (by omega) (by omega) hx4 hy4).mono ?_
  rintro e w4' ⟨rfl, q4, rfl⟩
  go_wp2_with fail
  have b4' : Below w.heap.size w (w4.drewN q4) := below_drewN b4 q4
  refine (toIntS_any a cap 0 w.heap.size xs _ (by omega) (hx.keep b4') b4'.size).mono ?_
  rintro e w5 ⟨n5, rfl, hx5, hb5⟩
  go_wp2_with fail
  have b5 : Below w.heap.size w w5 := b4'.trans (hb5.mono b4'.size)
  refine (eqIntS_any n3 n5 _ _ _ _ _ _ xs _ (by omega) ((hx4.drewN q4).keep (hb5.mono hb4.size)) hx5).mono ?_
  rintro e w5' ⟨rfl, q5, rfl⟩
  go_wp2_with fail
  have b5' : Below w.heap.size w (w5.drewN q5) := below_drewN b5 q5
  refine (toIntS_any a' cap' 0 w.heap.size ys _ (by omega) (hy.keep b5') b5'.size).mono ?_
  rintro e w6 ⟨n6, rfl, hy6, hb6⟩
  go_wp2_with fail
  have b6 : Below w.heap.size w w6 := b5'.trans (hb6.mono b5'.size)
  refine (eqIntS_any n4 n6 _ _ _ _ _ _ ys _ (by omega) ((((hy4.drewN q4).keep hb5).drewN q5).keep (hb6.mono hb5.size)) hy6).mono ?_
  rintro e w6' ⟨rfl, q6, rfl⟩
  go_wp2_with fail
  go_ret
  exact ⟨rfl, below_drewN b6 q6⟩

set_option maxRecDepth 100000 in
theorem lifted (os : Os) (started : os.Started) (H : Type) (enc : TypeId × Value → H) :
    ReturnsInHanded {} Try.checked os 5 .any (Rows.fnExactKinInSpec.pre6 enc Try.prog Try.f5 Rows.fnExactKinInRow.domain false) (Rows.fnExactKinInSpec.post enc Try.prog Try.f5 false true false false) := by
  refine returnsInHanded_of_change (C := Try.checked) Try.own started (by kernel_rfl) Try.func5
    (ChangeSpec.witness6 (enc := enc) (C := Try.checked) false ⟨#[], #[.slice none 0 0, .slice none 0 0], []⟩ 8 (by kernel_rfl) (by kernel_rfl) (by kernel_rfl) (by kernel_rfl)) ?_
  intro W base args ds gs before hval0 hW hcnd _
  have hval : ∀ (j : Nat) t v, Try.f5.params[j]? = some t → args[j]? = some v → Value.okWide Try.prog W .any base t v := hval0
  have hW' := hW
  obtain ⟨p, q, hA0, hV, rfl, hfz, hnd⟩ := hW
  have hA : DataW.TrodAll enc Try.prog W 0 (fun _ => true) true Try.f5.params.toList args.toList ds p := hA0
  rw [Try.params5] at hA hval
  obtain ⟨v0, vs0, d0, ds0, p0, q0, hargs, rfl, rfl, h0, r0⟩ := trodAll_cons hA
  obtain ⟨v1, vs1, d1, ds1, p1, q1, rfl, rfl, rfl, h1, r1⟩ := trodAll_cons r0
  obtain ⟨rfl, rfl, rfl⟩ := trodAll_nil r1
  obtain rfl : args = #[v0, v1] := by cases args; simp_all
  obtain ⟨rfl, rfl⟩ := trodVars_none hV
  obtain ⟨a0, len0, cap0, rfl⟩ := okWide_slice Try.underlying38 (hval 0 38 v0 rfl rfl)
  obtain ⟨a1, len1, cap1, rfl⟩ := okWide_slice Try.underlying38 (hval 1 38 v1 rfl rfl)
  have k0 := h0
  have lt0 : ∀ x ∈ p0, x.block < W.heap.size := by obtain ⟨m, hm⟩ := k0; exact DataW.trod_lt m _ _ _ hm
  have k1 := h1
  have lt1 : ∀ x ∈ p1, x.block < W.heap.size := by obtain ⟨m, hm⟩ := k1; exact DataW.trod_lt m _ _ _ hm
  obtain ⟨xs, rfl, hx⟩ := ints_open h0 rfl
  obtain ⟨ys, rfl, hy⟩ := ints_open h1 rfl
  clear hA0 hval0
  refine (walk a0 a1 cap0 cap1 xs ys W hx hy).mono fun e W' ⟨he, bel⟩ => ?_
  subst he
  exact ⟨_, rfl, _, _, _, [], _, [], hW', trodAll_mk1 (shut_bool Try.underlying4 _), (trodAll_cons_mk (Below.trod Try.laidOut (by kernel_rfl) (of_decide_eq_true (by kernel_rfl)) k0 bel lt0) (trodAll_cons_mk (Below.trod Try.laidOut (by kernel_rfl) (of_decide_eq_true (by kernel_rfl)) k1 bel lt1) trodAll_mk0)), rfl, bel.frame _, fun h => by cases h⟩

theorem over : Rows.fnExactKinInRow.holds Try.pinned (OpenSpec.ofChange Rows.fnExactKinInSpec) :=
  OpenClaim.holds_of_wide 5 Try.f5 rfl rfl rfl rfl rfl rfl rfl ⟨rfl, rfl, rfl, rfl, rfl⟩ rfl rfl rfl rfl rfl (by kernel_rfl) Try.func5 (by kernel_rfl)
    (of_decide_eq_true (by kernel_rfl)) (by unfold Func.isWrapper; first | (rw [if_pos (by decide +kernel)]; kernel_rfl) | (rw [if_neg (by decide +kernel)]; exact ⟨rfl, rfl⟩))
    (fun os started H enc _ => lifted os started H enc)
end Go.Proofs.Ytfjhlkmfgcnkoaa.fnExactKinIn
namespace Go.Proofs.Ytfjhlkmfgcnkoaa
theorem fnExactKinIn_holds : Rows.FnExactKinInSaid := fnExactKinIn.over
end Go.Proofs.Ytfjhlkmfgcnkoaa
