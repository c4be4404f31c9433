/- The law of FieldUnder on drawn groups and fields. -/
import Derived.Test.YtfnipbnchkonoaaDoorDrawFU
import Derived.Test.YtfnipbnchkonoaaDoorWalkFnKinFields
import Derived.Test.YtfnipbnchkonoaaDoorHeldL
namespace Go.Proofs.YtfnipbnchkonoaaDoor
open Go.ChangeShapes Go.WideShapes Go.ChangeAt Go.RowKit Go.Deep
set_option linter.unusedVariables false

abbrev fc (f : Fd) : List Value := [.int .i64 f.kind, .int .i64 f.of, .bool f.mt]
/-- Drawn groups, and variables with a field each. -/
structure FS (w0 w : World) (ga gc : Nat) (gs : List (List Ty)) (ab bb : Nat) (a b : Fd) : Prop where
  g : GS w0 w ga gc gs
  a : Rec w ab 35 (fc a)
  b : Rec w bb 35 (fc b)
theorem FS.keep {w0 w w' : World} {ga gc : Nat} {gs : List (List Ty)} {ab bb : Nat} {a b : Fd} (h : FS w0 w ga gc gs ab bb a b) (hb : Below w.heap.size w w') : FS w0 w' ga gc gs ab bb a b := ⟨h.g.keep hb, h.a.below hb h.a.lt, h.b.below hb h.b.lt⟩
theorem FS.alloc {w0 w : World} {ga gc : Nat} {gs : List (List Ty)} {ab bb : Nat} {a b : Fd} (h : FS w0 w ga gc gs ab bb a b) (o : Obj) : FS w0 (w.alloc o) ga gc gs ab bb a b := h.keep ((Below.refl _ _).alloc (Nat.le_refl _) o)
theorem FS.drew {w0 w : World} {ga gc : Nat} {gs : List (List Ty)} {ab bb : Nat} {a b : Fd} (h : FS w0 w ga gc gs ab bb a b) : FS w0 w.drew ga gc gs ab bb a b := h.keep (below_drewN (Below.refl _ _) 1)
theorem Rec.drew {w : World} {b : Nat} {T : TypeId} {vs : List Value} (h : Rec w b T vs) : Rec w.drew b T vs := h
theorem specFieldOk_v (k o n : Int) (m : Bool) {c : Bool} (h : fieldOk k o n = c) (w : World) :
    Calls Tryd.prog 40 #[.agg #[.int .i64 k, .int .i64 o, .bool m], .int .i64 n] w fun e w' => e = .returned (.bool c) ∧ Below w.heap.size w w' := by
  subst h; exact specFieldOk_any k o n m w
theorem GS.specFieldUnder {w0 w : World} {ga gc : Nat} {gs : List (List Ty)} (h : GS w0 w ga gc gs) {f g : Fd} {v : Bool} (hv : fieldUnderB gs f g = v) :
    Calls Tryd.prog 39 #[.slice (some ⟨ga, 0, none⟩) gs.length gc, .agg #[.int .i64 f.kind, .int .i64 f.of, .bool f.mt], .agg #[.int .i64 g.kind, .int .i64 g.of, .bool g.mt]] w fun e w' => e = .returned (.bool v) ∧ Below w.heap.size w w' := by
  obtain ⟨hi, h1, h2, h3⟩ := h.mem
  subst hv
  exact specFieldUnder_any (some ⟨ga, 0, none⟩) gc _ hi gs f g w h.few h.cap h1 h2 h3
theorem sort_mt (gs : List (List Ty)) (k o k' o' : Int) (m m' n n' : Bool) : sortF gs ⟨k, o, m⟩ ⟨k', o', m'⟩ = sortF gs ⟨k, o, n⟩ ⟨k', o', n'⟩ := rfl
theorem fieldOk_kind {k o n : Int} (h : fieldOk k o n = true) : k = 1 ∨ k = 2 ∨ k = 3 := by
  unfold fieldOk at h
  split at h
  · left; assumption
  · split at h
    · rename_i h2; omega
    · cases h

set_option maxHeartbeats 8000000 in
set_option maxRecDepth 100000 in
theorem fnFieldUnder_walk (a0 : Option Addr) (cap0 n0 : Nat) (hc0 : n0 ≤ cap0) (a9 : Option Addr) (cap9 n9 : Nat) (hc9 : n9 ≤ cap9) (w : World) (h0 : BytesIn w w.heap.size a0 n0) (h9 : BytesIn w w.heap.size a9 n9) (ht : pow10 w) :
    Calls Tryd.prog 9 #[.slice a0 n0 cap0, .slice a9 n9 cap9] w fun e w' => e = .returned (.bool true) ∧ Below w.heap.size w w' := by
  by_cases l0 : 1048576 < n0
  · have k0 : (1048576 : Int) < (n0 : Int) := by omega
    go_enter Tryd.func9, Tryd.ntmps9
    go_wp2_with fail
    go_ret
    exact ⟨rfl, Below.refl _ _⟩
  have k0 : (n0 : Int) ≤ 1048576 := by omega
  by_cases l9 : 1048576 < n9
  · have k9 : (1048576 : Int) < (n9 : Int) := by omega
    go_enter Tryd.func9, Tryd.ntmps9
    go_wp2_with fail
    go_ret
    exact ⟨rfl, Below.refl _ _⟩
  have k9 : (n9 : Int) ≤ 1048576 := by omega
  go_enter Tryd.func9, Tryd.ntmps9
  go_wp2_with fail
  refine (drawFieldUnder_any a0 cap0 n0 w hc0 h0 ht).mono ?_
  rintro e w1 ⟨gs, ga, gc, a, b, rfl, G1⟩
  have n2 := G1.count
  have bA : Below w1.heap.size w1 ((w1.alloc (.cells (fc a).toArray 35)).alloc (.cells (fc b).toArray 35)) := ((Below.refl _ _).alloc (Nat.le_refl _) _).alloc (by simp) _
  have F1 : FS w ((w1.alloc (.cells (fc a).toArray 35)).alloc (.cells (fc b).toArray 35)) ga gc gs w1.heap.size (w1.heap.size + 1) a b := ⟨G1.keep bA, (Rec.new _ _ _).alloc _, Rec.new' _ _ _ _ (by simp)⟩
  clear bA G1
  obtain ⟨W1, hW1⟩ : ∃ W1, (w1.alloc (.cells (fc a).toArray 35)).alloc (.cells (fc b).toArray 35) = W1 := ⟨_, rfl⟩
  rw [hW1] at F1
  have HW1 := hide hW1
  clear hW1
  go_wp2_with fail
  rw [show (w1.alloc (.cells #[.int .i64 a.kind, .int .i64 a.of, .bool a.mt] 35)).alloc (.cells #[.int .i64 b.kind, .int .i64 b.of, .bool b.mt] 35) = W1 from HW1.out]
  clear HW1
  generalize w1.heap.size = ab at *
  refine (drawFieldOk_any a9 cap9 n9 W1 hc9 ((h9.keep F1.g.bel).wider F1.g.bel.size)).mono ?_
  rintro e w2 ⟨hk, ho, hm, kx, rfl, kx0, kx6, B2⟩
  replace F1 := F1.keep B2
  clear B2
  have R2 := Rec.new w2 35 (fc ⟨hk, ho, hm⟩)
  have F2 := F1.alloc (.cells (fc ⟨hk, ho, hm⟩).toArray 35)
  clear F1
  obtain ⟨W2, hW2⟩ : ∃ W2, w2.alloc (.cells (fc ⟨hk, ho, hm⟩).toArray 35) = W2 := ⟨_, rfl⟩
  rw [hW2] at R2 F2
  have HW2 := hide hW2
  clear hW2
  go_wp2_with fail
  rw [show w2.alloc (.cells #[.int .i64 hk, .int .i64 ho, .bool hm] 35) = W2 from HW2.out]
  clear HW2
  generalize w2.heap.size = hb at *
  refine F2.g.specCount.mono ?_
  rintro e w3 ⟨rfl, rfl⟩
  obtain ⟨x, hx⟩ : ∃ x, fieldUnderB gs a b = x := ⟨_, rfl⟩
  obtain ⟨oh, hoh⟩ : ∃ oh, fieldOk hk ho kx = oh := ⟨_, rfl⟩
  obtain ⟨oa, hoa⟩ : ∃ oa, fieldOk a.kind a.of (kinCount gs : Nat) = oa := ⟨_, rfl⟩
  obtain ⟨ob, hob⟩ : ∃ ob, fieldOk b.kind b.of (kinCount gs : Nat) = ob := ⟨_, rfl⟩
  have HX := hide hx
  have HOH := hide hoh
  have HOA := hide hoa
  have HOB := hide hob
  clear hoh
  obtain ⟨ak, ao, am⟩ := a
  obtain ⟨bk, bo, bm⟩ := b
  dsimp only at HOA HOB hoa hob
  have j0 := F2.a.cell (o := 0) rfl
  have j1 := F2.a.cell (o := 1) rfl
  have j2 := F2.a.cell (o := 2) rfl
  have j3 := F2.b.cell (o := 0) rfl
  have j4 := F2.b.cell (o := 1) rfl
  have j5 := F2.b.cell (o := 2) rfl
  have j6 := R2.cell (o := 0) rfl
  have j7 := R2.cell (o := 1) rfl
  have j8 := R2.cell (o := 2) rfl
  go_wp2_with fail
  refine wp_region_held_drew (S := (fun W => W.cell? ⟨ab, 0, none⟩ = some (.int .i64 ak) ∧ W.cell? ⟨ab, 1, none⟩ = some (.int .i64 ao) ∧ W.cell? ⟨ab, 2, none⟩ = some (.bool am) ∧ W.cell? ⟨(ab + 1), 0, none⟩ = some (.int .i64 bk) ∧ W.cell? ⟨(ab + 1), 1, none⟩ = some (.int .i64 bo) ∧ W.cell? ⟨(ab + 1), 2, none⟩ = some (.bool bm) ∧ W.cell? ⟨hb, 0, none⟩ = some (.int .i64 hk) ∧ W.cell? ⟨hb, 1, none⟩ = some (.int .i64 ho) ∧ W.cell? ⟨hb, 2, none⟩ = some (.bool hm) ∧ FS w W ga gc gs ab (ab + 1) ⟨ak, ao, am⟩ ⟨bk, bo, bm⟩ ∧ Rec W hb 35 (fc ⟨hk, ho, hm⟩))) (by kernel_rfl) ?_ (fun hHeld => ?_)
  · (try dsimp only); (refine ⟨?_, ?_, ?_, ?_, ?_, ?_, ?_, ?_, ?_, ?_, ?_⟩ <;> first | assumption | exact FS.drew (by assumption) | exact Rec.drew (by assumption) | go_keep)
  first | (refine takeL (i := 0) (v := ?v0n1) rfl (by kernel_rfl) (by kernel_rfl) (by kernel_rfl) (fun _ _ _ h => h) (by kernel_rfl) (by assumption) ?y0n1 ?r0n1; case y0n1 => (intro w hSw; (try dsimp only at hSw); go_simp; try with_reducible rfl); (try simp only [Act.put, List.setIfInBounds_toArray, List.set_cons_zero, List.set_cons_succ])) | (refine skipL (i := 0) rfl (by kernel_rfl) (by kernel_rfl) (by kernel_rfl) (fun _ _ _ h => h) (by kernel_rfl) (by assumption) ?_; (try simp only [Act.put, List.setIfInBounds_toArray, List.set_cons_zero, List.set_cons_succ]))
  first | (refine takeL (i := 1) (v := ?v1n2) rfl (by kernel_rfl) (by kernel_rfl) (by kernel_rfl) (fun _ _ _ h => h) (by kernel_rfl) (by assumption) ?y1n2 ?r1n2; case y1n2 => (intro w hSw; (try dsimp only at hSw); go_simp; try with_reducible rfl); (try simp only [Act.put, List.setIfInBounds_toArray, List.set_cons_zero, List.set_cons_succ])) | (refine skipL (i := 1) rfl (by kernel_rfl) (by kernel_rfl) (by kernel_rfl) (fun _ _ _ h => h) (by kernel_rfl) (by assumption) ?_; (try simp only [Act.put, List.setIfInBounds_toArray, List.set_cons_zero, List.set_cons_succ]))
  first | (refine takeL (i := 2) (v := ?v2n3) rfl (by kernel_rfl) (by kernel_rfl) (by kernel_rfl) (fun _ _ _ h => h) (by kernel_rfl) (by assumption) ?y2n3 ?r2n3; case y2n3 => (intro w hSw; (try dsimp only at hSw); go_simp; try with_reducible rfl); (try simp only [Act.put, List.setIfInBounds_toArray, List.set_cons_zero, List.set_cons_succ])) | (refine skipL (i := 2) rfl (by kernel_rfl) (by kernel_rfl) (by kernel_rfl) (fun _ _ _ h => h) (by kernel_rfl) (by assumption) ?_; (try simp only [Act.put, List.setIfInBounds_toArray, List.set_cons_zero, List.set_cons_succ]))
  first | (refine takeL (i := 4) (v := ?v4n4) rfl (by kernel_rfl) (by kernel_rfl) (by kernel_rfl) (fun _ _ _ h => h) (by kernel_rfl) (by assumption) ?y4n4 ?r4n4; case y4n4 => (intro w hSw; (try dsimp only at hSw); go_simp; try with_reducible rfl); (try simp only [Act.put, List.setIfInBounds_toArray, List.set_cons_zero, List.set_cons_succ])) | (refine skipL (i := 4) rfl (by kernel_rfl) (by kernel_rfl) (by kernel_rfl) (fun _ _ _ h => h) (by kernel_rfl) (by assumption) ?_; (try simp only [Act.put, List.setIfInBounds_toArray, List.set_cons_zero, List.set_cons_succ]))
  first | (refine takeL (i := 5) (v := ?v5n5) rfl (by kernel_rfl) (by kernel_rfl) (by kernel_rfl) (fun _ _ _ h => h) (by kernel_rfl) (by assumption) ?y5n5 ?r5n5; case y5n5 => (intro w hSw; (try dsimp only at hSw); go_simp; try with_reducible rfl); (try simp only [Act.put, List.setIfInBounds_toArray, List.set_cons_zero, List.set_cons_succ])) | (refine skipL (i := 5) rfl (by kernel_rfl) (by kernel_rfl) (by kernel_rfl) (fun _ _ _ h => h) (by kernel_rfl) (by assumption) ?_; (try simp only [Act.put, List.setIfInBounds_toArray, List.set_cons_zero, List.set_cons_succ]))
  first | (refine takeL (i := 6) (v := ?v6n6) rfl (by kernel_rfl) (by kernel_rfl) (by kernel_rfl) (fun _ _ _ h => h) (by kernel_rfl) (by assumption) ?y6n6 ?r6n6; case y6n6 => (intro w hSw; (try dsimp only at hSw); go_simp; try with_reducible rfl); (try simp only [Act.put, List.setIfInBounds_toArray, List.set_cons_zero, List.set_cons_succ])) | (refine skipL (i := 6) rfl (by kernel_rfl) (by kernel_rfl) (by kernel_rfl) (fun _ _ _ h => h) (by kernel_rfl) (by assumption) ?_; (try simp only [Act.put, List.setIfInBounds_toArray, List.set_cons_zero, List.set_cons_succ]))
  refine doL (i := 3) rfl (by kernel_rfl) (fun K hK => ?_)
  go_simp
  (go_at_call 36; obtain ⟨hF9, hR9⟩ := hHeld.2.2.2.2.2.2.2.2.2; refine (hF9.g.implFieldUnder HX.out).mono ?_; rintro e w9 ⟨rfl, hb9⟩; have F9 := hF9.keep hb9; have R9 := hR9.below hb9 hR9.lt; have j0 := F9.a.cell (o := 0) rfl; have j1 := F9.a.cell (o := 1) rfl; have j2 := F9.a.cell (o := 2) rfl; have j3 := F9.b.cell (o := 0) rfl; have j4 := F9.b.cell (o := 1) rfl; have j5 := F9.b.cell (o := 2) rfl; have j6 := R9.cell (o := 0) rfl; have j7 := R9.cell (o := 1) rfl; have j8 := R9.cell (o := 2) rfl; clear hF9 hR9 hb9)
  (try go_wp2_with fail)
  refine hK.out _ _ ?_ (fun hHeld2 => ?_)
  · (try dsimp only); (refine ⟨?_, ?_, ?_, ?_, ?_, ?_, ?_, ?_, ?_, ?_, ?_⟩ <;> first | assumption | exact FS.drew (by assumption) | exact Rec.drew (by assumption) | go_keep)
  clear hK K hHeld
  have hHeld := hHeld2
  clear hHeld2
  try simp only [Act.put, List.setIfInBounds_toArray, List.set_cons_zero, List.set_cons_succ]
  refine doL (i := 7) rfl (by kernel_rfl) (fun K hK => ?_)
  go_simp
  (go_at_call 39; obtain ⟨hF9, hR9⟩ := hHeld.2.2.2.2.2.2.2.2.2; refine (hF9.g.specFieldUnder HX.out).mono ?_; rintro e w9 ⟨rfl, hb9⟩; have F9 := hF9.keep hb9; have R9 := hR9.below hb9 hR9.lt; have j0 := F9.a.cell (o := 0) rfl; have j1 := F9.a.cell (o := 1) rfl; have j2 := F9.a.cell (o := 2) rfl; have j3 := F9.b.cell (o := 0) rfl; have j4 := F9.b.cell (o := 1) rfl; have j5 := F9.b.cell (o := 2) rfl; have j6 := R9.cell (o := 0) rfl; have j7 := R9.cell (o := 1) rfl; have j8 := R9.cell (o := 2) rfl; clear hF9 hR9 hb9)
  (try go_wp2_with fail)
  refine hK.out _ _ ?_ (fun hHeld2 => ?_)
  · (try dsimp only); (refine ⟨?_, ?_, ?_, ?_, ?_, ?_, ?_, ?_, ?_, ?_, ?_⟩ <;> first | assumption | exact FS.drew (by assumption) | exact Rec.drew (by assumption) | go_keep)
  clear hK K hHeld
  have hHeld := hHeld2
  clear hHeld2
  try simp only [Act.put, List.setIfInBounds_toArray, List.set_cons_zero, List.set_cons_succ]
  first | (refine takeL (i := 8) (v := ?v8n7) rfl (by kernel_rfl) (by kernel_rfl) (by kernel_rfl) (fun _ _ _ h => h) (by kernel_rfl) (by assumption) ?y8n7 ?r8n7; case y8n7 => (intro w hSw; (try dsimp only at hSw); go_simp; try with_reducible rfl); (try simp only [Act.put, List.setIfInBounds_toArray, List.set_cons_zero, List.set_cons_succ])) | (refine skipL (i := 8) rfl (by kernel_rfl) (by kernel_rfl) (by kernel_rfl) (fun _ _ _ h => h) (by kernel_rfl) (by assumption) ?_; (try simp only [Act.put, List.setIfInBounds_toArray, List.set_cons_zero, List.set_cons_succ]))
  first | (refine takeL (i := 9) (v := ?v9n8) rfl (by kernel_rfl) (by kernel_rfl) (by kernel_rfl) (fun _ _ _ h => h) (by kernel_rfl) (by assumption) ?y9n8 ?r9n8; case y9n8 => (intro w hSw; (try dsimp only at hSw); go_simp; try with_reducible rfl); (try simp only [Act.put, List.setIfInBounds_toArray, List.set_cons_zero, List.set_cons_succ])) | (refine skipL (i := 9) rfl (by kernel_rfl) (by kernel_rfl) (by kernel_rfl) (fun _ _ _ h => h) (by kernel_rfl) (by assumption) ?_; (try simp only [Act.put, List.setIfInBounds_toArray, List.set_cons_zero, List.set_cons_succ]))
  first | (refine takeL (i := 10) (v := ?v10n9) rfl (by kernel_rfl) (by kernel_rfl) (by kernel_rfl) (fun _ _ _ h => h) (by kernel_rfl) (by assumption) ?y10n9 ?r10n9; case y10n9 => (intro w hSw; (try dsimp only at hSw); go_simp; try with_reducible rfl); (try simp only [Act.put, List.setIfInBounds_toArray, List.set_cons_zero, List.set_cons_succ])) | (refine skipL (i := 10) rfl (by kernel_rfl) (by kernel_rfl) (by kernel_rfl) (fun _ _ _ h => h) (by kernel_rfl) (by assumption) ?_; (try simp only [Act.put, List.setIfInBounds_toArray, List.set_cons_zero, List.set_cons_succ]))
  first | (refine takeL (i := 11) (v := ?v11n10) rfl (by kernel_rfl) (by kernel_rfl) (by kernel_rfl) (fun _ _ _ h => h) (by kernel_rfl) (by assumption) ?y11n10 ?r11n10; case y11n10 => (intro w hSw; (try dsimp only at hSw); go_simp; try with_reducible rfl); (try simp only [Act.put, List.setIfInBounds_toArray, List.set_cons_zero, List.set_cons_succ])) | (refine skipL (i := 11) rfl (by kernel_rfl) (by kernel_rfl) (by kernel_rfl) (fun _ _ _ h => h) (by kernel_rfl) (by assumption) ?_; (try simp only [Act.put, List.setIfInBounds_toArray, List.set_cons_zero, List.set_cons_succ]))
  first | (refine takeL (i := 13) (v := ?v13n11) rfl (by kernel_rfl) (by kernel_rfl) (by kernel_rfl) (fun _ _ _ h => h) (by kernel_rfl) (by assumption) ?y13n11 ?r13n11; case y13n11 => (intro w hSw; (try dsimp only at hSw); go_simp; try with_reducible rfl); (try simp only [Act.put, List.setIfInBounds_toArray, List.set_cons_zero, List.set_cons_succ])) | (refine skipL (i := 13) rfl (by kernel_rfl) (by kernel_rfl) (by kernel_rfl) (fun _ _ _ h => h) (by kernel_rfl) (by assumption) ?_; (try simp only [Act.put, List.setIfInBounds_toArray, List.set_cons_zero, List.set_cons_succ]))
  first | (refine takeL (i := 14) (v := ?v14n12) rfl (by kernel_rfl) (by kernel_rfl) (by kernel_rfl) (fun _ _ _ h => h) (by kernel_rfl) (by assumption) ?y14n12 ?r14n12; case y14n12 => (intro w hSw; (try dsimp only at hSw); go_simp; try with_reducible rfl); (try simp only [Act.put, List.setIfInBounds_toArray, List.set_cons_zero, List.set_cons_succ])) | (refine skipL (i := 14) rfl (by kernel_rfl) (by kernel_rfl) (by kernel_rfl) (fun _ _ _ h => h) (by kernel_rfl) (by assumption) ?_; (try simp only [Act.put, List.setIfInBounds_toArray, List.set_cons_zero, List.set_cons_succ]))
  refine doL (i := 12) rfl (by kernel_rfl) (fun K hK => ?_)
  go_simp
  (go_at_call 21; obtain ⟨hF9, hR9⟩ := hHeld.2.2.2.2.2.2.2.2.2; refine (implFieldOk_v _ _ _ _ HOH.out _).mono ?_; rintro e w9 ⟨rfl, hb9⟩; have F9 := hF9.keep hb9; have R9 := hR9.below hb9 hR9.lt; have j0 := F9.a.cell (o := 0) rfl; have j1 := F9.a.cell (o := 1) rfl; have j2 := F9.a.cell (o := 2) rfl; have j3 := F9.b.cell (o := 0) rfl; have j4 := F9.b.cell (o := 1) rfl; have j5 := F9.b.cell (o := 2) rfl; have j6 := R9.cell (o := 0) rfl; have j7 := R9.cell (o := 1) rfl; have j8 := R9.cell (o := 2) rfl; clear hF9 hR9 hb9)
  (try go_wp2_with fail)
  refine hK.out _ _ ?_ (fun hHeld2 => ?_)
  · (try dsimp only); (refine ⟨?_, ?_, ?_, ?_, ?_, ?_, ?_, ?_, ?_, ?_, ?_⟩ <;> first | assumption | exact FS.drew (by assumption) | exact Rec.drew (by assumption) | go_keep)
  clear hK K hHeld
  have hHeld := hHeld2
  clear hHeld2
  try simp only [Act.put, List.setIfInBounds_toArray, List.set_cons_zero, List.set_cons_succ]
  refine doL (i := 15) rfl (by kernel_rfl) (fun K hK => ?_)
  go_simp
  (go_at_call 40; obtain ⟨hF9, hR9⟩ := hHeld.2.2.2.2.2.2.2.2.2; refine (specFieldOk_v _ _ _ _ HOH.out _).mono ?_; rintro e w9 ⟨rfl, hb9⟩; have F9 := hF9.keep hb9; have R9 := hR9.below hb9 hR9.lt; have j0 := F9.a.cell (o := 0) rfl; have j1 := F9.a.cell (o := 1) rfl; have j2 := F9.a.cell (o := 2) rfl; have j3 := F9.b.cell (o := 0) rfl; have j4 := F9.b.cell (o := 1) rfl; have j5 := F9.b.cell (o := 2) rfl; have j6 := R9.cell (o := 0) rfl; have j7 := R9.cell (o := 1) rfl; have j8 := R9.cell (o := 2) rfl; clear hF9 hR9 hb9)
  (try go_wp2_with fail)
  refine hK.out _ _ ?_ (fun hHeld2 => ?_)
  · (try dsimp only); (refine ⟨?_, ?_, ?_, ?_, ?_, ?_, ?_, ?_, ?_, ?_, ?_⟩ <;> first | assumption | exact FS.drew (by assumption) | exact Rec.drew (by assumption) | go_keep)
  clear hK K hHeld
  have hHeld := hHeld2
  clear hHeld2
  try simp only [Act.put, List.setIfInBounds_toArray, List.set_cons_zero, List.set_cons_succ]
  first | (refine takeL (i := 16) (v := ?v16n13) rfl (by kernel_rfl) (by kernel_rfl) (by kernel_rfl) (fun _ _ _ h => h) (by kernel_rfl) (by assumption) ?y16n13 ?r16n13; case y16n13 => (intro w hSw; (try dsimp only at hSw); go_simp; try with_reducible rfl); (try simp only [Act.put, List.setIfInBounds_toArray, List.set_cons_zero, List.set_cons_succ])) | (refine skipL (i := 16) rfl (by kernel_rfl) (by kernel_rfl) (by kernel_rfl) (fun _ _ _ h => h) (by kernel_rfl) (by assumption) ?_; (try simp only [Act.put, List.setIfInBounds_toArray, List.set_cons_zero, List.set_cons_succ]))
  first | (refine takeL (i := 17) (v := ?v17n14) rfl (by kernel_rfl) (by kernel_rfl) (by kernel_rfl) (fun _ _ _ h => h) (by kernel_rfl) (by assumption) ?y17n14 ?r17n14; case y17n14 => (intro w hSw; (try dsimp only at hSw); go_simp; try with_reducible rfl); (try simp only [Act.put, List.setIfInBounds_toArray, List.set_cons_zero, List.set_cons_succ])) | (refine skipL (i := 17) rfl (by kernel_rfl) (by kernel_rfl) (by kernel_rfl) (fun _ _ _ h => h) (by kernel_rfl) (by assumption) ?_; (try simp only [Act.put, List.setIfInBounds_toArray, List.set_cons_zero, List.set_cons_succ]))
  first | (refine takeL (i := 18) (v := ?v18n15) rfl (by kernel_rfl) (by kernel_rfl) (by kernel_rfl) (fun _ _ _ h => h) (by kernel_rfl) (by assumption) ?y18n15 ?r18n15; case y18n15 => (intro w hSw; (try dsimp only at hSw); go_simp; try with_reducible rfl); (try simp only [Act.put, List.setIfInBounds_toArray, List.set_cons_zero, List.set_cons_succ])) | (refine skipL (i := 18) rfl (by kernel_rfl) (by kernel_rfl) (by kernel_rfl) (fun _ _ _ h => h) (by kernel_rfl) (by assumption) ?_; (try simp only [Act.put, List.setIfInBounds_toArray, List.set_cons_zero, List.set_cons_succ]))
  first | (refine takeL (i := 19) (v := ?v19n16) rfl (by kernel_rfl) (by kernel_rfl) (by kernel_rfl) (fun _ _ _ h => h) (by kernel_rfl) (by assumption) ?y19n16 ?r19n16; case y19n16 => (intro w hSw; (try dsimp only at hSw); go_simp; try with_reducible rfl); (try simp only [Act.put, List.setIfInBounds_toArray, List.set_cons_zero, List.set_cons_succ])) | (refine skipL (i := 19) rfl (by kernel_rfl) (by kernel_rfl) (by kernel_rfl) (fun _ _ _ h => h) (by kernel_rfl) (by assumption) ?_; (try simp only [Act.put, List.setIfInBounds_toArray, List.set_cons_zero, List.set_cons_succ]))
  first | (refine takeL (i := 20) (v := ?v20n17) rfl (by kernel_rfl) (by kernel_rfl) (by kernel_rfl) (fun _ _ _ h => h) (by kernel_rfl) (by assumption) ?y20n17 ?r20n17; case y20n17 => (intro w hSw; (try dsimp only at hSw); go_simp; try with_reducible rfl); (try simp only [Act.put, List.setIfInBounds_toArray, List.set_cons_zero, List.set_cons_succ])) | (refine skipL (i := 20) rfl (by kernel_rfl) (by kernel_rfl) (by kernel_rfl) (fun _ _ _ h => h) (by kernel_rfl) (by assumption) ?_; (try simp only [Act.put, List.setIfInBounds_toArray, List.set_cons_zero, List.set_cons_succ]))
  first | (refine takeL (i := 22) (v := ?v22n18) rfl (by kernel_rfl) (by kernel_rfl) (by kernel_rfl) (fun _ _ _ h => h) (by kernel_rfl) (by assumption) ?y22n18 ?r22n18; case y22n18 => (intro w hSw; (try dsimp only at hSw); go_simp; try with_reducible rfl); (try simp only [Act.put, List.setIfInBounds_toArray, List.set_cons_zero, List.set_cons_succ])) | (refine skipL (i := 22) rfl (by kernel_rfl) (by kernel_rfl) (by kernel_rfl) (fun _ _ _ h => h) (by kernel_rfl) (by assumption) ?_; (try simp only [Act.put, List.setIfInBounds_toArray, List.set_cons_zero, List.set_cons_succ]))
  first | (refine takeL (i := 23) (v := ?v23n19) rfl (by kernel_rfl) (by kernel_rfl) (by kernel_rfl) (fun _ _ _ h => h) (by kernel_rfl) (by assumption) ?y23n19 ?r23n19; case y23n19 => (intro w hSw; (try dsimp only at hSw); go_simp; try with_reducible rfl); (try simp only [Act.put, List.setIfInBounds_toArray, List.set_cons_zero, List.set_cons_succ])) | (refine skipL (i := 23) rfl (by kernel_rfl) (by kernel_rfl) (by kernel_rfl) (fun _ _ _ h => h) (by kernel_rfl) (by assumption) ?_; (try simp only [Act.put, List.setIfInBounds_toArray, List.set_cons_zero, List.set_cons_succ]))
  refine doL (i := 21) rfl (by kernel_rfl) (fun K hK => ?_)
  go_simp
  (go_at_call 21; obtain ⟨hF9, hR9⟩ := hHeld.2.2.2.2.2.2.2.2.2; refine (implFieldOk_v _ _ _ _ HOA.out _).mono ?_; rintro e w9 ⟨rfl, hb9⟩; have F9 := hF9.keep hb9; have R9 := hR9.below hb9 hR9.lt; have j0 := F9.a.cell (o := 0) rfl; have j1 := F9.a.cell (o := 1) rfl; have j2 := F9.a.cell (o := 2) rfl; have j3 := F9.b.cell (o := 0) rfl; have j4 := F9.b.cell (o := 1) rfl; have j5 := F9.b.cell (o := 2) rfl; have j6 := R9.cell (o := 0) rfl; have j7 := R9.cell (o := 1) rfl; have j8 := R9.cell (o := 2) rfl; clear hF9 hR9 hb9)
  (try go_wp2_with fail)
  refine hK.out _ _ ?_ (fun hHeld2 => ?_)
  · (try dsimp only); (refine ⟨?_, ?_, ?_, ?_, ?_, ?_, ?_, ?_, ?_, ?_, ?_⟩ <;> first | assumption | exact FS.drew (by assumption) | exact Rec.drew (by assumption) | go_keep)
  clear hK K hHeld
  have hHeld := hHeld2
  clear hHeld2
  try simp only [Act.put, List.setIfInBounds_toArray, List.set_cons_zero, List.set_cons_succ]
  refine doL (i := 24) rfl (by kernel_rfl) (fun K hK => ?_)
  go_simp
  (go_at_call 40; obtain ⟨hF9, hR9⟩ := hHeld.2.2.2.2.2.2.2.2.2; refine (specFieldOk_v _ _ _ _ HOA.out _).mono ?_; rintro e w9 ⟨rfl, hb9⟩; have F9 := hF9.keep hb9; have R9 := hR9.below hb9 hR9.lt; have j0 := F9.a.cell (o := 0) rfl; have j1 := F9.a.cell (o := 1) rfl; have j2 := F9.a.cell (o := 2) rfl; have j3 := F9.b.cell (o := 0) rfl; have j4 := F9.b.cell (o := 1) rfl; have j5 := F9.b.cell (o := 2) rfl; have j6 := R9.cell (o := 0) rfl; have j7 := R9.cell (o := 1) rfl; have j8 := R9.cell (o := 2) rfl; clear hF9 hR9 hb9)
  (try go_wp2_with fail)
  refine hK.out _ _ ?_ (fun hHeld2 => ?_)
  · (try dsimp only); (refine ⟨?_, ?_, ?_, ?_, ?_, ?_, ?_, ?_, ?_, ?_, ?_⟩ <;> first | assumption | exact FS.drew (by assumption) | exact Rec.drew (by assumption) | go_keep)
  clear hK K hHeld
  have hHeld := hHeld2
  clear hHeld2
  try simp only [Act.put, List.setIfInBounds_toArray, List.set_cons_zero, List.set_cons_succ]
  first | (refine takeL (i := 25) (v := ?v25n20) rfl (by kernel_rfl) (by kernel_rfl) (by kernel_rfl) (fun _ _ _ h => h) (by kernel_rfl) (by assumption) ?y25n20 ?r25n20; case y25n20 => (intro w hSw; (try dsimp only at hSw); go_simp; try with_reducible rfl); (try simp only [Act.put, List.setIfInBounds_toArray, List.set_cons_zero, List.set_cons_succ])) | (refine skipL (i := 25) rfl (by kernel_rfl) (by kernel_rfl) (by kernel_rfl) (fun _ _ _ h => h) (by kernel_rfl) (by assumption) ?_; (try simp only [Act.put, List.setIfInBounds_toArray, List.set_cons_zero, List.set_cons_succ]))
  first | (refine takeL (i := 26) (v := ?v26n21) rfl (by kernel_rfl) (by kernel_rfl) (by kernel_rfl) (fun _ _ _ h => h) (by kernel_rfl) (by assumption) ?y26n21 ?r26n21; case y26n21 => (intro w hSw; (try dsimp only at hSw); go_simp; try with_reducible rfl); (try simp only [Act.put, List.setIfInBounds_toArray, List.set_cons_zero, List.set_cons_succ])) | (refine skipL (i := 26) rfl (by kernel_rfl) (by kernel_rfl) (by kernel_rfl) (fun _ _ _ h => h) (by kernel_rfl) (by assumption) ?_; (try simp only [Act.put, List.setIfInBounds_toArray, List.set_cons_zero, List.set_cons_succ]))
  refine wpAnyH_done (by kernel_rfl) ?_ _
  clear F2 R2 hHeld R9 j6 j7 j8
  obtain ⟨kk, hkk⟩ : ∃ kk, kinOkF gs = kk := ⟨_, rfl⟩
  have HKK := hide hkk
  cases kk
  · obtain rfl : x = false := by rw [← hx]; unfold fieldUnderB; rw [hkk]; simp
    clear hx hoa hob hkk
    go_wp2_with fail
    refine (F9.g.specOk HKK.out).mono ?_
    rintro e w21 ⟨rfl, bb21, _⟩
    have F21 := F9.keep bb21
    clear bb21 F9
    have ja0 := F21.a.cell (o := 0) rfl
    have jb0 := F21.b.cell (o := 0) rfl
    have ja1 := F21.a.cell (o := 1) rfl
    have jb1 := F21.b.cell (o := 1) rfl
    have ja2 := F21.a.cell (o := 2) rfl
    have jb2 := F21.b.cell (o := 2) rfl
    go_wp2_with fail
    refine (F21.g.implFieldUnder (f := ⟨ak, ao, am⟩) (g := ⟨bk, bo, bm⟩) HX.out).mono ?_
    rintro e w22 ⟨rfl, bb22⟩
    have F22 := F21.keep bb22
    clear bb22 F21
    have ja0 := F22.a.cell (o := 0) rfl
    have jb0 := F22.b.cell (o := 0) rfl
    have ja1 := F22.a.cell (o := 1) rfl
    have jb1 := F22.b.cell (o := 1) rfl
    have ja2 := F22.a.cell (o := 2) rfl
    have jb2 := F22.b.cell (o := 2) rfl
    go_wp2_with fail
    go_ret
    exact ⟨rfl, F22.g.bel⟩
  cases oa
  · obtain rfl : x = false := by rw [← hx]; unfold fieldUnderB; rw [hoa]; simp
    clear hx hoa hob hkk
    go_wp2_with fail
    refine (F9.g.specOk HKK.out).mono ?_
    rintro e w21 ⟨rfl, bb21, _⟩
    have F21 := F9.keep bb21
    clear bb21 F9
    have ja0 := F21.a.cell (o := 0) rfl
    have jb0 := F21.b.cell (o := 0) rfl
    have ja1 := F21.a.cell (o := 1) rfl
    have jb1 := F21.b.cell (o := 1) rfl
    have ja2 := F21.a.cell (o := 2) rfl
    have jb2 := F21.b.cell (o := 2) rfl
    go_wp2_with fail
    refine (specFieldOk_v _ _ _ _ HOA.out _).mono ?_
    rintro e w22 ⟨rfl, bb22⟩
    have F22 := F21.keep bb22
    clear bb22 F21
    have ja0 := F22.a.cell (o := 0) rfl
    have jb0 := F22.b.cell (o := 0) rfl
    have ja1 := F22.a.cell (o := 1) rfl
    have jb1 := F22.b.cell (o := 1) rfl
    have ja2 := F22.a.cell (o := 2) rfl
    have jb2 := F22.b.cell (o := 2) rfl
    go_wp2_with fail
    refine (F22.g.implFieldUnder (f := ⟨ak, ao, am⟩) (g := ⟨bk, bo, bm⟩) HX.out).mono ?_
    rintro e w23 ⟨rfl, bb23⟩
    have F23 := F22.keep bb23
    clear bb23 F22
    have ja0 := F23.a.cell (o := 0) rfl
    have jb0 := F23.b.cell (o := 0) rfl
    have ja1 := F23.a.cell (o := 1) rfl
    have jb1 := F23.b.cell (o := 1) rfl
    have ja2 := F23.a.cell (o := 2) rfl
    have jb2 := F23.b.cell (o := 2) rfl
    go_wp2_with fail
    go_ret
    exact ⟨rfl, F23.g.bel⟩
  cases ob
  · obtain rfl : x = false := by rw [← hx]; unfold fieldUnderB; dsimp only; rw [hob]; simp
    clear hx hoa hob hkk
    go_wp2_with fail
    refine (F9.g.specOk HKK.out).mono ?_
    rintro e w21 ⟨rfl, bb21, _⟩
    have F21 := F9.keep bb21
    clear bb21 F9
    have ja0 := F21.a.cell (o := 0) rfl
    have jb0 := F21.b.cell (o := 0) rfl
    have ja1 := F21.a.cell (o := 1) rfl
    have jb1 := F21.b.cell (o := 1) rfl
    have ja2 := F21.a.cell (o := 2) rfl
    have jb2 := F21.b.cell (o := 2) rfl
    go_wp2_with fail
    refine (specFieldOk_v _ _ _ _ HOA.out _).mono ?_
    rintro e w22 ⟨rfl, bb22⟩
    have F22 := F21.keep bb22
    clear bb22 F21
    have ja0 := F22.a.cell (o := 0) rfl
    have jb0 := F22.b.cell (o := 0) rfl
    have ja1 := F22.a.cell (o := 1) rfl
    have jb1 := F22.b.cell (o := 1) rfl
    have ja2 := F22.a.cell (o := 2) rfl
    have jb2 := F22.b.cell (o := 2) rfl
    go_wp2_with fail
    refine (specFieldOk_v _ _ _ _ HOB.out _).mono ?_
    rintro e w23 ⟨rfl, bb23⟩
    have F23 := F22.keep bb23
    clear bb23 F22
    have ja0 := F23.a.cell (o := 0) rfl
    have jb0 := F23.b.cell (o := 0) rfl
    have ja1 := F23.a.cell (o := 1) rfl
    have jb1 := F23.b.cell (o := 1) rfl
    have ja2 := F23.a.cell (o := 2) rfl
    have jb2 := F23.b.cell (o := 2) rfl
    go_wp2_with fail
    refine (F23.g.implFieldUnder (f := ⟨ak, ao, am⟩) (g := ⟨bk, bo, bm⟩) HX.out).mono ?_
    rintro e w24 ⟨rfl, bb24⟩
    have F24 := F23.keep bb24
    clear bb24 F23
    have ja0 := F24.a.cell (o := 0) rfl
    have jb0 := F24.b.cell (o := 0) rfl
    have ja1 := F24.a.cell (o := 1) rfl
    have jb1 := F24.b.cell (o := 1) rfl
    have ja2 := F24.a.cell (o := 2) rfl
    have jb2 := F24.b.cell (o := 2) rfl
    go_wp2_with fail
    go_ret
    exact ⟨rfl, F24.g.bel⟩
  have hP := kinOk_parts hkk
  have hcx : ∀ (f g : Fd), fieldOk f.kind f.of (kinCount gs : Nat) = true → fieldOk g.kind g.of (kinCount gs : Nat) = true → fieldUnderB gs f g = sortF gs f g := fun f g h1 h2 => fieldUnderB_of hkk h1 h2
  have hxs : sortF gs ⟨ak, ao, am⟩ ⟨bk, bo, bm⟩ = x := (hcx _ _ hoa hob).symm.trans hx
  have HAA : Hid (fieldUnderB gs ⟨ak, ao, am⟩ ⟨ak, ao, am⟩ = true) := (hcx _ _ hoa hoa).trans (sortF_refl (fieldOk_kind hoa))
  have HAD : Hid (fieldUnderB gs ⟨ak, ao, am⟩ ⟨ak, ao, !am⟩ = true) := (hcx _ _ hoa hoa).trans ((sort_mt gs ak ao ak ao am (!am) am am).trans (sortF_refl (f := ⟨ak, ao, am⟩) (fieldOk_kind hoa)))
  have HDB : Hid (fieldUnderB gs ⟨ak, ao, !am⟩ ⟨bk, bo, bm⟩ = x) := (hcx _ _ hoa hob).trans ((sort_mt gs ak ao bk bo (!am) bm am bm).trans hxs)
  have HC : Hid (ak = 2 → fieldUnderB gs ⟨3, ao, false⟩ ⟨ak, ao, am⟩ = true ∧ fieldUnderB gs ⟨ak, ao, am⟩ ⟨3, ao, false⟩ = false) := by
    intro e
    subst e
    have h3 : fieldOk 3 ao (kinCount gs : Nat) = true := hoa
    refine ⟨(hcx _ _ h3 hoa).trans ?_, (hcx _ _ hoa h3).trans ?_⟩
    · unfold sortF; rw [if_neg (by simp)]; simp [under_refl]
    · unfold sortF; rw [if_neg (by simp)]; simp
  have HI : Hid (∀ i : Int, -2 ≤ i → i < (kinCount gs : Int) → ((fieldUnderB gs ⟨ak, ao, am⟩ ⟨2, i, false⟩ = true → fieldUnderB gs ⟨2, i, false⟩ ⟨bk, bo, bm⟩ = true → x = true) ∧ (fieldUnderB gs ⟨ak, ao, am⟩ ⟨3, i, false⟩ = true → fieldUnderB gs ⟨3, i, false⟩ ⟨bk, bo, bm⟩ = true → x = true))) := by
    intro i i0 i1
    have ok2 : ∀ k : Int, k = 2 ∨ k = 3 → fieldOk k i (kinCount gs : Nat) = true := fun k hk' => by unfold fieldOk; rw [if_neg (by omega), if_pos hk']; simp; omega
    have key : ∀ k : Int, k = 2 ∨ k = 3 → fieldUnderB gs ⟨ak, ao, am⟩ ⟨k, i, false⟩ = true → fieldUnderB gs ⟨k, i, false⟩ ⟨bk, bo, bm⟩ = true → x = true := fun k hk' h1 h2 => by
      rw [hcx _ _ hoa (ok2 k hk')] at h1
      rw [hcx _ _ (ok2 k hk') hob] at h2
      rw [← hxs]
      exact sortF_trans hP (fieldOk_of (by omega) hoa) (fieldOk_of (by omega) (ok2 k hk')) (fieldOk_of (by omega) hob) h1 h2
    exact ⟨key 2 (.inl rfl), key 3 (.inr rfl)⟩
  clear hx hoa hob hkk hP hcx hxs
  go_wp2_with fail
  refine (F9.g.specOk HKK.out).mono ?_
  rintro e w21 ⟨rfl, bb21, _⟩
  have F21 := F9.keep bb21
  clear bb21 F9
  have ja0 := F21.a.cell (o := 0) rfl
  have jb0 := F21.b.cell (o := 0) rfl
  have ja1 := F21.a.cell (o := 1) rfl
  have jb1 := F21.b.cell (o := 1) rfl
  have ja2 := F21.a.cell (o := 2) rfl
  have jb2 := F21.b.cell (o := 2) rfl
  go_wp2_with fail
  refine (specFieldOk_v _ _ _ _ HOA.out _).mono ?_
  rintro e w22 ⟨rfl, bb22⟩
  have F22 := F21.keep bb22
  clear bb22 F21
  have ja0 := F22.a.cell (o := 0) rfl
  have jb0 := F22.b.cell (o := 0) rfl
  have ja1 := F22.a.cell (o := 1) rfl
  have jb1 := F22.b.cell (o := 1) rfl
  have ja2 := F22.a.cell (o := 2) rfl
  have jb2 := F22.b.cell (o := 2) rfl
  go_wp2_with fail
  refine (specFieldOk_v _ _ _ _ HOB.out _).mono ?_
  rintro e w23 ⟨rfl, bb23⟩
  have F23 := F22.keep bb23
  clear bb23 F22
  have ja0 := F23.a.cell (o := 0) rfl
  have jb0 := F23.b.cell (o := 0) rfl
  have ja1 := F23.a.cell (o := 1) rfl
  have jb1 := F23.b.cell (o := 1) rfl
  have ja2 := F23.a.cell (o := 2) rfl
  have jb2 := F23.b.cell (o := 2) rfl
  have FC := F23.alloc (.cells #[.int .i64 3, .int .i64 ao, .bool false] 35)
  have RC := Rec.new w23 35 [.int .i64 3, .int .i64 ao, .bool false]
  go_upto_region 11 with (fail)
  go_cut [102] from 87 to 101 (fun v2 wx => v2 = .bool false ∧ Hid (FS w wx ga gc gs ab (ab + 1) ⟨ak, ao, am⟩ ⟨bk, bo, bm⟩))
  case first =>
    clear F23
    generalize w23.alloc (.cells #[.int .i64 3, .int .i64 ao, .bool false] 35) = WC at *
    generalize w23.heap.size = cb at *
    have ja0 := FC.a.cell (o := 0) rfl
    have jb0 := FC.b.cell (o := 0) rfl
    have ja1 := FC.a.cell (o := 1) rfl
    have jb1 := FC.b.cell (o := 1) rfl
    have ja2 := FC.a.cell (o := 2) rfl
    have jb2 := FC.b.cell (o := 2) rfl
    have jRC0 := RC.cell (o := 0) rfl
    have jRC1 := RC.cell (o := 1) rfl
    have jRC2 := RC.cell (o := 2) rfl
    by_cases e : ak = 2
    · obtain ⟨f1, f2⟩ := HC.out e
      subst e
      have HF1 := hide f1
      have HF2 := hide f2
      clear f1 f2
      go_wp2_with fail
      refine (FC.g.implFieldUnder (f := ⟨3, ao, false⟩) (g := ⟨2, ao, am⟩) HF1.out).mono ?_
      rintro e w21 ⟨rfl, bb21⟩
      have F21 := FC.keep bb21
      replace RC := RC.below bb21 RC.lt
      clear bb21 FC
      have ja0 := F21.a.cell (o := 0) rfl
      have jb0 := F21.b.cell (o := 0) rfl
      have ja1 := F21.a.cell (o := 1) rfl
      have jb1 := F21.b.cell (o := 1) rfl
      have ja2 := F21.a.cell (o := 2) rfl
      have jb2 := F21.b.cell (o := 2) rfl
      have jRC0 := RC.cell (o := 0) rfl
      have jRC1 := RC.cell (o := 1) rfl
      have jRC2 := RC.cell (o := 2) rfl
      go_wp2_with fail
      refine (F21.g.implFieldUnder (f := ⟨2, ao, am⟩) (g := ⟨3, ao, false⟩) HF2.out).mono ?_
      rintro e w22 ⟨rfl, bb22⟩
      have F22 := F21.keep bb22
      replace RC := RC.below bb22 RC.lt
      clear bb22 F21
      have ja0 := F22.a.cell (o := 0) rfl
      have jb0 := F22.b.cell (o := 0) rfl
      have ja1 := F22.a.cell (o := 1) rfl
      have jb1 := F22.b.cell (o := 1) rfl
      have ja2 := F22.a.cell (o := 2) rfl
      have jb2 := F22.b.cell (o := 2) rfl
      have jRC0 := RC.cell (o := 0) rfl
      have jRC1 := RC.cell (o := 1) rfl
      have jRC2 := RC.cell (o := 2) rfl
      go_wp2_with fail
      go_meet
      exact ⟨rfl, F22⟩
    · have e2 : (ak == 2) = false := by simpa using e
      go_wp2_with fail
      go_meet
      exact ⟨rfl, FC⟩
  case rest =>
    obtain ⟨rfl, FL⟩ := hcut
    clear F23 FC RC HC HOH HOA HOB HKK
    go_wp2_with fail
    go_loopw [12] (fun iv wr => ∃ i : Int, -2 ≤ i ∧ i ≤ (kinCount gs : Int) ∧ iv = .int .i64 i ∧ Hid (FS w wr ga gc gs ab (ab + 1) ⟨ak, ao, am⟩ ⟨bk, bo, bm⟩)) (fun iv wr => ((kinCount gs : Int) - intOf iv).toNat)
    case atStart => exact ⟨-2, by omega, by omega, rfl, FL⟩
    case round =>
      clear FL
      obtain ⟨i, hi0, hi, rfl, FR⟩ := hrel
      by_cases hlt : i < (kinCount gs : Int)
      · obtain ⟨t1, t2⟩ := HI.out i hi0 hlt
        obtain ⟨p, hp⟩ : ∃ p, fieldUnderB gs ⟨ak, ao, am⟩ ⟨2, i, false⟩ = p := ⟨_, rfl⟩
        obtain ⟨q, hq⟩ : ∃ q, fieldUnderB gs ⟨2, i, false⟩ ⟨bk, bo, bm⟩ = q := ⟨_, rfl⟩
        obtain ⟨r, hr⟩ : ∃ r, fieldUnderB gs ⟨ak, ao, am⟩ ⟨3, i, false⟩ = r := ⟨_, rfl⟩
        obtain ⟨t, ht'⟩ : ∃ t, fieldUnderB gs ⟨3, i, false⟩ ⟨bk, bo, bm⟩ = t := ⟨_, rfl⟩
        rw [hp, hq] at t1
        rw [hr, ht'] at t2
        have HP := hide hp
        have HQ := hide hq
        have HR := hide hr
        have HT := hide ht'
        clear hp hq hr ht'
        have bM : Below wr.heap.size wr ((wr.alloc (.cells #[.int .i64 2, .int .i64 i, .bool false] 35)).alloc (.cells #[.int .i64 3, .int .i64 i, .bool false] 35)) := ((Below.refl _ _).alloc (Nat.le_refl _) _).alloc (by simp) _
        have FM := FR.out.keep bM
        have RM : Rec ((wr.alloc (.cells #[.int .i64 2, .int .i64 i, .bool false] 35)).alloc (.cells #[.int .i64 3, .int .i64 i, .bool false] 35)) wr.heap.size 35 [.int .i64 2, .int .i64 i, .bool false] := (Rec.new _ _ _).alloc _
        have RS : Rec ((wr.alloc (.cells #[.int .i64 2, .int .i64 i, .bool false] 35)).alloc (.cells #[.int .i64 3, .int .i64 i, .bool false] 35)) (wr.heap.size + 1) 35 [.int .i64 3, .int .i64 i, .bool false] := Rec.new' _ _ _ _ (by simp)
        clear bM FR
        go_upto_region 18 with (fail)
        generalize (wr.alloc (.cells #[.int .i64 2, .int .i64 i, .bool false] 35)).alloc (.cells #[.int .i64 3, .int .i64 i, .bool false] 35) = WM at *
        generalize wr.heap.size = mb at *
        cases p
        · clear t1
          cases r
          · skip
            have ja0 := FM.a.cell (o := 0) rfl
            have jb0 := FM.b.cell (o := 0) rfl
            have ja1 := FM.a.cell (o := 1) rfl
            have jb1 := FM.b.cell (o := 1) rfl
            have ja2 := FM.a.cell (o := 2) rfl
            have jb2 := FM.b.cell (o := 2) rfl
            have jRM0 := RM.cell (o := 0) rfl
            have jRM1 := RM.cell (o := 1) rfl
            have jRM2 := RM.cell (o := 2) rfl
            have jRS0 := RS.cell (o := 0) rfl
            have jRS1 := RS.cell (o := 1) rfl
            have jRS2 := RS.cell (o := 2) rfl
            go_wp2_with fail
            refine (FM.g.implFieldUnder (f := ⟨ak, ao, am⟩) (g := ⟨2, i, false⟩) HP.out).mono ?_
            rintro e w21 ⟨rfl, bb21⟩
            have F21 := FM.keep bb21
            replace RM := RM.below bb21 RM.lt
            replace RS := RS.below bb21 RS.lt
            clear bb21 FM
            have ja0 := F21.a.cell (o := 0) rfl
            have jb0 := F21.b.cell (o := 0) rfl
            have ja1 := F21.a.cell (o := 1) rfl
            have jb1 := F21.b.cell (o := 1) rfl
            have ja2 := F21.a.cell (o := 2) rfl
            have jb2 := F21.b.cell (o := 2) rfl
            have jRM0 := RM.cell (o := 0) rfl
            have jRM1 := RM.cell (o := 1) rfl
            have jRM2 := RM.cell (o := 2) rfl
            have jRS0 := RS.cell (o := 0) rfl
            have jRS1 := RS.cell (o := 1) rfl
            have jRS2 := RS.cell (o := 2) rfl
            go_wp2_with fail
            refine (F21.g.implFieldUnder (f := ⟨ak, ao, am⟩) (g := ⟨3, i, false⟩) HR.out).mono ?_
            rintro e w22 ⟨rfl, bb22⟩
            have F22 := F21.keep bb22
            replace RM := RM.below bb22 RM.lt
            replace RS := RS.below bb22 RS.lt
            clear bb22 F21
            have ja0 := F22.a.cell (o := 0) rfl
            have jb0 := F22.b.cell (o := 0) rfl
            have ja1 := F22.a.cell (o := 1) rfl
            have jb1 := F22.b.cell (o := 1) rfl
            have ja2 := F22.a.cell (o := 2) rfl
            have jb2 := F22.b.cell (o := 2) rfl
            have jRM0 := RM.cell (o := 0) rfl
            have jRM1 := RM.cell (o := 1) rfl
            have jRM2 := RM.cell (o := 2) rfl
            have jRS0 := RS.cell (o := 0) rfl
            have jRS1 := RS.cell (o := 1) rfl
            have jRS2 := RS.cell (o := 2) rfl
            go_wp2_with fail
            go_roundw
            case rel => exact ⟨i + 1, by omega, by omega, rfl, F22⟩
            case measure => simp [intOf]; omega
          · cases t
            · skip
              have ja0 := FM.a.cell (o := 0) rfl
              have jb0 := FM.b.cell (o := 0) rfl
              have ja1 := FM.a.cell (o := 1) rfl
              have jb1 := FM.b.cell (o := 1) rfl
              have ja2 := FM.a.cell (o := 2) rfl
              have jb2 := FM.b.cell (o := 2) rfl
              have jRM0 := RM.cell (o := 0) rfl
              have jRM1 := RM.cell (o := 1) rfl
              have jRM2 := RM.cell (o := 2) rfl
              have jRS0 := RS.cell (o := 0) rfl
              have jRS1 := RS.cell (o := 1) rfl
              have jRS2 := RS.cell (o := 2) rfl
              go_wp2_with fail
              refine (FM.g.implFieldUnder (f := ⟨ak, ao, am⟩) (g := ⟨2, i, false⟩) HP.out).mono ?_
              rintro e w21 ⟨rfl, bb21⟩
              have F21 := FM.keep bb21
              replace RM := RM.below bb21 RM.lt
              replace RS := RS.below bb21 RS.lt
              clear bb21 FM
              have ja0 := F21.a.cell (o := 0) rfl
              have jb0 := F21.b.cell (o := 0) rfl
              have ja1 := F21.a.cell (o := 1) rfl
              have jb1 := F21.b.cell (o := 1) rfl
              have ja2 := F21.a.cell (o := 2) rfl
              have jb2 := F21.b.cell (o := 2) rfl
              have jRM0 := RM.cell (o := 0) rfl
              have jRM1 := RM.cell (o := 1) rfl
              have jRM2 := RM.cell (o := 2) rfl
              have jRS0 := RS.cell (o := 0) rfl
              have jRS1 := RS.cell (o := 1) rfl
              have jRS2 := RS.cell (o := 2) rfl
              go_wp2_with fail
              refine (F21.g.implFieldUnder (f := ⟨ak, ao, am⟩) (g := ⟨3, i, false⟩) HR.out).mono ?_
              rintro e w22 ⟨rfl, bb22⟩
              have F22 := F21.keep bb22
              replace RM := RM.below bb22 RM.lt
              replace RS := RS.below bb22 RS.lt
              clear bb22 F21
              have ja0 := F22.a.cell (o := 0) rfl
              have jb0 := F22.b.cell (o := 0) rfl
              have ja1 := F22.a.cell (o := 1) rfl
              have jb1 := F22.b.cell (o := 1) rfl
              have ja2 := F22.a.cell (o := 2) rfl
              have jb2 := F22.b.cell (o := 2) rfl
              have jRM0 := RM.cell (o := 0) rfl
              have jRM1 := RM.cell (o := 1) rfl
              have jRM2 := RM.cell (o := 2) rfl
              have jRS0 := RS.cell (o := 0) rfl
              have jRS1 := RS.cell (o := 1) rfl
              have jRS2 := RS.cell (o := 2) rfl
              go_wp2_with fail
              refine (F22.g.implFieldUnder (f := ⟨3, i, false⟩) (g := ⟨bk, bo, bm⟩) HT.out).mono ?_
              rintro e w23 ⟨rfl, bb23⟩
              have F23 := F22.keep bb23
              replace RM := RM.below bb23 RM.lt
              replace RS := RS.below bb23 RS.lt
              clear bb23 F22
              have ja0 := F23.a.cell (o := 0) rfl
              have jb0 := F23.b.cell (o := 0) rfl
              have ja1 := F23.a.cell (o := 1) rfl
              have jb1 := F23.b.cell (o := 1) rfl
              have ja2 := F23.a.cell (o := 2) rfl
              have jb2 := F23.b.cell (o := 2) rfl
              have jRM0 := RM.cell (o := 0) rfl
              have jRM1 := RM.cell (o := 1) rfl
              have jRM2 := RM.cell (o := 2) rfl
              have jRS0 := RS.cell (o := 0) rfl
              have jRS1 := RS.cell (o := 1) rfl
              have jRS2 := RS.cell (o := 2) rfl
              go_wp2_with fail
              go_roundw
              case rel => exact ⟨i + 1, by omega, by omega, rfl, F23⟩
              case measure => simp [intOf]; omega
            · obtain rfl := t2 rfl rfl
              have ja0 := FM.a.cell (o := 0) rfl
              have jb0 := FM.b.cell (o := 0) rfl
              have ja1 := FM.a.cell (o := 1) rfl
              have jb1 := FM.b.cell (o := 1) rfl
              have ja2 := FM.a.cell (o := 2) rfl
              have jb2 := FM.b.cell (o := 2) rfl
              have jRM0 := RM.cell (o := 0) rfl
              have jRM1 := RM.cell (o := 1) rfl
              have jRM2 := RM.cell (o := 2) rfl
              have jRS0 := RS.cell (o := 0) rfl
              have jRS1 := RS.cell (o := 1) rfl
              have jRS2 := RS.cell (o := 2) rfl
              go_wp2_with fail
              refine (FM.g.implFieldUnder (f := ⟨ak, ao, am⟩) (g := ⟨2, i, false⟩) HP.out).mono ?_
              rintro e w21 ⟨rfl, bb21⟩
              have F21 := FM.keep bb21
              replace RM := RM.below bb21 RM.lt
              replace RS := RS.below bb21 RS.lt
              clear bb21 FM
              have ja0 := F21.a.cell (o := 0) rfl
              have jb0 := F21.b.cell (o := 0) rfl
              have ja1 := F21.a.cell (o := 1) rfl
              have jb1 := F21.b.cell (o := 1) rfl
              have ja2 := F21.a.cell (o := 2) rfl
              have jb2 := F21.b.cell (o := 2) rfl
              have jRM0 := RM.cell (o := 0) rfl
              have jRM1 := RM.cell (o := 1) rfl
              have jRM2 := RM.cell (o := 2) rfl
              have jRS0 := RS.cell (o := 0) rfl
              have jRS1 := RS.cell (o := 1) rfl
              have jRS2 := RS.cell (o := 2) rfl
              go_wp2_with fail
              refine (F21.g.implFieldUnder (f := ⟨ak, ao, am⟩) (g := ⟨3, i, false⟩) HR.out).mono ?_
              rintro e w22 ⟨rfl, bb22⟩
              have F22 := F21.keep bb22
              replace RM := RM.below bb22 RM.lt
              replace RS := RS.below bb22 RS.lt
              clear bb22 F21
              have ja0 := F22.a.cell (o := 0) rfl
              have jb0 := F22.b.cell (o := 0) rfl
              have ja1 := F22.a.cell (o := 1) rfl
              have jb1 := F22.b.cell (o := 1) rfl
              have ja2 := F22.a.cell (o := 2) rfl
              have jb2 := F22.b.cell (o := 2) rfl
              have jRM0 := RM.cell (o := 0) rfl
              have jRM1 := RM.cell (o := 1) rfl
              have jRM2 := RM.cell (o := 2) rfl
              have jRS0 := RS.cell (o := 0) rfl
              have jRS1 := RS.cell (o := 1) rfl
              have jRS2 := RS.cell (o := 2) rfl
              go_wp2_with fail
              refine (F22.g.implFieldUnder (f := ⟨3, i, false⟩) (g := ⟨bk, bo, bm⟩) HT.out).mono ?_
              rintro e w23 ⟨rfl, bb23⟩
              have F23 := F22.keep bb23
              replace RM := RM.below bb23 RM.lt
              replace RS := RS.below bb23 RS.lt
              clear bb23 F22
              have ja0 := F23.a.cell (o := 0) rfl
              have jb0 := F23.b.cell (o := 0) rfl
              have ja1 := F23.a.cell (o := 1) rfl
              have jb1 := F23.b.cell (o := 1) rfl
              have ja2 := F23.a.cell (o := 2) rfl
              have jb2 := F23.b.cell (o := 2) rfl
              have jRM0 := RM.cell (o := 0) rfl
              have jRM1 := RM.cell (o := 1) rfl
              have jRM2 := RM.cell (o := 2) rfl
              have jRS0 := RS.cell (o := 0) rfl
              have jRS1 := RS.cell (o := 1) rfl
              have jRS2 := RS.cell (o := 2) rfl
              go_wp2_with fail
              refine (F23.g.implFieldUnder (f := ⟨ak, ao, am⟩) (g := ⟨bk, bo, bm⟩) HX.out).mono ?_
              rintro e w24 ⟨rfl, bb24⟩
              have F24 := F23.keep bb24
              replace RM := RM.below bb24 RM.lt
              replace RS := RS.below bb24 RS.lt
              clear bb24 F23
              have ja0 := F24.a.cell (o := 0) rfl
              have jb0 := F24.b.cell (o := 0) rfl
              have ja1 := F24.a.cell (o := 1) rfl
              have jb1 := F24.b.cell (o := 1) rfl
              have ja2 := F24.a.cell (o := 2) rfl
              have jb2 := F24.b.cell (o := 2) rfl
              have jRM0 := RM.cell (o := 0) rfl
              have jRM1 := RM.cell (o := 1) rfl
              have jRM2 := RM.cell (o := 2) rfl
              have jRS0 := RS.cell (o := 0) rfl
              have jRS1 := RS.cell (o := 1) rfl
              have jRS2 := RS.cell (o := 2) rfl
              go_wp2_with fail
              go_roundw
              case rel => exact ⟨i + 1, by omega, by omega, rfl, F24⟩
              case measure => simp [intOf]; omega
        · cases q
          · clear t1
            cases r
            · skip
              have ja0 := FM.a.cell (o := 0) rfl
              have jb0 := FM.b.cell (o := 0) rfl
              have ja1 := FM.a.cell (o := 1) rfl
              have jb1 := FM.b.cell (o := 1) rfl
              have ja2 := FM.a.cell (o := 2) rfl
              have jb2 := FM.b.cell (o := 2) rfl
              have jRM0 := RM.cell (o := 0) rfl
              have jRM1 := RM.cell (o := 1) rfl
              have jRM2 := RM.cell (o := 2) rfl
              have jRS0 := RS.cell (o := 0) rfl
              have jRS1 := RS.cell (o := 1) rfl
              have jRS2 := RS.cell (o := 2) rfl
              go_wp2_with fail
              refine (FM.g.implFieldUnder (f := ⟨ak, ao, am⟩) (g := ⟨2, i, false⟩) HP.out).mono ?_
              rintro e w21 ⟨rfl, bb21⟩
              have F21 := FM.keep bb21
              replace RM := RM.below bb21 RM.lt
              replace RS := RS.below bb21 RS.lt
              clear bb21 FM
              have ja0 := F21.a.cell (o := 0) rfl
              have jb0 := F21.b.cell (o := 0) rfl
              have ja1 := F21.a.cell (o := 1) rfl
              have jb1 := F21.b.cell (o := 1) rfl
              have ja2 := F21.a.cell (o := 2) rfl
              have jb2 := F21.b.cell (o := 2) rfl
              have jRM0 := RM.cell (o := 0) rfl
              have jRM1 := RM.cell (o := 1) rfl
              have jRM2 := RM.cell (o := 2) rfl
              have jRS0 := RS.cell (o := 0) rfl
              have jRS1 := RS.cell (o := 1) rfl
              have jRS2 := RS.cell (o := 2) rfl
              go_wp2_with fail
              refine (F21.g.implFieldUnder (f := ⟨2, i, false⟩) (g := ⟨bk, bo, bm⟩) HQ.out).mono ?_
              rintro e w22 ⟨rfl, bb22⟩
              have F22 := F21.keep bb22
              replace RM := RM.below bb22 RM.lt
              replace RS := RS.below bb22 RS.lt
              clear bb22 F21
              have ja0 := F22.a.cell (o := 0) rfl
              have jb0 := F22.b.cell (o := 0) rfl
              have ja1 := F22.a.cell (o := 1) rfl
              have jb1 := F22.b.cell (o := 1) rfl
              have ja2 := F22.a.cell (o := 2) rfl
              have jb2 := F22.b.cell (o := 2) rfl
              have jRM0 := RM.cell (o := 0) rfl
              have jRM1 := RM.cell (o := 1) rfl
              have jRM2 := RM.cell (o := 2) rfl
              have jRS0 := RS.cell (o := 0) rfl
              have jRS1 := RS.cell (o := 1) rfl
              have jRS2 := RS.cell (o := 2) rfl
              go_wp2_with fail
              refine (F22.g.implFieldUnder (f := ⟨ak, ao, am⟩) (g := ⟨3, i, false⟩) HR.out).mono ?_
              rintro e w23 ⟨rfl, bb23⟩
              have F23 := F22.keep bb23
              replace RM := RM.below bb23 RM.lt
              replace RS := RS.below bb23 RS.lt
              clear bb23 F22
              have ja0 := F23.a.cell (o := 0) rfl
              have jb0 := F23.b.cell (o := 0) rfl
              have ja1 := F23.a.cell (o := 1) rfl
              have jb1 := F23.b.cell (o := 1) rfl
              have ja2 := F23.a.cell (o := 2) rfl
              have jb2 := F23.b.cell (o := 2) rfl
              have jRM0 := RM.cell (o := 0) rfl
              have jRM1 := RM.cell (o := 1) rfl
              have jRM2 := RM.cell (o := 2) rfl
              have jRS0 := RS.cell (o := 0) rfl
              have jRS1 := RS.cell (o := 1) rfl
              have jRS2 := RS.cell (o := 2) rfl
              go_wp2_with fail
              go_roundw
              case rel => exact ⟨i + 1, by omega, by omega, rfl, F23⟩
              case measure => simp [intOf]; omega
            · cases t
              · skip
                have ja0 := FM.a.cell (o := 0) rfl
                have jb0 := FM.b.cell (o := 0) rfl
                have ja1 := FM.a.cell (o := 1) rfl
                have jb1 := FM.b.cell (o := 1) rfl
                have ja2 := FM.a.cell (o := 2) rfl
                have jb2 := FM.b.cell (o := 2) rfl
                have jRM0 := RM.cell (o := 0) rfl
                have jRM1 := RM.cell (o := 1) rfl
                have jRM2 := RM.cell (o := 2) rfl
                have jRS0 := RS.cell (o := 0) rfl
                have jRS1 := RS.cell (o := 1) rfl
                have jRS2 := RS.cell (o := 2) rfl
                go_wp2_with fail
                refine (FM.g.implFieldUnder (f := ⟨ak, ao, am⟩) (g := ⟨2, i, false⟩) HP.out).mono ?_
                rintro e w21 ⟨rfl, bb21⟩
                have F21 := FM.keep bb21
                replace RM := RM.below bb21 RM.lt
                replace RS := RS.below bb21 RS.lt
                clear bb21 FM
                have ja0 := F21.a.cell (o := 0) rfl
                have jb0 := F21.b.cell (o := 0) rfl
                have ja1 := F21.a.cell (o := 1) rfl
                have jb1 := F21.b.cell (o := 1) rfl
                have ja2 := F21.a.cell (o := 2) rfl
                have jb2 := F21.b.cell (o := 2) rfl
                have jRM0 := RM.cell (o := 0) rfl
                have jRM1 := RM.cell (o := 1) rfl
                have jRM2 := RM.cell (o := 2) rfl
                have jRS0 := RS.cell (o := 0) rfl
                have jRS1 := RS.cell (o := 1) rfl
                have jRS2 := RS.cell (o := 2) rfl
                go_wp2_with fail
                refine (F21.g.implFieldUnder (f := ⟨2, i, false⟩) (g := ⟨bk, bo, bm⟩) HQ.out).mono ?_
                rintro e w22 ⟨rfl, bb22⟩
                have F22 := F21.keep bb22
                replace RM := RM.below bb22 RM.lt
                replace RS := RS.below bb22 RS.lt
                clear bb22 F21
                have ja0 := F22.a.cell (o := 0) rfl
                have jb0 := F22.b.cell (o := 0) rfl
                have ja1 := F22.a.cell (o := 1) rfl
                have jb1 := F22.b.cell (o := 1) rfl
                have ja2 := F22.a.cell (o := 2) rfl
                have jb2 := F22.b.cell (o := 2) rfl
                have jRM0 := RM.cell (o := 0) rfl
                have jRM1 := RM.cell (o := 1) rfl
                have jRM2 := RM.cell (o := 2) rfl
                have jRS0 := RS.cell (o := 0) rfl
                have jRS1 := RS.cell (o := 1) rfl
                have jRS2 := RS.cell (o := 2) rfl
                go_wp2_with fail
                refine (F22.g.implFieldUnder (f := ⟨ak, ao, am⟩) (g := ⟨3, i, false⟩) HR.out).mono ?_
                rintro e w23 ⟨rfl, bb23⟩
                have F23 := F22.keep bb23
                replace RM := RM.below bb23 RM.lt
                replace RS := RS.below bb23 RS.lt
                clear bb23 F22
                have ja0 := F23.a.cell (o := 0) rfl
                have jb0 := F23.b.cell (o := 0) rfl
                have ja1 := F23.a.cell (o := 1) rfl
                have jb1 := F23.b.cell (o := 1) rfl
                have ja2 := F23.a.cell (o := 2) rfl
                have jb2 := F23.b.cell (o := 2) rfl
                have jRM0 := RM.cell (o := 0) rfl
                have jRM1 := RM.cell (o := 1) rfl
                have jRM2 := RM.cell (o := 2) rfl
                have jRS0 := RS.cell (o := 0) rfl
                have jRS1 := RS.cell (o := 1) rfl
                have jRS2 := RS.cell (o := 2) rfl
                go_wp2_with fail
                refine (F23.g.implFieldUnder (f := ⟨3, i, false⟩) (g := ⟨bk, bo, bm⟩) HT.out).mono ?_
                rintro e w24 ⟨rfl, bb24⟩
                have F24 := F23.keep bb24
                replace RM := RM.below bb24 RM.lt
                replace RS := RS.below bb24 RS.lt
                clear bb24 F23
                have ja0 := F24.a.cell (o := 0) rfl
                have jb0 := F24.b.cell (o := 0) rfl
                have ja1 := F24.a.cell (o := 1) rfl
                have jb1 := F24.b.cell (o := 1) rfl
                have ja2 := F24.a.cell (o := 2) rfl
                have jb2 := F24.b.cell (o := 2) rfl
                have jRM0 := RM.cell (o := 0) rfl
                have jRM1 := RM.cell (o := 1) rfl
                have jRM2 := RM.cell (o := 2) rfl
                have jRS0 := RS.cell (o := 0) rfl
                have jRS1 := RS.cell (o := 1) rfl
                have jRS2 := RS.cell (o := 2) rfl
                go_wp2_with fail
                go_roundw
                case rel => exact ⟨i + 1, by omega, by omega, rfl, F24⟩
                case measure => simp [intOf]; omega
              · obtain rfl := t2 rfl rfl
                have ja0 := FM.a.cell (o := 0) rfl
                have jb0 := FM.b.cell (o := 0) rfl
                have ja1 := FM.a.cell (o := 1) rfl
                have jb1 := FM.b.cell (o := 1) rfl
                have ja2 := FM.a.cell (o := 2) rfl
                have jb2 := FM.b.cell (o := 2) rfl
                have jRM0 := RM.cell (o := 0) rfl
                have jRM1 := RM.cell (o := 1) rfl
                have jRM2 := RM.cell (o := 2) rfl
                have jRS0 := RS.cell (o := 0) rfl
                have jRS1 := RS.cell (o := 1) rfl
                have jRS2 := RS.cell (o := 2) rfl
                go_wp2_with fail
                refine (FM.g.implFieldUnder (f := ⟨ak, ao, am⟩) (g := ⟨2, i, false⟩) HP.out).mono ?_
                rintro e w21 ⟨rfl, bb21⟩
                have F21 := FM.keep bb21
                replace RM := RM.below bb21 RM.lt
                replace RS := RS.below bb21 RS.lt
                clear bb21 FM
                have ja0 := F21.a.cell (o := 0) rfl
                have jb0 := F21.b.cell (o := 0) rfl
                have ja1 := F21.a.cell (o := 1) rfl
                have jb1 := F21.b.cell (o := 1) rfl
                have ja2 := F21.a.cell (o := 2) rfl
                have jb2 := F21.b.cell (o := 2) rfl
                have jRM0 := RM.cell (o := 0) rfl
                have jRM1 := RM.cell (o := 1) rfl
                have jRM2 := RM.cell (o := 2) rfl
                have jRS0 := RS.cell (o := 0) rfl
                have jRS1 := RS.cell (o := 1) rfl
                have jRS2 := RS.cell (o := 2) rfl
                go_wp2_with fail
                refine (F21.g.implFieldUnder (f := ⟨2, i, false⟩) (g := ⟨bk, bo, bm⟩) HQ.out).mono ?_
                rintro e w22 ⟨rfl, bb22⟩
                have F22 := F21.keep bb22
                replace RM := RM.below bb22 RM.lt
                replace RS := RS.below bb22 RS.lt
                clear bb22 F21
                have ja0 := F22.a.cell (o := 0) rfl
                have jb0 := F22.b.cell (o := 0) rfl
                have ja1 := F22.a.cell (o := 1) rfl
                have jb1 := F22.b.cell (o := 1) rfl
                have ja2 := F22.a.cell (o := 2) rfl
                have jb2 := F22.b.cell (o := 2) rfl
                have jRM0 := RM.cell (o := 0) rfl
                have jRM1 := RM.cell (o := 1) rfl
                have jRM2 := RM.cell (o := 2) rfl
                have jRS0 := RS.cell (o := 0) rfl
                have jRS1 := RS.cell (o := 1) rfl
                have jRS2 := RS.cell (o := 2) rfl
                go_wp2_with fail
                refine (F22.g.implFieldUnder (f := ⟨ak, ao, am⟩) (g := ⟨3, i, false⟩) HR.out).mono ?_
                rintro e w23 ⟨rfl, bb23⟩
                have F23 := F22.keep bb23
                replace RM := RM.below bb23 RM.lt
                replace RS := RS.below bb23 RS.lt
                clear bb23 F22
                have ja0 := F23.a.cell (o := 0) rfl
                have jb0 := F23.b.cell (o := 0) rfl
                have ja1 := F23.a.cell (o := 1) rfl
                have jb1 := F23.b.cell (o := 1) rfl
                have ja2 := F23.a.cell (o := 2) rfl
                have jb2 := F23.b.cell (o := 2) rfl
                have jRM0 := RM.cell (o := 0) rfl
                have jRM1 := RM.cell (o := 1) rfl
                have jRM2 := RM.cell (o := 2) rfl
                have jRS0 := RS.cell (o := 0) rfl
                have jRS1 := RS.cell (o := 1) rfl
                have jRS2 := RS.cell (o := 2) rfl
                go_wp2_with fail
                refine (F23.g.implFieldUnder (f := ⟨3, i, false⟩) (g := ⟨bk, bo, bm⟩) HT.out).mono ?_
                rintro e w24 ⟨rfl, bb24⟩
                have F24 := F23.keep bb24
                replace RM := RM.below bb24 RM.lt
                replace RS := RS.below bb24 RS.lt
                clear bb24 F23
                have ja0 := F24.a.cell (o := 0) rfl
                have jb0 := F24.b.cell (o := 0) rfl
                have ja1 := F24.a.cell (o := 1) rfl
                have jb1 := F24.b.cell (o := 1) rfl
                have ja2 := F24.a.cell (o := 2) rfl
                have jb2 := F24.b.cell (o := 2) rfl
                have jRM0 := RM.cell (o := 0) rfl
                have jRM1 := RM.cell (o := 1) rfl
                have jRM2 := RM.cell (o := 2) rfl
                have jRS0 := RS.cell (o := 0) rfl
                have jRS1 := RS.cell (o := 1) rfl
                have jRS2 := RS.cell (o := 2) rfl
                go_wp2_with fail
                refine (F24.g.implFieldUnder (f := ⟨ak, ao, am⟩) (g := ⟨bk, bo, bm⟩) HX.out).mono ?_
                rintro e w25 ⟨rfl, bb25⟩
                have F25 := F24.keep bb25
                replace RM := RM.below bb25 RM.lt
                replace RS := RS.below bb25 RS.lt
                clear bb25 F24
                have ja0 := F25.a.cell (o := 0) rfl
                have jb0 := F25.b.cell (o := 0) rfl
                have ja1 := F25.a.cell (o := 1) rfl
                have jb1 := F25.b.cell (o := 1) rfl
                have ja2 := F25.a.cell (o := 2) rfl
                have jb2 := F25.b.cell (o := 2) rfl
                have jRM0 := RM.cell (o := 0) rfl
                have jRM1 := RM.cell (o := 1) rfl
                have jRM2 := RM.cell (o := 2) rfl
                have jRS0 := RS.cell (o := 0) rfl
                have jRS1 := RS.cell (o := 1) rfl
                have jRS2 := RS.cell (o := 2) rfl
                go_wp2_with fail
                go_roundw
                case rel => exact ⟨i + 1, by omega, by omega, rfl, F25⟩
                case measure => simp [intOf]; omega
          · obtain rfl := t1 rfl rfl
            clear t1
            cases r
            · skip
              have ja0 := FM.a.cell (o := 0) rfl
              have jb0 := FM.b.cell (o := 0) rfl
              have ja1 := FM.a.cell (o := 1) rfl
              have jb1 := FM.b.cell (o := 1) rfl
              have ja2 := FM.a.cell (o := 2) rfl
              have jb2 := FM.b.cell (o := 2) rfl
              have jRM0 := RM.cell (o := 0) rfl
              have jRM1 := RM.cell (o := 1) rfl
              have jRM2 := RM.cell (o := 2) rfl
              have jRS0 := RS.cell (o := 0) rfl
              have jRS1 := RS.cell (o := 1) rfl
              have jRS2 := RS.cell (o := 2) rfl
              go_wp2_with fail
              refine (FM.g.implFieldUnder (f := ⟨ak, ao, am⟩) (g := ⟨2, i, false⟩) HP.out).mono ?_
              rintro e w21 ⟨rfl, bb21⟩
              have F21 := FM.keep bb21
              replace RM := RM.below bb21 RM.lt
              replace RS := RS.below bb21 RS.lt
              clear bb21 FM
              have ja0 := F21.a.cell (o := 0) rfl
              have jb0 := F21.b.cell (o := 0) rfl
              have ja1 := F21.a.cell (o := 1) rfl
              have jb1 := F21.b.cell (o := 1) rfl
              have ja2 := F21.a.cell (o := 2) rfl
              have jb2 := F21.b.cell (o := 2) rfl
              have jRM0 := RM.cell (o := 0) rfl
              have jRM1 := RM.cell (o := 1) rfl
              have jRM2 := RM.cell (o := 2) rfl
              have jRS0 := RS.cell (o := 0) rfl
              have jRS1 := RS.cell (o := 1) rfl
              have jRS2 := RS.cell (o := 2) rfl
              go_wp2_with fail
              refine (F21.g.implFieldUnder (f := ⟨2, i, false⟩) (g := ⟨bk, bo, bm⟩) HQ.out).mono ?_
              rintro e w22 ⟨rfl, bb22⟩
              have F22 := F21.keep bb22
              replace RM := RM.below bb22 RM.lt
              replace RS := RS.below bb22 RS.lt
              clear bb22 F21
              have ja0 := F22.a.cell (o := 0) rfl
              have jb0 := F22.b.cell (o := 0) rfl
              have ja1 := F22.a.cell (o := 1) rfl
              have jb1 := F22.b.cell (o := 1) rfl
              have ja2 := F22.a.cell (o := 2) rfl
              have jb2 := F22.b.cell (o := 2) rfl
              have jRM0 := RM.cell (o := 0) rfl
              have jRM1 := RM.cell (o := 1) rfl
              have jRM2 := RM.cell (o := 2) rfl
              have jRS0 := RS.cell (o := 0) rfl
              have jRS1 := RS.cell (o := 1) rfl
              have jRS2 := RS.cell (o := 2) rfl
              go_wp2_with fail
              refine (F22.g.implFieldUnder (f := ⟨ak, ao, am⟩) (g := ⟨bk, bo, bm⟩) HX.out).mono ?_
              rintro e w23 ⟨rfl, bb23⟩
              have F23 := F22.keep bb23
              replace RM := RM.below bb23 RM.lt
              replace RS := RS.below bb23 RS.lt
              clear bb23 F22
              have ja0 := F23.a.cell (o := 0) rfl
              have jb0 := F23.b.cell (o := 0) rfl
              have ja1 := F23.a.cell (o := 1) rfl
              have jb1 := F23.b.cell (o := 1) rfl
              have ja2 := F23.a.cell (o := 2) rfl
              have jb2 := F23.b.cell (o := 2) rfl
              have jRM0 := RM.cell (o := 0) rfl
              have jRM1 := RM.cell (o := 1) rfl
              have jRM2 := RM.cell (o := 2) rfl
              have jRS0 := RS.cell (o := 0) rfl
              have jRS1 := RS.cell (o := 1) rfl
              have jRS2 := RS.cell (o := 2) rfl
              go_wp2_with fail
              refine (F23.g.implFieldUnder (f := ⟨ak, ao, am⟩) (g := ⟨3, i, false⟩) HR.out).mono ?_
              rintro e w24 ⟨rfl, bb24⟩
              have F24 := F23.keep bb24
              replace RM := RM.below bb24 RM.lt
              replace RS := RS.below bb24 RS.lt
              clear bb24 F23
              have ja0 := F24.a.cell (o := 0) rfl
              have jb0 := F24.b.cell (o := 0) rfl
              have ja1 := F24.a.cell (o := 1) rfl
              have jb1 := F24.b.cell (o := 1) rfl
              have ja2 := F24.a.cell (o := 2) rfl
              have jb2 := F24.b.cell (o := 2) rfl
              have jRM0 := RM.cell (o := 0) rfl
              have jRM1 := RM.cell (o := 1) rfl
              have jRM2 := RM.cell (o := 2) rfl
              have jRS0 := RS.cell (o := 0) rfl
              have jRS1 := RS.cell (o := 1) rfl
              have jRS2 := RS.cell (o := 2) rfl
              go_wp2_with fail
              go_roundw
              case rel => exact ⟨i + 1, by omega, by omega, rfl, F24⟩
              case measure => simp [intOf]; omega
            · cases t
              · skip
                have ja0 := FM.a.cell (o := 0) rfl
                have jb0 := FM.b.cell (o := 0) rfl
                have ja1 := FM.a.cell (o := 1) rfl
                have jb1 := FM.b.cell (o := 1) rfl
                have ja2 := FM.a.cell (o := 2) rfl
                have jb2 := FM.b.cell (o := 2) rfl
                have jRM0 := RM.cell (o := 0) rfl
                have jRM1 := RM.cell (o := 1) rfl
                have jRM2 := RM.cell (o := 2) rfl
                have jRS0 := RS.cell (o := 0) rfl
                have jRS1 := RS.cell (o := 1) rfl
                have jRS2 := RS.cell (o := 2) rfl
                go_wp2_with fail
                refine (FM.g.implFieldUnder (f := ⟨ak, ao, am⟩) (g := ⟨2, i, false⟩) HP.out).mono ?_
                rintro e w21 ⟨rfl, bb21⟩
                have F21 := FM.keep bb21
                replace RM := RM.below bb21 RM.lt
                replace RS := RS.below bb21 RS.lt
                clear bb21 FM
                have ja0 := F21.a.cell (o := 0) rfl
                have jb0 := F21.b.cell (o := 0) rfl
                have ja1 := F21.a.cell (o := 1) rfl
                have jb1 := F21.b.cell (o := 1) rfl
                have ja2 := F21.a.cell (o := 2) rfl
                have jb2 := F21.b.cell (o := 2) rfl
                have jRM0 := RM.cell (o := 0) rfl
                have jRM1 := RM.cell (o := 1) rfl
                have jRM2 := RM.cell (o := 2) rfl
                have jRS0 := RS.cell (o := 0) rfl
                have jRS1 := RS.cell (o := 1) rfl
                have jRS2 := RS.cell (o := 2) rfl
                go_wp2_with fail
                refine (F21.g.implFieldUnder (f := ⟨2, i, false⟩) (g := ⟨bk, bo, bm⟩) HQ.out).mono ?_
                rintro e w22 ⟨rfl, bb22⟩
                have F22 := F21.keep bb22
                replace RM := RM.below bb22 RM.lt
                replace RS := RS.below bb22 RS.lt
                clear bb22 F21
                have ja0 := F22.a.cell (o := 0) rfl
                have jb0 := F22.b.cell (o := 0) rfl
                have ja1 := F22.a.cell (o := 1) rfl
                have jb1 := F22.b.cell (o := 1) rfl
                have ja2 := F22.a.cell (o := 2) rfl
                have jb2 := F22.b.cell (o := 2) rfl
                have jRM0 := RM.cell (o := 0) rfl
                have jRM1 := RM.cell (o := 1) rfl
                have jRM2 := RM.cell (o := 2) rfl
                have jRS0 := RS.cell (o := 0) rfl
                have jRS1 := RS.cell (o := 1) rfl
                have jRS2 := RS.cell (o := 2) rfl
                go_wp2_with fail
                refine (F22.g.implFieldUnder (f := ⟨ak, ao, am⟩) (g := ⟨bk, bo, bm⟩) HX.out).mono ?_
                rintro e w23 ⟨rfl, bb23⟩
                have F23 := F22.keep bb23
                replace RM := RM.below bb23 RM.lt
                replace RS := RS.below bb23 RS.lt
                clear bb23 F22
                have ja0 := F23.a.cell (o := 0) rfl
                have jb0 := F23.b.cell (o := 0) rfl
                have ja1 := F23.a.cell (o := 1) rfl
                have jb1 := F23.b.cell (o := 1) rfl
                have ja2 := F23.a.cell (o := 2) rfl
                have jb2 := F23.b.cell (o := 2) rfl
                have jRM0 := RM.cell (o := 0) rfl
                have jRM1 := RM.cell (o := 1) rfl
                have jRM2 := RM.cell (o := 2) rfl
                have jRS0 := RS.cell (o := 0) rfl
                have jRS1 := RS.cell (o := 1) rfl
                have jRS2 := RS.cell (o := 2) rfl
                go_wp2_with fail
                refine (F23.g.implFieldUnder (f := ⟨ak, ao, am⟩) (g := ⟨3, i, false⟩) HR.out).mono ?_
                rintro e w24 ⟨rfl, bb24⟩
                have F24 := F23.keep bb24
                replace RM := RM.below bb24 RM.lt
                replace RS := RS.below bb24 RS.lt
                clear bb24 F23
                have ja0 := F24.a.cell (o := 0) rfl
                have jb0 := F24.b.cell (o := 0) rfl
                have ja1 := F24.a.cell (o := 1) rfl
                have jb1 := F24.b.cell (o := 1) rfl
                have ja2 := F24.a.cell (o := 2) rfl
                have jb2 := F24.b.cell (o := 2) rfl
                have jRM0 := RM.cell (o := 0) rfl
                have jRM1 := RM.cell (o := 1) rfl
                have jRM2 := RM.cell (o := 2) rfl
                have jRS0 := RS.cell (o := 0) rfl
                have jRS1 := RS.cell (o := 1) rfl
                have jRS2 := RS.cell (o := 2) rfl
                go_wp2_with fail
                refine (F24.g.implFieldUnder (f := ⟨3, i, false⟩) (g := ⟨bk, bo, bm⟩) HT.out).mono ?_
                rintro e w25 ⟨rfl, bb25⟩
                have F25 := F24.keep bb25
                replace RM := RM.below bb25 RM.lt
                replace RS := RS.below bb25 RS.lt
                clear bb25 F24
                have ja0 := F25.a.cell (o := 0) rfl
                have jb0 := F25.b.cell (o := 0) rfl
                have ja1 := F25.a.cell (o := 1) rfl
                have jb1 := F25.b.cell (o := 1) rfl
                have ja2 := F25.a.cell (o := 2) rfl
                have jb2 := F25.b.cell (o := 2) rfl
                have jRM0 := RM.cell (o := 0) rfl
                have jRM1 := RM.cell (o := 1) rfl
                have jRM2 := RM.cell (o := 2) rfl
                have jRS0 := RS.cell (o := 0) rfl
                have jRS1 := RS.cell (o := 1) rfl
                have jRS2 := RS.cell (o := 2) rfl
                go_wp2_with fail
                go_roundw
                case rel => exact ⟨i + 1, by omega, by omega, rfl, F25⟩
                case measure => simp [intOf]; omega
              · skip
                have ja0 := FM.a.cell (o := 0) rfl
                have jb0 := FM.b.cell (o := 0) rfl
                have ja1 := FM.a.cell (o := 1) rfl
                have jb1 := FM.b.cell (o := 1) rfl
                have ja2 := FM.a.cell (o := 2) rfl
                have jb2 := FM.b.cell (o := 2) rfl
                have jRM0 := RM.cell (o := 0) rfl
                have jRM1 := RM.cell (o := 1) rfl
                have jRM2 := RM.cell (o := 2) rfl
                have jRS0 := RS.cell (o := 0) rfl
                have jRS1 := RS.cell (o := 1) rfl
                have jRS2 := RS.cell (o := 2) rfl
                go_wp2_with fail
                refine (FM.g.implFieldUnder (f := ⟨ak, ao, am⟩) (g := ⟨2, i, false⟩) HP.out).mono ?_
                rintro e w21 ⟨rfl, bb21⟩
                have F21 := FM.keep bb21
                replace RM := RM.below bb21 RM.lt
                replace RS := RS.below bb21 RS.lt
                clear bb21 FM
                have ja0 := F21.a.cell (o := 0) rfl
                have jb0 := F21.b.cell (o := 0) rfl
                have ja1 := F21.a.cell (o := 1) rfl
                have jb1 := F21.b.cell (o := 1) rfl
                have ja2 := F21.a.cell (o := 2) rfl
                have jb2 := F21.b.cell (o := 2) rfl
                have jRM0 := RM.cell (o := 0) rfl
                have jRM1 := RM.cell (o := 1) rfl
                have jRM2 := RM.cell (o := 2) rfl
                have jRS0 := RS.cell (o := 0) rfl
                have jRS1 := RS.cell (o := 1) rfl
                have jRS2 := RS.cell (o := 2) rfl
                go_wp2_with fail
                refine (F21.g.implFieldUnder (f := ⟨2, i, false⟩) (g := ⟨bk, bo, bm⟩) HQ.out).mono ?_
                rintro e w22 ⟨rfl, bb22⟩
                have F22 := F21.keep bb22
                replace RM := RM.below bb22 RM.lt
                replace RS := RS.below bb22 RS.lt
                clear bb22 F21
                have ja0 := F22.a.cell (o := 0) rfl
                have jb0 := F22.b.cell (o := 0) rfl
                have ja1 := F22.a.cell (o := 1) rfl
                have jb1 := F22.b.cell (o := 1) rfl
                have ja2 := F22.a.cell (o := 2) rfl
                have jb2 := F22.b.cell (o := 2) rfl
                have jRM0 := RM.cell (o := 0) rfl
                have jRM1 := RM.cell (o := 1) rfl
                have jRM2 := RM.cell (o := 2) rfl
                have jRS0 := RS.cell (o := 0) rfl
                have jRS1 := RS.cell (o := 1) rfl
                have jRS2 := RS.cell (o := 2) rfl
                go_wp2_with fail
                refine (F22.g.implFieldUnder (f := ⟨ak, ao, am⟩) (g := ⟨bk, bo, bm⟩) HX.out).mono ?_
                rintro e w23 ⟨rfl, bb23⟩
                have F23 := F22.keep bb23
                replace RM := RM.below bb23 RM.lt
                replace RS := RS.below bb23 RS.lt
                clear bb23 F22
                have ja0 := F23.a.cell (o := 0) rfl
                have jb0 := F23.b.cell (o := 0) rfl
                have ja1 := F23.a.cell (o := 1) rfl
                have jb1 := F23.b.cell (o := 1) rfl
                have ja2 := F23.a.cell (o := 2) rfl
                have jb2 := F23.b.cell (o := 2) rfl
                have jRM0 := RM.cell (o := 0) rfl
                have jRM1 := RM.cell (o := 1) rfl
                have jRM2 := RM.cell (o := 2) rfl
                have jRS0 := RS.cell (o := 0) rfl
                have jRS1 := RS.cell (o := 1) rfl
                have jRS2 := RS.cell (o := 2) rfl
                go_wp2_with fail
                refine (F23.g.implFieldUnder (f := ⟨ak, ao, am⟩) (g := ⟨3, i, false⟩) HR.out).mono ?_
                rintro e w24 ⟨rfl, bb24⟩
                have F24 := F23.keep bb24
                replace RM := RM.below bb24 RM.lt
                replace RS := RS.below bb24 RS.lt
                clear bb24 F23
                have ja0 := F24.a.cell (o := 0) rfl
                have jb0 := F24.b.cell (o := 0) rfl
                have ja1 := F24.a.cell (o := 1) rfl
                have jb1 := F24.b.cell (o := 1) rfl
                have ja2 := F24.a.cell (o := 2) rfl
                have jb2 := F24.b.cell (o := 2) rfl
                have jRM0 := RM.cell (o := 0) rfl
                have jRM1 := RM.cell (o := 1) rfl
                have jRM2 := RM.cell (o := 2) rfl
                have jRS0 := RS.cell (o := 0) rfl
                have jRS1 := RS.cell (o := 1) rfl
                have jRS2 := RS.cell (o := 2) rfl
                go_wp2_with fail
                refine (F24.g.implFieldUnder (f := ⟨3, i, false⟩) (g := ⟨bk, bo, bm⟩) HT.out).mono ?_
                rintro e w25 ⟨rfl, bb25⟩
                have F25 := F24.keep bb25
                replace RM := RM.below bb25 RM.lt
                replace RS := RS.below bb25 RS.lt
                clear bb25 F24
                have ja0 := F25.a.cell (o := 0) rfl
                have jb0 := F25.b.cell (o := 0) rfl
                have ja1 := F25.a.cell (o := 1) rfl
                have jb1 := F25.b.cell (o := 1) rfl
                have ja2 := F25.a.cell (o := 2) rfl
                have jb2 := F25.b.cell (o := 2) rfl
                have jRM0 := RM.cell (o := 0) rfl
                have jRM1 := RM.cell (o := 1) rfl
                have jRM2 := RM.cell (o := 2) rfl
                have jRS0 := RS.cell (o := 0) rfl
                have jRS1 := RS.cell (o := 1) rfl
                have jRS2 := RS.cell (o := 2) rfl
                go_wp2_with fail
                refine (F25.g.implFieldUnder (f := ⟨ak, ao, am⟩) (g := ⟨bk, bo, bm⟩) HX.out).mono ?_
                rintro e w26 ⟨rfl, bb26⟩
                have F26 := F25.keep bb26
                replace RM := RM.below bb26 RM.lt
                replace RS := RS.below bb26 RS.lt
                clear bb26 F25
                have ja0 := F26.a.cell (o := 0) rfl
                have jb0 := F26.b.cell (o := 0) rfl
                have ja1 := F26.a.cell (o := 1) rfl
                have jb1 := F26.b.cell (o := 1) rfl
                have ja2 := F26.a.cell (o := 2) rfl
                have jb2 := F26.b.cell (o := 2) rfl
                have jRM0 := RM.cell (o := 0) rfl
                have jRM1 := RM.cell (o := 1) rfl
                have jRM2 := RM.cell (o := 2) rfl
                have jRS0 := RS.cell (o := 0) rfl
                have jRS1 := RS.cell (o := 1) rfl
                have jRS2 := RS.cell (o := 2) rfl
                go_wp2_with fail
                go_roundw
                case rel => exact ⟨i + 1, by omega, by omega, rfl, F26⟩
                case measure => simp [intOf]; omega
      · have hge : (kinCount gs : Int) ≤ i := by omega
        have ja0 := FR.out.a.cell (o := 0) rfl
        have ja1 := FR.out.a.cell (o := 1) rfl
        have ja2 := FR.out.a.cell (o := 2) rfl
        have FD := FR.out.alloc (.cells #[.int .i64 ak, .int .i64 ao, .bool (!am)] 35)
        have RD := Rec.new wr 35 [.int .i64 ak, .int .i64 ao, .bool (!am)]
        have rd0 := (Rec.new wr 35 [.int .i64 ak, .int .i64 ao, .bool am]).cell (o := 2) rfl
        have fa0 := (FR.out.alloc (.cells #[.int .i64 ak, .int .i64 ao, .bool am] 35)).a.cell (o := 2) rfl
        have alt : ab < wr.heap.size := FR.out.a.lt
        go_wp2_with fail
        clear ja0 ja1 ja2 rd0 fa0 alt FR
        generalize wr.alloc (.cells #[.int .i64 ak, .int .i64 ao, .bool (!am)] 35) = WD at *
        generalize wr.heap.size = db at *
        have j0 := FD.a.cell (o := 0) rfl
        have j1 := FD.a.cell (o := 1) rfl
        have j2 := FD.a.cell (o := 2) rfl
        have j3 := FD.b.cell (o := 0) rfl
        have j4 := FD.b.cell (o := 1) rfl
        have j5 := FD.b.cell (o := 2) rfl
        have j6 := RD.cell (o := 0) rfl
        have j7 := RD.cell (o := 1) rfl
        have j8 := RD.cell (o := 2) rfl
        cases x
        · skip
          refine wp_region_held_drew (S := (fun W => W.cell? ⟨ab, 0, none⟩ = some (.int .i64 ak) ∧ W.cell? ⟨ab, 1, none⟩ = some (.int .i64 ao) ∧ W.cell? ⟨ab, 2, none⟩ = some (.bool am) ∧ W.cell? ⟨(ab + 1), 0, none⟩ = some (.int .i64 bk) ∧ W.cell? ⟨(ab + 1), 1, none⟩ = some (.int .i64 bo) ∧ W.cell? ⟨(ab + 1), 2, none⟩ = some (.bool bm) ∧ W.cell? ⟨db, 0, none⟩ = some (.int .i64 ak) ∧ W.cell? ⟨db, 1, none⟩ = some (.int .i64 ao) ∧ W.cell? ⟨db, 2, none⟩ = some (.bool (!am)) ∧ FS w W ga gc gs ab (ab + 1) ⟨ak, ao, am⟩ ⟨bk, bo, bm⟩ ∧ Rec W db 35 [.int .i64 ak, .int .i64 ao, .bool (!am)])) (by kernel_rfl) ?_ (fun hHeld => ?_)
          · (try dsimp only); (refine ⟨?_, ?_, ?_, ?_, ?_, ?_, ?_, ?_, ?_, ?_, ?_⟩ <;> first | assumption | exact FS.drew (by assumption) | exact Rec.drew (by assumption) | go_keep)
          first | (refine takeL (i := 0) (v := ?v0n22) rfl (by kernel_rfl) (by kernel_rfl) (by kernel_rfl) (fun _ _ _ h => h) (by kernel_rfl) (by assumption) ?y0n22 ?r0n22; case y0n22 => (intro w hSw; (try dsimp only at hSw); go_simp; try with_reducible rfl); (try simp only [Act.put, List.setIfInBounds_toArray, List.set_cons_zero, List.set_cons_succ])) | (refine skipL (i := 0) rfl (by kernel_rfl) (by kernel_rfl) (by kernel_rfl) (fun _ _ _ h => h) (by kernel_rfl) (by assumption) ?_; (try simp only [Act.put, List.setIfInBounds_toArray, List.set_cons_zero, List.set_cons_succ]))
          first | (refine takeL (i := 1) (v := ?v1n23) rfl (by kernel_rfl) (by kernel_rfl) (by kernel_rfl) (fun _ _ _ h => h) (by kernel_rfl) (by assumption) ?y1n23 ?r1n23; case y1n23 => (intro w hSw; (try dsimp only at hSw); go_simp; try with_reducible rfl); (try simp only [Act.put, List.setIfInBounds_toArray, List.set_cons_zero, List.set_cons_succ])) | (refine skipL (i := 1) rfl (by kernel_rfl) (by kernel_rfl) (by kernel_rfl) (fun _ _ _ h => h) (by kernel_rfl) (by assumption) ?_; (try simp only [Act.put, List.setIfInBounds_toArray, List.set_cons_zero, List.set_cons_succ]))
          first | (refine takeL (i := 2) (v := ?v2n24) rfl (by kernel_rfl) (by kernel_rfl) (by kernel_rfl) (fun _ _ _ h => h) (by kernel_rfl) (by assumption) ?y2n24 ?r2n24; case y2n24 => (intro w hSw; (try dsimp only at hSw); go_simp; try with_reducible rfl); (try simp only [Act.put, List.setIfInBounds_toArray, List.set_cons_zero, List.set_cons_succ])) | (refine skipL (i := 2) rfl (by kernel_rfl) (by kernel_rfl) (by kernel_rfl) (fun _ _ _ h => h) (by kernel_rfl) (by assumption) ?_; (try simp only [Act.put, List.setIfInBounds_toArray, List.set_cons_zero, List.set_cons_succ]))
          refine doL (i := 3) rfl (by kernel_rfl) (fun K hK => ?_)
          go_simp
          (go_at_call 36; obtain ⟨hF9, hR9⟩ := hHeld.2.2.2.2.2.2.2.2.2; refine (hF9.g.implFieldUnder (f := ⟨ak, ao, am⟩) (g := ⟨ak, ao, am⟩) HAA.out).mono ?_; rintro e w9 ⟨rfl, hb9⟩; have F9 := hF9.keep hb9; have R9 := hR9.below hb9 hR9.lt; have j0 := F9.a.cell (o := 0) rfl; have j1 := F9.a.cell (o := 1) rfl; have j2 := F9.a.cell (o := 2) rfl; have j3 := F9.b.cell (o := 0) rfl; have j4 := F9.b.cell (o := 1) rfl; have j5 := F9.b.cell (o := 2) rfl; have j6 := R9.cell (o := 0) rfl; have j7 := R9.cell (o := 1) rfl; have j8 := R9.cell (o := 2) rfl; clear hF9 hR9 hb9)
          (try go_wp2_with fail)
          refine hK.out _ _ ?_ (fun hHeld2 => ?_)
          · (try dsimp only); (refine ⟨?_, ?_, ?_, ?_, ?_, ?_, ?_, ?_, ?_, ?_, ?_⟩ <;> first | assumption | exact FS.drew (by assumption) | exact Rec.drew (by assumption) | go_keep)
          clear hK K hHeld
          have hHeld := hHeld2
          clear hHeld2
          try simp only [Act.put, List.setIfInBounds_toArray, List.set_cons_zero, List.set_cons_succ]
          first | (refine takeL (i := 4) (v := ?v4n25) rfl (by kernel_rfl) (by kernel_rfl) (by kernel_rfl) (fun _ _ _ h => h) (by kernel_rfl) (by assumption) ?y4n25 ?r4n25; case y4n25 => (intro w hSw; (try dsimp only at hSw); go_simp; try with_reducible rfl); (try simp only [Act.put, List.setIfInBounds_toArray, List.set_cons_zero, List.set_cons_succ])) | (refine skipL (i := 4) rfl (by kernel_rfl) (by kernel_rfl) (by kernel_rfl) (fun _ _ _ h => h) (by kernel_rfl) (by assumption) ?_; (try simp only [Act.put, List.setIfInBounds_toArray, List.set_cons_zero, List.set_cons_succ]))
          first | (refine takeL (i := 5) (v := ?v5n26) rfl (by kernel_rfl) (by kernel_rfl) (by kernel_rfl) (fun _ _ _ h => h) (by kernel_rfl) (by assumption) ?y5n26 ?r5n26; case y5n26 => (intro w hSw; (try dsimp only at hSw); go_simp; try with_reducible rfl); (try simp only [Act.put, List.setIfInBounds_toArray, List.set_cons_zero, List.set_cons_succ])) | (refine skipL (i := 5) rfl (by kernel_rfl) (by kernel_rfl) (by kernel_rfl) (fun _ _ _ h => h) (by kernel_rfl) (by assumption) ?_; (try simp only [Act.put, List.setIfInBounds_toArray, List.set_cons_zero, List.set_cons_succ]))
          first | (refine takeL (i := 6) (v := ?v6n27) rfl (by kernel_rfl) (by kernel_rfl) (by kernel_rfl) (fun _ _ _ h => h) (by kernel_rfl) (by assumption) ?y6n27 ?r6n27; case y6n27 => (intro w hSw; (try dsimp only at hSw); go_simp; try with_reducible rfl); (try simp only [Act.put, List.setIfInBounds_toArray, List.set_cons_zero, List.set_cons_succ])) | (refine skipL (i := 6) rfl (by kernel_rfl) (by kernel_rfl) (by kernel_rfl) (fun _ _ _ h => h) (by kernel_rfl) (by assumption) ?_; (try simp only [Act.put, List.setIfInBounds_toArray, List.set_cons_zero, List.set_cons_succ]))
          first | (refine takeL (i := 7) (v := ?v7n28) rfl (by kernel_rfl) (by kernel_rfl) (by kernel_rfl) (fun _ _ _ h => h) (by kernel_rfl) (by assumption) ?y7n28 ?r7n28; case y7n28 => (intro w hSw; (try dsimp only at hSw); go_simp; try with_reducible rfl); (try simp only [Act.put, List.setIfInBounds_toArray, List.set_cons_zero, List.set_cons_succ])) | (refine skipL (i := 7) rfl (by kernel_rfl) (by kernel_rfl) (by kernel_rfl) (fun _ _ _ h => h) (by kernel_rfl) (by assumption) ?_; (try simp only [Act.put, List.setIfInBounds_toArray, List.set_cons_zero, List.set_cons_succ]))
          refine doL (i := 8) rfl (by kernel_rfl) (fun K hK => ?_)
          go_simp
          (go_at_call 36; obtain ⟨hF9, hR9⟩ := hHeld.2.2.2.2.2.2.2.2.2; refine (hF9.g.implFieldUnder (f := ⟨ak, ao, am⟩) (g := ⟨ak, ao, !am⟩) HAD.out).mono ?_; rintro e w9 ⟨rfl, hb9⟩; have F9 := hF9.keep hb9; have R9 := hR9.below hb9 hR9.lt; have j0 := F9.a.cell (o := 0) rfl; have j1 := F9.a.cell (o := 1) rfl; have j2 := F9.a.cell (o := 2) rfl; have j3 := F9.b.cell (o := 0) rfl; have j4 := F9.b.cell (o := 1) rfl; have j5 := F9.b.cell (o := 2) rfl; have j6 := R9.cell (o := 0) rfl; have j7 := R9.cell (o := 1) rfl; have j8 := R9.cell (o := 2) rfl; clear hF9 hR9 hb9)
          (try go_wp2_with fail)
          refine hK.out _ _ ?_ (fun hHeld2 => ?_)
          · (try dsimp only); (refine ⟨?_, ?_, ?_, ?_, ?_, ?_, ?_, ?_, ?_, ?_, ?_⟩ <;> first | assumption | exact FS.drew (by assumption) | exact Rec.drew (by assumption) | go_keep)
          clear hK K hHeld
          have hHeld := hHeld2
          clear hHeld2
          try simp only [Act.put, List.setIfInBounds_toArray, List.set_cons_zero, List.set_cons_succ]
          first | (refine takeL (i := 9) (v := ?v9n29) rfl (by kernel_rfl) (by kernel_rfl) (by kernel_rfl) (fun _ _ _ h => h) (by kernel_rfl) (by assumption) ?y9n29 ?r9n29; case y9n29 => (intro w hSw; (try dsimp only at hSw); go_simp; try with_reducible rfl); (try simp only [Act.put, List.setIfInBounds_toArray, List.set_cons_zero, List.set_cons_succ])) | (refine skipL (i := 9) rfl (by kernel_rfl) (by kernel_rfl) (by kernel_rfl) (fun _ _ _ h => h) (by kernel_rfl) (by assumption) ?_; (try simp only [Act.put, List.setIfInBounds_toArray, List.set_cons_zero, List.set_cons_succ]))
          first | (refine takeL (i := 10) (v := ?v10n30) rfl (by kernel_rfl) (by kernel_rfl) (by kernel_rfl) (fun _ _ _ h => h) (by kernel_rfl) (by assumption) ?y10n30 ?r10n30; case y10n30 => (intro w hSw; (try dsimp only at hSw); go_simp; try with_reducible rfl); (try simp only [Act.put, List.setIfInBounds_toArray, List.set_cons_zero, List.set_cons_succ])) | (refine skipL (i := 10) rfl (by kernel_rfl) (by kernel_rfl) (by kernel_rfl) (fun _ _ _ h => h) (by kernel_rfl) (by assumption) ?_; (try simp only [Act.put, List.setIfInBounds_toArray, List.set_cons_zero, List.set_cons_succ]))
          first | (refine takeL (i := 11) (v := ?v11n31) rfl (by kernel_rfl) (by kernel_rfl) (by kernel_rfl) (fun _ _ _ h => h) (by kernel_rfl) (by assumption) ?y11n31 ?r11n31; case y11n31 => (intro w hSw; (try dsimp only at hSw); go_simp; try with_reducible rfl); (try simp only [Act.put, List.setIfInBounds_toArray, List.set_cons_zero, List.set_cons_succ])) | (refine skipL (i := 11) rfl (by kernel_rfl) (by kernel_rfl) (by kernel_rfl) (fun _ _ _ h => h) (by kernel_rfl) (by assumption) ?_; (try simp only [Act.put, List.setIfInBounds_toArray, List.set_cons_zero, List.set_cons_succ]))
          first | (refine takeL (i := 12) (v := ?v12n32) rfl (by kernel_rfl) (by kernel_rfl) (by kernel_rfl) (fun _ _ _ h => h) (by kernel_rfl) (by assumption) ?y12n32 ?r12n32; case y12n32 => (intro w hSw; (try dsimp only at hSw); go_simp; try with_reducible rfl); (try simp only [Act.put, List.setIfInBounds_toArray, List.set_cons_zero, List.set_cons_succ])) | (refine skipL (i := 12) rfl (by kernel_rfl) (by kernel_rfl) (by kernel_rfl) (fun _ _ _ h => h) (by kernel_rfl) (by assumption) ?_; (try simp only [Act.put, List.setIfInBounds_toArray, List.set_cons_zero, List.set_cons_succ]))
          first | (refine takeL (i := 13) (v := ?v13n33) rfl (by kernel_rfl) (by kernel_rfl) (by kernel_rfl) (fun _ _ _ h => h) (by kernel_rfl) (by assumption) ?y13n33 ?r13n33; case y13n33 => (intro w hSw; (try dsimp only at hSw); go_simp; try with_reducible rfl); (try simp only [Act.put, List.setIfInBounds_toArray, List.set_cons_zero, List.set_cons_succ])) | (refine skipL (i := 13) rfl (by kernel_rfl) (by kernel_rfl) (by kernel_rfl) (fun _ _ _ h => h) (by kernel_rfl) (by assumption) ?_; (try simp only [Act.put, List.setIfInBounds_toArray, List.set_cons_zero, List.set_cons_succ]))
          first | (refine takeL (i := 15) (v := ?v15n34) rfl (by kernel_rfl) (by kernel_rfl) (by kernel_rfl) (fun _ _ _ h => h) (by kernel_rfl) (by assumption) ?y15n34 ?r15n34; case y15n34 => (intro w hSw; (try dsimp only at hSw); go_simp; try with_reducible rfl); (try simp only [Act.put, List.setIfInBounds_toArray, List.set_cons_zero, List.set_cons_succ])) | (refine skipL (i := 15) rfl (by kernel_rfl) (by kernel_rfl) (by kernel_rfl) (fun _ _ _ h => h) (by kernel_rfl) (by assumption) ?_; (try simp only [Act.put, List.setIfInBounds_toArray, List.set_cons_zero, List.set_cons_succ]))
          first | (refine takeL (i := 16) (v := ?v16n35) rfl (by kernel_rfl) (by kernel_rfl) (by kernel_rfl) (fun _ _ _ h => h) (by kernel_rfl) (by assumption) ?y16n35 ?r16n35; case y16n35 => (intro w hSw; (try dsimp only at hSw); go_simp; try with_reducible rfl); (try simp only [Act.put, List.setIfInBounds_toArray, List.set_cons_zero, List.set_cons_succ])) | (refine skipL (i := 16) rfl (by kernel_rfl) (by kernel_rfl) (by kernel_rfl) (fun _ _ _ h => h) (by kernel_rfl) (by assumption) ?_; (try simp only [Act.put, List.setIfInBounds_toArray, List.set_cons_zero, List.set_cons_succ]))
          first | (refine takeL (i := 17) (v := ?v17n36) rfl (by kernel_rfl) (by kernel_rfl) (by kernel_rfl) (fun _ _ _ h => h) (by kernel_rfl) (by assumption) ?y17n36 ?r17n36; case y17n36 => (intro w hSw; (try dsimp only at hSw); go_simp; try with_reducible rfl); (try simp only [Act.put, List.setIfInBounds_toArray, List.set_cons_zero, List.set_cons_succ])) | (refine skipL (i := 17) rfl (by kernel_rfl) (by kernel_rfl) (by kernel_rfl) (fun _ _ _ h => h) (by kernel_rfl) (by assumption) ?_; (try simp only [Act.put, List.setIfInBounds_toArray, List.set_cons_zero, List.set_cons_succ]))
          refine doL (i := 14) rfl (by kernel_rfl) (fun K hK => ?_)
          go_simp
          (go_at_call 36; obtain ⟨hF9, hR9⟩ := hHeld.2.2.2.2.2.2.2.2.2; refine (hF9.g.implFieldUnder (f := ⟨ak, ao, !am⟩) (g := ⟨bk, bo, bm⟩) HDB.out).mono ?_; rintro e w9 ⟨rfl, hb9⟩; have F9 := hF9.keep hb9; have R9 := hR9.below hb9 hR9.lt; have j0 := F9.a.cell (o := 0) rfl; have j1 := F9.a.cell (o := 1) rfl; have j2 := F9.a.cell (o := 2) rfl; have j3 := F9.b.cell (o := 0) rfl; have j4 := F9.b.cell (o := 1) rfl; have j5 := F9.b.cell (o := 2) rfl; have j6 := R9.cell (o := 0) rfl; have j7 := R9.cell (o := 1) rfl; have j8 := R9.cell (o := 2) rfl; clear hF9 hR9 hb9)
          (try go_wp2_with fail)
          refine hK.out _ _ ?_ (fun hHeld2 => ?_)
          · (try dsimp only); (refine ⟨?_, ?_, ?_, ?_, ?_, ?_, ?_, ?_, ?_, ?_, ?_⟩ <;> first | assumption | exact FS.drew (by assumption) | exact Rec.drew (by assumption) | go_keep)
          clear hK K hHeld
          have hHeld := hHeld2
          clear hHeld2
          try simp only [Act.put, List.setIfInBounds_toArray, List.set_cons_zero, List.set_cons_succ]
          refine doL (i := 18) rfl (by kernel_rfl) (fun K hK => ?_)
          go_simp
          (go_at_call 36; obtain ⟨hF9, hR9⟩ := hHeld.2.2.2.2.2.2.2.2.2; refine (hF9.g.implFieldUnder (f := ⟨ak, ao, am⟩) (g := ⟨bk, bo, bm⟩) HX.out).mono ?_; rintro e w9 ⟨rfl, hb9⟩; have F9 := hF9.keep hb9; have R9 := hR9.below hb9 hR9.lt; have j0 := F9.a.cell (o := 0) rfl; have j1 := F9.a.cell (o := 1) rfl; have j2 := F9.a.cell (o := 2) rfl; have j3 := F9.b.cell (o := 0) rfl; have j4 := F9.b.cell (o := 1) rfl; have j5 := F9.b.cell (o := 2) rfl; have j6 := R9.cell (o := 0) rfl; have j7 := R9.cell (o := 1) rfl; have j8 := R9.cell (o := 2) rfl; clear hF9 hR9 hb9)
          (try go_wp2_with fail)
          refine hK.out _ _ ?_ (fun hHeld2 => ?_)
          · (try dsimp only); (refine ⟨?_, ?_, ?_, ?_, ?_, ?_, ?_, ?_, ?_, ?_, ?_⟩ <;> first | assumption | exact FS.drew (by assumption) | exact Rec.drew (by assumption) | go_keep)
          clear hK K hHeld
          have hHeld := hHeld2
          clear hHeld2
          try simp only [Act.put, List.setIfInBounds_toArray, List.set_cons_zero, List.set_cons_succ]
          first | (refine takeL (i := 19) (v := ?v19n37) rfl (by kernel_rfl) (by kernel_rfl) (by kernel_rfl) (fun _ _ _ h => h) (by kernel_rfl) (by assumption) ?y19n37 ?r19n37; case y19n37 => (intro w hSw; (try dsimp only at hSw); go_simp; try with_reducible rfl); (try simp only [Act.put, List.setIfInBounds_toArray, List.set_cons_zero, List.set_cons_succ])) | (refine skipL (i := 19) rfl (by kernel_rfl) (by kernel_rfl) (by kernel_rfl) (fun _ _ _ h => h) (by kernel_rfl) (by assumption) ?_; (try simp only [Act.put, List.setIfInBounds_toArray, List.set_cons_zero, List.set_cons_succ]))
          first | (refine takeL (i := 20) (v := ?v20n38) rfl (by kernel_rfl) (by kernel_rfl) (by kernel_rfl) (fun _ _ _ h => h) (by kernel_rfl) (by assumption) ?y20n38 ?r20n38; case y20n38 => (intro w hSw; (try dsimp only at hSw); go_simp; try with_reducible rfl); (try simp only [Act.put, List.setIfInBounds_toArray, List.set_cons_zero, List.set_cons_succ])) | (refine skipL (i := 20) rfl (by kernel_rfl) (by kernel_rfl) (by kernel_rfl) (fun _ _ _ h => h) (by kernel_rfl) (by assumption) ?_; (try simp only [Act.put, List.setIfInBounds_toArray, List.set_cons_zero, List.set_cons_succ]))
          first | (refine takeL (i := 21) (v := ?v21n39) rfl (by kernel_rfl) (by kernel_rfl) (by kernel_rfl) (fun _ _ _ h => h) (by kernel_rfl) (by assumption) ?y21n39 ?r21n39; case y21n39 => (intro w hSw; (try dsimp only at hSw); go_simp; try with_reducible rfl); (try simp only [Act.put, List.setIfInBounds_toArray, List.set_cons_zero, List.set_cons_succ])) | (refine skipL (i := 21) rfl (by kernel_rfl) (by kernel_rfl) (by kernel_rfl) (fun _ _ _ h => h) (by kernel_rfl) (by assumption) ?_; (try simp only [Act.put, List.setIfInBounds_toArray, List.set_cons_zero, List.set_cons_succ]))
          refine wpAnyH_done (by kernel_rfl) ?_ _
          go_wp2_with fail
          go_ret
          exact ⟨rfl, F9.g.bel⟩
        · skip
          refine wp_region_held_drew (S := (fun W => W.cell? ⟨ab, 0, none⟩ = some (.int .i64 ak) ∧ W.cell? ⟨ab, 1, none⟩ = some (.int .i64 ao) ∧ W.cell? ⟨ab, 2, none⟩ = some (.bool am) ∧ W.cell? ⟨(ab + 1), 0, none⟩ = some (.int .i64 bk) ∧ W.cell? ⟨(ab + 1), 1, none⟩ = some (.int .i64 bo) ∧ W.cell? ⟨(ab + 1), 2, none⟩ = some (.bool bm) ∧ W.cell? ⟨db, 0, none⟩ = some (.int .i64 ak) ∧ W.cell? ⟨db, 1, none⟩ = some (.int .i64 ao) ∧ W.cell? ⟨db, 2, none⟩ = some (.bool (!am)) ∧ FS w W ga gc gs ab (ab + 1) ⟨ak, ao, am⟩ ⟨bk, bo, bm⟩ ∧ Rec W db 35 [.int .i64 ak, .int .i64 ao, .bool (!am)])) (by kernel_rfl) ?_ (fun hHeld => ?_)
          · (try dsimp only); (refine ⟨?_, ?_, ?_, ?_, ?_, ?_, ?_, ?_, ?_, ?_, ?_⟩ <;> first | assumption | exact FS.drew (by assumption) | exact Rec.drew (by assumption) | go_keep)
          first | (refine takeL (i := 0) (v := ?v0n40) rfl (by kernel_rfl) (by kernel_rfl) (by kernel_rfl) (fun _ _ _ h => h) (by kernel_rfl) (by assumption) ?y0n40 ?r0n40; case y0n40 => (intro w hSw; (try dsimp only at hSw); go_simp; try with_reducible rfl); (try simp only [Act.put, List.setIfInBounds_toArray, List.set_cons_zero, List.set_cons_succ])) | (refine skipL (i := 0) rfl (by kernel_rfl) (by kernel_rfl) (by kernel_rfl) (fun _ _ _ h => h) (by kernel_rfl) (by assumption) ?_; (try simp only [Act.put, List.setIfInBounds_toArray, List.set_cons_zero, List.set_cons_succ]))
          first | (refine takeL (i := 1) (v := ?v1n41) rfl (by kernel_rfl) (by kernel_rfl) (by kernel_rfl) (fun _ _ _ h => h) (by kernel_rfl) (by assumption) ?y1n41 ?r1n41; case y1n41 => (intro w hSw; (try dsimp only at hSw); go_simp; try with_reducible rfl); (try simp only [Act.put, List.setIfInBounds_toArray, List.set_cons_zero, List.set_cons_succ])) | (refine skipL (i := 1) rfl (by kernel_rfl) (by kernel_rfl) (by kernel_rfl) (fun _ _ _ h => h) (by kernel_rfl) (by assumption) ?_; (try simp only [Act.put, List.setIfInBounds_toArray, List.set_cons_zero, List.set_cons_succ]))
          first | (refine takeL (i := 2) (v := ?v2n42) rfl (by kernel_rfl) (by kernel_rfl) (by kernel_rfl) (fun _ _ _ h => h) (by kernel_rfl) (by assumption) ?y2n42 ?r2n42; case y2n42 => (intro w hSw; (try dsimp only at hSw); go_simp; try with_reducible rfl); (try simp only [Act.put, List.setIfInBounds_toArray, List.set_cons_zero, List.set_cons_succ])) | (refine skipL (i := 2) rfl (by kernel_rfl) (by kernel_rfl) (by kernel_rfl) (fun _ _ _ h => h) (by kernel_rfl) (by assumption) ?_; (try simp only [Act.put, List.setIfInBounds_toArray, List.set_cons_zero, List.set_cons_succ]))
          refine doL (i := 3) rfl (by kernel_rfl) (fun K hK => ?_)
          go_simp
          (go_at_call 36; obtain ⟨hF9, hR9⟩ := hHeld.2.2.2.2.2.2.2.2.2; refine (hF9.g.implFieldUnder (f := ⟨ak, ao, am⟩) (g := ⟨ak, ao, am⟩) HAA.out).mono ?_; rintro e w9 ⟨rfl, hb9⟩; have F9 := hF9.keep hb9; have R9 := hR9.below hb9 hR9.lt; have j0 := F9.a.cell (o := 0) rfl; have j1 := F9.a.cell (o := 1) rfl; have j2 := F9.a.cell (o := 2) rfl; have j3 := F9.b.cell (o := 0) rfl; have j4 := F9.b.cell (o := 1) rfl; have j5 := F9.b.cell (o := 2) rfl; have j6 := R9.cell (o := 0) rfl; have j7 := R9.cell (o := 1) rfl; have j8 := R9.cell (o := 2) rfl; clear hF9 hR9 hb9)
          (try go_wp2_with fail)
          refine hK.out _ _ ?_ (fun hHeld2 => ?_)
          · (try dsimp only); (refine ⟨?_, ?_, ?_, ?_, ?_, ?_, ?_, ?_, ?_, ?_, ?_⟩ <;> first | assumption | exact FS.drew (by assumption) | exact Rec.drew (by assumption) | go_keep)
          clear hK K hHeld
          have hHeld := hHeld2
          clear hHeld2
          try simp only [Act.put, List.setIfInBounds_toArray, List.set_cons_zero, List.set_cons_succ]
          first | (refine takeL (i := 4) (v := ?v4n43) rfl (by kernel_rfl) (by kernel_rfl) (by kernel_rfl) (fun _ _ _ h => h) (by kernel_rfl) (by assumption) ?y4n43 ?r4n43; case y4n43 => (intro w hSw; (try dsimp only at hSw); go_simp; try with_reducible rfl); (try simp only [Act.put, List.setIfInBounds_toArray, List.set_cons_zero, List.set_cons_succ])) | (refine skipL (i := 4) rfl (by kernel_rfl) (by kernel_rfl) (by kernel_rfl) (fun _ _ _ h => h) (by kernel_rfl) (by assumption) ?_; (try simp only [Act.put, List.setIfInBounds_toArray, List.set_cons_zero, List.set_cons_succ]))
          first | (refine takeL (i := 5) (v := ?v5n44) rfl (by kernel_rfl) (by kernel_rfl) (by kernel_rfl) (fun _ _ _ h => h) (by kernel_rfl) (by assumption) ?y5n44 ?r5n44; case y5n44 => (intro w hSw; (try dsimp only at hSw); go_simp; try with_reducible rfl); (try simp only [Act.put, List.setIfInBounds_toArray, List.set_cons_zero, List.set_cons_succ])) | (refine skipL (i := 5) rfl (by kernel_rfl) (by kernel_rfl) (by kernel_rfl) (fun _ _ _ h => h) (by kernel_rfl) (by assumption) ?_; (try simp only [Act.put, List.setIfInBounds_toArray, List.set_cons_zero, List.set_cons_succ]))
          first | (refine takeL (i := 6) (v := ?v6n45) rfl (by kernel_rfl) (by kernel_rfl) (by kernel_rfl) (fun _ _ _ h => h) (by kernel_rfl) (by assumption) ?y6n45 ?r6n45; case y6n45 => (intro w hSw; (try dsimp only at hSw); go_simp; try with_reducible rfl); (try simp only [Act.put, List.setIfInBounds_toArray, List.set_cons_zero, List.set_cons_succ])) | (refine skipL (i := 6) rfl (by kernel_rfl) (by kernel_rfl) (by kernel_rfl) (fun _ _ _ h => h) (by kernel_rfl) (by assumption) ?_; (try simp only [Act.put, List.setIfInBounds_toArray, List.set_cons_zero, List.set_cons_succ]))
          first | (refine takeL (i := 7) (v := ?v7n46) rfl (by kernel_rfl) (by kernel_rfl) (by kernel_rfl) (fun _ _ _ h => h) (by kernel_rfl) (by assumption) ?y7n46 ?r7n46; case y7n46 => (intro w hSw; (try dsimp only at hSw); go_simp; try with_reducible rfl); (try simp only [Act.put, List.setIfInBounds_toArray, List.set_cons_zero, List.set_cons_succ])) | (refine skipL (i := 7) rfl (by kernel_rfl) (by kernel_rfl) (by kernel_rfl) (fun _ _ _ h => h) (by kernel_rfl) (by assumption) ?_; (try simp only [Act.put, List.setIfInBounds_toArray, List.set_cons_zero, List.set_cons_succ]))
          refine doL (i := 8) rfl (by kernel_rfl) (fun K hK => ?_)
          go_simp
          (go_at_call 36; obtain ⟨hF9, hR9⟩ := hHeld.2.2.2.2.2.2.2.2.2; refine (hF9.g.implFieldUnder (f := ⟨ak, ao, am⟩) (g := ⟨ak, ao, !am⟩) HAD.out).mono ?_; rintro e w9 ⟨rfl, hb9⟩; have F9 := hF9.keep hb9; have R9 := hR9.below hb9 hR9.lt; have j0 := F9.a.cell (o := 0) rfl; have j1 := F9.a.cell (o := 1) rfl; have j2 := F9.a.cell (o := 2) rfl; have j3 := F9.b.cell (o := 0) rfl; have j4 := F9.b.cell (o := 1) rfl; have j5 := F9.b.cell (o := 2) rfl; have j6 := R9.cell (o := 0) rfl; have j7 := R9.cell (o := 1) rfl; have j8 := R9.cell (o := 2) rfl; clear hF9 hR9 hb9)
          (try go_wp2_with fail)
          refine hK.out _ _ ?_ (fun hHeld2 => ?_)
          · (try dsimp only); (refine ⟨?_, ?_, ?_, ?_, ?_, ?_, ?_, ?_, ?_, ?_, ?_⟩ <;> first | assumption | exact FS.drew (by assumption) | exact Rec.drew (by assumption) | go_keep)
          clear hK K hHeld
          have hHeld := hHeld2
          clear hHeld2
          try simp only [Act.put, List.setIfInBounds_toArray, List.set_cons_zero, List.set_cons_succ]
          first | (refine takeL (i := 9) (v := ?v9n47) rfl (by kernel_rfl) (by kernel_rfl) (by kernel_rfl) (fun _ _ _ h => h) (by kernel_rfl) (by assumption) ?y9n47 ?r9n47; case y9n47 => (intro w hSw; (try dsimp only at hSw); go_simp; try with_reducible rfl); (try simp only [Act.put, List.setIfInBounds_toArray, List.set_cons_zero, List.set_cons_succ])) | (refine skipL (i := 9) rfl (by kernel_rfl) (by kernel_rfl) (by kernel_rfl) (fun _ _ _ h => h) (by kernel_rfl) (by assumption) ?_; (try simp only [Act.put, List.setIfInBounds_toArray, List.set_cons_zero, List.set_cons_succ]))
          first | (refine takeL (i := 10) (v := ?v10n48) rfl (by kernel_rfl) (by kernel_rfl) (by kernel_rfl) (fun _ _ _ h => h) (by kernel_rfl) (by assumption) ?y10n48 ?r10n48; case y10n48 => (intro w hSw; (try dsimp only at hSw); go_simp; try with_reducible rfl); (try simp only [Act.put, List.setIfInBounds_toArray, List.set_cons_zero, List.set_cons_succ])) | (refine skipL (i := 10) rfl (by kernel_rfl) (by kernel_rfl) (by kernel_rfl) (fun _ _ _ h => h) (by kernel_rfl) (by assumption) ?_; (try simp only [Act.put, List.setIfInBounds_toArray, List.set_cons_zero, List.set_cons_succ]))
          first | (refine takeL (i := 11) (v := ?v11n49) rfl (by kernel_rfl) (by kernel_rfl) (by kernel_rfl) (fun _ _ _ h => h) (by kernel_rfl) (by assumption) ?y11n49 ?r11n49; case y11n49 => (intro w hSw; (try dsimp only at hSw); go_simp; try with_reducible rfl); (try simp only [Act.put, List.setIfInBounds_toArray, List.set_cons_zero, List.set_cons_succ])) | (refine skipL (i := 11) rfl (by kernel_rfl) (by kernel_rfl) (by kernel_rfl) (fun _ _ _ h => h) (by kernel_rfl) (by assumption) ?_; (try simp only [Act.put, List.setIfInBounds_toArray, List.set_cons_zero, List.set_cons_succ]))
          first | (refine takeL (i := 12) (v := ?v12n50) rfl (by kernel_rfl) (by kernel_rfl) (by kernel_rfl) (fun _ _ _ h => h) (by kernel_rfl) (by assumption) ?y12n50 ?r12n50; case y12n50 => (intro w hSw; (try dsimp only at hSw); go_simp; try with_reducible rfl); (try simp only [Act.put, List.setIfInBounds_toArray, List.set_cons_zero, List.set_cons_succ])) | (refine skipL (i := 12) rfl (by kernel_rfl) (by kernel_rfl) (by kernel_rfl) (fun _ _ _ h => h) (by kernel_rfl) (by assumption) ?_; (try simp only [Act.put, List.setIfInBounds_toArray, List.set_cons_zero, List.set_cons_succ]))
          first | (refine takeL (i := 13) (v := ?v13n51) rfl (by kernel_rfl) (by kernel_rfl) (by kernel_rfl) (fun _ _ _ h => h) (by kernel_rfl) (by assumption) ?y13n51 ?r13n51; case y13n51 => (intro w hSw; (try dsimp only at hSw); go_simp; try with_reducible rfl); (try simp only [Act.put, List.setIfInBounds_toArray, List.set_cons_zero, List.set_cons_succ])) | (refine skipL (i := 13) rfl (by kernel_rfl) (by kernel_rfl) (by kernel_rfl) (fun _ _ _ h => h) (by kernel_rfl) (by assumption) ?_; (try simp only [Act.put, List.setIfInBounds_toArray, List.set_cons_zero, List.set_cons_succ]))
          first | (refine takeL (i := 15) (v := ?v15n52) rfl (by kernel_rfl) (by kernel_rfl) (by kernel_rfl) (fun _ _ _ h => h) (by kernel_rfl) (by assumption) ?y15n52 ?r15n52; case y15n52 => (intro w hSw; (try dsimp only at hSw); go_simp; try with_reducible rfl); (try simp only [Act.put, List.setIfInBounds_toArray, List.set_cons_zero, List.set_cons_succ])) | (refine skipL (i := 15) rfl (by kernel_rfl) (by kernel_rfl) (by kernel_rfl) (fun _ _ _ h => h) (by kernel_rfl) (by assumption) ?_; (try simp only [Act.put, List.setIfInBounds_toArray, List.set_cons_zero, List.set_cons_succ]))
          first | (refine takeL (i := 16) (v := ?v16n53) rfl (by kernel_rfl) (by kernel_rfl) (by kernel_rfl) (fun _ _ _ h => h) (by kernel_rfl) (by assumption) ?y16n53 ?r16n53; case y16n53 => (intro w hSw; (try dsimp only at hSw); go_simp; try with_reducible rfl); (try simp only [Act.put, List.setIfInBounds_toArray, List.set_cons_zero, List.set_cons_succ])) | (refine skipL (i := 16) rfl (by kernel_rfl) (by kernel_rfl) (by kernel_rfl) (fun _ _ _ h => h) (by kernel_rfl) (by assumption) ?_; (try simp only [Act.put, List.setIfInBounds_toArray, List.set_cons_zero, List.set_cons_succ]))
          first | (refine takeL (i := 17) (v := ?v17n54) rfl (by kernel_rfl) (by kernel_rfl) (by kernel_rfl) (fun _ _ _ h => h) (by kernel_rfl) (by assumption) ?y17n54 ?r17n54; case y17n54 => (intro w hSw; (try dsimp only at hSw); go_simp; try with_reducible rfl); (try simp only [Act.put, List.setIfInBounds_toArray, List.set_cons_zero, List.set_cons_succ])) | (refine skipL (i := 17) rfl (by kernel_rfl) (by kernel_rfl) (by kernel_rfl) (fun _ _ _ h => h) (by kernel_rfl) (by assumption) ?_; (try simp only [Act.put, List.setIfInBounds_toArray, List.set_cons_zero, List.set_cons_succ]))
          refine doL (i := 14) rfl (by kernel_rfl) (fun K hK => ?_)
          go_simp
          (go_at_call 36; obtain ⟨hF9, hR9⟩ := hHeld.2.2.2.2.2.2.2.2.2; refine (hF9.g.implFieldUnder (f := ⟨ak, ao, !am⟩) (g := ⟨bk, bo, bm⟩) HDB.out).mono ?_; rintro e w9 ⟨rfl, hb9⟩; have F9 := hF9.keep hb9; have R9 := hR9.below hb9 hR9.lt; have j0 := F9.a.cell (o := 0) rfl; have j1 := F9.a.cell (o := 1) rfl; have j2 := F9.a.cell (o := 2) rfl; have j3 := F9.b.cell (o := 0) rfl; have j4 := F9.b.cell (o := 1) rfl; have j5 := F9.b.cell (o := 2) rfl; have j6 := R9.cell (o := 0) rfl; have j7 := R9.cell (o := 1) rfl; have j8 := R9.cell (o := 2) rfl; clear hF9 hR9 hb9)
          (try go_wp2_with fail)
          refine hK.out _ _ ?_ (fun hHeld2 => ?_)
          · (try dsimp only); (refine ⟨?_, ?_, ?_, ?_, ?_, ?_, ?_, ?_, ?_, ?_, ?_⟩ <;> first | assumption | exact FS.drew (by assumption) | exact Rec.drew (by assumption) | go_keep)
          clear hK K hHeld
          have hHeld := hHeld2
          clear hHeld2
          try simp only [Act.put, List.setIfInBounds_toArray, List.set_cons_zero, List.set_cons_succ]
          refine doL (i := 18) rfl (by kernel_rfl) (fun K hK => ?_)
          go_simp
          (go_at_call 36; obtain ⟨hF9, hR9⟩ := hHeld.2.2.2.2.2.2.2.2.2; refine (hF9.g.implFieldUnder (f := ⟨ak, ao, am⟩) (g := ⟨bk, bo, bm⟩) HX.out).mono ?_; rintro e w9 ⟨rfl, hb9⟩; have F9 := hF9.keep hb9; have R9 := hR9.below hb9 hR9.lt; have j0 := F9.a.cell (o := 0) rfl; have j1 := F9.a.cell (o := 1) rfl; have j2 := F9.a.cell (o := 2) rfl; have j3 := F9.b.cell (o := 0) rfl; have j4 := F9.b.cell (o := 1) rfl; have j5 := F9.b.cell (o := 2) rfl; have j6 := R9.cell (o := 0) rfl; have j7 := R9.cell (o := 1) rfl; have j8 := R9.cell (o := 2) rfl; clear hF9 hR9 hb9)
          (try go_wp2_with fail)
          refine hK.out _ _ ?_ (fun hHeld2 => ?_)
          · (try dsimp only); (refine ⟨?_, ?_, ?_, ?_, ?_, ?_, ?_, ?_, ?_, ?_, ?_⟩ <;> first | assumption | exact FS.drew (by assumption) | exact Rec.drew (by assumption) | go_keep)
          clear hK K hHeld
          have hHeld := hHeld2
          clear hHeld2
          try simp only [Act.put, List.setIfInBounds_toArray, List.set_cons_zero, List.set_cons_succ]
          first | (refine takeL (i := 19) (v := ?v19n55) rfl (by kernel_rfl) (by kernel_rfl) (by kernel_rfl) (fun _ _ _ h => h) (by kernel_rfl) (by assumption) ?y19n55 ?r19n55; case y19n55 => (intro w hSw; (try dsimp only at hSw); go_simp; try with_reducible rfl); (try simp only [Act.put, List.setIfInBounds_toArray, List.set_cons_zero, List.set_cons_succ])) | (refine skipL (i := 19) rfl (by kernel_rfl) (by kernel_rfl) (by kernel_rfl) (fun _ _ _ h => h) (by kernel_rfl) (by assumption) ?_; (try simp only [Act.put, List.setIfInBounds_toArray, List.set_cons_zero, List.set_cons_succ]))
          first | (refine takeL (i := 20) (v := ?v20n56) rfl (by kernel_rfl) (by kernel_rfl) (by kernel_rfl) (fun _ _ _ h => h) (by kernel_rfl) (by assumption) ?y20n56 ?r20n56; case y20n56 => (intro w hSw; (try dsimp only at hSw); go_simp; try with_reducible rfl); (try simp only [Act.put, List.setIfInBounds_toArray, List.set_cons_zero, List.set_cons_succ])) | (refine skipL (i := 20) rfl (by kernel_rfl) (by kernel_rfl) (by kernel_rfl) (fun _ _ _ h => h) (by kernel_rfl) (by assumption) ?_; (try simp only [Act.put, List.setIfInBounds_toArray, List.set_cons_zero, List.set_cons_succ]))
          first | (refine takeL (i := 21) (v := ?v21n57) rfl (by kernel_rfl) (by kernel_rfl) (by kernel_rfl) (fun _ _ _ h => h) (by kernel_rfl) (by assumption) ?y21n57 ?r21n57; case y21n57 => (intro w hSw; (try dsimp only at hSw); go_simp; try with_reducible rfl); (try simp only [Act.put, List.setIfInBounds_toArray, List.set_cons_zero, List.set_cons_succ])) | (refine skipL (i := 21) rfl (by kernel_rfl) (by kernel_rfl) (by kernel_rfl) (fun _ _ _ h => h) (by kernel_rfl) (by assumption) ?_; (try simp only [Act.put, List.setIfInBounds_toArray, List.set_cons_zero, List.set_cons_succ]))
          refine wpAnyH_done (by kernel_rfl) ?_ _
          go_wp2_with fail
          go_ret
          exact ⟨rfl, F9.g.bel⟩
end Go.Proofs.YtfnipbnchkonoaaDoor
