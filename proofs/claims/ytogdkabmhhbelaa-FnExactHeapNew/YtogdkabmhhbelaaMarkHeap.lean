/- A heap of an answer's own: the laws' marks written into it, and asked for again. -/
import Derived.Test.YtogdkabmhhbelaaMarkNum
namespace Go.Proofs.Ytogdkabmhhbelaa
open Go.ChangeShapes Go.WideShapes Go.ChangeAt Go.RowKit Go.Joins Go.Deep
set_option linter.unusedVariables false

/-- Of what was there nothing but blocks from lo on and below hi has turned. -/
structure ButIn (lo hi : Nat) (w w' : World) : Prop where
  os : w'.os = w.os
  tape : w'.tape = w.tape
  output : w'.output = w.output
  size : w.heap.size ≤ w'.heap.size
  block : ∀ k, k < w.heap.size → k < lo ∨ hi ≤ k → w'.heap[k]? = w.heap[k]?
theorem ButIn.trans {lo hi : Nat} {a b c : World} (h : ButIn lo hi a b) (k : ButIn lo hi b c) : ButIn lo hi a c :=
  ⟨k.os.trans h.os, k.tape.trans h.tape, k.output.trans h.output, Nat.le_trans h.size k.size, fun i h1 h2 => (k.block i (Nat.lt_of_lt_of_le h1 h.size) h2).trans (h.block i h1 h2)⟩
theorem Turned.butIn {lo hi : Nat} {w w' : World} (h : Turned lo hi w w') : ButIn lo hi w w' := ⟨h.os, h.tape, h.output, Nat.le_of_eq h.size.symm, fun k _ hk => h.block k hk⟩
theorem ButIn.of_below {lo hi : Nat} {w w' : World} (h : Below w.heap.size w w') : ButIn lo hi w w' := ⟨h.os, h.tape, h.output, h.size, fun k hk _ => h.block k hk⟩
theorem ButIn.below {lo hi : Nat} {w w' : World} (h : ButIn lo hi w w') (hl : lo ≤ w.heap.size) : Below lo w w' := ⟨h.os, h.tape, h.output, h.size, fun k hk => h.block k (by omega) (.inl hk)⟩
theorem Rec.butIn {lo hi b : Nat} {w w' : World} {T : TypeId} {vs : List Value} (h : Rec w b T vs) (ht : ButIn lo hi w w') (hb : b < lo ∨ hi ≤ b) : Rec w' b T vs := (ht.block b h.lt hb).trans h

set_option maxHeartbeats 800000 in
theorem markHeap_any (a0 a4 : Option Addr) (c0 c4 n0 n4 lo hi : Nat) (o1 o2 o3 k : Int) (w : World) (hn0 : n0 ≤ 1048576) (hn4 : n4 ≤ 1048576) (k0 : 0 ≤ k) (k1 : k ≤ 1048576) (h0 : NSh w lo hi a0 n0) (h4 : NSh w lo hi a4 n4) (ha : Apart a0 a4 n0 n4) (hh : hi ≤ w.heap.size) :
    Calls Try.prog 20 #[.agg #[.slice a0 n0 c0, .int .i64 o1, .int .i64 o2, .int .i64 o3, .slice a4 n4 c4], .int .i64 k] w fun e w' => e = .returned (.int .i64 (k + n0 + n4)) ∧ Marked w' lo hi a0 n0 k ∧ Marked w' lo hi a4 n4 (k + n0) ∧ ButIn lo hi w w' := by
  have H0 := hide h0
  have H4 := hide h4
  have HA := hide ha
  have HH := hide hh
  clear h0 h4 ha hh
  have HB : Hid (Below w.heap.size w (w.alloc (.cells #[.slice a0 n0 c0, .int .i64 o1, .int .i64 o2, .int .i64 o3, .slice a4 n4 c4] 43))) := (Below.refl _ _).alloc (Nat.le_refl _) _
  go_enter Try.func20, Try.ntmps20
  go_wp2_with fail
  refine (markIntS_any a0 c0 n0 lo hi k _ hn0 k0 (by omega) (H0.out.keep (HB.out.mono HH.out))).mono ?_
  rintro e w1 ⟨rfl, m0, s0, t1, u1⟩
  have R1 := hide ((Rec.new' w 43 [.slice a0 n0 c0, .int .i64 o1, .int .i64 o2, .int .i64 o3, .slice a4 n4 c4] _ rfl).turned t1 (.inr HH.out))
  have r4 := R1.out.cell (o := 4) rfl
  have M0 := hide m0
  have T1 := hide t1
  have U1 := hide u1
  clear m0 s0 t1 u1
  go_wp2_with fail
  have S4 : Hid (NSh w1 lo hi a4 n4) := by
    show NSh w1 lo hi a4 n4
    rcases HA.out with e | e | e
    · rcases H4.out with h | ⟨b, m, rfl, h1, h2, ho, hm⟩
      · exact .inl h
      · exact .inr ⟨b, m, rfl, h1, h2, (ho.below HB.out (Nat.lt_of_lt_of_le h2 HH.out)).of_block (U1.out b (.inl e)), hm⟩
    · exact .inl e
    · rcases H4.out with h | ⟨b, m, rfl, h1, h2, ho, hm⟩
      · exact .inl h
      · exact .inr ⟨b, m, rfl, h1, h2, (ho.below HB.out (Nat.lt_of_lt_of_le h2 HH.out)).of_block (U1.out b (.inr fun b' hb' hbb => e b' b hb' rfl hbb.symm)), hm⟩
  refine (markIntS_any a4 c4 n4 lo hi (k + n0) _ hn4 (by omega) (by omega) S4.out).mono ?_
  rintro e w2 ⟨rfl, m4, s4, t2, u2⟩
  have X : Hid (Marked w2 lo hi a0 n0 k ∧ Marked w2 lo hi a4 n4 (k + n0) ∧ ButIn lo hi w w2) := by
    refine ⟨?_, m4, (ButIn.of_below HB.out).trans (T1.out.trans t2).butIn⟩
    rcases HA.out with e | e | e
    · exact .inl e
    · exact M0.out.same fun b _ _ _ => u2 b (.inl e)
    · exact M0.out.same fun b hb _ _ => u2 b (.inr fun b' hb' hbb => e b b' hb hb' hbb)
  clear m4 s4 t2 u2
  go_wp2_with fail
  go_ret
  exact ⟨rfl, X.out⟩

set_option maxHeartbeats 800000 in
theorem heldHeap_any (a0 a4 : Option Addr) (c0 c4 n0 n4 lo hi : Nat) (o1 o2 o3 k : Int) (w : World) (hn0 : n0 ≤ 1048576) (hn4 : n4 ≤ 1048576) (k0 : 0 ≤ k) (k1 : k ≤ 1048576) (h0 : Marked w lo hi a0 n0 k) (h4 : Marked w lo hi a4 n4 (k + n0)) (hh : hi ≤ w.heap.size) :
    Calls Try.prog 21 #[.agg #[.slice a0 n0 c0, .int .i64 o1, .int .i64 o2, .int .i64 o3, .slice a4 n4 c4], .int .i64 k] w fun e w' => e = .returned (.int .i64 (k + n0 + n4)) ∧ Below w.heap.size w w' := by
  have H0 := hide h0
  have H4 := hide h4
  have HH := hide hh
  clear h0 h4 hh
  have HB : Hid (Below w.heap.size w (w.alloc (.cells #[.slice a0 n0 c0, .int .i64 o1, .int .i64 o2, .int .i64 o3, .slice a4 n4 c4] 43))) := (Below.refl _ _).alloc (Nat.le_refl _) _
  go_enter Try.func21, Try.ntmps21
  go_wp2_with fail
  refine (heldIntS_any a0 c0 n0 lo hi k _ hn0 k0 (by omega) (H0.out.keep (HB.out.mono HH.out))).mono ?_
  rintro e w1 ⟨rfl, q1, rfl⟩
  go_wp2_with fail
  refine (heldIntS_any a4 c4 n4 lo hi (k + n0) _ hn4 (by omega) (by omega) ((H4.out.keep (HB.out.mono HH.out)).keep (below_drewN (Below.refl _ _) q1))).mono ?_
  rintro e w2 ⟨rfl, q2, rfl⟩
  go_wp2_with fail
  go_ret
  exact ⟨rfl, below_drewN HB.out _⟩
end Go.Proofs.Ytogdkabmhhbelaa
