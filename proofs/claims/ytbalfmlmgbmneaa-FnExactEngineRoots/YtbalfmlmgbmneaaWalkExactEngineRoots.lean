/- The law FnExactEngineRoots, walked. Written by tools/lawexact.py. -/
import Derived.Test.YtbalfmlmgbmneaaRootsM
import Derived.Test.YtbalfmlmgbmneaaMarkEngine
import Derived.Test.YtbalfmlmgbmneaaHeldVal
import Derived.Test.YtbalfmlmgbmneaaEqValBig
import Derived.Test.YtbalfmlmgbmneaaGenEngine
namespace Go.Proofs.Ytbalfmlmgbmneaa
open Go.ChangeShapes Go.WideShapes Go.ChangeAt Go.RowKit Go.Joins Go.Deep
set_option linter.unusedVariables false

theorem big_roots {n : Nat} (hn : n ≤ 1048576) : 1048576 + 2097152 * n ≤ 4398046511104 := by omega
theorem ValRow.own {w : World} {S cap : Nat} {a : Option Addr} {vs : List GVal} (h : ValRow w S a cap vs) : ValsM true w S w.heap.size a vs := by
  rcases h.2 with ⟨_, h0⟩ | ⟨g, c, cur, e, hS, hg, h1, h2, h3, h4⟩
  · exact .inl (List.length_eq_zero_iff.1 (by omega))
  · rcases h.vals with h0 | ⟨b, off, e2, q1, q2, _, q3⟩
    · exact .inl h0
    · injection e with e3 _ e5
      rw [e2] at e3
      injection e3 with e3
      injection e3 with e6 e7 _
      subst e6 e7
      exact .inr ⟨b, 0, e2, q1, q2, fun _ => ⟨rfl, cur.size, ⟨cur, hg, rfl⟩, by omega⟩, q3⟩

set_option maxHeartbeats 4000000 in
set_option maxRecDepth 100000 in
theorem fnExactEngineRoots_walk (a0 : Option Addr) (c0 : Nat) (a4 : Option Addr) (c4 : Nat) (a5 : Option Addr) (c5 : Nat) (a6 : Option Addr) (c6 : Nat) (a7 : Option Addr) (c7 : Nat) (x : GEngine) (w : World) (hl : EngineB 9223372036854775807 x) (g0 : NumsM false w 0 w.heap.size a0 x.heap.words) (g4 : NumsM false w 0 w.heap.size a4 x.heap.log) (g5 : ValsM false w 0 w.heap.size a5 x.glob) (g6 : FramesM false w 0 w.heap.size a6 x.frames) (g7 : NumsM false w 0 w.heap.size a7 x.outs) :
    Calls Try.prog 3 #[.agg #[.slice a0 x.heap.words.length c0, .int .i64 x.heap.old, .int .i64 x.heap.oldAt, .int .i64 x.heap.youngAt, .slice a4 x.heap.log.length c4, .slice a5 x.glob.length c5, .slice a6 x.frames.length c6, .slice a7 x.outs.length c7, .int .i64 x.asked, .int .i64 x.code, .int .i64 x.steps]] w fun e w' => e = .returned (.bool true) ∧ Below w.heap.size w w' := by
  have HLn := hide hl
  have X0 := hide g0
  have X4 := hide g4
  have X5 := hide g5
  have X6 := hide g6
  have X7 := hide g7
  clear hl g0 g4 g5 g6 g7
  have BB : Hid (Below w.heap.size w (w.alloc (.cells #[.slice a0 x.heap.words.length c0, .int .i64 x.heap.old, .int .i64 x.heap.oldAt, .int .i64 x.heap.youngAt, .slice a4 x.heap.log.length c4, .slice a5 x.glob.length c5, .slice a6 x.frames.length c6, .slice a7 x.outs.length c7, .int .i64 x.asked, .int .i64 x.code, .int .i64 x.steps] 28))) := (Below.refl _ _).alloc (Nat.le_refl _) _
  have RR : Hid (Rec (w.alloc (.cells #[.slice a0 x.heap.words.length c0, .int .i64 x.heap.old, .int .i64 x.heap.oldAt, .int .i64 x.heap.youngAt, .slice a4 x.heap.log.length c4, .slice a5 x.glob.length c5, .slice a6 x.frames.length c6, .slice a7 x.outs.length c7, .int .i64 x.asked, .int .i64 x.code, .int .i64 x.steps] 28)) w.heap.size 28 [.slice a0 x.heap.words.length c0, .int .i64 x.heap.old, .int .i64 x.heap.oldAt, .int .i64 x.heap.youngAt, .slice a4 x.heap.log.length c4, .slice a5 x.glob.length c5, .slice a6 x.frames.length c6, .slice a7 x.outs.length c7, .int .i64 x.asked, .int .i64 x.code, .int .i64 x.steps]) := Rec.new _ _ _
  go_enter Try.func3, Try.ntmps3
  go_wp2_with fail
  refine (szEngine_any a0 a4 a5 a6 a7 c0 c4 c5 c6 c7 0 w.heap.size x 1048576 _ HLn.out (X0.out.keep BB.out) (X4.out.keep BB.out) (X5.out.keep BB.out) (X6.out.keep BB.out) (X7.out.keep BB.out) BB.out.size (by omega) (by omega)).mono ?_
  rintro e w0 ⟨r, rfl, r1, r2, r3, hb0⟩
  have B0 := hide (BB.out.trans (hb0.mono BB.out.size))
  have R0 := hide (RR.out.below hb0 RR.out.lt)
  clear hb0 BB RR
  by_cases hr : r < 0
  · clear r3
    go_wp2_with fail
    go_ret
    exact ⟨rfl, B0.out⟩
  have hf := hide (r3 (by omega))
  clear r3
  have hf2 := hf.out
  have HBd : Hid ((rootsL x.glob x.frames).length ≤ 4398046511104) := Nat.le_trans (rootsTo_len x.glob x.frames hf2.2.2.1 hf2.2.2.2.1.2 x.frames.length (Nat.le_refl _)) (big_roots hf2.2.2.2.1.1)
  have HSp : Hid (∀ (n0 : Option Addr) (n4 : Option Addr) (n5 : Option Addr) (n6 : Option Addr) (n7 : Option Addr) (lo hi : Nat) (W : World), NumsM true W lo hi n0 x.heap.words → NumsM true W lo hi n4 x.heap.log → ValsM true W lo hi n5 x.glob → FramesM true W lo hi n6 x.frames → NumsM true W lo hi n7 x.outs → hi ≤ W.heap.size → Calls Try.prog 5 #[.agg #[.slice n0 x.heap.words.length x.heap.words.length, .int .i64 x.heap.old, .int .i64 x.heap.oldAt, .int .i64 x.heap.youngAt, .slice n4 x.heap.log.length x.heap.log.length, .slice n5 x.glob.length x.glob.length, .slice n6 x.frames.length x.frames.length, .slice n7 x.outs.length x.outs.length, .int .i64 x.asked, .int .i64 x.code, .int .i64 x.steps]] W fun e w' => ∃ a c, e = .returned (.slice a (rootsL x.glob x.frames).length c) ∧ ValsM true w' W.heap.size w'.heap.size a (rootsL x.glob x.frames) ∧ Below W.heap.size W w') := fun n0 n4 n5 n6 n7 lo hi W q0 q4 q5 q6 q7 hh => (specRoots_any n0 _ n4 _ n5 _ n6 _ n7 _ lo hi x W hf2.2.2.1 hf2.2.2.2.1 q5 q6 hh).mono fun e w' ⟨a, c, h1, h2, h3⟩ => ⟨a, c, h1, h2.own, h3⟩
  have HIm : Hid (∀ (n0 : Option Addr) (n4 : Option Addr) (n5 : Option Addr) (n6 : Option Addr) (n7 : Option Addr) (lo hi : Nat) (W : World), NumsM true W lo hi n0 x.heap.words → NumsM true W lo hi n4 x.heap.log → ValsM true W lo hi n5 x.glob → FramesM true W lo hi n6 x.frames → NumsM true W lo hi n7 x.outs → hi ≤ W.heap.size → Calls Try.prog 7 #[.agg #[.slice n0 x.heap.words.length x.heap.words.length, .int .i64 x.heap.old, .int .i64 x.heap.oldAt, .int .i64 x.heap.youngAt, .slice n4 x.heap.log.length x.heap.log.length, .slice n5 x.glob.length x.glob.length, .slice n6 x.frames.length x.frames.length, .slice n7 x.outs.length x.outs.length, .int .i64 x.asked, .int .i64 x.code, .int .i64 x.steps]] W fun e w' => ∃ a c, e = .returned (.slice a (rootsL x.glob x.frames).length c) ∧ ValsM true w' W.heap.size w'.heap.size a (rootsL x.glob x.frames) ∧ Below W.heap.size W w') := fun n0 n4 n5 n6 n7 lo hi W q0 q4 q5 q6 q7 hh => (implRoots_any n0 _ n4 _ n5 _ n6 _ n7 _ lo hi x W hf2.2.2.1 hf2.2.2.2.1 q5 q6 hh).mono fun e w' ⟨a, c, h1, h2, h3⟩ => ⟨a, c, h1, h2.own, h3⟩
  clear hf2
  generalize rootsL x.glob x.frames = xs at *
  have kc0 := R0.out.cell (o := 0) rfl
  have kc1 := R0.out.cell (o := 1) rfl
  have kc2 := R0.out.cell (o := 2) rfl
  have kc3 := R0.out.cell (o := 3) rfl
  have kc4 := R0.out.cell (o := 4) rfl
  have kc5 := R0.out.cell (o := 5) rfl
  have kc6 := R0.out.cell (o := 6) rfl
  have kc7 := R0.out.cell (o := 7) rfl
  have kc8 := R0.out.cell (o := 8) rfl
  have kc9 := R0.out.cell (o := 9) rfl
  have kc10 := R0.out.cell (o := 10) rfl
  go_wp2_with fail
  refine (toEngine_any a0 c0 a4 c4 a5 c5 a6 c6 a7 c7 0 w.heap.size x _ hf.out (X0.out.keep B0.out) (X4.out.keep B0.out) (X5.out.keep B0.out) (X6.out.keep B0.out) (X7.out.keep B0.out) B0.out.size).mono ?_
  rintro e w1 ⟨n0A, n4A, n5A, n6A, n7A, rfl, q0A, q4A, q5A, q6A, q7A, hb⟩
  have Q0A := hide q0A
  have Q4A := hide q4A
  have Q5A := hide q5A
  have Q6A := hide q6A
  have Q7A := hide q7A
  have SA := hide hb.size
  have B1 := hide (B0.out.trans (hb.mono B0.out.size))
  have R1 := hide (R0.out.below hb R0.out.lt)
  clear hb q0A q4A q5A q6A q7A
  clear kc0 kc1 kc2 kc3 kc4 kc5 kc6 kc7 kc8 kc9 kc10
  go_wp2_with fail
  refine (HSp.out n0A n4A n5A n6A n7A w0.heap.size w1.heap.size w1 Q0A.out Q4A.out Q5A.out Q6A.out Q7A.out (Nat.le_refl _)).mono ?_
  rintro e w2 ⟨at2, ct2, rfl, ht2, hb⟩
  have T2 := hide ht2
  have S2 := hide hb.size
  have B2 := hide (B1.out.trans (hb.mono B1.out.size))
  have R2 := hide (R1.out.below hb R1.out.lt)
  clear hb ht2
  have kc0 := R2.out.cell (o := 0) rfl
  have kc1 := R2.out.cell (o := 1) rfl
  have kc2 := R2.out.cell (o := 2) rfl
  have kc3 := R2.out.cell (o := 3) rfl
  have kc4 := R2.out.cell (o := 4) rfl
  have kc5 := R2.out.cell (o := 5) rfl
  have kc6 := R2.out.cell (o := 6) rfl
  have kc7 := R2.out.cell (o := 7) rfl
  have kc8 := R2.out.cell (o := 8) rfl
  have kc9 := R2.out.cell (o := 9) rfl
  have kc10 := R2.out.cell (o := 10) rfl
  go_wp2_with fail
  refine (toEngine_any a0 c0 a4 c4 a5 c5 a6 c6 a7 c7 0 w.heap.size x _ hf.out (X0.out.keep B2.out) (X4.out.keep B2.out) (X5.out.keep B2.out) (X6.out.keep B2.out) (X7.out.keep B2.out) B2.out.size).mono ?_
  rintro e w3 ⟨n0B, n4B, n5B, n6B, n7B, rfl, q0B, q4B, q5B, q6B, q7B, hb⟩
  have Q0B := hide q0B
  have Q4B := hide q4B
  have Q5B := hide q5B
  have Q6B := hide q6B
  have Q7B := hide q7B
  have SB := hide hb.size
  have B3 := hide (B2.out.trans (hb.mono B2.out.size))
  have R3 := hide (R2.out.below hb R2.out.lt)
  have T3 := hide (T2.out.keep hb)
  clear hb q0B q4B q5B q6B q7B
  clear kc0 kc1 kc2 kc3 kc4 kc5 kc6 kc7 kc8 kc9 kc10
  obtain ⟨xb, hxb⟩ : ∃ xb, xb = w3.heap.size := ⟨_, rfl⟩
  obtain ⟨w4, hw4⟩ : ∃ w4, w4 = w3.alloc (.cells #[.slice n0B x.heap.words.length x.heap.words.length, .int .i64 x.heap.old, .int .i64 x.heap.oldAt, .int .i64 x.heap.youngAt, .slice n4B x.heap.log.length x.heap.log.length, .slice n5B x.glob.length x.glob.length, .slice n6B x.frames.length x.frames.length, .slice n7B x.outs.length x.outs.length, .int .i64 x.asked, .int .i64 x.code, .int .i64 x.steps] 35) := ⟨_, rfl⟩
  have hb4 : Below w3.heap.size w3 w4 := by rw [hw4]; exact (Below.refl _ _).alloc (Nat.le_refl _) _
  have P4 : Hid (Rec w4 xb 35 [.slice n0B x.heap.words.length x.heap.words.length, .int .i64 x.heap.old, .int .i64 x.heap.oldAt, .int .i64 x.heap.youngAt, .slice n4B x.heap.log.length x.heap.log.length, .slice n5B x.glob.length x.glob.length, .slice n6B x.frames.length x.frames.length, .slice n7B x.outs.length x.outs.length, .int .i64 x.asked, .int .i64 x.code, .int .i64 x.steps]) := by rw [hw4]; exact Rec.new' _ _ _ _ hxb
  have S4 : Hid (w4.heap.size = w3.heap.size + 1) := by show _ = _; rw [hw4]; simp
  have B4 := hide (B3.out.trans (hb4.mono B3.out.size))
  have R4 := hide (R3.out.below hb4 R3.out.lt)
  have T4 := hide (T3.out.keep (hb4.mono (by have := SB.out; omega)))
  have Q0C := hide (Q0B.out.keep hb4)
  have Q4C := hide (Q4B.out.keep hb4)
  have Q5C := hide (Q5B.out.keep hb4)
  have Q6C := hide (Q6B.out.keep hb4)
  have Q7C := hide (Q7B.out.keep hb4)
  clear hb4
  go_upto_region 7 with (fail)
  rw [← hw4, ← hxb]
  have HXB := hide hxb
  clear hw4 hxb
  have kp0 := P4.out.cell (o := 0) rfl
  have kp1 := P4.out.cell (o := 1) rfl
  have kp2 := P4.out.cell (o := 2) rfl
  have kp3 := P4.out.cell (o := 3) rfl
  have kp4 := P4.out.cell (o := 4) rfl
  have kp5 := P4.out.cell (o := 5) rfl
  have kp6 := P4.out.cell (o := 6) rfl
  have kp7 := P4.out.cell (o := 7) rfl
  have kp8 := P4.out.cell (o := 8) rfl
  have kp9 := P4.out.cell (o := 9) rfl
  have kp10 := P4.out.cell (o := 10) rfl
  go_wp2_with fail
  refine (HIm.out n0B n4B n5B n6B n7B w2.heap.size w3.heap.size w4 Q0C.out Q4C.out Q5C.out Q6C.out Q7C.out (by have := S4.out; omega)).mono ?_
  rintro e w5 ⟨ag5, cg5, rfl, hg5, hb⟩
  have G5 := hide hg5
  have S5 := hide hb.size
  have B5 := hide (B4.out.trans (hb.mono B4.out.size))
  have R5 := hide (R4.out.below hb R4.out.lt)
  have P5 := hide (P4.out.below hb P4.out.lt)
  have T5 := hide (T4.out.keep (hb.mono (by have := SB.out; have := S4.out; omega)))
  have Q0D := hide (Q0C.out.keep (hb.mono (by have := S4.out; omega)))
  have Q4D := hide (Q4C.out.keep (hb.mono (by have := S4.out; omega)))
  have Q5D := hide (Q5C.out.keep (hb.mono (by have := S4.out; omega)))
  have Q6D := hide (Q6C.out.keep (hb.mono (by have := S4.out; omega)))
  have Q7D := hide (Q7C.out.keep (hb.mono (by have := S4.out; omega)))
  clear hb hg5
  clear kp0 kp1 kp2 kp3 kp4 kp5 kp6 kp7 kp8 kp9 kp10
  go_wp2_with fail
  refine (eqValB_g ag5 at2 cg5 ct2 w4.heap.size w5.heap.size w1.heap.size w2.heap.size xs w5 HBd.out G5.out T5.out (Nat.le_refl _) (by have e1 := SA.out; have e2 := S2.out; have e3 := SB.out; have e4 := S4.out; have e5 := S5.out; omega)).mono ?_
  rintro e w6 ⟨rfl, hb⟩
  have S6 := hide hb.size
  have B6 := hide (B5.out.trans (hb.mono B5.out.size))
  have R6 := hide (R5.out.below hb R5.out.lt)
  have P6 := hide (P5.out.below hb P5.out.lt)
  have T6 := hide (T5.out.keep (hb.mono (by have e1 := SA.out; have e2 := S2.out; have e3 := SB.out; have e4 := S4.out; have e5 := S5.out; omega)))
  have G6 := hide (G5.out.keep hb)
  have Q0E := hide (Q0D.out.keep (hb.mono (by have e1 := SA.out; have e2 := S2.out; have e3 := SB.out; have e4 := S4.out; have e5 := S5.out; omega)))
  have Q4E := hide (Q4D.out.keep (hb.mono (by have e1 := SA.out; have e2 := S2.out; have e3 := SB.out; have e4 := S4.out; have e5 := S5.out; omega)))
  have Q5E := hide (Q5D.out.keep (hb.mono (by have e1 := SA.out; have e2 := S2.out; have e3 := SB.out; have e4 := S4.out; have e5 := S5.out; omega)))
  have Q6E := hide (Q6D.out.keep (hb.mono (by have e1 := SA.out; have e2 := S2.out; have e3 := SB.out; have e4 := S4.out; have e5 := S5.out; omega)))
  have Q7E := hide (Q7D.out.keep (hb.mono (by have e1 := SA.out; have e2 := S2.out; have e3 := SB.out; have e4 := S4.out; have e5 := S5.out; omega)))
  clear hb
  have kc0 := R6.out.cell (o := 0) rfl
  have kc1 := R6.out.cell (o := 1) rfl
  have kc2 := R6.out.cell (o := 2) rfl
  have kc3 := R6.out.cell (o := 3) rfl
  have kc4 := R6.out.cell (o := 4) rfl
  have kc5 := R6.out.cell (o := 5) rfl
  have kc6 := R6.out.cell (o := 6) rfl
  have kc7 := R6.out.cell (o := 7) rfl
  have kc8 := R6.out.cell (o := 8) rfl
  have kc9 := R6.out.cell (o := 9) rfl
  have kc10 := R6.out.cell (o := 10) rfl
  have kp0 := P6.out.cell (o := 0) rfl
  have kp1 := P6.out.cell (o := 1) rfl
  have kp2 := P6.out.cell (o := 2) rfl
  have kp3 := P6.out.cell (o := 3) rfl
  have kp4 := P6.out.cell (o := 4) rfl
  have kp5 := P6.out.cell (o := 5) rfl
  have kp6 := P6.out.cell (o := 6) rfl
  have kp7 := P6.out.cell (o := 7) rfl
  have kp8 := P6.out.cell (o := 8) rfl
  have kp9 := P6.out.cell (o := 9) rfl
  have kp10 := P6.out.cell (o := 10) rfl
  go_wp2_with fail
  go_region_held3 (fun w' => w'.cell? ⟨w.heap.size, 0, none⟩ = some (.slice a0 x.heap.words.length c0) ∧ w'.cell? ⟨w.heap.size, 1, none⟩ = some (.int .i64 x.heap.old) ∧ w'.cell? ⟨w.heap.size, 2, none⟩ = some (.int .i64 x.heap.oldAt) ∧ w'.cell? ⟨w.heap.size, 3, none⟩ = some (.int .i64 x.heap.youngAt) ∧ w'.cell? ⟨w.heap.size, 4, none⟩ = some (.slice a4 x.heap.log.length c4) ∧ w'.cell? ⟨w.heap.size, 5, none⟩ = some (.slice a5 x.glob.length c5) ∧ w'.cell? ⟨w.heap.size, 6, none⟩ = some (.slice a6 x.frames.length c6) ∧ w'.cell? ⟨w.heap.size, 7, none⟩ = some (.slice a7 x.outs.length c7) ∧ w'.cell? ⟨w.heap.size, 8, none⟩ = some (.int .i64 x.asked) ∧ w'.cell? ⟨w.heap.size, 9, none⟩ = some (.int .i64 x.code) ∧ w'.cell? ⟨w.heap.size, 10, none⟩ = some (.int .i64 x.steps) ∧ w'.cell? ⟨xb, 0, none⟩ = some (.slice n0B x.heap.words.length x.heap.words.length) ∧ w'.cell? ⟨xb, 1, none⟩ = some (.int .i64 x.heap.old) ∧ w'.cell? ⟨xb, 2, none⟩ = some (.int .i64 x.heap.oldAt) ∧ w'.cell? ⟨xb, 3, none⟩ = some (.int .i64 x.heap.youngAt) ∧ w'.cell? ⟨xb, 4, none⟩ = some (.slice n4B x.heap.log.length x.heap.log.length) ∧ w'.cell? ⟨xb, 5, none⟩ = some (.slice n5B x.glob.length x.glob.length) ∧ w'.cell? ⟨xb, 6, none⟩ = some (.slice n6B x.frames.length x.frames.length) ∧ w'.cell? ⟨xb, 7, none⟩ = some (.slice n7B x.outs.length x.outs.length) ∧ w'.cell? ⟨xb, 8, none⟩ = some (.int .i64 x.asked) ∧ w'.cell? ⟨xb, 9, none⟩ = some (.int .i64 x.code) ∧ w'.cell? ⟨xb, 10, none⟩ = some (.int .i64 x.steps)) (go_keep) ((first | (go_at_call 6; refine (toEngine_any a0 c0 a4 c4 a5 c5 a6 c6 a7 c7 0 w.heap.size x _ hf.out (X0.out.keep B6.out.drew) (X4.out.keep B6.out.drew) (X5.out.keep B6.out.drew) (X6.out.keep B6.out.drew) (X7.out.keep B6.out.drew) (by have := B6.out.drew.size; exact this)).mono ?_; rintro e w7 ⟨n0F, n4F, n5F, n6F, n7F, rfl, q0F, q4F, q5F, q6F, q7F, hb7⟩; have Q0F := hide q0F; have Q4F := hide q4F; have Q5F := hide q5F; have Q6F := hide q6F; have Q7F := hide q7F; have s7 := hb7.size; have s7b : w6.heap.size ≤ w7.heap.size := s7; have B7 := hide (B6.out.drew.trans (hb7.mono B6.out.drew.size)); have R7 : Hid (Rec w7 w.heap.size 28 [.slice a0 x.heap.words.length c0, .int .i64 x.heap.old, .int .i64 x.heap.oldAt, .int .i64 x.heap.youngAt, .slice a4 x.heap.log.length c4, .slice a5 x.glob.length c5, .slice a6 x.frames.length c6, .slice a7 x.outs.length c7, .int .i64 x.asked, .int .i64 x.code, .int .i64 x.steps]) := Rec.below (w := w6.drew) R6.out hb7 R6.out.lt; have P7 : Hid (Rec w7 xb 35 [.slice n0B x.heap.words.length x.heap.words.length, .int .i64 x.heap.old, .int .i64 x.heap.oldAt, .int .i64 x.heap.youngAt, .slice n4B x.heap.log.length x.heap.log.length, .slice n5B x.glob.length x.glob.length, .slice n6B x.frames.length x.frames.length, .slice n7B x.outs.length x.outs.length, .int .i64 x.asked, .int .i64 x.code, .int .i64 x.steps]) := Rec.below (w := w6.drew) P6.out hb7 P6.out.lt; have HB7 : Hid (Below w6.heap.size w6 w7) := ⟨hb7.os, hb7.tape, hb7.output, hb7.size, hb7.block⟩; clear hb7 q0F q4F q5F q6F q7F; have kc0 := R7.out.cell (o := 0) rfl; have kp0 := P7.out.cell (o := 0) rfl; have kc1 := R7.out.cell (o := 1) rfl; have kp1 := P7.out.cell (o := 1) rfl; have kc2 := R7.out.cell (o := 2) rfl; have kp2 := P7.out.cell (o := 2) rfl; have kc3 := R7.out.cell (o := 3) rfl; have kp3 := P7.out.cell (o := 3) rfl; have kc4 := R7.out.cell (o := 4) rfl; have kp4 := P7.out.cell (o := 4) rfl; have kc5 := R7.out.cell (o := 5) rfl; have kp5 := P7.out.cell (o := 5) rfl; have kc6 := R7.out.cell (o := 6) rfl; have kp6 := P7.out.cell (o := 6) rfl; have kc7 := R7.out.cell (o := 7) rfl; have kp7 := P7.out.cell (o := 7) rfl; have kc8 := R7.out.cell (o := 8) rfl; have kp8 := P7.out.cell (o := 8) rfl; have kc9 := R7.out.cell (o := 9) rfl; have kp9 := P7.out.cell (o := 9) rfl; have kc10 := R7.out.cell (o := 10) rfl; have kp10 := P7.out.cell (o := 10) rfl) | (go_at_call 9; refine (eqEngine_g n0B n0F n4B n4F n5B n5F n6B n6F n7B n7F _ _ _ _ _ _ _ _ _ _ w2.heap.size w3.heap.size w6.heap.size w7.heap.size x w7 hf.out (Q0E.out.keep (HB7.out.mono (by have e1 := SA.out; have e2 := S2.out; have e3 := SB.out; have e4 := S4.out; have e5 := S5.out; have e6 := S6.out; omega))) (Q4E.out.keep (HB7.out.mono (by have e1 := SA.out; have e2 := S2.out; have e3 := SB.out; have e4 := S4.out; have e5 := S5.out; have e6 := S6.out; omega))) (Q5E.out.keep (HB7.out.mono (by have e1 := SA.out; have e2 := S2.out; have e3 := SB.out; have e4 := S4.out; have e5 := S5.out; have e6 := S6.out; omega))) (Q6E.out.keep (HB7.out.mono (by have e1 := SA.out; have e2 := S2.out; have e3 := SB.out; have e4 := S4.out; have e5 := S5.out; have e6 := S6.out; omega))) (Q7E.out.keep (HB7.out.mono (by have e1 := SA.out; have e2 := S2.out; have e3 := SB.out; have e4 := S4.out; have e5 := S5.out; have e6 := S6.out; omega))) Q0F.out Q4F.out Q5F.out Q6F.out Q7F.out (by have e1 := SA.out; have e2 := S2.out; have e3 := SB.out; have e4 := S4.out; have e5 := S5.out; have e6 := S6.out; omega) (Nat.le_refl _)).mono ?_; rintro e w8 ⟨rfl, hb8⟩; have s8 := hb8.size; have B8 := hide (B7.out.trans (hb8.mono B7.out.size)); have R8 := hide (R7.out.below hb8 R7.out.lt); have P8 := hide (P7.out.below hb8 P7.out.lt); have HB8 := hide (HB7.out.trans (hb8.mono s7b)); clear hb8; have kc0 := R8.out.cell (o := 0) rfl; have kp0 := P8.out.cell (o := 0) rfl; have kc1 := R8.out.cell (o := 1) rfl; have kp1 := P8.out.cell (o := 1) rfl; have kc2 := R8.out.cell (o := 2) rfl; have kp2 := P8.out.cell (o := 2) rfl; have kc3 := R8.out.cell (o := 3) rfl; have kp3 := P8.out.cell (o := 3) rfl; have kc4 := R8.out.cell (o := 4) rfl; have kp4 := P8.out.cell (o := 4) rfl; have kc5 := R8.out.cell (o := 5) rfl; have kp5 := P8.out.cell (o := 5) rfl; have kc6 := R8.out.cell (o := 6) rfl; have kp6 := P8.out.cell (o := 6) rfl; have kc7 := R8.out.cell (o := 7) rfl; have kp7 := P8.out.cell (o := 7) rfl; have kc8 := R8.out.cell (o := 8) rfl; have kp8 := P8.out.cell (o := 8) rfl; have kc9 := R8.out.cell (o := 9) rfl; have kp9 := P8.out.cell (o := 9) rfl; have kc10 := R8.out.cell (o := 10) rfl; have kp10 := P8.out.cell (o := 10) rfl)))
  rename_i hHeld
  clear hHeld
  clear kc0 kc1 kc2 kc3 kc4 kc5 kc6 kc7 kc8 kc9 kc10
  clear kp0 kp1 kp2 kp3 kp4 kp5 kp6 kp7 kp8 kp9 kp10
  have T8 := hide (T6.out.keep (HB8.out.mono (by have e1 := SA.out; have e2 := S2.out; have e3 := SB.out; have e4 := S4.out; have e5 := S5.out; have e6 := S6.out; omega)))
  have G8 := hide (G6.out.keep (HB8.out.mono (by have e1 := SA.out; have e2 := S2.out; have e3 := SB.out; have e4 := S4.out; have e5 := S5.out; have e6 := S6.out; omega)))
  have Q0G := hide (Q0E.out.keep (HB8.out.mono (by have e1 := SA.out; have e2 := S2.out; have e3 := SB.out; have e4 := S4.out; have e5 := S5.out; have e6 := S6.out; omega)))
  have Q4G := hide (Q4E.out.keep (HB8.out.mono (by have e1 := SA.out; have e2 := S2.out; have e3 := SB.out; have e4 := S4.out; have e5 := S5.out; have e6 := S6.out; omega)))
  have Q5G := hide (Q5E.out.keep (HB8.out.mono (by have e1 := SA.out; have e2 := S2.out; have e3 := SB.out; have e4 := S4.out; have e5 := S5.out; have e6 := S6.out; omega)))
  have Q6G := hide (Q6E.out.keep (HB8.out.mono (by have e1 := SA.out; have e2 := S2.out; have e3 := SB.out; have e4 := S4.out; have e5 := S5.out; have e6 := S6.out; omega)))
  have Q7G := hide (Q7E.out.keep (HB8.out.mono (by have e1 := SA.out; have e2 := S2.out; have e3 := SB.out; have e4 := S4.out; have e5 := S5.out; have e6 := S6.out; omega)))
  clear Q0F Q0E Q0D Q0C Q0B Q0A Q4F Q4E Q4D Q4C Q4B Q4A Q5F Q5E Q5D Q5C Q5B Q5A Q6F Q6E Q6D Q6C Q6B Q6A Q7F Q7E Q7D Q7C Q7B Q7A
  have kp0 := P8.out.cell (o := 0) rfl
  have kp1 := P8.out.cell (o := 1) rfl
  have kp2 := P8.out.cell (o := 2) rfl
  have kp3 := P8.out.cell (o := 3) rfl
  have kp4 := P8.out.cell (o := 4) rfl
  have kp5 := P8.out.cell (o := 5) rfl
  have kp6 := P8.out.cell (o := 6) rfl
  have kp7 := P8.out.cell (o := 7) rfl
  have kp8 := P8.out.cell (o := 8) rfl
  have kp9 := P8.out.cell (o := 9) rfl
  have kp10 := P8.out.cell (o := 10) rfl
  go_wp2_with fail
  refine (markEngine_m n0B _ n4B _ n5B _ n6B _ n7B _ w2.heap.size w3.heap.size x 1 w8 hf.out (by omega) (by omega) Q0G.out.shapeG Q4G.out.shapeG Q5G.out.shapeG Q6G.out.shapeG Q7G.out.shapeG (by have e1 := SA.out; have e2 := S2.out; have e3 := SB.out; have e4 := S4.out; have e5 := S5.out; have e6 := S6.out; have e7 := HB8.out.size; omega)).mono ?_
  rintro e w9 ⟨r9, rfl, r91, r92, hm⟩
  have S9 := hide hm.size
  have T9 := hide (T8.out.same (fun g _ h2 => hm.out g (by have e1 := SA.out; have e2 := S2.out; have e3 := SB.out; have e4 := S4.out; have e5 := S5.out; have e6 := S6.out; have e7 := HB8.out.size; omega) (.inl h2)) (Nat.le_refl _) (Nat.le_refl _))
  have G9 := hide (G8.out.same (fun g h1 h2 => hm.out g (by have e1 := SA.out; have e2 := S2.out; have e3 := SB.out; have e4 := S4.out; have e5 := S5.out; have e6 := S6.out; have e7 := HB8.out.size; omega) (.inr (by have e1 := SA.out; have e2 := S2.out; have e3 := SB.out; have e4 := S4.out; have e5 := S5.out; have e6 := S6.out; have e7 := HB8.out.size; omega))) (Nat.le_refl _) (Nat.le_refl _))
  have B9 := hide (B8.out.trans (hm.below B2.out.size B8.out.size))
  have R9 := hide (R8.out.marks hm (.inl (by have := R2.out.lt; omega)))
  clear hm Q0G Q4G Q5G Q6G Q7G
  clear kp0 kp1 kp2 kp3 kp4 kp5 kp6 kp7 kp8 kp9 kp10
  have d9 : decide (r9 < 0) = false := by simp; omega
  go_wp2_with fail
  refine (eqValB_g ag5 at2 cg5 ct2 w4.heap.size w5.heap.size w1.heap.size w2.heap.size xs w9 HBd.out G9.out T9.out (by have e1 := SA.out; have e2 := S2.out; have e3 := SB.out; have e4 := S4.out; have e5 := S5.out; have e6 := S6.out; have e7 := HB8.out.size; have e9 := S9.out; omega) (by have e1 := SA.out; have e2 := S2.out; have e3 := SB.out; have e4 := S4.out; have e5 := S5.out; have e6 := S6.out; have e7 := HB8.out.size; have e9 := S9.out; omega)).mono ?_
  rintro e w10 ⟨rfl, hb⟩
  have S10 := hide hb.size
  have B10 := hide (B9.out.trans (hb.mono B9.out.size))
  have R10 := hide (R9.out.below hb R9.out.lt)
  have T10 := hide (T9.out.keep (hb.mono (by have e1 := SA.out; have e2 := S2.out; have e3 := SB.out; have e4 := S4.out; have e5 := S5.out; have e6 := S6.out; have e7 := HB8.out.size; have e9 := S9.out; omega)))
  have G10 := hide (G9.out.keep (hb.mono (by have e1 := SA.out; have e2 := S2.out; have e3 := SB.out; have e4 := S4.out; have e5 := S5.out; have e6 := S6.out; have e7 := HB8.out.size; have e9 := S9.out; omega)))
  clear hb
  go_wp2_with fail
  refine (markValS_m ag5 cg5 xs.length w4.heap.size w5.heap.size 1 w10 HBd.out (by omega) (by omega) G10.out.shapeG).mono ?_
  rintro e w11 ⟨rfl, hm, hmk⟩
  have S11 := hide hm.size
  have T11 := hide (T10.out.same (fun g _ h2 => hm.out g (by have e1 := SA.out; have e2 := S2.out; have e3 := SB.out; have e4 := S4.out; have e5 := S5.out; have e6 := S6.out; have e7 := HB8.out.size; have e9 := S9.out; have e10 := S10.out; omega) (.inl (by have e1 := SA.out; have e2 := S2.out; have e3 := SB.out; have e4 := S4.out; have e5 := S5.out; have e6 := S6.out; have e7 := HB8.out.size; have e9 := S9.out; have e10 := S10.out; omega))) (Nat.le_refl _) (Nat.le_refl _))
  have M11 := hide hmk
  have B11 := hide (B10.out.trans (hm.below (by have := B4.out.size; omega) B10.out.size))
  have R11 := hide (R10.out.marks hm (.inl (by have := R4.out.lt; omega)))
  clear hm hmk G10
  have hbd : xs.length ≤ 4398046511104 := HBd.out
  obtain ⟨tot, htot⟩ : ∃ t : Int, 1 + 2 * (xs.length : Int) = t := ⟨_, rfl⟩
  rw [htot]
  have HTt := hide htot
  have d11 : ¬ (tot < 0) := by omega
  clear htot
  go_wp2_with fail
  refine (heldValS_m ag5 cg5 xs.length w4.heap.size w5.heap.size 1 w11 HBd.out (by omega) (by omega) M11.out).mono ?_
  rintro e w12 ⟨rfl, hb⟩
  rw [HTt.out]
  have S12 := hide hb.size
  have B12 := hide (B11.out.trans (hb.mono B11.out.size))
  have R12 := hide (R11.out.below hb R11.out.lt)
  have T12 := hide (T11.out.keep (hb.mono (by have e1 := SA.out; have e2 := S2.out; have e3 := SB.out; have e4 := S4.out; have e5 := S5.out; have e6 := S6.out; have e7 := HB8.out.size; have e9 := S9.out; have e10 := S10.out; have e11 := S11.out; omega)))
  have M12 := hide (M11.out.keep (hb.mono (by have e1 := SA.out; have e2 := S2.out; have e3 := SB.out; have e4 := S4.out; have e5 := S5.out; have e6 := S6.out; have e7 := HB8.out.size; have e9 := S9.out; have e10 := S10.out; have e11 := S11.out; omega)))
  clear hb
  have kc0 := R12.out.cell (o := 0) rfl
  have kc1 := R12.out.cell (o := 1) rfl
  have kc2 := R12.out.cell (o := 2) rfl
  have kc3 := R12.out.cell (o := 3) rfl
  have kc4 := R12.out.cell (o := 4) rfl
  have kc5 := R12.out.cell (o := 5) rfl
  have kc6 := R12.out.cell (o := 6) rfl
  have kc7 := R12.out.cell (o := 7) rfl
  have kc8 := R12.out.cell (o := 8) rfl
  have kc9 := R12.out.cell (o := 9) rfl
  have kc10 := R12.out.cell (o := 10) rfl
  go_wp2_with fail
  refine (toEngine_any a0 c0 a4 c4 a5 c5 a6 c6 a7 c7 0 w.heap.size x _ hf.out (X0.out.keep B12.out) (X4.out.keep B12.out) (X5.out.keep B12.out) (X6.out.keep B12.out) (X7.out.keep B12.out) B12.out.size).mono ?_
  rintro e w13 ⟨n0H, n4H, n5H, n6H, n7H, rfl, q0H, q4H, q5H, q6H, q7H, hb⟩
  have Q0H := hide q0H
  have Q4H := hide q4H
  have Q5H := hide q5H
  have Q6H := hide q6H
  have Q7H := hide q7H
  have SH := hide hb.size
  have B13 := hide (B12.out.trans (hb.mono B12.out.size))
  have T13 := hide (T12.out.keep (hb.mono (by have e1 := SA.out; have e2 := S2.out; have e3 := SB.out; have e4 := S4.out; have e5 := S5.out; have e6 := S6.out; have e7 := HB8.out.size; have e9 := S9.out; have e10 := S10.out; have e11 := S11.out; have e12 := S12.out; omega)))
  have M13 := hide (M12.out.keep (hb.mono (by have e1 := SA.out; have e2 := S2.out; have e3 := SB.out; have e4 := S4.out; have e5 := S5.out; have e6 := S6.out; have e7 := HB8.out.size; have e9 := S9.out; have e10 := S10.out; have e11 := S11.out; have e12 := S12.out; omega)))
  clear hb q0H q4H q5H q6H q7H
  clear kc0 kc1 kc2 kc3 kc4 kc5 kc6 kc7 kc8 kc9 kc10
  go_wp2_with fail
  refine (HIm.out n0H n4H n5H n6H n7H w12.heap.size w13.heap.size w13 Q0H.out Q4H.out Q5H.out Q6H.out Q7H.out (Nat.le_refl _)).mono ?_
  rintro e w14 ⟨ah, ch, rfl, hg14, hb⟩
  have G14 := hide hg14
  have S14 := hide hb.size
  have B14 := hide (B13.out.trans (hb.mono B13.out.size))
  have T14 := hide (T13.out.keep (hb.mono (by have e1 := SA.out; have e2 := S2.out; have e3 := SB.out; have e4 := S4.out; have e5 := S5.out; have e6 := S6.out; have e7 := HB8.out.size; have e9 := S9.out; have e10 := S10.out; have e11 := S11.out; have e12 := S12.out; have e13 := SH.out; omega)))
  have M14 := hide (M13.out.keep (hb.mono (by have e1 := SA.out; have e2 := S2.out; have e3 := SB.out; have e4 := S4.out; have e5 := S5.out; have e6 := S6.out; have e7 := HB8.out.size; have e9 := S9.out; have e10 := S10.out; have e11 := S11.out; have e12 := S12.out; have e13 := SH.out; omega)))
  clear hb hg14
  go_wp2_with fail
  refine (eqValB_g ah at2 ch ct2 w13.heap.size w14.heap.size w1.heap.size w2.heap.size xs w14 HBd.out G14.out T14.out (Nat.le_refl _) (by have e1 := SA.out; have e2 := S2.out; have e3 := SB.out; have e4 := S4.out; have e5 := S5.out; have e6 := S6.out; have e7 := HB8.out.size; have e9 := S9.out; have e10 := S10.out; have e11 := S11.out; have e12 := S12.out; have e13 := SH.out; have e14 := S14.out; omega)).mono ?_
  rintro e w15 ⟨rfl, hb⟩
  have B15 := hide (B14.out.trans (hb.mono B14.out.size))
  have M15 := hide (M14.out.keep (hb.mono (by have e1 := SA.out; have e2 := S2.out; have e3 := SB.out; have e4 := S4.out; have e5 := S5.out; have e6 := S6.out; have e7 := HB8.out.size; have e9 := S9.out; have e10 := S10.out; have e11 := S11.out; have e12 := S12.out; have e13 := SH.out; have e14 := S14.out; omega)))
  clear hb
  go_wp2_with fail
  refine (heldValS_m ag5 cg5 xs.length w4.heap.size w5.heap.size 1 w15 HBd.out (by omega) (by omega) M15.out).mono ?_
  rintro e w16 ⟨rfl, hb⟩
  rw [HTt.out]
  have B16 := hide (B15.out.trans (hb.mono B15.out.size))
  clear hb
  go_wp2_with fail
  go_ret
  exact ⟨rfl, B16.out⟩
end Go.Proofs.Ytbalfmlmgbmneaa
