/- The law FnWord, walked. Written by tools/made/fnword.py. -/
import Derived.Test.YtogdkabmhhbelaaDrawWord
import Derived.Deep.RegionWith
import Derived.Laws.StructEq
namespace Go.Proofs.Ytogdkabmhhbelaa
open Go.ChangeShapes Go.WideShapes Go.ChangeAt Go.RowKit
set_option linter.unusedVariables false

/-- A word that is a value's is that value's word. -/
theorem wordOf_wordVal {k x p q : Int} (h : wordVal k x = some (p, q)) : wordOf p q = x := by
  unfold wordVal at h
  repeat' split at h
  all_goals first | (cases h; done) | skip
  all_goals (simp only [Option.some.injEq, Prod.mk.injEq] at h; obtain ⟨rfl, rfl⟩ := h; simp [wordOf]; try omega)
theorem wordOf_small (k n : Int) : 0 ≤ wordOf k n ∧ wordOf k n ≤ 19945 := by
  unfold wordOf
  repeat' split
  all_goals omega

/-- Two values' blocks, and what is below. -/
structure KeptW (w : World) (v x : Nat) (vk vn p q : Int) (W : World) : Prop where
  v : Rec W v 24 [.int .i64 vk, .int .i64 vn]
  x : Rec W x 24 [.int .i64 p, .int .i64 q]
  b : Below w.heap.size w W
theorem KeptW.go {w W W' : World} {v x : Nat} {vk vn p q : Int} (h : KeptW w v x vk vn p q W) (hb : Below W.heap.size W W') : KeptW w v x vk vn p q W' := ⟨h.v.below hb h.v.lt, h.x.below hb h.x.lt, h.b.trans (hb.mono h.b.size)⟩
theorem KeptW.drew {w W : World} {v x : Nat} {vk vn p q : Int} (h : KeptW w v x vk vn p q W) : KeptW w v x vk vn p q W.drew := ⟨h.v, h.x, h.b.drew⟩
theorem KeptW.alloc {w W : World} {v x : Nat} {vk vn p q : Int} (h : KeptW w v x vk vn p q W) (o : Obj) : KeptW w v x vk vn p q (W.alloc o) := ⟨h.v.alloc o, h.x.alloc o, h.b.alloc h.b.size o⟩

set_option maxRecDepth 20000 in
set_option maxHeartbeats 6400000 in
theorem fnWord_walk (a : Option Addr) (cap n : Nat) (hc : n ≤ cap) (b : Option Addr) (cap' n' : Nat) (hc' : n' ≤ cap') (w : World) (hx : BytesIn w w.heap.size a n) (hx' : BytesIn w w.heap.size b n') :
    Calls Try.prog 3 #[.slice a n cap, .slice b n' cap'] w fun e w' => e = .returned (.bool true) ∧ Below w.heap.size w w' := by
  by_cases l0 : 1048576 < n
  · have k0 : (1048576 : Int) < (n : Int) := by omega
    go_enter Try.func3, Try.ntmps3
    go_wp2_with fail
    go_ret
    exact ⟨rfl, Below.refl _ _⟩
  have k0 : (n : Int) ≤ 1048576 := by omega
  by_cases l1 : 1048576 < n'
  · have k1 : (1048576 : Int) < (n' : Int) := by omega
    go_enter Try.func3, Try.ntmps3
    go_wp2_with fail
    go_ret
    exact ⟨rfl, Below.refl _ _⟩
  have k1 : (n' : Int) ≤ 1048576 := by omega
  have HX := hide hx
  have HX' := hide hx'
  clear hx hx' l0 l1
  go_enter Try.func3, Try.ntmps3
  go_wp2_with fail
  refine (drawWordOf_any a cap n _ hc HX.out).mono ?_
  rintro e w1 ⟨vk, vn, rfl, b1⟩
  have B1 := hide b1
  clear b1
  go_wp2_with fail
  refine (drawWordVal_any b cap' n' _ hc' ?_).mono ?_
  · exact ((HX'.out.keep B1.out).wider B1.out.size).keep ((Below.refl _ _).alloc (Nat.le_refl _) _) |>.wider (by simp)
  rintro e w2 ⟨fk, fo, fm, x, rfl, hx1, hx2, b2⟩
  have V2 : Hid (Rec w2 w1.heap.size 24 [.int .i64 vk, .int .i64 vn]) := (Rec.new' _ _ _ _ rfl).below b2 (by simp)
  have B2 : Hid (Below w.heap.size w w2) := (B1.out.alloc B1.out.size _).trans (b2.mono (by have := B1.out.size; simp; omega))
  have z2 := V2.out.lt
  have c0 := V2.out.cell (o := 0) rfl
  have c1 := V2.out.cell (o := 1) rfl
  obtain ⟨p, q, r, hv⟩ := valOr_tuple (wordVal fk x)
  have CS : Hid (∀ W, Calls Try.prog 12 #[.agg #[.int .i64 fk, .int .i64 fo, .bool fm], .int .i64 x] W fun e w' => e = .returned (.tuple #[.agg #[.int .i64 p, .int .i64 q], .bool r]) ∧ Below W.heap.size W w') := fun W => by
    rw [← hv]; exact specWordVal_any fk fo fm x W hx1 hx2
  have CI : Hid (∀ W, Calls Try.prog 11 #[.agg #[.int .i64 fk, .int .i64 fo, .bool fm], .int .i64 x] W fun e w' => e = .returned (.tuple #[.agg #[.int .i64 p, .int .i64 q], .bool r]) ∧ Below W.heap.size W w') := fun W => by
    rw [← hv]; exact implWordVal_any fk fo fm x W hx1
  have HR : Hid ((r = true ∧ wordOf p q = x) ∨ (r = false ∧ p = 0 ∧ q = 0)) := by
    show _ ∨ _
    rcases hw : wordVal fk x with _ | ⟨p', q'⟩
    · rw [hw] at hv
      simp [valOr] at hv
      exact .inr ⟨hv.2, hv.1.1.symm, hv.1.2.symm⟩
    · rw [hw] at hv
      simp [valOr] at hv
      obtain ⟨⟨rfl, rfl⟩, rfl⟩ := hv
      exact .inl ⟨rfl, wordOf_wordVal hw⟩
  clear b2 hv hx1 hx2
  obtain ⟨N, hN⟩ : ∃ N, wordOf vk vn = N := ⟨_, rfl⟩
  have HN := hide hN
  have hs := wordOf_small vk vn
  rw [hN] at hs
  obtain ⟨hs1, hs2⟩ := hs
  clear hN
  go_wp2_with fail
  refine (implWordOf_any vk vn _).mono ?_
  rintro e w3 ⟨he, b3⟩
  rw [HN.out] at he
  subst he
  have V3 : Hid (Rec w3 w1.heap.size 24 [.int .i64 vk, .int .i64 vn]) := (V2.out.alloc _).below b3 (by simp; omega)
  have F3 : Hid (Rec w3 w2.heap.size 27 [.int .i64 fk, .int .i64 fo, .bool fm]) := (Rec.new' _ _ _ _ rfl).below b3 (by simp)
  have B3 : Hid (Below w.heap.size w w3) := (B2.out.alloc B2.out.size _).trans (b3.mono (by have := B2.out.size; simp; omega))
  clear c0 c1 b3
  have i0 := F3.out.cell (o := 0) rfl
  have i1 := F3.out.cell (o := 1) rfl
  have i2 := F3.out.cell (o := 2) rfl
  have z3 := F3.out.lt
  go_wp2_with fail
  refine (CI.out _).mono ?_
  rintro e w4 ⟨rfl, b4⟩
  have V4 : Hid (Rec w4 w1.heap.size 24 [.int .i64 vk, .int .i64 vn]) := V3.out.below b4 V3.out.lt
  have F4 : Hid (Rec w4 w2.heap.size 27 [.int .i64 fk, .int .i64 fo, .bool fm]) := F3.out.below b4 F3.out.lt
  have B4 : Hid (Below w.heap.size w w4) := B3.out.trans (b4.mono B3.out.size)
  clear i0 i1 i2 b4
  have i0 := F4.out.cell (o := 0) rfl
  have i1 := F4.out.cell (o := 1) rfl
  have i2 := F4.out.cell (o := 2) rfl
  have z4 := F4.out.lt
  have y4 := V4.out.lt
  go_wp2_with fail
  refine (CS.out _).mono ?_
  rintro e w5 ⟨rfl, b5⟩
  have K5 : Hid (KeptW w w1.heap.size w4.heap.size vk vn p q w5) := KeptW.go ⟨V4.out.alloc _, Rec.new' _ _ _ _ rfl, B4.out.alloc B4.out.size _⟩ b5
  clear i0 i1 i2 b5
  have c0 := K5.out.v.cell (o := 0) rfl
  have c1 := K5.out.v.cell (o := 1) rfl
  have d0 := K5.out.x.cell (o := 0) rfl
  have d1 := K5.out.x.cell (o := 1) rfl
  have z5 := K5.out.v.lt
  have y5 := K5.out.x.lt
  have K6 : Hid (KeptW w w1.heap.size w4.heap.size vk vn p q (w5.alloc (.cells #[.int .i64 p, .int .i64 q] 24))) := K5.out.alloc _
  have CT : Hid (∀ W, KeptW w w1.heap.size w4.heap.size vk vn p q W → Calls Try.prog 13 #[.agg #[.int .i64 vk, .int .i64 vn]] W fun e w' => e = .returned (.int .i64 N) ∧ KeptW w w1.heap.size w4.heap.size vk vn p q w') := fun W hW => (specWordOf_any vk vn W).mono fun e w' h => ⟨by rw [h.1, HN.out], hW.go h.2⟩
  rcases HR.out with ⟨rfl, hw⟩ | ⟨rfl, rfl, rfl⟩
  · have CX : Hid (∀ W, KeptW w w1.heap.size w4.heap.size vk vn p q W → Calls Try.prog 10 #[.agg #[.int .i64 p, .int .i64 q]] W fun e w' => e = .returned (.int .i64 x) ∧ KeptW w w1.heap.size w4.heap.size vk vn p q w') := fun W hW => (implWordOf_any p q W).mono fun e w' h => ⟨by rw [h.1, hw], hW.go h.2⟩
    clear hw HR
    go_wp2_with fail
    refine (CT.out _ K6.out).mono ?_
    rintro e w6 ⟨rfl, K7⟩
    have HK7 := hide K7
    clear c0 c1 d0 d1 K7
    have d0 := HK7.out.x.cell (o := 0) rfl
    have d1 := HK7.out.x.cell (o := 1) rfl
    go_wp2_with fail
    refine (CX.out _ HK7.out).mono ?_
    rintro e w7 ⟨rfl, K8⟩
    have HK8 := hide K8
    clear d0 d1 K8
    have c0 := HK8.out.v.cell (o := 0) rfl
    have c1 := HK8.out.v.cell (o := 1) rfl
    have z8 := HK8.out.v.lt
    have z9 : w1.heap.size < w7.heap.size + 1 := by omega
    have z10 : w1.heap.size < w7.heap.size + 1 + 1 := by omega
    have HV := hide HK8.out.v
    have HB := hide HK8.out.b
    clear HK8
    by_cases hk1 : vk = 1
    · subst hk1
      have N1 : N < 9973 ∧ (N = vn ∨ vn < 0 ∨ 9973 ≤ vn) := by
        have := HN.out
        unfold wordOf at this
        split at this <;> omega
      have CN : Hid (∀ W, Calls Try.prog 11 #[.agg #[.int .i64 1, .int .i64 0, .bool false], .int .i64 N] W fun e w' => e = .returned (.tuple #[.agg #[.int .i64 1, .int .i64 N], .bool true]) ∧ Below W.heap.size W w') := fun W => by
        have h := implWordVal_any 1 0 false N W (by omega)
        rw [show wordVal 1 N = some (1, N) by simp [wordVal, show ¬ N < 0 by omega, N1.1]] at h
        exact h
      obtain ⟨N2, N3⟩ := N1
      go_wp2_with fail
      refine (CN.out _).mono ?_
      rintro e w8 ⟨rfl, b8⟩
      have V8 : Hid (Rec w8 w1.heap.size 24 [.int .i64 1, .int .i64 vn]) := (((HV.out.alloc _).alloc _).alloc _).below b8 (by simp; omega)
      have B8 : Hid (Below w.heap.size w w8) := (Below.al (Below.al (Below.al HB.out (Nat.le_refl _) _) (Nat.le_refl _) _) (Nat.le_refl _) _).trans (b8.mono (by have := HB.out.size; simp; omega))
      clear c0 c1 b8
      have c0 := V8.out.cell (o := 0) rfl
      have c1 := V8.out.cell (o := 1) rfl
      have z8' := V8.out.lt
      rcases N3 with rfl | N3 | N3
      · go_wp2_with fail
        go_ret
        exact ⟨rfl, Below.al B8.out (Nat.le_refl _) _⟩
      · have hne : ¬ N = vn := by omega
        go_wp2_with fail
        go_ret
        exact ⟨rfl, Below.al B8.out (Nat.le_refl _) _⟩
      · have hne : ¬ N = vn := by omega
        have hnl : ¬ vn < 0 := by omega
        go_wp2_with fail
        go_ret
        exact ⟨rfl, Below.al B8.out (Nat.le_refl _) _⟩
    by_cases hk3 : vk = 3
    · subst hk3
      have N1 : N = 0 ∨ wordVal 3 N = some (3, vn) := by
        have := HN.out
        unfold wordOf at this
        split at this
        · omega
        · split at this
          · rename_i h1 h2; subst this; right; simp [wordVal]; omega
          · split at this
            · omega
            · exact .inl this.symm
      rcases N1 with rfl | N1
      · have CN : Hid (∀ W, Calls Try.prog 11 #[.agg #[.int .i64 3, .int .i64 (-1), .bool false], .int .i64 0] W fun e w' => e = .returned (.tuple #[.agg #[.int .i64 0, .int .i64 0], .bool false]) ∧ Below W.heap.size W w') := fun W => by
          have h := implWordVal_any 3 (-1) false 0 W (by omega)
          rw [show wordVal 3 0 = none by simp [wordVal]] at h
          exact h
        go_wp2_with fail
        refine (CN.out _).mono ?_
        rintro e w8 ⟨rfl, b8⟩
        have V8 : Hid (Rec w8 w1.heap.size 24 [.int .i64 3, .int .i64 vn]) := (((HV.out.alloc _).alloc _).alloc _).below b8 (by simp; omega)
        have B8 : Hid (Below w.heap.size w w8) := (Below.al (Below.al (Below.al HB.out (Nat.le_refl _) _) (Nat.le_refl _) _) (Nat.le_refl _) _).trans (b8.mono (by have := HB.out.size; simp; omega))
        clear c0 c1 b8
        have c0 := V8.out.cell (o := 0) rfl
        have c1 := V8.out.cell (o := 1) rfl
        have z8' := V8.out.lt
        go_wp2_with fail
        go_ret
        exact ⟨rfl, Below.al B8.out (Nat.le_refl _) _⟩
      · have CN : Hid (∀ W, Calls Try.prog 11 #[.agg #[.int .i64 3, .int .i64 (-1), .bool false], .int .i64 N] W fun e w' => e = .returned (.tuple #[.agg #[.int .i64 3, .int .i64 vn], .bool true]) ∧ Below W.heap.size W w') := fun W => by
          have h := implWordVal_any 3 (-1) false N W (by omega)
          rw [N1] at h
          exact h
        clear N1
        go_wp2_with fail
        refine (CN.out _).mono ?_
        rintro e w8 ⟨rfl, b8⟩
        have V8 : Hid (Rec w8 w1.heap.size 24 [.int .i64 3, .int .i64 vn]) := (((HV.out.alloc _).alloc _).alloc _).below b8 (by simp; omega)
        have B8 : Hid (Below w.heap.size w w8) := (Below.al (Below.al (Below.al HB.out (Nat.le_refl _) _) (Nat.le_refl _) _) (Nat.le_refl _) _).trans (b8.mono (by have := HB.out.size; simp; omega))
        clear c0 c1 b8
        have c0 := V8.out.cell (o := 0) rfl
        have c1 := V8.out.cell (o := 1) rfl
        have z8' := V8.out.lt
        by_cases N0 : N = 0
        · subst N0
          go_wp2_with fail
          go_ret
          exact ⟨rfl, Below.al B8.out (Nat.le_refl _) _⟩
        · have N0' : (N == 0) = false := by simpa using N0
          go_wp2_with fail
          go_ret
          exact ⟨rfl, Below.al B8.out (Nat.le_refl _) _⟩
    by_cases hk4 : vk = 4
    · subst hk4
      have N1 : N = 0 ∨ wordVal 3 N = some (4, vn) := by
        have := HN.out
        unfold wordOf at this
        split at this
        · omega
        · split at this
          · omega
          · split at this
            · rename_i h1 h2 h3; subst this; right; simp [wordVal]; omega
            · exact .inl this.symm
      rcases N1 with rfl | N1
      · have CN : Hid (∀ W, Calls Try.prog 11 #[.agg #[.int .i64 3, .int .i64 (-1), .bool false], .int .i64 0] W fun e w' => e = .returned (.tuple #[.agg #[.int .i64 0, .int .i64 0], .bool false]) ∧ Below W.heap.size W w') := fun W => by
          have h := implWordVal_any 3 (-1) false 0 W (by omega)
          rw [show wordVal 3 0 = none by simp [wordVal]] at h
          exact h
        go_wp2_with fail
        refine (CN.out _).mono ?_
        rintro e w8 ⟨rfl, b8⟩
        have V8 : Hid (Rec w8 w1.heap.size 24 [.int .i64 4, .int .i64 vn]) := (((HV.out.alloc _).alloc _).alloc _).below b8 (by simp; omega)
        have B8 : Hid (Below w.heap.size w w8) := (Below.al (Below.al (Below.al HB.out (Nat.le_refl _) _) (Nat.le_refl _) _) (Nat.le_refl _) _).trans (b8.mono (by have := HB.out.size; simp; omega))
        clear c0 c1 b8
        have c0 := V8.out.cell (o := 0) rfl
        have c1 := V8.out.cell (o := 1) rfl
        have z8' := V8.out.lt
        go_wp2_with fail
        go_ret
        exact ⟨rfl, Below.al B8.out (Nat.le_refl _) _⟩
      · have CN : Hid (∀ W, Calls Try.prog 11 #[.agg #[.int .i64 3, .int .i64 (-1), .bool false], .int .i64 N] W fun e w' => e = .returned (.tuple #[.agg #[.int .i64 4, .int .i64 vn], .bool true]) ∧ Below W.heap.size W w') := fun W => by
          have h := implWordVal_any 3 (-1) false N W (by omega)
          rw [N1] at h
          exact h
        clear N1
        go_wp2_with fail
        refine (CN.out _).mono ?_
        rintro e w8 ⟨rfl, b8⟩
        have V8 : Hid (Rec w8 w1.heap.size 24 [.int .i64 4, .int .i64 vn]) := (((HV.out.alloc _).alloc _).alloc _).below b8 (by simp; omega)
        have B8 : Hid (Below w.heap.size w w8) := (Below.al (Below.al (Below.al HB.out (Nat.le_refl _) _) (Nat.le_refl _) _) (Nat.le_refl _) _).trans (b8.mono (by have := HB.out.size; simp; omega))
        clear c0 c1 b8
        have c0 := V8.out.cell (o := 0) rfl
        have c1 := V8.out.cell (o := 1) rfl
        have z8' := V8.out.lt
        by_cases N0 : N = 0
        · subst N0
          go_wp2_with fail
          go_ret
          exact ⟨rfl, Below.al B8.out (Nat.le_refl _) _⟩
        · have N0' : (N == 0) = false := by simpa using N0
          go_wp2_with fail
          go_ret
          exact ⟨rfl, Below.al B8.out (Nat.le_refl _) _⟩
    have N1 : N = 0 := by
      have := HN.out
      unfold wordOf at this
      rw [if_neg (fun h => hk1 h.1), if_neg (fun h => hk3 h.1), if_neg (fun h => hk4 h.1)] at this
      exact this.symm
    subst N1
    have CR : Hid (∀ W, Calls Try.prog 11 #[.agg #[.int .i64 2, .int .i64 (-1), .bool false], .int .i64 0] W fun e w' => e = .returned (.tuple #[.agg #[.int .i64 2, .int .i64 0], .bool true]) ∧ Below W.heap.size W w') := fun W => by
      have h := implWordVal_any 2 (-1) false 0 W (by omega)
      rw [show wordVal 2 0 = some (2, 0) by simp [wordVal]] at h
      exact h
    have CN : Hid (∀ W, Calls Try.prog 11 #[.agg #[.int .i64 3, .int .i64 (-1), .bool false], .int .i64 0] W fun e w' => e = .returned (.tuple #[.agg #[.int .i64 0, .int .i64 0], .bool false]) ∧ Below W.heap.size W w') := fun W => by
      have h := implWordVal_any 3 (-1) false 0 W (by omega)
      rw [show wordVal 3 0 = none by simp [wordVal]] at h
      exact h
    have t1 : (vk == 1) = false := by simpa using hk1
    have t3 : (vk == 3) = false := by simpa using hk3
    have t4 : (vk == 4) = false := by simpa using hk4
    go_wp2_with fail
    refine (CR.out _).mono ?_
    rintro e w8 ⟨rfl, b8⟩
    have S8 : Hid (Rec w8 (w7.heap.size + 1 + 1) 27 [.int .i64 3, .int .i64 (-1), .bool false]) := (Rec.new' _ _ _ _ (by simp)).below b8 (by simp)
    have B8 : Hid (Below w.heap.size w w8) := (Below.al (Below.al (Below.al HB.out (Nat.le_refl _) _) (Nat.le_refl _) _) (Nat.le_refl _) _).trans (b8.mono (by have := HB.out.size; simp; omega))
    clear c0 c1 b8
    have c0 := S8.out.cell (o := 0) rfl
    have c1 := S8.out.cell (o := 1) rfl
    have c2 := S8.out.cell (o := 2) rfl
    have z8' := S8.out.lt
    go_wp2_with fail
    refine (CN.out _).mono ?_
    rintro e w9 ⟨rfl, b9⟩
    have Y9 : Hid (Rec w9 w8.heap.size 24 [.int .i64 2, .int .i64 0]) := (Rec.new' _ _ _ _ rfl).below b9 (by simp)
    have B9 : Hid (Below w.heap.size w w9) := (Below.al B8.out (Nat.le_refl _) _).trans (b9.mono (by have := B8.out.size; simp; omega))
    clear c0 c1 c2 b9
    have c0 := Y9.out.cell (o := 0) rfl
    have c1 := Y9.out.cell (o := 1) rfl
    have z9' := Y9.out.lt
    go_wp2_with fail
    go_ret
    exact ⟨rfl, Below.al B9.out (Nat.le_refl _) _⟩
  · clear HR
    go_wp2_with fail
    refine (CT.out _ K6.out).mono ?_
    rintro e w7 ⟨rfl, K8⟩
    have HK8 := hide K8
    clear c0 c1 d0 d1 K8
    have d0 := HK8.out.x.cell (o := 0) rfl
    have d1 := HK8.out.x.cell (o := 1) rfl
    have c0 := HK8.out.v.cell (o := 0) rfl
    have c1 := HK8.out.v.cell (o := 1) rfl
    have z8 := HK8.out.v.lt
    have z9 : w1.heap.size < w7.heap.size + 1 := by omega
    have z10 : w1.heap.size < w7.heap.size + 1 + 1 := by omega
    have HV := hide HK8.out.v
    have HB := hide HK8.out.b
    clear HK8
    by_cases hk1 : vk = 1
    · subst hk1
      have N1 : N < 9973 ∧ (N = vn ∨ vn < 0 ∨ 9973 ≤ vn) := by
        have := HN.out
        unfold wordOf at this
        split at this <;> omega
      have CN : Hid (∀ W, Calls Try.prog 11 #[.agg #[.int .i64 1, .int .i64 0, .bool false], .int .i64 N] W fun e w' => e = .returned (.tuple #[.agg #[.int .i64 1, .int .i64 N], .bool true]) ∧ Below W.heap.size W w') := fun W => by
        have h := implWordVal_any 1 0 false N W (by omega)
        rw [show wordVal 1 N = some (1, N) by simp [wordVal, show ¬ N < 0 by omega, N1.1]] at h
        exact h
      obtain ⟨N2, N3⟩ := N1
      go_wp2_with fail
      refine (CN.out _).mono ?_
      rintro e w8 ⟨rfl, b8⟩
      have V8 : Hid (Rec w8 w1.heap.size 24 [.int .i64 1, .int .i64 vn]) := (((HV.out.alloc _).alloc _).alloc _).below b8 (by simp; omega)
      have B8 : Hid (Below w.heap.size w w8) := (Below.al (Below.al (Below.al HB.out (Nat.le_refl _) _) (Nat.le_refl _) _) (Nat.le_refl _) _).trans (b8.mono (by have := HB.out.size; simp; omega))
      clear c0 c1 b8
      have c0 := V8.out.cell (o := 0) rfl
      have c1 := V8.out.cell (o := 1) rfl
      have z8' := V8.out.lt
      rcases N3 with rfl | N3 | N3
      · go_wp2_with fail
        go_ret
        exact ⟨rfl, Below.al B8.out (Nat.le_refl _) _⟩
      · have hne : ¬ N = vn := by omega
        go_wp2_with fail
        go_ret
        exact ⟨rfl, Below.al B8.out (Nat.le_refl _) _⟩
      · have hne : ¬ N = vn := by omega
        have hnl : ¬ vn < 0 := by omega
        go_wp2_with fail
        go_ret
        exact ⟨rfl, Below.al B8.out (Nat.le_refl _) _⟩
    by_cases hk3 : vk = 3
    · subst hk3
      have N1 : N = 0 ∨ wordVal 3 N = some (3, vn) := by
        have := HN.out
        unfold wordOf at this
        split at this
        · omega
        · split at this
          · rename_i h1 h2; subst this; right; simp [wordVal]; omega
          · split at this
            · omega
            · exact .inl this.symm
      rcases N1 with rfl | N1
      · have CN : Hid (∀ W, Calls Try.prog 11 #[.agg #[.int .i64 3, .int .i64 (-1), .bool false], .int .i64 0] W fun e w' => e = .returned (.tuple #[.agg #[.int .i64 0, .int .i64 0], .bool false]) ∧ Below W.heap.size W w') := fun W => by
          have h := implWordVal_any 3 (-1) false 0 W (by omega)
          rw [show wordVal 3 0 = none by simp [wordVal]] at h
          exact h
        go_wp2_with fail
        refine (CN.out _).mono ?_
        rintro e w8 ⟨rfl, b8⟩
        have V8 : Hid (Rec w8 w1.heap.size 24 [.int .i64 3, .int .i64 vn]) := (((HV.out.alloc _).alloc _).alloc _).below b8 (by simp; omega)
        have B8 : Hid (Below w.heap.size w w8) := (Below.al (Below.al (Below.al HB.out (Nat.le_refl _) _) (Nat.le_refl _) _) (Nat.le_refl _) _).trans (b8.mono (by have := HB.out.size; simp; omega))
        clear c0 c1 b8
        have c0 := V8.out.cell (o := 0) rfl
        have c1 := V8.out.cell (o := 1) rfl
        have z8' := V8.out.lt
        go_wp2_with fail
        go_ret
        exact ⟨rfl, Below.al B8.out (Nat.le_refl _) _⟩
      · have CN : Hid (∀ W, Calls Try.prog 11 #[.agg #[.int .i64 3, .int .i64 (-1), .bool false], .int .i64 N] W fun e w' => e = .returned (.tuple #[.agg #[.int .i64 3, .int .i64 vn], .bool true]) ∧ Below W.heap.size W w') := fun W => by
          have h := implWordVal_any 3 (-1) false N W (by omega)
          rw [N1] at h
          exact h
        clear N1
        go_wp2_with fail
        refine (CN.out _).mono ?_
        rintro e w8 ⟨rfl, b8⟩
        have V8 : Hid (Rec w8 w1.heap.size 24 [.int .i64 3, .int .i64 vn]) := (((HV.out.alloc _).alloc _).alloc _).below b8 (by simp; omega)
        have B8 : Hid (Below w.heap.size w w8) := (Below.al (Below.al (Below.al HB.out (Nat.le_refl _) _) (Nat.le_refl _) _) (Nat.le_refl _) _).trans (b8.mono (by have := HB.out.size; simp; omega))
        clear c0 c1 b8
        have c0 := V8.out.cell (o := 0) rfl
        have c1 := V8.out.cell (o := 1) rfl
        have z8' := V8.out.lt
        by_cases N0 : N = 0
        · subst N0
          go_wp2_with fail
          go_ret
          exact ⟨rfl, Below.al B8.out (Nat.le_refl _) _⟩
        · have N0' : (N == 0) = false := by simpa using N0
          go_wp2_with fail
          go_ret
          exact ⟨rfl, Below.al B8.out (Nat.le_refl _) _⟩
    by_cases hk4 : vk = 4
    · subst hk4
      have N1 : N = 0 ∨ wordVal 3 N = some (4, vn) := by
        have := HN.out
        unfold wordOf at this
        split at this
        · omega
        · split at this
          · omega
          · split at this
            · rename_i h1 h2 h3; subst this; right; simp [wordVal]; omega
            · exact .inl this.symm
      rcases N1 with rfl | N1
      · have CN : Hid (∀ W, Calls Try.prog 11 #[.agg #[.int .i64 3, .int .i64 (-1), .bool false], .int .i64 0] W fun e w' => e = .returned (.tuple #[.agg #[.int .i64 0, .int .i64 0], .bool false]) ∧ Below W.heap.size W w') := fun W => by
          have h := implWordVal_any 3 (-1) false 0 W (by omega)
          rw [show wordVal 3 0 = none by simp [wordVal]] at h
          exact h
        go_wp2_with fail
        refine (CN.out _).mono ?_
        rintro e w8 ⟨rfl, b8⟩
        have V8 : Hid (Rec w8 w1.heap.size 24 [.int .i64 4, .int .i64 vn]) := (((HV.out.alloc _).alloc _).alloc _).below b8 (by simp; omega)
        have B8 : Hid (Below w.heap.size w w8) := (Below.al (Below.al (Below.al HB.out (Nat.le_refl _) _) (Nat.le_refl _) _) (Nat.le_refl _) _).trans (b8.mono (by have := HB.out.size; simp; omega))
        clear c0 c1 b8
        have c0 := V8.out.cell (o := 0) rfl
        have c1 := V8.out.cell (o := 1) rfl
        have z8' := V8.out.lt
        go_wp2_with fail
        go_ret
        exact ⟨rfl, Below.al B8.out (Nat.le_refl _) _⟩
      · have CN : Hid (∀ W, Calls Try.prog 11 #[.agg #[.int .i64 3, .int .i64 (-1), .bool false], .int .i64 N] W fun e w' => e = .returned (.tuple #[.agg #[.int .i64 4, .int .i64 vn], .bool true]) ∧ Below W.heap.size W w') := fun W => by
          have h := implWordVal_any 3 (-1) false N W (by omega)
          rw [N1] at h
          exact h
        clear N1
        go_wp2_with fail
        refine (CN.out _).mono ?_
        rintro e w8 ⟨rfl, b8⟩
        have V8 : Hid (Rec w8 w1.heap.size 24 [.int .i64 4, .int .i64 vn]) := (((HV.out.alloc _).alloc _).alloc _).below b8 (by simp; omega)
        have B8 : Hid (Below w.heap.size w w8) := (Below.al (Below.al (Below.al HB.out (Nat.le_refl _) _) (Nat.le_refl _) _) (Nat.le_refl _) _).trans (b8.mono (by have := HB.out.size; simp; omega))
        clear c0 c1 b8
        have c0 := V8.out.cell (o := 0) rfl
        have c1 := V8.out.cell (o := 1) rfl
        have z8' := V8.out.lt
        by_cases N0 : N = 0
        · subst N0
          go_wp2_with fail
          go_ret
          exact ⟨rfl, Below.al B8.out (Nat.le_refl _) _⟩
        · have N0' : (N == 0) = false := by simpa using N0
          go_wp2_with fail
          go_ret
          exact ⟨rfl, Below.al B8.out (Nat.le_refl _) _⟩
    have N1 : N = 0 := by
      have := HN.out
      unfold wordOf at this
      rw [if_neg (fun h => hk1 h.1), if_neg (fun h => hk3 h.1), if_neg (fun h => hk4 h.1)] at this
      exact this.symm
    subst N1
    have CR : Hid (∀ W, Calls Try.prog 11 #[.agg #[.int .i64 2, .int .i64 (-1), .bool false], .int .i64 0] W fun e w' => e = .returned (.tuple #[.agg #[.int .i64 2, .int .i64 0], .bool true]) ∧ Below W.heap.size W w') := fun W => by
      have h := implWordVal_any 2 (-1) false 0 W (by omega)
      rw [show wordVal 2 0 = some (2, 0) by simp [wordVal]] at h
      exact h
    have CN : Hid (∀ W, Calls Try.prog 11 #[.agg #[.int .i64 3, .int .i64 (-1), .bool false], .int .i64 0] W fun e w' => e = .returned (.tuple #[.agg #[.int .i64 0, .int .i64 0], .bool false]) ∧ Below W.heap.size W w') := fun W => by
      have h := implWordVal_any 3 (-1) false 0 W (by omega)
      rw [show wordVal 3 0 = none by simp [wordVal]] at h
      exact h
    have t1 : (vk == 1) = false := by simpa using hk1
    have t3 : (vk == 3) = false := by simpa using hk3
    have t4 : (vk == 4) = false := by simpa using hk4
    go_wp2_with fail
    refine (CR.out _).mono ?_
    rintro e w8 ⟨rfl, b8⟩
    have S8 : Hid (Rec w8 (w7.heap.size + 1 + 1) 27 [.int .i64 3, .int .i64 (-1), .bool false]) := (Rec.new' _ _ _ _ (by simp)).below b8 (by simp)
    have B8 : Hid (Below w.heap.size w w8) := (Below.al (Below.al (Below.al HB.out (Nat.le_refl _) _) (Nat.le_refl _) _) (Nat.le_refl _) _).trans (b8.mono (by have := HB.out.size; simp; omega))
    clear c0 c1 b8
    have c0 := S8.out.cell (o := 0) rfl
    have c1 := S8.out.cell (o := 1) rfl
    have c2 := S8.out.cell (o := 2) rfl
    have z8' := S8.out.lt
    go_wp2_with fail
    refine (CN.out _).mono ?_
    rintro e w9 ⟨rfl, b9⟩
    have Y9 : Hid (Rec w9 w8.heap.size 24 [.int .i64 2, .int .i64 0]) := (Rec.new' _ _ _ _ rfl).below b9 (by simp)
    have B9 : Hid (Below w.heap.size w w9) := (Below.al B8.out (Nat.le_refl _) _).trans (b9.mono (by have := B8.out.size; simp; omega))
    clear c0 c1 c2 b9
    have c0 := Y9.out.cell (o := 0) rfl
    have c1 := Y9.out.cell (o := 1) rfl
    have z9' := Y9.out.lt
    go_wp2_with fail
    go_ret
    exact ⟨rfl, Below.al B9.out (Nat.le_refl _) _⟩
end Go.Proofs.Ytogdkabmhhbelaa
