/- HeapNew of the program and of the model, and the law FnExactHeapNew, walked. Written by tools/made/heapnew.py. -/
import Derived.Test.YtogdkabmhhbelaaGenHeap
import Derived.Test.YtogdkabmhhbelaaMarkHeap
namespace Go.Proofs.Ytogdkabmhhbelaa
open Go.ChangeShapes Go.WideShapes Go.ChangeAt Go.RowKit Go.Joins Go.Deep
set_option linter.unusedVariables false

/-- What HeapNew is: so many zeros, and so many words for old things. -/
def newOk (old young : Int) : Bool := decide (1 ≤ old ∧ old ≤ 120 ∧ 0 ≤ young ∧ young ≤ 40)
def newHeap (old young : Int) : GHeap := if newOk old young = true then ⟨List.replicate (old + young).toNat 0, old, 0, 0, []⟩ else ⟨[], 0, 0, 0, []⟩
theorem newHeap_few (old young : Int) : (newHeap old young).words.length ≤ 160 ∧ (newHeap old young).log = [] ∧ (newHeap old young).oldAt = 0 ∧ (newHeap old young).youngAt = 0 := by
  unfold newHeap
  by_cases h : newOk old young = true
  · rw [if_pos h]
    simp [newOk] at h
    simp
    omega
  · rw [if_neg h]
    simp
theorem madeCells_zero (n i : Nat) (h : i < n) : (madeCells #[Value.int .i64 0] n)[i]? = some (.int .i64 0) := by
  have : i % 1 = 0 := Nat.mod_one i
  simp [madeCells, h, this]
theorem cell_of_block {W : World} {b o : Nat} {c : Array Value} {T : TypeId} {f : Nat × Nat} (h : W.heap[b]? = some (.cells c T f)) : W.cell? ⟨b, o, none⟩ = c[o]? := by simp [World.cell?, h]

set_option maxHeartbeats 800000 in
theorem implHeapNew_any (old young : Int) (w : World) :
    Calls Try.prog 18 #[.int .i64 old, .int .i64 young] w fun e w' => ∃ a, e = .returned (.agg #[.slice a (newHeap old young).words.length (newHeap old young).words.length, .int .i64 (newHeap old young).old, .int .i64 0, .int .i64 0, .slice none 0 0]) ∧ NumsM true w' w.heap.size w'.heap.size a (newHeap old young).words ∧ Below w.heap.size w w' := by
  by_cases hk : newOk old young = true
  · have hk' : 1 ≤ old ∧ old ≤ 120 ∧ 0 ≤ young ∧ young ≤ 40 := by simpa [newOk] using hk
    obtain ⟨h1, h2, h3, h4⟩ := hk'
    have e1 : newHeap old young = ⟨List.replicate (old + young).toNat 0, old, 0, 0, []⟩ := by simp [newHeap, hk]
    rw [e1]
    simp only [List.length_replicate]
    obtain ⟨n, hn⟩ : ∃ n : Nat, (old + young).toNat = n := ⟨_, rfl⟩
    have hn' : old + young = (n : Int) := by omega
    have hmk := run_make_any (P := Try.prog) 41 3 _ 1 8 Try.underlying41 Try.infoInt n (by omega) (by omega)
    rw [hn]
    rw [← hn'] at hmk
    have HN := hide hn'
    have hb : n ≤ 160 := by omega
    clear hk e1 hn hn'
    go_enter Try.func18, Try.ntmps18
    go_wp2_with fail
    refine bodyPost_ret (v := .agg #[.slice (some ⟨w.heap.size + 1, 0, none⟩) n n, .int .i64 old, .int .i64 0, .int .i64 0, .slice none 0 0]) (by simp [results, Try.results18, go_sem]) rfl ⟨some ⟨w.heap.size + 1, 0, none⟩, rfl, ?_, ?_⟩
    · refine .inr ⟨w.heap.size + 1, 0, rfl, by omega, by simp, fun _ => ⟨rfl, n, ?_, by simp⟩, fun i hi => ?_⟩
      · have := Own.made (w.alloc (.cells #[.slice (some ⟨w.heap.size + 1, 0, none⟩) n n, .int .i64 old, .int .i64 0, .int .i64 0, .slice none 0 0] 43)) #[Value.int .i64 0] n 3
        simpa using this
      · have hi' : i < n := by simpa using hi
        have h0 := madeCells_zero n i hi'
        have h1 : ((w.alloc (.cells #[.slice (some ⟨w.heap.size + 1, 0, none⟩) n n, .int .i64 old, .int .i64 0, .int .i64 0, .slice none 0 0] 43)).alloc (.cells (madeCells #[Value.int .i64 0] n) 3)).heap[w.heap.size + 1]? = some (.cells (madeCells #[Value.int .i64 0] n) 3 (0, 0)) := by
          have := Deep.blk_alloc_new (w.alloc (.cells #[.slice (some ⟨w.heap.size + 1, 0, none⟩) n n, .int .i64 old, .int .i64 0, .int .i64 0, .slice none 0 0] 43)) (.cells (madeCells #[Value.int .i64 0] n) 3)
          simpa using this
        rw [Nat.zero_add, cell_of_block h1, h0]
        simp [nAt, hi']
    · repeat (first | exact Below.refl _ _ | refine Below.setCell ?_ (by simp) _ | refine Below.alloc ?_ (by simp) _)
  · have e1 : newHeap old young = ⟨[], 0, 0, 0, []⟩ := by simp [newHeap, hk]
    rw [e1]
    have hk' : old < 1 ∨ 120 < old ∨ young < 0 ∨ 40 < young := by
      simp [newOk] at hk; omega
    clear hk e1
    simp only [List.length_nil]
    go_enter Try.func18, Try.ntmps18
    go_wp2_with fail
    all_goals refine bodyPost_ret (v := .agg #[.slice none 0 0, .int .i64 0, .int .i64 0, .int .i64 0, .slice none 0 0]) (by simp [results, Try.results18, go_sem]) rfl ⟨none, rfl, .inl rfl, ?_⟩
    all_goals repeat (first | exact Below.refl _ _ | refine Below.setCell ?_ (by simp) _ | refine Below.alloc ?_ (by simp) _)

set_option maxHeartbeats 800000 in
theorem specHeapNew_any (old young : Int) (w : World) :
    Calls Try.prog 17 #[.int .i64 old, .int .i64 young] w fun e w' => ∃ a, e = .returned (.agg #[.slice a (newHeap old young).words.length (newHeap old young).words.length, .int .i64 (newHeap old young).old, .int .i64 0, .int .i64 0, .slice none 0 0]) ∧ NumsM true w' w.heap.size w'.heap.size a (newHeap old young).words ∧ Below w.heap.size w w' := by
  by_cases hk : newOk old young = true
  · have hk' : 1 ≤ old ∧ old ≤ 120 ∧ 0 ≤ young ∧ young ≤ 40 := by simpa [newOk] using hk
    obtain ⟨h1, h2, h3, h4⟩ := hk'
    have e1 : newHeap old young = ⟨List.replicate (old + young).toNat 0, old, 0, 0, []⟩ := by simp [newHeap, hk]
    rw [e1]
    simp only [List.length_replicate]
    obtain ⟨n, hn⟩ : ∃ n : Nat, (old + young).toNat = n := ⟨_, rfl⟩
    have hn' : old + young = (n : Int) := by omega
    have hmk := run_make_any (P := Try.prog) 41 3 _ 1 8 Try.underlying41 Try.infoInt n (by omega) (by omega)
    rw [hn]
    rw [← hn'] at hmk
    have HN := hide hn'
    have hb : n ≤ 160 := by omega
    clear hk e1 hn hn'
    go_enter Try.func17, Try.ntmps17
    go_wp2_with fail
    refine bodyPost_ret (v := .agg #[.slice (some ⟨w.heap.size + 1, 0, none⟩) n n, .int .i64 old, .int .i64 0, .int .i64 0, .slice none 0 0]) (by simp [results, Try.results17, go_sem]) rfl ⟨some ⟨w.heap.size + 1, 0, none⟩, rfl, ?_, ?_⟩
    · refine .inr ⟨w.heap.size + 1, 0, rfl, by omega, by simp, fun _ => ⟨rfl, n, ?_, by simp⟩, fun i hi => ?_⟩
      · have := Own.made (w.alloc (.cells #[.slice (some ⟨w.heap.size + 1, 0, none⟩) n n, .int .i64 old, .int .i64 0, .int .i64 0, .slice none 0 0] 43)) #[Value.int .i64 0] n 3
        simpa using this
      · have hi' : i < n := by simpa using hi
        have h0 := madeCells_zero n i hi'
        have h1 : ((w.alloc (.cells #[.slice (some ⟨w.heap.size + 1, 0, none⟩) n n, .int .i64 old, .int .i64 0, .int .i64 0, .slice none 0 0] 43)).alloc (.cells (madeCells #[Value.int .i64 0] n) 3)).heap[w.heap.size + 1]? = some (.cells (madeCells #[Value.int .i64 0] n) 3 (0, 0)) := by
          have := Deep.blk_alloc_new (w.alloc (.cells #[.slice (some ⟨w.heap.size + 1, 0, none⟩) n n, .int .i64 old, .int .i64 0, .int .i64 0, .slice none 0 0] 43)) (.cells (madeCells #[Value.int .i64 0] n) 3)
          simpa using this
        rw [Nat.zero_add, cell_of_block h1, h0]
        simp [nAt, hi']
    · repeat (first | exact Below.refl _ _ | refine Below.setCell ?_ (by simp) _ | refine Below.alloc ?_ (by simp) _)
  · have e1 : newHeap old young = ⟨[], 0, 0, 0, []⟩ := by simp [newHeap, hk]
    rw [e1]
    have hk' : old < 1 ∨ 120 < old ∨ young < 0 ∨ 40 < young := by
      simp [newOk] at hk; omega
    clear hk e1
    simp only [List.length_nil]
    go_enter Try.func17, Try.ntmps17
    go_wp2_with fail
    all_goals refine bodyPost_ret (v := .agg #[.slice none 0 0, .int .i64 0, .int .i64 0, .int .i64 0, .slice none 0 0]) (by simp [results, Try.results17, go_sem]) rfl ⟨none, rfl, .inl rfl, ?_⟩
    all_goals repeat (first | exact Below.refl _ _ | refine Below.setCell ?_ (by simp) _ | refine Below.alloc ?_ (by simp) _)

set_option maxHeartbeats 1600000 in
theorem fnExactHeapNew_walk (old : Int) (_ : (Lit.int .i64 old).wf = true) (young : Int) (_ : (Lit.int .i64 young).wf = true) (w : World) :
    Calls Try.prog 6 #[.int .i64 old, .int .i64 young] w fun e w' => e = .returned (.bool true) ∧ Below w.heap.size w w' := by
  obtain ⟨xs, hxs⟩ : ∃ xs, (newHeap old young).words = xs := ⟨_, rfl⟩
  obtain ⟨n, hn⟩ : ∃ n, xs.length = n := ⟨_, rfl⟩
  obtain ⟨od, hod⟩ : ∃ od, (newHeap old young).old = od := ⟨_, rfl⟩
  have n1 : n ≤ 160 := by have := (newHeap_few old young).1; rw [hxs, hn] at this; exact this
  have HN := hide hn
  have CS : Hid (∀ W, Calls Try.prog 17 #[.int .i64 old, .int .i64 young] W fun e w' => ∃ a, e = .returned (.agg #[.slice a n n, .int .i64 od, .int .i64 0, .int .i64 0, .slice none 0 0]) ∧ NumsM true w' W.heap.size w'.heap.size a xs ∧ Below W.heap.size W w') := fun W => by
    have := specHeapNew_any old young W
    rw [hxs, hod, hn] at this
    exact this
  have CI : Hid (∀ W, Calls Try.prog 18 #[.int .i64 old, .int .i64 young] W fun e w' => ∃ a, e = .returned (.agg #[.slice a n n, .int .i64 od, .int .i64 0, .int .i64 0, .slice none 0 0]) ∧ NumsM true w' W.heap.size w'.heap.size a xs ∧ Below W.heap.size W w') := fun W => by
    have := implHeapNew_any old young W
    rw [hxs, hod, hn] at this
    exact this
  have CE : Hid (∀ W a b lo hi lo' hi', NumsM true W lo hi a xs → NumsM true W lo' hi' b xs → hi ≤ W.heap.size → hi' ≤ W.heap.size → Calls Try.prog 19 #[.agg #[.slice a n n, .int .i64 od, .int .i64 0, .int .i64 0, .slice none 0 0], .agg #[.slice b n n, .int .i64 od, .int .i64 0, .int .i64 0, .slice none 0 0]] W fun e w' => e = .returned (.bool true) ∧ Below W.heap.size W w') := fun W a b lo hi lo' hi' h1 h2 h3 h4 => by
    have := eqHeap_g (md := true) (md' := true) a b none none n n 0 0 lo hi lo' hi' ⟨xs, od, 0, 0, []⟩ W ⟨by show xs.length ≤ _; omega, by show ([] : List Int).length ≤ _; simp⟩ h1 (.inl rfl) h2 (.inl rfl) h3 h4
    simp only [hn] at this
    exact this
  clear hxs hod hn
  go_enter Try.func6, Try.ntmps6
  go_wp2_with fail
  refine (CS.out _).mono ?_
  rintro e w1 ⟨a, rfl, ga, hb1⟩
  have A1 := hide ga
  have B1 := hide hb1
  clear ga hb1
  go_wp2_with fail
  refine (CI.out _).mono ?_
  rintro e w2 ⟨b, rfl, gb, hb2⟩
  have L1 : Hid (w1.heap.size < w2.heap.size) := by have := hb2.size; simp at this; exact this
  have P2 : Hid (Rec w2 w1.heap.size 43 [.slice a n n, .int .i64 od, .int .i64 0, .int .i64 0, .slice none 0 0]) := (Rec.new' w1 _ _ _ rfl).below hb2 (by simp)
  have A2 : Hid (NumsM true w2 w.heap.size w1.heap.size a xs) := (A1.out.keep ((Below.refl _ _).alloc (Nat.le_refl _) _)).keep (hb2.mono (by simp))
  have G2 : Hid (NumsM true w2 (w1.heap.size + 1) w2.heap.size b xs) := by
    show NumsM _ _ _ _ _ _
    simpa using gb
  have B2 : Hid (Below w.heap.size w w2) := (B1.out.alloc B1.out.size _).trans (hb2.mono (by have := B1.out.size; simp; omega))
  clear gb hb2
  have p0 := P2.out.cell (o := 0) rfl
  have p1 := P2.out.cell (o := 1) rfl
  have p2 := P2.out.cell (o := 2) rfl
  have p3 := P2.out.cell (o := 3) rfl
  have p4 := P2.out.cell (o := 4) rfl
  have l1 := L1.out
  go_wp2_with fail
  refine (CE.out _ b a (w1.heap.size + 1) w2.heap.size w.heap.size w1.heap.size ?_ ?_ (by go_size) (by go_size)).mono ?_
  · exact G2.out.keep (by (repeat (first | exact Below.refl _ _ | refine Below.drew ?_ | refine Below.alloc ?_ (by simp) _)))
  · exact A2.out.keep (by (repeat (first | exact Below.refl _ _ | refine Below.drew ?_ | refine Below.alloc ?_ (by omega) _)))
  rintro e w3 ⟨rfl, hb3⟩
  have HG : Hid (Below w2.heap.size w2 (w2.alloc (.cells #[.slice b n n, .int .i64 od, .int .i64 0, .int .i64 0, .slice none 0 0] 43))) := (Below.refl _ _).alloc (Nat.le_refl _) _
  have L3 : Hid (w2.heap.size < w3.heap.size) := by have := hb3.size; simp at this; exact this
  have P3 : Hid (Rec w3 w1.heap.size 43 [.slice a n n, .int .i64 od, .int .i64 0, .int .i64 0, .slice none 0 0]) := (P2.out.alloc _).below hb3 (by simp; omega)
  have G3 : Hid (Rec w3 w2.heap.size 43 [.slice b n n, .int .i64 od, .int .i64 0, .int .i64 0, .slice none 0 0]) := (Rec.new' w2 _ _ _ rfl).below hb3 (by simp)
  have A3 : Hid (NumsM true w3 w.heap.size w1.heap.size a xs) := (A2.out.keep (HG.out.mono (by omega))).keep (hb3.mono (by simp; omega))
  have N3 : Hid (NumsM true w3 (w1.heap.size + 1) w2.heap.size b xs) := (G2.out.keep HG.out).keep (hb3.mono (by simp))
  have B3 : Hid (Below w.heap.size w w3) := (B2.out.trans (HG.out.mono B2.out.size)).trans (hb3.mono (by have := B2.out.size; simp; omega))
  have z1 := B1.out.size
  have l3 := L3.out
  clear hb3 HG p0 p1 p2 p3 p4
  have g0 := G3.out.cell (o := 0) rfl
  have g1 := G3.out.cell (o := 1) rfl
  have g2 := G3.out.cell (o := 2) rfl
  have g3 := G3.out.cell (o := 3) rfl
  have g4 := G3.out.cell (o := 4) rfl
  go_wp2_with fail
  refine (markHeap_any b none n 0 n 0 (w1.heap.size + 1) w2.heap.size od 0 0 1 _ (by omega) (by omega) (by omega) (by omega) (by have := N3.out.shape; rw [HN.out] at this; exact this) (.inl rfl) (.inr (.inl rfl)) (by omega)).mono ?_
  rintro e w4 ⟨rfl, m0, m4, bt⟩
  have P4 : Hid (Rec w4 w1.heap.size 43 [.slice a n n, .int .i64 od, .int .i64 0, .int .i64 0, .slice none 0 0]) := P3.out.butIn bt (.inl (by omega))
  have G4 : Hid (Rec w4 w2.heap.size 43 [.slice b n n, .int .i64 od, .int .i64 0, .int .i64 0, .slice none 0 0]) := G3.out.butIn bt (.inr (Nat.le_refl _))
  have A4 : Hid (NumsM true w4 w.heap.size w1.heap.size a xs) := A3.out.same (fun k h1 h2 => bt.block k (by omega) (.inl (by omega))) (Nat.le_refl _) (Nat.le_refl _)
  have M4 : Hid (Marked w4 (w1.heap.size + 1) w2.heap.size b n 1) := m0
  have B4 : Hid (Below w.heap.size w w4) := B3.out.trans ((bt.below (by omega)).mono (by omega))
  have l4 := bt.size
  clear m0 m4 bt g0 g1 g2 g3 g4
  have g0 := G4.out.cell (o := 0) rfl
  have g1 := G4.out.cell (o := 1) rfl
  have g2 := G4.out.cell (o := 2) rfl
  have g3 := G4.out.cell (o := 3) rfl
  have g4 := G4.out.cell (o := 4) rfl
  go_wp2_with fail
  refine (heldHeap_any b none n 0 n 0 (w1.heap.size + 1) w2.heap.size od 0 0 1 _ (by omega) (by omega) (by omega) (by omega) M4.out (.inl rfl) (by omega)).mono ?_
  rintro e w5 ⟨rfl, hb5⟩
  have l5 := hb5.size
  have P5 : Hid (Rec w5 w1.heap.size 43 [.slice a n n, .int .i64 od, .int .i64 0, .int .i64 0, .slice none 0 0]) := P4.out.below hb5 P4.out.lt
  have G5 : Hid (Rec w5 w2.heap.size 43 [.slice b n n, .int .i64 od, .int .i64 0, .int .i64 0, .slice none 0 0]) := G4.out.below hb5 G4.out.lt
  have A5 : Hid (NumsM true w5 w.heap.size w1.heap.size a xs) := A4.out.keep (hb5.mono (by omega))
  have M5 : Hid (Marked w5 (w1.heap.size + 1) w2.heap.size b n 1) := M4.out.keep (hb5.mono (by omega))
  have B5 : Hid (Below w.heap.size w w5) := B4.out.trans (hb5.mono B4.out.size)
  clear hb5 g0 g1 g2 g3 g4
  have q1 : ¬ (1 + (n : Int) + ((0 : Nat) : Int) < 0) := by omega
  go_wp2_with fail
  refine (CI.out _).mono ?_
  rintro e w6 ⟨c, rfl, gc, hb6⟩
  have l6 := hb6.size
  have P6 : Hid (Rec w6 w1.heap.size 43 [.slice a n n, .int .i64 od, .int .i64 0, .int .i64 0, .slice none 0 0]) := P5.out.below hb6 P5.out.lt
  have G6 : Hid (Rec w6 w2.heap.size 43 [.slice b n n, .int .i64 od, .int .i64 0, .int .i64 0, .slice none 0 0]) := G5.out.below hb6 G5.out.lt
  have A6 : Hid (NumsM true w6 w.heap.size w1.heap.size a xs) := A5.out.keep (hb6.mono (by omega))
  have M6 : Hid (Marked w6 (w1.heap.size + 1) w2.heap.size b n 1) := M5.out.keep (hb6.mono (by omega))
  have C6 : Hid (NumsM true w6 w5.heap.size w6.heap.size c xs) := gc
  have B6 : Hid (Below w.heap.size w w6) := B5.out.trans (hb6.mono B5.out.size)
  have l6' : w1.heap.size < w6.heap.size := by omega
  clear hb6 gc
  have p0 := P6.out.cell (o := 0) rfl
  have p1 := P6.out.cell (o := 1) rfl
  have p2 := P6.out.cell (o := 2) rfl
  have p3 := P6.out.cell (o := 3) rfl
  have p4 := P6.out.cell (o := 4) rfl
  go_wp2_with fail
  have HH : Hid (Below w6.heap.size w6 (w6.alloc (.cells #[.slice c n n, .int .i64 od, .int .i64 0, .int .i64 0, .slice none 0 0] 43))) := (Below.refl _ _).alloc (Nat.le_refl _) _
  refine (CE.out _ c a w5.heap.size w6.heap.size w.heap.size w1.heap.size (C6.out.keep HH.out) (A6.out.keep (HH.out.mono (by omega))) (by go_size) (by go_size)).mono ?_
  rintro e w7 ⟨rfl, hb7⟩
  have l7 := hb7.size
  simp at l7
  have G7 : Hid (Rec w7 w2.heap.size 43 [.slice b n n, .int .i64 od, .int .i64 0, .int .i64 0, .slice none 0 0]) := (G6.out.alloc _).below hb7 (by simp; omega)
  have M7 : Hid (Marked w7 (w1.heap.size + 1) w2.heap.size b n 1) := (M6.out.keep (HH.out.mono (by omega))).keep (hb7.mono (by simp; omega))
  have B7 : Hid (Below w.heap.size w w7) := (B6.out.trans (HH.out.mono B6.out.size)).trans (hb7.mono (by have := B6.out.size; simp; omega))
  clear hb7 HH p0 p1 p2 p3 p4
  have g0 := G7.out.cell (o := 0) rfl
  have g1 := G7.out.cell (o := 1) rfl
  have g2 := G7.out.cell (o := 2) rfl
  have g3 := G7.out.cell (o := 3) rfl
  have g4 := G7.out.cell (o := 4) rfl
  go_wp2_with fail
  refine (heldHeap_any b none n 0 n 0 (w1.heap.size + 1) w2.heap.size od 0 0 1 _ (by omega) (by omega) (by omega) (by omega) M7.out (.inl rfl) (by omega)).mono ?_
  rintro e w8 ⟨rfl, hb8⟩
  have B8 : Hid (Below w.heap.size w w8) := B7.out.trans (hb8.mono B7.out.size)
  clear hb8 g0 g1 g2 g3 g4
  go_wp2_with fail
  go_ret
  exact ⟨rfl, B8.out⟩
end Go.Proofs.Ytogdkabmhhbelaa
