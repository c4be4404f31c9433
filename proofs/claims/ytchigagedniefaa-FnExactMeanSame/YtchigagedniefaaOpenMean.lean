/- Readings of what came in, as the walks want it. Written by tools/genopen.py. -/
import Derived.Test.YtchigagedniefaaGenMean
namespace Go.Proofs.Ytchigagedniefaa
open Go.ChangeShapes Go.WideShapes Go.ChangeAt Go.RowKit Go.Joins Go.Deep
set_option linter.unusedVariables false
section
variable {H : Type} {enc : TypeId × Value → H} {W : World} {hd : Bool} {fuel : Nat}

set_option maxRecDepth 100000 in
theorem nums_open {v : Value} {x : DataW H × List MemPlace} (h : DataW.trod enc Try.prog W 0 (fun _ => true) hd fuel 25 [v] = some x) :
    ∃ fa fs fc, v = .slice fa fs.length fc ∧ NumsM false W 0 W.heap.size fa fs ∧ NumsB 9223372036854775807 fs := by
  rcases open_slice Try.underlying25 h with ⟨hcs, _⟩ | ⟨a, len, cap, m, n, D, Pl, hcs, _, hl, hm, hmm, _, hx⟩
  · simp at hcs
    exact ⟨none, [], 0, hcs, .inl rfl, Nat.zero_le _⟩
  · simp at hcs
    subst hcs
    simp at hmm
    subst hmm
    unfold maxLen at hm
    have ce : Try.prog.cellsOf 3 = 1 := by kernel_rfl
    by_cases h0 : len = 0
    · subst h0
      exact ⟨some a, [], m, rfl, .inl rfl, Nat.zero_le _⟩
    obtain ⟨b, off, spot⟩ := a
    obtain ⟨rfl, s1⟩ : spot = none ∧ b < W.heap.size := by
      obtain ⟨cs0, h10, _⟩ := hx 0 (by omega)
      exact head_plain h10 (by omega)
    have each : ∀ i, i < len → ∃ f : Int, W.cell? ⟨b, off + i, none⟩ = some (.int .i64 f) := by
      intro i hi
      obtain ⟨cs', h1, h2⟩ := hx i (by omega)
      rw [ce] at h1
      obtain ⟨_, hlen, hcell⟩ := World.cells?_some h1
      obtain ⟨a0, g0, _, _⟩ := DataW.trod_int Try.underlying3 h2
      subst g0
      have e0 := hcell 0 (by omega)
      rw [add_add] at e0
      simp at e0
      exact ⟨a0, add_none e0 rfl⟩
    obtain ⟨fs, hfl, hfs⟩ := list_of (0 : Int) each
    subst hfl
    exact ⟨_, fs, m, rfl, .inr ⟨b, off, rfl, Nat.zero_le _, s1, (fun e => by cases e), hfs⟩, (by unfold NumsB; omega)⟩

set_option maxRecDepth 100000 in
theorem vals_open {v : Value} {x : DataW H × List MemPlace} (h : DataW.trod enc Try.prog W 0 (fun _ => true) hd fuel 23 [v] = some x) :
    ∃ fa fs fc, v = .slice fa fs.length fc ∧ ValsM false W 0 W.heap.size fa fs ∧ ValsB 9223372036854775807 fs := by
  rcases open_slice Try.underlying23 h with ⟨hcs, _⟩ | ⟨a, len, cap, m, n, D, Pl, hcs, _, hl, hm, hmm, _, hx⟩
  · simp at hcs
    exact ⟨none, [], 0, hcs, .inl rfl, Nat.zero_le _⟩
  · simp at hcs
    subst hcs
    simp at hmm
    subst hmm
    unfold maxLen at hm
    have ce : Try.prog.cellsOf 67 = 2 := by kernel_rfl
    by_cases h0 : len = 0
    · subst h0
      exact ⟨some a, [], m, rfl, .inl rfl, Nat.zero_le _⟩
    obtain ⟨b, off, spot⟩ := a
    obtain ⟨rfl, s1⟩ : spot = none ∧ b < W.heap.size := by
      obtain ⟨cs0, h10, _⟩ := hx 0 (by omega)
      exact head_plain h10 (by omega)
    have each : ∀ i, i < len → ∃ f : GVal, ValAt false W 0 W.heap.size b (off + i * 2) f := by
      intro i hi
      obtain ⟨cs', h1, h2⟩ := hx i (by omega)
      rw [ce] at h1
      obtain ⟨_, hlen, hcell⟩ := World.cells?_some h1
      obtain ⟨y0, y1, k, _, _, t0, t1⟩ := trod_struct2 Try.underlying67 h2
      match cs', hlen with
      | [v0, v1], _ =>
        have e0 := hcell 0 (by omega)
        have e1 := hcell 1 (by omega)
        rw [add_add] at e0 e1
        have c0 : Try.prog.cellsOf 3 = 1 := by kernel_rfl
        simp [c0] at t0 t1
        obtain ⟨a0, g0, _, _⟩ := DataW.trod_int Try.underlying3 t0
        obtain ⟨a1, g1, _, _⟩ := DataW.trod_int Try.underlying3 t1
        simp at g0 g1
        subst g0 g1
        simp at e0 e1
        refine ⟨⟨a0, a1⟩, ⟨?_, ?_⟩⟩
        · exact add_none e0 rfl
        · have := add_none e1 rfl; rwa [← Nat.add_assoc] at this
    obtain ⟨fs, hfl, hfs⟩ := list_of GVal.d each
    subst hfl
    exact ⟨_, fs, m, rfl, .inr ⟨b, off, rfl, Nat.zero_le _, s1, (fun e => by cases e), hfs⟩, (by unfold ValsB; omega)⟩

set_option maxRecDepth 100000 in
theorem things_open {v : Value} {x : DataW H × List MemPlace} (h : DataW.trod enc Try.prog W 0 (fun _ => true) hd fuel 22 [v] = some x) :
    ∃ fa fs fc, v = .slice fa fs.length fc ∧ ThingsM false W 0 W.heap.size fa fs ∧ ThingsB 9223372036854775807 fs := by
  rcases open_slice Try.underlying22 h with ⟨hcs, _⟩ | ⟨a, len, cap, m, n, D, Pl, hcs, _, hl, hm, hmm, _, hx⟩
  · simp at hcs
    exact ⟨none, [], 0, hcs, .inl rfl, Nat.zero_le _, fun i hi => absurd hi (Nat.not_lt_zero _)⟩
  · simp at hcs
    subst hcs
    simp at hmm
    subst hmm
    unfold maxLen at hm
    have ce : Try.prog.cellsOf 61 = 2 := by kernel_rfl
    by_cases h0 : len = 0
    · subst h0
      exact ⟨some a, [], m, rfl, .inl rfl, Nat.zero_le _, fun i hi => absurd hi (Nat.not_lt_zero _)⟩
    obtain ⟨b, off, spot⟩ := a
    obtain ⟨rfl, s1⟩ : spot = none ∧ b < W.heap.size := by
      obtain ⟨cs0, h10, _⟩ := hx 0 (by omega)
      exact head_plain h10 (by omega)
    have each : ∀ i, i < len → ∃ f : GThing, ThingAt false W 0 W.heap.size b (off + i * 2) f ∧ ThingB 9223372036854775807 f := by
      intro i hi
      obtain ⟨cs', h1, h2⟩ := hx i (by omega)
      rw [ce] at h1
      obtain ⟨_, hlen, hcell⟩ := World.cells?_some h1
      obtain ⟨y0, y1, k, _, _, t0, t1⟩ := trod_struct2 Try.underlying61 h2
      match cs', hlen with
      | [v0, v1], _ =>
        have e0 := hcell 0 (by omega)
        have e1 := hcell 1 (by omega)
        rw [add_add] at e0 e1
        have c0 : Try.prog.cellsOf 3 = 1 := by kernel_rfl
        have c1 : Try.prog.cellsOf 23 = 1 := by kernel_rfl
        simp [c0, c1] at t0 t1
        obtain ⟨a0, g0, _, _⟩ := DataW.trod_int Try.underlying3 t0
        obtain ⟨fa1, fs1, fc1, g1, hs1, hl1⟩ := vals_open t1
        simp at g0
        subst g0 g1
        simp at e0 e1
        refine ⟨⟨a0, fs1⟩, ⟨fa1, fc1, ?_, ?_, hs1⟩, hl1⟩
        · exact add_none e0 rfl
        · have := add_none e1 rfl; rwa [← Nat.add_assoc] at this
    obtain ⟨fs, hfl, hfs⟩ := list_of GThing.d each
    subst hfl
    exact ⟨_, fs, m, rfl, .inr ⟨b, off, rfl, Nat.zero_le _, s1, (fun e => by cases e), fun i hi => (hfs i hi).1⟩, by omega, fun i hi => (hfs i hi).2⟩

set_option maxRecDepth 100000 in
theorem frames_open {v : Value} {x : DataW H × List MemPlace} (h : DataW.trod enc Try.prog W 0 (fun _ => true) hd fuel 24 [v] = some x) :
    ∃ fa fs fc, v = .slice fa fs.length fc ∧ FramesM false W 0 W.heap.size fa fs ∧ FramesB 9223372036854775807 fs := by
  rcases open_slice Try.underlying24 h with ⟨hcs, _⟩ | ⟨a, len, cap, m, n, D, Pl, hcs, _, hl, hm, hmm, _, hx⟩
  · simp at hcs
    exact ⟨none, [], 0, hcs, .inl rfl, Nat.zero_le _, fun i hi => absurd hi (Nat.not_lt_zero _)⟩
  · simp at hcs
    subst hcs
    simp at hmm
    subst hmm
    unfold maxLen at hm
    have ce : Try.prog.cellsOf 64 = 4 := by kernel_rfl
    by_cases h0 : len = 0
    · subst h0
      exact ⟨some a, [], m, rfl, .inl rfl, Nat.zero_le _, fun i hi => absurd hi (Nat.not_lt_zero _)⟩
    obtain ⟨b, off, spot⟩ := a
    obtain ⟨rfl, s1⟩ : spot = none ∧ b < W.heap.size := by
      obtain ⟨cs0, h10, _⟩ := hx 0 (by omega)
      exact head_plain h10 (by omega)
    have each : ∀ i, i < len → ∃ f : GFrame, FrameAt false W 0 W.heap.size b (off + i * 4) f ∧ FrameB 9223372036854775807 f := by
      intro i hi
      obtain ⟨cs', h1, h2⟩ := hx i (by omega)
      rw [ce] at h1
      obtain ⟨_, hlen, hcell⟩ := World.cells?_some h1
      obtain ⟨y0, y1, y2, y3, k, _, _, t0, t1, t2, t3⟩ := trod_struct4 Try.underlying64 h2
      match cs', hlen with
      | [v0, v1, v2, v3], _ =>
        have e0 := hcell 0 (by omega)
        have e1 := hcell 1 (by omega)
        have e2 := hcell 2 (by omega)
        have e3 := hcell 3 (by omega)
        rw [add_add] at e0 e1 e2 e3
        have c0 : Try.prog.cellsOf 3 = 1 := by kernel_rfl
        have c1 : Try.prog.cellsOf 23 = 1 := by kernel_rfl
        simp [c0, c1] at t0 t1 t2 t3
        obtain ⟨a0, g0, _, _⟩ := DataW.trod_int Try.underlying3 t0
        obtain ⟨a1, g1, _, _⟩ := DataW.trod_int Try.underlying3 t1
        obtain ⟨fa2, fs2, fc2, g2, hs2, hl2⟩ := vals_open t2
        obtain ⟨fa3, fs3, fc3, g3, hs3, hl3⟩ := vals_open t3
        simp at g0 g1
        subst g0 g1 g2 g3
        simp at e0 e1 e2 e3
        refine ⟨⟨a0, a1, fs2, fs3⟩, ⟨fa2, fc2, fa3, fc3, ?_, ?_, ?_, ?_, hs2, hs3⟩, hl2, hl3⟩
        · exact add_none e0 rfl
        · have := add_none e1 rfl; rwa [← Nat.add_assoc] at this
        · have := add_none e2 rfl; rwa [← Nat.add_assoc] at this
        · have := add_none e3 rfl; rwa [← Nat.add_assoc] at this
    obtain ⟨fs, hfl, hfs⟩ := list_of GFrame.d each
    subst hfl
    exact ⟨_, fs, m, rfl, .inr ⟨b, off, rfl, Nat.zero_le _, s1, (fun e => by cases e), fun i hi => (hfs i hi).1⟩, by omega, fun i hi => (hfs i hi).2⟩
theorem array6 {α : Type} {cs : Array α} (h : cs.size = 6) : ∃ c0 c1 c2 c3 c4 c5, cs = #[c0, c1, c2, c3, c4, c5] := by
  obtain ⟨l⟩ := cs
  match l, h with
  | [c0, c1, c2, c3, c4, c5], _ => exact ⟨c0, c1, c2, c3, c4, c5, rfl⟩
theorem trod_struct6 {P : Program} {base : Nat} {spare : Nat → Bool} {held : Bool} {fuel : Nat} {t : TypeId} {f0 f1 f2 f3 f4 f5 : Field} {cs : List Value} {x : DataW H × List MemPlace} (ht : P.underlying t = some (.struct #[f0, f1, f2, f3, f4, f5])) (h : DataW.trod enc P W base spare held fuel t cs = some x) :
    ∃ y0 y1 y2 y3 y4 y5 n, x = (.agg [y0.1, y1.1, y2.1, y3.1, y4.1, y5.1], y0.2 ++ (y1.2 ++ (y2.2 ++ (y3.2 ++ (y4.2 ++ y5.2))))) ∧ cs.length = P.cellsOf t ∧ DataW.trod enc P W base spare held n f0.type ((cs.drop f0.offset).take (P.cellsOf f0.type)) = some y0 ∧ DataW.trod enc P W base spare held n f1.type ((cs.drop f1.offset).take (P.cellsOf f1.type)) = some y1 ∧ DataW.trod enc P W base spare held n f2.type ((cs.drop f2.offset).take (P.cellsOf f2.type)) = some y2 ∧ DataW.trod enc P W base spare held n f3.type ((cs.drop f3.offset).take (P.cellsOf f3.type)) = some y3 ∧ DataW.trod enc P W base spare held n f4.type ((cs.drop f4.offset).take (P.cellsOf f4.type)) = some y4 ∧ DataW.trod enc P W base spare held n f5.type ((cs.drop f5.offset).take (P.cellsOf f5.type)) = some y5 := by
  obtain ⟨xs, n, _, rfl, hl, hlen, hf⟩ := DataW.trod_struct ht h
  match xs, hlen with
  | [y0, y1, y2, y3, y4, y5], _ => exact ⟨y0, y1, y2, y3, y4, y5, n, by simp, hl, by simpa using hf 0 f0 rfl, by simpa using hf 1 f1 rfl, by simpa using hf 2 f2 rfl, by simpa using hf 3 f3 rfl, by simpa using hf 4 f4 rfl, by simpa using hf 5 f5 rfl⟩
theorem open_agg6 {P : Program} {base : Nat} {spare : Nat → Bool} {held : Bool} {r : Reach} {b0 : Nat} {t : TypeId} {f0 f1 f2 f3 f4 f5 : Field} {v : Value} {d : DataW H} {p : List MemPlace} (hs : P.underlying t = some (.struct #[f0, f1, f2, f3, f4, f5])) (hone : oneCellFields P #[f0, f1, f2, f3, f4, f5] = true) (hC : P.cellsOf t = 6)
    (hv : Value.okWide P W r b0 t v) (h : DataW.Trod enc P W base spare held t v d p) :
    ∃ (v0 v1 v2 v3 v4 v5 : Value) (y0 y1 y2 y3 y4 y5 : DataW H × List MemPlace) (n : Nat), v = .agg #[v0, v1, v2, v3, v4, v5] ∧ d = .agg [y0.1, y1.1, y2.1, y3.1, y4.1, y5.1] ∧ p = y0.2 ++ (y1.2 ++ (y2.2 ++ (y3.2 ++ (y4.2 ++ y5.2)))) ∧
      DataW.trod enc P W base spare held n f0.type [v0] = some y0 ∧ DataW.trod enc P W base spare held n f1.type [v1] = some y1 ∧ DataW.trod enc P W base spare held n f2.type [v2] = some y2 ∧ DataW.trod enc P W base spare held n f3.type [v3] = some y3 ∧ DataW.trod enc P W base spare held n f4.type [v4] = some y4 ∧ DataW.trod enc P W base spare held n f5.type [v5] = some y5 := by
  obtain ⟨cs, rfl, hsz⟩ := okWide_struct hs hv
  obtain ⟨c0, c1, c2, c3, c4, c5, rfl⟩ := array6 (hsz.trans hC)
  obtain ⟨fuel, hf⟩ := h
  obtain ⟨y0, y1, y2, y3, y4, y5, n, hx, _, h0, h1, h2, h3, h4, h5⟩ := trod_struct6 hs hf
  obtain ⟨o0, k0⟩ := hone_of hone 0 f0 rfl
  obtain ⟨o1, k1⟩ := hone_of hone 1 f1 rfl
  obtain ⟨o2, k2⟩ := hone_of hone 2 f2 rfl
  obtain ⟨o3, k3⟩ := hone_of hone 3 f3 rfl
  obtain ⟨o4, k4⟩ := hone_of hone 4 f4 rfl
  obtain ⟨o5, k5⟩ := hone_of hone 5 f5 rfl
  simp only [Prod.mk.injEq] at hx
  exact ⟨c0, c1, c2, c3, c4, c5, y0, y1, y2, y3, y4, y5, n, rfl, hx.1, hx.2, by simpa [Value.cells, o0, k0] using h0, by simpa [Value.cells, o1, k1] using h1, by simpa [Value.cells, o2, k2] using h2, by simpa [Value.cells, o3, k3] using h3, by simpa [Value.cells, o4, k4] using h4, by simpa [Value.cells, o5, k5] using h5⟩
end
end Go.Proofs.Ytchigagedniefaa
