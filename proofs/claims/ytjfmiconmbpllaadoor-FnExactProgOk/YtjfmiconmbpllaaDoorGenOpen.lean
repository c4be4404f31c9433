/- A reading of a program that came in, as the walks want it. -/
import Derived.Test.YtjfmiconmbpllaaDoorGenProg
namespace Go.Proofs.YtjfmiconmbpllaaDoor
open Go.ChangeShapes Go.WideShapes Go.ChangeAt Go.RowKit Go.Joins Go.Deep
set_option linter.unusedVariables false
section
variable {H : Type} {enc : TypeId × Value → H} {W : World} {hd : Bool} {fuel : Nat}

set_option maxRecDepth 100000 in
theorem inss_open {v : Value} {x : DataW H × List MemPlace} (h : DataW.trod enc Tryd.prog W 0 (fun _ => true) hd fuel 60 [v] = some x) :
    ∃ fa fs fc, v = .slice fa fs.length fc ∧ InssM false W 0 W.heap.size fa fs ∧ InssB 9223372036854775807 fs := by
  rcases open_slice Tryd.underlying60 h with ⟨hcs, _⟩ | ⟨a, len, cap, m, n, D, Pl, hcs, _, hl, hm, hmm, _, hx⟩
  · simp at hcs
    exact ⟨none, [], 0, hcs, .inl rfl, Nat.zero_le _⟩
  · simp at hcs
    subst hcs
    simp at hmm
    subst hmm
    unfold maxLen at hm
    have ce : Tryd.prog.cellsOf 106 = 3 := by kernel_rfl
    by_cases h0 : len = 0
    · subst h0
      exact ⟨some a, [], m, rfl, .inl rfl, Nat.zero_le _⟩
    obtain ⟨b, off, spot⟩ := a
    obtain ⟨rfl, s1⟩ : spot = none ∧ b < W.heap.size := by
      obtain ⟨cs0, h10, _⟩ := hx 0 (by omega)
      exact head_plain h10 (by omega)
    have each : ∀ i, i < len → ∃ f : GIns, InsAt false W 0 W.heap.size b (off + i * 3) f := by
      intro i hi
      obtain ⟨cs', h1, h2⟩ := hx i (by omega)
      rw [ce] at h1
      obtain ⟨_, hlen, hcell⟩ := World.cells?_some h1
      obtain ⟨y0, y1, y2, k, _, _, t0, t1, t2⟩ := trod_struct3 Tryd.underlying106 h2
      match cs', hlen with
      | [v0, v1, v2], _ =>
        have e0 := hcell 0 (by omega)
        have e1 := hcell 1 (by omega)
        have e2 := hcell 2 (by omega)
        rw [add_add] at e0 e1 e2
        obtain ⟨a0, g0, _, _⟩ := DataW.trod_int Tryd.underlying3 t0
        obtain ⟨a1, g1, _, _⟩ := DataW.trod_int Tryd.underlying3 t1
        obtain ⟨a2, g2, _, _⟩ := DataW.trod_int Tryd.underlying3 t2
        have c1 : Tryd.prog.cellsOf 3 = 1 := by kernel_rfl
        simp [c1] at g0 g1 g2
        subst g0 g1 g2
        simp at e0 e1 e2
        refine ⟨⟨a0, a1, a2⟩, ?_, ?_, ?_⟩
        · exact add_none e0 rfl
        · have := add_none e1 rfl; rwa [← Nat.add_assoc] at this
        · have := add_none e2 rfl; rwa [← Nat.add_assoc] at this
    obtain ⟨fs, hfl, hfs⟩ := list_of GIns.d each
    subst hfl
    exact ⟨_, fs, m, rfl, .inr ⟨b, off, rfl, Nat.zero_le _, s1, (fun e => by cases e), hfs⟩, (by unfold InssB; omega)⟩

set_option maxRecDepth 100000 in
theorem funs_open {v : Value} {x : DataW H × List MemPlace} (h : DataW.trod enc Tryd.prog W 0 (fun _ => true) hd fuel 24 [v] = some x) :
    ∃ fa fs fc, v = .slice fa fs.length fc ∧ FunsM false W 0 W.heap.size fa fs ∧ FunsB 9223372036854775807 fs := by
  rcases open_slice Tryd.underlying24 h with ⟨hcs, _⟩ | ⟨a, len, cap, m, n, D, Pl, hcs, _, hl, hm, hmm, _, hx⟩
  · simp at hcs
    exact ⟨none, [], 0, hcs, .inl rfl, Nat.zero_le _, fun i hi => absurd hi (Nat.not_lt_zero _)⟩
  · simp at hcs
    subst hcs
    simp at hmm
    subst hmm
    unfold maxLen at hm
    have ce : Tryd.prog.cellsOf 62 = 6 := by kernel_rfl
    by_cases h0 : len = 0
    · subst h0
      exact ⟨some a, [], m, rfl, .inl rfl, Nat.zero_le _, fun i hi => absurd hi (Nat.not_lt_zero _)⟩
    obtain ⟨b, off, spot⟩ := a
    obtain ⟨rfl, s1⟩ : spot = none ∧ b < W.heap.size := by
      obtain ⟨cs0, h10, _⟩ := hx 0 (by omega)
      exact head_plain h10 (by omega)
    have each : ∀ i, i < len → ∃ f : GFun, FunAt false W 0 W.heap.size b (off + i * 6) f ∧ FunB 9223372036854775807 f := by
      intro i hi
      obtain ⟨cs', h1, h2⟩ := hx i (by omega)
      rw [ce] at h1
      obtain ⟨_, hlen, hcell⟩ := World.cells?_some h1
      obtain ⟨y0, y1, y2, y3, k, _, _, t0, t1, t2, t3⟩ := trod_struct4 Tryd.underlying62 h2
      match cs', hlen with
      | [v0, v1, v2, v3, v4, v5], _ =>
        have e0 := hcell 0 (by omega)
        have e1 := hcell 1 (by omega)
        have e2 := hcell 2 (by omega)
        have e3 := hcell 3 (by omega)
        have e4 := hcell 4 (by omega)
        have e5 := hcell 5 (by omega)
        rw [add_add] at e0 e1 e2 e3 e4 e5
        have c1 : Tryd.prog.cellsOf 3 = 1 := by kernel_rfl
        have c2 : Tryd.prog.cellsOf 4 = 1 := by kernel_rfl
        have c3 : Tryd.prog.cellsOf 23 = 1 := by kernel_rfl
        have c4 : Tryd.prog.cellsOf 60 = 1 := by kernel_rfl
        have c5 : Tryd.prog.cellsOf 59 = 3 := by kernel_rfl
        simp [c3, c4, c5] at t0 t1 t2 t3
        obtain ⟨z0, z1, z2, k', _, _, u0, u1, u2⟩ := trod_struct3 Tryd.underlying59 t1
        obtain ⟨a1, g1, _, _⟩ := DataW.trod_int Tryd.underlying3 u0
        obtain ⟨a2, g2, _, _⟩ := DataW.trod_int Tryd.underlying3 u1
        obtain ⟨a3, g3, _⟩ := DataW.trod_bool Tryd.underlying4 u2
        simp [c1, c2] at g1 g2 g3
        obtain ⟨fa, fs, fc, g0, hfs, hfl⟩ := fields_open t0
        obtain ⟨fa', fs', fc', g4, hfs', hfl'⟩ := fields_open t2
        obtain ⟨fb, is, fd, g5, his, hil⟩ := inss_open t3
        subst g0 g1 g2 g3 g4 g5
        simp at e0 e1 e2 e3 e4 e5
        refine ⟨⟨fs, ⟨a1, a2, a3⟩, fs', is⟩, ⟨fa, fc, fa', fc', fb, fd, ?_, ?_, ?_, ?_, ?_, ?_, ⟨hfs, fun e => by cases e⟩, ⟨hfs', fun e => by cases e⟩, his⟩, hfl, hfl', hil⟩
        · exact add_none e0 rfl
        · have := add_none e1 rfl; rwa [← Nat.add_assoc] at this
        · have := add_none e2 rfl; rwa [← Nat.add_assoc] at this
        · have := add_none e3 rfl; rwa [← Nat.add_assoc] at this
        · have := add_none e4 rfl; rwa [← Nat.add_assoc] at this
        · have := add_none e5 rfl; rwa [← Nat.add_assoc] at this
    obtain ⟨fs, hfl, hfs⟩ := list_of GFun.d each
    subst hfl
    exact ⟨_, fs, m, rfl, .inr ⟨b, off, rfl, Nat.zero_le _, s1, (fun e => by cases e), fun i hi => (hfs i hi).1⟩, by omega, fun i hi => (hfs i hi).2⟩

set_option maxRecDepth 100000 in
theorem groupsM_open {v : Value} {x : DataW H × List MemPlace} (h : DataW.trod enc Tryd.prog W 0 (fun _ => true) hd fuel 22 [v] = some x) :
    ∃ ga gs gc, v = .slice ga gs.length gc ∧ GroupsM false W 0 W.heap.size ga gs ∧ GroupsB 9223372036854775807 gs := by
  have h' := h
  rcases open_slice1 Tryd.underlying22 (by kernel_rfl) h with ⟨hcs, _⟩ | ⟨y, l, c, m, n, V, D, Pl, hcs, _, hl, hm, hmm, _, hx⟩
  · simp at hcs
    exact ⟨none, [], 0, hcs, ⟨.inl rfl, fun e => by cases e⟩, Nat.zero_le _, fun i hi => absurd hi (Nat.not_lt_zero _)⟩
  · simp at hcs
    subst hcs
    have hT : DataW.Trod enc Tryd.prog W 0 (fun _ => true) hd 22 (.slice (some y) l c) x.1 x.2 := ⟨fuel, by simpa [Value.cells] using h'⟩
    obtain ⟨gs, rfl, hg, hL⟩ := groups_open hT
    exact ⟨_, gs, c, rfl, ⟨hg, fun e => by cases e⟩, hL⟩
theorem fieldsM_open {v : Value} {x : DataW H × List MemPlace} (h : DataW.trod enc Tryd.prog W 0 (fun _ => true) hd fuel 23 [v] = some x) :
    ∃ fa fs fc, v = .slice fa fs.length fc ∧ FieldsM false W 0 W.heap.size fa fs ∧ FieldsB 9223372036854775807 fs := by
  obtain ⟨fa, fs, fc, e, h1, h2⟩ := fields_open h
  exact ⟨fa, fs, fc, e, ⟨h1, fun e => by cases e⟩, h2⟩
end
end Go.Proofs.YtjfmiconmbpllaaDoor
