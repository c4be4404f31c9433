/- EngineRoots of the program: the same row of values. -/
import Derived.Test.YtbalfmlmgbmneaaRootsK
namespace Go.Proofs.Ytbalfmlmgbmneaa
open Go.ChangeShapes Go.WideShapes Go.ChangeAt Go.RowKit Go.Shelf Go.Deep
set_option linter.unusedVariables false

/-- The lists one behind the other. -/
def flatV (f : Nat → List GVal) : Nat → List GVal
  | 0 => []
  | i + 1 => flatV f i ++ f i
theorem flatV_length (f : Nat → List GVal) : ∀ n, (flatV f n).length = cntTo (fun i => (f i).length) n := by
  intro n
  induction n with
  | zero => rfl
  | succ n ih => simp [flatV, cntTo, ih]
theorem flatV_at (f : Nat → List GVal) {i j : Nat} (hj : j < (f i).length) : ∀ n, i < n → valAt' (flatV f n) (cntTo (fun i => (f i).length) i + j) = valAt' (f i) j := by
  intro n
  induction n with
  | zero => intro h; omega
  | succ n ih =>
    intro h
    unfold valAt'
    simp only [flatV]
    by_cases e : i = n
    · subst e
      rw [List.getD_eq_getElem?_getD, List.getElem?_append_right (by rw [flatV_length]; omega), flatV_length]
      simp
    · have hlt := cntTo_lt (fun i => (f i).length) (show i < n by omega) hj
      rw [List.getD_eq_getElem?_getD, List.getElem?_append_left (by rw [flatV_length]; exact hlt), ← List.getD_eq_getElem?_getD]
      exact ih (by omega)
theorem cnt_split (L : Nat → Nat) : ∀ n k, k < cntTo L n → ∃ i, i < n ∧ ∃ j, j < L i ∧ k = cntTo L i + j := by
  intro n
  induction n with
  | zero => intro k h; exact absurd h (Nat.not_lt_zero _)
  | succ n ih =>
    intro k h
    by_cases e : k < cntTo L n
    · obtain ⟨i, h1, j, h2, h3⟩ := ih k e
      exact ⟨i, by omega, j, h2, h3⟩
    · have h' : k < cntTo L n + L n := h
      exact ⟨n, by omega, k - cntTo L n, by omega, by omega⟩
theorem flat_roots (g : List GVal) (fs : List GFrame) : ∀ k, flatV (listAt g fs) (2 * k + 1) = rootsTo g fs k := by
  intro k
  induction k with
  | zero => simp [flatV, rootsTo, listAt]
  | succ k ih =>
    show flatV (listAt g fs) (2 * k + 1) ++ listAt g fs (2 * k + 1) ++ listAt g fs (2 * k + 2) = _
    rw [ih, listAt_loc, listAt_stk]
    rfl

set_option maxHeartbeats 2000000 in
theorem implRoots_any {md : Bool} (a0 : Option Addr) (c0 : Nat) (a4 : Option Addr) (c4 : Nat) (a5 : Option Addr) (c5 : Nat) (a6 : Option Addr) (c6 : Nat) (a7 : Option Addr) (c7 : Nat) (lo hi : Nat) (x : GEngine) (w : World)
    (hg : x.glob.length ≤ 1048576) (hf : FramesB 1048576 x.frames) (g5 : ValsM md w lo hi a5 x.glob) (g6 : FramesM md w lo hi a6 x.frames) (hh : hi ≤ w.heap.size) :
    Calls Try.prog 7 #[.agg #[.slice a0 x.heap.words.length c0, .int .i64 x.heap.old, .int .i64 x.heap.oldAt, .int .i64 x.heap.youngAt, .slice a4 x.heap.log.length c4, .slice a5 x.glob.length c5, .slice a6 x.frames.length c6, .slice a7 x.outs.length c7, .int .i64 x.asked, .int .i64 x.code, .int .i64 x.steps]] w fun e w' =>
      ∃ a c, e = .returned (.slice a (rootsL x.glob x.frames).length c) ∧ ValRow w' w.heap.size a c (rootsL x.glob x.frames) ∧ Below w.heap.size w w' := by
  have G5 := hide g5
  have G6 := hide g6
  have HF := hide hf
  have HG := hide hg
  clear g5 g6 hf hg
  have B0 : Hid (Below w.heap.size w (w.alloc (.cells #[.slice a0 x.heap.words.length c0, .int .i64 x.heap.old, .int .i64 x.heap.oldAt, .int .i64 x.heap.youngAt, .slice a4 x.heap.log.length c4, .slice a5 x.glob.length c5, .slice a6 x.frames.length c6, .slice a7 x.outs.length c7, .int .i64 x.asked, .int .i64 x.code, .int .i64 x.steps] 35))) := (Below.refl _ _).alloc (Nat.le_refl _) _
  go_enter Try.func7, Try.ntmps7
  go_wp2_with fail
  refine (bare_any a0 c0 _ a4 c4 _ a5 c5 _ a6 c6 _ a7 c7 _ _ _ _ _ _ _ _).mono ?_
  rintro e w1 ⟨rfl, hb1⟩
  have B1 := hide (B0.out.trans (hb1.mono B0.out.size))
  clear hb1
  go_wp2_with fail
  refine (roots_any a5 c5 a6 c6 a7 _ c7 lo hi x.glob x.frames _ _ w1 HF.out.1 (G5.out.keep (B1.out.mono hh)) (G6.out.keep (B1.out.mono hh)) (Nat.le_trans hh B1.out.size)).mono ?_
  rintro e w2 ⟨bb, lb, c, hs, rfl, hR, hl, hlb, hc, hH, hb2⟩
  have B2 := hide (B1.out.trans (hb2.mono B1.out.size))
  have each : ∀ i, i < hs.length → ∃ q : Nat × Nat, ∃ a c, hs[i]? = some (.slice a (listAt x.glob x.frames i).length c) ∧ (0 < (listAt x.glob x.frames i).length → a = some ⟨q.1, q.2, none⟩ ∧ q.1 < hi ∧ ∀ j, j < (listAt x.glob x.frames i).length → ValAt false w1 lo hi q.1 (q.2 + j * 2) (valAt' (listAt x.glob x.frames i) j)) := by
    intro i hi
    obtain ⟨a, c, h1, h2⟩ := hH i hi
    rcases h2 with h2 | ⟨b, off, rfl, h3, h4, _, h6⟩
    · exact ⟨(0, 0), a, c, h1, fun h => absurd h (by rw [h2]; simp)⟩
    · exact ⟨(b, off), _, c, h1, fun _ => ⟨rfl, h4, h6⟩⟩
  obtain ⟨bl, _, hbl⟩ := list_of ((0, 0) : Nat × Nat) each
  have hroots : flatV (listAt x.glob x.frames) hs.length = rootsL x.glob x.frames := by rw [hl]; exact flat_roots _ _ _
  have hrl := rootsTo_len x.glob x.frames HG.out HF.out.2 x.frames.length (Nat.le_refl _)
  have hf1 := HF.out.1
  have hcount : cntTo (fun i => (listAt x.glob x.frames i).length) hs.length = (rootsL x.glob x.frames).length := by rw [← hroots, flatV_length]
  have hLb : ∀ i, i < hs.length → (listAt x.glob x.frames i).length ≤ 1000000000000 := by
    intro i hi
    have h0 := HG.out
    unfold listAt
    split
    · omega
    · obtain ⟨q1, q2⟩ := HF.out.2 ((i - 1) / 2) (by omega)
      unfold ValsB at q1 q2
      split <;> omega
  have HV := hide (vals_walk bb lb c hs.length (rootsL x.glob x.frames).length (fun i => (listAt x.glob x.frames i).length) (fun i => bl.getD i (0, 0)) (rootsL x.glob x.frames) w2 rfl (by have : (rootsL x.glob x.frames).length ≤ _ := hrl; omega) hcount (by omega) hLb (by rw [hl]; exact hR) hlb
    (fun i hi => by
      obtain ⟨a, c', h1, h2⟩ := hbl i hi
      exact ⟨a, c', by rw [Nat.zero_add]; exact hc i _ h1, fun h => (h2 h).1⟩)
    (fun k hk => by
      rw [← hcount] at hk
      obtain ⟨i, hi, j, hj, rfl⟩ := cnt_split _ _ _ hk
      obtain ⟨a, c', h1, h2⟩ := hbl i hi
      obtain ⟨q1, q2, q3⟩ := h2 (by omega)
      rw [ptrAt_eq (fun i => (listAt x.glob x.frames i).length) (fun i => bl.getD i (0, 0)) hj hs.length hi, ← hroots, flatV_at (listAt x.glob x.frames) hj hs.length hi]
      obtain ⟨e0, e1⟩ := q3 j hj
      have lt : (bl.getD i (0, 0)).1 < w1.heap.size := by have := B1.out.size; omega
      exact ⟨Nat.lt_of_lt_of_le lt hb2.size, (hb2.cell (p := ⟨(bl.getD i (0, 0)).1, _, none⟩) lt).trans e0, (hb2.cell (p := ⟨(bl.getD i (0, 0)).1, _, none⟩) lt).trans e1⟩))
  clear hb2 each hbl hroots hrl hcount hLb hH hc hR hlb hl hf1
  go_wp2_with fail
  refine (callsIn_wide.1 HV.out).mono ?_
  rintro e w3 ⟨a, cap, rfl, hrow, hb3⟩
  have V3 := hide hrow
  have B3 := hide (B2.out.trans (hb3.mono B2.out.size))
  clear hrow hb3
  go_wp2_with fail
  go_ret
  exact ⟨a, cap, rfl, owns_lower V3.out B2.out.size, B3.out⟩
end Go.Proofs.Ytbalfmlmgbmneaa
