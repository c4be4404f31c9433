/- Slices of ints: how they lie in memory; toIntS copies them into new memory; eqIntS holds two against one another. -/
import Derived.Test.YtfjhlkmfgcnkoaaBase
namespace Go.Proofs.Ytfjhlkmfgcnkoaa
open Go.ChangeShapes Go.WideShapes Go.ChangeAt Go.RowKit
set_option linter.unusedVariables false

def nAt (l : List Int) (i : Nat) : Int := l.getD i 0

/-- The numbers xs lie at a, in blocks from lo on and below hi. -/
def IntsIn (w : World) (lo hi : Nat) (a : Option Addr) (xs : List Int) : Prop :=
  xs = [] ∨ ∃ b off, a = some ⟨b, off, none⟩ ∧ lo ≤ b ∧ b < hi ∧ ∀ i, i < xs.length → w.cell? ⟨b, off + i, none⟩ = some (.int .i64 (nAt xs i))

theorem IntsIn.keep {w w' : World} {lo hi : Nat} {a : Option Addr} {xs : List Int} (h : IntsIn w lo hi a xs) (hb : Below hi w w') : IntsIn w' lo hi a xs := by
  rcases h with rfl | ⟨b, off, rfl, h1, h2, h3⟩
  · exact .inl rfl
  · exact .inr ⟨b, off, rfl, h1, h2, fun i hi' => by rw [hb.cell (p := ⟨b, off + i, none⟩) h2]; exact h3 i hi'⟩

theorem Try.infoInt : (Try.prog.info? 3).map (fun i => (i.zero, i.size, i.bytes)) = some (some (.int .i64 0), 1, 8) := by kernel_rfl

/-- Numbers by their places, in a row that is filled up to k. -/
def filled (f : Nat → Int) (k : Nat) : Nat → Value := fun j => if j < k then .int .i64 (f j) else .int .i64 0

theorem filled_step (f : Nat → Int) (k : Nat) {n : Nat} (j : Nat) (_ : j < n) : (if j = k then Value.int .i64 (f k) else filled f k j) = filled f (k + 1) j := by
  unfold filled
  by_cases e : j = k
  · subst e; simp
  · rw [if_neg e]
    by_cases h : j < k
    · rw [if_pos h, if_pos (by omega)]
    · rw [if_neg h, if_neg (by omega)]

set_option maxHeartbeats 400000 in
theorem toIntS_core (a : Option Addr) (cap n : Nat) (f : Nat → Int) (w : World) (hn : n ≤ 1048576)
    (hx : n ≤ 0 ∨ ∃ b off, a = some ⟨b, off, none⟩ ∧ b < w.heap.size ∧ ∀ i, i < n → w.cell? ⟨b, off + i, none⟩ = some (.int .i64 (f i))) :
    Calls Try.prog 19 #[.slice a n cap] w fun e w' => e = .returned (.slice (some ⟨w.heap.size, 0, none⟩) n n) ∧ w'.rowIs w.heap.size 3 n (filled f n) ∧ w'.heap.size = w.heap.size + 1 ∧ Below w.heap.size w w' := by
  have hmk := run_make_row' (P := Try.prog) 38 3 (.int .i64 0) 8 Try.underlying38 Try.infoInt rfl .i64 .i64 n (by omega) (by omega)
  rcases hx with h0 | ⟨b, off, rfl, h2, h3⟩
  all_goals
    go_enter Try.func19, Try.ntmps19
    go_wp2
    go_loopw [4] (fun i wr => ∃ k : Nat, k ≤ n ∧ i = .int .i64 k ∧ wr.rowIs w.heap.size 3 n (filled f k) ∧ wr.heap.size = w.heap.size + 1 ∧ Below w.heap.size w wr) (fun i wr => n - (intOf i).toNat)
    case atStart => exact ⟨0, Nat.zero_le _, rfl, (World.rowIs_made w _ n _).congr (fun j _ => by simp [filled]), by simp, (Below.refl _ _).alloc (Nat.le_refl _) _⟩
    case round =>
      obtain ⟨k, hk, rfl, hr, hsz, hb⟩ := hrel
      by_cases hlt : k < n
      · first
        | (exfalso; omega)
        | (have hc := h3 k hlt
           rw [← hb.cell (p := ⟨b, off + k, none⟩) h2] at hc
           have hd := hr.cell hlt
           have hf := hr.frozen k
           clear h3
           go_wp2
           exact ⟨⟨k + 1, by omega, by go_num, (hr.set k _).congr (filled_step f k), by simpa using hsz, hb.setCell (Nat.le_refl _) _⟩, by simp [intOf]; omega⟩)
      · have hkn : Hid (k = n) := Nat.le_antisymm hk (Nat.le_of_not_lt hlt)
        go_wp2
        go_ret
        rw [hkn.out] at hr
        exact ⟨rfl, hr, hsz, hb⟩

theorem toIntS_any (a : Option Addr) (cap lo hi : Nat) (xs : List Int) (w : World) (hn : xs.length ≤ 1048576) (hx : IntsIn w lo hi a xs) (hh : hi ≤ w.heap.size) :
    Calls Try.prog 19 #[.slice a xs.length cap] w fun e w' => ∃ na, e = .returned (.slice na xs.length xs.length) ∧ IntsIn w' w.heap.size w'.heap.size na xs ∧ Below w.heap.size w w' := by
  refine (toIntS_core a cap xs.length (nAt xs) w hn ?_).mono ?_
  · rcases hx with rfl | ⟨b, off, rfl, h1, h2, h3⟩
    · exact .inl (Nat.le_refl _)
    · exact .inr ⟨b, off, rfl, Nat.lt_of_lt_of_le h2 hh, h3⟩
  · rintro e w' ⟨rfl, hr, hsz, hb⟩
    refine ⟨_, rfl, .inr ⟨_, _, rfl, Nat.le_refl _, by omega, fun i hi => ?_⟩, hb⟩
    rw [Nat.zero_add, hr.cell hi]
    simp [filled, hi]

set_option maxHeartbeats 400000 in
theorem eqIntS_core (a a' : Option Addr) (cap cap' n : Nat) (f : Nat → Int) (w : World)  (hn : n ≤ 1048576)
    (hx : n ≤ 0 ∨ ∃ b off b' off', a = some ⟨b, off, none⟩ ∧ a' = some ⟨b', off', none⟩ ∧ (∀ i, i < n → w.cell? ⟨b, off + i, none⟩ = some (.int .i64 (f i))) ∧ ∀ i, i < n → w.cell? ⟨b', off' + i, none⟩ = some (.int .i64 (f i))) :
    Calls Try.prog 21 #[.slice a n cap, .slice a' n cap'] w fun e w' => e = .returned (.bool true) ∧ ∃ m, w' = w.drewN m := by
  rcases hx with h0 | ⟨b, off, b', off', rfl, rfl, h3, h4⟩
  all_goals
    go_enter Try.func21, Try.ntmps21
    go_wp2
    go_loopw [5] (fun i wr => ∃ k : Nat, k ≤ n ∧ i = .int .i64 k ∧ ∃ m, wr = w.drewN m) (fun i wr => n - (intOf i).toNat)
    case atStart => exact ⟨0, Nat.zero_le _, rfl, 0, rfl⟩
    case round =>
      obtain ⟨k, hk, rfl, m, rfl⟩ := hrel
      by_cases hlt : k < n
      · first
        | (exfalso; omega)
        | (have hc := h3 k hlt
           have hd := h4 k hlt
           clear h3 h4
           go_wp2
           go_quiet (fail)
           go_wp2
           exact ⟨⟨k + 1, by omega, by go_num, _, rfl⟩, by simp [intOf]; omega⟩)
      · go_wp2
        go_ret
        exact ⟨rfl, _, rfl⟩

theorem eqIntS_any (a a' : Option Addr) (cap cap' lo hi lo' hi' : Nat) (xs : List Int) (w : World) (hn : xs.length ≤ 1048576) (hx : IntsIn w lo hi a xs) (hy : IntsIn w lo' hi' a' xs) :
    Calls Try.prog 21 #[.slice a xs.length cap, .slice a' xs.length cap'] w fun e w' => e = .returned (.bool true) ∧ ∃ m, w' = w.drewN m := by
  refine eqIntS_core a a' cap cap' xs.length (nAt xs) w hn ?_
  rcases hx with rfl | ⟨b, off, rfl, h1, h2, h3⟩
  · exact .inl (Nat.le_refl _)
  · rcases hy with rfl | ⟨b', off', rfl, h1', h2', h3'⟩
    · exact .inl (Nat.le_refl _)
    · exact .inr ⟨b, off, b', off', rfl, rfl, h3, h3'⟩

/-- KinIn, plainly: to is not empty, line is no shorter, and has at the place of the last of to that number. -/
def kinIn (n m : Nat) (f g : Nat → Int) : Bool := decide (0 < m) && (decide (m ≤ n) && (f (m - 1) == g (m - 1)))

set_option maxHeartbeats 400000 in
theorem specKinIn_core (a a' : Option Addr) (cap cap' n m : Nat) (f g : Nat → Int) (w : World) (hn : n ≤ 1048576) (hm : m ≤ 1048576)
    (hx : n ≤ 0 ∨ ∃ b off, a = some ⟨b, off, none⟩ ∧ (∀ i, i < n → w.cell? ⟨b, off + i, none⟩ = some (.int .i64 (f i))))
    (hy : m ≤ 0 ∨ ∃ b off, a' = some ⟨b, off, none⟩ ∧ (∀ i, i < m → w.cell? ⟨b, off + i, none⟩ = some (.int .i64 (g i)))) :
    Calls Try.prog 18 #[.slice a n cap, .slice a' m cap'] w fun e w' => e = .returned (.bool (kinIn n m f g)) ∧ ∃ q, w' = w.drewN q := by
  by_cases h0 : 0 < m
  · have hm1 : ((m - 1 : Nat) : Int) = (m : Int) - 1 := by omega
    by_cases h1 : m ≤ n
    · rcases hx with hx | ⟨b, off, rfl, hx⟩
      · omega
      rcases hy with hy | ⟨b', off', rfl, hy⟩
      · omega
      have c1 := hx (m - 1) (by omega)
      have c2 := hy (m - 1) (by omega)
      have g1 : (0 : Int) < (m : Int) := by omega
      have g2 : (m : Int) ≤ (n : Int) := by omega
      have g3 : (0 : Int) ≤ (m : Int) - 1 := by omega
      have g4 : (m : Int) - 1 < (n : Int) := by omega
      have g5 : (m : Int) - 1 < (m : Int) := by omega
      have t1 : ((m : Int) - 1).toNat = m - 1 := by omega
      have HK : Hid (kinIn n m f g = (f (m - 1) == g (m - 1))) := by simp [Hid, kinIn, h0, h1]
      clear hx hy hm1
      go_enter Try.func18, Try.ntmps18
      go_wp2
      go_quiet (fail)
      go_wp2
      go_ret
      exact ⟨ret_bool HK.out.symm, _, rfl⟩
    · have hd : decide ((m : Int) ≤ (n : Int)) = false := by simp; omega
      have g1 : (0 : Int) < (m : Int) := by omega
      have HK : Hid (kinIn n m f g = false) := by simp [Hid, kinIn, h1]
      clear hm1
      go_enter Try.func18, Try.ntmps18
      go_wp2
      go_quiet (fail)
      go_wp2
      go_ret
      exact ⟨ret_bool HK.out.symm, _, rfl⟩
  · have hd : decide ((0 : Int) < (m : Int)) = false := by simp; omega
    have HK : Hid (kinIn n m f g = false) := by simp [Hid, kinIn, h0]
    go_enter Try.func18, Try.ntmps18
    go_wp2
    go_quiet (fail)
    go_wp2
    go_ret
    exact ⟨ret_bool HK.out.symm, _, rfl⟩

set_option maxHeartbeats 400000 in
theorem implKinIn_core (a a' : Option Addr) (cap cap' n m : Nat) (f g : Nat → Int) (w : World) (hn : n ≤ 1048576) (hm : m ≤ 1048576)
    (hx : n ≤ 0 ∨ ∃ b off, a = some ⟨b, off, none⟩ ∧ (∀ i, i < n → w.cell? ⟨b, off + i, none⟩ = some (.int .i64 (f i))))
    (hy : m ≤ 0 ∨ ∃ b off, a' = some ⟨b, off, none⟩ ∧ (∀ i, i < m → w.cell? ⟨b, off + i, none⟩ = some (.int .i64 (g i)))) :
    Calls Try.prog 20 #[.slice a n cap, .slice a' m cap'] w fun e w' => e = .returned (.bool (kinIn n m f g)) ∧ ∃ q, w' = w.drewN q := by
  by_cases h0 : 0 < m
  · have g0 : ((m : Int) == 0) = false := by simp; omega
    by_cases h1 : m ≤ n
    · rcases hx with hx | ⟨b, off, rfl, hx⟩
      · omega
      rcases hy with hy | ⟨b', off', rfl, hy⟩
      · omega
      have c1 := hx (m - 1) (by omega)
      have c2 := hy (m - 1) (by omega)
      have gd : decide ((n : Int) < (m : Int)) = false := by simp; omega
      have g1 : (0 : Int) < (m : Int) := by omega
      have g2 : (m : Int) ≤ (n : Int) := by omega
      have g3 : (0 : Int) ≤ (m : Int) - 1 := by omega
      have g4 : (m : Int) - 1 < (n : Int) := by omega
      have g5 : (m : Int) - 1 < (m : Int) := by omega
      have t1 : ((m : Int) - 1).toNat = m - 1 := by omega
      have HK : Hid (kinIn n m f g = (f (m - 1) == g (m - 1))) := by simp [Hid, kinIn, h0, h1]
      clear hx hy
      go_enter Try.func20, Try.ntmps20
      go_wp2
      go_quiet (fail)
      go_wp2
      go_ret
      exact ⟨ret_bool HK.out.symm, _, rfl⟩
    · have gd : decide ((n : Int) < (m : Int)) = true := by simp; omega
      have g1 : (0 : Int) < (m : Int) := by omega
      have HK : Hid (kinIn n m f g = false) := by simp [Hid, kinIn, h1]
      clear hx hy
      go_enter Try.func20, Try.ntmps20
      go_wp2
      go_ret
      exact ⟨ret_bool HK.out.symm, 0, rfl⟩
  · have hd : ((m : Int) == 0) = true := by simp; omega
    have HK : Hid (kinIn n m f g = false) := by simp [Hid, kinIn, h0]
    clear hx hy
    go_enter Try.func20, Try.ntmps20
    go_wp2
    go_ret
    exact ⟨ret_bool HK.out.symm, 0, rfl⟩

theorem specKinIn_any (a a' : Option Addr) (cap cap' lo hi lo' hi' : Nat) (xs ys : List Int) (w : World) (hn : xs.length ≤ 1048576) (hm : ys.length ≤ 1048576) (hx : IntsIn w lo hi a xs) (hy : IntsIn w lo' hi' a' ys) :
    Calls Try.prog 18 #[.slice a xs.length cap, .slice a' ys.length cap'] w fun e w' => e = .returned (.bool (kinIn xs.length ys.length (nAt xs) (nAt ys))) ∧ ∃ q, w' = w.drewN q := by
  refine specKinIn_core a a' cap cap' xs.length ys.length (nAt xs) (nAt ys) w hn hm ?_ ?_
  · rcases hx with rfl | ⟨b, off, rfl, h1, h2, h3⟩
    · exact .inl (Nat.le_refl _)
    · exact .inr ⟨b, off, rfl, h3⟩
  · rcases hy with rfl | ⟨b, off, rfl, h1, h2, h3⟩
    · exact .inl (Nat.le_refl _)
    · exact .inr ⟨b, off, rfl, h3⟩

theorem implKinIn_any (a a' : Option Addr) (cap cap' lo hi lo' hi' : Nat) (xs ys : List Int) (w : World) (hn : xs.length ≤ 1048576) (hm : ys.length ≤ 1048576) (hx : IntsIn w lo hi a xs) (hy : IntsIn w lo' hi' a' ys) :
    Calls Try.prog 20 #[.slice a xs.length cap, .slice a' ys.length cap'] w fun e w' => e = .returned (.bool (kinIn xs.length ys.length (nAt xs) (nAt ys))) ∧ ∃ q, w' = w.drewN q := by
  refine implKinIn_core a a' cap cap' xs.length ys.length (nAt xs) (nAt ys) w hn hm ?_ ?_
  · rcases hx with rfl | ⟨b, off, rfl, h1, h2, h3⟩
    · exact .inl (Nat.le_refl _)
    · exact .inr ⟨b, off, rfl, h3⟩
  · rcases hy with rfl | ⟨b, off, rfl, h1, h2, h3⟩
    · exact .inl (Nat.le_refl _)
    · exact .inr ⟨b, off, rfl, h3⟩

theorem IntsIn.drewN {w : World} {lo hi : Nat} {a : Option Addr} {xs : List Int} (h : IntsIn w lo hi a xs) (q : Nat) : IntsIn (w.drewN q) lo hi a xs := h

/-- A reading of a slice of ints, as the walks want it. -/
theorem ints_open {H : Type} {enc : TypeId × Value → H} {W : World} {a : Option Addr} {len cap : Nat} {d : DataW H} {p : List MemPlace} {sp : Nat → Bool} {hd : Bool}
    (h : DataW.Trod enc Try.prog W 0 sp hd 38 (.slice a len cap) d p) (hsp : sp = fun _ => true) : ∃ xs : List Int, xs.length = len ∧ IntsIn W 0 W.heap.size a xs := by
  obtain ⟨fuel, hf⟩ := h
  have lt0 := DataW.trod_lt fuel _ _ _ hf
  rcases open_ints Try.underlying38 Try.underlying3 (by kernel_rfl) hf with ⟨hcs, _⟩ | ⟨x, l, c, zs, hcs, _, hl, hm, hz, hx, hcell, hwz⟩
  · simp [Value.cells] at hcs
    obtain ⟨rfl, rfl, rfl⟩ := hcs
    exact ⟨[], rfl, .inl rfl⟩
  · simp [Value.cells] at hcs
    obtain ⟨rfl, rfl, rfl⟩ := hcs
    subst hsp
    simp at hz
    by_cases h0 : len = 0
    · exact ⟨[], h0.symm, .inl rfl⟩
    · obtain ⟨b, off, spot⟩ := x
      have hc := hcell 0 (by omega)
      have hspot : spot = none := by simpa [Addr.add] using World.cell?_spot hc
      subst hspot
      refine ⟨zs.take len, by simp; omega, .inr ⟨b, off, rfl, Nat.zero_le _, ?_, fun i hi => ?_⟩⟩
      · exact cell_lt hc
      · simp at hi
        have := hcell i (by omega)
        rw [add_plain] at this
        rw [this]
        simp only [nAt, List.getD, List.getElem?_take]
        rw [if_pos (by omega)]
end Go.Proofs.Ytfjhlkmfgcnkoaa
