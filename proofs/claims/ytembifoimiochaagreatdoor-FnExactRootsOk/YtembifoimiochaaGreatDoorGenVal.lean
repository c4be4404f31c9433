/- Val: what the laws' own to.., sz.. and eq.. of it do. Written by tools/gen.py. -/
import Derived.Test.YtembifoimiochaaGreatDoorPhWord
namespace Go.Proofs.YtembifoimiochaaGreatDoor
open Go.ChangeShapes Go.WideShapes Go.ChangeAt Go.RowKit Go.Joins Go.Deep
set_option linter.unusedVariables false

set_option maxHeartbeats 400000 in
theorem toVal_any (x : GVal) (w : World) :
    Calls Tryz.prog 21 #[.agg #[.int .i64 x.kind, .int .i64 x.n]] w fun e w' => e = .returned (.agg #[.int .i64 x.kind, .int .i64 x.n]) ∧ Below w.heap.size w w' := by
  go_enter Tryz.func21, Tryz.ntmps21
  go_wp2
  refine bodyPost_ret (v := .agg #[.int .i64 x.kind, .int .i64 x.n]) (by simp [results, Tryz.results21, go_sem]) rfl ⟨rfl, ?_⟩
  repeat (first | exact Below.refl _ _ | refine Below.alloc ?_ (by simp <;> omega) _)

/-- One laid at its place. -/
theorem val_set {w : World} {b n lo hi : Nat} {T' : TypeId} (h : Own w b n T') (F : Nat → GVal) (k : Nat) (hk : k * 2 + 1 < n) (hlo : b < lo) (hF : ∀ j, j < k → ValAt true w lo hi b (j * 2) (F j)) :
    ∀ j, j < k + 1 → ValAt true (((w).setCell ⟨b, k * 2, none⟩ (.int .i64 (F k).kind)).setCell ⟨b, k * 2 + 1, none⟩ (.int .i64 (F k).n)) lo hi b (j * 2) (F j) := by
  intro j hj
  have h1 := h.set b (k * 2) (.int .i64 (F k).kind)
  have hs : Same lo hi w (((w).setCell ⟨b, k * 2, none⟩ (.int .i64 (F k).kind)).setCell ⟨b, k * 2 + 1, none⟩ (.int .i64 (F k).n)) := ((Same.refl _ _ _).set (.inl hlo) _ _).set (.inl hlo) _ _
  unfold ValAt
  simp only [h1.cell_set (o := k * 2 + 1) (by omega : k * 2 + 1 < n), h.cell_set (o := k * 2) (by omega : k * 2 < n)]
  by_cases e : j = k
  · subst e
    exact ⟨by simp, by simp⟩
  · obtain ⟨e0, e1⟩ := hF j (by omega)
    refine ⟨?_, ?_⟩
    all_goals rw [if_neg (by omega), if_neg (by omega)]; assumption

set_option maxHeartbeats 800000 in
theorem toValS_core (a : Option Addr) (cap n lo hi : Nat) (F : Nat → GVal) (w : World) (hn : n ≤ 1048576) (hh : hi ≤ w.heap.size)
    (hx : n ≤ 0 ∨ ∃ b off, a = some ⟨b, off, none⟩ ∧ lo ≤ b ∧ b < hi ∧ ∀ i, i < n → ValAt false w lo hi b (off + i * 2) (F i)) :
    Calls Tryz.prog 10 #[.slice a n cap] w fun e w' => e = .returned (.slice (some ⟨w.heap.size, 0, none⟩) n n) ∧ Own w' w.heap.size (n * 2) 49 ∧ (∀ j, j < n → ValAt true w' (w.heap.size + 1) w'.heap.size w.heap.size (j * 2) (F j)) ∧ Below w.heap.size w w' := by
  have hmk := run_make_any (P := Tryz.prog) 35 49 _ 2 16 Tryz.underlying35 Tryz.infoVal n (by omega) (by omega)
  rcases hx with h0 | ⟨b, off, rfl, h1, h2, h3⟩
  all_goals
    go_enter Tryz.func10, Tryz.ntmps10
    go_wp2_with fail
    go_loopw [4] (fun i wr => ∃ k : Nat, k ≤ n ∧ i = .int .i64 k ∧ Own wr w.heap.size (n * 2) 49 ∧ (∀ j, j < k → ValAt true wr (w.heap.size + 1) wr.heap.size w.heap.size (j * 2) (F j)) ∧ Below w.heap.size w wr) (fun i wr => n - (intOf i).toNat)
    case atStart => exact ⟨0, Nat.zero_le _, rfl, Own.made _ _ _ _, fun j hj => absurd hj (Nat.not_lt_zero _), (Below.refl _ _).alloc (Nat.le_refl _) _⟩
    case round =>
      obtain ⟨k, hk, rfl, ho, hF, hb⟩ := hrel
      have HF := hide hF
      have HO := hide ho
      clear hF ho
      by_cases hlt : k < n
      · first
        | (exfalso; omega)
        | (have sb := hb.size
           have hx := (h3 k hlt).same (.of_below (hb.mono hh) (Nat.le_refl _)) (Nat.le_refl _) (Nat.le_refl _) h1 h2
           obtain ⟨e0, e1⟩ := hx
           clear h3
           go_wp2_with fail
           refine (toVal_any (F k) _).mono ?_
           rintro e w1 ⟨rfl, hb1⟩
           have HO1 := hide (HO.out.below hb1 HO.out.lt)
           have f0 := HO1.out.frozen (k * 2)
           have f1 := HO1.out.frozen (k * 2 + 1)
           obtain ⟨v0, d0⟩ := HO1.out.cell (o := k * 2) (by omega)
           obtain ⟨v1, d1⟩ := HO1.out.cell (o := k * 2 + 1) (by omega)
           have hs1 := Own.lt HO.out
           go_wp2_with fail
           have hF1 : ∀ j, j < k → ValAt true w1 (w.heap.size + 1) w1.heap.size w.heap.size (j * 2) (F j) := fun j hj => by
             obtain ⟨e0, e1⟩ := HF.out j hj
             exact ⟨(hb1.cell (by exact hs1)).trans e0, (hb1.cell (by exact hs1)).trans e1⟩
           refine ⟨⟨k + 1, by omega, by go_num, ((HO1.out).set _ _ _).set _ _ _, ?_, ((hb.trans (hb1.mono hb.size)).setCell (Nat.le_refl _) _).setCell (Nat.le_refl _) _⟩, by simp [intOf]; omega⟩
           have := val_set HO1.out F k (by omega) (Nat.lt_succ_self _) hF1
           simpa using this)
      · have hkn : Hid (k = n) := Nat.le_antisymm hk (Nat.le_of_not_lt hlt)
        go_wp2_with fail
        go_ret
        exact ⟨rfl, HO.out, hkn.out ▸ HF.out, hb⟩

theorem toValS_g {md : Bool} (a : Option Addr) (cap lo hi : Nat) (xs : List GVal) (w : World) (hn : ValsB 1048576 xs) (hx : ValsM md w lo hi a xs) (hh : hi ≤ w.heap.size) :
    Calls Tryz.prog 10 #[.slice a xs.length cap] w fun e w' => ∃ na, e = .returned (.slice na xs.length xs.length) ∧ ValsM true w' w.heap.size w'.heap.size na xs ∧ Below w.heap.size w w' := by
  refine (toValS_core a cap xs.length lo hi (valAt' xs) w hn hh ?_).mono ?_
  · rcases hx.plain with rfl | ⟨b, off, rfl, h1, h2, _, h3⟩
    · exact .inl (Nat.le_refl _)
    · exact .inr ⟨b, off, rfl, h1, h2, h3⟩
  · rintro e w' ⟨rfl, ho, hF, hb⟩
    refine ⟨_, rfl, .inr ⟨_, 0, rfl, Nat.le_refl _, ho.lt, fun _ => ⟨rfl, _, ho, Nat.le_refl _⟩, fun i hi => ?_⟩, hb⟩
    obtain ⟨e0, e1⟩ := hF i hi
    rw [Nat.zero_add]
    exact ⟨e0, e1⟩

set_option maxHeartbeats 800000 in
theorem szValS_g {md : Bool} (a : Option Addr) (cap lo hi : Nat) (xs : List GVal) (left : Int) (w : World) (hl : ValsB 9223372036854775807 xs) (hx : ValsM md w lo hi a xs) (hh : hi ≤ w.heap.size) (l0 : 0 ≤ left) (l1 : left ≤ 1048576) :
    Calls Tryz.prog 6 #[.slice a xs.length cap, .int .i64 left] w fun e w' => ∃ r : Int, e = .returned (.int .i64 r) ∧ -1 ≤ r ∧ r ≤ left ∧ (0 ≤ r → ValsB 1048576 xs) ∧ Below w.heap.size w w' := by
  have hn : xs.length ≤ 9223372036854775807 := hl
  clear hl hx
  by_cases hlt : left - (xs.length : Int) < 0
  · go_enter Tryz.func6, Tryz.ntmps6
    go_wp2_with fail
    go_ret
    exact ⟨-1, rfl, by omega, by omega, fun _ => (by unfold ValsB; omega), Below.refl _ _⟩
  · go_enter Tryz.func6, Tryz.ntmps6
    go_wp2_with fail
    go_ret
    exact ⟨left - xs.length, rfl, by omega, by omega, fun _ => (by unfold ValsB; omega), Below.refl _ _⟩

set_option maxHeartbeats 400000 in
theorem eqVal_g (x : GVal) (w : World) :
    Calls Tryz.prog 25 #[.agg #[.int .i64 x.kind, .int .i64 x.n], .agg #[.int .i64 x.kind, .int .i64 x.n]] w fun e w' => e = .returned (.bool true) ∧ Below w.heap.size w w' := by
  go_enter Tryz.func25, Tryz.ntmps25
  go_wp2_with fail
  go_ret
  exact ⟨rfl, ((Below.refl _ _).alloc (Nat.le_refl _) _).alloc (by simp) _⟩

set_option maxHeartbeats 800000 in
theorem eqValS_core (a a' : Option Addr) (cap cap' n lo hi lo' hi' : Nat) (F : Nat → GVal) (w : World) (hh : hi ≤ w.heap.size) (hh' : hi' ≤ w.heap.size)
    (hx : n ≤ 0 ∨ ∃ b off b' off', a = some ⟨b, off, none⟩ ∧ a' = some ⟨b', off', none⟩ ∧ lo ≤ b ∧ b < hi ∧ lo' ≤ b' ∧ b' < hi' ∧ (∀ i, i < n → ValAt false w lo hi b (off + i * 2) (F i)) ∧ (∀ i, i < n → ValAt false w lo' hi' b' (off' + i * 2) (F i))) (hn : n ≤ 1048576) :
    Calls Tryz.prog 14 #[.slice a n cap, .slice a' n cap'] w fun e w' => e = .returned (.bool true) ∧ Below w.heap.size w w' := by
  rcases hx with h0 | ⟨b, off, b', off', rfl, rfl, g1, g2, g3, g4, h3, h4⟩
  all_goals
    go_enter Tryz.func14, Tryz.ntmps14
    go_wp2_with fail
    go_loopw [5] (fun i wr => ∃ k : Nat, k ≤ n ∧ i = .int .i64 k ∧ Below w.heap.size w wr) (fun i wr => n - (intOf i).toNat)
    case atStart => exact ⟨0, Nat.zero_le _, rfl, Below.refl _ _⟩
    case round =>
      obtain ⟨k, hk, rfl, hb⟩ := hrel
      by_cases hlt : k < n
      · first
        | (exfalso; omega)
        | (have x1 := (h3 k hlt).same (.of_below (hb.mono hh) (Nat.le_refl _)) (Nat.le_refl _) (Nat.le_refl _) g1 g2
           have x2 := (h4 k hlt).same (.of_below (hb.mono hh') (Nat.le_refl _)) (Nat.le_refl _) (Nat.le_refl _) g3 g4
           obtain ⟨e0, e1⟩ := x1
           obtain ⟨f0, f1⟩ := x2
           clear h3 h4
           have k1 : (0 : Int) ≤ (k : Int) := by omega
           have k2 : (k : Int) < (n : Int) := by omega
           have s1 := hb.size
           go_wp2_with fail
           go_region_held3 (fun w' => (w'.cell? ⟨b, off + k * 2, none⟩ = some (.int .i64 (F k).kind) ∧ w'.cell? ⟨b, off + k * 2 + 1, none⟩ = some (.int .i64 (F k).n)) ∧ (w'.cell? ⟨b', off' + k * 2, none⟩ = some (.int .i64 (F k).kind) ∧ w'.cell? ⟨b', off' + k * 2 + 1, none⟩ = some (.int .i64 (F k).n))) (go_keep)
             ((go_at_call 25; refine (eqVal_g (F k) _).mono ?_; rintro e w1 ⟨rfl, hb1⟩; have y1 : ∀ o, w1.cell? ⟨b, o, none⟩ = wr.cell? ⟨b, o, none⟩ := fun o => hb1.cell (Nat.lt_of_lt_of_le g2 (Nat.le_trans hh s1)); have y2 : ∀ o, w1.cell? ⟨b', o, none⟩ = wr.cell? ⟨b', o, none⟩ := fun o => hb1.cell (Nat.lt_of_lt_of_le g4 (Nat.le_trans hh' s1))))
           go_wp2_with fail
           exact ⟨⟨k + 1, by omega, by go_num, hb.drew.trans (hb1.mono s1)⟩, by simp [intOf]; omega⟩)
      · go_wp2_with fail
        go_ret
        exact ⟨rfl, hb⟩

theorem eqValS_g {md md' : Bool} (a a' : Option Addr) (cap cap' lo hi lo' hi' : Nat) (xs : List GVal) (w : World) (hn : ValsB 1048576 xs) (hx : ValsM md w lo hi a xs) (hy : ValsM md' w lo' hi' a' xs) (hh : hi ≤ w.heap.size) (hh' : hi' ≤ w.heap.size) :
    Calls Tryz.prog 14 #[.slice a xs.length cap, .slice a' xs.length cap'] w fun e w' => e = .returned (.bool true) ∧ Below w.heap.size w w' := by
  refine eqValS_core a a' cap cap' xs.length lo hi lo' hi' (valAt' xs) w hh hh' ?_ hn
  rcases hx.plain with rfl | ⟨b, off, rfl, h1, h2, _, h3⟩
  · exact .inl (Nat.le_refl _)
  · rcases hy.plain with rfl | ⟨b', off', rfl, h1', h2', _, h3'⟩
    · exact .inl (Nat.le_refl _)
    · exact .inr ⟨b, off, b', off', rfl, rfl, h1, h2, h1', h2', h3, h3'⟩
end Go.Proofs.YtembifoimiochaaGreatDoor
