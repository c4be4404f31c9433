/- Things: what the laws' own to.., sz.. and eq.. of a list do. Written by tools/gen.py. -/
import Derived.Test.YtlmciclkfmeepaaDoorGenThing0
namespace Go.Proofs.YtlmciclkfmeepaaDoor
open Go.ChangeShapes Go.WideShapes Go.ChangeAt Go.RowKit Go.Joins Go.Deep
set_option linter.unusedVariables false

theorem Tryd.infoThing : (Tryd.prog.info? 57).map (fun i => (i.zero, i.size, i.bytes)) = some (some (.agg #[.int .i64 0, .slice none 0 0]), 2, 32) := by kernel_rfl
/-- One laid at its place. -/
theorem thing_set {w : World} {b n lo hi m1 : Nat} {T' : TypeId} {n1 : Option Addr} (h : Own w b n T') (F : Nat → GThing) (k : Nat) (hk : k * 2 + 1 < n) (hlo : b < lo) (hF : ∀ j, j < k → ThingAt true w lo hi b (j * 2) (F j)) (q1 : ValsM true w lo hi n1 (F k).vals) :
    ∀ j, j < k + 1 → ThingAt true (((w).setCell ⟨b, k * 2, none⟩ (.int .i64 (F k).typ)).setCell ⟨b, k * 2 + 1, none⟩ (.slice n1 (F k).vals.length m1)) lo hi b (j * 2) (F j) := by
  intro j hj
  have h1 := h.set b (k * 2) (.int .i64 (F k).typ)
  have hs : Same lo hi w (((w).setCell ⟨b, k * 2, none⟩ (.int .i64 (F k).typ)).setCell ⟨b, k * 2 + 1, none⟩ (.slice n1 (F k).vals.length m1)) := ((Same.refl _ _ _).set (.inl hlo) _ _).set (.inl hlo) _ _
  unfold ThingAt
  simp only [h1.cell_set (o := k * 2 + 1) (by omega : k * 2 + 1 < n), h.cell_set (o := k * 2) (by omega : k * 2 < n)]
  by_cases e : j = k
  · subst e
    exact ⟨n1, m1, by simp, by simp, q1.same hs (Nat.le_refl _) (Nat.le_refl _)⟩
  · obtain ⟨a1, c1, e0, e1, l1⟩ := hF j (by omega)
    refine ⟨a1, c1, ?_, ?_, l1.same hs (Nat.le_refl _) (Nat.le_refl _)⟩
    all_goals rw [if_neg (by omega), if_neg (by omega)]; assumption

set_option maxHeartbeats 800000 in
theorem toThingS_core (a : Option Addr) (cap n lo hi : Nat) (F : Nat → GThing) (w : World) (hn : n ≤ 1048576) (hm : ∀ i, i < n → ThingB 1048576 (F i)) (hh : hi ≤ w.heap.size)
    (hx : n ≤ 0 ∨ ∃ b off, a = some ⟨b, off, none⟩ ∧ lo ≤ b ∧ b < hi ∧ ∀ i, i < n → ThingAt false w lo hi b (off + i * 2) (F i)) :
    Calls Tryd.prog 9 #[.slice a n cap] w fun e w' => e = .returned (.slice (some ⟨w.heap.size, 0, none⟩) n n) ∧ Own w' w.heap.size (n * 2) 57 ∧ (∀ j, j < n → ThingAt true w' (w.heap.size + 1) w'.heap.size w.heap.size (j * 2) (F j)) ∧ Below w.heap.size w w' := by
  have hmk := run_make_any (P := Tryd.prog) 33 57 _ 2 32 Tryd.underlying33 Tryd.infoThing n (by omega) (by omega)
  have HM := hide hm
  clear hm
  rcases hx with h0 | ⟨b, off, rfl, h1, h2, h3⟩
  all_goals
    go_enter Tryd.func9, Tryd.ntmps9
    go_wp2_with fail
    go_loopw [4] (fun i wr => ∃ k : Nat, k ≤ n ∧ i = .int .i64 k ∧ Own wr w.heap.size (n * 2) 57 ∧ (∀ j, j < k → ThingAt true wr (w.heap.size + 1) wr.heap.size w.heap.size (j * 2) (F j)) ∧ Below w.heap.size w wr) (fun i wr => n - (intOf i).toNat)
    case atStart => exact ⟨0, Nat.zero_le _, rfl, Own.made _ _ _ _, fun j hj => absurd hj (Nat.not_lt_zero _), (Below.refl _ _).alloc (Nat.le_refl _) _⟩
    case round =>
      obtain ⟨k, hk, rfl, ho, hF, hb⟩ := hrel
      have HF := hide hF
      have HO := hide ho
      clear hF ho
      by_cases hlt : k < n
      · first
        | (exfalso; omega)
        | (have sb := hb.size
           have hx := (h3 k hlt).same (.of_below (hb.mono hh) (Nat.le_refl _)) (Nat.le_refl _) (Nat.le_refl _) h1 h2
           obtain ⟨a1, c1, e0, e1, l1⟩ := hx
           have L1 := hide l1
           clear h3 l1
           go_wp2_with fail
           refine (toThing_any a1 c1 lo hi (F k) _ (HM.out k hlt) L1.out ?_).mono ?_
           · omega
           rintro e w1 ⟨n1, rfl, q1, hb1⟩
           have Q1 := hide q1
           clear q1
           have HO1 := hide (HO.out.below hb1 HO.out.lt)
           have f0 := HO1.out.frozen (k * 2)
           have f1 := HO1.out.frozen (k * 2 + 1)
           obtain ⟨v0, d0⟩ := HO1.out.cell (o := k * 2) (by omega)
           obtain ⟨v1, d1⟩ := HO1.out.cell (o := k * 2 + 1) (by omega)
           have hs1 := Own.lt HO.out
           go_wp2_with fail
           have hF1 : ∀ j, j < k → ThingAt true w1 (w.heap.size + 1) w1.heap.size w.heap.size (j * 2) (F j) := fun j hj => by
             obtain ⟨a1, c1, e0, e1, l1⟩ := HF.out j hj
             exact ⟨a1, c1, (hb1.cell (by exact hs1)).trans e0, (hb1.cell (by exact hs1)).trans e1, l1.same (.of_below hb1 (Nat.le_refl _)) (Nat.le_refl _) hb1.size⟩
           refine ⟨⟨k + 1, by omega, by go_num, ((HO1.out).set _ _ _).set _ _ _, ?_, ((hb.trans (hb1.mono hb.size)).setCell (Nat.le_refl _) _).setCell (Nat.le_refl _) _⟩, by simp [intOf]; omega⟩
           have := thing_set (m1 := (F k).vals.length) HO1.out F k (by omega) (Nat.lt_succ_self _) hF1 (Q1.out.wide (by omega) (Nat.le_refl _))
           simpa using this)
      · have hkn : Hid (k = n) := Nat.le_antisymm hk (Nat.le_of_not_lt hlt)
        go_wp2_with fail
        go_ret
        exact ⟨rfl, HO.out, hkn.out ▸ HF.out, hb⟩

theorem toThingS_g {md : Bool} (a : Option Addr) (cap lo hi : Nat) (xs : List GThing) (w : World) (hn : ThingsB 1048576 xs) (hx : ThingsM md w lo hi a xs) (hh : hi ≤ w.heap.size) :
    Calls Tryd.prog 9 #[.slice a xs.length cap] w fun e w' => ∃ na, e = .returned (.slice na xs.length xs.length) ∧ ThingsM true w' w.heap.size w'.heap.size na xs ∧ Below w.heap.size w w' := by
  refine (toThingS_core a cap xs.length lo hi (thingAt' xs) w hn.1 hn.2 hh ?_).mono ?_
  · rcases hx.plain with rfl | ⟨b, off, rfl, h1, h2, _, h3⟩
    · exact .inl (Nat.le_refl _)
    · exact .inr ⟨b, off, rfl, h1, h2, h3⟩
  · rintro e w' ⟨rfl, ho, hF, hb⟩
    refine ⟨_, rfl, .inr ⟨_, 0, rfl, Nat.le_refl _, ho.lt, fun _ => ⟨rfl, _, ho, Nat.le_refl _⟩, fun i hi => ?_⟩, hb⟩
    obtain ⟨a1, c1, e0, e1, l1⟩ := hF i hi
    rw [Nat.zero_add]
    exact ⟨a1, c1, e0, e1, l1.wide (by omega) (Nat.le_refl _)⟩

set_option maxHeartbeats 800000 in
theorem szThingS_core (a : Option Addr) (cap n lo hi : Nat) (F : Nat → GThing) (left : Int) (w : World) (hn : n ≤ 9223372036854775807) (hm : ∀ i, i < n → ThingB 9223372036854775807 (F i)) (hh : hi ≤ w.heap.size) (l0 : 0 ≤ left) (l1 : left ≤ 1048576)
    (hx : n ≤ 0 ∨ ∃ b off, a = some ⟨b, off, none⟩ ∧ lo ≤ b ∧ b < hi ∧ ∀ i, i < n → ThingAt false w lo hi b (off + i * 2) (F i)) :
    Calls Tryd.prog 6 #[.slice a n cap, .int .i64 left] w fun e w' => ∃ r : Int, e = .returned (.int .i64 r) ∧ -1 ≤ r ∧ r ≤ left ∧ (0 ≤ r → n ≤ 1048576 ∧ ∀ i, i < n → ThingB 1048576 (F i)) ∧ Below w.heap.size w w' := by
  have HM := hide hm
  clear hm
  by_cases hlt : left - (n : Int) < 0
  · go_enter Tryd.func6, Tryd.ntmps6
    go_wp2_with fail
    go_ret
    exact ⟨-1, rfl, by omega, by omega, by omega, Below.refl _ _⟩
  rcases hx with h0 | ⟨b, off, rfl, h1, h2, h3⟩
  all_goals
    go_enter Tryd.func6, Tryd.ntmps6
    go_wp2_with fail
    go_loopw [1, 5] (fun l i wr => ∃ (k : Nat) (r : Int), k ≤ n ∧ i = .int .i64 k ∧ l = .int .i64 r ∧ 0 ≤ r ∧ r ≤ left ∧ (∀ j, j < k → ThingB 1048576 (F j)) ∧ Below w.heap.size w wr) (fun l i wr => n - (intOf i).toNat)
    case atStart => exact ⟨0, left - n, Nat.zero_le _, rfl, rfl, by omega, by omega, fun j hj => absurd hj (Nat.not_lt_zero _), Below.refl _ _⟩
    case round =>
      obtain ⟨k, r, hk, rfl, rfl, r0, r1, hF, hb⟩ := hrel
      have HF := hide hF
      clear hF
      by_cases hkn : k < n
      · first
        | (exfalso; omega)
        | (have sb := hb.size
           have hx := (h3 k hkn).same (.of_below (hb.mono hh) (Nat.le_refl _)) (Nat.le_refl _) (Nat.le_refl _) h1 h2
           obtain ⟨a1, c1, e0, e1, g1⟩ := hx
           have G1 := hide g1
           clear h3 g1
           go_wp2_with fail
           refine (szThing_any a1 c1 lo hi (F k) r _ (HM.out k hkn) G1.out (by omega) r0 (by omega)).mono ?_
           rintro e w1 ⟨r', rfl, s0, s1, s2, hb1⟩
           have S2 := hide s2
           clear s2
           by_cases hr : r' < 0
           · go_wp2_with fail
             go_ret
             exact ⟨-1, rfl, by omega, by omega, by omega, hb.trans (hb1.mono hb.size)⟩
           · go_wp2_with fail
             refine ⟨⟨k + 1, r', by omega, by go_num, rfl, by omega, by omega, fun j hj => ?_, hb.trans (hb1.mono hb.size)⟩, by simp [intOf]; omega⟩
             by_cases e : j = k
             · subst e; exact S2.out (by omega)
             · exact HF.out j (by omega))
      · have hkn' : Hid (k = n) := Nat.le_antisymm hk (Nat.le_of_not_lt hkn)
        go_wp2_with fail
        go_ret
        exact ⟨r, rfl, by omega, by omega, fun _ => ⟨by omega, hkn'.out ▸ HF.out⟩, hb⟩

theorem szThingS_g {md : Bool} (a : Option Addr) (cap lo hi : Nat) (xs : List GThing) (left : Int) (w : World) (hl : ThingsB 9223372036854775807 xs) (hx : ThingsM md w lo hi a xs) (hh : hi ≤ w.heap.size) (l0 : 0 ≤ left) (l1 : left ≤ 1048576) :
    Calls Tryd.prog 6 #[.slice a xs.length cap, .int .i64 left] w fun e w' => ∃ r : Int, e = .returned (.int .i64 r) ∧ -1 ≤ r ∧ r ≤ left ∧ (0 ≤ r → ThingsB 1048576 xs) ∧ Below w.heap.size w w' := by
  refine szThingS_core a cap xs.length lo hi (thingAt' xs) left w hl.1 hl.2 hh l0 l1 ?_
  rcases hx.plain with rfl | ⟨b, off, rfl, h1, h2, _, h3⟩
  · exact .inl (Nat.le_refl _)
  · exact .inr ⟨b, off, rfl, h1, h2, h3⟩

set_option maxHeartbeats 800000 in
theorem eqThingS_core (a a' : Option Addr) (cap cap' n lo hi lo' hi' : Nat) (F : Nat → GThing) (w : World) (hm : ∀ i, i < n → ThingB 1048576 (F i)) (hh : hi ≤ w.heap.size) (hh' : hi' ≤ w.heap.size)
    (hx : n ≤ 0 ∨ ∃ b off b' off', a = some ⟨b, off, none⟩ ∧ a' = some ⟨b', off', none⟩ ∧ lo ≤ b ∧ b < hi ∧ lo' ≤ b' ∧ b' < hi' ∧ (∀ i, i < n → ThingAt false w lo hi b (off + i * 2) (F i)) ∧ (∀ i, i < n → ThingAt false w lo' hi' b' (off' + i * 2) (F i))) (hn : n ≤ 1048576) :
    Calls Tryd.prog 14 #[.slice a n cap, .slice a' n cap'] w fun e w' => e = .returned (.bool true) ∧ Below w.heap.size w w' := by
  have HM := hide hm
  clear hm
  rcases hx with h0 | ⟨b, off, b', off', rfl, rfl, g1, g2, g3, g4, h3, h4⟩
  all_goals
    go_enter Tryd.func14, Tryd.ntmps14
    go_wp2_with fail
    go_loopw [5] (fun i wr => ∃ k : Nat, k ≤ n ∧ i = .int .i64 k ∧ Below w.heap.size w wr) (fun i wr => n - (intOf i).toNat)
    case atStart => exact ⟨0, Nat.zero_le _, rfl, Below.refl _ _⟩
    case round =>
      obtain ⟨k, hk, rfl, hb⟩ := hrel
      by_cases hlt : k < n
      · first
        | (exfalso; omega)
        | (have x1 := (h3 k hlt).same (.of_below (hb.mono hh) (Nat.le_refl _)) (Nat.le_refl _) (Nat.le_refl _) g1 g2
           have x2 := (h4 k hlt).same (.of_below (hb.mono hh') (Nat.le_refl _)) (Nat.le_refl _) (Nat.le_refl _) g3 g4
           obtain ⟨a1, c1, e0, e1, l1⟩ := x1
           obtain ⟨b1, d1, f0, f1, m1⟩ := x2
           have L1 := hide l1
           have M1 := hide m1
           clear h3 h4 l1 m1
           have k1 : (0 : Int) ≤ (k : Int) := by omega
           have k2 : (k : Int) < (n : Int) := by omega
           have s1 := hb.size
           go_wp2_with fail
           go_region_held3 (fun w' => (w'.cell? ⟨b, off + k * 2, none⟩ = some (.int .i64 (F k).typ) ∧ w'.cell? ⟨b, off + k * 2 + 1, none⟩ = some (.slice a1 (F k).vals.length c1)) ∧ (w'.cell? ⟨b', off' + k * 2, none⟩ = some (.int .i64 (F k).typ) ∧ w'.cell? ⟨b', off' + k * 2 + 1, none⟩ = some (.slice b1 (F k).vals.length d1))) (go_keep)
             ((go_at_call 28; refine (eqThing_g a1 b1 c1 d1 lo hi lo' hi' (F k) wr.drew (HM.out k hlt) L1.out M1.out (Nat.le_trans hh s1) (Nat.le_trans hh' s1)).mono ?_; rintro e w1 ⟨rfl, hb1⟩; have y1 : ∀ o, w1.cell? ⟨b, o, none⟩ = wr.cell? ⟨b, o, none⟩ := fun o => hb1.cell (Nat.lt_of_lt_of_le g2 (Nat.le_trans hh s1)); have y2 : ∀ o, w1.cell? ⟨b', o, none⟩ = wr.cell? ⟨b', o, none⟩ := fun o => hb1.cell (Nat.lt_of_lt_of_le g4 (Nat.le_trans hh' s1))))
           go_wp2_with fail
           exact ⟨⟨k + 1, by omega, by go_num, hb.drew.trans (hb1.mono s1)⟩, by simp [intOf]; omega⟩)
      · go_wp2_with fail
        go_ret
        exact ⟨rfl, hb⟩

theorem eqThingS_g {md md' : Bool} (a a' : Option Addr) (cap cap' lo hi lo' hi' : Nat) (xs : List GThing) (w : World) (hn : ThingsB 1048576 xs) (hx : ThingsM md w lo hi a xs) (hy : ThingsM md' w lo' hi' a' xs) (hh : hi ≤ w.heap.size) (hh' : hi' ≤ w.heap.size) :
    Calls Tryd.prog 14 #[.slice a xs.length cap, .slice a' xs.length cap'] w fun e w' => e = .returned (.bool true) ∧ Below w.heap.size w w' := by
  refine eqThingS_core a a' cap cap' xs.length lo hi lo' hi' (thingAt' xs) w hn.2 hh hh' ?_ hn.1
  rcases hx.plain with rfl | ⟨b, off, rfl, h1, h2, _, h3⟩
  · exact .inl (Nat.le_refl _)
  · rcases hy.plain with rfl | ⟨b', off', rfl, h1', h2', _, h3'⟩
    · exact .inl (Nat.le_refl _)
    · exact .inr ⟨b, off, b', off', rfl, rfl, h1, h2, h1', h2', h3, h3'⟩
end Go.Proofs.YtlmciclkfmeepaaDoor
