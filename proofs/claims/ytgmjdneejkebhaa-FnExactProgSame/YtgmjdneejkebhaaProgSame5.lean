/- The program's side of ProgSame: EqualFunc over groups, types and functions. -/
import Derived.Test.YtgmjdneejkebhaaProgSame4
namespace Go.Proofs.Ytgmjdneejkebhaa
open Go.ChangeShapes Go.WideShapes Go.ChangeAt Go.RowKit Go.Joins Go.Deep
set_option linter.unusedVariables false

set_option maxHeartbeats 1600000 in
theorem eqFuncTypes_core (a a' : Option Addr) (cap cap' n lo hi lo' hi' : Nat) (F G : Nat → Ty) (w : World) (hn : n ≤ 1048576) (hF : ∀ i, i < n → (F i).fields.length ≤ 1048576) (hG : ∀ i, i < n → (G i).fields.length ≤ 1048576) (hh : hi ≤ w.heap.size) (hh' : hi' ≤ w.heap.size)
    (hx : n ≤ 0 ∨ ∃ b off b' off', a = some ⟨b, off, none⟩ ∧ a' = some ⟨b', off', none⟩ ∧ (lo ≤ b ∧ b < hi) ∧ (lo' ≤ b' ∧ b' < hi') ∧ (∀ i, i < n → TypeAt w lo hi b (off + i * 4) (F i)) ∧ (∀ i, i < n → TypeAt w lo' hi' b' (off' + i * 4) (G i))) :
    Calls Try.prog 42 #[.slice a n cap, .slice a' n cap', .func (.func 43) #[] #[]] w fun e w' => e = .returned (.bool (upTo (fun i => tySame (F i) (G i)) n)) ∧ Below w.heap.size w w' := by
  have HLF := hide hF
  have HLG := hide hG
  clear hF hG
  rcases hx with h0 | ⟨b, off, b', off', rfl, rfl, t1, t2, h3, h4⟩
  all_goals
    go_enter Try.func42, Try.ntmps42
    go_wp2_with fail
    go_loopw [17] (fun i wr => ∃ k : Nat, k ≤ n ∧ i = .int .i64 k ∧ upTo (fun i => tySame (F i) (G i)) k = true ∧ Below w.heap.size w wr) (fun i wr => n - (intOf i).toNat)
    case atStart => exact ⟨0, Nat.zero_le _, rfl, rfl, Below.refl _ _⟩
    case round =>
      obtain ⟨k, hk, rfl, hu, hb⟩ := hrel
      have HU := hide hu
      have HB := hide hb
      have sb := hb.size
      clear hu
      by_cases hlt : k < n
      · first
        | (exfalso; omega)
        | (have g1 : (0 : Int) ≤ (k : Int) := by omega
           have g2 : (k : Int) < (n : Int) := by omega
           have x1 := (h3 k hlt).same (.of_below (hb.mono hh) (Nat.le_refl _)) (Nat.le_refl _) (Nat.le_refl _) t1.1 t1.2
           have x2 := (h4 k hlt).same (.of_below (hb.mono hh') (Nat.le_refl _)) (Nat.le_refl _) (Nat.le_refl _) t2.1 t2.2
           obtain ⟨c0, c1, c2, fa, fc, c3, c4⟩ := x1
           obtain ⟨d0, d1, d2, fb, fd, d3, d4⟩ := x2
           have C4 := hide c4
           have D4 := hide d4
           clear c4 d4
           have z1 : b < wr.heap.size := by omega
           have z2 : b' < wr.heap.size := by omega
           have z3 : b < wr.heap.size + 1 := by omega
           have z4 : b' < wr.heap.size + 1 := by omega
           clear h3 h4 hb
           go_wp2_with fail
           refine (progTypeSame_any fa fb fc fd lo hi lo' hi' (F k) (G k) _ (HLF.out k hlt) (HLG.out k hlt) (C4.out.keep (Below.mono (by (repeat (first | refine Below.al ?_ (Nat.le_refl _) _ | exact Below.refl _ _))) (Nat.le_trans hh sb))) (D4.out.keep (Below.mono (by (repeat (first | refine Below.al ?_ (Nat.le_refl _) _ | exact Below.refl _ _))) (Nat.le_trans hh' sb))) (by go_size) (by go_size)).mono ?_
           rintro e v ⟨rfl, hb1⟩
           have HC : Hid (Below wr.heap.size wr v) := by
             refine Below.trans ?_ (hb1.mono (by go_size))
             (repeat (first | refine Below.al ?_ (Nat.le_refl _) _ | exact Below.refl _ _))
           clear hb1
           by_cases hs : tySame (F k) (G k) = true
           · rw [hs]
             have HS := hide hs
             clear hs
             go_wp2_with fail
             exact ⟨⟨k + 1, by omega, by go_num, upTo_step HU.out HS.out, HB.out.trans (HC.out.mono sb)⟩, by simp [intOf]; omega⟩
           · have hs' : tySame (F k) (G k) = false := by simpa using hs
             rw [hs']
             have HF : Hid (upTo (fun i => tySame (F i) (G i)) n = false) := upTo_false hlt hs'
             clear hs hs'
             go_wp2_with fail
             go_ret
             exact ⟨ret_bool HF.out.symm, HB.out.trans (HC.out.mono sb)⟩)
      · have hkn : Hid (k = n) := Nat.le_antisymm hk (Nat.le_of_not_lt hlt)
        clear hb
        go_wp2_with fail
        go_ret
        exact ⟨ret_bool (hkn.out ▸ HU.out).symm, HB.out⟩

set_option maxHeartbeats 400000 in
theorem eqFuncTypes_short (a a' : Option Addr) (cap cap' n m : Nat) (w : World) (hn : n ≤ 1048576) (hm : m ≤ 1048576) (hne : ¬ n = m) :
    Calls Try.prog 42 #[.slice a n cap, .slice a' m cap', .func (.func 43) #[] #[]] w fun e w' => e = .returned (.bool false) ∧ Below w.heap.size w w' := by
  have hb : ((n : Int) == (m : Int)) = false := by simp; omega
  have hd : ¬ ((n : Int) = (m : Int)) := by omega
  clear hne
  go_enter Try.func42, Try.ntmps42
  go_wp2_with fail
  go_ret
  exact ⟨rfl, Below.refl _ _⟩

theorem eqFuncTypes_any (a a' : Option Addr) (cap cap' lo hi lo' hi' : Nat) (xs ys : List Ty) (w : World) (hn : xs.length ≤ 1048576) (hm : ys.length ≤ 1048576) (hF : ∀ i, i < xs.length → (tyAt xs i).fields.length ≤ 1048576) (hG : ∀ i, i < ys.length → (tyAt ys i).fields.length ≤ 1048576) (hx : TypesIn w lo hi a xs) (hy : TypesIn w lo' hi' a' ys) (hh : hi ≤ w.heap.size) (hh' : hi' ≤ w.heap.size) :
    Calls Try.prog 42 #[.slice a xs.length cap, .slice a' ys.length cap', .func (.func 43) #[] #[]] w fun e w' => e = .returned (.bool (tysSame xs ys)) ∧ Below w.heap.size w w' := by
  by_cases hl : xs.length = ys.length
  · have e : tysSame xs ys = upTo (fun i => tySame (tyAt xs i) (tyAt ys i)) xs.length := by simp [tysSame, hl]
    rw [e, ← hl]
    refine eqFuncTypes_core a a' cap cap' xs.length lo hi lo' hi' (tyAt xs) (tyAt ys) w hn hF (fun i hi => hG i (by omega)) hh hh' ?_
    rcases hx with rfl | ⟨b, off, rfl, h1, h2, h3⟩
    · exact .inl (Nat.le_refl _)
    · rcases hy with rfl | ⟨b', off', rfl, h1', h2', h3'⟩
      · exact .inl (by rw [hl]; exact Nat.le_refl _)
      · exact .inr ⟨b, off, b', off', rfl, rfl, ⟨h1, h2⟩, ⟨h1', h2'⟩, h3, fun i hi => h3' i (by omega)⟩
  · have e : tysSame xs ys = false := by simp [tysSame, hl]
    rw [e]
    exact eqFuncTypes_short a a' cap cap' _ _ w hn hm hl

set_option maxHeartbeats 400000 in
theorem progGroupSame_any (a a' : Option Addr) (cap cap' lo hi lo' hi' : Nat) (xs ys : List Ty) (w : World) (hn : xs.length ≤ 1048576) (hm : ys.length ≤ 1048576) (hF : ∀ i, i < xs.length → (tyAt xs i).fields.length ≤ 1048576) (hG : ∀ i, i < ys.length → (tyAt ys i).fields.length ≤ 1048576) (hx : TypesIn w lo hi a xs) (hy : TypesIn w lo' hi' a' ys) (hh : hi ≤ w.heap.size) (hh' : hi' ≤ w.heap.size) :
    Calls Try.prog 28 #[.slice a xs.length cap, .slice a' ys.length cap'] w fun e w' => e = .returned (.bool (tysSame xs ys)) ∧ Below w.heap.size w w' := by
  have HF := hide hF
  have HG := hide hG
  have HX := hide hx
  have HY := hide hy
  clear hF hG hx hy
  go_enter Try.func28, Try.ntmps28
  go_wp2_with fail
  refine (eqFuncTypes_any a a' cap cap' lo hi lo' hi' xs ys _ hn hm HF.out HG.out HX.out HY.out hh hh').mono ?_
  rintro e w1 ⟨rfl, hb⟩
  go_wp2_with fail
  go_ret
  exact ⟨rfl, hb⟩

theorem GroupAt.same {lo hi lo' hi' : Nat} {w w' : World} {b o : Nat} {g : List Ty} (h : GroupAt w lo hi b o g) (hs : Same lo hi w w') (h1 : lo' ≤ lo) (h2 : hi ≤ hi') (h3 : lo ≤ b) (h4 : b < hi) : GroupAt w' lo' hi' b o g := by
  obtain ⟨ta, tc, hc, ht⟩ := h
  exact ⟨ta, tc, (hs.cell h3 h4).trans hc, ht.same hs h1 h2⟩

set_option maxHeartbeats 1600000 in
theorem eqFuncGroups_core (a a' : Option Addr) (cap cap' n lo hi lo' hi' : Nat) (F G : Nat → List Ty) (w : World) (hn : n ≤ 1048576) (hF : ∀ i, i < n → (F i).length ≤ 1048576 ∧ ∀ j, j < (F i).length → (tyAt (F i) j).fields.length ≤ 1048576) (hG : ∀ i, i < n → (G i).length ≤ 1048576 ∧ ∀ j, j < (G i).length → (tyAt (G i) j).fields.length ≤ 1048576) (hh : hi ≤ w.heap.size) (hh' : hi' ≤ w.heap.size)
    (hx : n ≤ 0 ∨ ∃ b off b' off', a = some ⟨b, off, none⟩ ∧ a' = some ⟨b', off', none⟩ ∧ (lo ≤ b ∧ b < hi) ∧ (lo' ≤ b' ∧ b' < hi') ∧ (∀ i, i < n → GroupAt w lo hi b (off + i) (F i)) ∧ (∀ i, i < n → GroupAt w lo' hi' b' (off' + i) (G i))) :
    Calls Try.prog 27 #[.slice a n cap, .slice a' n cap', .func (.func 28) #[] #[]] w fun e w' => e = .returned (.bool (upTo (fun i => tysSame (F i) (G i)) n)) ∧ Below w.heap.size w w' := by
  have HLF := hide hF
  have HLG := hide hG
  clear hF hG
  rcases hx with h0 | ⟨b, off, b', off', rfl, rfl, t1, t2, h3, h4⟩
  all_goals
    go_enter Try.func27, Try.ntmps27
    go_wp2_with fail
    go_loopw [17] (fun i wr => ∃ k : Nat, k ≤ n ∧ i = .int .i64 k ∧ upTo (fun i => tysSame (F i) (G i)) k = true ∧ Below w.heap.size w wr) (fun i wr => n - (intOf i).toNat)
    case atStart => exact ⟨0, Nat.zero_le _, rfl, rfl, Below.refl _ _⟩
    case round =>
      obtain ⟨k, hk, rfl, hu, hb⟩ := hrel
      have HU := hide hu
      have HB := hide hb
      have sb := hb.size
      clear hu
      by_cases hlt : k < n
      · first
        | (exfalso; omega)
        | (have g1 : (0 : Int) ≤ (k : Int) := by omega
           have g2 : (k : Int) < (n : Int) := by omega
           have x1 := (h3 k hlt).same (.of_below (hb.mono hh) (Nat.le_refl _)) (Nat.le_refl _) (Nat.le_refl _) t1.1 t1.2
           have x2 := (h4 k hlt).same (.of_below (hb.mono hh') (Nat.le_refl _)) (Nat.le_refl _) (Nat.le_refl _) t2.1 t2.2
           obtain ⟨fa, fc, c3, c4⟩ := x1
           obtain ⟨fb, fd, d3, d4⟩ := x2
           have C4 := hide c4
           have D4 := hide d4
           clear c4 d4
           have z1 : b < wr.heap.size := by omega
           have z2 : b' < wr.heap.size := by omega
           have z3 : b < wr.heap.size + 1 := by omega
           have z4 : b' < wr.heap.size + 1 := by omega
           clear h3 h4 hb
           go_wp2_with fail
           refine (progGroupSame_any fa fb fc fd lo hi lo' hi' (F k) (G k) _ (HLF.out k hlt).1 (HLG.out k hlt).1 (HLF.out k hlt).2 (HLG.out k hlt).2 (C4.out.keep (Below.mono (by (repeat (first | refine Below.al ?_ (Nat.le_refl _) _ | exact Below.refl _ _))) (Nat.le_trans hh sb))) (D4.out.keep (Below.mono (by (repeat (first | refine Below.al ?_ (Nat.le_refl _) _ | exact Below.refl _ _))) (Nat.le_trans hh' sb))) (by go_size) (by go_size)).mono ?_
           rintro e v ⟨rfl, hb1⟩
           have HC : Hid (Below wr.heap.size wr v) := by
             refine Below.trans ?_ (hb1.mono (by go_size))
             (repeat (first | refine Below.al ?_ (Nat.le_refl _) _ | exact Below.refl _ _))
           clear hb1
           by_cases hs : tysSame (F k) (G k) = true
           · rw [hs]
             have HS := hide hs
             clear hs
             go_wp2_with fail
             exact ⟨⟨k + 1, by omega, by go_num, upTo_step HU.out HS.out, HB.out.trans (HC.out.mono sb)⟩, by simp [intOf]; omega⟩
           · have hs' : tysSame (F k) (G k) = false := by simpa using hs
             rw [hs']
             have HF : Hid (upTo (fun i => tysSame (F i) (G i)) n = false) := upTo_false hlt hs'
             clear hs hs'
             go_wp2_with fail
             go_ret
             exact ⟨ret_bool HF.out.symm, HB.out.trans (HC.out.mono sb)⟩)
      · have hkn : Hid (k = n) := Nat.le_antisymm hk (Nat.le_of_not_lt hlt)
        clear hb
        go_wp2_with fail
        go_ret
        exact ⟨ret_bool (hkn.out ▸ HU.out).symm, HB.out⟩

set_option maxHeartbeats 400000 in
theorem eqFuncGroups_short (a a' : Option Addr) (cap cap' n m : Nat) (w : World) (hn : n ≤ 1048576) (hm : m ≤ 1048576) (hne : ¬ n = m) :
    Calls Try.prog 27 #[.slice a n cap, .slice a' m cap', .func (.func 28) #[] #[]] w fun e w' => e = .returned (.bool false) ∧ Below w.heap.size w w' := by
  have hb : ((n : Int) == (m : Int)) = false := by simp; omega
  have hd : ¬ ((n : Int) = (m : Int)) := by omega
  clear hne
  go_enter Try.func27, Try.ntmps27
  go_wp2_with fail
  go_ret
  exact ⟨rfl, Below.refl _ _⟩
end Go.Proofs.Ytgmjdneejkebhaa
