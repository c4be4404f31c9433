/- MeanSame of the model and of the program: numbers and values. -/
import Derived.Test.YtpagchajjncmbaaGenMeanD
import Derived.Test.YtpagchajjncmbaaNumSame
import Derived.Test.YtpagchajjncmbaaUpTo
namespace Go.Proofs.Ytpagchajjncmbaa
open Go.ChangeShapes Go.WideShapes Go.ChangeAt Go.RowKit Go.Joins Go.Deep
set_option linter.unusedVariables false

def valSame (a b : GVal) : Bool := a.kind == b.kind && a.n == b.n
def valsSame (xs ys : List GVal) : Bool := decide (xs.length = ys.length) && upTo (fun i => valSame (valAt' xs i) (valAt' ys i)) xs.length
def thingSame (s t : GThing) : Bool := s.typ == t.typ && valsSame s.vals t.vals
def thingsSame (xs ys : List GThing) : Bool := decide (xs.length = ys.length) && upTo (fun i => thingSame (thingAt' xs i) (thingAt' ys i)) xs.length
def frameSame (s t : GFrame) : Bool := s.fn == t.fn && (s.pc == t.pc && (valsSame s.locals t.locals && valsSame s.stack t.stack))
def framesSame (xs ys : List GFrame) : Bool := decide (xs.length = ys.length) && upTo (fun i => frameSame (frameAt' xs i) (frameAt' ys i)) xs.length
def meanSame (a b : GMean) : Bool := thingsSame a.things b.things && (valsSame a.glob b.glob && (framesSame a.frames b.frames && (numsSame a.outs b.outs && (a.asked == b.asked && a.code == b.code))))

set_option maxHeartbeats 400000 in
theorem l5Vals_core (a a' : Option Addr) (cap cap' n lo hi lo' hi' : Nat) (F G : Nat → GVal) (w : World) (hn : n ≤ 1048576)
    (hx : n ≤ 0 ∨ ∃ b off b' off', a = some ⟨b, off, none⟩ ∧ a' = some ⟨b', off', none⟩ ∧ (∀ i, i < n → ValAt false w lo hi b (off + i * 2) (F i)) ∧ (∀ i, i < n → ValAt false w lo' hi' b' (off' + i * 2) (G i))) :
    Calls Try.prog 40 #[.slice a n cap, .slice a' n cap'] w fun e w' => e = .returned (.bool (upTo (fun i => valSame (F i) (G i)) n)) ∧ ∃ q, w' = w.drewN q := by
  rcases hx with h0 | ⟨b, off, b', off', rfl, rfl, h3, h4⟩
  all_goals
    go_enter Try.func40, Try.ntmps40
    go_wp2_with fail
    go_loopw [5] (fun i wr => ∃ k : Nat, k ≤ n ∧ i = .int .i64 k ∧ upTo (fun i => valSame (F i) (G i)) k = true ∧ ∃ q, wr = w.drewN q) (fun i wr => n - (intOf i).toNat)
    case atStart => exact ⟨0, Nat.zero_le _, rfl, rfl, 0, rfl⟩
    case round =>
      obtain ⟨k, hk, rfl, hu, q, rfl⟩ := hrel
      have HU := hide hu
      clear hu
      by_cases hlt : k < n
      · first
        | (exfalso; omega)
        | (obtain ⟨c0, c1⟩ := h3 k hlt
           obtain ⟨d0, d1⟩ := h4 k hlt
           have g1 : (0 : Int) ≤ (k : Int) := by omega
           have g2 : (k : Int) < (n : Int) := by omega
           clear h3 h4
           by_cases h0 : (F k).kind = (G k).kind
           · rw [← h0] at d0
             by_cases h1 : (F k).n = (G k).n
             · rw [← h1] at d1
               have hs : Hid (valSame (F k) (G k) = true) := by simp [Hid, valSame, h0, h1]
               clear h0 h1
               go_wp2_with fail
               go_quiet (fail)
               go_wp2_with fail
               exact ⟨⟨k + 1, by omega, by go_num, upTo_step HU.out hs.out, _, rfl⟩, by simp [intOf]; omega⟩
             · have HF : Hid (upTo (fun i => valSame (F i) (G i)) n = false) := upTo_false hlt (by simp [valSame, h1])
               clear h0
               go_wp2_with fail
               go_quiet (fail)
               go_wp2_with fail
               go_ret
               exact ⟨ret_bool HF.out.symm, _, World.drewN_drewN _ _ _⟩
           · have HF : Hid (upTo (fun i => valSame (F i) (G i)) n = false) := upTo_false hlt (by simp [valSame, h0])
             go_wp2_with fail
             go_quiet (fail)
             go_wp2_with fail
             go_ret
             exact ⟨ret_bool HF.out.symm, _, World.drewN_drewN _ _ _⟩)
      · have hkn : Hid (k = n) := Nat.le_antisymm hk (Nat.le_of_not_lt hlt)
        go_wp2_with fail
        go_ret
        exact ⟨ret_bool (hkn.out ▸ HU.out).symm, _, rfl⟩

set_option maxHeartbeats 400000 in
theorem l5Vals_short (a a' : Option Addr) (cap cap' n m : Nat) (w : World) (hn : n ≤ 1048576) (hm : m ≤ 1048576) (hne : ¬ n = m) :
    Calls Try.prog 40 #[.slice a n cap, .slice a' m cap'] w fun e w' => e = .returned (.bool false) ∧ ∃ q, w' = w.drewN q := by
  have hb : ((n : Int) == (m : Int)) = false := by simp; omega
  have hd : ¬ ((n : Int) = (m : Int)) := by omega
  clear hne
  go_enter Try.func40, Try.ntmps40
  go_wp2_with fail
  go_ret
  exact ⟨rfl, 0, rfl⟩
theorem l5Vals_any {md md' : Bool} (a a' : Option Addr) (cap cap' lo hi lo' hi' : Nat) (xs ys : List GVal) (w : World) (hn : xs.length ≤ 1048576) (hm : ys.length ≤ 1048576) (hx : ValsM md w lo hi a xs) (hy : ValsM md' w lo' hi' a' ys) :
    Calls Try.prog 40 #[.slice a xs.length cap, .slice a' ys.length cap'] w fun e w' => e = .returned (.bool (valsSame xs ys)) ∧ ∃ q, w' = w.drewN q := by
  by_cases hl : xs.length = ys.length
  · have e : valsSame xs ys = upTo (fun i => valSame (valAt' xs i) (valAt' ys i)) xs.length := by simp [valsSame, hl]
    rw [e, ← hl]
    refine l5Vals_core a a' cap cap' xs.length lo hi lo' hi' (valAt' xs) (valAt' ys) w hn ?_
    rcases hx.plain with rfl | ⟨b, off, rfl, h1, h2, _, h3⟩
    · exact .inl (Nat.le_refl _)
    · rcases hy.plain with rfl | ⟨b', off', rfl, h1', h2', _, h3'⟩
      · exact .inl (by rw [hl]; exact Nat.le_refl _)
      · exact .inr ⟨b, off, b', off', rfl, rfl, h3, fun i hi => h3' i (by omega)⟩
  · have e : valsSame xs ys = false := by simp [valsSame, hl]
    rw [e]
    exact l5Vals_short a a' cap cap' _ _ w hn hm hl

set_option maxHeartbeats 400000 in
theorem slicesEqualVal_core (a a' : Option Addr) (cap cap' n lo hi lo' hi' : Nat) (F G : Nat → GVal) (w : World) (hn : n ≤ 1048576)
    (hx : n ≤ 0 ∨ ∃ b off b' off', a = some ⟨b, off, none⟩ ∧ a' = some ⟨b', off', none⟩ ∧ (∀ i, i < n → ValAt false w lo hi b (off + i * 2) (F i)) ∧ (∀ i, i < n → ValAt false w lo' hi' b' (off' + i * 2) (G i))) :
    Calls Try.prog 47 #[.slice a n cap, .slice a' n cap'] w fun e w' => e = .returned (.bool (upTo (fun i => valSame (F i) (G i)) n)) ∧ ∃ q, w' = w.drewN q := by
  rcases hx with h0 | ⟨b, off, b', off', rfl, rfl, h3, h4⟩
  all_goals
    go_enter Try.func47, Try.ntmps47
    go_wp2_with fail
    go_loopw [13] (fun i wr => ∃ k : Nat, k ≤ n ∧ i = .int .i64 k ∧ upTo (fun i => valSame (F i) (G i)) k = true ∧ ∃ q, wr = w.drewN q) (fun i wr => n - (intOf i).toNat)
    case atStart => exact ⟨0, Nat.zero_le _, rfl, rfl, 0, rfl⟩
    case round =>
      obtain ⟨k, hk, rfl, hu, q, rfl⟩ := hrel
      have HU := hide hu
      clear hu
      by_cases hlt : k < n
      · first
        | (exfalso; omega)
        | (obtain ⟨c0, c1⟩ := h3 k hlt
           obtain ⟨d0, d1⟩ := h4 k hlt
           have g1 : (0 : Int) ≤ (k : Int) := by omega
           have g2 : (k : Int) < (n : Int) := by omega
           clear h3 h4
           by_cases h0 : (F k).kind = (G k).kind
           · rw [← h0] at d0
             by_cases h1 : (F k).n = (G k).n
             · rw [← h1] at d1
               have hs : Hid (valSame (F k) (G k) = true) := by simp [Hid, valSame, h0, h1]
               clear h0 h1
               go_wp2_with fail
               go_quiet (fail)
               go_wp2_with fail
               exact ⟨⟨k + 1, by omega, by go_num, upTo_step HU.out hs.out, _, rfl⟩, by simp [intOf]; omega⟩
             · have HF : Hid (upTo (fun i => valSame (F i) (G i)) n = false) := upTo_false hlt (by simp [valSame, h1])
               clear h0
               go_wp2_with fail
               go_quiet (fail)
               go_wp2_with fail
               go_ret
               exact ⟨ret_bool HF.out.symm, _, World.drewN_drewN _ _ _⟩
           · have HF : Hid (upTo (fun i => valSame (F i) (G i)) n = false) := upTo_false hlt (by simp [valSame, h0])
             go_wp2_with fail
             go_quiet (fail)
             go_wp2_with fail
             go_ret
             exact ⟨ret_bool HF.out.symm, _, World.drewN_drewN _ _ _⟩)
      · have hkn : Hid (k = n) := Nat.le_antisymm hk (Nat.le_of_not_lt hlt)
        go_wp2_with fail
        go_ret
        exact ⟨ret_bool (hkn.out ▸ HU.out).symm, _, rfl⟩

set_option maxHeartbeats 400000 in
theorem slicesEqualVal_short (a a' : Option Addr) (cap cap' n m : Nat) (w : World) (hn : n ≤ 1048576) (hm : m ≤ 1048576) (hne : ¬ n = m) :
    Calls Try.prog 47 #[.slice a n cap, .slice a' m cap'] w fun e w' => e = .returned (.bool false) ∧ ∃ q, w' = w.drewN q := by
  have hb : ((n : Int) == (m : Int)) = false := by simp; omega
  have hd : ¬ ((n : Int) = (m : Int)) := by omega
  clear hne
  go_enter Try.func47, Try.ntmps47
  go_wp2_with fail
  go_ret
  exact ⟨rfl, 0, rfl⟩
theorem slicesEqualVal_any {md md' : Bool} (a a' : Option Addr) (cap cap' lo hi lo' hi' : Nat) (xs ys : List GVal) (w : World) (hn : xs.length ≤ 1048576) (hm : ys.length ≤ 1048576) (hx : ValsM md w lo hi a xs) (hy : ValsM md' w lo' hi' a' ys) :
    Calls Try.prog 47 #[.slice a xs.length cap, .slice a' ys.length cap'] w fun e w' => e = .returned (.bool (valsSame xs ys)) ∧ ∃ q, w' = w.drewN q := by
  by_cases hl : xs.length = ys.length
  · have e : valsSame xs ys = upTo (fun i => valSame (valAt' xs i) (valAt' ys i)) xs.length := by simp [valsSame, hl]
    rw [e, ← hl]
    refine slicesEqualVal_core a a' cap cap' xs.length lo hi lo' hi' (valAt' xs) (valAt' ys) w hn ?_
    rcases hx.plain with rfl | ⟨b, off, rfl, h1, h2, _, h3⟩
    · exact .inl (Nat.le_refl _)
    · rcases hy.plain with rfl | ⟨b', off', rfl, h1', h2', _, h3'⟩
      · exact .inl (by rw [hl]; exact Nat.le_refl _)
      · exact .inr ⟨b, off, b', off', rfl, rfl, h3, fun i hi => h3' i (by omega)⟩
  · have e : valsSame xs ys = false := by simp [valsSame, hl]
    rw [e]
    exact slicesEqualVal_short a a' cap cap' _ _ w hn hm hl
end Go.Proofs.Ytpagchajjncmbaa
