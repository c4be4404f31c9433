/- ProgSame of the model and of the program: both say whether all parts are the same. -/
import Derived.Test.YtgmjdneejkebhaaGenProg
import Derived.Laws.StructEq
namespace Go.Proofs.Ytgmjdneejkebhaa
open Go.ChangeShapes Go.WideShapes Go.ChangeAt Go.RowKit Go.Joins Go.Deep
set_option linter.unusedVariables false

/-- P holds of all numbers below n. -/
def upTo (P : Nat → Bool) : Nat → Bool
  | 0 => true
  | n + 1 => upTo P n && P n
theorem upTo_false {P : Nat → Bool} {k n : Nat} (h : k < n) (hk : P k = false) : upTo P n = false := by
  induction n with
  | zero => omega
  | succ n ih =>
    by_cases e : k = n
    · subst e; simp [upTo, hk]
    · simp [upTo, ih (by omega)]
theorem upTo_step {P : Nat → Bool} {k : Nat} (h : upTo P k = true) (hk : P k = true) : upTo P (k + 1) = true := by simp [upTo, h, hk]

def fdSame (a b : Fd) : Bool := a.kind == b.kind && (a.of == b.of && a.mt == b.mt)
def insSame (a b : GIns) : Bool := a.op == b.op && (a.a == b.a && a.b == b.b)
def fdsSame (xs ys : List Fd) : Bool := decide (xs.length = ys.length) && upTo (fun i => fdSame (fdAt xs i) (fdAt ys i)) xs.length
def inssSame (xs ys : List GIns) : Bool := decide (xs.length = ys.length) && upTo (fun i => insSame (insAt' xs i) (insAt' ys i)) xs.length
def tySame (s t : Ty) : Bool := s.kind == t.kind && (s.up == t.up && (s.last == t.last && fdsSame s.fields t.fields))
def tysSame (xs ys : List Ty) : Bool := decide (xs.length = ys.length) && upTo (fun i => tySame (tyAt xs i) (tyAt ys i)) xs.length
def grsSame (xs ys : List (List Ty)) : Bool := decide (xs.length = ys.length) && upTo (fun i => tysSame (grAt xs i) (grAt ys i)) xs.length
def funSame (f g : GFun) : Bool := fdSame f.gives g.gives && (fdsSame f.takes g.takes && (fdsSame f.own g.own && inssSame f.body g.body))
def funsSame (xs ys : List GFun) : Bool := decide (xs.length = ys.length) && upTo (fun i => funSame (funAt' xs i) (funAt' ys i)) xs.length
def progSame (p q : GProg) : Bool := grsSame p.types q.types && (fdsSame p.glob q.glob && funsSame p.funs q.funs)

set_option maxHeartbeats 400000 in
theorem l3Fields_core (a a' : Option Addr) (cap cap' n lo hi lo' hi' : Nat) (F G : Nat → Fd) (w : World) (hn : n ≤ 1048576)
    (hx : n ≤ 0 ∨ ∃ b off b' off', a = some ⟨b, off, none⟩ ∧ a' = some ⟨b', off', none⟩ ∧ (∀ i, i < n → FieldAt w b (off + i * 3) (F i)) ∧ (∀ i, i < n → FieldAt w b' (off' + i * 3) (G i))) :
    Calls Try.prog 21 #[.slice a n cap, .slice a' n cap'] w fun e w' => e = .returned (.bool (upTo (fun i => fdSame (F i) (G i)) n)) ∧ ∃ q, w' = w.drewN q := by
  rcases hx with h0 | ⟨b, off, b', off', rfl, rfl, h3, h4⟩
  all_goals
    go_enter Try.func21, Try.ntmps21
    go_wp2_with fail
    go_loopw [5] (fun i wr => ∃ k : Nat, k ≤ n ∧ i = .int .i64 k ∧ upTo (fun i => fdSame (F i) (G i)) k = true ∧ ∃ q, wr = w.drewN q) (fun i wr => n - (intOf i).toNat)
    case atStart => exact ⟨0, Nat.zero_le _, rfl, rfl, 0, rfl⟩
    case round =>
      obtain ⟨k, hk, rfl, hu, q, rfl⟩ := hrel
      have HU := hide hu
      clear hu
      by_cases hlt : k < n
      · first
        | (exfalso; omega)
        | (obtain ⟨c0, c1, c2⟩ := h3 k hlt
           obtain ⟨d0, d1, d2⟩ := h4 k hlt
           have g1 : (0 : Int) ≤ (k : Int) := by omega
           have g2 : (k : Int) < (n : Int) := by omega
           clear h3 h4
           by_cases h1 : (F k).kind = (G k).kind
           · rw [← h1] at d0
             by_cases h2 : (F k).of = (G k).of
             · rw [← h2] at d1
               by_cases h3 : (F k).mt = (G k).mt
               · rw [← h3] at d2
                 have hs : Hid (fdSame (F k) (G k) = true) := by simp [Hid, fdSame, h1, h2, h3]
                 clear h1 h2 h3
                 go_wp2_with fail
                 go_quiet (fail)
                 go_wp2_with fail
                 exact ⟨⟨k + 1, by omega, by go_num, upTo_step HU.out hs.out, _, rfl⟩, by simp [intOf]; omega⟩
               · have HF : Hid (upTo (fun i => fdSame (F i) (G i)) n = false) := upTo_false hlt (by simp [fdSame, h3])
                 clear h1 h2
                 go_wp2_with fail
                 go_quiet (fail)
                 go_wp2_with fail
                 go_ret
                 exact ⟨ret_bool HF.out.symm, _, World.drewN_drewN _ _ _⟩
             · have HF : Hid (upTo (fun i => fdSame (F i) (G i)) n = false) := upTo_false hlt (by simp [fdSame, h2])
               clear h1
               go_wp2_with fail
               go_quiet (fail)
               go_wp2_with fail
               go_ret
               exact ⟨ret_bool HF.out.symm, _, World.drewN_drewN _ _ _⟩
           · have HF : Hid (upTo (fun i => fdSame (F i) (G i)) n = false) := upTo_false hlt (by simp [fdSame, h1])
             go_wp2_with fail
             go_quiet (fail)
             go_wp2_with fail
             go_ret
             exact ⟨ret_bool HF.out.symm, _, World.drewN_drewN _ _ _⟩)
      · have hkn : Hid (k = n) := Nat.le_antisymm hk (Nat.le_of_not_lt hlt)
        go_wp2_with fail
        go_ret
        exact ⟨ret_bool (hkn.out ▸ HU.out).symm, _, rfl⟩

set_option maxHeartbeats 400000 in
theorem l3Fields_short (a a' : Option Addr) (cap cap' n m : Nat) (w : World) (hn : n ≤ 1048576) (hm : m ≤ 1048576) (hne : ¬ n = m) :
    Calls Try.prog 21 #[.slice a n cap, .slice a' m cap'] w fun e w' => e = .returned (.bool false) ∧ ∃ q, w' = w.drewN q := by
  have hb : ((n : Int) == (m : Int)) = false := by simp; omega
  have hd : ¬ ((n : Int) = (m : Int)) := by omega
  clear hne
  go_enter Try.func21, Try.ntmps21
  go_wp2_with fail
  go_ret
  exact ⟨rfl, 0, rfl⟩
theorem l3Fields_any {md md' : Bool} (a a' : Option Addr) (cap cap' lo hi lo' hi' : Nat) (xs ys : List Fd) (w : World) (hn : xs.length ≤ 1048576) (hm : ys.length ≤ 1048576) (hx : FieldsM md w lo hi a xs) (hy : FieldsM md' w lo' hi' a' ys) :
    Calls Try.prog 21 #[.slice a xs.length cap, .slice a' ys.length cap'] w fun e w' => e = .returned (.bool (fdsSame xs ys)) ∧ ∃ q, w' = w.drewN q := by
  by_cases hl : xs.length = ys.length
  · have e : fdsSame xs ys = upTo (fun i => fdSame (fdAt xs i) (fdAt ys i)) xs.length := by simp [fdsSame, hl]
    rw [e, ← hl]
    refine l3Fields_core a a' cap cap' xs.length lo hi lo' hi' (fdAt xs) (fdAt ys) w hn ?_
    rcases (hx).1 with rfl | ⟨b, off, rfl, h1, h2, h3⟩
    · exact .inl (Nat.le_refl _)
    · rcases (hy).1 with rfl | ⟨b', off', rfl, h1', h2', h3'⟩
      · exact .inl (by rw [hl]; exact Nat.le_refl _)
      · exact .inr ⟨b, off, b', off', rfl, rfl, h3, fun i hi => h3' i (by omega)⟩
  · have e : fdsSame xs ys = false := by simp [fdsSame, hl]
    rw [e]
    exact l3Fields_short a a' cap cap' _ _ w hn hm hl

set_option maxHeartbeats 400000 in
theorem l3Body_core (a a' : Option Addr) (cap cap' n lo hi lo' hi' : Nat) (F G : Nat → GIns) (w : World) (hn : n ≤ 1048576)
    (hx : n ≤ 0 ∨ ∃ b off b' off', a = some ⟨b, off, none⟩ ∧ a' = some ⟨b', off', none⟩ ∧ (∀ i, i < n → InsAt false w lo hi b (off + i * 3) (F i)) ∧ (∀ i, i < n → InsAt false w lo' hi' b' (off' + i * 3) (G i))) :
    Calls Try.prog 23 #[.slice a n cap, .slice a' n cap'] w fun e w' => e = .returned (.bool (upTo (fun i => insSame (F i) (G i)) n)) ∧ ∃ q, w' = w.drewN q := by
  rcases hx with h0 | ⟨b, off, b', off', rfl, rfl, h3, h4⟩
  all_goals
    go_enter Try.func23, Try.ntmps23
    go_wp2_with fail
    go_loopw [5] (fun i wr => ∃ k : Nat, k ≤ n ∧ i = .int .i64 k ∧ upTo (fun i => insSame (F i) (G i)) k = true ∧ ∃ q, wr = w.drewN q) (fun i wr => n - (intOf i).toNat)
    case atStart => exact ⟨0, Nat.zero_le _, rfl, rfl, 0, rfl⟩
    case round =>
      obtain ⟨k, hk, rfl, hu, q, rfl⟩ := hrel
      have HU := hide hu
      clear hu
      by_cases hlt : k < n
      · first
        | (exfalso; omega)
        | (obtain ⟨c0, c1, c2⟩ := h3 k hlt
           obtain ⟨d0, d1, d2⟩ := h4 k hlt
           have g1 : (0 : Int) ≤ (k : Int) := by omega
           have g2 : (k : Int) < (n : Int) := by omega
           clear h3 h4
           by_cases h1 : (F k).op = (G k).op
           · rw [← h1] at d0
             by_cases h2 : (F k).a = (G k).a
             · rw [← h2] at d1
               by_cases h3 : (F k).b = (G k).b
               · rw [← h3] at d2
                 have hs : Hid (insSame (F k) (G k) = true) := by simp [Hid, insSame, h1, h2, h3]
                 clear h1 h2 h3
                 go_wp2_with fail
                 go_quiet (fail)
                 go_wp2_with fail
                 exact ⟨⟨k + 1, by omega, by go_num, upTo_step HU.out hs.out, _, rfl⟩, by simp [intOf]; omega⟩
               · have HF : Hid (upTo (fun i => insSame (F i) (G i)) n = false) := upTo_false hlt (by simp [insSame, h3])
                 clear h1 h2
                 go_wp2_with fail
                 go_quiet (fail)
                 go_wp2_with fail
                 go_ret
                 exact ⟨ret_bool HF.out.symm, _, World.drewN_drewN _ _ _⟩
             · have HF : Hid (upTo (fun i => insSame (F i) (G i)) n = false) := upTo_false hlt (by simp [insSame, h2])
               clear h1
               go_wp2_with fail
               go_quiet (fail)
               go_wp2_with fail
               go_ret
               exact ⟨ret_bool HF.out.symm, _, World.drewN_drewN _ _ _⟩
           · have HF : Hid (upTo (fun i => insSame (F i) (G i)) n = false) := upTo_false hlt (by simp [insSame, h1])
             go_wp2_with fail
             go_quiet (fail)
             go_wp2_with fail
             go_ret
             exact ⟨ret_bool HF.out.symm, _, World.drewN_drewN _ _ _⟩)
      · have hkn : Hid (k = n) := Nat.le_antisymm hk (Nat.le_of_not_lt hlt)
        go_wp2_with fail
        go_ret
        exact ⟨ret_bool (hkn.out ▸ HU.out).symm, _, rfl⟩

set_option maxHeartbeats 400000 in
theorem l3Body_short (a a' : Option Addr) (cap cap' n m : Nat) (w : World) (hn : n ≤ 1048576) (hm : m ≤ 1048576) (hne : ¬ n = m) :
    Calls Try.prog 23 #[.slice a n cap, .slice a' m cap'] w fun e w' => e = .returned (.bool false) ∧ ∃ q, w' = w.drewN q := by
  have hb : ((n : Int) == (m : Int)) = false := by simp; omega
  have hd : ¬ ((n : Int) = (m : Int)) := by omega
  clear hne
  go_enter Try.func23, Try.ntmps23
  go_wp2_with fail
  go_ret
  exact ⟨rfl, 0, rfl⟩
theorem l3Body_any {md md' : Bool} (a a' : Option Addr) (cap cap' lo hi lo' hi' : Nat) (xs ys : List GIns) (w : World) (hn : xs.length ≤ 1048576) (hm : ys.length ≤ 1048576) (hx : InssM md w lo hi a xs) (hy : InssM md' w lo' hi' a' ys) :
    Calls Try.prog 23 #[.slice a xs.length cap, .slice a' ys.length cap'] w fun e w' => e = .returned (.bool (inssSame xs ys)) ∧ ∃ q, w' = w.drewN q := by
  by_cases hl : xs.length = ys.length
  · have e : inssSame xs ys = upTo (fun i => insSame (insAt' xs i) (insAt' ys i)) xs.length := by simp [inssSame, hl]
    rw [e, ← hl]
    refine l3Body_core a a' cap cap' xs.length lo hi lo' hi' (insAt' xs) (insAt' ys) w hn ?_
    rcases (hx).plain with rfl | ⟨b, off, rfl, h1, h2, _, h3⟩
    · exact .inl (Nat.le_refl _)
    · rcases (hy).plain with rfl | ⟨b', off', rfl, h1', h2', _, h3'⟩
      · exact .inl (by rw [hl]; exact Nat.le_refl _)
      · exact .inr ⟨b, off, b', off', rfl, rfl, h3, fun i hi => h3' i (by omega)⟩
  · have e : inssSame xs ys = false := by simp [inssSame, hl]
    rw [e]
    exact l3Body_short a a' cap cap' _ _ w hn hm hl

set_option maxHeartbeats 400000 in
theorem slicesEqualFd_core (a a' : Option Addr) (cap cap' n lo hi lo' hi' : Nat) (F G : Nat → Fd) (w : World) (hn : n ≤ 1048576)
    (hx : n ≤ 0 ∨ ∃ b off b' off', a = some ⟨b, off, none⟩ ∧ a' = some ⟨b', off', none⟩ ∧ (∀ i, i < n → FieldAt w b (off + i * 3) (F i)) ∧ (∀ i, i < n → FieldAt w b' (off' + i * 3) (G i))) :
    Calls Try.prog 29 #[.slice a n cap, .slice a' n cap'] w fun e w' => e = .returned (.bool (upTo (fun i => fdSame (F i) (G i)) n)) ∧ ∃ q, w' = w.drewN q := by
  rcases hx with h0 | ⟨b, off, b', off', rfl, rfl, h3, h4⟩
  all_goals
    go_enter Try.func29, Try.ntmps29
    go_wp2_with fail
    go_loopw [13] (fun i wr => ∃ k : Nat, k ≤ n ∧ i = .int .i64 k ∧ upTo (fun i => fdSame (F i) (G i)) k = true ∧ ∃ q, wr = w.drewN q) (fun i wr => n - (intOf i).toNat)
    case atStart => exact ⟨0, Nat.zero_le _, rfl, rfl, 0, rfl⟩
    case round =>
      obtain ⟨k, hk, rfl, hu, q, rfl⟩ := hrel
      have HU := hide hu
      clear hu
      by_cases hlt : k < n
      · first
        | (exfalso; omega)
        | (obtain ⟨c0, c1, c2⟩ := h3 k hlt
           obtain ⟨d0, d1, d2⟩ := h4 k hlt
           have g1 : (0 : Int) ≤ (k : Int) := by omega
           have g2 : (k : Int) < (n : Int) := by omega
           clear h3 h4
           by_cases h1 : (F k).kind = (G k).kind
           · rw [← h1] at d0
             by_cases h2 : (F k).of = (G k).of
             · rw [← h2] at d1
               by_cases h3 : (F k).mt = (G k).mt
               · rw [← h3] at d2
                 have hs : Hid (fdSame (F k) (G k) = true) := by simp [Hid, fdSame, h1, h2, h3]
                 clear h1 h2 h3
                 go_wp2_with fail
                 go_quiet (fail)
                 go_wp2_with fail
                 exact ⟨⟨k + 1, by omega, by go_num, upTo_step HU.out hs.out, _, rfl⟩, by simp [intOf]; omega⟩
               · have HF : Hid (upTo (fun i => fdSame (F i) (G i)) n = false) := upTo_false hlt (by simp [fdSame, h3])
                 clear h1 h2
                 go_wp2_with fail
                 go_quiet (fail)
                 go_wp2_with fail
                 go_ret
                 exact ⟨ret_bool HF.out.symm, _, World.drewN_drewN _ _ _⟩
             · have HF : Hid (upTo (fun i => fdSame (F i) (G i)) n = false) := upTo_false hlt (by simp [fdSame, h2])
               clear h1
               go_wp2_with fail
               go_quiet (fail)
               go_wp2_with fail
               go_ret
               exact ⟨ret_bool HF.out.symm, _, World.drewN_drewN _ _ _⟩
           · have HF : Hid (upTo (fun i => fdSame (F i) (G i)) n = false) := upTo_false hlt (by simp [fdSame, h1])
             go_wp2_with fail
             go_quiet (fail)
             go_wp2_with fail
             go_ret
             exact ⟨ret_bool HF.out.symm, _, World.drewN_drewN _ _ _⟩)
      · have hkn : Hid (k = n) := Nat.le_antisymm hk (Nat.le_of_not_lt hlt)
        go_wp2_with fail
        go_ret
        exact ⟨ret_bool (hkn.out ▸ HU.out).symm, _, rfl⟩

set_option maxHeartbeats 400000 in
theorem slicesEqualFd_short (a a' : Option Addr) (cap cap' n m : Nat) (w : World) (hn : n ≤ 1048576) (hm : m ≤ 1048576) (hne : ¬ n = m) :
    Calls Try.prog 29 #[.slice a n cap, .slice a' m cap'] w fun e w' => e = .returned (.bool false) ∧ ∃ q, w' = w.drewN q := by
  have hb : ((n : Int) == (m : Int)) = false := by simp; omega
  have hd : ¬ ((n : Int) = (m : Int)) := by omega
  clear hne
  go_enter Try.func29, Try.ntmps29
  go_wp2_with fail
  go_ret
  exact ⟨rfl, 0, rfl⟩
theorem slicesEqualFd_any {md md' : Bool} (a a' : Option Addr) (cap cap' lo hi lo' hi' : Nat) (xs ys : List Fd) (w : World) (hn : xs.length ≤ 1048576) (hm : ys.length ≤ 1048576) (hx : FieldsM md w lo hi a xs) (hy : FieldsM md' w lo' hi' a' ys) :
    Calls Try.prog 29 #[.slice a xs.length cap, .slice a' ys.length cap'] w fun e w' => e = .returned (.bool (fdsSame xs ys)) ∧ ∃ q, w' = w.drewN q := by
  by_cases hl : xs.length = ys.length
  · have e : fdsSame xs ys = upTo (fun i => fdSame (fdAt xs i) (fdAt ys i)) xs.length := by simp [fdsSame, hl]
    rw [e, ← hl]
    refine slicesEqualFd_core a a' cap cap' xs.length lo hi lo' hi' (fdAt xs) (fdAt ys) w hn ?_
    rcases (hx).1 with rfl | ⟨b, off, rfl, h1, h2, h3⟩
    · exact .inl (Nat.le_refl _)
    · rcases (hy).1 with rfl | ⟨b', off', rfl, h1', h2', h3'⟩
      · exact .inl (by rw [hl]; exact Nat.le_refl _)
      · exact .inr ⟨b, off, b', off', rfl, rfl, h3, fun i hi => h3' i (by omega)⟩
  · have e : fdsSame xs ys = false := by simp [fdsSame, hl]
    rw [e]
    exact slicesEqualFd_short a a' cap cap' _ _ w hn hm hl

set_option maxHeartbeats 400000 in
theorem slicesEqualGIns_core (a a' : Option Addr) (cap cap' n lo hi lo' hi' : Nat) (F G : Nat → GIns) (w : World) (hn : n ≤ 1048576)
    (hx : n ≤ 0 ∨ ∃ b off b' off', a = some ⟨b, off, none⟩ ∧ a' = some ⟨b', off', none⟩ ∧ (∀ i, i < n → InsAt false w lo hi b (off + i * 3) (F i)) ∧ (∀ i, i < n → InsAt false w lo' hi' b' (off' + i * 3) (G i))) :
    Calls Try.prog 44 #[.slice a n cap, .slice a' n cap'] w fun e w' => e = .returned (.bool (upTo (fun i => insSame (F i) (G i)) n)) ∧ ∃ q, w' = w.drewN q := by
  rcases hx with h0 | ⟨b, off, b', off', rfl, rfl, h3, h4⟩
  all_goals
    go_enter Try.func44, Try.ntmps44
    go_wp2_with fail
    go_loopw [13] (fun i wr => ∃ k : Nat, k ≤ n ∧ i = .int .i64 k ∧ upTo (fun i => insSame (F i) (G i)) k = true ∧ ∃ q, wr = w.drewN q) (fun i wr => n - (intOf i).toNat)
    case atStart => exact ⟨0, Nat.zero_le _, rfl, rfl, 0, rfl⟩
    case round =>
      obtain ⟨k, hk, rfl, hu, q, rfl⟩ := hrel
      have HU := hide hu
      clear hu
      by_cases hlt : k < n
      · first
        | (exfalso; omega)
        | (obtain ⟨c0, c1, c2⟩ := h3 k hlt
           obtain ⟨d0, d1, d2⟩ := h4 k hlt
           have g1 : (0 : Int) ≤ (k : Int) := by omega
           have g2 : (k : Int) < (n : Int) := by omega
           clear h3 h4
           by_cases h1 : (F k).op = (G k).op
           · rw [← h1] at d0
             by_cases h2 : (F k).a = (G k).a
             · rw [← h2] at d1
               by_cases h3 : (F k).b = (G k).b
               · rw [← h3] at d2
                 have hs : Hid (insSame (F k) (G k) = true) := by simp [Hid, insSame, h1, h2, h3]
                 clear h1 h2 h3
                 go_wp2_with fail
                 go_quiet (fail)
                 go_wp2_with fail
                 exact ⟨⟨k + 1, by omega, by go_num, upTo_step HU.out hs.out, _, rfl⟩, by simp [intOf]; omega⟩
               · have HF : Hid (upTo (fun i => insSame (F i) (G i)) n = false) := upTo_false hlt (by simp [insSame, h3])
                 clear h1 h2
                 go_wp2_with fail
                 go_quiet (fail)
                 go_wp2_with fail
                 go_ret
                 exact ⟨ret_bool HF.out.symm, _, World.drewN_drewN _ _ _⟩
             · have HF : Hid (upTo (fun i => insSame (F i) (G i)) n = false) := upTo_false hlt (by simp [insSame, h2])
               clear h1
               go_wp2_with fail
               go_quiet (fail)
               go_wp2_with fail
               go_ret
               exact ⟨ret_bool HF.out.symm, _, World.drewN_drewN _ _ _⟩
           · have HF : Hid (upTo (fun i => insSame (F i) (G i)) n = false) := upTo_false hlt (by simp [insSame, h1])
             go_wp2_with fail
             go_quiet (fail)
             go_wp2_with fail
             go_ret
             exact ⟨ret_bool HF.out.symm, _, World.drewN_drewN _ _ _⟩)
      · have hkn : Hid (k = n) := Nat.le_antisymm hk (Nat.le_of_not_lt hlt)
        go_wp2_with fail
        go_ret
        exact ⟨ret_bool (hkn.out ▸ HU.out).symm, _, rfl⟩

set_option maxHeartbeats 400000 in
theorem slicesEqualGIns_short (a a' : Option Addr) (cap cap' n m : Nat) (w : World) (hn : n ≤ 1048576) (hm : m ≤ 1048576) (hne : ¬ n = m) :
    Calls Try.prog 44 #[.slice a n cap, .slice a' m cap'] w fun e w' => e = .returned (.bool false) ∧ ∃ q, w' = w.drewN q := by
  have hb : ((n : Int) == (m : Int)) = false := by simp; omega
  have hd : ¬ ((n : Int) = (m : Int)) := by omega
  clear hne
  go_enter Try.func44, Try.ntmps44
  go_wp2_with fail
  go_ret
  exact ⟨rfl, 0, rfl⟩
theorem slicesEqualGIns_any {md md' : Bool} (a a' : Option Addr) (cap cap' lo hi lo' hi' : Nat) (xs ys : List GIns) (w : World) (hn : xs.length ≤ 1048576) (hm : ys.length ≤ 1048576) (hx : InssM md w lo hi a xs) (hy : InssM md' w lo' hi' a' ys) :
    Calls Try.prog 44 #[.slice a xs.length cap, .slice a' ys.length cap'] w fun e w' => e = .returned (.bool (inssSame xs ys)) ∧ ∃ q, w' = w.drewN q := by
  by_cases hl : xs.length = ys.length
  · have e : inssSame xs ys = upTo (fun i => insSame (insAt' xs i) (insAt' ys i)) xs.length := by simp [inssSame, hl]
    rw [e, ← hl]
    refine slicesEqualGIns_core a a' cap cap' xs.length lo hi lo' hi' (insAt' xs) (insAt' ys) w hn ?_
    rcases (hx).plain with rfl | ⟨b, off, rfl, h1, h2, _, h3⟩
    · exact .inl (Nat.le_refl _)
    · rcases (hy).plain with rfl | ⟨b', off', rfl, h1', h2', _, h3'⟩
      · exact .inl (by rw [hl]; exact Nat.le_refl _)
      · exact .inr ⟨b, off, b', off', rfl, rfl, h3, fun i hi => h3' i (by omega)⟩
  · have e : inssSame xs ys = false := by simp [inssSame, hl]
    rw [e]
    exact slicesEqualGIns_short a a' cap cap' _ _ w hn hm hl
end Go.Proofs.Ytgmjdneejkebhaa
