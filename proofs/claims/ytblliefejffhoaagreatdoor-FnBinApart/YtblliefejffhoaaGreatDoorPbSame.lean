/- PbSame: UpTo, ProgSame, ProgSame2, ProgSame3, ProgSame4, ProgSame5, ProgSame6. -/
import Derived.Test.YtblliefejffhoaaGreatDoorGenRoot
import Derived.Laws.StructEq
import Derived.Test.YtblliefejffhoaaGreatDoorPbRow
/- Whether something holds of all numbers below one. -/
namespace Go.Proofs.YtblliefejffhoaaGreatDoor
open Go.ChangeShapes Go.WideShapes Go.ChangeAt Go.RowKit Go.Joins Go.Deep
set_option linter.unusedVariables false

/-- P holds of all numbers below n. -/
def upTo (P : Nat → Bool) : Nat → Bool
  | 0 => true
  | n + 1 => upTo P n && P n
theorem upTo_false {P : Nat → Bool} {k n : Nat} (h : k < n) (hk : P k = false) : upTo P n = false := by
  induction n with
  | zero => omega
  | succ n ih =>
    by_cases e : k = n
    · subst e; simp [upTo, hk]
    · simp [upTo, ih (by omega)]
theorem upTo_step {P : Nat → Bool} {k : Nat} (h : upTo P k = true) (hk : P k = true) : upTo P (k + 1) = true := by simp [upTo, h, hk]

theorem quiet_at {P : Program} {f : FuncId} {args : Array Value} {w : World} {q m : Nat} {v : Value} (h : Calls P f args (w.drewN (q + m)) fun e w' => e = .returned v ∧ ∃ j, w' = (w.drewN (q + m)).drewN j) : Calls P f args (w.drewN (q + m)) fun e w' => e = .returned v ∧ ∃ j, w' = w.drewN (q + j) :=
  h.mono fun _ _ ⟨he, j, hj⟩ => ⟨he, m + j, by rw [hj, World.drewN_drewN, Nat.add_assoc]⟩
end Go.Proofs.YtblliefejffhoaaGreatDoor

/- ProgSame of the model and of the program: both say whether all parts are the same. -/
namespace Go.Proofs.YtblliefejffhoaaGreatDoor
open Go.ChangeShapes Go.WideShapes Go.ChangeAt Go.RowKit Go.Joins Go.Deep
set_option linter.unusedVariables false

def fdSame (a b : Fd) : Bool := a.kind == b.kind && (a.of == b.of && a.mt == b.mt)
def insSame (a b : GIns) : Bool := a.op == b.op && (a.a == b.a && a.b == b.b)
def fdsSame (xs ys : List Fd) : Bool := decide (xs.length = ys.length) && upTo (fun i => fdSame (fdAt xs i) (fdAt ys i)) xs.length
def inssSame (xs ys : List GIns) : Bool := decide (xs.length = ys.length) && upTo (fun i => insSame (insAt' xs i) (insAt' ys i)) xs.length
def tySame (s t : Ty) : Bool := s.kind == t.kind && (s.up == t.up && (s.last == t.last && fdsSame s.fields t.fields))
def tysSame (xs ys : List Ty) : Bool := decide (xs.length = ys.length) && upTo (fun i => tySame (tyAt xs i) (tyAt ys i)) xs.length
def grsSame (xs ys : List (List Ty)) : Bool := decide (xs.length = ys.length) && upTo (fun i => tysSame (grAt xs i) (grAt ys i)) xs.length
def funSame (f g : GFun) : Bool := fdSame f.gives g.gives && (fdsSame f.takes g.takes && (fdsSame f.own g.own && inssSame f.body g.body))
def funsSame (xs ys : List GFun) : Bool := decide (xs.length = ys.length) && upTo (fun i => funSame (funAt' xs i) (funAt' ys i)) xs.length
def progSame (p q : GProg) : Bool := grsSame p.types q.types && (fdsSame p.glob q.glob && funsSame p.funs q.funs)

set_option maxHeartbeats 400000 in
theorem l3Fields_core (a a' : Option Addr) (cap cap' n lo hi lo' hi' : Nat) (F G : Nat → Fd) (w : World) (hn : n ≤ 1048576)
    (hx : n ≤ 0 ∨ ∃ b off b' off', a = some ⟨b, off, none⟩ ∧ a' = some ⟨b', off', none⟩ ∧ (∀ i, i < n → FieldAt w b (off + i * 3) (F i)) ∧ (∀ i, i < n → FieldAt w b' (off' + i * 3) (G i))) :
    Calls Tryz.prog 38 #[.slice a n cap, .slice a' n cap'] w fun e w' => e = .returned (.bool (upTo (fun i => fdSame (F i) (G i)) n)) ∧ ∃ q, w' = w.drewN q := by
  rcases hx with h0 | ⟨b, off, b', off', rfl, rfl, h3, h4⟩
  all_goals
    go_enter Tryz.func38, Tryz.ntmps38
    go_wp2_with fail
    go_loopw [5] (fun i wr => ∃ k : Nat, k ≤ n ∧ i = .int .i64 k ∧ upTo (fun i => fdSame (F i) (G i)) k = true ∧ ∃ q, wr = w.drewN q) (fun i wr => n - (intOf i).toNat)
    case atStart => exact ⟨0, Nat.zero_le _, rfl, rfl, 0, rfl⟩
    case round =>
      obtain ⟨k, hk, rfl, hu, q, rfl⟩ := hrel
      have HU := hide hu
      clear hu
      by_cases hlt : k < n
      · first
        | (exfalso; omega)
        | (obtain ⟨c0, c1, c2⟩ := h3 k hlt
           obtain ⟨d0, d1, d2⟩ := h4 k hlt
           have g1 : (0 : Int) ≤ (k : Int) := by omega
           have g2 : (k : Int) < (n : Int) := by omega
           clear h3 h4
           by_cases h1 : (F k).kind = (G k).kind
           · rw [← h1] at d0
             by_cases h2 : (F k).of = (G k).of
             · rw [← h2] at d1
               by_cases h3 : (F k).mt = (G k).mt
               · rw [← h3] at d2
                 have hs : Hid (fdSame (F k) (G k) = true) := by simp [Hid, fdSame, h1, h2, h3]
                 clear h1 h2 h3
                 go_wp2_with fail
                 go_quiet (fail)
                 go_wp2_with fail
                 exact ⟨⟨k + 1, by omega, by go_num, upTo_step HU.out hs.out, _, rfl⟩, by simp [intOf]; omega⟩
               · have HF : Hid (upTo (fun i => fdSame (F i) (G i)) n = false) := upTo_false hlt (by simp [fdSame, h3])
                 clear h1 h2
                 go_wp2_with fail
                 go_quiet (fail)
                 go_wp2_with fail
                 go_ret
                 exact ⟨ret_bool HF.out.symm, _, World.drewN_drewN _ _ _⟩
             · have HF : Hid (upTo (fun i => fdSame (F i) (G i)) n = false) := upTo_false hlt (by simp [fdSame, h2])
               clear h1
               go_wp2_with fail
               go_quiet (fail)
               go_wp2_with fail
               go_ret
               exact ⟨ret_bool HF.out.symm, _, World.drewN_drewN _ _ _⟩
           · have HF : Hid (upTo (fun i => fdSame (F i) (G i)) n = false) := upTo_false hlt (by simp [fdSame, h1])
             go_wp2_with fail
             go_quiet (fail)
             go_wp2_with fail
             go_ret
             exact ⟨ret_bool HF.out.symm, _, World.drewN_drewN _ _ _⟩)
      · have hkn : Hid (k = n) := Nat.le_antisymm hk (Nat.le_of_not_lt hlt)
        go_wp2_with fail
        go_ret
        exact ⟨ret_bool (hkn.out ▸ HU.out).symm, _, rfl⟩

set_option maxHeartbeats 400000 in
theorem l3Fields_short (a a' : Option Addr) (cap cap' n m : Nat) (w : World) (hn : n ≤ 1048576) (hm : m ≤ 1048576) (hne : ¬ n = m) :
    Calls Tryz.prog 38 #[.slice a n cap, .slice a' m cap'] w fun e w' => e = .returned (.bool false) ∧ ∃ q, w' = w.drewN q := by
  have hb : ((n : Int) == (m : Int)) = false := by simp; omega
  have hd : ¬ ((n : Int) = (m : Int)) := by omega
  clear hne
  go_enter Tryz.func38, Tryz.ntmps38
  go_wp2_with fail
  go_ret
  exact ⟨rfl, 0, rfl⟩
theorem l3Fields_any {md md' : Bool} (a a' : Option Addr) (cap cap' lo hi lo' hi' : Nat) (xs ys : List Fd) (w : World) (hn : xs.length ≤ 1048576) (hm : ys.length ≤ 1048576) (hx : FieldsM md w lo hi a xs) (hy : FieldsM md' w lo' hi' a' ys) :
    Calls Tryz.prog 38 #[.slice a xs.length cap, .slice a' ys.length cap'] w fun e w' => e = .returned (.bool (fdsSame xs ys)) ∧ ∃ q, w' = w.drewN q := by
  by_cases hl : xs.length = ys.length
  · have e : fdsSame xs ys = upTo (fun i => fdSame (fdAt xs i) (fdAt ys i)) xs.length := by simp [fdsSame, hl]
    rw [e, ← hl]
    refine l3Fields_core a a' cap cap' xs.length lo hi lo' hi' (fdAt xs) (fdAt ys) w hn ?_
    rcases (hx).1 with rfl | ⟨b, off, rfl, h1, h2, h3⟩
    · exact .inl (Nat.le_refl _)
    · rcases (hy).1 with rfl | ⟨b', off', rfl, h1', h2', h3'⟩
      · exact .inl (by rw [hl]; exact Nat.le_refl _)
      · exact .inr ⟨b, off, b', off', rfl, rfl, h3, fun i hi => h3' i (by omega)⟩
  · have e : fdsSame xs ys = false := by simp [fdsSame, hl]
    rw [e]
    exact l3Fields_short a a' cap cap' _ _ w hn hm hl

set_option maxHeartbeats 400000 in
theorem l3Body_core (a a' : Option Addr) (cap cap' n lo hi lo' hi' : Nat) (F G : Nat → GIns) (w : World) (hn : n ≤ 1048576)
    (hx : n ≤ 0 ∨ ∃ b off b' off', a = some ⟨b, off, none⟩ ∧ a' = some ⟨b', off', none⟩ ∧ (∀ i, i < n → InsAt false w lo hi b (off + i * 3) (F i)) ∧ (∀ i, i < n → InsAt false w lo' hi' b' (off' + i * 3) (G i))) :
    Calls Tryz.prog 40 #[.slice a n cap, .slice a' n cap'] w fun e w' => e = .returned (.bool (upTo (fun i => insSame (F i) (G i)) n)) ∧ ∃ q, w' = w.drewN q := by
  rcases hx with h0 | ⟨b, off, b', off', rfl, rfl, h3, h4⟩
  all_goals
    go_enter Tryz.func40, Tryz.ntmps40
    go_wp2_with fail
    go_loopw [5] (fun i wr => ∃ k : Nat, k ≤ n ∧ i = .int .i64 k ∧ upTo (fun i => insSame (F i) (G i)) k = true ∧ ∃ q, wr = w.drewN q) (fun i wr => n - (intOf i).toNat)
    case atStart => exact ⟨0, Nat.zero_le _, rfl, rfl, 0, rfl⟩
    case round =>
      obtain ⟨k, hk, rfl, hu, q, rfl⟩ := hrel
      have HU := hide hu
      clear hu
      by_cases hlt : k < n
      · first
        | (exfalso; omega)
        | (obtain ⟨c0, c1, c2⟩ := h3 k hlt
           obtain ⟨d0, d1, d2⟩ := h4 k hlt
           have g1 : (0 : Int) ≤ (k : Int) := by omega
           have g2 : (k : Int) < (n : Int) := by omega
           clear h3 h4
           by_cases h1 : (F k).op = (G k).op
           · rw [← h1] at d0
             by_cases h2 : (F k).a = (G k).a
             · rw [← h2] at d1
               by_cases h3 : (F k).b = (G k).b
               · rw [← h3] at d2
                 have hs : Hid (insSame (F k) (G k) = true) := by simp [Hid, insSame, h1, h2, h3]
                 clear h1 h2 h3
                 go_wp2_with fail
                 go_quiet (fail)
                 go_wp2_with fail
                 exact ⟨⟨k + 1, by omega, by go_num, upTo_step HU.out hs.out, _, rfl⟩, by simp [intOf]; omega⟩
               · have HF : Hid (upTo (fun i => insSame (F i) (G i)) n = false) := upTo_false hlt (by simp [insSame, h3])
                 clear h1 h2
                 go_wp2_with fail
                 go_quiet (fail)
                 go_wp2_with fail
                 go_ret
                 exact ⟨ret_bool HF.out.symm, _, World.drewN_drewN _ _ _⟩
             · have HF : Hid (upTo (fun i => insSame (F i) (G i)) n = false) := upTo_false hlt (by simp [insSame, h2])
               clear h1
               go_wp2_with fail
               go_quiet (fail)
               go_wp2_with fail
               go_ret
               exact ⟨ret_bool HF.out.symm, _, World.drewN_drewN _ _ _⟩
           · have HF : Hid (upTo (fun i => insSame (F i) (G i)) n = false) := upTo_false hlt (by simp [insSame, h1])
             go_wp2_with fail
             go_quiet (fail)
             go_wp2_with fail
             go_ret
             exact ⟨ret_bool HF.out.symm, _, World.drewN_drewN _ _ _⟩)
      · have hkn : Hid (k = n) := Nat.le_antisymm hk (Nat.le_of_not_lt hlt)
        go_wp2_with fail
        go_ret
        exact ⟨ret_bool (hkn.out ▸ HU.out).symm, _, rfl⟩

set_option maxHeartbeats 400000 in
theorem l3Body_short (a a' : Option Addr) (cap cap' n m : Nat) (w : World) (hn : n ≤ 1048576) (hm : m ≤ 1048576) (hne : ¬ n = m) :
    Calls Tryz.prog 40 #[.slice a n cap, .slice a' m cap'] w fun e w' => e = .returned (.bool false) ∧ ∃ q, w' = w.drewN q := by
  have hb : ((n : Int) == (m : Int)) = false := by simp; omega
  have hd : ¬ ((n : Int) = (m : Int)) := by omega
  clear hne
  go_enter Tryz.func40, Tryz.ntmps40
  go_wp2_with fail
  go_ret
  exact ⟨rfl, 0, rfl⟩
theorem l3Body_any {md md' : Bool} (a a' : Option Addr) (cap cap' lo hi lo' hi' : Nat) (xs ys : List GIns) (w : World) (hn : xs.length ≤ 1048576) (hm : ys.length ≤ 1048576) (hx : InssM md w lo hi a xs) (hy : InssM md' w lo' hi' a' ys) :
    Calls Tryz.prog 40 #[.slice a xs.length cap, .slice a' ys.length cap'] w fun e w' => e = .returned (.bool (inssSame xs ys)) ∧ ∃ q, w' = w.drewN q := by
  by_cases hl : xs.length = ys.length
  · have e : inssSame xs ys = upTo (fun i => insSame (insAt' xs i) (insAt' ys i)) xs.length := by simp [inssSame, hl]
    rw [e, ← hl]
    refine l3Body_core a a' cap cap' xs.length lo hi lo' hi' (insAt' xs) (insAt' ys) w hn ?_
    rcases (hx).plain with rfl | ⟨b, off, rfl, h1, h2, _, h3⟩
    · exact .inl (Nat.le_refl _)
    · rcases (hy).plain with rfl | ⟨b', off', rfl, h1', h2', _, h3'⟩
      · exact .inl (by rw [hl]; exact Nat.le_refl _)
      · exact .inr ⟨b, off, b', off', rfl, rfl, h3, fun i hi => h3' i (by omega)⟩
  · have e : inssSame xs ys = false := by simp [inssSame, hl]
    rw [e]
    exact l3Body_short a a' cap cap' _ _ w hn hm hl

set_option maxHeartbeats 400000 in
theorem slicesEqualFd_core (a a' : Option Addr) (cap cap' n lo hi lo' hi' : Nat) (F G : Nat → Fd) (w : World) (hn : n ≤ 1048576)
    (hx : n ≤ 0 ∨ ∃ b off b' off', a = some ⟨b, off, none⟩ ∧ a' = some ⟨b', off', none⟩ ∧ (∀ i, i < n → FieldAt w b (off + i * 3) (F i)) ∧ (∀ i, i < n → FieldAt w b' (off' + i * 3) (G i))) :
    Calls Tryz.prog 35 #[.slice a n cap, .slice a' n cap'] w fun e w' => e = .returned (.bool (upTo (fun i => fdSame (F i) (G i)) n)) ∧ ∃ q, w' = w.drewN q := by
  rcases hx with h0 | ⟨b, off, b', off', rfl, rfl, h3, h4⟩
  all_goals
    go_enter Tryz.func35, Tryz.ntmps35
    go_wp2_with fail
    go_loopw [13] (fun i wr => ∃ k : Nat, k ≤ n ∧ i = .int .i64 k ∧ upTo (fun i => fdSame (F i) (G i)) k = true ∧ ∃ q, wr = w.drewN q) (fun i wr => n - (intOf i).toNat)
    case atStart => exact ⟨0, Nat.zero_le _, rfl, rfl, 0, rfl⟩
    case round =>
      obtain ⟨k, hk, rfl, hu, q, rfl⟩ := hrel
      have HU := hide hu
      clear hu
      by_cases hlt : k < n
      · first
        | (exfalso; omega)
        | (obtain ⟨c0, c1, c2⟩ := h3 k hlt
           obtain ⟨d0, d1, d2⟩ := h4 k hlt
           have g1 : (0 : Int) ≤ (k : Int) := by omega
           have g2 : (k : Int) < (n : Int) := by omega
           clear h3 h4
           by_cases h1 : (F k).kind = (G k).kind
           · rw [← h1] at d0
             by_cases h2 : (F k).of = (G k).of
             · rw [← h2] at d1
               by_cases h3 : (F k).mt = (G k).mt
               · rw [← h3] at d2
                 have hs : Hid (fdSame (F k) (G k) = true) := by simp [Hid, fdSame, h1, h2, h3]
                 clear h1 h2 h3
                 go_wp2_with fail
                 go_quiet (fail)
                 go_wp2_with fail
                 exact ⟨⟨k + 1, by omega, by go_num, upTo_step HU.out hs.out, _, rfl⟩, by simp [intOf]; omega⟩
               · have HF : Hid (upTo (fun i => fdSame (F i) (G i)) n = false) := upTo_false hlt (by simp [fdSame, h3])
                 clear h1 h2
                 go_wp2_with fail
                 go_quiet (fail)
                 go_wp2_with fail
                 go_ret
                 exact ⟨ret_bool HF.out.symm, _, World.drewN_drewN _ _ _⟩
             · have HF : Hid (upTo (fun i => fdSame (F i) (G i)) n = false) := upTo_false hlt (by simp [fdSame, h2])
               clear h1
               go_wp2_with fail
               go_quiet (fail)
               go_wp2_with fail
               go_ret
               exact ⟨ret_bool HF.out.symm, _, World.drewN_drewN _ _ _⟩
           · have HF : Hid (upTo (fun i => fdSame (F i) (G i)) n = false) := upTo_false hlt (by simp [fdSame, h1])
             go_wp2_with fail
             go_quiet (fail)
             go_wp2_with fail
             go_ret
             exact ⟨ret_bool HF.out.symm, _, World.drewN_drewN _ _ _⟩)
      · have hkn : Hid (k = n) := Nat.le_antisymm hk (Nat.le_of_not_lt hlt)
        go_wp2_with fail
        go_ret
        exact ⟨ret_bool (hkn.out ▸ HU.out).symm, _, rfl⟩

set_option maxHeartbeats 400000 in
theorem slicesEqualFd_short (a a' : Option Addr) (cap cap' n m : Nat) (w : World) (hn : n ≤ 1048576) (hm : m ≤ 1048576) (hne : ¬ n = m) :
    Calls Tryz.prog 35 #[.slice a n cap, .slice a' m cap'] w fun e w' => e = .returned (.bool false) ∧ ∃ q, w' = w.drewN q := by
  have hb : ((n : Int) == (m : Int)) = false := by simp; omega
  have hd : ¬ ((n : Int) = (m : Int)) := by omega
  clear hne
  go_enter Tryz.func35, Tryz.ntmps35
  go_wp2_with fail
  go_ret
  exact ⟨rfl, 0, rfl⟩
theorem slicesEqualFd_any {md md' : Bool} (a a' : Option Addr) (cap cap' lo hi lo' hi' : Nat) (xs ys : List Fd) (w : World) (hn : xs.length ≤ 1048576) (hm : ys.length ≤ 1048576) (hx : FieldsM md w lo hi a xs) (hy : FieldsM md' w lo' hi' a' ys) :
    Calls Tryz.prog 35 #[.slice a xs.length cap, .slice a' ys.length cap'] w fun e w' => e = .returned (.bool (fdsSame xs ys)) ∧ ∃ q, w' = w.drewN q := by
  by_cases hl : xs.length = ys.length
  · have e : fdsSame xs ys = upTo (fun i => fdSame (fdAt xs i) (fdAt ys i)) xs.length := by simp [fdsSame, hl]
    rw [e, ← hl]
    refine slicesEqualFd_core a a' cap cap' xs.length lo hi lo' hi' (fdAt xs) (fdAt ys) w hn ?_
    rcases (hx).1 with rfl | ⟨b, off, rfl, h1, h2, h3⟩
    · exact .inl (Nat.le_refl _)
    · rcases (hy).1 with rfl | ⟨b', off', rfl, h1', h2', h3'⟩
      · exact .inl (by rw [hl]; exact Nat.le_refl _)
      · exact .inr ⟨b, off, b', off', rfl, rfl, h3, fun i hi => h3' i (by omega)⟩
  · have e : fdsSame xs ys = false := by simp [fdsSame, hl]
    rw [e]
    exact slicesEqualFd_short a a' cap cap' _ _ w hn hm hl

set_option maxHeartbeats 400000 in
theorem slicesEqualGIns_core (a a' : Option Addr) (cap cap' n lo hi lo' hi' : Nat) (F G : Nat → GIns) (w : World) (hn : n ≤ 1048576)
    (hx : n ≤ 0 ∨ ∃ b off b' off', a = some ⟨b, off, none⟩ ∧ a' = some ⟨b', off', none⟩ ∧ (∀ i, i < n → InsAt false w lo hi b (off + i * 3) (F i)) ∧ (∀ i, i < n → InsAt false w lo' hi' b' (off' + i * 3) (G i))) :
    Calls Tryz.prog 72 #[.slice a n cap, .slice a' n cap'] w fun e w' => e = .returned (.bool (upTo (fun i => insSame (F i) (G i)) n)) ∧ ∃ q, w' = w.drewN q := by
  rcases hx with h0 | ⟨b, off, b', off', rfl, rfl, h3, h4⟩
  all_goals
    go_enter Tryz.func72, Tryz.ntmps72
    go_wp2_with fail
    go_loopw [13] (fun i wr => ∃ k : Nat, k ≤ n ∧ i = .int .i64 k ∧ upTo (fun i => insSame (F i) (G i)) k = true ∧ ∃ q, wr = w.drewN q) (fun i wr => n - (intOf i).toNat)
    case atStart => exact ⟨0, Nat.zero_le _, rfl, rfl, 0, rfl⟩
    case round =>
      obtain ⟨k, hk, rfl, hu, q, rfl⟩ := hrel
      have HU := hide hu
      clear hu
      by_cases hlt : k < n
      · first
        | (exfalso; omega)
        | (obtain ⟨c0, c1, c2⟩ := h3 k hlt
           obtain ⟨d0, d1, d2⟩ := h4 k hlt
           have g1 : (0 : Int) ≤ (k : Int) := by omega
           have g2 : (k : Int) < (n : Int) := by omega
           clear h3 h4
           by_cases h1 : (F k).op = (G k).op
           · rw [← h1] at d0
             by_cases h2 : (F k).a = (G k).a
             · rw [← h2] at d1
               by_cases h3 : (F k).b = (G k).b
               · rw [← h3] at d2
                 have hs : Hid (insSame (F k) (G k) = true) := by simp [Hid, insSame, h1, h2, h3]
                 clear h1 h2 h3
                 go_wp2_with fail
                 go_quiet (fail)
                 go_wp2_with fail
                 exact ⟨⟨k + 1, by omega, by go_num, upTo_step HU.out hs.out, _, rfl⟩, by simp [intOf]; omega⟩
               · have HF : Hid (upTo (fun i => insSame (F i) (G i)) n = false) := upTo_false hlt (by simp [insSame, h3])
                 clear h1 h2
                 go_wp2_with fail
                 go_quiet (fail)
                 go_wp2_with fail
                 go_ret
                 exact ⟨ret_bool HF.out.symm, _, World.drewN_drewN _ _ _⟩
             · have HF : Hid (upTo (fun i => insSame (F i) (G i)) n = false) := upTo_false hlt (by simp [insSame, h2])
               clear h1
               go_wp2_with fail
               go_quiet (fail)
               go_wp2_with fail
               go_ret
               exact ⟨ret_bool HF.out.symm, _, World.drewN_drewN _ _ _⟩
           · have HF : Hid (upTo (fun i => insSame (F i) (G i)) n = false) := upTo_false hlt (by simp [insSame, h1])
             go_wp2_with fail
             go_quiet (fail)
             go_wp2_with fail
             go_ret
             exact ⟨ret_bool HF.out.symm, _, World.drewN_drewN _ _ _⟩)
      · have hkn : Hid (k = n) := Nat.le_antisymm hk (Nat.le_of_not_lt hlt)
        go_wp2_with fail
        go_ret
        exact ⟨ret_bool (hkn.out ▸ HU.out).symm, _, rfl⟩

set_option maxHeartbeats 400000 in
theorem slicesEqualGIns_short (a a' : Option Addr) (cap cap' n m : Nat) (w : World) (hn : n ≤ 1048576) (hm : m ≤ 1048576) (hne : ¬ n = m) :
    Calls Tryz.prog 72 #[.slice a n cap, .slice a' m cap'] w fun e w' => e = .returned (.bool false) ∧ ∃ q, w' = w.drewN q := by
  have hb : ((n : Int) == (m : Int)) = false := by simp; omega
  have hd : ¬ ((n : Int) = (m : Int)) := by omega
  clear hne
  go_enter Tryz.func72, Tryz.ntmps72
  go_wp2_with fail
  go_ret
  exact ⟨rfl, 0, rfl⟩
theorem slicesEqualGIns_any {md md' : Bool} (a a' : Option Addr) (cap cap' lo hi lo' hi' : Nat) (xs ys : List GIns) (w : World) (hn : xs.length ≤ 1048576) (hm : ys.length ≤ 1048576) (hx : InssM md w lo hi a xs) (hy : InssM md' w lo' hi' a' ys) :
    Calls Tryz.prog 72 #[.slice a xs.length cap, .slice a' ys.length cap'] w fun e w' => e = .returned (.bool (inssSame xs ys)) ∧ ∃ q, w' = w.drewN q := by
  by_cases hl : xs.length = ys.length
  · have e : inssSame xs ys = upTo (fun i => insSame (insAt' xs i) (insAt' ys i)) xs.length := by simp [inssSame, hl]
    rw [e, ← hl]
    refine slicesEqualGIns_core a a' cap cap' xs.length lo hi lo' hi' (insAt' xs) (insAt' ys) w hn ?_
    rcases (hx).plain with rfl | ⟨b, off, rfl, h1, h2, _, h3⟩
    · exact .inl (Nat.le_refl _)
    · rcases (hy).plain with rfl | ⟨b', off', rfl, h1', h2', _, h3'⟩
      · exact .inl (by rw [hl]; exact Nat.le_refl _)
      · exact .inr ⟨b, off, b', off', rfl, rfl, h3, fun i hi => h3' i (by omega)⟩
  · have e : inssSame xs ys = false := by simp [inssSame, hl]
    rw [e]
    exact slicesEqualGIns_short a a' cap cap' _ _ w hn hm hl
end Go.Proofs.YtblliefejffhoaaGreatDoor

/- l3Types and ProgSame of the model. -/
namespace Go.Proofs.YtblliefejffhoaaGreatDoor
open Go.ChangeShapes Go.WideShapes Go.ChangeAt Go.RowKit Go.Joins Go.Deep
set_option linter.unusedVariables false

set_option maxHeartbeats 3200000 in
theorem l3Types_core (a a' : Option Addr) (cap cap' n lo hi lo' hi' : Nat) (F G : Nat → Ty) (w : World) (hn : n ≤ 1048576) (hF : ∀ i, i < n → (F i).fields.length ≤ 1048576) (hG : ∀ i, i < n → (G i).fields.length ≤ 1048576)
    (hx : n ≤ 0 ∨ ∃ b off b' off', a = some ⟨b, off, none⟩ ∧ a' = some ⟨b', off', none⟩ ∧ (∀ i, i < n → TypeAt w lo hi b (off + i * 4) (F i)) ∧ (∀ i, i < n → TypeAt w lo' hi' b' (off' + i * 4) (G i))) :
    Calls Tryz.prog 39 #[.slice a n cap, .slice a' n cap'] w fun e w' => e = .returned (.bool (upTo (fun i => tySame (F i) (G i)) n)) ∧ ∃ q, w' = w.drewN q := by
  have HLF := hide hF
  have HLG := hide hG
  clear hF hG
  rcases hx with h0 | ⟨b, off, b', off', rfl, rfl, h3, h4⟩
  all_goals
    go_enter Tryz.func39, Tryz.ntmps39
    go_wp2_with fail
    go_loopw [5] (fun i wr => ∃ k : Nat, k ≤ n ∧ i = .int .i64 k ∧ upTo (fun i => tySame (F i) (G i)) k = true ∧ ∃ q, wr = w.drewN q) (fun i wr => n - (intOf i).toNat)
    case atStart => exact ⟨0, Nat.zero_le _, rfl, rfl, 0, rfl⟩
    case round =>
      obtain ⟨k, hk, rfl, hu, q, rfl⟩ := hrel
      have HU := hide hu
      clear hu
      by_cases hlt : k < n
      · first
        | (exfalso; omega)
        | (obtain ⟨c0, c1, c2, fa, fc, c3, c4⟩ := h3 k hlt
           obtain ⟨d0, d1, d2, fb, fd, d3, d4⟩ := h4 k hlt
           have C4 : Hid (FieldsM false w lo hi fa (F k).fields) := ⟨c4, fun e => by cases e⟩
           have D4 : Hid (FieldsM false w lo' hi' fb (G k).fields) := ⟨d4, fun e => by cases e⟩
           have g1 : (0 : Int) ≤ (k : Int) := by omega
           have g2 : (k : Int) < (n : Int) := by omega
           clear h3 h4 c4 d4
           have HC : Hid (∀ m, Calls Tryz.prog 38 #[.slice fa (F k).fields.length fc, .slice fb (G k).fields.length fd] (w.drewN (q + m)) fun e w' => e = .returned (.bool (fdsSame (F k).fields (G k).fields)) ∧ ∃ j, w' = w.drewN (q + j)) := fun m =>
             quiet_at (l3Fields_any fa fb fc fd lo hi lo' hi' (F k).fields (G k).fields _ (HLF.out k hlt) (HLG.out k hlt) (show FieldsM false w lo hi fa (F k).fields from C4.out) (show FieldsM false w lo' hi' fb (G k).fields from D4.out))
           by_cases h1 : (F k).kind = (G k).kind
           · rw [← h1] at d0
             by_cases h2 : (F k).up = (G k).up
             · rw [← h2] at d1
               by_cases h3 : (F k).last = (G k).last
               · rw [← h3] at d2
                 by_cases h4 : fdsSame (F k).fields (G k).fields = true
                 · rw [h4] at HC
                   have hs : Hid (tySame (F k) (G k) = true) := by simp [Hid, tySame, h1, h2, h3, h4]
                   have HS := HC
                   clear h1 h2 h3 h4 HC
                   go_wp2_with fail
                   go_quiet ((go_at_call 38; exact HS.out _))
                   go_wp2_with fail
                   exact ⟨⟨k + 1, by omega, by go_num, upTo_step HU.out hs.out, _, rfl⟩, by simp [intOf]; omega⟩
                 · have h4' : fdsSame (F k).fields (G k).fields = false := by simpa using h4
                   rw [h4'] at HC
                   have HF : Hid (upTo (fun i => tySame (F i) (G i)) n = false) := upTo_false hlt (by simp [tySame, h4'])
                   have HS := HC
                   clear h1 h2 h3 h4 h4' HC
                   go_wp2_with fail
                   go_quiet ((go_at_call 38; exact HS.out _))
                   go_wp2_with fail
                   go_ret
                   exact ⟨ret_bool HF.out.symm, _, World.drewN_drewN _ _ _⟩
               · have HF : Hid (upTo (fun i => tySame (F i) (G i)) n = false) := upTo_false hlt (by simp [tySame, h3])
                 clear h1 h2 HC
                 go_wp2_with fail
                 go_quiet (fail)
                 go_wp2_with fail
                 go_ret
                 exact ⟨ret_bool HF.out.symm, _, World.drewN_drewN _ _ _⟩
             · have HF : Hid (upTo (fun i => tySame (F i) (G i)) n = false) := upTo_false hlt (by simp [tySame, h2])
               have e2 : ((F k).up != (G k).up) = true := by simpa using h2
               clear h1 HC h2
               go_wp2_with fail
               go_quiet (fail)
               go_wp2_with fail
               go_ret
               exact ⟨ret_bool HF.out.symm, _, World.drewN_drewN _ _ _⟩
           · have HF : Hid (upTo (fun i => tySame (F i) (G i)) n = false) := upTo_false hlt (by simp [tySame, h1])
             have e1 : ((F k).kind != (G k).kind) = true := by simpa using h1
             clear HC h1
             go_wp2_with fail
             go_quiet (fail)
             go_wp2_with fail
             go_ret
             exact ⟨ret_bool HF.out.symm, _, World.drewN_drewN _ _ _⟩)
      · have hkn : Hid (k = n) := Nat.le_antisymm hk (Nat.le_of_not_lt hlt)
        go_wp2_with fail
        go_ret
        exact ⟨ret_bool (hkn.out ▸ HU.out).symm, _, rfl⟩

set_option maxHeartbeats 400000 in
theorem l3Types_short (a a' : Option Addr) (cap cap' n m : Nat) (w : World) (hn : n ≤ 1048576) (hm : m ≤ 1048576) (hne : ¬ n = m) :
    Calls Tryz.prog 39 #[.slice a n cap, .slice a' m cap'] w fun e w' => e = .returned (.bool false) ∧ ∃ q, w' = w.drewN q := by
  have hb : ((n : Int) == (m : Int)) = false := by simp; omega
  have hd : ¬ ((n : Int) = (m : Int)) := by omega
  clear hne
  go_enter Tryz.func39, Tryz.ntmps39
  go_wp2_with fail
  go_ret
  exact ⟨rfl, 0, rfl⟩
theorem l3Types_any (a a' : Option Addr) (cap cap' lo hi lo' hi' : Nat) (xs ys : List Ty) (w : World) (hn : xs.length ≤ 1048576) (hm : ys.length ≤ 1048576) (hF : ∀ i, i < xs.length → (tyAt xs i).fields.length ≤ 1048576) (hG : ∀ i, i < ys.length → (tyAt ys i).fields.length ≤ 1048576) (hx : TypesIn w lo hi a xs) (hy : TypesIn w lo' hi' a' ys) :
    Calls Tryz.prog 39 #[.slice a xs.length cap, .slice a' ys.length cap'] w fun e w' => e = .returned (.bool (tysSame xs ys)) ∧ ∃ q, w' = w.drewN q := by
  by_cases hl : xs.length = ys.length
  · have e : tysSame xs ys = upTo (fun i => tySame (tyAt xs i) (tyAt ys i)) xs.length := by simp [tysSame, hl]
    rw [e, ← hl]
    refine l3Types_core a a' cap cap' xs.length lo hi lo' hi' (tyAt xs) (tyAt ys) w hn hF (fun i hi => hG i (by omega)) ?_
    rcases hx with rfl | ⟨b, off, rfl, h1, h2, h3⟩
    · exact .inl (Nat.le_refl _)
    · rcases hy with rfl | ⟨b', off', rfl, h1', h2', h3'⟩
      · exact .inl (by rw [hl]; exact Nat.le_refl _)
      · exact .inr ⟨b, off, b', off', rfl, rfl, h3, fun i hi => h3' i (by omega)⟩
  · have e : tysSame xs ys = false := by simp [tysSame, hl]
    rw [e]
    exact l3Types_short a a' cap cap' _ _ w hn hm hl
end Go.Proofs.YtblliefejffhoaaGreatDoor

/- ProgSame of the model. -/
namespace Go.Proofs.YtblliefejffhoaaGreatDoor
open Go.ChangeShapes Go.WideShapes Go.ChangeAt Go.RowKit Go.Joins Go.Deep
set_option linter.unusedVariables false

/-- Two lists of groups of one length, at their places. -/
theorem GroupsM.both {md md' : Bool} {w : World} {lo hi lo' hi' : Nat} {a a' : Option Addr} {xs ys : List (List Ty)} (h : GroupsM md w lo hi a xs) (h' : GroupsM md' w lo' hi' a' ys) (e : ys.length = xs.length) :
    xs.length ≤ 0 ∨ ∃ b off b' off', a = some ⟨b, off, none⟩ ∧ a' = some ⟨b', off', none⟩ ∧ b < hi ∧ b' < hi' ∧ (∀ i, i < xs.length → GroupAt w lo hi b (off + i) (grAt xs i)) ∧ (∀ i, i < xs.length → GroupAt w lo' hi' b' (off' + i) (grAt ys i)) := by
  rcases h.1 with rfl | ⟨b, off, rfl, h1, h2, h3⟩
  · exact .inl (Nat.le_refl _)
  · rcases h'.1 with rfl | ⟨b', off', rfl, h1', h2', h3'⟩
    · exact .inl (by rw [← e]; exact Nat.le_refl _)
    · exact .inr ⟨b, off, b', off', rfl, rfl, h2, h2', h3, fun i hi => h3' i (by omega)⟩
theorem FunsM.both {md md' : Bool} {w : World} {lo hi lo' hi' : Nat} {a a' : Option Addr} {xs ys : List GFun} (h : FunsM md w lo hi a xs) (h' : FunsM md' w lo' hi' a' ys) (e : ys.length = xs.length) :
    xs.length ≤ 0 ∨ ∃ b off b' off', a = some ⟨b, off, none⟩ ∧ a' = some ⟨b', off', none⟩ ∧ (lo ≤ b ∧ b < hi) ∧ (lo' ≤ b' ∧ b' < hi') ∧ (∀ i, i < xs.length → FunAt false w lo hi b (off + i * 6) (funAt' xs i)) ∧ (∀ i, i < xs.length → FunAt false w lo' hi' b' (off' + i * 6) (funAt' ys i)) := by
  rcases h.plain with rfl | ⟨b, off, rfl, h1, h2, _, h3⟩
  · exact .inl (Nat.le_refl _)
  · rcases h'.plain with rfl | ⟨b', off', rfl, h1', h2', _, h3'⟩
    · exact .inl (by rw [← e]; exact Nat.le_refl _)
    · exact .inr ⟨b, off, b', off', rfl, rfl, ⟨h1, h2⟩, ⟨h1', h2'⟩, h3, fun i hi => h3' i (by omega)⟩

set_option maxHeartbeats 1600000 in
theorem specProgSame_eq {md md' : Bool} (a0 a1 a2 b0 b1 b2 : Option Addr) (c0 c1 c2 d0 d1 d2 lo hi lo' hi' : Nat) (x y : GProg) (w : World) (hx : ProgB 1048576 x) (hy : ProgB 1048576 y)
    (g0 : GroupsM md w lo hi a0 x.types) (g1 : FieldsM md w lo hi a1 x.glob) (g2 : FunsM md w lo hi a2 x.funs) (k0 : GroupsM md' w lo' hi' b0 y.types) (k1 : FieldsM md' w lo' hi' b1 y.glob) (k2 : FunsM md' w lo' hi' b2 y.funs) (hh : hi ≤ w.heap.size) (hh' : hi' ≤ w.heap.size) (hl0 : y.types.length = x.types.length) (hl2 : y.funs.length = x.funs.length) (hg : fdsSame x.glob y.glob = true) :
    Calls Tryz.prog 13 #[.agg #[.slice a0 x.types.length c0, .slice a1 x.glob.length c1, .slice a2 x.funs.length c2], .agg #[.slice b0 y.types.length d0, .slice b1 y.glob.length d1, .slice b2 y.funs.length d2]] w fun e w' => e = .returned (.bool (progSame x y)) ∧ Below w.heap.size w w' := by
  have L0 : x.types.length ≤ 1048576 := hx.1.1
  have L2 : x.funs.length ≤ 1048576 := hx.2.2.1
  have HG := hide hg
  have HX := hide hx
  have HY := hide hy
  have HL0 := hide hl0
  have HL2 := hide hl2
  have G0 := hide g0
  have G1 := hide g1
  have G2 := hide g2
  have K0 := hide k0
  have K1 := hide k1
  have K2 := hide k2
  have HH := hide hh
  have HH' := hide hh'
  rw [hl0, hl2]
  clear hg hx hy g0 g1 g2 k0 k1 k2 hl0 hl2 hh hh'
  have HN : Hid (progSame x y = (upTo (fun i => tysSame (grAt x.types i) (grAt y.types i)) x.types.length && upTo (fun i => funSame (funAt' x.funs i) (funAt' y.funs i)) x.funs.length)) := by
    show progSame x y = _
    simp [progSame, grsSame, funsSame, HG.out, HL0.out, HL2.out]
  go_enter Tryz.func13, Tryz.ntmps13
  go_wp2_with fail
  refine (l3Fields_any a1 b1 c1 d1 lo hi lo' hi' x.glob y.glob _ HX.out.2.1 HY.out.2.1 (G1.out.keep (Below.mono (by (repeat (first | refine Below.al ?_ (Nat.le_refl _) _ | exact Below.refl _ _))) HH.out)) (K1.out.keep (Below.mono (by (repeat (first | refine Below.al ?_ (Nat.le_refl _) _ | exact Below.refl _ _))) HH'.out))).mono ?_
  rintro e w1 ⟨rfl, q0, hq⟩
  rw [HG.out]
  have B1 : Hid (Below w.heap.size w w1) := by
    show Below w.heap.size w w1
    rw [hq]
    exact below_drewN (by (repeat (first | refine Below.al ?_ (Nat.le_refl _) _ | exact Below.refl _ _))) _
  have P1 : Hid (Rec w1 w.heap.size 27 [.slice a0 x.types.length c0, .slice a1 x.glob.length c1, .slice a2 x.funs.length c2]) := by
    show Rec _ _ _ _
    rw [hq]
    exact (Rec.new' w _ _ _ rfl).alloc _
  have R1 : Hid (Rec w1 (w.heap.size + 1) 27 [.slice b0 x.types.length d0, .slice b1 y.glob.length d1, .slice b2 x.funs.length d2]) := by
    show Rec _ _ _ _
    rw [hq]
    exact Rec.new' _ _ _ _ (by simp)
  have s1 := R1.out.lt
  clear hq
  have p0 := P1.out.cell (o := 0) rfl
  have p2 := P1.out.cell (o := 2) rfl
  have r0 := R1.out.cell (o := 0) rfl
  have r2 := R1.out.cell (o := 2) rfl
  go_wp2_with fail
  go_loopw [5] (fun i wr => ∃ k : Nat, k ≤ x.types.length ∧ i = .int .i64 k ∧ upTo (fun i => tysSame (grAt x.types i) (grAt y.types i)) k = true ∧ ∃ q, wr = w1.drewN q) (fun i wr => x.types.length - (intOf i).toNat)
  case atStart => exact ⟨0, Nat.zero_le _, rfl, rfl, 0, rfl⟩
  case round =>
    obtain ⟨k, hk, rfl, hu, q, rfl⟩ := hrel
    have HU := hide hu
    clear hu
    by_cases hlt : k < x.types.length
    · have g1 : (0 : Int) ≤ (k : Int) := by omega
      have g2 : (k : Int) < (x.types.length : Int) := by omega
      rcases (G0.out.keep (B1.out.mono HH.out)).both (K0.out.keep (B1.out.mono HH'.out)) HL0.out with h0 | ⟨b, off, b', off', rfl, rfl, t1, t2, h3, h4⟩
      · exfalso; omega
      obtain ⟨ta, tc, e3, e4⟩ := h3 k hlt
      obtain ⟨tb, td, f3, f4⟩ := h4 k hlt
      have HC : Hid (∀ m, Calls Tryz.prog 39 #[.slice ta (grAt x.types k).length tc, .slice tb (grAt y.types k).length td] (w1.drewN (q + m)) fun e w' => e = .returned (.bool (tysSame (grAt x.types k) (grAt y.types k))) ∧ ∃ j, w' = w1.drewN (q + j)) := fun m =>
        quiet_at (l3Types_any ta tb tc td lo hi lo' hi' (grAt x.types k) (grAt y.types k) _ (HX.out.1.2 k hlt).1 (HY.out.1.2 k (by rw [HL0.out]; exact hlt)).1 (HX.out.1.2 k hlt).2 (HY.out.1.2 k (by rw [HL0.out]; exact hlt)).2 e4 f4)
      clear h3 h4 e4 f4
      by_cases hs : tysSame (grAt x.types k) (grAt y.types k) = true
      · rw [hs] at HC
        have HS := hide hs
        clear hs
        go_wp2_with fail
        go_quiet ((go_at_call 39; exact HC.out _))
        go_wp2_with fail
        exact ⟨⟨k + 1, by omega, by go_num, upTo_step HU.out HS.out, _, rfl⟩, by simp [intOf]; omega⟩
      · have hs' : tysSame (grAt x.types k) (grAt y.types k) = false := by simpa using hs
        rw [hs'] at HC
        have HF : Hid (progSame x y = false) := by
          show progSame x y = false
          rw [HN.out, upTo_false hlt hs']; rfl
        clear hs hs'
        go_wp2_with fail
        go_quiet ((go_at_call 39; exact HC.out _))
        go_wp2_with fail
        go_ret
        exact ⟨ret_bool HF.out.symm, below_drewN (below_drewN B1.out _) _⟩
    · have hkn : Hid (k = x.types.length) := Nat.le_antisymm hk (Nat.le_of_not_lt hlt)
      have HT : Hid (upTo (fun i => tysSame (grAt x.types i) (grAt y.types i)) x.types.length = true) := hkn.out ▸ HU.out
      go_wp2_with fail
      clear p0 r0
      go_loopw [6] (fun i wr => ∃ j : Nat, j ≤ x.funs.length ∧ i = .int .i64 j ∧ upTo (fun i => funSame (funAt' x.funs i) (funAt' y.funs i)) j = true ∧ Below w1.heap.size w1 wr) (fun i wr => x.funs.length - (intOf i).toNat)
      case atStart => exact ⟨0, Nat.zero_le _, rfl, rfl, below_drewN (Below.refl _ _) _⟩
      case round =>
        obtain ⟨j, hj, rfl, hv, hb⟩ := hrel
        have HV := hide hv
        have HB := hide hb
        have s2 := hb.size
        have p3 := (hb.cell (p := ⟨w.heap.size, 2, none⟩) (by show w.heap.size < w1.heap.size; omega)).trans p2
        have r3 := (hb.cell (p := ⟨w.heap.size + 1, 2, none⟩) (by show w.heap.size + 1 < w1.heap.size; omega)).trans r2
        clear hv hb p2 r2
        by_cases hjn : j < x.funs.length
        · have g1 : (0 : Int) ≤ (j : Int) := by omega
          have g2 : (j : Int) < (x.funs.length : Int) := by omega
          have B2 : Hid (Below w.heap.size w wr) := B1.out.trans (HB.out.mono B1.out.size)
          rcases (G2.out.keep (B2.out.mono HH.out)).both (K2.out.keep (B2.out.mono HH'.out)) HL2.out with h0 | ⟨b, off, b', off', rfl, rfl, t1, t2, h3, h4⟩
          · exfalso; omega
          obtain ⟨m0, c0', m4, c4, m5, c5, e0, e1, e2, e3, e4, e5, l0, l4, l5⟩ := h3 j hjn
          obtain ⟨n0, d0', n4, d4, n5, d5, f0, f1, f2, f3, f4, f5, k0, k4, k5⟩ := h4 j hjn
          clear h3 h4
          have M0 := hide l0
          have M4 := hide l4
          have M5 := hide l5
          have N0 := hide k0
          have N4 := hide k4
          have N5 := hide k5
          clear l0 l4 l5 k0 k4 k5
          have W1 : Hid (hi ≤ wr.heap.size) := Nat.le_trans HH.out B2.out.size
          have W2 : Hid (hi' ≤ wr.heap.size) := Nat.le_trans HH'.out B2.out.size
          have z1 : b < wr.heap.size := cell_lt e0
          have z2 : b' < wr.heap.size := cell_lt f0
          have z3 : w.heap.size < wr.heap.size := by omega
          have z4 : w.heap.size + 1 < wr.heap.size := by omega
          have z5 : b < wr.heap.size + 1 := by omega
          have z6 : b' < wr.heap.size + 1 := by omega
          have z7 : w.heap.size < wr.heap.size + 1 := by omega
          have z8 : w.heap.size + 1 < wr.heap.size + 1 := by omega
          by_cases h1 : (funAt' x.funs j).gives.kind = (funAt' y.funs j).gives.kind
          · rw [← h1] at f1
            by_cases h2 : (funAt' x.funs j).gives.of = (funAt' y.funs j).gives.of
            · rw [← h2] at f2
              by_cases h3 : (funAt' x.funs j).gives.mt = (funAt' y.funs j).gives.mt
              · rw [← h3] at f3
                have HD : Hid (fdSame (funAt' x.funs j).gives (funAt' y.funs j).gives = true) := by
                  show fdSame _ _ = true
                  simp [fdSame, h1, h2, h3]
                clear h1 h2 h3
                go_wp2_with fail
                refine (l3Fields_any m0 n0 c0' d0' lo hi lo' hi' (funAt' x.funs j).takes (funAt' y.funs j).takes _ (HX.out.2.2.2 j hjn).1 (HY.out.2.2.2 j (by rw [HL2.out]; exact hjn)).1 (M0.out.keep (Below.mono (by (repeat (first | refine Below.al ?_ (Nat.le_refl _) _ | exact Below.refl _ _))) W1.out)) (N0.out.keep (Below.mono (by (repeat (first | refine Below.al ?_ (Nat.le_refl _) _ | exact Below.refl _ _))) W2.out))).mono ?_
                rintro e v0 ⟨rfl, q5, hq5⟩
                have C0 : Hid (Below wr.heap.size wr v0) := by
                  show Below wr.heap.size wr v0
                  rw [hq5]
                  exact below_drewN (by (repeat (first | refine Below.al ?_ (Nat.le_refl _) _ | exact Below.refl _ _))) _
                have U0 : Hid (Rec v0 wr.heap.size 36 [.slice m0 (funAt' x.funs j).takes.length c0', .int .i64 (funAt' x.funs j).gives.kind, .int .i64 (funAt' x.funs j).gives.of, .bool (funAt' x.funs j).gives.mt, .slice m4 (funAt' x.funs j).own.length c4, .slice m5 (funAt' x.funs j).body.length c5]) := by
                  show Rec _ _ _ _
                  rw [hq5]
                  exact (Rec.new' _ _ _ _ rfl).alloc _
                have V0 : Hid (Rec v0 (wr.heap.size + 1) 36 [.slice n0 (funAt' y.funs j).takes.length d0', .int .i64 (funAt' x.funs j).gives.kind, .int .i64 (funAt' x.funs j).gives.of, .bool (funAt' x.funs j).gives.mt, .slice n4 (funAt' y.funs j).own.length d4, .slice n5 (funAt' y.funs j).body.length d5]) := by
                  show Rec _ _ _ _
                  rw [hq5]
                  exact Rec.new' _ _ _ _ (by simp)
                clear hq5
                have u4_0 := U0.out.cell (o := 4) rfl
                have v4_0 := V0.out.cell (o := 4) rfl
                have u5_0 := U0.out.cell (o := 5) rfl
                have v5_0 := V0.out.cell (o := 5) rfl
                by_cases k0 : fdsSame (funAt' x.funs j).takes (funAt' y.funs j).takes = true
                · rw [k0]
                  have KK0 := hide k0
                  clear k0
                  go_wp2_with fail
                  refine (l3Fields_any m4 n4 c4 d4 lo hi lo' hi' (funAt' x.funs j).own (funAt' y.funs j).own _ (HX.out.2.2.2 j hjn).2.1 (HY.out.2.2.2 j (by rw [HL2.out]; exact hjn)).2.1 (M4.out.keep (Below.mono C0.out W1.out)) (N4.out.keep (Below.mono C0.out W2.out))).mono ?_
                  rintro e v1 ⟨rfl, q6, hq6⟩
                  have C1 : Hid (Below wr.heap.size wr v1) := by
                    show Below wr.heap.size wr v1
                    rw [hq6]
                    exact below_drewN C0.out _
                  have U1 : Hid (Rec v1 wr.heap.size 36 [.slice m0 (funAt' x.funs j).takes.length c0', .int .i64 (funAt' x.funs j).gives.kind, .int .i64 (funAt' x.funs j).gives.of, .bool (funAt' x.funs j).gives.mt, .slice m4 (funAt' x.funs j).own.length c4, .slice m5 (funAt' x.funs j).body.length c5]) := by
                    show Rec _ _ _ _
                    rw [hq6]
                    exact U0.out
                  have V1 : Hid (Rec v1 (wr.heap.size + 1) 36 [.slice n0 (funAt' y.funs j).takes.length d0', .int .i64 (funAt' x.funs j).gives.kind, .int .i64 (funAt' x.funs j).gives.of, .bool (funAt' x.funs j).gives.mt, .slice n4 (funAt' y.funs j).own.length d4, .slice n5 (funAt' y.funs j).body.length d5]) := by
                    show Rec _ _ _ _
                    rw [hq6]
                    exact V0.out
                  clear hq6
                  have u5_1 := U1.out.cell (o := 5) rfl
                  have v5_1 := V1.out.cell (o := 5) rfl
                  by_cases k1 : fdsSame (funAt' x.funs j).own (funAt' y.funs j).own = true
                  · rw [k1]
                    have KK1 := hide k1
                    clear k1
                    go_wp2_with fail
                    refine (l3Body_any m5 n5 c5 d5 lo hi lo' hi' (funAt' x.funs j).body (funAt' y.funs j).body _ (HX.out.2.2.2 j hjn).2.2 (HY.out.2.2.2 j (by rw [HL2.out]; exact hjn)).2.2 (M5.out.keep (Below.mono C1.out W1.out)) (N5.out.keep (Below.mono C1.out W2.out))).mono ?_
                    rintro e v2 ⟨rfl, q7, hq7⟩
                    have C2 : Hid (Below wr.heap.size wr v2) := by
                      show Below wr.heap.size wr v2
                      rw [hq7]
                      exact below_drewN C1.out _
                    have U2 : Hid (Rec v2 wr.heap.size 36 [.slice m0 (funAt' x.funs j).takes.length c0', .int .i64 (funAt' x.funs j).gives.kind, .int .i64 (funAt' x.funs j).gives.of, .bool (funAt' x.funs j).gives.mt, .slice m4 (funAt' x.funs j).own.length c4, .slice m5 (funAt' x.funs j).body.length c5]) := by
                      show Rec _ _ _ _
                      rw [hq7]
                      exact U1.out
                    have V2 : Hid (Rec v2 (wr.heap.size + 1) 36 [.slice n0 (funAt' y.funs j).takes.length d0', .int .i64 (funAt' x.funs j).gives.kind, .int .i64 (funAt' x.funs j).gives.of, .bool (funAt' x.funs j).gives.mt, .slice n4 (funAt' y.funs j).own.length d4, .slice n5 (funAt' y.funs j).body.length d5]) := by
                      show Rec _ _ _ _
                      rw [hq7]
                      exact V1.out
                    clear hq7
                    by_cases k2 : inssSame (funAt' x.funs j).body (funAt' y.funs j).body = true
                    · rw [k2]
                      have KK2 := hide k2
                      clear k2
                      go_wp2_with fail
                      have HS : funSame (funAt' x.funs j) (funAt' y.funs j) = true := by simp [funSame, HD.out, KK0.out, KK1.out, KK2.out]
                      exact ⟨⟨j + 1, by omega, by go_num, upTo_step HV.out HS, HB.out.trans (C2.out.mono s2)⟩, by simp [intOf]; omega⟩
                    · have k' : inssSame (funAt' x.funs j).body (funAt' y.funs j).body = false := by simpa using k2
                      rw [k']
                      have HF : Hid (progSame x y = false) := by
                        show progSame x y = false
                        rw [HN.out, upTo_false (P := fun i => funSame (funAt' x.funs i) (funAt' y.funs i)) hjn (by simp [funSame, k'])]; simp
                      clear k' k2
                      go_wp2_with fail
                      go_ret
                      exact ⟨ret_bool HF.out.symm, B2.out.trans (C2.out.mono B2.out.size)⟩
                  · have k' : fdsSame (funAt' x.funs j).own (funAt' y.funs j).own = false := by simpa using k1
                    rw [k']
                    have HF : Hid (progSame x y = false) := by
                      show progSame x y = false
                      rw [HN.out, upTo_false (P := fun i => funSame (funAt' x.funs i) (funAt' y.funs i)) hjn (by simp [funSame, k'])]; simp
                    clear k' k1
                    go_wp2_with fail
                    go_ret
                    exact ⟨ret_bool HF.out.symm, B2.out.trans (C1.out.mono B2.out.size)⟩
                · have k' : fdsSame (funAt' x.funs j).takes (funAt' y.funs j).takes = false := by simpa using k0
                  rw [k']
                  have HF : Hid (progSame x y = false) := by
                    show progSame x y = false
                    rw [HN.out, upTo_false (P := fun i => funSame (funAt' x.funs i) (funAt' y.funs i)) hjn (by simp [funSame, k'])]; simp
                  clear k' k0
                  go_wp2_with fail
                  go_ret
                  exact ⟨ret_bool HF.out.symm, B2.out.trans (C0.out.mono B2.out.size)⟩
              · have HF : Hid (progSame x y = false) := by
                  show progSame x y = false
                  rw [HN.out, upTo_false (P := fun i => funSame (funAt' x.funs i) (funAt' y.funs i)) hjn (by simp [funSame, fdSame, h3])]; simp
                clear h1 h2
                go_wp2_with fail
                go_ret
                exact ⟨ret_bool HF.out.symm, B2.out.trans (Below.mono (by (repeat (first | refine Below.al ?_ (Nat.le_refl _) _ | exact Below.refl _ _))) B2.out.size)⟩
            · have HF : Hid (progSame x y = false) := by
                show progSame x y = false
                rw [HN.out, upTo_false (P := fun i => funSame (funAt' x.funs i) (funAt' y.funs i)) hjn (by simp [funSame, fdSame, h2])]; simp
              clear h1
              go_wp2_with fail
              go_ret
              exact ⟨ret_bool HF.out.symm, B2.out.trans (Below.mono (by (repeat (first | refine Below.al ?_ (Nat.le_refl _) _ | exact Below.refl _ _))) B2.out.size)⟩
          · have HF : Hid (progSame x y = false) := by
              show progSame x y = false
              rw [HN.out, upTo_false (P := fun i => funSame (funAt' x.funs i) (funAt' y.funs i)) hjn (by simp [funSame, fdSame, h1])]; simp
            go_wp2_with fail
            go_ret
            exact ⟨ret_bool HF.out.symm, B2.out.trans (Below.mono (by (repeat (first | refine Below.al ?_ (Nat.le_refl _) _ | exact Below.refl _ _))) B2.out.size)⟩
        · have hjn' : Hid (j = x.funs.length) := Nat.le_antisymm hj (Nat.le_of_not_lt hjn)
          have HW : Hid (progSame x y = true) := by
            show progSame x y = true
            rw [HN.out, HT.out, ← hjn'.out, HV.out]; rfl
          go_wp2_with fail
          go_ret
          exact ⟨ret_bool HW.out.symm, B1.out.trans (HB.out.mono B1.out.size)⟩
end Go.Proofs.YtblliefejffhoaaGreatDoor

/- ProgSame of the model, of any two programs. -/
namespace Go.Proofs.YtblliefejffhoaaGreatDoor
open Go.ChangeShapes Go.WideShapes Go.ChangeAt Go.RowKit Go.Joins Go.Deep
set_option linter.unusedVariables false

set_option maxHeartbeats 800000 in
theorem specProgSame_types (a0 a1 a2 b0 b1 b2 : Option Addr) (c0 c1 c2 d0 d1 d2 n0 n1 n2 m0 m1 m2 : Nat) (w : World) (h0 : n0 ≤ 1048576) (h1 : m0 ≤ 1048576) (hne : ¬ n0 = m0) :
    Calls Tryz.prog 13 #[.agg #[.slice a0 n0 c0, .slice a1 n1 c1, .slice a2 n2 c2], .agg #[.slice b0 m0 d0, .slice b1 m1 d1, .slice b2 m2 d2]] w fun e w' => e = .returned (.bool false) ∧ Below w.heap.size w w' := by
  have e1 : ((n0 : Int) != (m0 : Int)) = true := by simp; omega
  have e2 : ¬ ((n0 : Int) = (m0 : Int)) := by omega
  clear hne
  go_enter Tryz.func13, Tryz.ntmps13
  go_wp2_with fail
  go_ret
  exact ⟨rfl, by (repeat (first | refine Below.al ?_ (Nat.le_refl _) _ | exact Below.refl _ _))⟩

set_option maxHeartbeats 800000 in
theorem specProgSame_funs (a0 a1 a2 b0 b1 b2 : Option Addr) (c0 c1 c2 d0 d1 d2 n0 n1 n2 m1 m2 : Nat) (w : World) (h0 : n0 ≤ 1048576) (h1 : n2 ≤ 1048576) (h2 : m2 ≤ 1048576) (hne : ¬ n2 = m2) :
    Calls Tryz.prog 13 #[.agg #[.slice a0 n0 c0, .slice a1 n1 c1, .slice a2 n2 c2], .agg #[.slice b0 n0 d0, .slice b1 m1 d1, .slice b2 m2 d2]] w fun e w' => e = .returned (.bool false) ∧ Below w.heap.size w w' := by
  have e1 : ((n2 : Int) != (m2 : Int)) = true := by simp; omega
  have e2 : ¬ ((n2 : Int) = (m2 : Int)) := by omega
  clear hne
  go_enter Tryz.func13, Tryz.ntmps13
  go_wp2_with fail
  go_ret
  exact ⟨rfl, by (repeat (first | refine Below.al ?_ (Nat.le_refl _) _ | exact Below.refl _ _))⟩

set_option maxHeartbeats 800000 in
theorem specProgSame_glob {md md' : Bool} (a0 a1 a2 b0 b1 b2 : Option Addr) (c0 c1 c2 d0 d1 d2 n0 n2 lo hi lo' hi' : Nat) (xs ys : List Fd) (w : World) (h0 : n0 ≤ 1048576) (h2 : n2 ≤ 1048576) (hx : xs.length ≤ 1048576) (hy : ys.length ≤ 1048576)
    (g1 : FieldsM md w lo hi a1 xs) (k1 : FieldsM md' w lo' hi' b1 ys) (hh : hi ≤ w.heap.size) (hh' : hi' ≤ w.heap.size) (hg : fdsSame xs ys = false) :
    Calls Tryz.prog 13 #[.agg #[.slice a0 n0 c0, .slice a1 xs.length c1, .slice a2 n2 c2], .agg #[.slice b0 n0 d0, .slice b1 ys.length d1, .slice b2 n2 d2]] w fun e w' => e = .returned (.bool false) ∧ Below w.heap.size w w' := by
  have HG := hide hg
  have G1 := hide g1
  have K1 := hide k1
  clear hg g1 k1
  go_enter Tryz.func13, Tryz.ntmps13
  go_wp2_with fail
  refine (l3Fields_any a1 b1 c1 d1 lo hi lo' hi' xs ys _ hx hy (G1.out.keep (Below.mono (by (repeat (first | refine Below.al ?_ (Nat.le_refl _) _ | exact Below.refl _ _))) hh)) (K1.out.keep (Below.mono (by (repeat (first | refine Below.al ?_ (Nat.le_refl _) _ | exact Below.refl _ _))) hh'))).mono ?_
  rintro e w1 ⟨rfl, q0, rfl⟩
  rw [HG.out]
  go_wp2_with fail
  go_ret
  exact ⟨rfl, below_drewN (by (repeat (first | refine Below.al ?_ (Nat.le_refl _) _ | exact Below.refl _ _))) _⟩

theorem specProgSame_any {md md' : Bool} (a0 a1 a2 b0 b1 b2 : Option Addr) (c0 c1 c2 d0 d1 d2 lo hi lo' hi' : Nat) (x y : GProg) (w : World) (hx : ProgB 1048576 x) (hy : ProgB 1048576 y)
    (g0 : GroupsM md w lo hi a0 x.types) (g1 : FieldsM md w lo hi a1 x.glob) (g2 : FunsM md w lo hi a2 x.funs) (k0 : GroupsM md' w lo' hi' b0 y.types) (k1 : FieldsM md' w lo' hi' b1 y.glob) (k2 : FunsM md' w lo' hi' b2 y.funs) (hh : hi ≤ w.heap.size) (hh' : hi' ≤ w.heap.size) :
    Calls Tryz.prog 13 #[.agg #[.slice a0 x.types.length c0, .slice a1 x.glob.length c1, .slice a2 x.funs.length c2], .agg #[.slice b0 y.types.length d0, .slice b1 y.glob.length d1, .slice b2 y.funs.length d2]] w fun e w' => e = .returned (.bool (progSame x y)) ∧ Below w.heap.size w w' := by
  by_cases h0 : x.types.length = y.types.length
  · by_cases h2 : x.funs.length = y.funs.length
    · by_cases hg : fdsSame x.glob y.glob = true
      · exact specProgSame_eq a0 a1 a2 b0 b1 b2 c0 c1 c2 d0 d1 d2 lo hi lo' hi' x y w hx hy g0 g1 g2 k0 k1 k2 hh hh' h0.symm h2.symm hg
      · have hg' : fdsSame x.glob y.glob = false := by simpa using hg
        rw [show progSame x y = false by simp [progSame, hg'], ← h0, ← h2]
        exact specProgSame_glob a0 a1 a2 b0 b1 b2 c0 c1 c2 d0 d1 d2 _ _ lo hi lo' hi' x.glob y.glob w hx.1.1 hx.2.2.1 hx.2.1 hy.2.1 g1 k1 hh hh' hg'
    · rw [show progSame x y = false by simp [progSame, funsSame, h2], ← h0]
      exact specProgSame_funs a0 a1 a2 b0 b1 b2 c0 c1 c2 d0 d1 d2 _ _ _ _ _ w hx.1.1 hx.2.2.1 hy.2.2.1 h2
  · rw [show progSame x y = false by simp [progSame, grsSame, h0]]
    exact specProgSame_types a0 a1 a2 b0 b1 b2 c0 c1 c2 d0 d1 d2 _ _ _ _ _ _ w hx.1.1 hy.1.1 h0

/-- progTypeSame, of any two types. -/
theorem tySame_false {s t : Ty} (h : ¬ (s.kind = t.kind ∧ s.up = t.up ∧ s.last = t.last)) : tySame s t = false := by
  cases hs : tySame s t
  · rfl
  · exfalso
    simp [tySame] at hs
    exact h ⟨hs.1, hs.2.1, hs.2.2.1⟩
set_option maxHeartbeats 800000 in
theorem progTypeSame_any (fa fb : Option Addr) (fc fd lo hi lo' hi' : Nat) (s t : Ty) (w : World) (hs : s.fields.length ≤ 1048576) (ht : t.fields.length ≤ 1048576) (g : FieldsIn w lo hi fa s.fields) (k : FieldsIn w lo' hi' fb t.fields) (hh : hi ≤ w.heap.size) (hh' : hi' ≤ w.heap.size) :
    Calls Tryz.prog 71 #[.agg #[.int .i64 s.kind, .int .i64 s.up, .bool s.last, .slice fa s.fields.length fc], .agg #[.int .i64 t.kind, .int .i64 t.up, .bool t.last, .slice fb t.fields.length fd]] w fun e w' => e = .returned (.bool (tySame s t)) ∧ Below w.heap.size w w' := by
  by_cases h1 : s.kind = t.kind ∧ s.up = t.up ∧ s.last = t.last
  · obtain ⟨h1, h2, h3⟩ := h1
    have HE : Hid (tySame s t = fdsSame s.fields t.fields) := by
      show tySame s t = _
      simp [tySame, h1, h2, h3]
    rw [← h1, ← h2, ← h3]
    have G : Hid (FieldsM false w lo hi fa s.fields) := ⟨g, fun e => by cases e⟩
    have K : Hid (FieldsM false w lo' hi' fb t.fields) := ⟨k, fun e => by cases e⟩
    clear h1 h2 h3 g k
    go_enter Tryz.func71, Tryz.ntmps71
    go_wp2_with fail
    refine (slicesEqualFd_any fa fb fc fd lo hi lo' hi' s.fields t.fields _ hs ht (G.out.keep (Below.mono (by (repeat (first | refine Below.al ?_ (Nat.le_refl _) _ | exact Below.refl _ _))) hh)) (K.out.keep (Below.mono (by (repeat (first | refine Below.al ?_ (Nat.le_refl _) _ | exact Below.refl _ _))) hh'))).mono ?_
    rintro e w1 ⟨rfl, q, rfl⟩
    go_wp2_with fail
    go_ret
    exact ⟨ret_bool HE.out.symm, below_drewN (by (repeat (first | refine Below.al ?_ (Nat.le_refl _) _ | exact Below.refl _ _))) _⟩
  · rw [tySame_false h1]
    by_cases h2 : s.kind = t.kind
    · by_cases h3 : s.up = t.up
      · have h4 : ¬ s.last = t.last := fun h => h1 ⟨h2, h3, h⟩
        rw [← h2, ← h3]
        clear h1 h2 h3 g k
        go_enter Tryz.func71, Tryz.ntmps71
        go_wp2_with fail
        go_ret
        exact ⟨rfl, by (repeat (first | refine Below.al ?_ (Nat.le_refl _) _ | exact Below.refl _ _))⟩
      · rw [← h2]
        clear h1 h2 g k
        go_enter Tryz.func71, Tryz.ntmps71
        go_wp2_with fail
        go_ret
        exact ⟨rfl, by (repeat (first | refine Below.al ?_ (Nat.le_refl _) _ | exact Below.refl _ _))⟩
    · clear h1 g k
      go_enter Tryz.func71, Tryz.ntmps71
      go_wp2_with fail
      go_ret
      exact ⟨rfl, by (repeat (first | refine Below.al ?_ (Nat.le_refl _) _ | exact Below.refl _ _))⟩
end Go.Proofs.YtblliefejffhoaaGreatDoor

/- The program's side of ProgSame: EqualFunc over groups, types and functions. -/
namespace Go.Proofs.YtblliefejffhoaaGreatDoor
open Go.ChangeShapes Go.WideShapes Go.ChangeAt Go.RowKit Go.Joins Go.Deep
set_option linter.unusedVariables false

set_option maxHeartbeats 1600000 in
theorem eqFuncTypes_core (a a' : Option Addr) (cap cap' n lo hi lo' hi' : Nat) (F G : Nat → Ty) (w : World) (hn : n ≤ 1048576) (hF : ∀ i, i < n → (F i).fields.length ≤ 1048576) (hG : ∀ i, i < n → (G i).fields.length ≤ 1048576) (hh : hi ≤ w.heap.size) (hh' : hi' ≤ w.heap.size)
    (hx : n ≤ 0 ∨ ∃ b off b' off', a = some ⟨b, off, none⟩ ∧ a' = some ⟨b', off', none⟩ ∧ (lo ≤ b ∧ b < hi) ∧ (lo' ≤ b' ∧ b' < hi') ∧ (∀ i, i < n → TypeAt w lo hi b (off + i * 4) (F i)) ∧ (∀ i, i < n → TypeAt w lo' hi' b' (off' + i * 4) (G i))) :
    Calls Tryz.prog 70 #[.slice a n cap, .slice a' n cap', .func (.func 71) #[] #[]] w fun e w' => e = .returned (.bool (upTo (fun i => tySame (F i) (G i)) n)) ∧ Below w.heap.size w w' := by
  have HLF := hide hF
  have HLG := hide hG
  clear hF hG
  rcases hx with h0 | ⟨b, off, b', off', rfl, rfl, t1, t2, h3, h4⟩
  all_goals
    go_enter Tryz.func70, Tryz.ntmps70
    go_wp2_with fail
    go_loopw [17] (fun i wr => ∃ k : Nat, k ≤ n ∧ i = .int .i64 k ∧ upTo (fun i => tySame (F i) (G i)) k = true ∧ Below w.heap.size w wr) (fun i wr => n - (intOf i).toNat)
    case atStart => exact ⟨0, Nat.zero_le _, rfl, rfl, Below.refl _ _⟩
    case round =>
      obtain ⟨k, hk, rfl, hu, hb⟩ := hrel
      have HU := hide hu
      have HB := hide hb
      have sb := hb.size
      clear hu
      by_cases hlt : k < n
      · first
        | (exfalso; omega)
        | (have g1 : (0 : Int) ≤ (k : Int) := by omega
           have g2 : (k : Int) < (n : Int) := by omega
           have x1 := (h3 k hlt).same (.of_below (hb.mono hh) (Nat.le_refl _)) (Nat.le_refl _) (Nat.le_refl _) t1.1 t1.2
           have x2 := (h4 k hlt).same (.of_below (hb.mono hh') (Nat.le_refl _)) (Nat.le_refl _) (Nat.le_refl _) t2.1 t2.2
           obtain ⟨c0, c1, c2, fa, fc, c3, c4⟩ := x1
           obtain ⟨d0, d1, d2, fb, fd, d3, d4⟩ := x2
           have C4 := hide c4
           have D4 := hide d4
           clear c4 d4
           have z1 : b < wr.heap.size := by omega
           have z2 : b' < wr.heap.size := by omega
           have z3 : b < wr.heap.size + 1 := by omega
           have z4 : b' < wr.heap.size + 1 := by omega
           clear h3 h4 hb
           go_wp2_with fail
           refine (progTypeSame_any fa fb fc fd lo hi lo' hi' (F k) (G k) _ (HLF.out k hlt) (HLG.out k hlt) (C4.out.keep (Below.mono (by (repeat (first | refine Below.al ?_ (Nat.le_refl _) _ | exact Below.refl _ _))) (Nat.le_trans hh sb))) (D4.out.keep (Below.mono (by (repeat (first | refine Below.al ?_ (Nat.le_refl _) _ | exact Below.refl _ _))) (Nat.le_trans hh' sb))) (by go_size) (by go_size)).mono ?_
           rintro e v ⟨rfl, hb1⟩
           have HC : Hid (Below wr.heap.size wr v) := by
             refine Below.trans ?_ (hb1.mono (by go_size))
             (repeat (first | refine Below.al ?_ (Nat.le_refl _) _ | exact Below.refl _ _))
           clear hb1
           by_cases hs : tySame (F k) (G k) = true
           · rw [hs]
             have HS := hide hs
             clear hs
             go_wp2_with fail
             exact ⟨⟨k + 1, by omega, by go_num, upTo_step HU.out HS.out, HB.out.trans (HC.out.mono sb)⟩, by simp [intOf]; omega⟩
           · have hs' : tySame (F k) (G k) = false := by simpa using hs
             rw [hs']
             have HF : Hid (upTo (fun i => tySame (F i) (G i)) n = false) := upTo_false hlt hs'
             clear hs hs'
             go_wp2_with fail
             go_ret
             exact ⟨ret_bool HF.out.symm, HB.out.trans (HC.out.mono sb)⟩)
      · have hkn : Hid (k = n) := Nat.le_antisymm hk (Nat.le_of_not_lt hlt)
        clear hb
        go_wp2_with fail
        go_ret
        exact ⟨ret_bool (hkn.out ▸ HU.out).symm, HB.out⟩

set_option maxHeartbeats 400000 in
theorem eqFuncTypes_short (a a' : Option Addr) (cap cap' n m : Nat) (w : World) (hn : n ≤ 1048576) (hm : m ≤ 1048576) (hne : ¬ n = m) :
    Calls Tryz.prog 70 #[.slice a n cap, .slice a' m cap', .func (.func 71) #[] #[]] w fun e w' => e = .returned (.bool false) ∧ Below w.heap.size w w' := by
  have hb : ((n : Int) == (m : Int)) = false := by simp; omega
  have hd : ¬ ((n : Int) = (m : Int)) := by omega
  clear hne
  go_enter Tryz.func70, Tryz.ntmps70
  go_wp2_with fail
  go_ret
  exact ⟨rfl, Below.refl _ _⟩

theorem eqFuncTypes_any (a a' : Option Addr) (cap cap' lo hi lo' hi' : Nat) (xs ys : List Ty) (w : World) (hn : xs.length ≤ 1048576) (hm : ys.length ≤ 1048576) (hF : ∀ i, i < xs.length → (tyAt xs i).fields.length ≤ 1048576) (hG : ∀ i, i < ys.length → (tyAt ys i).fields.length ≤ 1048576) (hx : TypesIn w lo hi a xs) (hy : TypesIn w lo' hi' a' ys) (hh : hi ≤ w.heap.size) (hh' : hi' ≤ w.heap.size) :
    Calls Tryz.prog 70 #[.slice a xs.length cap, .slice a' ys.length cap', .func (.func 71) #[] #[]] w fun e w' => e = .returned (.bool (tysSame xs ys)) ∧ Below w.heap.size w w' := by
  by_cases hl : xs.length = ys.length
  · have e : tysSame xs ys = upTo (fun i => tySame (tyAt xs i) (tyAt ys i)) xs.length := by simp [tysSame, hl]
    rw [e, ← hl]
    refine eqFuncTypes_core a a' cap cap' xs.length lo hi lo' hi' (tyAt xs) (tyAt ys) w hn hF (fun i hi => hG i (by omega)) hh hh' ?_
    rcases hx with rfl | ⟨b, off, rfl, h1, h2, h3⟩
    · exact .inl (Nat.le_refl _)
    · rcases hy with rfl | ⟨b', off', rfl, h1', h2', h3'⟩
      · exact .inl (by rw [hl]; exact Nat.le_refl _)
      · exact .inr ⟨b, off, b', off', rfl, rfl, ⟨h1, h2⟩, ⟨h1', h2'⟩, h3, fun i hi => h3' i (by omega)⟩
  · have e : tysSame xs ys = false := by simp [tysSame, hl]
    rw [e]
    exact eqFuncTypes_short a a' cap cap' _ _ w hn hm hl

set_option maxHeartbeats 400000 in
theorem progGroupSame_any (a a' : Option Addr) (cap cap' lo hi lo' hi' : Nat) (xs ys : List Ty) (w : World) (hn : xs.length ≤ 1048576) (hm : ys.length ≤ 1048576) (hF : ∀ i, i < xs.length → (tyAt xs i).fields.length ≤ 1048576) (hG : ∀ i, i < ys.length → (tyAt ys i).fields.length ≤ 1048576) (hx : TypesIn w lo hi a xs) (hy : TypesIn w lo' hi' a' ys) (hh : hi ≤ w.heap.size) (hh' : hi' ≤ w.heap.size) :
    Calls Tryz.prog 34 #[.slice a xs.length cap, .slice a' ys.length cap'] w fun e w' => e = .returned (.bool (tysSame xs ys)) ∧ Below w.heap.size w w' := by
  have HF := hide hF
  have HG := hide hG
  have HX := hide hx
  have HY := hide hy
  clear hF hG hx hy
  go_enter Tryz.func34, Tryz.ntmps34
  go_wp2_with fail
  refine (eqFuncTypes_any a a' cap cap' lo hi lo' hi' xs ys _ hn hm HF.out HG.out HX.out HY.out hh hh').mono ?_
  rintro e w1 ⟨rfl, hb⟩
  go_wp2_with fail
  go_ret
  exact ⟨rfl, hb⟩

theorem GroupAt.same {lo hi lo' hi' : Nat} {w w' : World} {b o : Nat} {g : List Ty} (h : GroupAt w lo hi b o g) (hs : Same lo hi w w') (h1 : lo' ≤ lo) (h2 : hi ≤ hi') (h3 : lo ≤ b) (h4 : b < hi) : GroupAt w' lo' hi' b o g := by
  obtain ⟨ta, tc, hc, ht⟩ := h
  exact ⟨ta, tc, (hs.cell h3 h4).trans hc, ht.same hs h1 h2⟩

set_option maxHeartbeats 1600000 in
theorem eqFuncGroups_core (a a' : Option Addr) (cap cap' n lo hi lo' hi' : Nat) (F G : Nat → List Ty) (w : World) (hn : n ≤ 1048576) (hF : ∀ i, i < n → (F i).length ≤ 1048576 ∧ ∀ j, j < (F i).length → (tyAt (F i) j).fields.length ≤ 1048576) (hG : ∀ i, i < n → (G i).length ≤ 1048576 ∧ ∀ j, j < (G i).length → (tyAt (G i) j).fields.length ≤ 1048576) (hh : hi ≤ w.heap.size) (hh' : hi' ≤ w.heap.size)
    (hx : n ≤ 0 ∨ ∃ b off b' off', a = some ⟨b, off, none⟩ ∧ a' = some ⟨b', off', none⟩ ∧ (lo ≤ b ∧ b < hi) ∧ (lo' ≤ b' ∧ b' < hi') ∧ (∀ i, i < n → GroupAt w lo hi b (off + i) (F i)) ∧ (∀ i, i < n → GroupAt w lo' hi' b' (off' + i) (G i))) :
    Calls Tryz.prog 33 #[.slice a n cap, .slice a' n cap', .func (.func 34) #[] #[]] w fun e w' => e = .returned (.bool (upTo (fun i => tysSame (F i) (G i)) n)) ∧ Below w.heap.size w w' := by
  have HLF := hide hF
  have HLG := hide hG
  clear hF hG
  rcases hx with h0 | ⟨b, off, b', off', rfl, rfl, t1, t2, h3, h4⟩
  all_goals
    go_enter Tryz.func33, Tryz.ntmps33
    go_wp2_with fail
    go_loopw [17] (fun i wr => ∃ k : Nat, k ≤ n ∧ i = .int .i64 k ∧ upTo (fun i => tysSame (F i) (G i)) k = true ∧ Below w.heap.size w wr) (fun i wr => n - (intOf i).toNat)
    case atStart => exact ⟨0, Nat.zero_le _, rfl, rfl, Below.refl _ _⟩
    case round =>
      obtain ⟨k, hk, rfl, hu, hb⟩ := hrel
      have HU := hide hu
      have HB := hide hb
      have sb := hb.size
      clear hu
      by_cases hlt : k < n
      · first
        | (exfalso; omega)
        | (have g1 : (0 : Int) ≤ (k : Int) := by omega
           have g2 : (k : Int) < (n : Int) := by omega
           have x1 := (h3 k hlt).same (.of_below (hb.mono hh) (Nat.le_refl _)) (Nat.le_refl _) (Nat.le_refl _) t1.1 t1.2
           have x2 := (h4 k hlt).same (.of_below (hb.mono hh') (Nat.le_refl _)) (Nat.le_refl _) (Nat.le_refl _) t2.1 t2.2
           obtain ⟨fa, fc, c3, c4⟩ := x1
           obtain ⟨fb, fd, d3, d4⟩ := x2
           have C4 := hide c4
           have D4 := hide d4
           clear c4 d4
           have z1 : b < wr.heap.size := by omega
           have z2 : b' < wr.heap.size := by omega
           have z3 : b < wr.heap.size + 1 := by omega
           have z4 : b' < wr.heap.size + 1 := by omega
           clear h3 h4 hb
           go_wp2_with fail
           refine (progGroupSame_any fa fb fc fd lo hi lo' hi' (F k) (G k) _ (HLF.out k hlt).1 (HLG.out k hlt).1 (HLF.out k hlt).2 (HLG.out k hlt).2 (C4.out.keep (Below.mono (by (repeat (first | refine Below.al ?_ (Nat.le_refl _) _ | exact Below.refl _ _))) (Nat.le_trans hh sb))) (D4.out.keep (Below.mono (by (repeat (first | refine Below.al ?_ (Nat.le_refl _) _ | exact Below.refl _ _))) (Nat.le_trans hh' sb))) (by go_size) (by go_size)).mono ?_
           rintro e v ⟨rfl, hb1⟩
           have HC : Hid (Below wr.heap.size wr v) := by
             refine Below.trans ?_ (hb1.mono (by go_size))
             (repeat (first | refine Below.al ?_ (Nat.le_refl _) _ | exact Below.refl _ _))
           clear hb1
           by_cases hs : tysSame (F k) (G k) = true
           · rw [hs]
             have HS := hide hs
             clear hs
             go_wp2_with fail
             exact ⟨⟨k + 1, by omega, by go_num, upTo_step HU.out HS.out, HB.out.trans (HC.out.mono sb)⟩, by simp [intOf]; omega⟩
           · have hs' : tysSame (F k) (G k) = false := by simpa using hs
             rw [hs']
             have HF : Hid (upTo (fun i => tysSame (F i) (G i)) n = false) := upTo_false hlt hs'
             clear hs hs'
             go_wp2_with fail
             go_ret
             exact ⟨ret_bool HF.out.symm, HB.out.trans (HC.out.mono sb)⟩)
      · have hkn : Hid (k = n) := Nat.le_antisymm hk (Nat.le_of_not_lt hlt)
        clear hb
        go_wp2_with fail
        go_ret
        exact ⟨ret_bool (hkn.out ▸ HU.out).symm, HB.out⟩

set_option maxHeartbeats 400000 in
theorem eqFuncGroups_short (a a' : Option Addr) (cap cap' n m : Nat) (w : World) (hn : n ≤ 1048576) (hm : m ≤ 1048576) (hne : ¬ n = m) :
    Calls Tryz.prog 33 #[.slice a n cap, .slice a' m cap', .func (.func 34) #[] #[]] w fun e w' => e = .returned (.bool false) ∧ Below w.heap.size w w' := by
  have hb : ((n : Int) == (m : Int)) = false := by simp; omega
  have hd : ¬ ((n : Int) = (m : Int)) := by omega
  clear hne
  go_enter Tryz.func33, Tryz.ntmps33
  go_wp2_with fail
  go_ret
  exact ⟨rfl, Below.refl _ _⟩
end Go.Proofs.YtblliefejffhoaaGreatDoor

/- The program's side of ProgSame: functions, and the whole. -/
namespace Go.Proofs.YtblliefejffhoaaGreatDoor
open Go.ChangeShapes Go.WideShapes Go.ChangeAt Go.RowKit Go.Joins Go.Deep
set_option linter.unusedVariables false

set_option maxHeartbeats 1600000 in
theorem progFunSame_any {md md' : Bool} (m0 m4 m5 n0 n4 n5 : Option Addr) (c0 c4 c5 d0 d4 d5 lo hi lo' hi' : Nat) (x y : GFun) (w : World) (hx : FunB 1048576 x) (hy : FunB 1048576 y)
    (l0 : FieldsM md w lo hi m0 x.takes) (l4 : FieldsM md w lo hi m4 x.own) (l5 : InssM md w lo hi m5 x.body) (k0 : FieldsM md' w lo' hi' n0 y.takes) (k4 : FieldsM md' w lo' hi' n4 y.own) (k5 : InssM md' w lo' hi' n5 y.body) (hh : hi ≤ w.heap.size) (hh' : hi' ≤ w.heap.size) :
    Calls Tryz.prog 37 #[.agg #[.slice m0 x.takes.length c0, .int .i64 x.gives.kind, .int .i64 x.gives.of, .bool x.gives.mt, .slice m4 x.own.length c4, .slice m5 x.body.length c5], .agg #[.slice n0 y.takes.length d0, .int .i64 y.gives.kind, .int .i64 y.gives.of, .bool y.gives.mt, .slice n4 y.own.length d4, .slice n5 y.body.length d5]] w fun e w' => e = .returned (.bool (funSame x y)) ∧ Below w.heap.size w w' := by
  have HX := hide hx
  have HY := hide hy
  have M0 := hide l0
  have M4 := hide l4
  have M5 := hide l5
  have N0 := hide k0
  have N4 := hide k4
  have N5 := hide k5
  clear hx hy l0 l4 l5 k0 k4 k5
  by_cases h1 : x.gives.kind = y.gives.kind
  · rw [← h1]
    by_cases h2 : x.gives.of = y.gives.of
    · rw [← h2]
      by_cases h3 : x.gives.mt = y.gives.mt
      · rw [← h3]
        have HD : Hid (funSame x y = (fdsSame x.takes y.takes && (fdsSame x.own y.own && inssSame x.body y.body))) := by
          show funSame x y = _
          simp [funSame, fdSame, h1, h2, h3]
        clear h1 h2 h3
        go_enter Tryz.func37, Tryz.ntmps37
        go_wp2_with fail
        refine (slicesEqualFd_any m0 n0 c0 d0 lo hi lo' hi' x.takes y.takes _ HX.out.1 HY.out.1 (M0.out.keep (Below.mono (by (repeat (first | refine Below.al ?_ (Nat.le_refl _) _ | exact Below.refl _ _))) hh)) (N0.out.keep (Below.mono (by (repeat (first | refine Below.al ?_ (Nat.le_refl _) _ | exact Below.refl _ _))) hh'))).mono ?_
        rintro e v0 ⟨rfl, q0, hq0⟩
        have C0 : Hid (Below w.heap.size w v0) := by
          show Below w.heap.size w v0
          rw [hq0]
          exact below_drewN (by (repeat (first | refine Below.al ?_ (Nat.le_refl _) _ | exact Below.refl _ _))) _
        have U0 : Hid (Rec v0 w.heap.size 36 [.slice m0 x.takes.length c0, .int .i64 x.gives.kind, .int .i64 x.gives.of, .bool x.gives.mt, .slice m4 x.own.length c4, .slice m5 x.body.length c5]) := by
          show Rec _ _ _ _
          rw [hq0]
          exact (Rec.new' _ _ _ _ rfl).alloc _
        have V0 : Hid (Rec v0 (w.heap.size + 1) 36 [.slice n0 y.takes.length d0, .int .i64 x.gives.kind, .int .i64 x.gives.of, .bool x.gives.mt, .slice n4 y.own.length d4, .slice n5 y.body.length d5]) := by
          show Rec _ _ _ _
          rw [hq0]
          exact Rec.new' _ _ _ _ (by simp)
        have u4_0 := U0.out.cell (o := 4) rfl
        have v4_0 := V0.out.cell (o := 4) rfl
        have u5_0 := U0.out.cell (o := 5) rfl
        have v5_0 := V0.out.cell (o := 5) rfl
        clear hq0
        by_cases k0 : fdsSame x.takes y.takes = true
        · rw [k0]
          have KK0 := hide k0
          clear k0
          go_wp2_with fail
          refine (slicesEqualFd_any m4 n4 c4 d4 lo hi lo' hi' x.own y.own _ HX.out.2.1 HY.out.2.1 (M4.out.keep (Below.mono C0.out hh)) (N4.out.keep (Below.mono C0.out hh'))).mono ?_
          rintro e v1 ⟨rfl, q1, hq1⟩
          have C1 : Hid (Below w.heap.size w v1) := by
            show Below w.heap.size w v1
            rw [hq1]
            exact below_drewN C0.out _
          have U1 : Hid (Rec v1 w.heap.size 36 [.slice m0 x.takes.length c0, .int .i64 x.gives.kind, .int .i64 x.gives.of, .bool x.gives.mt, .slice m4 x.own.length c4, .slice m5 x.body.length c5]) := by
            show Rec _ _ _ _
            rw [hq1]
            exact U0.out
          have V1 : Hid (Rec v1 (w.heap.size + 1) 36 [.slice n0 y.takes.length d0, .int .i64 x.gives.kind, .int .i64 x.gives.of, .bool x.gives.mt, .slice n4 y.own.length d4, .slice n5 y.body.length d5]) := by
            show Rec _ _ _ _
            rw [hq1]
            exact V0.out
          have u5_1 := U1.out.cell (o := 5) rfl
          have v5_1 := V1.out.cell (o := 5) rfl
          clear hq1
          by_cases k1 : fdsSame x.own y.own = true
          · rw [k1]
            have KK1 := hide k1
            clear k1
            go_wp2_with fail
            refine (slicesEqualGIns_any m5 n5 c5 d5 lo hi lo' hi' x.body y.body _ HX.out.2.2 HY.out.2.2 (M5.out.keep (Below.mono C1.out hh)) (N5.out.keep (Below.mono C1.out hh'))).mono ?_
            rintro e v2 ⟨rfl, q2, hq2⟩
            have C2 : Hid (Below w.heap.size w v2) := by
              show Below w.heap.size w v2
              rw [hq2]
              exact below_drewN C1.out _
            clear hq2
            go_wp2_with fail
            go_ret
            exact ⟨ret_bool (by rw [HD.out, KK0.out, KK1.out]; rfl), C2.out⟩
          · have k' : fdsSame x.own y.own = false := by simpa using k1
            rw [k']
            have HF : Hid (funSame x y = false) := by
              show funSame x y = false
              rw [HD.out]
              simp [k', KK0.out]
            clear k' k1
            go_wp2_with fail
            go_ret
            exact ⟨ret_bool HF.out.symm, C1.out⟩
        · have k' : fdsSame x.takes y.takes = false := by simpa using k0
          rw [k']
          have HF : Hid (funSame x y = false) := by
            show funSame x y = false
            rw [HD.out]
            simp [k']
          clear k' k0
          go_wp2_with fail
          go_ret
          exact ⟨ret_bool HF.out.symm, C0.out⟩
      · rw [show funSame x y = false by simp [funSame, fdSame, h3]]
        clear h1 h2
        go_enter Tryz.func37, Tryz.ntmps37
        go_wp2_with fail
        go_ret
        exact ⟨rfl, by (repeat (first | refine Below.al ?_ (Nat.le_refl _) _ | exact Below.refl _ _))⟩
    · rw [show funSame x y = false by simp [funSame, fdSame, h2]]
      clear h1
      go_enter Tryz.func37, Tryz.ntmps37
      go_wp2_with fail
      go_ret
      exact ⟨rfl, by (repeat (first | refine Below.al ?_ (Nat.le_refl _) _ | exact Below.refl _ _))⟩
  · rw [show funSame x y = false by simp [funSame, fdSame, h1]]
    go_enter Tryz.func37, Tryz.ntmps37
    go_wp2_with fail
    go_ret
    exact ⟨rfl, by (repeat (first | refine Below.al ?_ (Nat.le_refl _) _ | exact Below.refl _ _))⟩

set_option maxHeartbeats 1600000 in
theorem eqFuncFuns_core (a a' : Option Addr) (cap cap' n lo hi lo' hi' : Nat) (F G : Nat → GFun) (w : World) (hn : n ≤ 1048576) (hF : ∀ i, i < n → FunB 1048576 (F i)) (hG : ∀ i, i < n → FunB 1048576 (G i)) (hh : hi ≤ w.heap.size) (hh' : hi' ≤ w.heap.size)
    (hx : n ≤ 0 ∨ ∃ b off b' off', a = some ⟨b, off, none⟩ ∧ a' = some ⟨b', off', none⟩ ∧ (lo ≤ b ∧ b < hi) ∧ (lo' ≤ b' ∧ b' < hi') ∧ (∀ i, i < n → FunAt false w lo hi b (off + i * 6) (F i)) ∧ (∀ i, i < n → FunAt false w lo' hi' b' (off' + i * 6) (G i))) :
    Calls Tryz.prog 36 #[.slice a n cap, .slice a' n cap', .func (.func 37) #[] #[]] w fun e w' => e = .returned (.bool (upTo (fun i => funSame (F i) (G i)) n)) ∧ Below w.heap.size w w' := by
  have HLF := hide hF
  have HLG := hide hG
  clear hF hG
  rcases hx with h0 | ⟨b, off, b', off', rfl, rfl, t1, t2, h3, h4⟩
  all_goals
    go_enter Tryz.func36, Tryz.ntmps36
    go_wp2_with fail
    go_loopw [17] (fun i wr => ∃ k : Nat, k ≤ n ∧ i = .int .i64 k ∧ upTo (fun i => funSame (F i) (G i)) k = true ∧ Below w.heap.size w wr) (fun i wr => n - (intOf i).toNat)
    case atStart => exact ⟨0, Nat.zero_le _, rfl, rfl, Below.refl _ _⟩
    case round =>
      obtain ⟨k, hk, rfl, hu, hb⟩ := hrel
      have HU := hide hu
      have HB := hide hb
      have sb := hb.size
      clear hu
      by_cases hlt : k < n
      · first
        | (exfalso; omega)
        | (have g1 : (0 : Int) ≤ (k : Int) := by omega
           have g2 : (k : Int) < (n : Int) := by omega
           have x1 := (h3 k hlt).same (.of_below (hb.mono hh) (Nat.le_refl _)) (Nat.le_refl _) (Nat.le_refl _) t1.1 t1.2
           have x2 := (h4 k hlt).same (.of_below (hb.mono hh') (Nat.le_refl _)) (Nat.le_refl _) (Nat.le_refl _) t2.1 t2.2
           obtain ⟨m0, c0, m4, c4, m5, c5, e0, e1, e2, e3, e4, e5, l0, l4, l5⟩ := x1
           obtain ⟨n0, d0, n4, d4, n5, d5, f0, f1, f2, f3, f4, f5, k0, k4, k5⟩ := x2
           have M0 := hide l0
           have N0 := hide k0
           have M4 := hide l4
           have N4 := hide k4
           have M5 := hide l5
           have N5 := hide k5
           clear l0 l4 l5 k0 k4 k5
           have z1 : b < wr.heap.size := by omega
           have z2 : b' < wr.heap.size := by omega
           have z3 : b < wr.heap.size + 1 := by omega
           have z4 : b' < wr.heap.size + 1 := by omega
           clear h3 h4 hb
           go_wp2_with fail
           refine (progFunSame_any m0 m4 m5 n0 n4 n5 c0 c4 c5 d0 d4 d5 lo hi lo' hi' (F k) (G k) _ (HLF.out k hlt) (HLG.out k hlt) (M0.out.keep (Below.mono (by (repeat (first | refine Below.al ?_ (Nat.le_refl _) _ | exact Below.refl _ _))) (Nat.le_trans hh sb))) (M4.out.keep (Below.mono (by (repeat (first | refine Below.al ?_ (Nat.le_refl _) _ | exact Below.refl _ _))) (Nat.le_trans hh sb))) (M5.out.keep (Below.mono (by (repeat (first | refine Below.al ?_ (Nat.le_refl _) _ | exact Below.refl _ _))) (Nat.le_trans hh sb))) (N0.out.keep (Below.mono (by (repeat (first | refine Below.al ?_ (Nat.le_refl _) _ | exact Below.refl _ _))) (Nat.le_trans hh' sb))) (N4.out.keep (Below.mono (by (repeat (first | refine Below.al ?_ (Nat.le_refl _) _ | exact Below.refl _ _))) (Nat.le_trans hh' sb))) (N5.out.keep (Below.mono (by (repeat (first | refine Below.al ?_ (Nat.le_refl _) _ | exact Below.refl _ _))) (Nat.le_trans hh' sb))) (by go_size) (by go_size)).mono ?_
           rintro e v ⟨rfl, hb1⟩
           have HC : Hid (Below wr.heap.size wr v) := by
             refine Below.trans ?_ (hb1.mono (by go_size))
             (repeat (first | refine Below.al ?_ (Nat.le_refl _) _ | exact Below.refl _ _))
           clear hb1
           by_cases hs : funSame (F k) (G k) = true
           · rw [hs]
             have HS := hide hs
             clear hs
             go_wp2_with fail
             exact ⟨⟨k + 1, by omega, by go_num, upTo_step HU.out HS.out, HB.out.trans (HC.out.mono sb)⟩, by simp [intOf]; omega⟩
           · have hs' : funSame (F k) (G k) = false := by simpa using hs
             rw [hs']
             have HF : Hid (upTo (fun i => funSame (F i) (G i)) n = false) := upTo_false hlt hs'
             clear hs hs'
             go_wp2_with fail
             go_ret
             exact ⟨ret_bool HF.out.symm, HB.out.trans (HC.out.mono sb)⟩)
      · have hkn : Hid (k = n) := Nat.le_antisymm hk (Nat.le_of_not_lt hlt)
        clear hb
        go_wp2_with fail
        go_ret
        exact ⟨ret_bool (hkn.out ▸ HU.out).symm, HB.out⟩

set_option maxHeartbeats 400000 in
theorem eqFuncFuns_short (a a' : Option Addr) (cap cap' n m : Nat) (w : World) (hn : n ≤ 1048576) (hm : m ≤ 1048576) (hne : ¬ n = m) :
    Calls Tryz.prog 36 #[.slice a n cap, .slice a' m cap', .func (.func 37) #[] #[]] w fun e w' => e = .returned (.bool false) ∧ Below w.heap.size w w' := by
  have hb : ((n : Int) == (m : Int)) = false := by simp; omega
  have hd : ¬ ((n : Int) = (m : Int)) := by omega
  clear hne
  go_enter Tryz.func36, Tryz.ntmps36
  go_wp2_with fail
  go_ret
  exact ⟨rfl, Below.refl _ _⟩

theorem eqFuncFuns_any {md md' : Bool} (a a' : Option Addr) (cap cap' lo hi lo' hi' : Nat) (xs ys : List GFun) (w : World) (hn : FunsB 1048576 xs) (hm : FunsB 1048576 ys) (hx : FunsM md w lo hi a xs) (hy : FunsM md' w lo' hi' a' ys) (hh : hi ≤ w.heap.size) (hh' : hi' ≤ w.heap.size) :
    Calls Tryz.prog 36 #[.slice a xs.length cap, .slice a' ys.length cap', .func (.func 37) #[] #[]] w fun e w' => e = .returned (.bool (funsSame xs ys)) ∧ Below w.heap.size w w' := by
  by_cases hl : xs.length = ys.length
  · have e : funsSame xs ys = upTo (fun i => funSame (funAt' xs i) (funAt' ys i)) xs.length := by simp [funsSame, hl]
    rw [e, ← hl]
    refine eqFuncFuns_core a a' cap cap' xs.length lo hi lo' hi' (funAt' xs) (funAt' ys) w hn.1 hn.2 (fun i hi => hm.2 i (by omega)) hh hh' (hx.both hy hl.symm)
  · have e : funsSame xs ys = false := by simp [funsSame, hl]
    rw [e]
    exact eqFuncFuns_short a a' cap cap' _ _ w hn.1 hm.1 hl
theorem eqFuncGroups_any {md md' : Bool} (a a' : Option Addr) (cap cap' lo hi lo' hi' : Nat) (xs ys : List (List Ty)) (w : World) (hn : GroupsB 1048576 xs) (hm : GroupsB 1048576 ys) (hx : GroupsM md w lo hi a xs) (hy : GroupsM md' w lo' hi' a' ys) (hh : hi ≤ w.heap.size) (hh' : hi' ≤ w.heap.size) :
    Calls Tryz.prog 33 #[.slice a xs.length cap, .slice a' ys.length cap', .func (.func 34) #[] #[]] w fun e w' => e = .returned (.bool (grsSame xs ys)) ∧ Below w.heap.size w w' := by
  by_cases hl : xs.length = ys.length
  · have e : grsSame xs ys = upTo (fun i => tysSame (grAt xs i) (grAt ys i)) xs.length := by simp [grsSame, hl]
    rw [e, ← hl]
    refine eqFuncGroups_core a a' cap cap' xs.length lo hi lo' hi' (grAt xs) (grAt ys) w hn.1 hn.2 (fun i hi => hm.2 i (by omega)) hh hh' ?_
    rcases hx.1 with rfl | ⟨b, off, rfl, h1, h2, h3⟩
    · exact .inl (Nat.le_refl _)
    · rcases hy.1 with rfl | ⟨b', off', rfl, h1', h2', h3'⟩
      · exact .inl (by rw [hl]; exact Nat.le_refl _)
      · exact .inr ⟨b, off, b', off', rfl, rfl, ⟨h1, h2⟩, ⟨h1', h2'⟩, h3, fun i hi => h3' i (by omega)⟩
  · have e : grsSame xs ys = false := by simp [grsSame, hl]
    rw [e]
    exact eqFuncGroups_short a a' cap cap' _ _ w hn.1 hm.1 hl

set_option maxHeartbeats 1600000 in
theorem implProgSame_any {md md' : Bool} (a0 a1 a2 b0 b1 b2 : Option Addr) (c0 c1 c2 d0 d1 d2 lo hi lo' hi' : Nat) (x y : GProg) (w : World) (hx : ProgB 1048576 x) (hy : ProgB 1048576 y)
    (g0 : GroupsM md w lo hi a0 x.types) (g1 : FieldsM md w lo hi a1 x.glob) (g2 : FunsM md w lo hi a2 x.funs) (k0 : GroupsM md' w lo' hi' b0 y.types) (k1 : FieldsM md' w lo' hi' b1 y.glob) (k2 : FunsM md' w lo' hi' b2 y.funs) (hh : hi ≤ w.heap.size) (hh' : hi' ≤ w.heap.size) :
    Calls Tryz.prog 12 #[.agg #[.slice a0 x.types.length c0, .slice a1 x.glob.length c1, .slice a2 x.funs.length c2], .agg #[.slice b0 y.types.length d0, .slice b1 y.glob.length d1, .slice b2 y.funs.length d2]] w fun e w' => e = .returned (.bool (progSame x y)) ∧ Below w.heap.size w w' := by
  have HX := hide hx
  have HY := hide hy
  have G0 := hide g0
  have G1 := hide g1
  have G2 := hide g2
  have K0 := hide k0
  have K1 := hide k1
  have K2 := hide k2
  clear hx hy g0 g1 g2 k0 k1 k2
  go_enter Tryz.func12, Tryz.ntmps12
  go_wp2_with fail
  refine (eqFuncGroups_any a0 b0 c0 d0 lo hi lo' hi' x.types y.types _ HX.out.1 HY.out.1 (G0.out.keep (Below.mono (by (repeat (first | refine Below.al ?_ (Nat.le_refl _) _ | exact Below.refl _ _))) hh)) (K0.out.keep (Below.mono (by (repeat (first | refine Below.al ?_ (Nat.le_refl _) _ | exact Below.refl _ _))) hh')) (by go_size) (by go_size)).mono ?_
  rintro e v0 ⟨rfl, hq0⟩
  have C0 : Hid (Below w.heap.size w v0) := by
    refine Below.trans ?_ (hq0.mono (by go_size))
    exact (by (repeat (first | refine Below.al ?_ (Nat.le_refl _) _ | exact Below.refl _ _)))
  have U0 : Hid (Rec v0 w.heap.size 27 [.slice a0 x.types.length c0, .slice a1 x.glob.length c1, .slice a2 x.funs.length c2]) := Rec.below ((Rec.new' _ _ _ _ rfl).alloc _) hq0 (by go_size)
  have V0 : Hid (Rec v0 (w.heap.size + 1) 27 [.slice b0 y.types.length d0, .slice b1 y.glob.length d1, .slice b2 y.funs.length d2]) := Rec.below (Rec.new' _ _ _ _ (by simp)) hq0 (by go_size)
  have u1_0 := U0.out.cell (o := 1) rfl
  have v1_0 := V0.out.cell (o := 1) rfl
  have u2_0 := U0.out.cell (o := 2) rfl
  have v2_0 := V0.out.cell (o := 2) rfl
  clear hq0
  by_cases k0 : grsSame x.types y.types = true
  · rw [k0]
    have KK0 := hide k0
    clear k0
    go_wp2_with fail
    refine (slicesEqualFd_any a1 b1 c1 d1 lo hi lo' hi' x.glob y.glob _ HX.out.2.1 HY.out.2.1 (G1.out.keep (Below.mono C0.out hh)) (K1.out.keep (Below.mono C0.out hh'))).mono ?_
    rintro e v1 ⟨rfl, q1, hq1⟩
    have C1 : Hid (Below w.heap.size w v1) := by
      show Below w.heap.size w v1
      rw [hq1]
      exact below_drewN C0.out _
    have U1 : Hid (Rec v1 w.heap.size 27 [.slice a0 x.types.length c0, .slice a1 x.glob.length c1, .slice a2 x.funs.length c2]) := by
      show Rec _ _ _ _
      rw [hq1]
      exact U0.out
    have V1 : Hid (Rec v1 (w.heap.size + 1) 27 [.slice b0 y.types.length d0, .slice b1 y.glob.length d1, .slice b2 y.funs.length d2]) := by
      show Rec _ _ _ _
      rw [hq1]
      exact V0.out
    have u2_1 := U1.out.cell (o := 2) rfl
    have v2_1 := V1.out.cell (o := 2) rfl
    clear hq1
    by_cases k1 : fdsSame x.glob y.glob = true
    · rw [k1]
      have KK1 := hide k1
      clear k1
      go_wp2_with fail
      refine (eqFuncFuns_any a2 b2 c2 d2 lo hi lo' hi' x.funs y.funs _ HX.out.2.2 HY.out.2.2 (G2.out.keep (Below.mono C1.out hh)) (K2.out.keep (Below.mono C1.out hh')) (Nat.le_trans hh C1.out.size) (Nat.le_trans hh' C1.out.size)).mono ?_
      rintro e v2 ⟨rfl, hq2⟩
      have C2 : Hid (Below w.heap.size w v2) := by
        refine Below.trans ?_ (hq2.mono C1.out.size)
        exact C1.out
      clear hq2
      go_wp2_with fail
      go_ret
      exact ⟨ret_bool (by simp [progSame, KK0.out, KK1.out]), C2.out⟩
    · have k' : fdsSame x.glob y.glob = false := by simpa using k1
      rw [k']
      have HF : Hid (progSame x y = false) := by
        show progSame x y = false
        simp [progSame, k', KK0.out]
      clear k' k1
      go_wp2_with fail
      go_ret
      exact ⟨ret_bool HF.out.symm, C1.out⟩
  · have k' : grsSame x.types y.types = false := by simpa using k0
    rw [k']
    have HF : Hid (progSame x y = false) := by
      show progSame x y = false
      simp [progSame, k']
    clear k' k0
    go_wp2_with fail
    go_ret
    exact ⟨ret_bool HF.out.symm, C0.out⟩
end Go.Proofs.YtblliefejffhoaaGreatDoor
