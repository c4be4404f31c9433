/- l3Types and ProgSame of the model. -/
import Derived.Test.YtgmjdneejkebhaaProgSame
namespace Go.Proofs.Ytgmjdneejkebhaa
open Go.ChangeShapes Go.WideShapes Go.ChangeAt Go.RowKit Go.Joins Go.Deep
set_option linter.unusedVariables false

theorem quiet_at {P : Program} {f : FuncId} {args : Array Value} {w : World} {q m : Nat} {v : Value} (h : Calls P f args (w.drewN (q + m)) fun e w' => e = .returned v ∧ ∃ j, w' = (w.drewN (q + m)).drewN j) : Calls P f args (w.drewN (q + m)) fun e w' => e = .returned v ∧ ∃ j, w' = w.drewN (q + j) :=
  h.mono fun _ _ ⟨he, j, hj⟩ => ⟨he, m + j, by rw [hj, World.drewN_drewN, Nat.add_assoc]⟩

set_option maxHeartbeats 3200000 in
theorem l3Types_core (a a' : Option Addr) (cap cap' n lo hi lo' hi' : Nat) (F G : Nat → Ty) (w : World) (hn : n ≤ 1048576) (hF : ∀ i, i < n → (F i).fields.length ≤ 1048576) (hG : ∀ i, i < n → (G i).fields.length ≤ 1048576)
    (hx : n ≤ 0 ∨ ∃ b off b' off', a = some ⟨b, off, none⟩ ∧ a' = some ⟨b', off', none⟩ ∧ (∀ i, i < n → TypeAt w lo hi b (off + i * 4) (F i)) ∧ (∀ i, i < n → TypeAt w lo' hi' b' (off' + i * 4) (G i))) :
    Calls Try.prog 22 #[.slice a n cap, .slice a' n cap'] w fun e w' => e = .returned (.bool (upTo (fun i => tySame (F i) (G i)) n)) ∧ ∃ q, w' = w.drewN q := by
  have HLF := hide hF
  have HLG := hide hG
  clear hF hG
  rcases hx with h0 | ⟨b, off, b', off', rfl, rfl, h3, h4⟩
  all_goals
    go_enter Try.func22, Try.ntmps22
    go_wp2_with fail
    go_loopw [5] (fun i wr => ∃ k : Nat, k ≤ n ∧ i = .int .i64 k ∧ upTo (fun i => tySame (F i) (G i)) k = true ∧ ∃ q, wr = w.drewN q) (fun i wr => n - (intOf i).toNat)
    case atStart => exact ⟨0, Nat.zero_le _, rfl, rfl, 0, rfl⟩
    case round =>
      obtain ⟨k, hk, rfl, hu, q, rfl⟩ := hrel
      have HU := hide hu
      clear hu
      by_cases hlt : k < n
      · first
        | (exfalso; omega)
        | (obtain ⟨c0, c1, c2, fa, fc, c3, c4⟩ := h3 k hlt
           obtain ⟨d0, d1, d2, fb, fd, d3, d4⟩ := h4 k hlt
           have C4 : Hid (FieldsM false w lo hi fa (F k).fields) := ⟨c4, fun e => by cases e⟩
           have D4 : Hid (FieldsM false w lo' hi' fb (G k).fields) := ⟨d4, fun e => by cases e⟩
           have g1 : (0 : Int) ≤ (k : Int) := by omega
           have g2 : (k : Int) < (n : Int) := by omega
           clear h3 h4 c4 d4
           have HC : Hid (∀ m, Calls Try.prog 21 #[.slice fa (F k).fields.length fc, .slice fb (G k).fields.length fd] (w.drewN (q + m)) fun e w' => e = .returned (.bool (fdsSame (F k).fields (G k).fields)) ∧ ∃ j, w' = w.drewN (q + j)) := fun m =>
             quiet_at (l3Fields_any fa fb fc fd lo hi lo' hi' (F k).fields (G k).fields _ (HLF.out k hlt) (HLG.out k hlt) (show FieldsM false w lo hi fa (F k).fields from C4.out) (show FieldsM false w lo' hi' fb (G k).fields from D4.out))
           by_cases h1 : (F k).kind = (G k).kind
           · rw [← h1] at d0
             by_cases h2 : (F k).up = (G k).up
             · rw [← h2] at d1
               by_cases h3 : (F k).last = (G k).last
               · rw [← h3] at d2
                 by_cases h4 : fdsSame (F k).fields (G k).fields = true
                 · rw [h4] at HC
                   have hs : Hid (tySame (F k) (G k) = true) := by simp [Hid, tySame, h1, h2, h3, h4]
                   have HS := HC
                   clear h1 h2 h3 h4 HC
                   go_wp2_with fail
                   go_quiet ((go_at_call 21; exact HS.out _))
                   go_wp2_with fail
                   exact ⟨⟨k + 1, by omega, by go_num, upTo_step HU.out hs.out, _, rfl⟩, by simp [intOf]; omega⟩
                 · have h4' : fdsSame (F k).fields (G k).fields = false := by simpa using h4
                   rw [h4'] at HC
                   have HF : Hid (upTo (fun i => tySame (F i) (G i)) n = false) := upTo_false hlt (by simp [tySame, h4'])
                   have HS := HC
                   clear h1 h2 h3 h4 h4' HC
                   go_wp2_with fail
                   go_quiet ((go_at_call 21; exact HS.out _))
                   go_wp2_with fail
                   go_ret
                   exact ⟨ret_bool HF.out.symm, _, World.drewN_drewN _ _ _⟩
               · have HF : Hid (upTo (fun i => tySame (F i) (G i)) n = false) := upTo_false hlt (by simp [tySame, h3])
                 clear h1 h2 HC
                 go_wp2_with fail
                 go_quiet (fail)
                 go_wp2_with fail
                 go_ret
                 exact ⟨ret_bool HF.out.symm, _, World.drewN_drewN _ _ _⟩
             · have HF : Hid (upTo (fun i => tySame (F i) (G i)) n = false) := upTo_false hlt (by simp [tySame, h2])
               have e2 : ((F k).up != (G k).up) = true := by simpa using h2
               clear h1 HC h2
               go_wp2_with fail
               go_quiet (fail)
               go_wp2_with fail
               go_ret
               exact ⟨ret_bool HF.out.symm, _, World.drewN_drewN _ _ _⟩
           · have HF : Hid (upTo (fun i => tySame (F i) (G i)) n = false) := upTo_false hlt (by simp [tySame, h1])
             have e1 : ((F k).kind != (G k).kind) = true := by simpa using h1
             clear HC h1
             go_wp2_with fail
             go_quiet (fail)
             go_wp2_with fail
             go_ret
             exact ⟨ret_bool HF.out.symm, _, World.drewN_drewN _ _ _⟩)
      · have hkn : Hid (k = n) := Nat.le_antisymm hk (Nat.le_of_not_lt hlt)
        go_wp2_with fail
        go_ret
        exact ⟨ret_bool (hkn.out ▸ HU.out).symm, _, rfl⟩

set_option maxHeartbeats 400000 in
theorem l3Types_short (a a' : Option Addr) (cap cap' n m : Nat) (w : World) (hn : n ≤ 1048576) (hm : m ≤ 1048576) (hne : ¬ n = m) :
    Calls Try.prog 22 #[.slice a n cap, .slice a' m cap'] w fun e w' => e = .returned (.bool false) ∧ ∃ q, w' = w.drewN q := by
  have hb : ((n : Int) == (m : Int)) = false := by simp; omega
  have hd : ¬ ((n : Int) = (m : Int)) := by omega
  clear hne
  go_enter Try.func22, Try.ntmps22
  go_wp2_with fail
  go_ret
  exact ⟨rfl, 0, rfl⟩
theorem l3Types_any (a a' : Option Addr) (cap cap' lo hi lo' hi' : Nat) (xs ys : List Ty) (w : World) (hn : xs.length ≤ 1048576) (hm : ys.length ≤ 1048576) (hF : ∀ i, i < xs.length → (tyAt xs i).fields.length ≤ 1048576) (hG : ∀ i, i < ys.length → (tyAt ys i).fields.length ≤ 1048576) (hx : TypesIn w lo hi a xs) (hy : TypesIn w lo' hi' a' ys) :
    Calls Try.prog 22 #[.slice a xs.length cap, .slice a' ys.length cap'] w fun e w' => e = .returned (.bool (tysSame xs ys)) ∧ ∃ q, w' = w.drewN q := by
  by_cases hl : xs.length = ys.length
  · have e : tysSame xs ys = upTo (fun i => tySame (tyAt xs i) (tyAt ys i)) xs.length := by simp [tysSame, hl]
    rw [e, ← hl]
    refine l3Types_core a a' cap cap' xs.length lo hi lo' hi' (tyAt xs) (tyAt ys) w hn hF (fun i hi => hG i (by omega)) ?_
    rcases hx with rfl | ⟨b, off, rfl, h1, h2, h3⟩
    · exact .inl (Nat.le_refl _)
    · rcases hy with rfl | ⟨b', off', rfl, h1', h2', h3'⟩
      · exact .inl (by rw [hl]; exact Nat.le_refl _)
      · exact .inr ⟨b, off, b', off', rfl, rfl, h3, fun i hi => h3' i (by omega)⟩
  · have e : tysSame xs ys = false := by simp [tysSame, hl]
    rw [e]
    exact l3Types_short a a' cap cap' _ _ w hn hm hl
end Go.Proofs.Ytgmjdneejkebhaa
