/- Lists of numbers of an answer's own: the laws' marks written into them, and asked for again. -/
import Derived.Test.YtpkfihliconenaaDoorGenRoot
namespace Go.Proofs.YtpkfihliconenaaDoor
open Go.ChangeShapes Go.WideShapes Go.ChangeAt Go.RowKit Go.Joins Go.Deep
set_option linter.unusedVariables false

/-- Nothing but blocks from lo on and below hi has turned, and none is new. -/
structure Turned (lo hi : Nat) (w w' : World) : Prop where
  os : w'.os = w.os
  tape : w'.tape = w.tape
  output : w'.output = w.output
  size : w'.heap.size = w.heap.size
  block : ∀ k, k < lo ∨ hi ≤ k → w'.heap[k]? = w.heap[k]?
theorem Turned.refl (lo hi : Nat) (w : World) : Turned lo hi w w := ⟨rfl, rfl, rfl, rfl, fun _ _ => rfl⟩
theorem Turned.trans {lo hi : Nat} {a b c : World} (h : Turned lo hi a b) (k : Turned lo hi b c) : Turned lo hi a c :=
  ⟨k.os.trans h.os, k.tape.trans h.tape, k.output.trans h.output, k.size.trans h.size, fun i hi => (k.block i hi).trans (h.block i hi)⟩
theorem Turned.below {lo hi : Nat} {w w' : World} (h : Turned lo hi w w') : Below lo w w' := ⟨h.os, h.tape, h.output, Nat.le_of_eq h.size.symm, fun k hk => h.block k (.inl hk)⟩
theorem Turned.wide {lo hi lo' hi' : Nat} {w w' : World} (h : Turned lo hi w w') (h1 : lo' ≤ lo) (h2 : hi ≤ hi') : Turned lo' hi' w w' := ⟨h.os, h.tape, h.output, h.size, fun k hk => h.block k (by omega)⟩
theorem Turned.set {lo hi : Nat} {a w : World} (h : Turned lo hi a w) {b : Nat} (h1 : lo ≤ b) (h2 : b < hi) (o : Nat) (v : Value) : Turned lo hi a (w.setCell ⟨b, o, none⟩ v) :=
  ⟨h.os, h.tape, h.output, by simpa using h.size, fun k hk => by rw [Below.heap_setCell _ _ _ _ (show k ≠ b by omega)]; exact h.block k hk⟩
theorem Turned.drew {lo hi : Nat} {a w : World} (h : Turned lo hi a w) : Turned lo hi a w.drew := ⟨h.os, h.tape, h.output, h.size, h.block⟩
theorem Rec.turned {lo hi b : Nat} {w w' : World} {T : TypeId} {vs : List Value} (h : Rec w b T vs) (ht : Turned lo hi w w') (hb : b < lo ∨ hi ≤ b) : Rec w' b T vs := (ht.block b hb).trans h

/-- So many numbers in a block of its own. -/
def NSh (w : World) (lo hi : Nat) (a : Option Addr) (n : Nat) : Prop := n = 0 ∨ ∃ b m, a = some ⟨b, 0, none⟩ ∧ lo ≤ b ∧ b < hi ∧ Own w b m 3 ∧ n ≤ m
theorem NSh.wide {w : World} {lo hi lo' hi' : Nat} {a : Option Addr} {n : Nat} (h : NSh w lo hi a n) (h1 : lo' ≤ lo) (h2 : hi ≤ hi') : NSh w lo' hi' a n := by
  rcases h with h | ⟨b, m, e, h3, h4, h5⟩
  · exact .inl h
  · exact .inr ⟨b, m, e, by omega, by omega, h5⟩
theorem NSh.keep {w w' : World} {lo hi : Nat} {a : Option Addr} {n : Nat} (h : NSh w lo hi a n) (hb : Below hi w w') : NSh w' lo hi a n := by
  rcases h with h | ⟨b, m, e, h3, h4, ho, hm⟩
  · exact .inl h
  · exact .inr ⟨b, m, e, h3, h4, ho.below hb h4, hm⟩
/-- The numbers from k on stand there. -/
def Marked (w : World) (lo hi : Nat) (a : Option Addr) (n : Nat) (k : Int) : Prop := n = 0 ∨ ∃ b, a = some ⟨b, 0, none⟩ ∧ lo ≤ b ∧ b < hi ∧ ∀ i, i < n → w.cell? ⟨b, i, none⟩ = some (.int .i64 (k + i))
theorem Marked.same {w w' : World} {lo hi : Nat} {a : Option Addr} {n : Nat} {k : Int} (h : Marked w lo hi a n k) (hs : ∀ b, a = some ⟨b, 0, none⟩ → lo ≤ b → b < hi → w'.heap[b]? = w.heap[b]?) : Marked w' lo hi a n k := by
  rcases h with h | ⟨b, e, h3, h4, h5⟩
  · exact .inl h
  · exact .inr ⟨b, e, h3, h4, fun i hi => (World.cell?_of_block (w := w) (hs b e h3 h4)).trans (h5 i hi)⟩
theorem Marked.keep {w w' : World} {lo hi : Nat} {a : Option Addr} {n : Nat} {k : Int} (h : Marked w lo hi a n k) (hb : Below hi w w') : Marked w' lo hi a n k := h.same fun b _ _ h2 => hb.block b h2
/-- No block is of both. -/
def Apart (a a' : Option Addr) (n n' : Nat) : Prop := n = 0 ∨ n' = 0 ∨ ∀ b b', a = some ⟨b, 0, none⟩ → a' = some ⟨b', 0, none⟩ → b ≠ b'

set_option maxHeartbeats 800000 in
theorem markIntS_any (a : Option Addr) (cap n lo hi : Nat) (k : Int) (w : World) (hn : n ≤ 1048576) (k0 : 0 ≤ k) (k1 : k ≤ 4611686018427387904) (hx : NSh w lo hi a n) :
    Calls Tryd.prog 24 #[.slice a n cap, .int .i64 k] w fun e w' => e = .returned (.int .i64 (k + n)) ∧ Marked w' lo hi a n k ∧ NSh w' lo hi a n ∧ Turned lo hi w w' ∧ (∀ c, (n = 0 ∨ ∀ b, a = some ⟨b, 0, none⟩ → c ≠ b) → w'.heap[c]? = w.heap[c]?) := by
  by_cases h0 : n = 0
  · subst h0
    go_enter Tryd.func24, Tryd.ntmps24
    go_wp2_with fail
    go_loopw [1, 5] (fun kv i wr => i = .int .i64 0 ∧ kv = .int .i64 k ∧ wr = w) (fun kv i wr => 0)
    case atStart => exact ⟨rfl, rfl, rfl⟩
    case round =>
    obtain ⟨rfl, rfl, rfl⟩ := hrel
    go_wp2_with fail
    go_ret
    exact ⟨ret_int (by simp), .inl rfl, .inl rfl, Turned.refl _ _ _, fun _ _ => rfl⟩
  · obtain ⟨b, m, rfl, h1, h2, ho, hm⟩ := hx.resolve_left h0
    have HO := hide ho
    have HZ := hide h0
    clear ho hx h0
    go_enter Tryd.func24, Tryd.ntmps24
    go_wp2_with fail
    go_loopw [1, 5] (fun kv i wr => ∃ j : Nat, j ≤ n ∧ i = .int .i64 j ∧ kv = .int .i64 (k + j) ∧ Own wr b m 3 ∧ (∀ i, i < j → wr.cell? ⟨b, i, none⟩ = some (.int .i64 (k + i))) ∧ Turned lo hi w wr ∧ (∀ c, c ≠ b → wr.heap[c]? = w.heap[c]?)) (fun kv i wr => n - (intOf i).toNat)
    case atStart => exact ⟨0, Nat.zero_le _, rfl, by simp, HO.out, fun j hj => absurd hj (Nat.not_lt_zero _), Turned.refl _ _ _, fun _ _ => rfl⟩
    case round =>
      obtain ⟨j, hj, rfl, rfl, ho, hF, ht, hc⟩ := hrel
      have HF := hide hF
      have HO := hide ho
      have HC := hide hc
      have HT := hide ht
      clear hF ho hc ht
      by_cases hlt : j < n
      · have f0 := HO.out.frozen j
        obtain ⟨v0, d0⟩ := HO.out.cell (o := j) (by omega)
        have g1 : (0 : Int) ≤ (j : Int) := by omega
        have g2 : (j : Int) < (n : Int) := by omega
        have g3 : k + (j : Int) + 1 ≤ 9223372036854775807 := by omega
        go_wp2_with fail
        refine ⟨⟨j + 1, by omega, by go_num, by go_num, HO.out.set _ _ _, fun i hi => ?_, HT.out.set h1 h2 _ _, fun c hc => ?_⟩, by simp [intOf]; omega⟩
        · rw [HO.out.cell_set (by omega)]
          by_cases e : i = j
          · subst e; simp
          · rw [if_neg e]; exact HF.out i (by omega)
        · rw [Below.heap_setCell _ _ _ _ hc]; exact HC.out c hc
      · have hjn : Hid (j = n) := Nat.le_antisymm hj (Nat.le_of_not_lt hlt)
        go_wp2_with fail
        go_ret
        exact ⟨ret_int (by rw [hjn.out]), .inr ⟨b, rfl, h1, h2, fun i hi => HF.out i (by have := hjn.out; omega)⟩, .inr ⟨b, m, rfl, h1, h2, HO.out, hm⟩, HT.out, fun c h => h.elim (fun e => absurd e HZ.out) (fun h => HC.out c (h b rfl))⟩

set_option maxHeartbeats 800000 in
theorem heldIntS_any (a : Option Addr) (cap n lo hi : Nat) (k : Int) (w : World) (hn : n ≤ 1048576) (k0 : 0 ≤ k) (k1 : k ≤ 4611686018427387904) (hx : Marked w lo hi a n k) :
    Calls Tryd.prog 25 #[.slice a n cap, .int .i64 k] w fun e w' => e = .returned (.int .i64 (k + n)) ∧ ∃ q, w' = w.drewN q := by
  rcases hx with h0 | ⟨b, rfl, h1, h2, h3⟩
  · subst h0
    go_enter Tryd.func25, Tryd.ntmps25
    go_wp2_with fail
    go_loopw [1, 5] (fun kv i wr => i = .int .i64 0 ∧ kv = .int .i64 k ∧ wr = w) (fun kv i wr => 0)
    case atStart => exact ⟨rfl, rfl, rfl⟩
    case round =>
    obtain ⟨rfl, rfl, rfl⟩ := hrel
    go_wp2_with fail
    go_ret
    exact ⟨ret_int (by simp), 0, rfl⟩
  · go_enter Tryd.func25, Tryd.ntmps25
    go_wp2_with fail
    go_loopw [1, 5] (fun kv i wr => ∃ j : Nat, j ≤ n ∧ i = .int .i64 j ∧ kv = .int .i64 (k + j) ∧ ∃ q, wr = w.drewN q) (fun kv i wr => n - (intOf i).toNat)
    case atStart => exact ⟨0, Nat.zero_le _, rfl, by simp, 0, rfl⟩
    case round =>
      obtain ⟨j, hj, rfl, rfl, q, rfl⟩ := hrel
      by_cases hlt : j < n
      · have c0 := h3 j hlt
        have g1 : (0 : Int) ≤ (j : Int) := by omega
        have g2 : (j : Int) < (n : Int) := by omega
        have g3 : k + (j : Int) + 1 ≤ 9223372036854775807 := by omega
        clear h3
        go_wp2_with fail
        exact ⟨⟨j + 1, by omega, by go_num, by go_num, _, rfl⟩, by simp [intOf]; omega⟩
      · have hjn : Hid (j = n) := Nat.le_antisymm hj (Nat.le_of_not_lt hlt)
        go_wp2_with fail
        go_ret
        exact ⟨ret_int (by rw [hjn.out]), _, rfl⟩
end Go.Proofs.YtpkfihliconenaaDoor
