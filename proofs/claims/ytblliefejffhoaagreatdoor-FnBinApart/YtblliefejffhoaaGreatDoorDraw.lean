/- What is drawn from bytes: a reader's block, and one number picked. -/
import Derived.Test.YtblliefejffhoaaGreatDoorBase
import Derived.Deep.RegionHeld3
namespace Go.Proofs.YtblliefejffhoaaGreatDoor
open Go.ChangeShapes Go.WideShapes Go.ChangeAt Go.RowKit
set_option linter.unusedVariables false

/-- A reader in block g: bytes at a (in an elder block), n of them, and its place p. -/
def Rd (w : World) (g : Nat) (p : Nat) : Prop :=
  ∃ a n cap, w.cell? ⟨g, 0, none⟩ = some (.slice a n cap) ∧ w.cell? ⟨g, 1, none⟩ = some (.int .i64 p) ∧ w.frozen? ⟨g, 1, none⟩ = false ∧ n ≤ 2000 ∧
    (n = 0 ∨ ∃ b off, a = some ⟨b, off, none⟩ ∧ b < g ∧ ∀ i, i < n → ∃ x : Nat, x < 256 ∧ w.cell? ⟨b, off + i, none⟩ = some (.int .u8 x))

set_option maxHeartbeats 1000000 in
theorem pick_none (g p : Nat) (n : Int) (w : World) (hp : p < 1000000) (hn : n < 1) (h : Rd w g p) :
    Calls Tryz.prog 32 #[.pointer (some ⟨g, 0, none⟩), .int .i64 n] w fun e w' => e = .returned (.int .i64 0) ∧ w' = w.setCell ⟨g, 1, none⟩ (.int .i64 (p + 1)) := by
  obtain ⟨a, m, cap, c0, c1, f1, hm, hx⟩ := h
  have q1 : (0 : Int) ≤ (p : Int) := by omega
  have q2 : (p : Int) < 1000000 := by omega
  clear hx
  go_enter Tryz.func32, Tryz.ntmps32
  go_wp2_with fail
  go_ret
  exact ⟨rfl, rfl⟩

set_option maxHeartbeats 1000000 in
theorem pick_empty (g p : Nat) (n : Int) (a : Option Addr) (cap : Nat) (w : World) (hp : p < 1000000) (hn : 1 ≤ n) 
    (c0 : w.cell? ⟨g, 0, none⟩ = some (.slice a 0 cap)) (c1 : w.cell? ⟨g, 1, none⟩ = some (.int .i64 p)) (f1 : w.frozen? ⟨g, 1, none⟩ = false) :
    Calls Tryz.prog 32 #[.pointer (some ⟨g, 0, none⟩), .int .i64 n] w fun e w' => e = .returned (.int .i64 0) ∧ w' = w.setCell ⟨g, 1, none⟩ (.int .i64 (p + 1)) := by
  have q1 : (0 : Int) ≤ (p : Int) := by omega
  have q2 : (p : Int) < 1000000 := by omega
  have q3 : ¬ n < 1 := by omega
  go_enter Tryz.func32, Tryz.ntmps32
  go_wp2_with fail
  go_ret
  exact ⟨rfl, rfl⟩

set_option maxHeartbeats 1000000 in
theorem pick_near (g p m : Nat) (n : Int) (b off cap x : Nat) (w : World) (hp : p < 1000000) (hn : 1 ≤ n) (hm : m ≤ 2000) (hlt : p < m) (hbg : b < g)
    (c0 : w.cell? ⟨g, 0, none⟩ = some (.slice (some ⟨b, off, none⟩) m cap)) (c1 : w.cell? ⟨g, 1, none⟩ = some (.int .i64 p)) (f1 : w.frozen? ⟨g, 1, none⟩ = false)
    (hx : x < 256) (cx : w.cell? ⟨b, off + p, none⟩ = some (.int .u8 x)) :
    Calls Tryz.prog 32 #[.pointer (some ⟨g, 0, none⟩), .int .i64 n] w fun e w' => e = .returned (.int .i64 ((x : Int) % n)) ∧ w' = w.setCell ⟨g, 1, none⟩ (.int .i64 (p + 1)) := by
  have q1 : (0 : Int) ≤ (p : Int) := by omega
  have q2 : (p : Int) < 1000000 := by omega
  have q3 : ¬ n < 1 := by omega
  have q4 : ((m : Int) == 0) = false := by simp; omega
  have q5 : (p : Int) < (m : Int) := by omega
  have q6 : ¬ n = 0 := by omega
  have q7 : (x : Int) < 256 := by omega
  go_enter Tryz.func32, Tryz.ntmps32
  go_wp2_with fail
  go_ret
  exact ⟨rfl, rfl⟩

theorem bits_xor_nat (a b : Nat) (ha : a < 4611686018427387904) (hb : b < 4611686018427387904) : bits .xor .i64 (a : Int) (b : Int) = ((a ^^^ b : Nat) : Int) := by
  have hx : a ^^^ b < 2 ^ 62 := Nat.xor_lt_two_pow (by omega) (by omega)
  have h1 : (BitVec.ofInt 64 (a : Int)).toNat = a := by
    rw [BitVec.ofInt_natCast, BitVec.toNat_ofNat]; exact Nat.mod_eq_of_lt (by omega)
  have h2 : (BitVec.ofInt 64 (b : Int)).toNat = b := by
    rw [BitVec.ofInt_natCast, BitVec.toNat_ofNat]; exact Nat.mod_eq_of_lt (by omega)
  show IntKind.i64.wrap ((BitVec.ofInt 64 (a : Int) ^^^ BitVec.ofInt 64 (b : Int)).toNat : Int) = _
  rw [BitVec.toNat_xor, h1, h2]
  generalize a ^^^ b = c at hx
  simp [IntKind.wrap, IntKind.bits, IntKind.signed]
  omega

set_option maxHeartbeats 2000000 in
theorem pick_far (g p m : Nat) (n : Int) (b off cap x y j1 j2 d : Nat) (w : World) (hp : p < 1000000) (hn : 1 ≤ n) (hm : m ≤ 2000) (hm0 : 0 < m) (hlt : m ≤ p) (hbg : b < g)
    (c0 : w.cell? ⟨g, 0, none⟩ = some (.slice (some ⟨b, off, none⟩) m cap)) (c1 : w.cell? ⟨g, 1, none⟩ = some (.int .i64 p)) (f1 : w.frozen? ⟨g, 1, none⟩ = false)
    (e1 : (p : Int) % (m : Int) = (j1 : Int)) (e2 : ((p : Int) * 7 + 3) % (m : Int) = (j2 : Int)) (e3 : (p : Int) / (m : Int) = (d : Int)) (hd : d < 1000000) (l1 : (j1 : Int) < (m : Int)) (l2 : (j2 : Int) < (m : Int))
    (hx : x < 256) (cx : w.cell? ⟨b, off + j1, none⟩ = some (.int .u8 x)) (hy : y < 256) (cy : w.cell? ⟨b, off + j2, none⟩ = some (.int .u8 y)) :
    Calls Tryz.prog 32 #[.pointer (some ⟨g, 0, none⟩), .int .i64 n] w fun e w' => ∃ k q, e = .returned (.int .i64 k) ∧ 0 ≤ k ∧ k < n ∧ w' = (w.setCell ⟨g, 1, none⟩ (.int .i64 (p + 1))).drewN q := by
  have q1 : (0 : Int) ≤ (p : Int) := by omega
  have q2 : (p : Int) < 1000000 := by omega
  have q3 : ¬ n < 1 := by omega
  have q4 : ((m : Int) == 0) = false := by simp; omega
  have q5 : (m : Int) ≤ (p : Int) := by omega
  have q6 : ¬ n = 0 := by omega
  have q7 : (x : Int) < 256 := by omega
  have q8 : (y : Int) < 256 := by omega
  have q9 : ¬ (m : Int) = 0 := by omega
  have qa : (0 : Int) < (m : Int) := by omega
  have qd : decide (p < m) = false := by simp; omega
  have qf : decide ((p : Int) < (m : Int)) = false := by simp; omega
  have qe : ¬ p < m := by omega
  have qg : (d : Int) < 1000000 := by omega
  go_enter Tryz.func32, Tryz.ntmps32
  go_wp2_with fail
  go_quiet (fail)
  go_wp2_with fail
  go_ret
  have hX : bits .xor .i64 ((x : Int) * 131 + y * 1117 + p * 29 + d * 53) (((x : Int) * 131 + y * 1117 + p * 29 + d * 53) / 64) = (((x * 131 + y * 1117 + p * 29 + d * 53) ^^^ ((x * 131 + y * 1117 + p * 29 + d * 53) / 64) : Nat) : Int) := by
    rw [← bits_xor_nat _ _ (by omega) (by omega)]
    congr 1
  refine ⟨_, nq, rfl, ?_, ?_, rfl⟩
  · rw [hX]; exact Int.tmod_nonneg _ (by omega)
  · rw [hX]; exact Int.tmod_lt_of_pos _ (by omega)

/-- One number picked: below n, and the reader goes on by one place. -/
theorem pick_any (g p : Nat) (n : Int) (w : World) (hp : p < 1000000) (h : Rd w g p) :
    Calls Tryz.prog 32 #[.pointer (some ⟨g, 0, none⟩), .int .i64 n] w fun e w' => ∃ k q, e = .returned (.int .i64 k) ∧ (n < 1 → k = 0) ∧ 0 ≤ k ∧ (1 ≤ n → k < n) ∧ w' = (w.setCell ⟨g, 1, none⟩ (.int .i64 (p + 1))).drewN q := by
  by_cases hn : n < 1
  · refine (pick_none g p n w hp hn h).mono ?_
    rintro e w' ⟨rfl, rfl⟩
    exact ⟨0, 0, rfl, fun _ => rfl, Int.le_refl _, fun h => absurd h (by omega), rfl⟩
  obtain ⟨a, m, cap, c0, c1, f1, hm, hx⟩ := h
  by_cases hm0 : m = 0
  · subst hm0
    refine (pick_empty g p n a cap w hp (by omega) c0 c1 f1).mono ?_
    rintro e w' ⟨rfl, rfl⟩
    exact ⟨0, 0, rfl, fun _ => rfl, Int.le_refl _, fun h => by omega, rfl⟩
  rcases hx with hx | ⟨b, off, rfl, hbg, hx⟩
  · exact absurd hx hm0
  by_cases hlt : p < m
  · obtain ⟨x, hx1, hx2⟩ := hx p hlt
    refine (pick_near g p m n b off cap x w hp (by omega) hm hlt hbg c0 c1 f1 hx1 hx2).mono ?_
    rintro e w' ⟨rfl, rfl⟩
    exact ⟨_, 0, rfl, fun h => absurd h hn, Int.emod_nonneg _ (by omega), fun h => Int.emod_lt_of_pos _ (by omega), rfl⟩
  · have l1 := Nat.mod_lt p (show m > 0 by omega)
    have l2 := Nat.mod_lt (p * 7 + 3) (show m > 0 by omega)
    obtain ⟨x, hx1, hx2⟩ := hx (p % m) l1
    obtain ⟨y, hy1, hy2⟩ := hx ((p * 7 + 3) % m) l2
    have hd : p / m ≤ p := Nat.div_le_self p m
    refine (pick_far g p m n b off cap x y (p % m) ((p * 7 + 3) % m) (p / m) w hp (by omega) hm (by omega) (by omega) hbg c0 c1 f1 ?_ ?_ ?_ (by omega) (by omega) (by omega) hx1 hx2 hy1 hy2).mono ?_
    · exact (Int.natCast_emod p m).symm
    · rw [Int.natCast_emod, Int.natCast_add, Int.natCast_mul]; rfl
    · exact (Int.natCast_ediv p m).symm
    rintro e w' ⟨k, q, rfl, h1, h2, rfl⟩
    exact ⟨_, q, rfl, fun h => absurd h hn, h1, fun _ => h2, rfl⟩
end Go.Proofs.YtblliefejffhoaaGreatDoor
