/- KaDraw: Draw, IntList, Draw2, DrawList, DrawField0P, RowBD, DrawField0, RowF, Copy2, RowT. -/
import Derived.Test.YtejkebfhiddhmaaDoorKaOne
import Derived.Deep.RegionHeld3
import Derived.Deep.AppendLies
import Derived.Test.YtejkebfhiddhmaaDoorKaSpecB
import Derived.Maps.AppendAt
/- What is drawn from bytes: a reader's block, and one number picked. -/
namespace Go.Proofs.YtejkebfhiddhmaaDoor
open Go.ChangeShapes Go.WideShapes Go.ChangeAt Go.RowKit
set_option linter.unusedVariables false

/-- A reader in block g: bytes at a (in an elder block), n of them, and its place p. -/
def Rd (w : World) (g : Nat) (p : Nat) : Prop :=
  ∃ a n cap, w.cell? ⟨g, 0, none⟩ = some (.slice a n cap) ∧ w.cell? ⟨g, 1, none⟩ = some (.int .i64 p) ∧ w.frozen? ⟨g, 1, none⟩ = false ∧ n ≤ 2000 ∧
    (n = 0 ∨ ∃ b off, a = some ⟨b, off, none⟩ ∧ b < g ∧ ∀ i, i < n → ∃ x : Nat, x < 256 ∧ w.cell? ⟨b, off + i, none⟩ = some (.int .u8 x))

set_option maxHeartbeats 1000000 in
theorem pick_none (g p : Nat) (n : Int) (w : World) (hp : p < 1000000) (hn : n < 1) (h : Rd w g p) :
    Calls Tryd.prog 44 #[.pointer (some ⟨g, 0, none⟩), .int .i64 n] w fun e w' => e = .returned (.int .i64 0) ∧ w' = w.setCell ⟨g, 1, none⟩ (.int .i64 (p + 1)) := by
  obtain ⟨a, m, cap, c0, c1, f1, hm, hx⟩ := h
  have q1 : (0 : Int) ≤ (p : Int) := by omega
  have q2 : (p : Int) < 1000000 := by omega
  clear hx
  go_enter Tryd.func44, Tryd.ntmps44
  go_wp2_with fail
  go_ret
  exact ⟨rfl, rfl⟩

set_option maxHeartbeats 1000000 in
theorem pick_empty (g p : Nat) (n : Int) (a : Option Addr) (cap : Nat) (w : World) (hp : p < 1000000) (hn : 1 ≤ n) 
    (c0 : w.cell? ⟨g, 0, none⟩ = some (.slice a 0 cap)) (c1 : w.cell? ⟨g, 1, none⟩ = some (.int .i64 p)) (f1 : w.frozen? ⟨g, 1, none⟩ = false) :
    Calls Tryd.prog 44 #[.pointer (some ⟨g, 0, none⟩), .int .i64 n] w fun e w' => e = .returned (.int .i64 0) ∧ w' = w.setCell ⟨g, 1, none⟩ (.int .i64 (p + 1)) := by
  have q1 : (0 : Int) ≤ (p : Int) := by omega
  have q2 : (p : Int) < 1000000 := by omega
  have q3 : ¬ n < 1 := by omega
  go_enter Tryd.func44, Tryd.ntmps44
  go_wp2_with fail
  go_ret
  exact ⟨rfl, rfl⟩

set_option maxHeartbeats 1000000 in
theorem pick_near (g p m : Nat) (n : Int) (b off cap x : Nat) (w : World) (hp : p < 1000000) (hn : 1 ≤ n) (hm : m ≤ 2000) (hlt : p < m) (hbg : b < g)
    (c0 : w.cell? ⟨g, 0, none⟩ = some (.slice (some ⟨b, off, none⟩) m cap)) (c1 : w.cell? ⟨g, 1, none⟩ = some (.int .i64 p)) (f1 : w.frozen? ⟨g, 1, none⟩ = false)
    (hx : x < 256) (cx : w.cell? ⟨b, off + p, none⟩ = some (.int .u8 x)) :
    Calls Tryd.prog 44 #[.pointer (some ⟨g, 0, none⟩), .int .i64 n] w fun e w' => e = .returned (.int .i64 ((x : Int) % n)) ∧ w' = w.setCell ⟨g, 1, none⟩ (.int .i64 (p + 1)) := by
  have q1 : (0 : Int) ≤ (p : Int) := by omega
  have q2 : (p : Int) < 1000000 := by omega
  have q3 : ¬ n < 1 := by omega
  have q4 : ((m : Int) == 0) = false := by simp; omega
  have q5 : (p : Int) < (m : Int) := by omega
  have q6 : ¬ n = 0 := by omega
  have q7 : (x : Int) < 256 := by omega
  go_enter Tryd.func44, Tryd.ntmps44
  go_wp2_with fail
  go_ret
  exact ⟨rfl, rfl⟩

theorem bits_xor_nat (a b : Nat) (ha : a < 4611686018427387904) (hb : b < 4611686018427387904) : bits .xor .i64 (a : Int) (b : Int) = ((a ^^^ b : Nat) : Int) := by
  have hx : a ^^^ b < 2 ^ 62 := Nat.xor_lt_two_pow (by omega) (by omega)
  have h1 : (BitVec.ofInt 64 (a : Int)).toNat = a := by
    rw [BitVec.ofInt_natCast, BitVec.toNat_ofNat]; exact Nat.mod_eq_of_lt (by omega)
  have h2 : (BitVec.ofInt 64 (b : Int)).toNat = b := by
    rw [BitVec.ofInt_natCast, BitVec.toNat_ofNat]; exact Nat.mod_eq_of_lt (by omega)
  show IntKind.i64.wrap ((BitVec.ofInt 64 (a : Int) ^^^ BitVec.ofInt 64 (b : Int)).toNat : Int) = _
  rw [BitVec.toNat_xor, h1, h2]
  generalize a ^^^ b = c at hx
  simp [IntKind.wrap, IntKind.bits, IntKind.signed]
  omega

set_option maxHeartbeats 2000000 in
theorem pick_far (g p m : Nat) (n : Int) (b off cap x y j1 j2 d : Nat) (w : World) (hp : p < 1000000) (hn : 1 ≤ n) (hm : m ≤ 2000) (hm0 : 0 < m) (hlt : m ≤ p) (hbg : b < g)
    (c0 : w.cell? ⟨g, 0, none⟩ = some (.slice (some ⟨b, off, none⟩) m cap)) (c1 : w.cell? ⟨g, 1, none⟩ = some (.int .i64 p)) (f1 : w.frozen? ⟨g, 1, none⟩ = false)
    (e1 : (p : Int) % (m : Int) = (j1 : Int)) (e2 : ((p : Int) * 7 + 3) % (m : Int) = (j2 : Int)) (e3 : (p : Int) / (m : Int) = (d : Int)) (hd : d < 1000000) (l1 : (j1 : Int) < (m : Int)) (l2 : (j2 : Int) < (m : Int))
    (hx : x < 256) (cx : w.cell? ⟨b, off + j1, none⟩ = some (.int .u8 x)) (hy : y < 256) (cy : w.cell? ⟨b, off + j2, none⟩ = some (.int .u8 y)) :
    Calls Tryd.prog 44 #[.pointer (some ⟨g, 0, none⟩), .int .i64 n] w fun e w' => ∃ k q, e = .returned (.int .i64 k) ∧ 0 ≤ k ∧ k < n ∧ w' = (w.setCell ⟨g, 1, none⟩ (.int .i64 (p + 1))).drewN q := by
  have q1 : (0 : Int) ≤ (p : Int) := by omega
  have q2 : (p : Int) < 1000000 := by omega
  have q3 : ¬ n < 1 := by omega
  have q4 : ((m : Int) == 0) = false := by simp; omega
  have q5 : (m : Int) ≤ (p : Int) := by omega
  have q6 : ¬ n = 0 := by omega
  have q7 : (x : Int) < 256 := by omega
  have q8 : (y : Int) < 256 := by omega
  have q9 : ¬ (m : Int) = 0 := by omega
  have qa : (0 : Int) < (m : Int) := by omega
  have qd : decide (p < m) = false := by simp; omega
  have qf : decide ((p : Int) < (m : Int)) = false := by simp; omega
  have qe : ¬ p < m := by omega
  have qg : (d : Int) < 1000000 := by omega
  go_enter Tryd.func44, Tryd.ntmps44
  go_wp2_with fail
  go_quiet (fail)
  go_wp2_with fail
  go_ret
  have hX : bits .xor .i64 ((x : Int) * 131 + y * 1117 + p * 29 + d * 53) (((x : Int) * 131 + y * 1117 + p * 29 + d * 53) / 64) = (((x * 131 + y * 1117 + p * 29 + d * 53) ^^^ ((x * 131 + y * 1117 + p * 29 + d * 53) / 64) : Nat) : Int) := by
    rw [← bits_xor_nat _ _ (by omega) (by omega)]
    congr 1
  refine ⟨_, nq, rfl, ?_, ?_, rfl⟩
  · rw [hX]; exact Int.tmod_nonneg _ (by omega)
  · rw [hX]; exact Int.tmod_lt_of_pos _ (by omega)

/-- One number picked: below n, and the reader goes on by one place. -/
theorem pick_any (g p : Nat) (n : Int) (w : World) (hp : p < 1000000) (h : Rd w g p) :
    Calls Tryd.prog 44 #[.pointer (some ⟨g, 0, none⟩), .int .i64 n] w fun e w' => ∃ k q, e = .returned (.int .i64 k) ∧ (n < 1 → k = 0) ∧ 0 ≤ k ∧ (1 ≤ n → k < n) ∧ w' = (w.setCell ⟨g, 1, none⟩ (.int .i64 (p + 1))).drewN q := by
  by_cases hn : n < 1
  · refine (pick_none g p n w hp hn h).mono ?_
    rintro e w' ⟨rfl, rfl⟩
    exact ⟨0, 0, rfl, fun _ => rfl, Int.le_refl _, fun h => absurd h (by omega), rfl⟩
  obtain ⟨a, m, cap, c0, c1, f1, hm, hx⟩ := h
  by_cases hm0 : m = 0
  · subst hm0
    refine (pick_empty g p n a cap w hp (by omega) c0 c1 f1).mono ?_
    rintro e w' ⟨rfl, rfl⟩
    exact ⟨0, 0, rfl, fun _ => rfl, Int.le_refl _, fun h => by omega, rfl⟩
  rcases hx with hx | ⟨b, off, rfl, hbg, hx⟩
  · exact absurd hx hm0
  by_cases hlt : p < m
  · obtain ⟨x, hx1, hx2⟩ := hx p hlt
    refine (pick_near g p m n b off cap x w hp (by omega) hm hlt hbg c0 c1 f1 hx1 hx2).mono ?_
    rintro e w' ⟨rfl, rfl⟩
    exact ⟨_, 0, rfl, fun h => absurd h hn, Int.emod_nonneg _ (by omega), fun h => Int.emod_lt_of_pos _ (by omega), rfl⟩
  · have l1 := Nat.mod_lt p (show m > 0 by omega)
    have l2 := Nat.mod_lt (p * 7 + 3) (show m > 0 by omega)
    obtain ⟨x, hx1, hx2⟩ := hx (p % m) l1
    obtain ⟨y, hy1, hy2⟩ := hx ((p * 7 + 3) % m) l2
    have hd : p / m ≤ p := Nat.div_le_self p m
    refine (pick_far g p m n b off cap x y (p % m) ((p * 7 + 3) % m) (p / m) w hp (by omega) hm (by omega) (by omega) hbg c0 c1 f1 ?_ ?_ ?_ (by omega) (by omega) (by omega) hx1 hx2 hy1 hy2).mono ?_
    · exact (Int.natCast_emod p m).symm
    · rw [Int.natCast_emod, Int.natCast_add, Int.natCast_mul]; rfl
    · exact (Int.natCast_ediv p m).symm
    rintro e w' ⟨k, q, rfl, h1, h2, rfl⟩
    exact ⟨_, q, rfl, fun h => absurd h hn, h1, fun _ => h2, rfl⟩
end Go.Proofs.YtejkebfhiddhmaaDoor

/- Slices of ints: how they lie in memory. -/
namespace Go.Proofs.YtejkebfhiddhmaaDoor
open Go.ChangeShapes Go.WideShapes Go.ChangeAt Go.RowKit

def nAt (l : List Int) (i : Nat) : Int := l.getD i 0

/-- The numbers xs lie at a, in blocks from lo on and below hi. -/
def IntsIn (w : World) (lo hi : Nat) (a : Option Addr) (xs : List Int) : Prop :=
  xs = [] ∨ ∃ b off, a = some ⟨b, off, none⟩ ∧ lo ≤ b ∧ b < hi ∧ ∀ i, i < xs.length → w.cell? ⟨b, off + i, none⟩ = some (.int .i64 (nAt xs i))

theorem IntsIn.keep {w w' : World} {lo hi : Nat} {a : Option Addr} {xs : List Int} (h : IntsIn w lo hi a xs) (hb : Below hi w w') : IntsIn w' lo hi a xs := by
  rcases h with rfl | ⟨b, off, rfl, h1, h2, h3⟩
  · exact .inl rfl
  · exact .inr ⟨b, off, rfl, h1, h2, fun i hi' => by rw [hb.cell (p := ⟨b, off + i, none⟩) h2]; exact h3 i hi'⟩

end Go.Proofs.YtejkebfhiddhmaaDoor

/- The reader's frame: what else is kept while numbers are drawn; opening a reader; a number of a list. -/
namespace Go.Proofs.YtejkebfhiddhmaaDoor
open Go.ChangeShapes Go.WideShapes Go.ChangeAt Go.RowKit
set_option linter.unusedVariables false

/-- All blocks that were there are as they were, but block g; there may be new ones. -/
structure Only (g : Nat) (w w' : World) : Prop where
  none : Below 0 w w'
  block : ∀ k, k ≠ g → k < w.heap.size → w'.heap[k]? = w.heap[k]?

theorem Only.refl (g : Nat) (w : World) : Only g w w := ⟨Below.refl _ _, fun _ _ _ => rfl⟩
theorem Only.size {g : Nat} {w w' : World} (h : Only g w w') : w.heap.size ≤ w'.heap.size := h.none.size
theorem Only.trans {g : Nat} {a b c : World} (h : Only g a b) (k : Only g b c) : Only g a c :=
  ⟨h.none.trans k.none, fun i h1 h2 => (k.block i h1 (Nat.lt_of_lt_of_le h2 h.size)).trans (h.block i h1 h2)⟩
theorem Only.of_below {g : Nat} {w w' : World} (h : Below w.heap.size w w') : Only g w w' := ⟨h.mono (Nat.zero_le _), fun k _ h2 => h.block k h2⟩
theorem Only.below {g B : Nat} {w w' : World} (h : Only g w w') (hB : B ≤ g) (hs : B ≤ w.heap.size) : Below B w w' :=
  ⟨h.none.os, h.none.tape, h.none.output, h.none.size, fun k hk => h.block k (by omega) (by omega)⟩
theorem Only.cell {g : Nat} {w w' : World} (h : Only g w w') {b o : Nat} (h1 : b ≠ g) (h2 : b < w.heap.size) : w'.cell? ⟨b, o, Option.none⟩ = w.cell? ⟨b, o, Option.none⟩ :=
  World.cell?_of_block (w := w) (h.block b h1 h2)
theorem Only.alloc {g : Nat} {a w : World} (h : Only g a w) (o : Obj) : Only g a (w.alloc o) :=
  h.trans (Only.of_below ((Below.refl _ _).alloc (Nat.le_refl _) o))
theorem Only.drewN {g : Nat} {a w : World} (h : Only g a w) (q : Nat) : Only g a (w.drewN q) := ⟨below_drewN h.none q, h.block⟩
theorem Only.setCell {g : Nat} {a w : World} (h : Only g a w) (o : Nat) (v : Value) : Only g a (w.setCell ⟨g, o, Option.none⟩ v) :=
  ⟨h.none.setCell (Nat.zero_le _) v, fun k h1 h2 => (Below.heap_setCell w _ v k h1).trans (h.block k h1 h2)⟩

theorem Rd.lt {w : World} {g p : Nat} (h : Rd w g p) : g < w.heap.size := by
  obtain ⟨a, m, cap, c0, _⟩ := h
  exact cell_lt c0

/-- A reader stays what it is where its block and those ahead of it are kept. -/
theorem Rd.keep {w w' : World} {g p : Nat} (h : Rd w g p) (hb : Below w.heap.size w w') : Rd w' g p := by
  have hg := h.lt
  obtain ⟨a, m, cap, c0, c1, f1, hm, hx⟩ := h
  refine ⟨a, m, cap, ?_, ?_, ?_, hm, ?_⟩
  · rw [hb.cell (p := ⟨g, 0, none⟩) hg]; exact c0
  · rw [hb.cell (p := ⟨g, 1, none⟩) hg]; exact c1
  · rw [hb.frozen (p := ⟨g, 1, none⟩) hg]; exact f1
  · rcases hx with hx | ⟨b, off, rfl, hbg, hx⟩
    · exact .inl hx
    · refine .inr ⟨b, off, rfl, hbg, fun i hi => ?_⟩
      rw [hb.cell (p := ⟨b, off + i, none⟩) (Nat.lt_trans hbg hg)]; exact hx i hi

theorem Rd.step {w : World} {g p : Nat} (h : Rd w g p) (q : Nat) : Rd ((w.setCell ⟨g, 1, none⟩ (.int .i64 (p + 1))).drewN q) g (p + 1) := by
  obtain ⟨a, m, cap, c0, c1, f1, hm, hx⟩ := h
  refine ⟨a, m, cap, ?_, ?_, ?_, hm, ?_⟩
  · show (w.setCell ⟨g, 1, none⟩ (.int .i64 (p + 1))).cell? ⟨g, 0, none⟩ = _
    rw [World.cell?_setCell_other w _ _ _ (by intro h; cases h)]; exact c0
  · show (w.setCell ⟨g, 1, none⟩ (.int .i64 (p + 1))).cell? ⟨g, 1, none⟩ = _
    exact World.cell?_setCell_same' w _ _ (by rw [c1]; rfl)
  · show (w.setCell ⟨g, 1, none⟩ (.int .i64 (p + 1))).frozen? ⟨g, 1, none⟩ = _
    rw [World.frozen?_setCell]; exact f1
  · rcases hx with hx | ⟨b, off, rfl, hbg, hx⟩
    · exact .inl hx
    · refine .inr ⟨b, off, rfl, hbg, fun i hi => ?_⟩
      have : ((w.setCell ⟨g, 1, none⟩ (.int .i64 (p + 1))).drewN q).cell? ⟨b, off + i, none⟩ = w.cell? ⟨b, off + i, none⟩ := World.cell?_of_block (w := w) (Below.heap_setCell w _ _ b (by simp; omega))
      rw [this]; exact hx i hi

/-- One number picked, by the frame. -/
theorem pick_only (g p : Nat) (n : Int) (w : World) (hp : p < 1000000) (h : Rd w g p) :
    Calls Tryd.prog 44 #[.pointer (some ⟨g, 0, none⟩), .int .i64 n] w fun e w' => ∃ k, e = .returned (.int .i64 k) ∧ (n < 1 → k = 0) ∧ 0 ≤ k ∧ (1 ≤ n → k < n) ∧ Rd w' g (p + 1) ∧ Only g w w' ∧ w'.heap.size = w.heap.size := by
  refine (pick_any g p n w hp h).mono ?_
  rintro e w' ⟨k, q, rfl, h1, h2, h3, rfl⟩
  exact ⟨k, rfl, h1, h2, h3, h.step q, ((Only.refl g w).setCell 1 _).drewN q, by simp⟩

/-- Bytes at a, in a block below hi. -/
def BytesIn (w : World) (hi : Nat) (a : Option Addr) (n : Nat) : Prop :=
  n = 0 ∨ ∃ b off, a = some ⟨b, off, none⟩ ∧ b < hi ∧ ∀ i, i < n → ∃ x : Nat, x < 256 ∧ w.cell? ⟨b, off + i, none⟩ = some (.int .u8 x)

theorem BytesIn.keep {w w' : World} {hi : Nat} {a : Option Addr} {n : Nat} (h : BytesIn w hi a n) (hb : Below hi w w') : BytesIn w' hi a n := by
  rcases h with h | ⟨b, off, rfl, h1, h2⟩
  · exact .inl h
  · refine .inr ⟨b, off, rfl, h1, fun i hi => ?_⟩
    rw [hb.cell (p := ⟨b, off + i, none⟩) h1]; exact h2 i hi

theorem BytesIn.wider {w : World} {hi hi' : Nat} {a : Option Addr} {n : Nat} (h : BytesIn w hi a n) (hh : hi ≤ hi') : BytesIn w hi' a n := by
  rcases h with h | ⟨b, off, rfl, h1, h2⟩
  · exact .inl h
  · exact .inr ⟨b, off, rfl, by omega, h2⟩

theorem bytes_open {H : Type} {enc : TypeId × Value → H} {W : World} {a : Option Addr} {len cap : Nat} {d : DataW H} {p : List MemPlace} {sp : Nat → Bool} {hd : Bool}
    (h : DataW.Trod enc Tryd.prog W 0 sp hd 22 (.slice a len cap) d p) (hsp : sp = fun _ => true) : ∃ n : Nat, n = len ∧ n ≤ cap ∧ BytesIn W W.heap.size a n := by
  obtain ⟨fuel, hf⟩ := h
  rcases open_ints Tryd.underlying22 Tryd.underlying5 (by kernel_rfl) hf with ⟨hcs, _⟩ | ⟨x, l, c, zs, hcs, _, hl, hm, hz, hx, hcell, hwz⟩
  · simp [Value.cells] at hcs
    obtain ⟨rfl, rfl, rfl⟩ := hcs
    exact ⟨0, rfl, Nat.le_refl _, .inl rfl⟩
  · simp [Value.cells] at hcs
    obtain ⟨rfl, rfl, rfl⟩ := hcs
    subst hsp
    simp at hz
    refine ⟨len, rfl, hl, ?_⟩
    by_cases h0 : len = 0
    · exact .inl h0
    · obtain ⟨b, off, spot⟩ := x
      have hc := hcell 0 (by omega)
      have hspot : spot = none := by simpa [Addr.add] using World.cell?_spot hc
      subst hspot
      refine .inr ⟨b, off, rfl, cell_lt hc, fun i hi => ?_⟩
      have h1 := hcell i (by omega)
      rw [add_plain] at h1
      have hi2 : i < zs.length := by omega
      have hmem : zs.getD i 0 ∈ zs := by rw [List.getD_eq_getElem?_getD, List.getElem?_eq_getElem hi2]; exact List.getElem_mem _
      have h2 := hwz (zs.getD i 0) hmem
      have h3 : 0 ≤ zs.getD i 0 ∧ zs.getD i 0 < 256 := by
        generalize zs.getD i 0 = z at h2
        simp [Lit.wf, IntKind.min, IntKind.max, IntKind.bits, IntKind.signed] at h2
        omega
      exact ⟨(zs.getD i 0).toNat, by omega, by rw [h1]; congr 2; omega⟩

theorem rd_new (w : World) (a : Option Addr) (m n cap : Nat) (T : TypeId) (h : BytesIn w w.heap.size a n) (hm : m ≤ n) (h2 : m ≤ 2000) : Rd (w.alloc (.cells #[.slice a m cap, .int .i64 0] T)) w.heap.size 0 := by
  refine ⟨a, m, cap, by simp, by simp, by simp, h2, ?_⟩
  rcases h with h | ⟨b, off, rfl, h1, h3⟩
  · exact .inl (by omega)
  · refine .inr ⟨b, off, rfl, h1, fun i hi => ?_⟩
    rw [World.cell?_alloc_past _ _ _ h1]
    exact h3 i (by omega)

set_option maxHeartbeats 400000 in
theorem open_any (a : Option Addr) (cap n : Nat) (w : World) (hc : n ≤ cap) (h : BytesIn w w.heap.size a n) :
    Calls Tryd.prog 42 #[.slice a n cap] w fun e w' => e = .returned (.pointer (some ⟨w.heap.size, 0, none⟩)) ∧ Rd w' w.heap.size 0 ∧ Below w.heap.size w w' ∧ w'.heap.size = w.heap.size + 1 := by
  by_cases hn : 2000 < n
  · have h1 : (2000 : Int) < (n : Int) := by omega
    have h2 : (2000 : Int) ≤ (cap : Int) := by omega
    go_enter Tryd.func42, Tryd.ntmps42
    go_wp2_with fail
    go_ret
    exact ⟨rfl, rd_new w a 2000 n cap _ h (by omega) (by omega), (Below.refl _ _).alloc (Nat.le_refl _) _, by simp⟩
  · have h1 : (n : Int) ≤ 2000 := by omega
    go_enter Tryd.func42, Tryd.ntmps42
    go_wp2_with fail
    go_ret
    exact ⟨rfl, rd_new w a n n cap _ h (by omega) (by omega), (Below.refl _ _).alloc (Nat.le_refl _) _, by simp⟩

set_option maxHeartbeats 400000 in
theorem num_any (g p : Nat) (w : World) (hp : p < 1000000) (h : Rd w g p) (q len cap : Nat) (f : Nat → Int) (hq : q ≠ g) (hq2 : q < w.heap.size) (h0 : 0 < len) (hl : len < 1000000)
    (hx : ∀ i, i < len → w.cell? ⟨q, i, none⟩ = some (.int .i64 (f i))) :
    Calls Tryd.prog 66 #[.pointer (some ⟨g, 0, none⟩), .slice (some ⟨q, 0, none⟩) len cap] w fun e w' => ∃ k, k < len ∧ e = .returned (.int .i64 (f k)) ∧ Rd w' g (p + 1) ∧ Only g w w' ∧ w'.heap.size = w.heap.size := by
  go_enter Tryd.func66, Tryd.ntmps66
  go_wp2_with fail
  refine (pick_only g p _ w hp h).mono ?_
  rintro e w1 ⟨k, rfl, _, h1, h2, hr, ho, hs⟩
  obtain ⟨k, rfl⟩ := Int.eq_ofNat_of_zero_le h1
  have h3 : (k : Int) < (len : Int) := h2 (by omega)
  have c1 := ho.cell (o := k) hq hq2
  rw [hx k (by omega)] at c1
  clear h2 hx
  go_wp2_with fail
  go_ret
  exact ⟨k, by omega, rfl, hr, ho, hs⟩
end Go.Proofs.YtejkebfhiddhmaaDoor

/- A number of a list that was written out just now, drawn. -/
namespace Go.Proofs.YtejkebfhiddhmaaDoor
open Go.ChangeShapes Go.WideShapes Go.ChangeAt Go.RowKit
set_option linter.unusedVariables false

theorem cells_list (w : World) (l : List Int) (T : TypeId) (i : Nat) (hi : i < l.length) : (w.alloc (.cells (l.map (Value.int .i64)).toArray T)).cell? ⟨w.heap.size, i, none⟩ = some (.int .i64 (nAt l i)) := by
  simp [nAt, hi]

theorem Rd.alloc {w : World} {g p : Nat} (h : Rd w g p) (o : Obj) : Rd (w.alloc o) g p := h.keep ((Below.refl _ _).alloc (Nat.le_refl _) o)

/-- A number of a list that was written out just now. -/
theorem num_list (l : List Int) (g p q : Nat) (w : World) (T : TypeId) (hq : q = w.heap.size) (hp : p < 1000000) (h : Rd w g p) (h0 : 0 < l.length) (hl : l.length < 1000000) :
    Calls Tryd.prog 66 #[.pointer (some ⟨g, 0, none⟩), .slice (some ⟨q, 0, none⟩) l.length l.length] (w.alloc (.cells (l.map (Value.int .i64)).toArray T)) fun e w' =>
      ∃ k, k < l.length ∧ e = .returned (.int .i64 (nAt l k)) ∧ Rd w' g (p + 1) ∧ Only g w w' ∧ w'.heap.size = w.heap.size + 1 := by
  subst hq
  refine (num_any g p _ hp (h.alloc _) w.heap.size l.length l.length (nAt l) (Nat.ne_of_gt h.lt) (by simp) h0 hl (fun i hi => cells_list w l T i hi)).mono ?_
  rintro e w' ⟨k, hk, rfl, hr, ho, hs⟩
  exact ⟨k, hk, rfl, hr, ((Only.refl g w).alloc _).trans ho, by rw [hs]; simp⟩

theorem num_listD (l : List Int) (g p q : Nat) (w : World) (T : TypeId) (hq : q = w.heap.size) (hp : p < 1000000) (h : Rd w g p) (h0 : 0 < l.length) (hl : l.length < 1000000) :
    Calls Tryd.prog 66 #[.pointer (some ⟨g, 0, none⟩), .slice (some ⟨q, 0, none⟩) l.length l.length] (w.alloc (.cells (l.map (Value.int .i64)).toArray T)).drew fun e w' =>
      ∃ k, k < l.length ∧ e = .returned (.int .i64 (nAt l k)) ∧ Rd w' g (p + 1) ∧ Only g w w' ∧ w'.heap.size = w.heap.size + 1 := by
  subst hq
  have hr : Rd (w.alloc (.cells (l.map (Value.int .i64)).toArray T)).drew g p := h.alloc _
  refine (num_any g p _ hp hr w.heap.size l.length l.length (nAt l) (Nat.ne_of_gt h.lt) (by simp) h0 hl (fun i hi => cells_list w l T i hi)).mono ?_
  rintro e w' ⟨k, hk, rfl, hr, ho, hs⟩
  exact ⟨k, hk, rfl, hr, (((Only.refl g w).alloc _).drewN 1).trans ho, by rw [hs]; simp⟩
end Go.Proofs.YtejkebfhiddhmaaDoor

/- A field, drawn from bytes. -/
namespace Go.Proofs.YtejkebfhiddhmaaDoor
open Go.ChangeShapes Go.WideShapes Go.ChangeAt Go.RowKit
set_option linter.unusedVariables false

theorem cell_ne {w : World} {b b' o o' : Nat} (v : Value) (h : b ≠ b') : (w.setCell ⟨b', o', none⟩ v).cell? ⟨b, o, none⟩ = w.cell? ⟨b, o, none⟩ :=
  World.cell?_of_block (w := w) (Below.heap_setCell _ _ _ _ h)
theorem Rec.only {w w' : World} {g b : Nat} {T : TypeId} {vs : List Value} (h : Rec w b T vs) (ho : Only g w w') (hb : b ≠ g) : Rec w' b T vs := (ho.block b hb h.lt).trans h
theorem Only.setNew {g : Nat} {a w : World} (h : Only g a w) {b : Nat} (hb : a.heap.size ≤ b) (o : Nat) (v : Value) : Only g a (w.setCell ⟨b, o, Option.none⟩ v) :=
  ⟨h.none.setCell (Nat.zero_le _) v, fun k h1 h2 => (Below.heap_setCell w _ v k (by show k ≠ b; omega)).trans (h.block k h1 h2)⟩
theorem Rd.keep' {w w' : World} {g p : Nat} (h : Rd w g p) (hb : Below (g + 1) w w') : Rd w' g p := by
  obtain ⟨a, m, cap, c0, c1, f1, hm, hx⟩ := h
  have hg : g < g + 1 := Nat.lt_succ_self _
  refine ⟨a, m, cap, ?_, ?_, ?_, hm, ?_⟩
  · rw [hb.cell (p := ⟨g, 0, none⟩) hg]; exact c0
  · rw [hb.cell (p := ⟨g, 1, none⟩) hg]; exact c1
  · rw [hb.frozen (p := ⟨g, 1, none⟩) hg]; exact f1
  · rcases hx with hx | ⟨b, off, rfl, hbg, hx⟩
    · exact .inl hx
    · refine .inr ⟨b, off, rfl, hbg, fun i hi => ?_⟩
      rw [hb.cell (p := ⟨b, off + i, none⟩) (show b < g + 1 by omega)]; exact hx i hi

end Go.Proofs.YtejkebfhiddhmaaDoor

/- Rows of the call's own, kept where a reader turns. -/
namespace Go.Proofs.YtejkebfhiddhmaaDoor
open Go.ChangeShapes Go.WideShapes Go.ChangeAt Go.RowKit Go.Deep
set_option linter.unusedVariables false

theorem owns_only {w w' : World} {S e size n g : Nat} {v : Value} {xs : List Value} (h : w.ownsRow S e size v n xs) (ho : Only g w w') (hg : g < S) : w'.ownsRow S e size v n xs :=
  owns_of_block h fun k hk => ho.block k (by have := owns_base h k hk; omega) (owns_lt h k hk)
theorem Only.same {g lo hi : Nat} {w w' : World} (h : Only g w w') (hg : g < lo) (hh : hi ≤ w.heap.size) : Same lo hi w w' := fun k h1 h2 => h.block k (by omega) (by omega)
theorem Only.grown {g : Nat} {a w w' : World} {row : Option Nat} (h : Only g a w) (hg : w.grownBy w' row) (hr : ∀ k, row = some k → a.heap.size ≤ k) : Only g a w' :=
  ⟨h.none.grown hg (Nat.zero_le _) (fun _ _ => Nat.zero_le _), fun k h1 h2 => (hg.block k (Nat.lt_of_lt_of_le h2 h.size) (by intro e; have := hr k e.symm; omega)).trans (h.block k h1 h2)⟩
end Go.Proofs.YtejkebfhiddhmaaDoor

/- A field, drawn from bytes. -/
namespace Go.Proofs.YtejkebfhiddhmaaDoor
open Go.ChangeShapes Go.WideShapes Go.ChangeAt Go.RowKit
set_option linter.unusedVariables false

set_option maxHeartbeats 1000000 in
theorem l1Field_any (g p : Nat) (n : Int) (w : World) (hp : p < 900000) (h : Rd w g p) (hn : 0 ≤ n) (hn2 : n < 1000000) :
    Calls Tryd.prog 62 #[.pointer (some ⟨g, 0, none⟩), .int .i64 n] w fun e w' => ∃ (k o : Int) (m : Bool), e = .returned (.agg #[.int .i64 k, .int .i64 o, .bool m]) ∧ (∃ p', p' ≤ p + 3 ∧ Rd w' g p') ∧ Only g w w' := by
  have hg := h.lt
  go_enter Tryd.func62, Tryd.ntmps62
  go_wp2_with fail
  refine (num_list [1, 2, 2, 3, 1, 2] g p _ _ _ (by simp) (by omega) (h.alloc _) (by simp) (by simp)).mono ?_
  rintro e w2 ⟨k2, hk2, rfl, r2, o2, s2⟩
  have R2 : Hid (Rec w2 w.heap.size 35 [.int .i64 0, .int .i64 0, .bool false]) := (Rec.new' _ _ _ _ rfl).only o2 (Nat.ne_of_gt hg)
  have O2 : Hid (Only g w w2) := ((Only.refl g w).alloc _).trans o2
  generalize nAt [1, 2, 2, 3, 1, 2] k2 = kd
  clear o2 hk2 h
  simp only [World.size_alloc] at s2
  go_wp2_with fail
  refine (pick_only g (p + 1) _ w2 (by omega) r2).mono ?_
  rintro e w3 ⟨k3, rfl, _, _, _, r3, o3, s3⟩
  have R3 : Hid (Rec w3 w.heap.size 35 [.int .i64 0, .int .i64 0, .bool false]) := R2.out.only o3 (Nat.ne_of_gt hg)
  have O3 : Hid (Only g w w3) := O2.out.trans o3
  have c0 := R3.out.cell (o := 0) rfl
  have c1 := R3.out.cell (o := 1) rfl
  have c2 := R3.out.cell (o := 2) rfl
  have f0 := R3.out.frozen 0
  have f1 := R3.out.frozen 1
  have f2 := R3.out.frozen 2
  clear o3 r2
  have e3 : w3.heap.size = w.heap.size + 1 + 1 := by omega
  have y1 : w.heap.size < w3.heap.size := by omega
  clear s2 s3
  by_cases h1 : kd = 1
  · subst h1
    go_wp2_with fail
    refine bodyPost_ret (v := .agg #[.int .i64 1, .int .i64 0, .bool (k3 == 0)]) (by simp [results, Tryd.results62, go_sem, c0, c1, c2, y1]) rfl ⟨_, _, _, rfl, ⟨p + 2, by omega, ?_⟩, ?_⟩
    · refine r3.keep' ?_
      (repeat (first | refine Below.setCell ?_ (by simp <;> omega) _ | refine Below.alloc ?_ (by simp <;> omega) _ | exact Below.refl _ _))
    · (repeat (first | refine Only.setNew ?_ (by omega) _ _ | refine Only.alloc ?_ _ | exact O3.out))
  · have h1' : (kd == 1) = false := by simpa using h1
    go_wp2_with fail
    refine (pick_only g (p + 1 + 1) _ _ (by omega) (r3.alloc _)).mono ?_
    rintro e w4 ⟨k4, rfl, _, l4, u4, r4, o4, s4⟩
    have u4' := u4 (by omega)
    clear u4
    have R4 : Hid (Rec w4 w.heap.size 35 [.int .i64 0, .int .i64 0, .bool false]) := (R3.out.alloc _).only o4 (Nat.ne_of_gt hg)
    have S4 : Hid (Rec w4 (w.heap.size + 1 + 1) 35 [.int .i64 kd, .int .i64 0, .bool (k3 == 0)]) := (Rec.new' _ _ _ _ e3.symm).only o4 (by omega)
    have O4 : Hid (Only g w w4) := (O3.out.alloc _).trans o4
    have d0 := R4.out.cell (o := 0) rfl
    have d1 := R4.out.cell (o := 1) rfl
    have d2 := R4.out.cell (o := 2) rfl
    have e0 := R4.out.frozen 0
    have e1 := R4.out.frozen 1
    have e2 := R4.out.frozen 2
    have i0 := S4.out.cell (o := 0) rfl
    have i1 := S4.out.cell (o := 1) rfl
    have i2 := S4.out.cell (o := 2) rfl
    have j1 := S4.out.frozen 1
    clear c0 c1 c2 f0 f1 f2 o4
    go_wp2_with fail
    refine bodyPost_ret (v := .agg #[.int .i64 kd, .int .i64 (k4 - 2), .bool (k3 == 0)]) (by simp [results, Tryd.results62, go_sem, d0, d1, d2]) rfl ⟨_, _, _, rfl, ⟨p + 3, by omega, ?_⟩, ?_⟩
    · refine r4.keep' ?_
      (repeat (first | refine Below.setCell ?_ (by simp <;> omega) _ | exact Below.refl _ _))
    · (repeat (first | refine Only.setNew ?_ (by omega) _ _ | exact O4.out))

end Go.Proofs.YtejkebfhiddhmaaDoor

/- Rows of the draws' own: fields, types and groups that are grown by append; what is kept of them where other blocks turn. -/
namespace Go.Proofs.YtejkebfhiddhmaaDoor
open Go.ChangeShapes Go.WideShapes Go.ChangeAt Go.RowKit Go.Deep
set_option linter.unusedVariables false

theorem fcells_snoc (fs : List Fd) (f : Fd) : fcells (fs ++ [f]) = fcells fs ++ [.int .i64 f.kind, .int .i64 f.of, .bool f.mt] := by
  refine List.ext_getElem? fun j => ?_
  have hl := fcells_length fs
  by_cases h : j < fs.length * 3
  · rw [fcells_get _ _ (by simp; omega), List.getElem?_append_left (by omega), fcells_get _ _ h]
    have : fdAt (fs ++ [f]) (j / 3) = fdAt fs (j / 3) := by
      unfold fdAt
      simp [List.getElem?_append_left (show j / 3 < fs.length by omega)]
    rw [this]
  · by_cases h2 : j < fs.length * 3 + 3
    · rw [fcells_get _ _ (by simp; omega), List.getElem?_append_right (by omega), hl]
      have e : j / 3 = fs.length := by omega
      have : fdAt (fs ++ [f]) (j / 3) = f := by rw [e]; unfold fdAt; simp
      rw [this]
      have hr : j - fs.length * 3 = 0 ∨ j - fs.length * 3 = 1 ∨ j - fs.length * 3 = 2 := by omega
      rcases hr with hr | hr | hr
      · rw [hr, show j % 3 = 0 by omega]; rfl
      · rw [hr, show j % 3 = 1 by omega]; rfl
      · rw [hr, show j % 3 = 2 by omega]; rfl
    · rw [List.getElem?_eq_none_iff.2 (by rw [fcells_length]; simp; omega), List.getElem?_eq_none_iff.2 (by simp [hl]; omega)]

/-- The fields fs lie at a, in a row of the call's own from block S on. -/
def FieldRow (w : World) (S : Nat) (a : Option Addr) (cap : Nat) (fs : List Fd) : Prop := w.ownsRow S 35 3 (.slice a fs.length cap) fs.length (fcells fs)

theorem FieldRow.fields {w : World} {S cap : Nat} {a : Option Addr} {fs : List Fd} (h : FieldRow w S a cap fs) : FieldsIn w S w.heap.size a fs := by
  rcases owns_cells h with h0 | ⟨g, rfl, hS, hlt, hc⟩
  · exact .inl (List.length_eq_zero_iff.1 (by omega))
  · refine .inr ⟨g, 0, rfl, hS, hlt, fieldAt_of fun j hj => ?_⟩
    rw [Nat.zero_add, hc j hj, fcells_get _ _ hj]

theorem fdAt_snoc_left (l : List Fd) (f : Fd) (i : Nat) (h : i < l.length) : fdAt (l ++ [f]) i = fdAt l i := by
  unfold fdAt; simp [List.getElem?_append_left h]
theorem fdAt_snoc_last (l : List Fd) (f : Fd) : fdAt (l ++ [f]) l.length = f := by unfold fdAt; simp
end Go.Proofs.YtejkebfhiddhmaaDoor

/- l1Copy of the model, once more: the fields of the copy lie in a row of their own. -/
namespace Go.Proofs.YtejkebfhiddhmaaDoor
open Go.ChangeShapes Go.WideShapes Go.ChangeAt Go.RowKit Go.Deep
set_option linter.unusedVariables false

theorem empty_row (w : World) (S B : Nat) (e : TypeId) (size : Nat) (hB : w.heap[B]? = some (.cells #[] e (0, 0))) (hS : S ≤ B) : w.ownsRow S e size (.slice (some ⟨B, 0, none⟩) 0 0) 0 [] :=
  ⟨by simp, .inr ⟨B, 0, #[], rfl, hS, hB, Nat.le_refl _, Nat.zero_le _, by simp, by simp⟩⟩

/-- append of the fields fs to an empty list: a row of its own. -/
theorem run_append_row (ty : TypeId) (S B : Nat) (fa : Option Addr) (fc lo hi : Nat) (fs : List Fd) (w : World) (hn : fs.length ≤ 1048576) (hx : FieldsIn w lo hi fa fs) (hB : w.heap[B]? = some (.cells #[] 35 (0, 0))) (hS : S ≤ B) :
    ∃ na nc w', (Builtin.append_ #[26, 26] ty #[.slice (some ⟨B, 0, none⟩) 0 0, .slice fa fs.length fc]).run Tryd.prog w = .ok (.slice na fs.length nc) w' ∧ FieldRow w' S na nc fs ∧ Below w.heap.size w w' := by
  obtain ⟨i0, hi0, hzz⟩ := Option.map_eq_some_iff.1 Tryd.infoField
  simp only [Prod.mk.injEq] at hzz
  obtain ⟨hz0, hs0, hb0⟩ := hzz
  have hu := Tryd.underlying26
  have hBl : B < w.heap.size := (Array.getElem?_eq_some_iff.1 hB).1
  by_cases h0 : fs = []
  · subst h0
    refine ⟨some ⟨B, 0, none⟩, 0, w, ?_, empty_row w S B _ 3 hB hS, Below.refl _ _⟩
    have e1 : (Builtin.firstCells i0.size 0 (.slice fa 0 fc)).run Tryd.prog w = .ok #[] w := by
      cases fa with
      | none => exact run_firstCells_none w i0.size 0 0 fc
      | some ad => exact run_firstCells_some w i0.size 0 ad 0 fc [] (by simp) (fun j u h => by simp at h)
    simp [Builtin.append_, run_underlying hu, sizeOf, typeInfo, hi0, Builtin.lenOf, e1, storeCells]
  · obtain ⟨na, nc, w1, hr1, hf1, hb1⟩ := run_append_copy ty (some ⟨B, 0, none⟩) (.inr ⟨B, rfl⟩) fa fc lo hi fs w hn hx
    rcases hx with rfl | ⟨b, off, rfl, h1, h2, h3⟩
    · exact absurd rfl h0
    obtain ⟨v2, w2, hr2, ho2, _, _, _⟩ := run_append_own_at (P := Tryd.prog) w S 26 ty 35 i0 _ 3 24 hu hi0 hz0 hs0 hb0 (by rfl) (by decide) (.slice (some ⟨B, 0, none⟩) 0 0) 0 [] (empty_row w S B _ 3 hB hS) ⟨b, off, none⟩ fs.length fc (fcells fs) (fcells_length fs)
      (fun j u hj => by
        have hlt : j < fs.length * 3 := by have := (List.getElem?_eq_some_iff.1 hj).1; rwa [fcells_length] at this
        rw [fcells_get _ _ hlt] at hj
        rw [add_plain, fieldAt_cell h3 j hlt]
        exact hj) (fcells_one fs) (by unfold maxLen; omega) (by omega) (by omega)
    rw [hr1] at hr2
    injection hr2 with e1 e2
    subst e1 e2
    refine ⟨na, nc, w1, hr1, ?_, hb1⟩
    simpa [FieldRow] using ho2

theorem step_append_row {ops : Array Oper} {o : Oper} {a : Act} {K : Act → World → Prop} {Q : Exit → Act → World → Prop} {E : Prop} (w : World) (hgd : o.guard = none) (s x : Operand)
    (ho : o.op = .call { callee := .builtin .append, args := #[s, x], argTypes := #[26, 26] })
    (S B : Nat) (fa : Option Addr) (fc lo hi : Nat) (fs : List Fd) (hs : a.eval s = .slice (some ⟨B, 0, none⟩) 0 0) (hx : a.eval x = .slice fa fs.length fc) (hn : fs.length ≤ 1048576) (hf : FieldsIn w lo hi fa fs) (hB : w.heap[B]? = some (.cells #[] 35 (0, 0))) (hS : S ≤ B)
    (h : ∀ na nc w', FieldRow w' S na nc fs → Below w.heap.size w w' → K (a.put o.dst (.slice na fs.length nc)) w') :
    if Region.wanted o (yielded ops a.tmps) = true then Oper.wp Tryd.prog o a w K Q else E := by
  have hw : Region.wanted o (yielded ops a.tmps) = true := by simp [Region.wanted, hgd]
  rw [if_pos hw]
  obtain ⟨na, nc, w', hr, h2, h3⟩ := run_append_row o.type S B fa fc lo hi fs w hn hf hB hS
  unfold Oper.wp execOp
  simp only [ho, resolve, invoke, builtin, Sem.run_bind, Sem.run_pure, Result.andThen_ok, List.map_toArray, List.map_cons, List.map_nil, hs, hx, hr]
  exact h na nc w' h2 h3

set_option maxHeartbeats 400000 in
theorem l1Copy_row (fa : Option Addr) (fc lo hi : Nat) (t : Ty) (w : World) (hn : t.fields.length ≤ 1048576) (hx : FieldsIn w lo hi fa t.fields) (hh : hi ≤ w.heap.size) :
    Calls Tryd.prog 47 #[.agg #[.int .i64 t.kind, .int .i64 t.up, .bool t.last, .slice fa t.fields.length fc]] w fun e w' => ∃ na nc, e = .returned (.agg #[.int .i64 t.kind, .int .i64 t.up, .bool t.last, .slice na t.fields.length nc]) ∧ FieldRow w' w.heap.size na nc t.fields ∧ Below w.heap.size w w' := by
  have b0 : Hid (Below w.heap.size w ((((w.alloc (.cells #[.int .i64 t.kind, .int .i64 t.up, .bool t.last, .slice fa t.fields.length fc] 28)).alloc (.cells #[.int .i64 0, .int .i64 0, .bool false, .slice none 0 0] 28)).alloc (.cells #[] 35)).drew)) :=
    ((((Below.refl _ _).alloc (Nat.le_refl _) _).alloc (by simp) _).alloc (by simp; omega) _).drew
  have s2 : ((w.alloc (.cells #[.int .i64 t.kind, .int .i64 t.up, .bool t.last, .slice fa t.fields.length fc] 28)).alloc (.cells #[.int .i64 0, .int .i64 0, .bool false, .slice none 0 0] 28)).heap.size = w.heap.size + 1 + 1 := by simp
  have e0 : Hid (((((w.alloc (.cells #[.int .i64 t.kind, .int .i64 t.up, .bool t.last, .slice fa t.fields.length fc] 28)).alloc (.cells #[.int .i64 0, .int .i64 0, .bool false, .slice none 0 0] 28)).alloc (.cells #[] 35)).drew).heap[w.heap.size + 1 + 1]? = some (.cells #[] 35 (0, 0))) := by
    have := Deep.blk_alloc_new ((w.alloc (.cells #[.int .i64 t.kind, .int .i64 t.up, .bool t.last, .slice fa t.fields.length fc] 28)).alloc (.cells #[.int .i64 0, .int .i64 0, .bool false, .slice none 0 0] 28)) (.cells #[] 35)
    rw [s2] at this
    exact this
  clear s2
  go_enter Tryd.func47, Tryd.ntmps47
  go_wp2_with fail
  go_region_held3 (fun w' => w'.cell? ⟨w.heap.size, 0, none⟩ = some (.int .i64 t.kind) ∧ w'.cell? ⟨w.heap.size, 1, none⟩ = some (.int .i64 t.up) ∧ w'.cell? ⟨w.heap.size, 2, none⟩ = some (.bool t.last) ∧ w'.cell? ⟨w.heap.size, 3, none⟩ = some (.slice fa t.fields.length fc)) (go_keep)
    ((refine step_append_row _ (by rfl) _ _ (by rfl) (w.heap.size + 1 + 1) (w.heap.size + 1 + 1) fa fc lo hi t.fields (by rfl) (by rfl) hn (hx.keep (b0.out.mono hh)) e0.out (Nat.le_refl _) ?_; intro na nc w1 hf1 hb1; obtain ⟨q0, q1, q2, q3⟩ := copy_world w _ _ _ _ _ w1 hb1))
  go_wp2_with fail
  refine bodyPost_ret (v := .agg #[.int .i64 t.kind, .int .i64 t.up, .bool t.last, .slice na t.fields.length nc]) (by simp [results, Tryd.results47, go_sem, q1]) rfl ⟨na, nc, rfl, ?_, ?_⟩
  · refine owns_lower (owns_of_block hf1 fun k hk => ?_) (by omega)
    have := owns_base hf1 k hk
    rw [Below.heap_setCell _ _ _ _ (by simp; omega), Below.heap_setCell _ _ _ _ (by simp; omega), Below.heap_setCell _ _ _ _ (by simp; omega), Below.heap_setCell _ _ _ _ (by simp; omega)]
  · exact ((((b0.out.trans (hb1.mono (by simp; omega))).setCell (by simp) _).setCell (by simp) _).setCell (by simp) _).setCell (by simp) _
end Go.Proofs.YtejkebfhiddhmaaDoor

/- Rows of types and of groups of the draws' own; what is kept of them where blocks of other types turn; a field of a row turned. -/
namespace Go.Proofs.YtejkebfhiddhmaaDoor
open Go.ChangeShapes Go.WideShapes Go.ChangeAt Go.RowKit Go.Deep
set_option linter.unusedVariables false

/-- Blocks from S on of element type e hold what they held. -/
def KeepE (S : Nat) (e : TypeId) (w w' : World) : Prop := ∀ k cur, S ≤ k → w.heap[k]? = some (.cells cur e (0, 0)) → w'.heap[k]? = w.heap[k]?
theorem KeepE.below {S : Nat} {e : TypeId} {w w' : World} (h : Below w.heap.size w w') : KeepE S e w w' := fun k cur _ hk => h.block k (Array.getElem?_eq_some_iff.1 hk).1
theorem KeepE.only {S g : Nat} {e : TypeId} {w w' : World} (h : Only g w w') (hg : g < S) : KeepE S e w w' := fun k cur hS hk => h.block k (by omega) (Array.getElem?_eq_some_iff.1 hk).1
theorem KeepE.refl (S : Nat) (e : TypeId) (w : World) : KeepE S e w w := fun _ _ _ _ => rfl
theorem KeepE.trans {S : Nat} {e : TypeId} {a b c : World} (h : KeepE S e a b) (k : KeepE S e b c) : KeepE S e a c := fun i cur hS hi => (k i cur hS ((h i cur hS hi).trans hi)).trans (h i cur hS hi)
theorem KeepE.grown {S S' size n : Nat} {e e' : TypeId} {w w' : World} {v : Value} {xs : List Value} (ho : w.ownsRow S' e' size v n xs) (hg : w.grownBy w' v.ownBlock) (hne : e ≠ e') : KeepE S e w w' := fun k cur hS hk =>
  hg.block k (Array.getElem?_eq_some_iff.1 hk).1 (by
    intro h
    rcases ho.2 with ⟨rfl, _⟩ | ⟨g, cap', cur', rfl, _, hb, _⟩
    · simp [Value.ownBlock] at h
    · simp [Value.ownBlock] at h
      subst h
      rw [hk] at hb
      simp at hb
      exact hne hb.2)
/-- A cell of a block of another element type was turned. -/
theorem KeepE.set {S b o : Nat} {e e' : TypeId} {w : World} {c : Array Value} (v : Value) (hb : w.heap[b]? = some (.cells c e' (0, 0))) (hne : e ≠ e') : KeepE S e w (w.setCell ⟨b, o, none⟩ v) := fun k cur hS hk =>
  Below.heap_setCell _ _ _ _ (by
    intro h
    simp at h
    subst h
    rw [hk] at hb
    simp at hb
    exact hne hb.2)

theorem owns_keepE {S : Nat} {e : TypeId} {size n : Nat} {v : Value} {xs : List Value} {w w' : World} (h : w.ownsRow S e size v n xs) (hk : KeepE S e w w') : w'.ownsRow S e size v n xs := by
  refine ⟨h.1, ?_⟩
  rcases h.2 with h0 | ⟨g, cap', cur, rfl, hS, hg, h1⟩
  · exact .inl h0
  · exact .inr ⟨g, cap', cur, rfl, hS, (hk g cur hS hg).trans hg, h1⟩

/-- A type's four cells lie in a list of cells from o on, its fields in a row of their own. -/
def TvRow (w : World) (S : Nat) (xs : List Value) (o : Nat) (t : Ty) : Prop :=
  xs[o]? = some (.int .i64 t.kind) ∧ xs[o + 1]? = some (.int .i64 t.up) ∧ xs[o + 2]? = some (.bool t.last) ∧ ∃ fa fc, xs[o + 3]? = some (.slice fa t.fields.length fc) ∧ FieldRow w S fa fc t.fields
/-- The types ts lie at a, in a row of the call's own from block S on, and so do their fields. -/
def TRow (w : World) (S : Nat) (a : Option Addr) (cap : Nat) (ts : List Ty) : Prop :=
  ∃ xs, w.ownsRow S 28 4 (.slice a ts.length cap) ts.length xs ∧ ∀ i, i < ts.length → TvRow w S xs (i * 4) (tyAt ts i)

theorem TvRow.keep {w w' : World} {S : Nat} {xs : List Value} {o : Nat} {t : Ty} (h : TvRow w S xs o t) (hk : KeepE S 35 w w') : TvRow w' S xs o t := by
  obtain ⟨a, b, c, fa, fc, d, e⟩ := h
  exact ⟨a, b, c, fa, fc, d, owns_keepE e hk⟩
theorem TRow.keep {w w' : World} {S cap : Nat} {a : Option Addr} {ts : List Ty} (h : TRow w S a cap ts) (h1 : KeepE S 28 w w') (h2 : KeepE S 35 w w') : TRow w' S a cap ts := by
  obtain ⟨xs, ho, ht⟩ := h
  exact ⟨xs, owns_keepE ho h1, fun i hi => (ht i hi).keep h2⟩
theorem TRow.below {w w' : World} {S cap : Nat} {a : Option Addr} {ts : List Ty} (h : TRow w S a cap ts) (hb : Below w.heap.size w w') : TRow w' S a cap ts := h.keep (.below hb) (.below hb)
theorem FieldRow.lower {w : World} {S S' cap : Nat} {a : Option Addr} {fs : List Fd} (h : FieldRow w S a cap fs) (hS : S' ≤ S) : FieldRow w S' a cap fs := owns_lower h hS
theorem TRow.lower {w : World} {S S' cap : Nat} {a : Option Addr} {ts : List Ty} (h : TRow w S a cap ts) (hS : S' ≤ S) : TRow w S' a cap ts := by
  obtain ⟨xs, ho, ht⟩ := h
  refine ⟨xs, owns_lower ho hS, fun i hi => ?_⟩
  obtain ⟨a, b, c, fa, fc, d, e⟩ := ht i hi
  exact ⟨a, b, c, fa, fc, d, e.lower hS⟩
theorem TRow.types {w : World} {S cap : Nat} {a : Option Addr} {ts : List Ty} (h : TRow w S a cap ts) : TypesIn w S w.heap.size a ts := by
  obtain ⟨xs, ho, hT⟩ := h
  rcases owns_cells ho with h0 | ⟨g, rfl, hS, hlt, hc⟩
  · exact .inl (List.length_eq_zero_iff.1 (by omega))
  · refine .inr ⟨g, 0, rfl, hS, hlt, fun i hi => ?_⟩
    obtain ⟨a, b, c, fa, fc, d, e⟩ := hT i hi
    rw [Nat.zero_add]
    refine ⟨?_, ?_, ?_, fa, fc, ?_, e.fields⟩
    all_goals rw [hc _ (by omega)]; assumption

theorem TvRow.append {w : World} {S : Nat} {xs : List Value} {o : Nat} {t : Ty} (h : TvRow w S xs o t) (ys : List Value) : TvRow w S (xs ++ ys) o t := by
  obtain ⟨a, b, c, fa, fc, d, e⟩ := h
  have q : ∀ {k : Nat} {v : Value}, xs[k]? = some v → (xs ++ ys)[k]? = some v := fun {k v} hk => by
    have := (List.getElem?_eq_some_iff.1 hk).1
    rw [List.getElem?_append_left this]; exact hk
  exact ⟨q a, q b, q c, fa, fc, q d, e⟩
/-- One type more. -/
theorem TRow.snoc {w1 : World} {S cap' : Nat} {a' : Option Addr} {ts : List Ty} {t : Ty} {fa : Option Addr} {fc : Nat} {xs : List Value}
    (hT : ∀ i, i < ts.length → TvRow w1 S xs (i * 4) (tyAt ts i)) (hl : xs.length = ts.length * 4) (hf : FieldRow w1 S fa fc t.fields)
    (ho : w1.ownsRow S 28 4 (.slice a' (ts.length + 1) cap') (ts.length + 1) (xs ++ [.int .i64 t.kind, .int .i64 t.up, .bool t.last, .slice fa t.fields.length fc])) :
    TRow w1 S a' cap' (ts ++ [t]) := by
  refine ⟨_, by simpa using ho, fun i hi => ?_⟩
  by_cases e : i < ts.length
  · rw [tyAt_append_left _ _ _ e]
    exact (hT i e).append _
  · have : i = ts.length := by simp at hi; omega
    subst this
    rw [tyAt_append_one]
    refine ⟨?_, ?_, ?_, fa, fc, ?_, hf⟩ <;> simp [← hl]

/-- What a field of a row is to, turned. -/
def setOf (fs : List Fd) (k : Nat) (v : Int) : List Fd := fs.set k ⟨(fdAt fs k).kind, v, (fdAt fs k).mt⟩
theorem setOf_length (fs : List Fd) (k : Nat) (v : Int) : (setOf fs k v).length = fs.length := by simp [setOf]
theorem setOf_at (fs : List Fd) (k : Nat) (v : Int) (i : Nat) (hk : k < fs.length) : fdAt (setOf fs k v) i = if i = k then ⟨(fdAt fs k).kind, v, (fdAt fs k).mt⟩ else fdAt fs i := by
  unfold setOf
  simp only [fdAt, List.getD_eq_getElem?_getD, List.getElem?_set]
  by_cases e : k = i
  · subst e; simp [hk]
  · rw [if_neg e, if_neg (fun h => e h.symm)]
theorem fcells_setOf (fs : List Fd) (k : Nat) (v : Int) (hk : k < fs.length) : fcells (setOf fs k v) = (fcells fs).set (k * 3 + 1) (.int .i64 v) := by
  refine List.ext_getElem? fun j => ?_
  by_cases h : j < fs.length * 3
  · rw [fcells_get _ _ (by rw [setOf_length]; exact h), setOf_at _ _ _ _ hk, List.getElem?_set]
    by_cases e : k * 3 + 1 = j
    · subst e
      rw [if_pos (show (k * 3 + 1) / 3 = k by omega), if_pos rfl, if_pos (by rw [fcells_length]; exact h), show (k * 3 + 1) % 3 = 1 by omega]
      rfl
    · rw [if_neg e, fcells_get _ _ h]
      by_cases e2 : j / 3 = k
      · rw [if_pos e2, e2]
        have hr : j % 3 = 0 ∨ j % 3 = 2 := by omega
        rcases hr with hr | hr <;> rw [hr] <;> rfl
      · rw [if_neg e2]
  · rw [List.getElem?_eq_none_iff.2 (by rw [fcells_length, setOf_length]; omega), List.getElem?_eq_none_iff.2 (by rw [List.length_set, fcells_length]; omega)]
theorem FieldRow.setOf {w : World} {S b cap : Nat} {fs : List Fd} (h : FieldRow w S (some ⟨b, 0, none⟩) cap fs) (k : Nat) (v : Int) (hk : k < fs.length) : FieldRow (w.setCell ⟨b, k * 3 + 1, none⟩ (.int .i64 v)) S (some ⟨b, 0, none⟩) cap (YtejkebfhiddhmaaDoor.setOf fs k v) := by
  rcases h.2 with ⟨h0, _⟩ | ⟨g, cap', cur, h0, hS, hg, h1, h2, h3, h4⟩
  · simp at h0
  · simp at h0
    obtain ⟨rfl, rfl⟩ := h0
    refine ⟨by rw [fcells_length, setOf_length], .inr ⟨b, cap, cur.setIfInBounds (k * 3 + 1) (.int .i64 v), by rw [setOf_length], hS, ?_, by rw [setOf_length]; exact h1, h2, by simpa using h3, ?_⟩⟩
    · simp [World.setCell, Array.getElem?_modify, hg]
    · rw [fcells_setOf _ _ _ hk, ← h4, setOf_length, Array.toList_setIfInBounds, List.take_set]
end Go.Proofs.YtejkebfhiddhmaaDoor
