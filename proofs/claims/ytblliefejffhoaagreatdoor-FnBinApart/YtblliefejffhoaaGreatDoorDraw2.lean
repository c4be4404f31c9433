/- The reader's frame: what else is kept while numbers are drawn; opening a reader; a number of a list. -/
import Derived.Test.YtblliefejffhoaaGreatDoorDraw
import Derived.Test.YtblliefejffhoaaGreatDoorIntList
namespace Go.Proofs.YtblliefejffhoaaGreatDoor
open Go.ChangeShapes Go.WideShapes Go.ChangeAt Go.RowKit
set_option linter.unusedVariables false

/-- All blocks that were there are as they were, but block g; there may be new ones. -/
structure Only (g : Nat) (w w' : World) : Prop where
  none : Below 0 w w'
  block : ∀ k, k ≠ g → k < w.heap.size → w'.heap[k]? = w.heap[k]?

theorem Only.refl (g : Nat) (w : World) : Only g w w := ⟨Below.refl _ _, fun _ _ _ => rfl⟩
theorem Only.size {g : Nat} {w w' : World} (h : Only g w w') : w.heap.size ≤ w'.heap.size := h.none.size
theorem Only.trans {g : Nat} {a b c : World} (h : Only g a b) (k : Only g b c) : Only g a c :=
  ⟨h.none.trans k.none, fun i h1 h2 => (k.block i h1 (Nat.lt_of_lt_of_le h2 h.size)).trans (h.block i h1 h2)⟩
theorem Only.of_below {g : Nat} {w w' : World} (h : Below w.heap.size w w') : Only g w w' := ⟨h.mono (Nat.zero_le _), fun k _ h2 => h.block k h2⟩
theorem Only.below {g B : Nat} {w w' : World} (h : Only g w w') (hB : B ≤ g) (hs : B ≤ w.heap.size) : Below B w w' :=
  ⟨h.none.os, h.none.tape, h.none.output, h.none.size, fun k hk => h.block k (by omega) (by omega)⟩
theorem Only.cell {g : Nat} {w w' : World} (h : Only g w w') {b o : Nat} (h1 : b ≠ g) (h2 : b < w.heap.size) : w'.cell? ⟨b, o, Option.none⟩ = w.cell? ⟨b, o, Option.none⟩ :=
  World.cell?_of_block (w := w) (h.block b h1 h2)
theorem Only.alloc {g : Nat} {a w : World} (h : Only g a w) (o : Obj) : Only g a (w.alloc o) :=
  h.trans (Only.of_below ((Below.refl _ _).alloc (Nat.le_refl _) o))
theorem Only.drewN {g : Nat} {a w : World} (h : Only g a w) (q : Nat) : Only g a (w.drewN q) := ⟨below_drewN h.none q, h.block⟩
theorem Only.setCell {g : Nat} {a w : World} (h : Only g a w) (o : Nat) (v : Value) : Only g a (w.setCell ⟨g, o, Option.none⟩ v) :=
  ⟨h.none.setCell (Nat.zero_le _) v, fun k h1 h2 => (Below.heap_setCell w _ v k h1).trans (h.block k h1 h2)⟩

theorem Rd.lt {w : World} {g p : Nat} (h : Rd w g p) : g < w.heap.size := by
  obtain ⟨a, m, cap, c0, _⟩ := h
  exact cell_lt c0

/-- A reader stays what it is where its block and those ahead of it are kept. -/
theorem Rd.keep {w w' : World} {g p : Nat} (h : Rd w g p) (hb : Below w.heap.size w w') : Rd w' g p := by
  have hg := h.lt
  obtain ⟨a, m, cap, c0, c1, f1, hm, hx⟩ := h
  refine ⟨a, m, cap, ?_, ?_, ?_, hm, ?_⟩
  · rw [hb.cell (p := ⟨g, 0, none⟩) hg]; exact c0
  · rw [hb.cell (p := ⟨g, 1, none⟩) hg]; exact c1
  · rw [hb.frozen (p := ⟨g, 1, none⟩) hg]; exact f1
  · rcases hx with hx | ⟨b, off, rfl, hbg, hx⟩
    · exact .inl hx
    · refine .inr ⟨b, off, rfl, hbg, fun i hi => ?_⟩
      rw [hb.cell (p := ⟨b, off + i, none⟩) (Nat.lt_trans hbg hg)]; exact hx i hi

theorem Rd.step {w : World} {g p : Nat} (h : Rd w g p) (q : Nat) : Rd ((w.setCell ⟨g, 1, none⟩ (.int .i64 (p + 1))).drewN q) g (p + 1) := by
  obtain ⟨a, m, cap, c0, c1, f1, hm, hx⟩ := h
  refine ⟨a, m, cap, ?_, ?_, ?_, hm, ?_⟩
  · show (w.setCell ⟨g, 1, none⟩ (.int .i64 (p + 1))).cell? ⟨g, 0, none⟩ = _
    rw [World.cell?_setCell_other w _ _ _ (by intro h; cases h)]; exact c0
  · show (w.setCell ⟨g, 1, none⟩ (.int .i64 (p + 1))).cell? ⟨g, 1, none⟩ = _
    exact World.cell?_setCell_same' w _ _ (by rw [c1]; rfl)
  · show (w.setCell ⟨g, 1, none⟩ (.int .i64 (p + 1))).frozen? ⟨g, 1, none⟩ = _
    rw [World.frozen?_setCell]; exact f1
  · rcases hx with hx | ⟨b, off, rfl, hbg, hx⟩
    · exact .inl hx
    · refine .inr ⟨b, off, rfl, hbg, fun i hi => ?_⟩
      have : ((w.setCell ⟨g, 1, none⟩ (.int .i64 (p + 1))).drewN q).cell? ⟨b, off + i, none⟩ = w.cell? ⟨b, off + i, none⟩ := World.cell?_of_block (w := w) (Below.heap_setCell w _ _ b (by simp; omega))
      rw [this]; exact hx i hi

/-- One number picked, by the frame. -/
theorem pick_only (g p : Nat) (n : Int) (w : World) (hp : p < 1000000) (h : Rd w g p) :
    Calls Tryz.prog 32 #[.pointer (some ⟨g, 0, none⟩), .int .i64 n] w fun e w' => ∃ k, e = .returned (.int .i64 k) ∧ (n < 1 → k = 0) ∧ 0 ≤ k ∧ (1 ≤ n → k < n) ∧ Rd w' g (p + 1) ∧ Only g w w' ∧ w'.heap.size = w.heap.size := by
  refine (pick_any g p n w hp h).mono ?_
  rintro e w' ⟨k, q, rfl, h1, h2, h3, rfl⟩
  exact ⟨k, rfl, h1, h2, h3, h.step q, ((Only.refl g w).setCell 1 _).drewN q, by simp⟩

/-- Bytes at a, in a block below hi. -/
def BytesIn (w : World) (hi : Nat) (a : Option Addr) (n : Nat) : Prop :=
  n = 0 ∨ ∃ b off, a = some ⟨b, off, none⟩ ∧ b < hi ∧ ∀ i, i < n → ∃ x : Nat, x < 256 ∧ w.cell? ⟨b, off + i, none⟩ = some (.int .u8 x)

theorem BytesIn.keep {w w' : World} {hi : Nat} {a : Option Addr} {n : Nat} (h : BytesIn w hi a n) (hb : Below hi w w') : BytesIn w' hi a n := by
  rcases h with h | ⟨b, off, rfl, h1, h2⟩
  · exact .inl h
  · refine .inr ⟨b, off, rfl, h1, fun i hi => ?_⟩
    rw [hb.cell (p := ⟨b, off + i, none⟩) h1]; exact h2 i hi

theorem BytesIn.wider {w : World} {hi hi' : Nat} {a : Option Addr} {n : Nat} (h : BytesIn w hi a n) (hh : hi ≤ hi') : BytesIn w hi' a n := by
  rcases h with h | ⟨b, off, rfl, h1, h2⟩
  · exact .inl h
  · exact .inr ⟨b, off, rfl, by omega, h2⟩

theorem bytes_open {H : Type} {enc : TypeId × Value → H} {W : World} {a : Option Addr} {len cap : Nat} {d : DataW H} {p : List MemPlace} {sp : Nat → Bool} {hd : Bool}
    (h : DataW.Trod enc Tryz.prog W 0 sp hd 22 (.slice a len cap) d p) (hsp : sp = fun _ => true) : ∃ n : Nat, n = len ∧ n ≤ cap ∧ BytesIn W W.heap.size a n := by
  obtain ⟨fuel, hf⟩ := h
  rcases open_ints Tryz.underlying22 Tryz.underlying5 (by kernel_rfl) hf with ⟨hcs, _⟩ | ⟨x, l, c, zs, hcs, _, hl, hm, hz, hx, hcell, hwz⟩
  · simp [Value.cells] at hcs
    obtain ⟨rfl, rfl, rfl⟩ := hcs
    exact ⟨0, rfl, Nat.le_refl _, .inl rfl⟩
  · simp [Value.cells] at hcs
    obtain ⟨rfl, rfl, rfl⟩ := hcs
    subst hsp
    simp at hz
    refine ⟨len, rfl, hl, ?_⟩
    by_cases h0 : len = 0
    · exact .inl h0
    · obtain ⟨b, off, spot⟩ := x
      have hc := hcell 0 (by omega)
      have hspot : spot = none := by simpa [Addr.add] using World.cell?_spot hc
      subst hspot
      refine .inr ⟨b, off, rfl, cell_lt hc, fun i hi => ?_⟩
      have h1 := hcell i (by omega)
      rw [add_plain] at h1
      have hi2 : i < zs.length := by omega
      have hmem : zs.getD i 0 ∈ zs := by rw [List.getD_eq_getElem?_getD, List.getElem?_eq_getElem hi2]; exact List.getElem_mem _
      have h2 := hwz (zs.getD i 0) hmem
      have h3 : 0 ≤ zs.getD i 0 ∧ zs.getD i 0 < 256 := by
        generalize zs.getD i 0 = z at h2
        simp [Lit.wf, IntKind.min, IntKind.max, IntKind.bits, IntKind.signed] at h2
        omega
      exact ⟨(zs.getD i 0).toNat, by omega, by rw [h1]; congr 2; omega⟩

theorem rd_new (w : World) (a : Option Addr) (m n cap : Nat) (T : TypeId) (h : BytesIn w w.heap.size a n) (hm : m ≤ n) (h2 : m ≤ 2000) : Rd (w.alloc (.cells #[.slice a m cap, .int .i64 0] T)) w.heap.size 0 := by
  refine ⟨a, m, cap, by simp, by simp, by simp, h2, ?_⟩
  rcases h with h | ⟨b, off, rfl, h1, h3⟩
  · exact .inl (by omega)
  · refine .inr ⟨b, off, rfl, h1, fun i hi => ?_⟩
    rw [World.cell?_alloc_past _ _ _ h1]
    exact h3 i (by omega)

set_option maxHeartbeats 400000 in
theorem open_any (a : Option Addr) (cap n : Nat) (w : World) (hc : n ≤ cap) (h : BytesIn w w.heap.size a n) :
    Calls Tryz.prog 29 #[.slice a n cap] w fun e w' => e = .returned (.pointer (some ⟨w.heap.size, 0, none⟩)) ∧ Rd w' w.heap.size 0 ∧ Below w.heap.size w w' ∧ w'.heap.size = w.heap.size + 1 := by
  by_cases hn : 2000 < n
  · have h1 : (2000 : Int) < (n : Int) := by omega
    have h2 : (2000 : Int) ≤ (cap : Int) := by omega
    go_enter Tryz.func29, Tryz.ntmps29
    go_wp2_with fail
    go_ret
    exact ⟨rfl, rd_new w a 2000 n cap _ h (by omega) (by omega), (Below.refl _ _).alloc (Nat.le_refl _) _, by simp⟩
  · have h1 : (n : Int) ≤ 2000 := by omega
    go_enter Tryz.func29, Tryz.ntmps29
    go_wp2_with fail
    go_ret
    exact ⟨rfl, rd_new w a n n cap _ h (by omega) (by omega), (Below.refl _ _).alloc (Nat.le_refl _) _, by simp⟩

set_option maxHeartbeats 400000 in
theorem num_any (g p : Nat) (w : World) (hp : p < 1000000) (h : Rd w g p) (q len cap : Nat) (f : Nat → Int) (hq : q ≠ g) (hq2 : q < w.heap.size) (h0 : 0 < len) (hl : len < 1000000)
    (hx : ∀ i, i < len → w.cell? ⟨q, i, none⟩ = some (.int .i64 (f i))) :
    Calls Tryz.prog 105 #[.pointer (some ⟨g, 0, none⟩), .slice (some ⟨q, 0, none⟩) len cap] w fun e w' => ∃ k, k < len ∧ e = .returned (.int .i64 (f k)) ∧ Rd w' g (p + 1) ∧ Only g w w' ∧ w'.heap.size = w.heap.size := by
  go_enter Tryz.func105, Tryz.ntmps105
  go_wp2_with fail
  refine (pick_only g p _ w hp h).mono ?_
  rintro e w1 ⟨k, rfl, _, h1, h2, hr, ho, hs⟩
  obtain ⟨k, rfl⟩ := Int.eq_ofNat_of_zero_le h1
  have h3 : (k : Int) < (len : Int) := h2 (by omega)
  have c1 := ho.cell (o := k) hq hq2
  rw [hx k (by omega)] at c1
  clear h2 hx
  go_wp2_with fail
  go_ret
  exact ⟨k, by omega, rfl, hr, ho, hs⟩
end Go.Proofs.YtblliefejffhoaaGreatDoor
