/- InsText of the program. -/
import Derived.Test.YtdicmlbgpbglpaaDoorOfImpl
import Derived.Test.YtdicmlbgpbglpaaDoorInsOk2
import Derived.Test.YtdicmlbgpbglpaaDoorSpecText
namespace Go.Proofs.YtdicmlbgpbglpaaDoor
open Go.ChangeShapes Go.WideShapes Go.ChangeAt Go.RowKit
set_option linter.unusedVariables false

theorem gWords : Tryd.prog.globalNamed "loop.example/lairage/impl.insWords" = some 1 := by kernel_rfl

/-- The program's table of words, as it is laid. -/
def wordsAt (w : World) : Prop := 1 < w.heap.size ∧ ∀ i, i < 34 → w.cell? ⟨1, i, none⟩ = some (.string ⟨(wordAt i).toArray⟩)

theorem wordsAt.keep {w w' : World} (h : wordsAt w) (hb : Below w.heap.size w w') : wordsAt w' :=
  ⟨Nat.lt_of_lt_of_le h.1 hb.size, fun i hi => by rw [hb.cell (p := ⟨1, i, none⟩) h.1]; exact h.2 i hi⟩

theorem implInsOk_at (op a b : Int) (c : Bool) (h : insOk op a b = c) (w : World) :
    Calls Tryd.prog 21 #[.agg #[.int .i64 op, .int .i64 a, .int .i64 b]] w fun e w' => e = .returned (.bool c) ∧ Below w.heap.size w w' := h ▸ implInsOk_any op a b w

theorem has_keep (op : Int) (n : Nat) (h : spanN op = n) (w0 w : World) (B0 : Below w0.heap.size w0 w) :
    Calls Tryd.prog 41 #[.int .i64 op] w fun e w' => e = .returned (.int .i64 n) ∧ (∀ q o v, w.cell? ⟨q, o, none⟩ = some v → w'.cell? ⟨q, o, none⟩ = some v) ∧ w.heap.size ≤ w'.heap.size ∧ Below w0.heap.size w0 w' := by
  refine (implInsHas_any op w).mono ?_
  rintro e w' ⟨rfl, hb⟩
  exact ⟨by rw [h], fun q o v hv => by rw [hb.cell (p := ⟨q, o, none⟩) (cell_lt hv)]; exact hv, hb.size, B0.trans (hb.mono B0.size)⟩

set_option maxHeartbeats 1000000 in
theorem implInsText_any (op a b : Int) (w : World) (ht : pow10 w) (hw : wordsAt w) :
    Calls Tryd.prog 19 #[.agg #[.int .i64 op, .int .i64 a, .int .i64 b]] w fun e w' => e = .returned (.string ⟨(insText op a b).toArray⟩) ∧ Below w.heap.size w w' := by
  cases hok : insOk op a b
  · have HT : Hid (insText op a b = []) := by simp [Hid, insText, hok]
    have HK := hide hok
    clear hok
    go_enter Tryd.func19, Tryd.ntmps19
    go_wp2_with fail
    refine (implInsOk_at _ _ _ _ HK.out _).mono ?_
    rintro e w1 ⟨rfl, b1⟩
    go_wp2_with fail
    go_ret
    exact ⟨by rw [HT.out]; rfl, ((Below.refl _ _).alloc (Nat.le_refl _) _).trans (b1.mono (by simp))⟩
  obtain ⟨k, rfl, k1, k2⟩ : ∃ k : Nat, op = (k : Int) ∧ 1 ≤ k ∧ k ≤ 33 := by
    have : 1 ≤ op ∧ op ≤ 33 := by simp [insOk] at hok; exact hok.1
    exact ⟨op.toNat, by omega, by omega, by omega⟩
  have q1 : (0 : Int) ≤ (k : Int) := by omega
  have q2 : (k : Int) < 34 := by omega
  have HK := hide hok
  go_enter Tryd.func19, Tryd.ntmps19
  go_wp2_with fail
  refine (implInsOk_at _ _ _ _ HK.out _).mono ?_
  rintro e w1 ⟨rfl, b1⟩
  have B1 : Below w.heap.size w w1 := ((Below.refl _ _).alloc (Nat.le_refl _) _).trans (b1.mono (by simp))
  obtain ⟨hc1, hf1⟩ := bcell b1
  have z1 := b1.size
  simp at z1
  have c0 := hc1 w.heap.size 0 (by simp)
  have c1 := hc1 w.heap.size 1 (by simp)
  have c2 := hc1 w.heap.size 2 (by simp)
  simp at c0 c1 c2
  have cw := (hw.keep B1).2 k (by omega)
  clear hc1 hf1 b1
  obtain ⟨n, hn⟩ : ∃ n, spanN (k : Int) = n := ⟨_, rfl⟩
  have hn2 : n ≤ 2 := by rw [← hn]; unfold spanN; split; omega; split <;> omega
  have n1 : (0 : Int) ≤ (n : Int) := by omega
  have n2 : (n : Int) ≤ 2 := by omega
  have HN := hide hn
  clear hn
  go_wp2_with fail
  go_region_held3 (fun w' => w'.cell? ⟨w.heap.size, 0, none⟩ = some (.int .i64 k) ∧ w'.cell? ⟨w.heap.size, 1, none⟩ = some (.int .i64 a) ∧ w'.cell? ⟨w.heap.size, 2, none⟩ = some (.int .i64 b) ∧ Below w.heap.size w w')
    (refine ⟨?_, ?_, ?_, ?_⟩ <;> first | assumption | exact B1.drew | go_keep | exact below_more (by assumption) _ | exact Below.drew (below_more B1 _))
    ((go_at_call 41; have hS := ‹(World.cell? _ ⟨w.heap.size, 0, none⟩ = some (.int .i64 k) ∧ _ ∧ _ ∧ Below w.heap.size w _)›; refine (has_keep _ _ HN.out w _ hS.2.2.2).mono ?_; rintro e w2 ⟨rfl, kp, zz, B2⟩; have d0 := kp _ _ _ hS.1; have d1 := kp _ _ _ hS.2.1; have d2 := kp _ _ _ hS.2.2.1))
  · have s0 := kp w1.heap.size 0 (.int .i64 a) (by simp)
    have s1 := kp w1.heap.size 1 (.int .i64 b) (by simp)
    have BW := B2
    rename_i hHeld
    clear hHeld kp hS d0 d1 d2 c0 c1 c2 cw zz z1 B1 B2
    generalize w1.heap.size = s at s0 s1 ⊢
    have tW := pow10_keep ht BW
    generalize w2 = W at s0 s1 BW tW ⊢
    rcases (by omega : n = 0 ∨ n = 1 ∨ n = 2) with rfl | rfl | rfl
    · have HT : Hid (insText k a b = wordAt k) := by simp [Hid, insText, hok, HN.out]
      clear hok
      go_wp2_with fail
      refine wp_loop_rounds 1 ?_
      rw [rounds_succ]
      go_wp2_with fail
      go_ret
      exact ⟨by rw [HT.out]; rfl, BW⟩
    · have HT : Hid (insText k a b = wordAt k ++ 32 :: ofTxt a) := by simp [Hid, insText, hok, HN.out]
      have hsm := insOk_small hok
      have hlo := (insOk_one hok HN.out).1
      have hl := ofTxt_len a hsm.1
      have hlw := wordAt_len k
      have hx1 := add_at [32] (ofTxt a) (32 :: ofTxt a) rfl (by simp) (by omega)
      have hx2 := add_at (wordAt k) (32 :: ofTxt a) (wordAt k ++ 32 :: ofTxt a) rfl (by omega) (by simp; omega)
      generalize wordAt k ++ 32 :: ofTxt a = x2 at hx2 HT
      obtain ⟨ta, eta⟩ : ∃ ta, ta = ofTxt a := ⟨_, rfl⟩
      have ETA := hide eta
      rw [← eta] at hx1 hx2
      obtain ⟨ya, eya⟩ : ∃ ya, ya = 32 :: ta := ⟨_, rfl⟩
      rw [← eya] at hx1 hx2
      clear hok hl hlw eta eya
      go_wp2_with fail
      refine wp_loop_rounds 2 ?_
      rw [rounds_succ]
      go_wp2_with fail
      refine (ofText_at a ta ETA.out W hlo hsm.1 tW).mono ?_
      rintro e w3 ⟨rfl, b3⟩
      go_wp2_with fail
      rw [rounds_succ]
      go_wp2_with fail
      go_ret
      exact ⟨by rw [HT.out]; rfl, BW.trans (b3.mono BW.size)⟩
    · have HT : Hid (insText k a b = wordAt k ++ 32 :: (ofTxt a ++ 32 :: ofTxt b)) := by simp [Hid, insText, hok, HN.out]
      obtain ⟨p1, p2, p3, p4⟩ := insOk_two hok HN.out
      have hla := ofTxt_len a (by omega)
      have hlb := ofTxt_len b (by omega)
      have hlw := wordAt_len k
      have hx1 := add_at [32] (ofTxt a) (32 :: ofTxt a) rfl (by simp) (by omega)
      have hx2 := add_at (wordAt k) (32 :: ofTxt a) (wordAt k ++ 32 :: ofTxt a) rfl (by omega) (by simp; omega)
      have hx3 := add_at [32] (ofTxt b) (32 :: ofTxt b) rfl (by simp) (by omega)
      have hx4 := add_at (wordAt k ++ 32 :: ofTxt a) (32 :: ofTxt b) (wordAt k ++ 32 :: (ofTxt a ++ 32 :: ofTxt b)) (by simp) (by simp; omega) (by simp; omega)
      generalize wordAt k ++ 32 :: (ofTxt a ++ 32 :: ofTxt b) = x4 at hx4 HT
      generalize wordAt k ++ 32 :: ofTxt a = x2 at hx2 hx4
      obtain ⟨ta, eta⟩ : ∃ ta, ta = ofTxt a := ⟨_, rfl⟩
      obtain ⟨tb, etb⟩ : ∃ tb, tb = ofTxt b := ⟨_, rfl⟩
      have ETA := hide eta
      have ETB := hide etb
      rw [← eta] at hx1 hx2
      rw [← etb] at hx3 hx4
      obtain ⟨ya, eya⟩ : ∃ ya, ya = 32 :: ta := ⟨_, rfl⟩
      obtain ⟨yb, eyb⟩ : ∃ yb, yb = 32 :: tb := ⟨_, rfl⟩
      rw [← eya] at hx1 hx2
      rw [← eyb] at hx3 hx4
      clear hok hla hlb hlw eta etb eya eyb
      go_wp2_with fail
      refine wp_loop_rounds 3 ?_
      rw [rounds_succ]
      go_wp2_with fail
      refine (ofText_at a ta ETA.out W (by omega) (by omega) tW).mono ?_
      rintro e w3 ⟨rfl, b3⟩
      have t1 : w3.cell? ⟨s, 1, none⟩ = some (.int .i64 b) := by rw [b3.cell (p := ⟨s, 1, none⟩) (cell_lt s1)]; exact s1
      have tW3 := pow10_keep tW b3
      go_wp2_with fail
      rw [rounds_succ]
      go_wp2_with fail
      refine (ofText_at b tb ETB.out w3 (by omega) (by omega) tW3).mono ?_
      rintro e w4 ⟨rfl, b4⟩
      go_wp2_with fail
      rw [rounds_succ]
      go_wp2_with fail
      go_ret
      exact ⟨by rw [HT.out]; rfl, (BW.trans (b3.mono BW.size)).trans (b4.mono (Nat.le_trans BW.size b3.size))⟩
  · have s0 : (w2.alloc (.cells #[.int .i64 a, .int .i64 b] 3)).cell? ⟨w2.heap.size, 0, none⟩ = some (.int .i64 a) := by simp
    have s1 : (w2.alloc (.cells #[.int .i64 a, .int .i64 b] 3)).cell? ⟨w2.heap.size, 1, none⟩ = some (.int .i64 b) := by simp
    have BW := below_more B2 (.cells #[.int .i64 a, .int .i64 b] 3)
    rename_i hHeld
    clear hHeld kp hS d0 d1 d2 c0 c1 c2 cw zz z1 B1 B2
    generalize w2.alloc (.cells #[.int .i64 a, .int .i64 b] 3) = W at s0 s1 BW ⊢
    generalize w2.heap.size = s at s0 s1 ⊢
    have tW := pow10_keep ht BW
    rcases (by omega : n = 0 ∨ n = 1 ∨ n = 2) with rfl | rfl | rfl
    · have HT : Hid (insText k a b = wordAt k) := by simp [Hid, insText, hok, HN.out]
      clear hok
      go_wp2_with fail
      refine wp_loop_rounds 1 ?_
      rw [rounds_succ]
      go_wp2_with fail
      go_ret
      exact ⟨by rw [HT.out]; rfl, BW⟩
    · have HT : Hid (insText k a b = wordAt k ++ 32 :: ofTxt a) := by simp [Hid, insText, hok, HN.out]
      have hsm := insOk_small hok
      have hlo := (insOk_one hok HN.out).1
      have hl := ofTxt_len a hsm.1
      have hlw := wordAt_len k
      have hx1 := add_at [32] (ofTxt a) (32 :: ofTxt a) rfl (by simp) (by omega)
      have hx2 := add_at (wordAt k) (32 :: ofTxt a) (wordAt k ++ 32 :: ofTxt a) rfl (by omega) (by simp; omega)
      generalize wordAt k ++ 32 :: ofTxt a = x2 at hx2 HT
      obtain ⟨ta, eta⟩ : ∃ ta, ta = ofTxt a := ⟨_, rfl⟩
      have ETA := hide eta
      rw [← eta] at hx1 hx2
      obtain ⟨ya, eya⟩ : ∃ ya, ya = 32 :: ta := ⟨_, rfl⟩
      rw [← eya] at hx1 hx2
      clear hok hl hlw eta eya
      go_wp2_with fail
      refine wp_loop_rounds 2 ?_
      rw [rounds_succ]
      go_wp2_with fail
      refine (ofText_at a ta ETA.out W hlo hsm.1 tW).mono ?_
      rintro e w3 ⟨rfl, b3⟩
      go_wp2_with fail
      rw [rounds_succ]
      go_wp2_with fail
      go_ret
      exact ⟨by rw [HT.out]; rfl, BW.trans (b3.mono BW.size)⟩
    · have HT : Hid (insText k a b = wordAt k ++ 32 :: (ofTxt a ++ 32 :: ofTxt b)) := by simp [Hid, insText, hok, HN.out]
      obtain ⟨p1, p2, p3, p4⟩ := insOk_two hok HN.out
      have hla := ofTxt_len a (by omega)
      have hlb := ofTxt_len b (by omega)
      have hlw := wordAt_len k
      have hx1 := add_at [32] (ofTxt a) (32 :: ofTxt a) rfl (by simp) (by omega)
      have hx2 := add_at (wordAt k) (32 :: ofTxt a) (wordAt k ++ 32 :: ofTxt a) rfl (by omega) (by simp; omega)
      have hx3 := add_at [32] (ofTxt b) (32 :: ofTxt b) rfl (by simp) (by omega)
      have hx4 := add_at (wordAt k ++ 32 :: ofTxt a) (32 :: ofTxt b) (wordAt k ++ 32 :: (ofTxt a ++ 32 :: ofTxt b)) (by simp) (by simp; omega) (by simp; omega)
      generalize wordAt k ++ 32 :: (ofTxt a ++ 32 :: ofTxt b) = x4 at hx4 HT
      generalize wordAt k ++ 32 :: ofTxt a = x2 at hx2 hx4
      obtain ⟨ta, eta⟩ : ∃ ta, ta = ofTxt a := ⟨_, rfl⟩
      obtain ⟨tb, etb⟩ : ∃ tb, tb = ofTxt b := ⟨_, rfl⟩
      have ETA := hide eta
      have ETB := hide etb
      rw [← eta] at hx1 hx2
      rw [← etb] at hx3 hx4
      obtain ⟨ya, eya⟩ : ∃ ya, ya = 32 :: ta := ⟨_, rfl⟩
      obtain ⟨yb, eyb⟩ : ∃ yb, yb = 32 :: tb := ⟨_, rfl⟩
      rw [← eya] at hx1 hx2
      rw [← eyb] at hx3 hx4
      clear hok hla hlb hlw eta etb eya eyb
      go_wp2_with fail
      refine wp_loop_rounds 3 ?_
      rw [rounds_succ]
      go_wp2_with fail
      refine (ofText_at a ta ETA.out W (by omega) (by omega) tW).mono ?_
      rintro e w3 ⟨rfl, b3⟩
      have t1 : w3.cell? ⟨s, 1, none⟩ = some (.int .i64 b) := by rw [b3.cell (p := ⟨s, 1, none⟩) (cell_lt s1)]; exact s1
      have tW3 := pow10_keep tW b3
      go_wp2_with fail
      rw [rounds_succ]
      go_wp2_with fail
      refine (ofText_at b tb ETB.out w3 (by omega) (by omega) tW3).mono ?_
      rintro e w4 ⟨rfl, b4⟩
      go_wp2_with fail
      rw [rounds_succ]
      go_wp2_with fail
      go_ret
      exact ⟨by rw [HT.out]; rfl, (BW.trans (b3.mono BW.size)).trans (b4.mono (Nat.le_trans BW.size b3.size))⟩
end Go.Proofs.YtdicmlbgpbglpaaDoor
