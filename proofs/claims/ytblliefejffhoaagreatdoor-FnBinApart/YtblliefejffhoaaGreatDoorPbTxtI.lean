/- PbTxtI: InsOk2, ImplText, PTxtI, SRow, PTxtI2, JoinRow, PTxtI3. -/
import Derived.Test.YtblliefejffhoaaGreatDoorPbOk
import Derived.Test.YtblliefejffhoaaGreatDoorPbTxt
import Derived.Test.YtblliefejffhoaaGreatDoorRowB
import Derived.Deep.RegionHeld3
import Derived.Shelf.Strings.OnBuilder
import Derived.Shelf.Lay
import Derived.Ground.NamesProg
import Derived.BigCall
/- InsHas of the program, and InsOk. -/
namespace Go.Proofs.YtblliefejffhoaaGreatDoor
open Go.ChangeShapes Go.WideShapes Go.ChangeAt Go.RowKit
set_option linter.unusedVariables false

set_option maxHeartbeats 400000 in
theorem implInsHas_any (op : Int) (w : World) :
    Calls Tryz.prog 90 #[.int .i64 op] w fun e w' => e = .returned (.int .i64 (spanN op)) ∧ Below w.heap.size w w' := by
  go_enter Tryz.func90, Tryz.ntmps90
  go_wp2_with fail
  refine (insSpans_any _ _).mono ?_
  rintro e w1 ⟨a1, rfl, hs1, hb1⟩
  go_wp2_with fail
  go_ret
  exact ⟨rfl, hb1⟩
end Go.Proofs.YtblliefejffhoaaGreatDoor

/- InsText of the program. -/
namespace Go.Proofs.YtblliefejffhoaaGreatDoor
open Go.ChangeShapes Go.WideShapes Go.ChangeAt Go.RowKit
set_option linter.unusedVariables false

theorem gWords : Tryz.prog.globalNamed "loop.example/lairage/impl.insWords" = some 1 := by kernel_rfl

/-- The program's table of words, as it is laid. -/
def wordsAt (w : World) : Prop := 1 < w.heap.size ∧ ∀ i, i < 34 → w.cell? ⟨1, i, none⟩ = some (.string ⟨(wordAt i).toArray⟩)

theorem wordsAt.keep {w w' : World} (h : wordsAt w) (hb : Below w.heap.size w w') : wordsAt w' :=
  ⟨Nat.lt_of_lt_of_le h.1 hb.size, fun i hi => by rw [hb.cell (p := ⟨1, i, none⟩) h.1]; exact h.2 i hi⟩

theorem implInsOk_at (op a b : Int) (c : Bool) (h : insOk op a b = c) (w : World) :
    Calls Tryz.prog 75 #[.agg #[.int .i64 op, .int .i64 a, .int .i64 b]] w fun e w' => e = .returned (.bool c) ∧ Below w.heap.size w w' := h ▸ implInsOk_any op a b w

theorem has_keep (op : Int) (n : Nat) (h : spanN op = n) (w0 w : World) (B0 : Below w0.heap.size w0 w) :
    Calls Tryz.prog 90 #[.int .i64 op] w fun e w' => e = .returned (.int .i64 n) ∧ (∀ q o v, w.cell? ⟨q, o, none⟩ = some v → w'.cell? ⟨q, o, none⟩ = some v) ∧ w.heap.size ≤ w'.heap.size ∧ Below w0.heap.size w0 w' := by
  refine (implInsHas_any op w).mono ?_
  rintro e w' ⟨rfl, hb⟩
  exact ⟨by rw [h], fun q o v hv => by rw [hb.cell (p := ⟨q, o, none⟩) (cell_lt hv)]; exact hv, hb.size, B0.trans (hb.mono B0.size)⟩

set_option maxHeartbeats 1000000 in
theorem implInsText_any (op a b : Int) (w : World) (ht : pow10 w) (hw : wordsAt w) :
    Calls Tryz.prog 55 #[.agg #[.int .i64 op, .int .i64 a, .int .i64 b]] w fun e w' => e = .returned (.string ⟨(insText op a b).toArray⟩) ∧ Below w.heap.size w w' := by
  cases hok : insOk op a b
  · have HT : Hid (insText op a b = []) := by simp [Hid, insText, hok]
    have HK := hide hok
    clear hok
    go_enter Tryz.func55, Tryz.ntmps55
    go_wp2_with fail
    refine (implInsOk_at _ _ _ _ HK.out _).mono ?_
    rintro e w1 ⟨rfl, b1⟩
    go_wp2_with fail
    go_ret
    exact ⟨by rw [HT.out]; rfl, ((Below.refl _ _).alloc (Nat.le_refl _) _).trans (b1.mono (by simp))⟩
  obtain ⟨k, rfl, k1, k2⟩ : ∃ k : Nat, op = (k : Int) ∧ 1 ≤ k ∧ k ≤ 33 := by
    have : 1 ≤ op ∧ op ≤ 33 := by simp [insOk] at hok; exact hok.1
    exact ⟨op.toNat, by omega, by omega, by omega⟩
  have q1 : (0 : Int) ≤ (k : Int) := by omega
  have q2 : (k : Int) < 34 := by omega
  have HK := hide hok
  go_enter Tryz.func55, Tryz.ntmps55
  go_wp2_with fail
  refine (implInsOk_at _ _ _ _ HK.out _).mono ?_
  rintro e w1 ⟨rfl, b1⟩
  have B1 : Below w.heap.size w w1 := ((Below.refl _ _).alloc (Nat.le_refl _) _).trans (b1.mono (by simp))
  obtain ⟨hc1, hf1⟩ := bcell b1
  have z1 := b1.size
  simp at z1
  have c0 := hc1 w.heap.size 0 (by simp)
  have c1 := hc1 w.heap.size 1 (by simp)
  have c2 := hc1 w.heap.size 2 (by simp)
  simp at c0 c1 c2
  have cw := (hw.keep B1).2 k (by omega)
  clear hc1 hf1 b1
  obtain ⟨n, hn⟩ : ∃ n, spanN (k : Int) = n := ⟨_, rfl⟩
  have hn2 : n ≤ 2 := by rw [← hn]; unfold spanN; split; omega; split <;> omega
  have n1 : (0 : Int) ≤ (n : Int) := by omega
  have n2 : (n : Int) ≤ 2 := by omega
  have HN := hide hn
  clear hn
  go_wp2_with fail
  go_region_held3 (fun w' => w'.cell? ⟨w.heap.size, 0, none⟩ = some (.int .i64 k) ∧ w'.cell? ⟨w.heap.size, 1, none⟩ = some (.int .i64 a) ∧ w'.cell? ⟨w.heap.size, 2, none⟩ = some (.int .i64 b) ∧ Below w.heap.size w w')
    (refine ⟨?_, ?_, ?_, ?_⟩ <;> first | assumption | exact B1.drew | go_keep | exact below_more (by assumption) _ | exact Below.drew (below_more B1 _))
    ((go_at_call 90; have hS := ‹(World.cell? _ ⟨w.heap.size, 0, none⟩ = some (.int .i64 k) ∧ _ ∧ _ ∧ Below w.heap.size w _)›; refine (has_keep _ _ HN.out w _ hS.2.2.2).mono ?_; rintro e w2 ⟨rfl, kp, zz, B2⟩; have d0 := kp _ _ _ hS.1; have d1 := kp _ _ _ hS.2.1; have d2 := kp _ _ _ hS.2.2.1))
  · have s0 := kp w1.heap.size 0 (.int .i64 a) (by simp)
    have s1 := kp w1.heap.size 1 (.int .i64 b) (by simp)
    have BW := B2
    rename_i hHeld
    clear hHeld kp hS d0 d1 d2 c0 c1 c2 cw zz z1 B1 B2
    generalize w1.heap.size = s at s0 s1 ⊢
    have tW := pow10_keep ht BW
    generalize w2 = W at s0 s1 BW tW ⊢
    rcases (by omega : n = 0 ∨ n = 1 ∨ n = 2) with rfl | rfl | rfl
    · have HT : Hid (insText k a b = wordAt k) := by simp [Hid, insText, hok, HN.out]
      clear hok
      go_wp2_with fail
      refine wp_loop_rounds 1 ?_
      rw [rounds_succ]
      go_wp2_with fail
      go_ret
      exact ⟨by rw [HT.out]; rfl, BW⟩
    · have HT : Hid (insText k a b = wordAt k ++ 32 :: ofTxt a) := by simp [Hid, insText, hok, HN.out]
      have hsm := insOk_small hok
      have hlo := (insOk_one hok HN.out).1
      have hl := ofTxt_len a hsm.1
      have hlw := wordAt_len k
      have hx1 := add_at [32] (ofTxt a) (32 :: ofTxt a) rfl (by simp) (by omega)
      have hx2 := add_at (wordAt k) (32 :: ofTxt a) (wordAt k ++ 32 :: ofTxt a) rfl (by omega) (by simp; omega)
      generalize wordAt k ++ 32 :: ofTxt a = x2 at hx2 HT
      obtain ⟨ta, eta⟩ : ∃ ta, ta = ofTxt a := ⟨_, rfl⟩
      have ETA := hide eta
      rw [← eta] at hx1 hx2
      obtain ⟨ya, eya⟩ : ∃ ya, ya = 32 :: ta := ⟨_, rfl⟩
      rw [← eya] at hx1 hx2
      clear hok hl hlw eta eya
      go_wp2_with fail
      refine wp_loop_rounds 2 ?_
      rw [rounds_succ]
      go_wp2_with fail
      refine (ofText_at a ta ETA.out W hlo hsm.1 tW).mono ?_
      rintro e w3 ⟨rfl, b3⟩
      go_wp2_with fail
      rw [rounds_succ]
      go_wp2_with fail
      go_ret
      exact ⟨by rw [HT.out]; rfl, BW.trans (b3.mono BW.size)⟩
    · have HT : Hid (insText k a b = wordAt k ++ 32 :: (ofTxt a ++ 32 :: ofTxt b)) := by simp [Hid, insText, hok, HN.out]
      obtain ⟨p1, p2, p3, p4⟩ := insOk_two hok HN.out
      have hla := ofTxt_len a (by omega)
      have hlb := ofTxt_len b (by omega)
      have hlw := wordAt_len k
      have hx1 := add_at [32] (ofTxt a) (32 :: ofTxt a) rfl (by simp) (by omega)
      have hx2 := add_at (wordAt k) (32 :: ofTxt a) (wordAt k ++ 32 :: ofTxt a) rfl (by omega) (by simp; omega)
      have hx3 := add_at [32] (ofTxt b) (32 :: ofTxt b) rfl (by simp) (by omega)
      have hx4 := add_at (wordAt k ++ 32 :: ofTxt a) (32 :: ofTxt b) (wordAt k ++ 32 :: (ofTxt a ++ 32 :: ofTxt b)) (by simp) (by simp; omega) (by simp; omega)
      generalize wordAt k ++ 32 :: (ofTxt a ++ 32 :: ofTxt b) = x4 at hx4 HT
      generalize wordAt k ++ 32 :: ofTxt a = x2 at hx2 hx4
      obtain ⟨ta, eta⟩ : ∃ ta, ta = ofTxt a := ⟨_, rfl⟩
      obtain ⟨tb, etb⟩ : ∃ tb, tb = ofTxt b := ⟨_, rfl⟩
      have ETA := hide eta
      have ETB := hide etb
      rw [← eta] at hx1 hx2
      rw [← etb] at hx3 hx4
      obtain ⟨ya, eya⟩ : ∃ ya, ya = 32 :: ta := ⟨_, rfl⟩
      obtain ⟨yb, eyb⟩ : ∃ yb, yb = 32 :: tb := ⟨_, rfl⟩
      rw [← eya] at hx1 hx2
      rw [← eyb] at hx3 hx4
      clear hok hla hlb hlw eta etb eya eyb
      go_wp2_with fail
      refine wp_loop_rounds 3 ?_
      rw [rounds_succ]
      go_wp2_with fail
      refine (ofText_at a ta ETA.out W (by omega) (by omega) tW).mono ?_
      rintro e w3 ⟨rfl, b3⟩
      have t1 : w3.cell? ⟨s, 1, none⟩ = some (.int .i64 b) := by rw [b3.cell (p := ⟨s, 1, none⟩) (cell_lt s1)]; exact s1
      have tW3 := pow10_keep tW b3
      go_wp2_with fail
      rw [rounds_succ]
      go_wp2_with fail
      refine (ofText_at b tb ETB.out w3 (by omega) (by omega) tW3).mono ?_
      rintro e w4 ⟨rfl, b4⟩
      go_wp2_with fail
      rw [rounds_succ]
      go_wp2_with fail
      go_ret
      exact ⟨by rw [HT.out]; rfl, (BW.trans (b3.mono BW.size)).trans (b4.mono (Nat.le_trans BW.size b3.size))⟩
  · have s0 : (w2.alloc (.cells #[.int .i64 a, .int .i64 b] 3)).cell? ⟨w2.heap.size, 0, none⟩ = some (.int .i64 a) := by simp
    have s1 : (w2.alloc (.cells #[.int .i64 a, .int .i64 b] 3)).cell? ⟨w2.heap.size, 1, none⟩ = some (.int .i64 b) := by simp
    have BW := below_more B2 (.cells #[.int .i64 a, .int .i64 b] 3)
    rename_i hHeld
    clear hHeld kp hS d0 d1 d2 c0 c1 c2 cw zz z1 B1 B2
    generalize w2.alloc (.cells #[.int .i64 a, .int .i64 b] 3) = W at s0 s1 BW ⊢
    generalize w2.heap.size = s at s0 s1 ⊢
    have tW := pow10_keep ht BW
    rcases (by omega : n = 0 ∨ n = 1 ∨ n = 2) with rfl | rfl | rfl
    · have HT : Hid (insText k a b = wordAt k) := by simp [Hid, insText, hok, HN.out]
      clear hok
      go_wp2_with fail
      refine wp_loop_rounds 1 ?_
      rw [rounds_succ]
      go_wp2_with fail
      go_ret
      exact ⟨by rw [HT.out]; rfl, BW⟩
    · have HT : Hid (insText k a b = wordAt k ++ 32 :: ofTxt a) := by simp [Hid, insText, hok, HN.out]
      have hsm := insOk_small hok
      have hlo := (insOk_one hok HN.out).1
      have hl := ofTxt_len a hsm.1
      have hlw := wordAt_len k
      have hx1 := add_at [32] (ofTxt a) (32 :: ofTxt a) rfl (by simp) (by omega)
      have hx2 := add_at (wordAt k) (32 :: ofTxt a) (wordAt k ++ 32 :: ofTxt a) rfl (by omega) (by simp; omega)
      generalize wordAt k ++ 32 :: ofTxt a = x2 at hx2 HT
      obtain ⟨ta, eta⟩ : ∃ ta, ta = ofTxt a := ⟨_, rfl⟩
      have ETA := hide eta
      rw [← eta] at hx1 hx2
      obtain ⟨ya, eya⟩ : ∃ ya, ya = 32 :: ta := ⟨_, rfl⟩
      rw [← eya] at hx1 hx2
      clear hok hl hlw eta eya
      go_wp2_with fail
      refine wp_loop_rounds 2 ?_
      rw [rounds_succ]
      go_wp2_with fail
      refine (ofText_at a ta ETA.out W hlo hsm.1 tW).mono ?_
      rintro e w3 ⟨rfl, b3⟩
      go_wp2_with fail
      rw [rounds_succ]
      go_wp2_with fail
      go_ret
      exact ⟨by rw [HT.out]; rfl, BW.trans (b3.mono BW.size)⟩
    · have HT : Hid (insText k a b = wordAt k ++ 32 :: (ofTxt a ++ 32 :: ofTxt b)) := by simp [Hid, insText, hok, HN.out]
      obtain ⟨p1, p2, p3, p4⟩ := insOk_two hok HN.out
      have hla := ofTxt_len a (by omega)
      have hlb := ofTxt_len b (by omega)
      have hlw := wordAt_len k
      have hx1 := add_at [32] (ofTxt a) (32 :: ofTxt a) rfl (by simp) (by omega)
      have hx2 := add_at (wordAt k) (32 :: ofTxt a) (wordAt k ++ 32 :: ofTxt a) rfl (by omega) (by simp; omega)
      have hx3 := add_at [32] (ofTxt b) (32 :: ofTxt b) rfl (by simp) (by omega)
      have hx4 := add_at (wordAt k ++ 32 :: ofTxt a) (32 :: ofTxt b) (wordAt k ++ 32 :: (ofTxt a ++ 32 :: ofTxt b)) (by simp) (by simp; omega) (by simp; omega)
      generalize wordAt k ++ 32 :: (ofTxt a ++ 32 :: ofTxt b) = x4 at hx4 HT
      generalize wordAt k ++ 32 :: ofTxt a = x2 at hx2 hx4
      obtain ⟨ta, eta⟩ : ∃ ta, ta = ofTxt a := ⟨_, rfl⟩
      obtain ⟨tb, etb⟩ : ∃ tb, tb = ofTxt b := ⟨_, rfl⟩
      have ETA := hide eta
      have ETB := hide etb
      rw [← eta] at hx1 hx2
      rw [← etb] at hx3 hx4
      obtain ⟨ya, eya⟩ : ∃ ya, ya = 32 :: ta := ⟨_, rfl⟩
      obtain ⟨yb, eyb⟩ : ∃ yb, yb = 32 :: tb := ⟨_, rfl⟩
      rw [← eya] at hx1 hx2
      rw [← eyb] at hx3 hx4
      clear hok hla hlb hlw eta etb eya eyb
      go_wp2_with fail
      refine wp_loop_rounds 3 ?_
      rw [rounds_succ]
      go_wp2_with fail
      refine (ofText_at a ta ETA.out W (by omega) (by omega) tW).mono ?_
      rintro e w3 ⟨rfl, b3⟩
      have t1 : w3.cell? ⟨s, 1, none⟩ = some (.int .i64 b) := by rw [b3.cell (p := ⟨s, 1, none⟩) (cell_lt s1)]; exact s1
      have tW3 := pow10_keep tW b3
      go_wp2_with fail
      rw [rounds_succ]
      go_wp2_with fail
      refine (ofText_at b tb ETB.out w3 (by omega) (by omega) tW3).mono ?_
      rintro e w4 ⟨rfl, b4⟩
      go_wp2_with fail
      rw [rounds_succ]
      go_wp2_with fail
      go_ret
      exact ⟨by rw [HT.out]; rfl, (BW.trans (b3.mono BW.size)).trans (b4.mono (Nat.le_trans BW.size b3.size))⟩
end Go.Proofs.YtblliefejffhoaaGreatDoor

/- progFieldsText and progTypeText of the program. -/
namespace Go.Proofs.YtblliefejffhoaaGreatDoor
open Go.ChangeShapes Go.WideShapes Go.ChangeAt Go.RowKit
set_option linter.unusedVariables false

/-- The tables that texts are written by, as they are laid. -/
def Tabs (w : World) : Prop := pow10 w ∧ lettersAt w ∧ wordsAt w
theorem Tabs.keep {w w' : World} (h : Tabs w) (hb : Below w.heap.size w w') : Tabs w' := ⟨pow10_keep h.1 hb, h.2.1.keep hb, h.2.2.keep hb⟩

set_option maxHeartbeats 1600000 in
theorem progFieldsText_any (a : Option Addr) (c lo hi : Nat) (fs : List Fd) (w : World) (hn : fs.length ≤ 1048576) (hx : FieldsIn w lo hi a fs) (hh : hi ≤ w.heap.size) (ht : Tabs w) :
    Calls Tryz.prog 19 #[.slice a fs.length c] w fun e w' => e = .returned (.string ⟨(fdsTxt fs).toArray⟩) ∧ Below w.heap.size w w' := by
  have HX := hide hx
  have HTb := hide ht
  clear hx ht
  obtain ⟨n, hnn⟩ : ∃ n, fs.length = n := ⟨_, rfl⟩
  have HN := hide hnn
  rw [hnn] at hn ⊢
  clear hnn
  go_enter Tryz.func19, Tryz.ntmps19
  go_wp2_with fail
  go_loopw [3, 8] (fun o i wr => ∃ (k : Nat) (acc : List UInt8), k ≤ n ∧ o = .string ⟨acc.toArray⟩ ∧ i = .int .i64 k ∧ acc = fdsTxt (fs.take k) ∧ Below w.heap.size w wr) (fun o i wr => n - (intOf i).toNat)
  case atStart => exact ⟨0, _, Nat.zero_le _, rfl, rfl, by simp [fdsTxt], Below.refl _ _⟩
  case round =>
    obtain ⟨k, acc, hk, rfl, rfl, hacc, hb⟩ := hrel
    have HA := hide hacc
    have HB := hide hb
    have s1 := hb.size
    have hlen : acc.length ≤ 10000000 := by
      have i2 := fdsTxt_len (fs.take k)
      have i3 : (fs.take k).length ≤ k := by simp; omega
      rw [hacc]
      omega
    clear hacc hb
    by_cases hlt : k < n
    · have hk2 : k < fs.length := by rw [HN.out]; exact hlt
      rcases HX.out with hnil | ⟨b, off, rfl, g1, g2, g3⟩
      · rw [hnil] at hk2; exact absurd hk2 (Nat.not_lt_zero _)
      obtain ⟨f0, f1, f2⟩ := (g3 k hk2).same (lo := lo) (hi := hi) (.of_below HB.out hh) g1 g2
      have HS := hide (fdsTxt_snoc fs k hk2)
      clear g3
      have hl2 := fdTxt_len (fdAt fs k)
      generalize fdAt fs k = f at f0 f1 f2 HS hl2
      obtain ⟨fk, fo, fm⟩ := f
      obtain ⟨t, ht⟩ : ∃ t, t = fdTxt ⟨fk, fo, fm⟩ := ⟨_, rfl⟩
      rw [← ht] at hl2 HS
      have HT : Hid (t = fieldTxt fk fo fm) := ht
      simp only at f0 f1 f2
      clear ht
      have add0 := add_big [32] t ([32] ++ t) rfl (by first | omega | simp) (by first | omega | simp)
      obtain ⟨y1, hadd0⟩ : ∃ l : List UInt8, l = [32] ++ t := ⟨_, rfl⟩
      rw [← hadd0] at add0
      have len_y1 : y1.length ≤ 9 := by rw [hadd0]; first | (simp; done) | (simp; omega)
      have H_y1 := hide hadd0
      clear hadd0
      have add1 := add_big acc y1 (acc ++ y1) rfl (by first | omega | simp) (by first | omega | simp)
      obtain ⟨y2, hadd1⟩ : ∃ l : List UInt8, l = acc ++ y1 := ⟨_, rfl⟩
      rw [← hadd1] at add1
      have len_y2 : y2.length ≤ 10000010 := by rw [hadd1]; first | (simp; done) | (simp; omega)
      have H_y2 := hide hadd1
      clear hadd1
      have j1 : (0 : Int) ≤ (k : Int) := by omega
      have j2 : (k : Int) < (n : Int) := by omega
      have BA := hide (HB.out.alloc s1 (.cells #[.int .i64 fk, .int .i64 fo, .bool fm] 33))
      go_wp2_with fail
      refine (implFieldText_any fk fo fm _ (HTb.out.keep BA.out).1 (HTb.out.keep BA.out).2.1).mono ?_
      rintro e w2 ⟨rfl, b2⟩
      rw [← HT.out]
      have B2 : Hid (Below w.heap.size w w2) := BA.out.trans (b2.mono BA.out.size)
      clear b2
      go_wp2_with fail
      refine ⟨⟨k + 1, y2, by omega, rfl, by go_num, ?_, B2.out⟩, by simp [intOf]; omega⟩
      rw [HS.out, H_y2.out, H_y1.out, HA.out]
      simp
    · have hkn : k = n := by omega
      go_wp2_with fail
      go_ret
      refine ⟨?_, HB.out⟩
      have : acc = fdsTxt fs := by
        rw [HA.out, hkn, List.take_of_length_le (by rw [HN.out]; exact Nat.le_refl _)]
      rw [← this]
      rfl

set_option maxHeartbeats 1600000 in
theorem progTypeText_any (fa : Option Addr) (fc lo hi : Nat) (t : Ty) (w : World) (hs : SmallT t) (hx : FieldsIn w lo hi fa t.fields) (hh : hi ≤ w.heap.size) (htb : Tabs w) :
    Calls Tryz.prog 18 #[.agg #[.int .i64 t.kind, .int .i64 t.up, .bool t.last, .slice fa t.fields.length fc]] w fun e w' => e = .returned (.string ⟨(tyLine t).toArray⟩) ∧ Below w.heap.size w w' := by
  obtain ⟨tk, tu, tl, fs⟩ := t
  obtain ⟨hs1, hs2⟩ := hs
  have HT : Hid (tyLine ⟨tk, tu, tl, fs⟩ = kindTxt tk ++ (32 :: upTxt tu) ++ fdsTxt fs ++ lastTxt tl) := rfl
  generalize tyLine ⟨tk, tu, tl, fs⟩ = line at HT ⊢
  have hfl := fdsTxt_len fs
  have HX := hide (fun W hW => progFieldsText_any fa fc lo hi fs W (by have : fs.length ≤ 4 := hs1; omega) (hx.same (Same.of_below hW hh) (Nat.le_refl _) (Nat.le_refl _)) (Nat.le_trans hh hW.size) (htb.keep hW))
  simp only at hs1 hs2 HX ⊢
  have HP := hide htb.1
  clear hx htb
  generalize fdsTxt fs = ft at HT hfl HX
  have hul := upTxt_len tu hs2
  generalize fs.length = n at hs1 hfl HX ⊢
  by_cases hk : tk = 2
  · subst hk
    have HK : Hid (kindTxt 2 = [114, 111, 119]) := rfl
    by_cases hu : tu < 0
    · have HU : Hid (upTxt tu = [45]) := if_pos hu
      clear hul
      have add0 := add_big [114, 111, 119] [32, 45] ([114, 111, 119] ++ [32, 45]) rfl (by first | omega | simp) (by first | omega | simp)
      obtain ⟨x1, hadd0⟩ : ∃ l : List UInt8, l = [114, 111, 119] ++ [32, 45] := ⟨_, rfl⟩
      rw [← hadd0] at add0
      have len_x1 : x1.length ≤ 10 := by rw [hadd0]; first | (simp; done) | (simp; omega)
      have H_x1 := hide hadd0
      clear hadd0
      have add1 := add_big x1 ft (x1 ++ ft) rfl (by first | omega | simp) (by first | omega | simp)
      obtain ⟨x2, hadd1⟩ : ∃ l : List UInt8, l = x1 ++ ft := ⟨_, rfl⟩
      rw [← hadd1] at add1
      have len_x2 : x2.length ≤ 60 := by rw [hadd1]; first | (simp; done) | (simp; omega)
      have H_x2 := hide hadd1
      clear hadd1
      have add2 := add_big x2 [32, 108, 97, 115, 116] (x2 ++ [32, 108, 97, 115, 116]) rfl (by first | omega | simp) (by first | omega | simp)
      obtain ⟨x3, hadd2⟩ : ∃ l : List UInt8, l = x2 ++ [32, 108, 97, 115, 116] := ⟨_, rfl⟩
      rw [← hadd2] at add2
      have len_x3 : x3.length ≤ 70 := by rw [hadd2]; first | (simp; done) | (simp; omega)
      have H_x3 := hide hadd2
      clear hadd2
      go_enter Tryz.func18, Tryz.ntmps18
      have B0 : Hid (Below w.heap.size w (w.alloc (.cells #[.int .i64 2, .int .i64 tu, .bool tl, .slice fa n fc] 44))) := (Below.refl _ _).alloc (Nat.le_refl _) _
      have R0 : Hid (Rec (w.alloc (.cells #[.int .i64 2, .int .i64 tu, .bool tl, .slice fa n fc] 44)) w.heap.size 44 [.int .i64 2, .int .i64 tu, .bool tl, .slice fa n fc]) := Rec.new _ _ _
      go_wp2_with fail
      refine (HX.out _ B0.out).mono ?_
      rintro e w2 ⟨rfl, b2⟩
      have B2 := hide (B0.out.trans (b2.mono B0.out.size))
      have R2 := hide (R0.out.below b2 R0.out.lt)
      clear b2
      have r2 := R2.out.cell (o := 2) rfl
      cases tl
      · go_wp2_with fail
        go_ret
        refine ⟨?_, B2.out⟩
        rw [HT.out, H_x2.out, H_x1.out, HK.out, HU.out]
        simp [lastTxt]
      · go_wp2_with fail
        go_ret
        refine ⟨?_, B2.out⟩
        rw [HT.out, H_x3.out, H_x2.out, H_x1.out, HK.out, HU.out]
        simp [lastTxt]
    · have HU : Hid (Lib.itoa tu = upTxt tu) := by show _ = _; unfold upTxt Lib.itoa; rw [if_neg hu, if_neg hu]
      generalize upTxt tu = d at HU HT hul
      have add0 := add_big [32] d ([32] ++ d) rfl (by first | omega | simp) (by first | omega | simp)
      obtain ⟨u, hadd0⟩ : ∃ l : List UInt8, l = [32] ++ d := ⟨_, rfl⟩
      rw [← hadd0] at add0
      have len_u : u.length ≤ 7 := by rw [hadd0]; first | (simp; done) | (simp; omega)
      have H_u := hide hadd0
      clear hadd0
      have add1 := add_big [114, 111, 119] u ([114, 111, 119] ++ u) rfl (by first | omega | simp) (by first | omega | simp)
      obtain ⟨x1, hadd1⟩ : ∃ l : List UInt8, l = [114, 111, 119] ++ u := ⟨_, rfl⟩
      rw [← hadd1] at add1
      have len_x1 : x1.length ≤ 10 := by rw [hadd1]; first | (simp; done) | (simp; omega)
      have H_x1 := hide hadd1
      clear hadd1
      have add2 := add_big x1 ft (x1 ++ ft) rfl (by first | omega | simp) (by first | omega | simp)
      obtain ⟨x2, hadd2⟩ : ∃ l : List UInt8, l = x1 ++ ft := ⟨_, rfl⟩
      rw [← hadd2] at add2
      have len_x2 : x2.length ≤ 60 := by rw [hadd2]; first | (simp; done) | (simp; omega)
      have H_x2 := hide hadd2
      clear hadd2
      have add3 := add_big x2 [32, 108, 97, 115, 116] (x2 ++ [32, 108, 97, 115, 116]) rfl (by first | omega | simp) (by first | omega | simp)
      obtain ⟨x3, hadd3⟩ : ∃ l : List UInt8, l = x2 ++ [32, 108, 97, 115, 116] := ⟨_, rfl⟩
      rw [← hadd3] at add3
      have len_x3 : x3.length ≤ 70 := by rw [hadd3]; first | (simp; done) | (simp; omega)
      have H_x3 := hide hadd3
      clear hadd3
      go_enter Tryz.func18, Tryz.ntmps18
      have B0 : Hid (Below w.heap.size w (w.alloc (.cells #[.int .i64 2, .int .i64 tu, .bool tl, .slice fa n fc] 44))) := (Below.refl _ _).alloc (Nat.le_refl _) _
      have R0 : Hid (Rec (w.alloc (.cells #[.int .i64 2, .int .i64 tu, .bool tl, .slice fa n fc] 44)) w.heap.size 44 [.int .i64 2, .int .i64 tu, .bool tl, .slice fa n fc]) := Rec.new _ _ _
      go_wp2_with fail
      refine (Tryz.itoa tu (by omega) (by omega) _ (pow10_keep HP.out B0.out)).mono ?_
      rintro e w1 ⟨rfl, q, os, rfl⟩
      have b1 := grown_below (w.alloc (.cells #[.int .i64 2, .int .i64 tu, .bool tl, .slice fa n fc] 44)) q os
      generalize Sort.grow ((w.alloc (.cells #[.int .i64 2, .int .i64 tu, .bool tl, .slice fa n fc] 44)).drewN q) os = w1 at b1 ⊢
      rw [HU.out]
      have B1 : Hid (Below w.heap.size w w1) := B0.out.trans (b1.mono B0.out.size)
      have R1 := hide (R0.out.below b1 R0.out.lt)
      clear b1
      have r3 := R1.out.cell (o := 3) rfl
      go_wp2_with fail
      refine (HX.out _ B1.out).mono ?_
      rintro e w2 ⟨rfl, b2⟩
      have B2 := hide (B1.out.trans (b2.mono B1.out.size))
      have R2 := hide (R1.out.below b2 R1.out.lt)
      clear b2
      have r2 := R2.out.cell (o := 2) rfl
      cases tl
      · go_wp2_with fail
        go_ret
        refine ⟨?_, B2.out⟩
        rw [HT.out, H_x2.out, H_x1.out, HK.out, H_u.out]
        simp [lastTxt]
      · go_wp2_with fail
        go_ret
        refine ⟨?_, B2.out⟩
        rw [HT.out, H_x3.out, H_x2.out, H_x1.out, HK.out, H_u.out]
        simp [lastTxt]
  · have hkk : (tk == 2) = false := beq_eq_false_iff_ne.2 hk
    have HK : Hid (kindTxt tk = [98, 111, 120]) := if_neg hk
    clear hk
    by_cases hu : tu < 0
    · have HU : Hid (upTxt tu = [45]) := if_pos hu
      clear hul
      have add0 := add_big [98, 111, 120] [32, 45] ([98, 111, 120] ++ [32, 45]) rfl (by first | omega | simp) (by first | omega | simp)
      obtain ⟨x1, hadd0⟩ : ∃ l : List UInt8, l = [98, 111, 120] ++ [32, 45] := ⟨_, rfl⟩
      rw [← hadd0] at add0
      have len_x1 : x1.length ≤ 10 := by rw [hadd0]; first | (simp; done) | (simp; omega)
      have H_x1 := hide hadd0
      clear hadd0
      have add1 := add_big x1 ft (x1 ++ ft) rfl (by first | omega | simp) (by first | omega | simp)
      obtain ⟨x2, hadd1⟩ : ∃ l : List UInt8, l = x1 ++ ft := ⟨_, rfl⟩
      rw [← hadd1] at add1
      have len_x2 : x2.length ≤ 60 := by rw [hadd1]; first | (simp; done) | (simp; omega)
      have H_x2 := hide hadd1
      clear hadd1
      have add2 := add_big x2 [32, 108, 97, 115, 116] (x2 ++ [32, 108, 97, 115, 116]) rfl (by first | omega | simp) (by first | omega | simp)
      obtain ⟨x3, hadd2⟩ : ∃ l : List UInt8, l = x2 ++ [32, 108, 97, 115, 116] := ⟨_, rfl⟩
      rw [← hadd2] at add2
      have len_x3 : x3.length ≤ 70 := by rw [hadd2]; first | (simp; done) | (simp; omega)
      have H_x3 := hide hadd2
      clear hadd2
      go_enter Tryz.func18, Tryz.ntmps18
      have B0 : Hid (Below w.heap.size w (w.alloc (.cells #[.int .i64 tk, .int .i64 tu, .bool tl, .slice fa n fc] 44))) := (Below.refl _ _).alloc (Nat.le_refl _) _
      have R0 : Hid (Rec (w.alloc (.cells #[.int .i64 tk, .int .i64 tu, .bool tl, .slice fa n fc] 44)) w.heap.size 44 [.int .i64 tk, .int .i64 tu, .bool tl, .slice fa n fc]) := Rec.new _ _ _
      go_wp2_with fail
      refine (HX.out _ B0.out).mono ?_
      rintro e w2 ⟨rfl, b2⟩
      have B2 := hide (B0.out.trans (b2.mono B0.out.size))
      have R2 := hide (R0.out.below b2 R0.out.lt)
      clear b2
      have r2 := R2.out.cell (o := 2) rfl
      cases tl
      · go_wp2_with fail
        go_ret
        refine ⟨?_, B2.out⟩
        rw [HT.out, H_x2.out, H_x1.out, HK.out, HU.out]
        simp [lastTxt]
      · go_wp2_with fail
        go_ret
        refine ⟨?_, B2.out⟩
        rw [HT.out, H_x3.out, H_x2.out, H_x1.out, HK.out, HU.out]
        simp [lastTxt]
    · have HU : Hid (Lib.itoa tu = upTxt tu) := by show _ = _; unfold upTxt Lib.itoa; rw [if_neg hu, if_neg hu]
      generalize upTxt tu = d at HU HT hul
      have add0 := add_big [32] d ([32] ++ d) rfl (by first | omega | simp) (by first | omega | simp)
      obtain ⟨u, hadd0⟩ : ∃ l : List UInt8, l = [32] ++ d := ⟨_, rfl⟩
      rw [← hadd0] at add0
      have len_u : u.length ≤ 7 := by rw [hadd0]; first | (simp; done) | (simp; omega)
      have H_u := hide hadd0
      clear hadd0
      have add1 := add_big [98, 111, 120] u ([98, 111, 120] ++ u) rfl (by first | omega | simp) (by first | omega | simp)
      obtain ⟨x1, hadd1⟩ : ∃ l : List UInt8, l = [98, 111, 120] ++ u := ⟨_, rfl⟩
      rw [← hadd1] at add1
      have len_x1 : x1.length ≤ 10 := by rw [hadd1]; first | (simp; done) | (simp; omega)
      have H_x1 := hide hadd1
      clear hadd1
      have add2 := add_big x1 ft (x1 ++ ft) rfl (by first | omega | simp) (by first | omega | simp)
      obtain ⟨x2, hadd2⟩ : ∃ l : List UInt8, l = x1 ++ ft := ⟨_, rfl⟩
      rw [← hadd2] at add2
      have len_x2 : x2.length ≤ 60 := by rw [hadd2]; first | (simp; done) | (simp; omega)
      have H_x2 := hide hadd2
      clear hadd2
      have add3 := add_big x2 [32, 108, 97, 115, 116] (x2 ++ [32, 108, 97, 115, 116]) rfl (by first | omega | simp) (by first | omega | simp)
      obtain ⟨x3, hadd3⟩ : ∃ l : List UInt8, l = x2 ++ [32, 108, 97, 115, 116] := ⟨_, rfl⟩
      rw [← hadd3] at add3
      have len_x3 : x3.length ≤ 70 := by rw [hadd3]; first | (simp; done) | (simp; omega)
      have H_x3 := hide hadd3
      clear hadd3
      go_enter Tryz.func18, Tryz.ntmps18
      have B0 : Hid (Below w.heap.size w (w.alloc (.cells #[.int .i64 tk, .int .i64 tu, .bool tl, .slice fa n fc] 44))) := (Below.refl _ _).alloc (Nat.le_refl _) _
      have R0 : Hid (Rec (w.alloc (.cells #[.int .i64 tk, .int .i64 tu, .bool tl, .slice fa n fc] 44)) w.heap.size 44 [.int .i64 tk, .int .i64 tu, .bool tl, .slice fa n fc]) := Rec.new _ _ _
      go_wp2_with fail
      refine (Tryz.itoa tu (by omega) (by omega) _ (pow10_keep HP.out B0.out)).mono ?_
      rintro e w1 ⟨rfl, q, os, rfl⟩
      have b1 := grown_below (w.alloc (.cells #[.int .i64 tk, .int .i64 tu, .bool tl, .slice fa n fc] 44)) q os
      generalize Sort.grow ((w.alloc (.cells #[.int .i64 tk, .int .i64 tu, .bool tl, .slice fa n fc] 44)).drewN q) os = w1 at b1 ⊢
      rw [HU.out]
      have B1 : Hid (Below w.heap.size w w1) := B0.out.trans (b1.mono B0.out.size)
      have R1 := hide (R0.out.below b1 R0.out.lt)
      clear b1
      have r3 := R1.out.cell (o := 3) rfl
      go_wp2_with fail
      refine (HX.out _ B1.out).mono ?_
      rintro e w2 ⟨rfl, b2⟩
      have B2 := hide (B1.out.trans (b2.mono B1.out.size))
      have R2 := hide (R1.out.below b2 R1.out.lt)
      clear b2
      have r2 := R2.out.cell (o := 2) rfl
      cases tl
      · go_wp2_with fail
        go_ret
        refine ⟨?_, B2.out⟩
        rw [HT.out, H_x2.out, H_x1.out, HK.out, H_u.out]
        simp [lastTxt]
      · go_wp2_with fail
        go_ret
        refine ⟨?_, B2.out⟩
        rw [HT.out, H_x3.out, H_x2.out, H_x1.out, HK.out, H_u.out]
        simp [lastTxt]
end Go.Proofs.YtblliefejffhoaaGreatDoor

/- Lists of strings of the call's own, grown by append. -/
namespace Go.Proofs.YtblliefejffhoaaGreatDoor
open Go.ChangeShapes Go.WideShapes Go.ChangeAt Go.RowKit Go.Deep
set_option linter.unusedVariables false

/-- Strings, as they lie. -/
def strsV (xs : List (List UInt8)) : List Value := xs.map fun l => .string ⟨l.toArray⟩
theorem strsV_len (xs : List (List UInt8)) : (strsV xs).length = xs.length := by simp [strsV]
theorem strsV_app (xs ys : List (List UInt8)) : strsV (xs ++ ys) = strsV xs ++ strsV ys := by simp [strsV]
theorem strsV_one (xs : List (List UInt8)) : ∀ u ∈ strsV xs, u.oneCell' = true := by
  intro u hu
  obtain ⟨l, _, rfl⟩ := List.mem_map.1 hu
  rfl

/-- The strings xs are in the slice v, which is none, or a row of the call's own from block S on. -/
def SRow (w : World) (S : Nat) (v : Value) (xs : List (List UInt8)) : Prop := w.ownsRow S 9 1 v xs.length (strsV xs)
theorem Tryz.infoStr : (Tryz.prog.info? 9).map (fun i => (i.zero, i.size, i.bytes)) = some (some (.string ByteArray.empty), 1, 16) := by kernel_rfl
theorem SRow.nil (w : World) (S : Nat) : SRow w S (.slice none 0 0) [] := ⟨rfl, .inl ⟨rfl, rfl⟩⟩
theorem SRow.new (w : World) (S : Nat) (l : List UInt8) (hS : S ≤ w.heap.size) : SRow (w.alloc (.cells #[.string ⟨l.toArray⟩] 9)) S (.slice (some ⟨w.heap.size, 0, none⟩) 1 1) [l] :=
  ⟨rfl, .inr ⟨w.heap.size, 1, _, rfl, hS, Deep.blk_alloc_new _ _, Nat.le_refl _, by unfold maxLen; omega, rfl, rfl⟩⟩
theorem SRow.below {w w' : World} {S : Nat} {v : Value} {xs : List (List UInt8)} (h : SRow w S v xs) (hb : Below w.heap.size w w') : SRow w' S v xs := owns_below h hb
theorem SRow.alloc {w : World} {S : Nat} {v : Value} {xs : List (List UInt8)} (h : SRow w S v xs) (o : Obj) : SRow (w.alloc o) S v xs := World.ownsRow.alloc h o
theorem SRow.lower {w : World} {S S' : Nat} {v : Value} {xs : List (List UInt8)} (h : SRow w S v xs) (hS : S' ≤ S) : SRow w S' v xs := owns_lower h hS
theorem SRow.form {w : World} {S : Nat} {v : Value} {xs : List (List UInt8)} (h : SRow w S v xs) (hn : 0 < xs.length) : ∃ g cap, v = .slice (some ⟨g, 0, none⟩) xs.length cap ∧ S ≤ g ∧ g < w.heap.size ∧ xs.length ≤ cap := by
  rcases h.2 with ⟨_, h0⟩ | ⟨g, cap, cur, h1, h2, h3, h4, _⟩
  · omega
  · exact ⟨g, cap, h1, h2, (Array.getElem?_eq_some_iff.1 h3).1, h4⟩
theorem SRow.val {w : World} {S : Nat} {v : Value} {xs : List (List UInt8)} (h : SRow w S v xs) : ∃ a cap, v = .slice a xs.length cap := by
  rcases h.2 with ⟨h1, h0⟩ | ⟨g, cap, cur, h1, _⟩
  · exact ⟨none, 0, by rw [h1, h0]⟩
  · exact ⟨_, _, h1⟩

/-- One string more. -/
theorem wpList_snoc_str {ops : Array Oper} {rest : List Oper} {o : Oper} {a : Act} {Q : Exit → Act → World → Prop} {w0 : World} (hgd : o.guard = none) (s x : Operand)
    (ho : o.op = .call { callee := .builtin .append, args := #[s, x], argTypes := #[41, 41] })
    (S : Nat) (v : Value) (xs : List (List UInt8)) (l : List UInt8) (hs : a.eval s = v) (hown : SRow w0 S v xs) (hx : a.eval x = .slice (some ⟨w0.heap.size, 0, none⟩) 1 1) (hn : xs.length ≤ 1000) (hS : S ≤ w0.heap.size)
    (h : ∀ g cap w', SRow w' S (.slice (some ⟨g, 0, none⟩) (xs.length + 1) cap) (xs ++ [l]) → Below S w0 w' → wpList Tryz.prog ops Q rest (a.put o.dst (.slice (some ⟨g, 0, none⟩) (xs.length + 1) cap)) w') :
    wpList Tryz.prog ops Q (o :: rest) a (w0.alloc (.cells #[.string ⟨l.toArray⟩] 9)) := by
  obtain ⟨i0, hi0, hzz⟩ := Option.map_eq_some_iff.1 Tryz.infoStr
  simp only [Prod.mk.injEq] at hzz
  obtain ⟨hz0, hs0, hb0⟩ := hzz
  refine wpList_append_lies _ hgd s x 41 ho S 9 i0 _ 1 16 Tryz.underlying41 hi0 hz0 hs0 hb0 rfl (by decide) v xs.length (strsV xs) hs (hown.alloc _) ⟨w0.heap.size, 0, none⟩ 1 1 [.string ⟨l.toArray⟩] hx rfl (World.news_of_block (Deep.blk_alloc_new _ _)) (by intro u hu; simp at hu; subst hu; rfl) (by decide) (by unfold maxLen; omega) (by omega) (by simp; omega) _ rfl ?_
  intro g cap w' h1 h2 h3 h4
  refine h g cap w' ?_ (((Below.refl S w0).alloc hS _).grown h2 (by simp; omega) (owns_base hown))
  unfold SRow
  rw [strsV_app]
  have e : (xs ++ [l]).length = xs.length + 1 := by simp
  rw [e]
  exact h1

/-- Strings more. -/
theorem wpList_app_str {ops : Array Oper} {rest : List Oper} {o : Oper} {a : Act} {Q : Exit → Act → World → Prop} {w0 : World} (hgd : o.guard = none) (s x : Operand)
    (ho : o.op = .call { callee := .builtin .append, args := #[s, x], argTypes := #[41, 41] })
    (S S2 g2 cap2 : Nat) (v : Value) (xs ys : List (List UInt8)) (hs : a.eval s = v) (hown : SRow w0 S v xs) (hown2 : SRow w0 S2 (.slice (some ⟨g2, 0, none⟩) ys.length cap2) ys) (hx : a.eval x = .slice (some ⟨g2, 0, none⟩) ys.length cap2) (hn : xs.length ≤ 1000) (hm : ys.length ≤ 1000) (hm0 : 0 < ys.length) (hS : S ≤ w0.heap.size)
    (h : ∀ g cap w', SRow w' S (.slice (some ⟨g, 0, none⟩) (xs.length + ys.length) cap) (xs ++ ys) → Below S w0 w' → wpList Tryz.prog ops Q rest (a.put o.dst (.slice (some ⟨g, 0, none⟩) (xs.length + ys.length) cap)) w') :
    wpList Tryz.prog ops Q (o :: rest) a w0 := by
  obtain ⟨i0, hi0, hzz⟩ := Option.map_eq_some_iff.1 Tryz.infoStr
  simp only [Prod.mk.injEq] at hzz
  obtain ⟨hz0, hs0, hb0⟩ := hzz
  refine wpList_append_lies _ hgd s x 41 ho S 9 i0 _ 1 16 Tryz.underlying41 hi0 hz0 hs0 hb0 rfl (by decide) v xs.length (strsV xs) hs hown ⟨g2, 0, none⟩ ys.length cap2 (strsV ys) hx (by rw [strsV_len]; omega) (fun j u hj => World.ownsRow.cells hown2 rfl j u hj) (strsV_one ys) hm0 (by unfold maxLen; omega) (by omega) hS _ rfl ?_
  intro g cap w' h1 h2 h3 h4
  refine h g cap w' ?_ ((Below.refl S w0).grown h2 hS (owns_base hown))
  unfold SRow
  rw [strsV_app]
  have e : (xs ++ ys).length = xs.length + ys.length := by simp
  rw [e]
  exact h1
end Go.Proofs.YtblliefejffhoaaGreatDoor

/- progFunLines of the program: the lines of a function. -/
namespace Go.Proofs.YtblliefejffhoaaGreatDoor
open Go.ChangeShapes Go.WideShapes Go.ChangeAt Go.RowKit
set_option linter.unusedVariables false

set_option maxHeartbeats 1600000 in
theorem progFunLines_any {md : Bool} (a0 a4 a5 : Option Addr) (c0 c4 c5 lo hi : Nat) (f : GFun) (w : World) (hs : SmallF f) (h0 : FieldsM md w lo hi a0 f.takes) (h4 : FieldsM md w lo hi a4 f.own) (h5 : InssM md w lo hi a5 f.body) (hh : hi ≤ w.heap.size) (htb : Tabs w) :
    Calls Tryz.prog 20 #[.agg #[.slice a0 f.takes.length c0, .int .i64 f.gives.kind, .int .i64 f.gives.of, .bool f.gives.mt, .slice a4 f.own.length c4, .slice a5 f.body.length c5]] w fun e w' => ∃ g cap, e = .returned (.slice (some ⟨g, 0, none⟩) (funLs f).length cap) ∧ SRow w' w.heap.size (.slice (some ⟨g, 0, none⟩) (funLs f).length cap) (funLs f) ∧ Below w.heap.size w w' := by
  have HLB := hide (fun k hk => (funTo_lb hs k hk).1)
  have HSN := hide (funTo_snoc f)
  have HH : Hid (funTo f 0 = [funW ++ fdTxt f.gives ++ fdsTxt f.takes] ++ ownLs f) := by
    show _ = _
    simp [funTo, funHead]
  have HW0 : Hid (f.own.length = 0 → ownLs f = []) := fun h => by
    unfold ownLs
    rw [if_pos h]
  have HW : Hid (¬ f.own.length = 0 → ownLs f = [ownW ++ fdsTxt f.own]) := fun h => by
    unfold ownLs
    rw [if_neg h]
  have HL : Hid (funLs f = funTo f f.body.length) := rfl
  have HC1 := hide (fun W (hb : Below w.heap.size w W) => progFieldsText_any a0 c0 lo hi f.takes W (by have := hs.1; omega) (h0.1.keep (hb.mono hh)) (Nat.le_trans hh hb.size) (htb.keep hb))
  have HC2 := hide (fun W (hb : Below w.heap.size w W) => progFieldsText_any a4 c4 lo hi f.own W (by have := hs.2.1; omega) (h4.1.keep (hb.mono hh)) (Nat.le_trans hh hb.size) (htb.keep hb))
  have HC3 : Hid (∀ W, Below w.heap.size w W → Calls Tryz.prog 54 #[.agg #[.int .i64 f.gives.kind, .int .i64 f.gives.of, .bool f.gives.mt]] W fun e w' => e = .returned (.string ⟨(fdTxt f.gives).toArray⟩) ∧ Below W.heap.size W w') := fun W hb => implFieldText_any _ _ _ W (htb.keep hb).1 (htb.keep hb).2.1
  have HC4 := hide (fun W (hb : Below w.heap.size w W) io ia ib => implInsText_any io ia ib W (htb.keep hb).1 (htb.keep hb).2.2)
  have H5 := hide h5
  have lg := fdTxt_len f.gives
  have lt := fdsTxt_len f.takes
  have lw := fdsTxt_len f.own
  obtain ⟨hs1, hs2, hs3⟩ := hs
  generalize fdTxt f.gives = g at HH HC3 lg
  generalize fdsTxt f.takes = tk at HH HC1 lt
  generalize fdsTxt f.own = ow at HW HC2 lw
  generalize funLs f = goalL at HL ⊢
  clear h0 h4 h5 htb
  obtain ⟨ts, ⟨gk, go, gm⟩, os, bs⟩ := f
  simp only at HLB HSN HH HW0 HW HL HC1 HC2 HC3 HC4 H5 lt lw hs1 hs2 hs3 ⊢
  obtain ⟨F, hF⟩ : ∃ F : GFun, F = ⟨ts, ⟨gk, go, gm⟩, os, bs⟩ := ⟨_, rfl⟩
  rw [← hF] at HLB HSN HH HW0 HW HL
  clear hF
  have r0 : Rec (w.alloc (.cells #[.slice a0 ts.length c0, .int .i64 gk, .int .i64 go, .bool gm, .slice a4 os.length c4, .slice a5 bs.length c5] 36)) w.heap.size 36 [.slice a0 ts.length c0, .int .i64 gk, .int .i64 go, .bool gm, .slice a4 os.length c4, .slice a5 bs.length c5] := Rec.new _ _ _
  have b0 : Below w.heap.size w (w.alloc (.cells #[.slice a0 ts.length c0, .int .i64 gk, .int .i64 go, .bool gm, .slice a4 os.length c4, .slice a5 bs.length c5] 36)) := (Below.refl _ _).alloc (Nat.le_refl _) _
  have R0 := hide r0
  have B0 := hide b0
  clear r0 b0
  have add0 := add_big [102, 117, 110, 32] g ([102, 117, 110, 32] ++ g) rfl (by first | omega | simp) (by first | omega | simp)
  obtain ⟨x1, hadd0⟩ : ∃ l : List UInt8, l = [102, 117, 110, 32] ++ g := ⟨_, rfl⟩
  rw [← hadd0] at add0
  have len_x1 : x1.length ≤ 20 := by rw [hadd0]; first | (simp; done) | (simp; omega)
  have H_x1 := hide hadd0
  clear hadd0
  have add1 := add_big x1 tk (x1 ++ tk) rfl (by first | omega | simp) (by first | omega | simp)
  obtain ⟨x2, hadd1⟩ : ∃ l : List UInt8, l = x1 ++ tk := ⟨_, rfl⟩
  rw [← hadd1] at add1
  have len_x2 : x2.length ≤ 60 := by rw [hadd1]; first | (simp; done) | (simp; omega)
  have H_x2 := hide hadd1
  clear hadd1
  have E3 : Hid (funTo F 0 = [x2] ++ ownLs F) := by
    show _ = _
    rw [HH.out, H_x2.out, H_x1.out]
    rfl
  clear HH H_x1 H_x2
  go_enter Tryz.func20, Tryz.ntmps20
  go_wp2_with fail
  go_region_held3 (fun w' => w'.cell? ⟨w.heap.size, 0, none⟩ = some (.slice a0 ts.length c0) ∧ w'.cell? ⟨w.heap.size, 1, none⟩ = some (.int .i64 gk) ∧ w'.cell? ⟨w.heap.size, 2, none⟩ = some (.int .i64 go) ∧ w'.cell? ⟨w.heap.size, 3, none⟩ = some (.bool gm))
    (go_keep)
    ((first
      | (go_at_call 54; refine (HC3.out _ B0.out.drew).mono ?_; rintro e w1 ⟨rfl, b1⟩; have B1 := hide (B0.out.drew.trans (b1.mono B0.out.size)); have R1 : Hid (Rec w1 w.heap.size 36 [.slice a0 ts.length c0, .int .i64 gk, .int .i64 go, .bool gm, .slice a4 os.length c4, .slice a5 bs.length c5]) := Rec.below (w := (w.alloc (.cells #[.slice a0 ts.length c0, .int .i64 gk, .int .i64 go, .bool gm, .slice a4 os.length c4, .slice a5 bs.length c5] 36)).drew) R0.out b1 R0.out.lt; clear b1; have p0 := R1.out.cell (o := 0) rfl; have p1 := R1.out.cell (o := 1) rfl; have p2 := R1.out.cell (o := 2) rfl; have p3 := R1.out.cell (o := 3) rfl)
      | (go_at_call 19; refine (HC1.out _ B1.out).mono ?_; rintro e w2 ⟨rfl, b2⟩; have B2 := hide (B1.out.trans (b2.mono B1.out.size)); have R2 := hide (R1.out.below b2 R1.out.lt); clear b2 p0 p1 p2 p3; have p0 := R2.out.cell (o := 0) rfl; have p1 := R2.out.cell (o := 1) rfl; have p2 := R2.out.cell (o := 2) rfl; have p3 := R2.out.cell (o := 3) rfl; have lt0 := R2.out.lt)))
  have s2 := B2.out.size
  have R3 := hide (R2.out.alloc (.cells #[.string ⟨x2.toArray⟩] 9))
  have B3 := hide (B2.out.alloc s2 (.cells #[.string ⟨x2.toArray⟩] 9))
  have z2 : w.heap.size + 1 ≤ w2.heap.size := lt0
  have S3 := hide (SRow.new w2 (w.heap.size + 1) x2 z2)
  clear p0 p1 p2 p3
  have q2 := R3.out.cell (o := 4) rfl
  have q3 := R3.out.cell (o := 5) rfl
  by_cases ho : os.length = 0
  · have E4 : Hid ([x2] = funTo F 0) := by
      show _ = _
      rw [E3.out, HW0.out ho]
      rfl
    have hz : ¬ (0 : Int) < (os.length : Int) := by omega
    clear E3 HW HW0
    go_wp2_with fail
    go_loopw [3, 29] (fun o i wr => ∃ (k g cap : Nat) (L : List (List UInt8)), k ≤ bs.length ∧ o = .slice (some ⟨g, 0, none⟩) L.length cap ∧ i = .int .i64 k ∧ L = funTo F k ∧ SRow wr (w.heap.size + 1) (.slice (some ⟨g, 0, none⟩) L.length cap) L ∧ w.heap.size + 1 ≤ wr.heap.size ∧ Below w.heap.size w wr) (fun o i wr => bs.length - (intOf i).toNat)
    case atStart => exact ⟨0, _, _, [x2], Nat.zero_le _, rfl, rfl, E4.out, S3.out, by simp; omega, B3.out⟩
    case round =>
      clear E4 S3 R3 B3 R2 B2 B1 R1 q2 q3 add0 add1 len_x1 len_x2 lt0 s2 z2
      obtain ⟨k, g, cap, L, hk, rfl, rfl, hL, hsr, hz1, hb⟩ := hrel
      have HA := hide hL
      have HB := hide hb
      have HSR := hide hsr
      have s1 := hb.size
      have hlen : L.length ≤ 32 := by
        rw [hL]
        exact HLB.out k hk
      clear hL hb hsr
      by_cases hlt : k < bs.length
      · rcases H5.out with hnil | ⟨b, off, rfl, g1, g2, _, g3⟩
        · rw [hnil] at hlt; exact absurd hlt (Nat.not_lt_zero _)
        obtain ⟨i0, i1, i2⟩ := (g3 k hlt).same (lo' := lo) (hi' := hi) (.of_below HB.out hh) (Nat.le_refl _) (Nat.le_refl _) g1 g2
        have HS : Hid (funTo F (k + 1) = funTo F k ++ [insLine (insAt' bs k)]) := HSN.out k hlt
        clear g3
        generalize insAt' bs k = i at i0 i1 i2 HS
        obtain ⟨io, ia, ib⟩ := i
        have HC := hide (HC4.out _ (HB.out.alloc s1 (.cells #[.int .i64 io, .int .i64 ia, .int .i64 ib] 59)) io ia ib)
        have BA := hide (HB.out.alloc s1 (.cells #[.int .i64 io, .int .i64 ia, .int .i64 ib] 59))
        have SA := hide (HSR.out.alloc (.cells #[.int .i64 io, .int .i64 ia, .int .i64 ib] 59))
        obtain ⟨t, ht⟩ : ∃ t, t = insText io ia ib := ⟨_, rfl⟩
        have HS' : Hid (funTo F (k + 1) = L ++ [t]) := by
          show _ = _
          rw [HS.out, HA.out, ht]
          rfl
        clear HS
        rw [← ht] at HC
        clear ht
        simp only at i0 i1 i2
        have j1 : (0 : Int) ≤ (k : Int) := by omega
        have j2 : (k : Int) < (bs.length : Int) := by omega
        go_wp2_with fail
        refine HC.out.mono ?_
        rintro e w5 ⟨rfl, b5⟩
        have B5 : Hid (Below w.heap.size w w5) := BA.out.trans (b5.mono BA.out.size)
        have S5 := hide (SA.out.below b5)
        have s5 : w.heap.size + 1 ≤ w5.heap.size := by have := b5.size; simp at this; omega
        clear b5
        go_wp2_with (first | (at_builtin; refine wpList_snoc_str rfl _ _ rfl (w.heap.size + 1) (.slice (some ⟨g, 0, none⟩) L.length cap) L t rfl S5.out rfl (by omega) s5 ?_))
        intro g6 cap6 w6 h6 b6
        have S6 := hide h6
        have B6 := hide (B5.out.trans (b6.mono (Nat.le_succ _)))
        have s6 := b6.size
        clear h6 b6
        go_wp2_with fail
        refine ⟨⟨k + 1, g6, cap6, L ++ [t], by omega, by simp, by go_num, HS'.out.symm, ?_, by omega, B6.out⟩, by simp [intOf]; omega⟩
        have := S6.out
        simpa using this
      · have hkn : k = bs.length := by omega
        go_wp2_with fail
        go_ret
        have hE : L = goalL := by rw [HA.out, hkn, HL.out]
        rw [← hE]
        exact ⟨g, cap, rfl, HSR.out.lower (Nat.le_succ _), HB.out⟩
  · have hz : (0 : Int) < (os.length : Int) := by omega
    have add0 := add_big [111, 119, 110] ow ([111, 119, 110] ++ ow) rfl (by first | omega | simp) (by first | omega | simp)
    obtain ⟨x5, hadd0⟩ : ∃ l : List UInt8, l = [111, 119, 110] ++ ow := ⟨_, rfl⟩
    rw [← hadd0] at add0
    have len_x5 : x5.length ≤ 100 := by rw [hadd0]; first | (simp; done) | (simp; omega)
    have H_x5 := hide hadd0
    clear hadd0
    have E4 : Hid ([x2] ++ [x5] = funTo F 0) := by
      show _ = _
      rw [E3.out, HW.out ho, H_x5.out]
      rfl
    clear E3 HW HW0 H_x5
    go_wp2_with fail
    refine (HC2.out _ B3.out).mono ?_
    rintro e w4 ⟨rfl, b4⟩
    have B4 := hide (B3.out.trans (b4.mono B3.out.size))
    have R4 := hide (R3.out.below b4 R3.out.lt)
    have S4 := hide (S3.out.below b4)
    have s4 : w.heap.size + 1 ≤ w4.heap.size := by have := b4.size; simp at this; omega
    have q2' := R4.out.cell (o := 4) rfl
    clear b4
    go_wp2_with (first | (at_builtin; refine wpList_snoc_str rfl _ _ rfl (w.heap.size + 1) (.slice (some ⟨w2.heap.size, 0, none⟩) 1 1) [x2] x5 rfl S4.out rfl (by simp) s4 ?_))
    intro g6 cap6 w6 h6 b6
    have S6 := hide h6
    have B6 := hide (B4.out.trans (b6.mono (Nat.le_succ _)))
    have R6 := hide (R4.out.below b6 (Nat.lt_succ_self _))
    have q3' := R6.out.cell (o := 5) rfl
    have s6 : w.heap.size + 1 ≤ w6.heap.size := Nat.le_trans s4 b6.size
    clear h6 b6
    go_wp2_with fail
    go_loopw [3, 29] (fun o i wr => ∃ (k g cap : Nat) (L : List (List UInt8)), k ≤ bs.length ∧ o = .slice (some ⟨g, 0, none⟩) L.length cap ∧ i = .int .i64 k ∧ L = funTo F k ∧ SRow wr (w.heap.size + 1) (.slice (some ⟨g, 0, none⟩) L.length cap) L ∧ w.heap.size + 1 ≤ wr.heap.size ∧ Below w.heap.size w wr) (fun o i wr => bs.length - (intOf i).toNat)
    case atStart => exact ⟨0, _, _, ([x2] ++ [x5]), Nat.zero_le _, rfl, rfl, E4.out, S6.out, s6, B6.out⟩
    case round =>
      clear E4 S3 R3 B3 R2 B2 B1 R1 q2 q3 add0 add1 len_x1 len_x2 lt0 s2 S4 B4 R4 S6 B6 R6 s4 q2' q3' len_x5 z2
      obtain ⟨k, g, cap, L, hk, rfl, rfl, hL, hsr, hz1, hb⟩ := hrel
      have HA := hide hL
      have HB := hide hb
      have HSR := hide hsr
      have s1 := hb.size
      have hlen : L.length ≤ 32 := by
        rw [hL]
        exact HLB.out k hk
      clear hL hb hsr
      by_cases hlt : k < bs.length
      · rcases H5.out with hnil | ⟨b, off, rfl, g1, g2, _, g3⟩
        · rw [hnil] at hlt; exact absurd hlt (Nat.not_lt_zero _)
        obtain ⟨i0, i1, i2⟩ := (g3 k hlt).same (lo' := lo) (hi' := hi) (.of_below HB.out hh) (Nat.le_refl _) (Nat.le_refl _) g1 g2
        have HS : Hid (funTo F (k + 1) = funTo F k ++ [insLine (insAt' bs k)]) := HSN.out k hlt
        clear g3
        generalize insAt' bs k = i at i0 i1 i2 HS
        obtain ⟨io, ia, ib⟩ := i
        have HC := hide (HC4.out _ (HB.out.alloc s1 (.cells #[.int .i64 io, .int .i64 ia, .int .i64 ib] 59)) io ia ib)
        have BA := hide (HB.out.alloc s1 (.cells #[.int .i64 io, .int .i64 ia, .int .i64 ib] 59))
        have SA := hide (HSR.out.alloc (.cells #[.int .i64 io, .int .i64 ia, .int .i64 ib] 59))
        obtain ⟨t, ht⟩ : ∃ t, t = insText io ia ib := ⟨_, rfl⟩
        have HS' : Hid (funTo F (k + 1) = L ++ [t]) := by
          show _ = _
          rw [HS.out, HA.out, ht]
          rfl
        clear HS
        rw [← ht] at HC
        clear ht
        simp only at i0 i1 i2
        have j1 : (0 : Int) ≤ (k : Int) := by omega
        have j2 : (k : Int) < (bs.length : Int) := by omega
        go_wp2_with fail
        refine HC.out.mono ?_
        rintro e w5 ⟨rfl, b5⟩
        have B5 : Hid (Below w.heap.size w w5) := BA.out.trans (b5.mono BA.out.size)
        have S5 := hide (SA.out.below b5)
        have s5 : w.heap.size + 1 ≤ w5.heap.size := by have := b5.size; simp at this; omega
        clear b5
        go_wp2_with (first | (at_builtin; refine wpList_snoc_str rfl _ _ rfl (w.heap.size + 1) (.slice (some ⟨g, 0, none⟩) L.length cap) L t rfl S5.out rfl (by omega) s5 ?_))
        intro g6 cap6 w6 h6 b6
        have S6 := hide h6
        have B6 := hide (B5.out.trans (b6.mono (Nat.le_succ _)))
        have s6 := b6.size
        clear h6 b6
        go_wp2_with fail
        refine ⟨⟨k + 1, g6, cap6, L ++ [t], by omega, by simp, by go_num, HS'.out.symm, ?_, by omega, B6.out⟩, by simp [intOf]; omega⟩
        have := S6.out
        simpa using this
      · have hkn : k = bs.length := by omega
        go_wp2_with fail
        go_ret
        have hE : L = goalL := by rw [HA.out, hkn, HL.out]
        rw [← hE]
        exact ⟨g, cap, rfl, HSR.out.lower (Nat.le_succ _), HB.out⟩
end Go.Proofs.YtblliefejffhoaaGreatDoor

/- strings.Join at this program, off the shelf. -/
namespace Go.Proofs
open Go.Shelf Go.RowKit

shelf_lay Lays.n156 Nm 156 at Tryz as Tryz.lays156
theorem Tryz.extra156 : Builder.Extra Tryz.prog Tryz.lays156_ren where
  sizeBuilder := by kernel_rfl
  liesBuilder := by kernel_rfl
  t5 := Tryz.underlying5
  a5 := Tryz.isAgg5
  z5 := Tryz.sizeOf5
  v5 := Tryz.zeroValue5
  infoByte := by kernel_rfl
  cellsByte := by kernel_rfl
  sizeByte := by kernel_rfl
  neB5 := by decide
end Go.Proofs
namespace Go.Proofs.YtblliefejffhoaaGreatDoor
open Go.ChangeShapes Go.WideShapes Go.ChangeAt Go.RowKit
set_option linter.unusedVariables false

/-- strings.Join of a list of strings of the call's own. -/
theorem join_any (g cap S : Nat) (xs : List (List UInt8)) (sep : List UInt8) (w : World) (h : SRow w S (.slice (some ⟨g, 0, none⟩) xs.length cap) xs) (hc : xs.length ≤ cap) (hg : g < w.heap.size) (hn : xs.length ≤ 1000) (hl : (Lib.join xs sep).length ≤ 1000000) :
    Calls Tryz.prog 21 #[.slice (some ⟨g, 0, none⟩) xs.length cap, .string ⟨sep.toArray⟩] w fun e w' => e = .returned (.string ⟨(Lib.join xs sep).toArray⟩) ∧ Below w.heap.size w w' := by
  have e1 : (xs.map fun l => (⟨l.toArray⟩ : ByteArray)).map (·.data.toList) = xs := by
    rw [List.map_map]
    conv => rhs; rw [← List.map_id xs]
    apply List.map_congr_left
    intro l _
    simp
  have e2 : (xs.map fun l => (⟨l.toArray⟩ : ByteArray)).length = xs.length := by simp
  have e3 : (⟨sep.toArray⟩ : ByteArray).data.toList = sep := by simp
  have := Any.strings_Join Tryz.lays156 Tryz.extra156 g 0 cap (xs.map fun l => ⟨l.toArray⟩) ⟨sep.toArray⟩ w (fun j x hx => by
    rw [Nat.zero_add]
    have hj : j < xs.length := by
      rw [List.getElem?_map] at hx
      obtain ⟨y, hy, _⟩ := Option.map_eq_some_iff.1 hx
      exact (List.getElem?_eq_some_iff.1 hy).1
    have h1 := World.ownsRow.cellAt h j (by omega)
    rw [h1]
    rw [List.getElem?_map] at hx
    obtain ⟨y, hy, rfl⟩ := Option.map_eq_some_iff.1 hx
    simp [strsV, hy]) hg (by rw [e2]; omega) (by rw [e2]; exact hc) (by rw [e1, e3]; omega)
  rw [e1, e2, e3] at this
  exact this
end Go.Proofs.YtblliefejffhoaaGreatDoor

/- ProgText of the program. -/
namespace Go.Proofs.YtblliefejffhoaaGreatDoor
open Go.ChangeShapes Go.WideShapes Go.ChangeAt Go.RowKit
set_option linter.unusedVariables false

set_option maxHeartbeats 3200000 in
set_option maxRecDepth 100000 in
theorem implProgText_any {md : Bool} (a0 a1 a2 : Option Addr) (c0 c1 c2 lo hi : Nat) (p : GProg) (w : World) (hB : ProgB 1048576 p) (hx : PM md w lo hi a0 a1 a2 p) (hl : lo ≤ hi) (hh : hi ≤ w.heap.size) (htb : Tabs w) :
    Calls Tryz.prog 7 #[.agg #[.slice a0 p.types.length c0, .slice a1 p.glob.length c1, .slice a2 p.funs.length c2]] w fun e w' => e = .returned (.string ⟨(progTxt p).toArray⟩) ∧ Below w.heap.size w w' := by
  have HOk := hide (fun W (hb : Below w.heap.size w W) => implProgOk_any a0 a1 a2 c0 c1 c2 lo hi p W hB (hx.keep (hb.mono hh)) hl (Nat.le_trans hh hb.size) (htb.keep hb).1)
  have HT0 : Hid (progOkF p = false → progTxt p = []) := fun h => by unfold progTxt; rw [h]; rfl
  have HT1 : Hid (progOkF p = true → progTxt p = unl (progLs p)) := fun h => by unfold progTxt; rw [h]; rfl
  have HSM : Hid (progOkF p = true → SmallP p) := smallP_of
  have HG : Hid (GroupsIn w lo hi a0 p.types) := hx.1.1
  have HFun : Hid (FunsM md w lo hi a2 p.funs) := hx.2.2
  have HTb := hide htb
  have HC2 := hide (fun W (hb : Below w.heap.size w W) => progFieldsText_any a1 c1 lo hi p.glob W hB.2.1 (hx.2.1.1.keep (hb.mono hh)) (Nat.le_trans hh hb.size) (htb.keep hb))
  have HL : Hid (unl (progLs p) = unl (typesTo p.types p.types.length ++ globLs p.glob ++ funsLs p.funs p.funs.length)) := rfl
  generalize progTxt p = TT at HT0 HT1 ⊢
  clear hx hB htb
  generalize progOkF p = R at HOk HT0 HT1 HSM
  obtain ⟨gs, gl, fs⟩ := p
  simp only at HOk HT0 HT1 HSM HG HFun HC2 HL ⊢
  have r0 : Rec (w.alloc (.cells #[.slice a0 gs.length c0, .slice a1 gl.length c1, .slice a2 fs.length c2] 27)) w.heap.size 27 [.slice a0 gs.length c0, .slice a1 gl.length c1, .slice a2 fs.length c2] := Rec.new _ _ _
  have b0 : Below w.heap.size w (w.alloc (.cells #[.slice a0 gs.length c0, .slice a1 gl.length c1, .slice a2 fs.length c2] 27)) := (Below.refl _ _).alloc (Nat.le_refl _) _
  have R0 := hide r0
  have B0 := hide b0
  clear r0 b0
  go_enter Tryz.func7, Tryz.ntmps7
  go_wp2_with fail
  refine (HOk.out _ B0.out).mono ?_
  rintro e w1 ⟨rfl, b1⟩
  have B1 := hide (B0.out.trans (b1.mono B0.out.size))
  have R1 := hide (R0.out.below b1 R0.out.lt)
  clear b1 R0 B0 HOk
  cases R with
  | false =>
    have hT := HT0.out rfl
    have HT := hide hT
    clear hT HT0 HT1 HSM
    go_wp2_with fail
    go_ret
    exact ⟨by rw [HT.out]; rfl, B1.out⟩
  | true =>
  have hT := (HT1.out rfl).trans HL.out
  have HSP := hide (HSM.out rfl)
  clear HL
  have HL := hide hT
  clear hT HT0 HT1 HSM
  have lw := fdsTxt_len gl
  have hgl3 : gl.length ≤ 3 := HSP.out.2.2.1
  have hgs4 : gs.length ≤ 4 := HSP.out.1
  have hfs5 : fs.length ≤ 5 := HSP.out.2.2.2.2.1
  obtain ⟨ow, how⟩ : ∃ o, o = fdsTxt gl := ⟨_, rfl⟩
  have HOW := hide how
  rw [← how] at HC2 lw
  clear how
  have u0 := R1.out.cell (o := 0) rfl
  go_wp2_with fail
  go_loopw [3, 16] (fun o i wr => ∃ (k : Nat) (v : Value) (L : List (List UInt8)), k ≤ gs.length ∧ v = o ∧ i = .int .i64 k ∧ L = typesTo gs k ∧ SRow wr (w.heap.size + 1) v L ∧ Rec wr w.heap.size 27 [.slice a0 gs.length c0, .slice a1 gl.length c1, .slice a2 fs.length c2] ∧ Below w.heap.size w wr) (fun o i wr => gs.length - (intOf i).toNat)
  case atStart => exact ⟨0, _, [], Nat.zero_le _, rfl, rfl, rfl, SRow.nil _ _, R1.out, B1.out⟩
  case round =>
    clear R1 B1 u0
    obtain ⟨wo, hwo⟩ : ∃ x, x = wr := ⟨wr, rfl⟩
    subst hwo
    obtain ⟨k, v, L, hk, rfl, rfl, hL, hsr, hr, hb⟩ := hrel
    have HA := hide hL
    have HB := hide hb
    have HR := hide hr
    have HSR := hide hsr
    have s1 := hb.size
    have z1 : w.heap.size + 1 ≤ wo.heap.size := hr.lt
    have hlen : L.length ≤ 36 := by
      rw [hL]
      exact (typesTo_lb HSP.out.1 HSP.out.2.1 k hk).1
    clear hL hb hr hsr
    by_cases hlt : k < gs.length
    · rcases HG.out with hnil | ⟨b, off, rfl, g1, g2, g3⟩
      · rw [hnil] at hlt; exact absurd hlt (Nat.not_lt_zero _)
      obtain ⟨ta, tc, e0, hT⟩ := g3 k hlt
      have HTy := hide hT
      have e0' : wo.cell? ⟨b, off + k, none⟩ = some (.slice ta (grAt gs k).length tc) := by rw [HB.out.cell (p := ⟨b, off + k, none⟩) (by show b < _; omega)]; exact e0
      have hSG := HSP.out.2.1 k hlt
      have HSG := hide hSG
      have hg8 : (grAt gs k).length ≤ 8 := hSG.1
      have HSS : Hid (typesTo gs (k + 1) = L ++ grTo (grAt gs k) (grAt gs k).length) := by
        show _ = _
        rw [typesTo_snoc gs k hlt, HA.out]
      have HLB : Hid (∀ m, m ≤ (grAt gs k).length → (L ++ grTo (grAt gs k) m).length ≤ 45) := fun m hm => by
        rw [HA.out]
        exact ((typesTo_lb HSP.out.1 HSP.out.2.1 k hk).append (grTo_lb HSG.out m hm)).1
      have HSN := hide (grTo_snoc (grAt gs k))
      clear g3 hT e0 hSG
      generalize grAt gs k = g at HTy e0' HSG hg8 HSS HLB HSN
      have j1 : (0 : Int) ≤ (k : Int) := by omega
      have j2 : (k : Int) < (gs.length : Int) := by omega
      go_wp2_with (first | (at_builtin; refine wpList_snoc_str rfl _ _ rfl (w.heap.size + 1) v L [103, 114, 111, 117, 112] rfl HSR.out rfl (by omega) z1 ?_))
      intro g3 cap3 w3 h3 b3
      have S3 := hide h3
      have B3 := hide (HB.out.trans (b3.mono (Nat.le_succ _)))
      have R3 := hide (HR.out.below b3 (Nat.lt_succ_self _))
      clear h3 b3
      go_wp2_with fail
      go_loopw [3, 25] (fun o j wr => ∃ (m : Nat) (v : Value) (M : List (List UInt8)), m ≤ g.length ∧ v = o ∧ j = .int .i64 m ∧ M = L ++ grTo g m ∧ SRow wr (w.heap.size + 1) v M ∧ Rec wr w.heap.size 27 [.slice (some ⟨b, off, none⟩) gs.length c0, .slice a1 gl.length c1, .slice a2 fs.length c2] ∧ Below w.heap.size w wr) (fun o j wr => g.length - (intOf j).toNat)
      case atStart => exact ⟨0, _, _, Nat.zero_le _, rfl, rfl, rfl, S3.out, R3.out, B3.out⟩
      case round =>
        clear S3 R3 B3 HR HB HSR s1 z1 e0'
        obtain ⟨m, v, M, hm, rfl, rfl, hM, hsr, hr, hb⟩ := hrel
        have HA2 := hide hM
        have HB := hide hb
        have HR := hide hr
        have HSR := hide hsr
        have s1 := hb.size
        have z1 : w.heap.size + 1 ≤ wr.heap.size := hr.lt
        have hlen2 : M.length ≤ 45 := by
          rw [hM]
          exact HLB.out m hm
        clear hM hb hr hsr
        by_cases hml : m < g.length
        · rcases HTy.out with hnil | ⟨tb, toff, rfl, t1, t2, t3⟩
          · rw [hnil] at hml; exact absurd hml (Nat.not_lt_zero _)
          obtain ⟨x0, x1, x2, fa, fc, x3, hF⟩ := (t3 m hml).same (lo' := lo) (hi' := hi) (.of_below HB.out hh) (Nat.le_refl _) (Nat.le_refl _) t1 t2
          have HC : Hid (∀ W, Below wr.heap.size wr W → _) := fun W (hW : Below wr.heap.size wr W) => progTypeText_any fa fc lo hi (tyAt g m) W (HSG.out.2 m hml) (hF.same (Same.of_below hW (Nat.le_trans hh s1)) (Nat.le_refl _) (Nat.le_refl _)) (Nat.le_trans hh (Nat.le_trans s1 hW.size)) (HTb.out.keep (HB.out.trans (hW.mono s1)))
          have HS : Hid (L ++ grTo g (m + 1) = M ++ [tyLine (tyAt g m)]) := by
            show _ = _
            rw [HSN.out m hml, ← List.append_assoc, HA2.out]
          clear t3 hF
          generalize tyLine (tyAt g m) = t at HC HS
          generalize tyAt g m = ty at x0 x1 x2 x3 HC
          obtain ⟨yk, yu, yl, yf⟩ := ty
          simp only at x0 x1 x2 x3 HC
          have BA := hide (HB.out.alloc s1 (.cells #[.int .i64 yk, .int .i64 yu, .bool yl, .slice fa yf.length fc] 44))
          have RA := hide (HR.out.alloc (.cells #[.int .i64 yk, .int .i64 yu, .bool yl, .slice fa yf.length fc] 44))
          have SA := hide (HSR.out.alloc (.cells #[.int .i64 yk, .int .i64 yu, .bool yl, .slice fa yf.length fc] 44))
          have m1 : (0 : Int) ≤ (m : Int) := by omega
          have m2 : (m : Int) < (g.length : Int) := by omega
          go_wp2_with fail
          refine (HC.out _ ((Below.refl _ _).alloc (Nat.le_refl _) _)).mono ?_
          rintro e w5 ⟨rfl, b5⟩
          have B5 : Hid (Below w.heap.size w w5) := BA.out.trans (b5.mono BA.out.size)
          have R5 := hide (RA.out.below b5 RA.out.lt)
          have S5 := hide (SA.out.below b5)
          have s5 : w.heap.size + 1 ≤ w5.heap.size := by have := b5.size; simp at this; omega
          clear b5
          go_wp2_with (first | (at_builtin; refine wpList_snoc_str rfl _ _ rfl (w.heap.size + 1) v M t rfl S5.out rfl (by omega) s5 ?_))
          intro g6 cap6 w6 h6 b6
          have S6 := hide h6
          have B6 := hide (B5.out.trans (b6.mono (Nat.le_succ _)))
          have R6 := hide (R5.out.below b6 (Nat.lt_succ_self _))
          clear h6 b6
          go_wp2_with fail
          exact ⟨⟨m + 1, _, M ++ [t], by omega, rfl, by go_num, HS.out.symm, S6.out, R6.out, B6.out⟩, by simp [intOf]; omega⟩
        · have hmn : m = g.length := by omega
          have EE : Hid (M = typesTo gs (k + 1)) := by
            show _ = _
            rw [HSS.out, HA2.out, hmn]
          clear hmn
          go_wp2_with fail
          exact ⟨⟨k + 1, v, M, by omega, rfl, by go_num, EE.out, HSR.out, HR.out, HB.out⟩, by simp [intOf]; omega⟩
    · have hkn : k = gs.length := by omega
      have E0 : Hid (L = typesTo gs gs.length) := by
        show _ = _
        rw [HA.out, hkn]
      clear hkn HA
      have r1 := HR.out.cell (o := 1) rfl
      have r2 := HR.out.cell (o := 2) rfl
      by_cases ho : gl.length = 0
      · have E4 : Hid (L = typesTo gs gs.length ++ globLs gl ++ funsLs fs 0) := by
          show _ = _
          rw [E0.out, globLs, if_pos ho]
          simp [funsLs]
        have hz : ¬ (0 : Int) < (gl.length : Int) := by omega
        clear E0
        go_wp2_with fail
        go_loopw [3, 50] (fun o i wr => ∃ (k : Nat) (v : Value) (L : List (List UInt8)), k ≤ fs.length ∧ v = o ∧ i = .int .i64 k ∧ L = typesTo gs gs.length ++ globLs gl ++ funsLs fs k ∧ SRow wr (w.heap.size + 1) v L ∧ w.heap.size + 1 ≤ wr.heap.size ∧ Below w.heap.size w wr) (fun o i wr => fs.length - (intOf i).toNat)
        case atStart => exact ⟨0, _, _, Nat.zero_le _, rfl, rfl, E4.out, HSR.out, z1, HB.out⟩
        case round =>
          clear E4 HR HB HSR s1 r1 r2 hlen z1
          obtain ⟨k, v, L, hk, rfl, rfl, hL, hsr, hz1, hb⟩ := hrel
          have HA := hide hL
          have HB := hide hb
          have HSR := hide hsr
          have s1 := hb.size
          have hLB : LB 197 L := by
            rw [hL]
            exact ((typesTo_lb HSP.out.1 HSP.out.2.1 _ (Nat.le_refl _)).append (globLs_lb HSP.out.2.2.1)).append (funsLs_lb HSP.out.2.2.2.2.1 HSP.out.2.2.2.2.2 k hk)
          have hlen : L.length ≤ 197 := hLB.1
          have HLB := hide hLB
          clear hL hb hsr hLB
          by_cases hlt : k < fs.length
          · rcases HFun.out with hnil | ⟨b, off, rfl, g1, g2, _, g3⟩
            · rw [hnil] at hlt; exact absurd hlt (Nat.not_lt_zero _)
            obtain ⟨p0, q0, p4, q4, p5, q5, y0, y1, y2, y3, y4, y5, z0, z4, z5⟩ := (g3 k hlt).same (lo' := lo) (hi' := hi) (.of_below HB.out hh) (Nat.le_refl _) (Nat.le_refl _) g1 g2
            have hSF := HSP.out.2.2.2.2.2 k hlt
            have HC : Hid (∀ W, Below wr.heap.size wr W → _) := fun W (hW : Below wr.heap.size wr W) => progFunLines_any p0 p4 p5 q0 q4 q5 lo hi (funAt' fs k) W hSF (z0.keep (hW.mono (Nat.le_trans hh s1))) (z4.keep (hW.mono (Nat.le_trans hh s1))) (z5.keep (hW.mono (Nat.le_trans hh s1))) (Nat.le_trans hh (Nat.le_trans s1 hW.size)) (HTb.out.keep (HB.out.trans (hW.mono s1)))
            have hl3 : (funLs (funAt' fs k)).length ≤ 32 := (funTo_lb hSF _ (Nat.le_refl _)).1
            have hl0 := funLs_pos (funAt' fs k)
            have HS : Hid (typesTo gs gs.length ++ globLs gl ++ funsLs fs (k + 1) = L ++ funLs (funAt' fs k)) := by
              show _ = _
              rw [funsLs_snoc fs k hlt, ← List.append_assoc, HA.out]
            clear g3 hSF z0 z4 z5
            generalize funLs (funAt' fs k) = M at HC HS hl3 hl0
            generalize funAt' fs k = f at y0 y1 y2 y3 y4 y5 HC
            obtain ⟨fts, ⟨gk, go, gm⟩, fos, fbs⟩ := f
            simp only at y0 y1 y2 y3 y4 y5 HC
            have BA := hide (HB.out.alloc s1 (.cells #[.slice p0 fts.length q0, .int .i64 gk, .int .i64 go, .bool gm, .slice p4 fos.length q4, .slice p5 fbs.length q5] 36))
            have SA := hide (HSR.out.alloc (.cells #[.slice p0 fts.length q0, .int .i64 gk, .int .i64 go, .bool gm, .slice p4 fos.length q4, .slice p5 fbs.length q5] 36))
            have j1 : (0 : Int) ≤ (k : Int) := by omega
            have j2 : (k : Int) < (fs.length : Int) := by omega
            go_wp2_with fail
            refine (HC.out _ ((Below.refl _ _).alloc (Nat.le_refl _) _)).mono ?_
            rintro e w5 ⟨gM, capM, rfl, hM, b5⟩
            have B5 : Hid (Below w.heap.size w w5) := BA.out.trans (b5.mono BA.out.size)
            have S5 := hide (SA.out.below b5)
            have M5 := hide hM
            have s5 : w.heap.size + 1 ≤ w5.heap.size := by have := b5.size; simp at this; omega
            clear b5 hM
            go_wp2_with (first | (at_builtin; refine wpList_app_str rfl _ _ rfl (w.heap.size + 1) (wr.heap.size + 1) gM capM v L M rfl S5.out (by simpa using M5.out) rfl (by omega) (by omega) hl0 s5 ?_))
            intro g6 cap6 w6 h6 b6
            have S6 := hide h6
            have B6 := hide (B5.out.trans (b6.mono (Nat.le_succ _)))
            have s6 := b6.size
            clear h6 b6
            go_wp2_with fail
            exact ⟨⟨k + 1, _, L ++ M, by omega, rfl, by go_num, HS.out.symm, S6.out, by omega, B6.out⟩, by simp [intOf]; omega⟩
          · have hkn : k = fs.length := by omega
            have hpos : 0 < L.length := by
              have := funsLs_pos (fs := fs) HSP.out.2.2.2.1
              rw [HA.out, hkn]
              simp
              omega
            obtain ⟨g, cap, rfl, hg1, hg2, hcap⟩ := HSR.out.form hpos
            have hjl : (Lib.join L [10] ++ [10]).length ≤ 19897 := by
              rw [join_unl L hpos]
              exact lb_unl HLB.out
            have HJ : Hid (Lib.join L [10] ++ [10] = TT) := by
              show _ = _
              rw [join_unl L hpos, HL.out, HA.out, hkn]
            have HC := hide (join_any g cap _ L [10] wr HSR.out hcap hg2 (by omega) (by simp at hjl; omega))
            generalize Lib.join L [10] = J at hjl HJ HC
            have hjl2 : J.length ≤ 19897 := by simp at hjl; omega
            clear hkn hjl
            have add0 := add_big J [10] (J ++ [10]) rfl (by first | omega | simp) (by first | omega | simp)
            obtain ⟨x9, hadd0⟩ : ∃ l : List UInt8, l = J ++ [10] := ⟨_, rfl⟩
            rw [← hadd0] at add0
            have len_x9 : x9.length ≤ 20000 := by rw [hadd0]; first | (simp; done) | (simp; omega)
            have H_x9 := hide hadd0
            clear hadd0
            go_wp2_with fail
            refine HC.out.mono ?_
            rintro e w5 ⟨rfl, b5⟩
            go_wp2_with fail
            go_ret
            refine ⟨?_, HB.out.trans (b5.mono s1)⟩
            have : x9 = TT := by rw [H_x9.out, HJ.out]
            rw [← this]
            rfl
      · have hz : (0 : Int) < (gl.length : Int) := by omega
        have add0 := add_big [103, 108, 111, 98] ow ([103, 108, 111, 98] ++ ow) rfl (by first | omega | simp) (by first | omega | simp)
        obtain ⟨x4, hadd0⟩ : ∃ l : List UInt8, l = [103, 108, 111, 98] ++ ow := ⟨_, rfl⟩
        rw [← hadd0] at add0
        have len_x4 : x4.length ≤ 100 := by rw [hadd0]; first | (simp; done) | (simp; omega)
        have H_x4 := hide hadd0
        clear hadd0
        have E4 : Hid (L ++ [x4] = typesTo gs gs.length ++ globLs gl ++ funsLs fs 0) := by
          show _ = _
          rw [globLs, if_neg ho, H_x4.out, E0.out, HOW.out]
          simp [funsLs, globW]
        clear E0 H_x4
        go_wp2_with fail
        refine (HC2.out _ HB.out).mono ?_
        rintro e w4 ⟨rfl, b4⟩
        have B4 := hide (HB.out.trans (b4.mono HB.out.size))
        have R4 := hide (HR.out.below b4 HR.out.lt)
        have S4 := hide (HSR.out.below b4)
        have s4 : w.heap.size + 1 ≤ w4.heap.size := Nat.le_trans z1 b4.size
        clear b4
        go_wp2_with (first | (at_builtin; refine wpList_snoc_str rfl _ _ rfl (w.heap.size + 1) v L x4 rfl S4.out rfl (by omega) s4 ?_))
        intro g6 cap6 w6 h6 b6
        have S6 := hide h6
        have B6 := hide (B4.out.trans (b6.mono (Nat.le_succ _)))
        have R6 := hide (R4.out.below b6 (Nat.lt_succ_self _))
        have s6 : w.heap.size + 1 ≤ w6.heap.size := Nat.le_trans s4 b6.size
        have r2' := R6.out.cell (o := 2) rfl
        clear h6 b6
        go_wp2_with fail
        go_loopw [3, 50] (fun o i wr => ∃ (k : Nat) (v : Value) (L : List (List UInt8)), k ≤ fs.length ∧ v = o ∧ i = .int .i64 k ∧ L = typesTo gs gs.length ++ globLs gl ++ funsLs fs k ∧ SRow wr (w.heap.size + 1) v L ∧ w.heap.size + 1 ≤ wr.heap.size ∧ Below w.heap.size w wr) (fun o i wr => fs.length - (intOf i).toNat)
        case atStart => exact ⟨0, _, _, Nat.zero_le _, rfl, rfl, E4.out, S6.out, s6, B6.out⟩
        case round =>
          clear E4 HR HB HSR s1 r1 r2 hlen z1 B4 R4 S4 s4 S6 B6 R6 s6 r2' add0 len_x4
          obtain ⟨k, v, L, hk, rfl, rfl, hL, hsr, hz1, hb⟩ := hrel
          have HA := hide hL
          have HB := hide hb
          have HSR := hide hsr
          have s1 := hb.size
          have hLB : LB 197 L := by
            rw [hL]
            exact ((typesTo_lb HSP.out.1 HSP.out.2.1 _ (Nat.le_refl _)).append (globLs_lb HSP.out.2.2.1)).append (funsLs_lb HSP.out.2.2.2.2.1 HSP.out.2.2.2.2.2 k hk)
          have hlen : L.length ≤ 197 := hLB.1
          have HLB := hide hLB
          clear hL hb hsr hLB
          by_cases hlt : k < fs.length
          · rcases HFun.out with hnil | ⟨b, off, rfl, g1, g2, _, g3⟩
            · rw [hnil] at hlt; exact absurd hlt (Nat.not_lt_zero _)
            obtain ⟨p0, q0, p4, q4, p5, q5, y0, y1, y2, y3, y4, y5, z0, z4, z5⟩ := (g3 k hlt).same (lo' := lo) (hi' := hi) (.of_below HB.out hh) (Nat.le_refl _) (Nat.le_refl _) g1 g2
            have hSF := HSP.out.2.2.2.2.2 k hlt
            have HC : Hid (∀ W, Below wr.heap.size wr W → _) := fun W (hW : Below wr.heap.size wr W) => progFunLines_any p0 p4 p5 q0 q4 q5 lo hi (funAt' fs k) W hSF (z0.keep (hW.mono (Nat.le_trans hh s1))) (z4.keep (hW.mono (Nat.le_trans hh s1))) (z5.keep (hW.mono (Nat.le_trans hh s1))) (Nat.le_trans hh (Nat.le_trans s1 hW.size)) (HTb.out.keep (HB.out.trans (hW.mono s1)))
            have hl3 : (funLs (funAt' fs k)).length ≤ 32 := (funTo_lb hSF _ (Nat.le_refl _)).1
            have hl0 := funLs_pos (funAt' fs k)
            have HS : Hid (typesTo gs gs.length ++ globLs gl ++ funsLs fs (k + 1) = L ++ funLs (funAt' fs k)) := by
              show _ = _
              rw [funsLs_snoc fs k hlt, ← List.append_assoc, HA.out]
            clear g3 hSF z0 z4 z5
            generalize funLs (funAt' fs k) = M at HC HS hl3 hl0
            generalize funAt' fs k = f at y0 y1 y2 y3 y4 y5 HC
            obtain ⟨fts, ⟨gk, go, gm⟩, fos, fbs⟩ := f
            simp only at y0 y1 y2 y3 y4 y5 HC
            have BA := hide (HB.out.alloc s1 (.cells #[.slice p0 fts.length q0, .int .i64 gk, .int .i64 go, .bool gm, .slice p4 fos.length q4, .slice p5 fbs.length q5] 36))
            have SA := hide (HSR.out.alloc (.cells #[.slice p0 fts.length q0, .int .i64 gk, .int .i64 go, .bool gm, .slice p4 fos.length q4, .slice p5 fbs.length q5] 36))
            have j1 : (0 : Int) ≤ (k : Int) := by omega
            have j2 : (k : Int) < (fs.length : Int) := by omega
            go_wp2_with fail
            refine (HC.out _ ((Below.refl _ _).alloc (Nat.le_refl _) _)).mono ?_
            rintro e w5 ⟨gM, capM, rfl, hM, b5⟩
            have B5 : Hid (Below w.heap.size w w5) := BA.out.trans (b5.mono BA.out.size)
            have S5 := hide (SA.out.below b5)
            have M5 := hide hM
            have s5 : w.heap.size + 1 ≤ w5.heap.size := by have := b5.size; simp at this; omega
            clear b5 hM
            go_wp2_with (first | (at_builtin; refine wpList_app_str rfl _ _ rfl (w.heap.size + 1) (wr.heap.size + 1) gM capM v L M rfl S5.out (by simpa using M5.out) rfl (by omega) (by omega) hl0 s5 ?_))
            intro g6 cap6 w6 h6 b6
            have S6 := hide h6
            have B6 := hide (B5.out.trans (b6.mono (Nat.le_succ _)))
            have s6 := b6.size
            clear h6 b6
            go_wp2_with fail
            exact ⟨⟨k + 1, _, L ++ M, by omega, rfl, by go_num, HS.out.symm, S6.out, by omega, B6.out⟩, by simp [intOf]; omega⟩
          · have hkn : k = fs.length := by omega
            have hpos : 0 < L.length := by
              have := funsLs_pos (fs := fs) HSP.out.2.2.2.1
              rw [HA.out, hkn]
              simp
              omega
            obtain ⟨g, cap, rfl, hg1, hg2, hcap⟩ := HSR.out.form hpos
            have hjl : (Lib.join L [10] ++ [10]).length ≤ 19897 := by
              rw [join_unl L hpos]
              exact lb_unl HLB.out
            have HJ : Hid (Lib.join L [10] ++ [10] = TT) := by
              show _ = _
              rw [join_unl L hpos, HL.out, HA.out, hkn]
            have HC := hide (join_any g cap _ L [10] wr HSR.out hcap hg2 (by omega) (by simp at hjl; omega))
            generalize Lib.join L [10] = J at hjl HJ HC
            have hjl2 : J.length ≤ 19897 := by simp at hjl; omega
            clear hkn hjl
            have add0 := add_big J [10] (J ++ [10]) rfl (by first | omega | simp) (by first | omega | simp)
            obtain ⟨x9, hadd0⟩ : ∃ l : List UInt8, l = J ++ [10] := ⟨_, rfl⟩
            rw [← hadd0] at add0
            have len_x9 : x9.length ≤ 20000 := by rw [hadd0]; first | (simp; done) | (simp; omega)
            have H_x9 := hide hadd0
            clear hadd0
            go_wp2_with fail
            refine HC.out.mono ?_
            rintro e w5 ⟨rfl, b5⟩
            go_wp2_with fail
            go_ret
            refine ⟨?_, HB.out.trans (b5.mono s1)⟩
            have : x9 = TT := by rw [H_x9.out, HJ.out]
            rw [← this]
            rfl
end Go.Proofs.YtblliefejffhoaaGreatDoor
