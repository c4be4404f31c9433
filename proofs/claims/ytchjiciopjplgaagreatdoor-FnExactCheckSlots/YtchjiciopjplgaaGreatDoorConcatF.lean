/- slices.Grow of none and slices.Concat of two lists of fields. -/
import Derived.Test.YtchjiciopjplgaaGreatDoorFdRow
import Derived.Lib.AppendZeros
namespace Go.Proofs.YtchjiciopjplgaaGreatDoor
open Go.ChangeShapes Go.WideShapes Go.ChangeAt Go.RowKit Go.Deep
set_option linter.unusedVariables false

theorem grow_row (w : World) (S n : Nat) (h0 : 0 < n) (hn : n ≤ 4194304) (hS : S ≤ w.heap.size) (ty : TypeId) :
    ∃ cap w', (Builtin.append_ #[28, 3] ty #[.slice none 0 0, .int .i64 (n : Int)]).run Tryz.prog w = .ok (.slice (some ⟨w.heap.size, 0, none⟩) n cap) w' ∧ n ≤ cap ∧ FdRow w' S (.slice (some ⟨w.heap.size, 0, none⟩) 0 cap) [] ∧ Below w.heap.size w w' := by
  obtain ⟨i0, hi0, hzz⟩ := Option.map_eq_some_iff.1 Tryz.infoField
  simp only [Prod.mk.injEq] at hzz
  obtain ⟨hz0, hs0, hb0⟩ := hzz
  have hr := Lib.run_append_nil_zeros (P := Tryz.prog) w 28 3 ty 46 i0 _ .i64 .i64 Tryz.underlying28 Tryz.underlying3 hi0 hz0 n h0 (by rw [hs0]; decide) (by omega) (by rw [hb0]; omega)
  have hge := grownCap_ge w n 0 46
  have hcm : grownCap w n 0 46 ≤ maxLen := grownCap_le_maxLen w n 0 _ (by unfold maxLen; omega)
  refine ⟨_, _, hr, hge, ⟨rfl, .inr ⟨w.heap.size, _, _, rfl, hS, Deep.blk_alloc_new w.drew _, Nat.zero_le _, hcm, ?_, ?_⟩⟩, (Below.refl _ _).drew.alloc (Nat.le_refl _) _⟩
  · simp only [Array.size_append, size_zeroCells]
    have : (Value.agg #[Value.int IntKind.i64 0, Value.int IntKind.i64 0, Value.bool false]).cells.size = 3 := rfl
    rw [this]
    omega
  · simp [fcells]

set_option maxHeartbeats 1600000 in
set_option maxRecDepth 100000 in
theorem growF_any (n : Nat) (w : World) (hn : n ≤ 4194304) :
    Calls Tryz.prog 107 #[.slice none 0 0, .int .i64 (n : Int)] w fun e w' => ∃ v, e = .returned v ∧ FdRow w' w.heap.size v [] ∧ Below w.heap.size w w' := by
  by_cases h0 : n = 0
  · subst h0
    go_enter Tryz.func107, Tryz.ntmps107
    go_wp2_with fail
    go_ret
    exact ⟨_, rfl, FdRow.nil _ _, Below.refl _ _⟩
  · have hp : (0 : Int) < (n : Int) := by omega
    have hnn : ¬ (n : Int) < 0 := by omega
    have hw : IntKind.i64.wrap (n : Int) = (n : Int) := by rw [IntKind.wrap_i64]; omega
    obtain ⟨cap, w1, hr, hc, hrow, hb⟩ := grow_row w w.heap.size n (by omega) hn (Nat.le_refl _) 28
    have HR := hide hr
    have HRow := hide hrow
    have HB := hide hb
    clear hr hrow hb
    go_enter Tryz.func107, Tryz.ntmps107
    go_wp2_with (first | (at_builtin; refine Lib.wpList_append_run _ rfl _ _ _ _ rfl _ _ rfl rfl _ _ HR.out ?_))
    go_wp2_with fail
    go_ret
    exact ⟨_, rfl, HRow.out, HB.out⟩

set_option maxHeartbeats 1600000 in
theorem concatF_any (b : Nat) (a0 a1 : Option Addr) (c0 c1 lo hi : Nat) (ts os : List Fd) (w : World) (h0 : w.cell? ⟨b, 0, none⟩ = some (.slice a0 ts.length c0)) (h1 : w.cell? ⟨b, 1, none⟩ = some (.slice a1 os.length c1))
    (hb : b < w.heap.size) (hx0 : FieldsIn w lo hi a0 ts) (hx1 : FieldsIn w lo hi a1 os) (hh : hi ≤ w.heap.size) (l0 : ts.length ≤ 1048576) (l1 : os.length ≤ 1048576) :
    Calls Tryz.prog 55 #[.slice (some ⟨b, 0, none⟩) 2 2] w fun e w' => ∃ a cap, e = .returned (.slice a (ts ++ os).length cap) ∧ FdRow w' w.heap.size (.slice a (ts ++ os).length cap) (ts ++ os) ∧ Below w.heap.size w w' := by
  have HX0 := hide hx0
  have HX1 := hide hx1
  clear hx0 hx1
  obtain ⟨m, hm⟩ : ∃ m, ts.length = m := ⟨_, rfl⟩
  obtain ⟨n, hn⟩ : ∃ n, os.length = n := ⟨_, rfl⟩
  have HM := hide hm
  have HN := hide hn
  rw [hm] at h0 l0
  rw [hn] at h1 l1
  clear hm hn
  have H0 := hide h0
  have H1 := hide h1
  go_enter Tryz.func55, Tryz.ntmps55
  go_wp2_with fail
  go_loopw [3, 11] (fun s i wr => w = wr ∧ ((i = .int .i64 0 ∧ s = .int .i64 0) ∨ (i = .int .i64 1 ∧ s = .int .i64 (m : Int)) ∨ (i = .int .i64 2 ∧ s = .int .i64 ((m + n : Nat) : Int)))) (fun s i wr => 2 - (intOf i).toNat)
  case atStart => exact ⟨rfl, .inl ⟨rfl, rfl⟩⟩
  case round =>
    obtain ⟨hwr, hrel⟩ := hrel
    subst hwr
    rcases hrel with ⟨rfl, rfl⟩ | ⟨rfl, rfl⟩ | ⟨rfl, rfl⟩
    · have hw : IntKind.i64.wrap (m : Int) = (m : Int) := by rw [IntKind.wrap_i64]; omega
      have hnn : ¬ (m : Int) < 0 := by omega
      go_wp2_with fail
      exact ⟨⟨by first | trivial | rfl, .inr (.inl ⟨by go_num, by first | rfl | go_num⟩)⟩, by simp [intOf]⟩
    · have hw : IntKind.i64.wrap ((m : Int) + (n : Int)) = (m : Int) + (n : Int) := by rw [IntKind.wrap_i64]; omega
      have hnn : ¬ (m : Int) + (n : Int) < 0 := by omega
      go_wp2_with fail
      exact ⟨⟨by first | trivial | rfl, .inr (.inr ⟨by go_num, by first | rfl | go_num | (simp)⟩)⟩, by simp [intOf]⟩
    · go_wp2_with fail
      refine (growF_any (m + n) w (by omega)).mono ?_
      rintro e w1 ⟨v, rfl, hr1, hb1⟩
      have R1 := hide hr1
      have B1 := hide hb1
      clear hr1 hb1
      go_wp2_with fail
      go_loopw [6, 27] (fun o i wr => ∃ (v : Value) (k : Nat) (L : List Fd), v = o ∧ i = .int .i64 (k : Int) ∧ ((k = 0 ∧ L = []) ∨ (k = 1 ∧ L = ts) ∨ (k = 2 ∧ L = ts ++ os)) ∧ FdRow wr w.heap.size v L ∧ Below w.heap.size w wr) (fun o i wr => 2 - (intOf i).toNat)
      case atStart => exact ⟨_, 0, [], rfl, rfl, .inl ⟨rfl, rfl⟩, R1.out, B1.out⟩
      case round =>
        clear R1 B1
        obtain ⟨v, k, L, rfl, rfl, hk, hr, hbl⟩ := hrel
        have HR := hide hr
        have HB := hide hbl
        have s1 := hbl.size
        have d0 : wr.cell? ⟨b, 0, none⟩ = some (.slice a0 m c0) := by rw [hbl.cell (p := ⟨b, 0, none⟩) hb]; exact H0.out
        have d1 : wr.cell? ⟨b, 1, none⟩ = some (.slice a1 n c1) := by rw [hbl.cell (p := ⟨b, 1, none⟩) hb]; exact H1.out
        have Y0 := hide (HX0.out.same (lo' := lo) (hi' := hi) (Same.of_below hbl hh) (Nat.le_refl _) (Nat.le_refl _))
        have Y1 := hide (HX1.out.same (lo' := lo) (hi' := hi) (Same.of_below hbl hh) (Nat.le_refl _) (Nat.le_refl _))
        clear hr hbl
        rcases hk with ⟨rfl, rfl⟩ | ⟨rfl, rfl⟩ | ⟨rfl, rfl⟩
        · go_wp2_with (first | (at_builtin; refine wpList_app_fields rfl _ _ rfl w.heap.size v [] a0 c0 lo hi ts rfl HR.out (by rw [HM.out]; rfl) (by simp) (by rw [HM.out]; exact l0) Y0.out s1 ?_))
          intro a' cap' w2 h2 b2
          try rw [List.nil_append] at h2 ⊢
          have R2 := hide h2
          have B2 := hide (HB.out.trans b2)
          clear h2 b2
          go_wp2_with fail
          exact ⟨⟨_, 1, ts, rfl, by go_num, .inr (.inl ⟨rfl, rfl⟩), R2.out, B2.out⟩, by simp [intOf]⟩
        · go_wp2_with (first | (at_builtin; refine wpList_app_fields rfl _ _ rfl w.heap.size v L a1 c1 lo hi os rfl HR.out (by rw [HN.out]; rfl) (by rw [HM.out]; exact l0) (by rw [HN.out]; exact l1) Y1.out s1 ?_))
          intro a' cap' w2 h2 b2
          have R2 := hide h2
          have B2 := hide (HB.out.trans b2)
          clear h2 b2
          go_wp2_with fail
          exact ⟨⟨_, 2, L ++ os, rfl, by go_num, .inr (.inr ⟨rfl, rfl⟩), R2.out, B2.out⟩, by simp [intOf]⟩
        · obtain ⟨a', cap', rfl⟩ := HR.out.val
          go_wp2_with fail
          go_ret
          exact ⟨a', cap', rfl, HR.out, HB.out⟩
end Go.Proofs.YtchjiciopjplgaaGreatDoor
