/- The law of a program's lines. -/
import Derived.Test.YtblliefejffhoaaGreatDoorPbS
import Derived.Test.YtblliefejffhoaaGreatDoorPbTxt
namespace Go.Proofs.YtblliefejffhoaaGreatDoor
open Go.ChangeShapes Go.WideShapes Go.ChangeAt Go.RowKit Go.Deep
set_option linter.unusedVariables false

def cnt (s : ByteArray) (k : Nat) : Nat := (s.data.toList.take k).count 10
theorem cnt_snoc (s : ByteArray) (k : Nat) (h : k < s.size) : cnt s (k + 1) = cnt s k + if (s[k].toNat : Int) = 10 then 1 else 0 := by
  unfold cnt
  rw [List.take_succ_eq_append_getElem (by simpa using h), List.count_append]
  have e : s.data.toList[k]'(by simpa using h) = s[k] := rfl
  rw [e]
  by_cases hc : s[k] = 10
  · simp [hc]
  · have : ¬ (s[k].toNat : Int) = 10 := fun q => hc (UInt8.toNat_inj.1 (by show s[k].toNat = 10; omega))
    rw [if_neg this]
    simp [hc]
theorem cnt_le (s : ByteArray) (k : Nat) : cnt s k ≤ k := Nat.le_trans (List.count_le_length ..) (List.length_take_le _ _)
theorem fun_cells {w : World} {lo hi fb off : Nat} {fs : List GFun} (h : FunsM false w lo hi (some ⟨fb, off, none⟩) fs) (k : Nat) (hk : k < fs.length) : ∃ a4 c4 a5 c5, w.cell? ⟨fb, off + k * 6 + 4, none⟩ = some (.slice a4 (funAt' fs k).own.length c4) ∧ w.cell? ⟨fb, off + k * 6 + 5, none⟩ = some (.slice a5 (funAt' fs k).body.length c5) := by
  rcases h with rfl | ⟨b, o, hb, _, _, _, h3⟩
  · exact absurd hk (Nat.not_lt_zero _)
  · obtain ⟨rfl, rfl⟩ : fb = b ∧ off = o := by simpa using hb
    obtain ⟨a0, c0, a4, c4, a5, c5, e0, e1, e2, e3, e4, e5, _⟩ := h3 k hk
    exact ⟨a4, c4, a5, c5, e4, e5⟩

set_option maxHeartbeats 8000000 in
set_option maxRecDepth 100000 in
theorem fnProgLines_walk (a0 : Option Addr) (cap0 n0 : Nat) (hc0 : n0 ≤ cap0) (w : World) (h0 : BytesIn w w.heap.size a0 n0) (hp : pow10 w) (hl : lettersAt w) (hw : wordsAt w) :
    Calls Tryz.prog 3 #[.slice a0 n0 cap0] w fun e w' => e = .returned (.bool true) ∧ Below w.heap.size w w' := by
  have HT : Hid (Tabs w) := ⟨hp, hl, hw⟩
  clear hp hl hw
  by_cases l0 : 1048576 < n0
  · have k0 : (1048576 : Int) < (n0 : Int) := by omega
    go_enter Tryz.func3, Tryz.ntmps3
    go_wp2_with fail
    go_ret
    exact ⟨rfl, Below.refl _ _⟩
  have k0 : (n0 : Int) ≤ 1048576 := by omega
  go_enter Tryz.func3, Tryz.ntmps3
  go_wp2_with fail
  refine (drawProgText_any a0 cap0 n0 w hc0 h0).mono ?_
  rintro e w1 ⟨⟨ts, gl, fs⟩, e0, e1, e2, d0, d1, d2, rfl, hP1⟩
  have P2 := hide (hP1.alloc (.cells #[.slice e0 ts.length d0, .slice e1 gl.length d1, .slice e2 fs.length d2] 27))
  have R2 := hide (Rec.new w1 27 [.slice e0 ts.length d0, .slice e1 gl.length d1, .slice e2 fs.length d2])
  clear hP1 h0
  obtain ⟨s, hs⟩ : ∃ s, (⟨(progTxt ⟨ts, gl, fs⟩).toArray⟩ : ByteArray) = s := ⟨_, rfl⟩
  have HS := hide hs
  clear hs
  cases hk : progOkF ⟨ts, gl, fs⟩
  · have HK := hide hk
    have hs0 : s = ⟨#[]⟩ := by rw [← HS.out, progTxt, hk]; rfl
    clear hk
    subst hs0
    go_wp2_with fail
    refine (P2.out.implText HT.out HS.out).mono ?_
    rintro e w3 ⟨rfl, b3, p3⟩
    have R3 := hide (R2.out.below b3 R2.out.lt)
    have P3 := hide p3
    have q0 := R3.out.cell (o := 0) rfl
    have q1 := R3.out.cell (o := 1) rfl
    have q2 := R3.out.cell (o := 2) rfl
    clear b3 p3
    go_wp2_with fail
    refine (P3.out.specText HS.out).mono ?_
    rintro e w4 ⟨rfl, b4, p4⟩
    have R4 := hide (R3.out.below b4 R3.out.lt)
    have P4 := hide p4
    have r0 := R4.out.cell (o := 0) rfl
    have r1 := R4.out.cell (o := 1) rfl
    have r2 := R4.out.cell (o := 2) rfl
    clear b4 p4 q0 q1 q2
    go_wp2_with fail
    refine (P4.out.specOk HK.out).mono ?_
    rintro e w5 ⟨rfl, b5, p5⟩
    have R5 := hide (R4.out.below b5 R4.out.lt)
    have P5 := hide p5
    have q0 := R5.out.cell (o := 0) rfl
    have q1 := R5.out.cell (o := 1) rfl
    have q2 := R5.out.cell (o := 2) rfl
    clear b5 p5 r0 r1 r2
    go_wp2_with fail
    refine (P5.out.specOk HK.out).mono ?_
    rintro e w6 ⟨rfl, b6, p6⟩
    go_wp2_with fail
    go_ret
    exact ⟨rfl, p6.bel⟩
  have HK := hide hk
  have HN : Hid (cnt s s.size = linesP ⟨ts, gl, fs⟩) := by
    show cnt s s.size = _
    rw [← prog_lines hk, ← HS.out]
    unfold cnt
    rw [List.take_of_length_le (by simp [ByteArray.size])]
  have hsm := smallP_of hk
  have hlen : s.size ≤ 101 * 200 := by
    have h1 : s.size = (progTxt ⟨ts, gl, fs⟩).length := by rw [← HS.out]; simp [ByteArray.size]
    rw [h1]
    unfold progTxt
    rw [if_pos hk]
    have := lb_unl (((typesTo_lb hsm.1 hsm.2.1 ts.length (Nat.le_refl _)).append (globLs_lb hsm.2.2.1)).append (funsLs_lb hsm.2.2.2.2.1 hsm.2.2.2.2.2 fs.length (Nat.le_refl _)))
    exact Nat.le_trans this (by omega)
  have HF := hide hsm.2.2.2.2.2
  have t4 : ts.length ≤ 4 := hsm.1
  have f5 : fs.length ≤ 5 := hsm.2.2.2.2.1
  have f0 : 0 < fs.length := hsm.2.2.2.1
  have k8 : kinCount ts ≤ 8 := by
    have hk' := hk
    unfold progOkF at hk'
    simp only [Bool.and_eq_true] at hk'
    exact (kinOk_parts hk'.1.1).2.1
  clear hk hsm
  go_wp2_with fail
  refine (P2.out.implText HT.out HS.out).mono ?_
  rintro e w3 ⟨rfl, b3, p3⟩
  have R3 := hide (R2.out.below b3 R2.out.lt)
  have P3 := hide p3
  have q0 := R3.out.cell (o := 0) rfl
  have q1 := R3.out.cell (o := 1) rfl
  have q2 := R3.out.cell (o := 2) rfl
  clear b3 p3
  go_wp2_with fail
  refine (P3.out.specText HS.out).mono ?_
  rintro e w4 ⟨rfl, b4, p4⟩
  have R4 := hide (R3.out.below b4 R3.out.lt)
  have P4 := hide p4
  have r0 := R4.out.cell (o := 0) rfl
  have r1 := R4.out.cell (o := 1) rfl
  have r2 := R4.out.cell (o := 2) rfl
  clear b4 p4 q0 q1 q2
  go_wp2_with fail
  refine (P4.out.specOk HK.out).mono ?_
  rintro e w5 ⟨rfl, b5, p5⟩
  have R5 := hide (R4.out.below b5 R4.out.lt)
  have P5 := hide p5
  generalize hpb : w1.heap.size = pb at *
  have q0 := R5.out.cell (o := 0) rfl
  have q1 := R5.out.cell (o := 1) rfl
  have q2 := R5.out.cell (o := 2) rfl
  clear b5 p5 r0 r1 r2 R2 R3 R4 P2 P3 P4
  go_wp2_with fail
  go_quiet ((go_at_call 10; exact Calls.quiet_of_same (implKinCount_any e0 d0 _ _ ts _ P5.out.pb.1 (by first | exact P5.out.pm.1.1 | exact (P5.out.keep (below_drewN (Below.refl _ _) _)).pm.1.1))))
  rename Nat => nq
  have P6 := hide (P5.out.keep (below_drewN (Below.refl _ _) nq))
  have PF0 := P6.out.pm.2.2
  have q16 : (w5.drewN nq).cell? ⟨pb, 1, none⟩ = some (.slice e1 gl.length d1) := q1
  have q26 : (w5.drewN nq).cell? ⟨pb, 2, none⟩ = some (.slice e2 fs.length d2) := q2
  generalize w5.drewN nq = w6 at P6 PF0 q16 q26 ⊢
  obtain ⟨fb, off, he2⟩ : ∃ fb off, e2 = some ⟨fb, off, none⟩ := by
    rcases PF0 with h | ⟨b, o, h, _⟩
    · have h' : fs = [] := h
      rw [h'] at f0; simp at f0
    · exact ⟨b, o, h⟩
  subst he2
  have PF := hide PF0
  have gl3 : gl.length ≤ 1048576 := P6.out.pb.2.1
  obtain ⟨N, hN⟩ : ∃ N : Nat, N = ts.length + kinCount ts + fs.length + (if 0 < gl.length then 1 else 0) := ⟨_, rfl⟩
  have HNN := hide hN
  clear PF0 q0 q1 q2 R5 P5
  by_cases hg : 0 < gl.length
  · have hg1 : (0 : Int) < (gl.length : Int) := by omega
    have hN18 : N ≤ 18 := by rw [if_pos hg] at hN; omega
    have HNe : Hid ((N : Int) = (ts.length : Int) + (kinCount ts : Nat) + (fs.length : Int) + 1) := by show _ = _; rw [if_pos hg] at hN; omega
    clear hN
    go_wp2_with fail
    go_loop [5, 6] (fun n i => ∃ k : Nat, k ≤ fs.length ∧ i = .int .i64 k ∧ n = .int .i64 ((N + linesF fs k : Nat) : Int)) (fun _ i => fs.length - (intOf i).toNat)
    case atStart => exact ⟨0, Nat.zero_le _, rfl, by rw [show N + linesF fs 0 = N from rfl, HNe.out]⟩
    case round =>
      obtain ⟨k, hk, rfl, rfl⟩ := hrel
      have hlf := linesF_le fs HF.out k hk
      by_cases hlt : k < fs.length
      · obtain ⟨a4, c4, a5, c5, h4, h5⟩ := fun_cells PF.out k hlt
        have hsm := HF.out k hlt
        have hsn : linesF fs (k + 1) = linesF fs k + (funAt' fs k).body.length + (if 0 < (funAt' fs k).own.length then 1 else 0) := rfl
        have hb30 := hsm.2.2
        have HSN := hide hsn
        clear hsn hsm
        generalize (funAt' fs k).body.length = bl at h5 hb30 HSN
        generalize (funAt' fs k).own.length = ol at h4 HSN
        have hki : (k : Int) < (fs.length : Int) := by omega
        by_cases ho : 0 < ol
        · have ho1 : (0 : Int) < (ol : Int) := by omega
          go_wp2_with fail
          go_round
          case rel => exact ⟨k + 1, by omega, by go_num, by rw [HSN.out, if_pos ho]; go_num⟩
          case measure => simp [intOf]; omega
        · have ho1 : decide ((0 : Int) < (ol : Int)) = false := decide_eq_false (by omega)
          go_wp2_with fail
          go_round
          case rel => exact ⟨k + 1, by omega, by go_num, by rw [HSN.out, if_neg ho]; go_num⟩
          case measure => simp [intOf]; omega
      · have hke : k = fs.length := by omega
        have hki : (fs.length : Int) ≤ (k : Int) := by omega
        have HT2 : Hid (N + linesF fs k = cnt s s.size) := by
          show _ = _
          rw [HN.out, hke, HNN.out]; rfl
        generalize hM : N + linesF fs k = M at HT2 ⊢
        have hM5 : M ≤ 400 := by omega
        clear hM hlf hke
        go_wp2_with fail
        go_loop [5, 7] (fun n i => ∃ j : Nat, j ≤ s.size ∧ i = .int .i64 j ∧ n = .int .i64 ((M : Int) - (cnt s j : Nat))) (fun _ i => s.size - (intOf i).toNat)
        case atStart => exact ⟨0, Nat.zero_le _, rfl, by simp [cnt]⟩
        case round =>
          obtain ⟨j, hj, rfl, rfl⟩ := hrel
          have hcj := cnt_le s j
          by_cases hjl : j < s.size
          · have HC := hide (cnt_snoc s j hjl)
            by_cases h10 : (s[j].toNat : Int) = 10
            · have HC1 : Hid (cnt s (j + 1) = cnt s j + 1) := by have := HC.out; rw [if_pos h10] at this; exact this
              go_wp2
              all_goals
                go_round
                case rel => exact ⟨j + 1, by omega, by go_num, by rw [HC1.out]; go_num⟩
                case measure => simp [intOf]; omega
            · have HC1 : Hid (cnt s (j + 1) = cnt s j) := by have := HC.out; rw [if_neg h10] at this; exact this
              go_wp2
              all_goals
                go_round
                case rel => exact ⟨j + 1, by omega, by go_num, by rw [HC1.out]⟩
                case measure => simp [intOf]; omega
          · have hje : j = s.size := by omega
            have hz : (M : Int) - (cnt s j : Nat) = 0 := by rw [hje, HT2.out]; omega
            rw [hz]
            clear hz hje
            go_wp2_with fail
            go_ret
            exact ⟨rfl, P6.out.bel⟩
  · have hg1 : decide ((0 : Int) < (gl.length : Int)) = false := decide_eq_false (by omega)
    have hN18 : N ≤ 18 := by rw [if_neg hg] at hN; omega
    have HNe : Hid ((N : Int) = (ts.length : Int) + (kinCount ts : Nat) + (fs.length : Int)) := by show _ = _; rw [if_neg hg] at hN; omega
    clear hN
    go_wp2_with fail
    go_loop [5, 6] (fun n i => ∃ k : Nat, k ≤ fs.length ∧ i = .int .i64 k ∧ n = .int .i64 ((N + linesF fs k : Nat) : Int)) (fun _ i => fs.length - (intOf i).toNat)
    case atStart => exact ⟨0, Nat.zero_le _, rfl, by rw [show N + linesF fs 0 = N from rfl, HNe.out]⟩
    case round =>
      obtain ⟨k, hk, rfl, rfl⟩ := hrel
      have hlf := linesF_le fs HF.out k hk
      by_cases hlt : k < fs.length
      · obtain ⟨a4, c4, a5, c5, h4, h5⟩ := fun_cells PF.out k hlt
        have hsm := HF.out k hlt
        have hsn : linesF fs (k + 1) = linesF fs k + (funAt' fs k).body.length + (if 0 < (funAt' fs k).own.length then 1 else 0) := rfl
        have hb30 := hsm.2.2
        have HSN := hide hsn
        clear hsn hsm
        generalize (funAt' fs k).body.length = bl at h5 hb30 HSN
        generalize (funAt' fs k).own.length = ol at h4 HSN
        have hki : (k : Int) < (fs.length : Int) := by omega
        by_cases ho : 0 < ol
        · have ho1 : (0 : Int) < (ol : Int) := by omega
          go_wp2_with fail
          go_round
          case rel => exact ⟨k + 1, by omega, by go_num, by rw [HSN.out, if_pos ho]; go_num⟩
          case measure => simp [intOf]; omega
        · have ho1 : decide ((0 : Int) < (ol : Int)) = false := decide_eq_false (by omega)
          go_wp2_with fail
          go_round
          case rel => exact ⟨k + 1, by omega, by go_num, by rw [HSN.out, if_neg ho]; go_num⟩
          case measure => simp [intOf]; omega
      · have hke : k = fs.length := by omega
        have hki : (fs.length : Int) ≤ (k : Int) := by omega
        have HT2 : Hid (N + linesF fs k = cnt s s.size) := by
          show _ = _
          rw [HN.out, hke, HNN.out]; rfl
        generalize hM : N + linesF fs k = M at HT2 ⊢
        have hM5 : M ≤ 400 := by omega
        clear hM hlf hke
        go_wp2_with fail
        go_loop [5, 7] (fun n i => ∃ j : Nat, j ≤ s.size ∧ i = .int .i64 j ∧ n = .int .i64 ((M : Int) - (cnt s j : Nat))) (fun _ i => s.size - (intOf i).toNat)
        case atStart => exact ⟨0, Nat.zero_le _, rfl, by simp [cnt]⟩
        case round =>
          obtain ⟨j, hj, rfl, rfl⟩ := hrel
          have hcj := cnt_le s j
          by_cases hjl : j < s.size
          · have HC := hide (cnt_snoc s j hjl)
            by_cases h10 : (s[j].toNat : Int) = 10
            · have HC1 : Hid (cnt s (j + 1) = cnt s j + 1) := by have := HC.out; rw [if_pos h10] at this; exact this
              go_wp2
              all_goals
                go_round
                case rel => exact ⟨j + 1, by omega, by go_num, by rw [HC1.out]; go_num⟩
                case measure => simp [intOf]; omega
            · have HC1 : Hid (cnt s (j + 1) = cnt s j) := by have := HC.out; rw [if_neg h10] at this; exact this
              go_wp2
              all_goals
                go_round
                case rel => exact ⟨j + 1, by omega, by go_num, by rw [HC1.out]⟩
                case measure => simp [intOf]; omega
          · have hje : j = s.size := by omega
            have hz : (M : Int) - (cnt s j : Nat) = 0 := by rw [hje, HT2.out]; omega
            rw [hz]
            clear hz hje
            go_wp2_with fail
            go_ret
            exact ⟨rfl, P6.out.bel⟩
end Go.Proofs.YtblliefejffhoaaGreatDoor
