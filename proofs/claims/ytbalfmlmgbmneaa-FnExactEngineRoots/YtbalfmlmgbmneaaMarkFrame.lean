/- markFrame of the laws. Written by tools/genmark.py. -/
import Derived.Test.YtbalfmlmgbmneaaGenFrame
import Derived.Test.YtbalfmlmgbmneaaMarkVal
namespace Go.Proofs.Ytbalfmlmgbmneaa
open Go.ChangeShapes Go.WideShapes Go.ChangeAt Go.RowKit Go.Joins Go.Deep
set_option linter.unusedVariables false
def FrameSh (w : World) (lo hi : Nat) (a : Option Addr) (xs : List GFrame) : Prop :=
  xs = [] ∨ ∃ b m, a = some ⟨b, 0, none⟩ ∧ lo ≤ b ∧ b < hi ∧ Own w b m 47 ∧ xs.length * 4 ≤ m ∧ ∀ i, i < xs.length → ∃ a2 c2 a3 c3, w.cell? ⟨b, i * 4 + 2, none⟩ = some (.slice a2 (frameAt' xs i).locals.length c2) ∧ w.cell? ⟨b, i * 4 + 3, none⟩ = some (.slice a3 (frameAt' xs i).stack.length c3) ∧ FlatSh 62 2 w lo hi a2 (frameAt' xs i).locals.length ∧ FlatSh 62 2 w lo hi a3 (frameAt' xs i).stack.length
theorem FrameSh.marks {lo hi lo' hi' : Nat} {w w' : World} {a : Option Addr} {xs : List GFrame} (h : FrameSh w lo hi a xs) (hk : MarksG lo' hi' w w') : FrameSh w' lo hi a xs := by
  rcases h with h | ⟨b, m, rfl, h3, h4, h5, h6, h7⟩
  · exact .inl h
  · refine .inr ⟨b, m, rfl, h3, h4, hk.own _ _ _ h5, h6, fun i hi => ?_⟩
    obtain ⟨a2, c2, a3, c3, e2, e3, s2, s3⟩ := h7 i hi
    exact ⟨a2, c2, a3, c3, (hk.head b m _ _ h5 (sl_t Try.infoFrame i 2 (by decide) rfl)).trans e2, (hk.head b m _ _ h5 (sl_t Try.infoFrame i 3 (by decide) rfl)).trans e3, s2.marks hk, s3.marks hk⟩
theorem FrameSh.keep {lo hi : Nat} {w w' : World} {a : Option Addr} {xs : List GFrame} (h : FrameSh w lo hi a xs) (hk : Below hi w w') : FrameSh w' lo hi a xs := by
  rcases h with h | ⟨b, m, rfl, h3, h4, h5, h6, h7⟩
  · exact .inl h
  · refine .inr ⟨b, m, rfl, h3, h4, h5.below hk h4, h6, fun i hi => ?_⟩
    obtain ⟨a2, c2, a3, c3, e2, e3, s2, s3⟩ := h7 i hi
    exact ⟨a2, c2, a3, c3, (hk.cell (p := ⟨b, _, none⟩) h4).trans e2, (hk.cell (p := ⟨b, _, none⟩) h4).trans e3, s2.keep hk, s3.keep hk⟩

set_option maxHeartbeats 1600000 in
theorem markFrameS_m (a : Option Addr) (cap lo hi : Nat) (xs : List GFrame) (k : Int) (w : World) (hl : FramesB 1048576 xs) (k0 : 0 ≤ k) (k1 : k ≤ 4500000000000000000) (hx : FrameSh w lo hi a xs) :
    Calls Try.prog 29 #[.slice a xs.length cap, .int .i64 k] w fun e w' => ∃ r : Int, e = .returned (.int .i64 r) ∧ k ≤ r ∧ r ≤ k + 4194306 * (xs.length : Int) ∧ MarksG lo hi w w' := by
  have hn := hl.1
  have HL := hide hl.2
  clear hl
  rcases hx with h0 | ⟨b, m, rfl, h1, h2, h3, h4, h5⟩
  · have h0' : xs.length ≤ 0 := by rw [h0]; exact Nat.le_refl _
    clear h0
    go_enter Try.func29, Try.ntmps29
    go_wp2_with fail
    go_loop [1, 5] (fun l i => i = .int .i64 0 ∧ l = .int .i64 k) (fun l i => 0)
    case atStart => exact ⟨rfl, rfl⟩
    case round =>
      obtain ⟨rfl, rfl⟩ := hrel
      go_wp2_with fail
      go_ret
      exact ⟨k, rfl, by omega, by omega, MarksG.refl _ _ _⟩
  · have H3 := hide h3
    have H5 := hide h5
    clear h3 h5
    go_enter Try.func29, Try.ntmps29
    go_wp2_with fail
    go_loopw [1, 5] (fun l i wr => ∃ (j : Nat) (r : Int), j ≤ xs.length ∧ i = .int .i64 j ∧ l = .int .i64 r ∧ k ≤ r ∧ r ≤ k + 4194306 * (j : Int) ∧ MarksG lo hi w wr) (fun l i wr => xs.length - (intOf i).toNat)
    case atStart => exact ⟨0, k, Nat.zero_le _, rfl, rfl, by omega, by omega, MarksG.refl _ _ _⟩
    case round =>
      obtain ⟨j, r0, hj, rfl, rfl, r1, r2, hM⟩ := hrel
      have HK0 := hide hM
      clear hM
      by_cases hjn : j < xs.length
      · obtain ⟨a2, c2, a3, c3, e2, e3, s2, s3⟩ := H5.out j hjn
        have HLj := hide (HL.out j hjn)
        have g1 : (0 : Int) ≤ (j : Int) := by omega
        have g2 : (j : Int) < (xs.length : Int) := by omega
        have E2 := hide e2
        have S2 := hide s2
        have E3 := hide e3
        have S3 := hide s3
        clear e2 s2 e3 s3
        have HO0 := hide (HK0.out.own _ _ _ H3.out)
        have f0_0 := HO0.out.frozen (j * 4)
        obtain ⟨v0_0, d0_0⟩ := HO0.out.cell (o := j * 4) (by omega)
        have f1_0 := HO0.out.frozen (j * 4 + 1)
        obtain ⟨v1_0, d1_0⟩ := HO0.out.cell (o := j * 4 + 1) (by omega)
        have d2_0 := (HK0.out.head b m _ _ H3.out (sl_t Try.infoFrame j 2 (by decide) rfl)).trans E2.out
        have d3_0 := (HK0.out.head b m _ _ H3.out (sl_t Try.infoFrame j 3 (by decide) rfl)).trans E3.out
        go_wp2_with fail
        have o1_0 := HO0.out.set b (j * 4) (.int .i64 (r0))
        have o2_0 := o1_0.set b (j * 4 + 1) (.int .i64 (r0 + 1))
        have M0 := hide (((HK0.out).set HO0.out h1 h2 (j * 4) (by omega) (sl_f0 Try.infoFrame j (by decide) rfl) (.int .i64 (r0))).set o1_0 h1 h2 (j * 4 + 1) (by omega) (sl_f Try.infoFrame j 1 (by decide) rfl) (.int .i64 (r0 + 1)))
        refine (markValS_m a2 c2 (frameAt' xs j).locals.length lo hi _ _ (Nat.le_trans HLj.out.1 (by decide)) (by omega) (by omega) (S2.out.marks M0.out)).mono ?_
        rintro e w1 ⟨rfl, hM1, _⟩
        have lb0 : (frameAt' xs j).locals.length ≤ 1048576 := HLj.out.1
        obtain ⟨q0, hq0⟩ : ∃ q : Int, q = r0 + 1 + 1 + 2 * ((frameAt' xs j).locals.length : Int) := ⟨_, rfl⟩
        rw [← hq0]
        have u0 : r0 + 1 + 1 ≤ q0 ∧ q0 ≤ r0 + 1 + 1 + 2097152 := by omega
        clear hq0 lb0
        have HK1 := hide (M0.out.trans hM1)
        clear hM1
        clear f0_0 d0_0 f1_0 d1_0 d2_0 d3_0
        have HO1 := hide (HK1.out.own _ _ _ H3.out)
        have f0_1 := HO1.out.frozen (j * 4)
        obtain ⟨v0_1, d0_1⟩ := HO1.out.cell (o := j * 4) (by omega)
        have f1_1 := HO1.out.frozen (j * 4 + 1)
        obtain ⟨v1_1, d1_1⟩ := HO1.out.cell (o := j * 4 + 1) (by omega)
        have d2_1 := (HK1.out.head b m _ _ H3.out (sl_t Try.infoFrame j 2 (by decide) rfl)).trans E2.out
        have d3_1 := (HK1.out.head b m _ _ H3.out (sl_t Try.infoFrame j 3 (by decide) rfl)).trans E3.out
        go_wp2_with fail
        have M1 := hide (HK1.out)
        refine (markValS_m a3 c3 (frameAt' xs j).stack.length lo hi _ _ (Nat.le_trans HLj.out.2 (by decide)) (by omega) (by omega) (S3.out.marks M1.out)).mono ?_
        rintro e w2 ⟨rfl, hM2, _⟩
        have lb1 : (frameAt' xs j).stack.length ≤ 1048576 := HLj.out.2
        obtain ⟨q1, hq1⟩ : ∃ q : Int, q = q0 + 2 * ((frameAt' xs j).stack.length : Int) := ⟨_, rfl⟩
        rw [← hq1]
        have u1 : q0 ≤ q1 ∧ q1 ≤ q0 + 2097152 := by omega
        clear hq1 lb1
        have HK2 := hide (M1.out.trans hM2)
        clear hM2
        clear f0_1 d0_1 f1_1 d1_1 d2_1 d3_1
        have HO2 := hide (HK2.out.own _ _ _ H3.out)
        have f0_2 := HO2.out.frozen (j * 4)
        obtain ⟨v0_2, d0_2⟩ := HO2.out.cell (o := j * 4) (by omega)
        have f1_2 := HO2.out.frozen (j * 4 + 1)
        obtain ⟨v1_2, d1_2⟩ := HO2.out.cell (o := j * 4 + 1) (by omega)
        have d2_2 := (HK2.out.head b m _ _ H3.out (sl_t Try.infoFrame j 2 (by decide) rfl)).trans E2.out
        have d3_2 := (HK2.out.head b m _ _ H3.out (sl_t Try.infoFrame j 3 (by decide) rfl)).trans E3.out
        go_wp2_with fail
        exact ⟨⟨j + 1, q1, by omega, by go_num, rfl, by omega, by omega, HK2.out⟩, by simp [intOf]; omega⟩
      · go_wp2_with fail
        go_ret
        exact ⟨r0, rfl, r1, by omega, HK0.out⟩

theorem FramesM.shapeG {lo hi : Nat} {w : World} {a : Option Addr} {xs : List GFrame} (h : FramesM true w lo hi a xs) : FrameSh w lo hi a xs := by
  rcases h with rfl | ⟨b, off, rfl, h3, h4, h5, h6⟩
  · exact .inl rfl
  · obtain ⟨rfl, m, ho, hm⟩ := h5 rfl
    refine .inr ⟨b, m, rfl, h3, h4, ho, hm, fun i hi => ?_⟩
    obtain ⟨a2, c2, a3, c3, e0, e1, e2, e3, s2, s3⟩ := h6 i hi
    rw [Nat.zero_add] at e2 e3
    exact ⟨a2, c2, a3, c3, e2, e3, s2.shapeG, s3.shapeG⟩
end Go.Proofs.Ytbalfmlmgbmneaa
