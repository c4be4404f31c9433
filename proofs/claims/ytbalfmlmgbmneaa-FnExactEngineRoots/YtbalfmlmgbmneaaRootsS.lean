/- EngineRoots of the model: all values, in a row of their own. -/
import Derived.Test.YtbalfmlmgbmneaaValApp
import Derived.Test.YtbalfmlmgbmneaaGenFrame
import Derived.Test.YtbalfmlmgbmneaaGenEngineD
import Derived.Deep.CutRange
namespace Go.Proofs.Ytbalfmlmgbmneaa
open Go.ChangeShapes Go.WideShapes Go.ChangeAt Go.RowKit Go.Joins Go.Deep
set_option linter.unusedVariables false

/-- The values of the first k frames, behind those that all share. -/
def rootsTo (g : List GVal) (fs : List GFrame) : Nat → List GVal
  | 0 => g
  | k + 1 => rootsTo g fs k ++ (frameAt' fs k).locals ++ (frameAt' fs k).stack
def rootsL (g : List GVal) (fs : List GFrame) : List GVal := rootsTo g fs fs.length
theorem rootsTo_len (g : List GVal) (fs : List GFrame) (hg : g.length ≤ 1048576) (hf : ∀ i, i < fs.length → FrameB 1048576 (frameAt' fs i)) : ∀ k, k ≤ fs.length → (rootsTo g fs k).length ≤ 1048576 + 2097152 * k := by
  intro k
  induction k with
  | zero => intro _; simp [rootsTo]; exact hg
  | succ k ih =>
    intro hk
    have h1 := ih (by omega)
    obtain ⟨h2, h3⟩ := hf k (by omega)
    simp only [rootsTo, List.length_append]
    unfold ValsB at h2 h3
    omega
theorem big_le {k n : Nat} (h : k < n) (hn : n ≤ 1048576) : 1048576 + 2097152 * (k + 1) ≤ 8796093022208 := by omega
theorem wpList_append_vals {md : Bool} {ops : Array Oper} {rest : List Oper} {o : Oper} {ac : Act} {Q : Exit → Act → World → Prop} (w : World) (hgd : o.guard = none) (s x : Operand)
    (ho : o.op = .call { callee := .builtin .append, args := #[s, x], argTypes := #[30, 30] })
    (S : Nat) (a : Option Addr) (cap : Nat) (us : List GVal) (va : Option Addr) (vc lo hi : Nat) (vs : List GVal) (hs : ac.eval s = .slice a us.length cap) (hx : ac.eval x = .slice va vs.length vc)
    (hr : ValRow w S a cap us) (hv : ValsM md w lo hi va vs) (hn : us.length + vs.length ≤ 8796093022208) (hS : S ≤ w.heap.size)
    (h : ∀ na nc w', ValRow w' S na nc (us ++ vs) → w.grownBy w' (Value.slice a us.length cap).ownBlock → wpList Try.prog ops Q rest (ac.put o.dst (.slice na (us ++ vs).length nc)) w') : wpList Try.prog ops Q (o :: rest) ac w := by
  refine wpList_plain hgd fun K hK => ?_
  obtain ⟨na, nc, w', hq, h2, h3, h4⟩ := run_append_vals o.type S a cap us va vc lo hi vs w hr hv hn hS
  unfold Oper.wp execOp
  simp only [ho, resolve, invoke, builtin, Sem.run_bind, Sem.run_pure, Result.andThen_ok, List.map_toArray, List.map_cons, List.map_nil, hs, hx, hq]
  have := hK _ _ (h na nc w' h2 h3)
  rw [List.length_append] at this
  exact this

set_option maxHeartbeats 4000000 in
set_option maxRecDepth 100000 in
theorem specRoots_any {md : Bool} (a0 : Option Addr) (c0 : Nat) (a4 : Option Addr) (c4 : Nat) (a5 : Option Addr) (c5 : Nat) (a6 : Option Addr) (c6 : Nat) (a7 : Option Addr) (c7 : Nat) (lo hi : Nat) (x : GEngine) (w : World)
    (hg : x.glob.length ≤ 1048576) (hf : FramesB 1048576 x.frames) (g5 : ValsM md w lo hi a5 x.glob) (g6 : FramesM md w lo hi a6 x.frames) (hh : hi ≤ w.heap.size) :
    Calls Try.prog 5 #[.agg #[.slice a0 x.heap.words.length c0, .int .i64 x.heap.old, .int .i64 x.heap.oldAt, .int .i64 x.heap.youngAt, .slice a4 x.heap.log.length c4, .slice a5 x.glob.length c5, .slice a6 x.frames.length c6, .slice a7 x.outs.length c7, .int .i64 x.asked, .int .i64 x.code, .int .i64 x.steps]] w fun e w' =>
      ∃ a c, e = .returned (.slice a (rootsL x.glob x.frames).length c) ∧ ValRow w' w.heap.size a c (rootsL x.glob x.frames) ∧ Below w.heap.size w w' := by
  have hfn := hf.1
  have HF := hide hf.2
  have HR := hide (rootsTo_len x.glob x.frames hg hf.2)
  have G5 := hide g5
  have G6 := hide g6.plain
  clear hf g5 g6
  obtain ⟨eb, heb⟩ : ∃ eb, eb = w.heap.size := ⟨_, rfl⟩
  obtain ⟨w0, hw0⟩ : ∃ w0, w0 = w.alloc (.cells #[.slice a0 x.heap.words.length c0, .int .i64 x.heap.old, .int .i64 x.heap.oldAt, .int .i64 x.heap.youngAt, .slice a4 x.heap.log.length c4, .slice a5 x.glob.length c5, .slice a6 x.frames.length c6, .slice a7 x.outs.length c7, .int .i64 x.asked, .int .i64 x.code, .int .i64 x.steps] 35) := ⟨_, rfl⟩
  have R0 : Hid (Rec w0 eb 35 [.slice a0 x.heap.words.length c0, .int .i64 x.heap.old, .int .i64 x.heap.oldAt, .int .i64 x.heap.youngAt, .slice a4 x.heap.log.length c4, .slice a5 x.glob.length c5, .slice a6 x.frames.length c6, .slice a7 x.outs.length c7, .int .i64 x.asked, .int .i64 x.code, .int .i64 x.steps]) := by rw [hw0]; exact Rec.new' _ _ _ _ heb
  have B0 : Hid (Below w.heap.size w w0) := by rw [hw0]; exact (Below.refl _ _).alloc (Nat.le_refl _) _
  have s0 : w0.heap.size = eb + 1 := by rw [hw0, heb]; simp
  go_enter Try.func5, Try.ntmps5
  go_upto_region 1 with (fail)
  rw [← hw0, ← heb]
  have HEB := hide heb
  have HS0 := hide s0
  have z0 : eb < w0.heap.size := by omega
  clear hw0 heb s0
  have c5' := R0.out.cell (o := 5) rfl
  have c6' := R0.out.cell (o := 6) rfl
  go_wp2_with (at_builtin; refine wpList_append_vals _ (by rfl) _ _ (by rfl) w0.heap.size _ _ [] a5 c5 lo hi x.glob (by rfl) (by rfl) (ValRow.empty _ _ _ (Deep.blk_alloc_new _ _) (Nat.le_refl _)) (G5.out.keep (Below.mono (Below.trans B0.out ((Below.refl _ _).alloc (by have := B0.out.size; omega) _)) hh)) (by simp; omega) (by simp) ?_; intro na nc w1 hr1 hg1; rw [List.nil_append] at hr1; have V1 := hide hr1; have RB1 : Hid (Below w0.heap.size w0 w1) := hide (((Below.refl _ _).alloc (Nat.le_refl _) _).grown hg1 (by simp) (fun k hk => by simp [Value.ownBlock] at hk; omega)); clear hr1 hg1)
  go_loopw [3, 4] (fun v i wr => ∃ (k : Nat) (a : Option Addr) (c : Nat), k ≤ x.frames.length ∧ i = .int .i64 (k : Int) ∧ v = .slice a (rootsTo x.glob x.frames k).length c ∧ Hid (ValRow wr w0.heap.size a c (rootsTo x.glob x.frames k)) ∧ Hid (Below w0.heap.size w0 wr)) (fun v i wr => x.frames.length - (intOf i).toNat)
  case atStart => exact ⟨0, na, nc, Nat.zero_le _, rfl, rfl, V1, RB1⟩
  case round =>
    obtain ⟨k, ra, rc, hk, rfl, rfl, VR, BR⟩ := hrel
    clear V1 RB1 c5' c6'
    have RR := hide (R0.out.below BR.out z0)
    have e6 := RR.out.cell (o := 6) rfl
    by_cases hlt : k < x.frames.length
    · have BW : Hid (Below w.heap.size w wr) := B0.out.trans (BR.out.mono B0.out.size)
      rcases G6.out with hnil | ⟨b, off, rfl, l1, l2, _, h3⟩
      · exfalso; rw [hnil] at hlt; exact absurd hlt (Nat.not_lt_zero _)
      obtain ⟨a2, d2, a3, d3, e0, e1, e2, e3, v2, v3⟩ := h3 k hlt
      have bw : b < w.heap.size := Nat.lt_of_lt_of_le l2 hh
      have q2 : wr.cell? ⟨b, off + k * 4 + 2, none⟩ = some (.slice a2 (frameAt' x.frames k).locals.length d2) := (BW.out.cell (p := ⟨b, off + k * 4 + 2, none⟩) bw).trans e2
      have q3 : wr.cell? ⟨b, off + k * 4 + 3, none⟩ = some (.slice a3 (frameAt' x.frames k).stack.length d3) := (BW.out.cell (p := ⟨b, off + k * 4 + 3, none⟩) bw).trans e3
      have E2 := hide e2
      have E3 := hide e3
      have V2 := hide v2
      have V3 := hide v3
      have hl := HR.out k hk
      have HL1 := HR.out (k + 1) (by omega)
      have HN : Hid (rootsTo x.glob x.frames (k + 1) = rootsTo x.glob x.frames k ++ (frameAt' x.frames k).locals ++ (frameAt' x.frames k).stack) := rfl
      have hln : (rootsTo x.glob x.frames k).length + (frameAt' x.frames k).locals.length + (frameAt' x.frames k).stack.length ≤ 8796093022208 := by
        have h9 : (rootsTo x.glob x.frames (k + 1)).length = (rootsTo x.glob x.frames k).length + (frameAt' x.frames k).locals.length + (frameAt' x.frames k).stack.length := by rw [HN.out, List.length_append, List.length_append]
        rw [h9] at HL1
        exact Nat.le_trans HL1 (big_le hlt hfn)
      have k1 : (0 : Int) ≤ (k : Int) := by omega
      have k2 : (k : Int) < (x.frames.length : Int) := by omega
      clear h3 e0 e1 e2 e3 v2 v3 HL1 hl
      generalize rootsTo x.glob x.frames k = us at *
      generalize frameAt' x.frames k = fr at *
      go_wp2_with fail
      go_region_held3 (fun w' => w'.cell? ⟨eb, 6, none⟩ = some (.slice (some ⟨b, off, none⟩) x.frames.length c6) ∧ w'.cell? ⟨b, off + k * 4 + 2, none⟩ = some (.slice a2 fr.locals.length d2) ∧ w'.cell? ⟨b, off + k * 4 + 3, none⟩ = some (.slice a3 fr.stack.length d3))
        ((first | go_keep | exact ⟨RR2.out.cell (o := 6) rfl, (BW2.out.cell (p := ⟨b, off + k * 4 + 2, none⟩) bw).trans E2.out, (BW2.out.cell (p := ⟨b, off + k * 4 + 3, none⟩) bw).trans E3.out⟩))
        ((first
          | (refine step_append_vals _ (by rfl) _ _ (by rfl) w0.heap.size na2 nc2 (us ++ fr.locals) a3 d3 lo hi fr.stack (by rfl) (by rfl) VR2.out (V3.out.keep (BW2.out.mono hh)) (by simp only [List.length_append]; omega) (by have := BR2.out.size; omega) ?_; intro na3 nc3 w3 hr3 hg3 _; have VR3 := hide hr3; have BR3 : Hid (Below w0.heap.size w0 w3) := hide (BR2.out.grown hg3 BR2.out.size (owns_base VR2.out)); have RR2 := hide (R0.out.below BR3.out z0); have BW2 : Hid (Below w.heap.size w w3) := hide (B0.out.trans (BR3.out.mono B0.out.size)))
          | (refine step_append_vals _ (by rfl) _ _ (by rfl) w0.heap.size ra rc us a2 d2 lo hi fr.locals (by rfl) (by rfl) VR.out (V2.out.keep (Below.mono (Below.drew BW.out) hh)) (by omega) (by have := BR.out.size; first | omega | (simp; omega)) ?_; intro na2 nc2 w2 hr2 hg2 _; have VR2 := hide hr2; have BR2 : Hid (Below w0.heap.size w0 w2) := hide (BR.out.drew.grown hg2 (by have := BR.out.size; first | omega | (simp; omega)) (owns_base VR.out)); have RR2 := hide (R0.out.below BR2.out z0); have BW2 : Hid (Below w.heap.size w w2) := hide (B0.out.trans (BR2.out.mono B0.out.size)))))
      go_wp2_with fail
      refine ⟨⟨k + 1, na3, nc3, by omega, by go_num, ?_, ?_, BR3⟩, by simp [intOf]; omega⟩
      · rw [HN.out]; simp only [List.length_append, Nat.add_assoc]
      · show ValRow _ _ _ _ _; rw [HN.out]; exact VR3.out
    · have hke : Hid (k = x.frames.length) := Nat.le_antisymm hk (Nat.le_of_not_lt hlt)
      go_wp2_with fail
      go_ret
      rw [hke.out] at VR ⊢
      exact ⟨ra, rc, rfl, owns_lower VR.out (by have := HS0.out; have := HEB.out; omega), B0.out.trans (BR.out.mono B0.out.size)⟩
end Go.Proofs.Ytbalfmlmgbmneaa
