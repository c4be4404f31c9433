/- upward, ranged over by a body that writes: what the rounds keep is told by Kp. -/
import Derived.Test.YtpkfihliconenaaDoorKinG
namespace Go.Proofs.YtpkfihliconenaaDoor
open Go.ChangeShapes Go.WideShapes Go.ChangeAt Go.RowKit Go.Shelf
set_option linter.unusedVariables false
attribute [local go_sem] Oper.semAt_some

/-- The blocks below n₁, and two more, are as they were. -/
def KpL (n₁ Ba Bt : Nat) (A B : World) : Prop := Below n₁ A B ∧ B.heap[Ba]? = A.heap[Ba]? ∧ B.heap[Bt]? = A.heap[Bt]?
theorem KpL.trans {n₁ Ba Bt : Nat} {A B C : World} (h : KpL n₁ Ba Bt A B) (k : KpL n₁ Ba Bt B C) : KpL n₁ Ba Bt A C := ⟨h.1.trans k.1, k.2.1.trans h.2.1, k.2.2.trans h.2.2⟩
theorem KpL.put {n₁ Ba Bt : Nat} {w : World} (h1 : n₁ ≤ w.heap.size) (h2 : Ba < w.heap.size) (h3 : Bt < w.heap.size) (W : World) (l : Nat) (o o' : Obj) (hl : w.heap.size ≤ l) (hg : W.heap[l]? = some o) (hc : o.isCells = false) (hw : o.isWalk = false) : KpL n₁ Ba Bt W (W.putObj l o') :=
  ⟨belowK_b h1 W l o o' hl hg hc hw, World.putObj_heap_other (by omega), World.putObj_heap_other (by omega)⟩

set_option maxRecDepth 100000 in
set_option maxHeartbeats 1000000 in
theorem upIter_k (F : Fence) (n : Nat) (hf : F.fn 64) (hro : F.round = none) (hn : 1 ≤ n) (l Ba Bt n₀ rb ro rn rc cn cc : Nat) (ca : Option Addr) (U : Nat → Int) (a : Int) (Kp : World → World → Prop) (hKc : ∀ A B v, Kp A B → A.cell? ⟨Bt, 0, none⟩ = some v → B.cell? ⟨Bt, 0, none⟩ = some v) (hKu : ∀ A B, Kp A B → UpsAt A n₀ rb ro rn U → UpsAt B n₀ rb ro rn U) (J Jx : List (Fin rn) → World → Prop)
    (ha : -1 ≤ a ∧ a < (rn : Int)) (hrn : rn ≤ 8) (hU : ∀ i, i < rn → -1 ≤ U i ∧ U i < (i : Int))
    (hY : ∀ pre (x : Fin rn) W, J pre W → pre.length < (upL U rn (rn + 1) a).length → YieldAt F (n - 1) Tryd.prog l #[.int .i64 (x.val : Int)] W fun e W' =>
      (e = .returned (.bool true) ∧ J (pre ++ [x]) W' ∧ Kp W W') ∨ (e = .returned (.bool false) ∧ Jx (pre ++ [x]) W'))
    (W : World) (c0 : W.cell? ⟨Ba, 0, none⟩ = some (.int .i64 a)) (c1 : W.cell? ⟨Bt, 0, none⟩ = some (.slice (some ⟨rb, ro, none⟩) rn rc)) (hL : UpsAt W n₀ rb ro rn U) (h0 : J [] W) :
    CallsIn F n Tryd.prog 64 #[.func (.yield l) #[] #[], .pointer (some ⟨Ba, 0, none⟩), .pointer (some ⟨Bt, 0, none⟩)] W fun e W' => (∃ v, e = .returned v) ∧
      ((∃ ys, ys = upL U rn (rn + 1) a ∧ J ys W') ∨ (∃ pre, pre <+: upL U rn (rn + 1) a ∧ Jx pre W')) := by
  refine callsIn_of_wp Tryd.func64 rfl hf ?_ hro
  simp only [Tryd.ntmps64, List.size_toArray, List.length_cons, List.length_nil, Nat.reduceAdd, Nat.reduceSub, Array.replicate_succ, Array.replicate_zero, List.push_toArray, List.append_toArray, List.nil_append, List.cons_append]
  have HU := hide hU
  clear hU
  generalize hLL : upL U rn (rn + 1) a = L at *
  have HL := hide hLL
  clear hLL
  gi_wp2
  gi_loopw [4] (fun v wr => ∃ (pre rest : List (Fin rn)) (c : Int) (f : Nat), v = .int .i64 c ∧ L = pre ++ rest ∧ rest = upL U rn f c ∧ -1 ≤ c ∧ c < (rn : Int) ∧ c < (f : Int) ∧ wr.cell? ⟨Bt, 0, none⟩ = some (.slice (some ⟨rb, ro, none⟩) rn rc) ∧ UpsAt wr n₀ rb ro rn U ∧ J pre wr)
    (fun v wr => (intOf v + 1).toNat)
  case atStart =>
    exact ⟨[], L, a, rn + 1, rfl, rfl, HL.out.symm, by omega, by omega, by omega, c1, hL, h0⟩
  case round =>
    obtain ⟨pre, rest, c, f, rfl, hx, hr, b1, b2, b3, hc, hl, hJs⟩ := hrel
    have HX := hide hx
    have HR := hide hr
    have HJ := hide hJs
    clear hx hr hL c0 c1
    by_cases hneg : c < 0
    · have hnil : rest = [] := by
        rw [HR.out]
        cases f with
        | zero => rfl
        | succ f => unfold upL; rw [dif_neg (by omega)]
      clear hJs hY
      gi_wp2
      go_end0
      exact ⟨⟨_, rfl⟩, .inl ⟨pre, by rw [HX.out, hnil]; simp, HJ.out⟩⟩
    · obtain ⟨m, rfl⟩ := Int.eq_ofNat_of_zero_le (show 0 ≤ c by omega)
      have hm : m < rn := by omega
      obtain ⟨f', rfl⟩ : ∃ f', f = f' + 1 := ⟨f - 1, by omega⟩
      have hrest : rest = ⟨m, hm⟩ :: upL U rn f' (U m) := by
        rw [HR.out]
        show (if h : 0 ≤ (m : Int) ∧ (m : Int).toNat < rn then _ else _) = _
        rw [dif_pos ⟨by omega, by simpa using hm⟩]
        simp
      have HRe := hide hrest
      obtain ⟨u1, u2⟩ := HU.out m hm
      obtain ⟨fn, tmps, assign, body, hy, hR⟩ := hY pre ⟨m, hm⟩ wr hJs (by rw [HX.out, hrest]; simp)
      have hrb := hl.1
      have HLs := hide hl
      have m1 : (0 : Int) ≤ (m : Int) := by omega
      have m2 : (m : Int) < (rn : Int) := by omega
      clear hrest hJs hY hl
      gi_wp2
      refine hR.mono ?_
      rintro e W3 (⟨rfl, hJ3, hk3⟩ | ⟨rfl, hJx3⟩)
      · have q1 : W3.cell? ⟨Bt, 0, none⟩ = some (.slice (some ⟨rb, ro, none⟩) rn rc) := hKc _ _ _ hk3 hc
        have q2 := (hKu _ _ hk3 HLs.out).2 m hm
        have HK := hide hk3
        have HJ3 := hide hJ3
        clear hR hk3 hJ3
        gi_wp2
        go_roundw
        case rel => exact ⟨pre ++ [⟨m, hm⟩], upL U rn f' (U m), U m, f', rfl, by rw [HX.out, HRe.out]; simp, rfl, u1, by omega, by omega, q1, hKu _ _ HK.out HLs.out, HJ3.out⟩
        case measure => simp [intOf]; omega
      · have HJx := hide hJx3
        clear hR hJx3
        gi_wp2
        refine bodyPost_ret (results_none rfl _ _ _) rfl ?_
        exact ⟨⟨_, rfl⟩, .inr ⟨pre ++ [⟨m, hm⟩], ⟨upL U rn f' (U m), by rw [HX.out, HRe.out]; simp⟩, HJx.out⟩⟩


theorem up_stops_k (F : Fence) (n : Nat) (hf : F.fn 64) (hro : F.round = none) (hn : 1 ≤ n) (Ba Bt n₁ rb ro rn rc cn cc : Nat) (ca : Option Addr) (U : Nat → Int) (a : Int)
    (ha : -1 ≤ a ∧ a < (rn : Int)) (hrn : rn ≤ 8) (hU : ∀ i, i < rn → -1 ≤ U i ∧ U i < (i : Int)) (w : World) (hn₁ : n₁ ≤ w.heap.size) (hBa : Ba < w.heap.size) (hBt : Bt < w.heap.size)
    (c0 : w.cell? ⟨Ba, 0, none⟩ = some (.int .i64 a)) (c1 : w.cell? ⟨Bt, 0, none⟩ = some (.slice (some ⟨rb, ro, none⟩) rn rc)) (hL : UpsAt w n₁ rb ro rn U) :
    SeqStopsK F n Tryd.prog 64 #[.pointer (some ⟨Ba, 0, none⟩), .pointer (some ⟨Bt, 0, none⟩)] (fun x : Fin rn => #[Value.int .i64 (x.val : Int)]) (KpL n₁ Ba Bt) (fun ys => ys = upL U rn (rn + 1) a) (fun pre => pre <+: upL U rn (rn + 1) a) (upL U rn (rn + 1) a).length w := fun l J Jx W hW _ _ hY h0 =>
  upIter_k F n hf hro hn l Ba Bt n₁ rb ro rn rc cn cc ca U a (KpL n₁ Ba Bt) (fun A B v hk hc => (World.cell?_of_block (w := A) hk.2.2).trans hc) (fun A B hk hu => hu.below hk.1) J Jx ha hrn hU hY W ((hW.cell (p := ⟨Ba, 0, none⟩) hBa).trans c0) ((hW.cell (p := ⟨Bt, 0, none⟩) hBt).trans c1) (hL.below (hW.mono hn₁)) h0
end Go.Proofs.YtpkfihliconenaaDoor
