/- KaLine: LineA, LineG, WideRound, LineB, LineC, WpInts. -/
import Derived.Test.YtfnipbnchkonoaaDoorKaKinD
import Derived.Deep.AppendLies
import Derived.Test.YtfnipbnchkonoaaDoorKaKinB
import Derived.Test.YtfnipbnchkonoaaDoorKaOne
import Derived.OrdersHeld
import Derived.RegionIn
import Derived.RangeFuncCalls
import Derived.TacticsIn
import Derived.Shelf.Slices.Cells
import Derived.Test.YtfnipbnchkonoaaDoorKaKinC
import Derived.Test.YtfnipbnchkonoaaDoorKaGs
import Derived.BigQuiet
/- KinLine of the model. -/
namespace Go.Proofs.YtfnipbnchkonoaaDoor
open Go.ChangeShapes Go.WideShapes Go.ChangeAt Go.RowKit Go.Joins
set_option linter.unusedVariables false

/-- Numbers, as they lie. -/
def ints (xs : List Int) : List Value := xs.map fun x => .int .i64 x
theorem ints_snoc (xs : List Int) (x : Int) : ints xs ++ [.int .i64 x] = ints (xs ++ [x]) := by simp [ints]
theorem ints_at (xs : List Int) (i : Nat) : (ints xs)[i]? = xs[i]?.map fun x => .int .i64 x := by simp [ints]

/-- A list of numbers of its own. -/
def IntRow (w : World) (base g cap : Nat) (xs : List Int) : Prop := w.ownsRow base 3 1 (.slice (some ⟨g, 0, none⟩) xs.length cap) xs.length (ints xs)
theorem IntRow.lt {w : World} {base g cap : Nat} {xs : List Int} (h : IntRow w base g cap xs) : base ≤ g ∧ g < w.heap.size := by
  rcases h.2 with ⟨e, _⟩ | ⟨g', cap', cur, e, hb, hg, _⟩
  · cases e
  · cases e
    exact ⟨hb, (Array.getElem?_eq_some_iff.1 hg).1⟩
theorem IntRow.below {w w' : World} {base g cap : Nat} {xs : List Int} (h : IntRow w base g cap xs) (hb : Below w.heap.size w w') : IntRow w' base g cap xs := by
  refine ⟨h.1, ?_⟩
  rcases h.2 with ⟨e, h2⟩ | ⟨g', cap', cur, e, h3, hg, h4⟩
  · exact .inl ⟨e, h2⟩
  · exact .inr ⟨g', cap', cur, e, h3, (hb.block g' (Array.getElem?_eq_some_iff.1 hg).1).trans hg, h4⟩
theorem IntRow.cell {w : World} {base g cap : Nat} {xs : List Int} (h : IntRow w base g cap xs) {i : Nat} (hi : i < xs.length) : w.cell? ⟨g, i, none⟩ = some (.int .i64 xs[i]) := by
  rcases owns_cells h with h0 | ⟨g', e, _, _, hc⟩
  · omega
  · cases e
    rw [hc i (by omega), ints_at]
    simp [hi]
theorem IntRow.new (w : World) (base : Nat) (hb : base ≤ w.heap.size) : IntRow (w.alloc (.cells #[] 3)) base w.heap.size 0 [] :=
  ⟨rfl, .inr ⟨w.heap.size, 0, #[], rfl, hb, Deep.blk_alloc_new _ _, Nat.le_refl _, Nat.zero_le _, rfl, rfl⟩⟩

theorem Tryd.infoInt : (Tryd.prog.info? 3).map (fun i => (i.zero, i.size, i.bytes)) = some (some (.int .i64 0), 1, 8) := by kernel_rfl

/-- A type's line upward, each by the first that is the same. -/
def lineUp (gs : List (List Ty)) (c : Int) (f : Nat) : List Int := (upL (fun i => (tyN gs i).up) (kinCount gs) f c).map fun x => (canon gs x.val : Int)
def lineF (gs : List (List Ty)) (a : Int) : List Int := if isTypeF gs a && kinOkF gs then (lineUp gs a (kinCount gs + 1)).reverse else []

theorem upL_len (U : Nat → Int) (n : Nat) : ∀ f a, (upL U n f a).length ≤ f
  | 0, _ => Nat.le_refl _
  | f + 1, a => by
    unfold upL
    split
    · have := upL_len U n f (U a.toNat)
      simp; omega
    · simp
theorem lineUp_len (gs : List (List Ty)) (c : Int) (f : Nat) : (lineUp gs c f).length ≤ f := by unfold lineUp; rw [List.length_map]; exact upL_len _ _ _ _
theorem lineUp_neg (gs : List (List Ty)) (c : Int) (f : Nat) (h : c < 0) : lineUp gs c f = [] := by
  unfold lineUp
  cases f with
  | zero => rfl
  | succ f => unfold upL; rw [dif_neg (by omega)]; rfl
theorem lineUp_succ (gs : List (List Ty)) (m f : Nat) (hm : m < kinCount gs) : lineUp gs (m : Int) (f + 1) = (canon gs m : Int) :: lineUp gs (tyN gs m).up f := by
  unfold lineUp
  rw [upL_succ _ _ _ _ hm]
  rfl
theorem drop_rev (L : List Int) (k : Nat) (hk : k < L.length) : (L.drop k).reverse = (L.drop (k + 1)).reverse ++ [L[k]] := by
  rw [List.drop_eq_getElem_cons hk, List.reverse_cons]

set_option maxHeartbeats 1600000 in
set_option maxRecDepth 100000 in
theorem l1Line_any (ga : Option Addr) (gc lo hi : Nat) (gs : List (List Ty)) (m : Nat) (w : World) (hP : Parts gs) (hN : Few gs) (hc : gs.length ≤ gc) (hm : m < kinCount gs) (hl : lo ≤ hi) (hh : hi ≤ w.heap.size) (hx : GroupsIn w lo hi ga gs) :
    Calls Tryd.prog 60 #[.slice ga gs.length gc, .int .i64 (m : Int)] w fun e w' => ∃ g cap, e = .returned (.slice (some ⟨g, 0, none⟩) ((lineUp gs m (kinCount gs + 1)).reverse).length cap) ∧ IntRow w' w.heap.size g cap (lineUp gs m (kinCount gs + 1)).reverse ∧ Below w.heap.size w w' := by
  have m8 := hP.2.1
  obtain ⟨i0, hi0, hzz⟩ := Option.map_eq_some_iff.1 Tryd.infoInt
  simp only [Prod.mk.injEq] at hzz
  obtain ⟨hz0, hs0, hb0⟩ := hzz
  have HZ := hide hz0
  have HS := hide hs0
  have HBy := hide hb0
  have HI := hide hi0
  have HLn : Hid ((lineUp gs m (kinCount gs + 1)).length ≤ 9) := Nat.le_trans (lineUp_len _ _ _) (by omega)
  have HFl := hide (l1Flat_any ga gc lo hi gs w hN hx hh hl)
  have HCn := hide (fun i (hi' : i < kinCount gs) w1 (hb : Below w.heap.size w w1) => l1Canon_any ga gc lo hi gs i w1 hP hN hc hi' (Nat.le_trans hh hb.size) (hx.keep (hb.mono hh)))
  have HPf := hide (fun i (hi' : i < kinCount gs) => (parts_flat hP hi').2.1)
  obtain ⟨L, hL⟩ : ∃ L, lineUp gs m (kinCount gs + 1) = L := ⟨_, rfl⟩
  rw [hL] at HLn ⊢
  have HL := hide hL
  clear hz0 hs0 hb0 hi0 hP hN hx hL
  go_enter Tryd.func60, Tryd.ntmps60
  go_wp2_with fail
  refine HFl.out.mono ?_
  rintro e w1 ⟨na, nc, rfl, hT, hb1⟩
  have s1 := hb1.size
  have B1 := hide hb1
  have HT := hide hT
  clear hb1 hT HFl
  go_wp2_with fail
  go_loopw [1, 6] (fun v u wr => ∃ (pre : List Int) (c : Int) (f g cap : Nat), v = .int .i64 c ∧ u = .slice (some ⟨g, 0, none⟩) pre.length cap ∧ -1 ≤ c ∧ c < (kinCount gs : Int) ∧ c < (f : Int) ∧ Hid (L = pre ++ lineUp gs c f) ∧ Hid (IntRow wr w1.heap.size g cap pre) ∧ Hid (Below w1.heap.size w1 wr)) (fun v u wr => (intOf v + 1).toNat)
  case atStart =>
    exact ⟨[], (m : Int), kinCount gs + 1, w1.heap.size, 0, rfl, rfl, by omega, by omega, by omega, HL.out.symm, IntRow.new _ _ (Nat.le_refl _), (Below.refl _ _).alloc (Nat.le_refl _) _⟩
  case round =>
    obtain ⟨pre, c, f, g, cap, rfl, rfl, c1, c2, c3, HX, HR, HB⟩ := hrel
    have sz := HB.out.size
    have hpl : pre.length ≤ 9 := by have := congrArg List.length HX.out; have := HLn.out; simp at *; omega
    by_cases hc0 : c < 0
    · have HE : Hid (L = pre) := by show _ = _; rw [HX.out, lineUp_neg _ _ _ hc0]; simp
      clear HX
      obtain ⟨N, hNl⟩ : ∃ N, pre.length = N := ⟨_, rfl⟩
      have HNl := hide hNl
      have n9 : (N : Int) ≤ 9 := by omega
      have n0 : (0 : Int) ≤ (N : Int) := by omega
      rw [hNl]
      clear hNl hpl
      rename World => W2
      go_wp2_with fail
      go_loopw [7, 8] (fun o i wr => ∃ (j g2 cap2 : Nat), i = .int .i64 ((j : Int) - 1) ∧ j ≤ N ∧ o = .slice (some ⟨g2, 0, none⟩) ((pre.drop j).reverse).length cap2 ∧ Hid (IntRow wr W2.heap.size g2 cap2 (pre.drop j).reverse) ∧ Hid (Below W2.heap.size W2 wr)) (fun o i wr => (intOf i + 1).toNat)
      case atStart =>
        refine ⟨N, W2.heap.size, 0, rfl, Nat.le_refl _, ?_, ?_, (Below.refl _ _).alloc (Nat.le_refl _) _⟩
        · rw [List.drop_eq_nil_of_le (by have := HNl.out; omega)]; rfl
        · show IntRow _ _ _ _ _
          rw [List.drop_eq_nil_of_le (by have := HNl.out; omega)]
          exact IntRow.new _ _ (Nat.le_refl _)
      case round =>
        obtain ⟨j, g2, cap2, rfl, hj, rfl, HR2, HB2⟩ := hrel
        have sz2 := HB2.out.size
        cases j with
        | zero =>
          have HQ : Hid (pre.drop 0 = L) := by show _ = _; rw [HE.out]; rfl
          go_wp2_with fail
          go_ret
          rw [← HQ.out]
          refine ⟨g2, cap2, rfl, ?_, ?_⟩
          · refine ⟨HR2.out.1, ?_⟩
            rcases HR2.out.2 with ⟨e, _⟩ | ⟨g', cap', cur, e, h3, h4⟩
            · cases e
            · exact .inr ⟨g', cap', cur, e, by omega, h4⟩
          · exact B1.out.trans ((HB.out.trans (HB2.out.mono sz)).mono s1)
        | succ k =>
          have hk : k < pre.length := by have := HNl.out; omega
          have k1 : (0 : Int) ≤ (k : Int) := by omega
          have k2 : (k : Int) < (N : Int) := by omega
          have HD := hide (drop_rev pre k hk)
          have hcell : wr.cell? ⟨g, k, none⟩ = some (.int .i64 pre[k]) := (HB2.out.cell (p := ⟨g, k, none⟩) HR.out.lt.2).trans (HR.out.cell hk)
          have hi1 : ((k + 1 : Nat) : Int) - 1 = (k : Int) := by omega
          have hd9 : ((pre.drop (k + 1)).reverse).length ≤ 9 := by have := HNl.out; simp; omega
          generalize pre[k] = x at HD hcell
          rw [hi1]
          go_wp2_with (first | (at_builtin; refine wpList_append_lies _ rfl _ _ 43 rfl W2.heap.size 3 i0 _ 1 8 Tryd.underlying43 HI.out HZ.out HS.out HBy.out rfl (by decide) _ ((pre.drop (k + 1)).reverse).length (ints (pre.drop (k + 1)).reverse) rfl (HR2.out.alloc _) ⟨wr.heap.size, 0, none⟩ 1 1 [.int .i64 x] rfl rfl ?c1 ?c2 (by decide) ?c3 ?c4 ?c5 _ rfl ?_))
          case c1 => exact World.news_of_block (Deep.blk_alloc_new _ _)
          case c2 => intro u hu; simp at hu; subst hu; rfl
          case c3 => unfold maxLen; omega
          case c4 => omega
          case c5 => simp; omega
          intro g3 cap3 w3 hown hgr hat hlt3
          have HB3 : Hid (Below W2.heap.size W2 w3) := (HB2.out.alloc sz2 _).grown hgr (by simp; omega) (fun q hq => by simp [Value.ownBlock] at hq; have := HR2.out.lt; omega)
          have HR3 : Hid (IntRow w3 W2.heap.size g3 cap3 (pre.drop k).reverse) := by
            show IntRow _ _ _ _ _
            unfold IntRow
            rw [HD.out, ← ints_snoc]
            simpa using hown
          have HLe : Hid (((pre.drop k).reverse).length = ((pre.drop (k + 1)).reverse).length + 1) := by show _ = _; rw [HD.out]; simp
          clear hgr hat hown
          go_wp2_with fail
          refine ⟨⟨k, g3, cap3, by go_num, by omega, by rw [HLe.out]; simp, HR3, HB3⟩, by simp [intOf] <;> omega⟩
    · obtain ⟨p, rfl⟩ := Int.eq_ofNat_of_zero_le (show 0 ≤ c by omega)
      have hp : p < kinCount gs := by omega
      obtain ⟨f', rfl⟩ : ∃ f', f = f' + 1 := ⟨f - 1, by omega⟩
      have HX2 : Hid (L = (pre ++ [(canon gs p : Int)]) ++ lineUp gs (tyN gs p).up f') := by show _ = _; rw [HX.out, lineUp_succ _ _ _ hp]; simp
      obtain ⟨u1, u2⟩ := HPf.out p hp
      have hcn := canon_le gs p
      clear HX
      go_wp2_with fail
      refine (HCn.out p hp _ (B1.out.trans (HB.out.mono s1))).mono ?_
      rintro e w2 ⟨rfl, hb2⟩
      have HB2 := hide (HB.out.trans (hb2.mono sz))
      have HR2 := hide (HR.out.below hb2)
      have sz2 := HB2.out.size
      clear hb2 HB HR
      rcases HT.out with hnil | ⟨b, off, rfl, g1, g2, g3⟩
      · have := flat_length gs
        rw [hnil] at this
        simp at this
        omega
      obtain ⟨e0, e1, _⟩ := g3 p (by rw [flat_length]; exact hp)
      have HE1 : Hid (w1.cell? ⟨b, off + p * 4 + 1, none⟩ = some (.int .i64 (tyN gs p).up)) := e1
      clear g3 e0 e1
      generalize (canon gs p : Int) = cn at HX2 ⊢
      go_wp2_with (first | (at_builtin; refine wpList_append_lies _ rfl _ _ 43 rfl w1.heap.size 3 i0 _ 1 8 Tryd.underlying43 HI.out HZ.out HS.out HBy.out rfl (by decide) _ pre.length (ints pre) rfl (HR2.out.alloc _) ⟨w2.heap.size, 0, none⟩ 1 1 [.int .i64 cn] rfl rfl ?c1 ?c2 (by decide) ?c3 ?c4 ?c5 _ rfl ?_))
      case c1 => exact World.news_of_block (Deep.blk_alloc_new _ _)
      case c2 => intro u hu; simp at hu; subst hu; rfl
      case c3 => unfold maxLen; omega
      case c4 => omega
      case c5 => simp; omega
      intro g5 cap5 w3 hown hgr hat hlt3
      have HB3 : Hid (Below w1.heap.size w1 w3) := (HB2.out.alloc sz2 _).grown hgr (by simp; omega) (owns_base HR2.out)
      have HR3 : Hid (IntRow w3 w1.heap.size g5 cap5 (pre ++ [cn])) := by
        show IntRow _ _ _ _ _
        unfold IntRow
        rw [← ints_snoc]
        simpa using hown
      have e1 := (HB3.out.cell (p := ⟨b, off + p * 4 + 1, none⟩) g2).trans HE1.out
      have p1 : (0 : Int) ≤ (p : Int) := by omega
      have p2 : (p : Int) < (kinCount gs : Int) := by omega
      clear hgr hat hown
      go_wp2_with fail
      refine ⟨⟨pre ++ [cn], (tyN gs p).up, f', g5, cap5, rfl, by simp, u1, by omega, by omega, HX2, HR3, HB3⟩, by simp [intOf]; omega⟩

set_option maxHeartbeats 1600000 in
theorem specKinLine_any (ga : Option Addr) (gc lo hi : Nat) (gs : List (List Ty)) (a : Int) (w : World) (hN : Few gs) (hc : gs.length ≤ gc) (hl : lo ≤ hi) (hh : hi ≤ w.heap.size) (hx : GroupsIn w lo hi ga gs) :
    Calls Tryd.prog 33 #[.slice ga gs.length gc, .int .i64 a] w fun e w' => ∃ g cap, e = .returned (.slice (some ⟨g, 0, none⟩) (lineF gs a).length cap) ∧ IntRow w' w.heap.size g cap (lineF gs a) ∧ Below w.heap.size w w' := by
  have n2 := kinCount_le hN
  have HCnt := hide (specKinCount_any ga gc lo hi gs w hN hx)
  have HOk := hide (specKinOk_any ga gc lo hi gs w hN hc hl hh hx)
  have HLn := hide (fun (hP : Parts gs) (m : Nat) (hm : m < kinCount gs) w1 (hb : Below w.heap.size w w1) => l1Line_any ga gc lo hi gs m w1 hP hN hc hm hl (Nat.le_trans hh hb.size) (hx.keep (hb.mono hh)))
  clear hN hx
  by_cases h0 : a < 0
  · have d0 : decide (a < 0) = true := by simpa using h0
    have HZ : Hid (lineF gs a = []) := by
      show _ = _
      have : isTypeF gs a = false := by unfold isTypeF; simp; intro _; omega
      simp [lineF, this]
    go_enter Tryd.func33, Tryd.ntmps33
    go_wp2_with fail
    go_ret
    rw [HZ.out]
    exact ⟨_, _, rfl, IntRow.new _ _ (Nat.le_refl _), (Below.refl _ _).alloc (Nat.le_refl _) _⟩
  have d0 : decide (a < 0) = false := by simpa using h0
  obtain ⟨m, rfl⟩ := Int.eq_ofNat_of_zero_le (show 0 ≤ a by omega)
  by_cases h1 : m < kinCount gs
  · have d1 : decide ((kinCount gs : Int) ≤ (m : Int)) = false := by simp; omega
    have ht : isTypeF gs m = true := by unfold isTypeF; simp; omega
    cases hk : kinOkF gs with
    | false =>
      have HZ : Hid (lineF gs m = []) := by show _ = _; simp [lineF, hk]
      have HOf := HOk.out
      rw [hk] at HOf
      have HO := hide HOf
      clear HOf HOk hk ht
      go_enter Tryd.func33, Tryd.ntmps33
      go_wp2_with (first | (go_at_call 18; refine HCnt.out.mono ?_; rintro e w1 ⟨rfl, rfl⟩) | (go_at_call 20; refine HO.out.mono ?_; rintro e w1 ⟨rfl, hb1⟩))
      go_ret
      rw [HZ.out]
      exact ⟨_, _, rfl, IntRow.new _ _ hb1.size, hb1.alloc hb1.size _⟩
    | true =>
      have HZ : Hid (lineF gs m = (lineUp gs m (kinCount gs + 1)).reverse) := by show _ = _; simp [lineF, hk, ht]
      have HLm := hide (HLn.out (kinOk_parts hk) m h1)
      have HOf := HOk.out
      rw [hk] at HOf
      have HO := hide HOf
      clear HOf HOk hk ht HLn
      generalize (lineUp gs m (kinCount gs + 1)).reverse = K at HZ HLm
      go_enter Tryd.func33, Tryd.ntmps33
      go_wp2_with (first | (go_at_call 18; refine HCnt.out.mono ?_; rintro e w1 ⟨rfl, rfl⟩) | (go_at_call 20; refine HO.out.mono ?_; rintro e w1 ⟨rfl, hb1⟩))
      refine (HLm.out _ hb1).mono ?_
      rintro e w2 ⟨g, cap, rfl, hr, hb2⟩
      have B2 := hide (hb1.trans (hb2.mono hb1.size))
      have R2 := hide hr
      have s1 := hb1.size
      clear hr hb2 hb1
      go_wp2_with fail
      go_ret
      rw [HZ.out]
      refine ⟨g, cap, rfl, ⟨R2.out.1, ?_⟩, B2.out⟩
      rcases R2.out.2 with ⟨e, _⟩ | ⟨g', cap', cur, e, h3, h4⟩
      · cases e
      · exact .inr ⟨g', cap', cur, e, by omega, h4⟩
  · have d1 : decide ((kinCount gs : Int) ≤ (m : Int)) = true := by simp; omega
    have HZ : Hid (lineF gs m = []) := by
      show _ = _
      have : isTypeF gs m = false := by unfold isTypeF; simp; omega
      simp [lineF, this]
    go_enter Tryd.func33, Tryd.ntmps33
    go_wp2_with (go_at_call 18; refine HCnt.out.mono ?_; rintro e w1 ⟨rfl, rfl⟩)
    go_ret
    rw [HZ.out]
    exact ⟨_, _, rfl, IntRow.new _ _ (Nat.le_refl _), (Below.refl _ _).alloc (Nat.le_refl _) _⟩
end Go.Proofs.YtfnipbnchkonoaaDoor

/- upward, ranged over by a body that writes: what the rounds keep is told by Kp. -/
namespace Go.Proofs.YtfnipbnchkonoaaDoor
open Go.ChangeShapes Go.WideShapes Go.ChangeAt Go.RowKit Go.Shelf
set_option linter.unusedVariables false
attribute [local go_sem] Oper.semAt_some

/-- The blocks below n₁, and two more, are as they were. -/
def KpL (n₁ Ba Bt : Nat) (A B : World) : Prop := Below n₁ A B ∧ B.heap[Ba]? = A.heap[Ba]? ∧ B.heap[Bt]? = A.heap[Bt]?
theorem KpL.trans {n₁ Ba Bt : Nat} {A B C : World} (h : KpL n₁ Ba Bt A B) (k : KpL n₁ Ba Bt B C) : KpL n₁ Ba Bt A C := ⟨h.1.trans k.1, k.2.1.trans h.2.1, k.2.2.trans h.2.2⟩
theorem KpL.put {n₁ Ba Bt : Nat} {w : World} (h1 : n₁ ≤ w.heap.size) (h2 : Ba < w.heap.size) (h3 : Bt < w.heap.size) (W : World) (l : Nat) (o o' : Obj) (hl : w.heap.size ≤ l) (hg : W.heap[l]? = some o) (hc : o.isCells = false) (hw : o.isWalk = false) : KpL n₁ Ba Bt W (W.putObj l o') :=
  ⟨belowK_b h1 W l o o' hl hg hc hw, World.putObj_heap_other (by omega), World.putObj_heap_other (by omega)⟩

set_option maxRecDepth 100000 in
set_option maxHeartbeats 1000000 in
theorem upIter_k (F : Fence) (n : Nat) (hf : F.fn 76) (hro : F.round = none) (hn : 1 ≤ n) (l Ba Bt n₀ rb ro rn rc cn cc : Nat) (ca : Option Addr) (U : Nat → Int) (a : Int) (Kp : World → World → Prop) (hKc : ∀ A B v, Kp A B → A.cell? ⟨Bt, 0, none⟩ = some v → B.cell? ⟨Bt, 0, none⟩ = some v) (hKu : ∀ A B, Kp A B → UpsAt A n₀ rb ro rn U → UpsAt B n₀ rb ro rn U) (J Jx : List (Fin rn) → World → Prop)
    (ha : -1 ≤ a ∧ a < (rn : Int)) (hrn : rn ≤ 8) (hU : ∀ i, i < rn → -1 ≤ U i ∧ U i < (i : Int))
    (hY : ∀ pre (x : Fin rn) W, J pre W → pre.length < (upL U rn (rn + 1) a).length → YieldAt F (n - 1) Tryd.prog l #[.int .i64 (x.val : Int)] W fun e W' =>
      (e = .returned (.bool true) ∧ J (pre ++ [x]) W' ∧ Kp W W') ∨ (e = .returned (.bool false) ∧ Jx (pre ++ [x]) W'))
    (W : World) (c0 : W.cell? ⟨Ba, 0, none⟩ = some (.int .i64 a)) (c1 : W.cell? ⟨Bt, 0, none⟩ = some (.slice (some ⟨rb, ro, none⟩) rn rc)) (hL : UpsAt W n₀ rb ro rn U) (h0 : J [] W) :
    CallsIn F n Tryd.prog 76 #[.func (.yield l) #[] #[], .pointer (some ⟨Ba, 0, none⟩), .pointer (some ⟨Bt, 0, none⟩)] W fun e W' => (∃ v, e = .returned v) ∧
      ((∃ ys, ys = upL U rn (rn + 1) a ∧ J ys W') ∨ (∃ pre, pre <+: upL U rn (rn + 1) a ∧ Jx pre W')) := by
  refine callsIn_of_wp Tryd.func76 rfl hf ?_ hro
  simp only [Tryd.ntmps76, List.size_toArray, List.length_cons, List.length_nil, Nat.reduceAdd, Nat.reduceSub, Array.replicate_succ, Array.replicate_zero, List.push_toArray, List.append_toArray, List.nil_append, List.cons_append]
  have HU := hide hU
  clear hU
  generalize hLL : upL U rn (rn + 1) a = L at *
  have HL := hide hLL
  clear hLL
  gi_wp2
  gi_loopw [4] (fun v wr => ∃ (pre rest : List (Fin rn)) (c : Int) (f : Nat), v = .int .i64 c ∧ L = pre ++ rest ∧ rest = upL U rn f c ∧ -1 ≤ c ∧ c < (rn : Int) ∧ c < (f : Int) ∧ wr.cell? ⟨Bt, 0, none⟩ = some (.slice (some ⟨rb, ro, none⟩) rn rc) ∧ UpsAt wr n₀ rb ro rn U ∧ J pre wr)
    (fun v wr => (intOf v + 1).toNat)
  case atStart =>
    exact ⟨[], L, a, rn + 1, rfl, rfl, HL.out.symm, by omega, by omega, by omega, c1, hL, h0⟩
  case round =>
    obtain ⟨pre, rest, c, f, rfl, hx, hr, b1, b2, b3, hc, hl, hJs⟩ := hrel
    have HX := hide hx
    have HR := hide hr
    have HJ := hide hJs
    clear hx hr hL c0 c1
    by_cases hneg : c < 0
    · have hnil : rest = [] := by
        rw [HR.out]
        cases f with
        | zero => rfl
        | succ f => unfold upL; rw [dif_neg (by omega)]
      clear hJs hY
      gi_wp2
      go_end0
      exact ⟨⟨_, rfl⟩, .inl ⟨pre, by rw [HX.out, hnil]; simp, HJ.out⟩⟩
    · obtain ⟨m, rfl⟩ := Int.eq_ofNat_of_zero_le (show 0 ≤ c by omega)
      have hm : m < rn := by omega
      obtain ⟨f', rfl⟩ : ∃ f', f = f' + 1 := ⟨f - 1, by omega⟩
      have hrest : rest = ⟨m, hm⟩ :: upL U rn f' (U m) := by
        rw [HR.out]
        show (if h : 0 ≤ (m : Int) ∧ (m : Int).toNat < rn then _ else _) = _
        rw [dif_pos ⟨by omega, by simpa using hm⟩]
        simp
      have HRe := hide hrest
      obtain ⟨u1, u2⟩ := HU.out m hm
      obtain ⟨fn, tmps, assign, body, hy, hR⟩ := hY pre ⟨m, hm⟩ wr hJs (by rw [HX.out, hrest]; simp)
      have hrb := hl.1
      have HLs := hide hl
      have m1 : (0 : Int) ≤ (m : Int) := by omega
      have m2 : (m : Int) < (rn : Int) := by omega
      clear hrest hJs hY hl
      gi_wp2
      refine hR.mono ?_
      rintro e W3 (⟨rfl, hJ3, hk3⟩ | ⟨rfl, hJx3⟩)
      · have q1 : W3.cell? ⟨Bt, 0, none⟩ = some (.slice (some ⟨rb, ro, none⟩) rn rc) := hKc _ _ _ hk3 hc
        have q2 := (hKu _ _ hk3 HLs.out).2 m hm
        have HK := hide hk3
        have HJ3 := hide hJ3
        clear hR hk3 hJ3
        gi_wp2
        go_roundw
        case rel => exact ⟨pre ++ [⟨m, hm⟩], upL U rn f' (U m), U m, f', rfl, by rw [HX.out, HRe.out]; simp, rfl, u1, by omega, by omega, q1, hKu _ _ HK.out HLs.out, HJ3.out⟩
        case measure => simp [intOf]; omega
      · have HJx := hide hJx3
        clear hR hJx3
        gi_wp2
        refine bodyPost_ret (results_none rfl _ _ _) rfl ?_
        exact ⟨⟨_, rfl⟩, .inr ⟨pre ++ [⟨m, hm⟩], ⟨upL U rn f' (U m), by rw [HX.out, HRe.out]; simp⟩, HJx.out⟩⟩


theorem up_stops_k (F : Fence) (n : Nat) (hf : F.fn 76) (hro : F.round = none) (hn : 1 ≤ n) (Ba Bt n₁ rb ro rn rc cn cc : Nat) (ca : Option Addr) (U : Nat → Int) (a : Int)
    (ha : -1 ≤ a ∧ a < (rn : Int)) (hrn : rn ≤ 8) (hU : ∀ i, i < rn → -1 ≤ U i ∧ U i < (i : Int)) (w : World) (hn₁ : n₁ ≤ w.heap.size) (hBa : Ba < w.heap.size) (hBt : Bt < w.heap.size)
    (c0 : w.cell? ⟨Ba, 0, none⟩ = some (.int .i64 a)) (c1 : w.cell? ⟨Bt, 0, none⟩ = some (.slice (some ⟨rb, ro, none⟩) rn rc)) (hL : UpsAt w n₁ rb ro rn U) :
    SeqStopsK F n Tryd.prog 76 #[.pointer (some ⟨Ba, 0, none⟩), .pointer (some ⟨Bt, 0, none⟩)] (fun x : Fin rn => #[Value.int .i64 (x.val : Int)]) (KpL n₁ Ba Bt) (fun ys => ys = upL U rn (rn + 1) a) (fun pre => pre <+: upL U rn (rn + 1) a) (upL U rn (rn + 1) a).length w := fun l J Jx W hW _ _ hY h0 =>
  upIter_k F n hf hro hn l Ba Bt n₁ rb ro rn rc cn cc ca U a (KpL n₁ Ba Bt) (fun A B v hk hc => (World.cell?_of_block (w := A) hk.2.2).trans hc) (fun A B hk hu => hu.below hk.1) J Jx ha hrn hU hY W ((hW.cell (p := ⟨Ba, 0, none⟩) hBa).trans c0) ((hW.cell (p := ⟨Bt, 0, none⟩) hBt).trans c1) (hL.below (hW.mono hn₁)) h0
end Go.Proofs.YtfnipbnchkonoaaDoor

/- A region that draws its order, inside a round of a range over a function: what serves it outside a round serves it there too, if nothing is deferred. -/
namespace Go.Proofs.YtfnipbnchkonoaaDoor
open Go.RowKit
set_option linter.unusedVariables false

section
variable {P : Program} {ops : Array Oper} {Q : Exit → Act → World → Prop}

theorem oper_wide {l n : Nat} {o : Oper} {a : Act} {w : World} {K : Act → World → Prop} (hd : ∀ c, o.op ≠ .defer c) (h : o.wp P a w K Q) : o.wpIn (Fence.wide.inRound l) n P a w K Q := by
  refine ⟨fun _ _ => trivial, ?_⟩
  rw [show (Fence.wide.inRound l).round = some l from rfl, Oper.semAt_some l _ o hd]
  unfold Oper.wp at h
  revert h
  generalize (execOp a.eval o).run P w = r
  intro h
  match r, h with
  | .ok (.value v) w', h => exact h
  | .ok .skip w', h => exact h
  | .ok (.defer d) w', h => exact h
  | .ok (.enter f args) w', h => exact ⟨fun e => (by cases e), CallsIn.inRound l (callsIn_wide.2 h)⟩
  | .ok (.row row args) w', h => exact ⟨fun e => (by cases e), fun c cs _ => let ⟨v, w'', r, s⟩ := h c cs; ⟨v, w'', r, stepsIn_wide.2 s⟩⟩
  | .halt (.panic v) w', h => exact h

theorem any_wide {l n : Nat} {md : Region.Mode} (hlo : ¬ LetsOut Q) (hd : ∀ o ∈ ops.toList, ∀ c, o.op ≠ .defer c) (fuel : Nat) : ∀ (listed : Array Bool) (a : Act) (w : World),
    wpAny P md ops Q fuel listed a w → wpAnyIn (Fence.wide.inRound l) n P md ops Q fuel listed a w := by
  induction fuel with
  | zero => intro listed a w h; exact h
  | succ fuel ih =>
    intro listed a w h
    refine ⟨h.1, fun i hi => ?_⟩
    have hq := h.2 i hi
    unfold wpOp at hq
    unfold wpOpIn
    cases ho : ops[i]? with
    | none => simp only [ho] at hq; exact ih _ _ _ hq
    | some o =>
      simp only [ho] at hq
      have hmem : o ∈ ops.toList := by
        have := Array.mem_of_getElem? ho
        simpa using this
      by_cases hwd : Region.wanted o (yielded ops a.tmps) = true
      · simp only [hwd, if_true] at hq ⊢
        exact Oper.wpIn_mono (fun a' w' h' => ih _ a' w' h') (oper_wide (hd o hmem) (hq.resolve_right fun h => hlo h.2))
      · simp only [hwd] at hq ⊢
        exact ⟨fun _ _ => trivial, ih _ _ _ hq⟩

/-- The beginning of such a region: its loads may be taken first, by S. -/
theorem held_wide {l n id : Nat} {S : World → Prop} {a : Act} {w : World} (hlo : ¬ LetsOut Q) (hd : ∀ o ∈ ops.toList, ∀ c, o.op ≠ .defer c) (hm : P.follows .mixedOrders = true)
    (h : wpAnyH P .any ops Q S ops.size (Array.replicate ops.size false) a w.drew) : (Code.region id ops true).wpIn (Fence.wide.inRound l) n P Q a w :=
  wpIn_region_any hm (any_wide hlo hd _ _ _ _ (wpAny_of_held _ _ _ _ h))
end
end Go.Proofs.YtfnipbnchkonoaaDoor

/- KinLine of the program. -/
namespace Go.Proofs.YtfnipbnchkonoaaDoor
open Go.ChangeShapes Go.WideShapes Go.ChangeAt Go.RowKit Go.Shelf
set_option linter.unusedVariables false
set_option linter.unusedSimpArgs false
attribute [local go_sem] Oper.semAt_some

/-- A list of numbers of its own, or none. -/
def LineAt (w : World) (base : Nat) (a : Option Addr) (cap : Nat) (xs : List Int) : Prop := w.ownsRow base 3 1 (.slice a xs.length cap) xs.length (ints xs)

theorem no_letsOut {Kp : World → World → Prop} {α : Type} {I : List α → World → Prop} {Ix : Code → List α → World → Prop} {pre : List α} {W : World} : ¬ LetsOut (ownPostK Kp I Ix pre W) := by
  rintro ⟨a, w, h⟩
  exact h

theorem row_kept {A B : World} {row : Option Nat} {base e size n : Nat} {v : Value} {xs : List Value} (h : A.ownsRow base e size v n xs) (hg : A.grownBy B row) (hr : ∀ r, row = some r → ∃ o : Obj, A.heap[r]? = some o ∧ o.isCells = false) : B.ownsRow base e size v n xs := by
  refine h.kept hg ?_
  rcases h.2 with ⟨rfl, _⟩ | ⟨g, cap, cur, rfl, _, hc, _⟩
  · exact .inl rfl
  · refine .inr fun e => ?_
    obtain ⟨o, ho, hf⟩ := hr g e.symm
    rw [hc] at ho
    cases ho
    cases hf
theorem no_letsOut_block {Q : Exit → Act → World → Prop} {id : Nat} (h : ¬ LetsOut Q) : ¬ LetsOut (Exit.inBlock id Q) := by
  rintro ⟨a, w, hq⟩
  exact h ⟨a, w, hq⟩

theorem row_cells {A : World} {base e size n j : Nat} {v : Value} {xs : List Value} {o : Obj} (h : A.ownsRow base e size v n xs) (hj : v.ownBlock = some j) (ho : A.heap[j]? = some o) : o.isCells = true := by
  rcases h.2 with ⟨rfl, _⟩ | ⟨g, cap, cur, rfl, _, hc, _⟩
  · cases hj
  · cases hj
    rw [hc] at ho
    cases ho
    rfl
theorem owns_set {A : World} {base e size n b o : Nat} {v u : Value} {xs : List Value} (h : A.ownsRow base e size v n xs) (hb : b < base) : (A.setCell ⟨b, o, none⟩ u).ownsRow base e size v n xs := by
  refine ⟨h.1, ?_⟩
  rcases h.2 with ⟨e1, h2⟩ | ⟨g, cap, cur, e1, h3, hc, h4⟩
  · exact .inl ⟨e1, h2⟩
  · exact .inr ⟨g, cap, cur, e1, h3, (Below.heap_setCell _ _ _ _ (by show g ≠ b; omega)).trans hc, h4⟩
theorem frozen_same {A B : World} {b o : Nat} (h : B.heap[b]? = A.heap[b]?) : B.frozen? ⟨b, o, none⟩ = A.frozen? ⟨b, o, none⟩ := by simp [World.frozen?, h]

shelf_lay Lays.n112 Nm 112 at Tryd as Tryd.lays112
/-- A list of numbers in a block of its own. -/
def LineIn (w : World) (lo : Nat) (a : Option Addr) (xs : List Int) : Prop := xs = [] ∨ ∃ g m, a = some ⟨g, 0, none⟩ ∧ lo ≤ g ∧ g < w.heap.size ∧ Own w g m 3 ∧ xs.length ≤ m ∧ ∀ i, i < xs.length → w.cell? ⟨g, i, none⟩ = some (.int .i64 (xs.getD i 0))
theorem own_setCells {g m T : Nat} : ∀ (vs : List Value) (o : Nat) (w : World), Own w g m T → Own (w.setCells g o vs) g m T
  | [], _, _, h => h
  | v :: r, o, w, h => own_setCells r (o + 1) _ (h.set _ _ _)
theorem below_setCellsL {B g : Nat} {a : World} (hg : B ≤ g) : ∀ (vs : List Value) (o : Nat) (w : World), Below B a w → Below B a (w.setCells g o vs)
  | [], _, _, h => h
  | v :: r, o, w, h => below_setCellsL hg r (o + 1) _ (h.setCell (p := ⟨g, o, none⟩) hg _)
theorem size_setCellsL {g : Nat} : ∀ (vs : List Value) (o : Nat) (w : World), (w.setCells g o vs).heap.size = w.heap.size
  | [], _, _ => rfl
  | v :: r, o, w => (size_setCellsL r (o + 1) _).trans (by simp)

theorem other_setCells {g k : Nat} (hne : k ≠ g) : ∀ (vs : List Value) (o : Nat) (w : World), (w.setCells g o vs).heap[k]? = w.heap[k]?
  | [], _, _ => rfl
  | v :: r, o, w => (other_setCells hne r (o + 1) _).trans (Below.heap_setCell _ _ _ _ hne)
theorem after_rev {W w5 : World} {g cap q n : Nat} {zs : List Int} (hw : w5 = (W.drewN q).setCells g 0 ((zs.take n).reverse.map (Value.int .i64))) (hn : n = zs.length) (ho : Own W g cap 3) (hl : zs.length ≤ cap) :
    (∀ i, i < zs.length → w5.cell? ⟨g, i, none⟩ = some (.int .i64 (zs.reverse.getD i 0))) ∧ Own w5 g cap 3 ∧ w5.heap.size = W.heap.size ∧ (∀ B, B ≤ g → Below B W w5) ∧ (∀ k, k < W.heap.size → k ≠ g → w5.heap[k]? = W.heap[k]?) := by
  subst hn
  rw [List.take_length] at hw
  subst hw
  refine ⟨fun i hi => ?_, own_setCells _ _ _ ho, size_setCellsL _ _ _, fun B hB => below_setCellsL hB _ _ _ (below_drewN (Below.refl _ _) _), fun k hk hne => other_setCells hne _ _ _⟩
  have h := World.cell?_setCells_in g (zs.reverse.map (Value.int .i64)) 0 (W.drewN q) (fun j hj => by
    obtain ⟨v, hv⟩ := ho.cell (o := 0 + j) (by simp at hj; omega)
    show ((W.cell? ⟨g, 0 + j, none⟩).isSome) = true
    rw [hv]; rfl) i (by simpa using hi)
  rw [Nat.zero_add] at h
  rw [h]
  simp [List.getD, hi]

set_option maxRecDepth 100000 in
set_option maxHeartbeats 4000000 in
theorem line_walk (ga : Option Addr) (gc gl rn : Nat) (U : Nat → Int) (C : Nat → Nat) (p : Nat) (w : World)
    (hT : Calls Tryd.prog 48 #[.slice ga gl gc] w fun e w' => ∃ rb ro rc cb cc, e = .returned (.tuple #[.agg #[.slice (some ⟨rb, ro, none⟩) rn rc, .slice (some ⟨cb, 0, none⟩) rn cc], .bool true]) ∧ UpsAt w' w'.heap.size rb ro rn U ∧ cb < w'.heap.size ∧ (∀ i, i < rn → w'.cell? ⟨cb, 0 + i, none⟩ = some (.int .i64 (C i : Nat))) ∧ Below w.heap.size w w')
    (hI : ∀ ra ca rc cc W, Calls Tryd.prog 53 #[.agg #[.slice ra rn rc, .slice ca rn cc], .int .i64 (p : Int)] W fun e W' => e = .returned (.bool true) ∧ Below W.heap.size W W')
    (hrn : rn ≤ 8) (hp : p < rn) (hU : ∀ i, i < rn → -1 ≤ U i ∧ U i < (i : Int)) :
    CallsIn Fence.wide 4 Tryd.prog 31 #[.slice ga gl gc, .int .i64 (p : Int)] w fun e W' => ∃ a cap, e = .returned (.slice a (upL U rn (rn + 1) p).length cap) ∧ (upL U rn (rn + 1) p).length ≤ cap ∧ LineIn W' w.heap.size a ((upL U rn (rn + 1) p).map fun x => (C x.val : Int)).reverse ∧ Below w.heap.size w W' := by
  have hmo : Tryd.prog.follows .mixedOrders = true := by kernel_rfl
  have HU := hide hU
  have HT := hide hT
  have HI := hide hI
  clear hU hT hI
  obtain ⟨F, hF⟩ : ∃ F, F = Fence.wide := ⟨_, rfl⟩
  rw [← hF]
  have HF := hide hF
  have hf0 : F.fn 48 := by rw [hF]; trivial
  have hf1 : F.fn 53 := by rw [hF]; trivial
  have hf2 : F.fn 58 := by rw [hF]; trivial
  have hf3 : F.fn 76 := by rw [hF]; trivial
  have hf4 : F.fn 59 := by rw [hF]; trivial
  have hro : F.round = none := by rw [hF]; rfl
  have HCT : ∀ n f args w R, Calls Tryd.prog f args w R → CallsIn F n Tryd.prog f args w R := fun n f args w R h => by rw [HF.out]; exact callsIn_wide.2 h
  have HCI := hide HCT
  clear hF HCT
  refine callsIn_of_wp_marks Tryd.func31 rfl (by rw [HF.out]; trivial) ?_ hro
  simp only [Tryd.ntmps31, List.size_toArray, List.length_cons, List.length_nil, Nat.reduceAdd, Nat.reduceSub, Array.replicate_succ, Array.replicate_zero, List.push_toArray, List.append_toArray, List.nil_append, List.cons_append]
  gi_wp2_with (first | (gi_at_call 48; refine (HCI.out _ _ _ _ _ HT.out).mono ?_; rintro e W1 ⟨rb, ro, rc, cb, cc, rfl, hL, hcb, hC, hb1⟩; have HC := hide hC; have HL := hide hL; have B1 := hide hb1; have s1 := hb1.size; clear hL hC hb1) | (gi_at_call 53; refine (HCI.out _ _ _ _ _ (HI.out _ _ _ _ _)).mono ?_; rintro e w2 ⟨rfl, hb2⟩; have R2 := (Rec.new W1 64 [.slice (some ⟨rb, ro, none⟩) rn rc, .slice (some ⟨cb, 0, none⟩) rn cc]).below hb2 (by simp); have t0 := R2.cell (o := 0) rfl; have t1 := R2.cell (o := 1) rfl; have lt2 : W1.heap.size < w2.heap.size := R2.lt) | (gi_at_call 58; refine (upward_in F _ hf2 hro _ _ _ _ _ _ _ _).mono ?_; rintro e w' ⟨rfl, rfl⟩))
  obtain ⟨W0, hW0⟩ : ∃ W0, W0 = (((w2.alloc (.cells #[.slice none 0 0] 43)).alloc (.cells #[.slice (some ⟨rb, ro, none⟩) rn rc, .slice (some ⟨cb, 0, none⟩) rn cc] 64)).alloc (.cells #[.int .i64 (p : Int)] 3)) := ⟨_, rfl⟩
  have b12 : Below W1.heap.size W1 w2 := ((Below.refl _ W1).alloc (Nat.le_refl _) _).trans (hb2.mono (by simp))
  have B0 : Below w2.heap.size w2 W0 := by
    rw [hW0]
    refine (((Below.refl _ w2).alloc (Nat.le_refl _) _).alloc ?_ _).alloc ?_ _ <;> simp <;> omega
  have hsz : W0.heap.size = w2.heap.size + 3 := by rw [hW0]; simp
  have r0 : Rec W0 w2.heap.size 43 [.slice none 0 0] := by rw [hW0]; exact ((Rec.new _ _ _).alloc _).alloc _
  have r1 : Rec W0 (w2.heap.size + 1) 64 [.slice (some ⟨rb, ro, none⟩) rn rc, .slice (some ⟨cb, 0, none⟩) rn cc] := by rw [hW0]; exact (Rec.new' _ _ _ _ (by simp)).alloc _
  have r2 : Rec W0 (w2.heap.size + 1 + 1) 3 [.int .i64 (p : Int)] := by rw [hW0]; exact Rec.new' _ _ _ _ (by simp)
  have k0 := r0.cell (o := 0) rfl
  have k1 := r0.frozen 0
  have k2 := r2.cell (o := 0) rfl
  have k3 := r1.cell (o := 0) rfl
  rw [← hW0]
  clear hW0 r0 r1 r2 hb2 R2
  have hUp : UpsAt W0 w2.heap.size rb ro rn U := by
    refine ⟨by have := HL.out.1; omega, fun i hi => ?_⟩
    rw [B0.cell (p := ⟨rb, ro + i * 6 + 1, none⟩) (by have := HL.out.1; simp; omega), b12.cell (p := ⟨rb, ro + i * 6 + 1, none⟩) HL.out.1]
    exact HL.out.2 i hi
  refine wpIn_rangeFunc_ownF hro (by omega) (gf := 76) (lb := #[.pointer (some ⟨w2.heap.size + 1 + 1, 0, none⟩), .pointer (some ⟨w2.heap.size + 1, 0, none⟩)]) rfl hf3 (enters_of Tryd.func76 (by kernel_rfl) rfl)
    (up_stops_k F (4 - 1) hf3 hro (by omega) (w2.heap.size + 1 + 1) (w2.heap.size + 1) w2.heap.size rb ro rn rc 0 0 none U (p : Int) ⟨by omega, by omega⟩ hrn HU.out W0 (by omega) (by omega) (by omega) k2 k3 hUp) KpL.trans (KpL.put (by omega) (by omega) (by omega)) (Below.refl _ _) (fun _ => rfl)
    (fun pre W => (∃ a cap, W.cell? ⟨w2.heap.size, 0, none⟩ = some (.slice a pre.length cap) ∧ W.frozen? ⟨w2.heap.size, 0, none⟩ = false ∧ W.ownsRow W0.heap.size 3 1 (.slice a pre.length cap) pre.length (ints (pre.map fun x => (C x.val : Int))) ∧ W0.heap.size ≤ W.heap.size) ∧ Below w2.heap.size w2 W)
    (fun c pre W => False)
    (OwnFrom.and (Own.from (fun s A B row hs hg hr => by obtain ⟨a, cap, h1, h2, h3, h4⟩ := hs; exact ⟨a, cap, cell_kept h1 hg hr, (frozen_kept h1 hg hr).trans h2, row_kept h3 hg hr, Nat.le_trans h4 hg.size⟩) _) (ownFrom_below (Nat.le_refl _) (by omega)))
    (fun c => Own.from (fun s A B row hs hg hr => hs) _)
    ⟨⟨none, 0, k0, k1, World.ownsRow_nil _ _ _ _, Nat.le_refl _⟩, B0⟩
    (fun x => { tmps := #[.slice ga gl gc, .int .i64 (p : Int), undef, undef, .slice none 0 0, .pointer (some ⟨W1.heap.size, 0, none⟩), .bool true, .pointer (some ⟨w2.heap.size, 0, none⟩), .int .i64 (x.val : Int), .tuple #[.agg #[.slice (some ⟨rb, ro, none⟩) rn rc, .slice (some ⟨cb, 0, none⟩) rn cc], .bool true], .slice ga gl gc, .tuple #[.agg #[.slice (some ⟨rb, ro, none⟩) rn rc, .slice (some ⟨cb, 0, none⟩) rn cc], .bool true], .agg #[.slice (some ⟨rb, ro, none⟩) rn rc, .slice (some ⟨cb, 0, none⟩) rn cc], .bool true, .bool true, .bool false, .bool false, .agg #[.slice (some ⟨rb, ro, none⟩) rn rc, .slice (some ⟨cb, 0, none⟩) rn cc], .int .i64 (p : Int), .bool true, .bool false, .bool false, .agg #[.slice (some ⟨rb, ro, none⟩) rn rc, .slice (some ⟨cb, 0, none⟩) rn cc], .int .i64 (p : Int), .func (.func 76) #[] #[.pointer (some ⟨w2.heap.size + 1 + 1, 0, none⟩), .pointer (some ⟨w2.heap.size + 1, 0, none⟩)], .int .i64 (x.val : Int), undef, undef, undef, undef, undef, undef, undef, undef, undef, undef, undef], defers := [] }) ?assign ?body ?done ?stop
  case assign =>
    intro l x W K hK
    gi_wp2
    exact hK
  case body =>
    rintro l pre x W ⟨⟨a, cap, g1, g2, g3, g4⟩, hB⟩ hlen
    have z1 : W.cell? ⟨W1.heap.size, 1, none⟩ = some (.slice (some ⟨cb, 0, none⟩) rn cc) := by rw [hB.cell (p := ⟨W1.heap.size, 1, none⟩) (by simp; omega)]; exact t1
    have z2 : W.cell? ⟨cb, x.val, none⟩ = some (.int .i64 (C x.val : Nat)) := by
      rw [hB.cell (p := ⟨cb, x.val, none⟩) (by simp; omega), b12.cell (p := ⟨cb, x.val, none⟩) hcb]
      have := HC.out _ x.isLt
      rwa [Nat.zero_add] at this
    have wlt : w2.heap.size < W.heap.size := by omega
    have x1 : (0 : Int) ≤ (x.val : Int) := by omega
    have x2 : (x.val : Int) < (rn : Int) := by have := x.isLt; omega
    have HB := hide hB
    have HG := hide g3
    clear hB g3
    gi_wp2
    rw [HF.out]
    refine wpIn_region_any hmo (any_wide (no_letsOut_block no_letsOut) (by simp) _ _ _ _ ?_)
    obtain ⟨i0, hi0, hzz⟩ := Option.map_eq_some_iff.1 Tryd.infoInt
    simp only [Prod.mk.injEq] at hzz
    obtain ⟨hz0, hs0, hb0⟩ := hzz
    have HZ := hide hz0
    have HS := hide hs0
    have HBy := hide hb0
    have HI0 := hide hi0
    clear hz0 hs0 hb0 hi0
    have hl9 : pre.length ≤ 9 := by have := upL_len U rn (rn + 1) (p : Int); omega
    clear hlen
    refine wpAny_take (i := 1) (v := .pointer (some ⟨W1.heap.size, 1, none⟩)) rfl (by kernel_rfl) (by kernel_rfl) (by kernel_rfl) (fun _ _ _ h => h) (Or.inl ⟨by rfl, fun w' => by go_simp⟩) ?_
    refine wpAny_take (i := 3) (v := .int .i64 (x.val : Int)) rfl (by kernel_rfl) (by kernel_rfl) (by kernel_rfl) (fun _ _ _ h => h) (Or.inl ⟨by rfl, fun w' => by go_simp⟩) ?_
    refine wpAny_ready (rs := [0, 2]) (by kernel_rfl) (by simp) (AllReady.cons rfl (fun K hK => ?_) (AllReady.cons rfl (fun K hK => ?_) AllReady.nil))
    · have HK := hide hK
      clear hK
      go_simp
      refine HK.out _ _ ?_
      clear HK K
      refine wpAny_ready (rs := [2]) (by kernel_rfl) (by simp) (AllReady.cons rfl (fun K hK => ?_) AllReady.nil)
      have HK := hide hK
      clear hK
      go_simp
      refine HK.out _ _ ?_
      clear HK K
      refine wpAny_take (i := 4) (v := .pointer (some ⟨cb, x.val, none⟩)) rfl (by kernel_rfl) (by kernel_rfl) (by kernel_rfl) (fun _ _ _ h => h) (Or.inl ⟨by rfl, fun w' => by go_simp⟩) ?_
      refine wpAny_ready (rs := [5]) (by kernel_rfl) (by simp) (AllReady.cons rfl (fun K hK => ?_) AllReady.nil)
      have HK := hide hK
      clear hK
      go_simp
      refine HK.out _ _ ?_
      clear HK K
      refine wpAny_ready (rs := [6]) (by kernel_rfl) (by simp) (AllReady.cons rfl (fun K hK => ?_) AllReady.nil)
      have HK := hide hK
      clear hK
      go_simp
      refine HK.out _ _ ?_
      clear HK K
      refine wpAny_ready (rs := [7]) (by kernel_rfl) (by simp) (AllReady.cons rfl (fun K hK => ?_) AllReady.nil)
      have HK := hide hK
      clear hK
      refine step_append_lies _ rfl _ _ 43 rfl W0.heap.size 3 i0 _ 1 8 Tryd.underlying43 HI0.out HZ.out HS.out HBy.out rfl (by decide) _ pre.length (ints (pre.map fun x => (C x.val : Int))) rfl (World.ownsRow.drew (World.ownsRow.alloc HG.out _)) ⟨W.heap.size, 0, none⟩ 1 1 [.int .i64 (C x.val : Nat)] rfl rfl (World.news_of_block (Deep.blk_alloc_new _ _)) (by intro u hu; simp at hu; subst hu; rfl) (by decide) (by unfold maxLen; omega) (by omega) (by simp; omega) _ rfl ?_
      intro g5 cap5 w3 hown hgr hat hlt3
      refine HK.out _ _ ?_
      clear HK K
      have HB3 : Hid (Below W0.heap.size W w3) := ((Below.refl W0.heap.size W).alloc g4 _).drew.grown hgr (by simp; omega) (owns_base HG.out)
      have l1 : w3.cell? ⟨w2.heap.size, 0, none⟩ = some (.slice a pre.length cap) := (HB3.out.cell (p := ⟨w2.heap.size, 0, none⟩) (by simp; omega)).trans g1
      have l2 : w3.frozen? ⟨w2.heap.size, 0, none⟩ = false := (frozen_same (HB3.out.block w2.heap.size (by omega))).trans g2
      have HO := hide hown
      have HGr := hide hgr
      clear hown hgr hat
      refine wpAny_ready (rs := [8]) (by kernel_rfl) (by simp) (AllReady.cons rfl (fun K hK => ?_) AllReady.nil)
      have HK := hide hK
      clear hK
      go_simp
      refine HK.out _ _ ?_
      clear HK K
      refine wpAny_done (by kernel_rfl) ?_ _
      have hko : KeepsOthers W w3 := (KeepsOthers.alloc W _).trans ((KeepsOthers.drew _).trans (KeepsOthers.of_grownBy HGr.out (fun j o hj ho => row_cells (World.ownsRow.drew (World.ownsRow.alloc HG.out _)) hj ho)))
      have hbk : Below w2.heap.size W (w3.setCell ⟨w2.heap.size, 0, none⟩ (.slice (some ⟨g5, 0, none⟩) (pre.length + 1) cap5)) := (HB3.out.mono (show w2.heap.size ≤ W0.heap.size by omega)).setCell (p := ⟨w2.heap.size, 0, none⟩) (Nat.le_refl _) _
      refine ⟨hko.trans (KeepsOthers.setCell _ _ _), ⟨hbk, (Below.heap_setCell _ _ _ _ (by show _ ≠ w2.heap.size; omega)).trans (HB3.out.block _ (by omega)), (Below.heap_setCell _ _ _ _ (by show _ ≠ w2.heap.size; omega)).trans (HB3.out.block _ (by omega))⟩, ⟨some ⟨g5, 0, none⟩, cap5, ?_, ?_, ?_, ?_⟩, HB.out.trans (hbk.mono (by omega))⟩
      · rw [List.length_append]; exact World.cell?_setCell_same' _ _ _ (by rw [l1]; rfl)
      · first | exact (World.frozen?_setCell _ _ _ _).trans l2 | (simp; exact l2)
      · rw [List.length_append, List.map_append]; have := owns_set (u := .slice (some ⟨g5, 0, none⟩) (pre.length + 1) cap5) (o := 0) HO.out (show w2.heap.size < W0.heap.size by omega); simpa [ints] using this
      · have := HB3.out.size; simp; omega
    · have HK := hide hK
      clear hK
      go_simp
      refine HK.out _ _ ?_
      clear HK K
      refine wpAny_take (i := 4) (v := .pointer (some ⟨cb, x.val, none⟩)) rfl (by kernel_rfl) (by kernel_rfl) (by kernel_rfl) (fun _ _ _ h => h) (Or.inl ⟨by rfl, fun w' => by go_simp⟩) ?_
      refine wpAny_ready (rs := [0, 5]) (by kernel_rfl) (by simp) (AllReady.cons rfl (fun K hK => ?_) (AllReady.cons rfl (fun K hK => ?_) AllReady.nil))
      · have HK := hide hK
        clear hK
        go_simp
        refine HK.out _ _ ?_
        clear HK K
        refine wpAny_ready (rs := [5]) (by kernel_rfl) (by simp) (AllReady.cons rfl (fun K hK => ?_) AllReady.nil)
        have HK := hide hK
        clear hK
        go_simp
        refine HK.out _ _ ?_
        clear HK K
        refine wpAny_ready (rs := [6]) (by kernel_rfl) (by simp) (AllReady.cons rfl (fun K hK => ?_) AllReady.nil)
        have HK := hide hK
        clear hK
        go_simp
        refine HK.out _ _ ?_
        clear HK K
        refine wpAny_ready (rs := [7]) (by kernel_rfl) (by simp) (AllReady.cons rfl (fun K hK => ?_) AllReady.nil)
        have HK := hide hK
        clear hK
        refine step_append_lies _ rfl _ _ 43 rfl W0.heap.size 3 i0 _ 1 8 Tryd.underlying43 HI0.out HZ.out HS.out HBy.out rfl (by decide) _ pre.length (ints (pre.map fun x => (C x.val : Int))) rfl (World.ownsRow.drew (World.ownsRow.alloc HG.out _)) ⟨W.heap.size, 0, none⟩ 1 1 [.int .i64 (C x.val : Nat)] rfl rfl (World.news_of_block (Deep.blk_alloc_new _ _)) (by intro u hu; simp at hu; subst hu; rfl) (by decide) (by unfold maxLen; omega) (by omega) (by simp; omega) _ rfl ?_
        intro g5 cap5 w3 hown hgr hat hlt3
        refine HK.out _ _ ?_
        clear HK K
        have HB3 : Hid (Below W0.heap.size W w3) := ((Below.refl W0.heap.size W).alloc g4 _).drew.grown hgr (by simp; omega) (owns_base HG.out)
        have l1 : w3.cell? ⟨w2.heap.size, 0, none⟩ = some (.slice a pre.length cap) := (HB3.out.cell (p := ⟨w2.heap.size, 0, none⟩) (by simp; omega)).trans g1
        have l2 : w3.frozen? ⟨w2.heap.size, 0, none⟩ = false := (frozen_same (HB3.out.block w2.heap.size (by omega))).trans g2
        have HO := hide hown
        have HGr := hide hgr
        clear hown hgr hat
        refine wpAny_ready (rs := [8]) (by kernel_rfl) (by simp) (AllReady.cons rfl (fun K hK => ?_) AllReady.nil)
        have HK := hide hK
        clear hK
        go_simp
        refine HK.out _ _ ?_
        clear HK K
        refine wpAny_done (by kernel_rfl) ?_ _
        have hko : KeepsOthers W w3 := (KeepsOthers.alloc W _).trans ((KeepsOthers.drew _).trans (KeepsOthers.of_grownBy HGr.out (fun j o hj ho => row_cells (World.ownsRow.drew (World.ownsRow.alloc HG.out _)) hj ho)))
        have hbk : Below w2.heap.size W (w3.setCell ⟨w2.heap.size, 0, none⟩ (.slice (some ⟨g5, 0, none⟩) (pre.length + 1) cap5)) := (HB3.out.mono (show w2.heap.size ≤ W0.heap.size by omega)).setCell (p := ⟨w2.heap.size, 0, none⟩) (Nat.le_refl _) _
        refine ⟨hko.trans (KeepsOthers.setCell _ _ _), ⟨hbk, (Below.heap_setCell _ _ _ _ (by show _ ≠ w2.heap.size; omega)).trans (HB3.out.block _ (by omega)), (Below.heap_setCell _ _ _ _ (by show _ ≠ w2.heap.size; omega)).trans (HB3.out.block _ (by omega))⟩, ⟨some ⟨g5, 0, none⟩, cap5, ?_, ?_, ?_, ?_⟩, HB.out.trans (hbk.mono (by omega))⟩
        · rw [List.length_append]; exact World.cell?_setCell_same' _ _ _ (by rw [l1]; rfl)
        · first | exact (World.frozen?_setCell _ _ _ _).trans l2 | (simp; exact l2)
        · rw [List.length_append, List.map_append]; have := owns_set (u := .slice (some ⟨g5, 0, none⟩) (pre.length + 1) cap5) (o := 0) HO.out (show w2.heap.size < W0.heap.size by omega); simpa [ints] using this
        · have := HB3.out.size; simp; omega
      · have HK := hide hK
        clear hK
        go_simp
        refine HK.out _ _ ?_
        clear HK K
        refine wpAny_ready (rs := [0, 6]) (by kernel_rfl) (by simp) (AllReady.cons rfl (fun K hK => ?_) (AllReady.cons rfl (fun K hK => ?_) AllReady.nil))
        · have HK := hide hK
          clear hK
          go_simp
          refine HK.out _ _ ?_
          clear HK K
          refine wpAny_ready (rs := [6]) (by kernel_rfl) (by simp) (AllReady.cons rfl (fun K hK => ?_) AllReady.nil)
          have HK := hide hK
          clear hK
          go_simp
          refine HK.out _ _ ?_
          clear HK K
          refine wpAny_ready (rs := [7]) (by kernel_rfl) (by simp) (AllReady.cons rfl (fun K hK => ?_) AllReady.nil)
          have HK := hide hK
          clear hK
          refine step_append_lies _ rfl _ _ 43 rfl W0.heap.size 3 i0 _ 1 8 Tryd.underlying43 HI0.out HZ.out HS.out HBy.out rfl (by decide) _ pre.length (ints (pre.map fun x => (C x.val : Int))) rfl (World.ownsRow.drew (World.ownsRow.alloc HG.out _)) ⟨W.heap.size, 0, none⟩ 1 1 [.int .i64 (C x.val : Nat)] rfl rfl (World.news_of_block (Deep.blk_alloc_new _ _)) (by intro u hu; simp at hu; subst hu; rfl) (by decide) (by unfold maxLen; omega) (by omega) (by simp; omega) _ rfl ?_
          intro g5 cap5 w3 hown hgr hat hlt3
          refine HK.out _ _ ?_
          clear HK K
          have HB3 : Hid (Below W0.heap.size W w3) := ((Below.refl W0.heap.size W).alloc g4 _).drew.grown hgr (by simp; omega) (owns_base HG.out)
          have l1 : w3.cell? ⟨w2.heap.size, 0, none⟩ = some (.slice a pre.length cap) := (HB3.out.cell (p := ⟨w2.heap.size, 0, none⟩) (by simp; omega)).trans g1
          have l2 : w3.frozen? ⟨w2.heap.size, 0, none⟩ = false := (frozen_same (HB3.out.block w2.heap.size (by omega))).trans g2
          have HO := hide hown
          have HGr := hide hgr
          clear hown hgr hat
          refine wpAny_ready (rs := [8]) (by kernel_rfl) (by simp) (AllReady.cons rfl (fun K hK => ?_) AllReady.nil)
          have HK := hide hK
          clear hK
          go_simp
          refine HK.out _ _ ?_
          clear HK K
          refine wpAny_done (by kernel_rfl) ?_ _
          have hko : KeepsOthers W w3 := (KeepsOthers.alloc W _).trans ((KeepsOthers.drew _).trans (KeepsOthers.of_grownBy HGr.out (fun j o hj ho => row_cells (World.ownsRow.drew (World.ownsRow.alloc HG.out _)) hj ho)))
          have hbk : Below w2.heap.size W (w3.setCell ⟨w2.heap.size, 0, none⟩ (.slice (some ⟨g5, 0, none⟩) (pre.length + 1) cap5)) := (HB3.out.mono (show w2.heap.size ≤ W0.heap.size by omega)).setCell (p := ⟨w2.heap.size, 0, none⟩) (Nat.le_refl _) _
          refine ⟨hko.trans (KeepsOthers.setCell _ _ _), ⟨hbk, (Below.heap_setCell _ _ _ _ (by show _ ≠ w2.heap.size; omega)).trans (HB3.out.block _ (by omega)), (Below.heap_setCell _ _ _ _ (by show _ ≠ w2.heap.size; omega)).trans (HB3.out.block _ (by omega))⟩, ⟨some ⟨g5, 0, none⟩, cap5, ?_, ?_, ?_, ?_⟩, HB.out.trans (hbk.mono (by omega))⟩
          · rw [List.length_append]; exact World.cell?_setCell_same' _ _ _ (by rw [l1]; rfl)
          · first | exact (World.frozen?_setCell _ _ _ _).trans l2 | (simp; exact l2)
          · rw [List.length_append, List.map_append]; have := owns_set (u := .slice (some ⟨g5, 0, none⟩) (pre.length + 1) cap5) (o := 0) HO.out (show w2.heap.size < W0.heap.size by omega); simpa [ints] using this
          · have := HB3.out.size; simp; omega
        · have HK := hide hK
          clear hK
          go_simp
          refine HK.out _ _ ?_
          clear HK K
          refine wpAny_ready (rs := [0]) (by kernel_rfl) (by simp) (AllReady.cons rfl (fun K hK => ?_) AllReady.nil)
          have HK := hide hK
          clear hK
          go_simp
          refine HK.out _ _ ?_
          clear HK K
          refine wpAny_ready (rs := [7]) (by kernel_rfl) (by simp) (AllReady.cons rfl (fun K hK => ?_) AllReady.nil)
          have HK := hide hK
          clear hK
          refine step_append_lies _ rfl _ _ 43 rfl W0.heap.size 3 i0 _ 1 8 Tryd.underlying43 HI0.out HZ.out HS.out HBy.out rfl (by decide) _ pre.length (ints (pre.map fun x => (C x.val : Int))) rfl (World.ownsRow.drew (World.ownsRow.alloc HG.out _)) ⟨W.heap.size, 0, none⟩ 1 1 [.int .i64 (C x.val : Nat)] rfl rfl (World.news_of_block (Deep.blk_alloc_new _ _)) (by intro u hu; simp at hu; subst hu; rfl) (by decide) (by unfold maxLen; omega) (by omega) (by simp; omega) _ rfl ?_
          intro g5 cap5 w3 hown hgr hat hlt3
          refine HK.out _ _ ?_
          clear HK K
          have HB3 : Hid (Below W0.heap.size W w3) := ((Below.refl W0.heap.size W).alloc g4 _).drew.grown hgr (by simp; omega) (owns_base HG.out)
          have l1 : w3.cell? ⟨w2.heap.size, 0, none⟩ = some (.slice a pre.length cap) := (HB3.out.cell (p := ⟨w2.heap.size, 0, none⟩) (by simp; omega)).trans g1
          have l2 : w3.frozen? ⟨w2.heap.size, 0, none⟩ = false := (frozen_same (HB3.out.block w2.heap.size (by omega))).trans g2
          have HO := hide hown
          have HGr := hide hgr
          clear hown hgr hat
          refine wpAny_ready (rs := [8]) (by kernel_rfl) (by simp) (AllReady.cons rfl (fun K hK => ?_) AllReady.nil)
          have HK := hide hK
          clear hK
          go_simp
          refine HK.out _ _ ?_
          clear HK K
          refine wpAny_done (by kernel_rfl) ?_ _
          have hko : KeepsOthers W w3 := (KeepsOthers.alloc W _).trans ((KeepsOthers.drew _).trans (KeepsOthers.of_grownBy HGr.out (fun j o hj ho => row_cells (World.ownsRow.drew (World.ownsRow.alloc HG.out _)) hj ho)))
          have hbk : Below w2.heap.size W (w3.setCell ⟨w2.heap.size, 0, none⟩ (.slice (some ⟨g5, 0, none⟩) (pre.length + 1) cap5)) := (HB3.out.mono (show w2.heap.size ≤ W0.heap.size by omega)).setCell (p := ⟨w2.heap.size, 0, none⟩) (Nat.le_refl _) _
          refine ⟨hko.trans (KeepsOthers.setCell _ _ _), ⟨hbk, (Below.heap_setCell _ _ _ _ (by show _ ≠ w2.heap.size; omega)).trans (HB3.out.block _ (by omega)), (Below.heap_setCell _ _ _ _ (by show _ ≠ w2.heap.size; omega)).trans (HB3.out.block _ (by omega))⟩, ⟨some ⟨g5, 0, none⟩, cap5, ?_, ?_, ?_, ?_⟩, HB.out.trans (hbk.mono (by omega))⟩
          · rw [List.length_append]; exact World.cell?_setCell_same' _ _ _ (by rw [l1]; rfl)
          · first | exact (World.frozen?_setCell _ _ _ _).trans l2 | (simp; exact l2)
          · rw [List.length_append, List.map_append]; have := owns_set (u := .slice (some ⟨g5, 0, none⟩) (pre.length + 1) cap5) (o := 0) HO.out (show w2.heap.size < W0.heap.size by omega); simpa [ints] using this
          · have := HB3.out.size; simp; omega
  case done =>
    rintro D ys W hD rfl ⟨⟨a, cap, g1, g2, g3, g4⟩, hB⟩ hK
    obtain ⟨L, hLL⟩ : ∃ L, upL U rn (rn + 1) (p : Int) = L := ⟨_, rfl⟩
    have hpos : 0 < L.length := by rw [← hLL, upL_succ _ _ _ _ hp]; simp
    rw [hLL] at g1 g3
    have HLL := hide hLL
    have hl9 : L.length ≤ 9 := by have := upL_len U rn (rn + 1) (p : Int); rw [hLL] at this; omega
    clear hLL
    rcases g3.2 with ⟨_, h0⟩ | ⟨g, cap', cur, e, h1, h2, h3, h4, h5, h6⟩
    · omega
    cases e
    have hcell : ∀ j, j < (L.map fun x => (C x.val : Int)).length → W.cell? ⟨g, 0 + j, none⟩ = some (.int .i64 ((L.map fun x => (C x.val : Int)).getD j 0)) := fun j hj => by
      rw [Nat.zero_add, g3.cellAt j (by simpa using hj), ints_at]
      simp at hj
      simp [List.getD, hj]
    have hfz : ∀ j, j < L.length → W.frozen? ⟨g, 0 + j, none⟩ = false := fun j hj => g3.frozenAt _
    have HRv := hide (Any.slices_Reverse_int_cells Tryd.lays112 g 0 L.length cap (L.map fun x => (C x.val : Int)) W (by simp) (by omega) hcell hfz)
    have HCl := hide hcell
    have hne : g ≠ D := fun e => by rw [e, hK] at h2; cases h2
    have hOwn : Own W g cap 3 := ⟨cur, h2, by omega⟩
    have HOw := hide hOwn
    clear hcell hfz g3 h6 hOwn
    have hzl : (L.map fun x => (C x.val : Int)).length = L.length := by simp
    have hDlt : D < W.heap.size := (Array.getElem?_eq_some_iff.1 hK).1
    have glt : g < W.heap.size := HOw.out.lt
    gi_wp2_with (gi_at_call 59; refine (HCI.out _ _ _ _ _ HRv.out).mono ?_; rintro e w5 ⟨rfl, q, hw5⟩; have HA := hide (after_rev hw5 hzl.symm HOw.out (by omega)); clear hw5; have l5 : w5.cell? ⟨w2.heap.size, 0, none⟩ = some (.slice (some ⟨g, 0, none⟩) L.length cap) := (World.cell?_of_block (w := W) (HA.out.2.2.2.2 w2.heap.size (by omega) (by omega))).trans g1)
    obtain ⟨a1, a2, a3, a4, a5⟩ := HA.out
    have hK5 : w5.heap[D]? = some (.deferred (some [])) := (a5 D hDlt hne.symm).trans hK
    refine ⟨by simp, .inl ⟨_, _, rfl, run_takeDeferred hK5, ?_⟩⟩
    refine ⟨.slice (some ⟨g, 0, none⟩) L.length cap, ?_, ?_⟩
    · simp [results, Tryd.f31, go_sem]
    · have hbb : Below w.heap.size w (w5.putObj D (.deferred none)) := B1.out.trans (((b12.trans (hB.mono (by have := b12.size; omega))).trans ((a4 W1.heap.size (by omega)).trans (belowK_b (w := W0) (n₀ := W1.heap.size) (by omega) w5 D _ _ hD hK5 rfl rfl))).mono s1)
      refine ⟨some ⟨g, 0, none⟩, cap, ?_, by rw [HLL.out]; omega, .inr ⟨g, cap, rfl, by omega, by have := a2.lt; simpa [World.putObj] using this, a2.of_block (World.putObj_heap_other hne), by simp; rw [HLL.out]; omega, fun i hi => ?_⟩, hbb⟩
      · rw [HLL.out]
      · rw [World.cell?_of_block (w := w5) (World.putObj_heap_other hne)]
        rw [HLL.out] at hi ⊢
        exact a1 i (by simpa using hi)
  case stop =>
    rintro D c pre W hD hpre h hK
    cases h
end Go.Proofs.YtfnipbnchkonoaaDoor

/- KinLine of the program, of any groups. -/
namespace Go.Proofs.YtfnipbnchkonoaaDoor
open Go.ChangeShapes Go.WideShapes Go.ChangeAt Go.RowKit
set_option linter.unusedVariables false

theorem lineF_len (gs : List (List Ty)) (a : Int) : (lineF gs a).length = if isTypeF gs a && kinOkF gs then (lineUp gs a (kinCount gs + 1)).length else 0 := by
  unfold lineF; split <;> simp

set_option maxHeartbeats 1600000 in
theorem implKinLine_cap (ga : Option Addr) (gc lo hi : Nat) (gs : List (List Ty)) (a : Int) (w : World) (hN : Few gs) (hl : lo ≤ hi) (hh : hi ≤ w.heap.size) (hx : GroupsIn w lo hi ga gs) (hp : pow10 w) :
    Calls Tryd.prog 31 #[.slice ga gs.length gc, .int .i64 a] w fun e w' => ∃ ad cap, e = .returned (.slice ad (lineF gs a).length cap) ∧ (lineF gs a).length ≤ cap ∧ LineIn w' w.heap.size ad (lineF gs a) ∧ Below w.heap.size w w' := by
  have n2 := kinCount_le hN
  cases hk : kinOkF gs with
  | false =>
    have HC := hide (kinTableOf_no ga gc lo hi gs w hN hl hh hx hp hk)
    have HZ : Hid (lineF gs a = []) := by show _ = _; simp [lineF, hk]
    clear hN hx hp hk
    go_enter Tryd.func31, Tryd.ntmps31
    go_wp2_with fail
    refine HC.out.mono ?_
    rintro e w1 ⟨rfl, hb1⟩
    have B1 := hide hb1
    clear hb1
    go_wp2_with fail
    go_ret
    rw [HZ.out]
    exact ⟨none, 0, rfl, Nat.le_refl _, .inl rfl, B1.out.alloc B1.out.size _⟩
  | true =>
    have HC := hide (kinTableOf_ok ga gc lo hi gs w hN hl hh hx hp hk)
    have hP := kinOk_parts hk
    cases ht : isTypeF gs a with
    | false =>
      have HZ : Hid (lineF gs a = []) := by show _ = _; simp [lineF, ht]
      have HI := hide (fun ra ca rc cc W => isType_any ra ca rc cc gs a W n2)
      rw [ht] at HI
      clear hN hx hp hk hP ht
      go_enter Tryd.func31, Tryd.ntmps31
      go_wp2_with fail
      refine HC.out.mono ?_
      rintro e w1 ⟨ra, rc, cb, rfl, _, hb1⟩
      have B1 := hide hb1
      clear hb1
      go_wp2_with fail
      refine (HI.out ra _ rc _ _).mono ?_
      rintro e w2 ⟨rfl, hb2⟩
      have B2 := hide ((B1.out.alloc B1.out.size (.cells #[.slice ra (kinCount gs) rc, .slice (some ⟨cb, 0, none⟩) (kinCount gs) (kinCount gs)] 64)).trans (hb2.mono (by have := B1.out.size; simp; omega)))
      clear hb2
      go_wp2_with fail
      go_ret
      rw [HZ.out]
      exact ⟨none, 0, rfl, Nat.le_refl _, .inl rfl, B2.out⟩
    | true =>
      have hr : 0 ≤ a ∧ a < (kinCount gs : Int) := by simpa [isTypeF] using ht
      obtain ⟨p, rfl⟩ := Int.eq_ofNat_of_zero_le hr.1
      have hZ : lineF gs p = ((upL (fun i => (tyN gs i).up) (kinCount gs) (kinCount gs + 1) p).map fun x => (canon gs x.val : Int)).reverse := by simp [lineF, hk, ht, lineUp]
      refine (callsIn_wide (n := 4)).1 ?_
      refine (line_walk ga gc gs.length (kinCount gs) (fun i => (tyN gs i).up) (canon gs) p w (HC.out.mono ?_) (fun ra ca rc cc W => by have := isType_any ra ca rc cc gs p W n2; rwa [ht] at this) hP.2.1 (by omega) (fun i hi => (parts_flat hP hi).2.1)).mono ?_
      · rintro e w' ⟨ra, rc, cb, rfl, hT, hb⟩
        obtain ⟨hR, hcb, hCc⟩ := hT
        rcases hR with h0 | ⟨rb, ro, rfl, r1, r2, r3⟩
        · have := rows_len gs
          rw [h0] at this
          simp at this
          omega
        · refine ⟨rb, ro, rc, cb, _, rfl, ⟨r2, fun i hi => ?_⟩, hcb, hCc, hb⟩
          have h := (r3 i (by rw [rows_len]; exact hi)).1.2.1
          rw [rows_ty gs hi] at h
          exact h
      · rintro e w' ⟨ad, cap, rfl, hcap, hL, hb⟩
        rw [hZ]
        exact ⟨ad, cap, by simp, by simpa using hcap, hL, hb⟩
theorem implKinLine_any (ga : Option Addr) (gc lo hi : Nat) (gs : List (List Ty)) (a : Int) (w : World) (hN : Few gs) (hl : lo ≤ hi) (hh : hi ≤ w.heap.size) (hx : GroupsIn w lo hi ga gs) (hp : pow10 w) :
    Calls Tryd.prog 31 #[.slice ga gs.length gc, .int .i64 a] w fun e w' => ∃ ad cap, e = .returned (.slice ad (lineF gs a).length cap) ∧ LineIn w' w.heap.size ad (lineF gs a) ∧ Below w.heap.size w w' :=
  (implKinLine_cap ga gc lo hi gs a w hN hl hh hx hp).mono fun e w' ⟨ad, cap, q1, _, q3, q4⟩ => ⟨ad, cap, q1, q3, q4⟩
end Go.Proofs.YtfnipbnchkonoaaDoor

/- wpInts of the laws: whether two lists of numbers are one; KinLine of both sides on groups that were drawn. -/
namespace Go.Proofs.YtfnipbnchkonoaaDoor
open Go.ChangeShapes Go.WideShapes Go.ChangeAt Go.RowKit Go.Deep
set_option linter.unusedVariables false

/-- The numbers xs lie at a. -/
def IntsAt (w : World) (a : Option Addr) (xs : List Int) : Prop := xs = [] ∨ ∃ b off, a = some ⟨b, off, none⟩ ∧ b < w.heap.size ∧ ∀ i, i < xs.length → w.cell? ⟨b, off + i, none⟩ = some (.int .i64 (xs.getD i 0))
theorem IntsAt.keep {w w' : World} {a : Option Addr} {xs : List Int} (h : IntsAt w a xs) (hb : Below w.heap.size w w') : IntsAt w' a xs := by
  rcases h with h | ⟨b, off, h1, h2, h3⟩
  · exact .inl h
  · exact .inr ⟨b, off, h1, Nat.lt_of_lt_of_le h2 hb.size, fun i hi => by rw [hb.cell (p := ⟨b, off + i, none⟩) h2]; exact h3 i hi⟩
theorem IntsAt.take {w : World} {a : Option Addr} {xs : List Int} (h : IntsAt w a xs) (k : Nat) : IntsAt w a (xs.take k) := by
  rcases h with h | ⟨b, off, h1, h2, h3⟩
  · subst h; simp; exact .inl rfl
  · refine .inr ⟨b, off, h1, h2, fun i hi => ?_⟩
    rw [List.length_take] at hi
    rw [h3 i (by omega)]
    simp only [List.getD_eq_getElem?_getD, List.getElem?_take]
    rw [if_pos (by omega)]
theorem LineIn.at {w : World} {lo : Nat} {a : Option Addr} {xs : List Int} (h : LineIn w lo a xs) : IntsAt w a xs := by
  rcases h with h | ⟨g, m, h1, h2, h3, h4, h5, h6⟩
  · exact .inl h
  · exact .inr ⟨g, 0, h1, h3, fun i hi => by rw [Nat.zero_add]; exact h6 i hi⟩
theorem IntRow.at {w : World} {lo g cap : Nat} {xs : List Int} (h : IntRow w lo g cap xs) : IntsAt w (some ⟨g, 0, none⟩) xs :=
  .inr ⟨g, 0, rfl, h.lt.2, fun i hi => by rw [Nat.zero_add, h.cell hi]; simp [hi]⟩

theorem getD_ext {xs ys : List Int} (hl : xs.length = ys.length) (h : ∀ i, i < xs.length → xs.getD i 0 = ys.getD i 0) : xs = ys := by
  refine List.ext_getElem hl fun i h1 h2 => ?_
  have := h i h1
  simpa [h1, h2] using this

set_option maxHeartbeats 1000000 in
theorem wpInts_any (xa ya : Option Addr) (xc yc : Nat) (xs ys : List Int) (w : World) (hx : IntsAt w xa xs) (hy : IntsAt w ya ys) (lx : xs.length ≤ 1000) (ly : ys.length ≤ 1000) {v : Bool} (hv : decide (xs = ys) = v) :
    Calls Tryd.prog 32 #[.slice xa xs.length xc, .slice ya ys.length yc] w fun e w' => e = .returned (.bool v) ∧ ∃ q, w' = w.drewN q := by
  subst hv
  by_cases hl : xs.length = ys.length
  · have hl1 : ((xs.length : Int) == (ys.length : Int)) = true := by simp [hl]
    have hl2 : ((xs.length : Int) != (ys.length : Int)) = false := by simp [hl]
    have HL := hide hl
    have lx1 : (xs.length : Int) ≤ 1000 := by omega
    clear hl
    have HX := hide hx
    have HY := hide hy
    clear hx hy
    go_enter Tryd.func32, Tryd.ntmps32
    go_wp2_with fail
    clear hl1 hl2
    go_loopw [5] (fun iv wr => ∃ i : Nat, i ≤ xs.length ∧ iv = .int .i64 (i : Int) ∧ Hid (∀ j, j < i → xs.getD j 0 = ys.getD j 0) ∧ Hid (∃ q, wr = w.drewN q)) (fun iv wr => xs.length - (intOf iv).toNat)
    case atStart => exact ⟨0, Nat.zero_le _, rfl, fun j hj => absurd hj (Nat.not_lt_zero _), ⟨0, rfl⟩⟩
    case round =>
      obtain ⟨i, hi, rfl, HE, HQ⟩ := hrel
      obtain ⟨q, rfl⟩ := HQ.out
      clear HQ
      by_cases hlt : i < xs.length
      · have i1 : (0 : Int) ≤ (i : Int) := by omega
        have i2 : (i : Int) < (xs.length : Int) := by omega
        have i3 : (i : Int) < (ys.length : Int) := by have := HL.out; omega
        rcases HX.out with h0 | ⟨b, off, rfl, hb, hc⟩
        · exfalso; rw [h0] at hlt; simp at hlt
        rcases HY.out with h0 | ⟨b2, off2, rfl, hb2, hc2⟩
        · exfalso; have := HL.out; rw [h0] at this; simp at this; rw [this] at hlt; simp at hlt
        have c1 : w.cell? ⟨b, off + i, none⟩ = some (.int .i64 (xs.getD i 0)) := hc i hlt
        have c2 : w.cell? ⟨b2, off2 + i, none⟩ = some (.int .i64 (ys.getD i 0)) := hc2 i (by have := HL.out; omega)
        clear hc hc2
        by_cases he : xs.getD i 0 = ys.getD i 0
        · have HE2 : Hid (∀ j, j < i + 1 → xs.getD j 0 = ys.getD j 0) := fun j hj => by
            by_cases e : j = i
            · subst e; exact he
            · exact HE.out j (by omega)
          obtain ⟨x, hx⟩ : ∃ x, xs.getD i 0 = x := ⟨_, rfl⟩
          rw [← he] at c2
          rw [hx] at c1 c2
          clear hx he HE
          go_wp2_with fail
          go_quiet (fail)
          go_wp2_with fail
          go_roundw
          case rel => exact ⟨i + 1, by omega, by go_num, HE2, ⟨q + nq, by simp⟩⟩
          case measure => simp [intOf]; omega
        · have HN : Hid (decide (xs = ys) = false) := by
            show _ = _
            rw [decide_eq_false_iff_not]
            intro e; rw [e] at he; exact he rfl
          obtain ⟨x, hx⟩ : ∃ x, xs.getD i 0 = x := ⟨_, rfl⟩
          obtain ⟨y, hy⟩ : ∃ y, ys.getD i 0 = y := ⟨_, rfl⟩
          rw [hx] at c1 he
          rw [hy] at c2 he
          have he2 : (x != y) = true := by simpa using he
          clear hx hy he HE
          go_wp2_with fail
          go_quiet (fail)
          go_wp2_with fail
          go_ret
          exact ⟨by rw [HN.out]; rfl, ⟨q + nq, by simp [World.drewN_drewN]⟩⟩
      · have HN : Hid (decide (xs = ys) = true) := by
          show _ = _
          rw [decide_eq_true_eq]
          exact getD_ext HL.out fun j hj => HE.out j (by omega)
        clear HE
        go_wp2_with fail
        go_ret
        exact ⟨by rw [HN.out]; rfl, ⟨q, rfl⟩⟩
  · have hl2 : ((xs.length : Int) != (ys.length : Int)) = true := by simp; omega
    have HN : Hid (decide (xs = ys) = false) := by
      show _ = _
      rw [decide_eq_false_iff_not]
      intro e; exact hl (by rw [e])
    clear hl
    go_enter Tryd.func32, Tryd.ntmps32
    go_wp2_with fail
    go_ret
    exact ⟨by rw [HN.out]; rfl, ⟨0, rfl⟩⟩

theorem lineF_small {gs : List (List Ty)} {a : Int} : (lineF gs a).length ≤ 9 := by
  unfold lineF
  split
  · rename_i h
    simp only [Bool.and_eq_true] at h
    have := (kinOk_parts h.2).2.1
    rw [List.length_reverse]
    have := lineUp_len gs a (kinCount gs + 1)
    omega
  · simp
theorem GS.implLine {w0 w : World} {ga gc : Nat} {gs : List (List Ty)} (h : GS w0 w ga gc gs) {a : Int} {xs : List Int} (hv : lineF gs a = xs) :
    Calls Tryd.prog 31 #[.slice (some ⟨ga, 0, none⟩) gs.length gc, .int .i64 a] w fun e w' => ∃ ad cap, e = .returned (.slice ad xs.length cap) ∧ xs.length ≤ 9 ∧ IntsAt w' ad xs ∧ Below w.heap.size w w' ∧ GS w0 w' ga gc gs := by
  obtain ⟨hi, h1, h2, h3⟩ := h.mem
  subst hv
  exact (implKinLine_any (some ⟨ga, 0, none⟩) gc _ hi gs a w h.few h1 h2 h3 h.pow).mono fun e w' ⟨ad, cap, q1, q2, q3⟩ => ⟨ad, cap, q1, lineF_small, q2.at, q3, h.keep q3⟩
theorem GS.implLineC {w0 w : World} {ga gc : Nat} {gs : List (List Ty)} (h : GS w0 w ga gc gs) {a : Int} {xs : List Int} (hv : lineF gs a = xs) :
    Calls Tryd.prog 31 #[.slice (some ⟨ga, 0, none⟩) gs.length gc, .int .i64 a] w fun e w' => ∃ ad cap, e = .returned (.slice ad xs.length cap) ∧ xs.length ≤ 9 ∧ xs.length ≤ cap ∧ IntsAt w' ad xs ∧ Below w.heap.size w w' := by
  obtain ⟨hi, h1, h2, h3⟩ := h.mem
  subst hv
  exact (implKinLine_cap (some ⟨ga, 0, none⟩) gc _ hi gs a w h.few h1 h2 h3 h.pow).mono fun e w' ⟨ad, cap, q1, q0, q2, q3⟩ => ⟨ad, cap, q1, lineF_small, q0, q2.at, q3⟩
end Go.Proofs.YtfnipbnchkonoaaDoor
