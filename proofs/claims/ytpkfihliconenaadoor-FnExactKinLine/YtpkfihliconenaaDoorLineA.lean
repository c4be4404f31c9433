/- KinLine of the model. -/
import Derived.Test.YtpkfihliconenaaDoorKinO0
import Derived.Deep.AppendLies
namespace Go.Proofs.YtpkfihliconenaaDoor
open Go.ChangeShapes Go.WideShapes Go.ChangeAt Go.RowKit Go.Joins
set_option linter.unusedVariables false

/-- Numbers, as they lie. -/
def ints (xs : List Int) : List Value := xs.map fun x => .int .i64 x
theorem ints_snoc (xs : List Int) (x : Int) : ints xs ++ [.int .i64 x] = ints (xs ++ [x]) := by simp [ints]
theorem ints_at (xs : List Int) (i : Nat) : (ints xs)[i]? = xs[i]?.map fun x => .int .i64 x := by simp [ints]

/-- A list of numbers of its own. -/
def IntRow (w : World) (base g cap : Nat) (xs : List Int) : Prop := w.ownsRow base 3 1 (.slice (some ⟨g, 0, none⟩) xs.length cap) xs.length (ints xs)
theorem IntRow.lt {w : World} {base g cap : Nat} {xs : List Int} (h : IntRow w base g cap xs) : base ≤ g ∧ g < w.heap.size := by
  rcases h.2 with ⟨e, _⟩ | ⟨g', cap', cur, e, hb, hg, _⟩
  · cases e
  · cases e
    exact ⟨hb, (Array.getElem?_eq_some_iff.1 hg).1⟩
theorem IntRow.below {w w' : World} {base g cap : Nat} {xs : List Int} (h : IntRow w base g cap xs) (hb : Below w.heap.size w w') : IntRow w' base g cap xs := by
  refine ⟨h.1, ?_⟩
  rcases h.2 with ⟨e, h2⟩ | ⟨g', cap', cur, e, h3, hg, h4⟩
  · exact .inl ⟨e, h2⟩
  · exact .inr ⟨g', cap', cur, e, h3, (hb.block g' (Array.getElem?_eq_some_iff.1 hg).1).trans hg, h4⟩
theorem IntRow.cell {w : World} {base g cap : Nat} {xs : List Int} (h : IntRow w base g cap xs) {i : Nat} (hi : i < xs.length) : w.cell? ⟨g, i, none⟩ = some (.int .i64 xs[i]) := by
  rcases owns_cells h with h0 | ⟨g', e, _, _, hc⟩
  · omega
  · cases e
    rw [hc i (by omega), ints_at]
    simp [hi]
theorem IntRow.new (w : World) (base : Nat) (hb : base ≤ w.heap.size) : IntRow (w.alloc (.cells #[] 3)) base w.heap.size 0 [] :=
  ⟨rfl, .inr ⟨w.heap.size, 0, #[], rfl, hb, Deep.blk_alloc_new _ _, Nat.le_refl _, Nat.zero_le _, rfl, rfl⟩⟩

theorem Tryd.infoInt : (Tryd.prog.info? 3).map (fun i => (i.zero, i.size, i.bytes)) = some (some (.int .i64 0), 1, 8) := by kernel_rfl

/-- A type's line upward, each by the first that is the same. -/
def lineUp (gs : List (List Ty)) (c : Int) (f : Nat) : List Int := (upL (fun i => (tyN gs i).up) (kinCount gs) f c).map fun x => (canon gs x.val : Int)
def lineF (gs : List (List Ty)) (a : Int) : List Int := if isTypeF gs a && kinOkF gs then (lineUp gs a (kinCount gs + 1)).reverse else []

theorem upL_len (U : Nat → Int) (n : Nat) : ∀ f a, (upL U n f a).length ≤ f
  | 0, _ => Nat.le_refl _
  | f + 1, a => by
    unfold upL
    split
    · have := upL_len U n f (U a.toNat)
      simp; omega
    · simp
theorem lineUp_len (gs : List (List Ty)) (c : Int) (f : Nat) : (lineUp gs c f).length ≤ f := by unfold lineUp; rw [List.length_map]; exact upL_len _ _ _ _
theorem lineUp_neg (gs : List (List Ty)) (c : Int) (f : Nat) (h : c < 0) : lineUp gs c f = [] := by
  unfold lineUp
  cases f with
  | zero => rfl
  | succ f => unfold upL; rw [dif_neg (by omega)]; rfl
theorem lineUp_succ (gs : List (List Ty)) (m f : Nat) (hm : m < kinCount gs) : lineUp gs (m : Int) (f + 1) = (canon gs m : Int) :: lineUp gs (tyN gs m).up f := by
  unfold lineUp
  rw [upL_succ _ _ _ _ hm]
  rfl
theorem drop_rev (L : List Int) (k : Nat) (hk : k < L.length) : (L.drop k).reverse = (L.drop (k + 1)).reverse ++ [L[k]] := by
  rw [List.drop_eq_getElem_cons hk, List.reverse_cons]

set_option maxHeartbeats 1600000 in
set_option maxRecDepth 100000 in
theorem l1Line_any (ga : Option Addr) (gc lo hi : Nat) (gs : List (List Ty)) (m : Nat) (w : World) (hP : Parts gs) (hN : Few gs) (hc : gs.length ≤ gc) (hm : m < kinCount gs) (hl : lo ≤ hi) (hh : hi ≤ w.heap.size) (hx : GroupsIn w lo hi ga gs) :
    Calls Tryd.prog 44 #[.slice ga gs.length gc, .int .i64 (m : Int)] w fun e w' => ∃ g cap, e = .returned (.slice (some ⟨g, 0, none⟩) ((lineUp gs m (kinCount gs + 1)).reverse).length cap) ∧ IntRow w' w.heap.size g cap (lineUp gs m (kinCount gs + 1)).reverse ∧ Below w.heap.size w w' := by
  have m8 := hP.2.1
  obtain ⟨i0, hi0, hzz⟩ := Option.map_eq_some_iff.1 Tryd.infoInt
  simp only [Prod.mk.injEq] at hzz
  obtain ⟨hz0, hs0, hb0⟩ := hzz
  have HZ := hide hz0
  have HS := hide hs0
  have HBy := hide hb0
  have HI := hide hi0
  have HLn : Hid ((lineUp gs m (kinCount gs + 1)).length ≤ 9) := Nat.le_trans (lineUp_len _ _ _) (by omega)
  have HFl := hide (l1Flat_any ga gc lo hi gs w hN hx hh hl)
  have HCn := hide (fun i (hi' : i < kinCount gs) w1 (hb : Below w.heap.size w w1) => l1Canon_any ga gc lo hi gs i w1 hP hN hc hi' (Nat.le_trans hh hb.size) (hx.keep (hb.mono hh)))
  have HPf := hide (fun i (hi' : i < kinCount gs) => (parts_flat hP hi').2.1)
  obtain ⟨L, hL⟩ : ∃ L, lineUp gs m (kinCount gs + 1) = L := ⟨_, rfl⟩
  rw [hL] at HLn ⊢
  have HL := hide hL
  clear hz0 hs0 hb0 hi0 hP hN hx hL
  go_enter Tryd.func44, Tryd.ntmps44
  go_wp2_with fail
  refine HFl.out.mono ?_
  rintro e w1 ⟨na, nc, rfl, hT, hb1⟩
  have s1 := hb1.size
  have B1 := hide hb1
  have HT := hide hT
  clear hb1 hT HFl
  go_wp2_with fail
  go_loopw [1, 6] (fun v u wr => ∃ (pre : List Int) (c : Int) (f g cap : Nat), v = .int .i64 c ∧ u = .slice (some ⟨g, 0, none⟩) pre.length cap ∧ -1 ≤ c ∧ c < (kinCount gs : Int) ∧ c < (f : Int) ∧ Hid (L = pre ++ lineUp gs c f) ∧ Hid (IntRow wr w1.heap.size g cap pre) ∧ Hid (Below w1.heap.size w1 wr)) (fun v u wr => (intOf v + 1).toNat)
  case atStart =>
    exact ⟨[], (m : Int), kinCount gs + 1, w1.heap.size, 0, rfl, rfl, by omega, by omega, by omega, HL.out.symm, IntRow.new _ _ (Nat.le_refl _), (Below.refl _ _).alloc (Nat.le_refl _) _⟩
  case round =>
    obtain ⟨pre, c, f, g, cap, rfl, rfl, c1, c2, c3, HX, HR, HB⟩ := hrel
    have sz := HB.out.size
    have hpl : pre.length ≤ 9 := by have := congrArg List.length HX.out; have := HLn.out; simp at *; omega
    by_cases hc0 : c < 0
    · have HE : Hid (L = pre) := by show _ = _; rw [HX.out, lineUp_neg _ _ _ hc0]; simp
      clear HX
      obtain ⟨N, hNl⟩ : ∃ N, pre.length = N := ⟨_, rfl⟩
      have HNl := hide hNl
      have n9 : (N : Int) ≤ 9 := by omega
      have n0 : (0 : Int) ≤ (N : Int) := by omega
      rw [hNl]
      clear hNl hpl
      rename World => W2
      go_wp2_with fail
      go_loopw [7, 8] (fun o i wr => ∃ (j g2 cap2 : Nat), i = .int .i64 ((j : Int) - 1) ∧ j ≤ N ∧ o = .slice (some ⟨g2, 0, none⟩) ((pre.drop j).reverse).length cap2 ∧ Hid (IntRow wr W2.heap.size g2 cap2 (pre.drop j).reverse) ∧ Hid (Below W2.heap.size W2 wr)) (fun o i wr => (intOf i + 1).toNat)
      case atStart =>
        refine ⟨N, W2.heap.size, 0, rfl, Nat.le_refl _, ?_, ?_, (Below.refl _ _).alloc (Nat.le_refl _) _⟩
        · rw [List.drop_eq_nil_of_le (by have := HNl.out; omega)]; rfl
        · show IntRow _ _ _ _ _
          rw [List.drop_eq_nil_of_le (by have := HNl.out; omega)]
          exact IntRow.new _ _ (Nat.le_refl _)
      case round =>
        obtain ⟨j, g2, cap2, rfl, hj, rfl, HR2, HB2⟩ := hrel
        have sz2 := HB2.out.size
        cases j with
        | zero =>
          have HQ : Hid (pre.drop 0 = L) := by show _ = _; rw [HE.out]; rfl
          go_wp2_with fail
          go_ret
          rw [← HQ.out]
          refine ⟨g2, cap2, rfl, ?_, ?_⟩
          · refine ⟨HR2.out.1, ?_⟩
            rcases HR2.out.2 with ⟨e, _⟩ | ⟨g', cap', cur, e, h3, h4⟩
            · cases e
            · exact .inr ⟨g', cap', cur, e, by omega, h4⟩
          · exact B1.out.trans ((HB.out.trans (HB2.out.mono sz)).mono s1)
        | succ k =>
          have hk : k < pre.length := by have := HNl.out; omega
          have k1 : (0 : Int) ≤ (k : Int) := by omega
          have k2 : (k : Int) < (N : Int) := by omega
          have HD := hide (drop_rev pre k hk)
          have hcell : wr.cell? ⟨g, k, none⟩ = some (.int .i64 pre[k]) := (HB2.out.cell (p := ⟨g, k, none⟩) HR.out.lt.2).trans (HR.out.cell hk)
          have hi1 : ((k + 1 : Nat) : Int) - 1 = (k : Int) := by omega
          have hd9 : ((pre.drop (k + 1)).reverse).length ≤ 9 := by have := HNl.out; simp; omega
          generalize pre[k] = x at HD hcell
          rw [hi1]
          go_wp2_with (first | (at_builtin; refine wpList_append_lies _ rfl _ _ 33 rfl W2.heap.size 3 i0 _ 1 8 Tryd.underlying33 HI.out HZ.out HS.out HBy.out rfl (by decide) _ ((pre.drop (k + 1)).reverse).length (ints (pre.drop (k + 1)).reverse) rfl (HR2.out.alloc _) ⟨wr.heap.size, 0, none⟩ 1 1 [.int .i64 x] rfl rfl ?c1 ?c2 (by decide) ?c3 ?c4 ?c5 _ rfl ?_))
          case c1 => exact World.news_of_block (Deep.blk_alloc_new _ _)
          case c2 => intro u hu; simp at hu; subst hu; rfl
          case c3 => unfold maxLen; omega
          case c4 => omega
          case c5 => simp; omega
          intro g3 cap3 w3 hown hgr hat hlt3
          have HB3 : Hid (Below W2.heap.size W2 w3) := (HB2.out.alloc sz2 _).grown hgr (by simp; omega) (fun q hq => by simp [Value.ownBlock] at hq; have := HR2.out.lt; omega)
          have HR3 : Hid (IntRow w3 W2.heap.size g3 cap3 (pre.drop k).reverse) := by
            show IntRow _ _ _ _ _
            unfold IntRow
            rw [HD.out, ← ints_snoc]
            simpa using hown
          have HLe : Hid (((pre.drop k).reverse).length = ((pre.drop (k + 1)).reverse).length + 1) := by show _ = _; rw [HD.out]; simp
          clear hgr hat hown
          go_wp2_with fail
          refine ⟨⟨k, g3, cap3, by go_num, by omega, by rw [HLe.out]; simp, HR3, HB3⟩, by simp [intOf] <;> omega⟩
    · obtain ⟨p, rfl⟩ := Int.eq_ofNat_of_zero_le (show 0 ≤ c by omega)
      have hp : p < kinCount gs := by omega
      obtain ⟨f', rfl⟩ : ∃ f', f = f' + 1 := ⟨f - 1, by omega⟩
      have HX2 : Hid (L = (pre ++ [(canon gs p : Int)]) ++ lineUp gs (tyN gs p).up f') := by show _ = _; rw [HX.out, lineUp_succ _ _ _ hp]; simp
      obtain ⟨u1, u2⟩ := HPf.out p hp
      have hcn := canon_le gs p
      clear HX
      go_wp2_with fail
      refine (HCn.out p hp _ (B1.out.trans (HB.out.mono s1))).mono ?_
      rintro e w2 ⟨rfl, hb2⟩
      have HB2 := hide (HB.out.trans (hb2.mono sz))
      have HR2 := hide (HR.out.below hb2)
      have sz2 := HB2.out.size
      clear hb2 HB HR
      rcases HT.out with hnil | ⟨b, off, rfl, g1, g2, g3⟩
      · have := flat_length gs
        rw [hnil] at this
        simp at this
        omega
      obtain ⟨e0, e1, _⟩ := g3 p (by rw [flat_length]; exact hp)
      have HE1 : Hid (w1.cell? ⟨b, off + p * 4 + 1, none⟩ = some (.int .i64 (tyN gs p).up)) := e1
      clear g3 e0 e1
      generalize (canon gs p : Int) = cn at HX2 ⊢
      go_wp2_with (first | (at_builtin; refine wpList_append_lies _ rfl _ _ 33 rfl w1.heap.size 3 i0 _ 1 8 Tryd.underlying33 HI.out HZ.out HS.out HBy.out rfl (by decide) _ pre.length (ints pre) rfl (HR2.out.alloc _) ⟨w2.heap.size, 0, none⟩ 1 1 [.int .i64 cn] rfl rfl ?c1 ?c2 (by decide) ?c3 ?c4 ?c5 _ rfl ?_))
      case c1 => exact World.news_of_block (Deep.blk_alloc_new _ _)
      case c2 => intro u hu; simp at hu; subst hu; rfl
      case c3 => unfold maxLen; omega
      case c4 => omega
      case c5 => simp; omega
      intro g5 cap5 w3 hown hgr hat hlt3
      have HB3 : Hid (Below w1.heap.size w1 w3) := (HB2.out.alloc sz2 _).grown hgr (by simp; omega) (owns_base HR2.out)
      have HR3 : Hid (IntRow w3 w1.heap.size g5 cap5 (pre ++ [cn])) := by
        show IntRow _ _ _ _ _
        unfold IntRow
        rw [← ints_snoc]
        simpa using hown
      have e1 := (HB3.out.cell (p := ⟨b, off + p * 4 + 1, none⟩) g2).trans HE1.out
      have p1 : (0 : Int) ≤ (p : Int) := by omega
      have p2 : (p : Int) < (kinCount gs : Int) := by omega
      clear hgr hat hown
      go_wp2_with fail
      refine ⟨⟨pre ++ [cn], (tyN gs p).up, f', g5, cap5, rfl, by simp, u1, by omega, by omega, HX2, HR3, HB3⟩, by simp [intOf]; omega⟩

set_option maxHeartbeats 1600000 in
theorem specKinLine_any (ga : Option Addr) (gc lo hi : Nat) (gs : List (List Ty)) (a : Int) (w : World) (hN : Few gs) (hc : gs.length ≤ gc) (hl : lo ≤ hi) (hh : hi ≤ w.heap.size) (hx : GroupsIn w lo hi ga gs) :
    Calls Tryd.prog 20 #[.slice ga gs.length gc, .int .i64 a] w fun e w' => ∃ g cap, e = .returned (.slice (some ⟨g, 0, none⟩) (lineF gs a).length cap) ∧ IntRow w' w.heap.size g cap (lineF gs a) ∧ Below w.heap.size w w' := by
  have n2 := kinCount_le hN
  have HCnt := hide (specKinCount_any ga gc lo hi gs w hN hx)
  have HOk := hide (specKinOk_any ga gc lo hi gs w hN hc hl hh hx)
  have HLn := hide (fun (hP : Parts gs) (m : Nat) (hm : m < kinCount gs) w1 (hb : Below w.heap.size w w1) => l1Line_any ga gc lo hi gs m w1 hP hN hc hm hl (Nat.le_trans hh hb.size) (hx.keep (hb.mono hh)))
  clear hN hx
  by_cases h0 : a < 0
  · have d0 : decide (a < 0) = true := by simpa using h0
    have HZ : Hid (lineF gs a = []) := by
      show _ = _
      have : isTypeF gs a = false := by unfold isTypeF; simp; intro _; omega
      simp [lineF, this]
    go_enter Tryd.func20, Tryd.ntmps20
    go_wp2_with fail
    go_ret
    rw [HZ.out]
    exact ⟨_, _, rfl, IntRow.new _ _ (Nat.le_refl _), (Below.refl _ _).alloc (Nat.le_refl _) _⟩
  have d0 : decide (a < 0) = false := by simpa using h0
  obtain ⟨m, rfl⟩ := Int.eq_ofNat_of_zero_le (show 0 ≤ a by omega)
  by_cases h1 : m < kinCount gs
  · have d1 : decide ((kinCount gs : Int) ≤ (m : Int)) = false := by simp; omega
    have ht : isTypeF gs m = true := by unfold isTypeF; simp; omega
    cases hk : kinOkF gs with
    | false =>
      have HZ : Hid (lineF gs m = []) := by show _ = _; simp [lineF, hk]
      have HOf := HOk.out
      rw [hk] at HOf
      have HO := hide HOf
      clear HOf HOk hk ht
      go_enter Tryd.func20, Tryd.ntmps20
      go_wp2_with (first | (go_at_call 36; refine HCnt.out.mono ?_; rintro e w1 ⟨rfl, rfl⟩) | (go_at_call 10; refine HO.out.mono ?_; rintro e w1 ⟨rfl, hb1⟩))
      go_ret
      rw [HZ.out]
      exact ⟨_, _, rfl, IntRow.new _ _ hb1.size, hb1.alloc hb1.size _⟩
    | true =>
      have HZ : Hid (lineF gs m = (lineUp gs m (kinCount gs + 1)).reverse) := by show _ = _; simp [lineF, hk, ht]
      have HLm := hide (HLn.out (kinOk_parts hk) m h1)
      have HOf := HOk.out
      rw [hk] at HOf
      have HO := hide HOf
      clear HOf HOk hk ht HLn
      generalize (lineUp gs m (kinCount gs + 1)).reverse = K at HZ HLm
      go_enter Tryd.func20, Tryd.ntmps20
      go_wp2_with (first | (go_at_call 36; refine HCnt.out.mono ?_; rintro e w1 ⟨rfl, rfl⟩) | (go_at_call 10; refine HO.out.mono ?_; rintro e w1 ⟨rfl, hb1⟩))
      refine (HLm.out _ hb1).mono ?_
      rintro e w2 ⟨g, cap, rfl, hr, hb2⟩
      have B2 := hide (hb1.trans (hb2.mono hb1.size))
      have R2 := hide hr
      have s1 := hb1.size
      clear hr hb2 hb1
      go_wp2_with fail
      go_ret
      rw [HZ.out]
      refine ⟨g, cap, rfl, ⟨R2.out.1, ?_⟩, B2.out⟩
      rcases R2.out.2 with ⟨e, _⟩ | ⟨g', cap', cur, e, h3, h4⟩
      · cases e
      · exact .inr ⟨g', cap', cur, e, by omega, h4⟩
  · have d1 : decide ((kinCount gs : Int) ≤ (m : Int)) = true := by simp; omega
    have HZ : Hid (lineF gs m = []) := by
      show _ = _
      have : isTypeF gs m = false := by unfold isTypeF; simp; omega
      simp [lineF, this]
    go_enter Tryd.func20, Tryd.ntmps20
    go_wp2_with (go_at_call 36; refine HCnt.out.mono ?_; rintro e w1 ⟨rfl, rfl⟩)
    go_ret
    rw [HZ.out]
    exact ⟨_, _, rfl, IntRow.new _ _ (Nat.le_refl _), (Below.refl _ _).alloc (Nat.le_refl _) _⟩
end Go.Proofs.YtpkfihliconenaaDoor
