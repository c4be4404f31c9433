/- bare and roots of the program. -/
import Derived.Test.YtbalfmlmgbmneaaRootsI
namespace Go.Proofs.Ytbalfmlmgbmneaa
open Go.ChangeShapes Go.WideShapes Go.ChangeAt Go.RowKit Go.Shelf Go.Deep
set_option linter.unusedVariables false

set_option maxHeartbeats 1000000 in
theorem bare_any (a0 : Option Addr) (c0 n0 : Nat) (a4 : Option Addr) (c4 n4 : Nat) (a5 : Option Addr) (c5 n5 : Nat) (a6 : Option Addr) (c6 n6 : Nat) (a7 : Option Addr) (c7 n7 : Nat) (o1 o2 o3 o8 o9 o10 : Int) (w : World) :
    Calls Try.prog 21 #[.agg #[.slice a0 n0 c0, .int .i64 o1, .int .i64 o2, .int .i64 o3, .slice a4 n4 c4, .slice a5 n5 c5, .slice a6 n6 c6, .slice a7 n7 c7, .int .i64 o8, .int .i64 o9, .int .i64 o10]] w fun e w' =>
      e = .returned (.agg #[.slice none 0 0, .slice a5 n5 c5, .slice a6 n6 c6, .slice a7 n7 c7, .int .i64 o8, .int .i64 o9]) ∧ Below w.heap.size w w' := by
  go_enter Try.func21, Try.ntmps21
  go_wp2_with fail
  refine bodyPost_ret (v := .agg #[.slice none 0 0, .slice a5 n5 c5, .slice a6 n6 c6, .slice a7 n7 c7, .int .i64 o8, .int .i64 o9]) (by simp [results, Try.results21, go_sem]) rfl ⟨rfl, ?_⟩
  repeat (first | exact Below.refl _ _ | refine Below.alloc ?_ (by simp <;> omega) _ | refine Below.setCell ?_ (by simp <;> omega) _)

/-- The list at a place: what all share, and each frame's two. -/
def listAt (g : List GVal) (fs : List GFrame) (i : Nat) : List GVal := if i = 0 then g else if i % 2 = 1 then (frameAt' fs ((i - 1) / 2)).locals else (frameAt' fs ((i - 1) / 2)).stack
theorem listAt_zero (g : List GVal) (fs : List GFrame) : listAt g fs 0 = g := rfl
theorem listAt_loc (g : List GVal) (fs : List GFrame) (k : Nat) : listAt g fs (2 * k + 1) = (frameAt' fs k).locals := by
  unfold listAt; rw [if_neg (by omega), if_pos (by omega), show (2 * k + 1 - 1) / 2 = k by omega]
theorem listAt_stk (g : List GVal) (fs : List GFrame) (k : Nat) : listAt g fs (2 * k + 2) = (frameAt' fs k).stack := by
  unfold listAt; rw [if_neg (by omega), if_neg (by omega), show (2 * k + 2 - 1) / 2 = k by omega]
/-- The headers hs are those of the lists. -/
def HeadsOf (w : World) (lo hi : Nat) (g : List GVal) (fs : List GFrame) (hs : List Value) : Prop := ∀ i, i < hs.length → ∃ a c, hs[i]? = some (.slice a (listAt g fs i).length c) ∧ ValsM false w lo hi a (listAt g fs i)
theorem HeadsOf.snoc {w : World} {lo hi : Nat} {g : List GVal} {fs : List GFrame} {hs : List Value} (h : HeadsOf w lo hi g fs hs) {k : Nat} (hl : hs.length = 2 * k + 1) {a2 a3 : Option Addr} {d2 d3 : Nat} (v2 : ValsM false w lo hi a2 (frameAt' fs k).locals) (v3 : ValsM false w lo hi a3 (frameAt' fs k).stack) :
    HeadsOf w lo hi g fs (hs ++ [.slice a2 (frameAt' fs k).locals.length d2, .slice a3 (frameAt' fs k).stack.length d3]) := by
  intro i hi
  simp at hi
  by_cases e : i < hs.length
  · obtain ⟨a, c, h1, h2⟩ := h i e
    exact ⟨a, c, by rw [List.getElem?_append_left e]; exact h1, h2⟩
  · have : i = 2 * k + 1 ∨ i = 2 * k + 2 := by omega
    rcases this with rfl | rfl
    · refine ⟨a2, d2, ?_, by rw [listAt_loc]; exact v2⟩
      rw [List.getElem?_append_right (by omega), hl, listAt_loc]; simp
    · refine ⟨a3, d3, ?_, by rw [listAt_stk]; exact v3⟩
      rw [List.getElem?_append_right (by omega), hl, listAt_stk, show 2 * k + 2 - (2 * k + 1) = 1 by omega]; rfl
theorem HeadsOf.one {w : World} {lo hi : Nat} {g : List GVal} {fs : List GFrame} {a : Option Addr} {c : Nat} (h : ValsM false w lo hi a g) : HeadsOf w lo hi g fs [.slice a g.length c] := by
  intro i hi
  have : i = 0 := by simp at hi; omega
  subst this
  exact ⟨a, c, rfl, h⟩
theorem infoVals : (Try.prog.info? 30).map (fun i => (i.zero, i.size, i.bytes)) = some (some (.slice none 0 0), 1, 24) := by kernel_rfl

set_option maxHeartbeats 400000 in
theorem rootsIn_any (a : Option Addr) (n c : Nat) (w : World) : Calls Try.prog 34 #[.slice a n c] w fun e w' => e = .returned (.func (.func 36) #[] #[.pointer (some ⟨w.heap.size, 0, none⟩)]) ∧ w' = w.alloc (.cells #[.slice a n c] 74) := by
  go_enter Try.func34, Try.ntmps34
  go_wp2_with fail
  go_ret
  exact ⟨rfl, rfl⟩

/-- What roots answers: the function's box, and the lists' headers in a row of their own. -/
def RootsPost (w : World) (lo hi : Nat) (g : List GVal) (fs : List GFrame) (e : Ending) (w' : World) : Prop :=
  ∃ (bb lb c : Nat) (hs : List Value), e = .returned (.func (.func 36) #[] #[.pointer (some ⟨bb, 0, none⟩)]) ∧ Rec w' bb 74 [.slice (some ⟨lb, 0, none⟩) (2 * fs.length + 1) c] ∧ hs.length = 2 * fs.length + 1 ∧ lb < w'.heap.size ∧ (∀ i u, hs[i]? = some u → w'.cell? ⟨lb, i, none⟩ = some u) ∧ HeadsOf w lo hi g fs hs ∧ Below w.heap.size w w'

set_option maxHeartbeats 4000000 in
set_option maxRecDepth 100000 in
theorem roots_any {md : Bool} (a1 : Option Addr) (c1 : Nat) (a2 : Option Addr) (c2 : Nat) (a3 : Option Addr) (n3 c3 : Nat) (lo hi : Nat) (g : List GVal) (fs : List GFrame) (o4 o5 : Int) (w : World) (hfn : fs.length ≤ 1048576) (g1 : ValsM md w lo hi a1 g) (g2 : FramesM md w lo hi a2 fs) (hh : hi ≤ w.heap.size) :
    Calls Try.prog 22 #[.agg #[.slice none 0 0, .slice a1 g.length c1, .slice a2 fs.length c2, .slice a3 n3 c3, .int .i64 o4, .int .i64 o5]] w (RootsPost w lo hi g fs) := by
  obtain ⟨i1, hi1, hz1, hs1, hb1⟩ := info_parts infoVals
  have HI1 := hide hi1
  have HZ1 := hide hz1
  have HS1 := hide hs1
  have HB1 := hide hb1
  have G1 := hide g1.plain
  have G2 := hide g2.plain
  clear hi1 hz1 hs1 hb1 g1 g2
  have B2 : Hid (Below w.heap.size w ((w.alloc (.cells #[.slice none 0 0, .slice a1 g.length c1, .slice a2 fs.length c2, .slice a3 n3 c3, .int .i64 o4, .int .i64 o5] 56)).alloc (.cells #[.slice a1 g.length c1] 30))) := ((Below.refl _ _).alloc (Nat.le_refl _) _).alloc (by simp) _
  have R2 : Hid (Rec ((w.alloc (.cells #[.slice none 0 0, .slice a1 g.length c1, .slice a2 fs.length c2, .slice a3 n3 c3, .int .i64 o4, .int .i64 o5] 56)).alloc (.cells #[.slice a1 g.length c1] 30)) w.heap.size 56 [.slice none 0 0, .slice a1 g.length c1, .slice a2 fs.length c2, .slice a3 n3 c3, .int .i64 o4, .int .i64 o5]) := (Rec.new _ _ _).alloc _
  have O2 : Hid (((w.alloc (.cells #[.slice none 0 0, .slice a1 g.length c1, .slice a2 fs.length c2, .slice a3 n3 c3, .int .i64 o4, .int .i64 o5] 56)).alloc (.cells #[.slice a1 g.length c1] 30)).ownsRow (w.heap.size + 1) 30 1 (.slice (some ⟨w.heap.size + 1, 0, none⟩) 1 1) 1 [.slice a1 g.length c1]) :=
    ⟨by simp, .inr ⟨w.heap.size + 1, 1, #[.slice a1 g.length c1], rfl, Nat.le_refl _, by have := Deep.blk_alloc_new (w.alloc (.cells #[.slice none 0 0, .slice a1 g.length c1, .slice a2 fs.length c2, .slice a3 n3 c3, .int .i64 o4, .int .i64 o5] 56)) (.cells #[.slice a1 g.length c1] 30); simpa using this, Nat.le_refl _, by unfold maxLen; omega, by simp, by simp⟩⟩
  go_enter Try.func22, Try.ntmps22
  go_upto_region 2 with (fail)
  generalize (w.alloc (.cells #[.slice none 0 0, .slice a1 g.length c1, .slice a2 fs.length c2, .slice a3 n3 c3, .int .i64 o4, .int .i64 o5] 56)).alloc (.cells #[.slice a1 g.length c1] 30) = w2 at *
  have m2 := R2.out.cell (o := 2) rfl
  have z2 : w.heap.size < w2.heap.size := R2.out.lt
  go_wp2_with fail
  go_loopw [3, 12] (fun v i wr => ∃ (k lb c : Nat) (hs : List Value), k ≤ fs.length ∧ i = .int .i64 (k : Int) ∧ v = .slice (some ⟨lb, 0, none⟩) (2 * k + 1) c ∧ Hid (hs.length = 2 * k + 1) ∧ Hid (wr.ownsRow (w.heap.size + 1) 30 1 (.slice (some ⟨lb, 0, none⟩) (2 * k + 1) c) (2 * k + 1) hs) ∧ Hid (HeadsOf w lo hi g fs hs) ∧ Hid (Below w.heap.size w wr) ∧ Hid (w2.heap.size ≤ wr.heap.size)) (fun v i wr => fs.length - (intOf i).toNat)
  case atStart => exact ⟨0, w.heap.size + 1, 1, [.slice a1 g.length c1], Nat.zero_le _, rfl, rfl, (rfl : [Value.slice a1 g.length c1].length = 2 * 0 + 1), O2, HeadsOf.one G1.out, B2, Nat.le_refl _⟩
  case round =>
    obtain ⟨k, lb, c, hs, hk, rfl, rfl, HL, HO, HH, HB, HZ⟩ := hrel
    by_cases hlt : k < fs.length
    · rcases G2.out with hnil | ⟨b, off, rfl, l1, l2, _, h3⟩
      · exfalso; rw [hnil] at hlt; exact absurd hlt (Nat.not_lt_zero _)
      obtain ⟨f2, d2, f3, d3, e0, e1, e2, e3, v2, v3⟩ := h3 k hlt
      have bw : b < w.heap.size := Nat.lt_of_lt_of_le l2 hh
      have q0 := (HB.out.cell (p := ⟨b, off + k * 4, none⟩) bw).trans e0
      have q1 := (HB.out.cell (p := ⟨b, off + k * 4 + 1, none⟩) bw).trans e1
      have q2 := (HB.out.cell (p := ⟨b, off + k * 4 + 2, none⟩) bw).trans e2
      have q3 := (HB.out.cell (p := ⟨b, off + k * 4 + 3, none⟩) bw).trans e3
      have V2 := hide v2
      have V3 := hide v3
      have k1 : (0 : Int) ≤ (k : Int) := by omega
      have k2 : (k : Int) < (fs.length : Int) := by omega
      have zr : w.heap.size + 1 ≤ wr.heap.size := by have := HZ.out; omega
      clear h3 e0 e1 e2 e3 v2 v3
      go_wp2_with (at_builtin; refine wpList_append_lies _ rfl _ _ 74 rfl (w.heap.size + 1) 30 i1 _ 1 24 Try.underlying74 HI1.out HZ1.out HS1.out HB1.out rfl (by decide) _ (2 * k + 1) hs rfl ((HO.out.alloc _).alloc _) ⟨wr.heap.size + 1, 0, none⟩ 2 2 [.slice f2 (frameAt' fs k).locals.length d2, .slice f3 (frameAt' fs k).stack.length d3] rfl rfl (World.news_of_block (by have := Deep.blk_alloc_new (wr.alloc (.cells #[.int .i64 (frameAt' fs k).fn, .int .i64 (frameAt' fs k).pc, .slice f2 (frameAt' fs k).locals.length d2, .slice f3 (frameAt' fs k).stack.length d3] 47)) (.cells #[.slice f2 (frameAt' fs k).locals.length d2, .slice f3 (frameAt' fs k).stack.length d3] 30); simpa using this)) (by intro u hu; simp at hu; rcases hu with rfl | rfl <;> rfl) (by decide) (by unfold maxLen; omega) (by omega) (by simp; omega) _ rfl ?_; intro g6 cap6 w6 hown6 hgr6 hat6 hlt6)
      have B6 : Below w.heap.size w w6 := ((HB.out.alloc (by omega) _).alloc (by simp; omega) _).grown hgr6 (by simp; omega) (fun q hq => by have := owns_base HO.out q hq; omega)
      have z6 : w2.heap.size ≤ w6.heap.size := by
        have h1 := ((Below.refl 0 _).grown hgr6 (Nat.zero_le _) (fun _ _ => Nat.zero_le _)).size
        have h2 := HZ.out
        simp at h1
        omega
      exact ⟨⟨k + 1, g6, cap6, _, by omega, by go_num, by congr 1, (by show _ = _; simp [HL.out]; omega), hown6, HH.out.snoc HL.out V2.out V3.out, B6, z6⟩, by simp [intOf]; omega⟩
    · have hke : Hid (k = fs.length) := Nat.le_antisymm hk (Nat.le_of_not_lt hlt)
      go_wp2_with fail
      refine (rootsIn_any (some ⟨lb, 0, none⟩) (2 * k + 1) c wr).mono ?_
      rintro e w7 ⟨rfl, rfl⟩
      go_wp2_with fail
      go_ret
      rw [hke.out] at HL HO ⊢
      obtain ⟨hO1, hO2⟩ := HO.out
      rcases hO2 with ⟨e, _⟩ | ⟨g', cap', cur, e, hS, hg', h4, h5, h6, h7⟩
      · cases e
      · injection e with e1 e2 e3
        injection e1 with e1
        injection e1 with e1 _ _
        subst e1
        refine ⟨wr.heap.size, lb, c, hs, rfl, Rec.new _ _ _, HL.out, by have := (Array.getElem?_eq_some_iff.1 hg').1; simp; omega, fun i u hu => ?_, HH.out, HB.out.alloc HB.out.size _⟩
        have hlb := (Array.getElem?_eq_some_iff.1 hg').1
        have hi := (List.getElem?_eq_some_iff.1 hu).1
        rw [World.cell?_alloc_past _ _ _ (by show lb < _; exact hlb)]
        have hlen := HL.out
        rw [← h7] at hu
        rw [List.getElem?_take_of_lt (by omega)] at hu
        simp only [World.cell?, hg']
        simpa using hu
end Go.Proofs.Ytbalfmlmgbmneaa
