/- What stands in a thing: vals of the program. -/
import Derived.Test.YtembifoimiochaaGreatDoorHpQ2
import Derived.Test.YtembifoimiochaaGreatDoorPhGen
import Derived.Test.YtembifoimiochaaGreatDoorHpI4
import Derived.Test.YtembifoimiochaaGreatDoorHpS2
namespace Go.Proofs.YtembifoimiochaaGreatDoor
open Go.ChangeShapes Go.WideShapes Go.ChangeAt Go.RowKit Go.Deep
set_option linter.unusedVariables false
set_option linter.unusedSimpArgs false

def valsTo (f : Nat → Int × Int) : Nat → List GVal
 | 0 => []
 | k + 1 => valsTo f k ++ [⟨(f k).1, (f k).2⟩]
theorem valsTo_len (f : Nat → Int × Int) : ∀ k, (valsTo f k).length = k
 | 0 => rfl
 | k + 1 => by unfold valsTo; rw [List.length_append, valsTo_len f k]; rfl
theorem valsTo_at (f : Nat → Int × Int) {i : Nat} : ∀ k, i < k → valAt' (valsTo f k) i = ⟨(f i).1, (f i).2⟩
 | 0, h => by omega
 | k + 1, h => by
  unfold valsTo
  by_cases e : i = k
  ·subst e
   have := valAt_snoc_last (valsTo f i) ⟨(f i).1, (f i).2⟩
   rwa [valsTo_len] at this
  ·rw [valAt_snoc_left _ _ _ (by rw [valsTo_len]; omega)]
   exact valsTo_at f k (by omega)
theorem valOr_getD (x : Option (Int × Int)) : ∃ r, valOr x = .tuple #[.agg #[.int .i64 (x.getD (0, 0)).1, .int .i64 (x.getD (0, 0)).2], .bool r] := by
 cases x with
 | none => exact ⟨false, rfl⟩
 | some p => exact ⟨true, rfl⟩
theorem wpList_snoc_val {ops : Array Oper} {rest : List Oper} {o : Oper} {a : Act} {Q : Exit → Act → World → Prop} {w0 : World} (hgd : o.guard = none) (s x : Operand)
  (ho : o.op = .call { callee := .builtin .append, args := #[s, x], argTypes := #[35, 35] })
  (S : Nat) (sa : Option Addr) (cap : Nat) (vs : List GVal) (k n : Int) (hs : a.eval s = .slice sa vs.length cap) (hown : ValRow w0 S sa cap vs) (hx : a.eval x = .slice (some ⟨w0.heap.size, 0, none⟩) 1 1) (hn : vs.length ≤ 1000) (hS : S ≤ w0.heap.size)
  (h : ∀ g cap w', Hid (ValRow w' S (some ⟨g, 0, none⟩) cap (vs ++ [⟨k, n⟩])) → Hid (Below S w0 w') → wpList Tryz.prog ops Q rest (a.put o.dst (.slice (some ⟨g, 0, none⟩) (vs.length + 1) cap)) w') :
  wpList Tryz.prog ops Q (o :: rest) a (w0.alloc (.cells #[.int .i64 k, .int .i64 n] 49)) := by
 obtain ⟨i0, hi0, hzz⟩ := Option.map_eq_some_iff.1 infoVal
 simp only [Prod.mk.injEq] at hzz
 obtain ⟨hz0, hs0, hb0⟩ := hzz
 refine wpList_append_lies _ hgd s x 35 ho S 49 i0 _ 2 16 Tryz.underlying35 hi0 hz0 hs0 hb0 rfl (by decide) _ vs.length (vcells vs) hs (World.ownsRow.alloc hown _) ⟨w0.heap.size, 0, none⟩ 1 1 [.int .i64 k, .int .i64 n] hx rfl (World.news_of_block (Deep.blk_alloc_new _ _)) (by intro u hu; simp at hu; rcases hu with rfl | rfl <;> rfl) (by decide) (by unfold maxLen; omega) (by omega) (by simp; omega) _ rfl ?_
 intro g cap w' h1 h2 h3 h4
 exact h g cap w' (ValRow.of_snoc h1) (((Below.refl S w0).alloc hS _).grown h2 (by simp; omega) (owns_base hown))

set_option maxHeartbeats 3200000 in
set_option maxRecDepth 100000 in
theorem vals_any (a0 t : Int) (fa wa : Option Addr) (fc wc : Nat) (fs : List Fd) (X : List Int) (w : World) (hl : fs.length = X.length) (h6 : X.length ≤ 6) (hx : FieldsIn w 0 w.heap.size fa fs) (hX : IntsIn w 0 w.heap.size wa X) (hI : ∀ i, nAt X i ≤ 9223372036854775807) :
 Calls Tryz.prog 80 #[.agg #[.int .i64 a0, .int .i64 t, .slice fa fs.length fc, .slice wa X.length wc]] w fun e w' => (∃ a cap, e = .returned (.slice a X.length cap) ∧ ValRow w' w.heap.size a cap (valsTo (fun i => (wordVal (fdAt fs i).kind (nAt X i)).getD (0, 0)) X.length)) ∧ Below w.heap.size w w' := by
 have HWV := hide (fun (k o : Int) (m : Bool) (x : Int) (W : World) (hx : x ≤ 9223372036854775807) => implWordVal_any k o m x W hx)
 obtain ⟨f, hf⟩ : ∃ f, f = fun i => (wordVal (fdAt fs i).kind (nAt X i)).getD (0, 0) := ⟨_, rfl⟩
 rw [← hf]
 have HF : Hid (∀ i, f i = (wordVal (fdAt fs i).kind (nAt X i)).getD (0, 0)) := fun i => by rw [hf]
 clear hf
 have B1 := hide (two_b w (.cells #[.int .i64 a0, .int .i64 t, .slice fa fs.length fc, .slice wa X.length wc] 131))
 have R1 := hide (Rec.new w 131 [.int .i64 a0, .int .i64 t, .slice fa fs.length fc, .slice wa X.length wc])
 have HFI := hide (fun i (hi : i < fs.length) => fields_at hx hi)
 have HXI := hide (fun i (hi : i < X.length) => ints_at hX hi)
 have HN : Hid (ValRow (w.alloc (.cells #[.int .i64 a0, .int .i64 t, .slice fa fs.length fc, .slice wa X.length wc] 131)) (w.heap.size + 1) none 0 (valsTo f 0)) := ValRow.nil _ _
 have HS : Hid (∀ j, valsTo f (j + 1) = valsTo f j ++ [⟨(f j).1, (f j).2⟩]) := fun _ => rfl
 have HLn : Hid (∀ j, (valsTo f j).length = j) := valsTo_len f
 clear hx hX
 replace hl := hide hl
 have r3 := R1.out.cell (o := 3) rfl
 go_enter Tryz.func80, Tryz.ntmps80
 go_wp2_with fail
 go_loopw [3, 11] (fun v3 v11 wr => ∃ (j : Nat) (a : Option Addr) (cap : Nat), j ≤ X.length ∧ v11 = .int .i64 (j : Int) ∧ v3 = .slice a j cap ∧ Hid (ValRow wr (w.heap.size + 1) a cap (valsTo f j)) ∧ Hid (Below w.heap.size w wr) ∧ Hid (Rec wr w.heap.size 131 [.int .i64 a0, .int .i64 t, .slice fa fs.length fc, .slice wa X.length wc])) (fun v3 v11 wr => X.length - (intOf v11).toNat)
 case atStart => exact ⟨0, none, 0, Nat.zero_le _, rfl, rfl, HN, B1, R1⟩
 case round =>
  obtain ⟨j, a, cap, hj, rfl, rfl, HR, HB, HC⟩ := hrel
  clear HN B1 R1 r3
  by_cases hlt : j < X.length
  ·have q1 : (0 : Int) ≤ (j : Int) := by omega
   have q2 : (j : Int) < (X.length : Int) := by omega
   obtain ⟨xb, xo, rfl, _, x1, cx⟩ := HXI.out j hlt
   obtain ⟨fb, fo, rfl, _, f1, cf⟩ := HFI.out j (by rw [hl.out]; exact hlt)
   have q3 : (j : Int) < (fs.length : Int) := by rw [hl.out]; exact q2
   have hfx := HF.out j
   have hfl := HS.out j
   have hln := HLn.out j
   have hIj := hI j
   obtain ⟨d0, d1, d2⟩ := cf
   generalize nAt X j = x at *
   generalize fdAt fs j = fd at *
   obtain ⟨fk, fo', fm⟩ := fd
   simp only at hfx d0 d1 d2
   have cx1 := (HB.out.cell (p := ⟨xb, xo + j, none⟩) x1).trans cx
   have e0 := (HB.out.cell (p := ⟨fb, fo + j * 3, none⟩) f1).trans d0
   have e1 := (HB.out.cell (p := ⟨fb, fo + j * 3 + 1, none⟩) f1).trans d1
   have e2 := (HB.out.cell (p := ⟨fb, fo + j * 3 + 2, none⟩) f1).trans d2
   have c2 := HC.out.cell (o := 2) rfl
   have hsz := HB.out.size
   have HCW := hide (HWV.out fk fo' fm x wr hIj)
   obtain ⟨r, hr⟩ := valOr_getD (wordVal fk x)
   rw [hr, ← hfx] at HCW
   generalize f j = p at *
   obtain ⟨p1, p2⟩ := p
   simp only at HCW hfl
   have HNX := hide hfl
   have HLj := hide hln
   clear hfl hln hr hfx d0 d1 d2 cx hIj
   go_wp2_with (first | (go_at_call 106; refine HCW.out.mono ?_; rintro e w3 ⟨rfl, b3⟩; have B3 := hide (HB.out.trans (b3.mono hsz)); have R3 := hide (HR.out.below b3); have C3 := hide (HC.out.below b3 HC.out.lt); have R4 := hide (R3.out.below (two_b w3 (.cells #[.int .i64 p1, .int .i64 p2] 49))); have B4 := hide (B3.out.trans ((two_b w3 (.cells #[.int .i64 p1, .int .i64 p2] 49)).mono B3.out.size)); have C4 := hide (C3.out.below (two_b w3 (.cells #[.int .i64 p1, .int .i64 p2] 49)) C3.out.lt); clear b3) | (at_builtin; refine wpList_snoc_val rfl _ _ rfl (w.heap.size + 1) a cap (valsTo f j) p1 p2 (by rw [HLj.out]; rfl) R4.out (by first | rfl | (simp only [World.size_alloc]; rfl) | (simp; rfl) | simp) (by rw [HLj.out]; omega) (Nat.lt_of_lt_of_le C4.out.lt (Nat.le_refl _)) ?_))
   intro g6 cap6 w6 R5 B5
   have B6 := hide (B4.out.trans (B5.out.mono (Nat.le_succ _)))
   rw [← HNX.out] at R5
   have C6 := hide (C4.out.below B5.out (Nat.lt_succ_self _))
   rw [HLj.out]
   clear R3 R4 B3 B4 C3 C4 HC HB HR B5
   go_wp2_with fail
   exact ⟨⟨j + 1, some ⟨_, 0, none⟩, _, by omega, by go_num, rfl, R5, B6, C6⟩, by simp [intOf]; omega⟩
  ·have hjX : j = X.length := by omega
   subst hjX
   have q2 : ¬ (X.length : Int) < (X.length : Int) := by omega
   go_wp2_with fail
   go_ret
   exact ⟨⟨a, cap, rfl, owns_lower HR.out (Nat.le_succ _)⟩, HB.out⟩
end Go.Proofs.YtembifoimiochaaGreatDoor
