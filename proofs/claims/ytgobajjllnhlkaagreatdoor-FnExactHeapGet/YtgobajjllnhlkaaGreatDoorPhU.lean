/- PhU: HpS11, HpS12, HpG3. -/
import Derived.Test.YtgobajjllnhlkaaGreatDoorPhS
import Derived.Test.YtgobajjllnhlkaaGreatDoorHpV1
import Derived.Test.YtgobajjllnhlkaaGreatDoorRegionL
import Derived.Test.YtgobajjllnhlkaaGreatDoorPhG
namespace Go.Proofs.YtgobajjllnhlkaaGreatDoor
open Go.ChangeShapes Go.WideShapes Go.ChangeAt Go.RowKit Go.Deep
set_option linter.unusedVariables false
set_option linter.unusedSimpArgs false
theorem l7Val_some (k o : Int) (m : Bool) (x a b : Int) (w : World) (h : wordVal k x = some (a, b)) (hx : i64 x) :
 Calls Tryz.prog 94 #[.agg #[.int .i64 k, .int .i64 o, .bool m], .int .i64 x] w fun e w' => e = .returned (.agg #[.int .i64 a, .int .i64 b]) ∧ Below w.heap.size w w' := by
 unfold wordVal at h
 by_cases h0 : x < 0
 ·rw [if_pos h0] at h; cases h
 rw [if_neg h0] at h
 by_cases h1 : k = 1
 ·subst h1
  rw [if_pos rfl] at h
  split at h
  ·cases h; exact l7Val_num o m x w
  ·cases h
 rw [if_neg h1] at h
 refine (l7Val_ref k o m x w h1 hx.2 hx.1 (by omega)).mono ?_
 rintro e w' ⟨a', b', rfl, hl, hb⟩
 obtain ⟨ha, hb'⟩ := hl (by omega)
 refine ⟨?_, hb⟩
 split at h
 ·by_cases hz : x = 0
  ·rw [if_pos hz] at h ha hb'
   split at h
   ·cases h; rw [ha, hb']
   ·cases h
  ·rw [if_neg hz] at h ha hb'
   by_cases hd : x % 2 = 1
   ·rw [if_pos hd] at h ha hb'
    split at h
    ·cases h; rw [ha, hb']
    ·cases h
   ·rw [if_neg hd] at h ha hb'
    split at h
    ·cases h; rw [ha, hb']
    ·cases h
 ·cases h
/-- All that isn't values is kept. -/
def KeepV (A B : World) : Prop := A.heap.size ≤ B.heap.size ∧ ∀ (b : Nat) (T : TypeId) (vs : List Value), T ≠ 54 → Rec A b T vs → Rec B b T vs
/-- One value more, at a step of a region that draws its order. -/
theorem step_snoc_val {ops : Array Oper} {o : Oper} {a : Act} {K : Act → World → Prop} {Q : Exit → Act → World → Prop} {E : Prop} {w0 : World} (hgd : o.guard = none) (s x : Operand)
  (ho : o.op = .call { callee := .builtin .append, args := #[s, x], argTypes := #[41, 41] })
  (S : Nat) (sa : Option Addr) (cap : Nat) (vs : List GVal) (k n : Int) (hs : a.eval s = .slice sa vs.length cap) (hown : ValRow w0 S sa cap vs) (hx : a.eval x = .slice (some ⟨w0.heap.size, 0, none⟩) 1 1) (hn : vs.length ≤ 1000) (hS : S ≤ w0.heap.size)
  (h : ∀ g cap w', ValRow w' S (some ⟨g, 0, none⟩) cap (vs ++ [⟨k, n⟩]) → Below S w0 w' → KeepV w0 w' → K (a.put o.dst (.slice (some ⟨g, 0, none⟩) (vs.length + 1) cap)) w') :
  if Region.wanted o (yielded ops a.tmps) = true then Oper.wp Tryz.prog o a (w0.alloc (.cells #[.int .i64 k, .int .i64 n] 54)) K Q else E := by
 obtain ⟨i0, hi0, hzz⟩ := Option.map_eq_some_iff.1 infoVal
 simp only [Prod.mk.injEq] at hzz
 obtain ⟨hz0, hs0, hb0⟩ := hzz
 refine step_append_lies _ hgd s x 41 ho S 54 i0 _ 2 16 Tryz.underlying41 hi0 hz0 hs0 hb0 rfl (by decide) _ vs.length (vcells vs) hs (World.ownsRow.alloc hown _) ⟨w0.heap.size, 0, none⟩ 1 1 [.int .i64 k, .int .i64 n] hx rfl (World.news_of_block (Deep.blk_alloc_new _ _)) (by intro u hu; simp at hu; rcases hu with rfl | rfl <;> rfl) (by decide) (by unfold maxLen; omega) (by omega) (by simp; omega) _ rfl ?_
 intro g cap2 w' h1 h2 h3 h4
 refine h g cap2 w' (ValRow.of_snoc h1) (((Below.refl S w0).alloc hS _).grown h2 (by simp; omega) (owns_base hown)) ⟨?_, fun b T us hT hr => ?_⟩
 ·have := h2.size
  simp at this
  omega
 ·have hk := hr.lt
  have hr0 : w0.heap[b]? = some (.cells us.toArray T (0, 0)) := hr
  have hne : Value.ownBlock (.slice sa vs.length cap) ≠ some b := by
   rcases hown.2 with ⟨hv, _⟩ | ⟨g0, cap0, cur, hv, _, h7, _⟩
   ·rw [hv]; simp [Value.ownBlock]
   ·rw [hv]
    intro e
    simp [Value.ownBlock] at e
    subst e
    rw [hr0] at h7
    cases h7
    exact hT rfl
  exact ((h2.block b (by simp; omega) (fun e => hne e.symm)).trans (Below.heap_alloc _ _ _ hk)).trans hr0
theorem ValRow.new0 (w : World) (S : Nat) (hS : S ≤ w.heap.size) : ValRow (w.alloc (.cells #[] 54)) S (some ⟨w.heap.size, 0, none⟩) 0 [] :=
 ⟨rfl, .inr ⟨w.heap.size, 0, _, rfl, hS, Deep.blk_alloc_new _ _, Nat.le_refl _, by unfold maxLen; omega, rfl, rfl⟩⟩
theorem ValRow.allocV {w : World} {S cap : Nat} {a : Option Addr} {vs : List GVal} (h : ValRow w S a cap vs) (o : Obj) : ValRow (w.alloc o) S a cap vs := World.ownsRow.alloc h o
theorem valRow_set {A : World} {S b o cap : Nat} {a : Option Addr} {T : TypeId} {us : List Value} {u : Value} {vs : List GVal} (h : ValRow A S a cap vs) (hr : Rec A b T us) (hT : T ≠ 54) : ValRow (A.setCell ⟨b, o, none⟩ u) S a cap vs :=
 owns_of_block h fun k hk => Below.heap_setCell _ _ _ _ fun e => by
  have e' : k = b := e
  have hr0 : A.heap[b]? = some (.cells us.toArray T (0, 0)) := hr
  rcases h.2 with ⟨hv, _⟩ | ⟨g0, cap0, cur, hv, _, h7, _⟩
  ·rw [hv] at hk; simp [Value.ownBlock] at hk
  ·rw [hv] at hk
   simp [Value.ownBlock] at hk
   subst hk
   rw [e', hr0] at h7
   cases h7
   exact hT rfl
set_option maxHeartbeats 6400000 in
set_option maxRecDepth 20000 in
theorem l7Get_any (ta wa la : Option Addr) (tc wc lc lot hit lo2 hi2 : Nat) (gs : List (List Ty)) (h : GHeap) (a : Nat) (w : World) (hP : Parts gs) (hxt : TypesIn w lot hit ta (flat gs)) (hht : hit ≤ w.heap.size) (H : HIn w lo2 hi2 h wa la wc lc) (h0 : 0 ≤ lenF gs (nAt h.words a)) (hin : a + 1 + lenA gs h a ≤ h.words.length) (h160 : h.words.length ≤ 160) (hV : ∀ i, i < lenA gs h a → wordVal (fieldF (tyA gs h a) i).kind (nAt h.words (a + 1 + i)) ≠ none) :
 Calls Tryz.prog 58 #[.slice ta (kinCount gs) tc, heapV h wa la wc lc, .int .i64 (a : Int)] w fun e w' => ∃ va c, e = .returned (.agg #[.int .i64 (nAt h.words a / 16), .slice va (lenA gs h a) c]) ∧ ValRow w' w.heap.size va c (valsTo (valA gs h a) (lenA gs h a)) ∧ Below w.heap.size w w' := by
 obtain ⟨e1, e2, e3, e4, e5⟩ := lenF_pos h0
 obtain ⟨t, ht⟩ : ∃ t : Nat, nAt h.words a / 16 = (t : Int) := Int.eq_ofNat_of_zero_le (by omega)
 have htk : t < kinCount gs := by omega
 obtain ⟨tb, toff, fa, fc, rfl, tb1, tb2, c0, c1, c2, c3, hfx⟩ := types_at hxt htk
 obtain ⟨n, hn⟩ : ∃ n : Nat, n = lenA gs h a := ⟨_, rfl⟩
 have hn' : nAt h.words a % 16 = (n : Int) := by rw [hn]; unfold lenA; omega
 have hty : tyA gs h a = tyN gs t := by unfold tyA; rw [ht, Int.toNat_natCast]
 have HFD := hide (fun (W : World) (hb : Below w.heap.size w W) (i : Nat) (hj : i < n) => tyField_any gs hP (nAt h.words a) h0 i t (by rw [hn', Int.toNat_natCast]; exact hj) ht fa fc lot hit W (hfx.keep (hb.mono hht)) (Nat.le_trans hht hb.size))
 have HLV := hide (fun (W : World) (i : Nat) (k o : Int) (m : Bool) (p q : Int) (e : wordVal k (nAt h.words (a + 1 + i)) = some (p, q)) => l7Val_some k o m (nAt h.words (a + 1 + i)) p q W e (H.wb _))
 have HVA : Hid (∀ i, i < n → wordVal (fieldF (tyN gs t) i).kind (nAt h.words (a + 1 + i)) = some (valA gs h a i)) := fun i hi => by
  have := hV i (by omega)
  rw [hty] at this
  cases e : wordVal (fieldF (tyN gs t) i).kind (nAt h.words (a + 1 + i)) with
  | none => exact absurd e this
  | some p => rw [valA_some (by rw [hty]; exact e)]
 have hwh := H.hh
 have x0 : 0 ≤ nAt h.words a := e2
 have x1 : nAt h.words a ≤ 9223372036854775807 := (H.wb a).2
 obtain ⟨b, off, rfl, b1, b2, ca⟩ := ints_at H.ws (i := a) (by omega)
 have HWC : Hid (∀ (W : World), Below w.heap.size w W → ∀ q, q < h.words.length → W.cell? ⟨b, off + q, none⟩ = some (.int .i64 (nAt h.words q))) := fun W hb q hq => by
  rcases (H.keep (hb.mono H.hh)).ws with h1 | ⟨b', off', e, h1, h2, h3⟩
  ·rw [h1] at hq; exact absurd hq (Nat.not_lt_zero _)
  ·cases e; exact h3 q hq
 have hin2 : a + 1 + n ≤ h.words.length := by omega
 have hal : a < h.words.length := by omega
 have HCA : Hid (∀ (W : World), Below w.heap.size w W → W.cell? ⟨b, off + a, none⟩ = some (.int .i64 (nAt h.words a))) := fun W hb => HWC.out W hb a hal
 have hn6 : n ≤ 6 := by omega
 have HVS : Hid (∀ j, valsTo (valA gs h a) (j + 1) = valsTo (valA gs h a) j ++ [⟨(valA gs h a j).1, (valA gs h a j).2⟩]) := fun _ => rfl
 have HVL : Hid (∀ j, (valsTo (valA gs h a) j).length = j) := valsTo_len _
 have HV0 : Hid (valsTo (valA gs h a) 0 = []) := rfl
 rw [← hn]
 clear hP H hxt hfx hin e1 e2 e3 e4 e5 h0 hty hn hV
 unfold heapV tyV at *
 generalize tyN gs t = TY at *
 obtain ⟨ty0, ty1, ty2, tyf⟩ := TY
 simp only at c0 c1 c2 c3
 obtain ⟨X, hX⟩ : ∃ X, X = nAt h.words a := ⟨_, rfl⟩
 rw [← hX] at ca x0 x1 ht hn' HCA ⊢
 clear hX
 rw [ht]
 generalize valsTo (valA gs h a) = VS at *
 generalize valA gs h a = VA at *
 have hbl : b < w.heap.size := by omega
 have htl : tb < w.heap.size := by omega
 have hbl1 : b < w.heap.size + 1 := by omega
 have hbl2 : b < w.heap.size + 1 + 1 := by omega
 have hbl3 : b < w.heap.size + 1 + 1 + 1 := by omega
 have hbl4 : b < w.heap.size + 1 + 1 + 1 + 1 := by omega
 have htl1 : tb < w.heap.size + 1 := by omega
 have htl2 : tb < w.heap.size + 1 + 1 := by omega
 have htl3 : tb < w.heap.size + 1 + 1 + 1 := by omega
 have htl4 : tb < w.heap.size + 1 + 1 + 1 + 1 := by omega
 have q0 : (0 : Int) ≤ (a : Int) := by omega
 have q1 : (a : Int) < (h.words.length : Int) := by omega
 have q2 : (0 : Int) ≤ (t : Int) := by omega
 have q3 : (t : Int) < (kinCount gs : Int) := by omega
 have ht2 : IntKind.i64.wrap (X.tdiv 16) = (t : Int) := by rw [Int.tdiv_eq_ediv_of_nonneg x0, ht]; exact wrapIh (by omega) (by omega)
 have hm : IntKind.i64.wrap (X.tmod 16) = (n : Int) := by rw [Int.tmod_eq_emod_of_nonneg x0, hn']; exact wrapIh (by omega) (by omega)
 obtain ⟨W5, hW5⟩ : ∃ W5, W5 = ((((w.alloc (.cells #[.slice (some ⟨b, off, none⟩) h.words.length wc, .int .i64 h.old, .int .i64 h.oldAt, .int .i64 h.youngAt, .slice la h.log.length lc] 31)).alloc (.cells #[.int .i64 0, .slice none 0 0] 43)).alloc (.cells #[] 54)).alloc (.cells #[.int .i64 (t : Int), .slice (some ⟨w.heap.size + 1 + 1, 0, none⟩) 0 0] 43)).alloc (.cells #[.int .i64 ty0, .int .i64 ty1, .bool ty2, .slice fa tyf.length fc] 119) := ⟨_, rfl⟩
 have B5 : Hid (Below w.heap.size w W5) := by show Below _ _ _; rw [hW5]; exact (((((Below.refl _ _).alloc (Nat.le_refl _) _).alloc (by simp) _).alloc (by simp; omega) _).alloc (by simp; omega) _).alloc (by simp; omega) _
 have P5 : Hid (Rec W5 w.heap.size 31 [.slice (some ⟨b, off, none⟩) h.words.length wc, .int .i64 h.old, .int .i64 h.oldAt, .int .i64 h.youngAt, .slice la h.log.length lc]) := by show Rec _ _ _ _; rw [hW5]; exact ((((Rec.new _ _ _).alloc _).alloc _).alloc _).alloc _
 have R5 : Hid (Rec W5 (w.heap.size + 1) 43 [.int .i64 0, .slice none 0 0]) := by show Rec _ _ _ _; rw [hW5]; exact (((Rec.new' _ _ _ _ (by simp)).alloc _).alloc _).alloc _
 have O5 : Hid (Rec W5 (w.heap.size + 1 + 1 + 1) 43 [.int .i64 (t : Int), .slice (some ⟨w.heap.size + 1 + 1, 0, none⟩) 0 0]) := by show Rec _ _ _ _; rw [hW5]; exact (Rec.new' _ _ _ _ (by simp)).alloc _
 have D5 : Hid (Rec W5 (w.heap.size + 1 + 1 + 1 + 1) 119 [.int .i64 ty0, .int .i64 ty1, .bool ty2, .slice fa tyf.length fc]) := by show Rec _ _ _ _; rw [hW5]; exact Rec.new' _ _ _ _ (by simp)
 have V5 : Hid (ValRow W5 (w.heap.size + 1 + 1) (some ⟨w.heap.size + 1 + 1, 0, none⟩) 0 []) := by
  show ValRow _ _ _ _ _
  rw [hW5]
  have hz : ((w.alloc (.cells #[.slice (some ⟨b, off, none⟩) h.words.length wc, .int .i64 h.old, .int .i64 h.oldAt, .int .i64 h.youngAt, .slice la h.log.length lc] 31)).alloc (.cells #[.int .i64 0, .slice none 0 0] 43)).heap.size = w.heap.size + 1 + 1 := by simp
  have := ValRow.new0 ((w.alloc (.cells #[.slice (some ⟨b, off, none⟩) h.words.length wc, .int .i64 h.old, .int .i64 h.oldAt, .int .i64 h.youngAt, .slice la h.log.length lc] 31)).alloc (.cells #[.int .i64 0, .slice none 0 0] 43)) (w.heap.size + 1 + 1) (by omega)
  rw [hz] at this
  exact (this.allocV _).allocV _
 go_enter Tryz.func58, Tryz.ntmps58
 go_wp2_with fail
 rw [← hW5]
 clear hW5 ca c0 c1 c2 c3
 go_loopw [9] (fun i wr => ∃ (j g cap : Nat) (T : List GVal), i = .int .i64 (j : Int) ∧ j ≤ n ∧ T.length ≤ 6 ∧ Hid (VS j = T) ∧ Hid (Rec wr (w.heap.size + 1 + 1 + 1) 43 [.int .i64 (t : Int), .slice (some ⟨g, 0, none⟩) T.length cap]) ∧ Hid (ValRow wr (w.heap.size + 1 + 1) (some ⟨g, 0, none⟩) cap T) ∧ Hid (Rec wr w.heap.size 31 [.slice (some ⟨b, off, none⟩) h.words.length wc, .int .i64 h.old, .int .i64 h.oldAt, .int .i64 h.youngAt, .slice la h.log.length lc]) ∧ Hid (Rec wr (w.heap.size + 1) 43 [.int .i64 0, .slice none 0 0]) ∧ Hid (Rec wr (w.heap.size + 1 + 1 + 1 + 1) 119 [.int .i64 ty0, .int .i64 ty1, .bool ty2, .slice fa tyf.length fc]) ∧ Hid (Below w.heap.size w wr)) (fun i wr => n - (intOf i).toNat)
 case atStart => exact ⟨0, _, 0, [], rfl, Nat.zero_le _, Nat.zero_le _, HV0, O5, V5, P5, R5, D5, B5⟩
 case round =>
  clear P5 O5 V5 R5 D5 B5 ht2 q2 q3
  obtain ⟨j, g, cap, T, rfl, hj, hT6, HT, HO, HR, HP, HQ, HD, HB⟩ := hrel
  have p0 := HP.out.cell (o := 0) rfl
  have ca : wr.cell? ⟨b, off + a, none⟩ = some (.int .i64 X) := HCA.out wr HB.out
  by_cases hlt : j < n
  ·have cj := HWC.out wr HB.out (a + 1 + j) (by omega)
   have q4 : (j : Int) < (n : Int) := by omega
   have q5 : ((a : Int) + 1 + (j : Int)) < (h.words.length : Int) := by omega
   have q6 : (0 : Int) ≤ (a : Int) + 1 + (j : Int) := by omega
   have qw1 : IntKind.i64.wrap ((a : Int) + 1) = (a : Int) + 1 := wrapIh (by omega) (by omega)
   have qw2 : IntKind.i64.wrap ((a : Int) + 1 + (j : Int)) = (a : Int) + 1 + (j : Int) := wrapIh (by omega) (by omega)
   have qn : ((a : Int) + 1 + (j : Int)).toNat = a + 1 + j := by omega
   have HFj := hide (HFD.out wr.drew HB.out.drew j hlt)
   have HLj := hide (fun (W : World) (k o : Int) (m : Bool) (p q : Int) (e : wordVal k (nAt h.words (a + 1 + j)) = some (p, q)) => HLV.out W j k o m p q e)
   have HVj := hide (HVA.out j hlt)
   have HSj := hide (HVS.out j)
   have HLn := hide (HVL.out (j + 1))
   generalize fieldF ⟨ty0, ty1, ty2, tyf⟩ j = f at *
   obtain ⟨f0, f1, f2⟩ := f
   simp only [fdV] at HFj HVj
   generalize nAt h.words (a + 1 + j) = y at *
   obtain ⟨vj, hvj⟩ : ∃ v, v = VA j := ⟨_, rfl⟩
   rw [← hvj] at HVj HSj
   clear hvj
   obtain ⟨p, q⟩ := vj
   have HLk := hide (fun (W : World) => HLj.out W f0 f1 f2 p q HVj.out)
   have sz := HB.out.size
   have zq := HQ.out.lt
   have hbr : b < wr.heap.size := by omega
   have hoz := HO.out.lt
   clear HFD HLV HVA HVS HVL HLj HVj HWC HCA HV0
   go_wp2_with fail
   refine beginA (S := (fun w' => Rec w' (w.heap.size + 1 + 1 + 1) 43 [.int .i64 (t : Int), .slice (some ⟨g, 0, none⟩) T.length cap] ∧ Rec w' (w.heap.size + 1 + 1 + 1 + 1) 119 [.int .i64 ty0, .int .i64 ty1, .bool ty2, .slice fa tyf.length fc] ∧ Rec w' w.heap.size 31 [.slice (some ⟨b, off, none⟩) h.words.length wc, .int .i64 h.old, .int .i64 h.oldAt, .int .i64 h.youngAt, .slice la h.log.length lc] ∧ w'.cell? ⟨b, off + (a + 1 + j), none⟩ = some (.int .i64 y))) 17 (by kernel_rfl) ?_ (fun hHeld => ?_)
   ·exact ⟨HO.out, HD.out, HP.out, cj⟩
   refine takeA (i := 0) (v := ?v0n1) rfl (by kernel_rfl) (by kernel_rfl) (by kernel_rfl) (fun _ _ _ h => h) (by kernel_rfl) (by kernel_rfl) (by assumption) ?y0n1 ?r0n1
   case y0n1 => (intro w hSw; obtain ⟨s1, s2, s3, s4⟩ := hSw; have k0 := s1.cell (o := 0) rfl; have k1 := s1.cell (o := 1) rfl; have k2 := s2.cell (o := 0) rfl; have k3 := s2.cell (o := 1) rfl; have k4 := s2.cell (o := 2) rfl; have k5 := s2.cell (o := 3) rfl; have k6 := s3.cell (o := 0) rfl; go_simp; try with_reducible rfl)
   (try simp only [Act.put, List.setIfInBounds_toArray, List.set_cons_zero, List.set_cons_succ])
   refine takeA (i := 1) (v := ?v1n2) rfl (by kernel_rfl) (by kernel_rfl) (by kernel_rfl) (fun _ _ _ h => h) (by kernel_rfl) (by kernel_rfl) (by assumption) ?y1n2 ?r1n2
   case y1n2 => (intro w hSw; obtain ⟨s1, s2, s3, s4⟩ := hSw; have k0 := s1.cell (o := 0) rfl; have k1 := s1.cell (o := 1) rfl; have k2 := s2.cell (o := 0) rfl; have k3 := s2.cell (o := 1) rfl; have k4 := s2.cell (o := 2) rfl; have k5 := s2.cell (o := 3) rfl; have k6 := s3.cell (o := 0) rfl; go_simp; try with_reducible rfl)
   (try simp only [Act.put, List.setIfInBounds_toArray, List.set_cons_zero, List.set_cons_succ])
   refine takeA (i := 2) (v := ?v2n3) rfl (by kernel_rfl) (by kernel_rfl) (by kernel_rfl) (fun _ _ _ h => h) (by kernel_rfl) (by kernel_rfl) (by assumption) ?y2n3 ?r2n3
   case y2n3 => (intro w hSw; obtain ⟨s1, s2, s3, s4⟩ := hSw; have k0 := s1.cell (o := 0) rfl; have k1 := s1.cell (o := 1) rfl; have k2 := s2.cell (o := 0) rfl; have k3 := s2.cell (o := 1) rfl; have k4 := s2.cell (o := 2) rfl; have k5 := s2.cell (o := 3) rfl; have k6 := s3.cell (o := 0) rfl; go_simp; try with_reducible rfl)
   (try simp only [Act.put, List.setIfInBounds_toArray, List.set_cons_zero, List.set_cons_succ])
   refine takeA (i := 3) (v := ?v3n4) rfl (by kernel_rfl) (by kernel_rfl) (by kernel_rfl) (fun _ _ _ h => h) (by kernel_rfl) (by kernel_rfl) (by assumption) ?y3n4 ?r3n4
   case y3n4 => (intro w hSw; obtain ⟨s1, s2, s3, s4⟩ := hSw; have k0 := s1.cell (o := 0) rfl; have k1 := s1.cell (o := 1) rfl; have k2 := s2.cell (o := 0) rfl; have k3 := s2.cell (o := 1) rfl; have k4 := s2.cell (o := 2) rfl; have k5 := s2.cell (o := 3) rfl; have k6 := s3.cell (o := 0) rfl; go_simp; try with_reducible rfl)
   (try simp only [Act.put, List.setIfInBounds_toArray, List.set_cons_zero, List.set_cons_succ])
   refine takeA (i := 5) (v := ?v5n5) rfl (by kernel_rfl) (by kernel_rfl) (by kernel_rfl) (fun _ _ _ h => h) (by kernel_rfl) (by kernel_rfl) (by assumption) ?y5n5 ?r5n5
   case y5n5 => (intro w hSw; obtain ⟨s1, s2, s3, s4⟩ := hSw; have k0 := s1.cell (o := 0) rfl; have k1 := s1.cell (o := 1) rfl; have k2 := s2.cell (o := 0) rfl; have k3 := s2.cell (o := 1) rfl; have k4 := s2.cell (o := 2) rfl; have k5 := s2.cell (o := 3) rfl; have k6 := s3.cell (o := 0) rfl; go_simp; try with_reducible rfl)
   (try simp only [Act.put, List.setIfInBounds_toArray, List.set_cons_zero, List.set_cons_succ])
   refine takeA (i := 6) (v := ?v6n6) rfl (by kernel_rfl) (by kernel_rfl) (by kernel_rfl) (fun _ _ _ h => h) (by kernel_rfl) (by kernel_rfl) (by assumption) ?y6n6 ?r6n6
   case y6n6 => (intro w hSw; obtain ⟨s1, s2, s3, s4⟩ := hSw; have k0 := s1.cell (o := 0) rfl; have k1 := s1.cell (o := 1) rfl; have k2 := s2.cell (o := 0) rfl; have k3 := s2.cell (o := 1) rfl; have k4 := s2.cell (o := 2) rfl; have k5 := s2.cell (o := 3) rfl; have k6 := s3.cell (o := 0) rfl; go_simp; try with_reducible rfl)
   (try simp only [Act.put, List.setIfInBounds_toArray, List.set_cons_zero, List.set_cons_succ])
   refine takeA (i := 7) (v := ?v7n7) rfl (by kernel_rfl) (by kernel_rfl) (by kernel_rfl) (fun _ _ _ h => h) (by kernel_rfl) (by kernel_rfl) (by assumption) ?y7n7 ?r7n7
   case y7n7 => (intro w hSw; obtain ⟨s1, s2, s3, s4⟩ := hSw; have k0 := s1.cell (o := 0) rfl; have k1 := s1.cell (o := 1) rfl; have k2 := s2.cell (o := 0) rfl; have k3 := s2.cell (o := 1) rfl; have k4 := s2.cell (o := 2) rfl; have k5 := s2.cell (o := 3) rfl; have k6 := s3.cell (o := 0) rfl; go_simp; try with_reducible rfl)
   (try simp only [Act.put, List.setIfInBounds_toArray, List.set_cons_zero, List.set_cons_succ])
   refine takeA (i := 8) (v := ?v8n8) rfl (by kernel_rfl) (by kernel_rfl) (by kernel_rfl) (fun _ _ _ h => h) (by kernel_rfl) (by kernel_rfl) (by assumption) ?y8n8 ?r8n8
   case y8n8 => (intro w hSw; obtain ⟨s1, s2, s3, s4⟩ := hSw; have k0 := s1.cell (o := 0) rfl; have k1 := s1.cell (o := 1) rfl; have k2 := s2.cell (o := 0) rfl; have k3 := s2.cell (o := 1) rfl; have k4 := s2.cell (o := 2) rfl; have k5 := s2.cell (o := 3) rfl; have k6 := s3.cell (o := 0) rfl; go_simp; try with_reducible rfl)
   (try simp only [Act.put, List.setIfInBounds_toArray, List.set_cons_zero, List.set_cons_succ])
   refine takeA (i := 9) (v := ?v9n9) rfl (by kernel_rfl) (by kernel_rfl) (by kernel_rfl) (fun _ _ _ h => h) (by kernel_rfl) (by kernel_rfl) (by assumption) ?y9n9 ?r9n9
   case y9n9 => (intro w hSw; obtain ⟨s1, s2, s3, s4⟩ := hSw; have k0 := s1.cell (o := 0) rfl; have k1 := s1.cell (o := 1) rfl; have k2 := s2.cell (o := 0) rfl; have k3 := s2.cell (o := 1) rfl; have k4 := s2.cell (o := 2) rfl; have k5 := s2.cell (o := 3) rfl; have k6 := s3.cell (o := 0) rfl; go_simp; try with_reducible rfl)
   (try simp only [Act.put, List.setIfInBounds_toArray, List.set_cons_zero, List.set_cons_succ])
   refine takeA (i := 10) (v := ?v10n10) rfl (by kernel_rfl) (by kernel_rfl) (by kernel_rfl) (fun _ _ _ h => h) (by kernel_rfl) (by kernel_rfl) (by assumption) ?y10n10 ?r10n10
   case y10n10 => (intro w hSw; obtain ⟨s1, s2, s3, s4⟩ := hSw; have k0 := s1.cell (o := 0) rfl; have k1 := s1.cell (o := 1) rfl; have k2 := s2.cell (o := 0) rfl; have k3 := s2.cell (o := 1) rfl; have k4 := s2.cell (o := 2) rfl; have k5 := s2.cell (o := 3) rfl; have k6 := s3.cell (o := 0) rfl; go_simp; try with_reducible rfl)
   (try simp only [Act.put, List.setIfInBounds_toArray, List.set_cons_zero, List.set_cons_succ])
   refine takeA (i := 11) (v := ?v11n11) rfl (by kernel_rfl) (by kernel_rfl) (by kernel_rfl) (fun _ _ _ h => h) (by kernel_rfl) (by kernel_rfl) (by assumption) ?y11n11 ?r11n11
   case y11n11 => (intro w hSw; obtain ⟨s1, s2, s3, s4⟩ := hSw; have k0 := s1.cell (o := 0) rfl; have k1 := s1.cell (o := 1) rfl; have k2 := s2.cell (o := 0) rfl; have k3 := s2.cell (o := 1) rfl; have k4 := s2.cell (o := 2) rfl; have k5 := s2.cell (o := 3) rfl; have k6 := s3.cell (o := 0) rfl; go_simp; try with_reducible rfl)
   (try simp only [Act.put, List.setIfInBounds_toArray, List.set_cons_zero, List.set_cons_succ])
   refine takeA (i := 12) (v := ?v12n12) rfl (by kernel_rfl) (by kernel_rfl) (by kernel_rfl) (fun _ _ _ h => h) (by kernel_rfl) (by kernel_rfl) (by assumption) ?y12n12 ?r12n12
   case y12n12 => (intro w hSw; obtain ⟨s1, s2, s3, s4⟩ := hSw; have k0 := s1.cell (o := 0) rfl; have k1 := s1.cell (o := 1) rfl; have k2 := s2.cell (o := 0) rfl; have k3 := s2.cell (o := 1) rfl; have k4 := s2.cell (o := 2) rfl; have k5 := s2.cell (o := 3) rfl; have k6 := s3.cell (o := 0) rfl; go_simp; try with_reducible rfl)
   (try simp only [Act.put, List.setIfInBounds_toArray, List.set_cons_zero, List.set_cons_succ])
   refine readyA (rs := [4]) (by kernel_rfl) (by simp) ?_
   refine AllL.cons rfl (fun K hK => ?_) ?_
   · go_simp
     (go_at_call 71; refine HFj.out.mono ?_; rintro e w2 ⟨rfl, b2⟩)
     have HB2 := hide (HB.out.drew.trans (b2.mono HB.out.size))
     have HR2 := hide (ValRow.below (w := wr.drew) HR.out b2)
     have HQ2 := hide (Rec.below (w := wr.drew) HQ.out b2 HQ.out.lt)
     have hH2 := And.intro (hHeld.1.below b2 hHeld.1.lt) (And.intro (hHeld.2.1.below b2 hHeld.2.1.lt) (And.intro (hHeld.2.2.1.below b2 hHeld.2.2.1.lt) ((b2.cell (p := ⟨b, off + (a + 1 + j), none⟩) hbr).trans hHeld.2.2.2)))
     have sz2 : wr.heap.size ≤ w2.heap.size := b2.size
     clear b2
     refine hK.out _ _ (hH2) (fun hHeld => ?_)
     clear hK K
     (try simp only [Act.put, List.setIfInBounds_toArray, List.set_cons_zero, List.set_cons_succ])
     refine readyA (rs := [13]) (by kernel_rfl) (by simp) ?_
     refine AllL.cons rfl (fun K hK => ?_) ?_
     · go_simp
       (go_at_call 94; refine (HLk.out _).mono ?_; rintro e w3 ⟨rfl, b3⟩)
       have HB3 := hide (HB2.out.trans (b3.mono HB2.out.size))
       have HR3 := hide (HR2.out.below b3)
       have HQ3 := hide (HQ2.out.below b3 HQ2.out.lt)
       have hH3 := And.intro (hHeld.1.below b3 hHeld.1.lt) (And.intro (hHeld.2.1.below b3 hHeld.2.1.lt) (And.intro (hHeld.2.2.1.below b3 hHeld.2.2.1.lt) ((b3.cell (p := ⟨b, off + (a + 1 + j), none⟩) (Nat.lt_of_lt_of_le hbr sz2)).trans hHeld.2.2.2)))
       have sz3 : wr.heap.size ≤ w3.heap.size := Nat.le_trans sz2 b3.size
       clear b3
       refine hK.out _ _ (hH3) (fun hHeld => ?_)
       clear hK K
       (try simp only [Act.put, List.setIfInBounds_toArray, List.set_cons_zero, List.set_cons_succ])
       refine readyA (rs := [14]) (by kernel_rfl) (by simp) ?_
       refine AllL.cons rfl (fun K hK => ?_) ?_
       · go_simp
         have hs3 := hHeld
         have b4 := one_b w3 (.cells #[.int .i64 p, .int .i64 q] 54)
         have hH4 := And.intro (hHeld.1.below b4 hHeld.1.lt) (And.intro (hHeld.2.1.below b4 hHeld.2.1.lt) (And.intro (hHeld.2.2.1.below b4 hHeld.2.2.1.lt) ((b4.cell (p := ⟨b, off + (a + 1 + j), none⟩) (Nat.lt_of_lt_of_le hbr sz3)).trans hHeld.2.2.2)))
         clear b4
         refine hK.out _ _ (hH4) (fun hHeld => ?_)
         clear hK K
         (try simp only [Act.put, List.setIfInBounds_toArray, List.set_cons_zero, List.set_cons_succ])
         refine readyA (rs := [15]) (by kernel_rfl) (by simp) ?_
         refine AllL.cons rfl (fun K hK => ?_) ?_
         · refine step_snoc_val rfl _ _ rfl (w.heap.size + 1 + 1) (some ⟨g, 0, none⟩) cap T p q rfl HR3.out rfl (by omega) (by omega) ?_
           intro g6 cap6 w6 h6 b6 k6
           have HR6 := hide h6
           have HB6 := hide (HB3.out.trans (b6.mono (by omega)))
           have HQ6 := hide (k6.2 _ _ _ (by decide) HQ3.out)
           have hH6 := And.intro (k6.2 _ _ _ (by decide) hs3.1) (And.intro (k6.2 _ _ _ (by decide) hs3.2.1) (And.intro (k6.2 _ _ _ (by decide) hs3.2.2.1) ((b6.cell (p := ⟨b, off + (a + 1 + j), none⟩) (by show b < _; omega)).trans hs3.2.2.2)))
           clear h6 b6 k6
           refine hK.out _ _ (hH6) (fun hHeld => ?_)
           clear hK K
           (try simp only [Act.put, List.setIfInBounds_toArray, List.set_cons_zero, List.set_cons_succ])
           refine takeA (i := 16) (v := ?v16n13) rfl (by kernel_rfl) (by kernel_rfl) (by kernel_rfl) (fun _ _ _ h => h) (by kernel_rfl) (by kernel_rfl) (by assumption) ?y16n13 ?r16n13
           case y16n13 => (intro w hSw; obtain ⟨s1, s2, s3, s4⟩ := hSw; have k0 := s1.cell (o := 0) rfl; have k1 := s1.cell (o := 1) rfl; have k2 := s2.cell (o := 0) rfl; have k3 := s2.cell (o := 1) rfl; have k4 := s2.cell (o := 2) rfl; have k5 := s2.cell (o := 3) rfl; have k6 := s3.cell (o := 0) rfl; go_simp; try with_reducible rfl)
           (try simp only [Act.put, List.setIfInBounds_toArray, List.set_cons_zero, List.set_cons_succ])
           refine readyA (rs := [17]) (by kernel_rfl) (by simp) ?_
           refine AllL.last rfl (fun K hK => ?_)
           have hSw := hHeld
           obtain ⟨s1, s2, s3, s4⟩ := hSw; have k0 := s1.cell (o := 0) rfl; have k1 := s1.cell (o := 1) rfl; have k2 := s2.cell (o := 0) rfl; have k3 := s2.cell (o := 1) rfl; have k4 := s2.cell (o := 2) rfl; have k5 := s2.cell (o := 3) rfl; have k6 := s3.cell (o := 0) rfl
           have fz := s1.frozen 1
           go_simp
           have HO7 : Hid (Rec (w6.setCell ⟨w.heap.size + 1 + 1 + 1, 1, none⟩ (.slice (some ⟨g6, 0, none⟩) (T.length + 1) cap6)) (w.heap.size + 1 + 1 + 1) 43 [.int .i64 (t : Int), .slice (some ⟨g6, 0, none⟩) (T ++ [(⟨p, q⟩ : GVal)]).length cap6]) := by rw [List.length_append]; exact s1.set 1 _
           have HR7 := hide (valRow_set (o := 1) (u := .slice (some ⟨g6, 0, none⟩) (T.length + 1) cap6) HR6.out s1 (by decide))
           have HP7 : Hid (Rec (w6.setCell ⟨w.heap.size + 1 + 1 + 1, 1, none⟩ (.slice (some ⟨g6, 0, none⟩) (T.length + 1) cap6)) w.heap.size 31 [.slice (some ⟨b, off, none⟩) h.words.length wc, .int .i64 h.old, .int .i64 h.oldAt, .int .i64 h.youngAt, .slice la h.log.length lc]) := (Below.heap_setCell _ _ _ _ (by show w.heap.size ≠ w.heap.size + 1 + 1 + 1; omega)).trans s3
           have HQ7 : Hid (Rec (w6.setCell ⟨w.heap.size + 1 + 1 + 1, 1, none⟩ (.slice (some ⟨g6, 0, none⟩) (T.length + 1) cap6)) (w.heap.size + 1) 43 [.int .i64 0, .slice none 0 0]) := (Below.heap_setCell _ _ _ _ (by show w.heap.size + 1 ≠ w.heap.size + 1 + 1 + 1; omega)).trans HQ6.out
           have HD7 : Hid (Rec (w6.setCell ⟨w.heap.size + 1 + 1 + 1, 1, none⟩ (.slice (some ⟨g6, 0, none⟩) (T.length + 1) cap6)) (w.heap.size + 1 + 1 + 1 + 1) 119 [.int .i64 ty0, .int .i64 ty1, .bool ty2, .slice fa tyf.length fc]) := (Below.heap_setCell _ _ _ _ (by show w.heap.size + 1 + 1 + 1 + 1 ≠ w.heap.size + 1 + 1 + 1; omega)).trans s2
           have HB7 : Hid (Below w.heap.size w (w6.setCell ⟨w.heap.size + 1 + 1 + 1, 1, none⟩ (.slice (some ⟨g6, 0, none⟩) (T.length + 1) cap6))) := HB6.out.setCell (p := ⟨w.heap.size + 1 + 1 + 1, 1, none⟩) (by show w.heap.size ≤ w.heap.size + 1 + 1 + 1; omega) _
           have HT6 : Hid (VS (j + 1) = T ++ [(⟨p, q⟩ : GVal)]) := by show _ = _; rw [HSj.out, HT.out]
           refine hK.out _ _ ?_
           clear hK K
           (try simp only [Act.put, List.setIfInBounds_toArray, List.set_cons_zero, List.set_cons_succ])
           refine doneA (by kernel_rfl) ?_ _
           clear hHeld
           go_wp2_with fail
           exact ⟨⟨j + 1, g6, cap6, T ++ [⟨p, q⟩], by go_num, by omega, by rw [← HT6.out, HLn.out]; omega, HT6, HO7, HR7, HP7, HQ7, HD7, HB7⟩, by simp [intOf]; omega⟩
         exact AllL.nil
       exact AllL.nil
     exact AllL.nil
   exact AllL.nil
  ·have hq : ¬ (j : Int) < (n : Int) := by omega
   obtain rfl : j = n := by omega
   have ln : T.length = j := by rw [← HT.out]; exact HVL.out j
   have o0 := HO.out.cell (o := 0) rfl
   have o1 := HO.out.cell (o := 1) rfl
   have r0 := HQ.out.cell (o := 0) rfl
   have r1 := HQ.out.cell (o := 1) rfl
   have fr0 := HQ.out.frozen 0
   have fr1 := HQ.out.frozen 1
   have HE : Hid (T.length = j) := ln
   have HQz := HQ
   clear ln
   go_wp2_with fail
   have hq2 := (HQ.out.set 0 (.int .i64 (t : Int))).set 1 (.slice (some ⟨g, 0, none⟩) T.length cap)
   have z0 := hq2.cell (o := 0) rfl
   have z1 := hq2.cell (o := 1) rfl
   refine bodyPost_ret (v := .agg #[.int .i64 (t : Int), .slice (some ⟨g, 0, none⟩) T.length cap]) (by simp [results, Tryz.results58, go_sem, z0, z1]) rfl ⟨some ⟨g, 0, none⟩, cap, by rw [HE.out], ?_, ?_⟩
   ·rw [HT.out]
    exact owns_lower (valRow_set (valRow_set (HR.out) HQ.out (by decide)) (HQ.out.set 0 _) (by decide)) (by omega)
   ·exact (HB.out.setCell (p := ⟨w.heap.size + 1, 0, none⟩) (Nat.le_succ _) _).setCell (p := ⟨w.heap.size + 1, 1, none⟩) (Nat.le_succ _) _
/-- The thing that begins somewhere: its type, its values, whether there is one. -/
def getT (gs : List (List Ty)) (h : GHeap) (p : Int) : Int := if p ∈ thingsS gs h then nAt h.words p.toNat / 16 else 0
def getV (gs : List (List Ty)) (h : GHeap) (p : Int) : List GVal := if p ∈ thingsS gs h then valsTo (valA gs h p.toNat) (lenA gs h p.toNat) else []
def getB (gs : List (List Ty)) (h : GHeap) (p : Int) : Bool := decide (p ∈ thingsS gs h)
theorem words_some {gs : List (List Ty)} {h : GHeap} (e : heapOkF gs h = true) {a : Int} (ha : a ∈ startsF gs h) {i : Nat} (hi : i < lenA gs h a.toNat) : wordVal (fieldF (tyA gs h a.toNat) i).kind (nAt h.words (a.toNat + 1 + i)) ≠ none := by
 unfold heapOkF at e
 simp only [Bool.and_eq_true] at e
 have hw := e.2.2.2
 obtain ⟨j, hj, rfl⟩ := nAt_mem.1 ha
 unfold allWordsF at hw
 have h1 := allTo_iff.1 hw j hj
 unfold wordsF at h1
 have h2 := allTo_iff.1 h1 i hi
 unfold word1 at h2
 intro h3
 rw [h3] at h2
 cases h2
set_option maxHeartbeats 6400000 in
set_option maxRecDepth 20000 in
theorem specHeapGet_any (ga : Option Addr) (gc lo hi : Nat) (gs : List (List Ty)) (h : GHeap) (wa la : Option Addr) (wc lc lo2 hi2 : Nat) (p : Int) (w : World) (hN : Few gs) (hc : gs.length ≤ gc) (hl : lo ≤ hi) (hh : hi ≤ w.heap.size) (hx : GroupsIn w lo hi ga gs) (H : HIn w lo2 hi2 h wa la wc lc) :
 Calls Tryz.prog 24 #[.slice ga gs.length gc, heapV h wa la wc lc, .int .i64 p] w fun e w' => ∃ va c, e = .returned (.tuple #[.agg #[.int .i64 (getT gs h p), .slice va (getV gs h p).length c], .bool (getB gs h p)]) ∧ ValRow w' w.heap.size va c (getV gs h p) ∧ Below w.heap.size w w' := by
 have HTH := hide (fun (W : World) (hb : Below w.heap.size w W) => specHeapThings_any ga gc lo hi gs h wa la wc lc lo2 hi2 W hN hc hl (Nat.le_trans hh hb.size) (hx.keep (hb.mono hh)) (H.keep (hb.mono H.hh)))
 have HFL := hide (fun (W : World) (hb : Below w.heap.size w W) => l1Flat_any ga gc lo hi gs W hN (hx.keep (hb.mono hh)) (Nat.le_trans hh hb.size) hl)
 have HGE := hide (fun (hP : Parts gs) (ta : Option Addr) (tc lot hit a : Nat) (W : World) (hb : Below w.heap.size w W) (hxt : TypesIn W lot hit ta (flat gs)) (hht : hit ≤ W.heap.size) (h0 : 0 ≤ lenF gs (nAt h.words a)) (hin : a + 1 + lenA gs h a ≤ h.words.length) (h160 : h.words.length ≤ 160) (hV : ∀ i, i < lenA gs h a → wordVal (fieldF (tyA gs h a) i).kind (nAt h.words (a + 1 + i)) ≠ none) => l7Get_any ta wa la tc wc lc lot hit lo2 hi2 gs h a W hP hxt hht (H.keep (hb.mono H.hh)) h0 hin h160 hV)
 obtain ⟨W1, hW1⟩ : ∃ W1, W1 = (w.alloc (.cells #[.slice wa h.words.length wc, .int .i64 h.old, .int .i64 h.oldAt, .int .i64 h.youngAt, .slice la h.log.length lc] 31)).alloc (.cells #[.int .i64 0, .slice none 0 0] 43) := ⟨_, rfl⟩
 have B1 : Hid (Below w.heap.size w W1) := by show Below _ _ _; rw [hW1]; exact ((Below.refl _ _).alloc (Nat.le_refl _) _).alloc (by simp) _
 have P1 : Hid (Rec W1 w.heap.size 31 [.slice wa h.words.length wc, .int .i64 h.old, .int .i64 h.oldAt, .int .i64 h.youngAt, .slice la h.log.length lc]) := by show Rec _ _ _ _; rw [hW1]; exact (Rec.new _ _ _).alloc _
 have R1 : Hid (Rec W1 (w.heap.size + 1) 43 [.int .i64 0, .slice none 0 0]) := by show Rec _ _ _ _; rw [hW1]; exact Rec.new' _ _ _ _ (by simp)
 clear hN hx H
 unfold heapV at *
 go_enter Tryz.func24, Tryz.ntmps24
 go_upto_region 1 with (fail)
 rw [← hW1]
 clear hW1
 have p0 := P1.out.cell (o := 0) rfl
 have p1 := P1.out.cell (o := 1) rfl
 have p2 := P1.out.cell (o := 2) rfl
 have p3 := P1.out.cell (o := 3) rfl
 have p4 := P1.out.cell (o := 4) rfl
 go_wp2_with fail
 refine (HTH.out _ B1.out).mono ?_
 rintro e w2 ⟨g, c, rfl, hr, b2⟩
 have B2 := hide (B1.out.trans (b2.mono B1.out.size))
 have P2 := hide (P1.out.below b2 P1.out.lt)
 have R2 := hide (R1.out.below b2 R1.out.lt)
 have hln : (thingsS gs h).length ≤ 1048576 := by
  unfold thingsS
  split
  ·rename_i e
   have := starts_len (gs := gs) (heapOk_ok e).2.2
   omega
  ·exact Nat.zero_le _
 have HFd := hide (l6Find_any (some ⟨g, 0, none⟩) c W1.heap.size w2.heap.size (thingsS gs h) p w2 hln hr.intsIn (Nat.le_refl _))
 clear hr b2 B1 P1 R1 p0 p1 p2 p3 p4 HTH
 by_cases hm : p ∈ thingsS gs h
 ·have ok : heapOkF gs h = true ∧ p ∈ startsF gs h := by
   unfold thingsS at hm
   split at hm
   ·rename_i e; exact ⟨e, hm⟩
   ·cases hm
  obtain ⟨hP, hk8, hso⟩ := heapOk_ok ok.1
  obtain ⟨a, ea, h0, hin⟩ := starts_w hso p ok.2
  have hV := fun i hi => words_some ok.1 ok.2 (i := i) hi
  have ET : getT gs h p = nAt h.words p.toNat / 16 := by unfold getT; rw [if_pos hm]
  have EV : getV gs h p = valsTo (valA gs h p.toNat) (lenA gs h p.toNat) := by unfold getV; rw [if_pos hm]
  have EB : getB gs h p = true := by unfold getB; rw [decide_eq_true hm]
  subst ea
  rw [Int.toNat_natCast] at hV ET EV
  have h160 : h.words.length ≤ 160 := by have := hso.o2; have := hso.n2; omega
  have HG := hide (fun (ta : Option Addr) (tc lot hit : Nat) (W : World) (hb : Below w.heap.size w W) (hxt : TypesIn W lot hit ta (flat gs)) (hht : hit ≤ W.heap.size) => HGE.out hP ta tc lot hit a W hb hxt hht h0 hin h160 hV)
  have HET := hide ET
  have HEV := hide EV
  have HEB := hide EB
  have HM := hide hm
  have HVL := hide (valsTo_len (valA gs h a) (lenA gs h a))
  clear HGE hP hk8 hso h0 hin hV ET EV EB ok hm h160
  go_wp2_with fail
  refine HFd.out.mono ?_
  rintro e w3 ⟨⟨r, rfl, hr1, hr2⟩, rfl⟩
  have hr0 : 0 ≤ r := hr2.2 HM.out
  have d0 : decide (r < 0) = false := by simpa using hr0
  have p0 := P2.out.cell (o := 0) rfl
  have p1 := P2.out.cell (o := 1) rfl
  have p2 := P2.out.cell (o := 2) rfl
  have p3 := P2.out.cell (o := 3) rfl
  have p4 := P2.out.cell (o := 4) rfl
  clear hr1 hr2 HFd HM
  go_wp2_with fail
  refine wp_region_held_drew (S := (fun w' => w'.cell? ⟨w.heap.size, 0, none⟩ = some (.slice wa h.words.length wc) ∧ w'.cell? ⟨w.heap.size, 1, none⟩ = some (.int .i64 h.old) ∧ w'.cell? ⟨w.heap.size, 2, none⟩ = some (.int .i64 h.oldAt) ∧ w'.cell? ⟨w.heap.size, 3, none⟩ = some (.int .i64 h.youngAt) ∧ w'.cell? ⟨w.heap.size, 4, none⟩ = some (.slice la h.log.length lc))) (by kernel_rfl) ?_ (fun hHeld => ?_)
  · (try dsimp only); (first | exact ⟨p0, p1, p2, p3, p4⟩ | exact ⟨k0, k1, k2, k3, k4⟩)
  refine takeL (i := 0) (v := ?v0n1) rfl (by kernel_rfl) (by kernel_rfl) (by kernel_rfl) (fun _ _ _ h => h) (by kernel_rfl) (by assumption) ?y0n1 ?r0n1; case y0n1 => (intro w hSw; (try dsimp only at hSw); go_simp; try with_reducible rfl); (try simp only [Act.put, List.setIfInBounds_toArray, List.set_cons_zero, List.set_cons_succ])
  refine takeL (i := 2) (v := ?v2n2) rfl (by kernel_rfl) (by kernel_rfl) (by kernel_rfl) (fun _ _ _ h => h) (by kernel_rfl) (by assumption) ?y2n2 ?r2n2; case y2n2 => (intro w hSw; (try dsimp only at hSw); go_simp; try with_reducible rfl); (try simp only [Act.put, List.setIfInBounds_toArray, List.set_cons_zero, List.set_cons_succ])
  refine takeL (i := 3) (v := ?v3n3) rfl (by kernel_rfl) (by kernel_rfl) (by kernel_rfl) (fun _ _ _ h => h) (by kernel_rfl) (by assumption) ?y3n3 ?r3n3; case y3n3 => (intro w hSw; (try dsimp only at hSw); go_simp; try with_reducible rfl); (try simp only [Act.put, List.setIfInBounds_toArray, List.set_cons_zero, List.set_cons_succ])
  refine doL (i := 1) rfl (by kernel_rfl) (fun K hK => ?_)
  go_simp
  (go_at_call 47; refine (HFL.out _ B2.out.drew).mono ?_; rintro e w5 ⟨ta, tc, rfl, hty, b5⟩; have B5 := hide (B2.out.drew.trans (b5.mono B2.out.size)); have P5 := hide (Rec.below (w := w3.drew) P2.out b5 P2.out.lt); have R5 := hide (Rec.below (w := w3.drew) R2.out b5 R2.out.lt); have T5 := hide hty; clear hty b5; have k0 := P5.out.cell (o := 0) rfl; have k1 := P5.out.cell (o := 1) rfl; have k2 := P5.out.cell (o := 2) rfl; have k3 := P5.out.cell (o := 3) rfl; have k4 := P5.out.cell (o := 4) rfl)
  (try go_wp2_with fail)
  refine hK.out _ _ ?_ (fun hHeld2 => ?_)
  · (try dsimp only); (first | exact ⟨p0, p1, p2, p3, p4⟩ | exact ⟨k0, k1, k2, k3, k4⟩)
  clear hK K hHeld
  have hHeld := hHeld2
  clear hHeld2
  try simp only [Act.put, List.setIfInBounds_toArray, List.set_cons_zero, List.set_cons_succ]
  refine doL (i := 4) rfl (by kernel_rfl) (fun K hK => ?_)
  go_simp
  (go_at_call 58; refine (HG.out ta tc lo w5.heap.size _ B5.out T5.out (Nat.le_refl _)).mono ?_; rintro e w6 ⟨va, cv, rfl, hv, b6⟩; have B6 := hide (B5.out.trans (b6.mono B5.out.size)); have P6 := hide (P5.out.below b6 P5.out.lt); have R6 := hide (R5.out.below b6 R5.out.lt); have V6 := hide hv; have zz : w.heap.size + 1 < w5.heap.size := R5.out.lt; clear hv b6; clear k0 k1 k2 k3 k4; have k0 := P6.out.cell (o := 0) rfl; have k1 := P6.out.cell (o := 1) rfl; have k2 := P6.out.cell (o := 2) rfl; have k3 := P6.out.cell (o := 3) rfl; have k4 := P6.out.cell (o := 4) rfl; have r0 := R6.out.cell (o := 0) rfl; have r1 := R6.out.cell (o := 1) rfl; have fr0 := R6.out.frozen 0; have fr1 := R6.out.frozen 1)
  (try go_wp2_with fail)
  refine hK.out _ _ ?_ (fun hHeld2 => ?_)
  · (try dsimp only); (first | exact ⟨p0, p1, p2, p3, p4⟩ | exact ⟨k0, k1, k2, k3, k4⟩)
  clear hK K hHeld
  have hHeld := hHeld2
  clear hHeld2
  try simp only [Act.put, List.setIfInBounds_toArray, List.set_cons_zero, List.set_cons_succ]
  refine doL (i := 5) rfl (by kernel_rfl) (fun K hK => ?_)
  go_simp
  (have RF : Hid (Rec ((w6.setCell ⟨w.heap.size + 1, 0, none⟩ (.int .i64 (nAt h.words a / 16))).setCell ⟨w.heap.size + 1, 1, none⟩ (.slice va (lenA gs h a) cv)) (w.heap.size + 1) 43 [.int .i64 (nAt h.words a / 16), .slice va (lenA gs h a) cv]) := (R6.out.set 0 _).set 1 _; have PF : Hid (Rec ((w6.setCell ⟨w.heap.size + 1, 0, none⟩ (.int .i64 (nAt h.words a / 16))).setCell ⟨w.heap.size + 1, 1, none⟩ (.slice va (lenA gs h a) cv)) w.heap.size 31 [.slice wa h.words.length wc, .int .i64 h.old, .int .i64 h.oldAt, .int .i64 h.youngAt, .slice la h.log.length lc]) := (Below.heap_setCell _ _ _ _ (by show w.heap.size ≠ w.heap.size + 1; omega)).trans ((Below.heap_setCell _ _ _ _ (by show w.heap.size ≠ w.heap.size + 1; omega)).trans P6.out); have BF : Hid (Below w.heap.size w ((w6.setCell ⟨w.heap.size + 1, 0, none⟩ (.int .i64 (nAt h.words a / 16))).setCell ⟨w.heap.size + 1, 1, none⟩ (.slice va (lenA gs h a) cv))) := (B6.out.setCell (p := ⟨w.heap.size + 1, 0, none⟩) (Nat.le_succ _) _).setCell (p := ⟨w.heap.size + 1, 1, none⟩) (Nat.le_succ _) _; have VF : Hid (ValRow ((w6.setCell ⟨w.heap.size + 1, 0, none⟩ (.int .i64 (nAt h.words a / 16))).setCell ⟨w.heap.size + 1, 1, none⟩ (.slice va (lenA gs h a) cv)) w.heap.size va cv (valsTo (valA gs h a) (lenA gs h a))) := owns_lower (valRow_set (valRow_set V6.out R6.out (by decide)) (R6.out.set 0 _) (by decide)) B5.out.size; clear k0 k1 k2 k3 k4 r0 r1 fr0 fr1; have k0 := PF.out.cell (o := 0) rfl; have k1 := PF.out.cell (o := 1) rfl; have k2 := PF.out.cell (o := 2) rfl; have k3 := PF.out.cell (o := 3) rfl; have k4 := PF.out.cell (o := 4) rfl)
  (try go_wp2_with fail)
  refine hK.out _ _ ?_ (fun hHeld2 => ?_)
  · (try dsimp only); (first | exact ⟨p0, p1, p2, p3, p4⟩ | exact ⟨k0, k1, k2, k3, k4⟩)
  clear hK K hHeld
  have hHeld := hHeld2
  clear hHeld2
  try simp only [Act.put, List.setIfInBounds_toArray, List.set_cons_zero, List.set_cons_succ]
  refine takeL (i := 6) (v := ?v6n4) rfl (by kernel_rfl) (by kernel_rfl) (by kernel_rfl) (fun _ _ _ h => h) (by kernel_rfl) (by assumption) ?y6n4 ?r6n4; case y6n4 => (intro w hSw; (try dsimp only at hSw); go_simp; try with_reducible rfl); (try simp only [Act.put, List.setIfInBounds_toArray, List.set_cons_zero, List.set_cons_succ])
  refine wpAnyH_done (by kernel_rfl) ?_ _
  go_wp2_with fail
  have z0 := RF.out.cell (o := 0) rfl
  have z1 := RF.out.cell (o := 1) rfl
  refine bodyPost_ret (v := .tuple #[.agg #[.int .i64 (nAt h.words a / 16), .slice va (lenA gs h a) cv], .bool true]) (by simp [results, Tryz.results24, go_sem, z0, z1]) rfl ⟨va, cv, ?_, ?_, BF.out⟩
  ·rw [HET.out, HEV.out, HEB.out, HVL.out]
  ·rw [HEV.out]; exact VF.out
 ·have ET : getT gs h p = 0 := by unfold getT; rw [if_neg hm]
  have EV : getV gs h p = [] := by unfold getV; rw [if_neg hm]
  have EB : getB gs h p = false := by unfold getB; rw [decide_eq_false hm]
  have HET := hide ET
  have HEV := hide EV
  have HEB := hide EB
  have HM := hide hm
  clear ET EV EB hm HGE
  have r0 := R2.out.cell (o := 0) rfl
  have r1 := R2.out.cell (o := 1) rfl
  have fr0 := R2.out.frozen 0
  have fr1 := R2.out.frozen 1
  go_wp2_with fail
  refine HFd.out.mono ?_
  rintro e w3 ⟨⟨r, rfl, hr1, hr2⟩, rfl⟩
  have hr0 : ¬ 0 ≤ r := fun e => HM.out (hr2.1 e)
  have d0 : decide (r < 0) = true := by simp; omega
  clear hr1 hr2 HFd HM hr0
  go_wp2_with fail
  have hq2 := (R2.out.set 0 (.int .i64 0)).set 1 (.slice none 0 0)
  have z0 := hq2.cell (o := 0) rfl
  have z1 := hq2.cell (o := 1) rfl
  refine bodyPost_ret (v := .tuple #[.agg #[.int .i64 0, .slice none 0 0], .bool false]) (by simp [results, Tryz.results24, go_sem, z0, z1]) rfl ⟨none, 0, ?_, ?_, ?_⟩
  ·rw [HET.out, HEV.out, HEB.out]; rfl
  ·rw [HEV.out]; exact ValRow.nil _ _
  ·exact (B2.out.setCell (p := ⟨w.heap.size + 1, 0, none⟩) (Nat.le_succ _) _).setCell (p := ⟨w.heap.size + 1, 1, none⟩) (Nat.le_succ _) _
end Go.Proofs.YtgobajjllnhlkaaGreatDoor
namespace Go.Proofs.YtgobajjllnhlkaaGreatDoor
open Go.ChangeShapes Go.WideShapes Go.ChangeAt Go.RowKit Go.Shelf Go.Deep
set_option linter.unusedVariables false
set_option linter.unusedSimpArgs false
theorem vals_ext {vs ws : List GVal} (h : vs.length = ws.length) (hj : ∀ j, j < vs.length → valAt' vs j = valAt' ws j) : vs = ws :=
 List.ext_getElem h fun i h1 h2 => by
  have := hj i h1
  unfold valAt' at this
  rw [List.getD_eq_getElem?_getD, List.getD_eq_getElem?_getD, List.getElem?_eq_getElem h1, List.getElem?_eq_getElem h2] at this
  exact this
theorem thGot (lo hi sb S : Nat) (ra : Option Addr) (rc cb co cc : Nat) (gs : List (List Ty)) (h : GHeap) (H : HOk gs h) (w : World) (hs : SpA w lo hi sb gs h ra rc cb co cc) (x : HTh) (hx : ThIn w lo hi S sb gs h.words x) (hm : (x.a : Int) ∈ startsF gs h) :
 Hid (∀ W, Below w.heap.size w W → Calls Tryz.prog 60 #[.agg #[.int .i64 (x.a : Int), .int .i64 (nAt h.words x.a / 16), .slice x.fa (lenW gs h.words x.a) x.fc, .slice x.wa (lenW gs h.words x.a) x.wc]] W fun e w' => ∃ va cap, e = .returned (.slice va (valsTo (valA gs h x.a) (lenA gs h x.a)).length cap) ∧ ValRow w' W.heap.size va cap (valsTo (valA gs h x.a) (lenA gs h x.a)) ∧ Below W.heap.size W w') := by
 obtain ⟨n, vs, fs, h1, h2, h3, h4, h5, h6, h7, h8, h9, HC⟩ := thVals lo hi sb S ra rc cb co cc gs h H w hs x hx hm
 have e : vs = valsTo (valA gs h x.a) n := vals_ext (by rw [h3, valsTo_len]) fun j hj => by rw [h7 j (by omega), valsTo_at _ _ (by omega)]
 rw [h1, h2]
 intro W hb
 refine (HC.out W hb).mono ?_
 rintro e' w' ⟨va, cap, rfl, hr, hb'⟩
 rw [e] at hr
 exact ⟨va, cap, by rw [valsTo_len], hr, hb'⟩
set_option maxRecDepth 100000 in
set_option maxHeartbeats 6400000 in
theorem implHeapGet_any (ga : Option Addr) (gc lo hi : Nat) (gs : List (List Ty)) (h : GHeap) (wa la : Option Addr) (wc lc hi' : Nat) (p : Int) (w : World) (hN : Few gs) (hl : lo ≤ hi) (hh : hi ≤ w.heap.size) (hx : GroupsIn w lo hi ga gs) (hp : pow10 w) (hW : HIn w 0 hi' h wa la wc lc) (hh' : hi' ≤ w.heap.size) :
 Calls Tryz.prog 25 #[.slice ga gs.length gc, heapV h wa la wc lc, .int .i64 p] w fun e w' => ∃ va c, e = .returned (.tuple #[.agg #[.int .i64 (getT gs h p), .slice va (getV gs h p).length c], .bool (getB gs h p)]) ∧ ValRow w' w.heap.size va c (getV gs h p) ∧ Below w.heap.size w w' := by
 obtain ⟨w1, hw1⟩ : ∃ w1, w1 = (w.alloc (.cells #[.slice wa h.words.length wc, .int .i64 h.old, .int .i64 h.oldAt, .int .i64 h.youngAt, .slice la h.log.length lc] 31)).alloc (.cells #[.int .i64 0, .slice none 0 0] 43) := ⟨_, rfl⟩
 have B1 : Hid (Below w.heap.size w w1) := by show Below _ _ _; rw [hw1]; exact ((Below.refl _ _).alloc (Nat.le_refl _) _).alloc (by simp) _
 have RH : Hid (Rec w1 w.heap.size 31 [.slice wa h.words.length wc, .int .i64 h.old, .int .i64 h.oldAt, .int .i64 h.youngAt, .slice la h.log.length lc]) := by show Rec _ _ _ _; rw [hw1]; exact (Rec.new _ _ _).alloc _
 have RT : Hid (Rec w1 (w.heap.size + 1) 43 [.int .i64 0, .slice none 0 0]) := by show Rec _ _ _ _; rw [hw1]; exact Rec.new' _ _ _ _ (by simp)
 have HC := hide (heapSpaceOf_any ga gc lo hi gs h wa la wc lc hi' w1 hN hl (Nat.le_trans hh B1.out.size) (hx.keep (B1.out.mono hh)) (pow10_keep hp B1.out) (hW.keep (B1.out.mono hh')) (Nat.le_trans hh' B1.out.size))
 have HWB : Hid (∀ i, -9223372036854775808 ≤ nAt h.words i ∧ nAt h.words i ≤ 9223372036854775807) := hW.wb
 have HTS : Hid (thingsS gs h = if heapOkF gs h = true then startsF gs h else []) := rfl
 unfold heapV at HC ⊢
 clear hx hp hN hW
 have h0 := RH.out.cell (o := 0) rfl
 have h1 := RH.out.cell (o := 1) rfl
 have h2 := RH.out.cell (o := 2) rfl
 have h3 := RH.out.cell (o := 3) rfl
 have h4 := RH.out.cell (o := 4) rfl
 rw [hw1] at h0 h1 h2 h3 h4
 go_enter Tryz.func25, Tryz.ntmps25
 go_wp2_with fail
 rw [← hw1]
 clear hw1 h0 h1 h2 h3 h4
 refine HC.out.mono ?_
 have NO : Hid (¬ p ∈ thingsS gs h → getT gs h p = 0 ∧ getV gs h p = [] ∧ getB gs h p = false) := fun hm => ⟨by unfold getT; rw [if_neg hm], by unfold getV; rw [if_neg hm], by unfold getB; rw [decide_eq_false hm]⟩
 have YES : Hid (p ∈ thingsS gs h → getT gs h p = nAt h.words p.toNat / 16 ∧ getV gs h p = valsTo (valA gs h p.toNat) (lenA gs h p.toNat) ∧ getB gs h p = true) := fun hm => ⟨by unfold getT; rw [if_pos hm], by unfold getV; rw [if_pos hm], by unfold getB; rw [decide_eq_true hm]⟩
 rintro e w2 ⟨b2, ⟨hf, rfl⟩ | ⟨hf, sb, S, lo', hi2, ra, rc, cb, cc, rfl, hsb, hsps, _⟩⟩
 ·have B2 := hide (B1.out.trans (b2.mono B1.out.size))
  have R2 := hide (RT.out.below b2 RT.out.lt)
  have HNO := hide (NO.out (by rw [HTS.out, hf]; simp))
  have r0 := R2.out.cell (o := 0) rfl
  have r1 := R2.out.cell (o := 1) rfl
  have fr0 := R2.out.frozen 0
  have fr1 := R2.out.frozen 1
  clear b2 hf HC NO YES HTS
  go_wp2_with fail
  have hq2 := (R2.out.set 0 (.int .i64 0)).set 1 (.slice none 0 0)
  have z0 := hq2.cell (o := 0) rfl
  have z1 := hq2.cell (o := 1) rfl
  refine bodyPost_ret (v := .tuple #[.agg #[.int .i64 0, .slice none 0 0], .bool false]) (by simp [results, Tryz.results25, go_sem, z0, z1]) rfl ⟨none, 0, ?_, ?_, ?_⟩
  ·rw [HNO.out.1, HNO.out.2.1, HNO.out.2.2]; rfl
  ·rw [HNO.out.2.1]; exact ValRow.nil _ _
  ·exact (B2.out.setCell (p := ⟨w.heap.size + 1, 0, none⟩) (Nat.le_succ _) _).setCell (p := ⟨w.heap.size + 1, 1, none⟩) (Nat.le_succ _) _
 have B2 := hide (B1.out.trans (b2.mono B1.out.size))
 have R2 := hide (RT.out.below b2 RT.out.lt)
 have HO : HOk gs h := by
  have h1 : kinOkF gs = true ∧ sizeF h = true := by
   unfold heapOkF at hf
   simp only [Bool.and_eq_true] at hf
   exact ⟨hf.1.1, hf.1.2.1⟩
  exact ⟨kinOk_parts h1.1, (sizeF_iff h).1 h1.2, HWB.out⟩
 rw [hf, if_pos rfl] at HTS
 have HSP := hide hsps.toSpA
 have HTF := hide (thingFrom_any lo' hi2 sb ra rc cb 0 cc gs h p HO w2 hsps.toSpA)
 have HHO := hide HO
 have s2 := B2.out.size
 clear b2 hf hsps HC HO
 go_wp2_with fail
 refine HTF.out.mono ?_
 rintro e w3 ⟨⟨hm, rfl⟩ | ⟨x, hx1, hx2, hx3, rfl⟩, b3⟩
 ·have B3 := hide (B2.out.trans (b3.mono s2))
  have R3 := hide (R2.out.below b3 R2.out.lt)
  have HNO := hide (NO.out (by rw [HTS.out]; exact hm))
  have bt := hide (B3.out.alloc B3.out.size (.cells #[.int .i64 0, .int .i64 0, .slice none 0 0, .slice none 0 0] 89))
  have RA := hide (R3.out.alloc (.cells #[.int .i64 0, .int .i64 0, .slice none 0 0, .slice none 0 0] 89))
  have r0 := RA.out.cell (o := 0) rfl
  have r1 := RA.out.cell (o := 1) rfl
  have fr0 := RA.out.frozen 0
  have fr1 := RA.out.frozen 1
  unfold zeroTh
  clear b3 hm NO YES HTS HTF
  go_wp2_with fail
  have hq2 := (RA.out.set 0 (.int .i64 0)).set 1 (.slice none 0 0)
  have z0 := hq2.cell (o := 0) rfl
  have z1 := hq2.cell (o := 1) rfl
  refine bodyPost_ret (v := .tuple #[.agg #[.int .i64 0, .slice none 0 0], .bool false]) (by simp [results, Tryz.results25, go_sem, z0, z1]) rfl ⟨none, 0, ?_, ?_, ?_⟩
  ·rw [HNO.out.1, HNO.out.2.1, HNO.out.2.2]; rfl
  ·rw [HNO.out.2.1]; exact ValRow.nil _ _
  ·exact (bt.out.setCell (p := ⟨w.heap.size + 1, 0, none⟩) (Nat.le_succ _) _).setCell (p := ⟨w.heap.size + 1, 1, none⟩) (Nat.le_succ _) _
 ·have B3 := hide (B2.out.trans (b3.mono s2))
  have R3 := hide (R2.out.below b3 R2.out.lt)
  have HYE := YES.out (by rw [HTS.out, ← hx1]; exact hx2)
  have ep : p.toNat = x.a := by rw [← hx1, Int.toNat_natCast]
  rw [ep] at HYE
  clear ep
  have HV := thGot lo' hi2 sb (w2.heap.size + 3) ra rc cb 0 cc gs h HHO.out w3 (HSP.out.keep b3) x hx3 hx2
  obtain ⟨xa, fa, fc, xw, xc⟩ := x
  simp only at HV HYE
  have HGV := hide HYE
  simp only [thV]
  generalize lenW gs h.words xa = n at *
  generalize nAt h.words xa / 16 = ty at *
  obtain ⟨VS, hVS⟩ : ∃ l, l = valsTo (valA gs h xa) (lenA gs h xa) := ⟨_, rfl⟩
  rw [← hVS] at HV HGV
  have B4 := hide (B3.out.alloc B3.out.size (.cells #[.int .i64 (xa : Int), .int .i64 ty, .slice fa n fc, .slice xw n xc] 89))
  have b34 := hide (two_b w3 (.cells #[.int .i64 (xa : Int), .int .i64 ty, .slice fa n fc, .slice xw n xc] 89))
  have R4 := hide (R3.out.alloc (.cells #[.int .i64 (xa : Int), .int .i64 ty, .slice fa n fc, .slice xw n xc] 89))
  have T4 := hide (Rec.new w3 89 [.int .i64 (xa : Int), .int .i64 ty, .slice fa n fc, .slice xw n xc])
  have zr := R3.out.lt
  clear b3 hx1 hx2 hx3 NO YES HTS HTF HSP HHO HYE hVS
  obtain ⟨w4, hw4⟩ : ∃ w4, w4 = w3.alloc (.cells #[.int .i64 (xa : Int), .int .i64 ty, .slice fa n fc, .slice xw n xc] 89) := ⟨_, rfl⟩
  rw [show (w3.alloc (.cells [.int .i64 (xa : Int), .int .i64 ty, .slice fa n fc, .slice xw n xc].toArray 89)) = w4 from hw4.symm] at T4
  rw [← hw4] at B4 b34 R4
  go_upto_region 7 with (fail)
  rw [← hw4]
  clear hw4
  have t0 := T4.out.cell (o := 0) rfl
  have t1 := T4.out.cell (o := 1) rfl
  have t2 := T4.out.cell (o := 2) rfl
  have t3 := T4.out.cell (o := 3) rfl
  have ztl := T4.out.lt
  go_wp2_with fail
  refine wp_region_held_drew (S := (fun w' => w'.cell? ⟨w3.heap.size, 0, none⟩ = some (.int .i64 (xa : Int)) ∧ w'.cell? ⟨w3.heap.size, 1, none⟩ = some (.int .i64 ty) ∧ w'.cell? ⟨w3.heap.size, 2, none⟩ = some (.slice fa n fc) ∧ w'.cell? ⟨w3.heap.size, 3, none⟩ = some (.slice xw n xc))) (by kernel_rfl) ?_ (fun hHeld => ?_)
  · (try dsimp only); (first | exact ⟨t0, t1, t2, t3⟩ | exact ⟨k0, k1, k2, k3⟩)
  refine takeL (i := 0) (v := ?v0n1) rfl (by kernel_rfl) (by kernel_rfl) (by kernel_rfl) (fun _ _ _ h => h) (by kernel_rfl) (by assumption) ?y0n1 ?r0n1; case y0n1 => (intro w hSw; (try dsimp only at hSw); go_simp; try with_reducible rfl); (try simp only [Act.put, List.setIfInBounds_toArray, List.set_cons_zero, List.set_cons_succ])
  refine takeL (i := 1) (v := ?v1n2) rfl (by kernel_rfl) (by kernel_rfl) (by kernel_rfl) (fun _ _ _ h => h) (by kernel_rfl) (by assumption) ?y1n2 ?r1n2; case y1n2 => (intro w hSw; (try dsimp only at hSw); go_simp; try with_reducible rfl); (try simp only [Act.put, List.setIfInBounds_toArray, List.set_cons_zero, List.set_cons_succ])
  refine takeL (i := 2) (v := ?v2n3) rfl (by kernel_rfl) (by kernel_rfl) (by kernel_rfl) (fun _ _ _ h => h) (by kernel_rfl) (by assumption) ?y2n3 ?r2n3; case y2n3 => (intro w hSw; (try dsimp only at hSw); go_simp; try with_reducible rfl); (try simp only [Act.put, List.setIfInBounds_toArray, List.set_cons_zero, List.set_cons_succ])
  refine doL (i := 3) rfl (by kernel_rfl) (fun K hK => ?_)
  go_simp
  (go_at_call 60; refine (HV.out _ b34.out.drew).mono ?_; rintro e w6 ⟨va, cv, rfl, hv, b6⟩; have B6 := hide (B4.out.drew.trans (b6.mono B4.out.size)); have T6 := hide (Rec.below (w := w4.drew) T4.out b6 T4.out.lt); have R6 := hide (Rec.below (w := w4.drew) R4.out b6 R4.out.lt); have V6 := hide hv; clear hv b6; have k0 := T6.out.cell (o := 0) rfl; have k1 := T6.out.cell (o := 1) rfl; have k2 := T6.out.cell (o := 2) rfl; have k3 := T6.out.cell (o := 3) rfl; have r0 := R6.out.cell (o := 0) rfl; have r1 := R6.out.cell (o := 1) rfl; have fr0 := R6.out.frozen 0; have fr1 := R6.out.frozen 1)
  (try go_wp2_with fail)
  refine hK.out _ _ ?_ (fun hHeld2 => ?_)
  · (try dsimp only); (first | exact ⟨t0, t1, t2, t3⟩ | exact ⟨k0, k1, k2, k3⟩)
  clear hK K hHeld
  have hHeld := hHeld2
  clear hHeld2
  try simp only [Act.put, List.setIfInBounds_toArray, List.set_cons_zero, List.set_cons_succ]
  refine takeL (i := 4) (v := ?v4n4) rfl (by kernel_rfl) (by kernel_rfl) (by kernel_rfl) (fun _ _ _ h => h) (by kernel_rfl) (by assumption) ?y4n4 ?r4n4; case y4n4 => (intro w hSw; (try dsimp only at hSw); go_simp; try with_reducible rfl); (try simp only [Act.put, List.setIfInBounds_toArray, List.set_cons_zero, List.set_cons_succ])
  refine doL (i := 5) rfl (by kernel_rfl) (fun K hK => ?_)
  go_simp
  (have RF : Hid (Rec ((w6.setCell ⟨w.heap.size + 1, 0, none⟩ (.int .i64 ty)).setCell ⟨w.heap.size + 1, 1, none⟩ (.slice va VS.length cv)) (w.heap.size + 1) 43 [.int .i64 ty, .slice va VS.length cv]) := (R6.out.set 0 _).set 1 _; have TF : Hid (Rec ((w6.setCell ⟨w.heap.size + 1, 0, none⟩ (.int .i64 ty)).setCell ⟨w.heap.size + 1, 1, none⟩ (.slice va VS.length cv)) w3.heap.size 89 [.int .i64 (xa : Int), .int .i64 ty, .slice fa n fc, .slice xw n xc]) := (Below.heap_setCell _ _ _ _ (by show w3.heap.size ≠ w.heap.size + 1; omega)).trans ((Below.heap_setCell _ _ _ _ (by show w3.heap.size ≠ w.heap.size + 1; omega)).trans T6.out); have BF : Hid (Below w.heap.size w ((w6.setCell ⟨w.heap.size + 1, 0, none⟩ (.int .i64 ty)).setCell ⟨w.heap.size + 1, 1, none⟩ (.slice va VS.length cv))) := (B6.out.setCell (p := ⟨w.heap.size + 1, 0, none⟩) (Nat.le_succ _) _).setCell (p := ⟨w.heap.size + 1, 1, none⟩) (Nat.le_succ _) _; have VF : Hid (ValRow ((w6.setCell ⟨w.heap.size + 1, 0, none⟩ (.int .i64 ty)).setCell ⟨w.heap.size + 1, 1, none⟩ (.slice va VS.length cv)) w.heap.size va cv VS) := owns_lower (valRow_set (valRow_set V6.out R6.out (by decide)) (R6.out.set 0 _) (by decide)) B4.out.size; clear k0 k1 k2 k3 r0 r1 fr0 fr1; have k0 := TF.out.cell (o := 0) rfl; have k1 := TF.out.cell (o := 1) rfl; have k2 := TF.out.cell (o := 2) rfl; have k3 := TF.out.cell (o := 3) rfl)
  (try go_wp2_with fail)
  refine hK.out _ _ ?_ (fun hHeld2 => ?_)
  · (try dsimp only); (first | exact ⟨t0, t1, t2, t3⟩ | exact ⟨k0, k1, k2, k3⟩)
  clear hK K hHeld
  have hHeld := hHeld2
  clear hHeld2
  try simp only [Act.put, List.setIfInBounds_toArray, List.set_cons_zero, List.set_cons_succ]
  refine takeL (i := 6) (v := ?v6n5) rfl (by kernel_rfl) (by kernel_rfl) (by kernel_rfl) (fun _ _ _ h => h) (by kernel_rfl) (by assumption) ?y6n5 ?r6n5; case y6n5 => (intro w hSw; (try dsimp only at hSw); go_simp; try with_reducible rfl); (try simp only [Act.put, List.setIfInBounds_toArray, List.set_cons_zero, List.set_cons_succ])
  refine wpAnyH_done (by kernel_rfl) ?_ _
  go_wp2_with fail
  have z0 := RF.out.cell (o := 0) rfl
  have z1 := RF.out.cell (o := 1) rfl
  refine bodyPost_ret (v := .tuple #[.agg #[.int .i64 ty, .slice va VS.length cv], .bool true]) (by simp [results, Tryz.results25, go_sem, z0, z1]) rfl ⟨va, cv, ?_, ?_, BF.out⟩
  ·rw [HGV.out.1, HGV.out.2.1, HGV.out.2.2]
  ·rw [HGV.out.2.1]; exact VF.out
end Go.Proofs.YtgobajjllnhlkaaGreatDoor
