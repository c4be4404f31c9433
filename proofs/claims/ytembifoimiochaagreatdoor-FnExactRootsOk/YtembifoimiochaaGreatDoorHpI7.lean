/- The iterator of all things of a heap. -/
import Derived.Test.YtembifoimiochaaGreatDoorHpI6
import Derived.LoopN
namespace Go.Proofs.YtembifoimiochaaGreatDoor
open Go.ChangeShapes Go.WideShapes Go.ChangeAt Go.RowKit Go.Shelf Go.Deep
set_option linter.unusedVariables false
set_option linter.unusedSimpArgs false
attribute [local go_sem] Oper.semAt_some

theorem yieldAt_wide {n m l l' : Nat} {P : Program} {args : Array Value} {W : World} {R : Ending → World → Prop} (h : YieldAt Fence.wide n P l args W R) : YieldAt (Fence.wide.inRound l') m P l args W R := by
 obtain ⟨fn, tmps, assign, body, hy, hR⟩ := h
 exact ⟨fn, tmps, assign, body, hy, hR.1, fun c cs _ => hR.2 c cs (room_wide _)⟩
theorem yieldAt_wide0 {n m l : Nat} {P : Program} {args : Array Value} {W : World} {R : Ending → World → Prop} (h : YieldAt Fence.wide n P l args W R) : YieldAt Fence.wide m P l args W R := by
 obtain ⟨fn, tmps, assign, body, hy, hR⟩ := h
 exact ⟨fn, tmps, assign, body, hy, hR.1, fun c cs _ => hR.2 c cs (room_wide _)⟩
theorem fields_own {β : Type} {B lo hi : Nat} {a : Option Addr} {fs : List Fd} : OwnFrom B (fun (_ : β) W => FieldsIn W lo hi a fs) := fun s X Y row hs hg hr => by
 have hr2 : ∀ r, row = some r → ∃ o : Obj, X.heap[r]? = some o ∧ o.isCells = false := fun r e => (hr r e).2
 rcases hs with h0 | ⟨b, off, e, h1, h2, h3⟩
 ·exact .inl h0
 ·exact .inr ⟨b, off, e, h1, h2, fun i hi => ⟨cell_kept (h3 i hi).1 hg hr2, cell_kept (h3 i hi).2.1 hg hr2, cell_kept (h3 i hi).2.2 hg hr2⟩⟩
theorem FieldsIn.wide' {w : World} {lo hi lo' hi' : Nat} {a : Option Addr} {fs : List Fd} (h : FieldsIn w lo hi a fs) (h1 : lo' ≤ lo) (h2 : hi ≤ hi') : FieldsIn w lo' hi' a fs := h.same (fun _ _ _ => rfl) h1 h2
theorem gh_own {lo hi S sb B : Nat} {gs : List (List Ty)} {ws L : List Int} (pre : List HTh) : OwnFrom B (GH lo hi S sb gs ws L pre) := fun s X Y row hs hg hr => by
 refine ⟨hs.1, ?_, hs.2.2⟩
 rcases hs.2.1 with h | h
 ·exact .inl (fields_own (β := Unit) () X Y row h hg hr)
 ·exact .inr ((fields_own (β := Unit) () X Y row h hg hr).wide' (Nat.le_refl _) hg.size)
theorem rec_own' {β : Type} (B b : Nat) (T : TypeId) (vs : List Value) : OwnFrom B (fun (_ : β) (W : World) => Rec W b T vs) := fun s X Y row hs hg hr => (hg.block b hs.lt (fun e => by
 obtain ⟨_, o, ho, hc⟩ := hr b e.symm
 rw [show X.heap[b]? = _ from hs] at ho; cases ho; simp [Obj.isCells] at hc)).trans hs

theorem index0 (a b c d e f : Value) (w : World) : (Instr.index 126 (.agg #[a, b, c, d, e, f]) (.int .i64 0)).run Tryz.prog w = .ok (.agg #[a, b, c]) w := by
 obtain ⟨i0, hi0, hzz⟩ := Option.map_eq_some_iff.1 (show (Tryz.prog.info? 98).map (·.size) = some 3 by kernel_rfl)
 have hu := run_underlying Tryz.underlying126
 have hv := run_underlying Tryz.underlying98
 simp [Instr.index, hu, hv, asIntOf, part, isAgg, sizeOf, typeInfo, hi0, hzz, go_sem]
theorem index1 (a b c d e f : Value) (w : World) : (Instr.index 126 (.agg #[a, b, c, d, e, f]) (.int .i64 1)).run Tryz.prog w = .ok (.agg #[d, e, f]) w := by
 obtain ⟨i0, hi0, hzz⟩ := Option.map_eq_some_iff.1 (show (Tryz.prog.info? 98).map (·.size) = some 3 by kernel_rfl)
 have hu := run_underlying Tryz.underlying126
 have hv := run_underlying Tryz.underlying98
 simp [Instr.index, hu, hv, asIntOf, part, isAgg, sizeOf, typeInfo, hi0, hzz, go_sem]

/-- A view's things as they are ranged over. -/
theorem viewSeq (n Bv Bk lo hi sb f wn wc u S n₂ : Nat) (ra : Option Addr) (rc cb co cc : Nat) (gs : List (List Ty)) (ws : List Int) (hn : 1 ≤ n) (hP : Parts gs)
 (hu : u ≤ wn) (hfw : f + wn ≤ ws.length) (h160 : ws.length ≤ 160) (hwc : wn ≤ wc) (hwc' : wc ≤ 1000) (hI : ∀ i, -9223372036854775808 ≤ nAt ws i ∧ nAt ws i ≤ 9223372036854775807)
 (w : World) (hn₂ : n₂ ≤ w.heap.size + 2) (hS : S ≤ w.heap.size) (hT : TabIn w lo hi ra cb co gs) (hh : hi ≤ w.heap.size) (hW : WordsAt w sb ws) (hsb : sb < w.heap.size)
 (hv : Rec w Bv 98 [.slice (some ⟨sb, 2 + f, none⟩) wn wc, .int .i64 (f : Int), .int .i64 (u : Int)]) (hk : Rec w Bk 93 [.slice ra (kinCount gs) rc, .slice (some ⟨cb, co, none⟩) (kinCount gs) cc]) :
 SeqL Fence.wide n Tryz.prog 102 #[] #[.pointer (some ⟨Bv, 0, none⟩), .pointer (some ⟨Bk, 0, none⟩)] (fun x => #[thV gs ws x]) (KpH hi sb n₂) (GH lo hi S sb gs ws (part gs ws (f + u) f).1) (fun ys => ys.map (fun y => (y.a : Int)) = (part gs ws (f + u) f).1) (fun pre => pre.map (fun y => (y.a : Int)) <+: (part gs ws (f + u) f).1) w := fun l J Jx W hWb hW2 hJ hJx hY h0 =>
 viewIter Fence.wide n trivial rfl hn (fun n f args w R h => callsIn_wide.2 h) trivial trivial l Bv Bk lo hi sb f wn wc u S n₂ ra rc cb co cc gs ws J Jx hP hu hfw h160 hwc hwc' hI hY W (Nat.le_trans hn₂ hW2) (Nat.le_trans hS hWb.size) hJ (hT.keep (hWb.mono hh)) (Nat.le_trans hh hWb.size) (hW.keep (fun o => hWb.cell (p := ⟨sb, o, none⟩) hsb)) (Nat.lt_of_lt_of_le hsb hWb.size) (hv.below hWb hv.lt) (hk.below hWb hk.lt) h0

theorem keepsFrom_below {B : Nat} {W W' : World} (h : Below W.heap.size W W') : KeepsFrom B W W' := ⟨h.size, fun k o _ hk _ => (h.block k (Array.getElem?_eq_some_iff.1 hk).1).trans hk⟩
theorem own_below {β : Type} {B : Nat} {I : β → World → Prop} (hI : OwnFrom B I) {s : β} {W W' : World} (h : I s W) (hb : Below W.heap.size W W') : I s W' := hI s W W' none h (grown_of hb) (fun r e => by cases e)
theorem below_drew0 {B : Nat} {W W' : World} (h : Below B W.drew W') : Below B W W' := ⟨h.os, h.tape, h.output, h.size, h.block⟩
theorem deferred_own {β : Type} {B D : Nat} {o : Obj} (hD : D < B) : OwnFrom B (fun (_ : β) (W : World) => W.heap[D]? = some o) := fun s X Y row hs hg hr => (hg.block D (Array.getElem?_eq_some_iff.1 hs).1 (fun e => by have := (hr D e.symm).1; omega)).trans hs
/-- What the iterators need of a space. -/
structure SpB (w : World) (lo hi sb : Nat) (gs : List (List Ty)) (ws : List Int) (ra : Option Addr) (rc cb co cc : Nat) : Prop where
 hh : hi ≤ sb
 lt : sb < w.heap.size
 tab : TabIn w lo hi ra cb co gs
 k0 : w.cell? ⟨sb, 0, none⟩ = some (.slice ra (kinCount gs) rc)
 k1 : w.cell? ⟨sb, 1, none⟩ = some (.slice (some ⟨cb, co, none⟩) (kinCount gs) cc)
 ws : WordsAt w sb ws
theorem SpA.b {w : World} {lo hi sb : Nat} {gs : List (List Ty)} {h : GHeap} {ra : Option Addr} {rc cb co cc : Nat} (H : SpA w lo hi sb gs h ra rc cb co cc) : SpB w lo hi sb gs h.words ra rc cb co cc := ⟨H.hh, H.lt, H.tab, H.k0, H.k1, H.ws⟩
theorem SpB.kp {w w' : World} {lo hi sb : Nat} {gs : List (List Ty)} {ws : List Int} {ra : Option Addr} {rc cb co cc : Nat} (H : SpB w lo hi sb gs ws ra rc cb co cc) (k : KpC hi sb w w') (hl : ws.length ≤ 160) : SpB w' lo hi sb gs ws ra rc cb co cc :=
 ⟨H.hh, Nat.lt_of_lt_of_le H.lt k.sz, H.tab.kp k, (k.ws 0 (by omega)).trans H.k0, (k.ws 1 (by omega)).trans H.k1, H.ws.kp k hl⟩
theorem SpB.keep {w w' : World} {lo hi sb : Nat} {gs : List (List Ty)} {ws : List Int} {ra : Option Addr} {rc cb co cc : Nat} (H : SpB w lo hi sb gs ws ra rc cb co cc) (hb : Below w.heap.size w w') : SpB w' lo hi sb gs ws ra rc cb co cc := by
 have c : ∀ o, w'.cell? ⟨sb, o, none⟩ = w.cell? ⟨sb, o, none⟩ := fun o => hb.cell (p := ⟨sb, o, none⟩) H.lt
 exact ⟨H.hh, Nat.lt_of_lt_of_le H.lt hb.size, H.tab.keep (hb.mono (Nat.le_trans H.hh (Nat.le_of_lt H.lt))), (c _).trans H.k0, (c _).trans H.k1, H.ws.keep c⟩

set_option maxRecDepth 100000 in
set_option maxHeartbeats 4000000 in
theorem spThings (n l lo hi sb S n₂ : Nat) (ra : Option Addr) (rc cb co cc : Nat) (gs : List (List Ty)) (h : GHeap) (J Jx : List HTh → World → Prop) (H : HOk gs h) (W : World) (hn₂ : n₂ ≤ W.heap.size) (hS : S ≤ W.heap.size) (hs : SpA W lo hi sb gs h ra rc cb co cc)
 (hJ : OwnFrom W.heap.size J) (hJx : OwnFrom W.heap.size Jx)
 (hY : ∀ pre x W1, J pre W1 → GH lo hi S sb gs h.words (startsF gs h) pre x W1 → YieldAt Fence.wide (n - 1) Tryz.prog l #[thV gs h.words x] W1 fun e W' => (e = .returned (.bool true) ∧ J (pre ++ [x]) W' ∧ KpH hi sb n₂ W1 W') ∨ (e = .returned (.bool false) ∧ Jx (pre ++ [x]) W' ∧ KpH hi sb n₂ W1 W'))
 (h0 : J [] W) :
 CallsIn Fence.wide n Tryz.prog 78 #[.pointer (some ⟨sb, 0, none⟩), .func (.yield l) #[] #[]] W fun e W' => (∃ v, e = .returned v) ∧ ((∃ xs : List HTh, xs.map (fun y => (y.a : Int)) = startsF gs h ∧ J xs W') ∨ (∃ pre : List HTh, pre.map (fun y => (y.a : Int)) <+: startsF gs h ∧ Jx pre W')) := by
 obtain ⟨O, hO⟩ : ∃ O, h.old.toNat = O := ⟨_, rfl⟩
 obtain ⟨A, hA⟩ : ∃ A, h.oldAt.toNat = A := ⟨_, rfl⟩
 obtain ⟨Y, hYA⟩ : ∃ Y, h.youngAt.toNat = Y := ⟨_, rfl⟩
 obtain ⟨M, hM⟩ : ∃ M, h.words.length - O = M := ⟨_, rfl⟩
 have hlen := H.len
 have z1 : A ≤ O := by have := H.sz.a2; omega
 have z2 : O ≤ 120 := by have := H.sz.o2; omega
 have z3 : Y ≤ M := by have := H.sz.y2; have := H.sz.n1; have := H.sz.o1; omega
 have z4 : O + M = h.words.length := by have := H.sz.n1; have := H.sz.o1; omega
 have z5 : M ≤ 40 := by have := H.sz.n2; have := H.sz.n1; have := H.sz.o1; omega
 have HL1 : Hid ((partO gs h).1 = (part gs h.words (0 + A) 0).1) := by show _ = _; unfold partO; rw [hA, Nat.zero_add]
 have HL2 : Hid ((partY gs h).1 = (part gs h.words (O + Y) O).1) := by show _ = _; unfold partY; rw [hO, show (h.old + h.youngAt).toNat = O + Y by have := H.sz.o1; have := H.sz.y1; omega]
 have HST : Hid (startsF gs h = (part gs h.words (0 + A) 0).1 ++ (part gs h.words (O + Y) O).1) := by show _ = _; unfold startsF; rw [HL1.out, HL2.out]
 have e0 := hs.o0
 have e2 := hs.o2
 have e3 := hs.y0
 have e4 := hs.y1
 have e5 := hs.y2
 rw [hO] at e0 e3 e4
 rw [hA] at e2
 rw [hYA] at e5
 rw [hM] at e3
 refine callsIn_of_wp_marks Tryz.func78 rfl trivial ?_ rfl
 simp only [Tryz.ntmps78, List.size_toArray, List.length_cons, List.length_nil, Nat.reduceAdd, Nat.reduceSub, Array.replicate_succ, Array.replicate_zero, List.push_toArray, List.append_toArray, List.nil_append, List.cons_append]
 refine wpIn_wide.2 ?_
 have hmo : Tryz.prog.follows .mixedOrders = true := by kernel_rfl
 have HVW := hide (fun (w : World) (hb : Below W.heap.size W w) => views_any sb O 160 M (160 - O) (some ⟨sb, 2 + 0, none⟩) (some ⟨sb, 2 + O, none⟩) ((0 : Nat) : Int) (A : Int) (O : Int) (Y : Int) w (Nat.lt_of_lt_of_le hs.lt hb.size) ((hb.cell (p := ⟨sb, 162, none⟩) hs.lt).trans e0) ((hb.cell (p := ⟨sb, 163, none⟩) hs.lt).trans hs.o1) ((hb.cell (p := ⟨sb, 164, none⟩) hs.lt).trans e2) ((hb.cell (p := ⟨sb, 165, none⟩) hs.lt).trans e3) ((hb.cell (p := ⟨sb, 166, none⟩) hs.lt).trans e4) ((hb.cell (p := ⟨sb, 167, none⟩) hs.lt).trans e5))
 clear e0 e2 e3 e4 e5
 have IX0 := fun w => index0 (.slice (some ⟨sb, 2, none⟩) O 160) (.int .i64 0) (.int .i64 (A : Int)) (.slice (some ⟨sb, 2 + O, none⟩) M (160 - O)) (.int .i64 (O : Int)) (.int .i64 (Y : Int)) w
 have IX1 := fun w => index1 (.slice (some ⟨sb, 2, none⟩) O 160) (.int .i64 0) (.int .i64 (A : Int)) (.slice (some ⟨sb, 2 + O, none⟩) M (160 - O)) (.int .i64 (O : Int)) (.int .i64 (Y : Int)) w
 have BX := hide (two_b W (.cells #[.func (.yield l) #[] #[]] 151))
 have RX := hide (Rec.new W 151 [.func (.yield l) #[] #[]])
 go_wp2_with fail
 refine (HVW.out _ BX.out).mono ?_
 rintro e W2 ⟨rfl, b2⟩
 have B2 := hide (BX.out.trans (b2.mono BX.out.size))
 have X2 := hide (RX.out.below b2 RX.out.lt)
 clear b2 BX RX HVW
 have HVT := hide (fun (x0 x1 x2 y0 y1 : Value) (w : World) => callsIn_wide.1 (viewThings_in Fence.wide 0 trivial rfl x0 x1 x2 y0 y1 w))
 have SPW2 := hide (hs.b.keep B2.out)
 have XW2 := X2
 have JW2 : Hid (J (([] : List HTh) ++ []) W2) := own_below hJ h0 B2.out
 have ZW2 := hide B2.out.size
 have HPX1 : Hid (∀ (pre : List HTh) (x : HTh), (pre ++ [x]).map (fun y => (y.a : Int)) <+: (part gs h.words (0 + A) 0).1 → ((([] : List HTh) ++ pre) ++ [x]).map (fun y => (y.a : Int)) <+: startsF gs h) := fun pre x hp => by rw [HST.out]; exact hp.trans (List.prefix_append _ _)
 have HPY1 : Hid (∀ (pre : List HTh), pre.map (fun y => (y.a : Int)) <+: (part gs h.words (0 + A) 0).1 → (([] : List HTh) ++ pre).map (fun y => (y.a : Int)) <+: startsF gs h) := fun pre hp => by rw [HST.out]; exact hp.trans (List.prefix_append _ _)
 clear X2 B2
 go_wp2_with fail
 refine wp_loop_rounds 3 ?_
 unfold Code.rounds
 obtain ⟨Wa1r, hWa1r⟩ : ∃ X, X = W2.alloc (.cells #[.slice (some ⟨sb, 2, none⟩) O 160, .int .i64 0, .int .i64 (A : Int)] 98) := ⟨_, rfl⟩
 have hsbW2 : sb < W2.heap.size + 1 := by have := SPW2.out.lt; omega
 go_wp2_with fail
 rw [← hWa1r]
 have BWa1r : Hid (Below W2.heap.size W2 Wa1r) := by show Below _ _ _; rw [hWa1r]; exact two_b _ _
 have Va1r : Hid (Rec Wa1r W2.heap.size 98 [.slice (some ⟨sb, 2, none⟩) O 160, .int .i64 0, .int .i64 (A : Int)]) := by show Rec _ _ _ _; rw [hWa1r]; exact Rec.new _ _ _
 have Xa1r : Hid (Rec Wa1r W.heap.size 151 [.func (.yield l) #[] #[]]) := XW2.out.below BWa1r.out XW2.out.lt
 have Sa1r := hide (SPW2.out.keep BWa1r.out)
 clear hWa1r hsbW2
 have k0 := Sa1r.out.k0
 have k1 := Sa1r.out.k1
 have v0 := Va1r.out.cell (o := 0) rfl
 have v1 := Va1r.out.cell (o := 1) rfl
 have v2 := Va1r.out.cell (o := 2) rfl
 go_region_held3 (fun w' => w'.cell? ⟨W2.heap.size, 0, none⟩ = some (.slice (some ⟨sb, 2, none⟩) O 160) ∧ w'.cell? ⟨W2.heap.size, 1, none⟩ = some (.int .i64 0) ∧ w'.cell? ⟨W2.heap.size, 2, none⟩ = some (.int .i64 (A : Int)) ∧ w'.cell? ⟨sb, 0, none⟩ = some (.slice ra (kinCount gs) rc) ∧ w'.cell? ⟨sb, 1, none⟩ = some (.slice (some ⟨cb, co, none⟩) (kinCount gs) cc)) (go_keep) ((go_at_call 75; refine (HVT.out _ _ _ _ _ _).mono ?_; rintro e Wb1r ⟨rfl, hW4⟩; have b4 : Below Wa1r.drew.heap.size Wa1r.drew Wb1r := (by rw [hW4]; exact ((Below.refl _ _).alloc (Nat.le_refl _) _).alloc (by simp) _); have VB1r : Hid (Rec Wb1r Wa1r.heap.size 98 [.slice (some ⟨sb, 2, none⟩) O 160, .int .i64 0, .int .i64 (A : Int)]) := (by show Rec _ _ _ _; rw [hW4]; exact (Rec.new Wa1r.drew _ _).alloc _); have KB1r : Hid (Rec Wb1r (Wa1r.heap.size + 1) 93 [.slice ra (kinCount gs) rc, .slice (some ⟨cb, co, none⟩) (kinCount gs) cc]) := (by show Rec _ _ _ _; rw [hW4]; exact Rec.new' _ _ _ _ (by simp)); have HB1r := hide (below_drew0 b4); clear hW4 b4; have k0 := (HB1r.out.cell (p := ⟨sb, 0, none⟩) Sa1r.out.lt).trans k0; have k1 := (HB1r.out.cell (p := ⟨sb, 1, none⟩) Sa1r.out.lt).trans k1; have v0 := (HB1r.out.cell (p := ⟨W2.heap.size, 0, none⟩) Va1r.out.lt).trans v0; have v1 := (HB1r.out.cell (p := ⟨W2.heap.size, 1, none⟩) Va1r.out.lt).trans v1; have v2 := (HB1r.out.cell (p := ⟨W2.heap.size, 2, none⟩) Va1r.out.lt).trans v2))
 rename_i hHeld
 clear hHeld k0 k1 v0 v1 v2
 go_wp2_with fail
 have BB1 : Hid (Below W2.heap.size W2 Wb1r) := BWa1r.out.trans (HB1r.out.mono BWa1r.out.size)
 have SQ1 := hide (SPW2.out.keep BB1.out)
 have XQ1 := hide (XW2.out.below BB1.out XW2.out.lt)
 have JQ1 : Hid (J (([] : List HTh) ++ []) Wb1r) := own_below hJ JW2.out BB1.out
 have ZQ1 : Hid (W.heap.size ≤ Wb1r.heap.size) := Nat.le_trans ZW2.out BB1.out.size
 have hi1 : hi ≤ Wb1r.heap.size := Nat.le_trans SQ1.out.hh (Nat.le_of_lt SQ1.out.lt)
 clear Va1r Xa1r Sa1r BWa1r HB1r SPW2 XW2 JW2 ZW2 BB1
 have hz1 := ZQ1.out
 have hs1 := SQ1.out.lt
 refine (wpIn_wide (n := 5)).1 ?_
 refine range_leave (F := Fence.wide) rfl (by omega) (gf := 102) (cap := #[]) (lb := #[.pointer (some ⟨Wa1r.heap.size, 0, none⟩), .pointer (some ⟨Wa1r.heap.size + 1, 0, none⟩)]) rfl trivial (enters_of Tryz.func102 (by kernel_rfl) rfl)
  (viewSeq (5 - 1) Wa1r.heap.size (Wa1r.heap.size + 1) lo hi sb 0 O 160 A S (Wb1r.heap.size + 2) ra rc cb co cc gs h.words (by omega) H.pa (by omega) (by omega) hlen (by omega) (by omega) H.wb Wb1r (Nat.le_refl _) (by omega) SQ1.out.tab hi1 SQ1.out.ws SQ1.out.lt VB1r.out KB1r.out)
  KpH.trans (fun W o o' => KpH.put (by omega) (by omega) (by omega) W o o') (Below.refl _ _) (fun _ => rfl)
  (fun pre W' => J (([] : List HTh) ++ pre) W' ∧ KpC hi sb Wb1r W') (fun c pre W' => c = .ret ∧ Jx (([] : List HTh) ++ pre) W') (OwnFrom.and (fun s X Y row h1 h2 h3 => hJ _ X Y row h1 h2 fun r e => ⟨Nat.le_trans ZQ1.out (h3 r e).1, (h3 r e).2⟩) (KpC.own hi1 (by omega) (Nat.le_refl _))) (fun c s X Y row h1 h2 h3 => ⟨h1.1, hJx _ X Y row h1.2 h2 fun r e => ⟨Nat.le_trans ZQ1.out (h3 r e).1, (h3 r e).2⟩⟩) (fun pre => gh_own pre) ⟨JQ1.out, KpC.refl _ _ _⟩
  (fun x a' W' => ∃ b, a' = { tmps := #[.pointer (some ⟨sb, 0, none⟩), .func (.yield l) #[] #[], undef, .pointer (some ⟨W.heap.size, 0, none⟩), undef, .pointer (some ⟨W2.heap.size, 0, none⟩), .pointer (some ⟨b, 0, none⟩), .pointer (some ⟨sb, 0, none⟩), .agg #[.slice (some ⟨sb, 2, none⟩) O 160, .int .i64 0, .int .i64 (A : Int), .slice (some ⟨sb, 2 + O, none⟩) M (160 - O), .int .i64 (O : Int), .int .i64 (Y : Int)], .int .i64 0, .bool true, .agg #[.slice (some ⟨sb, 2, none⟩) O 160, .int .i64 0, .int .i64 (A : Int)], .agg #[.slice (some ⟨sb, 2, none⟩) O 160, .int .i64 0, .int .i64 (A : Int)], .pointer (some ⟨sb, 0, none⟩), .pointer (some ⟨sb, 0, none⟩), .pointer (some ⟨sb, 0, none⟩), .agg #[.slice ra (kinCount gs) rc, .slice (some ⟨cb, co, none⟩) (kinCount gs) cc], .func (.func 102) #[] #[.pointer (some ⟨Wa1r.heap.size, 0, none⟩), .pointer (some ⟨Wa1r.heap.size + 1, 0, none⟩)], thV gs h.words x, undef, undef, undef, undef, undef], defers := [] } ∧ Rec W' b 131 [.int .i64 (x.a : Int), .int .i64 (nAt h.words x.a / 16), .slice x.fa (lenW gs h.words x.a) x.fc, .slice x.wa (lenW gs h.words x.a) x.wc]) (fun x a' s X Y row h1 h2 h3 => by obtain ⟨b, q1, q2⟩ := h1; exact ⟨b, q1, rec_own' (β := Unit) _ b _ _ () X Y row q2 h2 h3⟩) ?assign ?body ?done ?stop
 case assign =>
  rintro l' pre ⟨xa, fa, fc, wa, wc⟩ Wx K ⟨hj, hkp⟩ hg hK
  simp only [thV]
  gi_wp2
  have hb := two_b Wx (.cells #[.int .i64 (xa : Int), .int .i64 (nAt h.words xa / 16), .slice fa (lenW gs h.words xa) fc, .slice wa (lenW gs h.words xa) wc] 131)
  have hz := hkp.sz
  exact hK _ _ (keepsFrom_below hb) (KpH.of_below hb (by omega) (by omega)) ⟨hJ.alloc _ hj, hkp.trans (KpC.of_below hb (by omega) (by omega))⟩ ((gh_own (B := 0) pre).alloc _ hg) ⟨Wx.heap.size, rfl, Rec.new _ _ _⟩
 case body =>
  rintro l' pre ⟨xa, fa, fc, wa, wc⟩ a' Wx ⟨hj, hkp⟩ hg ⟨b, rfl, hrec⟩
  obtain ⟨fn, tmps, assign, body, hy, hR⟩ := yieldAt_wide (m := 5 - 1 - 1 - 1) (l' := l') (hY (([] : List HTh) ++ pre) ⟨xa, fa, fc, wa, wc⟩ Wx hj ⟨HPX1.out pre _ hg.1, hg.2⟩)
  simp only [thV] at hy ⊢
  have HRR := hide hR
  have XX := hide (XQ1.out.kp hkp (.inr (.inr (.inr rfl))))
  have x0 := XX.out.cell (o := 0) rfl
  have t0 := hrec.cell (o := 0) rfl
  have t1 := hrec.cell (o := 1) rfl
  have t2 := hrec.cell (o := 2) rfl
  have t3 := hrec.cell (o := 3) rfl
  have HKC := hide hkp
  clear hR hj hg hrec hkp XX
  gi_wp2
  refine HRR.out.mono ?_
  have HKF : Hid (∀ W5, KpH hi sb n₂ Wx W5 → KeepsFrom Wb1r.heap.size Wx W5 ∧ KpH hi sb (Wb1r.heap.size + 2) Wx W5 ∧ KpC hi sb Wb1r W5) := fun W5 h => ⟨⟨h.sz, fun k o q1 q2 q3 => h.oth k o (by omega) q2 q3⟩, h.less (by omega), HKC.out.trans h.toKpC⟩
  rintro e W5 (⟨rfl, hj5, hk5⟩ | ⟨rfl, hx5, hk5⟩)
  ·have HX := hide (HKF.out W5 hk5)
   have HJ5 := hide hj5
   clear HRR hj5 hk5 hy HKF
   gi_wp2
   exact ⟨HX.out.1, HX.out.2.1, by rw [← List.append_assoc]; exact HJ5.out, HX.out.2.2⟩
  ·have HX := hide (HKF.out W5 hk5)
   have HJ5 := hide hx5
   clear HRR hx5 hk5 hy HKF
   gi_wp2
   exact ⟨HX.out.1, HX.out.2.1, rfl, by rw [← List.append_assoc]; exact HJ5.out⟩
 case stop =>
  rintro D c pre W8 hD hpre ⟨rfl, hx6⟩ hD8
  have HX := hide hx6
  have HDD := hide hD8
  have HPP := hide (HPY1.out pre hpre)
  clear hx6 hpre hD8
  refine wpIn_wide.2 ?_
  go_wp2_with fail
  refine ⟨by simp, .inl ⟨_, _, rfl, run_takeDeferred HDD.out, ?_⟩⟩
  exact ⟨_, results_none rfl _ _ _, ⟨_, rfl⟩, .inr ⟨_, HPP.out, hJx.putObj _ HX.out (by omega) HDD.out rfl⟩⟩
 case done =>
  rintro D1 ys1 W6 hD1 hys1 ⟨hj6, hkp6⟩ hK1
  have SPW6 := hide (SQ1.out.kp hkp6 hlen)
  have XW6 := hide (XQ1.out.kp hkp6 (.inr (.inr (.inr rfl))))
  have JW6 : Hid (J (ys1 ++ []) W6) := by show J _ _; rw [List.append_nil]; exact hj6
  have ZW6 : Hid (W.heap.size ≤ W6.heap.size) := Nat.le_trans ZQ1.out hkp6.sz
  have KD := hide hK1
  have KDl : D1 < W6.heap.size := (Array.getElem?_eq_some_iff.1 hK1).1
  have HY1 := hide hys1
  have HPX2 : Hid (∀ (pre : List HTh) (x : HTh), (pre ++ [x]).map (fun y => (y.a : Int)) <+: (part gs h.words (O + Y) O).1 → ((ys1 ++ pre) ++ [x]).map (fun y => (y.a : Int)) <+: startsF gs h) := fun pre x hp => by rw [HST.out, List.append_assoc, List.map_append, hys1]; exact List.prefix_append_right_inj _ |>.2 hp
  have HPY2 : Hid (∀ (pre : List HTh), pre.map (fun y => (y.a : Int)) <+: (part gs h.words (O + Y) O).1 → (ys1 ++ pre).map (fun y => (y.a : Int)) <+: startsF gs h) := fun pre hp => by rw [HST.out, List.map_append, hys1]; exact List.prefix_append_right_inj _ |>.2 hp
  have hDW : W.heap.size ≤ D1 := Nat.le_trans hz1 hD1
  clear hj6 hkp6 hK1 hys1 hz1 hs1 hi1 SQ1 XQ1 JQ1 ZQ1 HPX1 HPY1 VB1r KB1r
  go_wp2_with fail
  unfold Code.rounds
  obtain ⟨Wa2r, hWa2r⟩ : ∃ X, X = W6.alloc (.cells #[.slice (some ⟨sb, 2 + O, none⟩) M (160 - O), .int .i64 (O : Int), .int .i64 (Y : Int)] 98) := ⟨_, rfl⟩
  have hsbW6 : sb < W6.heap.size + 1 := by have := SPW6.out.lt; omega
  go_wp2_with fail
  rw [← hWa2r]
  have BWa2r : Hid (Below W6.heap.size W6 Wa2r) := by show Below _ _ _; rw [hWa2r]; exact two_b _ _
  have Va2r : Hid (Rec Wa2r W6.heap.size 98 [.slice (some ⟨sb, 2 + O, none⟩) M (160 - O), .int .i64 (O : Int), .int .i64 (Y : Int)]) := by show Rec _ _ _ _; rw [hWa2r]; exact Rec.new _ _ _
  have Xa2r : Hid (Rec Wa2r W.heap.size 151 [.func (.yield l) #[] #[]]) := XW6.out.below BWa2r.out XW6.out.lt
  have Sa2r := hide (SPW6.out.keep BWa2r.out)
  clear hWa2r hsbW6
  have k0 := Sa2r.out.k0
  have k1 := Sa2r.out.k1
  have v0 := Va2r.out.cell (o := 0) rfl
  have v1 := Va2r.out.cell (o := 1) rfl
  have v2 := Va2r.out.cell (o := 2) rfl
  go_region_held3 (fun w' => w'.cell? ⟨W6.heap.size, 0, none⟩ = some (.slice (some ⟨sb, 2 + O, none⟩) M (160 - O)) ∧ w'.cell? ⟨W6.heap.size, 1, none⟩ = some (.int .i64 (O : Int)) ∧ w'.cell? ⟨W6.heap.size, 2, none⟩ = some (.int .i64 (Y : Int)) ∧ w'.cell? ⟨sb, 0, none⟩ = some (.slice ra (kinCount gs) rc) ∧ w'.cell? ⟨sb, 1, none⟩ = some (.slice (some ⟨cb, co, none⟩) (kinCount gs) cc)) (go_keep) ((go_at_call 75; refine (HVT.out _ _ _ _ _ _).mono ?_; rintro e Wb2r ⟨rfl, hW4⟩; have b4 : Below Wa2r.drew.heap.size Wa2r.drew Wb2r := (by rw [hW4]; exact ((Below.refl _ _).alloc (Nat.le_refl _) _).alloc (by simp) _); have VB2r : Hid (Rec Wb2r Wa2r.heap.size 98 [.slice (some ⟨sb, 2 + O, none⟩) M (160 - O), .int .i64 (O : Int), .int .i64 (Y : Int)]) := (by show Rec _ _ _ _; rw [hW4]; exact (Rec.new Wa2r.drew _ _).alloc _); have KB2r : Hid (Rec Wb2r (Wa2r.heap.size + 1) 93 [.slice ra (kinCount gs) rc, .slice (some ⟨cb, co, none⟩) (kinCount gs) cc]) := (by show Rec _ _ _ _; rw [hW4]; exact Rec.new' _ _ _ _ (by simp)); have HB2r := hide (below_drew0 b4); clear hW4 b4; have k0 := (HB2r.out.cell (p := ⟨sb, 0, none⟩) Sa2r.out.lt).trans k0; have k1 := (HB2r.out.cell (p := ⟨sb, 1, none⟩) Sa2r.out.lt).trans k1; have v0 := (HB2r.out.cell (p := ⟨W6.heap.size, 0, none⟩) Va2r.out.lt).trans v0; have v1 := (HB2r.out.cell (p := ⟨W6.heap.size, 1, none⟩) Va2r.out.lt).trans v1; have v2 := (HB2r.out.cell (p := ⟨W6.heap.size, 2, none⟩) Va2r.out.lt).trans v2))
  rename_i hHeld
  clear hHeld k0 k1 v0 v1 v2
  go_wp2_with fail
  have BB2 : Hid (Below W6.heap.size W6 Wb2r) := BWa2r.out.trans (HB2r.out.mono BWa2r.out.size)
  have SQ2 := hide (SPW6.out.keep BB2.out)
  have XQ2 := hide (XW6.out.below BB2.out XW6.out.lt)
  have JQ2 : Hid (J (ys1 ++ []) Wb2r) := own_below hJ JW6.out BB2.out
  have ZQ2 : Hid (W.heap.size ≤ Wb2r.heap.size) := Nat.le_trans ZW6.out BB2.out.size
  have hi2 : hi ≤ Wb2r.heap.size := Nat.le_trans SQ2.out.hh (Nat.le_of_lt SQ2.out.lt)
  have BB2D := BB2
  clear Va2r Xa2r Sa2r BWa2r HB2r SPW6 XW6 JW6 ZW6 BB2
  have hz2 := ZQ2.out
  have hs2 := SQ2.out.lt
  have KD2 := hide ((BB2D.out.block D1 KDl).trans KD.out)
  have hDQ : D1 < Wb2r.heap.size := Nat.lt_of_lt_of_le KDl BB2D.out.size
  refine (wpIn_wide (n := 5)).1 ?_
  refine range_leave (F := Fence.wide) rfl (by omega) (gf := 102) (cap := #[]) (lb := #[.pointer (some ⟨Wa2r.heap.size, 0, none⟩), .pointer (some ⟨Wa2r.heap.size + 1, 0, none⟩)]) rfl trivial (enters_of Tryz.func102 (by kernel_rfl) rfl)
   (viewSeq (5 - 1) Wa2r.heap.size (Wa2r.heap.size + 1) lo hi sb O M (160 - O) Y S (Wb2r.heap.size + 2) ra rc cb co cc gs h.words (by omega) H.pa (by omega) (by omega) hlen (by omega) (by omega) H.wb Wb2r (Nat.le_refl _) (by omega) SQ2.out.tab hi2 SQ2.out.ws SQ2.out.lt VB2r.out KB2r.out)
   KpH.trans (fun W o o' => KpH.put (by omega) (by omega) (by omega) W o o') (Below.refl _ _) (fun _ => rfl)
   (fun pre W' => (J (ys1 ++ pre) W' ∧ KpC hi sb Wb2r W') ∧ W'.heap[D1]? = some (.deferred (some []))) (fun c pre W' => (c = .ret ∧ Jx (ys1 ++ pre) W') ∧ W'.heap[D1]? = some (.deferred (some []))) (OwnFrom.and (OwnFrom.and (fun s X Y row h1 h2 h3 => hJ _ X Y row h1 h2 fun r e => ⟨Nat.le_trans ZQ2.out (h3 r e).1, (h3 r e).2⟩) (KpC.own hi2 (by omega) (Nat.le_refl _))) (deferred_own hDQ)) (fun c => OwnFrom.and (fun s X Y row h1 h2 h3 => ⟨h1.1, hJx _ X Y row h1.2 h2 fun r e => ⟨Nat.le_trans ZQ2.out (h3 r e).1, (h3 r e).2⟩⟩) (deferred_own hDQ)) (fun pre => gh_own pre) ⟨⟨JQ2.out, KpC.refl _ _ _⟩, KD2.out⟩
   (fun x a' W' => ∃ b, a' = { tmps := #[.pointer (some ⟨sb, 0, none⟩), .func (.yield l) #[] #[], undef, .pointer (some ⟨W.heap.size, 0, none⟩), undef, .pointer (some ⟨W6.heap.size, 0, none⟩), .pointer (some ⟨b, 0, none⟩), .pointer (some ⟨sb, 0, none⟩), .agg #[.slice (some ⟨sb, 2, none⟩) O 160, .int .i64 0, .int .i64 (A : Int), .slice (some ⟨sb, 2 + O, none⟩) M (160 - O), .int .i64 (O : Int), .int .i64 (Y : Int)], .int .i64 1, .bool true, .agg #[.slice (some ⟨sb, 2 + O, none⟩) M (160 - O), .int .i64 (O : Int), .int .i64 (Y : Int)], .agg #[.slice (some ⟨sb, 2 + O, none⟩) M (160 - O), .int .i64 (O : Int), .int .i64 (Y : Int)], .pointer (some ⟨sb, 0, none⟩), .pointer (some ⟨sb, 0, none⟩), .pointer (some ⟨sb, 0, none⟩), .agg #[.slice ra (kinCount gs) rc, .slice (some ⟨cb, co, none⟩) (kinCount gs) cc], .func (.func 102) #[] #[.pointer (some ⟨Wa2r.heap.size, 0, none⟩), .pointer (some ⟨Wa2r.heap.size + 1, 0, none⟩)], thV gs h.words x, undef, undef, undef, undef, .int .i64 1], defers := [] } ∧ Rec W' b 131 [.int .i64 (x.a : Int), .int .i64 (nAt h.words x.a / 16), .slice x.fa (lenW gs h.words x.a) x.fc, .slice x.wa (lenW gs h.words x.a) x.wc]) (fun x a' s X Y row h1 h2 h3 => by obtain ⟨b, q1, q2⟩ := h1; exact ⟨b, q1, rec_own' (β := Unit) _ b _ _ () X Y row q2 h2 h3⟩) ?assign ?body ?done ?stop
  case assign =>
   rintro l' pre ⟨xa, fa, fc, wa, wc⟩ Wx K ⟨⟨hj, hkp⟩, hdk⟩ hg hK
   simp only [thV]
   gi_wp2
   have hb := two_b Wx (.cells #[.int .i64 (xa : Int), .int .i64 (nAt h.words xa / 16), .slice fa (lenW gs h.words xa) fc, .slice wa (lenW gs h.words xa) wc] 131)
   have hz := hkp.sz
   exact hK _ _ (keepsFrom_below hb) (KpH.of_below hb (by omega) (by omega)) ⟨⟨hJ.alloc _ hj, hkp.trans (KpC.of_below hb (by omega) (by omega))⟩, (hb.block D1 (by omega)).trans hdk⟩ ((gh_own (B := 0) pre).alloc _ hg) ⟨Wx.heap.size, rfl, Rec.new _ _ _⟩
  case body =>
   rintro l' pre ⟨xa, fa, fc, wa, wc⟩ a' Wx ⟨⟨hj, hkp⟩, hdk⟩ hg ⟨b, rfl, hrec⟩
   obtain ⟨fn, tmps, assign, body, hy, hR⟩ := yieldAt_wide (m := 5 - 1 - 1 - 1) (l' := l') (hY (ys1 ++ pre) ⟨xa, fa, fc, wa, wc⟩ Wx hj ⟨HPX2.out pre _ hg.1, hg.2⟩)
   simp only [thV] at hy ⊢
   have HRR := hide hR
   have XX := hide (XQ2.out.kp hkp (.inr (.inr (.inr rfl))))
   have x0 := XX.out.cell (o := 0) rfl
   have t0 := hrec.cell (o := 0) rfl
   have t1 := hrec.cell (o := 1) rfl
   have t2 := hrec.cell (o := 2) rfl
   have t3 := hrec.cell (o := 3) rfl
   have HKC := hide hkp
   have HDK := hide hdk
   clear hR hj hg hrec hkp XX hdk
   gi_wp2
   refine HRR.out.mono ?_
   have HKF : Hid (∀ W5, KpH hi sb n₂ Wx W5 → KeepsFrom Wb2r.heap.size Wx W5 ∧ KpH hi sb (Wb2r.heap.size + 2) Wx W5 ∧ KpC hi sb Wb2r W5 ∧ W5.heap[D1]? = some (.deferred (some []))) := fun W5 h => ⟨⟨h.sz, fun k o q1 q2 q3 => h.oth k o (by omega) q2 q3⟩, h.less (by omega), HKC.out.trans h.toKpC, h.oth D1 _ (by omega) HDK.out rfl⟩
   rintro e W5 (⟨rfl, hj5, hk5⟩ | ⟨rfl, hx5, hk5⟩)
   ·have HX := hide (HKF.out W5 hk5)
    have HJ5 := hide hj5
    clear HRR hj5 hk5 hy HKF
    gi_wp2
    exact ⟨HX.out.1, HX.out.2.1, ⟨by rw [← List.append_assoc]; exact HJ5.out, HX.out.2.2.1⟩, HX.out.2.2.2⟩
   ·have HX := hide (HKF.out W5 hk5)
    have HJ5 := hide hx5
    clear HRR hx5 hk5 hy HKF
    gi_wp2
    exact ⟨HX.out.1, HX.out.2.1, ⟨rfl, by rw [← List.append_assoc]; exact HJ5.out⟩, HX.out.2.2.2⟩
  case stop =>
   rintro D c pre W8 hD hpre ⟨⟨rfl, hx6⟩, hdk⟩ hD8
   have HX := hide hx6
   have HDD := hide hD8
   have HPP := hide (HPY2.out pre hpre)
   have HDK := hide hdk
   clear hx6 hpre hD8 hdk
   refine wpIn_wide.2 ?_
   go_wp2_with fail
   refine ⟨by simp, .inl ⟨_, _, rfl, run_takeDeferred HDD.out, ?_⟩⟩
   have HD1 : (W8.putObj D (.deferred none)).heap[D1]? = some (.deferred (some [])) := (World.putObj_heap_other (by omega)).trans HDK.out
   refine ⟨by simp, .inl ⟨_, _, rfl, run_takeDeferred HD1, ?_⟩⟩
   exact ⟨_, results_none rfl _ _ _, ⟨_, rfl⟩, .inr ⟨_, HPP.out, hJx.putObj _ (hJx.putObj _ HX.out (by omega) HDD.out rfl) (by omega) HD1 rfl⟩⟩
  case done =>
   rintro D ys2 W8 hD hys2 ⟨⟨hj8, hkp8⟩, hdk⟩ hD8
   have HX := hide hj8
   have HDD := hide hD8
   have HDK := hide hdk
   have HY2 := hide hys2
   clear hj8 hkp8 hD8 hdk hys2
   go_wp2_with fail
   unfold Code.rounds
   go_wp2_with fail
   refine ⟨by simp, .inl ⟨_, _, rfl, run_takeDeferred HDD.out, ?_⟩⟩
   have HD1 : (W8.putObj D (.deferred none)).heap[D1]? = some (.deferred (some [])) := (World.putObj_heap_other (by omega)).trans HDK.out
   refine ⟨by simp, .inl ⟨_, _, rfl, run_takeDeferred HD1, ?_⟩⟩
   exact ⟨_, results_none rfl _ _ _, ⟨_, rfl⟩, .inl ⟨_, by rw [List.map_append, HY1.out, HY2.out, HST.out], hJ.putObj _ (hJ.putObj _ HX.out (by omega) HDD.out rfl) (by omega) HD1 rfl⟩⟩
end Go.Proofs.YtembifoimiochaaGreatDoor
