/- heapSpace.keepLog: whether a log is right. -/
import Derived.Test.YtembifoimiochaaGreatDoorHpV6
namespace Go.Proofs.YtembifoimiochaaGreatDoor
open Go.ChangeShapes Go.WideShapes Go.ChangeAt Go.RowKit Go.Shelf Go.Deep
set_option linter.unusedVariables false
set_option linter.unusedSimpArgs false
attribute [local go_sem] Oper.semAt_some

theorem callsRound {l n : Nat} {P : Program} {f : FuncId} {args : Array Value} {w : World} {R : Ending → World → Prop} (h : Calls P f args w R) : CallsIn (Fence.wide.inRound l) n P f args w R := CallsIn.inRound l (callsIn_wide.2 h)
theorem bv_none : ∀ n, bv (fun _ => false) n = 0
 | 0 => rfl
 | n + 1 => by unfold bv; rw [bv_none n]; simp
theorem BitsB.new (w : World) : BitsB (w.alloc (.cells #[.int .u64 0, .int .u64 0, .int .u64 0] 104)) w.heap.size (fun _ => false) := by
 unfold BitsB bitsV
 rw [bv_none]
 exact Rec.new _ _ _
theorem bitsB_grow {b : Nat} {P : Nat → Bool} {X Y : World} {row : Option Nat} (h : BitsB X b P) (hg : X.grownBy Y row) (hr : ∀ r, row = some r → ∃ o : Obj, X.heap[r]? = some o ∧ o.isCells = false) : BitsB Y b P :=
 rec_own' (β := Unit) 0 b _ _ () X Y row h hg (fun r e => ⟨Nat.zero_le _, hr r e⟩)
theorem below_grow {B : Nat} {A X Y : World} {row : Option Nat} (hBA : B ≤ A.heap.size) (h : Below B A X) (hg : X.grownBy Y row) (hr : ∀ r, row = some r → B ≤ r) : Below B A Y :=
 ⟨hg.os.trans h.os, hg.tape.trans h.tape, hg.output.trans h.output, Nat.le_trans h.size hg.size, fun k hk => (hg.block k (Nat.lt_of_lt_of_le hk (Nat.le_trans hBA h.size)) (fun e => by have := hr k e.symm; omega)).trans (h.block k hk)⟩
/-- What a round keeps of the two sets. -/
def KlI (gs : List (List Ty)) (h : GHeap) (B0 b c : Nat) (A : World) (pre : List HTh) (W : World) : Prop :=
 (Below B0 A W ∧ BitsB W b (fun m => plB gs h (ref1 gs h) (pre.map (fun y => (y.a : Int))) m)) ∧ BitsB W c (fun m => plB gs h (yng1 gs h) (pre.map (fun y => (y.a : Int))) m)
theorem KlI.own {gs : List (List Ty)} {h : GHeap} {B0 b c B : Nat} {A : World} (h1 : B0 ≤ A.heap.size) (h2 : B0 ≤ B) : OwnFrom B (KlI gs h B0 b c A) := by
 intro s X Y row hs hg hr
 exact ⟨⟨below_grow h1 hs.1.1 hg (fun r e => Nat.le_trans h2 (hr r e).1), bitsB_grow hs.1.2 hg (fun r e => (hr r e).2)⟩, bitsB_grow hs.2 hg (fun r e => (hr r e).2)⟩
theorem Rec.keepB {w w' : World} {B b : Nat} {T : TypeId} {vs : List Value} (h : Rec w b T vs) (hb : Below B w w') (hl : b < B) : Rec w' b T vs := (hb.block b hl).trans h
theorem LogAt.base {w w' : World} {sb : Nat} (h : LogAt w w.heap.size sb []) (hb : Below w.heap.size w w') (hs : sb < w.heap.size) : LogAt w' w'.heap.size sb [] := by
 obtain ⟨va, cap, h1, h2, h3⟩ := h
 have e : Value.slice va 0 cap = .slice none 0 0 := by
  rcases h2.2 with ⟨e, _⟩ | ⟨g, cap', cur, e, hS, hg, _⟩
  ·exact e
  ·have := (Array.getElem?_eq_some_iff.1 hg).1; omega
 cases e
 exact ⟨none, 0, (hb.cell (p := ⟨sb, 488, none⟩) hs).trans h1, NRow.nil _ _, h3.cells fun o => hb.cell (p := ⟨sb, o, none⟩) hs⟩
theorem LogAt.lower {w : World} {S S' sb : Nat} {L : List Int} (h : LogAt w S sb L) (hS : S' ≤ S) : LogAt w S' sb L := by
 obtain ⟨va, cap, h1, h2, h3⟩ := h
 exact ⟨va, cap, h1, owns_lower h2 hS, h3⟩
theorem LogAt.put {w : World} {S sb D : Nat} {L : List Int} {o : Obj} (h : LogAt w S sb L) (hD : D < S) (hs : sb ≠ D) : LogAt (w.putObj D o) S sb L := by
 obtain ⟨va, cap, h1, h2, h3⟩ := h
 have c : ∀ o', (w.putObj D o).cell? ⟨sb, o', none⟩ = w.cell? ⟨sb, o', none⟩ := fun o' => World.cell?_of_block (w := w) (World.putObj_heap_other hs)
 exact ⟨va, cap, (c _).trans h1, owns_of_block h2 fun k hk => World.putObj_heap_other (by have := owns_base h2 k hk; omega), h3.cells c⟩
theorem KpT.mono {S S' sb : Nat} {A B : World} (h : KpT S sb A B) (hS : S' ≤ S) : KpT S' sb A B := ⟨h.os, h.tape, h.output, h.sz, fun k h1 h2 => h.blk k (by omega) h2, h.ws, h.fr⟩
theorem pigeon : ∀ (n : Nat) (L : List Int), L.Nodup → (∀ x ∈ L, 0 ≤ x ∧ x < (n : Int)) → L.length ≤ n
 | 0, [], _, _ => Nat.le_refl _
 | 0, x :: _, _, h => by have := h x (List.mem_cons_self ..); omega
 | n + 1, L, hn, h => by
  have h1 := pigeon n (L.erase (n : Int)) (hn.erase _) (fun x hx => by
   have h2 := (hn.mem_erase_iff).1 hx
   have h3 := h x h2.2
   have h4 : x ≠ (n : Int) := h2.1
   omega)
  rw [List.length_erase] at h1
  split at h1 <;> omega
theorem log_few {L : List Int} {LP : Nat → Bool} {Q : Nat → Bool} (hLP : ∀ k, LP k = ((decide (0 ≤ nAt L k ∧ nAt L k < 160) && Q (nAt L k).toNat) && !decide (nAt L k ∈ L.take k))) : ∀ k, k ≤ L.length → allTo LP k = true → (L.take k).Nodup ∧ ∀ x ∈ L.take k, 0 ≤ x ∧ x < ((160 : Nat) : Int)
 | 0, _, _ => by simp
 | k + 1, hk, h => by
  have h1 : allTo LP k = true ∧ LP k = true := by
   rw [allTo, Bool.and_eq_true] at h; exact h
  obtain ⟨i1, i2⟩ := log_few hLP k (by omega) h1.1
  have h2 := h1.2
  rw [hLP, Bool.and_eq_true, Bool.and_eq_true] at h2
  have h3 : 0 ≤ nAt L k ∧ nAt L k < 160 := of_decide_eq_true h2.1.1
  have h4 : ¬ nAt L k ∈ L.take k := by
   intro hm
   have := h2.2
   rw [decide_eq_true hm] at this
   cases this
  have htk : L.take (k + 1) = L.take k ++ [nAt L k] := by
   rw [List.take_add_one]
   congr 1
   rw [List.getElem?_eq_getElem (by omega)]
   show [L[k]] = [L.getD k 0]
   rw [List.getD_eq_getElem?_getD, List.getElem?_eq_getElem (by omega)]; rfl
  rw [htk]
  refine ⟨List.nodup_append.2 ⟨i1, by simp, fun a ha b hb e => ?_⟩, fun x hx => ?_⟩
  ·rw [List.mem_singleton] at hb
   subst hb
   subst e
   exact h4 ha
  ·rcases List.mem_append.1 hx with hx | hx
   ·exact i2 x hx
   ·rw [List.mem_singleton] at hx
    subst hx
    exact h3
theorem logP_eq {gs : List (List Ty)} {h : GHeap} (hs : SizeOk h) (k : Nat) : logP gs h k = ((decide (0 ≤ nAt h.log k ∧ nAt h.log k < 160) && plB gs h (ref1 gs h) (partO gs h).1 (nAt h.log k).toNat) && !decide (nAt h.log k ∈ h.log.take k)) := by
 unfold logP
 by_cases h0 : 0 ≤ nAt h.log k
 ·by_cases hp : plB gs h (ref1 gs h) (partO gs h).1 (nAt h.log k).toNat = true
  ·have := ref_lt hs hp
   rw [hp, decide_eq_true h0, decide_eq_true (show 0 ≤ nAt h.log k ∧ nAt h.log k < 160 by omega)]
  ·have hp' : plB gs h (ref1 gs h) (partO gs h).1 (nAt h.log k).toNat = false := by simpa using hp
   rw [hp', Bool.and_false, Bool.and_false]
 ·rw [decide_eq_false h0, decide_eq_false (show ¬ (0 ≤ nAt h.log k ∧ nAt h.log k < 160) by omega)]
theorem rec_ne {w : World} {b c : Nat} {T T' : TypeId} {us vs : List Value} (hb : Rec w b T us) (hc : Rec w c T' vs) (h : T ≠ T') : b ≠ c := by
 rintro rfl
 have hb' : w.heap[b]? = some (.cells us.toArray T (0, 0)) := hb
 have hc' : w.heap[b]? = some (.cells vs.toArray T' (0, 0)) := hc
 rw [hb'] at hc'
 cases hc'
 exact h rfl

theorem thVals (lo hi sb S : Nat) (ra : Option Addr) (rc cb co cc : Nat) (gs : List (List Ty)) (h : GHeap) (H : HOk gs h) (w : World) (hs : SpA w lo hi sb gs h ra rc cb co cc) (x : HTh) (hx : ThIn w lo hi S sb gs h.words x) (hm : (x.a : Int) ∈ startsF gs h) :
 ∃ (n : Nat) (vs : List GVal) (fs : List Fd), lenW gs h.words x.a = n ∧ lenA gs h x.a = n ∧ vs.length = n ∧ fs.length = n ∧ n ≤ 6 ∧ x.a + 1 + n ≤ h.words.length ∧ (∀ j, j < n → valAt' vs j = ⟨(valA gs h x.a j).1, (valA gs h x.a j).2⟩) ∧ (∀ j, j < n → fdAt fs j = fieldF (tyA gs h x.a) j) ∧ FldIn w lo hi S x.fa fs ∧
 Hid (∀ W, Below w.heap.size w W → Calls Tryz.prog 80 #[.agg #[.int .i64 (x.a : Int), .int .i64 (nAt h.words x.a / 16), .slice x.fa n x.fc, .slice x.wa n x.wc]] W fun e w' => ∃ va cap, e = .returned (.slice va n cap) ∧ ValRow w' W.heap.size va cap vs ∧ Below W.heap.size W w') := by
 obtain ⟨q0, q1, q2⟩ := thWords H.sz hm
 have hhi : hi ≤ w.heap.size := Nat.le_trans hs.hh (Nat.le_of_lt hs.lt)
 have hfl := fieldsT_len H.pa q0
 have hF := hx.1.all hhi
 have hXi : IntsIn w 0 w.heap.size x.wa (wsL h.words x.a (lenW gs h.words x.a)) := by
  rcases hx.2 with h0 | h0
  ·left; exact List.length_eq_zero_iff.1 (by rw [wsL_len]; exact h0)
  ·refine .inr ⟨sb, _, h0, Nat.zero_le _, hs.lt, fun i hi' => ?_⟩
   rw [wsL_len] at hi'
   rw [wsL_at _ _ hi', show 2 + (x.a + 1) + i = 2 + (x.a + 1 + i) by omega]
   exact hs.ws _ (by omega)
 have hx1 := hx.1
 have hla : lenA gs h x.a = lenW gs h.words x.a := lenA_eq q0
 have hfl' : (fieldsT (tyA gs h x.a) (lenW gs h.words x.a)).length = lenW gs h.words x.a := hfl
 have hF : FieldsIn w 0 w.heap.size x.fa (fieldsT (tyA gs h x.a) (lenW gs h.words x.a)) := hF
 have hx1 : FldIn w lo hi S x.fa (fieldsT (tyA gs h x.a) (lenW gs h.words x.a)) := hx1
 obtain ⟨n, hn⟩ : ∃ n, n = lenW gs h.words x.a := ⟨_, rfl⟩
 rw [← hn] at hla hfl' hF hx1 hXi q1 q2
 refine ⟨n, valsTo (fun i => (wordVal (fdAt (fieldsT (tyA gs h x.a) n) i).kind (nAt (wsL h.words x.a n) i)).getD (0, 0)) n, fieldsT (tyA gs h x.a) n, hn.symm, hla, valsTo_len _ _, hfl', q2, q1, fun j hj => ?_, fun j hj => fieldsT_at hj, hx1, fun W hb => ?_⟩
 ·rw [valsTo_at _ _ hj, fieldsT_at hj, wsL_at _ _ hj]; rfl
 ·have hv := vals_any (x.a : Int) (nAt h.words x.a / 16) x.fa x.wa x.fc x.wc (fieldsT (tyA gs h x.a) n) (wsL h.words x.a n) W (by rw [wsL_len, hfl']) (by rw [wsL_len]; exact q2) ((hF.keep hb).wide (Nat.le_refl _) hb.size) (intsWide (hXi.keep hb) (Nat.le_refl _) hb.size) (wsL_hi _ _ _ fun i => (H.wb i).2)
  rw [wsL_len, hfl'] at hv
  refine hv.mono ?_
  rintro e w' ⟨⟨va, cap, rfl, hr⟩, b'⟩
  exact ⟨va, cap, rfl, hr, b'⟩

set_option maxRecDepth 100000 in
set_option maxHeartbeats 8000000 in
theorem keepLog_any (lo hi sb : Nat) (ra : Option Addr) (rc cb co cc : Nat) (gs : List (List Ty)) (h : GHeap) (H : HOk gs h) (la : Option Addr) (lc : Nat) (w : World) (hs : SpA w lo hi sb gs h ra rc cb co cc) (hfr : ∀ o, w.frozen? ⟨sb, o, none⟩ = false) (hlog : LogAt w w.heap.size sb []) (hl : IntsIn w 0 sb la h.log) (hll : h.log.length ≤ 1048576) :
 Calls Tryz.prog 56 #[.pointer (some ⟨sb, 0, none⟩), .slice la h.log.length lc] w fun e w' => e = .returned (.bool (allTo (logP gs h) h.log.length && yngF gs h)) ∧ KpT w.heap.size sb w w' ∧ ((allTo (logP gs h) h.log.length && yngF gs h) = true → LogAt w' w.heap.size sb h.log) := by
 obtain ⟨O, hO⟩ : ∃ O, h.old.toNat = O := ⟨_, rfl⟩
 obtain ⟨A, hA⟩ : ∃ A, h.oldAt.toNat = A := ⟨_, rfl⟩
 have hlen := H.len
 have z1 : A ≤ O := by have := H.sz.a2; omega
 have z2 : O ≤ 120 := by have := H.sz.o2; omega
 have z4 : O ≤ h.words.length := by have := H.sz.n1; have := H.sz.o1; omega
 have HL1 : Hid ((partO gs h).1 = (part gs h.words (0 + A) 0).1) := by show _ = _; unfold partO; rw [hA, Nat.zero_add]
 obtain ⟨w1, hw1⟩ : ∃ w1, w1 = ((w.alloc (.cells #[.pointer (some ⟨sb, 0, none⟩)] 52)).alloc (.cells #[.int .u64 0, .int .u64 0, .int .u64 0] 104)).alloc (.cells #[.int .u64 0, .int .u64 0, .int .u64 0] 104) := ⟨_, rfl⟩
 have B1 : Hid (Below w.heap.size w w1) := by show Below _ _ _; rw [hw1]; exact (((Below.refl _ _).alloc (Nat.le_refl _) _).alloc (by simp) _).alloc (by simp; omega) _
 have P1 : Rec w1 w.heap.size 52 [.pointer (some ⟨sb, 0, none⟩)] := by rw [hw1]; exact ((Rec.new _ _ _).alloc _).alloc _
 have R5 : BitsB w1 (w.heap.size + 1) (fun _ => false) := by
  have := BitsB.new (w.alloc (.cells #[.pointer (some ⟨sb, 0, none⟩)] 52))
  rw [World.size_alloc] at this
  rw [hw1]; exact Rec.alloc this _
 have R6 : BitsB w1 (w.heap.size + 1 + 1) (fun _ => false) := by
  have := BitsB.new ((w.alloc (.cells #[.pointer (some ⟨sb, 0, none⟩)] 52)).alloc (.cells #[.int .u64 0, .int .u64 0, .int .u64 0] 104))
  rw [World.size_alloc, World.size_alloc] at this
  rw [hw1]; exact this
 have hz : w.heap.size + 3 ≤ w1.heap.size := by rw [hw1]; simp
 have hs1 := hs.keep B1.out
 have hlt := hs.lt
 have hhs := hs.hh
 have hsb1 : sb < w1.heap.size := by omega
 have hwb1 : w.heap.size < w1.heap.size := by omega
 refine (callsIn_wide (n := 6)).1 ?_
 refine callsIn_of_wp_marks Tryz.func56 rfl trivial ?_ rfl
 simp only [Tryz.ntmps56, List.size_toArray, List.length_cons, List.length_nil, Nat.reduceAdd, Nat.reduceSub, Array.replicate_succ, Array.replicate_zero, List.push_toArray, List.append_toArray, List.nil_append, List.cons_append]
 refine wpIn_wide.2 ?_
 have hmo : Tryz.prog.follows .mixedOrders = true := by kernel_rfl
 have HVT := hide (fun (x0 x1 x2 y0 y1 : Value) (w : World) => callsIn_wide.1 (viewThings_in Fence.wide 0 trivial rfl x0 x1 x2 y0 y1 w))
 have p0 := P1.cell (o := 0) rfl
 have k0 := hs1.k0
 have k1 := hs1.k1
 have o0 := hs1.o0
 have o1 := hs1.o1
 have o2 := hs1.o2
 rw [hO] at o0
 rw [hA] at o2
 have HS1 := hide hs1
 have HP1 := hide P1
 have HR5 := hide R5
 have HR6 := hide R6
 have HFR := hide hfr
 have HLOG := hide hlog
 have HL := hide hl
 have HSP := hide hs
 clear hs1 P1 R5 R6 hfr hlog hl hs
 go_wp2_with fail
 rw [← hw1]
 clear hw1
 go_region_held3 (fun w' => w'.cell? ⟨w.heap.size, 0, none⟩ = some (.pointer (some ⟨sb, 0, none⟩)) ∧ w'.cell? ⟨sb, 162, none⟩ = some (.slice (some ⟨sb, 2, none⟩) O 160) ∧ w'.cell? ⟨sb, 163, none⟩ = some (.int .i64 0) ∧ w'.cell? ⟨sb, 164, none⟩ = some (.int .i64 (A : Int)) ∧ w'.cell? ⟨sb, 0, none⟩ = some (.slice ra (kinCount gs) rc) ∧ w'.cell? ⟨sb, 1, none⟩ = some (.slice (some ⟨cb, co, none⟩) (kinCount gs) cc)) (first | exact ⟨p0, o0, o1, o2, k0, k1⟩ | go_keep) ((go_at_call 75; refine (HVT.out _ _ _ _ _ _).mono ?_; rintro e W2 ⟨rfl, hW4⟩; have b4 : Below w1.drew.heap.size w1.drew W2 := (by rw [hW4]; exact ((Below.refl _ _).alloc (Nat.le_refl _) _).alloc (by simp) _); have VB : Hid (Rec W2 w1.heap.size 98 [.slice (some ⟨sb, 2, none⟩) O 160, .int .i64 0, .int .i64 (A : Int)]) := (by show Rec _ _ _ _; rw [hW4]; exact (Rec.new w1.drew _ _).alloc _); have KB : Hid (Rec W2 (w1.heap.size + 1) 93 [.slice ra (kinCount gs) rc, .slice (some ⟨cb, co, none⟩) (kinCount gs) cc]) := (by show Rec _ _ _ _; rw [hW4]; exact Rec.new' _ _ _ _ (by simp)); have HB : Hid (Below w1.heap.size w1 W2) := below_drew0 b4; clear hW4 b4; have p0 := (HB.out.cell (p := ⟨w.heap.size, 0, none⟩) hwb1).trans p0; have k0 := (HB.out.cell (p := ⟨sb, 0, none⟩) hsb1).trans k0; have k1 := (HB.out.cell (p := ⟨sb, 1, none⟩) hsb1).trans k1; have o0 := (HB.out.cell (p := ⟨sb, 162, none⟩) hsb1).trans o0; have o1 := (HB.out.cell (p := ⟨sb, 163, none⟩) hsb1).trans o1; have o2 := (HB.out.cell (p := ⟨sb, 164, none⟩) hsb1).trans o2))
 rename_i hHeld
 clear hHeld k0 k1 o0 o1 o2 p0
 go_wp2_with fail
 have hz2 : w1.heap.size + 2 ≤ W2.heap.size := KB.out.lt
 have SP2 := hide (HS1.out.keep HB.out)
 have R52 : Hid (BitsB W2 (w.heap.size + 1) (fun m => plB gs h (ref1 gs h) (([] : List HTh).map (fun y => (y.a : Int))) m)) := BitsB.congr (HR5.out.below HB.out HR5.out.lt) (fun m => rfl)
 have R62 : Hid (BitsB W2 (w.heap.size + 1 + 1) (fun m => plB gs h (yng1 gs h) (([] : List HTh).map (fun y => (y.a : Int))) m)) := BitsB.congr (HR6.out.below HB.out HR6.out.lt) (fun m => rfl)
 have hwb2 : w.heap.size + 1 ≤ W2.heap.size := by omega
 have hi2 : hi ≤ W2.heap.size := by omega
 have hs2 : sb < W2.heap.size := by omega
 refine (wpIn_wide (n := 5)).1 ?_
 refine range_leave (F := Fence.wide) rfl (by omega) (gf := 102) (cap := #[]) (lb := #[.pointer (some ⟨w1.heap.size, 0, none⟩), .pointer (some ⟨w1.heap.size + 1, 0, none⟩)]) rfl trivial (enters_of Tryz.func102 (by kernel_rfl) rfl)
  (viewSeq (5 - 1) w1.heap.size (w1.heap.size + 1) lo hi sb 0 O 160 A W2.heap.size (W2.heap.size + 2) ra rc cb co cc gs h.words (by omega) H.pa (by omega) (by omega) hlen (by omega) (by omega) H.wb W2 (Nat.le_refl _) (Nat.le_refl _) SP2.out.tab hi2 SP2.out.ws SP2.out.lt VB.out KB.out)
  KpH.trans (fun W o o' => KpH.put (by omega) (by omega) (by omega) W o o') (Below.refl _ _) (fun _ => rfl)
  (KlI gs h (w.heap.size + 1) (w.heap.size + 1) (w.heap.size + 1 + 1) W2) (fun c pre W' => False) (KlI.own hwb2 hwb2) (fun c s X Y row h1 h2 h3 => h1) (fun pre => gh_own pre) ⟨⟨Below.refl _ _, R52.out⟩, R62.out⟩
  (fun x a' W' => ∃ b, a' = { tmps := #[.pointer (some ⟨sb, 0, none⟩), .slice la h.log.length lc, .pointer (some ⟨w.heap.size, 0, none⟩), undef, .bool false, .pointer (some ⟨w.heap.size + 1, 0, none⟩), .pointer (some ⟨w.heap.size + 1 + 1, 0, none⟩), .pointer (some ⟨b, 0, none⟩), undef, undef, undef, undef, .pointer (some ⟨sb, 0, none⟩), .pointer (some ⟨sb, 0, none⟩), .pointer (some ⟨sb, 162, none⟩), .agg #[.slice (some ⟨sb, 2, none⟩) O 160, .int .i64 0, .int .i64 (A : Int)], .pointer (some ⟨sb, 0, none⟩), .pointer (some ⟨sb, 0, none⟩), .pointer (some ⟨sb, 0, none⟩), .agg #[.slice ra (kinCount gs) rc, .slice (some ⟨cb, co, none⟩) (kinCount gs) cc], .func (.func 102) #[] #[.pointer (some ⟨w1.heap.size, 0, none⟩), .pointer (some ⟨w1.heap.size + 1, 0, none⟩)], thV gs h.words x, undef, undef, undef, undef, undef, undef, undef, undef, undef, undef, undef, undef, undef, undef, undef, undef, undef, undef, undef, undef, undef, undef, undef, undef, undef, undef, undef, undef, undef, undef, undef, undef, undef, undef, undef, undef, undef, undef, undef, undef, undef, undef, undef, undef, undef, undef, undef, undef, undef, undef, undef, undef, undef, undef, undef, undef, undef], defers := [] } ∧ Rec W' b 131 [.int .i64 (x.a : Int), .int .i64 (nAt h.words x.a / 16), .slice x.fa (lenW gs h.words x.a) x.fc, .slice x.wa (lenW gs h.words x.a) x.wc]) (fun x a' s X Y row h1 h2 h3 => by
   obtain ⟨b, e, hr⟩ := h1
   exact ⟨b, e, rec_own' (β := Unit) _ _ _ _ () X Y row hr h2 h3⟩) ?assign ?body ?done ?stop
 case assign =>
  rintro l' pre ⟨xa, fa, fc, wa, wc⟩ Wx K ⟨⟨hbw, h5⟩, h6⟩ hg hK
  simp only [thV]
  gi_wp2
  have hb := two_b Wx (.cells #[.int .i64 (xa : Int), .int .i64 (nAt h.words xa / 16), .slice fa (lenW gs h.words xa) fc, .slice wa (lenW gs h.words xa) wc] 131)
  have hbs := hbw.size
  exact hK _ _ (keepsFrom_below hb) (KpH.of_below hb (by omega) (by omega)) ⟨⟨hbw.trans (hb.mono (by omega)), h5.below hb h5.lt⟩, h6.below hb h6.lt⟩ ((gh_own (B := 0) pre).alloc _ hg) ⟨Wx.heap.size, rfl, Rec.new _ _ _⟩
 case body =>
  rintro l' pre ⟨xa, fa, fc, wa, wc⟩ a' Wx ⟨⟨hbw, h5⟩, h6⟩ hg ⟨b, rfl, hrec⟩
  have hbs := hbw.size
  have hbl := hrec.lt
  have hsx : sb < Wx.heap.size := by omega
  have hpx : w.heap.size < Wx.heap.size := by omega
  have hmo' : (xa : Int) ∈ (partO gs h).1 := by rw [HL1.out]; exact mem_of_gh hg
  have hmem : (xa : Int) ∈ startsF gs h := by unfold startsF; exact List.mem_append.2 (.inl hmo')
  have hwx : Below w.heap.size w Wx := B1.out.trans ((HB.out.mono (by omega)).trans (hbw.mono (Nat.le_succ _)))
  have hSX := HSP.out.keep hwx
  obtain ⟨n, vs, fs, e1, e2, e3, e4, n6, nw, hvs, hfs, hfld, HVV⟩ := thVals lo hi sb W2.heap.size ra rc cb co cc gs h H Wx hSX ⟨xa, fa, fc, wa, wc⟩ hg.2 hmem
  simp only at e1 e2 hvs hfs hfld HVV
  rw [e1] at hrec
  have hb5 : b ≠ w.heap.size + 1 := rec_ne hrec h5 (by decide)
  have hb6 : b ≠ w.heap.size + 1 + 1 := rec_ne hrec h6 (by decide)
  have hP0 : Rec Wx w.heap.size 52 [.pointer (some ⟨sb, 0, none⟩)] := (HP1.out.below HB.out hwb1).keepB hbw (Nat.lt_succ_self _)
  have hy1 : Wx.cell? ⟨sb, 166, none⟩ = some (.int .i64 ((h.old.toNat : Nat) : Int)) := hSX.y1
  have hold : ((h.old.toNat : Nat) : Int) = h.old := by have := H.sz.o1; omega
  rw [hold] at hy1
  have HV0 := hide (callsRound (l := l') (n := 2) (HVV.out Wx (Below.refl _ _)))
  have t0 := hrec.cell (o := 0) rfl
  have t1 := hrec.cell (o := 1) rfl
  have t2 := hrec.cell (o := 2) rfl
  have t3 := hrec.cell (o := 3) rfl
  have HT := hide hrec
  have H5 := hide h5
  have H6 := hide h6
  have HP0 := hide hP0
  have HY1 := hide hy1
  have HVS := hide hvs
  have HFS := hide hfs
  have HF := hide hfld
  have HSX := hide hSX
  have HBW := hide hbw
  have HG : Hid ((pre ++ [(⟨xa, fa, fc, wa, wc⟩ : HTh)]).map (fun y => (y.a : Int)) = pre.map (fun y => (y.a : Int)) ++ [(xa : Int)]) := by show _ = _; simp
  have E2 := hide e2
  have E3 := hide e3
  have E4 := hide e4
  simp only [thV]
  rw [e1]
  clear e1 e2 e3 e4 hvs hfs hfld hSX hP0 hy1 h5 h6 hbw hrec hg hmo' hmem hwx HVV
  gi_wp2
  refine ⟨trivial, HV0.out.mono ?_⟩
  rintro e W3 ⟨va, cap, rfl, hrow, b3⟩
  have HR3 := hide hrow
  have BB3 := hide b3
  clear hrow b3 t0 t1 t2 t3
  gi_wp2
  have Q5 : Hid (BitsB W3 (w.heap.size + 1) (fun m => plB gs h (ref1 gs h) (pre.map (fun y => (y.a : Int))) m || plA gs h (ref1 gs h) xa 0 m)) := BitsB.congr (H5.out.below BB3.out H5.out.lt) (fun m => by rw [plA_zero, Bool.or_false])
  have Q6 : Hid (BitsB W3 (w.heap.size + 1 + 1) (fun m => plB gs h (yng1 gs h) (pre.map (fun y => (y.a : Int))) m || plA gs h (yng1 gs h) xa 0 m)) := BitsB.congr (H6.out.below BB3.out H6.out.lt) (fun m => by rw [plA_zero, Bool.or_false])
  have T3 : Hid (Two (w.heap.size + 1) (w.heap.size + 1 + 1) Wx W3) := Two.of_below BB3.out
  gi_loopw [25] (fun v25 wr => ∃ j : Nat, j ≤ n ∧ v25 = .int .i64 (j : Int) ∧ Hid (Two (w.heap.size + 1) (w.heap.size + 1 + 1) Wx wr) ∧ Hid (BitsB wr (w.heap.size + 1) (fun m => plB gs h (ref1 gs h) (pre.map (fun y => (y.a : Int))) m || plA gs h (ref1 gs h) xa j m)) ∧ Hid (BitsB wr (w.heap.size + 1 + 1) (fun m => plB gs h (yng1 gs h) (pre.map (fun y => (y.a : Int))) m || plA gs h (yng1 gs h) xa j m)) ∧ Hid (ValRow wr Wx.heap.size va cap vs)) (fun v25 wr => n - (intOf v25).toNat)
  case atStart => exact ⟨0, Nat.zero_le _, rfl, T3, Q5, Q6, HR3⟩
  case round =>
   obtain ⟨j, hj, rfl, T, R5, R6, RW⟩ := hrel
   clear T3 Q5 Q6 HR3 BB3
   have hTs := T.out.sz
   by_cases hlt : j < n
   ·have q1 : (0 : Int) ≤ (j : Int) := by omega
    have q2 : (j : Int) < (n : Int) := by omega
    have hTb : ∀ k, k < Wx.heap.size → k ≠ w.heap.size + 1 → k ≠ w.heap.size + 1 + 1 → k < wr.heap.size := fun k h1 _ _ => Nat.lt_of_lt_of_le h1 hTs
    obtain ⟨vb, vo, rfl, lv1, lv2, hvc⟩ : ∃ vb vo, va = some ⟨vb, vo, none⟩ ∧ Wx.heap.size ≤ vb ∧ vb < wr.heap.size ∧ ∀ i, i < vs.length → ValAt false wr Wx.heap.size wr.heap.size vb (vo + i * 2) (valAt' vs i) := by
     rcases RW.out.vals with h0 | ⟨vb, vo, e, l1, l2, _, l3⟩
     ·exact absurd E3.out (by rw [h0]; simp; omega)
     ·exact ⟨vb, vo, e, l1, l2, l3⟩
    obtain ⟨v0, v1⟩ := hvc j (by rw [E3.out]; exact hlt)
    rw [HVS.out j hlt] at v0 v1
    obtain ⟨fb, fo, rfl, lf, hff⟩ : ∃ fb fo, fa = some ⟨fb, fo, none⟩ ∧ (fb < Wx.heap.size ∧ fb ≠ w.heap.size + 1 ∧ fb ≠ w.heap.size + 1 + 1) ∧ FieldAt Wx fb (fo + j * 3) (fdAt fs j) := by
     rcases HF.out with hf | hf
     ·obtain ⟨fb, fo, e, l1, l2, l3⟩ := fields_at hf (i := j) (by rw [E4.out]; exact hlt)
      exact ⟨fb, fo, e, ⟨by omega, by omega, by omega⟩, l3⟩
     ·obtain ⟨fb, fo, e, l1, l2, l3⟩ := fields_at hf (i := j) (by rw [E4.out]; exact hlt)
      exact ⟨fb, fo, e, ⟨by omega, by omega, by omega⟩, l3⟩
    rw [HFS.out j hlt] at hff
    have hr1 : ref1 gs h xa j = !((fieldF (tyA gs h xa) j).kind == 1) := rfl
    have hy1 : yng1 gs h xa j = ((valA gs h xa j).1 == 4 && decide (h.old ≤ (valA gs h xa j).2)) := rfl
    have st5 := fun m => setP_plA (gs := gs) (h := h) (F := ref1 gs h) (L := pre.map (fun y => (y.a : Int))) (a := xa) (j := j) m
    have st6 := fun m => setP_plA (gs := gs) (h := h) (F := yng1 gs h) (L := pre.map (fun y => (y.a : Int))) (a := xa) (j := j) m
    rw [hr1] at st5
    rw [hy1] at st6
    generalize valA gs h xa j = KN at v0 v1 st6 hy1
    obtain ⟨K, N⟩ := KN
    generalize fieldF (tyA gs h xa) j = fd at hff st5 hr1
    obtain ⟨fk, fo', fm⟩ := fd
    simp only at v0 v1 st5 st6
    obtain ⟨f0, f1, f2⟩ := hff
    simp only at f0
    clear hr1 hy1 f1 f2 hvc
    obtain ⟨P5, hP5⟩ : ∃ P5 : Nat → Bool, P5 = fun m => plB gs h (ref1 gs h) (pre.map (fun y => (y.a : Int))) m || plA gs h (ref1 gs h) xa j m := ⟨_, rfl⟩
    obtain ⟨P6, hP6⟩ : ∃ P6 : Nat → Bool, P6 = fun m => plB gs h (yng1 gs h) (pre.map (fun y => (y.a : Int))) m || plA gs h (yng1 gs h) xa j m := ⟨_, rfl⟩
    obtain ⟨U5, hU5⟩ : ∃ U5 : Nat → Bool, U5 = fun m => plB gs h (ref1 gs h) (pre.map (fun y => (y.a : Int))) m || plA gs h (ref1 gs h) xa (j + 1) m := ⟨_, rfl⟩
    obtain ⟨U6, hU6⟩ : ∃ U6 : Nat → Bool, U6 = fun m => plB gs h (yng1 gs h) (pre.map (fun y => (y.a : Int))) m || plA gs h (yng1 gs h) xa (j + 1) m := ⟨_, rfl⟩
    rw [← hP5] at R5
    rw [← hP6] at R6
    have S5 : Hid (∀ m, U5 m = if (!(fk == 1)) = true then setP P5 (xa + 1 + j) m else P5 m) := fun m => by rw [hU5, hP5]; exact st5 m
    have S6 : Hid (∀ m, U6 m = if ((K == 4) && decide (h.old ≤ N)) = true then setP P6 (xa + 1 + j) m else P6 m) := fun m => by rw [hU6, hP6]; exact st6 m
    have HU5 := hide hU5
    have HU6 := hide hU6
    clear hP5 hP6 hU5 hU6 st5 st6
    have hm192 : xa + 1 + j < 192 := by omega
    have hCL : Hid (∀ W, Two (w.heap.size + 1) (w.heap.size + 1 + 1) Wx W → (W.cell? ⟨b, 0, none⟩ = some (.int .i64 (xa : Int)) ∧ W.cell? ⟨b, 1, none⟩ = some (.int .i64 (nAt h.words xa / 16)) ∧ W.cell? ⟨b, 2, none⟩ = some (.slice (some ⟨fb, fo, none⟩) n fc) ∧ W.cell? ⟨b, 3, none⟩ = some (.slice wa n wc)) ∧ (W.cell? ⟨w.heap.size, 0, none⟩ = some (.pointer (some ⟨sb, 0, none⟩)) ∧ W.cell? ⟨sb, 166, none⟩ = some (.int .i64 h.old) ∧ W.cell? ⟨fb, fo + j * 3, none⟩ = some (.int .i64 fk)) ∧ (b < W.heap.size ∧ w.heap.size < W.heap.size ∧ sb < W.heap.size ∧ fb < W.heap.size)) := fun W hT => by
     have q := hT.box HT.out hb5 hb6
     have qs := hT.sz
     exact ⟨⟨q.cell (o := 0) rfl, q.cell (o := 1) rfl, q.cell (o := 2) rfl, q.cell (o := 3) rfl⟩, ⟨(hT.box HP0.out (by omega) (by omega)).cell (o := 0) rfl, (World.cell?_of_block (w := Wx) (hT.blk sb hsx (by omega) (by omega))).trans HY1.out, (World.cell?_of_block (w := Wx) (hT.blk fb lf.1 lf.2.1 lf.2.2)).trans f0⟩, by omega, by omega, by omega, by omega⟩
    have HPL := hide (fun (n' : Nat) (W : World) => callsRound (l := l') (n := n') (thPlace_any xa j (nAt h.words xa / 16) (some ⟨fb, fo, none⟩) wa n fc n wc W (by omega) (by omega)))
    have HYG := hide (fun (n' : Nat) (W : World) (c : W.cell? ⟨sb, 166, none⟩ = some (.int .i64 h.old)) => callsRound (l := l') (n := n') (isYoung_any sb N h.old W c))
    have C5 := hide (fun (n' : Nat) (W : World) (hB : BitsB W (w.heap.size + 1) P5) => callsRound (l := l') (n := n') (addB_any (w.heap.size + 1) (xa + 1 + j) P5 W hB hm192 hB.lt))
    have C6 := hide (fun (n' : Nat) (W : World) (hB : BitsB W (w.heap.size + 1 + 1) P6) => callsRound (l := l') (n := n') (addB_any (w.heap.size + 1 + 1) (xa + 1 + j) P6 W hB hm192 hB.lt))
    obtain ⟨⟨t0, t1, t2, t3⟩, ⟨p0, y1, g0⟩, l1, l2, l3, l4⟩ := hCL.out wr T.out
    obtain ⟨W1, hW1⟩ : ∃ W1, W1 = wr.alloc (.cells #[.int .i64 K, .int .i64 N] 49) := ⟨_, rfl⟩
    have BB : Below wr.heap.size wr W1 := by rw [hW1]; exact two_b _ _
    have T1 : Hid (Two (w.heap.size + 1) (w.heap.size + 1 + 1) Wx W1) := T.out.trans (Two.of_below BB)
    have RV1 : Hid (Rec W1 wr.heap.size 49 [.int .i64 K, .int .i64 N]) := by show Rec _ _ _ _; rw [hW1]; exact Rec.new _ _ _
    have RW1 : Hid (ValRow W1 Wx.heap.size (some ⟨vb, vo, none⟩) cap vs) := RW.out.below BB
    have R51 : Hid (BitsB W1 (w.heap.size + 1) P5) := Rec.below R5.out BB R5.out.lt
    have R61 : Hid (BitsB W1 (w.heap.size + 1 + 1) P6) := Rec.below R6.out BB R6.out.lt
    have hvx : Wx.heap.size ≤ wr.heap.size := hTs
    clear BB T R5 R6 RW f0
    by_cases cF : fk = 1
    ·subst cF
     by_cases cK : K = 4
     ·subst cK
      by_cases cY : h.old ≤ N
      ·have R5z0 : Hid (BitsB W1 (w.heap.size + 1) U5) := R51.out.congr fun m => (by rw [S5.out m]; simp)
       have HYB : Hid (decide (h.old ≤ N) = true) := (by show _ = _; simpa using cY)
       rw [HYB.out] at HYG
       clear cY
       gi_wp2
       try rw [← hW1]
       clear hW1
       clear t0 t1 t2 t3 p0 y1 g0 l1 l2 l3 l4 v0 v1
       have y1 := (hCL.out W1 T1.out).2.1.2.1
       refine ⟨trivial, (HYG.out _ _ y1).mono ?_⟩
       rintro e Wy ⟨rfl, hWy⟩
       rw [hWy]
       clear hWy y1 Wy
       obtain ⟨⟨t0, t1, t2, t3⟩, ⟨p0, y1, g0⟩, l1, l2, l3, l4⟩ := hCL.out W1 T1.out
       have u0 := RV1.out.cell (o := 0) rfl
       have u1 := RV1.out.cell (o := 1) rfl
       gi_wp2
       clear t0 t1 t2 t3 p0 y1 g0 l1 l2 l3 l4 u0 u1
       refine ⟨trivial, (HPL.out _ _).mono ?_⟩
       rintro e Wp2 ⟨rfl, bp⟩
       have T2 := hide (T1.out.trans (Two.of_below bp))
       have RV2 := hide (RV1.out.below bp RV1.out.lt)
       have RW2 := hide (RW1.out.below bp)
       have R5z2 : Hid (BitsB Wp2 (w.heap.size + 1) U5) := Rec.below R5z0.out bp R5z0.out.lt
       have R6p2 : Hid (BitsB Wp2 (w.heap.size + 1 + 1) P6) := Rec.below R61.out bp R61.out.lt
       clear bp
       obtain ⟨⟨t0, t1, t2, t3⟩, ⟨p0, y1, g0⟩, l1, l2, l3, l4⟩ := hCL.out Wp2 T2.out
       have u0 := RV2.out.cell (o := 0) rfl
       have u1 := RV2.out.cell (o := 1) rfl
       gi_wp2
       clear t0 t1 t2 t3 p0 y1 g0 l1 l2 l3 l4 u0 u1
       refine ⟨trivial, (C6.out _ _ R6p2.out).mono ?_⟩
       rintro e Wa3 ⟨rfl, hn, hw1, hw2⟩
       have T3 := hide (T2.out.trans (hw2 _))
       have RV3 := hide ((hw1 (w.heap.size + 1 + 1)).box RV2.out (by have := T1.out.sz; omega) (by have := T1.out.sz; omega))
       have RW3 := hide ((hw1 (w.heap.size + 1 + 1)).row RW2.out (by omega) (by omega))
       have R6z3 : Hid (BitsB Wa3 (w.heap.size + 1 + 1) U6) := hn.congr fun m => (by rw [S6.out m, HYB.out]; simp)
       have R5z3 : Hid (BitsB Wa3 (w.heap.size + 1) U5) := (hw1 (w.heap.size + 1 + 1)).box R5z2.out (by omega) (by omega)
       clear hn hw1 hw2
       obtain ⟨⟨t0, t1, t2, t3⟩, ⟨p0, y1, g0⟩, l1, l2, l3, l4⟩ := hCL.out Wa3 T3.out
       have u0 := RV3.out.cell (o := 0) rfl
       have u1 := RV3.out.cell (o := 1) rfl
       gi_wp2
       clear t0 t1 t2 t3 p0 y1 g0 l1 l2 l3 l4 u0 u1
       rw [HU5.out] at R5z3
       rw [HU6.out] at R6z3
       exact ⟨⟨j + 1, by omega, by go_num, T3, R5z3, R6z3, RW3⟩, by simp [intOf]; omega⟩
      ·have R5z0 : Hid (BitsB W1 (w.heap.size + 1) U5) := R51.out.congr fun m => (by rw [S5.out m]; simp)
       have R6z0 : Hid (BitsB W1 (w.heap.size + 1 + 1) U6) := R61.out.congr fun m => (by rw [S6.out m]; simp [cY])
       have HYB : Hid (decide (h.old ≤ N) = false) := (by show _ = _; simpa using cY)
       rw [HYB.out] at HYG
       clear cY
       gi_wp2
       try rw [← hW1]
       clear hW1
       clear t0 t1 t2 t3 p0 y1 g0 l1 l2 l3 l4 v0 v1
       have y1 := (hCL.out W1 T1.out).2.1.2.1
       refine ⟨trivial, (HYG.out _ _ y1).mono ?_⟩
       rintro e Wy ⟨rfl, hWy⟩
       rw [hWy]
       clear hWy y1 Wy
       obtain ⟨⟨t0, t1, t2, t3⟩, ⟨p0, y1, g0⟩, l1, l2, l3, l4⟩ := hCL.out W1 T1.out
       have u0 := RV1.out.cell (o := 0) rfl
       have u1 := RV1.out.cell (o := 1) rfl
       gi_wp2
       clear t0 t1 t2 t3 p0 y1 g0 l1 l2 l3 l4 u0 u1
       rw [HU5.out] at R5z0
       rw [HU6.out] at R6z0
       exact ⟨⟨j + 1, by omega, by go_num, T1, R5z0, R6z0, RW1⟩, by simp [intOf]; omega⟩
     ·have R5z0 : Hid (BitsB W1 (w.heap.size + 1) U5) := R51.out.congr fun m => (by rw [S5.out m]; simp)
      have R6z0 : Hid (BitsB W1 (w.heap.size + 1 + 1) U6) := R61.out.congr fun m => (by rw [S6.out m]; simp [cK])
      have cKb : (K == 4) = false := by simpa using cK
      gi_wp2
      try rw [← hW1]
      clear hW1
      clear t0 t1 t2 t3 p0 y1 g0 l1 l2 l3 l4 v0 v1
      refine ⟨trivial, ?_⟩
      gi_wp2
      rw [HU5.out] at R5z0
      rw [HU6.out] at R6z0
      exact ⟨⟨j + 1, by omega, by go_num, T1, R5z0, R6z0, RW1⟩, by simp [intOf]; omega⟩
    ·skip
     by_cases cK : K = 4
     ·subst cK
      by_cases cY : h.old ≤ N
      ·have HYB : Hid (decide (h.old ≤ N) = true) := (by show _ = _; simpa using cY)
       rw [HYB.out] at HYG
       clear cY
       gi_wp2
       try rw [← hW1]
       clear hW1
       clear t0 t1 t2 t3 p0 y1 g0 l1 l2 l3 l4 v0 v1
       refine ⟨trivial, (HPL.out _ _).mono ?_⟩
       rintro e Wp2 ⟨rfl, bp⟩
       have T2 := hide (T1.out.trans (Two.of_below bp))
       have RV2 := hide (RV1.out.below bp RV1.out.lt)
       have RW2 := hide (RW1.out.below bp)
       have R5p2 : Hid (BitsB Wp2 (w.heap.size + 1) P5) := Rec.below R51.out bp R51.out.lt
       have R6p2 : Hid (BitsB Wp2 (w.heap.size + 1 + 1) P6) := Rec.below R61.out bp R61.out.lt
       clear bp
       obtain ⟨⟨t0, t1, t2, t3⟩, ⟨p0, y1, g0⟩, l1, l2, l3, l4⟩ := hCL.out Wp2 T2.out
       have u0 := RV2.out.cell (o := 0) rfl
       have u1 := RV2.out.cell (o := 1) rfl
       gi_wp2
       clear t0 t1 t2 t3 p0 y1 g0 l1 l2 l3 l4 u0 u1
       refine ⟨trivial, (C5.out _ _ R5p2.out).mono ?_⟩
       rintro e Wa3 ⟨rfl, hn, hw1, hw2⟩
       have T3 := hide (T2.out.trans (hw1 _))
       have RV3 := hide ((hw1 (w.heap.size + 1)).box RV2.out (by have := T1.out.sz; omega) (by have := T1.out.sz; omega))
       have RW3 := hide ((hw1 (w.heap.size + 1)).row RW2.out (by omega) (by omega))
       have R5z3 : Hid (BitsB Wa3 (w.heap.size + 1) U5) := hn.congr fun m => (by rw [S5.out m]; simp [cF])
       have R6p3 : Hid (BitsB Wa3 (w.heap.size + 1 + 1) P6) := (hw1 (w.heap.size + 1)).box R6p2.out (by omega) (by omega)
       clear hn hw1 hw2
       obtain ⟨⟨t0, t1, t2, t3⟩, ⟨p0, y1, g0⟩, l1, l2, l3, l4⟩ := hCL.out Wa3 T3.out
       have u0 := RV3.out.cell (o := 0) rfl
       have u1 := RV3.out.cell (o := 1) rfl
       gi_wp2
       clear t0 t1 t2 t3 p0 y1 g0 l1 l2 l3 l4 u0 u1
       have y1 := (hCL.out Wa3 T3.out).2.1.2.1
       refine ⟨trivial, (HYG.out _ _ y1).mono ?_⟩
       rintro e Wy ⟨rfl, hWy⟩
       rw [hWy]
       clear hWy y1 Wy
       obtain ⟨⟨t0, t1, t2, t3⟩, ⟨p0, y1, g0⟩, l1, l2, l3, l4⟩ := hCL.out Wa3 T3.out
       have u0 := RV3.out.cell (o := 0) rfl
       have u1 := RV3.out.cell (o := 1) rfl
       gi_wp2
       clear t0 t1 t2 t3 p0 y1 g0 l1 l2 l3 l4 u0 u1
       refine ⟨trivial, (HPL.out _ _).mono ?_⟩
       rintro e Wp4 ⟨rfl, bp⟩
       have T4 := hide (T3.out.trans (Two.of_below bp))
       have RV4 := hide (RV3.out.below bp RV3.out.lt)
       have RW4 := hide (RW3.out.below bp)
       have R5z4 : Hid (BitsB Wp4 (w.heap.size + 1) U5) := Rec.below R5z3.out bp R5z3.out.lt
       have R6p4 : Hid (BitsB Wp4 (w.heap.size + 1 + 1) P6) := Rec.below R6p3.out bp R6p3.out.lt
       clear bp
       obtain ⟨⟨t0, t1, t2, t3⟩, ⟨p0, y1, g0⟩, l1, l2, l3, l4⟩ := hCL.out Wp4 T4.out
       have u0 := RV4.out.cell (o := 0) rfl
       have u1 := RV4.out.cell (o := 1) rfl
       gi_wp2
       clear t0 t1 t2 t3 p0 y1 g0 l1 l2 l3 l4 u0 u1
       refine ⟨trivial, (C6.out _ _ R6p4.out).mono ?_⟩
       rintro e Wa5 ⟨rfl, hn, hw1, hw2⟩
       have T5 := hide (T4.out.trans (hw2 _))
       have RV5 := hide ((hw1 (w.heap.size + 1 + 1)).box RV4.out (by have := T1.out.sz; omega) (by have := T1.out.sz; omega))
       have RW5 := hide ((hw1 (w.heap.size + 1 + 1)).row RW4.out (by omega) (by omega))
       have R6z5 : Hid (BitsB Wa5 (w.heap.size + 1 + 1) U6) := hn.congr fun m => (by rw [S6.out m, HYB.out]; simp)
       have R5z5 : Hid (BitsB Wa5 (w.heap.size + 1) U5) := (hw1 (w.heap.size + 1 + 1)).box R5z4.out (by omega) (by omega)
       clear hn hw1 hw2
       obtain ⟨⟨t0, t1, t2, t3⟩, ⟨p0, y1, g0⟩, l1, l2, l3, l4⟩ := hCL.out Wa5 T5.out
       have u0 := RV5.out.cell (o := 0) rfl
       have u1 := RV5.out.cell (o := 1) rfl
       gi_wp2
       clear t0 t1 t2 t3 p0 y1 g0 l1 l2 l3 l4 u0 u1
       rw [HU5.out] at R5z5
       rw [HU6.out] at R6z5
       exact ⟨⟨j + 1, by omega, by go_num, T5, R5z5, R6z5, RW5⟩, by simp [intOf]; omega⟩
      ·have R6z0 : Hid (BitsB W1 (w.heap.size + 1 + 1) U6) := R61.out.congr fun m => (by rw [S6.out m]; simp [cY])
       have HYB : Hid (decide (h.old ≤ N) = false) := (by show _ = _; simpa using cY)
       rw [HYB.out] at HYG
       clear cY
       gi_wp2
       try rw [← hW1]
       clear hW1
       clear t0 t1 t2 t3 p0 y1 g0 l1 l2 l3 l4 v0 v1
       refine ⟨trivial, (HPL.out _ _).mono ?_⟩
       rintro e Wp2 ⟨rfl, bp⟩
       have T2 := hide (T1.out.trans (Two.of_below bp))
       have RV2 := hide (RV1.out.below bp RV1.out.lt)
       have RW2 := hide (RW1.out.below bp)
       have R5p2 : Hid (BitsB Wp2 (w.heap.size + 1) P5) := Rec.below R51.out bp R51.out.lt
       have R6z2 : Hid (BitsB Wp2 (w.heap.size + 1 + 1) U6) := Rec.below R6z0.out bp R6z0.out.lt
       clear bp
       obtain ⟨⟨t0, t1, t2, t3⟩, ⟨p0, y1, g0⟩, l1, l2, l3, l4⟩ := hCL.out Wp2 T2.out
       have u0 := RV2.out.cell (o := 0) rfl
       have u1 := RV2.out.cell (o := 1) rfl
       gi_wp2
       clear t0 t1 t2 t3 p0 y1 g0 l1 l2 l3 l4 u0 u1
       refine ⟨trivial, (C5.out _ _ R5p2.out).mono ?_⟩
       rintro e Wa3 ⟨rfl, hn, hw1, hw2⟩
       have T3 := hide (T2.out.trans (hw1 _))
       have RV3 := hide ((hw1 (w.heap.size + 1)).box RV2.out (by have := T1.out.sz; omega) (by have := T1.out.sz; omega))
       have RW3 := hide ((hw1 (w.heap.size + 1)).row RW2.out (by omega) (by omega))
       have R5z3 : Hid (BitsB Wa3 (w.heap.size + 1) U5) := hn.congr fun m => (by rw [S5.out m]; simp [cF])
       have R6z3 : Hid (BitsB Wa3 (w.heap.size + 1 + 1) U6) := (hw1 (w.heap.size + 1)).box R6z2.out (by omega) (by omega)
       clear hn hw1 hw2
       obtain ⟨⟨t0, t1, t2, t3⟩, ⟨p0, y1, g0⟩, l1, l2, l3, l4⟩ := hCL.out Wa3 T3.out
       have u0 := RV3.out.cell (o := 0) rfl
       have u1 := RV3.out.cell (o := 1) rfl
       gi_wp2
       clear t0 t1 t2 t3 p0 y1 g0 l1 l2 l3 l4 u0 u1
       have y1 := (hCL.out Wa3 T3.out).2.1.2.1
       refine ⟨trivial, (HYG.out _ _ y1).mono ?_⟩
       rintro e Wy ⟨rfl, hWy⟩
       rw [hWy]
       clear hWy y1 Wy
       obtain ⟨⟨t0, t1, t2, t3⟩, ⟨p0, y1, g0⟩, l1, l2, l3, l4⟩ := hCL.out Wa3 T3.out
       have u0 := RV3.out.cell (o := 0) rfl
       have u1 := RV3.out.cell (o := 1) rfl
       gi_wp2
       clear t0 t1 t2 t3 p0 y1 g0 l1 l2 l3 l4 u0 u1
       rw [HU5.out] at R5z3
       rw [HU6.out] at R6z3
       exact ⟨⟨j + 1, by omega, by go_num, T3, R5z3, R6z3, RW3⟩, by simp [intOf]; omega⟩
     ·have R6z0 : Hid (BitsB W1 (w.heap.size + 1 + 1) U6) := R61.out.congr fun m => (by rw [S6.out m]; simp [cK])
      have cKb : (K == 4) = false := by simpa using cK
      gi_wp2
      try rw [← hW1]
      clear hW1
      clear t0 t1 t2 t3 p0 y1 g0 l1 l2 l3 l4 v0 v1
      refine ⟨trivial, (HPL.out _ _).mono ?_⟩
      rintro e Wp2 ⟨rfl, bp⟩
      have T2 := hide (T1.out.trans (Two.of_below bp))
      have RV2 := hide (RV1.out.below bp RV1.out.lt)
      have RW2 := hide (RW1.out.below bp)
      have R5p2 : Hid (BitsB Wp2 (w.heap.size + 1) P5) := Rec.below R51.out bp R51.out.lt
      have R6z2 : Hid (BitsB Wp2 (w.heap.size + 1 + 1) U6) := Rec.below R6z0.out bp R6z0.out.lt
      clear bp
      obtain ⟨⟨t0, t1, t2, t3⟩, ⟨p0, y1, g0⟩, l1, l2, l3, l4⟩ := hCL.out Wp2 T2.out
      have u0 := RV2.out.cell (o := 0) rfl
      have u1 := RV2.out.cell (o := 1) rfl
      gi_wp2
      clear t0 t1 t2 t3 p0 y1 g0 l1 l2 l3 l4 u0 u1
      refine ⟨trivial, (C5.out _ _ R5p2.out).mono ?_⟩
      rintro e Wa3 ⟨rfl, hn, hw1, hw2⟩
      have T3 := hide (T2.out.trans (hw1 _))
      have RV3 := hide ((hw1 (w.heap.size + 1)).box RV2.out (by have := T1.out.sz; omega) (by have := T1.out.sz; omega))
      have RW3 := hide ((hw1 (w.heap.size + 1)).row RW2.out (by omega) (by omega))
      have R5z3 : Hid (BitsB Wa3 (w.heap.size + 1) U5) := hn.congr fun m => (by rw [S5.out m]; simp [cF])
      have R6z3 : Hid (BitsB Wa3 (w.heap.size + 1 + 1) U6) := (hw1 (w.heap.size + 1)).box R6z2.out (by omega) (by omega)
      clear hn hw1 hw2
      obtain ⟨⟨t0, t1, t2, t3⟩, ⟨p0, y1, g0⟩, l1, l2, l3, l4⟩ := hCL.out Wa3 T3.out
      have u0 := RV3.out.cell (o := 0) rfl
      have u1 := RV3.out.cell (o := 1) rfl
      gi_wp2
      clear t0 t1 t2 t3 p0 y1 g0 l1 l2 l3 l4 u0 u1
      refine ⟨trivial, ?_⟩
      gi_wp2
      rw [HU5.out] at R5z3
      rw [HU6.out] at R6z3
      exact ⟨⟨j + 1, by omega, by go_num, T3, R5z3, R6z3, RW3⟩, by simp [intOf]; omega⟩
   ·have hjn : j = n := by omega
    subst hjn
    have q2 : ¬ (j : Int) < (j : Int) := by omega
    have KX : Hid (KeepsFrom W2.heap.size Wx wr ∧ KpH hi sb (W2.heap.size + 2) Wx wr) := ⟨T.out.keeps H5.out H6.out, T.out.kp H5.out H6.out (by decide) (by omega) (by omega) (by omega) (by omega) hsx (by omega)⟩
    have IX : Hid (KlI gs h (w.heap.size + 1) (w.heap.size + 1) (w.heap.size + 1 + 1) W2 (pre ++ [(⟨xa, fa, fc, wa, wc⟩ : HTh)]) wr) := by
     refine ⟨⟨HBW.out.trans (T.out.below (Nat.le_refl _) (Nat.le_succ _) (by omega)), R5.out.congr fun m => ?_⟩, R6.out.congr fun m => ?_⟩ <;> rw [HG.out, plB_snoc, Int.toNat_natCast, E2.out]
    gi_wp2
    exact ⟨KX.out.1, KX.out.2, IX.out⟩
 case stop =>
  rintro D c pre W8 hD hpre hx
  exact hx.elim
 case done =>
  rintro D1 xs W6 hD1 hxs ⟨⟨hb6, h5⟩, h6⟩ hK1
  rw [hxs, ← HL1.out] at h5 h6
  have hDl := (Array.getElem?_eq_some_iff.1 hK1).1
  have hs6 := hb6.size
  have hw6 : Below w.heap.size w W6 := B1.out.trans ((HB.out.mono (by omega)).trans (hb6.mono (Nat.le_succ _)))
  have hp6 : Rec W6 w.heap.size 52 [.pointer (some ⟨sb, 0, none⟩)] := (HP1.out.below HB.out hwb1).keepB hb6 (Nat.lt_succ_self _)
  have hl6 : LogAt W6 W6.heap.size sb [] := HLOG.out.base hw6 hlt
  have hf6 : ∀ o, W6.frozen? ⟨sb, o, none⟩ = false := fun o => (frozen_block (hw6.block sb hlt) o).trans (HFR.out o)
  have H5 := hide h5
  have H6 := hide h6
  have HW6 := hide hw6
  have HP6 := hide hp6
  have HL6 := hide hl6
  have HF6 := hide hf6
  have HD6 := hide hK1
  have hsw6 : sb < W6.heap.size := by omega
  have hw6l : w.heap.size + 1 + 1 < W6.heap.size := by omega
  clear h5 h6 hw6 hp6 hl6 hf6 hK1 hxs hb6 VB KB HLOG HFR
  obtain ⟨P5, hP5⟩ : ∃ P5 : Nat → Bool, P5 = fun m => plB gs h (ref1 gs h) (partO gs h).1 m := ⟨_, rfl⟩
  obtain ⟨P6, hP6⟩ : ∃ P6 : Nat → Bool, P6 = fun m => plB gs h (yng1 gs h) (partO gs h).1 m := ⟨_, rfl⟩
  rw [← hP5] at H5
  rw [← hP6] at H6
  have HLP : Hid (∀ k, logP gs h k = ((decide (0 ≤ nAt h.log k ∧ nAt h.log k < 160) && P5 (nAt h.log k).toNat) && !decide (nAt h.log k ∈ h.log.take k))) := fun k => by
   rw [hP5]; exact logP_eq H.sz k
  have HYN : Hid (yngF gs h = allTo (fun i => !P6 i || decide ((i : Int) ∈ h.log)) 192) := by show _ = _; unfold yngF; rw [hP6]
  clear hP5 hP6
  obtain ⟨LP, hLP⟩ : ∃ LP, LP = logP gs h := ⟨_, rfl⟩
  rw [← hLP] at HLP
  have HEQ := hide hLP
  clear hLP
  go_wp2_with fail
  go_loopw [57] (fun v57 wr => ∃ k : Nat, k ≤ h.log.length ∧ v57 = .int .i64 (k : Int) ∧ Hid (allTo LP k = true) ∧ Hid (LogAt wr W6.heap.size sb (h.log.take k)) ∧ Hid (KpT W6.heap.size sb W6 wr)) (fun v57 wr => h.log.length - (intOf v57).toNat)
  case atStart => exact ⟨0, Nat.zero_le _, rfl, rfl, HL6, KpT.refl _ _ _⟩
  case round =>
   obtain ⟨k, hk, rfl, HA, HLg, HK⟩ := hrel
   clear HL6
   have sz := HK.out.sz
   have p0 := (World.cell?_of_block (w := W6) (a := ⟨w.heap.size, 0, none⟩) (HK.out.blk w.heap.size (by omega) (by omega))).trans (HP6.out.cell (o := 0) rfl)
   have hwl : w.heap.size < wr.heap.size := by omega
   have hsl : sb < wr.heap.size := by omega
   by_cases hlt' : k < h.log.length
   ·have q1 : (0 : Int) ≤ (k : Int) := by omega
    have q2 : (k : Int) < (h.log.length : Int) := by omega
    obtain ⟨lb, lo', rfl, _, lx, cl⟩ := ints_at HL.out hlt'
    have c1 := (World.cell?_of_block (w := W6) (a := ⟨lb, lo' + k, none⟩) (HK.out.blk lb (by omega) (by omega))).trans ((HW6.out.cell (p := ⟨lb, lo' + k, none⟩) (by show lb < w.heap.size; omega)).trans cl)
    have hB5 := hide (H5.out.bits.cells (w' := wr) fun o' => World.cell?_of_block (w := W6) (HK.out.blk (w.heap.size + 1) (by omega) (by omega)))
    have hlp := HLP.out k
    have htk : h.log.take (k + 1) = h.log.take k ++ [nAt h.log k] := by
     rw [List.take_add_one]
     congr 1
     rw [List.getElem?_eq_getElem hlt']
     show [h.log[k]] = [h.log.getD k 0]
     rw [List.getD_eq_getElem?_getD, List.getElem?_eq_getElem hlt']; rfl
    have hno : LP k = false → allTo LP h.log.length = false := fun e => allTo_false hlt' e
    have HNO := hide hno
    have HTK := hide htk
    clear cl hno htk
    generalize nAt h.log k = p at *
    have HH := hide (bitsHas_any (w.heap.size + 1) 0 p P5 wr hB5.out)
    obtain ⟨va, cap, hc488, hrow, hbits⟩ := HLg.out
    have HH2 := hide (bitsHas_any sb 489 p _ wr hbits)
    clear hc488 hrow hbits hB5
    have HDr : Hid (wr.heap[D1]? = some (.deferred (some []))) := (HK.out.blk D1 hDl (by omega)).trans HD6.out
    have fz : ∀ o, wr.frozen? ⟨sb, o, none⟩ = false := fun o => (HK.out.fr o).trans (HF6.out o)
    by_cases hin : (decide (0 ≤ p ∧ p < 160) && P5 p.toNat) = true
    ·rw [hin] at HH hlp
     have hpp : 0 ≤ p ∧ p < 160 := by rw [Bool.and_eq_true] at hin; exact of_decide_eq_true hin.1
     clear hin
     obtain ⟨m, rfl⟩ := Int.eq_ofNat_of_zero_le hpp.1
     rw [decide_eq_true hpp, Bool.true_and, Int.toNat_natCast] at HH2
     rw [Bool.true_and] at hlp
     by_cases hmem : (m : Int) ∈ h.log.take k
     ·rw [decide_eq_true hmem] at HH2 hlp
      clear hmem
      simp only [Bool.not_true] at hlp
      have hlp := hlp
      replace hlp := hide hlp
      go_wp2_with fail
      refine HH.out.mono ?_
      rintro e w3 ⟨rfl, hw⟩
      obtain rfl := hw.symm
      go_wp2_with fail
      refine HH2.out.mono ?_
      rintro e w4 ⟨rfl, hw4⟩
      obtain rfl := hw4.symm
      go_wp2_with fail
      have hlp := hlp.out
      refine ⟨by simp, .inl ⟨_, _, rfl, run_takeDeferred HDr.out, ?_⟩⟩
      have KF : KpT w.heap.size sb w (wr.putObj D1 (.deferred none)) := (KpT.of_below HW6.out hlt).trans ((HK.out.mono (by omega)).trans (KpT.of_below (below_put (Nat.le_refl _) (by omega) (Below.refl _ _) HDr.out) hlt))
      have EF : (allTo (logP gs h) h.log.length && yngF gs h) = false := by rw [← HEQ.out, HNO.out hlp, Bool.false_and]
      refine ⟨.bool false, ?_, ret_bool EF.symm, KF, fun e => by rw [EF] at e; cases e⟩
      simp [results, Tryz.f56, go_sem]
     ·rw [decide_eq_false hmem] at HH2 hlp
      simp only [Bool.not_false] at hlp
      have HT := hide (turn_any sb W6.heap.size m (h.log.take k) wr hsw6 sz HLg.out fz (by omega) (Nat.le_trans (pigeon 160 _ (log_few HLP.out k hk HA.out).1 (log_few HLP.out k hk HA.out).2) (by decide)))
      rw [if_neg hmem, ← HTK.out] at HT
      have HA1 : Hid (allTo LP (k + 1) = true) := by show allTo LP (k + 1) = true; rw [allTo, HA.out, hlp]; rfl
      clear hmem hlp fz
      go_wp2_with fail
      refine HH.out.mono ?_
      rintro e w3 ⟨rfl, hw⟩
      obtain rfl := hw.symm
      go_wp2_with fail
      refine HH2.out.mono ?_
      rintro e w4 ⟨rfl, hw4⟩
      obtain rfl := hw4.symm
      go_wp2_with fail
      refine HT.out.mono ?_
      rintro e w5 ⟨rfl, hL4, hK4⟩
      have L4 := hide hL4
      have K4 := hide (HK.out.trans hK4)
      clear hL4 hK4
      go_wp2_with fail
      exact ⟨⟨k + 1, by omega, by go_num, HA1, L4, K4⟩, by simp [intOf]; omega⟩
    ·have hin' : (decide (0 ≤ p ∧ p < 160) && P5 p.toNat) = false := by simpa using hin
     rw [hin'] at HH hlp
     rw [Bool.false_and] at hlp
     clear hin hin'
     replace hlp := hide hlp
     go_wp2_with fail
     refine HH.out.mono ?_
     rintro e w3 ⟨rfl, hw⟩
     obtain rfl := hw.symm
     go_wp2_with fail
     have hlp := hlp.out
     refine ⟨by simp, .inl ⟨_, _, rfl, run_takeDeferred HDr.out, ?_⟩⟩
     have KF : KpT w.heap.size sb w (wr.putObj D1 (.deferred none)) := (KpT.of_below HW6.out hlt).trans ((HK.out.mono (by omega)).trans (KpT.of_below (below_put (Nat.le_refl _) (by omega) (Below.refl _ _) HDr.out) hlt))
     have EF : (allTo (logP gs h) h.log.length && yngF gs h) = false := by rw [← HEQ.out, HNO.out hlp, Bool.false_and]
     refine ⟨.bool false, ?_, ret_bool EF.symm, KF, fun e => by rw [EF] at e; cases e⟩
     simp [results, Tryz.f56, go_sem]
   ·have hkl : k = h.log.length := by omega
    subst hkl
    have q2 : ¬ (h.log.length : Int) < (h.log.length : Int) := by omega
    rw [List.take_length] at HLg
    obtain ⟨va, cap, hc488, hrow, hbits⟩ := HLg.out
    have hB6 := H6.out.bits.cells (w' := wr) fun o' => World.cell?_of_block (w := W6) (HK.out.blk (w.heap.size + 1 + 1) (by omega) (by omega))
    have HWI := hide (bitsWithin_any (w.heap.size + 1 + 1) 0 sb 489 P6 _ wr hB6 hbits (by omega) hsl)
    rw [← HYN.out] at HWI
    have HDr : Hid (wr.heap[D1]? = some (.deferred (some []))) := (HK.out.blk D1 hDl (by omega)).trans HD6.out
    have hDr : D1 < wr.heap.size := by omega
    clear hc488 hrow hbits hB6
    go_wp2_with (first | (go_at_call 86; refine HWI.out.mono ?_; rintro e w3 ⟨rfl, b3⟩; have B3 := hide b3; clear b3))
    have HD3 : w3.heap[D1]? = some (.deferred (some [])) := (B3.out.block D1 hDr).trans HDr.out
    refine ⟨by simp, .inl ⟨_, _, rfl, run_takeDeferred HD3, ?_⟩⟩
    have EF : (allTo (logP gs h) h.log.length && yngF gs h) = yngF gs h := by rw [← HEQ.out, HA.out, Bool.true_and]
    have KF : KpT w.heap.size sb w (w3.putObj D1 (.deferred none)) := (KpT.of_below HW6.out hlt).trans ((HK.out.mono (by omega)).trans ((KpT.of_below (B3.out.mono (by omega)) hlt).trans (KpT.of_below (below_put (Nat.le_refl _) (by omega) (Below.refl _ _) HD3) hlt)))
    refine ⟨.bool (yngF gs h), ?_, ret_bool EF.symm, KF, fun _ => ((HLg.out.below B3.out hsl).put (by omega) (by omega)).lower (by omega)⟩
    simp [results, Tryz.f56, go_sem]
end Go.Proofs.YtembifoimiochaaGreatDoor
