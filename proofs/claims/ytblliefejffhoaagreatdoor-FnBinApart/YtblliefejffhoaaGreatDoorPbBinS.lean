/- PbBinS: Bin, BTxtM, BTxtS, BTxtS2, BTxtS3. -/
import Derived.Test.YtblliefejffhoaaGreatDoorBase
import Derived.Laws.BytesString
import Derived.Test.YtblliefejffhoaaGreatDoorPbOk
import Derived.Test.YtblliefejffhoaaGreatDoorPbTxt
import Derived.Deep.RegionHeld3
/- Numbers as bytes: BinOfNum and BinNumAt, of the program and of the model. -/
namespace Go.Proofs.YtblliefejffhoaaGreatDoor
open Go.ChangeShapes Go.WideShapes Go.ChangeAt Go.RowKit
set_option linter.unusedVariables false

theorem Tryz.bin1 (W : World) (b : Nat) (v : Int) (h : W.cell? ⟨b, 0, none⟩ = some (.int .u8 v)) :
    (convert 22 9 (.slice (some ⟨b, 0, none⟩) 1 1)).run Tryz.prog W = .ok (.string ⟨#[UInt8.ofNat v.toNat]⟩) W := by
  rw [run_convert_bytes_string W _ _ _ _ _ _ Tryz.underlying22 Tryz.underlying5 Tryz.underlying9]
  refine run_bytesToString W ⟨b, 0, none⟩ 1 1 [v] ?_
  simp [loadCells, go_sem, h]

theorem Tryz.bin2 (W : World) (b : Nat) (v u : Int) (h : W.cell? ⟨b, 0, none⟩ = some (.int .u8 v)) (k : W.cell? ⟨b, 1, none⟩ = some (.int .u8 u)) :
    (convert 22 9 (.slice (some ⟨b, 0, none⟩) 2 2)).run Tryz.prog W = .ok (.string ⟨#[UInt8.ofNat v.toNat, UInt8.ofNat u.toNat]⟩) W := by
  rw [run_convert_bytes_string W _ _ _ _ _ _ Tryz.underlying22 Tryz.underlying5 Tryz.underlying9]
  refine run_bytesToString W ⟨b, 0, none⟩ 2 2 [v, u] ?_
  simp [loadCells, go_sem, h, k]

/-- The bytes of a number. -/
def binB (n : Int) : List UInt8 :=
  if n < 0 ∨ 16383 < n then [] else if n < 128 then [UInt8.ofNat n.toNat] else [UInt8.ofNat (128 + n % 128).toNat, UInt8.ofNat (n / 128).toNat]

theorem binB_none {n : Int} (h : n < 0 ∨ 16383 < n) : binB n = [] := by rw [binB, if_pos h]
theorem binB_one {n : Int} (h0 : 0 ≤ n) (h : n < 128) : binB n = [UInt8.ofNat n.toNat] := by rw [binB, if_neg (by omega), if_pos h]
theorem binB_two {n : Int} (h0 : 128 ≤ n) (h : n ≤ 16383) : binB n = [UInt8.ofNat (128 + n % 128).toNat, UInt8.ofNat (n / 128).toNat] := by rw [binB, if_neg (by omega), if_neg (by omega)]

set_option maxHeartbeats 1000000 in
theorem implBinOfNum_any (n : Int) (w : World) :
    Calls Tryz.prog 46 #[.int .i64 n] w fun e w' => e = .returned (.string ⟨(binB n).toArray⟩) ∧ Below w.heap.size w w' := by
  by_cases h0 : n < 0
  · have E := hide (binB_none (n := n) (.inl h0))
    go_enter Tryz.func46, Tryz.ntmps46
    go_wp2_with fail
    go_ret
    exact ⟨by rw [E.out]; rfl, Below.refl _ _⟩
  have g0 : decide (n < 0) = false := by simpa using h0
  by_cases h1 : 16383 < n
  · have E := hide (binB_none (n := n) (.inr h1))
    go_enter Tryz.func46, Tryz.ntmps46
    go_wp2_with fail
    go_ret
    exact ⟨by rw [E.out]; rfl, Below.refl _ _⟩
  have g1 : decide (16383 < n) = false := by simpa using h1
  have p0 : 0 ≤ n := by omega
  have p1 : n ≤ 16383 := by omega
  by_cases h2 : n < 128
  · have E := hide (binB_one p0 h2)
    have hcv := Tryz.bin1 (w.alloc (.cells #[.int .u8 n] 5)) w.heap.size n (by simp)
    go_enter Tryz.func46, Tryz.ntmps46
    go_wp2_with fail
    go_ret
    exact ⟨by rw [E.out]; rfl, (Below.refl _ _).alloc (Nat.le_refl _) _⟩
  have g2 : decide (n < 128) = false := by simpa using h2
  have p2 : 128 ≤ n := by omega
  have E := hide (binB_two p2 p1)
  obtain ⟨r, hr⟩ : ∃ r, n % 128 = r := ⟨_, rfl⟩
  obtain ⟨q, hq⟩ : ∃ q, n / 128 = q := ⟨_, rfl⟩
  rw [hr, hq] at E
  have r0 : 0 ≤ r := by omega
  have r1 : r < 128 := by omega
  have q0 : 0 ≤ q := by omega
  have q1 : q < 128 := by omega
  have hcv := Tryz.bin2 (w.alloc (.cells #[.int .u8 (128 + r), .int .u8 q] 5)) w.heap.size (128 + r) q (by simp) (by simp)
  go_enter Tryz.func46, Tryz.ntmps46
  go_wp2_with fail
  go_ret
  exact ⟨by rw [E.out]; rfl, (Below.refl _ _).alloc (Nat.le_refl _) _⟩

set_option maxHeartbeats 1000000 in
theorem specBinOfNum_any (n : Int) (w : World) :
    Calls Tryz.prog 48 #[.int .i64 n] w fun e w' => e = .returned (.string ⟨(binB n).toArray⟩) ∧ Below w.heap.size w w' := by
  by_cases h0 : n < 0
  · have E := hide (binB_none (n := n) (.inl h0))
    go_enter Tryz.func48, Tryz.ntmps48
    go_wp2_with fail
    go_ret
    exact ⟨by rw [E.out]; rfl, Below.refl _ _⟩
  have g0 : decide (n < 0) = false := by simpa using h0
  by_cases h1 : 16383 < n
  · have E := hide (binB_none (n := n) (.inr h1))
    go_enter Tryz.func48, Tryz.ntmps48
    go_wp2_with fail
    go_ret
    exact ⟨by rw [E.out]; rfl, Below.refl _ _⟩
  have g1 : decide (16383 < n) = false := by simpa using h1
  have p0 : 0 ≤ n := by omega
  have p1 : n ≤ 16383 := by omega
  by_cases h2 : n < 128
  · have E := hide (binB_one p0 h2)
    have hcv := Tryz.bin1 (w.alloc (.cells #[.int .u8 n] 5)) w.heap.size n (by simp)
    go_enter Tryz.func48, Tryz.ntmps48
    go_wp2_with fail
    go_ret
    exact ⟨by rw [E.out]; rfl, (Below.refl _ _).alloc (Nat.le_refl _) _⟩
  have g2 : decide (n < 128) = false := by simpa using h2
  have p2 : 128 ≤ n := by omega
  have E := hide (binB_two p2 p1)
  obtain ⟨r, hr⟩ : ∃ r, n % 128 = r := ⟨_, rfl⟩
  obtain ⟨q, hq⟩ : ∃ q, n / 128 = q := ⟨_, rfl⟩
  rw [hr, hq] at E
  have r0 : 0 ≤ r := by omega
  have r1 : r < 128 := by omega
  have q0 : 0 ≤ q := by omega
  have q1 : q < 128 := by omega
  have hcv := Tryz.bin2 (w.alloc (.cells #[.int .u8 (128 + r), .int .u8 q] 5)) w.heap.size (128 + r) q (by simp) (by simp)
  go_enter Tryz.func48, Tryz.ntmps48
  go_wp2_with fail
  go_ret
  exact ⟨by rw [E.out]; rfl, (Below.refl _ _).alloc (Nat.le_refl _) _⟩

end Go.Proofs.YtblliefejffhoaaGreatDoor

/- The numbers of a program, and its bytes, as lists. -/
namespace Go.Proofs.YtblliefejffhoaaGreatDoor
open Go.ChangeShapes Go.WideShapes Go.ChangeAt Go.RowKit
set_option linter.unusedVariables false

/-- What F tells of 0 .. k - 1, one behind another. -/
def upNums (F : Nat → List Int) : Nat → List Int
  | 0 => []
  | k + 1 => upNums F k ++ F k
theorem upNums_len {F : Nat → List Int} {c : Nat} (k : Nat) (h : ∀ i, i < k → (F i).length ≤ c) : (upNums F k).length ≤ c * k := by
  induction k with
  | zero => simp [upNums]
  | succ k ih =>
    have h1 := ih fun i hi => h i (by omega)
    have h2 := h k (by omega)
    simp only [upNums, List.length_append, Nat.mul_succ]
    omega

def bin (ns : List Int) : List UInt8 := ns.flatMap binB
theorem bin_append (a b : List Int) : bin (a ++ b) = bin a ++ bin b := by simp [bin]
theorem bin_cons (a : Int) (b : List Int) : bin (a :: b) = binB a ++ bin b := by simp [bin]
theorem bin_one (a : Int) : bin [a] = binB a := by simp [bin]
theorem binB_le2 (n : Int) : (binB n).length ≤ 2 := by
  unfold binB
  split
  · simp
  · split <;> simp
theorem bin_len (ns : List Int) : (bin ns).length ≤ 2 * ns.length := by
  induction ns with
  | nil => simp [bin]
  | cons a b ih =>
    have := binB_le2 a
    rw [bin_cons, List.length_append, List.length_cons]
    omega

def kNum (k : Int) (f : Bool) : Int := if f then k + 4 else k
def ofNum (f : Fd) : List Int := if f.kind = 1 then [] else [f.of + 2]
def fdNums (f : Fd) : List Int := kNum f.kind f.mt :: ofNum f
def fdsNums (fs : List Fd) : List Int := (fs.length : Int) :: upNums (fun i => fdNums (fdAt fs i)) fs.length
def tyNums (t : Ty) : List Int := kNum t.kind t.last :: (t.up + 1) :: fdsNums t.fields
def grNums (g : List Ty) : List Int := (g.length : Int) :: upNums (fun i => tyNums (tyAt g i)) g.length
def tysNums (gs : List (List Ty)) : List Int := (gs.length : Int) :: upNums (fun i => grNums (grAt gs i)) gs.length
def spanNums (i : GIns) : List Int := if spanN i.op = 0 then [] else if spanN i.op = 1 then [i.a - spanLo i.op] else [i.a - spanLo i.op, i.b]
def insNums (i : GIns) : List Int := i.op :: spanNums i
def inssNums (l : List GIns) : List Int := (l.length : Int) :: upNums (fun i => insNums (insAt' l i)) l.length
def funNums (f : GFun) : List Int := fdNums f.gives ++ fdsNums f.takes ++ fdsNums f.own ++ inssNums f.body
def funsNums (l : List GFun) : List Int := (l.length : Int) :: upNums (fun i => funNums (funAt' l i)) l.length
def progNums (p : GProg) : List Int := tysNums p.types ++ fdsNums p.glob ++ funsNums p.funs
def lairW : List UInt8 := [108, 97, 105, 114]
def binTxt (p : GProg) : List UInt8 := if progOkF p then lairW ++ bin (progNums p) else []

def FdS (f : Fd) : Prop := (1 ≤ f.kind ∧ f.kind ≤ 3) ∧ -2 ≤ f.of ∧ f.of ≤ 8
def FdsS (n : Nat) (fs : List Fd) : Prop := fs.length ≤ n ∧ ∀ i, i < fs.length → FdS (fdAt fs i)
def TyS (t : Ty) : Prop := ((1 ≤ t.kind ∧ t.kind ≤ 2) ∧ -1 ≤ t.up ∧ t.up ≤ 100) ∧ FdsS 4 t.fields
def GrS (g : List Ty) : Prop := g.length ≤ 8 ∧ ∀ i, i < g.length → TyS (tyAt g i)
def TysS (gs : List (List Ty)) : Prop := gs.length ≤ 4 ∧ ∀ i, i < gs.length → GrS (grAt gs i)
def InsS (i : GIns) : Prop := insOk i.op i.a i.b = true
def InssS (l : List GIns) : Prop := l.length ≤ 30 ∧ ∀ i, i < l.length → InsS (insAt' l i)
def FunS (f : GFun) : Prop := FdS f.gives ∧ FdsS 3 f.takes ∧ FdsS 3 f.own ∧ InssS f.body
def FunsS (l : List GFun) : Prop := l.length ≤ 5 ∧ ∀ i, i < l.length → FunS (funAt' l i)
def ProgS (p : GProg) : Prop := TysS p.types ∧ FdsS 3 p.glob ∧ FunsS p.funs

theorem fdS_of {k o n : Int} (h : fieldOk k o n = true) (hn : n ≤ 8) : (1 ≤ k ∧ k ≤ 3) ∧ -2 ≤ o ∧ o ≤ 8 := by
  unfold fieldOk at h
  split at h
  · simp at h; omega
  · split at h
    · simp at h; omega
    · simp at h
theorem sOk_of {n : Int} {f : Fd} (h : sOk n f = true) (hn : n ≤ 8) : FdS f := by
  have : fieldOk f.kind f.of n = true := by
    unfold sOk sortOk at h
    simp only [Bool.and_eq_true] at h
    exact h.1
  exact fdS_of this hn
theorem countTo_at_le2 (F : Nat → List Ty) (x n : Nat) (h : x < n) : countTo F x + (F x).length ≤ countTo F n := countTo_mono F (show x + 1 ≤ n by omega)

theorem progS_of {p : GProg} (h : progOkF p = true) : ProgS p := by
  unfold progOkF at h
  simp only [Bool.and_eq_true, decide_eq_true_eq] at h
  obtain ⟨⟨hk, ⟨⟨hg, hgs, _⟩, hf0, hf5⟩⟩, hfs⟩ := h
  have hP : Parts p.types := by
    unfold kinOkF at hk
    simp only [Bool.and_eq_true] at hk
    exact (partsF_iff _).1 hk.1
  have h88 := hP.2.1
  have hn8 : ((kinCount p.types : Nat) : Int) ≤ 8 := by omega
  refine ⟨⟨hP.1, fun x hx => ?_⟩, ⟨hg, fun i hi => sOk_of (allTo_true hgs i hi) hn8⟩, hf5, fun i hi => ?_⟩
  · have h8 : countTo (grAt p.types) x + (grAt p.types x).length ≤ kinCount p.types := countTo_at_le2 _ _ _ hx
    refine ⟨by omega, fun i hi => ?_⟩
    have hF := (hP.2.2 x hx).2 i hi
    unfold formOk at hF
    simp only [Bool.and_eq_true, Bool.or_eq_true, decide_eq_true_eq] at hF
    obtain ⟨⟨⟨u1, u2⟩, u3⟩, u4, u5⟩ := hF
    refine ⟨⟨?_, u1, by omega⟩, u3, fun j hj => fdS_of (allTo_true u5 j hj) (by omega)⟩
    rcases u4 with u4 | ⟨u4, _⟩ <;> omega
  · have := allTo_true hfs i hi
    unfold funOkF at this
    simp only [Bool.and_eq_true, decide_eq_true_eq] at this
    obtain ⟨⟨⟨h1, h2⟩, _, h3⟩, ⟨h4, h5, _⟩, h6, h7⟩ := this
    exact ⟨sOk_of h6 hn8, ⟨h1, fun j hj => sOk_of (allTo_true h4 j hj) hn8⟩, ⟨h2, fun j hj => sOk_of (allTo_true h5 j hj) hn8⟩, h3, fun j hj => allTo_true h7 j hj⟩

theorem fdNums_len (f : Fd) : (fdNums f).length ≤ 2 := by unfold fdNums ofNum; split <;> simp
theorem fdNums_pos (f : Fd) : 0 < (fdNums f).length := by simp [fdNums]
theorem fdsNums_len (fs : List Fd) : (fdsNums fs).length ≤ 1 + 2 * fs.length := by
  have := upNums_len (F := fun i => fdNums (fdAt fs i)) (c := 2) fs.length fun i _ => fdNums_len _
  simp [fdsNums]
  omega
theorem tyNums_len {t : Ty} (h : TyS t) : (tyNums t).length ≤ 11 := by
  have h1 := fdsNums_len t.fields
  have h2 : t.fields.length ≤ 4 := h.2.1
  simp [tyNums]
  omega
theorem upTy_len {g : List Ty} (h : GrS g) (k : Nat) (hk : k ≤ g.length) : (upNums (fun i => tyNums (tyAt g i)) k).length ≤ 88 := by
  have := upNums_len (F := fun i => tyNums (tyAt g i)) (c := 11) k fun i hi => tyNums_len (h.2 i (by omega))
  have := h.1
  omega
theorem grNums_len {g : List Ty} (h : GrS g) : (grNums g).length ≤ 89 := by
  have := upTy_len h _ (Nat.le_refl _)
  simp [grNums]
  omega
theorem upGr_len {gs : List (List Ty)} (h : TysS gs) (k : Nat) (hk : k ≤ gs.length) : (upNums (fun i => grNums (grAt gs i)) k).length ≤ 356 := by
  have := upNums_len (F := fun i => grNums (grAt gs i)) (c := 89) k fun i hi => grNums_len (h.2 i (by omega))
  have := h.1
  omega
theorem insNums_len (i : GIns) : (insNums i).length ≤ 3 := by
  unfold insNums spanNums
  split
  · simp
  · split <;> simp
theorem upIns_len {l : List GIns} (h : InssS l) (k : Nat) (hk : k ≤ l.length) : (upNums (fun i => insNums (insAt' l i)) k).length ≤ 90 := by
  have := upNums_len (F := fun i => insNums (insAt' l i)) (c := 3) k fun i hi => insNums_len _
  have := h.1
  omega
theorem funNums_len {f : GFun} (h : FunS f) : (funNums f).length ≤ 107 := by
  have h1 := fdNums_len f.gives
  have h2 := fdsNums_len f.takes
  have h3 := fdsNums_len f.own
  have h4 := upIns_len h.2.2.2 _ (Nat.le_refl _)
  have h5 : f.takes.length ≤ 3 := h.2.1.1
  have h6 : f.own.length ≤ 3 := h.2.2.1.1
  simp [funNums, inssNums]
  omega
theorem upFun_len {l : List GFun} (h : FunsS l) (k : Nat) (hk : k ≤ l.length) : (upNums (fun i => funNums (funAt' l i)) k).length ≤ 535 := by
  have := upNums_len (F := fun i => funNums (funAt' l i)) (c := 107) k fun i hi => funNums_len (h.2 i (by omega))
  have := h.1
  omega
theorem progNums_len {p : GProg} (h : ProgS p) : (progNums p).length ≤ 1000 := by
  have h1 := upGr_len h.1 _ (Nat.le_refl _)
  have h2 := fdsNums_len p.glob
  have h3 : p.glob.length ≤ 3 := h.2.1.1
  have h4 := upFun_len h.2.2 _ (Nat.le_refl _)
  simp [progNums, tysNums, funsNums]
  omega
end Go.Proofs.YtblliefejffhoaaGreatDoor

/- l12Field, l12Fields and l12Type of the model. -/
namespace Go.Proofs.YtblliefejffhoaaGreatDoor
open Go.ChangeShapes Go.WideShapes Go.ChangeAt Go.RowKit
set_option linter.unusedVariables false

theorem wrapI {x : Int} (h1 : -9223372036854775808 ≤ x) (h2 : x ≤ 9223372036854775807) : IntKind.i64.wrap x = x := by
  have e : IntKind.i64.wrap x = if 9223372036854775808 ≤ x % 18446744073709551616 then x % 18446744073709551616 - 18446744073709551616 else x % 18446744073709551616 := by simp [IntKind.wrap, IntKind.bits, IntKind.signed]
  rw [e]
  split <;> omega
theorem specBin_l (n : Int) {l : List UInt8} (h : binB n = l) (w : World) : Calls Tryz.prog 48 #[.int .i64 n] w fun e w' => e = .returned (.string ⟨l.toArray⟩) ∧ Below w.heap.size w w' := h ▸ specBinOfNum_any n w
theorem binB_len2 {n : Int} {l : List UInt8} (h : binB n = l) : l.length ≤ 2 := h ▸ binB_le2 n

set_option maxHeartbeats 1600000 in
theorem l12Field_any (f : Fd) (w : World) (h : FdS f) :
    Calls Tryz.prog 84 #[.agg #[.int .i64 f.kind, .int .i64 f.of, .bool f.mt]] w fun e w' => e = .returned (.string ⟨(bin (fdNums f)).toArray⟩) ∧ Below w.heap.size w w' := by
  obtain ⟨fk, fo, fm⟩ := f
  obtain ⟨⟨k1, k2⟩, o1, o2⟩ := h
  simp only at k1 k2 o1 o2 ⊢
  by_cases hk : fk = 1
  · subst hk
    cases fm with
    | false =>
      obtain ⟨b1, hb1⟩ : ∃ l, binB 1 = l := ⟨_, rfl⟩
      have HT : Hid (bin (fdNums ⟨1, fo, false⟩) = b1) := by show _ = _; rw [← hb1]; simp [fdNums, ofNum, kNum, bin]
      have HB1 := hide hb1
      clear hb1
      go_enter Tryz.func84, Tryz.ntmps84
      go_wp2_with fail
      refine (specBin_l 1 HB1.out _).mono ?_
      rintro e w1 ⟨rfl, b1⟩
      go_wp2_with fail
      go_ret
      exact ⟨by rw [HT.out]; rfl, ((Below.refl _ _).alloc (Nat.le_refl _) _).trans (b1.mono (by simp))⟩
    | true =>
      obtain ⟨b1, hb1⟩ : ∃ l, binB 5 = l := ⟨_, rfl⟩
      have HT : Hid (bin (fdNums ⟨1, fo, true⟩) = b1) := by show _ = _; rw [← hb1]; simp [fdNums, ofNum, kNum, bin]
      have HB1 := hide hb1
      clear hb1
      go_enter Tryz.func84, Tryz.ntmps84
      go_wp2_with fail
      refine (specBin_l 5 HB1.out _).mono ?_
      rintro e w1 ⟨rfl, b1⟩
      go_wp2_with fail
      go_ret
      exact ⟨by rw [HT.out]; rfl, ((Below.refl _ _).alloc (Nat.le_refl _) _).trans (b1.mono (by simp))⟩
  · have hkk : (fk == 1) = false := beq_eq_false_iff_ne.2 hk
    cases fm with
    | false =>
      have hw4 : IntKind.i64.wrap (fk + 4) = fk + 4 := wrapI (by omega) (by omega)
      have hw2 : IntKind.i64.wrap (fo + 2) = fo + 2 := wrapI (by omega) (by omega)
      obtain ⟨b1, hb1⟩ : ∃ l, binB fk = l := ⟨_, rfl⟩
      obtain ⟨b2, hb2⟩ : ∃ l, binB (fo + 2) = l := ⟨_, rfl⟩
      have hl1 := binB_len2 hb1
      have hl2 := binB_len2 hb2
      have HT : Hid (bin (fdNums ⟨fk, fo, false⟩) = b1 ++ b2) := by show _ = _; rw [← hb1, ← hb2]; simp [fdNums, ofNum, kNum, bin, hk]
      have HB1 := hide hb1
      have HB2 := hide hb2
      clear hb1 hb2
      have add0 := add_big b1 b2 (b1 ++ b2) rfl (by first | omega | simp) (by first | omega | simp)
      obtain ⟨x1, hadd0⟩ : ∃ l : List UInt8, l = b1 ++ b2 := ⟨_, rfl⟩
      rw [← hadd0] at add0
      have len_x1 : x1.length ≤ 4 := by rw [hadd0]; first | (simp; done) | (simp; omega)
      have H_x1 := hide hadd0
      clear hadd0
      have B0 : Hid (Below w.heap.size w (w.alloc (.cells #[.int .i64 fk, .int .i64 fo, .bool false] 33))) := (Below.refl _ _).alloc (Nat.le_refl _) _
      have R0 : Hid (Rec (w.alloc (.cells #[.int .i64 fk, .int .i64 fo, .bool false] 33)) w.heap.size 33 [.int .i64 fk, .int .i64 fo, .bool false]) := Rec.new _ _ _
      clear hk
      go_enter Tryz.func84, Tryz.ntmps84
      go_wp2_with fail
      go_region_held3 (fun w' => w'.cell? ⟨w.heap.size, 1, none⟩ = some (.int .i64 fo))
        (go_keep)
        ((first
          | (go_at_call 48; refine (specBin_l (fo + 2) HB2.out w1).mono ?_; rintro e w2 ⟨rfl, b2⟩; have B2 := hide (B1.out.trans (b2.mono B1.out.size)); have R2 := hide (R1.out.below b2 R1.out.lt); clear b2; have p1 := R2.out.cell (o := 1) rfl)
          | (go_at_call 48; refine (specBin_l fk HB1.out _).mono ?_; rintro e w1 ⟨rfl, b1⟩; have B1 := hide (B0.out.drew.trans (b1.mono B0.out.size)); have R1 : Hid (Rec w1 w.heap.size 33 [.int .i64 fk, .int .i64 fo, .bool false]) := Rec.below (w := (w.alloc (.cells #[.int .i64 fk, .int .i64 fo, .bool false] 33)).drew) R0.out b1 R0.out.lt; clear b1; have p1 := R1.out.cell (o := 1) rfl)))
      go_wp2_with fail
      go_ret
      exact ⟨by rw [HT.out, ← H_x1.out]; rfl, B2.out⟩
    | true =>
      have hw4 : IntKind.i64.wrap (fk + 4) = fk + 4 := wrapI (by omega) (by omega)
      have hw2 : IntKind.i64.wrap (fo + 2) = fo + 2 := wrapI (by omega) (by omega)
      obtain ⟨b1, hb1⟩ : ∃ l, binB (fk + 4) = l := ⟨_, rfl⟩
      obtain ⟨b2, hb2⟩ : ∃ l, binB (fo + 2) = l := ⟨_, rfl⟩
      have hl1 := binB_len2 hb1
      have hl2 := binB_len2 hb2
      have HT : Hid (bin (fdNums ⟨fk, fo, true⟩) = b1 ++ b2) := by show _ = _; rw [← hb1, ← hb2]; simp [fdNums, ofNum, kNum, bin, hk]
      have HB1 := hide hb1
      have HB2 := hide hb2
      clear hb1 hb2
      have add0 := add_big b1 b2 (b1 ++ b2) rfl (by first | omega | simp) (by first | omega | simp)
      obtain ⟨x1, hadd0⟩ : ∃ l : List UInt8, l = b1 ++ b2 := ⟨_, rfl⟩
      rw [← hadd0] at add0
      have len_x1 : x1.length ≤ 4 := by rw [hadd0]; first | (simp; done) | (simp; omega)
      have H_x1 := hide hadd0
      clear hadd0
      have B0 : Hid (Below w.heap.size w (w.alloc (.cells #[.int .i64 fk, .int .i64 fo, .bool true] 33))) := (Below.refl _ _).alloc (Nat.le_refl _) _
      have R0 : Hid (Rec (w.alloc (.cells #[.int .i64 fk, .int .i64 fo, .bool true] 33)) w.heap.size 33 [.int .i64 fk, .int .i64 fo, .bool true]) := Rec.new _ _ _
      clear hk
      go_enter Tryz.func84, Tryz.ntmps84
      go_wp2_with fail
      go_region_held3 (fun w' => w'.cell? ⟨w.heap.size, 1, none⟩ = some (.int .i64 fo))
        (go_keep)
        ((first
          | (go_at_call 48; refine (specBin_l (fo + 2) HB2.out w1).mono ?_; rintro e w2 ⟨rfl, b2⟩; have B2 := hide (B1.out.trans (b2.mono B1.out.size)); have R2 := hide (R1.out.below b2 R1.out.lt); clear b2; have p1 := R2.out.cell (o := 1) rfl)
          | (go_at_call 48; refine (specBin_l (fk + 4) HB1.out _).mono ?_; rintro e w1 ⟨rfl, b1⟩; have B1 := hide (B0.out.drew.trans (b1.mono B0.out.size)); have R1 : Hid (Rec w1 w.heap.size 33 [.int .i64 fk, .int .i64 fo, .bool true]) := Rec.below (w := (w.alloc (.cells #[.int .i64 fk, .int .i64 fo, .bool true] 33)).drew) R0.out b1 R0.out.lt; clear b1; have p1 := R1.out.cell (o := 1) rfl)))
      go_wp2_with fail
      go_ret
      exact ⟨by rw [HT.out, ← H_x1.out]; rfl, B2.out⟩

set_option maxHeartbeats 1600000 in
theorem l12Fields_any (a : Option Addr) (c lo hi : Nat) (fs : List Fd) (w : World) (hs : FdsS 4 fs) (hx : FieldsIn w lo hi a fs) (hh : hi ≤ w.heap.size) :
    Calls Tryz.prog 50 #[.slice a fs.length c] w fun e w' => e = .returned (.string ⟨(bin (fdsNums fs)).toArray⟩) ∧ Below w.heap.size w w' := by
  have HX := hide hx
  have HS := hide hs.2
  have hn : fs.length ≤ 4 := hs.1
  have HT : Hid (bin (fdsNums fs) = binB (fs.length : Int) ++ bin (upNums (fun i => fdNums (fdAt fs i)) fs.length)) := bin_cons _ _
  have HUL := hide (fun k => upNums_len (F := fun i => fdNums (fdAt fs i)) (c := 2) k fun i _ => fdNums_len _)
  have HUS : Hid (∀ k, upNums (fun i => fdNums (fdAt fs i)) (k + 1) = upNums (fun i => fdNums (fdAt fs i)) k ++ fdNums (fdAt fs k)) := fun k => rfl
  clear hx hs
  generalize bin (fdsNums fs) = TT at HT ⊢
  generalize upNums (fun i => fdNums (fdAt fs i)) = U at HT HUL HUS
  obtain ⟨n, hnn⟩ : ∃ n, fs.length = n := ⟨_, rfl⟩
  have HN := hide hnn
  rw [hnn] at hn HT ⊢
  clear hnn
  obtain ⟨b0, hb0⟩ : ∃ l, binB (n : Int) = l := ⟨_, rfl⟩
  have hl0 := binB_len2 hb0
  rw [hb0] at HT
  have HB0 := hide hb0
  clear hb0
  go_enter Tryz.func50, Tryz.ntmps50
  go_wp2_with fail
  refine (specBin_l (n : Int) HB0.out w).mono ?_
  rintro e w1 ⟨rfl, hb1⟩
  have B1 := hide hb1
  clear hb1
  go_wp2_with fail
  go_loopw [3, 4] (fun o i wr => ∃ (k : Nat) (acc : List UInt8), k ≤ n ∧ o = .string ⟨acc.toArray⟩ ∧ i = .int .i64 k ∧ acc = b0 ++ bin (U k) ∧ Below w.heap.size w wr) (fun o i wr => n - (intOf i).toNat)
  case atStart => exact ⟨0, _, Nat.zero_le _, rfl, rfl, by have : U 0 = [] := List.length_eq_zero_iff.1 (by have := HUL.out 0; omega); rw [this]; simp [bin], B1.out⟩
  case round =>
    clear B1
    obtain ⟨k, acc, hk, rfl, rfl, hacc, hb⟩ := hrel
    have HA := hide hacc
    have HB := hide hb
    have hlen : acc.length ≤ 1000 := by
      have i1 := bin_len (U k)
      have i2 := HUL.out k
      rw [hacc, List.length_append]
      omega
    clear hacc hb
    by_cases hlt : k < n
    · have hk2 : k < fs.length := by rw [HN.out]; exact hlt
      rcases HX.out with hnil | ⟨b, off, rfl, g1, g2, g3⟩
      · rw [hnil] at hk2; exact absurd hk2 (Nat.not_lt_zero _)
      obtain ⟨f0, f1, f2⟩ := (g3 k hk2).same (lo := lo) (hi := hi) (.of_below HB.out hh) g1 g2
      have HC := hide (l12Field_any (fdAt fs k) wr (HS.out k hk2))
      have hbl : b < wr.heap.size := by have := HB.out.size; omega
      clear g3
      have HU := HUS.out k
      have hl2 : (bin (fdNums (fdAt fs k))).length ≤ 4 := by have := bin_len (fdNums (fdAt fs k)); have := fdNums_len (fdAt fs k); omega
      have HE : Hid (b0 ++ bin (U (k + 1)) = acc ++ bin (fdNums (fdAt fs k))) := by show _ = _; rw [HU, bin_append, HA.out]; simp
      clear HU
      generalize bin (fdNums (fdAt fs k)) = t at HC hl2 HE
      generalize fdAt fs k = f at f0 f1 f2 HC
      obtain ⟨fk, fo, fm⟩ := f
      simp only at f0 f1 f2 HC
      have add0 := add_big acc t (acc ++ t) rfl (by first | omega | simp) (by first | omega | simp)
      obtain ⟨y1, hadd0⟩ : ∃ l : List UInt8, l = acc ++ t := ⟨_, rfl⟩
      rw [← hadd0] at add0
      have len_y1 : y1.length ≤ 2000 := by rw [hadd0]; first | (simp; done) | (simp; omega)
      have H_y1 := hide hadd0
      clear hadd0
      have j1 : (0 : Int) ≤ (k : Int) := by omega
      have j2 : (k : Int) < (n : Int) := by omega
      go_wp2_with fail
      refine HC.out.mono ?_
      rintro e w2 ⟨rfl, b2⟩
      have B2 : Hid (Below w.heap.size w w2) := HB.out.trans (b2.mono HB.out.size)
      clear b2
      go_wp2_with fail
      refine ⟨⟨k + 1, y1, by omega, rfl, by go_num, ?_, B2.out⟩, by simp [intOf]; omega⟩
      rw [HE.out, H_y1.out]
    · have hkn : k = n := by omega
      go_wp2_with fail
      go_ret
      refine ⟨?_, HB.out⟩
      have : acc = TT := by rw [HA.out, hkn, HT.out]
      rw [← this]
      rfl

set_option maxHeartbeats 1600000 in
theorem l12Type_any (fa : Option Addr) (fc lo hi : Nat) (t : Ty) (w : World) (h : TyS t) (hx : FieldsIn w lo hi fa t.fields) (hh : hi ≤ w.heap.size) :
    Calls Tryz.prog 49 #[.agg #[.int .i64 t.kind, .int .i64 t.up, .bool t.last, .slice fa t.fields.length fc]] w fun e w' => e = .returned (.string ⟨(bin (tyNums t)).toArray⟩) ∧ Below w.heap.size w w' := by
  have HX := hide (fun W (hW : Below w.heap.size w W) => l12Fields_any fa fc lo hi t.fields W h.2 (hx.same (Same.of_below hW hh) (Nat.le_refl _) (Nat.le_refl _)) (Nat.le_trans hh hW.size))
  have hl3 : (bin (fdsNums t.fields)).length ≤ 18 := by
    have h1 := bin_len (fdsNums t.fields)
    have h2 := fdsNums_len t.fields
    have h3 : t.fields.length ≤ 4 := h.2.1
    omega
  obtain ⟨⟨⟨k1, k2⟩, u1, u2⟩, hf⟩ := h
  clear hf hx
  have HT0 : Hid (bin (tyNums t) = binB (kNum t.kind t.last) ++ (binB (t.up + 1) ++ bin (fdsNums t.fields))) := by
    show _ = _
    unfold tyNums
    rw [bin_cons, bin_cons]
  generalize bin (tyNums t) = TT at HT0 ⊢
  generalize bin (fdsNums t.fields) = b3 at HX HT0 hl3
  obtain ⟨tk, tu, tl, fs⟩ := t
  simp only at k1 k2 u1 u2 HX HT0 ⊢
  have hw4 : IntKind.i64.wrap (tk + 4) = tk + 4 := wrapI (by omega) (by omega)
  have hw1 : IntKind.i64.wrap (tu + 1) = tu + 1 := wrapI (by omega) (by omega)
  obtain ⟨b2, hb2⟩ : ∃ l, binB (tu + 1) = l := ⟨_, rfl⟩
  have hl2 := binB_len2 hb2
  have HB2 := hide hb2
  rw [hb2] at HT0
  clear hb2
  cases tl with
  | false =>
    obtain ⟨b1, hb1⟩ : ∃ l, binB tk = l := ⟨_, rfl⟩
    have hl1 := binB_len2 hb1
    have HT : Hid (TT = b1 ++ (b2 ++ b3)) := by show _ = _; rw [HT0.out, ← hb1]; rfl
    have HB1 := hide hb1
    clear hb1 HT0
    have add0 := add_big b1 b2 (b1 ++ b2) rfl (by first | omega | simp) (by first | omega | simp)
    obtain ⟨x1, hadd0⟩ : ∃ l : List UInt8, l = b1 ++ b2 := ⟨_, rfl⟩
    rw [← hadd0] at add0
    have len_x1 : x1.length ≤ 4 := by rw [hadd0]; first | (simp; done) | (simp; omega)
    have H_x1 := hide hadd0
    clear hadd0
    have add1 := add_big x1 b3 (x1 ++ b3) rfl (by first | omega | simp) (by first | omega | simp)
    obtain ⟨x2, hadd1⟩ : ∃ l : List UInt8, l = x1 ++ b3 := ⟨_, rfl⟩
    rw [← hadd1] at add1
    have len_x2 : x2.length ≤ 22 := by rw [hadd1]; first | (simp; done) | (simp; omega)
    have H_x2 := hide hadd1
    clear hadd1
    have B0 : Hid (Below w.heap.size w (w.alloc (.cells #[.int .i64 tk, .int .i64 tu, .bool false, .slice fa fs.length fc] 44))) := (Below.refl _ _).alloc (Nat.le_refl _) _
    have R0 : Hid (Rec (w.alloc (.cells #[.int .i64 tk, .int .i64 tu, .bool false, .slice fa fs.length fc] 44)) w.heap.size 44 [.int .i64 tk, .int .i64 tu, .bool false, .slice fa fs.length fc]) := Rec.new _ _ _
    go_enter Tryz.func49, Tryz.ntmps49
    go_wp2_with fail
    go_region_held3 (fun w' => w'.cell? ⟨w.heap.size, 1, none⟩ = some (.int .i64 tu) ∧ w'.cell? ⟨w.heap.size, 3, none⟩ = some (.slice fa fs.length fc))
      (go_keep)
      ((first
        | (go_at_call 48; refine (specBin_l (tu + 1) HB2.out w1).mono ?_; rintro e w2 ⟨rfl, b2⟩; have B2 := hide (B1.out.trans (b2.mono B1.out.size)); have R2 := hide (R1.out.below b2 R1.out.lt); clear b2; have p1 := R2.out.cell (o := 1) rfl; have p3 := R2.out.cell (o := 3) rfl)
        | (go_at_call 48; refine (specBin_l tk HB1.out _).mono ?_; rintro e w1 ⟨rfl, b1⟩; have B1 := hide (B0.out.drew.trans (b1.mono B0.out.size)); have R1 : Hid (Rec w1 w.heap.size 44 [.int .i64 tk, .int .i64 tu, .bool false, .slice fa fs.length fc]) := Rec.below (w := (w.alloc (.cells #[.int .i64 tk, .int .i64 tu, .bool false, .slice fa fs.length fc] 44)).drew) R0.out b1 R0.out.lt; clear b1; have p1 := R1.out.cell (o := 1) rfl; have p3 := R1.out.cell (o := 3) rfl)
        | (go_at_call 50; refine (HX.out _ B2.out).mono ?_; rintro e w3 ⟨rfl, b3⟩; have B3 := hide (B2.out.trans (b3.mono B2.out.size)); have R3 := hide (R2.out.below b3 R2.out.lt); clear b3; have p1 := R3.out.cell (o := 1) rfl; have p3 := R3.out.cell (o := 3) rfl)))
    go_wp2_with fail
    go_ret
    exact ⟨by rw [HT.out, ← List.append_assoc, ← H_x1.out, ← H_x2.out]; rfl, B3.out⟩
  | true =>
    obtain ⟨b1, hb1⟩ : ∃ l, binB (tk + 4) = l := ⟨_, rfl⟩
    have hl1 := binB_len2 hb1
    have HT : Hid (TT = b1 ++ (b2 ++ b3)) := by show _ = _; rw [HT0.out, ← hb1]; rfl
    have HB1 := hide hb1
    clear hb1 HT0
    have add0 := add_big b1 b2 (b1 ++ b2) rfl (by first | omega | simp) (by first | omega | simp)
    obtain ⟨x1, hadd0⟩ : ∃ l : List UInt8, l = b1 ++ b2 := ⟨_, rfl⟩
    rw [← hadd0] at add0
    have len_x1 : x1.length ≤ 4 := by rw [hadd0]; first | (simp; done) | (simp; omega)
    have H_x1 := hide hadd0
    clear hadd0
    have add1 := add_big x1 b3 (x1 ++ b3) rfl (by first | omega | simp) (by first | omega | simp)
    obtain ⟨x2, hadd1⟩ : ∃ l : List UInt8, l = x1 ++ b3 := ⟨_, rfl⟩
    rw [← hadd1] at add1
    have len_x2 : x2.length ≤ 22 := by rw [hadd1]; first | (simp; done) | (simp; omega)
    have H_x2 := hide hadd1
    clear hadd1
    have B0 : Hid (Below w.heap.size w (w.alloc (.cells #[.int .i64 tk, .int .i64 tu, .bool true, .slice fa fs.length fc] 44))) := (Below.refl _ _).alloc (Nat.le_refl _) _
    have R0 : Hid (Rec (w.alloc (.cells #[.int .i64 tk, .int .i64 tu, .bool true, .slice fa fs.length fc] 44)) w.heap.size 44 [.int .i64 tk, .int .i64 tu, .bool true, .slice fa fs.length fc]) := Rec.new _ _ _
    go_enter Tryz.func49, Tryz.ntmps49
    go_wp2_with fail
    go_region_held3 (fun w' => w'.cell? ⟨w.heap.size, 1, none⟩ = some (.int .i64 tu) ∧ w'.cell? ⟨w.heap.size, 3, none⟩ = some (.slice fa fs.length fc))
      (go_keep)
      ((first
        | (go_at_call 48; refine (specBin_l (tu + 1) HB2.out w1).mono ?_; rintro e w2 ⟨rfl, b2⟩; have B2 := hide (B1.out.trans (b2.mono B1.out.size)); have R2 := hide (R1.out.below b2 R1.out.lt); clear b2; have p1 := R2.out.cell (o := 1) rfl; have p3 := R2.out.cell (o := 3) rfl)
        | (go_at_call 48; refine (specBin_l (tk + 4) HB1.out _).mono ?_; rintro e w1 ⟨rfl, b1⟩; have B1 := hide (B0.out.drew.trans (b1.mono B0.out.size)); have R1 : Hid (Rec w1 w.heap.size 44 [.int .i64 tk, .int .i64 tu, .bool true, .slice fa fs.length fc]) := Rec.below (w := (w.alloc (.cells #[.int .i64 tk, .int .i64 tu, .bool true, .slice fa fs.length fc] 44)).drew) R0.out b1 R0.out.lt; clear b1; have p1 := R1.out.cell (o := 1) rfl; have p3 := R1.out.cell (o := 3) rfl)
        | (go_at_call 50; refine (HX.out _ B2.out).mono ?_; rintro e w3 ⟨rfl, b3⟩; have B3 := hide (B2.out.trans (b3.mono B2.out.size)); have R3 := hide (R2.out.below b3 R2.out.lt); clear b3; have p1 := R3.out.cell (o := 1) rfl; have p3 := R3.out.cell (o := 3) rfl)))
    go_wp2_with fail
    go_ret
    exact ⟨by rw [HT.out, ← List.append_assoc, ← H_x1.out, ← H_x2.out]; rfl, B3.out⟩
end Go.Proofs.YtblliefejffhoaaGreatDoor

/- l12Ins and l12Fun of the model. -/
namespace Go.Proofs.YtblliefejffhoaaGreatDoor
open Go.ChangeShapes Go.WideShapes Go.ChangeAt Go.RowKit
set_option linter.unusedVariables false

theorem insHas_at (op : Int) (n : Nat) (h : spanN op = n) (w : World) :
    Calls Tryz.prog 95 #[.int .i64 op] w fun e w' => e = .returned (.int .i64 n) ∧ w' = w := h ▸ specInsHas_any op w
theorem insS_at {op a b : Int} (h : insOk op a b = true) : (1 ≤ op ∧ op ≤ 33) ∧ (-2 ≤ a ∧ a ≤ 10000) ∧ 0 ≤ b ∧ b ≤ 4 := by
  unfold insOk at h
  simp only [Bool.and_eq_true, decide_eq_true_eq] at h
  obtain ⟨h1, h2⟩ := h
  refine ⟨h1, ?_⟩
  split at h2
  · simp at h2; omega
  · split at h2
    · have l1 : -2 ≤ spanLo op := by unfold spanLo; split <;> omega
      have l2 : spanHi op ≤ 9973 := by unfold spanHi; repeat' split <;> omega
      simp at h2; omega
    · simp at h2; omega
theorem isOf_one {op : Int} (h : decide (op = 12 ∨ op = 22 ∨ op = 23) = true) : spanN op = 1 ∧ spanLo op = -2 := by
  simp only [decide_eq_true_eq] at h
  rcases h with rfl | rfl | rfl <;> exact ⟨rfl, rfl⟩
theorem isOf_lo {op : Int} (h : decide (op = 12 ∨ op = 22 ∨ op = 23) = false) : spanLo op = 0 := by
  simp only [decide_eq_false_iff_not] at h
  unfold spanLo
  rw [if_neg h]
theorem spanN_3 (op : Int) : spanN op = 0 ∨ spanN op = 1 ∨ spanN op = 2 := by
  unfold spanN
  split
  · simp
  · split <;> simp

set_option maxHeartbeats 1600000 in
theorem l12Ins_any (i : GIns) (w : World) (h : InsS i) :
    Calls Tryz.prog 85 #[.agg #[.int .i64 i.op, .int .i64 i.a, .int .i64 i.b]] w fun e w' => e = .returned (.string ⟨(bin (insNums i)).toArray⟩) ∧ Below w.heap.size w w' := by
  obtain ⟨op, a, b⟩ := i
  obtain ⟨⟨o1, o2⟩, ⟨a1, a2⟩, b1, b2⟩ := insS_at h
  simp only at o1 o2 a1 a2 b1 b2 ⊢
  clear h
  have hw2 : IntKind.i64.wrap (a + 2) = a + 2 := wrapI (by omega) (by omega)
  have HN0 : Hid (∀ n, spanN op = n → bin (insNums ⟨op, a, b⟩) = binB op ++ (if n = 0 then [] else if n = 1 then binB (a - spanLo op) else binB (a - spanLo op) ++ binB b)) := fun n hn => by
    unfold insNums spanNums
    rw [bin_cons]
    simp only [hn]
    split
    · simp [bin]
    · split
      · rw [bin_one]
      · rw [bin_cons, bin_one]
  generalize bin (insNums ⟨op, a, b⟩) = TT at HN0 ⊢
  obtain ⟨x0, hx0⟩ : ∃ l, binB op = l := ⟨_, rfl⟩
  have hl0 := binB_len2 hx0
  have HX0 := hide hx0
  rw [hx0] at HN0
  clear hx0
  have B0 : Hid (Below w.heap.size w (w.alloc (.cells #[.int .i64 op, .int .i64 a, .int .i64 b] 59))) := (Below.refl _ _).alloc (Nat.le_refl _) _
  have R0 : Hid (Rec (w.alloc (.cells #[.int .i64 op, .int .i64 a, .int .i64 b] 59)) w.heap.size 59 [.int .i64 op, .int .i64 a, .int .i64 b]) := Rec.new _ _ _
  cases ho : decide (op = 12 ∨ op = 22 ∨ op = 23) with
  | true =>
    obtain ⟨hn, hlo⟩ := isOf_one ho
    have HT := hide (HN0.out 1 hn)
    have HO := hide ho
    have HN := hide hn
    rw [hlo, show a - -2 = a + 2 by omega] at HT
    obtain ⟨x1, hx1⟩ : ∃ l, binB (a + 2) = l := ⟨_, rfl⟩
    have hl1 := binB_len2 hx1
    have HX1 := hide hx1
    rw [hx1] at HT
    clear hx1 ho hn hlo HN0
    have add0 := add_big x0 x1 (x0 ++ x1) rfl (by first | omega | simp) (by first | omega | simp)
    obtain ⟨y1, hadd0⟩ : ∃ l : List UInt8, l = x0 ++ x1 := ⟨_, rfl⟩
    rw [← hadd0] at add0
    have len_y1 : y1.length ≤ 4 := by rw [hadd0]; first | (simp; done) | (simp; omega)
    have H_y1 := hide hadd0
    clear hadd0
    go_enter Tryz.func85, Tryz.ntmps85
    go_wp2_with (first | (go_at_call 95; refine (insHas_at _ _ HN.out _).mono ?_; rintro e w' ⟨rfl, rfl⟩) | (go_at_call 96; refine (isOf_at _ _ HO.out _).mono ?_; rintro e w' ⟨rfl, rfl⟩))
    refine (specBin_l op HX0.out _).mono ?_
    rintro e w1 ⟨rfl, b1⟩
    have B1 := hide (B0.out.trans (b1.mono B0.out.size))
    clear b1
    go_wp2_with fail
    refine (specBin_l (a + 2) HX1.out _).mono ?_
    rintro e w2 ⟨rfl, b2⟩
    have B2 := hide (B1.out.trans (b2.mono B1.out.size))
    clear b2
    go_wp2_with fail
    go_ret
    exact ⟨by rw [HT.out]; simp [H_y1.out], B2.out⟩
  | false =>
    have hlo := isOf_lo ho
    rw [hlo, show a - 0 = a by omega] at HN0
    have HO := hide ho
    clear ho hlo
    obtain ⟨x1, hx1⟩ : ∃ l, binB a = l := ⟨_, rfl⟩
    have hl1 := binB_len2 hx1
    have HX1 := hide hx1
    obtain ⟨x2, hx2⟩ : ∃ l, binB b = l := ⟨_, rfl⟩
    have hl2 := binB_len2 hx2
    have HX2 := hide hx2
    rw [hx1, hx2] at HN0
    clear hx1 hx2
    rcases spanN_3 op with hn | hn | hn
    · have HT := hide (HN0.out 0 hn)
      have HN := hide hn
      clear hn HN0
      go_enter Tryz.func85, Tryz.ntmps85
      go_wp2_with (first | (go_at_call 95; refine (insHas_at _ _ HN.out _).mono ?_; rintro e w' ⟨rfl, rfl⟩) | (go_at_call 96; refine (isOf_at _ _ HO.out _).mono ?_; rintro e w' ⟨rfl, rfl⟩))
      refine (specBin_l op HX0.out _).mono ?_
      rintro e w1 ⟨rfl, b1⟩
      have B1 := hide (B0.out.trans (b1.mono B0.out.size))
      clear b1
      go_wp2_with fail
      go_ret
      exact ⟨by rw [HT.out]; simp, B1.out⟩
    · have HT := hide (HN0.out 1 hn)
      have HN := hide hn
      clear hn HN0
      have add0 := add_big x0 x1 (x0 ++ x1) rfl (by first | omega | simp) (by first | omega | simp)
      obtain ⟨y1, hadd0⟩ : ∃ l : List UInt8, l = x0 ++ x1 := ⟨_, rfl⟩
      rw [← hadd0] at add0
      have len_y1 : y1.length ≤ 4 := by rw [hadd0]; first | (simp; done) | (simp; omega)
      have H_y1 := hide hadd0
      clear hadd0
      go_enter Tryz.func85, Tryz.ntmps85
      go_wp2_with (first | (go_at_call 95; refine (insHas_at _ _ HN.out _).mono ?_; rintro e w' ⟨rfl, rfl⟩) | (go_at_call 96; refine (isOf_at _ _ HO.out _).mono ?_; rintro e w' ⟨rfl, rfl⟩))
      refine (specBin_l op HX0.out _).mono ?_
      rintro e w1 ⟨rfl, b1⟩
      have B1 := hide (B0.out.trans (b1.mono B0.out.size))
      clear b1
      go_wp2_with fail
      refine (specBin_l a HX1.out _).mono ?_
      rintro e w2 ⟨rfl, b2⟩
      have B2 := hide (B1.out.trans (b2.mono B1.out.size))
      clear b2
      go_wp2_with fail
      go_ret
      exact ⟨by rw [HT.out]; simp [H_y1.out], B2.out⟩
    · have HT := hide (HN0.out 2 hn)
      have HN := hide hn
      clear hn HN0
      have add0 := add_big x0 x1 (x0 ++ x1) rfl (by first | omega | simp) (by first | omega | simp)
      obtain ⟨y1, hadd0⟩ : ∃ l : List UInt8, l = x0 ++ x1 := ⟨_, rfl⟩
      rw [← hadd0] at add0
      have len_y1 : y1.length ≤ 4 := by rw [hadd0]; first | (simp; done) | (simp; omega)
      have H_y1 := hide hadd0
      clear hadd0
      have add1 := add_big y1 x2 (y1 ++ x2) rfl (by first | omega | simp) (by first | omega | simp)
      obtain ⟨y2, hadd1⟩ : ∃ l : List UInt8, l = y1 ++ x2 := ⟨_, rfl⟩
      rw [← hadd1] at add1
      have len_y2 : y2.length ≤ 6 := by rw [hadd1]; first | (simp; done) | (simp; omega)
      have H_y2 := hide hadd1
      clear hadd1
      go_enter Tryz.func85, Tryz.ntmps85
      go_wp2_with (first | (go_at_call 95; refine (insHas_at _ _ HN.out _).mono ?_; rintro e w' ⟨rfl, rfl⟩) | (go_at_call 96; refine (isOf_at _ _ HO.out _).mono ?_; rintro e w' ⟨rfl, rfl⟩))
      go_region_held3 (fun w' => w'.cell? ⟨w.heap.size, 0, none⟩ = some (.int .i64 op) ∧ w'.cell? ⟨w.heap.size, 2, none⟩ = some (.int .i64 b))
        (go_keep)
        ((first
          | (go_at_call 48; refine (specBin_l b HX2.out w2).mono ?_; rintro e w3 ⟨rfl, b3⟩; have B3 := hide (B2.out.trans (b3.mono B2.out.size)); have R3 := hide (R2.out.below b3 R2.out.lt); clear b3; have p0 := R3.out.cell (o := 0) rfl; have p2 := R3.out.cell (o := 2) rfl)
          | (go_at_call 48; refine (specBin_l a HX1.out w1).mono ?_; rintro e w2 ⟨rfl, b2⟩; have B2 := hide (B1.out.trans (b2.mono B1.out.size)); have R2 := hide (R1.out.below b2 R1.out.lt); clear b2; have p0 := R2.out.cell (o := 0) rfl; have p2 := R2.out.cell (o := 2) rfl)
          | (go_at_call 48; refine (specBin_l op HX0.out _).mono ?_; rintro e w1 ⟨rfl, b1⟩; have B1 := hide (B0.out.drew.trans (b1.mono B0.out.size)); have R1 : Hid (Rec w1 w.heap.size 59 [.int .i64 op, .int .i64 a, .int .i64 b]) := Rec.below (w := (w.alloc (.cells #[.int .i64 op, .int .i64 a, .int .i64 b] 59)).drew) R0.out b1 R0.out.lt; clear b1; have p0 := R1.out.cell (o := 0) rfl; have p2 := R1.out.cell (o := 2) rfl)))
      go_wp2_with fail
      go_ret
      exact ⟨by rw [HT.out]; simp [H_y2.out, H_y1.out], B3.out⟩

set_option maxHeartbeats 1600000 in
theorem l12Fun_any {md : Bool} (a0 a4 a5 : Option Addr) (c0 c4 c5 lo hi : Nat) (f : GFun) (w : World) (hs : FunS f) (h0 : FieldsM md w lo hi a0 f.takes) (h4 : FieldsM md w lo hi a4 f.own) (h5 : InssM md w lo hi a5 f.body) (hh : hi ≤ w.heap.size) :
    Calls Tryz.prog 51 #[.agg #[.slice a0 f.takes.length c0, .int .i64 f.gives.kind, .int .i64 f.gives.of, .bool f.gives.mt, .slice a4 f.own.length c4, .slice a5 f.body.length c5]] w fun e w' => e = .returned (.string ⟨(bin (funNums f)).toArray⟩) ∧ Below w.heap.size w w' := by
  have HUL := hide (upIns_len hs.2.2.2)
  have HUS : Hid (∀ k, upNums (fun i => insNums (insAt' f.body i)) (k + 1) = upNums (fun i => insNums (insAt' f.body i)) k ++ insNums (insAt' f.body k)) := fun k => rfl
  have HU0 : Hid (upNums (fun i => insNums (insAt' f.body i)) 0 = []) := rfl
  have HT : Hid (bin (funNums f) = bin (fdNums f.gives) ++ bin (fdsNums f.takes) ++ bin (fdsNums f.own) ++ binB (f.body.length : Int) ++ bin (upNums (fun i => insNums (insAt' f.body i)) f.body.length)) := by
    show _ = _
    unfold funNums
    rw [bin_append, bin_append, bin_append]
    unfold inssNums
    rw [bin_cons]
    simp only [List.append_assoc]
  have HC1 := hide (fun W (hb : Below w.heap.size w W) => l12Fields_any a0 c0 lo hi f.takes W ⟨Nat.le_trans hs.2.1.1 (by omega), hs.2.1.2⟩ (h0.1.keep (hb.mono hh)) (Nat.le_trans hh hb.size))
  have HC2 := hide (fun W (hb : Below w.heap.size w W) => l12Fields_any a4 c4 lo hi f.own W ⟨Nat.le_trans hs.2.2.1.1 (by omega), hs.2.2.1.2⟩ (h4.1.keep (hb.mono hh)) (Nat.le_trans hh hb.size))
  have HC3 := hide (fun W => l12Field_any f.gives W hs.1)
  have HIS := hide hs.2.2.2.2
  have H5 := hide h5
  have hn30 : f.body.length ≤ 30 := hs.2.2.2.1
  have lg : (bin (fdNums f.gives)).length ≤ 4 := by have := bin_len (fdNums f.gives); have := fdNums_len f.gives; omega
  have lt : (bin (fdsNums f.takes)).length ≤ 14 := by have := bin_len (fdsNums f.takes); have := fdsNums_len f.takes; have : f.takes.length ≤ 3 := hs.2.1.1; omega
  have lw : (bin (fdsNums f.own)).length ≤ 14 := by have := bin_len (fdsNums f.own); have := fdsNums_len f.own; have : f.own.length ≤ 3 := hs.2.2.1.1; omega
  generalize bin (fdNums f.gives) = g at HT HC3 lg
  generalize bin (fdsNums f.takes) = tk at HT HC1 lt
  generalize bin (fdsNums f.own) = ow at HT HC2 lw
  generalize bin (funNums f) = TT at HT ⊢
  clear h0 h4 h5 hs
  obtain ⟨ts, ⟨gk, go, gm⟩, os, bs⟩ := f
  simp only at HUL HUS HU0 HT HC1 HC2 HC3 HIS H5 hn30 ⊢
  generalize hUg : upNums (fun i => insNums (insAt' bs i)) = U at HUL HUS HU0 HT
  clear hUg
  obtain ⟨bl, hbl⟩ : ∃ l, binB (bs.length : Int) = l := ⟨_, rfl⟩
  have lb := binB_len2 hbl
  have HBL := hide hbl
  rw [hbl] at HT
  clear hbl
  have r0 : Rec (w.alloc (.cells #[.slice a0 ts.length c0, .int .i64 gk, .int .i64 go, .bool gm, .slice a4 os.length c4, .slice a5 bs.length c5] 36)) w.heap.size 36 [.slice a0 ts.length c0, .int .i64 gk, .int .i64 go, .bool gm, .slice a4 os.length c4, .slice a5 bs.length c5] := Rec.new _ _ _
  have b0 : Below w.heap.size w (w.alloc (.cells #[.slice a0 ts.length c0, .int .i64 gk, .int .i64 go, .bool gm, .slice a4 os.length c4, .slice a5 bs.length c5] 36)) := (Below.refl _ _).alloc (Nat.le_refl _) _
  have R0 := hide r0
  have B0 := hide b0
  clear r0 b0
  have add0 := add_big g tk (g ++ tk) rfl (by first | omega | simp) (by first | omega | simp)
  obtain ⟨x1, hadd0⟩ : ∃ l : List UInt8, l = g ++ tk := ⟨_, rfl⟩
  rw [← hadd0] at add0
  have len_x1 : x1.length ≤ 20 := by rw [hadd0]; first | (simp; done) | (simp; omega)
  have H_x1 := hide hadd0
  clear hadd0
  have add1 := add_big x1 ow (x1 ++ ow) rfl (by first | omega | simp) (by first | omega | simp)
  obtain ⟨x2, hadd1⟩ : ∃ l : List UInt8, l = x1 ++ ow := ⟨_, rfl⟩
  rw [← hadd1] at add1
  have len_x2 : x2.length ≤ 40 := by rw [hadd1]; first | (simp; done) | (simp; omega)
  have H_x2 := hide hadd1
  clear hadd1
  have add2 := add_big x2 bl (x2 ++ bl) rfl (by first | omega | simp) (by first | omega | simp)
  obtain ⟨x3, hadd2⟩ : ∃ l : List UInt8, l = x2 ++ bl := ⟨_, rfl⟩
  rw [← hadd2] at add2
  have len_x3 : x3.length ≤ 42 := by rw [hadd2]; first | (simp; done) | (simp; omega)
  have H_x3 := hide hadd2
  clear hadd2
  have HT3 : Hid (TT = x3 ++ bin (U bs.length)) := by
    show _ = _
    rw [HT.out, H_x3.out, H_x2.out, H_x1.out]
  clear HT H_x1 H_x2 H_x3
  go_enter Tryz.func51, Tryz.ntmps51
  go_wp2_with fail
  go_region_held3 (fun w' => (w'.cell? ⟨w.heap.size, 0, none⟩ = some (.slice a0 ts.length c0) ∧ w'.cell? ⟨w.heap.size, 1, none⟩ = some (.int .i64 gk) ∧ w'.cell? ⟨w.heap.size, 2, none⟩ = some (.int .i64 go) ∧ w'.cell? ⟨w.heap.size, 3, none⟩ = some (.bool gm)) ∧ w'.cell? ⟨w.heap.size, 4, none⟩ = some (.slice a4 os.length c4) ∧ w'.cell? ⟨w.heap.size, 5, none⟩ = some (.slice a5 bs.length c5))
    (go_keep)
    ((first
      | (go_at_call 84; refine (HC3.out _).mono ?_; rintro e w1 ⟨rfl, b1⟩; have B1 := hide (B0.out.drew.trans (b1.mono B0.out.size)); have R1 : Hid (Rec w1 w.heap.size 36 [.slice a0 ts.length c0, .int .i64 gk, .int .i64 go, .bool gm, .slice a4 os.length c4, .slice a5 bs.length c5]) := Rec.below (w := (w.alloc (.cells #[.slice a0 ts.length c0, .int .i64 gk, .int .i64 go, .bool gm, .slice a4 os.length c4, .slice a5 bs.length c5] 36)).drew) R0.out b1 R0.out.lt; clear b1; have p0 := R1.out.cell (o := 0) rfl; have p1 := R1.out.cell (o := 1) rfl; have p2 := R1.out.cell (o := 2) rfl; have p3 := R1.out.cell (o := 3) rfl; have p4 := R1.out.cell (o := 4) rfl; have p5 := R1.out.cell (o := 5) rfl)
      | (go_at_call 50; refine (HC2.out w2 B2.out).mono ?_; rintro e w3 ⟨rfl, b3⟩; have B3 := hide (B2.out.trans (b3.mono B2.out.size)); have R3 := hide (R2.out.below b3 R2.out.lt); clear b3; have p0 := R3.out.cell (o := 0) rfl; have p1 := R3.out.cell (o := 1) rfl; have p2 := R3.out.cell (o := 2) rfl; have p3 := R3.out.cell (o := 3) rfl; have p4 := R3.out.cell (o := 4) rfl; have p5 := R3.out.cell (o := 5) rfl)
      | (go_at_call 50; refine (HC1.out w1 B1.out).mono ?_; rintro e w2 ⟨rfl, b2⟩; have B2 := hide (B1.out.trans (b2.mono B1.out.size)); have R2 := hide (R1.out.below b2 R1.out.lt); clear b2; have p0 := R2.out.cell (o := 0) rfl; have p1 := R2.out.cell (o := 1) rfl; have p2 := R2.out.cell (o := 2) rfl; have p3 := R2.out.cell (o := 3) rfl; have p4 := R2.out.cell (o := 4) rfl; have p5 := R2.out.cell (o := 5) rfl)
      | (go_at_call 48; refine (specBin_l (bs.length : Int) HBL.out w3).mono ?_; rintro e w4 ⟨rfl, b4⟩; have B4 := hide (B3.out.trans (b4.mono B3.out.size)); have R4 := hide (R3.out.below b4 R3.out.lt); clear b4; have p0 := R4.out.cell (o := 0) rfl; have p1 := R4.out.cell (o := 1) rfl; have p2 := R4.out.cell (o := 2) rfl; have p3 := R4.out.cell (o := 3) rfl; have p4 := R4.out.cell (o := 4) rfl; have p5 := R4.out.cell (o := 5) rfl)))
  go_wp2_with fail
  go_loopw [3, 4] (fun o i wr => ∃ (k : Nat) (acc : List UInt8), k ≤ bs.length ∧ o = .string ⟨acc.toArray⟩ ∧ i = .int .i64 k ∧ acc = x3 ++ bin (U k) ∧ Rec wr w.heap.size 36 [.slice a0 ts.length c0, .int .i64 gk, .int .i64 go, .bool gm, .slice a4 os.length c4, .slice a5 bs.length c5] ∧ Below w.heap.size w wr) (fun o i wr => bs.length - (intOf i).toNat)
  case atStart => exact ⟨0, _, Nat.zero_le _, rfl, rfl, by rw [HU0.out]; simp [bin], R4.out, B4.out⟩
  case round =>
    clear R0 R1 R2 R3 R4 B0 B1 B2 B3 B4 p0 p1 p2 p3 p4 p5
    obtain ⟨k, acc, hk, rfl, rfl, hacc, hr, hb⟩ := hrel
    have HA := hide hacc
    have HB := hide hb
    have HR := hide hr
    have s1 := hb.size
    have r5 := hr.cell (o := 5) rfl
    have hlen : acc.length ≤ 1000 := by
      have i1 := bin_len (U k)
      have i2 := HUL.out k hk
      rw [hacc, List.length_append]
      omega
    clear hacc hb hr
    by_cases hlt : k < bs.length
    · rcases H5.out with hnil | ⟨b, off, rfl, g1, g2, _, g3⟩
      · rw [hnil] at hlt; exact absurd hlt (Nat.not_lt_zero _)
      obtain ⟨i0, i1, i2⟩ := (g3 k hlt).same (lo' := lo) (hi' := hi) (.of_below HB.out hh) (Nat.le_refl _) (Nat.le_refl _) g1 g2
      have HC := hide (l12Ins_any (insAt' bs k) wr (HIS.out k hlt))
      have hl2 : (bin (insNums (insAt' bs k))).length ≤ 6 := by have := bin_len (insNums (insAt' bs k)); have := insNums_len (insAt' bs k); omega
      have HE : Hid (x3 ++ bin (U (k + 1)) = acc ++ bin (insNums (insAt' bs k))) := by show _ = _; rw [HUS.out k, bin_append, HA.out]; simp
      have hbl : b < wr.heap.size := by omega
      clear g3
      generalize bin (insNums (insAt' bs k)) = t at HC hl2 HE
      generalize insAt' bs k = i at i0 i1 i2 HC
      obtain ⟨io, ia, ib⟩ := i
      simp only at i0 i1 i2 HC
      have add0 := add_big acc t (acc ++ t) rfl (by first | omega | simp) (by first | omega | simp)
      obtain ⟨y1, hadd0⟩ : ∃ l : List UInt8, l = acc ++ t := ⟨_, rfl⟩
      rw [← hadd0] at add0
      have len_y1 : y1.length ≤ 2000 := by rw [hadd0]; first | (simp; done) | (simp; omega)
      have H_y1 := hide hadd0
      clear hadd0
      have j1 : (0 : Int) ≤ (k : Int) := by omega
      have j2 : (k : Int) < (bs.length : Int) := by omega
      go_wp2_with fail
      refine HC.out.mono ?_
      rintro e w5 ⟨rfl, b5⟩
      have B5 : Hid (Below w.heap.size w w5) := HB.out.trans (b5.mono s1)
      have R5 := hide (HR.out.below b5 HR.out.lt)
      clear b5
      go_wp2_with fail
      refine ⟨⟨k + 1, y1, by omega, rfl, by go_num, ?_, R5.out, B5.out⟩, by simp [intOf]; omega⟩
      rw [HE.out, H_y1.out]
    · have hkn : k = bs.length := by omega
      go_wp2_with fail
      go_ret
      refine ⟨?_, HB.out⟩
      have : acc = TT := by rw [HA.out, hkn, HT3.out]
      rw [← this]
      rfl
end Go.Proofs.YtblliefejffhoaaGreatDoor

/- BinOf of the model. -/
namespace Go.Proofs.YtblliefejffhoaaGreatDoor
open Go.ChangeShapes Go.WideShapes Go.ChangeAt Go.RowKit
set_option linter.unusedVariables false

set_option maxHeartbeats 3200000 in
set_option maxRecDepth 100000 in
theorem specBinOf_any {md : Bool} (a0 a1 a2 : Option Addr) (c0 c1 c2 lo hi : Nat) (p : GProg) (w : World) (hB : ProgB 1048576 p) (hx : PM md w lo hi a0 a1 a2 p) (hc : p.types.length ≤ c0) (hl : lo ≤ hi) (hh : hi ≤ w.heap.size) :
    Calls Tryz.prog 16 #[.agg #[.slice a0 p.types.length c0, .slice a1 p.glob.length c1, .slice a2 p.funs.length c2]] w fun e w' => e = .returned (.string ⟨(binTxt p).toArray⟩) ∧ Below w.heap.size w w' := by
  have HOk := hide (fun W (hb : Below w.heap.size w W) => specProgOk_any a0 a1 a2 c0 c1 c2 lo hi p W hB (hx.keep (hb.mono hh)) hc hl (Nat.le_trans hh hb.size))
  have HT0 : Hid (progOkF p = false → binTxt p = []) := fun h => by unfold binTxt; rw [h]; rfl
  have HT1 : Hid (progOkF p = true → binTxt p = lairW ++ binB (p.types.length : Int) ++ bin (upNums (fun i => grNums (grAt p.types i)) p.types.length) ++ bin (fdsNums p.glob) ++ binB (p.funs.length : Int) ++ bin (upNums (fun i => funNums (funAt' p.funs i)) p.funs.length)) := fun h => by
    unfold binTxt
    rw [h]
    unfold progNums tysNums funsNums
    simp only [bin_append, bin_cons, List.append_assoc, if_true]
  have HSM : Hid (progOkF p = true → ProgS p) := progS_of
  have HG : Hid (GroupsIn w lo hi a0 p.types) := hx.1.1
  have HFun : Hid (FunsM md w lo hi a2 p.funs) := hx.2.2
  have HGl : Hid (FieldsIn w lo hi a1 p.glob) := hx.2.1.1
  generalize binTxt p = TT at HT0 HT1 ⊢
  clear hx hB
  generalize progOkF p = R at HOk HT0 HT1 HSM
  obtain ⟨gs, gl, fs⟩ := p
  simp only at HOk HT0 HT1 HSM HG HFun HGl ⊢
  have r0 : Rec (w.alloc (.cells #[.slice a0 gs.length c0, .slice a1 gl.length c1, .slice a2 fs.length c2] 27)) w.heap.size 27 [.slice a0 gs.length c0, .slice a1 gl.length c1, .slice a2 fs.length c2] := Rec.new _ _ _
  have b0 : Below w.heap.size w (w.alloc (.cells #[.slice a0 gs.length c0, .slice a1 gl.length c1, .slice a2 fs.length c2] 27)) := (Below.refl _ _).alloc (Nat.le_refl _) _
  have R0 := hide r0
  have B0 := hide b0
  clear r0 b0
  go_enter Tryz.func16, Tryz.ntmps16
  go_wp2_with fail
  refine (HOk.out _ B0.out).mono ?_
  rintro e w1 ⟨rfl, b1⟩
  have B1 := hide (B0.out.trans (b1.mono B0.out.size))
  have R1 := hide (R0.out.below b1 R0.out.lt)
  clear b1 R0 B0 HOk
  cases R with
  | false =>
    have hT := HT0.out rfl
    have HT := hide hT
    clear hT HT0 HT1 HSM
    go_wp2_with fail
    go_ret
    exact ⟨by rw [HT.out]; rfl, B1.out⟩
  | true =>
  have HT := hide (HT1.out rfl)
  have hSP := HSM.out rfl
  clear HT0 HT1 HSM
  obtain ⟨hS1, hS2, hS3⟩ := hSP
  simp only at hS1 hS2 hS3
  have HC2 := hide (fun W (hb : Below w.heap.size w W) => l12Fields_any a1 c1 lo hi gl W ⟨Nat.le_trans hS2.1 (by omega), hS2.2⟩ (HGl.out.keep (hb.mono hh)) (Nat.le_trans hh hb.size))
  have lw : (bin (fdsNums gl)).length ≤ 14 := by have := bin_len (fdsNums gl); have := fdsNums_len gl; have : gl.length ≤ 3 := hS2.1; omega
  generalize bin (fdsNums gl) = ow at HC2 lw HT
  have HU1 := hide (upGr_len hS1)
  have HU1S : Hid (∀ k, upNums (fun i => grNums (grAt gs i)) (k + 1) = upNums (fun i => grNums (grAt gs i)) k ++ grNums (grAt gs k)) := fun k => rfl
  have HU1Z : Hid (upNums (fun i => grNums (grAt gs i)) 0 = []) := rfl
  generalize hU1 : upNums (fun i => grNums (grAt gs i)) = U1 at HU1 HU1S HU1Z HT
  clear hU1
  have HU2 := hide (upFun_len hS3)
  have HU2S : Hid (∀ k, upNums (fun i => funNums (funAt' fs i)) (k + 1) = upNums (fun i => funNums (funAt' fs i)) k ++ funNums (funAt' fs k)) := fun k => rfl
  have HU2Z : Hid (upNums (fun i => funNums (funAt' fs i)) 0 = []) := rfl
  generalize hU2 : upNums (fun i => funNums (funAt' fs i)) = U2 at HU2 HU2S HU2Z HT
  clear hU2
  have hgs4 : gs.length ≤ 4 := hS1.1
  have hfs5 : fs.length ≤ 5 := hS3.1
  have HS1 := hide hS1.2
  have HS3 := hide hS3.2
  clear hS1 hS2 hS3 HGl
  obtain ⟨bg, hbg⟩ : ∃ l, binB (gs.length : Int) = l := ⟨_, rfl⟩
  have lbg := binB_len2 hbg
  have HBG := hide hbg
  obtain ⟨bf, hbf⟩ : ∃ l, binB (fs.length : Int) = l := ⟨_, rfl⟩
  have lbf := binB_len2 hbf
  have HBF := hide hbf
  rw [hbg, hbf] at HT
  clear hbg hbf
  have add0 := add_big [108, 97, 105, 114] bg ([108, 97, 105, 114] ++ bg) rfl (by first | omega | simp) (by first | omega | simp)
  obtain ⟨x0, hadd0⟩ : ∃ l : List UInt8, l = [108, 97, 105, 114] ++ bg := ⟨_, rfl⟩
  rw [← hadd0] at add0
  have len_x0 : x0.length ≤ 6 := by rw [hadd0]; first | (simp; done) | (simp; omega)
  have H_x0 := hide hadd0
  clear hadd0
  have u0 := R1.out.cell (o := 0) rfl
  go_wp2_with fail
  refine (specBin_l (gs.length : Int) HBG.out w1).mono ?_
  rintro e w2 ⟨rfl, b2⟩
  have B2 := hide (B1.out.trans (b2.mono B1.out.size))
  have R2 := hide (R1.out.below b2 R1.out.lt)
  clear b2 u0 B1 R1
  go_wp2_with fail
  go_loopw [3, 4] (fun o i wr => ∃ (k : Nat) (acc : List UInt8), k ≤ gs.length ∧ o = .string ⟨acc.toArray⟩ ∧ i = .int .i64 k ∧ acc = x0 ++ bin (U1 k) ∧ Rec wr w.heap.size 27 [.slice a0 gs.length c0, .slice a1 gl.length c1, .slice a2 fs.length c2] ∧ Below w.heap.size w wr) (fun o i wr => gs.length - (intOf i).toNat)
  case atStart => exact ⟨0, _, Nat.zero_le _, rfl, rfl, by rw [HU1Z.out]; simp [bin], R2.out, B2.out⟩
  case round =>
    clear R2 B2
    obtain ⟨wo, hwo⟩ : ∃ x, x = wr := ⟨wr, rfl⟩
    subst hwo
    obtain ⟨k, acc, hk, rfl, rfl, hacc, hr, hb⟩ := hrel
    have HA := hide hacc
    have HB := hide hb
    have HR := hide hr
    have s1 := hb.size
    have r0 := hr.cell (o := 0) rfl
    have r1 := hr.cell (o := 1) rfl
    have hlen : acc.length ≤ 800 := by
      have i1 := bin_len (U1 k)
      have i2 := HU1.out k hk
      rw [hacc, List.length_append]
      omega
    clear hacc hb hr
    by_cases hlt : k < gs.length
    · rcases HG.out with hnil | ⟨b, off, rfl, g1, g2, g3⟩
      · rw [hnil] at hlt; exact absurd hlt (Nat.not_lt_zero _)
      obtain ⟨ta, tc, e0, hT⟩ := g3 k hlt
      have HTy := hide hT
      have HE0 := hide e0
      have e0' : wo.cell? ⟨b, off + k, none⟩ = some (.slice ta (grAt gs k).length tc) := by rw [HB.out.cell (p := ⟨b, off + k, none⟩) (by show b < _; omega)]; exact e0
      have hSG := HS1.out k hlt
      have hg8 : (grAt gs k).length ≤ 8 := hSG.1
      have HSG := hide hSG.2
      have HV := hide (upTy_len hSG)
      have HVS : Hid (∀ m, upNums (fun i => tyNums (tyAt (grAt gs k) i)) (m + 1) = upNums (fun i => tyNums (tyAt (grAt gs k) i)) m ++ tyNums (tyAt (grAt gs k) m)) := fun k => rfl
      have HVZ : Hid (upNums (fun i => tyNums (tyAt (grAt gs k) i)) 0 = []) := rfl
      have HE : Hid (x0 ++ bin (U1 (k + 1)) = acc ++ binB ((grAt gs k).length : Int) ++ bin (upNums (fun i => tyNums (tyAt (grAt gs k) i)) (grAt gs k).length)) := by
        show _ = _
        rw [HU1S.out k, bin_append, HA.out]
        unfold grNums
        rw [bin_cons]
        simp only [List.append_assoc]
      clear g3 hT e0 hSG
      generalize grAt gs k = g at HTy HE0 e0' HSG hg8 HV HVS HVZ HE
      generalize hUV : upNums (fun i => tyNums (tyAt g i)) = V at HV HVS HVZ HE
      clear hUV
      obtain ⟨bn, hbn⟩ : ∃ l, binB (g.length : Int) = l := ⟨_, rfl⟩
      have lbn := binB_len2 hbn
      have HBN := hide hbn
      rw [hbn] at HE
      clear hbn
      have j1 : (0 : Int) ≤ (k : Int) := by omega
      have j2 : (k : Int) < (gs.length : Int) := by omega
      have hbw : b < wo.heap.size := by omega
      have add0 := add_big acc bn (acc ++ bn) rfl (by first | omega | simp) (by first | omega | simp)
      obtain ⟨z1, hadd0⟩ : ∃ l : List UInt8, l = acc ++ bn := ⟨_, rfl⟩
      rw [← hadd0] at add0
      have len_z1 : z1.length ≤ 802 := by rw [hadd0]; first | (simp; done) | (simp; omega)
      have H_z1 := hide hadd0
      clear hadd0
      go_wp2_with fail
      refine (specBin_l (g.length : Int) HBN.out wo).mono ?_
      rintro e w3 ⟨rfl, b3⟩
      have B3 := hide (HB.out.trans (b3.mono s1))
      have R3 := hide (HR.out.below b3 HR.out.lt)
      clear b3
      go_wp2_with fail
      go_loopw [3, 5] (fun o j wr => ∃ (m : Nat) (ac2 : List UInt8), m ≤ g.length ∧ o = .string ⟨ac2.toArray⟩ ∧ j = .int .i64 m ∧ ac2 = z1 ++ bin (V m) ∧ Rec wr w.heap.size 27 [.slice (some ⟨b, off, none⟩) gs.length c0, .slice a1 gl.length c1, .slice a2 fs.length c2] ∧ Below w.heap.size w wr) (fun o j wr => g.length - (intOf j).toNat)
      case atStart => exact ⟨0, _, Nat.zero_le _, rfl, rfl, by rw [HVZ.out]; simp [bin], R3.out, B3.out⟩
      case round =>
        clear R3 B3 HR HB s1 r0 r1 hbw e0' hlen add0
        obtain ⟨m, ac2, hm, rfl, rfl, hac, hr, hb⟩ := hrel
        have HA2 := hide hac
        have HB := hide hb
        have HR := hide hr
        have s1 := hb.size
        have r0 := hr.cell (o := 0) rfl
        have hbw : b < wr.heap.size := by omega
        have e0 : wr.cell? ⟨b, off + k, none⟩ = some (.slice ta g.length tc) := by rw [hb.cell (p := ⟨b, off + k, none⟩) (by show b < _; omega)]; exact HE0.out
        have hlen2 : ac2.length ≤ 1000 := by
          have i1 := bin_len (V m)
          have i2 := HV.out m hm
          rw [hac, List.length_append]
          omega
        clear hac hb hr
        by_cases hml : m < g.length
        · rcases HTy.out with hnil | ⟨tb, toff, rfl, t1, t2, t3⟩
          · rw [hnil] at hml; exact absurd hml (Nat.not_lt_zero _)
          obtain ⟨x0', x1, x2, fa, fc, x3, hF⟩ := (t3 m hml).same (lo' := lo) (hi' := hi) (.of_below HB.out hh) (Nat.le_refl _) (Nat.le_refl _) t1 t2
          have HC := hide (l12Type_any fa fc lo hi (tyAt g m) wr (HSG.out m hml) hF (Nat.le_trans hh s1))
          have hl2 : (bin (tyNums (tyAt g m))).length ≤ 22 := by have := bin_len (tyNums (tyAt g m)); have := tyNums_len (HSG.out m hml); omega
          have HE2 : Hid (z1 ++ bin (V (m + 1)) = ac2 ++ bin (tyNums (tyAt g m))) := by show _ = _; rw [HVS.out m, bin_append, HA2.out]; simp
          have htb : tb < wr.heap.size := by omega
          clear t3 hF
          generalize bin (tyNums (tyAt g m)) = t at HC hl2 HE2
          generalize tyAt g m = ty at x0' x1 x2 x3 HC
          obtain ⟨yk, yu, yl, yf⟩ := ty
          simp only at x0' x1 x2 x3 HC
          have add0 := add_big ac2 t (ac2 ++ t) rfl (by first | omega | simp) (by first | omega | simp)
          obtain ⟨u1, hadd0⟩ : ∃ l : List UInt8, l = ac2 ++ t := ⟨_, rfl⟩
          rw [← hadd0] at add0
          have len_u1 : u1.length ≤ 1100 := by rw [hadd0]; first | (simp; done) | (simp; omega)
          have H_u1 := hide hadd0
          clear hadd0
          have m1 : (0 : Int) ≤ (m : Int) := by omega
          have m2 : (m : Int) < (g.length : Int) := by omega
          go_wp2_with fail
          refine HC.out.mono ?_
          rintro e w5 ⟨rfl, b5⟩
          have B5 : Hid (Below w.heap.size w w5) := HB.out.trans (b5.mono s1)
          have R5 := hide (HR.out.below b5 HR.out.lt)
          clear b5
          go_wp2_with fail
          refine ⟨⟨m + 1, u1, by omega, rfl, by go_num, ?_, R5.out, B5.out⟩, by simp [intOf]; omega⟩
          rw [HE2.out, H_u1.out]
        · have hmn : m = g.length := by omega
          have EE : Hid (ac2 = x0 ++ bin (U1 (k + 1))) := by
            show _ = _
            rw [HE.out, HA2.out, hmn, H_z1.out]
          clear hmn
          go_wp2_with fail
          exact ⟨⟨k + 1, ac2, by omega, rfl, by go_num, EE.out, HR.out, HB.out⟩, by simp [intOf]; omega⟩
    · have hkn : k = gs.length := by omega
      have E0 : Hid (TT = acc ++ ow ++ bf ++ bin (U2 fs.length)) := by
        show _ = _
        rw [HT.out, HA.out, hkn, H_x0.out]
        rfl
      clear hkn HA HT
      have r2 := HR.out.cell (o := 2) rfl
      have add0 := add_big acc ow (acc ++ ow) rfl (by first | omega | simp) (by first | omega | simp)
      obtain ⟨v1, hadd0⟩ : ∃ l : List UInt8, l = acc ++ ow := ⟨_, rfl⟩
      rw [← hadd0] at add0
      have len_v1 : v1.length ≤ 820 := by rw [hadd0]; first | (simp; done) | (simp; omega)
      have H_v1 := hide hadd0
      clear hadd0
      have add1 := add_big v1 bf (v1 ++ bf) rfl (by first | omega | simp) (by first | omega | simp)
      obtain ⟨v2, hadd1⟩ : ∃ l : List UInt8, l = v1 ++ bf := ⟨_, rfl⟩
      rw [← hadd1] at add1
      have len_v2 : v2.length ≤ 822 := by rw [hadd1]; first | (simp; done) | (simp; omega)
      have H_v2 := hide hadd1
      clear hadd1
      have E4 : Hid (TT = v2 ++ bin (U2 fs.length)) := by
        show _ = _
        rw [E0.out, H_v2.out, H_v1.out]
      clear E0 H_v1 H_v2
      go_wp2_with fail
      go_region_held3 (fun w' => w'.cell? ⟨w.heap.size, 1, none⟩ = some (.slice a1 gl.length c1) ∧ w'.cell? ⟨w.heap.size, 2, none⟩ = some (.slice a2 fs.length c2))
        (go_keep)
        ((first
          | (go_at_call 50; refine (HC2.out _ HB.out.drew).mono ?_; rintro e w4 ⟨rfl, b4⟩; have B4 := hide (HB.out.drew.trans (b4.mono s1)); have R4 : Hid (Rec w4 w.heap.size 27 [.slice a0 gs.length c0, .slice a1 gl.length c1, .slice a2 fs.length c2]) := Rec.below (w := wo.drew) HR.out b4 HR.out.lt; clear b4; have q1 := R4.out.cell (o := 1) rfl; have q2 := R4.out.cell (o := 2) rfl)
          | (go_at_call 48; refine (specBin_l (fs.length : Int) HBF.out w4).mono ?_; rintro e w5 ⟨rfl, b5⟩; have B5 := hide (B4.out.trans (b5.mono B4.out.size)); have R5 := hide (R4.out.below b5 R4.out.lt); clear b5; have q1 := R5.out.cell (o := 1) rfl; have q2 := R5.out.cell (o := 2) rfl)))
      go_wp2_with fail
      go_loopw [3, 6] (fun o i wr => ∃ (k : Nat) (acc : List UInt8), k ≤ fs.length ∧ o = .string ⟨acc.toArray⟩ ∧ i = .int .i64 k ∧ acc = v2 ++ bin (U2 k) ∧ Rec wr w.heap.size 27 [.slice a0 gs.length c0, .slice a1 gl.length c1, .slice a2 fs.length c2] ∧ Below w.heap.size w wr) (fun o i wr => fs.length - (intOf i).toNat)
      case atStart => exact ⟨0, _, Nat.zero_le _, rfl, rfl, by rw [HU2Z.out]; simp [bin], R5.out, B5.out⟩
      case round =>
        clear R4 B4 R5 B5 HR HB s1 r0 r1 r2 q1 q2 hlen
        obtain ⟨k, acc, hk, rfl, rfl, hacc, hr, hb⟩ := hrel
        have HA := hide hacc
        have HB := hide hb
        have HR := hide hr
        have s1 := hb.size
        have r2 := hr.cell (o := 2) rfl
        have hlen : acc.length ≤ 3000 := by
          have i1 := bin_len (U2 k)
          have i2 := HU2.out k hk
          rw [hacc, List.length_append]
          omega
        clear hacc hb hr
        by_cases hlt2 : k < fs.length
        · rcases HFun.out with hnil | ⟨b, off, rfl, g1, g2, _, g3⟩
          · rw [hnil] at hlt2; exact absurd hlt2 (Nat.not_lt_zero _)
          obtain ⟨p0, q0, p4, q4, p5, q5, y0, y1, y2, y3, y4, y5, z0, z4, z5⟩ := (g3 k hlt2).same (lo' := lo) (hi' := hi) (.of_below HB.out hh) (Nat.le_refl _) (Nat.le_refl _) g1 g2
          have HC := hide (l12Fun_any p0 p4 p5 q0 q4 q5 lo hi (funAt' fs k) wr (HS3.out k hlt2) z0 z4 z5 (Nat.le_trans hh s1))
          have hl2 : (bin (funNums (funAt' fs k))).length ≤ 214 := by have := bin_len (funNums (funAt' fs k)); have := funNums_len (HS3.out k hlt2); omega
          have HE2 : Hid (v2 ++ bin (U2 (k + 1)) = acc ++ bin (funNums (funAt' fs k))) := by show _ = _; rw [HU2S.out k, bin_append, HA.out]; simp
          have hbw : b < wr.heap.size := by omega
          clear g3 z0 z4 z5
          generalize bin (funNums (funAt' fs k)) = t at HC hl2 HE2
          generalize funAt' fs k = f at y0 y1 y2 y3 y4 y5 HC
          obtain ⟨fts, ⟨gk, go, gm⟩, fos, fbs⟩ := f
          simp only at y0 y1 y2 y3 y4 y5 HC
          have add0 := add_big acc t (acc ++ t) rfl (by first | omega | simp) (by first | omega | simp)
          obtain ⟨s2, hadd0⟩ : ∃ l : List UInt8, l = acc ++ t := ⟨_, rfl⟩
          rw [← hadd0] at add0
          have len_s2 : s2.length ≤ 4000 := by rw [hadd0]; first | (simp; done) | (simp; omega)
          have H_s2 := hide hadd0
          clear hadd0
          have j1 : (0 : Int) ≤ (k : Int) := by omega
          have j2 : (k : Int) < (fs.length : Int) := by omega
          go_wp2_with fail
          refine HC.out.mono ?_
          rintro e w5 ⟨rfl, b5⟩
          have B5 : Hid (Below w.heap.size w w5) := HB.out.trans (b5.mono s1)
          have R5 := hide (HR.out.below b5 HR.out.lt)
          clear b5
          go_wp2_with fail
          refine ⟨⟨k + 1, s2, by omega, rfl, by go_num, ?_, R5.out, B5.out⟩, by simp [intOf]; omega⟩
          rw [HE2.out, H_s2.out]
        · have hkn : k = fs.length := by omega
          go_wp2_with fail
          go_ret
          refine ⟨?_, HB.out⟩
          have : acc = TT := by rw [HA.out, hkn, E4.out]
          rw [← this]
          rfl
end Go.Proofs.YtblliefejffhoaaGreatDoor
