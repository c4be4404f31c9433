/- The bytes of a program: no program's bytes begin another one's. -/
import Derived.Test.YtblliefejffhoaaGreatDoorPbBinS
import Derived.Test.YtblliefejffhoaaGreatDoorPbInj
namespace Go.Proofs.YtblliefejffhoaaGreatDoor
set_option linter.unusedVariables false

/-- Bytes that tell, whatever comes behind them, of what they are. -/
def PFree {α : Type} (ok : α → Prop) (E : α → List UInt8) : Prop := ∀ a b r s, ok a → ok b → E a ++ r = E b ++ s → a = b ∧ r = s
theorem u8_inj {a b : Nat} (ha : a < 256) (hb : b < 256) (e : UInt8.ofNat a = UInt8.ofNat b) : a = b := by
  have := congrArg UInt8.toNat e
  simpa [UInt8.toNat_ofNat', Nat.mod_eq_of_lt ha, Nat.mod_eq_of_lt hb] using this

def nOk (n : Int) : Prop := 0 ≤ n ∧ n ≤ 16383
theorem binB_free : PFree nOk binB := by
  intro a b r s ⟨a0, a1⟩ ⟨b0, b1⟩ e
  by_cases ha : a < 128
  · rw [binB_one a0 ha] at e
    by_cases hb : b < 128
    · rw [binB_one b0 hb] at e
      simp only [List.cons_append, List.nil_append, List.cons.injEq] at e
      have := u8_inj (by omega) (by omega) e.1
      exact ⟨by omega, e.2⟩
    · rw [binB_two (by omega) b1] at e
      simp only [List.cons_append, List.nil_append, List.cons.injEq] at e
      have := u8_inj (by omega) (by omega) e.1
      omega
  · rw [binB_two (by omega) a1] at e
    by_cases hb : b < 128
    · rw [binB_one b0 hb] at e
      simp only [List.cons_append, List.nil_append, List.cons.injEq] at e
      have := u8_inj (by omega) (by omega) e.1
      omega
    · rw [binB_two (by omega) b1] at e
      simp only [List.cons_append, List.nil_append, List.cons.injEq] at e
      have h1 := u8_inj (by omega) (by omega) e.1
      have h2 := u8_inj (by omega) (by omega) e.2.1
      exact ⟨by omega, e.2.2⟩

theorem flat_free {α : Type} {ok : α → Prop} {E : α → List UInt8} (h : PFree ok E) : ∀ (us vs : List α) (r s : List UInt8), (∀ a ∈ us, ok a) → (∀ b ∈ vs, ok b) → us.length = vs.length → us.flatMap E ++ r = vs.flatMap E ++ s → us = vs ∧ r = s
  | [], [], r, s, _, _, _, e => ⟨rfl, by simpa using e⟩
  | [], b :: vs, _, _, _, _, hl, _ => by simp at hl
  | a :: us, [], _, _, _, _, hl, _ => by simp at hl
  | a :: us, b :: vs, r, s, ha, hb, hl, e => by
    simp only [List.flatMap_cons, List.append_assoc] at e
    obtain ⟨e1, e2⟩ := h a b _ _ (ha a (List.mem_cons_self ..)) (hb b (List.mem_cons_self ..)) e
    obtain ⟨e3, e4⟩ := flat_free h us vs r s (fun c hc => ha c (List.mem_cons_of_mem _ hc)) (fun c hc => hb c (List.mem_cons_of_mem _ hc)) (by simpa using hl) e2
    exact ⟨by rw [e1, e3], e4⟩
def lOk {α : Type} (ok : α → Prop) (l : List α) : Prop := l.length ≤ 16383 ∧ ∀ a ∈ l, ok a
theorem list_free {α : Type} {ok : α → Prop} {E : α → List UInt8} (h : PFree ok E) : PFree (lOk ok) (fun l => binB (l.length : Int) ++ l.flatMap E) := by
  intro us vs r s ⟨u1, u2⟩ ⟨v1, v2⟩ e
  simp only [List.append_assoc] at e
  obtain ⟨e1, e2⟩ := binB_free _ _ _ _ ⟨by omega, by omega⟩ ⟨by omega, by omega⟩ e
  exact flat_free h us vs r s u2 v2 (by omega) e2

theorem upNums_take {α : Type} (d : α) (F : α → List Int) (l : List α) (k : Nat) (hk : k ≤ l.length) : upNums (fun i => F (l.getD i d)) k = (l.take k).flatMap F := by
  induction k with
  | zero => simp [upNums]
  | succ k ih =>
    have hk' : k < l.length := by omega
    rw [upNums, ih (by omega), List.take_succ_eq_append_getElem hk', List.flatMap_append]
    simp [hk']
theorem upNums_flat {α : Type} (d : α) (F : α → List Int) (l : List α) : upNums (fun i => F (l.getD i d)) l.length = l.flatMap F := by
  rw [upNums_take d F l _ (Nat.le_refl _), List.take_length]
theorem bin_flat {α : Type} (F : α → List Int) (l : List α) : bin (l.flatMap F) = l.flatMap (fun a => bin (F a)) := by
  induction l with
  | nil => rfl
  | cons a l ih => rw [List.flatMap_cons, bin_append, ih, List.flatMap_cons]
theorem bin_list {α : Type} (d : α) (F : α → List Int) (l : List α) : bin ((l.length : Int) :: upNums (fun i => F (l.getD i d)) l.length) = binB (l.length : Int) ++ l.flatMap (fun a => bin (F a)) := by
  rw [bin_cons, upNums_flat, bin_flat]

theorem fd_free : PFree fOk (fun f => bin (fdNums f)) := by
  intro f g r s hf hg e
  obtain ⟨fk, fo, fm⟩ := f
  obtain ⟨gk, go, gm⟩ := g
  have h1 := fieldOk_small hf
  have h2 := fieldOk_small hg
  clear hf hg
  simp only [fdNums, bin_cons, List.append_assoc] at e h1 h2
  have nk : ∀ (k : Int) (m : Bool), 1 ≤ k → k ≤ 3 → nOk (kNum k m) := fun k m _ _ => by
    unfold kNum nOk
    split <;> omega
  obtain ⟨e1, e2⟩ := binB_free _ _ _ _ (nk fk fm (by omega) (by omega)) (nk gk gm (by omega) (by omega)) e
  have e3 : fk = gk ∧ fm = gm := by
    unfold kNum at e1
    cases fm <;> cases gm <;> simp at e1 ⊢ <;> omega
  obtain ⟨rfl, rfl⟩ := e3
  clear e e1 nk
  unfold ofNum at e2
  simp only at e2
  by_cases hk : fk = 1
  · simp only [if_pos hk] at e2
    have : fo = go := by omega
    subst this
    exact ⟨rfl, by simpa [bin] using e2⟩
  · simp only [if_neg hk, bin_one] at e2
    obtain ⟨e4, e5⟩ := binB_free _ _ _ _ ⟨by omega, by omega⟩ ⟨by omega, by omega⟩ e2
    have : fo = go := by omega
    subst this
    exact ⟨rfl, e5⟩
theorem fds_free : PFree (lOk fOk) (fun l => bin (fdsNums l)) := by
  intro a b r s ha hb e
  have q : ∀ l : List Fd, bin (fdsNums l) = binB (l.length : Int) ++ l.flatMap (fun f => bin (fdNums f)) := fun l => bin_list _ fdNums l
  simp only [q] at e
  exact list_free fd_free a b r s ha hb e
def tOk' (t : Ty) : Prop := tOk t ∧ TyS t
theorem ty_free : PFree tOk' (fun t => bin (tyNums t)) := by
  intro t u r s ⟨ht, st⟩ ⟨hu, su⟩ e
  obtain ⟨tk, tu, tl, tf⟩ := t
  obtain ⟨uk, uu, ul, uf⟩ := u
  obtain ⟨ht1, ht2, ht3⟩ := ht
  obtain ⟨hu1, hu2, hu3⟩ := hu
  obtain ⟨⟨_, _, st1⟩, st2, _⟩ := st
  obtain ⟨⟨_, _, su1⟩, su2, _⟩ := su
  simp only [tyNums, bin_cons, List.append_assoc] at e ht1 ht2 ht3 hu1 hu2 hu3 st1 st2 su1 su2
  have nk : ∀ (k : Int) (m : Bool), k = 1 ∨ k = 2 → nOk (kNum k m) := fun k m _ => by
    unfold kNum nOk
    split <;> omega
  obtain ⟨e1, e2⟩ := binB_free _ _ _ _ (nk tk tl ht1) (nk uk ul hu1) e
  have e3 : tk = uk ∧ tl = ul := by
    unfold kNum at e1
    cases tl <;> cases ul <;> simp at e1 ⊢ <;> omega
  obtain ⟨rfl, rfl⟩ := e3
  obtain ⟨e4, e5⟩ := binB_free _ _ _ _ ⟨by omega, by omega⟩ ⟨by omega, by omega⟩ e2
  have : tu = uu := by omega
  subst this
  obtain ⟨e6, e7⟩ := fds_free _ _ _ _ ⟨by omega, ht3⟩ ⟨by omega, hu3⟩ e5
  subst e6
  exact ⟨rfl, e7⟩
theorem gr_free : PFree (lOk tOk') (fun l => bin (grNums l)) := by
  intro a b r s ha hb e
  have q : ∀ l : List Ty, bin (grNums l) = binB (l.length : Int) ++ l.flatMap (fun f => bin (tyNums f)) := fun l => bin_list _ tyNums l
  simp only [q] at e
  exact list_free ty_free a b r s ha hb e
theorem tys_free : PFree (lOk (lOk tOk')) (fun l => bin (tysNums l)) := by
  intro a b r s ha hb e
  have q : ∀ l : List (List Ty), bin (tysNums l) = binB (l.length : Int) ++ l.flatMap (fun f => bin (grNums f)) := fun l => bin_list _ grNums l
  simp only [q] at e
  exact list_free gr_free a b r s ha hb e
theorem spanLo_2 (op : Int) : spanLo op = -2 ∨ spanLo op = 0 := by
  unfold spanLo
  split
  · exact .inl rfl
  · exact .inr rfl
theorem spanHi_le (op : Int) : spanHi op ≤ 9973 := by
  unfold spanHi
  repeat' split
  all_goals omega
theorem ins_free : PFree iOk (fun i => bin (insNums i)) := by
  intro i j r s hi hj e
  obtain ⟨p, a, b⟩ := i
  obtain ⟨q, c, d⟩ := j
  unfold iOk insOk at hi hj
  simp only [insNums, bin_cons, List.append_assoc, Bool.and_eq_true, decide_eq_true_eq] at e hi hj
  obtain ⟨e1, e2⟩ := binB_free _ _ _ _ ⟨by omega, by omega⟩ ⟨by omega, by omega⟩ e
  subst e1
  have l1 := spanLo_2 p
  have l2 := spanHi_le p
  obtain ⟨_, hi⟩ := hi
  obtain ⟨_, hj⟩ := hj
  unfold spanNums at e2
  simp only at e2
  by_cases h0 : spanN p = 0
  · simp only [if_pos h0] at e2 hi hj
    simp only [decide_eq_true_eq] at hi hj
    obtain ⟨rfl, rfl⟩ := hi
    obtain ⟨rfl, rfl⟩ := hj
    exact ⟨rfl, by simpa [bin] using e2⟩
  · simp only [if_neg h0] at e2 hi hj
    by_cases h1 : spanN p = 1
    · simp only [if_pos h1] at e2 hi hj
      simp only [decide_eq_true_eq, bin_one] at hi hj e2
      obtain ⟨e3, e4⟩ := binB_free _ _ _ _ ⟨by omega, by omega⟩ ⟨by omega, by omega⟩ e2
      have ha : a = c := by omega
      have hb : b = d := by omega
      subst ha
      subst hb
      exact ⟨rfl, e4⟩
    · simp only [if_neg h1] at e2 hi hj
      simp only [decide_eq_true_eq, bin_cons, List.append_assoc] at hi hj e2
      obtain ⟨e3, e4⟩ := binB_free _ _ _ _ ⟨by omega, by omega⟩ ⟨by omega, by omega⟩ e2
      obtain ⟨e5, e6⟩ := binB_free _ _ _ _ ⟨by omega, by omega⟩ ⟨by omega, by omega⟩ e4
      have ha : a = c := by omega
      subst ha
      subst e5
      exact ⟨rfl, by simpa [bin] using e6⟩
theorem inss_free : PFree (lOk iOk) (fun l => bin (inssNums l)) := by
  intro a b r s ha hb e
  have q : ∀ l : List GIns, bin (inssNums l) = binB (l.length : Int) ++ l.flatMap (fun f => bin (insNums f)) := fun l => bin_list _ insNums l
  simp only [q] at e
  exact list_free ins_free a b r s ha hb e
def gOk' (f : GFun) : Prop := gOk f ∧ FunS f
theorem fun_free : PFree gOk' (fun f => bin (funNums f)) := by
  intro f g r s ⟨hf, sf⟩ ⟨hg, sg⟩ e
  obtain ⟨f1, f2, f3, f4⟩ := f
  obtain ⟨g1, g2, g3, g4⟩ := g
  obtain ⟨a1, a2, a3, a4⟩ := hf
  obtain ⟨b1, b2, b3, b4⟩ := hg
  obtain ⟨_, ⟨c1, _⟩, ⟨c2, _⟩, c3, _⟩ := sf
  obtain ⟨_, ⟨d1, _⟩, ⟨d2, _⟩, d3, _⟩ := sg
  simp only [funNums, bin_append, List.append_assoc] at e a1 a2 a3 a4 b1 b2 b3 b4 c1 c2 c3 d1 d2 d3
  obtain ⟨x1, y1⟩ := fd_free _ _ _ _ a2 b2 e
  obtain ⟨x2, y2⟩ := fds_free _ _ _ _ ⟨by omega, a1⟩ ⟨by omega, b1⟩ y1
  obtain ⟨x3, y3⟩ := fds_free _ _ _ _ ⟨by omega, a3⟩ ⟨by omega, b3⟩ y2
  obtain ⟨x4, y4⟩ := inss_free _ _ _ _ ⟨by omega, a4⟩ ⟨by omega, b4⟩ y3
  exact ⟨by rw [x1, x2, x3, x4], y4⟩
theorem funs_free : PFree (lOk gOk') (fun l => bin (funsNums l)) := by
  intro a b r s ha hb e
  have q : ∀ l : List GFun, bin (funsNums l) = binB (l.length : Int) ++ l.flatMap (fun f => bin (funNums f)) := fun l => bin_list _ funNums l
  simp only [q] at e
  exact list_free fun_free a b r s ha hb e
theorem getD_mem {α : Type} {d : α} {l : List α} {P : α → Prop} (h : ∀ i, i < l.length → P (l.getD i d)) : ∀ a ∈ l, P a := fun a ha => by
  obtain ⟨i, hi, rfl⟩ := List.mem_iff_getElem.1 ha
  have := h i hi
  simpa [hi] using this
theorem prog_free (p q : GProg) (r s : List UInt8) (hp : progOkF p = true) (hq : progOkF q = true) (e : bin (progNums p) ++ r = bin (progNums q) ++ s) : p = q ∧ r = s := by
  have parts : ∀ x : GProg, progOkF x = true → lOk (lOk tOk') x.types ∧ lOk fOk x.glob ∧ lOk gOk' x.funs := fun x hx => by
    obtain ⟨o1, o2, o3, _⟩ := pOk_of hx
    obtain ⟨⟨s1, s2⟩, ⟨s3, _⟩, s4, s5⟩ := progS_of hx
    have s2' := getD_mem s2
    have s5' := getD_mem s5
    refine ⟨⟨by omega, fun g hg => ?_⟩, ⟨by omega, o2⟩, by omega, fun f hf => ⟨o3 f hf, s5' f hf⟩⟩
    obtain ⟨q1, q2⟩ := s2' g hg
    have q2' := getD_mem q2
    exact ⟨by omega, fun t ht => ⟨o1 g hg t ht, q2' t ht⟩⟩
  obtain ⟨a1, a2, a3⟩ := parts p hp
  obtain ⟨b1, b2, b3⟩ := parts q hq
  obtain ⟨p1, p2, p3⟩ := p
  obtain ⟨q1, q2, q3⟩ := q
  simp only [progNums, bin_append, List.append_assoc] at e a1 a2 a3 b1 b2 b3
  obtain ⟨x1, y1⟩ := tys_free _ _ _ _ a1 b1 e
  obtain ⟨x2, y2⟩ := fds_free _ _ _ _ a2 b2 y1
  obtain ⟨x3, y3⟩ := funs_free _ _ _ _ a3 b3 y2
  exact ⟨by rw [x1, x2, x3], y3⟩
/-- The bytes begin others just where the programs are one. -/
theorem binTxt_begins {p q : GProg} (hp : progOkF p = true) (hq : progOkF q = true) {s : List UInt8} (e : binTxt q = binTxt p ++ s) : p = q := by
  unfold binTxt at e
  rw [if_pos hp, if_pos hq, List.append_assoc] at e
  have := List.append_cancel_left e
  exact (prog_free q p [] s hq hp (by simpa using this)).1.symm
theorem binTxt_take {p q : GProg} (hp : progOkF p = true) (hq : progOkF q = true) (h : (binTxt q).take (binTxt p).length = binTxt p) : p = q := by
  refine binTxt_begins hp hq (s := (binTxt q).drop (binTxt p).length) ?_
  conv => lhs; rw [← List.take_append_drop (binTxt p).length (binTxt q), h]
theorem bin_same {p q : GProg} (hp : progOkF p = true) (hq : progOkF q = true) : decide (binTxt p = binTxt q) = progSame p q := by
  rw [Bool.eq_iff_iff, decide_eq_true_eq, progSame_iff]
  exact ⟨fun e => binTxt_begins hp hq (s := []) (by rw [e]; simp), fun h => by rw [h]⟩
theorem binTxt_none {p : GProg} (h : progOkF p = false) : binTxt p = [] := by unfold binTxt; rw [h]; rfl
theorem binTxt_some {p : GProg} (h : progOkF p = true) : 0 < (binTxt p).length := by unfold binTxt; rw [if_pos h]; simp [lairW]
end Go.Proofs.YtblliefejffhoaaGreatDoor
