/- A group written once more behind all: the mathematics that FnKinTwin wants. -/
import Derived.Test.YtejkebfhiddhmaaDoorKinBentM
import Derived.Test.YtejkebfhiddhmaaDoorKaCanon
import Derived.Test.YtejkebfhiddhmaaDoorKaRow
import Derived.Test.YtejkebfhiddhmaaDoorKaKinC
namespace Go.Proofs.YtejkebfhiddhmaaDoor
set_option linter.unusedVariables false

theorem tyAt_map (f : Ty → Ty) (l : List Ty) (i : Nat) (h : i < l.length) : tyAt (l.map f) i = f (tyAt l i) := by simp [tyAt, h]

/-- Where a name of the group goes. -/
def shN (fr bY o : Int) : Int := if fr ≤ o then o + bY else o
theorem shiftTy_up (fr bY : Int) (t : Ty) : (shiftTy fr bY t).up = shN fr bY t.up := rfl
theorem shiftTy_len (fr bY : Int) (t : Ty) : (shiftTy fr bY t).fields.length = t.fields.length := by simp [shiftTy]
theorem shiftTy_fd (fr bY : Int) (t : Ty) (i : Nat) (h : i < t.fields.length) : fdAt (shiftTy fr bY t).fields i = shiftFd fr bY (fdAt t.fields i) := fdAt_map _ _ _ h
theorem shiftFd_kind (fr bY : Int) (f : Fd) : (shiftFd fr bY f).kind = f.kind := by unfold shiftFd; split <;> rfl
theorem shiftFd_mt (fr bY : Int) (f : Fd) : (shiftFd fr bY f).mt = f.mt := by unfold shiftFd; split <;> rfl
theorem shiftFd_of (fr bY : Int) (f : Fd) (h : f.kind ≠ 1) : (shiftFd fr bY f).of = shN fr bY f.of := by
  unfold shiftFd shN
  by_cases c : fr ≤ f.of
  · rw [if_pos ⟨c, h⟩, if_pos c]
  · rw [if_neg (fun h => c h.1), if_neg c]
theorem shiftFd_num (fr bY : Int) (f : Fd) (h : f.kind = 1) : shiftFd fr bY f = f := by
  unfold shiftFd; rw [if_neg (fun q => q.2 h)]
theorem shiftFd_same (fr bY : Int) (f : Fd) (h : f.of < fr) : shiftFd fr bY f = f := by
  unfold shiftFd; rw [if_neg (fun q => by omega)]

theorem formOk_iff (t : Ty) (me n : Int) : formOk t me n = true ↔ (-1 ≤ t.up ∧ t.up < me) ∧ t.fields.length ≤ 4 ∧ (t.kind = 1 ∨ (t.kind = 2 ∧ t.fields.length = 1)) ∧ ∀ i, i < t.fields.length → fieldOk (fdAt t.fields i).kind (fdAt t.fields i).of n = true := by
  unfold formOk
  simp only [Bool.and_eq_true, Bool.or_eq_true, decide_eq_true_eq, allTo_iff]
  constructor
  · rintro ⟨⟨⟨a, b⟩, c⟩, d, e⟩; exact ⟨⟨a, b⟩, c, d, e⟩
  · rintro ⟨⟨a, b⟩, c, d, e⟩; exact ⟨⟨⟨a, b⟩, c⟩, d, e⟩
theorem fieldOk_iff (k o n : Int) : fieldOk k o n = true ↔ (k = 1 ∧ o = 0) ∨ ((k = 2 ∨ k = 3) ∧ (o = -1 ∨ o = -2 ∨ (0 ≤ o ∧ o < n))) := by
  unfold fieldOk
  by_cases h1 : k = 1
  · simp [h1]
  · by_cases h2 : k = 2 ∨ k = 3
    · simp [h1, h2]
    · simp [h1, h2]

section
variable {gs : List (List Ty)} {k : Nat}
/-- The group k, written behind all. -/
def twin (gs : List (List Ty)) (k : Nat) : List Ty := (grAt gs k).map (shiftTy (beg gs k : Nat) ((kinCount gs : Int) - (beg gs k : Nat)))

theorem twin_length : (twin gs k).length = (grAt gs k).length := by simp [twin]
theorem twin_at (i : Nat) (h : i < (grAt gs k).length) : tyAt (twin gs k) i = shiftTy (beg gs k : Nat) ((kinCount gs : Int) - (beg gs k : Nat)) (tyAt (grAt gs k) i) := tyAt_map _ _ _ h
theorem beg_end (hk : k < gs.length) : beg gs k + (grAt gs k).length ≤ kinCount gs := by
  have : countTo (grAt gs) (k + 1) ≤ kinCount gs := countTo_mono (grAt gs) hk
  exact this

theorem form_shift {t : Ty} {fr n i L : Nat} (hfn : fr ≤ n) (h : formOk t ((fr + i : Nat) : Int) ((fr + L : Nat) : Int) = true) : formOk (shiftTy (fr : Nat) ((n : Int) - (fr : Nat)) t) ((n + i : Nat) : Int) ((n + L : Nat) : Int) = true := by
  obtain ⟨⟨a, b⟩, c, d, e⟩ := (formOk_iff _ _ _).1 h
  refine (formOk_iff _ _ _).2 ⟨?_, by rw [shiftTy_len]; exact c, by rw [shiftTy_len]; exact d, fun j hj => ?_⟩
  · rw [shiftTy_up]; unfold shN; split <;> omega
  · rw [shiftTy_len] at hj
    have := e j hj
    rw [shiftTy_fd _ _ _ _ hj, shiftFd_kind]
    rw [fieldOk_iff] at this ⊢
    rcases this with ⟨h1, h2⟩ | ⟨h1, h2⟩
    · rw [shiftFd_num _ _ _ h1]; exact .inl ⟨h1, h2⟩
    · rw [shiftFd_of _ _ _ (by omega)]
      refine .inr ⟨h1, ?_⟩
      unfold shN; split <;> omega
theorem parts_twin (hP : Parts gs) (hk : k < gs.length) (h4 : gs.length < 4) (h8 : kinCount gs + (grAt gs k).length ≤ 8) : Parts (gs ++ [twin gs k]) := by
  have hb := beg_end hk
  refine ⟨by simp; omega, by rw [kinCount_snoc, twin_length]; exact h8, fun x hx => ?_⟩
  by_cases c : x < gs.length
  · rw [grAt_append_left _ _ _ c, countTo_more (by omega)]
    exact hP.2.2 x c
  · have : x = gs.length := by simp at hx; omega
    subst this
    rw [grAt_append_one, countTo_more (Nat.le_refl _), twin_length]
    obtain ⟨h1, h2⟩ := hP.2.2 k hk
    refine ⟨h1, fun i hi => ?_⟩
    rw [twin_at i hi]
    exact form_shift (by omega) (h2 i hi)
/-- Both groups have one text. -/
theorem txt_twin (hP : Parts gs) (hk : k < gs.length) : txt (gs ++ [twin gs k]) k = txt (gs ++ [twin gs k]) gs.length := by
  have hb := beg_end hk
  unfold txt
  rw [grAt_append_left _ _ _ hk, grAt_append_one, beg_more (by omega), beg_more (Nat.le_refl _)]
  generalize canon (gs ++ [twin gs k]) = C
  have hn : beg gs gs.length = kinCount gs := rfl
  have key : grpTok C (beg gs k) (grAt gs k) = grpTok C (beg gs gs.length) (twin gs k) := by
    refine grpTok_eq _ _ twin_length.symm fun i hi => ?_
    rw [twin_at i hi]
    obtain ⟨⟨a, b⟩, c, d, e⟩ := (formOk_iff _ _ _).1 ((hP.2.2 k hk).2 i hi)
    have nm : ∀ o : Int, o < ((beg gs k + (grAt gs k).length : Nat) : Int) → nameK C (beg gs k) o = nameK C (beg gs gs.length) (shN (beg gs k : Nat) ((kinCount gs : Int) - (beg gs k : Nat)) o) := by
      intro o ho
      rw [hn]
      by_cases h1 : ((beg gs k : Nat) : Int) ≤ o
      · have hs : shN (beg gs k : Nat) ((kinCount gs : Int) - (beg gs k : Nat)) o = o + ((kinCount gs : Int) - (beg gs k : Nat)) := if_pos h1
        rw [hs]
        unfold nameK
        rw [if_neg (by omega), if_pos h1, if_neg (by omega), if_pos (by omega)]
        congr 2; omega
      · have hs : shN (beg gs k : Nat) ((kinCount gs : Int) - (beg gs k : Nat)) o = o := if_neg h1
        rw [hs]
        unfold nameK
        by_cases h0 : o < 0
        · rw [if_pos h0, if_pos h0]
        · rw [if_neg h0, if_neg h1, if_neg h0, if_neg (by omega)]
    have e0 : countTo (grAt gs) k = beg gs k := rfl
    rw [e0] at b e
    refine ⟨rfl, rfl, ?_, (shiftTy_len _ _ _).symm, fun j hj => ?_⟩
    · rw [shiftTy_up]; exact nm _ (by omega)
    · rw [shiftTy_fd _ _ _ _ hj]
      refine ⟨(shiftFd_kind _ _ _).symm, (shiftFd_mt _ _ _).symm, ?_⟩
      by_cases h1 : (fdAt (tyAt (grAt gs k) i).fields j).kind = 1
      · exact .inl h1
      · right
        rw [shiftFd_of _ _ _ h1]
        have := (fieldOk_iff _ _ _).1 (e j hj)
        exact nm _ (by omega)
  have : (59 : UInt8) :: grpTxt C (beg gs k) (grAt gs k) = 59 :: grpTxt C (beg gs gs.length) (twin gs k) := by rw [grpTxt_toks, grpTxt_toks, key]
  injection this
theorem twin_grp (hk : k < gs.length) {i : Nat} (hi : i < (grAt gs k).length) : beg gs k + i < kinCount gs ∧ beg gs k + i < kinCount (gs ++ [twin gs k]) ∧ kinCount gs + i < kinCount (gs ++ [twin gs k]) ∧ grp (gs ++ [twin gs k]) (beg gs k + i) = k ∧ grp (gs ++ [twin gs k]) (kinCount gs + i) = gs.length := by
  have hb := beg_end hk
  have hc := kinCount_snoc gs (twin gs k)
  rw [twin_length] at hc
  have g1 := grp_at (gs := gs ++ [twin gs k]) (x := k) (i := i) (by simp; omega) (by rw [grAt_append_left _ _ _ hk]; exact hi)
  have g2 := grp_at (gs := gs ++ [twin gs k]) (x := gs.length) (i := i) (by simp) (by rw [grAt_append_one, twin_length]; exact hi)
  rw [beg_more (by omega)] at g1
  rw [beg_more (Nat.le_refl _)] at g2
  have e : beg gs gs.length = kinCount gs := rfl
  rw [e] at g2
  exact ⟨by omega, g1.1, g2.1, g1.2, g2.2⟩
theorem same_twin (hP2 : Parts (gs ++ [twin gs k])) (hP : Parts gs) (hk : k < gs.length) {i : Nat} (hi : i < (grAt gs k).length) : same (gs ++ [twin gs k]) (beg gs k + i) (kinCount gs + i) = true := by
  obtain ⟨_, h1, h2, h3, h4⟩ := twin_grp hk hi
  refine (same_key hP2 _ (Nat.le_refl _) _ _ h1 h2).2 ⟨?_, ?_⟩
  · rw [h3, h4, beg_more (by omega), beg_more (Nat.le_refl _)]
    have e : beg gs gs.length = kinCount gs := rfl
    omega
  · rw [h3, h4]; exact txt_twin hP hk
/-- A name and where it goes are under one another. -/
theorem both_twin (hP2 : Parts (gs ++ [twin gs k])) (hP : Parts gs) (hk : k < gs.length) {o : Int} (ho : o < ((beg gs k + (grAt gs k).length : Nat) : Int)) :
    under (gs ++ [twin gs k]) o (shN (beg gs k : Nat) ((kinCount gs : Int) - (beg gs k : Nat)) o) = true ∧ under (gs ++ [twin gs k]) (shN (beg gs k : Nat) ((kinCount gs : Int) - (beg gs k : Nat)) o) o = true ∧ o < (kinCount gs : Int) ∧ o < (kinCount (gs ++ [twin gs k]) : Int) ∧ shN (beg gs k : Nat) ((kinCount gs : Int) - (beg gs k : Nat)) o < (kinCount (gs ++ [twin gs k]) : Int) := by
  have hb := beg_end hk
  have hc := kinCount_snoc gs (twin gs k)
  rw [twin_length] at hc
  unfold shN
  by_cases c : ((beg gs k : Nat) : Int) ≤ o
  · rw [if_pos c]
    obtain ⟨i, hI⟩ := Int.eq_ofNat_of_zero_le (show 0 ≤ o - ((beg gs k : Nat) : Int) by omega)
    have hi : i < (grAt gs k).length := by omega
    have e1 : o = ((beg gs k + i : Nat) : Int) := by omega
    have e2 : o + ((kinCount gs : Int) - ((beg gs k : Nat) : Int)) = ((kinCount gs + i : Nat) : Int) := by omega
    obtain ⟨_, h1, h2, _⟩ := twin_grp hk hi
    have hu := (under_anti hP2 h1 h2).2 (same_twin hP2 hP hk hi)
    rw [e2, e1]
    exact ⟨hu.1, hu.2, by omega, by omega, by omega⟩
  · rw [if_neg c]
    exact ⟨under_refl _ _, under_refl _ _, by omega, by omega, by omega⟩
theorem under_both {hs : List (List Ty)} (hP : Parts hs) {a a' b b' : Int} (h1 : under hs a a' = true) (h2 : under hs a' a = true) (h3 : under hs b b' = true) (h4 : under hs b' b = true) (la : a < kinCount hs) (la' : a' < kinCount hs) (lb : b < kinCount hs) (lb' : b' < kinCount hs) : under hs a' b' = under hs a b := by
  rw [Bool.eq_iff_iff]
  constructor
  · intro h; exact under_transI hP la la' lb h1 (under_transI hP la' lb' lb h h4)
  · intro h; exact under_transI hP la' la lb' h2 (under_transI hP la lb lb' h h3)
theorem under_twin (hP2 : Parts (gs ++ [twin gs k])) (hP : Parts gs) (hk : k < gs.length) {a b : Int} (ha : a < ((beg gs k + (grAt gs k).length : Nat) : Int)) (hb : b < ((beg gs k + (grAt gs k).length : Nat) : Int)) :
    under (gs ++ [twin gs k]) (shN (beg gs k : Nat) ((kinCount gs : Int) - (beg gs k : Nat)) a) (shN (beg gs k : Nat) ((kinCount gs : Int) - (beg gs k : Nat)) b) = under gs a b := by
  obtain ⟨a1, a2, a3, a4, a5⟩ := both_twin hP2 hP hk ha
  obtain ⟨b1, b2, b3, b4, b5⟩ := both_twin hP2 hP hk hb
  rw [under_both hP2 a1 a2 b1 b2 a4 a5 b4 b5, under_more hP a3 b3]
theorem fits_twin (hP2 : Parts (gs ++ [twin gs k])) (hP : Parts gs) (hk : k < gs.length) {f g : Fd} (hf : f.kind = 1 ∨ f.of < ((beg gs k + (grAt gs k).length : Nat) : Int)) (hg : g.kind = 1 ∨ g.of < ((beg gs k + (grAt gs k).length : Nat) : Int)) :
    fitsF (gs ++ [twin gs k]) (shiftFd (beg gs k : Nat) ((kinCount gs : Int) - (beg gs k : Nat)) f) (shiftFd (beg gs k : Nat) ((kinCount gs : Int) - (beg gs k : Nat)) g) = fitsF gs f g := by
  have s : ∀ {f g : Fd}, (f.kind = 1 ∨ f.of < ((beg gs k + (grAt gs k).length : Nat) : Int)) → (g.kind = 1 ∨ g.of < ((beg gs k + (grAt gs k).length : Nat) : Int)) → sortF (gs ++ [twin gs k]) (shiftFd (beg gs k : Nat) ((kinCount gs : Int) - (beg gs k : Nat)) f) (shiftFd (beg gs k : Nat) ((kinCount gs : Int) - (beg gs k : Nat)) g) = sortF gs f g := by
    intro f g hf hg
    unfold sortF
    rw [shiftFd_kind, shiftFd_kind]
    split
    · rfl
    · rename_i hn
      rw [shiftFd_of _ _ _ (fun h => hn (.inl h)), shiftFd_of _ _ _ (fun h => hn (.inr h)), under_twin hP2 hP hk (by omega) (by omega)]
  unfold fitsF
  rw [shiftFd_mt, shiftFd_mt, s hf hg, s hg hf]
theorem ok_twin (h : kinOkF gs = true) (hk : k < gs.length) (h4 : gs.length < 4) (h8 : kinCount gs + (grAt gs k).length ≤ 8) : kinOkF (gs ++ [twin gs k]) = true := by
  have hP := kinOk_parts h
  have hP2 := parts_twin hP hk h4 h8
  have hb := beg_end hk
  refine kinOk_snoc h hP2 fun i hi => ?_
  rw [twin_length] at hi
  rw [twin_at i hi]
  obtain ⟨⟨a, b⟩, c, d, e⟩ := (formOk_iff _ _ _).1 ((hP.2.2 k hk).2 i hi)
  have e0 : countTo (grAt gs) k = beg gs k := rfl
  rw [e0] at b e
  obtain ⟨hlt, hg⟩ := grp_at hk hi
  have hT : tyN gs (beg gs k + i) = tyAt (grAt gs k) i := by
    unfold tyN
    rw [flat_at hlt, hg, Nat.add_sub_cancel_left]
  have hbl := ((kinOk_iff _).1 h).2 (beg gs k + i) hlt
  rw [hT] at hbl
  rcases hbl with hu | hbl
  · left; rw [shiftTy_up]; unfold shN; rw [if_neg (by omega)]; exact hu
  by_cases hneg : (tyAt (grAt gs k) i).up < 0
  · left; rw [shiftTy_up]; unfold shN; rw [if_neg (by omega)]; exact hneg
  right
  generalize hTT : tyAt (grAt gs k) i = T at *
  -- what is above it, there
  have hU : tyN (gs ++ [twin gs k]) (shiftTy (beg gs k : Nat) ((kinCount gs : Int) - (beg gs k : Nat)) T).up.toNat = shiftTy (beg gs k : Nat) ((kinCount gs : Int) - (beg gs k : Nat)) (tyN gs T.up.toNat) ∧ ∀ j, j < (tyN gs T.up.toNat).fields.length → (fdAt (tyN gs T.up.toNat).fields j).kind = 1 ∨ (fdAt (tyN gs T.up.toNat).fields j).of < ((beg gs k + (grAt gs k).length : Nat) : Int) := by
    rw [shiftTy_up]
    unfold shN
    by_cases hc : ((beg gs k : Nat) : Int) ≤ T.up
    · rw [if_pos hc]
      obtain ⟨m, hM⟩ := Int.eq_ofNat_of_zero_le (show 0 ≤ T.up - ((beg gs k : Nat) : Int) by omega)
      have hm : m < (grAt gs k).length := by omega
      obtain ⟨l1, l2⟩ := grp_at hk hm
      have e1 : T.up.toNat = beg gs k + m := by omega
      have e2 : (T.up + ((kinCount gs : Int) - ((beg gs k : Nat) : Int))).toNat = kinCount gs + m := by omega
      have hv : tyN gs (beg gs k + m) = tyAt (grAt gs k) m := by unfold tyN; rw [flat_at l1, l2, Nat.add_sub_cancel_left]
      rw [e1, e2, tyN_snoc gs _ m (by rw [twin_length]; exact hm), twin_at m hm, hv]
      refine ⟨rfl, fun j hj => ?_⟩
      have q := ((formOk_iff _ _ _).1 ((hP.2.2 k hk).2 m hm)).2.2.2 j hj
      rw [e0] at q
      have := (fieldOk_iff _ _ _).1 q
      omega
    · rw [if_neg hc]
      have hp : T.up.toNat < kinCount gs := by omega
      obtain ⟨g1, g2, g3⟩ := grp_spec gs T.up.toNat hp
      have hlt2 : grp gs T.up.toNat < k := by
        rcases Nat.lt_or_ge (grp gs T.up.toNat) k with h | h
        · exact h
        · have := countTo_mono (grAt gs) h; omega
      have hend : countTo (grAt gs) (grp gs T.up.toNat + 1) ≤ beg gs k := countTo_mono (grAt gs) hlt2
      have hin : T.up.toNat - beg gs (grp gs T.up.toNat) < (grAt gs (grp gs T.up.toNat)).length := by simp only [countTo] at g3; unfold beg; omega
      have q := ((formOk_iff _ _ _).1 ((hP.2.2 _ g1).2 _ hin)).2.2.2
      have hv : tyN gs T.up.toNat = tyAt (grAt gs (grp gs T.up.toNat)) (T.up.toNat - beg gs (grp gs T.up.toNat)) := by unfold tyN; rw [flat_at hp]
      rw [tyN_more hp, hv]
      have small : ∀ j, j < (tyAt (grAt gs (grp gs T.up.toNat)) (T.up.toNat - beg gs (grp gs T.up.toNat))).fields.length → (fdAt (tyAt (grAt gs (grp gs T.up.toNat)) (T.up.toNat - beg gs (grp gs T.up.toNat))).fields j).kind = 1 ∨ (fdAt (tyAt (grAt gs (grp gs T.up.toNat)) (T.up.toNat - beg gs (grp gs T.up.toNat))).fields j).of < ((beg gs k : Nat) : Int) := by
        intro j hj
        have := (fieldOk_iff _ _ _).1 (q j hj)
        simp only [countTo] at hend
        omega
      have hup := ((formOk_iff _ _ _).1 ((hP.2.2 _ g1).2 _ hin)).1
      refine ⟨?_, fun j hj => ?_⟩
      · generalize tyAt (grAt gs (grp gs T.up.toNat)) (T.up.toNat - beg gs (grp gs T.up.toNat)) = V at *
        obtain ⟨vk, vu, vl, vf⟩ := V
        unfold shiftTy
        simp only at small hup ⊢
        unfold beg at *
        rw [if_neg (by omega)]
        congr 1
        refine fd_ext (by simp) fun j hj => ?_
        rw [fdAt_map _ _ _ hj]
        rcases small j hj with h1 | h1
        · rw [shiftFd_num _ _ _ h1]
        · rw [shiftFd_same _ _ _ h1]
      · have := small j hj
        omega
  obtain ⟨hU1, hU2⟩ := hU
  rw [hU1]
  generalize tyN gs T.up.toNat = V at *
  unfold belowF at hbl ⊢
  rw [shiftTy_len, shiftTy_len]
  simp only [Bool.and_eq_true, decide_eq_true_eq] at hbl ⊢
  obtain ⟨⟨⟨q1, q2⟩, q3⟩, q4⟩ := hbl
  refine ⟨⟨⟨q1, q2⟩, q3⟩, ?_⟩
  rw [allTo_iff] at q4 ⊢
  intro j hj
  rw [shiftTy_fd _ _ _ _ (by omega), shiftTy_fd _ _ _ _ hj, fits_twin hP2 hP hk ?_ (hU2 j hj)]
  · exact q4 j hj
  · have := (fieldOk_iff _ _ _).1 (e j (by omega))
    omega
end
end Go.Proofs.YtejkebfhiddhmaaDoor
