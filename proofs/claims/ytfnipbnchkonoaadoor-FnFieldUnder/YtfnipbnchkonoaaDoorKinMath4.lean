/- Being under, field by field: what a type that is under another has at the places of that one. -/
import Derived.Test.YtfnipbnchkonoaaDoorKaMore
namespace Go.Proofs.YtfnipbnchkonoaaDoor
set_option linter.unusedVariables false

/-- What one type has at the places of another may stand there. -/
def Sub (gs : List (List Ty)) (t u : Ty) : Prop := t.kind = u.kind ∧ u.fields.length ≤ t.fields.length ∧ ∀ i, i < u.fields.length →
  (fdAt t.fields i).mt = (fdAt u.fields i).mt ∧ sortF gs (fdAt t.fields i) (fdAt u.fields i) = true ∧ ((fdAt t.fields i).mt = true → sortF gs (fdAt u.fields i) (fdAt t.fields i) = true)
/-- A type whose fields are right among so many. -/
def FOk (gs : List (List Ty)) (t : Ty) : Prop := ∀ j, j < t.fields.length → fieldOk (fdAt t.fields j).kind (fdAt t.fields j).of (kinCount gs : Nat) = true
theorem fok_of {gs : List (List Ty)} (hP : Parts gs) {p : Nat} (hp : p < kinCount gs) : FOk gs (tyN gs p) := (parts_flat hP hp).2.2
theorem FOk.of {gs : List (List Ty)} {t : Ty} (h : FOk gs t) {j : Nat} (hj : j < t.fields.length) : (fdAt t.fields j).kind = 1 ∨ (fdAt t.fields j).of < (kinCount gs : Int) := fieldOk_of (by omega) (h j hj)

theorem Sub.refl {gs : List (List Ty)} {t : Ty} (h : FOk gs t) : Sub gs t t := by
  refine ⟨rfl, Nat.le_refl _, fun i hi => ?_⟩
  have h1 := h i hi
  have hk : (fdAt t.fields i).kind = 1 ∨ (fdAt t.fields i).kind = 2 ∨ (fdAt t.fields i).kind = 3 := by
    unfold fieldOk at h1
    split at h1
    · left; assumption
    · split at h1
      · rename_i h2; omega
      · simp at h1
  exact ⟨rfl, sortF_refl hk, fun _ => sortF_refl hk⟩
theorem Sub.trans {gs : List (List Ty)} (hP : Parts gs) {t u v : Ty} (ht : FOk gs t) (hu : FOk gs u) (hv : FOk gs v) (h : Sub gs t u) (k : Sub gs u v) : Sub gs t v := by
  refine ⟨h.1.trans k.1, Nat.le_trans k.2.1 h.2.1, fun i hi => ?_⟩
  have hiu : i < u.fields.length := Nat.lt_of_lt_of_le hi k.2.1
  have hit : i < t.fields.length := Nat.lt_of_lt_of_le hiu h.2.1
  obtain ⟨a1, a2, a3⟩ := h.2.2 i hiu
  obtain ⟨b1, b2, b3⟩ := k.2.2 i hi
  exact ⟨a1.trans b1, sortF_trans hP (ht.of hit) (hu.of hiu) (hv.of hi) a2 b2, fun hm => sortF_trans hP (hv.of hi) (hu.of hiu) (ht.of hit) (b3 (a1 ▸ hm)) (a3 hm)⟩
theorem sub_of_below {gs : List (List Ty)} {t u : Ty} (h : belowF gs t u = true) : Sub gs t u ∧ u.last = false := by
  unfold belowF at h
  simp only [Bool.and_eq_true, beq_iff_eq, decide_eq_true_eq, Bool.not_eq_true', allTo_iff] at h
  refine ⟨⟨h.1.1.1, h.1.2, fun i hi => ?_⟩, h.1.1.2⟩
  have hf := h.2 i hi
  unfold fitsF at hf
  split at hf
  · rename_i hm
    simp only [Bool.and_eq_true, Bool.or_eq_true, Bool.not_eq_true'] at hf
    refine ⟨hm, hf.1, fun h1 => ?_⟩
    rcases hf.2 with h2 | h2
    · rw [h1] at h2; cases h2
    · exact h2
  · cases hf
/-- What is named alike is under one another. -/
theorem match_under {gs : List (List Ty)} (hP : Parts gs) {p q : Nat} (hp : p < kinCount gs) (hq : q < kinCount gs) (hs : same gs p q = true) (hne : p ≠ q) {a b : Int} (ha : -2 ≤ a) (hb : -2 ≤ b) (ha1 : a < (beg gs (grp gs p) + (grAt gs (grp gs p)).length : Nat)) (hb1 : b < (beg gs (grp gs q) + (grAt gs (grp gs q)).length : Nat)) (hm : matchF (same gs) gs a b (grp gs p) (grp gs q) = true) : under gs a b = true ∧ under gs b a = true := by
  obtain ⟨k1, k2, _⟩ := same_alike hP hp hq hs hne
  have gp := grp_spec gs p hp
  have gq := grp_spec gs q hq
  have lp := countTo_mono (grAt gs) (show grp gs p + 1 ≤ gs.length by omega)
  have lq := countTo_mono (grAt gs) (show grp gs q + 1 ≤ gs.length by omega)
  simp only [countTo] at lp lq
  have hak : a < (kinCount gs : Int) := by unfold beg at ha1; unfold kinCount; omega
  have hbk : b < (kinCount gs : Int) := by unfold beg at hb1; unfold kinCount; omega
  rw [under_antiI hP ha hb hak hbk]
  unfold matchF at hm
  split at hm
  · left; simpa using hm
  · split at hm
    · rename_i h0 h1
      right
      have he : a - (beg gs (grp gs p) : Int) = b - (beg gs (grp gs q) : Int) := by simpa using hm
      obtain ⟨e, hE⟩ := Int.eq_ofNat_of_zero_le (show 0 ≤ a - (beg gs (grp gs p) : Int) by omega)
      have e1 : a.toNat = beg gs (grp gs p) + e := by omega
      have e2 : b.toNat = beg gs (grp gs q) + e := by omega
      obtain ⟨c1, c2⟩ := grp_at gp.1 (i := e) (by omega)
      obtain ⟨d1, d2⟩ := grp_at gq.1 (i := e) (by omega)
      refine ⟨by omega, by omega, ?_⟩
      rw [e1, e2]
      refine (same_key hP gs.length (Nat.le_refl _) _ _ c1 d1).2 ⟨?_, ?_⟩
      · rw [c2, d2]; omega
      · rw [c2, d2]; exact k2
    · simp only [Bool.and_eq_true] at hm
      exact .inr ⟨by omega, by omega, hm.2⟩
theorem of_in_group {gs : List (List Ty)} (hP : Parts gs) {p : Nat} (hp : p < kinCount gs) {j : Nat} (hj : j < (tyN gs p).fields.length) : fieldOk (fdAt (tyN gs p).fields j).kind (fdAt (tyN gs p).fields j).of ((beg gs (grp gs p) + (grAt gs (grp gs p)).length : Nat) : Int) = true := by
  obtain ⟨g1, g2, g3⟩ := grp_spec gs p hp
  have h := (hP.2.2 _ g1).2 (p - beg gs (grp gs p)) (by unfold beg; simp only [countTo] at g3; omega)
  unfold tyN at hj ⊢
  rw [flat_at hp] at hj ⊢
  unfold formOk at h
  simp only [Bool.and_eq_true, allTo_iff] at h
  exact h.2.2 j hj
/-- Two types that are the same may stand for one another. -/
theorem sub_of_same {gs : List (List Ty)} (hP : Parts gs) {p q : Nat} (hp : p < kinCount gs) (hq : q < kinCount gs) (hs : same gs p q = true) : Sub gs (tyN gs p) (tyN gs q) ∧ (tyN gs p).last = (tyN gs q).last := by
  by_cases hne : p = q
  · subst hne; exact ⟨Sub.refl (fok_of hP hp), rfl⟩
  obtain ⟨k1, k2, ha⟩ := same_alike hP hp hq hs hne
  unfold alikeF at ha
  simp only [Bool.and_eq_true, beq_iff_eq, allTo_iff] at ha
  obtain ⟨⟨⟨h1, h2⟩, h3⟩, _, h5⟩ := ha
  refine ⟨⟨h1, by omega, fun i hi => ?_⟩, h2⟩
  have hf := h5 i (by omega)
  unfold fAlike at hf
  simp only [Bool.and_eq_true, Bool.or_eq_true, beq_iff_eq] at hf
  obtain ⟨⟨f1, f2⟩, f3⟩ := hf
  have o1 := of_in_group hP hp (j := i) (by omega)
  have o2 := of_in_group hP hq (j := i) hi
  have w1 := ofRange o1
  have w2 := ofRange o2
  by_cases hk : (fdAt (tyN gs p).fields i).kind = 1
  · have hk2 : (fdAt (tyN gs q).fields i).kind = 1 := by omega
    exact ⟨f2, by unfold sortF; rw [if_pos (.inl hk)]; simp; omega, fun _ => by unfold sortF; rw [if_pos (.inl hk2)]; simp; omega⟩
  · rcases f3 with f3 | f3
    · exact absurd f3 hk
    · have hk2 : ¬ (fdAt (tyN gs q).fields i).kind = 1 := by omega
      obtain ⟨u1, u2⟩ := match_under hP hp hq hs hne (w1 hk).1 (w2 hk2).1 (w1 hk).2.1 (w2 hk2).2.1 f3
      have hk3 := (w1 hk).2.2
      refine ⟨f2, ?_, fun _ => ?_⟩
      · unfold sortF; rw [if_neg (by omega), u1]; simp; omega
      · unfold sortF; rw [if_neg (by omega), u2]; simp; omega
where
  ofRange {k o : Int} {n : Nat} (h : fieldOk k o (n : Int) = true) : k ≠ 1 → -2 ≤ o ∧ o < (n : Int) ∧ (k = 2 ∨ k = 3) := by
    intro hk
    unfold fieldOk at h
    rw [if_neg hk] at h
    split at h
    · rename_i h2; simp at h; exact ⟨by omega, by omega, h2⟩
    · cases h
theorem above_sub {gs : List (List Ty)} (hk : kinOkF gs = true) {p r : Nat} (h : Above gs p r) : p < kinCount gs → Sub gs (tyN gs p) (tyN gs r) ∧ (p = r ∨ (tyN gs r).last = false) := by
  obtain ⟨hP, hb⟩ := (kinOk_iff gs).1 hk
  induction h with
  | refl p => intro hp; exact ⟨Sub.refl (fok_of hP hp), .inl rfl⟩
  | @step p r u hu h ih =>
    intro hp
    have b1 := (parts_flat hP hp).2.1
    have hul : u < kinCount gs := by omega
    obtain ⟨s1, s2⟩ := ih hul
    have hr := h.le hP hul
    have hB : belowF gs (tyN gs p) (tyN gs u) = true := by
      rcases hb p hp with h1 | h1
      · omega
      · rw [hu, Int.toNat_natCast] at h1; exact h1
    obtain ⟨t1, t2⟩ := sub_of_below hB
    refine ⟨t1.trans hP (fok_of hP hp) (fok_of hP hul) (fok_of hP (by omega)) s1, .inr ?_⟩
    rcases s2 with e | e
    · rw [← e]; exact t2
    · exact e
/-- A type has at the places of what is above it what may stand there. -/
theorem under_sub {gs : List (List Ty)} (hk : kinOkF gs = true) {p q : Nat} (hp : p < kinCount gs) (hq : q < kinCount gs) (h : under gs p q = true) : Sub gs (tyN gs p) (tyN gs q) ∧ ((tyN gs q).last = true → same gs p q = true) := by
  have hP := kinOk_parts hk
  obtain ⟨r, hr, hc⟩ := (under_iff hP hp hq).1 h
  have hrl := hr.le hP hp
  have hs : same gs r q = true := (same_iff hP (by omega) hq).2 hc
  obtain ⟨s1, s2⟩ := above_sub hk hr hp
  obtain ⟨t1, t2⟩ := sub_of_same hP (by omega) hq hs
  refine ⟨s1.trans hP (fok_of hP hp) (fok_of hP (by omega)) (fok_of hP hq) t1, fun hl => ?_⟩
  rcases s2 with e | e
  · rw [e]; exact hs
  · rw [← t2, e] at hl; cases hl
end Go.Proofs.YtfnipbnchkonoaaDoor
