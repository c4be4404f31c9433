/- l14Cut and l14Words of the model: a text's pieces, and its words. -/
import Derived.Test.YtdicmlbgpbglpaaDoorInsRd
import Derived.Test.YtdicmlbgpbglpaaDoorNum14
import Derived.Test.YtdicmlbgpbglpaaDoorCut
import Derived.Deep.AppendLies
namespace Go.Proofs.YtdicmlbgpbglpaaDoor
open Go.ChangeShapes Go.WideShapes Go.ChangeAt Go.RowKit Go.Joins
set_option linter.unusedVariables false

theorem ne_empty {s : ByteArray} (h : 0 < s.size) : ¬ s = ByteArray.empty := by
  intro e
  rw [e] at h
  exact absurd h (by decide)

/-- Strings, as they lie. -/
def strs (xs : List (List UInt8)) : List Value := xs.map fun l => .string ⟨l.toArray⟩

theorem strs_snoc (xs : List (List UInt8)) (x : List UInt8) : strs xs ++ [.string ⟨x.toArray⟩] = strs (xs ++ [x]) := by simp [strs]

/-- A list of strings of its own. -/
def StrRow (w : World) (base g cap : Nat) (xs : List (List UInt8)) : Prop := w.ownsRow base 9 1 (.slice (some ⟨g, 0, none⟩) xs.length cap) xs.length (strs xs)

theorem Tryd.infoString : (Tryd.prog.info? 9).map (fun i => (i.zero, i.size, i.bytes)) = some (some (.string ByteArray.empty), 1, 16) := by kernel_rfl

theorem own_base {w : World} {S e size n : Nat} {v : Value} {xs : List Value} (h : w.ownsRow S e size v n xs) : ∀ k, v.ownBlock = some k → S ≤ k := by
  intro k hk
  rcases h.2 with ⟨rfl, _⟩ | ⟨g, cap', cur, rfl, hb, _⟩
  · simp [Value.ownBlock] at hk
  · simp [Value.ownBlock] at hk
    omega

theorem ext_str (s : ByteArray) (i j : Nat) : s.extract i j = ⟨((s.data.toList.drop i).take (j - i)).toArray⟩ := (toArray_list _ _ (ext_list s i j).symm).symm

/-- How far l14Cut is. -/
def CutAt (c : UInt8) (l : List UInt8) (k f : Nat) (done : List (List UInt8)) : Prop :=
  done.length ≤ k ∧ f ≤ k ∧ ((k ≤ l.length ∧ cuts c l = done ++ cutsFrom c ((l.drop f).take (k - f)) (l.drop k)) ∨ (k = l.length + 1 ∧ done = cuts c l))

theorem CutAt.start (c : UInt8) (l : List UInt8) : CutAt c l 0 0 [] := ⟨Nat.zero_le _, Nat.zero_le _, .inl ⟨Nat.zero_le _, rfl⟩⟩
theorem CutAt.cut {c : UInt8} {l : List UInt8} {k f : Nat} {done : List (List UInt8)} (h : CutAt c l k f done) (hk : l[k]? = some c) : CutAt c l (k + 1) (k + 1) (done ++ [(l.drop f).take (k - f)]) := by
  obtain ⟨h1, h2, h3⟩ := h
  have hlt := (List.getElem?_eq_some_iff.1 hk).1
  refine ⟨by simp; omega, Nat.le_refl _, .inl ⟨by omega, ?_⟩⟩
  rcases h3 with ⟨_, h3⟩ | ⟨h3, _⟩
  · rw [h3, drop_at l k c hk]
    simp [cutsFrom]
  · omega
theorem CutAt.pass {c d : UInt8} {l : List UInt8} {k f : Nat} {done : List (List UInt8)} (h : CutAt c l k f done) (hk : l[k]? = some d) (hd : d ≠ c) : CutAt c l (k + 1) f done := by
  obtain ⟨h1, h2, h3⟩ := h
  have hlt := (List.getElem?_eq_some_iff.1 hk).1
  refine ⟨by omega, by omega, .inl ⟨by omega, ?_⟩⟩
  rcases h3 with ⟨_, h3⟩ | ⟨h3, _⟩
  · rw [h3, drop_at l k d hk, piece_more l f k d h2 hk]
    simp [cutsFrom, hd]
  · omega
theorem CutAt.last {c : UInt8} {l : List UInt8} {k f : Nat} {done : List (List UInt8)} (h : CutAt c l k f done) (hk : k = l.length) : CutAt c l (k + 1) (k + 1) (done ++ [(l.drop f).take (k - f)]) := by
  obtain ⟨h1, h2, h3⟩ := h
  refine ⟨by simp; omega, Nat.le_refl _, .inr ⟨by omega, ?_⟩⟩
  rcases h3 with ⟨_, h3⟩ | ⟨h3, _⟩
  · rw [h3, hk]
    simp [cutsFrom]
  · omega
theorem CutAt.all {c : UInt8} {l : List UInt8} {k f : Nat} {done : List (List UInt8)} (h : CutAt c l k f done) (hk : ¬ k ≤ l.length) : done = cuts c l := by
  rcases h.2.2 with ⟨h3, _⟩ | ⟨_, h3⟩
  · exact absurd h3 hk
  · exact h3

set_option maxHeartbeats 1600000 in
set_option maxRecDepth 100000 in
theorem l14Cut_any (s : ByteArray) (c : UInt8) (w : World) (hs : s.size ≤ 1048576) :
    Calls Tryd.prog 57 #[.string s, .int .u8 (c.toNat : Int)] w fun e w' => ∃ g cap, e = .returned (.slice (some ⟨g, 0, none⟩) (cuts c s.data.toList).length cap) ∧ StrRow w' w.heap.size g cap (cuts c s.data.toList) ∧ Below w.heap.size w w' := by
  obtain ⟨i0, hi0, hzz⟩ := Option.map_eq_some_iff.1 Tryd.infoString
  simp only [Prod.mk.injEq] at hzz
  obtain ⟨hz0, hs0, hb0⟩ := hzz
  have HZ := hide hz0
  have HS := hide hs0
  have HB := hide hb0
  have HI := hide hi0
  clear hz0 hs0 hb0 hi0
  have SZ := hide (size_list s)
  go_enter Tryd.func57, Tryd.ntmps57
  go_wp2_with fail
  go_loopw [5, 6, 7] (fun v f i wr => ∃ (k f0 g cap : Nat) (done : List (List UInt8)), i = .int .i64 k ∧ f = .int .i64 f0 ∧ v = .slice (some ⟨g, 0, none⟩) done.length cap ∧ Hid (StrRow wr w.heap.size g cap done) ∧ Hid (CutAt c s.data.toList k f0 done) ∧ k ≤ s.size + 1 ∧ Below w.heap.size w wr) (fun v f i wr => s.size + 1 - (intOf i).toNat)
  case atStart =>
    exact ⟨0, 0, w.heap.size, 0, [], rfl, rfl, rfl, ⟨rfl, .inr ⟨w.heap.size, 0, #[], rfl, Nat.le_refl _, Deep.blk_alloc_new _ _, Nat.le_refl _, Nat.zero_le _, rfl, rfl⟩⟩, CutAt.start _ _, Nat.zero_le _, (Below.refl _ _).alloc (Nat.le_refl _) _⟩
  case round =>
    obtain ⟨k, f0, g, cap, done, rfl, rfl, rfl, HR, HC, hk, hb⟩ := hrel
    have hf0 := HC.out.2.1
    have hdn := HC.out.1
    have hsz := hb.size
    by_cases hlt : k < s.size
    · obtain ⟨d, hd⟩ : ∃ d, s[k] = d := ⟨_, rfl⟩
      have HD : Hid (s.data.toList[k]? = some d) := by show _ = _; rw [← hd]; exact byte_at s k hlt
      by_cases hc : d = c
      · have hcc : ((d.toNat : Int) == (c.toNat : Int)) = true := by rw [hc]; simp
        have HN : Hid (CutAt c s.data.toList (k + 1) (k + 1) (done ++ [(s.data.toList.drop f0).take (k - f0)])) := HC.out.cut (by rw [HD.out, hc])
        have HE := hide (ext_str s f0 k)
        clear hc
        go_wp2_with (first | (at_builtin; refine wpList_append_lies _ rfl _ _ 56 rfl w.heap.size 9 i0 _ 1 16 Tryd.underlying56 HI.out HZ.out HS.out HB.out rfl (by decide) _ done.length (strs done) rfl (HR.out.alloc _) ⟨wr.heap.size, 0, none⟩ 1 1 [.string (s.extract f0 k)] rfl rfl ?c1 ?c2 (by decide) ?c3 ?c4 ?c5 _ rfl ?_))
        case c1 => exact World.news_of_block (Deep.blk_alloc_new _ _)
        case c2 => intro u hu; simp at hu; subst hu; rfl
        case c3 => unfold maxLen; omega
        case c4 => omega
        case c5 => simp; omega
        intro g1 cap1 w1 hown1 hgr hat hlt1
        have hb1 : Below w.heap.size w w1 := (hb.alloc hsz _).grown hgr (by simp; omega) (own_base HR.out)
        have HR1 : Hid (StrRow w1 w.heap.size g1 cap1 (done ++ [(s.data.toList.drop f0).take (k - f0)])) := by
          show StrRow _ _ _ _ _
          unfold StrRow
          rw [← strs_snoc, ← HE.out]
          simpa using hown1
        clear hgr hat hown1
        go_wp2_with fail
        refine ⟨⟨k + 1, k + 1, g1, cap1, _, by go_num, by go_num, by simp, HR1, HN, by omega, hb1⟩, by simp [intOf]; omega⟩
      · have hcc : ((d.toNat : Int) == (c.toNat : Int)) = false := by
          have : ¬ d.toNat = c.toNat := fun e => hc (UInt8.toNat_inj.1 e)
          simp; omega
        have HN : Hid (CutAt c s.data.toList (k + 1) f0 done) := HC.out.pass HD.out hc
        clear hc
        go_wp2_with fail
        refine ⟨⟨k + 1, f0, g, cap, done, by go_num, rfl, rfl, HR, HN, by omega, hb⟩, by simp [intOf]; omega⟩
    · by_cases hke : k = s.size
      · have HN : Hid (CutAt c s.data.toList (k + 1) (k + 1) (done ++ [(s.data.toList.drop f0).take (k - f0)])) := HC.out.last (by rw [← SZ.out]; exact hke)
        have HE := hide (ext_str s f0 k)
        subst hke
        go_wp2_with (first | (at_builtin; refine wpList_append_lies _ rfl _ _ 56 rfl w.heap.size 9 i0 _ 1 16 Tryd.underlying56 HI.out HZ.out HS.out HB.out rfl (by decide) _ done.length (strs done) rfl (HR.out.alloc _) ⟨wr.heap.size, 0, none⟩ 1 1 [.string (s.extract f0 s.size)] rfl rfl ?c1 ?c2 (by decide) ?c3 ?c4 ?c5 _ rfl ?_))
        case c1 => exact World.news_of_block (Deep.blk_alloc_new _ _)
        case c2 => intro u hu; simp at hu; subst hu; rfl
        case c3 => unfold maxLen; omega
        case c4 => omega
        case c5 => simp; omega
        intro g1 cap1 w1 hown1 hgr hat hlt1
        have hb1 : Below w.heap.size w w1 := (hb.alloc hsz _).grown hgr (by simp; omega) (own_base HR.out)
        have HR1 : Hid (StrRow w1 w.heap.size g1 cap1 (done ++ [(s.data.toList.drop f0).take (s.size - f0)])) := by
          show StrRow _ _ _ _ _
          unfold StrRow
          rw [← strs_snoc, ← HE.out]
          simpa using hown1
        clear hgr hat hown1
        go_wp2_with fail
        refine ⟨⟨s.size + 1, s.size + 1, g1, cap1, _, by go_num, by go_num, by simp, HR1, HN, by omega, hb1⟩, by simp [intOf] <;> omega⟩
      · have HN := HC.out.all (by rw [← SZ.out]; omega)
        have hk2 : Hid (done = cuts c s.data.toList) := HN
        clear HN
        go_wp2_with fail
        go_ret
        rw [← hk2.out]
        exact ⟨g, cap, rfl, HR.out, hb⟩

theorem StrRow.cell {w : World} {base g cap : Nat} {xs : List (List UInt8)} (h : StrRow w base g cap xs) {i : Nat} {x : List UInt8} (hi : xs[i]? = some x) : w.cell? ⟨g, i, none⟩ = some (.string ⟨x.toArray⟩) := by
  have hlt := (List.getElem?_eq_some_iff.1 hi).1
  rw [World.ownsRow.cellAt h i (by omega)]
  simp [strs, hi]

theorem StrRow.lt {w : World} {base g cap : Nat} {xs : List (List UInt8)} (h : StrRow w base g cap xs) : base ≤ g ∧ g < w.heap.size := by
  rcases h.2 with ⟨h', _⟩ | ⟨g', cap', cur, h', hb, hg, _⟩
  · cases h'
  · cases h'
    exact ⟨hb, (Array.getElem?_eq_some_iff.1 hg).1⟩

theorem take_more {α : Type} (l : List α) (k : Nat) (d : α) (h : l[k]? = some d) : l.take (k + 1) = l.take k ++ [d] := by
  obtain ⟨hk, rfl⟩ := List.getElem?_eq_some_iff.1 h
  exact List.take_succ_eq_append_getElem hk

theorem cut_at (s : ByteArray) (c : UInt8) (n : Int) (hn : (c.toNat : Int) = n) (w : World) (hs : s.size ≤ 1048576) :
    Calls Tryd.prog 57 #[.string s, .int .u8 n] w fun e w' => ∃ g cap, e = .returned (.slice (some ⟨g, 0, none⟩) (cuts c s.data.toList).length cap) ∧ StrRow w' w.heap.size g cap (cuts c s.data.toList) ∧ Below w.heap.size w w' := hn ▸ l14Cut_any s c w hs

/-- The words among the first k pieces. -/
def wordsTo (xs : List (List UInt8)) (k : Nat) : List (List UInt8) := (xs.take k).filter (fun x => !x.isEmpty)

set_option maxHeartbeats 1600000 in
set_option maxRecDepth 100000 in
theorem l14Words_any (s : ByteArray) (w : World) (hs : s.size ≤ 1048576) :
    Calls Tryd.prog 36 #[.string s] w fun e w' => ∃ g cap, e = .returned (.slice (some ⟨g, 0, none⟩) (wordsOf s.data.toList).length cap) ∧ StrRow w' w.heap.size g cap (wordsOf s.data.toList) ∧ Below w.heap.size w w' := by
  obtain ⟨i0, hi0, hzz⟩ := Option.map_eq_some_iff.1 Tryd.infoString
  simp only [Prod.mk.injEq] at hzz
  obtain ⟨hz0, hs0, hb0⟩ := hzz
  have HZ := hide hz0
  have HS := hide hs0
  have HB := hide hb0
  have HI := hide hi0
  clear hz0 hs0 hb0 hi0
  have SZ := hide (size_list s)
  go_enter Tryd.func36, Tryd.ntmps36
  go_wp2_with fail
  refine (cut_at s 32 32 rfl w hs).mono ?_
  rintro e w1 ⟨ga, ca, rfl, hA, hb1⟩
  obtain ⟨all, hall⟩ : ∃ all, cuts 32 s.data.toList = all := ⟨_, rfl⟩
  have HALL := hide hall
  have hal : all.length ≤ 1048577 := by
    rw [← hall]; have := cutsFrom_len 32 s.data.toList []; rw [← SZ.out] at this; exact Nat.le_trans this (by omega)
  rw [hall] at hA
  have hga := hA.lt
  have HA : Hid (∀ i x, all[i]? = some x → w1.cell? ⟨ga, i, none⟩ = some (.string ⟨x.toArray⟩)) := fun i x h => hA.cell h
  clear hA
  rw [hall]
  clear hall
  have hs1 := hb1.size
  go_wp2_with fail
  go_loopw [4, 5] (fun v i wr => ∃ (k g cap : Nat), i = .int .i64 k ∧ v = .slice (some ⟨g, 0, none⟩) (wordsTo all k).length cap ∧ Hid (StrRow wr w1.heap.size g cap (wordsTo all k)) ∧ k ≤ all.length ∧ Below w1.heap.size w1 wr) (fun v i wr => all.length - (intOf i).toNat)
  case atStart =>
    exact ⟨0, w1.heap.size, 0, rfl, rfl, ⟨rfl, .inr ⟨w1.heap.size, 0, #[], rfl, Nat.le_refl _, Deep.blk_alloc_new _ _, Nat.le_refl _, Nat.zero_le _, rfl, rfl⟩⟩, Nat.zero_le _, (Below.refl _ _).alloc (Nat.le_refl _) _⟩
  case round =>
    obtain ⟨k, g, cap, rfl, rfl, HR, hk, hb⟩ := hrel
    have hsz := hb.size
    have hfw : (wordsTo all k).length ≤ k := Nat.le_trans (List.length_filter_le _ _) (by simp; omega)
    by_cases hlt : k < all.length
    · obtain ⟨x, hx⟩ : ∃ x, all[k]? = some x := ⟨_, List.getElem?_eq_getElem hlt⟩
      have hc : wr.cell? ⟨ga, k, none⟩ = some (.string ⟨x.toArray⟩) := by rw [hb.cell (p := ⟨ga, k, none⟩) hga.2]; exact HA.out k x hx
      obtain ⟨t, ht⟩ : ∃ t : ByteArray, (⟨x.toArray⟩ : ByteArray) = t := ⟨_, rfl⟩
      rw [ht] at hc
      have htx : t.data.toList = x := by rw [← ht]
      have HT := hide ht
      have HSt : Hid (wordsTo all (k + 1) = wordsTo all k ++ (if x = [] then [] else [x])) := by
        show _ = _
        unfold wordsTo
        rw [take_more all k x hx, List.filter_append]
        cases x <;> simp
      clear hx ht
      by_cases he : x = []
      · have h1 : t = ByteArray.empty := bytes_inj (by rw [htx, he]; rfl)
        have HN : Hid (wordsTo all (k + 1) = wordsTo all k) := by show _ = _; rw [HSt.out, if_pos he]; simp
        clear he htx
        subst h1
        go_wp2_with fail
        refine ⟨⟨k + 1, g, cap, by go_num, by rw [HN.out], by rw [HN.out]; exact HR, by omega, hb⟩, by simp [intOf]; omega⟩
      · have z1 : 0 < t.size := by rw [size_list, htx]; cases x with | nil => exact absurd rfl he | cons => simp
        have ne1 : t.toList.isEmpty = false := by rw [ByteArray.toList_eq, htx]; cases x with | nil => exact absurd rfl he | cons => rfl
        have ne2 := ne_empty z1
        have ne3 : (t.toList == []) = false := by rw [ByteArray.toList_eq, htx]; simpa using he
        have HN : Hid (wordsTo all (k + 1) = wordsTo all k ++ [x]) := by show _ = _; rw [HSt.out, if_neg he]
        clear he htx
        go_wp2_with (first | (at_builtin; refine wpList_append_lies _ rfl _ _ 56 rfl w1.heap.size 9 i0 _ 1 16 Tryd.underlying56 HI.out HZ.out HS.out HB.out rfl (by decide) _ (wordsTo all k).length (strs (wordsTo all k)) rfl (HR.out.alloc _) ⟨wr.heap.size, 0, none⟩ 1 1 [.string t] rfl rfl ?c1 ?c2 (by decide) ?c3 ?c4 ?c5 _ rfl ?_))
        case c1 => exact World.news_of_block (Deep.blk_alloc_new _ _)
        case c2 => intro u hu; simp at hu; subst hu; rfl
        case c3 => unfold maxLen; omega
        case c4 => omega
        case c5 => simp; omega
        intro g1 cap1 w2 hown1 hgr hat hlt1
        have hb2 : Below w1.heap.size w1 w2 := (hb.alloc hsz _).grown hgr (by simp; omega) (own_base HR.out)
        have HR1 : Hid (StrRow w2 w1.heap.size g1 cap1 (wordsTo all (k + 1))) := by
          show StrRow _ _ _ _ _
          unfold StrRow
          rw [HN.out, ← strs_snoc, HT.out]
          simpa using hown1
        clear hgr hat hown1
        go_wp2_with fail
        refine ⟨⟨k + 1, g1, cap1, by go_num, by rw [HN.out]; simp, HR1, by omega, hb2⟩, by simp [intOf]; omega⟩
    · have HN : Hid (wordsTo all k = wordsOf s.data.toList) := by
        show _ = _
        unfold wordsTo wordsOf
        rw [HALL.out, List.take_of_length_le (by omega)]
      go_wp2_with fail
      go_ret
      rw [← HN.out]
      refine ⟨g, cap, rfl, ?_, hb1.trans (hb.mono hs1)⟩
      have := HR.out
      exact ⟨this.1, by
        rcases this.2 with ⟨h', _⟩ | ⟨g', cap', cur, h', q, r⟩
        · cases h'
        · exact .inr ⟨g', cap', cur, h', by omega, r⟩⟩
end Go.Proofs.YtdicmlbgpbglpaaDoor
