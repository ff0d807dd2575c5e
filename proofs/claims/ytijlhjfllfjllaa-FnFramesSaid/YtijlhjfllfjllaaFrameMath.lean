/-
  Frames and what is read from them, without the program: the parts come back from their frame, with what is not known left out wherever it stands; and where nothing was left out the frame comes back from its parts.
-/
import Derived.Test.YtijlhjfllfjllaaReadSpec
import Derived.Test.YtijlhjfllfjllaaFrame
namespace Go.Proofs.Ytijlhjfllfjllaa
open Go.RowKit

theorem cur_list (s : ByteArray) (a : Nat) : (cur s a).data.toList = s.data.toList.drop a := by
  unfold cur
  rw [ByteArray.data_extract]
  have h : s.data.size = s.size := rfl
  rw [← h]
  simp only [Array.toList_extract, List.extract_eq_take_drop]
  exact List.take_of_length_le (by rw [List.length_drop, Array.length_toList]; exact Nat.le_refl _)
theorem byteAt_list (s : ByteArray) (l : List UInt8) (h : s.data.toList = l) (i : Nat) : byteAt s i = ((l.getD i 0).toNat : Int) := by unfold byteAt; rw [h]
theorem size_list (s : ByteArray) (l : List UInt8) (h : s.data.toList = l) : s.size = l.length := by rw [← h]; simp
theorem skipT_list (s : ByteArray) (x y : UInt8) (b r : List UInt8) (h : s.data.toList = x :: y :: (b ++ r)) (hy : y.toNat = b.length) : skipT s = ⟨b.toArray⟩ := by
  have hb : (byteAt s 1).toNat = b.length := by rw [byteAt_list s _ h 1]; simpa using hy
  unfold skipT
  rw [hb]
  apply ByteArray.ext
  apply Array.toList_inj.1
  rw [ByteArray.data_extract]
  simp [h]

/-- Bytes that were put make their numbers again. -/
theorem take_put (zs : List Int) (h : allB zs 0 65535 = true) : numsIn ⟨(putL zs).toArray⟩ = zs := by
  unfold numsIn
  have hs : (⟨(putL zs).toArray⟩ : ByteArray).size / 2 = zs.length := by
    have : (⟨(putL zs).toArray⟩ : ByteArray).size = (putL zs).length := rfl
    rw [this, putL_len]; omega
  rw [hs]
  apply List.ext_getElem
  · rw [numsTo_len]
  · intro j h1 h2
    have hz := allB_at zs 0 65535 h j h2
    simp only [numsTo, List.getElem_map, List.getElem_range]
    have e : ∀ (l : List Int) (j : Nat) (hj : j < l.length), (putL l).getD (2 * j) 0 = hiB l[j] ∧ (putL l).getD (2 * j + 1) 0 = loB l[j] := by
      intro l
      induction l with
      | nil => intro j hj; exact absurd hj (Nat.not_lt_zero _)
      | cons z l ih =>
        intro j hj
        cases j with
        | zero => exact ⟨rfl, rfl⟩
        | succ j =>
          have := ih j (by simpa using hj)
          have e1 : putL (z :: l) = hiB z :: loB z :: putL l := by simp [putL]
          rw [e1, show 2 * (j + 1) = 2 * j + 1 + 1 from by omega, show 2 * j + 1 + 1 + 1 = (2 * j + 1) + 1 + 1 from rfl]
          simpa using this
    have ee := e zs j h2
    unfold numZ byteAt
    have hd : (⟨(putL zs).toArray⟩ : ByteArray).data.toList = putL zs := by simp
    rw [hd, ee.1, ee.2, hiB_eq _ hz.1 hz.2, loB_eq]
    omega

/-- At a good part's text. -/
theorem at_part (c : ByteArray) (p : PD) (r : List UInt8) (h : c.data.toList = textP p ++ r) (hg : goodP p = true) (hc : c.size ≤ 200) :
    skipB c = true ∧ byteAt c 0 = p.k ∧ byteAt c 1 = ((bodyL p.t p.zs).length : Int) ∧ goodIn p.k (skipT c) = true ∧ partIn p.k (skipT c) = p := by
  obtain ⟨k1, k4, hb40, hz20, ht20, hall⟩ := good_small p.k p.t p.zs hg
  have h' : c.data.toList = UInt8.ofNat p.k.toNat :: UInt8.ofNat (bodyL p.t p.zs).length :: (bodyL p.t p.zs ++ r) := by rw [h]; rfl
  have b0 : byteAt c 0 = p.k := by
    rw [byteAt_list c _ h' 0]
    simp [UInt8.toNat_ofNat']
    omega
  have b1 : byteAt c 1 = ((bodyL p.t p.zs).length : Int) := by
    rw [byteAt_list c _ h' 1]
    simp [UInt8.toNat_ofNat']
    omega
  have hs : c.size = 2 + (bodyL p.t p.zs).length + r.length := by rw [size_list c _ h']; simp; omega
  have hT : skipT c = ⟨(bodyL p.t p.zs).toArray⟩ := skipT_list c _ _ _ r h' (by simp [UInt8.toNat_ofNat']; omega)
  refine ⟨decide_eq_true ⟨by omega, hc, by omega⟩, b0, b1, ?_, ?_⟩
  all_goals
    rw [hT]
    rcases good_cases p.k p.t p.zs hg with ⟨e1, e2, -, -⟩ | ⟨e1, e2, -, -⟩ | ⟨e1, e2, -, -⟩
  · have : (⟨(bodyL p.t p.zs).toArray⟩ : ByteArray) = p.t := by apply ByteArray.ext; rw [e2]; simp [bodyL, putL]
    rw [this]
    unfold goodIn
    rw [if_pos e1]
    unfold goodP goodB at hg
    rw [if_pos e1, e2] at hg
    simpa using hg
  · have : (⟨(bodyL p.t p.zs).toArray⟩ : ByteArray) = ⟨(putL p.zs).toArray⟩ := by rw [e2]; rfl
    rw [this]
    unfold goodIn
    rw [if_neg (by omega), take_put p.zs hall]
    have hg' : goodB p.k ⟨#[]⟩ p.zs = true := by rw [← e2]; exact hg
    rw [hg', Bool.and_true]
    have hsz : (⟨(putL p.zs).toArray⟩ : ByteArray).size = (putL p.zs).length := rfl
    exact decide_eq_true ⟨by rw [hsz, putL_len]; omega, by rw [hsz, putL_len]; omega⟩
  · have : (⟨(bodyL p.t p.zs).toArray⟩ : ByteArray) = ⟨(putL p.zs).toArray⟩ := by rw [e2]; rfl
    rw [this]
    unfold goodIn
    rw [if_neg (by omega), take_put p.zs hall]
    have hg' : goodB p.k ⟨#[]⟩ p.zs = true := by rw [← e2]; exact hg
    rw [hg', Bool.and_true]
    have hsz : (⟨(putL p.zs).toArray⟩ : ByteArray).size = (putL p.zs).length := rfl
    exact decide_eq_true ⟨by rw [hsz, putL_len]; omega, by rw [hsz, putL_len]; omega⟩
  · have : (⟨(bodyL p.t p.zs).toArray⟩ : ByteArray) = p.t := by apply ByteArray.ext; rw [e2]; simp [bodyL, putL]
    rw [this]
    unfold partIn
    rw [if_pos e1, ← e2]
  · have : (⟨(bodyL p.t p.zs).toArray⟩ : ByteArray) = ⟨(putL p.zs).toArray⟩ := by rw [e2]; rfl
    rw [this]
    unfold partIn
    rw [if_neg (by omega), take_put p.zs hall, ← e2]
  · have : (⟨(bodyL p.t p.zs).toArray⟩ : ByteArray) = ⟨(putL p.zs).toArray⟩ := by rw [e2]; rfl
    rw [this]
    unfold partIn
    rw [if_neg (by omega), take_put p.zs hall, ← e2]

theorem textP_len_eq (p : PD) : (textP p).length = 2 + (bodyL p.t p.zs).length := by unfold textP partL; simp; omega

/-- A part that is read. -/
theorem read_part (s : ByteArray) (a : Nat) (qs : List PD) (left : Nat) (p : PD) (r : List UInt8) (h : s.data.toList.drop a = textP p ++ r) (hg : goodP p = true) (hs : s.size ≤ 200) (hq : qs.length < 10) :
    readR s a qs left = readR s (a + (textP p).length) (qs ++ [p]) left ∧ s.data.toList.drop (a + (textP p).length) = r := by
  have hc : (cur s a).data.toList = textP p ++ r := by rw [cur_list]; exact h
  have hsz : (cur s a).size ≤ 200 := by rw [cur_size]; omega
  obtain ⟨e1, e2, e3, e4, e5⟩ := at_part (cur s a) p r hc hg hsz
  have hk := good_small p.k p.t p.zs hg
  have hl := textP_len_eq p
  have hne : ¬ s.size ≤ a := by
    have h1 := size_list (cur s a) _ hc
    rw [cur_size, List.length_append] at h1
    omega
  refine ⟨?_, ?_⟩
  · rw [readR_put s a qs left hne e1 (by rw [e2]; omega) (by rw [e2]; exact e4) (by omega), e2, e3, e5, hl]
    rfl
  · rw [← List.drop_drop, h, List.drop_left]

/-- Good parts that are read. -/
theorem read_parts (s : ByteArray) (hs : s.size ≤ 200) : ∀ (ps : List PD) (a : Nat) (qs : List PD) (left : Nat) (r : List UInt8), s.data.toList.drop a = frameL ps ++ r → allGood ps = true → qs.length + ps.length ≤ 10 →
    readR s a qs left = readR s (a + (frameL ps).length) (qs ++ ps) left ∧ s.data.toList.drop (a + (frameL ps).length) = r
  | [], a, qs, left, r, h, _, _ => by simpa [frameL] using h
  | p :: ps, a, qs, left, r, h, hg, hl => by
    have hg' : goodP p = true ∧ allGood ps = true := by simpa [allGood] using hg
    have ef : frameL (p :: ps) = textP p ++ frameL ps := by simp [frameL]
    rw [ef, List.append_assoc] at h
    simp only [List.length_cons] at hl
    obtain ⟨h1, h2⟩ := read_part s a qs left p _ h hg'.1 hs (by omega)
    obtain ⟨h3, h4⟩ := read_parts s hs ps _ (qs ++ [p]) left r h2 hg'.2 (by simp; omega)
    rw [ef, List.length_append, ← Nat.add_assoc]
    refine ⟨?_, h4⟩
    rw [h1, h3, List.append_assoc]
    rfl

/-- What is not known is left out. -/
theorem read_junk (s : ByteArray) (a : Nat) (qs : List PD) (left : Nat) (r : List UInt8) (h : s.data.toList.drop a = 99 :: 1 :: 122 :: r) (hs : s.size ≤ 200) :
    readR s a qs left = readR s (a + 3) qs (left + 1) ∧ s.data.toList.drop (a + 3) = r := by
  have hc : (cur s a).data.toList = 99 :: 1 :: ([122] ++ r) := by rw [cur_list]; exact h
  have h1 := size_list (cur s a) _ hc
  rw [cur_size] at h1
  simp at h1
  have b0 : byteAt (cur s a) 0 = 99 := by rw [byteAt_list _ _ hc 0]; rfl
  have b1 : byteAt (cur s a) 1 = 1 := by rw [byteAt_list _ _ hc 1]; rfl
  refine ⟨?_, by rw [← List.drop_drop, h]; rfl⟩
  rw [readR_left s a qs left (by omega) (decide_eq_true ⟨by rw [cur_size]; omega, by rw [cur_size]; omega, by rw [b1, cur_size]; omega⟩) (by rw [b0]; omega), b1]
  rfl

/-- Parts come back from their frame. -/
theorem frame_back (ps : List PD) (h : frameB ps = true) : readR ⟨(frameL ps).toArray⟩ 0 [] 0 = (0, ps, 0) := by
  have h1 : partsB ps = true ∧ (frameL ps).length ≤ 200 := by unfold frameB at h; simpa using h
  have h2 : ps.length ≤ 10 ∧ allGood ps = true := by have := h1.1; unfold partsB at this; simpa using this
  have hd : (⟨(frameL ps).toArray⟩ : ByteArray).data.toList = frameL ps := by simp
  have hz : (⟨(frameL ps).toArray⟩ : ByteArray).size = (frameL ps).length := rfl
  obtain ⟨e1, -⟩ := read_parts ⟨(frameL ps).toArray⟩ (by rw [hz]; exact h1.2) ps 0 [] 0 [] (by rw [hd]; simp) h2.2 (by simpa using h2.1)
  rw [e1, readR_end _ _ _ _ (by rw [hz]; omega)]
  simp

/-- With what is not known left out wherever it stands. -/
theorem frame_junk (ps qs : List PD) (h : frameB (ps ++ qs) = true) (hl : (frameL (ps ++ qs)).length + 3 ≤ 200) : readR ⟨(frameL ps ++ (99 :: 1 :: 122 :: frameL qs)).toArray⟩ 0 [] 0 = (0, ps ++ qs, 1) := by
  have h1 : partsB (ps ++ qs) = true ∧ (frameL (ps ++ qs)).length ≤ 200 := by unfold frameB at h; simpa using h
  have h2 : (ps ++ qs).length ≤ 10 ∧ allGood (ps ++ qs) = true := by have := h1.1; unfold partsB at this; simpa using this
  have h3 : allGood ps = true ∧ allGood qs = true := by have := h2.2; unfold allGood at *; simpa [List.all_append] using this
  have ef : frameL (ps ++ qs) = frameL ps ++ frameL qs := by simp [frameL]
  have hll : ps.length + qs.length ≤ 10 := by have := h2.1; rw [List.length_append] at this; exact this
  rw [ef, List.length_append] at hl
  generalize hS : (⟨(frameL ps ++ (99 :: 1 :: 122 :: frameL qs)).toArray⟩ : ByteArray) = S
  have hd : S.data.toList = frameL ps ++ (99 :: 1 :: 122 :: frameL qs) := by rw [← hS]
  have hz : S.size = (frameL ps).length + (frameL qs).length + 3 := by rw [size_list S _ hd, List.length_append]; simp only [List.length_cons]; omega
  obtain ⟨e1, d1⟩ := read_parts S (by omega) ps 0 [] 0 (99 :: 1 :: 122 :: frameL qs) (by rw [hd]; rfl) h3.1 (by show 0 + ps.length ≤ 10; omega)
  obtain ⟨e2, d2⟩ := read_junk S _ ([] ++ ps) 0 _ d1 (by omega)
  obtain ⟨e3, -⟩ := read_parts S (by omega) qs _ ([] ++ ps) (0 + 1) [] (by rw [d2]; simp) h3.2 (by rw [List.nil_append]; exact hll)
  rw [e1, e2, e3, readR_end _ _ _ _ (by omega)]
  simp

theorem raw_text (c : ByteArray) (h1 : skipB c = true) : (UInt8.ofNat (byteAt c 0).toNat :: UInt8.ofNat (skipT c).size :: (skipT c).data.toList) ++ c.data.toList.drop (2 + (byteAt c 1).toNat) = c.data.toList := by
  obtain ⟨k2, k200, kle⟩ := of_decide_eq_true h1
  have hlen : c.data.toList.length = c.size := by simp
  obtain ⟨x, y, r, hcc⟩ : ∃ x y r, c.data.toList = x :: y :: r := by
    cases e : c.data.toList with
    | nil => rw [e] at hlen; simp at hlen; omega
    | cons x l =>
      cases l with
      | nil => rw [e] at hlen; simp at hlen; omega
      | cons y r => exact ⟨x, y, r, rfl⟩
  have z0 : UInt8.ofNat (byteAt c 0).toNat = x := by rw [byteAt_list _ _ hcc 0]; simp
  have z1 : (byteAt c 1).toNat = y.toNat := by rw [byteAt_list _ _ hcc 1]; simp
  have hb := byteAt_bd c 1
  have hrl : y.toNat ≤ r.length := by rw [hcc] at hlen; simp at hlen; omega
  have z2 : (skipT c).data.toList = r.take y.toNat := by
    have := skipT_list c x y (r.take y.toNat) (r.drop y.toNat) (by rw [hcc, List.take_append_drop]) (by rw [List.length_take]; omega)
    rw [this]
  have z3 : (skipT c).size = y.toNat := by rw [skipT_size _ h1, z1]
  have z4 : (x :: y :: r).drop (2 + y.toNat) = r.drop y.toNat := by rw [Nat.add_comm]; rfl
  rw [z0, z3, z2, z1, hcc, z4]
  simp

set_option maxHeartbeats 1000000 in
/-- Where nothing was left out the frame comes back. -/
theorem read_again (s : ByteArray) : ∀ (n a : Nat) (qs : List PD) (left : Nat) (ps : List PD) (m : Nat), s.size - a ≤ n → a ≤ s.size → qs.length ≤ 10 → readR s a qs left = (0, ps, m) →
    left ≤ m ∧ (m = left → ∃ rs, ps = qs ++ rs ∧ frameL rs = s.data.toList.drop a ∧ allGood rs = true ∧ ps.length ≤ 10) := by
  intro n
  induction n with
  | zero =>
    intro a qs left ps m hn ha hq h
    rw [readR_end s a qs left (by omega)] at h
    simp only [Prod.mk.injEq, true_and] at h
    obtain ⟨rfl, rfl⟩ := h
    refine ⟨Nat.le_refl _, fun _ => ⟨[], by simp, ?_, rfl, hq⟩⟩
    rw [List.drop_of_length_le (by have : s.data.toList.length = s.size := by simp
                                   omega)]
    rfl
  | succ n ih =>
    intro a qs left ps m hn ha hq h
    by_cases h0 : s.size ≤ a
    · rw [readR_end s a qs left h0] at h
      simp only [Prod.mk.injEq, true_and] at h
      obtain ⟨rfl, rfl⟩ := h
      refine ⟨Nat.le_refl _, fun _ => ⟨[], by simp, ?_, rfl, hq⟩⟩
      rw [List.drop_of_length_le (by have : s.data.toList.length = s.size := by simp
                                     omega)]
      rfl
    · cases h1 : skipB (cur s a) with
      | false => rw [readR_1 s a qs left h0 h1] at h; simp at h
      | true =>
        obtain ⟨k2, k200, kle⟩ := of_decide_eq_true h1
        have b0 := byteAt_bd (cur s a) 0
        have b1 := byteAt_bd (cur s a) 1
        have hcs := cur_size s a
        by_cases h2 : 1 ≤ byteAt (cur s a) 0 ∧ byteAt (cur s a) 0 ≤ 4
        · cases h3 : goodIn (byteAt (cur s a) 0) (skipT (cur s a)) with
          | false => rw [readR_2 s a qs left h0 h1 h2 h3] at h; simp at h
          | true =>
            by_cases h4 : qs.length = 10
            · rw [readR_3 s a qs left h0 h1 h2 h3 h4] at h; simp at h
            · rw [readR_put s a qs left h0 h1 h2 h3 h4] at h
              obtain ⟨i1, i2⟩ := ih _ _ _ _ _ (by omega) (by omega) (by simp; omega) h
              refine ⟨i1, fun hm => ?_⟩
              obtain ⟨rs, e1, e2, e3, e4⟩ := i2 hm
              have hgp : goodP (partIn (byteAt (cur s a) 0) (skipT (cur s a))) = true := by
                cases hx : goodP (partIn (byteAt (cur s a) 0) (skipT (cur s a))) with
                | true => rfl
                | false => rw [(goodIn_eq _ _).1 hx] at h3; cases h3
              have htx : textIn (byteAt (cur s a) 0) (skipT (cur s a)) = rawIn (byteAt (cur s a) 0) (skipT (cur s a)) := by
                rcases (goodIn_eq _ _).2 hgp with ⟨-, h⟩ | ⟨h, -⟩
                · exact h
                · rw [h] at h3; cases h3
              have htl : textP (partIn (byteAt (cur s a) 0) (skipT (cur s a))) = UInt8.ofNat (byteAt (cur s a) 0).toNat :: UInt8.ofNat (skipT (cur s a)).size :: (skipT (cur s a)).data.toList := by
                have := congrArg (fun b : ByteArray => b.data.toList) htx
                simpa [textIn, rawIn, textIn.textPd, textP] using this
              refine ⟨partIn (byteAt (cur s a) 0) (skipT (cur s a)) :: rs, by rw [e1]; simp, ?_, ?_, e4⟩
              · have ef : frameL (partIn (byteAt (cur s a) 0) (skipT (cur s a)) :: rs) = textP (partIn (byteAt (cur s a) 0) (skipT (cur s a))) ++ frameL rs := by simp [frameL]
                rw [ef, e2, htl]
                have hrt := raw_text (cur s a) h1
                rw [cur_list s a, List.drop_drop] at hrt
                exact hrt
              · unfold allGood at *
                simp only [List.all_cons, Bool.and_eq_true]
                exact ⟨hgp, e3⟩
        · rw [readR_left s a qs left h0 h1 h2] at h
          obtain ⟨i1, -⟩ := ih _ _ _ _ _ (by omega) (by omega) hq h
          exact ⟨by omega, fun hm => by omega⟩
end Go.Proofs.Ytijlhjfllfjllaa
