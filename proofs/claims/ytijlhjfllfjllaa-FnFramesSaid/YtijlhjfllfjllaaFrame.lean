/-
  What 'FrameText' answers, the program's and the model's: the same.
-/
import Derived.Test.YtijlhjfllfjllaaParts
import Derived.Test.YtijlhjfllfjllaaPartTexts
import Derived.Test.YtijlhjfllfjllaaBuilder
namespace Go.Proofs.Ytijlhjfllfjllaa
open Go.RowKit

/-- A frame's bytes. -/
def textP (p : PD) : List UInt8 := partL p.k p.t p.zs
def frameL (ps : List PD) : List UInt8 := ps.flatMap textP
theorem frameL_snoc (ps : List PD) (p : PD) : frameL (ps ++ [p]) = frameL ps ++ textP p := by simp [frameL]
theorem textP_len (p : PD) (h : goodP p = true) : 2 ≤ (textP p).length ∧ (textP p).length ≤ 42 := by
  have := (good_small p.k p.t p.zs h).2.2.1
  unfold textP partL
  simp only [List.length_cons]
  omega
theorem frameL_len (ps : List PD) (h : allGood ps = true) : 2 * ps.length ≤ (frameL ps).length ∧ (frameL ps).length ≤ 42 * ps.length := by
  induction ps with
  | nil => simp [frameL]
  | cons p ps ih =>
    have h' : goodP p = true ∧ allGood ps = true := by simpa [allGood] using h
    have i := ih h'.2
    have j := textP_len p h'.1
    simp only [frameL, List.flatMap_cons, List.length_append, List.length_cons] at *
    omega
theorem allGood_take (ps : List PD) (k : Nat) (h : allGood ps = true) : allGood (ps.take k) = true :=
  List.all_eq_true.2 fun p hp => List.all_eq_true.1 h p (List.mem_of_mem_take hp)

def frameB (ps : List PD) : Bool := partsB ps && decide ((frameL ps).length ≤ 200)
def frameS (ps : List PD) : ByteArray := if frameB ps = true then ⟨(frameL ps).toArray⟩ else ⟨#[]⟩

theorem size_toArray (l : List UInt8) : (⟨l.toArray⟩ : ByteArray).size = l.length := rfl

set_option maxRecDepth 100000 in
set_option maxHeartbeats 4000000 in
theorem specFrame_any (W : World) (v : Value) (ps : List PD) (h : ReadsP W v ps) (hl : ps.length ≤ 1048576) (hf : ∀ j (hj : j < ps.length), Fit ps[j]) :
    Calls Try.prog 8 #[v] W fun e W' => e = .returned (.tuple #[.string (frameS ps), .bool (frameB ps)]) ∧ Below W.heap.size W W' := by
  have HP : Hid (ReadsP W v ps) := h
  have HF : Hid (∀ j (hj : j < ps.length), Fit ps[j]) := hf
  obtain ⟨a1, cap1, rfl, hc1⟩ := h
  cases hB : partsB ps with
  | false =>
    have HB : Hid (partsB ps = false) := hB
    have HE : Hid (frameB ps = false) := by show _ = _; unfold frameB; rw [hB, Bool.false_and]
    have HS : Hid (frameS ps = ⟨#[]⟩) := if_neg (by rw [HE.out]; exact Bool.false_ne_true)
    clear hB hc1 hf
    go_enter Try.func8, Try.ntmps8
    go_wp2_with fail
    refine (l2Good_any _ _ ps HP.out hl HF.out).mono ?_
    rintro e w1 ⟨rfl, hb⟩
    rw [HB.out]
    go_wp2
    go_ret2
    exact ⟨by rw [HS.out, HE.out]; rfl, hb⟩
  | true =>
    have HB : Hid (partsB ps = true) := hB
    have h10 : ps.length ≤ 10 := by unfold partsB at hB; simp at hB; exact hB.1
    have hall : allGood ps = true := by unfold partsB at hB; simp at hB; exact hB.2
    have HAG : Hid (allGood ps = true) := hall
    have hfl := frameL_len ps hall
    have HEQ : Hid (frameB ps = decide ((frameL ps).length ≤ 200)) := by show _ = _; unfold frameB; rw [hB, Bool.true_and]
    clear hB hf hall
    rcases hc1 with rfl | ⟨g1, o1, rfl, hg1, hc1⟩
    · simp only [List.length_nil]
      go_enter Try.func8, Try.ntmps8
      go_wp2_with fail
      refine (l2Good_any _ _ [] HP.out hl HF.out).mono ?_
      rintro e w1 ⟨rfl, hb⟩
      rw [HB.out]
      have HBl : Hid (Below W.heap.size W w1) := hb
      clear hb
      go_wp2
      refine wp_loop_rounds 1 ?_
      rw [rounds_succ]
      go_wp2
      go_ret2
      exact ⟨rfl, HBl.out⟩
    · have HC1 : Hid (∀ W1, Since W.heap.size W W1 → ∀ j (hj : j < ps.length), PartAt W1 g1 (o1 + j * 3) ps[j]) := fun W1 hS j hj => (hc1 j hj).below hg1 hS.1
      clear hc1
      go_enter Try.func8, Try.ntmps8
      go_wp2_with fail
      refine (l2Good_any _ _ ps HP.out hl HF.out).mono ?_
      rintro e w1 ⟨rfl, hb⟩
      rw [HB.out]
      have HS1 : Hid (Since W.heap.size W w1) := (Since.start W).step hb
      clear hb
      go_wp2
      go_loopw [4, 12] (fun s i wr => ∃ k : Nat, k ≤ ps.length ∧ i = .int .i64 k ∧ s = .string ⟨(frameL (ps.take k)).toArray⟩ ∧ Since W.heap.size W wr) (fun _ i _ => ps.length - (intOf i).toNat)
      case atStart => exact ⟨0, Nat.zero_le _, rfl, rfl, HS1.out⟩
      case round =>
        obtain ⟨k, hk, rfl, rfl, hS⟩ := hrel
        have HS : Hid (Since W.heap.size W wr) := hS
        clear hS
        by_cases hlt : k < ps.length
        · obtain ⟨x, q0, q1, q2, hr⟩ := HC1.out wr HS.out k hlt
          obtain ⟨a2, c2, rfl⟩ := hr.shape
          have HR : Hid (Reads wr (.slice a2 ps[k].zs.length c2) ps[k].zs) := hr
          have hlt' : (k : Int) < (ps.length : Int) := by omega
          have HG : Hid (goodB ps[k].k ps[k].t ps[k].zs = true) := allGood_at ps HAG.out k hlt
          have hal := (frameL_len _ (allGood_take ps k HAG.out)).2
          have htl := (textP_len ps[k] HG.out).2
          have HN : Hid (frameL (ps.take (k + 1)) = frameL (ps.take k) ++ textP ps[k]) := by show _ = _; rw [List.take_succ_eq_append_getElem hlt, frameL_snoc]
          have hkl : (ps.take k).length ≤ 10 := by simp; omega
          clear hr
          generalize ps[k] = p at *
          obtain ⟨A, hA⟩ : ∃ A : ByteArray, A = ⟨(frameL (ps.take k)).toArray⟩ := ⟨_, rfl⟩
          obtain ⟨T, hT⟩ : ∃ T : ByteArray, T = ⟨(partL p.k p.t p.zs).toArray⟩ := ⟨_, rfl⟩
          obtain ⟨Z, hZ⟩ : ∃ Z : ByteArray, Z = ⟨(frameL (ps.take (k + 1))).toArray⟩ := ⟨_, rfl⟩
          have HT : Hid (T = ⟨(partL p.k p.t p.zs).toArray⟩) := hT
          have HZ : Hid (Z = ⟨(frameL (ps.take (k + 1))).toArray⟩) := hZ
          have hadd : ∀ w, (Op.stringOp .add A T).run Try.prog w = .ok (.string Z) w := fun w => by
            have s1 : A.size = (frameL (ps.take k)).length := by rw [hA]; rfl
            have s2 : T.size = (textP p).length := by rw [hT]; rfl
            rw [run_string_add_sum w A T (by omega), hA, hT, hZ, HN.out]
            refine congrArg (fun x => Result.ok (Value.string x) w) (ByteArray.ext ?_)
            simp [textP]
          rw [← hA]
          clear hA hT hZ hal htl hkl
          go_wp2_with fail
          refine (l2Text_any _ p.k p.t _ p.zs (HR.out.below ((Below.refl _ wr).alloc (Nat.le_refl _) _)) HG.out).mono ?_
          rintro e w2 ⟨rfl, hb⟩
          rw [← HT.out]
          have HS2 : Hid (Since W.heap.size W w2) := (HS.out.step ((Below.refl _ wr).alloc (Nat.le_refl _) _)).step hb
          clear hb
          go_wp2
          go_roundw
          case rel => exact ⟨k + 1, by omega, by go_num, by rw [HZ.out], HS2.out⟩
          case measure => simp [intOf]; omega
        · have e : ps.take k = ps := List.take_of_length_le (by omega)
          rw [e]
          have hlt' : ¬ (k : Int) < (ps.length : Int) := by omega
          obtain ⟨A, hA⟩ : ∃ A : ByteArray, A = ⟨(frameL ps).toArray⟩ := ⟨_, rfl⟩
          have s1 : A.size = (frameL ps).length := by rw [hA]; rfl
          by_cases h200 : (frameL ps).length ≤ 200
          · have HE : Hid (frameB ps = true) := by show _ = _; rw [HEQ.out, decide_eq_true h200]
            have HSs : Hid (frameS ps = A) := by show _ = _; rw [hA]; exact if_pos HE.out
            have g200 : ¬ (200 : Int) < (A.size : Int) := by rw [s1]; omega
            rw [← hA]
            clear e hA s1
            go_wp2
            go_ret2
            exact ⟨by rw [HSs.out, HE.out]; rfl, HS.out.1⟩
          · have HE : Hid (frameB ps = false) := by show _ = _; rw [HEQ.out, decide_eq_false h200]
            have HSs : Hid (frameS ps = ⟨#[]⟩) := if_neg (by rw [HE.out]; exact Bool.false_ne_true)
            have g200 : (200 : Int) < (A.size : Int) := by rw [s1]; omega
            have g201 : A.size ≤ 420 := by rw [s1]; omega
            rw [← hA]
            clear e hA s1
            go_wp2
            go_ret2
            exact ⟨by rw [HSs.out, HE.out]; rfl, HS.out.1⟩

theorem bld_below {W W' : World} {B b : Nat} {bs : List Value} (h : Lib.IsBuilder 72 5 B b bs W) (hb : Below W.heap.size W W') : Lib.IsBuilder 72 5 B b bs W' := by
  have key : ∀ p, Lib.BuilderAt 72 5 B b p bs W → Lib.BuilderAt 72 5 B b p bs W' := by
    rintro p ⟨hB, v, hbk, hown, hne⟩
    refine ⟨hB, v, (hb.block b (Array.getElem?_eq_some_iff.1 hbk).1).trans hbk, ⟨hown.1, ?_⟩, hne⟩
    rcases hown.2 with hn | ⟨g, cap, cur, hv, h1, hg, hrest⟩
    · exact .inl hn
    · exact .inr ⟨g, cap, cur, hv, h1, (hb.block g (Array.getElem?_eq_some_iff.1 hg).1).trans hg, hrest⟩
  exact h.imp (key _) (key _)

set_option maxRecDepth 100000 in
set_option maxHeartbeats 4000000 in
theorem implFrame_any (W : World) (v : Value) (ps : List PD) (h : ReadsP W v ps) (hl : ps.length ≤ 1048576) (hf : ∀ j (hj : j < ps.length), Fit ps[j]) :
    Calls Try.prog 7 #[v] W fun e W' => e = .returned (.tuple #[.string (frameS ps), .bool (frameB ps)]) ∧ Below W.heap.size W W' := by
  have HP : Hid (ReadsP W v ps) := h
  have HF : Hid (∀ j (hj : j < ps.length), Fit ps[j]) := hf
  obtain ⟨a1, cap1, rfl, hc1⟩ := h
  cases hB : partsB ps with
  | false =>
    have HB : Hid (partsB ps = false) := hB
    have HE : Hid (frameB ps = false) := by show _ = _; unfold frameB; rw [hB, Bool.false_and]
    have HS : Hid (frameS ps = ⟨#[]⟩) := if_neg (by rw [HE.out]; exact Bool.false_ne_true)
    clear hB hc1 hf
    go_enter Try.func7, Try.ntmps7
    go_wp2_with fail
    refine (areParts_any _ _ ps HP.out hl HF.out).mono ?_
    rintro e w1 ⟨rfl, hb⟩
    rw [HB.out]
    go_wp2
    go_ret2
    exact ⟨by rw [HS.out, HE.out]; rfl, hb⟩
  | true =>
    have HB : Hid (partsB ps = true) := hB
    have h10 : ps.length ≤ 10 := by unfold partsB at hB; simp at hB; exact hB.1
    have hall : allGood ps = true := by unfold partsB at hB; simp at hB; exact hB.2
    have HAG : Hid (allGood ps = true) := hall
    have hfl := frameL_len ps hall
    have HEQ : Hid (frameB ps = decide ((frameL ps).length ≤ 200)) := by show _ = _; unfold frameB; rw [hB, Bool.true_and]
    clear hB hf hall
    go_enter Try.func7, Try.ntmps7
    go_wp2_with fail
    refine (areParts_any _ _ ps HP.out hl HF.out).mono ?_
    rintro e w1 ⟨rfl, hb⟩
    rw [HB.out]
    have HS1 : Hid (Since W.heap.size W (w1.alloc (.cells #[.pointer none, .slice none 0 0] 72))) := ((Since.start W).step hb).step ((Below.refl _ w1).alloc (Nat.le_refl _) _)
    have HBW : Hid (W.heap.size ≤ w1.heap.size) := hb.size
    have HNEW : Hid ((w1.alloc (.cells #[.pointer none, .slice none 0 0] 72)).heap[w1.heap.size]? = some (.cells #[.pointer none, .slice none 0 0] 72 (0, 0))) := heap_alloc_new w1 _
    have HBD : Hid (Lib.IsBuilder 72 5 w1.heap.size w1.heap.size (Lib.byteCells []) (w1.alloc (.cells #[.pointer none, .slice none 0 0] 72))) :=
      .inl ⟨Nat.le_refl _, _, HNEW.out, World.ownsRow_nil _ _ _ _, by simp [Value.ownBlock]⟩
    clear hb
    rcases hc1 with rfl | ⟨g1, o1, rfl, hg1, hc1⟩
    · have hlen := bldLen_any w1.heap.size w1.heap.size [] _ HBD.out
      have hstr := bldString_none w1.heap.size w1.heap.size (.pointer none) _ HNEW.out
      have HLen : Hid (Calls Try.prog 42 #[.pointer (some ⟨w1.heap.size, 0, none⟩)] (w1.alloc (.cells #[.pointer none, .slice none 0 0] 72)) fun e w' => e = .returned (.int .i64 (([] : List UInt8).length : Int)) ∧ w' = (w1.alloc (.cells #[.pointer none, .slice none 0 0] 72))) := hlen
      have HStr : Hid (Calls Try.prog 43 #[.pointer (some ⟨w1.heap.size, 0, none⟩)] (w1.alloc (.cells #[.pointer none, .slice none 0 0] 72)) fun e w' => e = .returned (.string ⟨#[]⟩) ∧ Below w1.heap.size (w1.alloc (.cells #[.pointer none, .slice none 0 0] 72)) w') := hstr
      clear hlen hstr
      simp only [List.length_nil]
      go_wp2
      refine wp_loop_rounds 1 ?_
      rw [rounds_succ]
      go_wp2_with fail
      refine HLen.out.mono ?_
      rintro e w2 ⟨rfl, rfl⟩
      simp only [List.length_nil]
      go_wp2_with fail
      refine HStr.out.mono ?_
      rintro e w2 ⟨rfl, hb⟩
      have HB2 : Hid (Below W.heap.size W w2) := HS1.out.1.trans (hb.mono HBW.out)
      clear hb
      go_wp2
      go_ret2
      exact ⟨rfl, HB2.out⟩
    · have HC1 : Hid (∀ W1, Since W.heap.size W W1 → ∀ j (hj : j < ps.length), PartAt W1 g1 (o1 + j * 3) ps[j]) := fun W1 hS j hj => (hc1 j hj).below hg1 hS.1
      clear hc1
      go_wp2
      go_loopw [14] (fun i wr => ∃ k : Nat, k ≤ ps.length ∧ i = .int .i64 k ∧ Hid (Lib.IsBuilder 72 5 w1.heap.size w1.heap.size (Lib.byteCells (frameL (ps.take k))) wr) ∧ Hid (k = 0 → wr.heap[w1.heap.size]? = some (.cells #[.pointer none, .slice none 0 0] 72 (0, 0))) ∧ Hid (Since W.heap.size W wr ∧ w1.heap.size ≤ wr.heap.size)) (fun i _ => ps.length - (intOf i).toNat)
      case atStart => exact ⟨0, Nat.zero_le _, rfl, HBD.out, fun _ => HNEW.out, HS1.out, by simp⟩
      case round =>
        obtain ⟨k, hk, rfl, HK, HN0, HSS⟩ := hrel
        by_cases hlt : k < ps.length
        · obtain ⟨x, q0, q1, q2, hr⟩ := HC1.out wr HSS.out.1 k hlt
          obtain ⟨a2, c2, rfl⟩ := hr.shape
          have HR : Hid (Reads wr (.slice a2 ps[k].zs.length c2) ps[k].zs) := hr
          have hlt' : (k : Int) < (ps.length : Int) := by omega
          have HG : Hid (goodB ps[k].k ps[k].t ps[k].zs = true) := allGood_at ps HAG.out k hlt
          have HTL : Hid (((⟨(partL ps[k].k ps[k].t ps[k].zs).toArray⟩ : ByteArray).size ≤ 1000000) ∧ (frameL (ps.take k)).length ≤ 1000000) := by
            have h1 := (frameL_len _ (allGood_take ps k HAG.out)).2
            have h2 := (textP_len ps[k] HG.out).2
            have h3 : (ps.take k).length ≤ 10 := by simp; omega
            have h4 : (⟨(partL ps[k].k ps[k].t ps[k].zs).toArray⟩ : ByteArray).size = (textP ps[k]).length := rfl
            exact ⟨by omega, by omega⟩
          have HN : Hid (frameL (ps.take (k + 1)) = frameL (ps.take k) ++ textP ps[k]) := by show _ = _; rw [List.take_succ_eq_append_getElem hlt, frameL_snoc]
          obtain ⟨ft, fz⟩ := HF.out k hlt
          clear hr
          generalize ps[k] = p at *
          have HPS : Hid (partS p.k p.t p.zs = ⟨(partL p.k p.t p.zs).toArray⟩) := if_pos HG.out
          go_wp2_with fail
          refine (implPartText_any _ p.k p.t _ p.zs (HR.out.below ((Below.refl _ wr).alloc (Nat.le_refl _) _)) fz ft).mono ?_
          rintro e w2 ⟨rfl, hb⟩
          rw [HPS.out]
          have HA2 : Hid (Below wr.heap.size wr w2) := ((Below.refl _ wr).alloc (Nat.le_refl _) _).trans (hb.mono (by simp))
          have HK2 : Hid (Lib.IsBuilder 72 5 w1.heap.size w1.heap.size (Lib.byteCells (frameL (ps.take k))) w2) := bld_below HK.out HA2.out
          have HS2 : Hid (Since W.heap.size W w2 ∧ w1.heap.size ≤ w2.heap.size) := ⟨HSS.out.1.step HA2.out, Nat.le_trans HSS.out.2 HA2.out.size⟩
          clear hb
          go_wp2_with fail
          refine (write_any w1.heap.size w1.heap.size (frameL (ps.take k)) _ w2 HK2.out HTL.out.2 HTL.out.1 HS2.out.2).mono ?_
          rintro e w3 ⟨⟨y, rfl⟩, hk3, hb3⟩
          have HK3 : Hid (Lib.IsBuilder 72 5 w1.heap.size w1.heap.size (Lib.byteCells (frameL (ps.take (k + 1)))) w3) := by show Lib.IsBuilder _ _ _ _ _ _; rw [HN.out]; exact hk3
          have HS3 : Hid (Since W.heap.size W w3 ∧ w1.heap.size ≤ w3.heap.size) := ⟨⟨HS2.out.1.1.trans (hb3.mono HBW.out), Nat.le_trans HS2.out.1.2 hb3.size⟩, Nat.le_trans HS2.out.2 hb3.size⟩
          clear hk3 hb3
          go_wp2
          go_roundw
          case rel => exact ⟨k + 1, by omega, by go_num, HK3, fun h => absurd h (by omega), HS3⟩
          case measure => simp [intOf]; omega
        · have e : ps.take k = ps := List.take_of_length_le (by omega)
          rw [e] at HK
          have hlt' : ¬ (k : Int) < (ps.length : Int) := by omega
          have hk' : k = ps.length := by omega
          by_cases h200 : (frameL ps).length ≤ 200
          · have HE : Hid (frameB ps = true) := by show _ = _; rw [HEQ.out, decide_eq_true h200]
            have HSs : Hid (frameS ps = ⟨(frameL ps).toArray⟩) := if_pos HE.out
            have g200 : ¬ (200 : Int) < ((frameL ps).length : Int) := by omega
            have HSTR : Hid (Calls Try.prog 43 #[.pointer (some ⟨w1.heap.size, 0, none⟩)] wr fun e w' => e = .returned (.string ⟨(frameL ps).toArray⟩) ∧ Below w1.heap.size wr w') := by
              by_cases hz : k = 0
              · have hps : ps = [] := List.eq_nil_of_length_eq_zero (by omega)
                rw [hps]
                exact bldString_none _ _ _ wr (HN0.out hz)
              · refine bldString_some _ _ _ wr HK.out fun e => ?_
                have : (frameL ps).length = 0 := by rw [e]; rfl
                omega
            clear e hk'
            go_wp2_with fail
            refine (bldLen_any _ _ (frameL ps) wr HK.out).mono ?_
            rintro e w4 ⟨rfl, rfl⟩
            go_wp2_with fail
            refine HSTR.out.mono ?_
            rintro e w5 ⟨rfl, hb5⟩
            have HB5 : Hid (Below W.heap.size W w5) := HSS.out.1.1.trans (hb5.mono HBW.out)
            clear hb5
            go_wp2
            go_ret2
            exact ⟨by rw [HSs.out, HE.out]; rfl, HB5.out⟩
          · have HE : Hid (frameB ps = false) := by show _ = _; rw [HEQ.out, decide_eq_false h200]
            have HSs : Hid (frameS ps = ⟨#[]⟩) := if_neg (by rw [HE.out]; exact Bool.false_ne_true)
            have g200 : (200 : Int) < ((frameL ps).length : Int) := by omega
            clear e hk'
            go_wp2_with fail
            refine (bldLen_any _ _ (frameL ps) wr HK.out).mono ?_
            rintro e w4 ⟨rfl, rfl⟩
            go_wp2
            go_ret2
            exact ⟨by rw [HSs.out, HE.out]; rfl, HSS.out.1.1⟩
end Go.Proofs.Ytijlhjfllfjllaa
