/-
  What the model's 'ReadFrame' answers.
-/
import Derived.Test.YtijlhjfllfjllaaReadMath
import Derived.Deep.RegionWith
import Derived.BigRegion
namespace Go.Proofs.Ytijlhjfllfjllaa
open Go.RowKit

/-- Numbers that were taken from bytes make them again. -/
theorem put_take (t : ByteArray) : ∀ k, 2 * k ≤ t.size → putL (numsTo t k) = t.data.toList.take (2 * k)
  | 0, _ => rfl
  | k + 1, h => by
    have ih := put_take t k (by omega)
    have e : numsTo t (k + 1) = numsTo t k ++ [numZ t (2 * k)] := by simp [numsTo, List.range_succ]
    have hl : t.data.toList.length = t.size := by simp
    have h0 : 2 * k < t.data.toList.length := by omega
    have h1 : 2 * k + 1 < t.data.toList.length := by omega
    have g0 : t.data.toList.getD (2 * k) 0 = t.data.toList[2 * k] := by rw [List.getD_eq_getElem?_getD, List.getElem?_eq_getElem h0]; rfl
    have g1 : t.data.toList.getD (2 * k + 1) 0 = t.data.toList[2 * k + 1] := by rw [List.getD_eq_getElem?_getD, List.getElem?_eq_getElem h1]; rfl
    have b0 : hiB (numZ t (2 * k)) = t.data.toList[2 * k] := by
      unfold hiB numZ byteAt
      rw [g0, g1]
      have l0 := (t.data.toList[2 * k]).toNat_lt
      have l1 := (t.data.toList[2 * k + 1]).toNat_lt
      have e : ((((t.data.toList[2 * k]).toNat : Int) * 256 + ((t.data.toList[2 * k + 1]).toNat : Int)) / 256).toNat = (t.data.toList[2 * k]).toNat := by omega
      rw [e]
      simp
    have b1 : loB (numZ t (2 * k)) = t.data.toList[2 * k + 1] := by
      unfold loB numZ byteAt
      rw [g0, g1]
      have l0 := (t.data.toList[2 * k]).toNat_lt
      have l1 := (t.data.toList[2 * k + 1]).toNat_lt
      have e : ((((t.data.toList[2 * k]).toNat : Int) * 256 + ((t.data.toList[2 * k + 1]).toNat : Int)) % 256).toNat = (t.data.toList[2 * k + 1]).toNat := by omega
      rw [e]
      simp
    rw [e, putL_snoc, ih, b0, b1, show 2 * (k + 1) = 2 * k + 1 + 1 from by omega, List.take_succ_eq_append_getElem h1, List.take_succ_eq_append_getElem h0]
    simp

/-- The part that is taken, as text; and the text that it was taken from. -/
def textIn (k : Int) (t : ByteArray) : ByteArray := ⟨(textPd (partIn k t)).toArray⟩
where textPd (p : PD) : List UInt8 := partL p.k p.t p.zs
def rawIn (k : Int) (t : ByteArray) : ByteArray := ⟨(UInt8.ofNat k.toNat :: UInt8.ofNat t.size :: t.data.toList).toArray⟩

theorem goodIn_eq (k : Int) (t : ByteArray) :
    (goodP (partIn k t) = false → goodIn k t = false) ∧ (goodP (partIn k t) = true → (goodIn k t = true ∧ textIn k t = rawIn k t) ∨ (goodIn k t = false ∧ ((textIn k t).toList == (rawIn k t).toList) = false)) := by
  by_cases k1 : k = 1
  · have e : partIn k t = ⟨k, t, []⟩ := if_pos k1
    have e2 : goodIn k t = nameB t := if_pos k1
    have e3 : goodP ⟨k, t, []⟩ = nameB t := by unfold goodP goodB; simp [k1]
    refine ⟨fun h => ?_, fun h => .inl ⟨?_, ?_⟩⟩
    · rw [e, e3] at h; rw [e2, h]
    · rw [e, e3] at h; rw [e2, h]
    · unfold textIn rawIn textIn.textPd
      rw [e]
      simp [partL, bodyL, putL]
  · have e : partIn k t = ⟨k, ⟨#[]⟩, numsIn t⟩ := if_neg k1
    have e2 : goodIn k t = (takeB t && goodB k ⟨#[]⟩ (numsIn t)) := if_neg k1
    have e3 : goodP ⟨k, ⟨#[]⟩, numsIn t⟩ = goodB k ⟨#[]⟩ (numsIn t) := rfl
    have hlen : (numsIn t).length = t.size / 2 := numsTo_len t _
    refine ⟨fun h => ?_, fun h => ?_⟩
    · rw [e, e3] at h; rw [e2, h, Bool.and_false]
    · rw [e, e3] at h
      have hs := good_small k ⟨#[]⟩ (numsIn t) h
      by_cases hev : t.size % 2 = 0
      · refine .inl ⟨?_, ?_⟩
        · rw [e2, h, Bool.and_true]
          exact decide_eq_true ⟨by have := hs.2.2.2.1; omega, hev⟩
        · unfold textIn rawIn textIn.textPd
          rw [e]
          have hp : putL (numsIn t) = t.data.toList := by
            unfold numsIn
            rw [put_take t (t.size / 2) (by omega), List.take_of_length_le]
            have : t.data.toList.length = t.size := by simp
            omega
          have hb : bodyL ⟨#[]⟩ (numsIn t) = t.data.toList := by unfold bodyL; rw [hp]; rfl
          have hl : t.data.toList.length = t.size := by simp
          simp only [partL, hb, hl]
      · refine .inr ⟨?_, ?_⟩
        · rw [e2, show takeB t = false from decide_eq_false (by omega), Bool.false_and]
        · unfold textIn rawIn textIn.textPd
          rw [e]
          simp only [ByteArray.toList_mk, beq_eq_false_iff_ne, ne_eq]
          intro heq
          have := congrArg List.length heq
          simp only [partL, List.length_cons, bodyL_len, hlen] at this
          have hl : t.data.toList.length = t.size := by simp
          have hz : (ByteArray.mk #[]).size = 0 := rfl
          omega

set_option maxRecDepth 100000 in
set_option maxHeartbeats 1000000 in
/-- 'l2Part'. -/
theorem l2Part_any (W : World) (k : Int) (t : ByteArray) (ht : t.size ≤ 255) :
    Calls Try.prog 51 #[.int .i64 k, .string t] W fun e W' => ∃ x, e = .returned (partV (partIn k t).k (partIn k t).t x) ∧ Own W' W.heap.size x (partIn k t).zs ∧ Below W.heap.size W W' := by
  by_cases k1 : k = 1
  · rw [show partIn k t = ⟨k, t, []⟩ from if_pos k1]
    subst k1
    unfold partV
    go_enter Try.func51, Try.ntmps51
    go_wp2
    exact bodyPost_ret (v := .agg #[.int .i64 1, .string t, .slice none 0 0]) (by simp [results, Try.results51, go_sem]) rfl ⟨_, rfl, Own.nil _ _, (Below.refl _ W).alloc (Nat.le_refl _) _⟩
  · rw [show partIn k t = ⟨k, ⟨#[]⟩, numsIn t⟩ from if_neg k1]
    have d1 : (k == 1) = false := by simp [k1]
    unfold partV
    go_enter Try.func51, Try.ntmps51
    go_wp2_with fail
    refine (l2Take_any t _ (by omega)).mono ?_
    rintro e w1 ⟨v', rfl, ho', hb⟩
    obtain ⟨z0', z1', z2'⟩ := (Box3.new W (.int .i64 0) (.string ⟨#[]⟩) (.slice none 0 0) 74).2
    have ho1 : Own w1 (W.heap.size + 1) v' (numsIn t) := by
      have : Own w1 (W.alloc (.cells #[.int .i64 0, .string ⟨#[]⟩, .slice none 0 0] 74)).heap.size v' (numsIn t) := ho'
      simpa using this
    obtain ⟨a', c', rfl⟩ := ho1.shape
    obtain ⟨hc, hf⟩ := bcell hb
    have y0 : w1.cell? ⟨W.heap.size, 0, none⟩ = some (.int .i64 0) := (hc _ _ (by simp)).trans z0'
    have y1 : w1.cell? ⟨W.heap.size, 1, none⟩ = some (.string ⟨#[]⟩) := (hc _ _ (by simp)).trans z1'
    have y2 : w1.cell? ⟨W.heap.size, 2, none⟩ = some (.slice none 0 0) := (hc _ _ (by simp)).trans z2'
    obtain ⟨z0, z1, z2⟩ := put3 (.int .i64 k) (.string ⟨#[]⟩) (.slice a' (numsIn t).length c') y0 y1 y2
    have HO1 : Hid (Own w1 (W.heap.size + 1) (.slice a' (numsIn t).length c') (numsIn t)) := ho1
    have HB : Hid (Below W.heap.size W w1) := ((Below.refl _ W).alloc (Nat.le_refl _) _).trans (hb.mono (by simp))
    clear hb ho' ho1
    go_wp2
    refine bodyPost_ret (v := .agg #[.int .i64 k, .string ⟨#[]⟩, .slice a' (numsIn t).length c']) (by simp [results, Try.results51, go_sem, z0, z1, z2]) rfl ⟨_, rfl, ?_, ?_⟩
    · exact (((HO1.out.setCell (by simp) _).setCell (by simp) _).setCell (by simp) _).mono (by omega)
    · exact ((HB.out.setCell (by simp) _).setCell (by simp) _).setCell (by simp) _

theorem box3_at {W : World} {b : Nat} (h : W.heap.size = b) (x y z : Value) (t : TypeId) : Box3 (W.alloc (.cells #[x, y, z] t)) b x y z := by
  subst h
  exact Box3.new W x y z t

set_option maxRecDepth 100000 in
set_option maxHeartbeats 16000000 in
theorem specRead_any (S : ByteArray) (W : World) (hS : S.size ≤ 200) :
    Calls Try.prog 13 #[.string S] W fun e W' => Came W' W.heap.size (readR S 0 [] 0) e ∧ Below W.heap.size W W' := by
  obtain ⟨H, hH⟩ : ∃ H, H = W.heap.size := ⟨_, rfl⟩
  have HS0 : Hid (Since H W W) := by rw [hH]; exact Since.start W
  rw [← hH]
  clear hH
  obtain ⟨R, hR⟩ : ∃ R, R = readR S 0 [] 0 := ⟨_, rfl⟩
  have HR : Hid (readR S 0 [] 0 = R) := hR.symm
  rw [← hR]
  clear hR
  have d200 : ¬ (200 : Int) < (S.size : Int) := by omega
  go_enter Try.func13, Try.ntmps13
  go_wp2
  go_loopw [6, 7, 8] (fun v l i wr => ∃ (a : Nat) (ps : List PD) (left : Nat), a ≤ S.size ∧ i = .int .i64 (a : Int) ∧ l = .int .i64 (left : Int) ∧ left ≤ a ∧ ps.length ≤ 10 ∧ Hid (OwnP wr H v ps) ∧ Hid (readR S a ps left = R) ∧ Hid (Since H W wr)) (fun _ _ i _ => S.size - (intOf i).toNat)
  case atStart => exact ⟨0, [], 0, Nat.zero_le _, rfl, rfl, Nat.le_refl _, by simp, OwnP.nil _ _, HR.out, HS0.out⟩
  case round =>
    obtain ⟨a, ps, left, ha, rfl, rfl, hla, hpl, HO, HE, HS⟩ := hrel
    by_cases hend : S.size ≤ a
    · have HF : Hid (R = (0, ps, left)) := HE.out.symm.trans (readR_end S a ps left hend)
      have d0 : ¬ (a : Int) < (S.size : Int) := by omega
      obtain ⟨av, cv, hv⟩ := HO.out.shape
      subst hv
      go_wp2
      refine bodyPost_ret (results_tmp4 rfl _ _ _) rfl ?_
      refine ⟨?_, HS.out.1⟩
      rw [HF.out]
      exact ⟨_, rfl, HO.out⟩
    · have d0 : (a : Int) < (S.size : Int) := by omega
      have hcs := cur_size S a
      cases hB : skipB (cur S a) with
      | false =>
        have HF : Hid (R = (1, [], 0)) := HE.out.symm.trans (readR_1 S a ps left hend hB)
        have HM : Hid ((cur S a).size ≤ maxLen) := by show _ ≤ _; unfold maxLen; omega
        have HB : Hid (skipB (cur S a) = false) := hB
        have HCX : Hid (S.extract a S.size = cur S a) := rfl
        clear hB hcs
        generalize cur S a = c at *
        go_wp2_with fail
        rw [HCX.out]
        refine (specSkip_no c _ HM.out HB.out).mono ?_
        rintro e w1 ⟨rfl, rfl⟩
        go_wp2
        refine bodyPost_ret (results_tmp4 rfl _ _ _) rfl ?_
        refine ⟨?_, HS.out.1⟩
        rw [HF.out]
        exact ⟨_, rfl, OwnP.nil _ _⟩
      | true =>
        have HB : Hid (skipB (cur S a) = true) := hB
        obtain ⟨h2, h200, hle⟩ := of_decide_eq_true hB
        have b0 := byteAt_bd (cur S a) 0
        have b1 := byteAt_bd (cur S a) 1
        obtain ⟨n, hn⟩ : ∃ n : Nat, byteAt (cur S a) 1 = n := ⟨(byteAt (cur S a) 1).toNat, by omega⟩
        obtain ⟨k, hk⟩ : ∃ k : Int, byteAt (cur S a) 0 = k := ⟨_, rfl⟩
        obtain ⟨t, ht⟩ : ∃ t : ByteArray, skipT (cur S a) = t := ⟨_, rfl⟩
        have hts : t.size = n := by rw [← ht, skipT_size _ hB, hn]; rfl
        have HTS : Hid (t.size = n) := hts
        have HN : Hid ((byteAt (cur S a) 1).toNat = n) := by show _ = _; rw [hn]; rfl
        have HN' : Hid (byteAt (cur S a) 1 = (n : Int)) := hn
        have HK : Hid (byteAt (cur S a) 0 = k) := hk
        have HT : Hid (skipT (cur S a) = t) := ht
        rw [hn] at b1 hle
        rw [hk] at b0
        have ht255 : t.size ≤ 255 := by omega
        have hnx : a + (2 + n) ≤ S.size := by omega
        have HANEXT : Hid (left + 1 ≤ a + (2 + n) ∧ left ≤ a + (2 + n)) := ⟨by omega, by omega⟩
        have HB' : Hid (skipB (cur S a) = true) := hB
        have HCX : Hid (S.extract a S.size = cur S a) := rfl
        clear hn hk ht hB hts hcs
        obtain ⟨c, hc⟩ : ∃ c, c = cur S a := ⟨_, rfl⟩
        rw [← hc] at HB h2 h200 hle HN HN' HK HT HCX
        have HC : Hid (c = cur S a) := hc
        clear hc h2 h200 hle
        go_wp2_with fail
        rw [HCX.out]
        refine (specSkip_yes c _ HB.out).mono ?_
        rintro e w1 ⟨rfl, hb1⟩
        rw [HN'.out, HK.out, HT.out]
        have HS1 : Hid (Since H W w1) := HS.out.step hb1
        have HO1 : Hid (OwnP w1 H u6 ps) := HO.out.below hb1
        clear hb1
        go_wp2_with fail
        refine (l1In_any k 1 4 _).mono ?_
        rintro e w2 ⟨rfl, rfl⟩
        by_cases h4 : 1 ≤ k ∧ k ≤ 4
        · rw [decide_eq_true h4]
          go_wp2_with fail
          refine (l2Part_any w2 k t ht255).mono ?_
          rintro e w3 ⟨y, rfl, ho3, hb3⟩
          obtain ⟨ay, cy, hy⟩ := ho3.shape
          subst hy
          have HB24 : Hid (Below w2.heap.size w2 (w3.alloc (.cells #[.int .i64 (partIn k t).k, .string (partIn k t).t, .slice ay (partIn k t).zs.length cy] 74))) := hb3.alloc hb3.size _
          have HX4 : Hid (Box3 (w3.alloc (.cells #[.int .i64 (partIn k t).k, .string (partIn k t).t, .slice ay (partIn k t).zs.length cy] 74)) w3.heap.size (.int .i64 (partIn k t).k) (.string (partIn k t).t) (.slice ay (partIn k t).zs.length cy)) := Box3.new _ _ _ _ _
          have HY4 : Hid (Own (w3.alloc (.cells #[.int .i64 (partIn k t).k, .string (partIn k t).t, .slice ay (partIn k t).zs.length cy] 74)) w2.heap.size (.slice ay (partIn k t).zs.length cy) (partIn k t).zs) := ho3.alloc _
          have HEQ := goodIn_eq k t
          have HFITp : Hid ((partIn k t).zs.length ≤ 1048576 ∧ (partIn k t).t.size ≤ 1048576) := by
            show _ ∧ _
            unfold partIn
            by_cases k1 : k = 1
            · rw [if_pos k1]; exact ⟨by simp, by show t.size ≤ _; omega⟩
            · rw [if_neg k1]; exact ⟨by show (numsTo t _).length ≤ _; rw [numsTo_len]; omega, by show 0 ≤ _; omega⟩
          have HTX : Hid ((⟨(partL (partIn k t).k (partIn k t).t (partIn k t).zs).toArray⟩ : ByteArray) = textIn k t) := rfl
          have hwk : IntKind.u8.wrap k = k := by rw [IntKind.wrap_u8]; omega
          have hwn : IntKind.u8.wrap (n : Int) = (n : Int) := by rw [IntKind.wrap_u8]; omega
          have hadd : ∀ w, (Op.stringOp .add ⟨#[UInt8.ofNat k.toNat, UInt8.ofNat n]⟩ t).run Try.prog w = .ok (.string (rawIn k t)) w := fun w => by
            rw [run_string_add_sum w _ t (by show 2 + t.size ≤ _; omega)]
            refine congrArg (fun x => Result.ok (Value.string x) w) (ByteArray.ext ?_)
            rw [← HTS.out]
            simp [rawIn]
          have hback : ∀ (w : World) (b : Nat), w.cell? ⟨b, 0, none⟩ = some (.int .u8 k) → w.cell? ⟨b, 1, none⟩ = some (.int .u8 (n : Int)) → (convert 22 9 (.slice (some ⟨b, 0, none⟩) 2 2)).run Try.prog w = .ok (.string ⟨#[UInt8.ofNat k.toNat, UInt8.ofNat n]⟩) w := fun w b c0 c1 => by
            refine run_convert_bytes_back (P := Try.prog) w 22 9 5 ⟨b, 0, none⟩ 2 [UInt8.ofNat k.toNat, UInt8.ofNat n] Try.underlying22 Try.underlying5 Try.underlying9 (fun j hj => ?_)
            rw [Go.WideShapes.add_plain, Nat.zero_add]
            match j, hj with
            | 0, _ => rw [c0]; simp [UInt8.toNat_ofNat']; omega
            | 1, _ => rw [c1]; simp [UInt8.toNat_ofNat']; omega
          have HF2 : Hid (goodIn k t = false → R = (2, [], 0)) := fun hG => HE.out.symm.trans (readR_2 S a ps left hend HB'.out (by rw [← HC.out, HK.out]; exact h4) (by rw [← HC.out, HK.out, HT.out]; exact hG))
          have HF3 : Hid (goodIn k t = true → (ps.length = 10 → R = (3, [], 0)) ∧ (¬ ps.length = 10 → readR S (a + (2 + n)) (ps ++ [partIn k t]) left = R)) := fun hG => by
            refine ⟨fun h10 => ?_, fun h10 => ?_⟩
            · exact HE.out.symm.trans (readR_3 S a ps left hend HB'.out (by rw [← HC.out, HK.out]; exact h4) (by rw [← HC.out, HK.out, HT.out]; exact hG) h10)
            · have := readR_put S a ps left hend HB'.out (by rw [← HC.out, HK.out]; exact h4) (by rw [← HC.out, HK.out, HT.out]; exact hG) h10
              rw [← HC.out, HK.out, HT.out, HN.out] at this
              exact this.symm.trans HE.out
          have HEQ1 : Hid (goodP (partIn k t) = false → goodIn k t = false) := HEQ.1
          have HEQ2 : Hid (goodP (partIn k t) = true → (goodIn k t = true ∧ textIn k t = rawIn k t) ∨ (goodIn k t = false ∧ ((textIn k t).toList == (rawIn k t).toList) = false)) := HEQ.2
          clear HEQ ho3 hb3
          unfold partV
          generalize partIn k t = p at *
          generalize textIn k t = T at *
          generalize rawIn k t = Z at *
          go_wp2
          generalize hw4 : w3.alloc (.cells #[.int .i64 p.k, .string p.t, .slice ay p.zs.length cy] 74) = w4 at *
          clear hw4
          generalize w3.heap.size = b3 at *
          obtain ⟨-, z0, z1, z2⟩ := HX4.out
          have HRY : Hid (∀ W1, Below w4.heap.size w4 W1 → Reads W1 (.slice ay p.zs.length cy) p.zs) := fun _ hb => (HY4.out.below hb).reads
          have HD4 : Hid (Below w4.heap.size w4 w4.drew) := (Below.refl _ w4).drew
          obtain ⟨av, cv, hv⟩ := HO1.out.shape
          subst hv
          cases hgp : goodP p with
          | false =>
            have HG : Hid (goodB p.k p.t p.zs = false) := hgp
            have HF : Hid (R = (2, [], 0)) := HF2.out (HEQ1.out hgp)
            clear hgp hback hadd
            refine wp_region_any (by kernel_rfl) ?_
            change wpAny _ _ _ _ _ _ _ (World.drew _)
            refine wpAny_ready (rs := [0]) (by kernel_rfl) (by simp) ?_
            refine AllReady.cons rfl (fun K hK => ?_) AllReady.nil
            go_simp
            refine hK _ _ ?_
            clear hK K
            refine wpAny_ready (rs := [1]) (by kernel_rfl) (by simp) ?_
            refine AllReady.cons rfl (fun K hK => ?_) AllReady.nil
            go_simp
            go_wp2_with (go_at_call 52; refine (specGood_any _ p.k p.t _ p.zs (HRY.out _ HD4.out) HFITp.out.1 HFITp.out.2).mono ?_; rintro e w5 ⟨rfl, hb5⟩; rw [HG.out])
            refine wpAny_ready (rs := [2]) (by kernel_rfl) (by simp) ?_
            refine AllReady.cons rfl (fun K hK => ?_) AllReady.nil
            go_simp
            refine hK _ _ ?_
            clear hK K
            refine wpAny_ready (rs := [3]) (by kernel_rfl) (by simp) ?_
            refine AllReady.cons rfl (fun K hK => ?_) AllReady.nil
            go_simp
            refine hK _ _ ?_
            clear hK K
            refine wpAny_take (i := 4) (v := undef) rfl (by kernel_rfl) (by kernel_rfl) (by kernel_rfl) (fun _ _ _ h => h) (Or.inr ⟨by kernel_rfl, rfl⟩) ?_
            refine wpAny_take (i := 5) (v := undef) rfl (by kernel_rfl) (by kernel_rfl) (by kernel_rfl) (fun _ _ _ h => h) (Or.inr ⟨by kernel_rfl, rfl⟩) ?_
            refine wpAny_take (i := 6) (v := undef) rfl (by kernel_rfl) (by kernel_rfl) (by kernel_rfl) (fun _ _ _ h => h) (Or.inr ⟨by kernel_rfl, rfl⟩) ?_
            refine wpAny_take (i := 7) (v := undef) rfl (by kernel_rfl) (by kernel_rfl) (by kernel_rfl) (fun _ _ _ h => h) (Or.inr ⟨by kernel_rfl, rfl⟩) ?_
            refine wpAny_take (i := 8) (v := undef) rfl (by kernel_rfl) (by kernel_rfl) (by kernel_rfl) (fun _ _ _ h => h) (Or.inr ⟨by kernel_rfl, rfl⟩) ?_
            refine wpAny_take (i := 9) (v := undef) rfl (by kernel_rfl) (by kernel_rfl) (by kernel_rfl) (fun _ _ _ h => h) (Or.inr ⟨by kernel_rfl, rfl⟩) ?_
            refine wpAny_take (i := 10) (v := undef) rfl (by kernel_rfl) (by kernel_rfl) (by kernel_rfl) (fun _ _ _ h => h) (Or.inr ⟨by kernel_rfl, rfl⟩) ?_
            refine wpAny_take (i := 11) (v := undef) rfl (by kernel_rfl) (by kernel_rfl) (by kernel_rfl) (fun _ _ _ h => h) (Or.inr ⟨by kernel_rfl, rfl⟩) ?_
            refine wpAny_take (i := 12) (v := undef) rfl (by kernel_rfl) (by kernel_rfl) (by kernel_rfl) (fun _ _ _ h => h) (Or.inr ⟨by kernel_rfl, rfl⟩) ?_
            refine wpAny_take (i := 13) (v := undef) rfl (by kernel_rfl) (by kernel_rfl) (by kernel_rfl) (fun _ _ _ h => h) (Or.inr ⟨by kernel_rfl, rfl⟩) ?_
            refine wpAny_take (i := 14) (v := undef) rfl (by kernel_rfl) (by kernel_rfl) (by kernel_rfl) (fun _ _ _ h => h) (Or.inr ⟨by kernel_rfl, rfl⟩) ?_
            refine wpAny_ready (rs := [15]) (by kernel_rfl) (by simp) ?_
            refine AllReady.cons rfl (fun K hK => ?_) AllReady.nil
            go_simp
            refine hK _ _ ?_
            clear hK K
            refine wpAny_done (by kernel_rfl) ?_ _
            have HS5 : Hid (Below H W w5) := ((HS1.out.step (HB24.out.drew)).step hb5).1
            clear hb5
            go_wp2
            refine bodyPost_ret (results_tmp4 rfl _ _ _) rfl ?_
            refine ⟨?_, HS5.out⟩
            rw [HF.out]
            exact ⟨_, rfl, OwnP.nil _ _⟩
          | true =>
            have HG : Hid (goodB p.k p.t p.zs = true) := hgp
            rcases HEQ2.out hgp with ⟨hG, hTZ⟩ | ⟨hG, hTZ⟩
            · obtain ⟨hf10, hfput⟩ := HF3.out hG
              have HF10 : Hid (ps.length = 10 → R = (3, [], 0)) := hf10
              have HFP : Hid (¬ ps.length = 10 → readR S (a + (2 + n)) (ps ++ [p]) left = R) := hfput
              have HTZ : Hid ((⟨(partL p.k p.t p.zs).toArray⟩ : ByteArray) = Z) := HTX.out.trans hTZ
              clear hgp hG hTZ hf10 hfput
              go_region_with (first
                | (go_at_call 52; refine (specGood_any _ p.k p.t _ p.zs (HRY.out _ HD4.out) HFITp.out.1 HFITp.out.2).mono ?_; rintro e w5 ⟨rfl, hb5⟩; rw [HG.out]; have hb45 := HD4.out.trans hb5; obtain ⟨yb, y0, y1, y2⟩ := HX4.out.below hb45)
                | (go_at_call 45; refine (l2Text_any _ p.k p.t _ p.zs (HRY.out _ (by first | exact hb45 | exact hb45.alloc hb45.size _)) HG.out).mono ?_; rintro e w6 ⟨rfl, hb6⟩; rw [HTZ.out]; obtain ⟨hc6, hf6⟩ := bcell hb6; have hb46 : Below w4.heap.size w4 w6 := (by first | exact hb45.trans (hb6.mono hb45.size) | exact (hb45.alloc hb45.size _).trans (hb6.mono (by have := hb45.size; simp; omega))); obtain ⟨xb, x0, x1, x2⟩ := HX4.out.below hb46))
              all_goals
                have HB26 : Hid (Below w2.heap.size w2 w6) := HB24.out.trans (hb46.mono HB24.out.size)
                have HY6 : Hid (Own w6 w2.heap.size (.slice ay p.zs.length cy) p.zs) := HY4.out.below hb46
                have HS6 : Hid (Since H W w6) := HS1.out.step HB26.out
                have x0' : ∀ o, (w6.alloc o).cell? ⟨b3, 0, none⟩ = some (.int .i64 p.k) := fun o => (((Below.refl _ w6).alloc (Nat.le_refl _) o).cell (p := ⟨b3, 0, none⟩) xb).trans x0
                have x1' : ∀ o, (w6.alloc o).cell? ⟨b3, 1, none⟩ = some (.string p.t) := fun o => (((Below.refl _ w6).alloc (Nat.le_refl _) o).cell (p := ⟨b3, 1, none⟩) xb).trans x1
                have x2' : ∀ o, (w6.alloc o).cell? ⟨b3, 2, none⟩ = some (.slice ay p.zs.length cy) := fun o => (((Below.refl _ w6).alloc (Nat.le_refl _) o).cell (p := ⟨b3, 2, none⟩) xb).trans x2
                clear hb5 hb6 hb45 hb46 hc6 hf6 hback hadd
                by_cases h10 : ps.length = 10
                · have d10 : ((ps.length : Int) == 10) = true := beq_iff_eq.2 (by omega)
                  have HF1 : Hid (R = (3, [], 0)) := HF10.out h10
                  clear h10
                  go_wp2
                  refine bodyPost_ret (results_tmp4 rfl _ _ _) rfl ?_
                  refine ⟨?_, by first | exact HS6.out.1 | exact (HS6.out.step ((Below.refl _ w6).alloc (Nat.le_refl _) _)).1⟩
                  rw [HF1.out]
                  exact ⟨_, rfl, OwnP.nil _ _⟩
                · have d10 : ((ps.length : Int) == 10) = false := beq_eq_false_iff_ne.2 (by omega)
                  have HF1 : Hid (readR S (a + (2 + n)) (ps ++ [p]) left = R) := HFP.out h10
                  have hp9 : ps.length ≤ 9 := by omega
                  clear h10
                  go_wp2_with (at_builtin; first
                    | (refine list_putP (W := w2) (by rfl) (.tmp 63) (.tmp 65) (by rfl) H (.slice av ps.length cv) ps p (.slice ay p.zs.length cy) (by rfl) HO1.out (HB26.out.alloc HB26.out.size _) HS1.out.2 (HY6.out.alloc _) w6.heap.size 1 (by rfl) (Box3.new _ _ _ _ _) (by omega) ?_; intro v7 w7 hown7 hb7 hz7; have hs7 : Since H W w7 := ⟨((HS6.out.step ((Below.refl _ w6).alloc (Nat.le_refl _) _)).1).trans hb7, Nat.le_trans (HS6.out.step ((Below.refl _ w6).alloc (Nat.le_refl _) _)).2 hz7⟩)
                    | (refine list_putP (W := w2) (by rfl) (.tmp 63) (.tmp 65) (by rfl) H (.slice av ps.length cv) ps p (.slice ay p.zs.length cy) (by rfl) HO1.out ((HB26.out.alloc HB26.out.size _).alloc (Nat.le_trans HB26.out.size ((Below.refl _ w6).alloc (Nat.le_refl _) _).size) _) HS1.out.2 ((HY6.out.alloc _).alloc _) (w6.heap.size + 1) 1 (by rfl) (box3_at (by simp) _ _ _ _) (by omega) ?_; intro v7 w7 hown7 hb7 hz7; have hs7 : Since H W w7 := ⟨(((HS6.out.step ((Below.refl _ w6).alloc (Nat.le_refl _) _)).step ((Below.refl _ _).alloc (Nat.le_refl _) _)).1).trans hb7, Nat.le_trans ((HS6.out.step ((Below.refl _ w6).alloc (Nat.le_refl _) _)).step ((Below.refl _ _).alloc (Nat.le_refl _) _)).2 hz7⟩))
                  have HO7 : Hid (OwnP w7 H v7 (ps ++ [p])) := hown7
                  have HS7 : Hid (Since H W w7) := hs7
                  clear hown7 hb7 hz7 hs7
                  try go_wp2
                  go_roundw
                  case rel => exact ⟨a + (2 + n), ps ++ [p], left, hnx, by go_num, rfl, HANEXT.out.2, by simp; omega, HO7, HF1, HS7⟩
                  case measure => simp [intOf]; omega
            · have HF : Hid (R = (2, [], 0)) := HF2.out hG
              have HTZ : Hid ((⟨(partL p.k p.t p.zs).toArray⟩ : ByteArray) = T) := HTX.out
              clear hgp hG
              go_region_with (first
                | (go_at_call 52; refine (specGood_any _ p.k p.t _ p.zs (HRY.out _ HD4.out) HFITp.out.1 HFITp.out.2).mono ?_; rintro e w5 ⟨rfl, hb5⟩; rw [HG.out]; have hb45 := HD4.out.trans hb5; obtain ⟨yb, y0, y1, y2⟩ := HX4.out.below hb45)
                | (go_at_call 45; refine (l2Text_any _ p.k p.t _ p.zs (HRY.out _ (by first | exact hb45 | exact hb45.alloc hb45.size _)) HG.out).mono ?_; rintro e w6 ⟨rfl, hb6⟩; rw [HTZ.out]; obtain ⟨hc6, hf6⟩ := bcell hb6; have hb46 : Below w4.heap.size w4 w6 := (by first | exact hb45.trans (hb6.mono hb45.size) | exact (hb45.alloc hb45.size _).trans (hb6.mono (by have := hb45.size; simp; omega))); obtain ⟨xb, x0, x1, x2⟩ := HX4.out.below hb46))
              all_goals
                have HS6 : Hid (Since H W w6) := (HS1.out.step HB24.out).step hb46
                clear hb5 hb6 hb45 hb46 hc6 hf6 hback hadd
                go_wp2
                refine bodyPost_ret (results_tmp4 rfl _ _ _) rfl ?_
                refine ⟨?_, by first | exact HS6.out.1 | exact (HS6.out.step ((Below.refl _ w6).alloc (Nat.le_refl _) _)).1⟩
                rw [HF.out]
                exact ⟨_, rfl, OwnP.nil _ _⟩
        · rw [decide_eq_false h4]
          have HF1 : Hid (readR S (a + (2 + n)) ps (left + 1) = R) := by
            have := readR_left S a ps left hend HB'.out (by rw [← HC.out, HK.out]; exact h4)
            rw [← HC.out, HN.out] at this
            exact this.symm.trans HE.out
          go_wp2
          go_roundw
          case rel => exact ⟨a + (2 + n), ps, left + 1, hnx, by go_num, by go_num, HANEXT.out.1, hpl, HO1, HF1, HS1⟩
          case measure => simp [intOf]; omega
end Go.Proofs.Ytijlhjfllfjllaa
