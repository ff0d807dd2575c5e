/-
  'BothWays' of the program.
-/
import Derived.Test.YthlbmkefjjckaacGrBwM
import Derived.Test.YthlbmkefjjckaacGrWo
namespace Go.Proofs.Ythlbmkefjjckaac
open Go.RowKit
set_option linter.unusedVariables false

/-- One that lies in a block of its own. -/
theorem srcEd_new (w : World) (x : EdD) (c : Nat) : Src (w.alloc (.cells #[.int .i64 x.A, .int .i64 x.B, .int .i64 x.Cost] 61)) (.slice (some ⟨w.heap.size, 0, none⟩) 1 c) 1 (cellsEd [x]) :=
  srcEd_at (l := [x]) (fun j hj => by
    obtain rfl : j = 0 := by simp at hj; omega
    exact newEd w x _ (Since.start _)) 1 c rfl

set_option maxRecDepth 100000 in
set_option maxHeartbeats 8000000 in
theorem implBothWays_any (W : World) (v : Value) (n : Int) (l : List TdD) (h : ReadsTd W v l) (hl : l.length ≤ 2097152) :
    Calls Try.prog 41 #[.int .i64 n, v] W (EdPost W (bwOut n l) (goodJTd n l 80)) := by
  have CG : Hid (Calls Try.prog 99 #[.int .i64 n, v, .int .i64 80] W fun e W' => e = .returned (.bool (goodJTd n l 80)) ∧ Below W.heap.size W W') := areJointsTd_any W v l n 80 h hl
  have HRD : Hid (∀ w', Since W.heap.size W w' → ReadsTd w' v l) := fun w' hs => h.below hs.1
  have HS0 : Hid (Since W.heap.size W W) := Since.start W
  obtain ⟨a1, c1, rfl⟩ := h.shape
  have HD : Hid (bwOut n l = if goodJTd n l 80 then bwAll l n.toNat n.toNat else []) := rfl
  generalize bwOut n l = out at *
  clear h
  cases hg : goodJTd n l 80 with
  | false =>
    have HF : Hid (out = []) := HD.out.trans (by rw [hg]; rfl)
    rw [hg] at CG
    clear hg HD
    go_enter Try.func41, Try.ntmps41
    go_wp2_with fail
    refine CG.out.mono ?_
    rintro e w1 ⟨rfl, hb1⟩
    have HB1 : Hid (Below W.heap.size W w1) := hb1
    clear hb1
    go_wp2
    refine bodyPost_ret (results_tmp2 rfl _ _ _) rfl ?_
    exact EdPost.zero rfl HF.out HB1.out
  | true =>
    obtain ⟨hn, hl80, hft⟩ := fitTd_of hg
    rw [hg] at CG
    have HF0 : Hid (out = bwAll l n.toNat n.toNat) := HD.out.trans (by rw [hg]; rfl)
    have CL : Hid (∀ w', Since W.heap.size W w' → ∀ p q : Int, Calls Try.prog 100 #[.slice a1 l.length c1, .int .i64 p, .int .i64 q] w' fun e w2 => e = .returned (.int .i64 (lastTd l p q)) ∧ Below w'.heap.size w' w2) := fun w' hs p q => lastCostTd_any w' _ l p q (HRD.out w' hs) hl
    clear hg HD hft
    obtain ⟨m, rfl⟩ : ∃ m : Nat, n = (m : Int) := ⟨n.toNat, by omega⟩
    have hm12 : m ≤ 12 := by omega
    have HF : Hid (out = bwAll l m m) := HF0.out
    clear HF0
    go_enter Try.func41, Try.ntmps41
    go_wp2_with fail
    refine CG.out.mono ?_
    rintro e w1 ⟨rfl, hb1⟩
    have HS1 : Hid (Since W.heap.size W w1) := HS0.out.step hb1
    clear hb1
    go_wp2
    go_loopw [6, 16] (fun u i wr => ∃ k : Nat, k ≤ m ∧ i = .int .i64 k ∧ Hid (OwnEd wr W.heap.size u (bwAll l m k) ∧ Since W.heap.size W wr)) (fun _ i _ => m - (intOf i).toNat)
    case atStart => exact ⟨0, Nat.zero_le _, rfl, OwnEd.nil _ _, HS1.out⟩
    case round =>
      clear HS1
      obtain ⟨k, hk, rfl, HK⟩ := hrel
      obtain ⟨a2, c2, rfl⟩ := HK.out.1.shape
      by_cases hlt : k < m
      · have hlt' : (k : Int) < (m : Int) := by omega
        go_wp2
        go_loopw [6, 8] (fun u i wr => ∃ b : Nat, k + 1 ≤ b ∧ b ≤ m ∧ i = .int .i64 b ∧ Hid (OwnEd wr W.heap.size u (bwAll l m k ++ bwRow l k b) ∧ Since W.heap.size W wr)) (fun _ i _ => m - (intOf i).toNat)
        case atStart => exact ⟨k + 1, Nat.le_refl _, by omega, by go_num, by rw [bwRow_start l k (k + 1) (Nat.le_refl _), List.append_nil]; exact HK.out.1, HK.out.2⟩
        case round =>
          clear HK
          obtain ⟨b, hb0, hb, rfl, HK⟩ := hrel
          have HLZ : Hid ((bwAll l m k ++ bwRow l k b).length ≤ 300) := by
            show _ ≤ _
            have h1 := bwAll_len l m k
            have h2 := bwRow_len l k b
            have h3 : k * m ≤ 12 * 12 := Nat.mul_le_mul (by omega) (by omega)
            rw [List.length_append]
            omega
          have HEND : Hid (b = m → bwAll l m k ++ bwRow l k b = bwAll l m (k + 1)) := fun e => by rw [e]; rfl
          have HNX : Hid (bwAll l m k ++ bwRow l k (b + 1) = (bwAll l m k ++ bwRow l k b) ++ bwOne l (k : Int) (b : Int)) := by
            show _ = _
            rw [bwRow_next l k b (by omega), List.append_assoc]
          generalize bwAll l m k ++ bwRow l k b = zz at *
          obtain ⟨a2, c2, rfl⟩ := HK.out.1.shape
          by_cases hltb : b < m
          · have hltb' : (b : Int) < (m : Int) := by omega
            have HLN : Hid (zz.length ≤ 300) := HLZ.out
            obtain ⟨p, hp⟩ : ∃ p, p = lastTd l (k : Int) (b : Int) := ⟨_, rfl⟩
            obtain ⟨q, hq⟩ : ∃ q, q = lastTd l (b : Int) (k : Int) := ⟨_, rfl⟩
            have HNB : Hid (bwAll l m k ++ bwRow l k (b + 1) = zz ++ if 0 < p ∧ 0 < q then [(⟨(k : Int), (b : Int), max p q⟩ : EdD)] else []) := by
              show _ = _
              rw [HNX.out, hp, hq]
              rfl
            clear HNX HEND HLZ
            have C1 : Hid (∀ w', Since W.heap.size W w' → Calls Try.prog 100 #[.slice a1 l.length c1, .int .i64 (k : Int), .int .i64 (b : Int)] w' fun e w2 => e = .returned (.int .i64 p) ∧ Below w'.heap.size w' w2) := fun w' hs => by
              rw [hp]
              exact CL.out w' hs _ _
            have C2 : Hid (∀ w', Since W.heap.size W w' → Calls Try.prog 100 #[.slice a1 l.length c1, .int .i64 (b : Int), .int .i64 (k : Int)] w' fun e w2 => e = .returned (.int .i64 q) ∧ Below w'.heap.size w' w2) := fun w' hs => by
              rw [hq]
              exact CL.out w' hs _ _
            clear hp hq
            go_wp2_with fail
            refine (C1.out _ HK.out.2).mono ?_
            rintro e w1 ⟨rfl, hb1⟩
            have S1 : Hid (Since W.heap.size W w1) := HK.out.2.step hb1
            have O1 : Hid (OwnEd w1 W.heap.size (.slice a2 zz.length c2) zz) := HK.out.1.below hb1
            clear HK hb1
            go_wp2_with fail
            refine (C2.out _ S1.out).mono ?_
            rintro e w2 ⟨rfl, hb2⟩
            have S2 : Hid (Since W.heap.size W w2) := S1.out.step hb2
            have O2 : Hid (OwnEd w2 W.heap.size (.slice a2 zz.length c2) zz) := O1.out.below hb2
            clear O1 S1 hb2 C1 C2
            by_cases hp : 0 < p
            · by_cases hq : 0 < q
              · have HB1 : Hid (bwAll l m k ++ bwRow l k (b + 1) = zz ++ [(⟨(k : Int), (b : Int), max p q⟩ : EdD)]) := by
                  show _ = _
                  rw [HNB.out, if_pos ⟨hp, hq⟩]
                clear HNB
                rcases Int.lt_trichotomy p q with hlt | hlt | hlt
                · have h1 : p ≤ q := by omega
                  have h2 : ¬ q ≤ p := by omega
                  have HMX : Hid (max p q = q) := Int.max_eq_right h1
                  clear hlt
                  have HZ : Hid (bwAll l m k ++ bwRow l k (b + 1) = zz ++ [(⟨(k : Int), (b : Int), q⟩ : EdD)]) := HB1.out.trans (by rw [HMX.out])
                  have HA : Hid (∀ ty, ∃ v' w', (Builtin.append_ #[54, 54] ty #[.slice a2 zz.length c2, .slice (some ⟨w2.heap.size, 0, none⟩) 1 1]).run Try.prog (w2.alloc (.cells #[.int .i64 (k : Int), .int .i64 (b : Int), .int .i64 q] 61)) = .ok v' w' ∧ Grown (w2.alloc (.cells #[.int .i64 (k : Int), .int .i64 (b : Int), .int .i64 q] 61)) W.heap.size 61 3 (.slice a2 zz.length c2) (zz ++ [(⟨(k : Int), (b : Int), q⟩ : EdD)]).length (cellsEd (zz ++ [(⟨(k : Int), (b : Int), q⟩ : EdD)])) v' w') := fun ty => run_appEd _ W.heap.size _ zz (O2.out.below ((Below.refl _ w2).alloc (Nat.le_refl _) _)) _ [(⟨(k : Int), (b : Int), q⟩ : EdD)] (srcEd_new w2 ⟨(k : Int), (b : Int), q⟩ 1) (by have := HLN.out; simp only [List.length_cons, List.length_nil]; omega) (Nat.le_trans S2.out.2 (by simp)) ty
                  have S3 : Hid (Since W.heap.size W (w2.alloc (.cells #[.int .i64 (k : Int), .int .i64 (b : Int), .int .i64 q] 61))) := S2.out.step ((Below.refl _ w2).alloc (Nat.le_refl _) _)
                  go_wp2_with (at_builtin; refine list_app (by rfl) (.tmp 40) (.tmp 47) 54 (by rfl) (.slice a2 zz.length c2) (.slice (some ⟨w2.heap.size, 0, none⟩) 1 1) (by rfl) (by rfl) _ HA.out ?_; intro v5 w5 hg5; have HF : Hid (OwnEd w5 W.heap.size v5 (bwAll l m k ++ bwRow l k (b + 1)) ∧ Since W.heap.size W w5) := ⟨by rw [HZ.out]; exact hg5.own, ⟨S3.out.1.trans hg5.below, Nat.le_trans S3.out.2 hg5.size⟩⟩; clear hg5)
                  go_roundw
                  case rel => exact ⟨b + 1, by omega, by omega, by go_num, HF.out⟩
                  case measure => simp [intOf]; omega
                · subst hlt
                  have h1 : p ≤ p := Int.le_refl _
                  have HMX : Hid (max p p = p) := Int.max_eq_right h1
                  have HZ : Hid (bwAll l m k ++ bwRow l k (b + 1) = zz ++ [(⟨(k : Int), (b : Int), p⟩ : EdD)]) := HB1.out.trans (by rw [HMX.out])
                  have HA : Hid (∀ ty, ∃ v' w', (Builtin.append_ #[54, 54] ty #[.slice a2 zz.length c2, .slice (some ⟨w2.heap.size, 0, none⟩) 1 1]).run Try.prog (w2.alloc (.cells #[.int .i64 (k : Int), .int .i64 (b : Int), .int .i64 p] 61)) = .ok v' w' ∧ Grown (w2.alloc (.cells #[.int .i64 (k : Int), .int .i64 (b : Int), .int .i64 p] 61)) W.heap.size 61 3 (.slice a2 zz.length c2) (zz ++ [(⟨(k : Int), (b : Int), p⟩ : EdD)]).length (cellsEd (zz ++ [(⟨(k : Int), (b : Int), p⟩ : EdD)])) v' w') := fun ty => run_appEd _ W.heap.size _ zz (O2.out.below ((Below.refl _ w2).alloc (Nat.le_refl _) _)) _ [(⟨(k : Int), (b : Int), p⟩ : EdD)] (srcEd_new w2 ⟨(k : Int), (b : Int), p⟩ 1) (by have := HLN.out; simp only [List.length_cons, List.length_nil]; omega) (Nat.le_trans S2.out.2 (by simp)) ty
                  have S3 : Hid (Since W.heap.size W (w2.alloc (.cells #[.int .i64 (k : Int), .int .i64 (b : Int), .int .i64 p] 61))) := S2.out.step ((Below.refl _ w2).alloc (Nat.le_refl _) _)
                  go_wp2_with (at_builtin; refine list_app (by rfl) (.tmp 40) (.tmp 47) 54 (by rfl) (.slice a2 zz.length c2) (.slice (some ⟨w2.heap.size, 0, none⟩) 1 1) (by rfl) (by rfl) _ HA.out ?_; intro v5 w5 hg5; have HF : Hid (OwnEd w5 W.heap.size v5 (bwAll l m k ++ bwRow l k (b + 1)) ∧ Since W.heap.size W w5) := ⟨by rw [HZ.out]; exact hg5.own, ⟨S3.out.1.trans hg5.below, Nat.le_trans S3.out.2 hg5.size⟩⟩; clear hg5)
                  go_roundw
                  case rel => exact ⟨b + 1, by omega, by omega, by go_num, HF.out⟩
                  case measure => simp [intOf]; omega
                · have h1 : q ≤ p := by omega
                  have h2 : ¬ p ≤ q := by omega
                  have HMX : Hid (max p q = p) := Int.max_eq_left h1
                  clear hlt
                  have HZ : Hid (bwAll l m k ++ bwRow l k (b + 1) = zz ++ [(⟨(k : Int), (b : Int), p⟩ : EdD)]) := HB1.out.trans (by rw [HMX.out])
                  have HA : Hid (∀ ty, ∃ v' w', (Builtin.append_ #[54, 54] ty #[.slice a2 zz.length c2, .slice (some ⟨w2.heap.size, 0, none⟩) 1 1]).run Try.prog (w2.alloc (.cells #[.int .i64 (k : Int), .int .i64 (b : Int), .int .i64 p] 61)) = .ok v' w' ∧ Grown (w2.alloc (.cells #[.int .i64 (k : Int), .int .i64 (b : Int), .int .i64 p] 61)) W.heap.size 61 3 (.slice a2 zz.length c2) (zz ++ [(⟨(k : Int), (b : Int), p⟩ : EdD)]).length (cellsEd (zz ++ [(⟨(k : Int), (b : Int), p⟩ : EdD)])) v' w') := fun ty => run_appEd _ W.heap.size _ zz (O2.out.below ((Below.refl _ w2).alloc (Nat.le_refl _) _)) _ [(⟨(k : Int), (b : Int), p⟩ : EdD)] (srcEd_new w2 ⟨(k : Int), (b : Int), p⟩ 1) (by have := HLN.out; simp only [List.length_cons, List.length_nil]; omega) (Nat.le_trans S2.out.2 (by simp)) ty
                  have S3 : Hid (Since W.heap.size W (w2.alloc (.cells #[.int .i64 (k : Int), .int .i64 (b : Int), .int .i64 p] 61))) := S2.out.step ((Below.refl _ w2).alloc (Nat.le_refl _) _)
                  go_wp2_with (at_builtin; refine list_app (by rfl) (.tmp 40) (.tmp 47) 54 (by rfl) (.slice a2 zz.length c2) (.slice (some ⟨w2.heap.size, 0, none⟩) 1 1) (by rfl) (by rfl) _ HA.out ?_; intro v5 w5 hg5; have HF : Hid (OwnEd w5 W.heap.size v5 (bwAll l m k ++ bwRow l k (b + 1)) ∧ Since W.heap.size W w5) := ⟨by rw [HZ.out]; exact hg5.own, ⟨S3.out.1.trans hg5.below, Nat.le_trans S3.out.2 hg5.size⟩⟩; clear hg5)
                  go_roundw
                  case rel => exact ⟨b + 1, by omega, by omega, by go_num, HF.out⟩
                  case measure => simp [intOf]; omega
              · have HB0 : Hid (bwAll l m k ++ bwRow l k (b + 1) = zz) := by
                  show _ = _
                  rw [HNB.out, if_neg fun e => hq e.2, List.append_nil]
                clear HNB
                have HF : Hid (OwnEd w2 W.heap.size (.slice a2 zz.length c2) (bwAll l m k ++ bwRow l k (b + 1)) ∧ Since W.heap.size W w2) := ⟨by rw [HB0.out]; exact O2.out, S2.out⟩
                go_wp2
                go_roundw
                case rel => exact ⟨b + 1, by omega, by omega, by go_num, HF.out⟩
                case measure => simp [intOf]; omega
            · have HB0 : Hid (bwAll l m k ++ bwRow l k (b + 1) = zz) := by
                show _ = _
                rw [HNB.out, if_neg fun e => hp e.1, List.append_nil]
              clear HNB
              have HF : Hid (OwnEd w2 W.heap.size (.slice a2 zz.length c2) (bwAll l m k ++ bwRow l k (b + 1)) ∧ Since W.heap.size W w2) := ⟨by rw [HB0.out]; exact O2.out, S2.out⟩
              go_wp2
              go_roundw
              case rel => exact ⟨b + 1, by omega, by omega, by go_num, HF.out⟩
              case measure => simp [intOf]; omega
          · have hltb' : ¬ (b : Int) < (m : Int) := by omega
            have HF : Hid (OwnEd wr W.heap.size (.slice a2 zz.length c2) (bwAll l m (k + 1)) ∧ Since W.heap.size W wr) := ⟨by rw [← HEND.out (by omega)]; exact HK.out.1, HK.out.2⟩
            clear HK
            go_wp2
            go_roundw
            case rel => exact ⟨k + 1, by omega, by go_num, HF.out⟩
            case measure => simp [intOf]; omega
      · have hlt' : ¬ (k : Int) < (m : Int) := by omega
        have e : k = m := by omega
        subst e
        have HE : Hid (OwnEd wr W.heap.size (.slice a2 (bwAll l k k).length c2) (bwAll l k k) ∧ Below W.heap.size W wr) := ⟨HK.out.1, HK.out.2.1⟩
        clear HK
        go_wp2
        refine bodyPost_ret (results_tmp2 rfl _ _ _) rfl ?_
        exact EdPost.mk rfl HF.out HE.out.1 HE.out.2
end Go.Proofs.Ythlbmkefjjckaac
