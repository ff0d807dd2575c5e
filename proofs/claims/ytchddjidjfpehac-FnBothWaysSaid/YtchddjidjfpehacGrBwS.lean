/-
  'l8Told' and 'BothWays' of the model.
-/
import Derived.Test.YtchddjidjfpehacGrBw
namespace Go.Proofs.Ytchddjidjfpehac
open Go.RowKit
set_option linter.unusedVariables false

set_option maxRecDepth 100000 in
set_option maxHeartbeats 2000000 in
theorem l8Told_any (W : World) (v : Value) (l : List TdD) (a b : Int) (h : ReadsTd W v l) (hl : l.length ≤ 2097152) :
    Calls Try.prog 78 #[v, .int .i64 a, .int .i64 b] W fun e W' => e = .returned (.int .i64 (lastTd l a b)) ∧ Below W.heap.size W W' := by
  obtain ⟨a1, cap1, rfl, hc1⟩ := h
  have HS0 : Hid (Since W.heap.size W W) := Since.start W
  by_cases h4 : l = []
  · subst h4
    simp only [List.length_nil] at *
    clear hc1
    go_enter Try.func78, Try.ntmps78
    go_wp2
    refine wp_loop_rounds 1 ?_
    rw [rounds_succ]
    go_wp2
    go_ret
    exact ⟨rfl, HS0.out.1⟩
  obtain ⟨g1, o1, rfl, hg1, hc1⟩ := hc1.resolve_left h4
  have HC1 : Hid (∀ W1, Since W.heap.size W W1 → ∀ j (hj : j < l.length), TdAt W1 g1 (o1 + j * 3) l[j]) := fun W1 hS j hj => (hc1 j hj).below hg1 hS.1
  clear hc1 hg1 h4
  obtain ⟨oo, hoo⟩ : ∃ oo, oo = lastTd l a b := ⟨_, rfl⟩
  rw [← hoo]
  have HO : Hid (oo = lastTd l a b) := hoo
  clear hoo
  go_enter Try.func78, Try.ntmps78
  go_wp2
  go_loopw [7, 12] (fun c i wr => ∃ k : Nat, k ≤ l.length ∧ i = .int .i64 k ∧ ∃ z : Int, c = .int .i64 z ∧ Hid (z = lastTd (l.take k) a b ∧ Since W.heap.size W wr)) (fun _ i _ => l.length - (intOf i).toNat)
  case atStart => exact ⟨0, Nat.zero_le _, rfl, 0, rfl, rfl, HS0.out⟩
  case round =>
    obtain ⟨k, hk, rfl, z, rfl, HK⟩ := hrel
    by_cases hlt : k < l.length
    · have hlt' : (k : Int) < (l.length : Int) := by omega
      obtain ⟨hz, hS⟩ := HK.out
      obtain ⟨q0, q1, q2⟩ := HC1.out wr hS k hlt
      have HT : Hid (lastTd (l.take (k + 1)) a b = if l[k].By = a ∧ l[k].Near = b then l[k].Cost else z) := by
        rw [hz]
        exact lastTd_take l a b k hlt
      generalize l[k] = x at *
      have HS2 : Hid (Since W.heap.size W (wr.alloc (.cells #[.int .i64 x.By, .int .i64 x.Near, .int .i64 x.Cost] 71))) := hS.step ((Below.refl _ wr).alloc (Nat.le_refl _) _)
      obtain ⟨c0, c1, c2⟩ := newTd wr x (wr.alloc (.cells #[.int .i64 x.By, .int .i64 x.Near, .int .i64 x.Cost] 71)) (Since.start _)
      clear hz hS HK
      by_cases e1 : x.By = a
      · have d1 : (x.By == a) = true := beq_iff_eq.2 e1
        by_cases e2 : x.Near = b
        · have d2 : (x.Near == b) = true := beq_iff_eq.2 e2
          have HT1 : Hid (x.Cost = lastTd (l.take (k + 1)) a b) := by
            show _ = _
            rw [HT.out, if_pos ⟨e1, e2⟩]
          clear HT e1 e2
          go_wp2
          go_roundw
          case rel => exact ⟨k + 1, by omega, by go_num, _, rfl, HT1.out, HS2.out⟩
          case measure => simp [intOf]; omega
        · have d2 : (x.Near == b) = false := beq_eq_false_iff_ne.2 e2
          have HT1 : Hid (z = lastTd (l.take (k + 1)) a b) := by
            show _ = _
            rw [HT.out, if_neg fun e => e2 e.2]
          clear HT e1 e2
          go_wp2
          go_roundw
          case rel => exact ⟨k + 1, by omega, by go_num, _, rfl, HT1.out, HS2.out⟩
          case measure => simp [intOf]; omega
      · have d1 : (x.By == a) = false := beq_eq_false_iff_ne.2 e1
        have HT1 : Hid (z = lastTd (l.take (k + 1)) a b) := by
          show _ = _
          rw [HT.out, if_neg fun e => e1 e.1]
        clear HT e1
        go_wp2
        go_roundw
        case rel => exact ⟨k + 1, by omega, by go_num, _, rfl, HT1.out, HS2.out⟩
        case measure => simp [intOf]; omega
    · have HG : Hid (z = lastTd l a b ∧ Below W.heap.size W wr) := ⟨by rw [HK.out.1, List.take_of_length_le (by omega)], HK.out.2.1⟩
      have hlt' : ¬ (k : Int) < (l.length : Int) := by omega
      clear HK
      go_wp2
      go_ret
      exact ⟨ret_int1 (HG.out.1.trans HO.out.symm), HG.out.2⟩

/-- A telling as said up to spot u. -/
def okT (u : Int) (x : TdD) : Bool := decide (0 ≤ x.By ∧ x.By ≤ u) && (decide (0 ≤ x.Near ∧ x.Near ≤ u) && (!(x.By == x.Near) && decide (1 ≤ x.Cost ∧ x.Cost ≤ 100)))
theorem okT_ok (n u : Int) (hu : u = n - 1) (x : TdD) : okT u x = okJ n x.By x.Near x.Cost := by
  subst hu
  unfold okT okJ
  rw [Bool.eq_iff_iff]
  simp
  omega
theorem goodT_no (n u : Int) (l : List TdD) (k : Nat) (hu : (1 ≤ n ∧ n ≤ 12) → u = n - 1) (h : k < l.length) (hf : okT u l[k] = false) : goodJTd n l 80 = false := by
  by_cases hn : 1 ≤ n ∧ n ≤ 12
  · rw [okT_ok n u (hu hn)] at hf
    exact goodJTd_no n l 80 k h hf
  · exact goodJTd_head n l 80 (.inl hn)

set_option maxRecDepth 100000 in
set_option maxHeartbeats 8000000 in
theorem specBothWays_any (W : World) (v : Value) (n : Int) (l : List TdD) (h : ReadsTd W v l) (hl : l.length ≤ 2097152) :
    Calls Try.prog 40 #[.int .i64 n, v] W (EdPost W (bwOut n l) (goodJTd n l 80)) := by
  have HRD : Hid (∀ w', Since W.heap.size W w' → ReadsTd w' v l) := fun w' hs => h.below hs.1
  have HS0 : Hid (Since W.heap.size W W) := Since.start W
  obtain ⟨a1, c1, rfl, hc1⟩ := h
  have HD : Hid (bwOut n l = if goodJTd n l 80 then bwAll l n.toNat n.toNat else []) := rfl
  have HRL : Hid (goodJTd n l 80 = true → (bwAll l n.toNat n.toNat).length ≤ 40) := fun hg => (goodEd_true (bwAll_good hg)).2.1
  generalize bwOut n l = out at *
  have HGD : Hid (∀ b : Bool, b = goodJTd n l 80 → (b = false → out = []) ∧ (b = true → out = bwAll l n.toNat n.toNat)) := fun b hb => ⟨fun e => HD.out.trans (by rw [← hb, e]; rfl), fun e => HD.out.trans (by rw [← hb, e]; rfl)⟩
  clear HD
  obtain ⟨ok, hok⟩ : ∃ ok, ok = goodJTd n l 80 := ⟨_, rfl⟩
  rw [← hok]
  have HOK : Hid (ok = goodJTd n l 80) := hok
  have HGO : Hid ((ok = false → out = []) ∧ (ok = true → out = bwAll l n.toNat n.toNat)) := HGD.out ok hok
  clear hok HGD
  obtain ⟨u, hu⟩ : ∃ u, IntKind.i64.wrap (n - 1) = u := ⟨_, rfl⟩
  have HU : Hid ((1 ≤ n ∧ n ≤ 12) → u = n - 1) := fun hn => by rw [← hu, IntKind.wrap_i64]; omega
  have CL : Hid (∀ w', Since W.heap.size W w' → ∀ p q : Int, Calls Try.prog 78 #[.slice a1 l.length c1, .int .i64 p, .int .i64 q] w' fun e w2 => e = .returned (.int .i64 (lastTd l p q)) ∧ Below w'.heap.size w' w2) := fun w' hs p q => l8Told_any w' _ l p q (HRD.out w' hs) hl
  have HC1 : Hid (∀ j, j < l.length → ∃ g1 o1, a1 = some ⟨g1, o1, none⟩ ∧ ∀ W1, Since W.heap.size W W1 → ∀ (hj : j < l.length), TdAt W1 g1 (o1 + j * 3) l[j]) := fun j hj => by
    obtain ⟨g1, o1, ha, hg1, hc⟩ := hc1.resolve_left (fun e => by rw [e] at hj; exact absurd hj (Nat.not_lt_zero _))
    exact ⟨g1, o1, ha, fun W1 hS hj => (hc j hj).below hg1 hS.1⟩
  clear hc1 HRD
  go_enter Try.func40, Try.ntmps40
  go_wp2
  go_loopw [15] (fun i wr => ∃ k : Nat, k ≤ l.length ∧ i = .int .i64 k ∧ Hid ((∀ j (hj : j < l.length), j < k → okT u l[j] = true) ∧ Since W.heap.size W wr)) (fun i _ => l.length - (intOf i).toNat)
  case atStart => exact ⟨0, Nat.zero_le _, rfl, fun j _ hj => absurd hj (Nat.not_lt_zero _), HS0.out⟩
  case round =>
    clear HS0
    obtain ⟨k, hk, rfl, HK⟩ := hrel
    by_cases hlt : k < l.length
    · obtain ⟨hA, hS⟩ := HK.out
      have hlt' : (k : Int) < (l.length : Int) := by omega
      obtain ⟨g1, o1, rfl, hat⟩ := HC1.out k hlt
      obtain ⟨q0, q1, q2⟩ := hat wr hS hlt
      have HNO : Hid (okT u l[k] = false → ok = false ∧ out = []) := fun ho => by
        have := HOK.out.trans (goodT_no n u l k HU.out hlt ho)
        exact ⟨this, HGO.out.1 this⟩
      have HYES : Hid (okT u l[k] = true → ∀ j (hj : j < l.length), j < k + 1 → okT u l[j] = true) := fun ho j hj hjk => by
        by_cases e : j = k
        · subst e; exact ho
        · exact hA j hj (by omega)
      generalize l[k] = x at *
      have HS1 : Hid (Since W.heap.size W (wr.alloc (.cells #[.int .i64 x.By, .int .i64 x.Near, .int .i64 x.Cost] 71))) := hS.step ((Below.refl _ wr).alloc (Nat.le_refl _) _)
      obtain ⟨c0, c1', c2⟩ := newTd wr x (wr.alloc (.cells #[.int .i64 x.By, .int .i64 x.Near, .int .i64 x.Cost] 71)) (Since.start _)
      have HOT : Hid (okT u x = (decide (0 ≤ x.By ∧ x.By ≤ u) && (decide (0 ≤ x.Near ∧ x.Near ≤ u) && (!(x.By == x.Near) && decide (1 ≤ x.Cost ∧ x.Cost ≤ 100))))) := rfl
      clear hA hS HK hat
      go_wp2_with fail
      refine (l1In_any x.By 0 u _).mono ?_
      rintro e ww ⟨rfl, hww⟩
      obtain rfl := hww
      cases d1 : decide (0 ≤ x.By ∧ x.By ≤ u) with
      | false =>
        have HF : Hid (ok = false ∧ out = []) := HNO.out (HOT.out.trans (by rw [d1]; rfl))
        clear HNO HYES HOT
        go_wp2
        refine bodyPost_ret (results_tmp2 rfl _ _ _) rfl ?_
        exact EdPost.zero HF.out.1 HF.out.2 HS1.out.1
      | true =>
      go_wp2_with fail
      refine (l1In_any x.Near 0 u _).mono ?_
      rintro e ww ⟨rfl, hww⟩
      obtain rfl := hww
      cases d2 : decide (0 ≤ x.Near ∧ x.Near ≤ u) with
      | false =>
        have HF : Hid (ok = false ∧ out = []) := HNO.out (HOT.out.trans (by rw [d1, d2]; rfl))
        clear HNO HYES HOT
        go_wp2
        refine bodyPost_ret (results_tmp2 rfl _ _ _) rfl ?_
        exact EdPost.zero HF.out.1 HF.out.2 HS1.out.1
      | true =>
      cases d3 : (x.By == x.Near) with
      | true =>
        have HF : Hid (ok = false ∧ out = []) := HNO.out (HOT.out.trans (by rw [d1, d2, d3]; rfl))
        clear HNO HYES HOT
        go_wp2
        refine bodyPost_ret (results_tmp2 rfl _ _ _) rfl ?_
        exact EdPost.zero HF.out.1 HF.out.2 HS1.out.1
      | false =>
      go_wp2_with fail
      refine (l1In_any x.Cost 1 100 _).mono ?_
      rintro e ww ⟨rfl, hww⟩
      obtain rfl := hww
      cases d4 : decide (1 ≤ x.Cost ∧ x.Cost ≤ 100) with
      | false =>
        have HF : Hid (ok = false ∧ out = []) := HNO.out (HOT.out.trans (by rw [d1, d2, d3, d4]; rfl))
        clear HNO HYES HOT
        go_wp2
        refine bodyPost_ret (results_tmp2 rfl _ _ _) rfl ?_
        exact EdPost.zero HF.out.1 HF.out.2 HS1.out.1
      | true =>
      have HA1 : Hid (∀ j (hj : j < l.length), j < k + 1 → okT u l[j] = true) := HYES.out (HOT.out.trans (by rw [d1, d2, d3, d4]; rfl))
      clear HNO HYES HOT
      go_wp2
      go_roundw
      case rel => exact ⟨k + 1, by omega, by go_num, HA1.out, HS1.out⟩
      case measure => simp [intOf]; omega
    · have HALL : Hid (∀ j (hj : j < l.length), okT u l[j] = true) := fun j hj => HK.out.1 j hj (by omega)
      have HS1 : Hid (Since W.heap.size W wr) := HK.out.2
      have hlt' : ¬ (k : Int) < (l.length : Int) := by omega
      clear HK HC1
      go_wp2_with fail
      refine (l1In_any n 1 12 _).mono ?_
      rintro e ww ⟨rfl, hww⟩
      obtain rfl := hww
      cases hn : decide (1 ≤ n ∧ n ≤ 12) with
      | false =>
        have HF : Hid (ok = false ∧ out = []) := by
          have : ok = false := HOK.out.trans (goodJTd_head n l 80 (.inl (of_decide_eq_false hn)))
          exact ⟨this, HGO.out.1 this⟩
        clear hn
        go_wp2
        refine bodyPost_ret (results_tmp2 rfl _ _ _) rfl ?_
        exact EdPost.zero HF.out.1 HF.out.2 HS1.out.1
      | true =>
      have hn12 := of_decide_eq_true hn
      by_cases h80 : 80 < (l.length : Int)
      · have HF : Hid (ok = false ∧ out = []) := by
          have : ok = false := HOK.out.trans (goodJTd_head n l 80 (.inr (by omega)))
          exact ⟨this, HGO.out.1 this⟩
        clear hn
        go_wp2
        refine bodyPost_ret (results_tmp2 rfl _ _ _) rfl ?_
        exact EdPost.zero HF.out.1 HF.out.2 HS1.out.1
      have HG : Hid (ok = true) := HOK.out.trans (goodJTd_yes n l 80 hn12 (by omega) fun j hj => by
        rw [← okT_ok n u (HU.out hn12)]
        exact HALL.out j hj)
      have HL40 : Hid ((bwAll l n.toNat n.toNat).length ≤ 40) := HRL.out (HOK.out.symm.trans HG.out)
      have HF0 : Hid (out = bwAll l n.toNat n.toNat) := HGO.out.2 HG.out
      clear HOK HGO HRL HU hu HALL hn
      obtain ⟨m, rfl⟩ : ∃ m : Nat, n = (m : Int) := ⟨n.toNat, by omega⟩
      have hm12 : m ≤ 12 := by omega
      have HF : Hid (out = bwAll l m m) := HF0.out
      have HL4 : Hid ((bwAll l m m).length ≤ 40) := HL40.out
      clear HF0 HL40
      clear hlt hlt' hk
      go_wp2
      go_loopw [8, 9] (fun u i wr => ∃ k : Nat, k ≤ m ∧ i = .int .i64 k ∧ Hid (OwnEd wr W.heap.size u (bwAll l m k) ∧ Since W.heap.size W wr)) (fun _ i _ => m - (intOf i).toNat)
      case atStart => exact ⟨0, Nat.zero_le _, rfl, OwnEd.nil _ _, HS1.out⟩
      case round =>
        clear HS1
        obtain ⟨k, hk, rfl, HK⟩ := hrel
        obtain ⟨a2, c2, rfl⟩ := HK.out.1.shape
        by_cases hlt : k < m
        · have hlt' : (k : Int) < (m : Int) := by omega
          go_wp2
          go_loopw [8, 10] (fun u i wr => ∃ b : Nat, k + 1 ≤ b ∧ b ≤ m ∧ i = .int .i64 b ∧ Hid (OwnEd wr W.heap.size u (bwAll l m k ++ bwRow l k b) ∧ Since W.heap.size W wr)) (fun _ i _ => m - (intOf i).toNat)
          case atStart => exact ⟨k + 1, Nat.le_refl _, by omega, by go_num, by rw [bwRow_start l k (k + 1) (Nat.le_refl _), List.append_nil]; exact HK.out.1, HK.out.2⟩
          case round =>
            clear HK
            obtain ⟨b, hb0, hb, rfl, HK⟩ := hrel
            have HLZ : Hid ((bwAll l m k ++ bwRow l k b).length ≤ 300) := by
              show _ ≤ _
              have h1 := bwAll_len l m k
              have h2 := bwRow_len l k b
              have h3 : k * m ≤ 12 * 12 := Nat.mul_le_mul (by omega) (by omega)
              rw [List.length_append]
              omega
            have HEND : Hid (b = m → bwAll l m k ++ bwRow l k b = bwAll l m (k + 1)) := fun e => by rw [e]; rfl
            have HNX : Hid (bwAll l m k ++ bwRow l k (b + 1) = (bwAll l m k ++ bwRow l k b) ++ bwOne l (k : Int) (b : Int)) := by
              show _ = _
              rw [bwRow_next l k b (by omega), List.append_assoc]
            generalize bwAll l m k ++ bwRow l k b = zz at *
            obtain ⟨a2, c2, rfl⟩ := HK.out.1.shape
            by_cases hltb : b < m
            · have hltb' : (b : Int) < (m : Int) := by omega
              have HLN : Hid (zz.length ≤ 300) := HLZ.out
              obtain ⟨p, hp⟩ : ∃ p, p = lastTd l (k : Int) (b : Int) := ⟨_, rfl⟩
              obtain ⟨q, hq⟩ : ∃ q, q = lastTd l (b : Int) (k : Int) := ⟨_, rfl⟩
              have HNB : Hid (bwAll l m k ++ bwRow l k (b + 1) = zz ++ if 0 < p ∧ 0 < q then [(⟨(k : Int), (b : Int), max p q⟩ : EdD)] else []) := by
                show _ = _
                rw [HNX.out, hp, hq]
                rfl
              clear HNX HEND HLZ
              have C1 : Hid (∀ w', Since W.heap.size W w' → Calls Try.prog 78 #[.slice a1 l.length c1, .int .i64 (k : Int), .int .i64 (b : Int)] w' fun e w2 => e = .returned (.int .i64 p) ∧ Below w'.heap.size w' w2) := fun w' hs => by
                rw [hp]
                exact CL.out w' hs _ _
              have C2 : Hid (∀ w', Since W.heap.size W w' → Calls Try.prog 78 #[.slice a1 l.length c1, .int .i64 (b : Int), .int .i64 (k : Int)] w' fun e w2 => e = .returned (.int .i64 q) ∧ Below w'.heap.size w' w2) := fun w' hs => by
                rw [hq]
                exact CL.out w' hs _ _
              clear hp hq
              go_wp2_with fail
              refine (C1.out _ HK.out.2).mono ?_
              rintro e w1 ⟨rfl, hb1⟩
              have S1 : Hid (Since W.heap.size W w1) := HK.out.2.step hb1
              have O1 : Hid (OwnEd w1 W.heap.size (.slice a2 zz.length c2) zz) := HK.out.1.below hb1
              clear HK hb1
              go_wp2_with fail
              refine (C2.out _ S1.out).mono ?_
              rintro e w2 ⟨rfl, hb2⟩
              have S2 : Hid (Since W.heap.size W w2) := S1.out.step hb2
              have O2 : Hid (OwnEd w2 W.heap.size (.slice a2 zz.length c2) zz) := O1.out.below hb2
              clear O1 S1 hb2 C1 C2
              by_cases hp : 0 < p
              · by_cases hq : 0 < q
                · have HB1 : Hid (bwAll l m k ++ bwRow l k (b + 1) = zz ++ [(⟨(k : Int), (b : Int), max p q⟩ : EdD)]) := by
                    show _ = _
                    rw [HNB.out, if_pos ⟨hp, hq⟩]
                  clear HNB
                  by_cases hlt : p < q
                  · have HMX : Hid (max p q = q) := Int.max_eq_right (by omega)
                    have HZ : Hid (bwAll l m k ++ bwRow l k (b + 1) = zz ++ [(⟨(k : Int), (b : Int), q⟩ : EdD)]) := HB1.out.trans (by rw [HMX.out])
                    have HA : Hid (∀ ty, ∃ v' w', (Builtin.append_ #[54, 54] ty #[.slice a2 zz.length c2, .slice (some ⟨w2.heap.size, 0, none⟩) 1 1]).run Try.prog (w2.alloc (.cells #[.int .i64 (k : Int), .int .i64 (b : Int), .int .i64 q] 61)) = .ok v' w' ∧ Grown (w2.alloc (.cells #[.int .i64 (k : Int), .int .i64 (b : Int), .int .i64 q] 61)) W.heap.size 61 3 (.slice a2 zz.length c2) (zz ++ [(⟨(k : Int), (b : Int), q⟩ : EdD)]).length (cellsEd (zz ++ [(⟨(k : Int), (b : Int), q⟩ : EdD)])) v' w') := fun ty => run_appEd _ W.heap.size _ zz (O2.out.below ((Below.refl _ w2).alloc (Nat.le_refl _) _)) _ [(⟨(k : Int), (b : Int), q⟩ : EdD)] (srcEd_new w2 ⟨(k : Int), (b : Int), q⟩ 1) (by have := HLN.out; simp only [List.length_cons, List.length_nil]; omega) (Nat.le_trans S2.out.2 (by simp)) ty
                    have S3 : Hid (Since W.heap.size W (w2.alloc (.cells #[.int .i64 (k : Int), .int .i64 (b : Int), .int .i64 q] 61))) := S2.out.step ((Below.refl _ w2).alloc (Nat.le_refl _) _)
                    go_wp2_with (at_builtin; refine list_app (by rfl) (.tmp 85) (.tmp 90) 54 (by rfl) (.slice a2 zz.length c2) (.slice (some ⟨w2.heap.size, 0, none⟩) 1 1) (by rfl) (by rfl) _ HA.out ?_; intro v5 w5 hg5; have HF : Hid (OwnEd w5 W.heap.size v5 (bwAll l m k ++ bwRow l k (b + 1)) ∧ Since W.heap.size W w5) := ⟨by rw [HZ.out]; exact hg5.own, ⟨S3.out.1.trans hg5.below, Nat.le_trans S3.out.2 hg5.size⟩⟩; clear hg5)
                    go_roundw
                    case rel => exact ⟨b + 1, by omega, by omega, by go_num, HF.out⟩
                    case measure => simp [intOf]; omega
                  · have HMX : Hid (max p q = p) := Int.max_eq_left (by omega)
                    have HZ : Hid (bwAll l m k ++ bwRow l k (b + 1) = zz ++ [(⟨(k : Int), (b : Int), p⟩ : EdD)]) := HB1.out.trans (by rw [HMX.out])
                    have HA : Hid (∀ ty, ∃ v' w', (Builtin.append_ #[54, 54] ty #[.slice a2 zz.length c2, .slice (some ⟨w2.heap.size, 0, none⟩) 1 1]).run Try.prog (w2.alloc (.cells #[.int .i64 (k : Int), .int .i64 (b : Int), .int .i64 p] 61)) = .ok v' w' ∧ Grown (w2.alloc (.cells #[.int .i64 (k : Int), .int .i64 (b : Int), .int .i64 p] 61)) W.heap.size 61 3 (.slice a2 zz.length c2) (zz ++ [(⟨(k : Int), (b : Int), p⟩ : EdD)]).length (cellsEd (zz ++ [(⟨(k : Int), (b : Int), p⟩ : EdD)])) v' w') := fun ty => run_appEd _ W.heap.size _ zz (O2.out.below ((Below.refl _ w2).alloc (Nat.le_refl _) _)) _ [(⟨(k : Int), (b : Int), p⟩ : EdD)] (srcEd_new w2 ⟨(k : Int), (b : Int), p⟩ 1) (by have := HLN.out; simp only [List.length_cons, List.length_nil]; omega) (Nat.le_trans S2.out.2 (by simp)) ty
                    have S3 : Hid (Since W.heap.size W (w2.alloc (.cells #[.int .i64 (k : Int), .int .i64 (b : Int), .int .i64 p] 61))) := S2.out.step ((Below.refl _ w2).alloc (Nat.le_refl _) _)
                    go_wp2_with (at_builtin; refine list_app (by rfl) (.tmp 85) (.tmp 90) 54 (by rfl) (.slice a2 zz.length c2) (.slice (some ⟨w2.heap.size, 0, none⟩) 1 1) (by rfl) (by rfl) _ HA.out ?_; intro v5 w5 hg5; have HF : Hid (OwnEd w5 W.heap.size v5 (bwAll l m k ++ bwRow l k (b + 1)) ∧ Since W.heap.size W w5) := ⟨by rw [HZ.out]; exact hg5.own, ⟨S3.out.1.trans hg5.below, Nat.le_trans S3.out.2 hg5.size⟩⟩; clear hg5)
                    go_roundw
                    case rel => exact ⟨b + 1, by omega, by omega, by go_num, HF.out⟩
                    case measure => simp [intOf]; omega
                · have HB0 : Hid (bwAll l m k ++ bwRow l k (b + 1) = zz) := by
                    show _ = _
                    rw [HNB.out, if_neg fun e => hq e.2, List.append_nil]
                  clear HNB
                  have HF : Hid (OwnEd w2 W.heap.size (.slice a2 zz.length c2) (bwAll l m k ++ bwRow l k (b + 1)) ∧ Since W.heap.size W w2) := ⟨by rw [HB0.out]; exact O2.out, S2.out⟩
                  go_wp2
                  go_roundw
                  case rel => exact ⟨b + 1, by omega, by omega, by go_num, HF.out⟩
                  case measure => simp [intOf]; omega
              · have HB0 : Hid (bwAll l m k ++ bwRow l k (b + 1) = zz) := by
                  show _ = _
                  rw [HNB.out, if_neg fun e => hp e.1, List.append_nil]
                clear HNB
                have HF : Hid (OwnEd w2 W.heap.size (.slice a2 zz.length c2) (bwAll l m k ++ bwRow l k (b + 1)) ∧ Since W.heap.size W w2) := ⟨by rw [HB0.out]; exact O2.out, S2.out⟩
                go_wp2
                go_roundw
                case rel => exact ⟨b + 1, by omega, by omega, by go_num, HF.out⟩
                case measure => simp [intOf]; omega
            · have hltb' : ¬ (b : Int) < (m : Int) := by omega
              have HF : Hid (OwnEd wr W.heap.size (.slice a2 zz.length c2) (bwAll l m (k + 1)) ∧ Since W.heap.size W wr) := ⟨by rw [← HEND.out (by omega)]; exact HK.out.1, HK.out.2⟩
              clear HK
              go_wp2
              go_roundw
              case rel => exact ⟨k + 1, by omega, by go_num, HF.out⟩
              case measure => simp [intOf]; omega
        · have hlt' : ¬ (k : Int) < (m : Int) := by omega
          have e : k = m := by omega
          subst e
          have HE : Hid (OwnEd wr W.heap.size (.slice a2 (bwAll l k k).length c2) (bwAll l k k) ∧ Below W.heap.size W wr) := ⟨HK.out.1, HK.out.2.1⟩
          clear HK
          have h40 : ¬ (40 : Int) < ((bwAll l k k).length : Int) := by have := HL4.out; omega
          go_wp2
          refine bodyPost_ret (results_tmp2 rfl _ _ _) rfl ?_
          exact EdPost.mk HG.out HF.out HE.out.1 HE.out.2
end Go.Proofs.Ytchddjidjfpehac
