/-
  'TreesFor' of the program and of the model.
-/
import Derived.Test.YthlbmkefjjckaagTrAtS
import Derived.Test.YthlbmkefjjckaagAppSS
namespace Go.Proofs.Ythlbmkefjjckaag
open Go.RowKit
set_option linter.unusedVariables false

def tfsT (n : Nat) (l : List EdD) (k : Nat) : List (List Int) := (List.range k).map fun r : Nat => treeD n l (r : Int)
theorem tfsT_succ (n : Nat) (l : List EdD) (k : Nat) : tfsT n l (k + 1) = tfsT n l k ++ [treeD n l (k : Int)] := by simp [tfsT, List.range_succ]
theorem tfsT_len (n : Nat) (l : List EdD) (k : Nat) : (tfsT n l k).length = k := by simp [tfsT]
theorem treeD_len (n : Nat) (l : List EdD) (r : Int) : (treeD n l r).length = n := treeT_len ..
theorem tfsT_in (n : Nat) (l : List EdD) (k j : Nat) (h : j < (tfsT n l k).length) : (tfsT n l k)[j].length = n := by
  simp only [tfsT, List.getElem_map]
  exact treeD_len ..
def tfOk (n : Int) (l : List EdD) (m : Int) : Bool := goodEd n l && decide (0 ≤ m ∧ m ≤ n)
def tfOut (n : Int) (l : List EdD) (m : Int) : List (List Int) := if tfOk n l m then tfsT n.toNat l m.toNat else []
theorem tfOk_true {n : Int} {l : List EdD} {m : Int} (h : tfOk n l m = true) : goodEd n l = true ∧ 0 ≤ m ∧ m ≤ n := by
  unfold tfOk at h
  rw [Bool.and_eq_true] at h
  exact ⟨h.1, of_decide_eq_true h.2⟩
theorem tfOut_len (n : Int) (l : List EdD) (m : Int) : (tfOut n l m).length ≤ 4194304 ∧ (∀ j (hj : j < (tfOut n l m).length), (tfOut n l m)[j].length ≤ 1048576) ∧ ∀ k, k ≤ (tfOut n l m).length → sumL (tfOut n l m) k ≤ 2097152 := by
  by_cases h : tfOk n l m = true
  · have h1 := tfOk_true h
    have hn := (goodEd_true h1.1).1
    have e : tfOut n l m = tfsT n.toNat l m.toNat := by rw [tfOut, if_pos h]
    rw [e]
    have hlen : (tfsT n.toNat l m.toNat).length ≤ 12 := by rw [tfsT_len]; omega
    have hin : ∀ j (hj : j < (tfsT n.toNat l m.toNat).length), (tfsT n.toNat l m.toNat)[j].length ≤ 12 := fun j hj => by rw [tfsT_in]; omega
    refine ⟨by omega, fun j hj => Nat.le_trans (hin j hj) (by decide), fun k hk => ?_⟩
    have : ∀ k, k ≤ (tfsT n.toNat l m.toNat).length → sumL (tfsT n.toNat l m.toNat) k ≤ 12 * k := fun k => by
      induction k with
      | zero => intro _; simp [sumL]
      | succ k ih => intro hk; rw [sumL_next _ k (by omega)]; have := ih (by omega); have := hin k (by omega); omega
    have := this k hk
    omega
  · have e : tfOut n l m = [] := by rw [tfOut, if_neg h]
    rw [e]
    exact ⟨by simp, fun j hj => absurd hj (by simp), fun k hk => by simp [sumL]⟩
def TfPost (W : World) (out : List (List Int)) (ok : Bool) (e : Ending) (W' : World) : Prop := ∃ u, e = .returned (.tuple #[u, .bool ok]) ∧ (∃ vs, OwnSS W' W.heap.size u vs out) ∧ Below W.heap.size W W'

set_option maxRecDepth 100000 in
set_option maxHeartbeats 4000000 in
theorem implTreesFor_any (W : World) (v : Value) (n : Int) (l : List EdD) (m : Int) (h : ReadsEd W v l) (hl : l.length ≤ 2097152) :
    Calls Try.prog 31 #[.int .i64 n, v, .int .i64 m] W (TfPost W (tfOut n l m) (tfOk n l m)) := by
  have CG : Hid (Calls Try.prog 49 #[.int .i64 n, v] W fun e W' => e = .returned (.bool (goodEd n l)) ∧ Below W.heap.size W W') := implGoodEd_any W v n l h hl
  have HRD : Hid (∀ w', Since W.heap.size W w' → ReadsEd w' v l) := fun w' hs => h.below hs.1
  have HS0 : Hid (Since W.heap.size W W) := Since.start W
  obtain ⟨a1, c1, rfl⟩ := h.shape
  have HD : Hid (tfOk n l m = (goodEd n l && decide (0 ≤ m ∧ m ≤ n)) ∧ tfOut n l m = if tfOk n l m then tfsT n.toNat l m.toNat else []) := ⟨rfl, rfl⟩
  generalize tfOk n l m = ok at *
  generalize tfOut n l m = out at *
  clear h
  cases hg : goodEd n l with
  | false =>
    have HF : Hid (ok = false ∧ out = []) := by
      have h1 : ok = false := HD.out.1.trans (by rw [hg]; rfl)
      exact ⟨h1, HD.out.2.trans (by rw [h1]; rfl)⟩
    rw [hg] at CG
    clear hg HD
    go_enter Try.func31, Try.ntmps31
    go_wp2_with fail
    refine CG.out.mono ?_
    rintro e w1 ⟨rfl, hb1⟩
    have HS1 : Hid (Since W.heap.size W w1) := HS0.out.step hb1
    clear hb1
    go_wp2
    refine bodyPost_ret (results_tmp2 rfl _ _ _) rfl ?_
    exact ⟨_, by rw [HF.out.1]; rfl, ⟨_, by rw [HF.out.2]; exact OwnSS.nil _ _⟩, HS1.out.1⟩
  | true =>
    obtain ⟨g1, g2, g3, g4⟩ := goodEd_true hg
    rw [hg] at CG
    cases hs : decide (0 ≤ m ∧ m ≤ n) with
    | false =>
      have HF : Hid (ok = false ∧ out = []) := by
        have h1 : ok = false := HD.out.1.trans (by rw [hg, hs]; rfl)
        exact ⟨h1, HD.out.2.trans (by rw [h1]; rfl)⟩
      clear HD
      by_cases h1 : m < 0
      · have h1 : decide (m < 0) = true := decide_eq_true h1
        clear hg hs g1 g2 g3 g4
        go_enter Try.func31, Try.ntmps31
        go_wp2_with fail
        refine CG.out.mono ?_
        rintro e w1 ⟨rfl, hb1⟩
        have HS1 : Hid (Since W.heap.size W w1) := HS0.out.step hb1
        clear hb1
        go_wp2
        refine bodyPost_ret (results_tmp2 rfl _ _ _) rfl ?_
        exact ⟨_, by rw [HF.out.1]; rfl, ⟨_, by rw [HF.out.2]; exact OwnSS.nil _ _⟩, HS1.out.1⟩
      · have h2 : decide (n < m) = true := decide_eq_true (by have := of_decide_eq_false hs; omega)
        have h1 : decide (m < 0) = false := decide_eq_false h1
        clear hg hs g1 g2 g3 g4
        go_enter Try.func31, Try.ntmps31
        go_wp2_with fail
        refine CG.out.mono ?_
        rintro e w1 ⟨rfl, hb1⟩
        have HS1 : Hid (Since W.heap.size W w1) := HS0.out.step hb1
        clear hb1
        go_wp2
        refine bodyPost_ret (results_tmp2 rfl _ _ _) rfl ?_
        exact ⟨_, by rw [HF.out.1]; rfl, ⟨_, by rw [HF.out.2]; exact OwnSS.nil _ _⟩, HS1.out.1⟩
    | true =>
      have hm := of_decide_eq_true hs
      obtain ⟨N, rfl⟩ : ∃ N : Nat, n = (N : Int) := ⟨n.toNat, by omega⟩
      obtain ⟨M, hM⟩ : ∃ M : Nat, m = (M : Int) := ⟨m.toNat, by omega⟩
      have HM : Hid (m = (M : Int)) := hM
      have hN1 : 1 ≤ N := by omega
      have hN2 : N ≤ 12 := by omega
      have hMN : M ≤ N := by omega
      have HF : Hid (ok = true ∧ out = tfsT N l M) := by
        have h1 : ok = true := HD.out.1.trans (by rw [hg, hs]; rfl)
        exact ⟨h1, HD.out.2.trans (by rw [h1, hM]; rfl)⟩
      have CT : Hid (∀ (w' : World) (k : Nat), Since W.heap.size W w' → k < N → Calls Try.prog 55 #[.int .i64 (N : Int), .slice a1 l.length c1, .int .i64 (k : Int)] w' fun e w2 => ∃ u, e = .returned u ∧ Own w2 w'.heap.size u (treeD N l (k : Int)) ∧ Below w'.heap.size w' w2) := fun w' k hs hk => treeAt_any w' _ l N (k : Int) (HRD.out w' hs) g3 ⟨hN1, hN2⟩ g2 ⟨by omega, by omega⟩
      have HTL : Hid (∀ k : Nat, (tfsT N l k).length = k ∧ tfsT N l (k + 1) = tfsT N l k ++ [treeD N l (k : Int)] ∧ (treeD N l (k : Int)).length = N) := fun k => ⟨tfsT_len .., tfsT_succ .., treeD_len ..⟩
      have HT0 : Hid (tfsT N l 0 = []) := rfl
      have h1 : decide (m < 0) = false := decide_eq_false (by omega)
      have h2 : decide ((N : Int) < m) = false := decide_eq_false (by omega)
      obtain ⟨tt, htt⟩ : ∃ tt, tt = tfsT N l := ⟨_, rfl⟩
      rw [← htt] at HTL HT0 HF
      clear htt hg HD hm g1 g2 g3 g4 HRD hM
      go_enter Try.func31, Try.ntmps31
      go_wp2_with fail
      refine CG.out.mono ?_
      rintro e w1 ⟨rfl, hb1⟩
      have HS1 : Hid (Since W.heap.size W w1) := HS0.out.step hb1
      clear hb1
      go_wp2
      go_loopw [8, 24] (fun u t wr => ∃ k : Nat, k ≤ M ∧ t = .int .i64 k ∧ Hid ((∃ vs, OwnSS wr W.heap.size u vs (tt k)) ∧ Since W.heap.size W wr)) (fun _ t _ => M - (intOf t).toNat)
      case atStart => exact ⟨0, Nat.zero_le _, rfl, ⟨[], by rw [HT0.out]; exact OwnSS.nil _ _⟩, HS1.out⟩
      case round =>
        obtain ⟨k, hk, rfl, HK⟩ := hrel
        obtain ⟨⟨vs, hos⟩, hsw⟩ := HK.out
        have hlk := HTL.out k
        obtain ⟨ad, cd, rfl⟩ := hos.shape
        rw [hlk.1] at hos ⊢
        have hvl : vs.length = k := by rw [hos.len]; exact hlk.1
        have HO : Hid (OwnSS wr W.heap.size (.slice ad k cd) vs (tt k) ∧ Since W.heap.size W wr) := ⟨hos, hsw⟩
        clear hos hsw HK
        by_cases hlt : k < M
        · have hlt' : (k : Int) < m := by have := HM.out; omega
          have HNX : Hid (tt (k + 1) = tt k ++ [treeD N l (k : Int)] ∧ (treeD N l (k : Int)).length = N) := hlk.2
          go_wp2_with fail
          refine (CT.out wr k HO.out.2 (by omega)).mono ?_
          rintro e w2 ⟨v2, rfl, ho2, hb2⟩
          generalize treeD N l (k : Int) = zz at *
          obtain ⟨a5, c5, hv5⟩ := ho2.shape
          rw [HNX.out.2] at hv5
          subst hv5
          have HO1 : Hid (Own w2 W.heap.size (.slice a5 N c5) zz) := ho2.mono HO.out.2.2
          have HOw : Hid (OwnSS w2 W.heap.size (.slice ad k cd) vs (tt k)) := HO.out.1.below hb2
          have HS2 : Hid (Since W.heap.size W w2) := HO.out.2.step hb2
          have HAPA : Hid (∀ j (hj : j < vs.length), ∀ b, vs[j].ownBlock = some b → (Value.slice a5 N c5).ownBlock ≠ some b) := fun j hj b hb hb3 => by
            have := (World.ownsRow.lt (HO.out.1.inner j hj) b hb).2
            have := (World.ownsRow.lt ho2 b hb3).1
            omega
          have HAP : Hid (∀ ty, ∃ v' w', (Builtin.append_ #[47, 47] ty #[.slice ad k cd, .slice (some ⟨w2.heap.size, 0, none⟩) 1 1]).run Try.prog (w2.alloc (.cells #[.slice a5 N c5] 22)) = .ok v' w' ∧ Grown (w2.alloc (.cells #[.slice a5 N c5] 22)) W.heap.size 22 1 (.slice ad k cd) (vs ++ [Value.slice a5 N c5]).length (vs ++ [Value.slice a5 N c5]) v' w') := fun ty => run_appSS w2 W.heap.size _ vs _ _ _ HOw.out.row (by omega) HS2.out.2 ty
          clear ho2 hb2 CT HO hlk
          go_wp2_with (at_builtin; refine list_app (by rfl) (.tmp 27) (.tmp 32) 47 (by rfl) (.slice ad k cd) (.slice (some ⟨w2.heap.size, 0, none⟩) 1 1) (by rfl) (by rfl) _ HAP.out ?_; intro v7 w7 hg7; have HG : Hid ((∃ us', OwnSS w7 W.heap.size v7 us' (tt (k + 1))) ∧ Since W.heap.size W w7) := ⟨⟨_, by rw [HNX.out.1]; exact HOw.out.add HO1.out HAPA.out hg7⟩, ⟨(HS2.out.1.alloc HS2.out.2 _).trans hg7.below, Nat.le_trans HS2.out.2 (Nat.le_trans (by simp) hg7.size)⟩⟩; clear hg7)
          go_roundw
          case rel => exact ⟨k + 1, by omega, by go_num, HG.out⟩
          case measure => simp [intOf]; omega
        · have hlt' : ¬ ((k : Int) < m) := by have := HM.out; omega
          have e : k = M := by omega
          subst e
          have HE : Hid ((∃ us', OwnSS wr W.heap.size (.slice ad k cd) us' (tt k)) ∧ Below W.heap.size W wr) := ⟨⟨_, HO.out.1⟩, HO.out.2.1⟩
          clear HO CT
          go_wp2
          refine bodyPost_ret (results_tmp2 rfl _ _ _) rfl ?_
          exact ⟨_, by rw [HF.out.1]; rfl, by rw [HF.out.2]; exact HE.out.1, HE.out.2⟩

set_option maxRecDepth 100000 in
set_option maxHeartbeats 4000000 in
theorem specTreesFor_any (W : World) (v : Value) (n : Int) (l : List EdD) (m : Int) (h : ReadsEd W v l) (hl : l.length ≤ 2097152) :
    Calls Try.prog 30 #[.int .i64 n, v, .int .i64 m] W (TfPost W (tfOut n l m) (tfOk n l m)) := by
  have CG : Hid (Calls Try.prog 46 #[.int .i64 n, v] W fun e W' => e = .returned (.bool (goodEd n l)) ∧ Below W.heap.size W W') := specGoodEd_any W v n l h hl
  have HRD : Hid (∀ w', Since W.heap.size W w' → ReadsEd w' v l) := fun w' hs => h.below hs.1
  have HS0 : Hid (Since W.heap.size W W) := Since.start W
  obtain ⟨a1, c1, rfl⟩ := h.shape
  have HD : Hid (tfOk n l m = (goodEd n l && decide (0 ≤ m ∧ m ≤ n)) ∧ tfOut n l m = if tfOk n l m then tfsT n.toNat l m.toNat else []) := ⟨rfl, rfl⟩
  generalize tfOk n l m = ok at *
  generalize tfOut n l m = out at *
  clear h
  cases hg : goodEd n l with
  | false =>
    have HF : Hid (ok = false ∧ out = []) := by
      have h1 : ok = false := HD.out.1.trans (by rw [hg]; rfl)
      exact ⟨h1, HD.out.2.trans (by rw [h1]; rfl)⟩
    rw [hg] at CG
    clear hg HD
    go_enter Try.func30, Try.ntmps30
    go_wp2_with fail
    refine CG.out.mono ?_
    rintro e w1 ⟨rfl, hb1⟩
    have HS1 : Hid (Since W.heap.size W w1) := HS0.out.step hb1
    clear hb1
    go_wp2
    refine bodyPost_ret (results_tmp2 rfl _ _ _) rfl ?_
    exact ⟨_, by rw [HF.out.1]; rfl, ⟨_, by rw [HF.out.2]; exact OwnSS.nil _ _⟩, HS1.out.1⟩
  | true =>
    obtain ⟨g1, g2, g3, g4⟩ := goodEd_true hg
    rw [hg] at CG
    cases hs : decide (0 ≤ m ∧ m ≤ n) with
    | false =>
      have HF : Hid (ok = false ∧ out = []) := by
        have h1 : ok = false := HD.out.1.trans (by rw [hg, hs]; rfl)
        exact ⟨h1, HD.out.2.trans (by rw [h1]; rfl)⟩
      clear HD
      clear hg g1 g2 g3 g4
      go_enter Try.func30, Try.ntmps30
      go_wp2_with fail
      refine CG.out.mono ?_
      rintro e w1 ⟨rfl, hb1⟩
      have HS1 : Hid (Since W.heap.size W w1) := HS0.out.step hb1
      clear hb1
      go_wp2_with fail
      refine (l1In_any m 0 n w1).mono ?_
      rintro e ww ⟨rfl, hww⟩
      obtain rfl : w1 = ww := hww.symm
      rw [hs]
      go_wp2
      refine bodyPost_ret (results_tmp2 rfl _ _ _) rfl ?_
      exact ⟨_, by rw [HF.out.1]; rfl, ⟨_, by rw [HF.out.2]; exact OwnSS.nil _ _⟩, HS1.out.1⟩
    | true =>
      have hm := of_decide_eq_true hs
      obtain ⟨N, rfl⟩ : ∃ N : Nat, n = (N : Int) := ⟨n.toNat, by omega⟩
      obtain ⟨M, hM⟩ : ∃ M : Nat, m = (M : Int) := ⟨m.toNat, by omega⟩
      have HM : Hid (m = (M : Int)) := hM
      have hN1 : 1 ≤ N := by omega
      have hN2 : N ≤ 12 := by omega
      have hMN : M ≤ N := by omega
      have HF : Hid (ok = true ∧ out = tfsT N l M) := by
        have h1 : ok = true := HD.out.1.trans (by rw [hg, hs]; rfl)
        exact ⟨h1, HD.out.2.trans (by rw [h1, hM]; rfl)⟩
      have CT : Hid (∀ (w' : World) (k : Nat), Since W.heap.size W w' → k < N → Calls Try.prog 54 #[.int .i64 (N : Int), .slice a1 l.length c1, .int .i64 (k : Int)] w' fun e w2 => ∃ u, e = .returned u ∧ Own w2 w'.heap.size u (treeD N l (k : Int)) ∧ Below w'.heap.size w' w2) := fun w' k hs hk => l10At_any w' _ l N (k : Int) (HRD.out w' hs) g3 g4 ⟨hN1, hN2⟩ g2 ⟨by omega, by omega⟩
      have HTL : Hid (∀ k : Nat, (tfsT N l k).length = k ∧ tfsT N l (k + 1) = tfsT N l k ++ [treeD N l (k : Int)] ∧ (treeD N l (k : Int)).length = N) := fun k => ⟨tfsT_len .., tfsT_succ .., treeD_len ..⟩
      have HT0 : Hid (tfsT N l 0 = []) := rfl
      obtain ⟨tt, htt⟩ : ∃ tt, tt = tfsT N l := ⟨_, rfl⟩
      rw [← htt] at HTL HT0 HF
      clear htt hg HD hm g1 g2 g3 g4 HRD hM
      go_enter Try.func30, Try.ntmps30
      go_wp2_with fail
      refine CG.out.mono ?_
      rintro e w1 ⟨rfl, hb1⟩
      have HS1 : Hid (Since W.heap.size W w1) := HS0.out.step hb1
      clear hb1
      go_wp2_with fail
      refine (l1In_any m 0 (N : Int) w1).mono ?_
      rintro e ww ⟨rfl, hww⟩
      obtain rfl : w1 = ww := hww.symm
      rw [hs]
      go_wp2
      go_loopw [8, 9] (fun u t wr => ∃ k : Nat, k ≤ M ∧ t = .int .i64 k ∧ Hid ((∃ vs, OwnSS wr W.heap.size u vs (tt k)) ∧ Since W.heap.size W wr)) (fun _ t _ => M - (intOf t).toNat)
      case atStart => exact ⟨0, Nat.zero_le _, rfl, ⟨[], by rw [HT0.out]; exact OwnSS.nil _ _⟩, HS1.out⟩
      case round =>
        obtain ⟨k, hk, rfl, HK⟩ := hrel
        obtain ⟨⟨vs, hos⟩, hsw⟩ := HK.out
        have hlk := HTL.out k
        obtain ⟨ad, cd, rfl⟩ := hos.shape
        rw [hlk.1] at hos ⊢
        have hvl : vs.length = k := by rw [hos.len]; exact hlk.1
        have HO : Hid (OwnSS wr W.heap.size (.slice ad k cd) vs (tt k) ∧ Since W.heap.size W wr) := ⟨hos, hsw⟩
        clear hos hsw HK
        by_cases hlt : k < M
        · have hlt' : (k : Int) < m := by have := HM.out; omega
          have HNX : Hid (tt (k + 1) = tt k ++ [treeD N l (k : Int)] ∧ (treeD N l (k : Int)).length = N) := hlk.2
          go_wp2_with fail
          refine (CT.out wr k HO.out.2 (by omega)).mono ?_
          rintro e w2 ⟨v2, rfl, ho2, hb2⟩
          generalize treeD N l (k : Int) = zz at *
          obtain ⟨a5, c5, hv5⟩ := ho2.shape
          rw [HNX.out.2] at hv5
          subst hv5
          have HO1 : Hid (Own w2 W.heap.size (.slice a5 N c5) zz) := ho2.mono HO.out.2.2
          have HOw : Hid (OwnSS w2 W.heap.size (.slice ad k cd) vs (tt k)) := HO.out.1.below hb2
          have HS2 : Hid (Since W.heap.size W w2) := HO.out.2.step hb2
          have HAPA : Hid (∀ j (hj : j < vs.length), ∀ b, vs[j].ownBlock = some b → (Value.slice a5 N c5).ownBlock ≠ some b) := fun j hj b hb hb3 => by
            have := (World.ownsRow.lt (HO.out.1.inner j hj) b hb).2
            have := (World.ownsRow.lt ho2 b hb3).1
            omega
          have HAP : Hid (∀ ty, ∃ v' w', (Builtin.append_ #[47, 47] ty #[.slice ad k cd, .slice (some ⟨w2.heap.size, 0, none⟩) 1 1]).run Try.prog (w2.alloc (.cells #[.slice a5 N c5] 22)) = .ok v' w' ∧ Grown (w2.alloc (.cells #[.slice a5 N c5] 22)) W.heap.size 22 1 (.slice ad k cd) (vs ++ [Value.slice a5 N c5]).length (vs ++ [Value.slice a5 N c5]) v' w') := fun ty => run_appSS w2 W.heap.size _ vs _ _ _ HOw.out.row (by omega) HS2.out.2 ty
          clear ho2 hb2 CT HO hlk
          go_wp2_with (at_builtin; refine list_app (by rfl) (.tmp 25) (.tmp 30) 47 (by rfl) (.slice ad k cd) (.slice (some ⟨w2.heap.size, 0, none⟩) 1 1) (by rfl) (by rfl) _ HAP.out ?_; intro v7 w7 hg7; have HG : Hid ((∃ us', OwnSS w7 W.heap.size v7 us' (tt (k + 1))) ∧ Since W.heap.size W w7) := ⟨⟨_, by rw [HNX.out.1]; exact HOw.out.add HO1.out HAPA.out hg7⟩, ⟨(HS2.out.1.alloc HS2.out.2 _).trans hg7.below, Nat.le_trans HS2.out.2 (Nat.le_trans (by simp) hg7.size)⟩⟩; clear hg7)
          go_roundw
          case rel => exact ⟨k + 1, by omega, by go_num, HG.out⟩
          case measure => simp [intOf]; omega
        · have hlt' : ¬ ((k : Int) < m) := by have := HM.out; omega
          have e : k = M := by omega
          subst e
          have HE : Hid ((∃ us', OwnSS wr W.heap.size (.slice ad k cd) us' (tt k)) ∧ Below W.heap.size W wr) := ⟨⟨_, HO.out.1⟩, HO.out.2.1⟩
          clear HO CT
          go_wp2
          refine bodyPost_ret (results_tmp2 rfl _ _ _) rfl ?_
          exact ⟨_, by rw [HF.out.1]; rfl, by rw [HF.out.2]; exact HE.out.1, HE.out.2⟩
end Go.Proofs.Ythlbmkefjjckaag
