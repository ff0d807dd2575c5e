/-
  'markIntSS', 'heldIntSS' over lists of lists; what is kept where other rows are written.
-/
import Derived.Test.YthlbmkefjjckaagRowSS
namespace Go.Proofs.Ythlbmkefjjckaag
open Go.RowKit
set_option linter.unusedVariables false

/-- Lists with marks from k on. -/
def markL (k : Nat) : List (List Int) → List (List Int)
  | [] => []
  | zs :: r => marks (k : Int) zs.length :: markL (k + zs.length) r
theorem markL_len : ∀ (zss : List (List Int)) (k : Nat), (markL k zss).length = zss.length
  | [], k => rfl
  | zs :: r, k => by simp [markL, markL_len r]
theorem markL_get : ∀ (zss : List (List Int)) (k j : Nat) (hj : j < zss.length), (markL k zss)[j]'(by rw [markL_len]; exact hj) = marks ((k + sumL zss j : Nat) : Int) zss[j].length
  | zs :: r, k, 0, _ => by simp [markL, sumL]
  | zs :: r, k, j + 1, hj => by
    have ih := markL_get r (k + zs.length) j (by simpa using hj)
    simp only [markL, List.getElem_cons_succ]
    rw [ih]
    congr 2
    simp [sumL]
    omega

set_option maxRecDepth 100000 in
set_option maxHeartbeats 2000000 in
theorem markSSc_any (W : World) (B : Nat) (v : Value) (vs : List Value) (zss : List (List Int)) (k0 : Nat) (h : OwnSS W B v vs zss) (hl : zss.length ≤ 4194304) (hsum : ∀ k, k ≤ zss.length → sumL zss k ≤ 2097152) (hk1 : k0 ≤ 100000000) :
    Calls Try.prog 33 #[v, .int .i64 (k0 : Int)] W fun e W' => e = .returned (.int .i64 ((k0 + sumL zss zss.length : Nat) : Int)) ∧ Turned (InSS vs) W W' ∧ OwnSS W' B v vs (markL k0 zss) := by
  have HT0 : Hid (Turned (InSS vs) W W) := Turned.refl _ _
  have HLEN : Hid (vs.length = zss.length) := h.len
  have HAP : Hid (∀ i j (hi : i < vs.length) (hj : j < vs.length), i ≠ j → ∀ k, vs[i].ownBlock = some k → vs[j].ownBlock ≠ some k) := h.apart
  have HIN : Hid (∀ j (hj : j < vs.length), Own W B vs[j] (zss[j]'(by rw [← HLEN.out]; exact hj))) := h.inner
  have hro := h.row
  clear h
  rcases hro.2 with ⟨hv, hn⟩ | ⟨g, cap1, cur, hv, hB, hg, -⟩
  · have hz : zss = [] := List.eq_nil_of_length_eq_zero (by rw [← HLEN.out]; exact hn)
    have hzv : vs = [] := List.eq_nil_of_length_eq_zero hn
    subst hz hv hzv
    have HN : Hid (OwnSS W B (.slice none 0 0) [] (markL k0 [])) := ⟨rfl, World.ownsRow_nil W B _ 1, fun j hj => absurd hj (Nat.not_lt_zero _), fun i j hi => absurd hi (Nat.not_lt_zero _)⟩
    clear hro
    go_enter Try.func33, Try.ntmps33
    go_wp2
    refine wp_loop_rounds 1 ?_
    rw [rounds_succ]
    go_wp2
    go_ret
    exact ⟨by simp [sumL], HT0.out, HN.out⟩
  · rw [HLEN.out] at hv
    subst hv
    have HRO : Hid (W.ownsRow B 22 1 (.slice (some ⟨g, 0, none⟩) vs.length cap1) vs.length vs) := by rw [HLEN.out]; rw [HLEN.out] at hro; exact hro
    have HSM : Hid (∀ k, k ≤ zss.length → sumL zss k ≤ 2097152) := hsum
    clear hg hro hsum
    go_enter Try.func33, Try.ntmps33
    go_wp2
    go_loopw [1, 5] (fun x i wr => ∃ k : Nat, k ≤ zss.length ∧ i = .int .i64 k ∧ x = .int .i64 ((k0 + sumL zss k : Nat) : Int) ∧ Hid (Turned (InSS vs) W wr ∧ (∀ j (hj : j < vs.length), k ≤ j → Own wr B vs[j] (zss[j]'(by rw [← HLEN.out]; exact hj))) ∧ ∀ j (hj : j < vs.length), j < k → Own wr B vs[j] ((markL k0 zss)[j]'(by rw [markL_len, ← HLEN.out]; exact hj)))) (fun _ i _ => zss.length - (intOf i).toNat)
    case atStart => exact ⟨0, Nat.zero_le _, rfl, rfl, HT0.out, fun j hj _ => HIN.out j hj, fun j hj h => absurd h (Nat.not_lt_zero _)⟩
    case round =>
      obtain ⟨k, hk, rfl, rfl, HK⟩ := hrel
      have hout : ∀ b, InSS vs b → b ≠ g := fun b ⟨j, hj, hb⟩ e => rowsApart (HIN.out j hj) HRO.out (by decide) b hb (by rw [e]; rfl)
      by_cases hlt : k < zss.length
      · have hlt' : (k : Int) < (zss.length : Int) := by omega
        have hkv : k < vs.length := by rw [HLEN.out]; exact hlt
        have c0 : wr.cell? ⟨g, k, none⟩ = some vs[k] := by
          rw [World.cell?_of_block (HK.out.1.block g (World.ownsRow.lt HRO.out g rfl).2 (fun hp => hout g hp rfl)), World.ownsRow.cellAt HRO.out k (by omega), List.getElem?_eq_getElem hkv]
        have ho := HK.out.2.1 k hkv (Nat.le_refl _)
        have hsk := HSM.out k hk
        have hsn := HSM.out (k + 1) hlt
        rw [sumL_next zss k hlt] at hsn
        have CM : Hid (Calls Try.prog 16 #[vs[k], .int .i64 ((k0 + sumL zss k : Nat) : Int)] wr fun e W' => e = .returned (.int .i64 ((k0 + sumL zss (k + 1) : Nat) : Int)) ∧ wr.grownBy W' vs[k].ownBlock ∧ Own W' B vs[k] ((markL k0 zss)[k]'(by rw [markL_len]; exact hlt))) := by
          refine (markIs_any wr B vs[k] (k0 + sumL zss k) zss[k] ho (by omega) (by omega)).mono ?_
          rintro e w' ⟨rfl, hm, -, hgr⟩
          refine ⟨by rw [sumL_next zss k hlt]; congr 2; omega, hgr, ?_⟩
          rw [markL_get zss k0 k hlt]
          exact hm
        have HVK : Hid (∀ b, vs[k].ownBlock = some b → InSS vs b) := fun b hb => ⟨k, hkv, hb⟩
        have HKK : Hid (∀ w', wr.grownBy w' vs[k].ownBlock → Own w' B vs[k] ((markL k0 zss)[k]'(by rw [markL_len]; exact hlt)) → (∀ j (hj : j < vs.length), k + 1 ≤ j → Own w' B vs[j] (zss[j]'(by rw [← HLEN.out]; exact hj))) ∧ ∀ j (hj : j < vs.length), j < k + 1 → Own w' B vs[j] ((markL k0 zss)[j]'(by rw [markL_len, ← HLEN.out]; exact hj))) := fun w' hgr hm => by
          refine ⟨fun j hj hkj => rowGrow (HK.out.2.1 j hj (by omega)) hgr (fun b hb => HAP.out k j hkv hj (by omega) b hb), fun j hj hjk => ?_⟩
          by_cases e : j = k
          · subst e; exact hm
          · exact rowGrow (HK.out.2.2 j hj (by omega)) hgr (fun b hb => HAP.out k j hkv hj (fun h => e h.symm) b hb)
        obtain ⟨av, cv, hav⟩ := ho.shape
        have HAV : Hid (vs[k] = .slice av zss[k].length cv) := hav
        rw [hav] at c0
        have HTG : Hid (∀ w', wr.grownBy w' vs[k].ownBlock → Turned (InSS vs) W w') := fun w' hgr => HK.out.1.grown hgr HVK.out
        have CM2 : Hid (Calls Try.prog 16 #[.slice av zss[k].length cv, .int .i64 ((k0 + sumL zss k : Nat) : Int)] wr fun e W' => e = .returned (.int .i64 ((k0 + sumL zss (k + 1) : Nat) : Int)) ∧ Turned (InSS vs) W W' ∧ (∀ j (hj : j < vs.length), k + 1 ≤ j → Own W' B vs[j] (zss[j]'(by rw [← HLEN.out]; exact hj))) ∧ ∀ j (hj : j < vs.length), j < k + 1 → Own W' B vs[j] ((markL k0 zss)[j]'(by rw [markL_len, ← HLEN.out]; exact hj))) := by
          have := CM.out
          rw [hav] at this
          refine this.mono ?_
          rintro e w' ⟨he, hgr, hm⟩
          rw [← HAV.out] at hgr hm
          exact ⟨he, HTG.out w' hgr, HKK.out w' hgr hm⟩
        generalize zss[k].length = m at *
        generalize hs1 : k0 + sumL zss k = s1 at *
        generalize hs2 : k0 + sumL zss (k + 1) = s2 at *
        clear ho hav hout hs1 HAV CM HTG HVK HKK
        go_wp2_with fail
        refine CM2.out.mono ?_
        rintro e w1 ⟨rfl, hgr⟩
        have HT1 : Hid (Turned (InSS vs) W w1 ∧ (∀ j (hj : j < vs.length), k + 1 ≤ j → Own w1 B vs[j] (zss[j]'(by rw [← HLEN.out]; exact hj))) ∧ ∀ j (hj : j < vs.length), j < k + 1 → Own w1 B vs[j] ((markL k0 zss)[j]'(by rw [markL_len, ← HLEN.out]; exact hj))) := hgr
        clear hgr HK CM2
        go_wp2
        go_roundw
        case rel => exact ⟨k + 1, by omega, by go_num, by rw [hs2], HT1.out⟩
        case measure => simp [intOf]; omega
      · have hlt' : ¬ (k : Int) < (zss.length : Int) := by omega
        have e : k = zss.length := by omega
        subst e
        have HFIN : Hid (OwnSS wr B (.slice (some ⟨g, 0, none⟩) zss.length cap1) vs (markL k0 zss)) := by
          have hr := HRO.out
          rw [HLEN.out] at hr
          refine ⟨by rw [markL_len]; exact HLEN.out, ?_, fun j hj => HK.out.2.2 j hj (by have := HLEN.out; omega), HAP.out⟩
          have hr2 := rowTurned HRO.out HK.out.1 (fun b hb hp => by
            simp only [Value.ownBlock, Option.some.injEq] at hb
            exact hout b hp hb.symm)
          rw [HLEN.out] at hr2 ⊢
          exact hr2
        clear hout
        go_wp2
        go_ret
        exact ⟨rfl, HK.out.1, HFIN.out⟩

set_option maxRecDepth 100000 in
set_option maxHeartbeats 2000000 in
theorem heldSS_yes (W : World) (v : Value) (zss : List (List Int)) (k0 : Nat) (h : ReadsSS W v (markL k0 zss)) (hl : zss.length ≤ 4194304) (hin : ∀ j (hj : j < zss.length), zss[j].length ≤ 1048576) (hsum : ∀ k, k ≤ zss.length → sumL zss k ≤ 2097152) (hk1 : k0 ≤ 100000000) :
    Calls Try.prog 34 #[v, .int .i64 (k0 : Int)] W fun e W' => e = .returned (.int .i64 ((k0 + sumL zss zss.length : Nat) : Int)) ∧ W' = W := by
  obtain ⟨a1, cap1, hv, hc1⟩ := h
  rw [markL_len] at hv
  subst hv
  have HC1 : Hid (∀ j (hj : j < zss.length), ∃ g o u, a1 = some ⟨g, o, none⟩ ∧ W.cell? ⟨g, o + j, none⟩ = some u ∧ Reads W u (marks ((k0 + sumL zss j : Nat) : Int) zss[j].length)) := fun j hj => by
    obtain ⟨g, o, e, -, hc⟩ := hc1.resolve_left (fun e => by have := markL_len zss k0; rw [e] at this; simp at this; omega)
    obtain ⟨u, hu, hr⟩ := hc j (by rw [markL_len]; exact hj)
    rw [markL_get zss k0 j hj] at hr
    exact ⟨g, o, u, e, hu, hr⟩
  have HSM : Hid (∀ k, k ≤ zss.length → sumL zss k ≤ 2097152) := hsum
  have HIN : Hid (∀ j (hj : j < zss.length), zss[j].length ≤ 1048576) := hin
  clear hc1 hsum hin
  go_enter Try.func34, Try.ntmps34
  go_wp2
  go_loop [1, 5] (fun x i => ∃ k : Nat, k ≤ zss.length ∧ i = .int .i64 k ∧ x = .int .i64 ((k0 + sumL zss k : Nat) : Int)) (fun _ i => zss.length - (intOf i).toNat)
  case atStart => exact ⟨0, Nat.zero_le _, rfl, rfl⟩
  case round =>
    obtain ⟨k, hk, rfl, rfl⟩ := hrel
    by_cases hlt : k < zss.length
    · have hlt' : (k : Int) < (zss.length : Int) := by omega
      obtain ⟨g, o, u, e, hu, hr⟩ := HC1.out k hlt
      have hsk := HSM.out k hk
      have hlk := HIN.out k hlt
      have CH : Hid (Calls Try.prog 56 #[u, .int .i64 ((k0 + sumL zss k : Nat) : Int)] W fun e W' => e = .returned (.int .i64 ((k0 + sumL zss (k + 1) : Nat) : Int)) ∧ W' = W) := by
        refine (heldIs_yes W u (k0 + sumL zss k) zss[k].length hr (by omega) (by omega)).mono ?_
        rintro e w' ⟨rfl, hw⟩
        exact ⟨by rw [sumL_next zss k hlt]; congr 2; omega, hw⟩
      obtain ⟨au, cu, hus⟩ := hr.shape
      rw [marks_len] at hus
      subst hus
      clear hr
      subst e
      have n1 : ¬ ((k0 + sumL zss (k + 1) : Nat) : Int) < 0 := by omega
      generalize zss[k].length = m at *
      generalize hs1 : k0 + sumL zss k = s1 at *
      generalize hs2 : k0 + sumL zss (k + 1) = s2 at *
      clear hs1
      go_wp2_with fail
      refine CH.out.mono ?_
      rintro e w1 ⟨rfl, rfl⟩
      go_wp2
      go_round
      case rel => exact ⟨k + 1, by omega, by go_num, by rw [hs2]⟩
      case measure => simp [intOf]; omega
    · have hlt' : ¬ (k : Int) < (zss.length : Int) := by omega
      have e : k = zss.length := by omega
      subst e
      go_wp2
      go_ret
      exact ⟨rfl, rfl⟩

theorem ownSS_turned {P : Nat → Prop} {W W' : World} {B : Nat} {v : Value} {vs : List Value} {zss : List (List Int)} (h : OwnSS W B v vs zss) (ht : Turned P W W') (h1 : ∀ b, v.ownBlock = some b → ¬ P b) (h2 : ∀ b, InSS vs b → ¬ P b) : OwnSS W' B v vs zss :=
  ⟨h.len, rowTurned h.row ht h1, fun j hj => rowTurned (h.inner j hj) ht fun k hk => h2 k ⟨j, hj, hk⟩, h.apart⟩
theorem ownSS_grow {W W' : World} {B B' : Nat} {v u : Value} {vs : List Value} {zss : List (List Int)} {e : TypeId} {size n : Nat} {xs : List Value} (h : OwnSS W B v vs zss) (hu : W.ownsRow B' e size u n xs) (h1 : e ≠ 22) (h2 : e ≠ 3) (hg : W.grownBy W' u.ownBlock) : OwnSS W' B v vs zss :=
  ⟨h.len, rowGrow h.row hg (rowsApart hu h.row h1), fun j hj => rowGrow (h.inner j hj) hg (rowsApart hu (h.inner j hj) h2), h.apart⟩
theorem ownSS_lt {W : World} {B : Nat} {v : Value} {vs : List Value} {zss : List (List Int)} (h : OwnSS W B v vs zss) : (∀ b, v.ownBlock = some b → b < W.heap.size) ∧ ∀ b, InSS vs b → b < W.heap.size :=
  ⟨fun b hb => (World.ownsRow.lt h.row b hb).2, fun b hb => (h.inLt b hb).2⟩
end Go.Proofs.Ythlbmkefjjckaag
