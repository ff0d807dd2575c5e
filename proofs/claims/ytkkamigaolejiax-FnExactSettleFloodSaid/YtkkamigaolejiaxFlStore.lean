/-
  Numbers stored into rows that a call owns; 'slices.Index' over numbers and over debts.
-/
import Derived.Test.YtkkamigaolejiaxFlSet
import Derived.Test.YtkkamigaolejiaxFlMarkF
import Derived.Test.YtkkamigaolejiaxFlGoodA
import Derived.Deep.QuietTactic
namespace Go.Proofs.Ytkkamigaolejiax
open Go.RowKit
set_option linter.unusedVariables false

/-- A cell of rows that a call owns, and what a store into it leaves. -/
theorem OwnSS.cell {W : World} {B : Nat} {v : Value} {vs : List Value} {zss : List (List Int)} (h : OwnSS W B v vs zss) (i j : Nat) (hi : i < zss.length) (hj : j < zss[i].length) :
    ∃ g c gi ci, v = .slice (some ⟨g, 0, none⟩) zss.length c ∧ W.cell? ⟨g, i, none⟩ = some (.slice (some ⟨gi, 0, none⟩) zss[i].length ci) ∧ W.cell? ⟨gi, j, none⟩ = some (.int .i64 (atR zss i j)) ∧ W.frozen? ⟨gi, j, none⟩ = false ∧ InSS vs gi ∧ (B ≤ g ∧ g < W.heap.size) ∧
      ∀ x : Int, OwnSS (W.setCell ⟨gi, j, none⟩ (.int .i64 x)) B v vs (setR zss i j x) := by
  have hlen := h.len
  have hiv : i < vs.length := by omega
  have hrow := h.row
  have hin := h.inner i hiv
  rcases h.row.2 with ⟨-, hn⟩ | ⟨g, c, cur, hv, -⟩
  · omega
  rcases hin.2 with ⟨-, hn⟩ | ⟨gi, ci, cur2, hvi, hgB, -⟩
  · rw [hn] at hj; exact absurd hj (Nat.not_lt_zero _)
  have hInS : InSS vs gi := ⟨i, hiv, by rw [hvi]; rfl⟩
  have eat : atR zss i j = zss[i][j] := by unfold atR; rw [getL_at zss i hi, List.getD_eq_getElem?_getD, List.getElem?_eq_getElem hj]; rfl
  have hvi' := hin
  rw [hvi] at hvi'
  have hrow' := hrow
  rw [hv] at hrow'
  refine ⟨g, c, gi, ci, by rw [hv, hlen], ?_, ?_, ?_, hInS, ?_, fun x => ?_⟩
  · rw [World.ownsRow.cellAt hrow' i (by omega), List.getElem?_eq_getElem hiv, hvi]
  · rw [World.ownsRow.cellAt hvi' j (by omega), List.getElem?_map, List.getElem?_eq_getElem hj, eat]
    rfl
  · exact World.ownsRow.frozenAt hvi' j
  · exact World.ownsRow.lt hrow g (by rw [hv]; rfl)
  · have hst := (World.ownsRow.stored hvi' j (.int .i64 x)).1
    have hne : ∀ b, b ≠ gi → (W.setCell ⟨gi, j, none⟩ (.int .i64 x)).heap[b]? = W.heap[b]? := fun b hb => Below.heap_setCell _ _ _ _ hb
    have hsl : (setR zss i j x).length = zss.length := setR_len _ _ _ _
    have hget : ∀ k (hk : k < zss.length), (setR zss i j x)[k]'(by rw [hsl]; exact hk) = if k = i then zss[i].set j x else zss[k] := fun k hk => by
      have hse : setR zss i j x = zss.set i (zss[i].set j x) := by unfold setR; rw [getL_at zss i hi]
      simp only [hse, List.getElem_set]
      by_cases e : i = k
      · subst e; simp
      · have e' : ¬ k = i := fun h => e h.symm
        simp [e, e']
    refine ⟨by rw [hsl]; exact hlen, rowSame h.row fun k hk => hne k (fun e => rowsApart h.row hin (by decide) k hk (by rw [hvi, e]; rfl)), fun k hk => ?_, h.apart⟩
    rw [hget k (by omega)]
    by_cases e : k = i
    · subst e
      rw [if_pos rfl, hvi]
      unfold Own
      rw [List.length_set, List.map_set]
      exact hst
    · rw [if_neg e]
      exact rowSame (h.inner k hk) fun b hb => hne b (fun e2 => h.apart k i hk hiv e b hb (by rw [hvi, e2]; rfl))

/-- The first place of a number, -1 for none. -/
def ixI (zs : List Int) (x : Int) : Int := if zs.findIdx (fun z => decide (z = x)) < zs.length then (zs.findIdx (fun z => decide (z = x)) : Int) else -1
theorem ixI_hit (zs : List Int) (x : Int) (k : Nat) (h : k < zs.length) (hb : ∀ j (hj : j < zs.length), j < k → zs[j] ≠ x) (hk : zs[k] = x) : ixI zs x = (k : Int) := by
  have e : zs.findIdx (fun z => decide (z = x)) = k := by
    rw [List.findIdx_eq h]
    exact ⟨decide_eq_true hk, fun j hj => decide_eq_false (hb j (by omega) hj)⟩
  unfold ixI
  rw [e, if_pos h]
theorem ixI_none (zs : List Int) (x : Int) (h : ∀ j (hj : j < zs.length), zs[j] ≠ x) : ixI zs x = -1 := by
  unfold ixI
  rw [if_neg]
  intro hlt
  have := of_decide_eq_true (List.findIdx_getElem (w := hlt))
  exact h _ hlt this

set_option maxRecDepth 100000 in
set_option maxHeartbeats 1000000 in
theorem indexI_any (W : World) (v : Value) (zs : List Int) (x : Int) (h : Reads W v zs) (hl : zs.length ≤ 4194304) :
    Calls Try.prog 84 #[v, .int .i64 x] W fun e W' => e = .returned (.int .i64 (ixI zs x)) ∧ W' = W := by
  obtain ⟨a1, cap1, rfl, hc1⟩ := h
  have HC1 : Hid (∀ j (hj : j < zs.length), ∃ g o, a1 = some ⟨g, o, none⟩ ∧ W.cell? ⟨g, o + j, none⟩ = some (.int .i64 zs[j])) := fun j hj => by
    obtain ⟨g, o, e, -, hc⟩ := hc1.resolve_left (fun e => by rw [e] at hj; exact absurd hj (Nat.not_lt_zero _))
    exact ⟨g, o, e, hc j hj⟩
  clear hc1
  go_enter Try.func84, Try.ntmps84
  go_wp2
  go_loop [8] (fun i => ∃ k : Nat, k ≤ zs.length ∧ i = .int .i64 k ∧ Hid (∀ j (hj : j < zs.length), j < k → zs[j] ≠ x)) (fun i => zs.length - (intOf i).toNat)
  case atStart => exact ⟨0, Nat.zero_le _, rfl, fun j hj h => absurd h (Nat.not_lt_zero _)⟩
  case round =>
    obtain ⟨k, hk, rfl, HA⟩ := hrel
    by_cases hlt : k < zs.length
    · obtain ⟨g, o, e, c1⟩ := HC1.out k hlt
      have hlt' : (k : Int) < (zs.length : Int) := by omega
      have HY : Hid (zs[k] = x → ixI zs x = (k : Int)) := ixI_hit zs x k hlt HA.out
      have HN : Hid (zs[k] ≠ x → ∀ j (hj : j < zs.length), j < k + 1 → zs[j] ≠ x) := fun hf j hj h => by
        by_cases e : j = k
        · subst e; exact hf
        · exact HA.out j hj (by omega)
      subst e
      generalize zs[k] = z at *
      by_cases hz : z = x
      · have d0 : (x == z) = true := beq_iff_eq.2 hz.symm
        have HF : Hid (ixI zs x = (k : Int)) := HY.out hz
        clear hz HY HN
        go_wp2
        go_ret
        exact ⟨by rw [HF.out]; rfl, rfl⟩
      · have d0 : (x == z) = false := beq_eq_false_iff_ne.2 (fun e => hz e.symm)
        have HA1 : Hid (∀ j (hj : j < zs.length), j < k + 1 → zs[j] ≠ x) := HN.out hz
        clear hz HY HN
        go_wp2
        go_round
        case rel => exact ⟨k + 1, by omega, by go_num, HA1⟩
        case measure => simp [intOf]; omega
    · have hlt' : ¬ (k : Int) < (zs.length : Int) := by omega
      have HF : Hid (ixI zs x = -1) := ixI_none zs x fun j hj => HA.out j hj (by omega)
      go_wp2
      go_ret
      exact ⟨by rw [HF.out]; rfl, rfl⟩

set_option maxRecDepth 100000 in
set_option maxHeartbeats 2000000 in
theorem indexD_any (W : World) (v : Value) (ds : List DbD) (p q : Int) (h : ReadsDb W v ds) (hl : ds.length ≤ 4194304) :
    Calls Try.prog 90 #[v, .agg #[.int .i64 p, .int .i64 q]] W fun e W' => e = .returned (.int .i64 (ixD ds p q)) ∧ Below W.heap.size W W' := by
  have HB0 : Hid (Below W.heap.size W (W.alloc (.cells #[.int .i64 p, .int .i64 q] 99))) := (Below.refl _ W).alloc (Nat.le_refl _) _
  have h' := h.below HB0.out
  obtain ⟨a1, cap1, rfl, hc1⟩ := h'
  have HS0 : Hid (Since (W.alloc (.cells #[.int .i64 p, .int .i64 q] 99)).heap.size (W.alloc (.cells #[.int .i64 p, .int .i64 q] 99)) (W.alloc (.cells #[.int .i64 p, .int .i64 q] 99))) := Since.start _
  have HX : Hid (∀ w', Since (W.alloc (.cells #[.int .i64 p, .int .i64 q] 99)).heap.size (W.alloc (.cells #[.int .i64 p, .int .i64 q] 99)) w' → w'.cell? ⟨W.heap.size, 0, none⟩ = some (.int .i64 p) ∧ w'.cell? ⟨W.heap.size, 1, none⟩ = some (.int .i64 q)) := fun w' hs =>
    ⟨(hs.1.cell (p := ⟨W.heap.size, 0, none⟩) (by simp)).trans (by rw [World.cell?_alloc_at _ _ _ _ rfl]; rfl), (hs.1.cell (p := ⟨W.heap.size, 1, none⟩) (by simp)).trans (by rw [World.cell?_alloc_at _ _ _ _ rfl]; rfl)⟩
  have HC1 : Hid (∀ w', Since (W.alloc (.cells #[.int .i64 p, .int .i64 q] 99)).heap.size (W.alloc (.cells #[.int .i64 p, .int .i64 q] 99)) w' → ∀ j (hj : j < ds.length), ∃ g o, a1 = some ⟨g, o, none⟩ ∧ DbAt w' g (o + j * 2) ds[j]) := fun w' hs j hj => by
    obtain ⟨g, o, e, hg, hc⟩ := hc1.resolve_left (fun e => by rw [e] at hj; exact absurd hj (Nat.not_lt_zero _))
    exact ⟨g, o, e, (hc j hj).below hg hs.1⟩
  clear hc1 h
  go_enter Try.func90, Try.ntmps90
  go_wp2
  generalize W.alloc (.cells #[.int .i64 p, .int .i64 q] 99) = w1 at *
  go_loopw [8] (fun i wr => ∃ k : Nat, k ≤ ds.length ∧ i = .int .i64 k ∧ Hid ((∀ j (hj : j < ds.length), j < k → isD p q ds[j] = false) ∧ Since w1.heap.size w1 wr)) (fun i _ => ds.length - (intOf i).toNat)
  case atStart => exact ⟨0, Nat.zero_le _, rfl, fun j hj h => absurd h (Nat.not_lt_zero _), HS0.out⟩
  case round =>
    obtain ⟨k, hk, rfl, HK⟩ := hrel
    by_cases hlt : k < ds.length
    · obtain ⟨g, o, e, c0, c1⟩ := HC1.out wr HK.out.2 k hlt
      obtain ⟨x0, x1⟩ := HX.out wr HK.out.2
      have hlt' : (k : Int) < (ds.length : Int) := by omega
      have HY : Hid (isD p q ds[k] = true → ixD ds p q = (k : Int)) := ixD_hit ds p q k hlt HK.out.1
      have HN : Hid (isD p q ds[k] = false → ∀ j (hj : j < ds.length), j < k + 1 → isD p q ds[j] = false) := fun hf j hj h => by
        by_cases e : j = k
        · subst e; exact hf
        · exact HK.out.1 j hj (by omega)
      have HD : Hid (isD p q ds[k] = decide (ds[k].p = p ∧ ds[k].q = q)) := rfl
      subst e
      generalize isD p q ds[k] = jj at *
      generalize ds[k].p = dp' at *
      generalize ds[k].q = dq' at *
      by_cases e0 : dp' = p
      · have d0 : (p == dp') = true := beq_iff_eq.2 e0.symm
        by_cases e1 : dq' = q
        · have d1 : (q == dq') = true := beq_iff_eq.2 e1.symm
          have HF : Hid (ixD ds p q = (k : Int)) := HY.out (by rw [HD.out]; exact decide_eq_true ⟨e0, e1⟩)
          clear e0 e1 HY HN HD
          go_wp2
          go_quiet (fail)
          go_wp2
          go_ret
          exact ⟨by rw [HF.out]; rfl, HB0.out.trans ((HK.out.2.drewN _).1.mono HB0.out.size)⟩
        · have d1 : (q == dq') = false := beq_eq_false_iff_ne.2 (fun e => e1 e.symm)
          have HA1 : Hid (∀ j (hj : j < ds.length), j < k + 1 → isD p q ds[j] = false) := HN.out (by rw [HD.out]; exact decide_eq_false (fun h => e1 h.2))
          clear e0 e1 HY HN HD
          go_wp2
          go_quiet (fail)
          go_wp2
          go_roundw
          case rel => exact ⟨k + 1, by omega, by go_num, HA1.out, HK.out.2.drewN _⟩
          case measure => simp [intOf]; omega
      · have d0 : (p == dp') = false := beq_eq_false_iff_ne.2 (fun e => e0 e.symm)
        have HA1 : Hid (∀ j (hj : j < ds.length), j < k + 1 → isD p q ds[j] = false) := HN.out (by rw [HD.out]; exact decide_eq_false (fun h => e0 h.1))
        clear e0 HY HN HD
        go_wp2
        go_quiet (fail)
        go_wp2
        go_roundw
        case rel => exact ⟨k + 1, by omega, by go_num, HA1.out, HK.out.2.drewN _⟩
        case measure => simp [intOf]; omega
    · have hlt' : ¬ (k : Int) < (ds.length : Int) := by omega
      have HF : Hid (ixD ds p q = -1) := ixD_none ds p q fun j hj => HK.out.1 j hj (by omega)
      go_wp2
      go_ret
      exact ⟨by rw [HF.out]; rfl, HB0.out.trans (HK.out.2.1.mono HB0.out.size)⟩
end Go.Proofs.Ytkkamigaolejiax
