/-
  What the law of chapter 9's ways asks.
-/
import Derived.Test.YthlbmkefjjckaacDrawWt
import Derived.Test.YthlbmkefjjckaacGrHopFor
import Derived.Test.YthlbmkefjjckaacGrCostS
namespace Go.Proofs.Ythlbmkefjjckaac
open Go.RowKit
set_option linter.unusedVariables false

theorem okC_way {N : Nat} {l : List EdD} (hf : FitEd N l) (hr : RiseEd l) {far : List Int} (ws : List Int) (hway : IsWay l far ws) : ∀ k, k + 1 ≤ ws.length → okC l ws k = true ∧ sumC l ws k + lab far (ws.getD k 0) = lab far (ws.getD 0 0)
  | 0, _ => ⟨rfl, by simp [sumC]⟩
  | k + 1, hk => by
    obtain ⟨h1, h2⟩ := okC_way hf hr ws hway k (by omega)
    obtain ⟨c, hj, hc⟩ := way_hop hf ((way_step ws hway k (by omega)).1 (by omega))
    have e : stepC l ws k = c := costB_of hf hr hj
    have hfit := hj.fit hf
    refine ⟨?_, ?_⟩
    · rw [okC, h1, e, decide_eq_true (by omega)]; rfl
    · rw [sumC, e]; omega
theorem getLast_getD : ∀ (ws : List Int) (h : ws ≠ []), ws.getLast h = ws.getD (ws.length - 1) 0
  | [x], _ => rfl
  | x :: y :: r, _ => by
    rw [List.getLast_cons (by simp), getLast_getD (y :: r) (by simp)]
    simp
theorem way_path {n : Int} {l : List EdD} {a b : Int} (h : wayOk n l a b = true) : (pathOk n l (wayOut n l a b) = true ∧ pathCost n l (wayOut n l a b) = wayCost n l a b) ∧ farsOk n l a = true ∧ ((farsOut n l a).length : Int) = n ∧ lab (farsOut n l a) b = wayCost n l a b ∧ (0 ≤ b ∧ b < n) ∧ 1 ≤ (wayOut n l a b).length ∧ (wayOut n l a b).getD 0 0 = a ∧ (wayOut n l a b).getD ((wayOut n l a b).length - 1) 0 = b := by
  obtain ⟨r, hr, hw⟩ := wayOut_is h
  have hc : wayCost n l a b = lab (fars n.toNat l b) a := by unfold wayCost; rw [if_pos h]
  have h' := h
  unfold wayOk at h'
  rw [Bool.and_eq_true] at h'
  obtain ⟨hg, hA, hB⟩ := endsOk_true h'.1
  have hlt := of_decide_eq_true h'.2
  obtain ⟨g1, g2, g3, g4⟩ := goodEd_true hg
  obtain ⟨N, rfl⟩ : ∃ N : Nat, n = (N : Int) := ⟨n.toNat, by omega⟩
  simp only [Int.toNat_natCast] at *
  have hlen := way_len g3 r a hA.1 hA.2 hw
  have hfo : farsOk (N : Int) l a = true := by unfold farsOk; rw [hg, decide_eq_true hA]; rfl
  have hfe : farsOut (N : Int) l a = fars N l a := by unfold farsOut; rw [if_pos hfo]; rfl
  obtain ⟨k1, k2⟩ := okC_way g3 g4 (a :: r) hw ((a :: r).length - 1) (by simp)
  have hlast : (a :: r).getD ((a :: r).length - 1) 0 = b := by
    rw [← getLast_getD (a :: r) (by simp)]
    exact way_last g3 hB r a hA.1 hA.2 hlt hw
  rw [hlast, fars_at g3 hB] at k2
  have hp : pathOk (N : Int) l (a :: r) = true := by
    unfold pathOk
    rw [hg, decide_eq_true ⟨by simp, by omega⟩, decide_eq_true (show 0 ≤ (a :: r).getD 0 0 ∧ (a :: r).getD 0 0 < (N : Int) from hA), k1]
    rfl
  rw [hr, hc, hfe]
  refine ⟨⟨hp, ?_⟩, hfo, by rw [fars_len], fars_back g3 hA hB, hB, by simp, rfl, hlast⟩
  unfold pathCost
  rw [if_pos hp]
  have : (a :: r).getD 0 0 = a := rfl
  rw [this] at k2
  omega
theorem hop_path {n : Int} {l : List EdD} {x y : Int} (h : hopsOk n l x y = true) : farsOk n l y = true ∧ ((farsOut n l y).length : Int) = n ∧ (0 ≤ x ∧ x < n) ∧ (∀ i, 0 ≤ i → i < n → 0 ≤ lab (farsOut n l y) i ∧ lab (farsOut n l y) i ≤ 100000) ∧ ∀ k ∈ hopsOut n l x y, (0 ≤ k ∧ k < n) ∧ pathOk n l [x, k] = true ∧ lab (farsOut n l y) k + pathCost n l [x, k] = lab (farsOut n l y) x ∧ 0 ≤ pathCost n l [x, k] ∧ pathCost n l [x, k] ≤ 100 := by
  obtain ⟨hg, hA, hB, -⟩ := hopsOk_true h
  obtain ⟨g1, g2, g3, g4⟩ := goodEd_true hg
  obtain ⟨N, rfl⟩ : ∃ N : Nat, n = (N : Int) := ⟨n.toNat, by omega⟩
  have hfo : farsOk (N : Int) l y = true := by unfold farsOk; rw [hg, decide_eq_true hB]; rfl
  have hfe : farsOut (N : Int) l y = fars N l y := by unfold farsOut; rw [if_pos hfo]; rfl
  have hho : hopsOut (N : Int) l x y = hopsD l (fars N l y) x := by unfold hopsOut; rw [if_pos h]; rfl
  rw [hfe, hho]
  refine ⟨hfo, by rw [fars_len], hA, fun i h0 hi => ⟨fars_nonneg g3 hB i h0 hi, fars_far hB i h0 hi⟩, fun k hk => ?_⟩
  obtain ⟨c, hj, hc⟩ := (mem_hopsD ..).1 hk
  have hfit := hj.fit g3
  have e : costB l x k = c := costB_of g3 g4 hj
  have hp : pathOk (N : Int) l [x, k] = true := by
    unfold pathOk
    rw [hg, decide_eq_true ⟨by simp, by simp⟩, decide_eq_true (show 0 ≤ [x, k].getD 0 0 ∧ [x, k].getD 0 0 < (N : Int) from hA)]
    show (true && okC l [x, k] 1) = true
    rw [okC, okC, show stepC l [x, k] 0 = c from e, decide_eq_true (by omega)]
    rfl
  have hpc : pathCost (N : Int) l [x, k] = c := by
    unfold pathCost
    rw [if_pos hp]
    show sumC l [x, k] 1 = c
    rw [sumC, sumC, show stepC l [x, k] 0 = c from e]
    omega
  exact ⟨hfit.2.1, hp, by rw [hpc]; exact hc, by omega, by omega⟩
theorem hopFor_mem {n : Int} {l : List EdD} {a b f : Int} (h : hopForOk n l a b f = true) : hopsOk n l a b = true ∧ hopForOut n l a b f ∈ hopsOut n l a b := by
  obtain ⟨h1, -, h3⟩ := hopForOk_true h
  refine ⟨h1, ?_⟩
  unfold hopForOut
  rw [if_pos h]
  have hlt := Nat.mod_lt f.toNat h3
  rw [getD_atW _ _ hlt]
  exact List.getElem_mem hlt
theorem own_twoW (W : World) (x y : Int) : Own (W.alloc (.cells #[.int .i64 x, .int .i64 y] 3)) W.heap.size (.slice (some ⟨W.heap.size, 0, none⟩) 2 2) [x, y] :=
  ⟨by simp, .inr ⟨W.heap.size, 2, #[.int .i64 x, .int .i64 y], rfl, Nat.le_refl _, World.alloc_heap_new _ _, Nat.le_refl _, by decide, rfl, by simp⟩⟩
/-- A row that is one's own, by its cells, for good. -/
theorem own_cellsW {W : World} {B : Nat} {a : Option Addr} {n c : Nat} {zs : List Int} (h : Own W B (.slice a n c) zs) : ∀ j, j < zs.length → ∃ g o, a = some ⟨g, o, none⟩ ∧ ∀ W', Since W.heap.size W W' → ∀ hj : j < zs.length, W'.cell? ⟨g, o + j, none⟩ = some (.int .i64 zs[j]) := fun j hj => by
  obtain ⟨a1, c1, hv, hc⟩ := h.reads
  simp only [Value.slice.injEq] at hv
  obtain ⟨rfl, rfl, rfl⟩ := hv
  obtain ⟨g, o, rfl, hg, hcell⟩ := hc.resolve_left (fun e => by rw [e] at hj; exact absurd hj (Nat.not_lt_zero _))
  exact ⟨g, o, rfl, fun W' hs hj => (hs.1.cell (p := ⟨g, o + j, none⟩) hg).trans (hcell j hj)⟩
theorem Code.since {B : Nat} {w0 w : World} {a : Option Addr} {len : Nat} (h : Code B w0 a len) (hs : Since B w0 w) (hB : B ≤ w0.heap.size) : Code w.heap.size w a len := by
  rcases h with h | ⟨b, off, ha, hb, hc⟩
  · exact .inl h
  · exact .inr ⟨b, off, ha, Nat.lt_of_lt_of_le hb hs.2, fun j hj => let ⟨z, z0, z1, hz⟩ := hc j hj; ⟨z, z0, z1, (World.cell?_of_block (a := ⟨b, off + j, none⟩) (hs.1.block b hb)).trans hz⟩⟩

set_option maxRecDepth 100000 in
set_option maxHeartbeats 2000000 in
theorem has_yesW (W : World) (v : Value) (zs : List Int) (n : Int) (h : Reads W v zs) (hl : zs.length ≤ 4194304) (hn : n ∈ zs) :
    Calls Try.prog 20 #[v, .int .i64 n] W fun e W' => e = .returned (.bool true) ∧ W' = W := by
  obtain ⟨a1, cap1, rfl, hc1⟩ := h
  obtain ⟨g1, o1, rfl, -, hc1⟩ := hc1.resolve_left (fun e => by rw [e] at hn; cases hn)
  have HC1 : Hid (∀ j (hj : j < zs.length), W.cell? ⟨g1, o1 + j, none⟩ = some (.int .i64 zs[j])) := hc1
  have HIN : Hid (∃ j, ∃ hj : j < zs.length, zs[j] = n) := by
    obtain ⟨j, hj, e⟩ := List.getElem_of_mem hn
    exact ⟨j, hj, e⟩
  clear hc1 hn
  go_enter Try.func20, Try.ntmps20
  go_wp2
  go_loop [9] (fun i => ∃ k : Nat, k ≤ zs.length ∧ i = .int .i64 k ∧ Hid (∀ j (hj : j < zs.length), j < k → ¬ zs[j] = n)) (fun i => zs.length - (intOf i).toNat)
  case atStart => exact ⟨0, Nat.zero_le _, rfl, fun j _ hj => absurd hj (Nat.not_lt_zero _)⟩
  case round =>
    obtain ⟨k, hk, rfl, HK⟩ := hrel
    by_cases hlt : k < zs.length
    · have hlt' : (k : Int) < (zs.length : Int) := by omega
      have q0 := HC1.out k hlt
      have HKN : Hid (¬ zs[k] = n → ∀ j (hj : j < zs.length), j < k + 1 → ¬ zs[j] = n) := fun hn j hj hjk => by
        by_cases e : j = k
        · subst e; exact hn
        · exact HK.out j hj (by omega)
      clear HK
      generalize zs[k] = z at *
      by_cases hz : z = n
      · have d1 : (z == n) = true := beq_iff_eq.2 hz
        clear hz
        go_wp2
        go_ret
        exact ⟨rfl, rfl⟩
      · have d1 : (z == n) = false := beq_eq_false_iff_ne.2 hz
        have HK1 : Hid (∀ j (hj : j < zs.length), j < k + 1 → ¬ zs[j] = n) := HKN.out hz
        clear hz HKN
        go_wp2
        go_round
        case rel => exact ⟨k + 1, by omega, by go_num, HK1.out⟩
        case measure => simp [intOf]; omega
    · obtain ⟨j, hj, e⟩ := HIN.out
      exact absurd e (HK.out j hj (by omega))
end Go.Proofs.Ythlbmkefjjckaac
