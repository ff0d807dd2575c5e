/-
  'firstOwed' of the program, 'l6First' of the model.
-/
import Derived.Test.YtkkamigaolejiaxJo
import Derived.Test.YtkkamigaolejiaxFlSettle
namespace Go.Proofs.Ytkkamigaolejiax
open Go.RowKit
set_option linter.unusedVariables false

theorem firstI (ow : List (List Int)) (i u : Nat) (h : FirstO ow i u) (k : Nat) (hk : k < ow.length) : (k < i → ixI ow[k] 1 = -1) ∧ (k = i → ixI ow[k] 1 = (u : Int)) := by
  refine ⟨fun hlt => ixI_none _ _ fun j hj => h.before k hk hlt j hj, fun e => ?_⟩
  subst e
  exact ixI_hit _ _ u h.hu (fun j hj hlt => h.left j hj hlt) h.at1

set_option maxRecDepth 100000 in
set_option maxHeartbeats 2000000 in
theorem firstOwed_any (W : World) (x y z l : Value) (f : FD) (h : ReadsF W x y z l f) (hl : f.ow.length ≤ 36) (hr : ∀ j (hj : j < f.ow.length), f.ow[j].length ≤ 6) (ri ru : Int) (rb : Bool)
    (hres : (∃ i u : Nat, FirstO f.ow i u ∧ ri = i ∧ ru = u ∧ rb = true) ∨ (NoneO f.ow ∧ ri = 0 ∧ ru = 0 ∧ rb = false)) :
    Calls Try.prog 71 #[.agg #[x, y, z, l]] W fun e W' => e = .returned (.tuple #[.int .i64 ri, .int .i64 ru, .bool rb]) ∧ Below W.heap.size W W' := by
  obtain ⟨a0, c0, rfl⟩ := h.lk.shape
  obtain ⟨a1, c1, rfl⟩ := h.kn.shape
  obtain ⟨a2, c2, rfl⟩ := h.ow.shape
  obtain ⟨a3, c3, rfl⟩ := h.ln.shape
  have HB0 : Hid (Below W.heap.size W (W.alloc (.cells #[.slice a0 f.lk.length c0, .slice a1 f.kn.length c1, .slice a2 f.ow.length c2, .slice a3 f.ln.length c3] 31))) := (Below.refl _ W).alloc (Nat.le_refl _) _
  have HX0 : Hid (Bx4 (W.alloc (.cells #[.slice a0 f.lk.length c0, .slice a1 f.kn.length c1, .slice a2 f.ow.length c2, .slice a3 f.ln.length c3] 31)) W.heap.size (.slice a0 f.lk.length c0) (.slice a1 f.kn.length c1) (.slice a2 f.ow.length c2) (.slice a3 f.ln.length c3)) := Bx4.new _ _ _ _ _ _
  have HR0 : Hid (ReadsSS (W.alloc (.cells #[.slice a0 f.lk.length c0, .slice a1 f.kn.length c1, .slice a2 f.ow.length c2, .slice a3 f.ln.length c3] 31)) (.slice a2 f.ow.length c2) f.ow) := h.ow.below HB0.out
  have HRES : Hid ((∃ i u : Nat, FirstO f.ow i u ∧ ri = i ∧ ru = u ∧ rb = true) ∨ (NoneO f.ow ∧ ri = 0 ∧ ru = 0 ∧ rb = false)) := hres
  have HRL : Hid (∀ j (hj : j < f.ow.length), f.ow[j].length ≤ 6) := hr
  clear h hres hr
  go_enter Try.func71, Try.ntmps71
  generalize hw0 : W.alloc (.cells #[.slice a0 f.lk.length c0, .slice a1 f.kn.length c1, .slice a2 f.ow.length c2, .slice a3 f.ln.length c3] 31) = w0 at *
  obtain ⟨-, x0, x1, x2, x3, -⟩ := HX0.out
  have HC : Hid (∀ j (hj : j < f.ow.length), ∃ g o v, a2 = some ⟨g, o, none⟩ ∧ w0.cell? ⟨g, o + j, none⟩ = some v ∧ Reads w0 v f.ow[j]) := fun j hj => by
    obtain ⟨a, c, hv, hc⟩ := HR0.out
    simp only [Value.slice.injEq] at hv
    obtain ⟨g, o, e, hg, hcc⟩ := hc.resolve_left (fun e => by rw [e] at hj; exact absurd hj (Nat.not_lt_zero _))
    obtain ⟨v, hv2, hrd⟩ := hcc j hj
    exact ⟨g, o, v, by rw [hv.1, e], hv2, hrd⟩
  go_wp2
  clear hw0
  go_loop [11] (fun i => ∃ k : Nat, k ≤ f.ow.length ∧ i = .int .i64 k ∧ Hid (rb = true → (k : Int) ≤ ri)) (fun i => f.ow.length - (intOf i).toNat)
  case atStart => exact ⟨0, Nat.zero_le _, rfl, fun _ => by rcases HRES.out with ⟨i, u, _, e, _⟩ | ⟨_, e, _⟩ <;> omega⟩
  case round =>
    obtain ⟨k, hk, rfl, HK⟩ := hrel
    by_cases hlt : k < f.ow.length
    · have hlt' : (k : Int) < (f.ow.length : Int) := by omega
      obtain ⟨g, o, v, e, r0, hrd⟩ := HC.out k hlt
      subst e
      have hz := HRL.out k hlt
      obtain ⟨av, cv, rfl⟩ := hrd.shape
      have CI : Hid (Calls Try.prog 84 #[.slice av f.ow[k].length cv, .int .i64 1] w0 fun e W' => e = .returned (.int .i64 (ixI f.ow[k] 1)) ∧ W' = w0) := indexI_any w0 _ f.ow[k] 1 hrd (by omega)
      clear hrd hz
      by_cases hhit : rb = true ∧ ri = (k : Int)
      · have HE : Hid (ixI f.ow[k] 1 = ru ∧ 0 ≤ ru) := by
          rcases HRES.out with ⟨i, u, hf, e1, e2, e3⟩ | ⟨_, _, _, e⟩
          · have hik : k = i := by omega
            exact ⟨by rw [(firstI f.ow i u hf k hlt).2 hik, e2], by omega⟩
          · rw [e] at hhit; exact absurd hhit.1 (by decide)
        obtain ⟨hrb, hri⟩ := hhit
        generalize ixI f.ow[k] 1 = ix at *
        have h0 : 0 ≤ ix := by have := HE.out; omega
        generalize f.ow[k].length = m at *
        go_wp2_with fail
        refine CI.out.mono ?_
        rintro e w1 ⟨rfl, rfl⟩
        go_wp2
        exact bodyPost_ret (v := .tuple #[.int .i64 (k : Int), .int .i64 ix, .bool true]) (by simp [results, Try.results71]) rfl ⟨by rw [HE.out.1, hri, hrb], HB0.out⟩
      · have HE : Hid (ixI f.ow[k] 1 = -1 ∧ (rb = true → ((k + 1 : Nat) : Int) ≤ ri)) := by
          rcases HRES.out with ⟨i, u, hf, e1, e2, e3⟩ | ⟨hn, _, _, e⟩
          · have hle := HK.out e3
            have hki : k < i := by
              rcases Nat.lt_or_ge k i with h | h
              · exact h
              · exact absurd ⟨e3, by omega⟩ hhit
            exact ⟨(firstI f.ow i u hf k hlt).1 hki, fun _ => by omega⟩
          · exact ⟨ixI_none _ _ fun j hj => hn k hlt j hj, fun hb => by rw [e] at hb; cases hb⟩
        clear hhit
        generalize ixI f.ow[k] 1 = ix at *
        have h0 : ¬ 0 ≤ ix := by have := HE.out.1; omega
        generalize f.ow[k].length = m at *
        go_wp2_with fail
        refine CI.out.mono ?_
        rintro e w1 ⟨rfl, rfl⟩
        go_wp2
        go_round
        case rel => exact ⟨k + 1, by omega, by go_num, HE.out.2⟩
        case measure => simp [intOf]; omega
    · have hlt' : ¬ (k : Int) < (f.ow.length : Int) := by omega
      have HF : Hid (ri = 0 ∧ ru = 0 ∧ rb = false) := by
        rcases HRES.out with ⟨i, u, hf, e1, e2, e3⟩ | ⟨_, e⟩
        · have := HK.out e3
          have := hf.hi
          omega
        · exact e
      go_wp2
      exact bodyPost_ret (v := .tuple #[.int .i64 0, .int .i64 0, .bool false]) (by simp [results, Try.results71]) rfl ⟨by rw [HF.out.1, HF.out.2.1, HF.out.2.2], HB0.out⟩

set_option maxRecDepth 100000 in
set_option maxHeartbeats 2000000 in
theorem l6First_any (W : World) (x y z l : Value) (f : FD) (h : ReadsF W x y z l f) (hl : f.ow.length ≤ 36) (hr : ∀ j (hj : j < f.ow.length), f.ow[j].length ≤ 6) (ri ru : Int)
    (hres : (∃ i u : Nat, FirstO f.ow i u ∧ ri = i ∧ ru = u) ∨ (NoneO f.ow ∧ ri = -1 ∧ ru = -1)) :
    Calls Try.prog 37 #[.agg #[x, y, z, l]] W fun e W' => e = .returned (.tuple #[.int .i64 ri, .int .i64 ru]) ∧ Below W.heap.size W W' := by
  obtain ⟨a0, c0, rfl⟩ := h.lk.shape
  obtain ⟨a1, c1, rfl⟩ := h.kn.shape
  obtain ⟨a2, c2, rfl⟩ := h.ow.shape
  obtain ⟨a3, c3, rfl⟩ := h.ln.shape
  have HB0 : Hid (Below W.heap.size W (W.alloc (.cells #[.slice a0 f.lk.length c0, .slice a1 f.kn.length c1, .slice a2 f.ow.length c2, .slice a3 f.ln.length c3] 31))) := (Below.refl _ W).alloc (Nat.le_refl _) _
  have HX0 : Hid (Bx4 (W.alloc (.cells #[.slice a0 f.lk.length c0, .slice a1 f.kn.length c1, .slice a2 f.ow.length c2, .slice a3 f.ln.length c3] 31)) W.heap.size (.slice a0 f.lk.length c0) (.slice a1 f.kn.length c1) (.slice a2 f.ow.length c2) (.slice a3 f.ln.length c3)) := Bx4.new _ _ _ _ _ _
  have HR0 : Hid (ReadsSS (W.alloc (.cells #[.slice a0 f.lk.length c0, .slice a1 f.kn.length c1, .slice a2 f.ow.length c2, .slice a3 f.ln.length c3] 31)) (.slice a2 f.ow.length c2) f.ow) := h.ow.below HB0.out
  have HRES : Hid ((∃ i u : Nat, FirstO f.ow i u ∧ ri = i ∧ ru = u) ∨ (NoneO f.ow ∧ ri = -1 ∧ ru = -1)) := hres
  clear h hres
  go_enter Try.func37, Try.ntmps37
  generalize hw0 : W.alloc (.cells #[.slice a0 f.lk.length c0, .slice a1 f.kn.length c1, .slice a2 f.ow.length c2, .slice a3 f.ln.length c3] 31) = w0 at *
  obtain ⟨-, x0, x1, x2, x3, -⟩ := HX0.out
  have HC : Hid (∀ j (hj : j < f.ow.length), ∃ g o v, a2 = some ⟨g, o, none⟩ ∧ w0.cell? ⟨g, o + j, none⟩ = some v ∧ Reads w0 v f.ow[j]) := fun j hj => by
    obtain ⟨a, c, hv, hc⟩ := HR0.out
    simp only [Value.slice.injEq] at hv
    obtain ⟨g, o, e, hg, hcc⟩ := hc.resolve_left (fun e => by rw [e] at hj; exact absurd hj (Nat.not_lt_zero _))
    obtain ⟨v, hv2, hrd⟩ := hcc j hj
    exact ⟨g, o, v, by rw [hv.1, e], hv2, hrd⟩
  go_wp2
  clear hw0
  go_loop [11] (fun i => ∃ k : Nat, k ≤ f.ow.length ∧ i = .int .i64 k ∧ Hid (0 ≤ ri → (k : Int) ≤ ri)) (fun i => f.ow.length - (intOf i).toNat)
  case atStart => exact ⟨0, Nat.zero_le _, rfl, fun _ => by rcases HRES.out with ⟨i, u, _, e, _⟩ | ⟨_, e, _⟩ <;> omega⟩
  case round =>
    obtain ⟨k, hk, rfl, HK⟩ := hrel
    by_cases hlt : k < f.ow.length
    · have hlt' : (k : Int) < (f.ow.length : Int) := by omega
      obtain ⟨g, o, v, e, r0, hrd⟩ := HC.out k hlt
      subst e
      have hz := hr k hlt
      obtain ⟨av, cv, hv, hcv⟩ := hrd
      subst hv
      have HCV : Hid (∀ j (hj : j < f.ow[k].length), ∃ g o, av = some ⟨g, o, none⟩ ∧ w0.cell? ⟨g, o + j, none⟩ = some (.int .i64 f.ow[k][j])) := fun j hj => by
        obtain ⟨g, o, e, -, hc⟩ := hcv.resolve_left (fun e => by rw [e] at hj; exact absurd hj (Nat.not_lt_zero _))
        exact ⟨g, o, e, hc j hj⟩
      have HIN : Hid ((∃ i u : Nat, ∃ hu : u < f.ow[k].length, i = k ∧ ri = k ∧ ru = u ∧ f.ow[k][u] = 1 ∧ ∀ v (hv : v < f.ow[k].length), v < u → f.ow[k][v] ≠ 1) ∨ ((∀ v (hv : v < f.ow[k].length), f.ow[k][v] ≠ 1) ∧ (0 ≤ ri → ((k + 1 : Nat) : Int) ≤ ri))) := by
        rcases HRES.out with ⟨i, u, hf, e1, e2⟩ | ⟨hn, e1, e2⟩
        · have hle := HK.out (by omega)
          by_cases hki : k = i
          · subst hki
            exact .inl ⟨k, u, hf.hu, rfl, e1, e2, hf.at1, hf.left⟩
          · exact .inr ⟨hf.before k hlt (by omega), fun _ => by omega⟩
        · exact .inr ⟨hn k hlt, fun hp => by omega⟩
      clear hcv
      generalize f.ow[k] = zs at *
      go_wp2
      go_loop [18] (fun i => ∃ j : Nat, j ≤ zs.length ∧ i = .int .i64 j ∧ Hid (ri = k → (j : Int) ≤ ru)) (fun i => zs.length - (intOf i).toNat)
      case atStart => exact ⟨0, Nat.zero_le _, rfl, fun e => by rcases HIN.out with ⟨i, u, _, _, _, e2, _⟩ | ⟨_, e2⟩ <;> omega⟩
      case round =>
        obtain ⟨j, hj, rfl, HJ⟩ := hrel
        by_cases hltj : j < zs.length
        · have hltj' : (j : Int) < (zs.length : Int) := by omega
          obtain ⟨gv, ov, e, r1⟩ := HCV.out j hltj
          subst e
          by_cases hhit : zs[j] = 1
          · have HE : Hid (ri = k ∧ ru = j) := by
              rcases HIN.out with ⟨i, u, hu, e0, e1, e2, h1, hle⟩ | ⟨hn, _⟩
              · have := HJ.out e1
                rcases Nat.lt_or_ge j u with h | h
                · exact absurd hhit (hle j hltj h)
                · exact ⟨e1, by omega⟩
              · exact absurd hhit (hn j hltj)
            have d0 : (zs[j] == 1) = true := beq_iff_eq.2 hhit
            clear hhit
            generalize zs[j] = z at *
            go_wp2
            exact bodyPost_ret (v := .tuple #[.int .i64 (k : Int), .int .i64 (j : Int)]) (by simp [results, Try.results37]) rfl ⟨by rw [HE.out.1, HE.out.2], HB0.out⟩
          · have HE : Hid (ri = k → ((j + 1 : Nat) : Int) ≤ ru) := fun e => by
              have := HJ.out e
              rcases HIN.out with ⟨i, u, hu, e0, e1, e2, h1, hle⟩ | ⟨_, e2⟩
              · have hne : j ≠ u := fun e => by subst e; exact hhit h1
                omega
              · have := e2 (by omega); omega
            have d0 : (zs[j] == 1) = false := beq_eq_false_iff_ne.2 hhit
            clear hhit
            generalize zs[j] = z at *
            go_wp2
            go_round
            case rel => exact ⟨j + 1, by omega, by go_num, HE⟩
            case measure => simp [intOf]; omega
        · have hltj' : ¬ (j : Int) < (zs.length : Int) := by omega
          have HE : Hid (0 ≤ ri → ((k + 1 : Nat) : Int) ≤ ri) := by
            rcases HIN.out with ⟨i, u, hu, e0, e1, e2, h1, hle⟩ | ⟨_, e2⟩
            · have := HJ.out e1
              omega
            · exact e2
          go_wp2
          go_round
          case rel => exact ⟨k + 1, by omega, by go_num, HE⟩
          case measure => simp [intOf]; omega
    · have hlt' : ¬ (k : Int) < (f.ow.length : Int) := by omega
      have HF : Hid (ri = -1 ∧ ru = -1) := by
        rcases HRES.out with ⟨i, u, hf, e1, e2⟩ | ⟨_, e⟩
        · have := HK.out (by omega)
          have := hf.hi
          omega
        · exact e
      go_wp2
      exact bodyPost_ret (v := .tuple #[.int .i64 (-1), .int .i64 (-1)]) (by simp [results, Try.results37]) rfl ⟨by rw [HF.out.1, HF.out.2], HB0.out⟩
end Go.Proofs.Ytkkamigaolejiax
