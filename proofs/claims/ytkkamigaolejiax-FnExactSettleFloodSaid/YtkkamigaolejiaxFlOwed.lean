/-
  'OwedIn' of the program and of the model.
-/
import Derived.Test.YtkkamigaolejiaxFlGoodI
import Derived.Test.YtkkamigaolejiaxFlGoodS
namespace Go.Proofs.Ytkkamigaolejiax
open Go.RowKit
set_option linter.unusedVariables false

/-- How much is owed. -/
def sumTo (rows : List (List Int)) (k : Nat) : Int := ((rows.take k).map List.sum).sum
def sumF (f : FD) : Int := sumTo f.ow f.ow.length
theorem sumTo_next (rows : List (List Int)) (k : Nat) (h : k < rows.length) : sumTo rows (k + 1) = sumTo rows k + rows[k].sum := by
  unfold sumTo
  rw [List.take_succ_eq_append_getElem h, List.map_append, List.sum_append]
  simp
theorem sumI_next (r : List Int) (k : Nat) (h : k < r.length) : (r.take (k + 1)).sum = (r.take k).sum + r[k] := by
  rw [List.take_succ_eq_append_getElem h, List.sum_append]
  simp
theorem sumI_bound (r : List Int) (hr : allB r 0 1 = true) : ∀ k, k ≤ r.length → 0 ≤ (r.take k).sum ∧ (r.take k).sum ≤ k
  | 0, _ => by simp
  | k + 1, h => by
    have ih := sumI_bound r hr k (by omega)
    have := allB_at r 0 1 hr k (by omega)
    rw [sumI_next r k (by omega)]
    omega
theorem sumTo_bound (rows : List (List Int)) (n : Nat) (hn : n ≤ 6) (h : ∀ j (hj : j < rows.length), rowB (n : Int) 1 rows[j] = true) : ∀ k, k ≤ rows.length → 0 ≤ sumTo rows k ∧ sumTo rows k ≤ 6 * k
  | 0, _ => by simp [sumTo]
  | k + 1, hk => by
    have ih := sumTo_bound rows n hn h k (by omega)
    have hr := h k (by omega)
    unfold rowB at hr
    rw [Bool.and_eq_true] at hr
    have hl := of_decide_eq_true hr.1
    have := sumI_bound rows[k] hr.2 rows[k].length (Nat.le_refl _)
    rw [List.take_length] at this
    rw [sumTo_next rows k (by omega)]
    omega
/-- What a good flood is. -/
theorem goodF_rows {f : FD} (h : goodF f = true) : (1 ≤ f.kn.length ∧ f.kn.length ≤ 6) ∧ linksB (f.kn.length : Int) f.lk = true ∧ f.ln.length ≤ 40 ∧ f.ow.length = (debtsL f.kn.length f.lk).length ∧ f.ow.length ≤ 36 ∧ (∀ j (hj : j < f.kn.length), rowB (f.kn.length : Int) 60 f.kn[j] = true) ∧ (∀ j (hj : j < f.ow.length), rowB (f.kn.length : Int) 1 f.ow[j] = true) ∧ ∀ x ∈ f.ln, goodLt (f.kn.length : Int) f.lk x = true := by
  unfold goodF headB rowsB at h
  simp only [Bool.and_eq_true] at h
  obtain ⟨⟨h1, h2, h3⟩, ⟨⟨-, h5⟩, h6, h7⟩, h8⟩ := h
  have h1 := of_decide_eq_true h1
  have h3 := of_decide_eq_true h3
  have h6 := of_decide_eq_true h6
  have hl36 : (debtsL f.kn.length f.lk).length ≤ 36 := Nat.le_trans (debtsTo_len f.kn.length f.lk f.kn.length) (by have : f.kn.length * f.kn.length ≤ 6 * 6 := Nat.mul_le_mul (by omega) (by omega); omega)
  exact ⟨by omega, h2, h3, by omega, by omega, fun j hj => List.all_eq_true.1 h5 _ (List.getElem_mem hj), fun j hj => List.all_eq_true.1 h7 _ (List.getElem_mem hj), fun x hx => List.all_eq_true.1 h8 x hx⟩

set_option maxRecDepth 100000 in
set_option maxHeartbeats 2000000 in
theorem l6Owed_any (W : World) (x y z l : Value) (f : FD) (h : ReadsF W x y z l f) (hg : goodF f = true) :
    Calls Try.prog 46 #[.agg #[x, y, z, l]] W fun e W' => e = .returned (.int .i64 (sumF f)) ∧ Below W.heap.size W W' := by
  obtain ⟨a0, c0, rfl⟩ := h.lk.shape
  obtain ⟨a1, c1, rfl⟩ := h.kn.shape
  obtain ⟨a2, c2, rfl⟩ := h.ow.shape
  obtain ⟨a3, c3, rfl⟩ := h.ln.shape
  have HB : Hid (Since W.heap.size W (W.alloc (.cells #[.slice a0 f.lk.length c0, .slice a1 f.kn.length c1, .slice a2 f.ow.length c2, .slice a3 f.ln.length c3] 31))) := (Since.start W).step ((Below.refl _ W).alloc (Nat.le_refl _) _)
  have HX : Hid (Bx4 (W.alloc (.cells #[.slice a0 f.lk.length c0, .slice a1 f.kn.length c1, .slice a2 f.ow.length c2, .slice a3 f.ln.length c3] 31)) W.heap.size (.slice a0 f.lk.length c0) (.slice a1 f.kn.length c1) (.slice a2 f.ow.length c2) (.slice a3 f.ln.length c3)) := Bx4.new W (.slice a0 f.lk.length c0) (.slice a1 f.kn.length c1) (.slice a2 f.ow.length c2) (.slice a3 f.ln.length c3) 31
  have hrow := h.ow.below HB.out.1
  clear h
  go_enter Try.func46, Try.ntmps46
  go_wp2
  generalize (W.alloc (.cells #[.slice a0 f.lk.length c0, .slice a1 f.kn.length c1, .slice a2 f.ow.length c2, .slice a3 f.ln.length c3] 31)) = w1 at *
  have hgr := goodF_rows hg
  have HSB : Hid (∀ k, k ≤ f.ow.length → 0 ≤ sumTo f.ow k ∧ sumTo f.ow k ≤ 6 * k) := sumTo_bound f.ow f.kn.length hgr.1.2 hgr.2.2.2.2.2.2.1
  have HROW : Hid (∀ k (hk : k < f.ow.length), (f.ow[k].length : Int) = (f.kn.length : Int) ∧ allB f.ow[k] 0 1 = true) := fun k hk => by
    have := hgr.2.2.2.2.2.2.1 k hk
    unfold rowB at this
    rw [Bool.and_eq_true] at this
    exact ⟨of_decide_eq_true this.1, this.2⟩
  have HN6 : Hid (f.kn.length ≤ 6) := hgr.1.2
  have hm36 : f.ow.length ≤ 36 := hgr.2.2.2.2.1
  clear hgr
  obtain ⟨a7, c7, hv7, hc7⟩ := hrow
  simp only [Value.slice.injEq] at hv7
  obtain ⟨rfl, -, rfl⟩ := hv7
  have HC7 : Hid (f.ow = [] ∨ ∃ g off, a2 = some ⟨g, off, none⟩ ∧ g < w1.heap.size ∧ ∀ j (hj : j < f.ow.length), ∃ u, w1.cell? ⟨g, off + j, none⟩ = some u ∧ Reads w1 u f.ow[j]) := hc7
  clear hc7
  go_loop [3, 11] (fun s i => ∃ k : Nat, k ≤ f.ow.length ∧ i = .int .i64 k ∧ s = .int .i64 (sumTo f.ow k)) (fun _ i => f.ow.length - (intOf i).toNat)
  case atStart => exact ⟨0, Nat.zero_le _, rfl, rfl⟩
  case round =>
    obtain ⟨k, hk, rfl, rfl⟩ := hrel
    by_cases hkl : k < f.ow.length
    · have hlt' : (k : Int) < (f.ow.length : Int) := by omega
      obtain ⟨g8, o8, ha8, hg8, hcc⟩ := HC7.out.resolve_left (fun e => by rw [e] at hkl; exact absurd hkl (Nat.not_lt_zero _))
      obtain ⟨u, hu, hr⟩ := hcc k hkl
      have HSN : Hid (sumTo f.ow (k + 1) = sumTo f.ow k + f.ow[k].sum) := sumTo_next f.ow k hkl
      obtain ⟨hs0, hs1⟩ := HSB.out k (by omega)
      have HRB : Hid ((f.ow[k].length : Int) = (f.kn.length : Int) ∧ allB f.ow[k] 0 1 = true) := HROW.out k hkl
      generalize hsn : sumTo f.ow (k + 1) = sn at *
      have HSQ : Hid (sumTo f.ow (k + 1) = sn) := hsn
      clear hsn
      generalize sumTo f.ow k = sk at *
      generalize f.ow[k] = rr at *
      have hrl : rr.length ≤ 6 := by have := HRB.out.1; have := HN6.out; omega
      obtain ⟨av, cv, rfl, hc⟩ := hr
      have HIB : Hid (∀ t, t ≤ rr.length → 0 ≤ (rr.take t).sum ∧ (rr.take t).sum ≤ t) := sumI_bound rr HRB.out.2
      have HCI : Hid (∀ t (ht : t < rr.length), ∃ g o, av = some ⟨g, o, none⟩ ∧ w1.cell? ⟨g, o + t, none⟩ = some (.int .i64 rr[t])) := fun t ht => by
        obtain ⟨g, o, ha, -, hcell⟩ := hc.resolve_left (fun e => by rw [e] at ht; exact absurd ht (Nat.not_lt_zero _))
        exact ⟨g, o, ha, hcell t ht⟩
      clear hcc hg8 hc
      subst ha8
      go_wp2
      go_loop [3, 17] (fun s i => ∃ t : Nat, t ≤ rr.length ∧ i = .int .i64 t ∧ s = .int .i64 (sk + (rr.take t).sum)) (fun _ i => rr.length - (intOf i).toNat)
      case atStart => exact ⟨0, Nat.zero_le _, rfl, by simp⟩
      case round =>
        obtain ⟨t, ht, rfl, rfl⟩ := hrel
        by_cases hlt2 : t < rr.length
        · have hlt2' : (t : Int) < (rr.length : Int) := by omega
          obtain ⟨gi, oi, hai, hci⟩ := HCI.out t hlt2
          have HIN : Hid ((rr.take (t + 1)).sum = (rr.take t).sum + rr[t]) := sumI_next rr t hlt2
          obtain ⟨b0, b1⟩ := HIB.out t (by omega)
          obtain ⟨b2, b3⟩ := HIB.out (t + 1) (by omega)
          rw [HIN.out] at b2 b3
          generalize rr[t] = z at *
          generalize hst : (rr.take (t + 1)).sum = st1 at *
          have HST : Hid ((rr.take (t + 1)).sum = st1) := hst
          clear hst
          generalize (rr.take t).sum = st at *
          have hw : IntKind.i64.wrap (sk + st + z) = sk + st + z := by rw [IntKind.wrap_i64]; omega
          subst hai
          go_wp2
          go_round
          case rel => exact ⟨t + 1, by omega, by go_num, by rw [HST.out, HIN.out]; congr 1; omega⟩
          case measure => simp [intOf]; omega
        · have hlt2' : ¬ (t : Int) < (rr.length : Int) := by omega
          have HE : Hid (sk + (rr.take t).sum = sn) := by
            show _ = _
            rw [HSN.out, List.take_of_length_le (by omega)]
          generalize sk + (rr.take t).sum = s9 at *
          go_wp2
          go_round
          case rel => exact ⟨k + 1, by omega, by go_num, by rw [HSQ.out, HE.out]⟩
          case measure => simp [intOf]; omega
    · have hlt' : ¬ (k : Int) < (f.ow.length : Int) := by omega
      have HE : Hid (sumTo f.ow k = sumF f) := by
        have e : k = f.ow.length := by omega
        show _ = _
        rw [e]
        rfl
      generalize sumTo f.ow k = s9 at *
      go_wp2
      go_ret
      exact ⟨by rw [← HE.out]; rfl, HB.out.1⟩

def owedI (f : FD) : Int := if goodF f = true then sumF f else 0

set_option maxRecDepth 100000 in
set_option maxHeartbeats 2000000 in
theorem specOwed_any (W : World) (x y z l : Value) (f : FD) (h : ReadsF W x y z l f) (hf : FitF f) :
    Calls Try.prog 19 #[.agg #[x, y, z, l]] W fun e W' => e = .returned (.tuple #[.int .i64 (owedI f), .bool (goodF f)]) ∧ Below W.heap.size W W' := by
  obtain ⟨a0, c0, rfl⟩ := h.lk.shape
  obtain ⟨a1, c1, rfl⟩ := h.kn.shape
  obtain ⟨a2, c2, rfl⟩ := h.ow.shape
  obtain ⟨a3, c3, rfl⟩ := h.ln.shape
  have HB : Hid (Since W.heap.size W (W.alloc (.cells #[.slice a0 f.lk.length c0, .slice a1 f.kn.length c1, .slice a2 f.ow.length c2, .slice a3 f.ln.length c3] 31))) := (Since.start W).step ((Below.refl _ W).alloc (Nat.le_refl _) _)
  have HX0 : Hid (∀ w', Since (W.alloc (.cells #[.slice a0 f.lk.length c0, .slice a1 f.kn.length c1, .slice a2 f.ow.length c2, .slice a3 f.ln.length c3] 31)).heap.size (W.alloc (.cells #[.slice a0 f.lk.length c0, .slice a1 f.kn.length c1, .slice a2 f.ow.length c2, .slice a3 f.ln.length c3] 31)) w' → Bx4 w' W.heap.size (.slice a0 f.lk.length c0) (.slice a1 f.kn.length c1) (.slice a2 f.ow.length c2) (.slice a3 f.ln.length c3)) := fun w' hs => (Bx4.new W (.slice a0 f.lk.length c0) (.slice a1 f.kn.length c1) (.slice a2 f.ow.length c2) (.slice a3 f.ln.length c3) 31).below hs.1
  have CG : Hid (Calls Try.prog 23 #[.agg #[.slice a0 f.lk.length c0, .slice a1 f.kn.length c1, .slice a2 f.ow.length c2, .slice a3 f.ln.length c3]] (W.alloc (.cells #[.slice a0 f.lk.length c0, .slice a1 f.kn.length c1, .slice a2 f.ow.length c2, .slice a3 f.ln.length c3] 31)) fun e W' => e = .returned (.bool (goodF f)) ∧ Below (W.alloc (.cells #[.slice a0 f.lk.length c0, .slice a1 f.kn.length c1, .slice a2 f.ow.length c2, .slice a3 f.ln.length c3] 31)).heap.size (W.alloc (.cells #[.slice a0 f.lk.length c0, .slice a1 f.kn.length c1, .slice a2 f.ow.length c2, .slice a3 f.ln.length c3] 31)) W') := specGoodF_any _ _ _ _ _ f (h.below HB.out.1) hf
  have HR : Hid (∀ W1, Below W.heap.size W W1 → ReadsF W1 (.slice a0 f.lk.length c0) (.slice a1 f.kn.length c1) (.slice a2 f.ow.length c2) (.slice a3 f.ln.length c3) f) := fun W1 hb => h.below hb
  clear h hf
  cases hg : goodF f with
  | false =>
    have HE : Hid (owedI f = 0) := by show _ = _; unfold owedI; rw [hg]; rfl
    rw [HE.out]
    rw [hg] at CG
    go_enter Try.func19, Try.ntmps19
    go_wp2_with fail
    refine CG.out.mono ?_
    rintro e w1 ⟨rfl, hb1⟩
    have HS1 : Hid (Since W.heap.size W w1) := HB.out.step hb1
    clear hb1
    go_wp2
    go_ret2
    exact ⟨rfl, HS1.out.1⟩
  | true =>
    have HE : Hid (owedI f = sumF f) := by show _ = _; unfold owedI; rw [hg]; rfl
    rw [HE.out]
    rw [hg] at CG
    go_enter Try.func19, Try.ntmps19
    go_wp2_with fail
    refine CG.out.mono ?_
    rintro e w1 ⟨rfl, hb1⟩
    have HS1 : Hid (Since W.heap.size W w1) := HB.out.step hb1
    obtain ⟨-, x0, x1, x2, x3, -⟩ := HX0.out w1 ((Since.start _).step hb1)
    clear hb1
    go_wp2_with fail
    refine (l6Owed_any w1 _ _ _ _ f (HR.out _ HS1.out.1) hg).mono ?_
    rintro e w2 ⟨rfl, hb2⟩
    have HS2 : Hid (Since W.heap.size W w2) := HS1.out.step hb2
    clear hb2
    go_wp2
    go_ret2
    exact ⟨rfl, HS2.out.1⟩

set_option maxRecDepth 100000 in
set_option maxHeartbeats 2000000 in
theorem implOwed_any (W : World) (x y z l : Value) (f : FD) (h : ReadsF W x y z l f) (hf : FitF f) :
    Calls Try.prog 20 #[.agg #[x, y, z, l]] W fun e W' => e = .returned (.tuple #[.int .i64 (owedI f), .bool (goodF f)]) ∧ Below W.heap.size W W' := by
  obtain ⟨a0, c0, rfl⟩ := h.lk.shape
  obtain ⟨a1, c1, rfl⟩ := h.kn.shape
  obtain ⟨a2, c2, rfl⟩ := h.ow.shape
  obtain ⟨a3, c3, rfl⟩ := h.ln.shape
  have HB : Hid (Since W.heap.size W (W.alloc (.cells #[.slice a0 f.lk.length c0, .slice a1 f.kn.length c1, .slice a2 f.ow.length c2, .slice a3 f.ln.length c3] 31))) := (Since.start W).step ((Below.refl _ W).alloc (Nat.le_refl _) _)
  have HX0 : Hid (∀ w', Since (W.alloc (.cells #[.slice a0 f.lk.length c0, .slice a1 f.kn.length c1, .slice a2 f.ow.length c2, .slice a3 f.ln.length c3] 31)).heap.size (W.alloc (.cells #[.slice a0 f.lk.length c0, .slice a1 f.kn.length c1, .slice a2 f.ow.length c2, .slice a3 f.ln.length c3] 31)) w' → Bx4 w' W.heap.size (.slice a0 f.lk.length c0) (.slice a1 f.kn.length c1) (.slice a2 f.ow.length c2) (.slice a3 f.ln.length c3)) := fun w' hs => (Bx4.new W (.slice a0 f.lk.length c0) (.slice a1 f.kn.length c1) (.slice a2 f.ow.length c2) (.slice a3 f.ln.length c3) 31).below hs.1
  have CG : Hid (Calls Try.prog 28 #[.agg #[.slice a0 f.lk.length c0, .slice a1 f.kn.length c1, .slice a2 f.ow.length c2, .slice a3 f.ln.length c3]] (W.alloc (.cells #[.slice a0 f.lk.length c0, .slice a1 f.kn.length c1, .slice a2 f.ow.length c2, .slice a3 f.ln.length c3] 31)) fun e W' => e = .returned (.bool (goodF f)) ∧ Below (W.alloc (.cells #[.slice a0 f.lk.length c0, .slice a1 f.kn.length c1, .slice a2 f.ow.length c2, .slice a3 f.ln.length c3] 31)).heap.size (W.alloc (.cells #[.slice a0 f.lk.length c0, .slice a1 f.kn.length c1, .slice a2 f.ow.length c2, .slice a3 f.ln.length c3] 31)) W') := implGoodF_any _ _ _ _ _ f (h.below HB.out.1) hf
  have HR : Hid (∀ W1, Below W.heap.size W W1 → ReadsF W1 (.slice a0 f.lk.length c0) (.slice a1 f.kn.length c1) (.slice a2 f.ow.length c2) (.slice a3 f.ln.length c3) f) := fun W1 hb => h.below hb
  clear h hf
  cases hg : goodF f with
  | false =>
    have HE : Hid (owedI f = 0) := by show _ = _; unfold owedI; rw [hg]; rfl
    rw [HE.out]
    rw [hg] at CG
    go_enter Try.func20, Try.ntmps20
    go_wp2_with fail
    refine CG.out.mono ?_
    rintro e w1 ⟨rfl, hb1⟩
    have HS1 : Hid (Since W.heap.size W w1) := HB.out.step hb1
    clear hb1
    go_wp2
    go_ret2
    exact ⟨rfl, HS1.out.1⟩
  | true =>
    have HOE : Hid (owedI f = sumF f) := by show _ = _; unfold owedI; rw [hg]; rfl
    rw [HOE.out]
    rw [hg] at CG
    go_enter Try.func20, Try.ntmps20
    go_wp2_with fail
    refine CG.out.mono ?_
    rintro e w1 ⟨rfl, hb1⟩
    have HS1 : Hid (Since W.heap.size W w1) := HB.out.step hb1
    obtain ⟨-, x0, x1, x2, x3, -⟩ := HX0.out w1 ((Since.start _).step hb1)
    have hrow := (HR.out _ HS1.out.1).ow
    clear hb1
    go_wp2
    have hgr := goodF_rows hg
    have HSB : Hid (∀ k, k ≤ f.ow.length → 0 ≤ sumTo f.ow k ∧ sumTo f.ow k ≤ 6 * k) := sumTo_bound f.ow f.kn.length hgr.1.2 hgr.2.2.2.2.2.2.1
    have HROW : Hid (∀ k (hk : k < f.ow.length), (f.ow[k].length : Int) = (f.kn.length : Int) ∧ allB f.ow[k] 0 1 = true) := fun k hk => by
      have := hgr.2.2.2.2.2.2.1 k hk
      unfold rowB at this
      rw [Bool.and_eq_true] at this
      exact ⟨of_decide_eq_true this.1, this.2⟩
    have HN6 : Hid (f.kn.length ≤ 6) := hgr.1.2
    have hm36 : f.ow.length ≤ 36 := hgr.2.2.2.2.1
    clear hgr
    obtain ⟨a7, c7, hv7, hc7⟩ := hrow
    simp only [Value.slice.injEq] at hv7
    obtain ⟨rfl, -, rfl⟩ := hv7
    have HC7 : Hid (f.ow = [] ∨ ∃ g off, a2 = some ⟨g, off, none⟩ ∧ g < w1.heap.size ∧ ∀ j (hj : j < f.ow.length), ∃ u, w1.cell? ⟨g, off + j, none⟩ = some u ∧ Reads w1 u f.ow[j]) := hc7
    clear hc7
    go_loop [4, 15] (fun s i => ∃ k : Nat, k ≤ f.ow.length ∧ i = .int .i64 k ∧ s = .int .i64 (sumTo f.ow k)) (fun _ i => f.ow.length - (intOf i).toNat)
    case atStart => exact ⟨0, Nat.zero_le _, rfl, rfl⟩
    case round =>
      obtain ⟨k, hk, rfl, rfl⟩ := hrel
      by_cases hkl : k < f.ow.length
      · have hlt' : (k : Int) < (f.ow.length : Int) := by omega
        obtain ⟨g8, o8, ha8, hg8, hcc⟩ := HC7.out.resolve_left (fun e => by rw [e] at hkl; exact absurd hkl (Nat.not_lt_zero _))
        obtain ⟨u, hu, hr⟩ := hcc k hkl
        have HSN : Hid (sumTo f.ow (k + 1) = sumTo f.ow k + f.ow[k].sum) := sumTo_next f.ow k hkl
        obtain ⟨hs0, hs1⟩ := HSB.out k (by omega)
        have HRB : Hid ((f.ow[k].length : Int) = (f.kn.length : Int) ∧ allB f.ow[k] 0 1 = true) := HROW.out k hkl
        generalize hsn : sumTo f.ow (k + 1) = sn at *
        have HSQ : Hid (sumTo f.ow (k + 1) = sn) := hsn
        clear hsn
        generalize sumTo f.ow k = sk at *
        generalize f.ow[k] = rr at *
        have hrl : rr.length ≤ 6 := by have := HRB.out.1; have := HN6.out; omega
        obtain ⟨av, cv, rfl, hc⟩ := hr
        have HIB : Hid (∀ t, t ≤ rr.length → 0 ≤ (rr.take t).sum ∧ (rr.take t).sum ≤ t) := sumI_bound rr HRB.out.2
        have HCI : Hid (∀ t (ht : t < rr.length), ∃ g o, av = some ⟨g, o, none⟩ ∧ w1.cell? ⟨g, o + t, none⟩ = some (.int .i64 rr[t])) := fun t ht => by
          obtain ⟨g, o, ha, -, hcell⟩ := hc.resolve_left (fun e => by rw [e] at ht; exact absurd ht (Nat.not_lt_zero _))
          exact ⟨g, o, ha, hcell t ht⟩
        clear hcc hg8 hc
        subst ha8
        go_wp2
        go_loop [4, 21] (fun s i => ∃ t : Nat, t ≤ rr.length ∧ i = .int .i64 t ∧ s = .int .i64 (sk + (rr.take t).sum)) (fun _ i => rr.length - (intOf i).toNat)
        case atStart => exact ⟨0, Nat.zero_le _, rfl, by simp⟩
        case round =>
          obtain ⟨t, ht, rfl, rfl⟩ := hrel
          by_cases hlt2 : t < rr.length
          · have hlt2' : (t : Int) < (rr.length : Int) := by omega
            obtain ⟨gi, oi, hai, hci⟩ := HCI.out t hlt2
            have HIN : Hid ((rr.take (t + 1)).sum = (rr.take t).sum + rr[t]) := sumI_next rr t hlt2
            obtain ⟨b0, b1⟩ := HIB.out t (by omega)
            obtain ⟨b2, b3⟩ := HIB.out (t + 1) (by omega)
            rw [HIN.out] at b2 b3
            generalize rr[t] = z at *
            generalize hst : (rr.take (t + 1)).sum = st1 at *
            have HST : Hid ((rr.take (t + 1)).sum = st1) := hst
            clear hst
            generalize (rr.take t).sum = st at *
            have hw : IntKind.i64.wrap (sk + st + z) = sk + st + z := by rw [IntKind.wrap_i64]; omega
            subst hai
            go_wp2
            go_round
            case rel => exact ⟨t + 1, by omega, by go_num, by rw [HST.out, HIN.out]; congr 1; omega⟩
            case measure => simp [intOf]; omega
          · have hlt2' : ¬ (t : Int) < (rr.length : Int) := by omega
            have HE : Hid (sk + (rr.take t).sum = sn) := by
              show _ = _
              rw [HSN.out, List.take_of_length_le (by omega)]
            generalize sk + (rr.take t).sum = s9 at *
            go_wp2
            go_round
            case rel => exact ⟨k + 1, by omega, by go_num, by rw [HSQ.out, HE.out]⟩
            case measure => simp [intOf]; omega
      · have hlt' : ¬ (k : Int) < (f.ow.length : Int) := by omega
        have HE : Hid (sumTo f.ow k = sumF f) := by
          have e : k = f.ow.length := by omega
          show _ = _
          rw [e]
          rfl
        generalize sumTo f.ow k = s9 at *
        go_wp2
        go_ret2
        exact ⟨by rw [← HE.out]; rfl, HS1.out.1⟩
end Go.Proofs.Ytkkamigaolejiax
