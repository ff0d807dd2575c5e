/-
  'markSummaryS' and 'heldSummaryS' of the laws.
-/
import Derived.Test.YtkpdiojomgiocayLsSmRow
namespace Go.Proofs.Ytkpdiojomgiocay
open Go.RowKit
set_option linter.unusedVariables false

theorem cellsSm_set : ∀ (es : List SmE) (i : Nat) (x : SmD) (h : i < es.length), cellsSm (es.set i ⟨x, es[i].u⟩) = ((cellsSm es).set (i * 3) (.int .i64 x.Lo)).set (i * 3 + 1) (.int .i64 x.Hi)
  | e :: es, 0, x, _ => rfl
  | e :: es, i + 1, x, h => by
    have e1 : (i + 1) * 3 = i * 3 + 1 + 1 + 1 := by omega
    simp only [List.set_cons_succ, cellsSm, List.getElem_cons_succ, e1]
    rw [cellsSm_set es i x (by simpa using h)]
theorem cellsSm_same : ∀ (es : List SmE) (i : Nat) (hs : List HvD) (h : i < es.length), cellsSm (es.set i ⟨⟨es[i].s.Lo, es[i].s.Hi, hs⟩, es[i].u⟩) = cellsSm es
  | e :: es, 0, hs, _ => rfl
  | e :: es, i + 1, hs, h => by
    simp only [List.set_cons_succ, cellsSm, List.getElem_cons_succ]
    rw [cellsSm_same es i hs (by simpa using h)]
/-- The two numbers of a summary are written. -/
theorem OwnSm.put {W : World} {B g c : Nat} {es : List SmE} (h : OwnSm W B (.slice (some ⟨g, 0, none⟩) es.length c) es) (i : Nat) (hi : i < es.length) (lo hh : Int) :
    OwnSm ((W.setCell ⟨g, i * 3, none⟩ (.int .i64 lo)).setCell ⟨g, i * 3 + 1, none⟩ (.int .i64 hh)) B (.slice (some ⟨g, 0, none⟩) es.length c) (es.set i ⟨⟨lo, hh, es[i].s.Hs⟩, es[i].u⟩) := by
  have h1 := (World.ownsRow.stored h.row (i * 3) (.int .i64 lo)).1
  have h2 := (World.ownsRow.stored h1 (i * 3 + 1) (.int .i64 hh)).1
  have hin : ∀ {u : Value} {l : List HvD}, OwnHv W B u l → OwnHv ((W.setCell ⟨g, i * 3, none⟩ (.int .i64 lo)).setCell ⟨g, i * 3 + 1, none⟩ (.int .i64 hh)) B u l := fun {u l} ho => rowSame ho fun k hk => by
    have hne : k ≠ g := fun e => rowsApart h.row ho (by decide) g rfl (by rw [← e]; exact hk)
    exact (Below.heap_setCell _ _ _ _ (fun e => hne (by rw [e]))).trans (Below.heap_setCell _ _ _ _ (fun e => hne (by rw [e])))
  refine ⟨?_, fun j hj => ?_, fun a b ha hb hab => ?_⟩
  · rw [List.length_set, cellsSm_set es i ⟨lo, hh, es[i].s.Hs⟩ hi]
    exact h2
  · have hj' : j < es.length := by simpa using hj
    rw [List.getElem_set]
    split
    · next e => subst e; exact hin (h.inner i hi)
    · exact hin (h.inner j hj')
  · have ha' : a < es.length := by simpa using ha
    have hb' : b < es.length := by simpa using hb
    have eu : ∀ k (hk : k < (es.set i ⟨⟨lo, hh, es[i].s.Hs⟩, es[i].u⟩).length), (es.set i ⟨⟨lo, hh, es[i].s.Hs⟩, es[i].u⟩)[k].u = (es[k]'(by simpa using hk)).u := fun k hk => by
      rw [List.getElem_set]
      split
      · next e => subst e; rfl
      · rfl
    rw [eu a ha, eu b hb]
    exact h.apart a b ha' hb' hab
/-- A call writes into the list of a summary. -/
theorem OwnSm.putHs {W W' : World} {B : Nat} {v : Value} {es : List SmE} (h : OwnSm W B v es) (i : Nat) (hi : i < es.length) (hs : List HvD) (hg : W.grownBy W' es[i].u.ownBlock) (ho : OwnHv W' B es[i].u hs) : OwnSm W' B v (es.set i ⟨⟨es[i].s.Lo, es[i].s.Hi, hs⟩, es[i].u⟩) := by
  have eu : ∀ k (hk : k < (es.set i ⟨⟨es[i].s.Lo, es[i].s.Hi, hs⟩, es[i].u⟩).length), (es.set i ⟨⟨es[i].s.Lo, es[i].s.Hi, hs⟩, es[i].u⟩)[k].u = (es[k]'(by simpa using hk)).u := fun k hk => by
    rw [List.getElem_set]
    split
    · next e => subst e; rfl
    · rfl
  refine ⟨?_, fun j hj => ?_, fun a b ha hb hab => ?_⟩
  · rw [List.length_set, cellsSm_same es i hs hi]
    exact rowGrow0 h.row hg fun k hk hk2 => rowsApart h.row (h.inner i hi) (by decide) k hk2 hk
  · have hj' : j < es.length := by simpa using hj
    rw [List.getElem_set]
    split
    · next e => subst e; exact ho
    · next e => exact rowGrow0 (h.inner j hj') hg fun k hk => h.apart i j hi hj' e k hk
  · rw [eu a ha, eu b hb]
    exact h.apart a b (by simpa using ha) (by simpa using hb) hab

set_option maxRecDepth 100000 in
set_option maxHeartbeats 4000000 in
theorem markSms_any (W : World) (B : Nat) (v : Value) (k0 : Nat) (ss : List SmD) (h : OwnSms W B v ss) (hend : endSm k0 ss ≤ 4194304) :
    Calls Try.prog 21 #[v, .int .i64 (k0 : Int)] W fun e W' => e = .returned (.int .i64 ((endSm k0 ss : Nat) : Int)) ∧ OwnSms W' B v (marksSm k0 ss) ∧ W'.heap.size = W.heap.size ∧ Below B W W' := by
  have hlen := endSm_le k0 ss
  have hsh := h
  obtain ⟨es, ho0, he0⟩ := hsh
  have hel : es.length = ss.length := by rw [← he0, List.length_map]
  rcases ho0.row.2 with ⟨hv, hn⟩ | ⟨g, cap1, cur, hv, hB, hg, -⟩
  · obtain rfl : ss = [] := List.eq_nil_of_length_eq_zero (by omega)
    subst hv
    have HO : Hid (OwnSms W B (.slice none 0 0) []) := h
    clear h ho0 he0 hel hlen hn
    go_enter Try.func21, Try.ntmps21
    go_wp2
    refine wp_loop_rounds 1 ?_
    rw [rounds_succ]
    go_wp2
    go_ret
    exact ⟨rfl, HO.out, rfl, Below.refl _ _⟩
  · rw [hel] at hv
    subst hv
    have HO : Hid (OwnSms W B (.slice (some ⟨g, 0, none⟩) ss.length cap1) ss) := h
    have hls : ss.length ≤ 4194304 := by omega
    have HEND : Hid (endSm k0 ss ≤ 4194304) := hend
    have HGB : Hid (B ≤ g) := hB
    clear h hg ho0 he0 hel hlen hend hB
    have CM : Hid (∀ (w : World) (u : Value) (z : Int) (c : Nat) (hs : List HvD), z = ((c : Nat) : Int) → OwnHv w B u hs → hs.length ≤ 4194304 → c ≤ 1000000000 → Calls Try.prog 20 #[u, .int .i64 z] w fun e W' => e = .returned (.int .i64 ((c + 2 * hs.length : Nat) : Int)) ∧ OwnHv W' B u (marksHv c hs.length) ∧ W'.heap.size = w.heap.size ∧ w.grownBy W' u.ownBlock) := fun w u z c hs hz ho hl hc => by
      subst hz
      exact markHvs_any w B u c hs ho hl hc
    go_enter Try.func21, Try.ntmps21
    go_wp2
    go_loopw [1, 5] (fun x i wr => ∃ k : Nat, k ≤ ss.length ∧ i = .int .i64 k ∧ x = .int .i64 ((endSm k0 (ss.take k) : Nat) : Int) ∧ Hid (OwnSms wr B (.slice (some ⟨g, 0, none⟩) ss.length cap1) (markedSm k0 ss k) ∧ wr.heap.size = W.heap.size ∧ Below B W wr)) (fun _ i _ => ss.length - (intOf i).toNat)
    case atStart => exact ⟨0, Nat.zero_le _, rfl, rfl, HO.out, rfl, Below.refl _ _⟩
    case round =>
      obtain ⟨k, hk, rfl, rfl, HK⟩ := hrel
      by_cases hlt : k < ss.length
      · obtain ⟨⟨es, hown, hes⟩, hsz, hbw⟩ := HK.out
        obtain ⟨hnx, hle⟩ := endSm_next k0 ss k hlt
        have HMN : Hid (markedSm k0 ss (k + 1) = (markedSm k0 ss k).set k ⟨((endSm k0 (ss.take k) : Nat) : Int), ((endSm k0 (ss.take k) : Nat) : Int) + 1, marksHv (endSm k0 (ss.take k) + 2) ss[k].Hs.length⟩) := markedSm_next k0 ss k hlt
        have hel : es.length = ss.length := by
          have := congrArg List.length hes
          rw [List.length_map] at this
          rw [this, markedSm, List.length_append, marksSm_len, List.length_take, List.length_drop]
          omega
        have hke : k < es.length := by omega
        have hsk : es[k].s = ss[k] := by
          have h1 := markedSm_at k0 ss k hlt
          rw [← hes, List.getElem?_map, List.getElem?_eq_getElem hke] at h1
          simpa using h1
        have hE := HEND.out
        have hsl : ss[k].Hs.length ≤ 4194304 := by omega
        have hcb : endSm k0 (ss.take k) ≤ 4194304 := by omega
        rw [← hel] at hown
        obtain ⟨-, g', eg, hg, hcc⟩ := hown.at (fun e => by rw [e] at hke; exact absurd hke (Nat.not_lt_zero _))
        obtain rfl : g = g' := by simpa using eg
        obtain ⟨q0, q1, q2⟩ := hcc k hke
        have hin := hown.inner k hke
        rw [hsk] at hin
        obtain ⟨x, y, hu⟩ := hin.shape
        rw [hu] at q2
        have HCN : Hid (endSm k0 (ss.take (k + 1)) = endSm k0 (ss.take k) + 2 + 2 * ss[k].Hs.length) := hnx
        have fz0 := World.ownsRow.frozenAt hown.row (k * 3)
        have fz1 := World.ownsRow.frozenAt hown.row (k * 3 + 1)
        generalize endSm k0 (ss.take k) = c at *
        have HP : Hid (OwnSm ((wr.setCell ⟨g, k * 3, none⟩ (.int .i64 (c : Int))).setCell ⟨g, k * 3 + 1, none⟩ (.int .i64 ((c : Int) + 1))) B (.slice (some ⟨g, 0, none⟩) es.length cap1) (es.set k ⟨⟨(c : Int), (c : Int) + 1, es[k].s.Hs⟩, es[k].u⟩)) := hown.put k hke (c : Int) ((c : Int) + 1)
        have HZ : Hid (((wr.setCell ⟨g, k * 3, none⟩ (.int .i64 (c : Int))).setCell ⟨g, k * 3 + 1, none⟩ (.int .i64 ((c : Int) + 1))).heap.size = W.heap.size) := by show _ = _; rw [← hsz]; simp [World.setCell]
        have HB2 : Hid (Below B W ((wr.setCell ⟨g, k * 3, none⟩ (.int .i64 (c : Int))).setCell ⟨g, k * 3 + 1, none⟩ (.int .i64 ((c : Int) + 1)))) := (hbw.setCell HGB.out _).setCell HGB.out _
        have hlt' : (k : Int) < (ss.length : Int) := by omega
        have HNXT : Hid (∀ (w1 w2 : World), OwnSm w1 B (.slice (some ⟨g, 0, none⟩) es.length cap1) (es.set k ⟨⟨(c : Int), (c : Int) + 1, es[k].s.Hs⟩, es[k].u⟩) → OwnHv w2 B (.slice x ss[k].Hs.length y) (marksHv (c + 2) ss[k].Hs.length) → w1.grownBy w2 (Value.slice x ss[k].Hs.length y).ownBlock → OwnSms w2 B (.slice (some ⟨g, 0, none⟩) ss.length cap1) (markedSm k0 ss (k + 1)) ∧ Below B w1 w2) := fun w1 w2 h1 h2 h3 => by
          have hk2 : k < (es.set k ⟨⟨(c : Int), (c : Int) + 1, es[k].s.Hs⟩, es[k].u⟩).length := by rw [List.length_set]; exact hke
          have eu : (es.set k ⟨⟨(c : Int), (c : Int) + 1, es[k].s.Hs⟩, es[k].u⟩)[k].u = .slice x ss[k].Hs.length y := by simp [hu]
          have e1 : (es.set k ⟨⟨(c : Int), (c : Int) + 1, es[k].s.Hs⟩, es[k].u⟩)[k].s = ⟨(c : Int), (c : Int) + 1, es[k].s.Hs⟩ := by simp
          have := h1.putHs k hk2 (marksHv (c + 2) ss[k].Hs.length) (by rw [eu]; exact h3) (by rw [eu]; exact h2)
          rw [eu, e1] at this
          refine ⟨⟨_, by rw [← hel]; exact this, ?_⟩, ?_⟩
          · rw [HMN.out, ← hes]
            simp [List.map_set]
          · have hz := h1.inner k hk2
            rw [eu] at hz
            exact (Below.refl B w1).grown h3 (by have := World.ownsRow.lt h1.row g rfl; omega) (fun j hj => (World.ownsRow.lt hz j hj).1)
        have HIN : Hid (OwnHv ((wr.setCell ⟨g, k * 3, none⟩ (.int .i64 (c : Int))).setCell ⟨g, k * 3 + 1, none⟩ (.int .i64 ((c : Int) + 1))) B (.slice x ss[k].Hs.length y) ss[k].Hs) := by
          have hk2 : k < (es.set k ⟨⟨(c : Int), (c : Int) + 1, es[k].s.Hs⟩, es[k].u⟩).length := by rw [List.length_set]; exact hke
          have := HP.out.inner k hk2
          simp only [List.getElem_set_self] at this
          rw [hu, hsk] at this
          exact this
        clear hown hes hbw HK hcc hin hu hsk hnx hle HMN eg
        generalize hsd : ss[k] = s at *
        clear hsd
        go_wp2_with fail
        refine (CM.out _ _ _ (c + 2) s.Hs (by omega) HIN.out hsl (by omega)).mono ?_
        rintro e w2 ⟨rfl, hm, hsz2, hg2⟩
        have HF : Hid (OwnSms w2 B (.slice (some ⟨g, 0, none⟩) ss.length cap1) (markedSm k0 ss (k + 1)) ∧ w2.heap.size = W.heap.size ∧ Below B W w2) := by
          obtain ⟨h1, h2⟩ := HNXT.out _ _ HP.out hm hg2
          exact ⟨h1, by rw [hsz2, HZ.out], HB2.out.trans h2⟩
        clear hm hsz2 hg2 HNXT HP HIN HB2 HZ
        go_wp2
        go_roundw
        case rel => exact ⟨k + 1, by omega, by go_num, by rw [HCN.out]; congr 1, HF.out⟩
        case measure => simp [intOf]; omega
      · have e : k = ss.length := by omega
        have hlt' : ¬ (k : Int) < (ss.length : Int) := by omega
        have HF : Hid (OwnSms wr B (.slice (some ⟨g, 0, none⟩) ss.length cap1) (marksSm k0 ss) ∧ wr.heap.size = W.heap.size ∧ Below B W wr) := by
          have := HK.out
          rw [e, markedSm_all] at this
          exact this
        clear HK
        go_wp2
        go_ret
        exact ⟨rfl, HF.out⟩

set_option maxRecDepth 100000 in
set_option maxHeartbeats 4000000 in
theorem heldSms_yes (W : World) (v : Value) (k0 : Nat) (ss : List SmD) (h : ReadsSms W v (marksSm k0 ss)) (hend : endSm k0 ss ≤ 4194304) :
    Calls Try.prog 22 #[v, .int .i64 (k0 : Int)] W fun e W' => e = .returned (.int .i64 ((endSm k0 ss : Nat) : Int)) ∧ W' = W := by
  have hlen := endSm_le k0 ss
  obtain ⟨a1, cap1, hv, hc1⟩ := h
  rw [marksSm_len] at hv
  subst hv
  by_cases hz : ss = []
  · subst hz
    clear hc1 hlen hend
    simp only [List.length_nil, endSm]
    go_enter Try.func22, Try.ntmps22
    go_wp2
    refine wp_loop_rounds 1 ?_
    rw [rounds_succ]
    go_wp2
    go_ret
    exact ⟨rfl, rfl⟩
  · obtain ⟨g1, rfl, -, hc1⟩ := hc1.resolve_left (fun e => hz (List.eq_nil_of_length_eq_zero (by rw [← marksSm_len k0 ss, e]; rfl)))
    have hls : ss.length ≤ 4194304 := by omega
    have HEND : Hid (endSm k0 ss ≤ 4194304) := hend
    have CH : Hid (∀ (u : Value) (z : Int) (c n : Nat), z = ((c : Nat) : Int) → ReadsHv W u (marksHv c n) → n ≤ 4194304 → c ≤ 1000000000 → Calls Try.prog 29 #[u, .int .i64 z] W fun e W' => e = .returned (.int .i64 ((c + 2 * n : Nat) : Int)) ∧ W' = W) := fun u z c n hz hr hl hc => by
      subst hz
      exact heldHvs_yes W u c n hr hl hc
    have HC1 : Hid (∀ j (hj : j < ss.length), ∃ x y, W.cell? ⟨g1, j * 3, none⟩ = some (.int .i64 ((endSm k0 (ss.take j) : Nat) : Int)) ∧ W.cell? ⟨g1, j * 3 + 1, none⟩ = some (.int .i64 (((endSm k0 (ss.take j) : Nat) : Int) + 1)) ∧ W.cell? ⟨g1, j * 3 + 2, none⟩ = some (.slice x ss[j].Hs.length y) ∧ ReadsHv W (.slice x ss[j].Hs.length y) (marksHv (endSm k0 (ss.take j) + 2) ss[j].Hs.length)) := fun j hj => by
      obtain ⟨x, y, c0, c1, c2, hr⟩ := hc1 j (by rw [marksSm_len]; exact hj)
      rw [marksSm_get k0 ss j hj] at c0 c1 c2 hr
      simp only [marksHv_len] at c0 c1 c2 hr
      exact ⟨x, y, c0, c1, c2, hr⟩
    clear hc1 hz hlen hend
    go_enter Try.func22, Try.ntmps22
    go_wp2
    go_loop [1, 5] (fun x i => ∃ k : Nat, k ≤ ss.length ∧ i = .int .i64 k ∧ x = .int .i64 ((endSm k0 (ss.take k) : Nat) : Int)) (fun _ i => ss.length - (intOf i).toNat)
    case atStart => exact ⟨0, Nat.zero_le _, rfl, rfl⟩
    case round =>
      obtain ⟨k, hk, rfl, rfl⟩ := hrel
      by_cases hlt : k < ss.length
      · obtain ⟨x, y, q0, q1, q2, hr⟩ := HC1.out k hlt
        obtain ⟨hnx, hle⟩ := endSm_next k0 ss k hlt
        have hE := HEND.out
        have hsl : ss[k].Hs.length ≤ 4194304 := by omega
        have hcb : endSm k0 (ss.take k) ≤ 4194304 := by omega
        have HCN : Hid (endSm k0 (ss.take (k + 1)) = endSm k0 (ss.take k) + 2 + 2 * ss[k].Hs.length) := hnx
        have hnn : ¬ (((endSm k0 (ss.take k) + 2 + 2 * ss[k].Hs.length : Nat) : Int) < 0) := by omega
        have HR : Hid (ReadsHv W (.slice x ss[k].Hs.length y) (marksHv (endSm k0 (ss.take k) + 2) ss[k].Hs.length)) := hr
        generalize endSm k0 (ss.take k) = c at *
        have hlt' : (k : Int) < (ss.length : Int) := by omega
        clear hr hnx hle hE
        generalize ss[k].Hs.length = n at *
        go_wp2_with fail
        refine (CH.out _ _ (c + 2) n (by omega) HR.out hsl (by omega)).mono ?_
        rintro e w2 ⟨rfl, hw2⟩
        obtain rfl : W = w2 := hw2.symm
        rw [← HCN.out] at hnn ⊢
        generalize hq : endSm k0 (ss.take (k + 1)) = q at *
        go_wp2
        go_round
        case rel => exact ⟨k + 1, by omega, by go_num, by rw [hq]⟩
        case measure => simp [intOf]; omega
      · have e : k = ss.length := by omega
        have hlt' : ¬ (k : Int) < (ss.length : Int) := by omega
        go_wp2
        go_ret
        exact ⟨rfl, rfl⟩
end Go.Proofs.Ytkpdiojomgiocay
