/-
  'newsIn' of the program.
-/
import Derived.Test.YtkpdiojomgiocacLsList
namespace Go.Proofs.Ytkpdiojomgiocac
open Go.RowKit Go.Maps
set_option linter.unusedVariables false

theorem news_start {a : List HvD} (ha : FitHv a) : newsHv a [] = a := by
  unfold newsHv
  refine List.filter_eq_self.2 fun x hx => ?_
  have := ha x hx
  have h0 : seqIn [] x.From = 0 := rfl
  rw [h0]
  exact decide_eq_true (by omega)
theorem cont_fit0 {l : List HvD} (hf : FitHv l) {k v : Int} (h : cont l k = some v) : (1 ≤ k ∧ k ≤ 1000) ∧ 1 ≤ v ∧ v ≤ 1000 := hf _ (cont_mem h)
theorem news_cont {a : List HvD} (ha : Rise a) (o : List HvD) (z : Int) : cont (newsHv a o) z = match cont a z with | some v => if decide (seqIn o z < v) = true then some v else none | none => none := cont_filter ha _ z
theorem seqIn_take {b : List HvD} (hb : Rise b) (k : Nat) (h : k < b.length) (z : Int) : seqIn (b.take (k + 1)) z = if z = b[k].From then b[k].Seq else seqIn (b.take k) z := by
  unfold seqIn
  rw [← take_cont hb k h z]
  by_cases e : z = b[k].From
  · rw [if_pos e, if_pos e]; rfl
  · rw [if_neg e, if_neg e]
theorem seqIn_yet {b : List HvD} (hb : Rise b) (k : Nat) (h : k < b.length) : seqIn (b.take k) b[k].From = 0 := by
  have hp := List.pairwise_iff_getElem.1 hb
  unfold seqIn
  rw [cont_none_of fun y hy ey => by
      obtain ⟨j, hj, rfl⟩ := List.getElem_of_mem hy
      rw [List.getElem_take] at ey
      rw [List.length_take] at hj
      have := hp j k (by omega) h (by omega)
      omega]
  rfl
theorem news_old {a b : List HvD} (ha : Rise a ∧ FitHv a) (hb : Rise b ∧ FitHv b) (k : Nat) (h : k < b.length) (hc : (cont (newsHv a (b.take k)) b[k].From).getD 0 ≤ b[k].Seq) (z : Int) :
    (if z = b[k].From then none else cont (newsHv a (b.take k)) z) = cont (newsHv a (b.take (k + 1))) z := by
  rw [news_cont ha.1, news_cont ha.1, seqIn_take hb.1 k h]
  rw [news_cont ha.1, seqIn_yet hb.1 k h] at hc
  by_cases e : z = b[k].From
  · subst e
    rw [if_pos rfl]
    simp only [if_true]
    rcases hv : cont a b[k].From with _ | v
    · rfl
    · have := cont_fit0 ha.2 hv
      rw [hv] at hc
      simp only at hc
      rw [if_pos (by simp; omega)] at hc
      simp only [Option.getD_some] at hc
      simp only
      rw [if_neg (by simp; omega)]
  · rw [if_neg e]
    simp only [if_neg e]
theorem news_new {a b : List HvD} (ha : Rise a ∧ FitHv a) (hb : Rise b ∧ FitHv b) (k : Nat) (h : k < b.length) (hc : b[k].Seq < (cont (newsHv a (b.take k)) b[k].From).getD 0) (z : Int) :
    cont (newsHv a (b.take k)) z = cont (newsHv a (b.take (k + 1))) z := by
  rw [news_cont ha.1, news_cont ha.1, seqIn_take hb.1 k h]
  rw [news_cont ha.1, seqIn_yet hb.1 k h] at hc
  by_cases e : z = b[k].From
  · subst e
    simp only [if_true]
    rw [seqIn_yet hb.1 k h]
    rcases hv : cont a b[k].From with _ | v
    · rfl
    · have := cont_fit0 ha.2 hv
      rw [hv] at hc
      simp only at hc ⊢
      rw [if_pos (by simp; omega)] at hc
      simp only [Option.getD_some] at hc
      rw [if_pos (by simp; omega), if_pos (by simp; omega)]
  · simp only [if_neg e]

set_option maxRecDepth 100000 in
set_option maxHeartbeats 2000000 in
theorem newsIn_any (W : World) (va vb : Value) (a b : List HvD) (hva : ReadsHv W va a) (hvb : ReadsHv W vb b) (ha : Rise a ∧ FitHv a) (hb : Rise b ∧ FitHv b) :
    Calls Try.prog 46 #[va, vb] W fun e W' => ∃ v, e = .returned v ∧ OwnHv W' W.heap.size v (newsHv a b) ∧ Below W.heap.size W W' := by
  have hla := rise_len ha.1 ha.2
  have hlb := rise_len hb.1 hb.2
  have HLF : Hid (∀ k v, cont (newsHv a b) k = some v → (1 ≤ k ∧ k ≤ 1000) ∧ 1 ≤ v ∧ v ≤ 1000) := fun k v hc => filter_fit ha.2 _ _ (cont_mem hc)
  have HRM : Hid (Rise (newsHv a b)) := filter_rise ha.1 _
  have CS : Hid (Calls Try.prog 42 #[va] W fun e W' => e = .returned (.map (some W.heap.size)) ∧ Stock W' W.heap.size a.length (cont a) ∧ Below W.heap.size W W') := stockOf_any W va a hva ha.1 ha.2
  have CL : Hid (∀ w', Below W.heap.size W w' → ∀ m, m ≤ 5000 → Stock w' W.heap.size m (cont (newsHv a b)) → Calls Try.prog 47 #[.map (some W.heap.size)] w' fun e W' => ∃ v, e = .returned v ∧ OwnHv W' W.heap.size v (newsHv a b) ∧ Below W.heap.size W W') := fun w' hbw m hm hS => (stockList_any w' _ m _ hS HLF.out hm).mono fun e W' ⟨v, L, he, ho, hr, hc, hbb⟩ => by
    have e2 : L = newsHv a b := rise_cont hr HRM.out hc
    subst e2
    exact ⟨v, he, ho.mono hbw.size, hbw.trans (hbb.mono hbw.size)⟩
  have HNX : Hid (∀ k (hk : k < b.length), ((cont (newsHv a (b.take k)) b[k].From).getD 0 ≤ b[k].Seq → ∀ z, (if z = b[k].From then none else cont (newsHv a (b.take k)) z) = cont (newsHv a (b.take (k + 1))) z) ∧
      (b[k].Seq < (cont (newsHv a (b.take k)) b[k].From).getD 0 → ∀ z, cont (newsHv a (b.take k)) z = cont (newsHv a (b.take (k + 1))) z)) := fun k hk => ⟨news_old ha hb k hk, news_new ha hb k hk⟩
  have HZ : Hid (newsHv a [] = a) := news_start ha.2
  have HWF : Hid (∀ j (hj : j < b.length), (1 ≤ b[j].From ∧ b[j].From ≤ 1000) ∧ 1 ≤ b[j].Seq ∧ b[j].Seq ≤ 1000) := fun j hj => hb.2 b[j] (List.getElem_mem hj)
  obtain ⟨a2, cap2, rfl, hc2⟩ := hvb
  obtain ⟨a1, cap1, rfl⟩ := hva.shape
  by_cases hz : b = []
  · subst hz
    simp only [List.length_nil] at *
    have HA : Hid (a.length ≤ 5000) := by show _ ≤ _; omega
    clear hc2 hla hlb ha hb hva HNX HWF HLF HRM
    go_enter Try.func46, Try.ntmps46
    go_wp2_with fail
    refine CS.out.mono ?_
    rintro e w1 ⟨rfl, hs1, hb1⟩
    have C2 := CL.out w1 hb1 _ HA.out (by rw [HZ.out]; exact hs1)
    clear hs1 hb1 CS CL
    go_wp2
    refine wp_loop_rounds 1 ?_
    rw [rounds_succ]
    go_wp2_with fail
    refine C2.mono ?_
    rintro e w2 ⟨v2, rfl, ho2, hb2⟩
    have HO : Hid (OwnHv w2 W.heap.size v2 (newsHv a []) ∧ Below W.heap.size W w2) := ⟨ho2, hb2⟩
    obtain ⟨a3, c3, rfl⟩ := ho2.shape
    clear ho2 hb2
    go_wp2
    go_ret
    exact ⟨_, rfl, HO.out⟩
  · obtain ⟨g1, o1, rfl, hg1, hc2⟩ := hc2.resolve_left hz
    have HC1 : Hid (∀ wr, Below W.heap.size W wr → ∀ j (hj : j < b.length), HvAt wr g1 (o1 + j * 2) b[j]) := fun wr hB j hj => (hc2 j hj).below hg1 hB
    clear hc2 ha hb hva HLF HRM hg1 hz
    go_enter Try.func46, Try.ntmps46
    go_wp2_with fail
    refine CS.out.mono ?_
    rintro e w1 ⟨rfl, hs1, hb1⟩
    have HS0 : Hid (Stock w1 W.heap.size a.length (cont (newsHv a (b.take 0))) ∧ Below W.heap.size W w1) := ⟨by rw [List.take_zero, HZ.out]; exact hs1, hb1⟩
    clear hs1 hb1 CS
    go_wp2
    go_loopw [12] (fun i wr => ∃ k : Nat, k ≤ b.length ∧ i = .int .i64 k ∧ Hid (Stock wr W.heap.size a.length (cont (newsHv a (b.take k))) ∧ Below W.heap.size W wr)) (fun i _ => b.length - (intOf i).toNat)
    case atStart => exact ⟨0, Nat.zero_le _, rfl, HS0.out⟩
    case round =>
      obtain ⟨k, hk, rfl, HK⟩ := hrel
      by_cases hlt : k < b.length
      · have hlt' : (k : Int) < (b.length : Int) := by omega
        obtain ⟨q0, q1⟩ := HC1.out wr HK.out.2 k hlt
        have hin := HWF.out k hlt
        have HN : Hid (((cont (newsHv a (b.take k)) b[k].From).getD 0 ≤ b[k].Seq → ∀ z, (if z = b[k].From then none else cont (newsHv a (b.take k)) z) = cont (newsHv a (b.take (k + 1))) z) ∧
          (b[k].Seq < (cont (newsHv a (b.take k)) b[k].From).getD 0 → ∀ z, cont (newsHv a (b.take k)) z = cont (newsHv a (b.take (k + 1))) z)) := HNX.out k hlt
        have HB1 : Hid (Stock (wr.alloc (.cells #[.int .i64 b[k].From, .int .i64 b[k].Seq] 41)) W.heap.size a.length (cont (newsHv a (b.take k))) ∧ Below W.heap.size W (wr.alloc (.cells #[.int .i64 b[k].From, .int .i64 b[k].Seq] 41))) := ⟨HK.out.1.kept (World.grownBy_alloc wr _ none) (by simp), HK.out.2.alloc HK.out.2.size _⟩
        clear HK
        generalize b[k].From = fr at *
        generalize b[k].Seq = sq at *
        obtain ⟨C, hC⟩ : ∃ C, (cont (newsHv a (b.take k)) fr).getD 0 = C := ⟨_, rfl⟩
        rw [hC] at HN
        have HCC : Hid ((cont (newsHv a (b.take k)) fr).getD 0 = C) := hC
        clear hC
        obtain ⟨D, hD, hF⟩ := HB1.out.1
        have HF : Hid (StF D (cont (newsHv a (b.take k)))) := hF
        have HD : Hid ((wr.alloc (.cells #[.int .i64 fr, .int .i64 sq] 41)).ownsMap Try.prog 3 (plainElem Try.prog 3) W.heap.size a.length D) := hD
        clear hD hF
        have wf0 : (Lit.int .i64 fr).wf = true := wf64 (by omega) (by omega)
        by_cases hle : C ≤ sq
        · have HN1 : Hid (∀ z, (if z = fr then none else cont (newsHv a (b.take k)) z) = cont (newsHv a (b.take (k + 1))) z) := HN.out.1 hle
          clear HN
          go_wp2_with (first
            | (at_lookup; refine list_look rfl _ _ rfl W.heap.size _ D _ rfl HD.out HF.out fr C rfl wf0 HCC.out ?_)
            | (at_delete; refine list_strike rfl _ _ rfl W.heap.size _ _ rfl HB1.out.1 fr rfl wf0 W.heap.size (Nat.le_refl _) W HB1.out.2 ?_; intro w2 hS2 hb2; have HD2 : Hid (Stock w2 W.heap.size a.length (cont (newsHv a (b.take (k + 1)))) ∧ Below W.heap.size W w2) := ⟨by rw [show cont (newsHv a (b.take (k + 1))) = fun z => if z = fr then none else cont (newsHv a (b.take k)) z from (funext HN1.out).symm]; exact hS2, hb2⟩; clear hS2 hb2; go_frame)
            | go_in)
          go_roundw
          case rel => exact ⟨k + 1, by omega, by go_num, HD2.out⟩
          case measure => simp [intOf]; omega
        · have HD2 : Hid (Stock (wr.alloc (.cells #[.int .i64 fr, .int .i64 sq] 41)) W.heap.size a.length (cont (newsHv a (b.take (k + 1)))) ∧ Below W.heap.size W (wr.alloc (.cells #[.int .i64 fr, .int .i64 sq] 41))) := ⟨by rw [show cont (newsHv a (b.take (k + 1))) = cont (newsHv a (b.take k)) from (funext (HN.out.2 (by omega))).symm]; exact HB1.out.1, HB1.out.2⟩
          clear HN
          go_wp2_with (first
            | (at_lookup; refine list_look rfl _ _ rfl W.heap.size _ D _ rfl HD.out HF.out fr C rfl wf0 HCC.out ?_)
            | go_in)
          go_roundw
          case rel => exact ⟨k + 1, by omega, by go_num, HD2.out⟩
          case measure => simp [intOf]; omega
      · have hlt' : ¬ (k : Int) < (b.length : Int) := by omega
        have e : k = b.length := by omega
        subst e
        rw [List.take_length] at HK
        have C2 := CL.out wr HK.out.2 _ (by omega) HK.out.1
        clear HK CL
        go_wp2_with fail
        refine C2.mono ?_
        rintro e w2 ⟨v2, rfl, ho2, hb2⟩
        have HO : Hid (OwnHv w2 W.heap.size v2 (newsHv a b) ∧ Below W.heap.size W w2) := ⟨ho2, hb2⟩
        obtain ⟨a3, c3, rfl⟩ := ho2.shape
        clear ho2 hb2
        go_wp2
        go_ret
        exact ⟨_, rfl, HO.out⟩
end Go.Proofs.Ytkpdiojomgiocac
