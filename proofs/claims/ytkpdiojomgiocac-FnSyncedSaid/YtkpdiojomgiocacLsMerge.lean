/-
  'mergeHaves' and 'newsIn' of the program.
-/
import Derived.Test.YtkpdiojomgiocacLsList
namespace Go.Proofs.Ytkpdiojomgiocac
open Go.RowKit Go.Maps
set_option linter.unusedVariables false

theorem mergeHv_take (a b : List HvD) (k : Nat) (h : k < b.length) : mergeHv a (b.take (k + 1)) = putHv b[k] (mergeHv a (b.take k)) := by
  rw [List.take_succ_eq_append_getElem h, mergeHv_snoc]
theorem merge_next {a b : List HvD} (ha : Rise a) (k : Nat) (h : k < b.length) (h0 : 0 ≤ b[k].Seq) (z : Int) :
    (if z = b[k].From then some (if b[k].Seq < (cont (mergeHv a (b.take k)) b[k].From).getD 0 then (cont (mergeHv a (b.take k)) b[k].From).getD 0 else b[k].Seq) else cont (mergeHv a (b.take k)) z) = cont (mergeHv a (b.take (k + 1))) z := by
  rw [mergeHv_take a b k h, cont_putHv b[k] z _ (mergeHv_rise _ _ ha)]
  by_cases e : z = b[k].From
  · subst e
    rw [if_pos rfl, if_pos rfl]
    rcases cont (mergeHv a (b.take k)) b[k].From with _ | v
    · simp only [Option.getD_none]
      rw [if_neg (by omega)]
    · rfl
  · rw [if_neg e, if_neg e]

set_option maxRecDepth 100000 in
set_option maxHeartbeats 2000000 in
theorem mergeHaves_any (W : World) (va vb : Value) (a b : List HvD) (hva : ReadsHv W va a) (hvb : ReadsHv W vb b) (ha : Rise a ∧ FitHv a) (hb : Rise b ∧ FitHv b) :
    Calls Try.prog 32 #[va, vb] W fun e W' => ∃ v, e = .returned v ∧ OwnHv W' W.heap.size v (mergeHv a b) ∧ Below W.heap.size W W' := by
  have hla := rise_len ha.1 ha.2
  have hlb := rise_len hb.1 hb.2
  have HLF : Hid (∀ k v, cont (mergeHv a b) k = some v → (1 ≤ k ∧ k ≤ 1000) ∧ 1 ≤ v ∧ v ≤ 1000) := fun k v hc => mergeHv_fit a b ha.2 hb.2 _ (cont_mem hc)
  have HRM : Hid (Rise (mergeHv a b)) := mergeHv_rise a b ha.1
  have CS : Hid (Calls Try.prog 42 #[va] W fun e W' => e = .returned (.map (some W.heap.size)) ∧ Stock W' W.heap.size a.length (cont a) ∧ Below W.heap.size W W') := stockOf_any W va a hva ha.1 ha.2
  have CL : Hid (∀ w', Below W.heap.size W w' → ∀ m, m ≤ 5000 → Stock w' W.heap.size m (cont (mergeHv a b)) → Calls Try.prog 47 #[.map (some W.heap.size)] w' fun e W' => ∃ v, e = .returned v ∧ OwnHv W' W.heap.size v (mergeHv a b) ∧ Below W.heap.size W W') := fun w' hbw m hm hS => (stockList_any w' _ m _ hS HLF.out hm).mono fun e W' ⟨v, L, he, ho, hr, hc, hbb⟩ => by
    have e2 : L = mergeHv a b := rise_cont hr HRM.out hc
    subst e2
    exact ⟨v, he, ho.mono hbw.size, hbw.trans (hbb.mono hbw.size)⟩
  have HNX : Hid (∀ k (hk : k < b.length) z, (if z = b[k].From then some (if b[k].Seq < (cont (mergeHv a (b.take k)) b[k].From).getD 0 then (cont (mergeHv a (b.take k)) b[k].From).getD 0 else b[k].Seq) else cont (mergeHv a (b.take k)) z) = cont (mergeHv a (b.take (k + 1))) z) := fun k hk => merge_next ha.1 k hk (by have := hb.2 b[k] (List.getElem_mem hk); omega)
  have HWF : Hid (∀ j (hj : j < b.length), (1 ≤ b[j].From ∧ b[j].From ≤ 1000) ∧ 1 ≤ b[j].Seq ∧ b[j].Seq ≤ 1000) := fun j hj => hb.2 b[j] (List.getElem_mem hj)
  have HGD : Hid (∀ k x, 0 ≤ (cont (mergeHv a (b.take k)) x).getD 0 ∧ (cont (mergeHv a (b.take k)) x).getD 0 ≤ 1000) := fun k x => by
    rcases hc : cont (mergeHv a (b.take k)) x with _ | v
    · simp
    · have := mergeHv_fit a (b.take k) ha.2 (fun y hy => hb.2 y (List.mem_of_mem_take hy)) _ (cont_mem hc)
      simp only at this
      simp only [Option.getD_some]
      omega
  obtain ⟨a2, cap2, rfl, hc2⟩ := hvb
  obtain ⟨a1, cap1, rfl⟩ := hva.shape
  by_cases hz : b = []
  · subst hz
    simp only [List.length_nil] at *
    have HA : Hid (a.length ≤ 5000) := by show _ ≤ _; omega
    clear hc2 hla hlb ha hb hva HNX HWF HGD HLF HRM
    go_enter Try.func32, Try.ntmps32
    go_wp2_with fail
    refine CS.out.mono ?_
    rintro e w1 ⟨rfl, hs1, hb1⟩
    have C2 := CL.out w1 hb1 _ HA.out hs1
    clear hs1 hb1 CS CL
    go_wp2
    refine wp_loop_rounds 1 ?_
    rw [rounds_succ]
    go_wp2_with fail
    refine C2.mono ?_
    rintro e w2 ⟨v2, rfl, ho2, hb2⟩
    have HO : Hid (OwnHv w2 W.heap.size v2 (mergeHv a []) ∧ Below W.heap.size W w2) := ⟨ho2, hb2⟩
    obtain ⟨a3, c3, rfl⟩ := ho2.shape
    clear ho2 hb2
    go_wp2
    go_ret
    exact ⟨_, rfl, HO.out⟩
  · obtain ⟨g1, o1, rfl, hg1, hc2⟩ := hc2.resolve_left hz
    have HC1 : Hid (∀ wr, Below W.heap.size W wr → ∀ j (hj : j < b.length), HvAt wr g1 (o1 + j * 2) b[j]) := fun wr hB j hj => (hc2 j hj).below hg1 hB
    clear hc2 ha hb hva HLF HRM hg1 hz
    go_enter Try.func32, Try.ntmps32
    go_wp2_with fail
    refine CS.out.mono ?_
    rintro e w1 ⟨rfl, hs1, hb1⟩
    have HS0 : Hid (Stock w1 W.heap.size (a.length + 0) (cont (mergeHv a (b.take 0))) ∧ Below W.heap.size W w1) := ⟨hs1, hb1⟩
    clear hs1 hb1 CS
    go_wp2
    go_loopw [12] (fun i wr => ∃ k : Nat, k ≤ b.length ∧ i = .int .i64 k ∧ Hid (Stock wr W.heap.size (a.length + k) (cont (mergeHv a (b.take k))) ∧ Below W.heap.size W wr)) (fun i _ => b.length - (intOf i).toNat)
    case atStart => exact ⟨0, Nat.zero_le _, rfl, HS0.out⟩
    case round =>
      obtain ⟨k, hk, rfl, HK⟩ := hrel
      by_cases hlt : k < b.length
      · have hlt' : (k : Int) < (b.length : Int) := by omega
        obtain ⟨q0, q1⟩ := HC1.out wr HK.out.2 k hlt
        have hin := HWF.out k hlt
        have hgd := HGD.out k b[k].From
        have HN : Hid (∀ z, (if z = b[k].From then some (if b[k].Seq < (cont (mergeHv a (b.take k)) b[k].From).getD 0 then (cont (mergeHv a (b.take k)) b[k].From).getD 0 else b[k].Seq) else cont (mergeHv a (b.take k)) z) = cont (mergeHv a (b.take (k + 1))) z) := HNX.out k hlt
        have HB1 : Hid (Stock (wr.alloc (.cells #[.int .i64 b[k].From, .int .i64 b[k].Seq] 41)) W.heap.size (a.length + k) (cont (mergeHv a (b.take k))) ∧ Below W.heap.size W (wr.alloc (.cells #[.int .i64 b[k].From, .int .i64 b[k].Seq] 41))) := ⟨HK.out.1.kept (World.grownBy_alloc wr _ none) (by simp), HK.out.2.alloc HK.out.2.size _⟩
        clear HK
        generalize b[k].From = fr at *
        generalize b[k].Seq = sq at *
        obtain ⟨C, hC⟩ : ∃ C, (cont (mergeHv a (b.take k)) fr).getD 0 = C := ⟨_, rfl⟩
        rw [hC] at HN hgd
        have HCC : Hid ((cont (mergeHv a (b.take k)) fr).getD 0 = C) := hC
        clear hC
        obtain ⟨D, hD, hF⟩ := HB1.out.1
        have HF : Hid (StF D (cont (mergeHv a (b.take k)))) := hF
        have HD : Hid ((wr.alloc (.cells #[.int .i64 fr, .int .i64 sq] 41)).ownsMap Try.prog 3 (plainElem Try.prog 3) W.heap.size (a.length + k) D) := hD
        clear hD hF
        have wf0 : (Lit.int .i64 fr).wf = true := wf64 (by omega) (by omega)
        rcases Int.lt_trichotomy C sq with hlt3 | heq3 | hgt3
        · have hm : Hid ((if sq < C then C else sq) = sq) := by show _ = _; rw [if_neg (by omega)]
          rw [hm.out] at HN
          have hmx : max C sq = sq := by omega
          have wf1 : (Lit.int .i64 sq).wf = true := wf64 (by omega) (by omega)
          go_wp2_with (first
            | (at_lookup; refine list_look rfl _ _ rfl W.heap.size _ D _ rfl HD.out HF.out fr C rfl wf0 HCC.out ?_)
            | (at_mapUpdate; refine list_lay rfl _ _ _ rfl W.heap.size _ _ rfl HB1.out.1 (by omega) fr sq rfl rfl wf0 wf1 W.heap.size (Nat.le_refl _) W HB1.out.2 ?_; intro w2 hS2 hb2; have HD2 : Hid (Stock w2 W.heap.size (a.length + k + 1) (cont (mergeHv a (b.take (k + 1)))) ∧ Below W.heap.size W w2) := ⟨by rw [show cont (mergeHv a (b.take (k + 1))) = fun z => if z = fr then some sq else cont (mergeHv a (b.take k)) z from (funext HN.out).symm]; exact hS2, hb2⟩; clear hS2 hb2; go_frame)
            | go_in)
          go_roundw
          case rel => exact ⟨k + 1, by omega, by go_num, HD2.out⟩
          case measure => simp [intOf]; omega
        · subst heq3
          have hm : Hid ((if C < C then C else C) = C) := by show _ = _; rw [if_neg (by omega)]
          rw [hm.out] at HN
          have wf1 : (Lit.int .i64 C).wf = true := wf64 (by omega) (by omega)
          go_wp2_with (first
            | (at_lookup; refine list_look rfl _ _ rfl W.heap.size _ D _ rfl HD.out HF.out fr C rfl wf0 HCC.out ?_)
            | (at_mapUpdate; refine list_lay rfl _ _ _ rfl W.heap.size _ _ rfl HB1.out.1 (by omega) fr C rfl rfl wf0 wf1 W.heap.size (Nat.le_refl _) W HB1.out.2 ?_; intro w2 hS2 hb2; have HD2 : Hid (Stock w2 W.heap.size (a.length + k + 1) (cont (mergeHv a (b.take (k + 1)))) ∧ Below W.heap.size W w2) := ⟨by rw [show cont (mergeHv a (b.take (k + 1))) = fun z => if z = fr then some C else cont (mergeHv a (b.take k)) z from (funext HN.out).symm]; exact hS2, hb2⟩; clear hS2 hb2; go_frame)
            | go_in)
          go_roundw
          case rel => exact ⟨k + 1, by omega, by go_num, HD2.out⟩
          case measure => simp [intOf]; omega
        · have hm : Hid ((if sq < C then C else sq) = C) := by show _ = _; rw [if_pos hgt3]
          rw [hm.out] at HN
          have hmx : max C sq = C := by omega
          have wf1 : (Lit.int .i64 C).wf = true := wf64 (by omega) (by omega)
          go_wp2_with (first
            | (at_lookup; refine list_look rfl _ _ rfl W.heap.size _ D _ rfl HD.out HF.out fr C rfl wf0 HCC.out ?_)
            | (at_mapUpdate; refine list_lay rfl _ _ _ rfl W.heap.size _ _ rfl HB1.out.1 (by omega) fr C rfl rfl wf0 wf1 W.heap.size (Nat.le_refl _) W HB1.out.2 ?_; intro w2 hS2 hb2; have HD2 : Hid (Stock w2 W.heap.size (a.length + k + 1) (cont (mergeHv a (b.take (k + 1)))) ∧ Below W.heap.size W w2) := ⟨by rw [show cont (mergeHv a (b.take (k + 1))) = fun z => if z = fr then some C else cont (mergeHv a (b.take k)) z from (funext HN.out).symm]; exact hS2, hb2⟩; clear hS2 hb2; go_frame)
            | go_in)
          go_roundw
          case rel => exact ⟨k + 1, by omega, by go_num, HD2.out⟩
          case measure => simp [intOf]; omega
      · have hlt' : ¬ (k : Int) < (b.length : Int) := by omega
        have e : k = b.length := by omega
        subst e
        rw [List.take_length] at HK
        have C2 := CL.out wr HK.out.2 _ (by omega) HK.out.1
        clear HK CL
        go_wp2_with fail
        refine C2.mono ?_
        rintro e w2 ⟨v2, rfl, ho2, hb2⟩
        have HO : Hid (OwnHv w2 W.heap.size v2 (mergeHv a b) ∧ Below W.heap.size W w2) := ⟨ho2, hb2⟩
        obtain ⟨a3, c3, rfl⟩ := ho2.shape
        clear ho2 hb2
        go_wp2
        go_ret
        exact ⟨_, rfl, HO.out⟩
end Go.Proofs.Ytkpdiojomgiocac
