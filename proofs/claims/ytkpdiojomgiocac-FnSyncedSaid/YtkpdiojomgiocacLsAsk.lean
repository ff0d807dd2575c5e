/-
  'AskFor' of the program.
-/
import Derived.Test.YtkpdiojomgiocacLsNb
import Derived.Test.YtkpdiojomgiocacLsGoodSm2
namespace Go.Proofs.Ytkpdiojomgiocac
open Go.RowKit
set_option linter.unusedVariables false

def fromsOf (l : List HvD) : List Int := l.map HvD.From
def askOk (l : List HvD) (s : SmD) : Bool := goodHv l && goodSm s
def asksOut (l : List HvD) (s : SmD) : List Int := if askOk l s then fromsOf (newsHv s.Hs l) else []
def moreOut (l : List HvD) (s : SmD) : List HvD := if askOk l s then beyondHv l s else []
theorem ask_no {l : List HvD} {s : SmD} (h : askOk l s = false) : asksOut l s = [] ∧ moreOut l s = [] := ⟨by unfold asksOut; rw [h]; rfl, by unfold moreOut; rw [h]; rfl⟩
theorem ask_yes {l : List HvD} {s : SmD} (h : askOk l s = true) : asksOut l s = fromsOf (newsHv s.Hs l) ∧ moreOut l s = beyondHv l s := ⟨by unfold asksOut; rw [h]; rfl, by unfold moreOut; rw [h]; rfl⟩
theorem ask_good {l : List HvD} {s : SmD} (h : askOk l s = true) : (Rise l ∧ FitHv l) ∧ Rise s.Hs ∧ FitHv s.Hs := by
  unfold askOk at h
  rw [Bool.and_eq_true] at h
  have h1 := goodHv_true h.1
  have h2 := goodHv_true (goodSm_true h.2).1
  exact ⟨⟨h1.2.2, h1.2.1⟩, h2.2.2, h2.2.1⟩
theorem asksOut_len (l : List HvD) (s : SmD) : (asksOut l s).length ≤ 4194304 := by
  cases h : askOk l s with
  | false => rw [(ask_no h).1]; simp
  | true =>
    rw [(ask_yes h).1]
    have := rise_len (ask_good h).2.1 (ask_good h).2.2
    have := List.length_filter_le (fun x : HvD => decide (seqIn l x.From < x.Seq)) s.Hs
    unfold fromsOf newsHv
    rw [List.length_map]
    omega
theorem moreOut_len (l : List HvD) (s : SmD) : (moreOut l s).length ≤ 4194304 := by
  cases h : askOk l s with
  | false => rw [(ask_no h).2]; simp
  | true =>
    rw [(ask_yes h).2, beyondHv_eq]
    have := rise_len (ask_good h).1.1 (ask_good h).1.2
    have := List.length_filter_le (fun x : HvD => decide (s.Lo ≤ x.From ∧ x.From ≤ s.Hi) && decide (seqIn s.Hs x.From < x.Seq)) l
    omega
def AskPost (W : World) (asks : List Int) (more : List HvD) (ok : Bool) (e : Ending) (W' : World) : Prop := ∃ u1 u2, e = .returned (.tuple #[u1, u2, .bool ok]) ∧ Own W' W.heap.size u1 asks ∧ OwnHv W' W.heap.size u2 more ∧ (∀ k, u1.ownBlock = some k → u2.ownBlock ≠ some k) ∧ Below W.heap.size W W'
theorem AskPost.zero {W W' : World} (hb : Below W.heap.size W W') : AskPost W [] [] false (.returned (.tuple #[.slice none 0 0, .slice none 0 0, .bool false])) W' := ⟨_, _, rfl, Own.nil _ _, OwnHv.nil _ _, fun k hk => by simp [Value.ownBlock] at hk, hb⟩
theorem ownsApart {W : World} {B B' : Nat} {v u : Value} {a : List Int} {l : List HvD} (h : Own W B v a) (h' : OwnHv W B' u l) : ∀ k, v.ownBlock = some k → u.ownBlock ≠ some k := rowsApart h h' (by decide)

set_option maxRecDepth 100000 in
set_option maxHeartbeats 4000000 in
theorem implAskFor_any (W : World) (v1 v2 : Value) (l : List HvD) (s : SmD) (h1 : LiesHv W v1 l) (h2 : LiesHv W v2 s.Hs) (hl : l.length ≤ 1048576) (hls : s.Hs.length ≤ 1048576) :
    Calls Try.prog 11 #[v1, .agg #[.int .i64 s.Lo, .int .i64 s.Hi, v2]] W (AskPost W (asksOut l s) (moreOut l s) (askOk l s)) := by
  obtain ⟨a1, c1, rfl⟩ := h1.shape
  obtain ⟨a2, c2, rfl⟩ := h2.shape
  have HB1 : Hid (Below W.heap.size W (W.alloc (.cells #[.int .i64 s.Lo, .int .i64 s.Hi, .slice a2 s.Hs.length c2] 32))) := (Below.refl _ W).alloc (Nat.le_refl _) _
  have HX : Hid (∀ w', Since (W.alloc (.cells #[.int .i64 s.Lo, .int .i64 s.Hi, .slice a2 s.Hs.length c2] 32)).heap.size (W.alloc (.cells #[.int .i64 s.Lo, .int .i64 s.Hi, .slice a2 s.Hs.length c2] 32)) w' → w'.cell? ⟨W.heap.size, 0, none⟩ = some (.int .i64 s.Lo) ∧ w'.cell? ⟨W.heap.size, 1, none⟩ = some (.int .i64 s.Hi) ∧ w'.cell? ⟨W.heap.size, 2, none⟩ = some (.slice a2 s.Hs.length c2)) := fun w' hs => smNew W _ _ _ w' hs.1
  have H1 : Hid (∀ w', Since (W.alloc (.cells #[.int .i64 s.Lo, .int .i64 s.Hi, .slice a2 s.Hs.length c2] 32)).heap.size (W.alloc (.cells #[.int .i64 s.Lo, .int .i64 s.Hi, .slice a2 s.Hs.length c2] 32)) w' → LiesHv w' (.slice a1 l.length c1) l) := fun w' hb => (h1.below HB1.out).below hb.1
  have H2 : Hid (∀ w', Since (W.alloc (.cells #[.int .i64 s.Lo, .int .i64 s.Hi, .slice a2 s.Hs.length c2] 32)).heap.size (W.alloc (.cells #[.int .i64 s.Lo, .int .i64 s.Hi, .slice a2 s.Hs.length c2] 32)) w' → LiesHv w' (.slice a2 s.Hs.length c2) s.Hs) := fun w' hb => (h2.below HB1.out).below hb.1
  have SA0 : Hid (Since (W.alloc (.cells #[.int .i64 s.Lo, .int .i64 s.Hi, .slice a2 s.Hs.length c2] 32)).heap.size (W.alloc (.cells #[.int .i64 s.Lo, .int .i64 s.Hi, .slice a2 s.Hs.length c2] 32)) (W.alloc (.cells #[.int .i64 s.Lo, .int .i64 s.Hi, .slice a2 s.Hs.length c2] 32))) := Since.start _
  clear h1 h2
  have CG : Hid (∀ w', Since (W.alloc (.cells #[.int .i64 s.Lo, .int .i64 s.Hi, .slice a2 s.Hs.length c2] 32)).heap.size (W.alloc (.cells #[.int .i64 s.Lo, .int .i64 s.Hi, .slice a2 s.Hs.length c2] 32)) w' → Calls Try.prog 22 #[.slice a1 l.length c1] w' fun e W' => e = .returned (.bool (goodHv l)) ∧ Below w'.heap.size w' W') := fun w' hb => implGoodHv_any w' _ l (H1.out w' hb).reads (by omega)
  have CS : Hid (∀ w', Since (W.alloc (.cells #[.int .i64 s.Lo, .int .i64 s.Hi, .slice a2 s.Hs.length c2] 32)).heap.size (W.alloc (.cells #[.int .i64 s.Lo, .int .i64 s.Hi, .slice a2 s.Hs.length c2] 32)) w' → Calls Try.prog 14 #[.agg #[.int .i64 s.Lo, .int .i64 s.Hi, .slice a2 s.Hs.length c2]] w' fun e W' => e = .returned (.bool (goodSm s)) ∧ Below w'.heap.size w' W') := fun w' hb => implGoodSm_any w' _ s (H2.out w' hb) (by omega)
  cases hg : goodHv l with
  | false =>
    have ho : askOk l s = false := by unfold askOk; rw [hg]; rfl
    rw [(ask_no ho).1, (ask_no ho).2, ho]
    rw [hg] at CG
    clear hg ho
    go_enter Try.func11, Try.ntmps11
    go_wp2_with fail
    refine (CG.out _ SA0.out).mono ?_
    rintro e w1 ⟨rfl, hb1⟩
    have S1 : Hid (Since (W.alloc (.cells #[.int .i64 s.Lo, .int .i64 s.Hi, .slice a2 s.Hs.length c2] 32)).heap.size (W.alloc (.cells #[.int .i64 s.Lo, .int .i64 s.Hi, .slice a2 s.Hs.length c2] 32)) w1) := SA0.out.step hb1
    clear hb1
    go_wp2
    refine bodyPost_ret (v := .tuple #[.slice none 0 0, .slice none 0 0, .bool false]) (by simp [results, Try.results11, go_sem]) rfl ?_
    exact AskPost.zero (HB1.out.trans (S1.out.1.mono HB1.out.size))
  | true =>
    rw [hg] at CG
    cases hgs : goodSm s with
    | false =>
      have ho : askOk l s = false := by unfold askOk; rw [hgs, Bool.and_false]
      rw [(ask_no ho).1, (ask_no ho).2, ho]
      rw [hgs] at CS
      clear hg hgs ho
      go_enter Try.func11, Try.ntmps11
      go_wp2_with fail
      refine (CG.out _ SA0.out).mono ?_
      rintro e w1 ⟨rfl, hb1⟩
      have S1 : Hid (Since (W.alloc (.cells #[.int .i64 s.Lo, .int .i64 s.Hi, .slice a2 s.Hs.length c2] 32)).heap.size (W.alloc (.cells #[.int .i64 s.Lo, .int .i64 s.Hi, .slice a2 s.Hs.length c2] 32)) w1) := SA0.out.step hb1
      obtain ⟨q0, q1, q2⟩ := HX.out w1 S1.out
      clear hb1
      go_wp2_with fail
      refine (CS.out _ S1.out).mono ?_
      rintro e w2 ⟨rfl, hb2⟩
      have S2 : Hid (Since (W.alloc (.cells #[.int .i64 s.Lo, .int .i64 s.Hi, .slice a2 s.Hs.length c2] 32)).heap.size (W.alloc (.cells #[.int .i64 s.Lo, .int .i64 s.Hi, .slice a2 s.Hs.length c2] 32)) w2) := S1.out.step hb2
      clear hb2 q0 q1 q2
      go_wp2
      refine bodyPost_ret (v := .tuple #[.slice none 0 0, .slice none 0 0, .bool false]) (by simp [results, Try.results11, go_sem]) rfl ?_
      exact AskPost.zero (HB1.out.trans (S2.out.1.mono HB1.out.size))
    | true =>
      rw [hgs] at CS
      have ho : askOk l s = true := by unfold askOk; rw [hg, hgs]; rfl
      have hgood := ask_good ho
      rw [(ask_yes ho).1, (ask_yes ho).2, ho]
      have hnl : (newsHv s.Hs l).length ≤ 100000 := by
        have := rise_len hgood.2.1 hgood.2.2
        have := List.length_filter_le (fun x : HvD => decide (seqIn l x.From < x.Seq)) s.Hs
        unfold newsHv
        omega
      have CN : Hid (∀ w', Since (W.alloc (.cells #[.int .i64 s.Lo, .int .i64 s.Hi, .slice a2 s.Hs.length c2] 32)).heap.size (W.alloc (.cells #[.int .i64 s.Lo, .int .i64 s.Hi, .slice a2 s.Hs.length c2] 32)) w' → Calls Try.prog 31 #[.slice a1 l.length c1, .agg #[.int .i64 s.Lo, .int .i64 s.Hi, .slice a2 s.Hs.length c2]] w' fun e W' => ∃ u1 u2, e = .returned (.tuple #[u1, u2]) ∧ OwnHv W' w'.heap.size u1 (newsHv s.Hs l) ∧ OwnHv W' w'.heap.size u2 (beyondHv l s) ∧ (∀ k, u1.ownBlock = some k → u2.ownBlock ≠ some k) ∧ Below w'.heap.size w' W') := fun w' hb => newsBetween_any w' _ _ l s (H1.out w' hb) (H2.out w' hb) hgood.1 hgood.2
      clear hg hgs ho hgood
      go_enter Try.func11, Try.ntmps11
      go_wp2_with fail
      refine (CG.out _ SA0.out).mono ?_
      rintro e w1 ⟨rfl, hb1⟩
      have S1 : Hid (Since (W.alloc (.cells #[.int .i64 s.Lo, .int .i64 s.Hi, .slice a2 s.Hs.length c2] 32)).heap.size (W.alloc (.cells #[.int .i64 s.Lo, .int .i64 s.Hi, .slice a2 s.Hs.length c2] 32)) w1) := SA0.out.step hb1
      obtain ⟨q0, q1, q2⟩ := HX.out w1 S1.out
      clear hb1
      go_wp2_with fail
      refine (CS.out _ S1.out).mono ?_
      rintro e w2 ⟨rfl, hb2⟩
      have S2 : Hid (Since (W.alloc (.cells #[.int .i64 s.Lo, .int .i64 s.Hi, .slice a2 s.Hs.length c2] 32)).heap.size (W.alloc (.cells #[.int .i64 s.Lo, .int .i64 s.Hi, .slice a2 s.Hs.length c2] 32)) w2) := S1.out.step hb2
      clear hb2 q0 q1 q2
      obtain ⟨q0, q1, q2⟩ := HX.out w2 S2.out
      go_wp2_with fail
      refine (CN.out _ S2.out).mono ?_
      rintro e w3 ⟨u1, u2, rfl, hu1, hu2, -, hb3⟩
      have S3 : Hid (Below W.heap.size W w3) := HB1.out.trans ((S2.out.step hb3).1.mono HB1.out.size)
      have U1 : Hid (LiesHv w3 u1 (newsHv s.Hs l)) := hu1.lies
      have hWs : W.heap.size ≤ w2.heap.size := Nat.le_trans HB1.out.size S2.out.2
      have U2 : Hid (OwnHv w3 W.heap.size u2 (beyondHv l s)) := hu2.mono hWs
      clear hu1 hu2 hb3 q0 q1 q2 CN CS CG HX H1 H2 SA0 S1 S2 hWs
      generalize newsHv s.Hs l = nw at *
      generalize beyondHv l s = by_ at *
      obtain ⟨a4, c4, rfl⟩ := U2.out.shape
      rcases U1.out with ⟨rfl, rfl⟩ | ⟨g1, o1, cap1, rfl, hg1, -, hcell⟩
      · go_wp2
        refine wp_loop_rounds 1 ?_
        rw [rounds_succ]
        go_wp2
        refine bodyPost_ret (v := .tuple #[.slice none 0 0, .slice a4 by_.length c4, .bool true]) (by simp [results, Try.results11, go_sem]) rfl ?_
        exact ⟨_, _, rfl, Own.nil _ _, U2.out, fun k hk => by simp [Value.ownBlock] at hk, S3.out⟩
      · have HC1 : Hid (∀ wr, Below w3.heap.size w3 wr → ∀ j (hj : j < nw.length), HvAt wr g1 (o1 + j * 2) nw[j]) := fun wr hB j hj => (hcell j hj).below hg1 hB
        have HFT : Hid (∀ k (hk : k < nw.length), fromsOf (nw.take (k + 1)) = fromsOf (nw.take k) ++ [nw[k].From] ∧ (fromsOf (nw.take k)).length ≤ 100000) := fun k hk => ⟨by unfold fromsOf; rw [List.take_succ_eq_append_getElem hk, List.map_append]; rfl, by unfold fromsOf; rw [List.length_map, List.length_take]; omega⟩
        have HW3 : Hid (W.heap.size ≤ w3.heap.size) := S3.out.size
        clear hcell hg1
        go_wp2
        go_loopw [9, 28] (fun u i wr => ∃ (k : Nat) (a : Option Addr) (c : Nat), k ≤ nw.length ∧ i = .int .i64 k ∧ u = .slice a (fromsOf (nw.take k)).length c ∧ Hid (Own wr w3.heap.size (.slice a (fromsOf (nw.take k)).length c) (fromsOf (nw.take k)) ∧ Below w3.heap.size w3 wr)) (fun _ i _ => nw.length - (intOf i).toNat)
        case atStart => exact ⟨0, none, 0, Nat.zero_le _, rfl, rfl, Own.nil _ _, Below.refl _ _⟩
        case round =>
          obtain ⟨k, a, c, hk, rfl, rfl, HK⟩ := hrel
          by_cases hlt : k < nw.length
          · have hlt' : (k : Int) < (nw.length : Int) := by omega
            obtain ⟨m0, m1⟩ := HC1.out wr HK.out.2 k hlt
            have HN := HFT.out k hlt
            have HB2 : Hid (Below w3.heap.size w3 (wr.alloc (.cells #[.int .i64 nw[k].From, .int .i64 nw[k].Seq] 41)) ∧ w3.heap.size ≤ wr.heap.size) := ⟨HK.out.2.alloc HK.out.2.size _, HK.out.2.size⟩
            have HO2 : Hid (Own (wr.alloc (.cells #[.int .i64 nw[k].From, .int .i64 nw[k].Seq] 41)) w3.heap.size (.slice a (fromsOf (nw.take k)).length c) (fromsOf (nw.take k))) := rowBelow HK.out.1 ((Below.refl _ wr).alloc (Nat.le_refl _) _)
            clear HK
            generalize nw[k] = y at *
            generalize hm1 : fromsOf (nw.take k) = ml at *
            generalize hm2 : fromsOf (nw.take (k + 1)) = m2 at *
            clear hm1
            have HE : Hid (m2 = ml ++ [y.From]) := HN.1
            have hln := HN.2
            have HA : Hid (∀ ty, ∃ v' w', (Builtin.append_ #[35, 35] ty #[.slice a ml.length c, .slice (some ⟨wr.heap.size + 1, 0, none⟩) 1 1]).run Try.prog ((wr.alloc (.cells #[.int .i64 y.From, .int .i64 y.Seq] 41)).alloc (.cells #[.int .i64 y.From] 3)) = .ok v' w' ∧ Grown ((wr.alloc (.cells #[.int .i64 y.From, .int .i64 y.Seq] 41)).alloc (.cells #[.int .i64 y.From] 3)) w3.heap.size 3 1 (.slice a ml.length c) (ml ++ [y.From]).length ((ml ++ [y.From]).map (Value.int .i64)) v' w') := fun ty => by
              have := run_app1 ((wr.alloc (.cells #[.int .i64 y.From, .int .i64 y.Seq] 41)).alloc (.cells #[.int .i64 y.From] 3)) w3.heap.size (.slice a ml.length c) ml (rowBelow HO2.out ((Below.refl _ _).alloc (Nat.le_refl _) _)) (wr.alloc (.cells #[.int .i64 y.From, .int .i64 y.Seq] 41)).heap.size 1 y.From (new_cell _ _ _) (by omega) (by have := HB2.out.2; simp; omega) ty
              rw [show (wr.alloc (.cells #[.int .i64 y.From, .int .i64 y.Seq] 41)).heap.size = wr.heap.size + 1 by simp] at this
              exact this
            have HZ : Hid (Below w3.heap.size w3 ((wr.alloc (.cells #[.int .i64 y.From, .int .i64 y.Seq] 41)).alloc (.cells #[.int .i64 y.From] 3))) := HB2.out.1.alloc HB2.out.1.size _
            clear HN HO2 HB2
            go_wp2_with (at_builtin; refine list_app (by rfl) (.tmp 32) (.tmp 35) 35 (by rfl) (.slice a ml.length c) (.slice (some ⟨wr.heap.size + 1, 0, none⟩) 1 1) (by rfl) (by rfl) _ HA.out ?_; intro v5 w5 hg5; have HF : Hid (Own w5 w3.heap.size v5 m2 ∧ Below w3.heap.size w3 w5) := ⟨by rw [HE.out]; exact hg5.own, HZ.out.trans hg5.below⟩; clear hg5)
            obtain ⟨a6, c6, rfl⟩ := rowShape HF.out.1
            go_roundw
            case rel => exact ⟨k + 1, a6, c6, by omega, by go_num, by rw [hm2], by rw [hm2]; exact HF.out⟩
            case measure => simp [intOf]; omega
          · have hlt' : ¬ (k : Int) < (nw.length : Int) := by omega
            have e : k = nw.length := by omega
            subst e
            rw [List.take_length] at HK
            have HFIN : Hid (Own wr W.heap.size (.slice a (fromsOf nw).length c) (fromsOf nw) ∧ OwnHv wr W.heap.size (.slice a4 by_.length c4) by_ ∧ Below W.heap.size W wr) := ⟨rowMono HK.out.1 HW3.out, U2.out.below HK.out.2, S3.out.trans (HK.out.2.mono HW3.out)⟩
            clear HK
            go_wp2
            refine bodyPost_ret (v := .tuple #[.slice a (fromsOf nw).length c, .slice a4 by_.length c4, .bool true]) (by simp [results, Try.results11, go_sem]) rfl ?_
            exact ⟨_, _, rfl, HFIN.out.1, HFIN.out.2.1, ownsApart HFIN.out.1 HFIN.out.2.1, HFIN.out.2.2⟩
end Go.Proofs.Ytkpdiojomgiocac
