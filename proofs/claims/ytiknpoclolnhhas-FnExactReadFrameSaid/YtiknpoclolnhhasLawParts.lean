/-
  Lists of parts, as the laws weigh, copy and compare them: 'szPartS', 'toPartS', 'eqPartS'.
-/
import Derived.Test.YtiknpoclolnhhasParts
namespace Go.Proofs.Ytiknpoclolnhhas
open Go.RowKit

theorem infoP : (Try.prog.info? 48).map (fun i => (i.zero, i.size, i.bytes)) = some (some (.agg #[.int .i64 0, .string ⟨#[]⟩, .slice none 0 0]), 3, 48) := by kernel_rfl

theorem owns_below {W W' : World} {B e s n : Nat} {v : Value} {xs : List Value} (h : W.ownsRow B e s v n xs) (hb : Below W.heap.size W W') : W'.ownsRow B e s v n xs := by
  refine ⟨h.1, ?_⟩
  rcases h.2 with hn | ⟨g, cap, cur, hv, h1, hg, hrest⟩
  · exact .inl hn
  · exact .inr ⟨g, cap, cur, hv, h1, (hb.block g (Array.getElem?_eq_some_iff.1 hg).1).trans hg, hrest⟩

/-- Both bounds that a measure gives. -/
theorem szP_fit (t : ByteArray) (zs : List Int) (left : Int) (h1 : left ≤ 1048576) (h : ¬ szP t zs left < 0) : (t.size ≤ 1048576 ∧ zs.length ≤ 1048576) ∧ 0 ≤ szP t zs left ∧ szP t zs left ≤ left := by
  unfold szP at *
  by_cases hle : (t.size : Int) + (zs.length : Int) ≤ left
  · rw [if_pos hle]; exact ⟨⟨by omega, by omega⟩, by omega, by omega⟩
  · rw [if_neg hle] at h; omega

/-- What a measure that is left says. -/
def SzOk (ps : List PD) (r : Int) : Prop := ¬ r < 0 → ps.length ≤ 1048576 ∧ ∀ j (hj : j < ps.length), Fit ps[j]
theorem SzOk.neg (ps : List PD) : SzOk ps (-1) := fun h => absurd (by omega) h

set_option maxRecDepth 100000 in
set_option maxHeartbeats 2000000 in
theorem szParts_any (W : World) (v : Value) (ps : List PD) (h : ReadsP W v ps) (hm : ps.length ≤ maxLen) (hsz : ∀ j (hj : j < ps.length), ps[j].t.size ≤ maxLen ∧ ps[j].zs.length ≤ maxLen) :
    Calls Try.prog 8 #[v, .int .i64 1048576] W fun e W' => ∃ r : Int, e = .returned (.int .i64 r) ∧ SzOk ps r ∧ Below W.heap.size W W' := by
  obtain ⟨a1, cap1, rfl, hc1⟩ := h
  unfold maxLen at hm
  by_cases hle : ps.length ≤ 1048576
  · have d0 : ¬ (1048576 : Int) - (ps.length : Int) < 0 := by omega
    rcases hc1 with rfl | ⟨g1, o1, rfl, hg1, hc1⟩
    · simp only [List.length_nil]
      clear hsz
      go_enter Try.func8, Try.ntmps8
      go_wp2
      refine wp_loop_rounds 1 ?_
      rw [rounds_succ]
      go_wp2
      go_ret
      exact ⟨_, rfl, fun _ => ⟨by omega, fun j hj => absurd hj (Nat.not_lt_zero _)⟩, Below.refl _ _⟩
    · have HC1 : Hid (∀ W1, Since W.heap.size W W1 → ∀ j (hj : j < ps.length), PartAt W1 g1 (o1 + j * 3) ps[j]) := fun W1 hS j hj => (hc1 j hj).below hg1 hS.1
      have HZ : Hid (∀ j (hj : j < ps.length), ps[j].t.size ≤ maxLen ∧ ps[j].zs.length ≤ maxLen) := hsz
      have HS0 : Hid (Since W.heap.size W W) := Since.start W
      clear hc1 hsz
      go_enter Try.func8, Try.ntmps8
      go_wp2
      go_loopw [1, 5] (fun x i wr => ∃ (k : Nat) (y : Int), k ≤ ps.length ∧ i = .int .i64 k ∧ x = .int .i64 y ∧ 0 ≤ y ∧ y ≤ 1048576 ∧ Hid (∀ j (hj : j < ps.length), j < k → Fit ps[j]) ∧ Since W.heap.size W wr) (fun _ i _ => ps.length - (intOf i).toNat)
      case atStart => exact ⟨0, _, Nat.zero_le _, rfl, rfl, by omega, by omega, fun j hj h => absurd h (Nat.not_lt_zero _), HS0.out⟩
      case round =>
        obtain ⟨k, y, hk, rfl, rfl, y0, y1, HA, hS⟩ := hrel
        have HS : Hid (Since W.heap.size W wr) := hS
        clear hS
        by_cases hlt : k < ps.length
        · obtain ⟨x, q0, q1, q2, hr⟩ := HC1.out wr HS.out k hlt
          obtain ⟨a2, c2, rfl⟩ := hr.shape
          have HR : Hid (Reads wr (.slice a2 ps[k].zs.length c2) ps[k].zs) := hr
          have HM : Hid (ps[k].t.size ≤ maxLen ∧ ps[k].zs.length ≤ maxLen) := HZ.out k hlt
          have hlt' : (k : Int) < (ps.length : Int) := by omega
          have HAN : Hid (Fit ps[k] → ∀ j (hj : j < ps.length), j < k + 1 → Fit ps[j]) := fun hg j hj h => by
            by_cases e : j = k
            · subst e; exact hg
            · exact HA.out j hj (by omega)
          clear hr
          generalize ps[k] = p at *
          go_wp2_with fail
          refine (szPart_any _ p.k p.t _ p.zs y HR.out HM.out.1 HM.out.2 y0 y1).mono ?_
          rintro e w1 ⟨rfl, hb⟩
          have HS1 : Hid (Since W.heap.size W w1) := HS.out.step hb
          clear hb
          obtain ⟨r, hr⟩ : ∃ r, r = szP p.t p.zs y := ⟨_, rfl⟩
          rw [← hr]
          have HFIT : Hid (¬ r < 0 → (p.t.size ≤ 1048576 ∧ p.zs.length ≤ 1048576) ∧ 0 ≤ r ∧ r ≤ y) := by rw [hr]; exact szP_fit p.t p.zs y y1
          clear hr
          by_cases hneg : r < 0
          · go_wp2
            go_ret
            exact ⟨-1, rfl, SzOk.neg ps, HS1.out.1⟩
          · obtain ⟨hfit, r0, r1⟩ := HFIT.out hneg
            have HA1 : Hid (∀ j (hj : j < ps.length), j < k + 1 → Fit ps[j]) := HAN.out hfit
            clear hfit
            go_wp2
            go_roundw
            case rel => exact ⟨k + 1, r, by omega, by go_num, rfl, r0, by omega, HA1, HS1.out⟩
            case measure => simp [intOf]; omega
        · have hlt' : ¬ (k : Int) < (ps.length : Int) := by omega
          go_wp2
          go_ret
          exact ⟨y, rfl, fun _ => ⟨by omega, fun j hj => HA.out j hj (by omega)⟩, HS.out.1⟩
  · have d0 : (1048576 : Int) - (ps.length : Int) < 0 := by omega
    clear hc1 hsz
    go_enter Try.func8, Try.ntmps8
    go_wp2
    go_ret
    exact ⟨-1, rfl, SzOk.neg ps, Below.refl _ _⟩

/-- What has been copied: the first k parts, each with numbers of its own above block H. -/
def Copied (W : World) (H : Nat) (cs : List Value) (ps : List PD) (k : Nat) : Prop :=
  ∀ j (hj : j < ps.length), j < k → ∃ x, cs[j * 3]? = some (.int .i64 ps[j].k) ∧ cs[j * 3 + 1]? = some (.string ps[j].t) ∧ cs[j * 3 + 2]? = some x ∧ Own W (H + 1) x ps[j].zs

theorem copied_next {W W1 : World} {H : Nat} {cs : List Value} {ps : List PD} {k : Nat} (h : Copied W H cs ps k) (hlt : k < ps.length) (hcs : cs.length = ps.length * 3) (hb : Below W.heap.size W W1) (x : Value) (hx : Own W1 (H + 1) x ps[k].zs) (u0 u1 u2 : Value)
    (e0 : u0 = .int .i64 ps[k].k) (e1 : u1 = .string ps[k].t) (e2 : u2 = x) :
    Copied (((W1.setCell ⟨H, k * 3, none⟩ u0).setCell ⟨H, k * 3 + 1, none⟩ u1).setCell ⟨H, k * 3 + 2, none⟩ u2) H (((cs.set (k * 3) u0).set (k * 3 + 1) u1).set (k * 3 + 2) u2) ps (k + 1) := by
  intro j hj hjk
  have st : ∀ {y zs}, Own W1 (H + 1) y zs → Own (((W1.setCell ⟨H, k * 3, none⟩ u0).setCell ⟨H, k * 3 + 1, none⟩ u1).setCell ⟨H, k * 3 + 2, none⟩ u2) (H + 1) y zs := fun ho => ((ho.setCell (Nat.lt_succ_self H) _).setCell (Nat.lt_succ_self H) _).setCell (Nat.lt_succ_self H) _
  by_cases e : j = k
  · subst e
    refine ⟨x, ?_, ?_, ?_, st hx⟩
    · rw [List.getElem?_set_ne (by omega), List.getElem?_set_ne (by omega), List.getElem?_set_self (by omega), e0]
    · rw [List.getElem?_set_ne (by omega), List.getElem?_set_self (by rw [List.length_set]; omega), e1]
    · rw [List.getElem?_set_self (by rw [List.length_set, List.length_set]; omega), e2]
  · obtain ⟨y, c0, c1, c2, ho⟩ := h j hj (by omega)
    refine ⟨y, ?_, ?_, ?_, st (ho.below hb)⟩
    · rw [List.getElem?_set_ne (by omega), List.getElem?_set_ne (by omega), List.getElem?_set_ne (by omega), c0]
    · rw [List.getElem?_set_ne (by omega), List.getElem?_set_ne (by omega), List.getElem?_set_ne (by omega), c1]
    · rw [List.getElem?_set_ne (by omega), List.getElem?_set_ne (by omega), List.getElem?_set_ne (by omega), c2]

theorem copied_reads {W : World} {H B cap : Nat} {cs : List Value} {ps : List PD} (h : Copied W H cs ps ps.length) (ho : W.ownsRow B 48 3 (.slice (some ⟨H, 0, none⟩) ps.length cap) ps.length cs) (hH : H < W.heap.size) :
    ReadsP W (.slice (some ⟨H, 0, none⟩) ps.length cap) ps := by
  refine ⟨_, _, rfl, .inr ⟨H, 0, rfl, hH, fun j hj => ?_⟩⟩
  obtain ⟨x, c0, c1, c2, hx⟩ := h j hj hj
  rw [Nat.zero_add]
  exact ⟨x, by rw [World.ownsRow.cellAt ho _ (by omega), c0], by rw [World.ownsRow.cellAt ho _ (by omega), c1], by rw [World.ownsRow.cellAt ho _ (by omega), c2], hx.reads⟩

theorem make_parts (n : Nat) (hn : n ≤ 1048576) (w : World) : ∃ (W1 : World) (cs : List Value),
    (Instr.makeSlice 26 (.int .i64 (n : Int)) (.int .i64 (n : Int))).run Try.prog w = .ok (.slice (some ⟨w.heap.size, 0, none⟩) n n) W1 ∧
    cs.length = n * 3 ∧ W1.ownsRow w.heap.size 48 3 (.slice (some ⟨w.heap.size, 0, none⟩) n n) n cs ∧ Below w.heap.size w W1 ∧ w.heap.size < W1.heap.size := by
  obtain ⟨i0, hi, hz0, hz1, hz2⟩ := info_parts infoP
  obtain ⟨w', hr, ho, hg⟩ := run_make_full (P := Try.prog) w w.heap.size 26 48 i0 _ 3 Try.underlying26 hi hz0 hz1 .i64 .i64 n (by rw [hz2]; omega) (by unfold maxLen; omega) (Nat.le_refl _)
  exact ⟨w', _, hr, ho.1, ho, (Below.refl _ w).grown hg (Nat.le_refl _) (fun k hk => by cases hk), (World.ownsRow.lt ho w.heap.size rfl).2⟩

set_option maxRecDepth 100000 in
set_option maxHeartbeats 4000000 in
theorem toParts_any (W : World) (v : Value) (ps : List PD) (h : ReadsP W v ps) (hl : ps.length ≤ 1048576) (hf : ∀ j (hj : j < ps.length), Fit ps[j]) :
    Calls Try.prog 10 #[v] W fun e W' => ∃ v', e = .returned v' ∧ ReadsP W' v' ps ∧ Below W.heap.size W W' := by
  obtain ⟨a1, cap1, rfl, hc1⟩ := h
  obtain ⟨W1, cs0, hmake, hcs0, ho, hb, hlt⟩ := make_parts ps.length hl W
  obtain ⟨H, hH⟩ : ∃ H, H = W.heap.size := ⟨_, rfl⟩
  rw [← hH] at hmake ho hb hlt ⊢
  have HB : Hid (Below H W W1) := hb
  have HO : Hid (W1.ownsRow H 48 3 (.slice (some ⟨H, 0, none⟩) ps.length ps.length) ps.length cs0) := ho
  have HL0 : Hid (cs0.length = ps.length * 3) := hcs0
  have HHW : Hid (H = W.heap.size) := hH
  clear ho hb hH hcs0
  rcases hc1 with rfl | ⟨g1, o1, rfl, hg1, hc1⟩
  · simp only [List.length_nil] at HO ⊢
    have hm0 : (Instr.makeSlice 26 (.int .i64 0) (.int .i64 0)).run Try.prog W = .ok (.slice (some ⟨H, 0, none⟩) 0 0) W1 := hmake
    clear hmake hf
    go_enter Try.func10, Try.ntmps10
    go_wp2
    refine wp_loop_rounds 1 ?_
    rw [rounds_succ]
    go_wp2
    go_ret
    exact ⟨_, rfl, ⟨_, _, rfl, .inl rfl⟩, HB.out⟩
  · have HC1 : Hid (∀ wr, Below H W wr → ∀ j (hj : j < ps.length), PartAt wr g1 (o1 + j * 3) ps[j]) := fun wr hS j hj => (hc1 j hj).below hg1 (by rw [← HHW.out]; exact hS)
    have HF : Hid (∀ j (hj : j < ps.length), Fit ps[j]) := hf
    have HLT : Hid (H < W1.heap.size) := hlt
    clear hc1 hf hlt
    go_enter Try.func10, Try.ntmps10
    go_wp2
    go_loopw [4] (fun i wr => ∃ k : Nat, k ≤ ps.length ∧ i = .int .i64 k ∧ Hid (∃ cs : List Value, cs.length = ps.length * 3 ∧ wr.ownsRow H 48 3 (.slice (some ⟨H, 0, none⟩) ps.length ps.length) ps.length cs ∧ Copied wr H cs ps k ∧ Below H W wr ∧ H < wr.heap.size)) (fun i _ => ps.length - (intOf i).toNat)
    case atStart => exact ⟨0, Nat.zero_le _, rfl, cs0, HL0.out, HO.out, fun j hj h => absurd h (Nat.not_lt_zero _), HB.out, HLT.out⟩
    case round =>
      obtain ⟨k, hk, rfl, HK⟩ := hrel
      by_cases hlt2 : k < ps.length
      · obtain ⟨cs, hcs, hown, hcop, hbr, hHr⟩ := HK.out
        obtain ⟨x, q0, q1, q2, hr⟩ := HC1.out wr hbr k hlt2
        obtain ⟨a2, c2, rfl⟩ := hr.shape
        have HR : Hid (Reads wr (.slice a2 ps[k].zs.length c2) ps[k].zs) := hr
        have HFk : Hid (ps[k].zs.length ≤ 4194304) := by have := (HF.out k hlt2).2; show _ ≤ _; omega
        have hlt' : (k : Int) < (ps.length : Int) := by omega
        have HOW : Hid (wr.ownsRow H 48 3 (.slice (some ⟨H, 0, none⟩) ps.length ps.length) ps.length cs) := hown
        have HCP : Hid (Copied wr H cs ps k) := hcop
        have HBR : Hid (Below H W wr) := hbr
        have HHR : Hid (H < wr.heap.size) := hHr
        have HCS : Hid (cs.length = ps.length * 3) := hcs
        have HNX : Hid (∀ W1 x, Below wr.heap.size wr W1 → Own W1 (H + 1) x ps[k].zs → Copied (((W1.setCell ⟨H, k * 3, none⟩ (.int .i64 ps[k].k)).setCell ⟨H, k * 3 + 1, none⟩ (.string ps[k].t)).setCell ⟨H, k * 3 + 2, none⟩ x) H (((cs.set (k * 3) (.int .i64 ps[k].k)).set (k * 3 + 1) (.string ps[k].t)).set (k * 3 + 2) x) ps (k + 1)) :=
          fun W1 x hb hx => copied_next hcop hlt2 hcs hb x hx _ _ _ rfl rfl rfl
        clear hr hown hcop hbr hHr hcs HK
        generalize ps[k] = p at *
        go_wp2_with fail
        refine (toPart_any _ p.k p.t _ p.zs HR.out HFk.out).mono ?_
        rintro e w2 ⟨v2, rfl, ho2, hb2⟩
        obtain ⟨a3, c3, rfl⟩ := ho2.shape
        have hO2 := owns_below HOW.out hb2
        have z0 : ∀ j, j < ps.length * 3 → ∃ c, w2.cell? ⟨H, j, none⟩ = some c := fun j hj => ⟨_, by rw [World.ownsRow.cellAt hO2 j hj]; exact List.getElem?_eq_getElem (by rw [HCS.out]; exact hj)⟩
        obtain ⟨d0, f0⟩ := z0 (k * 3) (by omega)
        obtain ⟨d1, f1⟩ := z0 (k * 3 + 1) (by omega)
        obtain ⟨d2, f2⟩ := z0 (k * 3 + 2) (by omega)
        have fz0 := World.ownsRow.frozenAt hO2 (k * 3)
        have fz1 := World.ownsRow.frozenAt hO2 (k * 3 + 1)
        have fz2 := World.ownsRow.frozenAt hO2 (k * 3 + 2)
        have HCN := HNX.out w2 _ hb2 (ho2.mono HHR.out)
        have HON : Hid ((((w2.setCell ⟨H, k * 3, none⟩ (.int .i64 p.k)).setCell ⟨H, k * 3 + 1, none⟩ (.string p.t)).setCell ⟨H, k * 3 + 2, none⟩ (.slice a3 p.zs.length c3)).ownsRow H 48 3 (.slice (some ⟨H, 0, none⟩) ps.length ps.length) ps.length (((cs.set (k * 3) (.int .i64 p.k)).set (k * 3 + 1) (.string p.t)).set (k * 3 + 2) (.slice a3 p.zs.length c3))) :=
          (World.ownsRow.stored (World.ownsRow.stored (World.ownsRow.stored hO2 _ _).1 _ _).1 _ _).1
        have HBN : Hid (Below H W (((w2.setCell ⟨H, k * 3, none⟩ (.int .i64 p.k)).setCell ⟨H, k * 3 + 1, none⟩ (.string p.t)).setCell ⟨H, k * 3 + 2, none⟩ (.slice a3 p.zs.length c3))) :=
          (((HBR.out.trans (hb2.mono (Nat.le_of_lt HHR.out))).setCell (Nat.le_refl _) _).setCell (Nat.le_refl _) _).setCell (Nat.le_refl _) _
        have HHN : Hid (H < (((w2.setCell ⟨H, k * 3, none⟩ (.int .i64 p.k)).setCell ⟨H, k * 3 + 1, none⟩ (.string p.t)).setCell ⟨H, k * 3 + 2, none⟩ (.slice a3 p.zs.length c3)).heap.size) := by
          have := Nat.lt_of_lt_of_le HHR.out hb2.size
          show _ < _
          simpa [World.setCell] using this
        have HCC : Hid (∃ cs' : List Value, cs'.length = ps.length * 3 ∧ (((w2.setCell ⟨H, k * 3, none⟩ (.int .i64 p.k)).setCell ⟨H, k * 3 + 1, none⟩ (.string p.t)).setCell ⟨H, k * 3 + 2, none⟩ (.slice a3 p.zs.length c3)).ownsRow H 48 3 (.slice (some ⟨H, 0, none⟩) ps.length ps.length) ps.length cs' ∧ Copied (((w2.setCell ⟨H, k * 3, none⟩ (.int .i64 p.k)).setCell ⟨H, k * 3 + 1, none⟩ (.string p.t)).setCell ⟨H, k * 3 + 2, none⟩ (.slice a3 p.zs.length c3)) H cs' ps (k + 1) ∧ Below H W (((w2.setCell ⟨H, k * 3, none⟩ (.int .i64 p.k)).setCell ⟨H, k * 3 + 1, none⟩ (.string p.t)).setCell ⟨H, k * 3 + 2, none⟩ (.slice a3 p.zs.length c3)) ∧ H < (((w2.setCell ⟨H, k * 3, none⟩ (.int .i64 p.k)).setCell ⟨H, k * 3 + 1, none⟩ (.string p.t)).setCell ⟨H, k * 3 + 2, none⟩ (.slice a3 p.zs.length c3)).heap.size) :=
          ⟨_, by rw [List.length_set, List.length_set, List.length_set]; exact HCS.out, HON.out, HCN, HBN.out, HHN.out⟩
        clear ho2 hb2 hO2 z0 HCN HON HBN HHN HNX HOW HCP
        unfold partV
        go_wp2
        go_roundw
        case rel => exact ⟨k + 1, by omega, by go_num, HCC⟩
        case measure => simp [intOf]; omega
      · have hlt' : ¬ (k : Int) < (ps.length : Int) := by omega
        have e : k = ps.length := by omega
        subst e
        have HFIN : Hid (ReadsP wr (.slice (some ⟨H, 0, none⟩) ps.length ps.length) ps ∧ Below H W wr) := by
          obtain ⟨cs, hcs, hown, hcop, hbr, hHr⟩ := HK.out
          exact ⟨copied_reads hcop hown hHr, hbr⟩
        clear HK
        go_wp2
        go_ret
        exact ⟨_, rfl, HFIN.out.1, HFIN.out.2⟩
end Go.Proofs.Ytiknpoclolnhhas
