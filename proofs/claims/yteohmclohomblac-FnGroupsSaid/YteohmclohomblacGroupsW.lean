/-
  The walk of the law FnGroups.
-/
import Derived.Test.YteohmclohomblacGrFn
import Derived.Test.YteohmclohomblacGrOne
import Derived.Test.YteohmclohomblacDrawEd2
import Derived.Deep.CutRange
import Derived.Deep.Cut
namespace Go.Proofs.Yteohmclohomblac
open Go.RowKit
set_option linter.unusedVariables false

/-- A row that is one's own, by its cells, for good. -/
theorem own_cells {W : World} {B : Nat} {a : Option Addr} {n c : Nat} {zs : List Int} (h : Own W B (.slice a n c) zs) : ∀ j, j < zs.length → ∃ g o, a = some ⟨g, o, none⟩ ∧ ∀ W', Since W.heap.size W W' → ∀ hj : j < zs.length, W'.cell? ⟨g, o + j, none⟩ = some (.int .i64 zs[j]) := fun j hj => by
  obtain ⟨a1, c1, hv, hc⟩ := h.reads
  simp only [Value.slice.injEq] at hv
  obtain ⟨rfl, rfl, rfl⟩ := hv
  obtain ⟨g, o, rfl, hg, hcell⟩ := hc.resolve_left (fun e => by rw [e] at hj; exact absurd hj (Nat.not_lt_zero _))
  exact ⟨g, o, rfl, fun W' hs hj => (hs.1.cell (p := ⟨g, o + j, none⟩) hg).trans (hcell j hj)⟩

namespace fnGroups
set_option maxRecDepth 100000 in
set_option maxHeartbeats 16000000 in
theorem walk (a0 : Option Addr) (len0 cap0 : Nat) (a1 : Option Addr) (len1 cap1 : Nat) (w : World) (hc0 : Code w.heap.size w a0 len0) (hl0 : len0 ≤ 9223372036854775807) (hc1 : Code w.heap.size w a1 len1) (hl1 : len1 ≤ 9223372036854775807) :
    Calls Try.prog 5 #[.slice a0 len0 cap0, .slice a1 len1 cap1] w fun e w' => e = .returned (.bool true) ∧ Below w.heap.size w w' := by
  have HC0 : Hid (Code w.heap.size w a0 len0) := hc0
  have HC1 : Hid (Code w.heap.size w a1 len1) := hc1
  have S0 : Hid (Since w.heap.size w w) := Since.start w
  clear hc0 hc1
  obtain ⟨X, hX⟩ : ∃ X : Int, IntKind.i64.wrap ((len0 : Int) + (len1 : Int)) = X := ⟨_, rfl⟩
  by_cases hbig : 1048576 < X
  · have hbig' : decide ((1048576 : Int) < X) = true := decide_eq_true hbig
    go_enter Try.func5, Try.ntmps5
    go_wp2
    go_ret
    exact ⟨rfl, Below.refl _ _⟩
  have hbig' : decide ((1048576 : Int) < X) = false := decide_eq_false hbig
  go_enter Try.func5, Try.ntmps5
  go_wp2_with fail
  refine (drawGroups_any w.heap.size w _ a0 len0 cap0 HC0.out hl0 S0.out).mono ?_
  rintro e w1 ⟨n, v1, l, rfl, ho1, hl40, hn13, hs1⟩
  obtain ⟨x1, y1, rfl⟩ := ho1.shape
  have S1 : Hid (Since w.heap.size w w1) := hs1
  have L1 : Hid (OwnEd w1 w.heap.size (.slice x1 l.length y1) l) := ho1
  have HL40 : Hid (l.length ≤ 40) := hl40
  clear ho1 hs1
  -- what is asked
  obtain ⟨g, hg⟩ : ∃ g, g = grpOut (n : Int) l := ⟨_, rfl⟩
  obtain ⟨d, hd⟩ : ∃ d, d = degOut (n : Int) l := ⟨_, rfl⟩
  obtain ⟨ok, hok⟩ : ∃ ok, ok = goodEd (n : Int) l := ⟨_, rfl⟩
  obtain ⟨one, hone⟩ : ∃ one, one = oneOut (n : Int) l := ⟨_, rfl⟩
  have CG : Hid (∀ (W : World) (v : Value), ReadsEd W v l → Calls Try.prog 32 #[.int .i64 (n : Int), v] W (NearPost W g ok)) := fun W v h => by
    rw [hg, hok]; exact implGroupsOf_any W v (n : Int) l h (Nat.le_trans HL40.out (by decide))
  have CGS : Hid (∀ (W : World) (v : Value), ReadsEd W v l → Calls Try.prog 33 #[.int .i64 (n : Int), v] W (NearPost W g ok)) := fun W v h => by
    rw [hg, hok]; exact specGroupsOf_any W v (n : Int) l h (Nat.le_trans HL40.out (by decide))
  have CD : Hid (∀ (W : World) (v : Value), ReadsEd W v l → Calls Try.prog 34 #[.int .i64 (n : Int), v] W (NearPost W d ok)) := fun W v h => by
    rw [hd, hok]; exact implDegreesOf_any W v (n : Int) l h (Nat.le_trans HL40.out (by decide))
  have CDS : Hid (∀ (W : World) (v : Value), ReadsEd W v l → Calls Try.prog 35 #[.int .i64 (n : Int), v] W (NearPost W d ok)) := fun W v h => by
    rw [hd, hok]; exact specDegreesOf_any W v (n : Int) l h (Nat.le_trans HL40.out (by decide))
  have CE : Hid (∀ (W : World) (v : Value), ReadsEd W v l → Calls Try.prog 36 #[.int .i64 (n : Int), v] W fun e W' => e = .returned (.bool ok) ∧ Below W.heap.size W W') := fun W v h => by
    rw [hok]; exact implGoodEd_any W v (n : Int) l h (Nat.le_trans HL40.out (by decide))
  have CO : Hid (∀ (W : World) (v : Value), ReadsEd W v l → Calls Try.prog 37 #[.int .i64 (n : Int), v] W fun e W' => e = .returned (.tuple #[.bool one, .bool ok]) ∧ Below W.heap.size W W') := fun W v h => by
    rw [hone, hok]; exact implIsOne_any W v (n : Int) l h (Nat.le_trans HL40.out (by decide))
  have CP : Hid (∀ k (hk : k < l.length) (W : World) (v : Value), ok = true → ReadsEd W v (l.take k) → Calls Try.prog 32 #[.int .i64 (n : Int), v] W (NearPost W (grp (n : Int) (l.take k)) true)) := fun k hk W v ho h => by
    have hgd := goodEd_take (hok.symm.trans ho) k
    have := implGroupsOf_any W v (n : Int) (l.take k) h (Nat.le_trans (Nat.le_trans (by rw [List.length_take]; exact Nat.min_le_right ..) HL40.out) (by decide))
    rw [hgd, show grpOut (n : Int) (l.take k) = grp (n : Int) (l.take k) by unfold grpOut; rw [hgd]; rfl] at this
    exact this
  have GLEN : Hid (g.length ≤ 4194304 ∧ d.length ≤ 4194304) := ⟨by rw [hg]; exact grpOut_len _ _, by rw [hd]; exact degOut_len _ _⟩
  have HGT : Hid (ok = true → (1 ≤ n ∧ n ≤ 12) ∧ g = grp (n : Int) l ∧ d = degTo l n n ∧ g.length = n ∧ d.length = n ∧ FitEd (n : Int) l) := fun ho => by
    have hgd := hok.symm.trans ho
    obtain ⟨h1, -, h3, -⟩ := goodEd_true hgd
    have e1 : g = grp (n : Int) l := by rw [hg]; unfold grpOut; rw [hgd]; rfl
    have e2 : d = degTo l n n := by rw [hd]; unfold degOut; rw [hgd]; rfl
    exact ⟨by omega, e1, e2, by rw [e1, grp_len _ l h3]; omega, by rw [e2, degTo_len], h3⟩
  have HDS : Hid (ok = true → d.sum = 2 * (l.length : Int)) := fun ho => by
    have hgd := hok.symm.trans ho
    have := deg_sum hgd
    rw [hd]
    unfold degOut
    rw [hgd]
    exact this
  have HON : Hid (ok = true → one = decide (rootsTo g n = 1)) := fun ho => by
    have hgd := hok.symm.trans ho
    obtain ⟨h1, -, h3, -⟩ := goodEd_true hgd
    have e1 : g = grp (n : Int) l := by rw [hg]; unfold grpOut; rw [hgd]; rfl
    rw [hone]
    unfold oneOut
    rw [hgd, Bool.true_and, one_roots h1.1 (isGrp_grp (n : Int) l h3), e1]
    rfl
  clear hg hd hok hone
  go_wp2_with fail
  refine (CG.out _ _ L1.out.reads).mono ?_
  rintro e w2 ⟨u2, rfl, ho2, hb2⟩
  obtain ⟨x2, y2, rfl⟩ := ho2.shape
  have S2 : Hid (Since w.heap.size w w2) := S1.out.step hb2
  have G2 : Hid (Own w2 w.heap.size (.slice x2 g.length y2) g) := ho2.mono S1.out.2
  have L2 : Hid (OwnEd w2 w.heap.size (.slice x1 l.length y1) l) := L1.out.below hb2
  clear ho2 hb2
  go_wp2_with fail
  refine (CGS.out _ _ L2.out.reads).mono ?_
  rintro e w3 ⟨u3, rfl, ho3, hb3⟩
  obtain ⟨x3, y3, rfl⟩ := ho3.shape
  have S3 : Hid (Since w.heap.size w w3) := S2.out.step hb3
  have H3 : Hid (Own w3 w.heap.size (.slice x3 g.length y3) g) := ho3.mono S2.out.2
  have L3 : Hid (OwnEd w3 w.heap.size (.slice x1 l.length y1) l) := L2.out.below hb3
  have G3 : Hid (Own w3 w.heap.size (.slice x2 g.length y2) g) := G2.out.below hb3
  clear ho3 hb3
  go_wp2_with fail
  refine (CD.out _ _ L3.out.reads).mono ?_
  rintro e w4 ⟨u4, rfl, ho4, hb4⟩
  obtain ⟨x4, y4, rfl⟩ := ho4.shape
  have S4 : Hid (Since w.heap.size w w4) := S3.out.step hb4
  have D4 : Hid (Own w4 w.heap.size (.slice x4 d.length y4) d) := ho4.mono S3.out.2
  have L4 : Hid (OwnEd w4 w.heap.size (.slice x1 l.length y1) l) := L3.out.below hb4
  have G4 : Hid (Own w4 w.heap.size (.slice x2 g.length y2) g) := G3.out.below hb4
  have H4 : Hid (Own w4 w.heap.size (.slice x3 g.length y3) g) := H3.out.below hb4
  clear ho4 hb4
  go_wp2_with fail
  refine (CDS.out _ _ L4.out.reads).mono ?_
  rintro e w5 ⟨u5, rfl, ho5, hb5⟩
  obtain ⟨x5, y5, rfl⟩ := ho5.shape
  have S5 : Hid (Since w.heap.size w w5) := S4.out.step hb5
  have E5 : Hid (Own w5 w.heap.size (.slice x5 d.length y5) d) := ho5.mono S4.out.2
  have L5 : Hid (OwnEd w5 w.heap.size (.slice x1 l.length y1) l) := L4.out.below hb5
  have G5 : Hid (Own w5 w.heap.size (.slice x2 g.length y2) g) := G4.out.below hb5
  have H5 : Hid (Own w5 w.heap.size (.slice x3 g.length y3) g) := H4.out.below hb5
  have D5 : Hid (Own w5 w.heap.size (.slice x4 d.length y4) d) := D4.out.below hb5
  clear ho5 hb5
  go_wp2_with fail
  refine (sameInts_same _ _ _ g G5.out.reads H5.out.reads GLEN.out.1).mono ?_
  rintro e w6 ⟨rfl, hb6⟩
  have S6 : Hid (Since w.heap.size w w6) := S5.out.step hb6
  have L6 : Hid (OwnEd w6 w.heap.size (.slice x1 l.length y1) l) := L5.out.below hb6
  have G6 : Hid (Own w6 w.heap.size (.slice x2 g.length y2) g) := G5.out.below hb6
  have D6 : Hid (Own w6 w.heap.size (.slice x4 d.length y4) d) := D5.out.below hb6
  have E6 : Hid (Own w6 w.heap.size (.slice x5 d.length y5) d) := E5.out.below hb6
  clear hb6
  go_wp2_with fail
  refine (sameInts_same _ _ _ d D6.out.reads E6.out.reads GLEN.out.2).mono ?_
  rintro e w7 ⟨rfl, hb7⟩
  have S7 : Hid (Since w.heap.size w w7) := S6.out.step hb7
  have L7 : Hid (OwnEd w7 w.heap.size (.slice x1 l.length y1) l) := L6.out.below hb7
  have G7 : Hid (Own w7 w.heap.size (.slice x2 g.length y2) g) := G6.out.below hb7
  have D7 : Hid (Own w7 w.heap.size (.slice x4 d.length y4) d) := D6.out.below hb7
  clear hb7
  go_wp2_with fail
  refine (CE.out _ _ L7.out.reads).mono ?_
  rintro e w8 ⟨rfl, hb8⟩
  have S8 : Hid (Since w.heap.size w w8) := S7.out.step hb8
  have L8 : Hid (OwnEd w8 w.heap.size (.slice x1 l.length y1) l) := L7.out.below hb8
  have G8 : Hid (Own w8 w.heap.size (.slice x2 g.length y2) g) := G7.out.below hb8
  have D8 : Hid (Own w8 w.heap.size (.slice x4 d.length y4) d) := D7.out.below hb8
  clear hb8
  clear CG CGS CD CDS CE
  cases hok : ok with
  | false =>
    rw [hok] at *
    clear HGT HDS HON CP
    go_wp2_with fail
    refine (drawIsOne_any w.heap.size w _ a1 len1 cap1 HC1.out hl1 S8.out).mono ?_
    rintro e wa ⟨m, va, la, rfl, hoa, hla, hma, hsa⟩
    obtain ⟨xa, ya, rfl⟩ := hoa.shape
    have SA : Hid (Since w.heap.size w wa) := hsa
    have LA : Hid (OwnEd wa w.heap.size (.slice xa la.length ya) la) := hoa.mono S8.out.2
    clear hoa hsa
    go_wp2_with fail
    refine (implIsOne_any _ _ (m : Int) la LA.out.reads (Nat.le_trans hla (by decide))).mono ?_
    rintro e wb ⟨rfl, hbb⟩
    have SB : Hid (Since w.heap.size w wb) := SA.out.step hbb
    have LB : Hid (OwnEd wb w.heap.size (.slice xa la.length ya) la) := LA.out.below hbb
    clear hbb LA
    go_wp2_with fail
    refine (specIsOne_any _ _ (m : Int) la LB.out.reads (Nat.le_trans hla (by decide))).mono ?_
    rintro e wc ⟨rfl, hbc⟩
    have SC : Hid (Since w.heap.size w wc) := SB.out.step hbc
    clear hbc LB
    generalize oneOut (m : Int) la = o9 at *
    generalize goodEd (m : Int) la = k9 at *
    go_wp2
    go_ret
    exact ⟨by simp, SC.out.1⟩
  | true =>
    rw [hok] at HGT HDS HON CP CO
    obtain ⟨⟨hn1, hn12⟩, hgg, hdd, hgl, hdl, hfit⟩ := HGT.out rfl
    have HDSUM : Hid (d.sum = 2 * (l.length : Int)) := HDS.out rfl
    have HONE : Hid (one = decide (rootsTo g n = 1)) := HON.out rfl
    have HGRP : Hid (IsGrp (n : Int) l g) := by rw [hgg]; exact isGrp_grp (n : Int) l hfit
    have HFIT : Hid (FitEd (n : Int) l) := hfit
    have HGG : Hid (g = grp (n : Int) l) := hgg
    have HDB : Hid (∀ j (hj : j < d.length), 0 ≤ d[j] ∧ d[j] ≤ 12) := fun j hj => degTo_fit l n n hn12 d[j] (by rw [← hdd]; exact List.getElem_mem hj)
    have HRJ : Hid (∀ k, k ≤ l.length → rootsTo (grp (n : Int) (l.take k)) n + joinsTo (n : Int) l k = n) := fun k hk => by
      have := roots_joins (n := (n : Int)) (by omega) HFIT.out k hk
      rwa [Int.toNat_natCast] at this
    have HCPT : Hid (∀ k (hk : k < l.length) (W : World) (v : Value), ReadsEd W v (l.take k) → Calls Try.prog 32 #[.int .i64 (n : Int), v] W (NearPost W (grp (n : Int) (l.take k)) true)) := fun k hk W v h => CP.out k hk W v rfl h
    clear hgg hdd hfit HGT HDS HON CP hok
    have HGL : Hid (g.length = n ∧ d.length = n) := ⟨hgl, hdl⟩
    have HGC : Hid (∀ j, j < n → ∃ gg go, x2 = some ⟨gg, go, none⟩ ∧ ∀ W', Since w8.heap.size w8 W' → ∀ hj : j < g.length, W'.cell? ⟨gg, go + j, none⟩ = some (.int .i64 g[j])) := fun j hj => own_cells G8.out j (by rw [HGL.out.1]; exact hj)
    have HDC : Hid (∀ j, j < n → ∃ gd gp, x4 = some ⟨gd, gp, none⟩ ∧ ∀ W', Since w8.heap.size w8 W' → ∀ hj : j < d.length, W'.cell? ⟨gd, gp + j, none⟩ = some (.int .i64 d[j])) := fun j hj => own_cells D8.out j (by rw [HGL.out.2]; exact hj)
    simp only [hgl, hdl]
    go_wp2
    go_loop [15, 16, 98] (fun s r i => ∃ k : Nat, k ≤ n ∧ i = .int .i64 (k : Int) ∧ s = .int .i64 ((d.take k).sum) ∧ r = .int .i64 ((rootsTo g k : Nat) : Int)) (fun _ _ i => n - (intOf i).toNat)
    case atStart => exact ⟨0, Nat.zero_le _, rfl, rfl, rfl⟩
    case round =>
      obtain ⟨k, hk, rfl, rfl, rfl⟩ := hrel
      by_cases hlt : k < n
      · have hlt' : (k : Int) < (n : Int) := by omega
        have hkg : k < g.length := by rw [HGL.out.1]; exact hlt
        have hkd : k < d.length := by rw [HGL.out.2]; exact hlt
        obtain ⟨gg, go, rfl, hgc⟩ := HGC.out k hlt
        obtain ⟨gd, gp, rfl, hdc⟩ := HDC.out k hlt
        have c0 := hgc w8 (Since.start _) hkg
        have c1 := hdc w8 (Since.start _) hkd
        have hb := HGRP.out.2.2.1 (k : Int) (by omega) (by omega)
        have hr := HGRP.out.root (k : Int) (by omega) (by omega)
        rw [lab_get g k hkg] at hb hr
        obtain ⟨p, hp⟩ : ∃ p : Nat, g[k] = (p : Int) := ⟨g[k].toNat, by omega⟩
        have hpn : p < n := by omega
        have hpg : p < g.length := by rw [HGL.out.1]; exact hpn
        obtain ⟨gg', go', e2, hgc2⟩ := HGC.out p hpn
        have c2 := hgc2 w8 (Since.start _) hpg
        simp only [Option.some.injEq, Addr.mk.injEq] at e2
        obtain ⟨rfl, rfl, -⟩ := e2
        rw [hp, lab_get g p hpg] at hr
        rw [hr] at c2
        rw [hp] at c0
        have HSN : Hid ((d.take (k + 1)).sum = (d.take k).sum + d[k]) := by
          show _ = _
          rw [List.take_succ_eq_append_getElem hkd, List.sum_append]
          simp
        have HRN : Hid (((rootsTo g (k + 1) : Nat) : Int) = (rootsTo g k : Nat) + if (p : Int) = (k : Int) then 1 else 0) := by
          show _ = _
          rw [rootsTo, lab_get g k hkg, hp]
          split <;> simp
        have hdk := HDB.out k hkd
        have hrk := rootsTo_le g k
        have hsk := sumI_bound8 (d.take k) fun x hx => by
          obtain ⟨j, hj, rfl⟩ := List.getElem_of_mem (List.mem_of_mem_take hx)
          exact HDB.out j hj
        have hlk : (d.take k).length ≤ 12 := by rw [List.length_take]; omega
        generalize d[k] = dk at *
        generalize hst1 : (d.take (k + 1)).sum = st1 at *
        have HST : Hid ((d.take (k + 1)).sum = st1) := hst1
        clear hst1
        generalize (d.take k).sum = st at *
        generalize hrt1 : ((rootsTo g (k + 1) : Nat) : Int) = rt1 at *
        have HRT : Hid (((rootsTo g (k + 1) : Nat) : Int) = rt1) := hrt1
        clear hrt1 hr hgc hdc hgc2
        have hpk : ¬ k < p := by omega
        have hws : IntKind.i64.wrap (st + dk) = st + dk := by rw [IntKind.wrap_i64]; omega
        generalize rootsTo g k = rk at *
        have hwr : IntKind.i64.wrap ((rk : Int) + 1) = (rk : Int) + 1 := by rw [IntKind.wrap_i64]; omega
        by_cases hpk2 : p = k
        · subst hpk2
          have HR1 : Hid (rt1 = (rk : Int) + 1) := HRN.out.trans (by rw [if_pos rfl])
          go_wp2
          go_round
          case rel => exact ⟨p + 1, by omega, by go_num, by rw [HST.out, HSN.out], by rw [HRT.out, HR1.out]⟩
          case measure => simp [intOf]; omega
        · have HR1 : Hid (rt1 = (rk : Int)) := HRN.out.trans (by rw [if_neg (by omega)]; omega)
          have hpk3 : ((p : Int) == (k : Int)) = false := beq_eq_false_iff_ne.2 (by omega)
          go_wp2
          go_round
          case rel => exact ⟨k + 1, by omega, by go_num, by rw [HST.out, HSN.out], by rw [HRT.out, HR1.out]⟩
          case measure => simp [intOf]; omega
      · have hlt' : ¬ (k : Int) < (n : Int) := by omega
        have e : k = n := by omega
        have HS0 : Hid ((d.take k).sum = 2 * (l.length : Int)) := by
          show _ = _
          rw [List.take_of_length_le (by rw [HGL.out.2]; omega)]
          exact HDSUM.out
        have HRK : Hid (rootsTo g k = rootsTo g n) := by rw [e]; rfl
        have HEQ : Hid (∀ x ∈ l, lab g x.A = lab g x.B) := HGRP.out.2.1
        generalize (d.take k).sum = ds at *
        have hds : ds = 2 * (l.length : Int) := HS0.out
        have HRK2 : Hid (rootsTo g n = rootsTo g k) := HRK.out.symm
        generalize rootsTo g k = rn at *
        clear HRK
        subst e
        have HLC : Hid (∀ j, j < l.length → ∃ gl, x1 = some ⟨gl, 0, none⟩ ∧ l.length ≤ y1 ∧ gl < w8.heap.size ∧ ∀ W', Since w8.heap.size w8 W' → ∀ j (hj : j < l.length), EdAt W' gl (0 + j * 3) l[j]) := fun j hj => by
          obtain ⟨gl, cl, hv, hcl, hgl2, hcell⟩ := ownEd_at L8.out (by omega)
          simp only [Value.slice.injEq, true_and] at hv
          obtain ⟨rfl, rfl⟩ := hv
          exact ⟨gl, rfl, hcl, hgl2, fun W' hs j hj => (hcell j hj).below hgl2 hs.1⟩
        have HS8 : Hid (Since w8.heap.size w8 w8) := Since.start w8
        go_wp2
        go_loopw [128] (fun i wr => ∃ j : Nat, j ≤ l.length ∧ i = .int .i64 (j : Int) ∧ Hid (Since w8.heap.size w8 wr)) (fun i _ => l.length - (intOf i).toNat)
        case atStart => exact ⟨0, Nat.zero_le _, rfl, HS8.out⟩
        case round =>
          clear HS8
          obtain ⟨j, hj, rfl, HK⟩ := hrel
          by_cases hltj : j < l.length
          · have hltj' : (j : Int) < (l.length : Int) := by omega
            obtain ⟨gl, rfl, -, -, hat⟩ := HLC.out j hltj
            obtain ⟨q0, q1, q2⟩ := hat wr HK.out j hltj
            rw [Nat.zero_add] at q0 q1 q2
            have hx1 := (HFIT.out _ (List.getElem_mem hltj)).1
            have hx2 := (HFIT.out _ (List.getElem_mem hltj)).2.1
            have heq := HEQ.out _ (List.getElem_mem hltj)
            generalize l[j] = x at *
            obtain ⟨xa, xb, xc⟩ := x
            dsimp only at *
            obtain ⟨p, rfl⟩ : ∃ p : Nat, xa = (p : Int) := ⟨xa.toNat, by omega⟩
            obtain ⟨q, rfl⟩ : ∃ q : Nat, xb = (q : Int) := ⟨xb.toNat, by omega⟩
            have hpk : p < k := by omega
            have hqk : q < k := by omega
            have hpk' : (p : Int) < (k : Int) := by omega
            have hqk' : (q : Int) < (k : Int) := by omega
            have hpg : p < g.length := by rw [HGL.out.1]; exact hpk
            have hqg : q < g.length := by rw [HGL.out.1]; exact hqk
            rw [lab_get g p hpg, lab_get g q hqg] at heq
            obtain ⟨gg, go, rfl, hgp⟩ := HGC.out p hpk
            obtain ⟨gg', go', e2, hgq⟩ := HGC.out q hqk
            simp only [Option.some.injEq, Addr.mk.injEq] at e2
            obtain ⟨rfl, rfl, -⟩ := e2
            have HGP : Hid (∀ W', Since w8.heap.size w8 W' → W'.cell? ⟨gg, go + p, none⟩ = some (.int .i64 g[p]) ∧ W'.cell? ⟨gg, go + q, none⟩ = some (.int .i64 g[p])) := fun W' hs => ⟨hgp W' hs hpg, by rw [heq]; exact hgq W' hs hqg⟩
            clear hgp hgq heq hx1 hx2 hat
            generalize g[p] = u at *
            have HX : Hid (∀ w', Since (wr.alloc (.cells #[.int .i64 (p : Int), .int .i64 (q : Int), .int .i64 xc] 61)).heap.size (wr.alloc (.cells #[.int .i64 (p : Int), .int .i64 (q : Int), .int .i64 xc] 61)) w' → (w'.cell? ⟨wr.heap.size, 0, none⟩ = some (.int .i64 (p : Int)) ∧ w'.cell? ⟨wr.heap.size, 1, none⟩ = some (.int .i64 (q : Int)) ∧ w'.cell? ⟨wr.heap.size, 2, none⟩ = some (.int .i64 xc)) ∧ w'.cell? ⟨gg, go + p, none⟩ = some (.int .i64 u) ∧ w'.cell? ⟨gg, go + q, none⟩ = some (.int .i64 u)) := fun w' hs =>
              ⟨newEd wr ⟨(p : Int), (q : Int), xc⟩ w' hs, HGP.out w' ((HK.out.step ((Below.refl _ wr).alloc (Nat.le_refl _) _)).tran hs)⟩
            have HK2 : Hid (Since w8.heap.size w8 (wr.alloc (.cells #[.int .i64 (p : Int), .int .i64 (q : Int), .int .i64 xc] 61)).drew) := (HK.out.step ((Below.refl _ wr).alloc (Nat.le_refl _) _)).drew
            clear HK
            go_wp2
            have SA0 := Since.start (wr.alloc (.cells #[.int .i64 (p : Int), .int .i64 (q : Int), .int .i64 xc] 61))
            refine wp_region_held_drew (S := (fun w' => (w'.cell? ⟨wr.heap.size, 0, none⟩ = some (.int .i64 (p : Int)) ∧ w'.cell? ⟨wr.heap.size, 1, none⟩ = some (.int .i64 (q : Int)) ∧ w'.cell? ⟨wr.heap.size, 2, none⟩ = some (.int .i64 xc)) ∧ w'.cell? ⟨gg, go + p, none⟩ = some (.int .i64 u) ∧ w'.cell? ⟨gg, go + q, none⟩ = some (.int .i64 u))) (by kernel_rfl) ?_ (fun hHeld => ?_)
            · exact HX.out _ SA0.drew
            refine handRead 0 (some 132) (.slice (some ⟨gg, go, none⟩) k y2) rfl rfl (by kernel_rfl) (by kernel_rfl) (by kernel_rfl) (fun _ _ _ h => h) (by kernel_rfl) (by assumption) ?_ ?_
            · intro w hSw
              (try dsimp only at hSw)
              go_simp
            simp only [Act.put, List.setIfInBounds_toArray, List.set_cons_zero, List.set_cons_succ]
            refine handRead 1 (some 133) (.pointer (some ⟨wr.heap.size, 0, none⟩)) rfl rfl (by kernel_rfl) (by kernel_rfl) (by kernel_rfl) (fun _ _ _ h => h) (by kernel_rfl) (by assumption) ?_ ?_
            · intro w hSw
              (try dsimp only at hSw)
              go_simp
            simp only [Act.put, List.setIfInBounds_toArray, List.set_cons_zero, List.set_cons_succ]
            refine handRead 2 (some 134) (.int .i64 (p : Int)) rfl rfl (by kernel_rfl) (by kernel_rfl) (by kernel_rfl) (fun _ _ _ h => h) (by kernel_rfl) (by assumption) ?_ ?_
            · intro w hSw
              (try dsimp only at hSw)
              go_simp
            simp only [Act.put, List.setIfInBounds_toArray, List.set_cons_zero, List.set_cons_succ]
            refine handRead 3 (some 135) (.pointer (some ⟨gg, go + p, none⟩)) rfl rfl (by kernel_rfl) (by kernel_rfl) (by kernel_rfl) (fun _ _ _ h => h) (by kernel_rfl) (by assumption) ?_ ?_
            · intro w hSw
              (try dsimp only at hSw)
              go_simp
            simp only [Act.put, List.setIfInBounds_toArray, List.set_cons_zero, List.set_cons_succ]
            refine handRead 4 (some 136) (.int .i64 u) rfl rfl (by kernel_rfl) (by kernel_rfl) (by kernel_rfl) (fun _ _ _ h => h) (by kernel_rfl) (by assumption) ?_ ?_
            · intro w hSw
              (try dsimp only at hSw)
              go_simp
            simp only [Act.put, List.setIfInBounds_toArray, List.set_cons_zero, List.set_cons_succ]
            refine handRead 5 (some 137) (.slice (some ⟨gg, go, none⟩) k y2) rfl rfl (by kernel_rfl) (by kernel_rfl) (by kernel_rfl) (fun _ _ _ h => h) (by kernel_rfl) (by assumption) ?_ ?_
            · intro w hSw
              (try dsimp only at hSw)
              go_simp
            simp only [Act.put, List.setIfInBounds_toArray, List.set_cons_zero, List.set_cons_succ]
            refine handRead 6 (some 138) (.pointer (some ⟨wr.heap.size, 1, none⟩)) rfl rfl (by kernel_rfl) (by kernel_rfl) (by kernel_rfl) (fun _ _ _ h => h) (by kernel_rfl) (by assumption) ?_ ?_
            · intro w hSw
              (try dsimp only at hSw)
              go_simp
            simp only [Act.put, List.setIfInBounds_toArray, List.set_cons_zero, List.set_cons_succ]
            refine handRead 7 (some 139) (.int .i64 (q : Int)) rfl rfl (by kernel_rfl) (by kernel_rfl) (by kernel_rfl) (fun _ _ _ h => h) (by kernel_rfl) (by assumption) ?_ ?_
            · intro w hSw
              (try dsimp only at hSw)
              go_simp
            simp only [Act.put, List.setIfInBounds_toArray, List.set_cons_zero, List.set_cons_succ]
            refine handRead 8 (some 140) (.pointer (some ⟨gg, go + q, none⟩)) rfl rfl (by kernel_rfl) (by kernel_rfl) (by kernel_rfl) (fun _ _ _ h => h) (by kernel_rfl) (by assumption) ?_ ?_
            · intro w hSw
              (try dsimp only at hSw)
              go_simp
            simp only [Act.put, List.setIfInBounds_toArray, List.set_cons_zero, List.set_cons_succ]
            refine handRead 9 (some 141) (.int .i64 u) rfl rfl (by kernel_rfl) (by kernel_rfl) (by kernel_rfl) (fun _ _ _ h => h) (by kernel_rfl) (by assumption) ?_ ?_
            · intro w hSw
              (try dsimp only at hSw)
              go_simp
            simp only [Act.put, List.setIfInBounds_toArray, List.set_cons_zero, List.set_cons_succ]
            refine handRead 10 (some 142) (.bool false) rfl rfl (by kernel_rfl) (by kernel_rfl) (by kernel_rfl) (fun _ _ _ h => h) (by kernel_rfl) (by assumption) ?_ ?_
            · intro w hSw
              (try dsimp only at hSw)
              go_simp
            simp only [Act.put, List.setIfInBounds_toArray, List.set_cons_zero, List.set_cons_succ]
            refine wpAnyH_done (by kernel_rfl) ?_ _
            clear q0 q1 q2
            go_wp2
            go_roundw
            case rel => exact ⟨j + 1, by omega, by go_num, HK2.out⟩
            case measure => simp [intOf]; omega
          · have hltj' : ¬ (j : Int) < (l.length : Int) := by omega
            have HS9 : Hid (Since w8.heap.size w8 wr) := HK.out
            clear HK
            go_wp2
            go_loopw [21, 146] (fun s i wr => ∃ j : Nat, j ≤ l.length ∧ i = .int .i64 (j : Int) ∧ s = .int .i64 ((joinsTo (k : Int) l j : Nat) : Int) ∧ Hid (Since w8.heap.size w8 wr)) (fun _ i _ => l.length - (intOf i).toNat)
            case atStart => exact ⟨0, Nat.zero_le _, rfl, rfl, HS9.out⟩
            case round =>
              clear HS9
              obtain ⟨j, hj, rfl, rfl, HK⟩ := hrel
              by_cases hltj : j < l.length
              · have hltj' : (j : Int) < (l.length : Int) := by omega
                obtain ⟨gl, rfl, hcap, hgl2, hat⟩ := HLC.out j hltj
                have hjc : j ≤ y1 := by omega
                have HRT : Hid (ReadsEd wr (.slice (some ⟨gl, 0, none⟩) j y1) (l.take j)) := ⟨_, y1, by rw [List.length_take, Nat.min_eq_left (by omega)], .inr ⟨gl, 0, rfl, Nat.lt_of_lt_of_le hgl2 HK.out.2, fun i hi => by
                  rw [List.length_take] at hi
                  rw [List.getElem_take]
                  exact hat wr HK.out i (by omega)⟩⟩
                have HJN : Hid (((joinsTo (k : Int) l (j + 1) : Nat) : Int) = (joinsTo (k : Int) l j : Nat) + if lab (grp (k : Int) (l.take j)) l[j].A = lab (grp (k : Int) (l.take j)) l[j].B then 0 else 1) := by
                  show _ = _
                  rw [joinsTo, getEd l j hltj]
                  split <;> simp
                have hjl := joinsTo_le (k : Int) l j
                have HGLJ : Hid ((grp (k : Int) (l.take j)).length = k) := by
                  have := grp_len (k : Int) (l.take j) (fun x hx => HFIT.out x (List.mem_of_mem_take hx))
                  show _ = _
                  simpa using this
                have HAT : Hid (∀ W', Since w8.heap.size w8 W' → EdAt W' gl (j * 3) l[j]) := fun W' hs => by
                  have := hat W' hs j hltj
                  rwa [Nat.zero_add] at this
                have hx1 := (HFIT.out _ (List.getElem_mem hltj)).1
                have hx2 := (HFIT.out _ (List.getElem_mem hltj)).2.1
                clear hat
                go_wp2_with fail
                refine (HCPT.out j hltj wr _ HRT.out).mono ?_
                rintro e wk ⟨uk, rfl, hok, hbk⟩
                have HK2 : Hid (Since w8.heap.size w8 wk) := HK.out.step hbk
                obtain ⟨xk, yk, rfl⟩ := hok.shape
                have OK : Hid (Own wk wr.heap.size (.slice xk (grp (k : Int) (l.take j)).length yk) (grp (k : Int) (l.take j))) := hok
                clear hok hbk HK HRT
                obtain ⟨e0, e1, e2⟩ := HAT.out wk HK2.out
                generalize grp (k : Int) (l.take j) = gj at *
                generalize l[j] = x at *
                obtain ⟨xa, xb, xc⟩ := x
                dsimp only at *
                obtain ⟨p, rfl⟩ : ∃ p : Nat, xa = (p : Int) := ⟨xa.toNat, by omega⟩
                obtain ⟨q, rfl⟩ : ∃ q : Nat, xb = (q : Int) := ⟨xb.toNat, by omega⟩
                have hpk : p < k := by omega
                have hqk : q < k := by omega
                have hpk' : (p : Int) < (k : Int) := by omega
                have hqk' : (q : Int) < (k : Int) := by omega
                have hpg : p < gj.length := by rw [HGLJ.out]; exact hpk
                have hqg : q < gj.length := by rw [HGLJ.out]; exact hqk
                obtain ⟨gg, go, rfl, hgp⟩ := own_cells OK.out p hpg
                obtain ⟨gg', go', e5, hgq⟩ := own_cells OK.out q hqg
                simp only [Option.some.injEq, Addr.mk.injEq] at e5
                obtain ⟨rfl, rfl, -⟩ := e5
                have f0 := hgp wk (Since.start _) hpg
                have f1 := hgq wk (Since.start _) hqg
                rw [lab_get gj p hpg, lab_get gj q hqg] at HJN
                have hglj := HGLJ.out
                clear hgp hgq HAT OK HGLJ
                rw [hglj]
                generalize gj[p] = u at *
                generalize gj[q] = v at *
                have HJN1 : Hid (((joinsTo (k : Int) l (j + 1) : Nat) : Int) = (joinsTo (k : Int) l j : Nat) + if u = v then 0 else 1) := HJN.out
                generalize hj1 : ((joinsTo (k : Int) l (j + 1) : Nat) : Int) = j1 at *
                have HJ1 : Hid (((joinsTo (k : Int) l (j + 1) : Nat) : Int) = j1) := hj1
                clear hj1 HJN
                generalize joinsTo (k : Int) l j = jj at *
                have hwj : IntKind.i64.wrap ((jj : Int) + 1) = (jj : Int) + 1 := by have := HL40.out; rw [IntKind.wrap_i64]; omega
                by_cases huv : u = v
                · have d1 : (u == v) = true := beq_iff_eq.2 huv
                  have HJ2 : Hid (j1 = (jj : Int)) := HJN1.out.trans (by rw [if_pos huv]; omega)
                  clear huv HJN1
                  go_wp2
                  go_quiet (fail)
                  go_wp2
                  go_roundw
                  case rel => exact ⟨j + 1, by omega, by go_num, by rw [HJ1.out, HJ2.out], HK2.out.drewN nq⟩
                  case measure => simp [intOf]; omega
                · have d1 : (u == v) = false := beq_eq_false_iff_ne.2 huv
                  have HJ2 : Hid (j1 = (jj : Int) + 1) := HJN1.out.trans (by rw [if_neg huv])
                  clear huv HJN1
                  go_wp2
                  go_quiet (fail)
                  go_wp2
                  go_roundw
                  case rel => exact ⟨j + 1, by omega, by go_num, by rw [HJ1.out, HJ2.out], HK2.out.drewN nq⟩
                  case measure => simp [intOf]; omega
              · have hltj' : ¬ (j : Int) < (l.length : Int) := by omega
                have HJ : Hid ((rn : Int) = (k : Int) - (joinsTo (k : Int) l j : Nat)) := by
                  have h1 := HRJ.out l.length (Nat.le_refl _)
                  rw [List.take_length, ← HGG.out, HRK2.out] at h1
                  have e : j = l.length := by omega
                  show _ = _
                  rw [e]
                  omega
                have hjl := joinsTo_le (k : Int) l j
                have hwj : IntKind.i64.wrap ((k : Int) - (joinsTo (k : Int) l j : Nat)) = (rn : Int) := by have := HJ.out; have := HL40.out; rw [IntKind.wrap_i64]; omega
                have hw2 : IntKind.i64.wrap (2 * (l.length : Int)) = 2 * (l.length : Int) := by have := HL40.out; rw [IntKind.wrap_i64]; omega
                subst hds
                generalize joinsTo (k : Int) l j = jj at *
                have SZ : Hid (Since w.heap.size w wr) := S8.out.tran HK.out
                have LZ : Hid (OwnEd wr w.heap.size (.slice x1 l.length y1) l) := L8.out.below HK.out.1
                have HON2 : Hid (one = decide (rn = 1)) := HONE.out.trans (by rw [HRK2.out])
                clear HK HJ HDSUM HONE
                go_wp2_with fail
                refine (CO.out _ _ LZ.out.reads).mono ?_
                rintro e wy ⟨rfl, hby⟩
                have SY : Hid (Since w.heap.size w wy) := SZ.out.step hby
                clear hby LZ SZ
                by_cases hr1 : rn = 1
                · have d1 : ((rn : Int) == 1) = true := beq_iff_eq.2 (by omega)
                  have ho1 : one = true := HON2.out.trans (decide_eq_true hr1)
                  subst ho1
                  go_wp2_with fail
                  refine (drawIsOne_any w.heap.size w _ a1 len1 cap1 HC1.out hl1 SY.out).mono ?_
                  rintro e wa ⟨m, va, la, rfl, hoa, hla, hma, hsa⟩
                  obtain ⟨xa, ya, rfl⟩ := hoa.shape
                  have SA : Hid (Since w.heap.size w wa) := hsa
                  have LA : Hid (OwnEd wa w.heap.size (.slice xa la.length ya) la) := hoa.mono SY.out.2
                  clear hoa hsa
                  go_wp2_with fail
                  refine (implIsOne_any _ _ (m : Int) la LA.out.reads (Nat.le_trans hla (by decide))).mono ?_
                  rintro e wb ⟨rfl, hbb⟩
                  have SB : Hid (Since w.heap.size w wb) := SA.out.step hbb
                  have LB : Hid (OwnEd wb w.heap.size (.slice xa la.length ya) la) := LA.out.below hbb
                  clear hbb LA
                  go_wp2_with fail
                  refine (specIsOne_any _ _ (m : Int) la LB.out.reads (Nat.le_trans hla (by decide))).mono ?_
                  rintro e wc ⟨rfl, hbc⟩
                  have SC : Hid (Since w.heap.size w wc) := SB.out.step hbc
                  clear hbc LB
                  generalize oneOut (m : Int) la = o9 at *
                  generalize goodEd (m : Int) la = k9 at *
                  go_wp2
                  go_ret
                  exact ⟨by simp, SC.out.1⟩
                · have d1 : ((rn : Int) == 1) = false := beq_eq_false_iff_ne.2 (by omega)
                  have ho1 : one = false := HON2.out.trans (decide_eq_false hr1)
                  subst ho1
                  go_wp2_with fail
                  refine (drawIsOne_any w.heap.size w _ a1 len1 cap1 HC1.out hl1 SY.out).mono ?_
                  rintro e wa ⟨m, va, la, rfl, hoa, hla, hma, hsa⟩
                  obtain ⟨xa, ya, rfl⟩ := hoa.shape
                  have SA : Hid (Since w.heap.size w wa) := hsa
                  have LA : Hid (OwnEd wa w.heap.size (.slice xa la.length ya) la) := hoa.mono SY.out.2
                  clear hoa hsa
                  go_wp2_with fail
                  refine (implIsOne_any _ _ (m : Int) la LA.out.reads (Nat.le_trans hla (by decide))).mono ?_
                  rintro e wb ⟨rfl, hbb⟩
                  have SB : Hid (Since w.heap.size w wb) := SA.out.step hbb
                  have LB : Hid (OwnEd wb w.heap.size (.slice xa la.length ya) la) := LA.out.below hbb
                  clear hbb LA
                  go_wp2_with fail
                  refine (specIsOne_any _ _ (m : Int) la LB.out.reads (Nat.le_trans hla (by decide))).mono ?_
                  rintro e wc ⟨rfl, hbc⟩
                  have SC : Hid (Since w.heap.size w wc) := SB.out.step hbc
                  clear hbc LB
                  generalize oneOut (m : Int) la = o9 at *
                  generalize goodEd (m : Int) la = k9 at *
                  go_wp2
                  go_ret
                  exact ⟨by simp, SC.out.1⟩
end fnGroups
end Go.Proofs.Yteohmclohomblac
