/-
  The walk of the law FnFars.
-/
import Derived.Test.YteohmclohomblacGrFarW
import Derived.Deep.CutRange
import Derived.Deep.Cut
namespace Go.Proofs.Yteohmclohomblac
open Go.RowKit
set_option linter.unusedVariables false

/-- A row that is one's own, by its cells, for good. -/
theorem own_cellsF {W : World} {B : Nat} {a : Option Addr} {n c : Nat} {zs : List Int} (h : Own W B (.slice a n c) zs) : ∀ j, j < zs.length → ∃ g o, a = some ⟨g, o, none⟩ ∧ ∀ W', Since W.heap.size W W' → ∀ hj : j < zs.length, W'.cell? ⟨g, o + j, none⟩ = some (.int .i64 zs[j]) := fun j hj => by
  obtain ⟨a1, c1, hv, hc⟩ := h.reads
  simp only [Value.slice.injEq] at hv
  obtain ⟨rfl, rfl, rfl⟩ := hv
  obtain ⟨g, o, rfl, hg, hcell⟩ := hc.resolve_left (fun e => by rw [e] at hj; exact absurd hj (Nat.not_lt_zero _))
  exact ⟨g, o, rfl, fun W' hs hj => (hs.1.cell (p := ⟨g, o + j, none⟩) hg).trans (hcell j hj)⟩
theorem Code.sinceF {B : Nat} {w0 w : World} {a : Option Addr} {len : Nat} (h : Code B w0 a len) (hs : Since B w0 w) (hB : B ≤ w0.heap.size) : Code w.heap.size w a len := by
  rcases h with h | ⟨b, off, ha, hb, hc⟩
  · exact .inl h
  · exact .inr ⟨b, off, ha, Nat.lt_of_lt_of_le hb hs.2, fun j hj => let ⟨z, z0, z1, hz⟩ := hc j hj; ⟨z, z0, z1, (World.cell?_of_block (a := ⟨b, off + j, none⟩) (hs.1.block b hb)).trans hz⟩⟩

namespace fnFars
set_option maxRecDepth 100000 in
set_option maxHeartbeats 16000000 in
theorem walk (a0 : Option Addr) (len0 cap0 : Nat) (a1 : Option Addr) (len1 cap1 : Nat) (w : World) (hc0 : Code w.heap.size w a0 len0) (hl0 : len0 ≤ 9223372036854775807) (hc1 : Code w.heap.size w a1 len1) (hl1 : len1 ≤ 9223372036854775807) :
    Calls Try.prog 7 #[.slice a0 len0 cap0, .slice a1 len1 cap1] w fun e w' => e = .returned (.bool true) ∧ Below w.heap.size w w' := by
  have HC0 : Hid (Code w.heap.size w a0 len0) := hc0
  have HC1 : Hid (Code w.heap.size w a1 len1) := hc1
  have S0 : Hid (Since w.heap.size w w) := Since.start w
  clear hc0 hc1
  obtain ⟨X, hX⟩ : ∃ X : Int, IntKind.i64.wrap ((len0 : Int) + (len1 : Int)) = X := ⟨_, rfl⟩
  by_cases hbig : 1048576 < X
  · have hbig' : decide ((1048576 : Int) < X) = true := decide_eq_true hbig
    go_enter Try.func7, Try.ntmps7
    go_wp2
    go_ret
    exact ⟨rfl, Below.refl _ _⟩
  have hbig' : decide ((1048576 : Int) < X) = false := decide_eq_false hbig
  go_enter Try.func7, Try.ntmps7
  go_wp2_with fail
  refine (drawFars_any w.heap.size w _ a0 len0 cap0 HC0.out hl0 S0.out).mono ?_
  rintro e w1 ⟨n, v1, l, a, rfl, ho1, hl40, hn13, hs1⟩
  obtain ⟨x1, y1, rfl⟩ := ho1.shape
  have S1 : Hid (Since w.heap.size w w1) := hs1
  have L1 : Hid (OwnEd w1 w.heap.size (.slice x1 l.length y1) l) := ho1
  clear ho1 hs1
  obtain ⟨f, hf⟩ : ∃ f, f = farsOut (n : Int) l a := ⟨_, rfl⟩
  obtain ⟨ok, hok⟩ : ∃ ok, ok = farsOk (n : Int) l a := ⟨_, rfl⟩
  have HFL : Hid (f.length ≤ 4194304) := by show _ ≤ _; rw [hf]; exact farsOut_len _ _ _
  have HF : Hid (ok = true → f = farsOut (n : Int) l a ∧ farsOk (n : Int) l a = true) := fun h => ⟨hf, hok.symm.trans h⟩
  have CW : Hid (∀ (W : World) (v : Value), ReadsEd W v l → Calls Try.prog 51 #[.int .i64 (n : Int), v, .int .i64 a] W (NearPost W f ok)) := fun W v h => by
    rw [hf, hok]; exact implFarsFrom_any W v (n : Int) l a h (Nat.le_trans hl40 (by decide))
  have CWS : Hid (∀ (W : World) (v : Value), ReadsEd W v l → Calls Try.prog 52 #[.int .i64 (n : Int), v, .int .i64 a] W (NearPost W f ok)) := fun W v h => by
    rw [hf, hok]; exact specFarsFrom_any W v (n : Int) l a h (Nat.le_trans hl40 (by decide))
  clear hf hok
  go_wp2_with fail
  refine (CW.out _ _ L1.out.reads).mono ?_
  rintro e w2 ⟨u2, rfl, ho2, hb2⟩
  have S2 : Hid (Since w.heap.size w w2) := S1.out.step hb2
  have L2 : Hid (OwnEd w2 w.heap.size (.slice x1 l.length y1) l) := L1.out.below hb2
  obtain ⟨x2, y2, rfl⟩ := ho2.shape
  have F2 : Hid (Own w2 w.heap.size (.slice x2 f.length y2) f) := ho2.mono S1.out.2
  clear ho2
  clear hb2
  go_wp2_with fail
  refine (CWS.out _ _ L2.out.reads).mono ?_
  rintro e w3 ⟨u3, rfl, ho3, hb3⟩
  have S3 : Hid (Since w.heap.size w w3) := S2.out.step hb3
  have L3 : Hid (OwnEd w3 w.heap.size (.slice x1 l.length y1) l) := L2.out.below hb3
  have F3 : Hid (Own w3 w.heap.size (.slice x2 f.length y2) f) := F2.out.below hb3
  obtain ⟨x3, y3, rfl⟩ := ho3.shape
  have V3 : Hid (Own w3 w.heap.size (.slice x3 f.length y3) f) := ho3.mono S2.out.2
  clear ho3
  clear hb3
  go_wp2_with fail
  refine (sameInts_same _ _ _ f F3.out.reads V3.out.reads HFL.out).mono ?_
  rintro e w4 ⟨rfl, hb4⟩
  have S4 : Hid (Since w.heap.size w w4) := S3.out.step hb4
  have L4 : Hid (OwnEd w4 w.heap.size (.slice x1 l.length y1) l) := L3.out.below hb4
  have F4 : Hid (Own w4 w.heap.size (.slice x2 f.length y2) f) := F3.out.below hb4
  clear hb4
  clear CW CWS
  cases ok with
  | false =>
    clear HF
    go_wp2_with fail
    refine (drawRelax_any w.heap.size w _ a1 len1 cap1 HC1.out hl1 S4.out).mono ?_
    rintro e w20 ⟨m, v20, le, u20, fr, rfl, ho20, hl20, hm13, hu20, hz20, hs20⟩
    obtain ⟨x20, y20, rfl⟩ := ho20.shape
    obtain ⟨xf, yf, rfl⟩ := hu20.shape
    have S20 : Hid (Since w.heap.size w w20) := hs20
    have M20 : Hid (OwnEd w20 w.heap.size (.slice x20 le.length y20) le) := ho20.mono S4.out.2
    have P20 : Hid (Own w20 w.heap.size (.slice xf fr.length yf) fr) := hu20.mono S4.out.2
    clear ho20 hu20 hs20
    obtain ⟨rx, hrx⟩ : ∃ rx, rx = relOut (m : Int) le fr := ⟨_, rfl⟩
    obtain ⟨one, hone⟩ : ∃ one, one = relOk (m : Int) le fr := ⟨_, rfl⟩
    have HRL : Hid (rx.length ≤ 4194304) := by show _ ≤ _; rw [hrx]; exact relOut_len _ _ _
    have HLE : Hid (∀ k : Nat, k < rx.length → k < fr.length ∧ lab rx k ≤ lab fr k) := by show ∀ k : Nat, _; rw [hrx]; exact relOut_le
    have CR : Hid (∀ (W : World) (B : Nat) (v u : Value), ReadsEd W v le → Own W B u fr → Calls Try.prog 53 #[.int .i64 (m : Int), v, u] W (NearPost W rx one)) := fun W B v u h ho => by
      rw [hrx, hone]; exact implRelaxAll_any W B v u (m : Int) le fr h ho (Nat.le_trans hl20 (by decide)) (Nat.le_trans hz20 (by decide))
    have CRS : Hid (∀ (W : World) (B : Nat) (v u : Value), ReadsEd W v le → Own W B u fr → Calls Try.prog 55 #[.int .i64 (m : Int), v, u] W (NearPost W rx one)) := fun W B v u h ho => by
      rw [hrx, hone]; exact specRelaxAll_any W B v u (m : Int) le fr h ho (Nat.le_trans hl20 (by decide)) (Nat.le_trans hz20 (by decide))
    clear hrx hone
    go_wp2_with fail
    refine (CR.out _ _ _ _ M20.out.reads P20.out).mono ?_
    rintro e w21 ⟨u21, rfl, ho21, hb21⟩
    have S21 : Hid (Since w.heap.size w w21) := S20.out.step hb21
    have M21 : Hid (OwnEd w21 w.heap.size (.slice x20 le.length y20) le) := M20.out.below hb21
    have P21 : Hid (Own w21 w.heap.size (.slice xf fr.length yf) fr) := P20.out.below hb21
    obtain ⟨x21, y21, rfl⟩ := ho21.shape
    have Q21 : Hid (Own w21 w.heap.size (.slice x21 rx.length y21) rx) := ho21.mono S20.out.2
    clear ho21
    clear hb21
    go_wp2_with fail
    refine (CRS.out _ _ _ _ M21.out.reads P21.out).mono ?_
    rintro e w22 ⟨u22, rfl, ho22, hb22⟩
    have S22 : Hid (Since w.heap.size w w22) := S21.out.step hb22
    have P22 : Hid (Own w22 w.heap.size (.slice xf fr.length yf) fr) := P21.out.below hb22
    have Q22 : Hid (Own w22 w.heap.size (.slice x21 rx.length y21) rx) := Q21.out.below hb22
    obtain ⟨x22, y22, rfl⟩ := ho22.shape
    have Z22 : Hid (Own w22 w.heap.size (.slice x22 rx.length y22) rx) := ho22.mono S21.out.2
    clear ho22
    clear hb22
    clear CR CRS M20 M21 P20 P21
    go_wp2_with fail
    refine (drawCen_any w22.heap.size w22 _ a1 len1 cap1 (HC1.out.sinceF S22.out (Nat.le_refl _)) hl1 (Since.start w22)).mono ?_
    rintro e w23 ⟨o, v23, lo, rfl, ho23, hl23, ho13, hs23⟩
    obtain ⟨x23, y23, rfl⟩ := ho23.shape
    have S23 : Hid (Since w.heap.size w w23) := S22.out.step hs23.1
    have P23 : Hid (Own w23 w.heap.size (.slice xf fr.length yf) fr) := P22.out.below hs23.1
    have Q23 : Hid (Own w23 w.heap.size (.slice x21 rx.length y21) rx) := Q22.out.below hs23.1
    have Z23 : Hid (Own w23 w.heap.size (.slice x22 rx.length y22) rx) := Z22.out.below hs23.1
    have N23 : Hid (OwnEd w23 w22.heap.size (.slice x23 lo.length y23) lo) := ho23
    clear ho23 hs23 P22 Q22 Z22
    go_wp2_with fail
    refine (implCentreOf_any _ _ (o : Int) lo N23.out.reads (Nat.le_trans hl23 (by decide))).mono ?_
    rintro e w24 ⟨rfl, hb24⟩
    have S24 : Hid (Since w.heap.size w w24) := S23.out.step hb24
    have P24 : Hid (Own w24 w.heap.size (.slice xf fr.length yf) fr) := P23.out.below hb24
    have Q24 : Hid (Own w24 w.heap.size (.slice x21 rx.length y21) rx) := Q23.out.below hb24
    have Z24 : Hid (Own w24 w.heap.size (.slice x22 rx.length y22) rx) := Z23.out.below hb24
    have N24 : Hid (OwnEd w24 w22.heap.size (.slice x23 lo.length y23) lo) := N23.out.below hb24
    clear hb24
    go_wp2_with fail
    refine (specCentreOf_any _ _ (o : Int) lo N24.out.reads (Nat.le_trans hl23 (by decide))).mono ?_
    rintro e w25 ⟨rfl, hb25⟩
    have S25 : Hid (Since w.heap.size w w25) := S24.out.step hb25
    have P25 : Hid (Own w25 w.heap.size (.slice xf fr.length yf) fr) := P24.out.below hb25
    have Q25 : Hid (Own w25 w.heap.size (.slice x21 rx.length y21) rx) := Q24.out.below hb25
    have Z25 : Hid (Own w25 w.heap.size (.slice x22 rx.length y22) rx) := Z24.out.below hb25
    clear hb25
    generalize cenI (o : Int) lo = ci at *
    generalize cenM (o : Int) lo = cm at *
    generalize goodEd (o : Int) lo = ck at *
    clear N23 N24 P23 P24 Q23 Q24 Z23 Z24
    have hone2 : (one != one) = false := by simp
    have hck : (ck != ck) = false := by simp
    have hci : (ci != ci) = false := by simp
    have hcm : (cm != cm) = false := by simp
    go_wp2_with fail
    refine (sameInts_same _ _ _ rx Q25.out.reads Z25.out.reads HRL.out).mono ?_
    rintro e w26 ⟨rfl, hb26⟩
    have S26 : Hid (Since w.heap.size w w26) := S25.out.step hb26
    have P26 : Hid (Own w26 w.heap.size (.slice xf fr.length yf) fr) := P25.out.below hb26
    have Q26 : Hid (Own w26 w.heap.size (.slice x21 rx.length y21) rx) := Q25.out.below hb26
    clear hb26
    have HQC : Hid (∀ j, j < rx.length → ∃ gg go, x21 = some ⟨gg, go, none⟩ ∧ ∀ W', Since w26.heap.size w26 W' → ∀ hj : j < rx.length, W'.cell? ⟨gg, go + j, none⟩ = some (.int .i64 rx[j])) := fun j hj => own_cellsF Q26.out j hj
    have HPC : Hid (∀ j, j < fr.length → ∃ gg go, xf = some ⟨gg, go, none⟩ ∧ ∀ W', Since w26.heap.size w26 W' → ∀ hj : j < fr.length, W'.cell? ⟨gg, go + j, none⟩ = some (.int .i64 fr[j])) := fun j hj => own_cellsF P26.out j hj
    have HS26 : Hid (Since w26.heap.size w26 w26) := Since.start w26
    clear P25 Q25 Z25
    go_wp2
    go_loopw [232] (fun i wr => ∃ j : Nat, j ≤ rx.length ∧ i = .int .i64 (j : Int) ∧ Hid (Since w26.heap.size w26 wr)) (fun i _ => rx.length - (intOf i).toNat)
    case atStart => exact ⟨0, Nat.zero_le _, rfl, HS26.out⟩
    case round =>
      clear HS26
      obtain ⟨j, hj, rfl, HK⟩ := hrel
      by_cases hlt : j < rx.length
      · have hlt' : (j : Int) < (rx.length : Int) := by omega
        have hrl := HRL.out
        obtain ⟨hjf, hle⟩ := HLE.out j hlt
        have hjf' : (j : Int) < (fr.length : Int) := by omega
        obtain ⟨gq, oq, rfl, hq⟩ := HQC.out j hlt
        obtain ⟨gp, op, rfl, hp⟩ := HPC.out j hjf
        rw [lab_get rx j hlt, lab_get fr j hjf] at hle
        have HX : Hid (∀ w', Since wr.heap.size wr w' → w'.cell? ⟨gq, oq + j, none⟩ = some (.int .i64 rx[j]) ∧ w'.cell? ⟨gp, op + j, none⟩ = some (.int .i64 fr[j])) := fun w' hs => ⟨hq w' (HK.out.tran hs) hlt, hp w' (HK.out.tran hs) hjf⟩
        clear hq hp
        generalize rx[j] = rj at *
        generalize fr[j] = fj at *
        have hgt : ¬ fj < rj := by omega
        clear hle
        go_wp2
        have SA0 := Since.start wr
        refine wp_region_held_drew (S := (fun w' => w'.cell? ⟨gq, oq + j, none⟩ = some (.int .i64 rj) ∧ w'.cell? ⟨gp, op + j, none⟩ = some (.int .i64 fj))) (by kernel_rfl) ?_ (fun hHeld => ?_)
        · exact HX.out _ SA0.drew
        refine handRead 0 (some 235) (.slice (some ⟨gq, oq, none⟩) rx.length y21) rfl rfl (by kernel_rfl) (by kernel_rfl) (by kernel_rfl) (fun _ _ _ h => h) (by kernel_rfl) (by assumption) ?_ ?_
        · intro w hSw
          (try dsimp only at hSw)
          go_simp
        simp only [Act.put, List.setIfInBounds_toArray, List.set_cons_zero, List.set_cons_succ]
        refine handRead 1 (some 236) (.int .i64 (j : Int)) rfl rfl (by kernel_rfl) (by kernel_rfl) (by kernel_rfl) (fun _ _ _ h => h) (by kernel_rfl) (by assumption) ?_ ?_
        · intro w hSw
          (try dsimp only at hSw)
          go_simp
        simp only [Act.put, List.setIfInBounds_toArray, List.set_cons_zero, List.set_cons_succ]
        refine handRead 2 (some 237) (.pointer (some ⟨gq, oq + j, none⟩)) rfl rfl (by kernel_rfl) (by kernel_rfl) (by kernel_rfl) (fun _ _ _ h => h) (by kernel_rfl) (by assumption) ?_ ?_
        · intro w hSw
          (try dsimp only at hSw)
          go_simp
        simp only [Act.put, List.setIfInBounds_toArray, List.set_cons_zero, List.set_cons_succ]
        refine handRead 3 (some 238) (.int .i64 rj) rfl rfl (by kernel_rfl) (by kernel_rfl) (by kernel_rfl) (fun _ _ _ h => h) (by kernel_rfl) (by assumption) ?_ ?_
        · intro w hSw
          (try dsimp only at hSw)
          go_simp
        simp only [Act.put, List.setIfInBounds_toArray, List.set_cons_zero, List.set_cons_succ]
        refine handRead 4 (some 239) (.slice (some ⟨gp, op, none⟩) fr.length yf) rfl rfl (by kernel_rfl) (by kernel_rfl) (by kernel_rfl) (fun _ _ _ h => h) (by kernel_rfl) (by assumption) ?_ ?_
        · intro w hSw
          (try dsimp only at hSw)
          go_simp
        simp only [Act.put, List.setIfInBounds_toArray, List.set_cons_zero, List.set_cons_succ]
        refine handRead 5 (some 240) (.int .i64 (j : Int)) rfl rfl (by kernel_rfl) (by kernel_rfl) (by kernel_rfl) (fun _ _ _ h => h) (by kernel_rfl) (by assumption) ?_ ?_
        · intro w hSw
          (try dsimp only at hSw)
          go_simp
        simp only [Act.put, List.setIfInBounds_toArray, List.set_cons_zero, List.set_cons_succ]
        refine handRead 6 (some 241) (.pointer (some ⟨gp, op + j, none⟩)) rfl rfl (by kernel_rfl) (by kernel_rfl) (by kernel_rfl) (fun _ _ _ h => h) (by kernel_rfl) (by assumption) ?_ ?_
        · intro w hSw
          (try dsimp only at hSw)
          go_simp
        simp only [Act.put, List.setIfInBounds_toArray, List.set_cons_zero, List.set_cons_succ]
        refine handRead 7 (some 242) (.int .i64 fj) rfl rfl (by kernel_rfl) (by kernel_rfl) (by kernel_rfl) (fun _ _ _ h => h) (by kernel_rfl) (by assumption) ?_ ?_
        · intro w hSw
          (try dsimp only at hSw)
          go_simp
        simp only [Act.put, List.setIfInBounds_toArray, List.set_cons_zero, List.set_cons_succ]
        refine handRead 8 (some 243) (.bool false) rfl rfl (by kernel_rfl) (by kernel_rfl) (by kernel_rfl) (fun _ _ _ h => h) (by kernel_rfl) (by assumption) ?_ ?_
        · intro w hSw
          (try dsimp only at hSw)
          go_simp
        simp only [Act.put, List.setIfInBounds_toArray, List.set_cons_zero, List.set_cons_succ]
        refine wpAnyH_done (by kernel_rfl) ?_ _
        clear SA0 HX
        have HSD : Hid (Since w26.heap.size w26 wr.drew) := HK.out.drew
        go_wp2
        go_roundw
        case rel => exact ⟨j + 1, by omega, by go_num, HSD.out⟩
        case measure => simp [intOf]; omega
      · have hlt' : ¬ (j : Int) < (rx.length : Int) := by omega
        have SZ : Hid (Since w.heap.size w wr) := S26.out.tran HK.out
        clear HK HQC HPC
        go_wp2
        go_ret
        exact ⟨by simp, SZ.out.1⟩
  | true =>
    obtain ⟨hfe, hfo⟩ := HF.out rfl
    obtain ⟨hA, h1, ⟨h2, h3⟩, ⟨h4, h5⟩, h6, h7, h8⟩ := fars_law hfo
    obtain ⟨g, hg⟩ : ∃ g, g = grpOut (n : Int) l := ⟨_, rfl⟩
    rw [← hfe] at h1 h2 h3 h6 h7 h8
    rw [← hg] at h5 h8
    have CR : Hid (∀ (W : World) (B : Nat) (v u : Value), ReadsEd W v l → Own W B u f → Calls Try.prog 53 #[.int .i64 (n : Int), v, u] W (NearPost W f true)) := fun W B v u h ho => by
      have := implRelaxAll_any W B v u (n : Int) l f h ho (Nat.le_trans hl40 (by decide)) (by omega)
      rwa [h2, h3] at this
    have CG : Hid (∀ (W : World) (v : Value), ReadsEd W v l → Calls Try.prog 32 #[.int .i64 (n : Int), v] W (NearPost W g true)) := fun W v h => by
      have := implGroupsOf_any W v (n : Int) l h (Nat.le_trans hl40 (by decide))
      rwa [h4, ← hg] at this
    have CK : Hid (∀ k : Int, 0 ≤ k → k < (n : Int) → ∃ b : List Int, b.length = n ∧ lab b a = lab f k ∧ (∀ j, 0 ≤ j → j < (n : Int) → 0 ≤ lab b j ∧ lab b j ≤ 100000) ∧ (∀ j, 0 ≤ j → j < (n : Int) → lab f j ≤ lab f k + lab b j) ∧ ∀ (W : World) (v : Value), ReadsEd W v l → Calls Try.prog 51 #[.int .i64 (n : Int), v, .int .i64 k] W (NearPost W b true)) := fun k h0 hk => by
      obtain ⟨q1, q2, q3, q4, q5, q6⟩ := h8 k h0 hk
      refine ⟨farsOut (n : Int) l k, by omega, q3, q5, q6, fun W v h => ?_⟩
      have := implFarsFrom_any W v (n : Int) l k h (Nat.le_trans hl40 (by decide))
      rwa [q1] at this
    have HGP : Hid (∀ k : Int, 0 ≤ k → k < (n : Int) → (lab f k = 100000 ↔ lab g k ≠ lab g a)) := fun k h0 hk => (h8 k h0 hk).2.2.2.1
    have HRG : Hid (∀ k : Int, 0 ≤ k → k < (n : Int) → 0 ≤ lab f k ∧ lab f k ≤ 100000) := h7
    have H0 : Hid (lab f a = 0) := h6
    have HL : Hid (f.length = n ∧ g.length = n) := ⟨by omega, by omega⟩
    clear HF hfe hfo h1 h2 h3 h4 h5 h6 h7 h8 hg
    obtain ⟨p, rfl⟩ : ∃ p : Nat, a = (p : Int) := ⟨a.toNat, by omega⟩
    have hpn : p < n := by omega
    have hpn' : (p : Int) < (n : Int) := by omega
    go_wp2_with fail
    refine (CR.out _ _ _ _ L4.out.reads F4.out).mono ?_
    rintro e w5 ⟨u5, rfl, ho5, hb5⟩
    have S5 : Hid (Since w.heap.size w w5) := S4.out.step hb5
    have L5 : Hid (OwnEd w5 w.heap.size (.slice x1 l.length y1) l) := L4.out.below hb5
    have F5 : Hid (Own w5 w.heap.size (.slice x2 f.length y2) f) := F4.out.below hb5
    obtain ⟨x5, y5, rfl⟩ := ho5.shape
    have T5 : Hid (Own w5 w.heap.size (.slice x5 f.length y5) f) := ho5.mono S4.out.2
    clear ho5
    clear hb5
    go_wp2_with fail
    refine (CG.out _ _ L5.out.reads).mono ?_
    rintro e w6 ⟨u6, rfl, ho6, hb6⟩
    have S6 : Hid (Since w.heap.size w w6) := S5.out.step hb6
    have L6 : Hid (OwnEd w6 w.heap.size (.slice x1 l.length y1) l) := L5.out.below hb6
    have F6 : Hid (Own w6 w.heap.size (.slice x2 f.length y2) f) := F5.out.below hb6
    have T6 : Hid (Own w6 w.heap.size (.slice x5 f.length y5) f) := T5.out.below hb6
    obtain ⟨x6, y6, rfl⟩ := ho6.shape
    have G6 : Hid (Own w6 w.heap.size (.slice x6 g.length y6) g) := ho6.mono S5.out.2
    clear ho6
    clear hb6
    clear CR CG
    go_wp2_with fail
    refine (sameInts_same _ _ _ f T6.out.reads F6.out.reads HFL.out).mono ?_
    rintro e w7 ⟨rfl, hb7⟩
    have S7 : Hid (Since w.heap.size w w7) := S6.out.step hb7
    have L7 : Hid (OwnEd w7 w.heap.size (.slice x1 l.length y1) l) := L6.out.below hb7
    have F7 : Hid (Own w7 w.heap.size (.slice x2 f.length y2) f) := F6.out.below hb7
    have G7 : Hid (Own w7 w.heap.size (.slice x6 g.length y6) g) := G6.out.below hb7
    clear hb7
    obtain ⟨hfl, hgl⟩ := HL.out
    have HFC : Hid (∀ j, j < n → ∃ gg go, x2 = some ⟨gg, go, none⟩ ∧ ∀ W', Since w7.heap.size w7 W' → ∀ hj : j < f.length, W'.cell? ⟨gg, go + j, none⟩ = some (.int .i64 f[j])) := fun j hj => own_cellsF F7.out j (by omega)
    have HGC : Hid (∀ j, j < n → ∃ gg go, x6 = some ⟨gg, go, none⟩ ∧ ∀ W', Since w7.heap.size w7 W' → ∀ hj : j < g.length, W'.cell? ⟨gg, go + j, none⟩ = some (.int .i64 g[j])) := fun j hj => own_cellsF G7.out j (by omega)
    obtain ⟨gf, of, rfl, hfp⟩ := HFC.out p hpn
    have c0 := hfp w7 (Since.start _) (by omega)
    rw [← lab_get f p (by omega), H0.out] at c0
    have HFp : Hid (∀ j, j < n → ∀ W', Since w7.heap.size w7 W' → W'.cell? ⟨gf, of + j, none⟩ = some (.int .i64 (lab f (j : Int)))) := fun j hj W' hs => by
      obtain ⟨gg, go, e2, hq⟩ := HFC.out j hj
      simp only [Option.some.injEq, Addr.mk.injEq] at e2
      obtain ⟨rfl, rfl, -⟩ := e2
      have := hq W' hs (by omega)
      rwa [← lab_get f j (by omega)] at this
    obtain ⟨gx, ox, rfl, -⟩ := HGC.out p hpn
    have HGx : Hid (∀ j, j < n → ∀ W', Since w7.heap.size w7 W' → W'.cell? ⟨gx, ox + j, none⟩ = some (.int .i64 (lab g (j : Int)))) := fun j hj W' hs => by
      obtain ⟨gg, go, e2, hq⟩ := HGC.out j hj
      simp only [Option.some.injEq, Addr.mk.injEq] at e2
      obtain ⟨rfl, rfl, -⟩ := e2
      have := hq W' hs (by omega)
      rwa [← lab_get g j (by omega)] at this
    have HS7 : Hid (Since w7.heap.size w7 w7) := Since.start w7
    clear hfp HFC HGC F4 F5 F6 T5 T6 G6 L4 L5 L6 H0
    rw [hfl, hgl]
    go_wp2
    go_loopw [106] (fun i wr => ∃ k : Nat, k ≤ n ∧ i = .int .i64 (k : Int) ∧ Hid (Since w7.heap.size w7 wr)) (fun i _ => n - (intOf i).toNat)
    case atStart => exact ⟨0, Nat.zero_le _, rfl, HS7.out⟩
    case round =>
      clear HS7 c0
      obtain ⟨k, hk, rfl, HK⟩ := hrel
      by_cases hlt : k < n
      · have hlt' : (k : Int) < (n : Int) := by omega
        obtain ⟨b, hbl, hba, hbr, hbt, hbc⟩ := CK.out (k : Int) (by omega) hlt'
        have CB : Hid (∀ (W : World) (v : Value), ReadsEd W v l → Calls Try.prog 51 #[.int .i64 (n : Int), v, .int .i64 (k : Int)] W (NearPost W b true)) := hbc
        have HBT : Hid (∀ j : Nat, j < n → (0 ≤ lab b (j : Int) ∧ lab b (j : Int) ≤ 100000) ∧ lab f (j : Int) ≤ lab f (k : Int) + lab b (j : Int)) := fun j hj => ⟨hbr (j : Int) (by omega) (by omega), hbt (j : Int) (by omega) (by omega)⟩
        have HBA : Hid (lab b (p : Int) = lab f (k : Int)) := hba
        have hgp := HGP.out (k : Int) (by omega) hlt'
        have hrg := HRG.out (k : Int) (by omega) hlt'
        clear hbc hbr hbt hba
        go_wp2_with fail
        refine (CB.out _ _ (L7.out.below HK.out.1).reads).mono ?_
        rintro e wb ⟨ub, rfl, hob, hbb⟩
        obtain ⟨xb, yb, rfl⟩ := hob.shape
        have HKB : Hid (Since w7.heap.size w7 wb) := HK.out.step hbb
        have OB : Hid (Own wb wr.heap.size (.slice xb b.length yb) b) := hob
        clear hob hbb CB HK
        obtain ⟨gb, ob, rfl, -⟩ := own_cellsF OB.out p (by omega)
        have HBx : Hid (∀ j, j < n → ∀ W', Since wb.heap.size wb W' → W'.cell? ⟨gb, ob + j, none⟩ = some (.int .i64 (lab b (j : Int)))) := fun j hj W' hs => by
          obtain ⟨gg, go, e2, hq⟩ := own_cellsF OB.out j (by omega)
          simp only [Option.some.injEq, Addr.mk.injEq] at e2
          obtain ⟨rfl, rfl, -⟩ := e2
          have := hq W' hs (by omega)
          rwa [← lab_get b j (by omega)] at this
        rw [hbl]
        have HX : Hid (∀ w', Since wb.heap.size wb w' → w'.cell? ⟨gb, ob + p, none⟩ = some (.int .i64 (lab f (k : Int))) ∧ w'.cell? ⟨gf, of + k, none⟩ = some (.int .i64 (lab f (k : Int))) ∧ w'.cell? ⟨gx, ox + k, none⟩ = some (.int .i64 (lab g (k : Int))) ∧ w'.cell? ⟨gx, ox + p, none⟩ = some (.int .i64 (lab g (p : Int)))) := fun w' hs =>
          ⟨by rw [← HBA.out]; exact HBx.out p hpn w' hs, HFp.out k hlt w' (HKB.out.tran hs), HGx.out k hlt w' (HKB.out.tran hs), HGx.out p hpn w' (HKB.out.tran hs)⟩
        obtain ⟨fk, hfk⟩ : ∃ fk, fk = lab f (k : Int) := ⟨_, rfl⟩
        have HFK : Hid (lab f (k : Int) = fk) := hfk.symm
        rw [← hfk] at HX hgp hrg HBT
        generalize lab g (k : Int) = gk at *
        generalize lab g (p : Int) = gp at *
        obtain ⟨eb, heb⟩ : ∃ eb, eb = (fk == 100000) := ⟨_, rfl⟩
        have t1 : (fk == 100000) = eb := heb.symm
        have t2 : (gk == gp) = !eb := by
          rw [heb]
          by_cases e : gk = gp
          · have : ¬ fk = 100000 := fun q => hgp.1 q e
            rw [beq_iff_eq.2 e, beq_eq_false_iff_ne.2 this]; rfl
          · have : fk = 100000 := hgp.2 e
            rw [beq_eq_false_iff_ne.2 e, beq_iff_eq.2 this]; rfl
        have HT3 : Hid ((gk != gp) = eb) := by
          show _ = _
          rw [bne, t2]
          cases eb <;> rfl
        clear heb hgp hfk OB HBA
        go_wp2
        have SA0 := Since.start wb
        refine wp_region_held_drew (S := (fun w' => w'.cell? ⟨gb, ob + p, none⟩ = some (.int .i64 fk) ∧ w'.cell? ⟨gf, of + k, none⟩ = some (.int .i64 fk) ∧ w'.cell? ⟨gx, ox + k, none⟩ = some (.int .i64 gk) ∧ w'.cell? ⟨gx, ox + p, none⟩ = some (.int .i64 gp))) (by kernel_rfl) ?_ (fun hHeld => ?_)
        · exact HX.out _ SA0.drew
        refine handRead 0 (some 116) (.bool true) rfl rfl (by kernel_rfl) (by kernel_rfl) (by kernel_rfl) (fun _ _ _ h => h) (by kernel_rfl) (by assumption) ?_ ?_
        · intro w hSw
          (try dsimp only at hSw)
          go_simp
        simp only [Act.put, List.setIfInBounds_toArray, List.set_cons_zero, List.set_cons_succ]
        refine handRead 1 (some 117) (.bool false) rfl rfl (by kernel_rfl) (by kernel_rfl) (by kernel_rfl) (fun _ _ _ h => h) (by kernel_rfl) (by assumption) ?_ ?_
        · intro w hSw
          (try dsimp only at hSw)
          go_simp
        simp only [Act.put, List.setIfInBounds_toArray, List.set_cons_zero, List.set_cons_succ]
        refine handRead 2 (some 118) (.bool false) rfl rfl (by kernel_rfl) (by kernel_rfl) (by kernel_rfl) (fun _ _ _ h => h) (by kernel_rfl) (by assumption) ?_ ?_
        · intro w hSw
          (try dsimp only at hSw)
          go_simp
        simp only [Act.put, List.setIfInBounds_toArray, List.set_cons_zero, List.set_cons_succ]
        refine handRead 3 (some 119) (.slice (some ⟨gb, ob, none⟩) n yb) rfl rfl (by kernel_rfl) (by kernel_rfl) (by kernel_rfl) (fun _ _ _ h => h) (by kernel_rfl) (by assumption) ?_ ?_
        · intro w hSw
          (try dsimp only at hSw)
          go_simp
        simp only [Act.put, List.setIfInBounds_toArray, List.set_cons_zero, List.set_cons_succ]
        refine handRead 4 (some 120) (.int .i64 (p : Int)) rfl rfl (by kernel_rfl) (by kernel_rfl) (by kernel_rfl) (fun _ _ _ h => h) (by kernel_rfl) (by assumption) ?_ ?_
        · intro w hSw
          (try dsimp only at hSw)
          go_simp
        simp only [Act.put, List.setIfInBounds_toArray, List.set_cons_zero, List.set_cons_succ]
        refine handRead 5 (some 121) (.pointer (some ⟨gb, ob + p, none⟩)) rfl rfl (by kernel_rfl) (by kernel_rfl) (by kernel_rfl) (fun _ _ _ h => h) (by kernel_rfl) (by assumption) ?_ ?_
        · intro w hSw
          (try dsimp only at hSw)
          go_simp
        simp only [Act.put, List.setIfInBounds_toArray, List.set_cons_zero, List.set_cons_succ]
        refine handRead 6 (some 122) (.int .i64 fk) rfl rfl (by kernel_rfl) (by kernel_rfl) (by kernel_rfl) (fun _ _ _ h => h) (by kernel_rfl) (by assumption) ?_ ?_
        · intro w hSw
          (try dsimp only at hSw)
          go_simp
        simp only [Act.put, List.setIfInBounds_toArray, List.set_cons_zero, List.set_cons_succ]
        refine handRead 7 (some 123) (.slice (some ⟨gf, of, none⟩) n y2) rfl rfl (by kernel_rfl) (by kernel_rfl) (by kernel_rfl) (fun _ _ _ h => h) (by kernel_rfl) (by assumption) ?_ ?_
        · intro w hSw
          (try dsimp only at hSw)
          go_simp
        simp only [Act.put, List.setIfInBounds_toArray, List.set_cons_zero, List.set_cons_succ]
        refine handRead 8 (some 124) (.int .i64 (k : Int)) rfl rfl (by kernel_rfl) (by kernel_rfl) (by kernel_rfl) (fun _ _ _ h => h) (by kernel_rfl) (by assumption) ?_ ?_
        · intro w hSw
          (try dsimp only at hSw)
          go_simp
        simp only [Act.put, List.setIfInBounds_toArray, List.set_cons_zero, List.set_cons_succ]
        refine handRead 9 (some 125) (.pointer (some ⟨gf, of + k, none⟩)) rfl rfl (by kernel_rfl) (by kernel_rfl) (by kernel_rfl) (fun _ _ _ h => h) (by kernel_rfl) (by assumption) ?_ ?_
        · intro w hSw
          (try dsimp only at hSw)
          go_simp
        simp only [Act.put, List.setIfInBounds_toArray, List.set_cons_zero, List.set_cons_succ]
        refine handRead 10 (some 126) (.int .i64 fk) rfl rfl (by kernel_rfl) (by kernel_rfl) (by kernel_rfl) (fun _ _ _ h => h) (by kernel_rfl) (by assumption) ?_ ?_
        · intro w hSw
          (try dsimp only at hSw)
          go_simp
        simp only [Act.put, List.setIfInBounds_toArray, List.set_cons_zero, List.set_cons_succ]
        refine handRead 11 (some 127) (.bool false) rfl rfl (by kernel_rfl) (by kernel_rfl) (by kernel_rfl) (fun _ _ _ h => h) (by kernel_rfl) (by assumption) ?_ ?_
        · intro w hSw
          (try dsimp only at hSw)
          go_simp
        simp only [Act.put, List.setIfInBounds_toArray, List.set_cons_zero, List.set_cons_succ]
        refine handRead 12 (some 128) (.bool false) rfl rfl (by kernel_rfl) (by kernel_rfl) (by kernel_rfl) (fun _ _ _ h => h) (by kernel_rfl) (by assumption) ?_ ?_
        · intro w hSw
          (try dsimp only at hSw)
          go_simp
        simp only [Act.put, List.setIfInBounds_toArray, List.set_cons_zero, List.set_cons_succ]
        refine handRead 13 (some 129) (.bool false) rfl rfl (by kernel_rfl) (by kernel_rfl) (by kernel_rfl) (fun _ _ _ h => h) (by kernel_rfl) (by assumption) ?_ ?_
        · intro w hSw
          (try dsimp only at hSw)
          go_simp
        simp only [Act.put, List.setIfInBounds_toArray, List.set_cons_zero, List.set_cons_succ]
        refine handRead 14 (some 130) (.slice (some ⟨gf, of, none⟩) n y2) rfl rfl (by kernel_rfl) (by kernel_rfl) (by kernel_rfl) (fun _ _ _ h => h) (by kernel_rfl) (by assumption) ?_ ?_
        · intro w hSw
          (try dsimp only at hSw)
          go_simp
        simp only [Act.put, List.setIfInBounds_toArray, List.set_cons_zero, List.set_cons_succ]
        refine handRead 15 (some 131) (.int .i64 (k : Int)) rfl rfl (by kernel_rfl) (by kernel_rfl) (by kernel_rfl) (fun _ _ _ h => h) (by kernel_rfl) (by assumption) ?_ ?_
        · intro w hSw
          (try dsimp only at hSw)
          go_simp
        simp only [Act.put, List.setIfInBounds_toArray, List.set_cons_zero, List.set_cons_succ]
        refine handRead 16 (some 132) (.pointer (some ⟨gf, of + k, none⟩)) rfl rfl (by kernel_rfl) (by kernel_rfl) (by kernel_rfl) (fun _ _ _ h => h) (by kernel_rfl) (by assumption) ?_ ?_
        · intro w hSw
          (try dsimp only at hSw)
          go_simp
        simp only [Act.put, List.setIfInBounds_toArray, List.set_cons_zero, List.set_cons_succ]
        refine handRead 17 (some 133) (.int .i64 fk) rfl rfl (by kernel_rfl) (by kernel_rfl) (by kernel_rfl) (fun _ _ _ h => h) (by kernel_rfl) (by assumption) ?_ ?_
        · intro w hSw
          (try dsimp only at hSw)
          go_simp
        simp only [Act.put, List.setIfInBounds_toArray, List.set_cons_zero, List.set_cons_succ]
        refine handRead 18 (some 134) (.bool eb) rfl rfl (by kernel_rfl) (by kernel_rfl) (by kernel_rfl) (fun _ _ _ h => h) (by kernel_rfl) (by assumption) ?_ ?_
        · intro w hSw
          (try dsimp only at hSw)
          go_simp
        simp only [Act.put, List.setIfInBounds_toArray, List.set_cons_zero, List.set_cons_succ]
        refine handRead 19 (some 135) (.slice (some ⟨gx, ox, none⟩) n y6) rfl rfl (by kernel_rfl) (by kernel_rfl) (by kernel_rfl) (fun _ _ _ h => h) (by kernel_rfl) (by assumption) ?_ ?_
        · intro w hSw
          (try dsimp only at hSw)
          go_simp
        simp only [Act.put, List.setIfInBounds_toArray, List.set_cons_zero, List.set_cons_succ]
        refine handRead 20 (some 136) (.int .i64 (k : Int)) rfl rfl (by kernel_rfl) (by kernel_rfl) (by kernel_rfl) (fun _ _ _ h => h) (by kernel_rfl) (by assumption) ?_ ?_
        · intro w hSw
          (try dsimp only at hSw)
          go_simp
        simp only [Act.put, List.setIfInBounds_toArray, List.set_cons_zero, List.set_cons_succ]
        refine handRead 21 (some 137) (.pointer (some ⟨gx, ox + k, none⟩)) rfl rfl (by kernel_rfl) (by kernel_rfl) (by kernel_rfl) (fun _ _ _ h => h) (by kernel_rfl) (by assumption) ?_ ?_
        · intro w hSw
          (try dsimp only at hSw)
          go_simp
        simp only [Act.put, List.setIfInBounds_toArray, List.set_cons_zero, List.set_cons_succ]
        refine handRead 22 (some 138) (.int .i64 gk) rfl rfl (by kernel_rfl) (by kernel_rfl) (by kernel_rfl) (fun _ _ _ h => h) (by kernel_rfl) (by assumption) ?_ ?_
        · intro w hSw
          (try dsimp only at hSw)
          go_simp
        simp only [Act.put, List.setIfInBounds_toArray, List.set_cons_zero, List.set_cons_succ]
        refine handRead 23 (some 139) (.slice (some ⟨gx, ox, none⟩) n y6) rfl rfl (by kernel_rfl) (by kernel_rfl) (by kernel_rfl) (fun _ _ _ h => h) (by kernel_rfl) (by assumption) ?_ ?_
        · intro w hSw
          (try dsimp only at hSw)
          go_simp
        simp only [Act.put, List.setIfInBounds_toArray, List.set_cons_zero, List.set_cons_succ]
        refine handRead 24 (some 140) (.int .i64 (p : Int)) rfl rfl (by kernel_rfl) (by kernel_rfl) (by kernel_rfl) (fun _ _ _ h => h) (by kernel_rfl) (by assumption) ?_ ?_
        · intro w hSw
          (try dsimp only at hSw)
          go_simp
        simp only [Act.put, List.setIfInBounds_toArray, List.set_cons_zero, List.set_cons_succ]
        refine handRead 25 (some 141) (.pointer (some ⟨gx, ox + p, none⟩)) rfl rfl (by kernel_rfl) (by kernel_rfl) (by kernel_rfl) (fun _ _ _ h => h) (by kernel_rfl) (by assumption) ?_ ?_
        · intro w hSw
          (try dsimp only at hSw)
          go_simp
        simp only [Act.put, List.setIfInBounds_toArray, List.set_cons_zero, List.set_cons_succ]
        refine handRead 26 (some 142) (.int .i64 gp) rfl rfl (by kernel_rfl) (by kernel_rfl) (by kernel_rfl) (fun _ _ _ h => h) (by kernel_rfl) (by assumption) ?_ ?_
        · intro w hSw
          (try dsimp only at hSw)
          go_simp
        simp only [Act.put, List.setIfInBounds_toArray, List.set_cons_zero, List.set_cons_succ]
        refine handRead 27 (some 143) (.bool eb) rfl rfl (by kernel_rfl) (by kernel_rfl) (by kernel_rfl) (fun _ _ _ h => h) (by kernel_rfl) (by assumption) ?_ ?_
        · intro w hSw
          (try dsimp only at hSw)
          go_simp
          exact HT3.out
        simp only [Act.put, List.setIfInBounds_toArray, List.set_cons_zero, List.set_cons_succ]
        refine handRead 28 (some 144) (.bool false) rfl rfl (by kernel_rfl) (by kernel_rfl) (by kernel_rfl) (fun _ _ _ h => h) (by kernel_rfl) (by assumption) ?_ ?_
        · intro w hSw
          (try dsimp only at hSw)
          go_simp
        simp only [Act.put, List.setIfInBounds_toArray, List.set_cons_zero, List.set_cons_succ]
        refine handRead 29 (some 145) (.bool false) rfl rfl (by kernel_rfl) (by kernel_rfl) (by kernel_rfl) (fun _ _ _ h => h) (by kernel_rfl) (by assumption) ?_ ?_
        · intro w hSw
          (try dsimp only at hSw)
          go_simp
        simp only [Act.put, List.setIfInBounds_toArray, List.set_cons_zero, List.set_cons_succ]
        refine wpAnyH_done (by kernel_rfl) ?_ _
        clear SA0 HX t1 t2
        have HKC : Hid (Since wb.heap.size wb wb.drew) := (Since.start wb).drew
        go_wp2
        go_loopw [148] (fun i wr => ∃ j : Nat, j ≤ n ∧ i = .int .i64 (j : Int) ∧ Hid (Since wb.heap.size wb wr)) (fun i _ => n - (intOf i).toNat)
        case atStart => exact ⟨0, Nat.zero_le _, rfl, HKC.out⟩
        case round =>
          clear HKC
          obtain ⟨j, hj, rfl, HJ⟩ := hrel
          by_cases hltj : j < n
          · have hltj' : (j : Int) < (n : Int) := by omega
            obtain ⟨hb1, hb2⟩ := HBT.out j hltj
            have HY : Hid (∀ w', Since wr.heap.size wr w' → w'.cell? ⟨gf, of + k, none⟩ = some (.int .i64 fk) ∧ w'.cell? ⟨gb, ob + j, none⟩ = some (.int .i64 (lab b (j : Int))) ∧ w'.cell? ⟨gf, of + j, none⟩ = some (.int .i64 (lab f (j : Int)))) := fun w' hs =>
              ⟨by rw [← HFK.out]; exact HFp.out k hlt w' (HKB.out.tran (HJ.out.tran hs)), HBx.out j hltj w' (HJ.out.tran hs), HFp.out j hltj w' (HKB.out.tran (HJ.out.tran hs))⟩
            generalize lab b (j : Int) = bj at *
            generalize lab f (j : Int) = fj at *
            have hwr : IntKind.i64.wrap (fk + bj) = fk + bj := by rw [IntKind.wrap_i64]; omega
            have hnl : ¬ fk + bj < fj := by omega
            clear hb1 hb2
            go_wp2
            have SA0 := Since.start wr
            refine wp_region_held_drew (S := (fun w' => w'.cell? ⟨gf, of + k, none⟩ = some (.int .i64 fk) ∧ w'.cell? ⟨gb, ob + j, none⟩ = some (.int .i64 bj) ∧ w'.cell? ⟨gf, of + j, none⟩ = some (.int .i64 fj))) (by kernel_rfl) ?_ (fun hHeld => ?_)
            · exact HY.out _ SA0.drew
            refine handRead 0 (some 151) (.slice (some ⟨gf, of, none⟩) n y2) rfl rfl (by kernel_rfl) (by kernel_rfl) (by kernel_rfl) (fun _ _ _ h => h) (by kernel_rfl) (by assumption) ?_ ?_
            · intro w hSw
              (try dsimp only at hSw)
              go_simp
            simp only [Act.put, List.setIfInBounds_toArray, List.set_cons_zero, List.set_cons_succ]
            refine handRead 1 (some 152) (.int .i64 (k : Int)) rfl rfl (by kernel_rfl) (by kernel_rfl) (by kernel_rfl) (fun _ _ _ h => h) (by kernel_rfl) (by assumption) ?_ ?_
            · intro w hSw
              (try dsimp only at hSw)
              go_simp
            simp only [Act.put, List.setIfInBounds_toArray, List.set_cons_zero, List.set_cons_succ]
            refine handRead 2 (some 153) (.pointer (some ⟨gf, of + k, none⟩)) rfl rfl (by kernel_rfl) (by kernel_rfl) (by kernel_rfl) (fun _ _ _ h => h) (by kernel_rfl) (by assumption) ?_ ?_
            · intro w hSw
              (try dsimp only at hSw)
              go_simp
            simp only [Act.put, List.setIfInBounds_toArray, List.set_cons_zero, List.set_cons_succ]
            refine handRead 3 (some 154) (.int .i64 fk) rfl rfl (by kernel_rfl) (by kernel_rfl) (by kernel_rfl) (fun _ _ _ h => h) (by kernel_rfl) (by assumption) ?_ ?_
            · intro w hSw
              (try dsimp only at hSw)
              go_simp
            simp only [Act.put, List.setIfInBounds_toArray, List.set_cons_zero, List.set_cons_succ]
            refine handRead 4 (some 155) (.slice (some ⟨gb, ob, none⟩) n yb) rfl rfl (by kernel_rfl) (by kernel_rfl) (by kernel_rfl) (fun _ _ _ h => h) (by kernel_rfl) (by assumption) ?_ ?_
            · intro w hSw
              (try dsimp only at hSw)
              go_simp
            simp only [Act.put, List.setIfInBounds_toArray, List.set_cons_zero, List.set_cons_succ]
            refine handRead 5 (some 156) (.int .i64 (j : Int)) rfl rfl (by kernel_rfl) (by kernel_rfl) (by kernel_rfl) (fun _ _ _ h => h) (by kernel_rfl) (by assumption) ?_ ?_
            · intro w hSw
              (try dsimp only at hSw)
              go_simp
            simp only [Act.put, List.setIfInBounds_toArray, List.set_cons_zero, List.set_cons_succ]
            refine handRead 6 (some 157) (.pointer (some ⟨gb, ob + j, none⟩)) rfl rfl (by kernel_rfl) (by kernel_rfl) (by kernel_rfl) (fun _ _ _ h => h) (by kernel_rfl) (by assumption) ?_ ?_
            · intro w hSw
              (try dsimp only at hSw)
              go_simp
            simp only [Act.put, List.setIfInBounds_toArray, List.set_cons_zero, List.set_cons_succ]
            refine handRead 7 (some 158) (.int .i64 bj) rfl rfl (by kernel_rfl) (by kernel_rfl) (by kernel_rfl) (fun _ _ _ h => h) (by kernel_rfl) (by assumption) ?_ ?_
            · intro w hSw
              (try dsimp only at hSw)
              go_simp
            simp only [Act.put, List.setIfInBounds_toArray, List.set_cons_zero, List.set_cons_succ]
            refine handRead 8 (some 159) (.int .i64 (fk + bj)) rfl rfl (by kernel_rfl) (by kernel_rfl) (by kernel_rfl) (fun _ _ _ h => h) (by kernel_rfl) (by assumption) ?_ ?_
            · intro w hSw
              (try dsimp only at hSw)
              go_simp
            simp only [Act.put, List.setIfInBounds_toArray, List.set_cons_zero, List.set_cons_succ]
            refine handRead 9 (some 160) (.slice (some ⟨gf, of, none⟩) n y2) rfl rfl (by kernel_rfl) (by kernel_rfl) (by kernel_rfl) (fun _ _ _ h => h) (by kernel_rfl) (by assumption) ?_ ?_
            · intro w hSw
              (try dsimp only at hSw)
              go_simp
            simp only [Act.put, List.setIfInBounds_toArray, List.set_cons_zero, List.set_cons_succ]
            refine handRead 10 (some 161) (.int .i64 (j : Int)) rfl rfl (by kernel_rfl) (by kernel_rfl) (by kernel_rfl) (fun _ _ _ h => h) (by kernel_rfl) (by assumption) ?_ ?_
            · intro w hSw
              (try dsimp only at hSw)
              go_simp
            simp only [Act.put, List.setIfInBounds_toArray, List.set_cons_zero, List.set_cons_succ]
            refine handRead 11 (some 162) (.pointer (some ⟨gf, of + j, none⟩)) rfl rfl (by kernel_rfl) (by kernel_rfl) (by kernel_rfl) (fun _ _ _ h => h) (by kernel_rfl) (by assumption) ?_ ?_
            · intro w hSw
              (try dsimp only at hSw)
              go_simp
            simp only [Act.put, List.setIfInBounds_toArray, List.set_cons_zero, List.set_cons_succ]
            refine handRead 12 (some 163) (.int .i64 fj) rfl rfl (by kernel_rfl) (by kernel_rfl) (by kernel_rfl) (fun _ _ _ h => h) (by kernel_rfl) (by assumption) ?_ ?_
            · intro w hSw
              (try dsimp only at hSw)
              go_simp
            simp only [Act.put, List.setIfInBounds_toArray, List.set_cons_zero, List.set_cons_succ]
            refine handRead 13 (some 164) (.bool false) rfl rfl (by kernel_rfl) (by kernel_rfl) (by kernel_rfl) (fun _ _ _ h => h) (by kernel_rfl) (by assumption) ?_ ?_
            · intro w hSw
              (try dsimp only at hSw)
              go_simp
            simp only [Act.put, List.setIfInBounds_toArray, List.set_cons_zero, List.set_cons_succ]
            refine wpAnyH_done (by kernel_rfl) ?_ _
            clear SA0 HY
            have HSD : Hid (Since wb.heap.size wb wr.drew) := HJ.out.drew
            go_wp2
            go_roundw
            case rel => exact ⟨j + 1, by omega, by go_num, HSD.out⟩
            case measure => simp [intOf]; omega
          · have hltj' : ¬ (j : Int) < (n : Int) := by omega
            have HSE : Hid (Since w7.heap.size w7 wr) := HKB.out.tran HJ.out
            clear HJ
            go_wp2
            go_roundw
            case rel => exact ⟨k + 1, by omega, by go_num, HSE.out⟩
            case measure => simp [intOf]; omega
      · have hlt' : ¬ (k : Int) < (n : Int) := by omega
        have S8 : Hid (Since w.heap.size w wr) := S7.out.tran HK.out
        clear HK CK HFp HGx HGP HRG L7 F7 G7
        go_wp2_with fail
        refine (drawRelax_any w.heap.size w _ a1 len1 cap1 HC1.out hl1 S8.out).mono ?_
        rintro e w20 ⟨m, v20, le, u20, fr, rfl, ho20, hl20, hm13, hu20, hz20, hs20⟩
        obtain ⟨x20, y20, rfl⟩ := ho20.shape
        obtain ⟨xf, yf, rfl⟩ := hu20.shape
        have S20 : Hid (Since w.heap.size w w20) := hs20
        have M20 : Hid (OwnEd w20 w.heap.size (.slice x20 le.length y20) le) := ho20.mono S8.out.2
        have P20 : Hid (Own w20 w.heap.size (.slice xf fr.length yf) fr) := hu20.mono S8.out.2
        clear ho20 hu20 hs20
        obtain ⟨rx, hrx⟩ : ∃ rx, rx = relOut (m : Int) le fr := ⟨_, rfl⟩
        obtain ⟨one, hone⟩ : ∃ one, one = relOk (m : Int) le fr := ⟨_, rfl⟩
        have HRL : Hid (rx.length ≤ 4194304) := by show _ ≤ _; rw [hrx]; exact relOut_len _ _ _
        have HLE : Hid (∀ k : Nat, k < rx.length → k < fr.length ∧ lab rx k ≤ lab fr k) := by show ∀ k : Nat, _; rw [hrx]; exact relOut_le
        have CR : Hid (∀ (W : World) (B : Nat) (v u : Value), ReadsEd W v le → Own W B u fr → Calls Try.prog 53 #[.int .i64 (m : Int), v, u] W (NearPost W rx one)) := fun W B v u h ho => by
          rw [hrx, hone]; exact implRelaxAll_any W B v u (m : Int) le fr h ho (Nat.le_trans hl20 (by decide)) (Nat.le_trans hz20 (by decide))
        have CRS : Hid (∀ (W : World) (B : Nat) (v u : Value), ReadsEd W v le → Own W B u fr → Calls Try.prog 55 #[.int .i64 (m : Int), v, u] W (NearPost W rx one)) := fun W B v u h ho => by
          rw [hrx, hone]; exact specRelaxAll_any W B v u (m : Int) le fr h ho (Nat.le_trans hl20 (by decide)) (Nat.le_trans hz20 (by decide))
        clear hrx hone
        go_wp2_with fail
        refine (CR.out _ _ _ _ M20.out.reads P20.out).mono ?_
        rintro e w21 ⟨u21, rfl, ho21, hb21⟩
        have S21 : Hid (Since w.heap.size w w21) := S20.out.step hb21
        have M21 : Hid (OwnEd w21 w.heap.size (.slice x20 le.length y20) le) := M20.out.below hb21
        have P21 : Hid (Own w21 w.heap.size (.slice xf fr.length yf) fr) := P20.out.below hb21
        obtain ⟨x21, y21, rfl⟩ := ho21.shape
        have Q21 : Hid (Own w21 w.heap.size (.slice x21 rx.length y21) rx) := ho21.mono S20.out.2
        clear ho21
        clear hb21
        go_wp2_with fail
        refine (CRS.out _ _ _ _ M21.out.reads P21.out).mono ?_
        rintro e w22 ⟨u22, rfl, ho22, hb22⟩
        have S22 : Hid (Since w.heap.size w w22) := S21.out.step hb22
        have P22 : Hid (Own w22 w.heap.size (.slice xf fr.length yf) fr) := P21.out.below hb22
        have Q22 : Hid (Own w22 w.heap.size (.slice x21 rx.length y21) rx) := Q21.out.below hb22
        obtain ⟨x22, y22, rfl⟩ := ho22.shape
        have Z22 : Hid (Own w22 w.heap.size (.slice x22 rx.length y22) rx) := ho22.mono S21.out.2
        clear ho22
        clear hb22
        clear CR CRS M20 M21 P20 P21
        go_wp2_with fail
        refine (drawCen_any w22.heap.size w22 _ a1 len1 cap1 (HC1.out.sinceF S22.out (Nat.le_refl _)) hl1 (Since.start w22)).mono ?_
        rintro e w23 ⟨o, v23, lo, rfl, ho23, hl23, ho13, hs23⟩
        obtain ⟨x23, y23, rfl⟩ := ho23.shape
        have S23 : Hid (Since w.heap.size w w23) := S22.out.step hs23.1
        have P23 : Hid (Own w23 w.heap.size (.slice xf fr.length yf) fr) := P22.out.below hs23.1
        have Q23 : Hid (Own w23 w.heap.size (.slice x21 rx.length y21) rx) := Q22.out.below hs23.1
        have Z23 : Hid (Own w23 w.heap.size (.slice x22 rx.length y22) rx) := Z22.out.below hs23.1
        have N23 : Hid (OwnEd w23 w22.heap.size (.slice x23 lo.length y23) lo) := ho23
        clear ho23 hs23 P22 Q22 Z22
        go_wp2_with fail
        refine (implCentreOf_any _ _ (o : Int) lo N23.out.reads (Nat.le_trans hl23 (by decide))).mono ?_
        rintro e w24 ⟨rfl, hb24⟩
        have S24 : Hid (Since w.heap.size w w24) := S23.out.step hb24
        have P24 : Hid (Own w24 w.heap.size (.slice xf fr.length yf) fr) := P23.out.below hb24
        have Q24 : Hid (Own w24 w.heap.size (.slice x21 rx.length y21) rx) := Q23.out.below hb24
        have Z24 : Hid (Own w24 w.heap.size (.slice x22 rx.length y22) rx) := Z23.out.below hb24
        have N24 : Hid (OwnEd w24 w22.heap.size (.slice x23 lo.length y23) lo) := N23.out.below hb24
        clear hb24
        go_wp2_with fail
        refine (specCentreOf_any _ _ (o : Int) lo N24.out.reads (Nat.le_trans hl23 (by decide))).mono ?_
        rintro e w25 ⟨rfl, hb25⟩
        have S25 : Hid (Since w.heap.size w w25) := S24.out.step hb25
        have P25 : Hid (Own w25 w.heap.size (.slice xf fr.length yf) fr) := P24.out.below hb25
        have Q25 : Hid (Own w25 w.heap.size (.slice x21 rx.length y21) rx) := Q24.out.below hb25
        have Z25 : Hid (Own w25 w.heap.size (.slice x22 rx.length y22) rx) := Z24.out.below hb25
        clear hb25
        generalize cenI (o : Int) lo = ci at *
        generalize cenM (o : Int) lo = cm at *
        generalize goodEd (o : Int) lo = ck at *
        clear N23 N24 P23 P24 Q23 Q24 Z23 Z24
        have hone2 : (one != one) = false := by simp
        have hck : (ck != ck) = false := by simp
        have hci : (ci != ci) = false := by simp
        have hcm : (cm != cm) = false := by simp
        go_wp2_with fail
        refine (sameInts_same _ _ _ rx Q25.out.reads Z25.out.reads HRL.out).mono ?_
        rintro e w26 ⟨rfl, hb26⟩
        have S26 : Hid (Since w.heap.size w w26) := S25.out.step hb26
        have P26 : Hid (Own w26 w.heap.size (.slice xf fr.length yf) fr) := P25.out.below hb26
        have Q26 : Hid (Own w26 w.heap.size (.slice x21 rx.length y21) rx) := Q25.out.below hb26
        clear hb26
        have HQC : Hid (∀ j, j < rx.length → ∃ gg go, x21 = some ⟨gg, go, none⟩ ∧ ∀ W', Since w26.heap.size w26 W' → ∀ hj : j < rx.length, W'.cell? ⟨gg, go + j, none⟩ = some (.int .i64 rx[j])) := fun j hj => own_cellsF Q26.out j hj
        have HPC : Hid (∀ j, j < fr.length → ∃ gg go, xf = some ⟨gg, go, none⟩ ∧ ∀ W', Since w26.heap.size w26 W' → ∀ hj : j < fr.length, W'.cell? ⟨gg, go + j, none⟩ = some (.int .i64 fr[j])) := fun j hj => own_cellsF P26.out j hj
        have HS26 : Hid (Since w26.heap.size w26 w26) := Since.start w26
        clear P25 Q25 Z25
        go_wp2
        go_loopw [232] (fun i wr => ∃ j : Nat, j ≤ rx.length ∧ i = .int .i64 (j : Int) ∧ Hid (Since w26.heap.size w26 wr)) (fun i _ => rx.length - (intOf i).toNat)
        case atStart => exact ⟨0, Nat.zero_le _, rfl, HS26.out⟩
        case round =>
          clear HS26
          obtain ⟨j, hj, rfl, HK⟩ := hrel
          by_cases hlt : j < rx.length
          · have hlt' : (j : Int) < (rx.length : Int) := by omega
            have hrl := HRL.out
            obtain ⟨hjf, hle⟩ := HLE.out j hlt
            have hjf' : (j : Int) < (fr.length : Int) := by omega
            obtain ⟨gq, oq, rfl, hq⟩ := HQC.out j hlt
            obtain ⟨gp, op, rfl, hp⟩ := HPC.out j hjf
            rw [lab_get rx j hlt, lab_get fr j hjf] at hle
            have HX : Hid (∀ w', Since wr.heap.size wr w' → w'.cell? ⟨gq, oq + j, none⟩ = some (.int .i64 rx[j]) ∧ w'.cell? ⟨gp, op + j, none⟩ = some (.int .i64 fr[j])) := fun w' hs => ⟨hq w' (HK.out.tran hs) hlt, hp w' (HK.out.tran hs) hjf⟩
            clear hq hp
            generalize rx[j] = rj at *
            generalize fr[j] = fj at *
            have hgt : ¬ fj < rj := by omega
            clear hle
            go_wp2
            have SA0 := Since.start wr
            refine wp_region_held_drew (S := (fun w' => w'.cell? ⟨gq, oq + j, none⟩ = some (.int .i64 rj) ∧ w'.cell? ⟨gp, op + j, none⟩ = some (.int .i64 fj))) (by kernel_rfl) ?_ (fun hHeld => ?_)
            · exact HX.out _ SA0.drew
            refine handRead 0 (some 235) (.slice (some ⟨gq, oq, none⟩) rx.length y21) rfl rfl (by kernel_rfl) (by kernel_rfl) (by kernel_rfl) (fun _ _ _ h => h) (by kernel_rfl) (by assumption) ?_ ?_
            · intro w hSw
              (try dsimp only at hSw)
              go_simp
            simp only [Act.put, List.setIfInBounds_toArray, List.set_cons_zero, List.set_cons_succ]
            refine handRead 1 (some 236) (.int .i64 (j : Int)) rfl rfl (by kernel_rfl) (by kernel_rfl) (by kernel_rfl) (fun _ _ _ h => h) (by kernel_rfl) (by assumption) ?_ ?_
            · intro w hSw
              (try dsimp only at hSw)
              go_simp
            simp only [Act.put, List.setIfInBounds_toArray, List.set_cons_zero, List.set_cons_succ]
            refine handRead 2 (some 237) (.pointer (some ⟨gq, oq + j, none⟩)) rfl rfl (by kernel_rfl) (by kernel_rfl) (by kernel_rfl) (fun _ _ _ h => h) (by kernel_rfl) (by assumption) ?_ ?_
            · intro w hSw
              (try dsimp only at hSw)
              go_simp
            simp only [Act.put, List.setIfInBounds_toArray, List.set_cons_zero, List.set_cons_succ]
            refine handRead 3 (some 238) (.int .i64 rj) rfl rfl (by kernel_rfl) (by kernel_rfl) (by kernel_rfl) (fun _ _ _ h => h) (by kernel_rfl) (by assumption) ?_ ?_
            · intro w hSw
              (try dsimp only at hSw)
              go_simp
            simp only [Act.put, List.setIfInBounds_toArray, List.set_cons_zero, List.set_cons_succ]
            refine handRead 4 (some 239) (.slice (some ⟨gp, op, none⟩) fr.length yf) rfl rfl (by kernel_rfl) (by kernel_rfl) (by kernel_rfl) (fun _ _ _ h => h) (by kernel_rfl) (by assumption) ?_ ?_
            · intro w hSw
              (try dsimp only at hSw)
              go_simp
            simp only [Act.put, List.setIfInBounds_toArray, List.set_cons_zero, List.set_cons_succ]
            refine handRead 5 (some 240) (.int .i64 (j : Int)) rfl rfl (by kernel_rfl) (by kernel_rfl) (by kernel_rfl) (fun _ _ _ h => h) (by kernel_rfl) (by assumption) ?_ ?_
            · intro w hSw
              (try dsimp only at hSw)
              go_simp
            simp only [Act.put, List.setIfInBounds_toArray, List.set_cons_zero, List.set_cons_succ]
            refine handRead 6 (some 241) (.pointer (some ⟨gp, op + j, none⟩)) rfl rfl (by kernel_rfl) (by kernel_rfl) (by kernel_rfl) (fun _ _ _ h => h) (by kernel_rfl) (by assumption) ?_ ?_
            · intro w hSw
              (try dsimp only at hSw)
              go_simp
            simp only [Act.put, List.setIfInBounds_toArray, List.set_cons_zero, List.set_cons_succ]
            refine handRead 7 (some 242) (.int .i64 fj) rfl rfl (by kernel_rfl) (by kernel_rfl) (by kernel_rfl) (fun _ _ _ h => h) (by kernel_rfl) (by assumption) ?_ ?_
            · intro w hSw
              (try dsimp only at hSw)
              go_simp
            simp only [Act.put, List.setIfInBounds_toArray, List.set_cons_zero, List.set_cons_succ]
            refine handRead 8 (some 243) (.bool false) rfl rfl (by kernel_rfl) (by kernel_rfl) (by kernel_rfl) (fun _ _ _ h => h) (by kernel_rfl) (by assumption) ?_ ?_
            · intro w hSw
              (try dsimp only at hSw)
              go_simp
            simp only [Act.put, List.setIfInBounds_toArray, List.set_cons_zero, List.set_cons_succ]
            refine wpAnyH_done (by kernel_rfl) ?_ _
            clear SA0 HX
            have HSD : Hid (Since w26.heap.size w26 wr.drew) := HK.out.drew
            go_wp2
            go_roundw
            case rel => exact ⟨j + 1, by omega, by go_num, HSD.out⟩
            case measure => simp [intOf]; omega
          · have hlt' : ¬ (j : Int) < (rx.length : Int) := by omega
            have SZ : Hid (Since w.heap.size w wr) := S26.out.tran HK.out
            clear HK HQC HPC
            go_wp2
            go_ret
            exact ⟨by simp, SZ.out.1⟩
end fnFars
end Go.Proofs.Yteohmclohomblac
