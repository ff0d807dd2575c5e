/-
  Lists of lists of numbers: how they lie in memory, and what the laws' functions over them answer: 'szIntSS', 'toIntSS', 'eqIntSS', 'markIntSS'.
-/
import Derived.Test.YthlbmkefjjckaagRowLaw0
import Derived.Test.YthlbmkefjjckaagHand
namespace Go.Proofs.Ythlbmkefjjckaag
open Go.RowKit
set_option linter.unusedVariables false

/-- What goes on in some blocks alone. -/
structure Turned (P : Nat → Prop) (W W' : World) : Prop where
  os : W'.os = W.os
  tape : W'.tape = W.tape
  output : W'.output = W.output
  size : W.heap.size ≤ W'.heap.size
  block : ∀ j, j < W.heap.size → ¬ P j → W'.heap[j]? = W.heap[j]?
theorem Turned.refl (P : Nat → Prop) (W : World) : Turned P W W := ⟨rfl, rfl, rfl, Nat.le_refl _, fun _ _ _ => rfl⟩
theorem Turned.grown {P : Nat → Prop} {W w w' : World} {row : Option Nat} (h : Turned P W w) (hg : w.grownBy w' row) (hr : ∀ k, row = some k → P k) : Turned P W w' :=
  ⟨hg.os.trans h.os, hg.tape.trans h.tape, hg.output.trans h.output, Nat.le_trans h.size hg.size, fun j hj hn => (hg.block j (Nat.lt_of_lt_of_le hj h.size) (fun e => hn (hr j e.symm))).trans (h.block j hj hn)⟩
theorem Since.turned {P : Nat → Prop} {B : Nat} {w0 w w' : World} (h : Since B w0 w) (ht : Turned P w w') (hP : ∀ k, P k → B ≤ k) : Since B w0 w' :=
  ⟨⟨ht.os.trans h.1.os, ht.tape.trans h.1.tape, ht.output.trans h.1.output, Nat.le_trans h.1.size ht.size, fun j hj => (ht.block j (Nat.lt_of_lt_of_le hj h.2) (fun hp => by have := hP j hp; omega)).trans (h.1.block j hj)⟩, Nat.le_trans h.2 ht.size⟩
theorem rowTurned {P : Nat → Prop} {W W' : World} {B : Nat} {e : TypeId} {size n : Nat} {v : Value} {xs : List Value} (h : W.ownsRow B e size v n xs) (ht : Turned P W W') (hne : ∀ k, v.ownBlock = some k → ¬ P k) : W'.ownsRow B e size v n xs :=
  rowSame h fun k hk => ht.block k (World.ownsRow.lt h k hk).2 (hne k hk)

/-- The slice v reads as the lists zss. -/
def ReadsSS (W : World) (v : Value) (zss : List (List Int)) : Prop :=
  ∃ (a : Option Addr) (cap : Nat), v = .slice a zss.length cap ∧ (zss = [] ∨ ∃ g off, a = some ⟨g, off, none⟩ ∧ g < W.heap.size ∧ ∀ j (hj : j < zss.length), ∃ u, W.cell? ⟨g, off + j, none⟩ = some u ∧ Reads W u zss[j])
theorem ReadsSS.shape {W : World} {v : Value} {zss : List (List Int)} (h : ReadsSS W v zss) : ∃ a cap, v = .slice a zss.length cap := by obtain ⟨a, cap, hv, -⟩ := h; exact ⟨a, cap, hv⟩
theorem ReadsSS.below {W W' : World} {v : Value} {zss : List (List Int)} (h : ReadsSS W v zss) (hb : Below W.heap.size W W') : ReadsSS W' v zss := by
  obtain ⟨a, cap, hv, hc⟩ := h
  refine ⟨a, cap, hv, hc.imp id ?_⟩
  rintro ⟨g, off, ha, hg, hcell⟩
  refine ⟨g, off, ha, Nat.lt_of_lt_of_le hg hb.size, fun j hj => ?_⟩
  obtain ⟨u, h1, h2⟩ := hcell j hj
  exact ⟨u, (hb.cell (p := ⟨g, off + j, none⟩) hg).trans h1, h2.below hb⟩

theorem infoSS : (Try.prog.info? 22).map (fun i => (i.zero, i.size, i.bytes)) = some (some (.slice none 0 0), 1, 24) := by kernel_rfl

/-- The slice v owns the lists zss, the inner ones vs, no two of them one block. -/
structure OwnSS (W : World) (B : Nat) (v : Value) (vs : List Value) (zss : List (List Int)) : Prop where
  len : vs.length = zss.length
  row : W.ownsRow B 22 1 v vs.length vs
  inner : ∀ j (hj : j < vs.length), Own W B vs[j] (zss[j]'(by omega))
  apart : ∀ i j (hi : i < vs.length) (hj : j < vs.length), i ≠ j → ∀ k, vs[i].ownBlock = some k → vs[j].ownBlock ≠ some k
theorem OwnSS.below {W W' : World} {B : Nat} {v : Value} {vs : List Value} {zss : List (List Int)} (h : OwnSS W B v vs zss) (hb : Below W.heap.size W W') : OwnSS W' B v vs zss :=
  ⟨h.len, rowBelow h.row hb, fun j hj => (h.inner j hj).below hb, h.apart⟩
theorem OwnSS.mono {W : World} {B B' : Nat} {v : Value} {vs : List Value} {zss : List (List Int)} (h : OwnSS W B v vs zss) (hB : B' ≤ B) : OwnSS W B' v vs zss :=
  ⟨h.len, rowMono h.row hB, fun j hj => (h.inner j hj).mono hB, h.apart⟩
theorem OwnSS.shape {W : World} {B : Nat} {v : Value} {vs : List Value} {zss : List (List Int)} (h : OwnSS W B v vs zss) : ∃ a cap, v = .slice a zss.length cap := by
  obtain ⟨a, cap, hv⟩ := rowShape h.row
  exact ⟨a, cap, by rw [hv, h.len]⟩
theorem OwnSS.reads {W : World} {B : Nat} {v : Value} {vs : List Value} {zss : List (List Int)} (h : OwnSS W B v vs zss) : ReadsSS W v zss := by
  have h' := h.row
  rcases h.row.2 with ⟨hv, hn⟩ | ⟨g, cap, cur, hv, hB, hg, -⟩
  · have : zss = [] := List.eq_nil_of_length_eq_zero (by rw [← h.len]; exact hn)
    exact ⟨none, 0, by rw [hv, this]; rfl, .inl this⟩
  · rw [hv] at h'
    refine ⟨_, cap, by rw [hv, h.len], .inr ⟨g, 0, rfl, (Array.getElem?_eq_some_iff.1 hg).1, fun j hj => ?_⟩⟩
    have hj' : j < vs.length := by rw [h.len]; exact hj
    refine ⟨vs[j], ?_, (h.inner j hj').reads⟩
    rw [Nat.zero_add, World.ownsRow.cellAt h' j (by omega), List.getElem?_eq_getElem hj']
/-- The blocks of the inner lists. -/
def InSS (vs : List Value) (b : Nat) : Prop := ∃ j, ∃ hj : j < vs.length, vs[j].ownBlock = some b
theorem OwnSS.inLt {W : World} {B : Nat} {v : Value} {vs : List Value} {zss : List (List Int)} (h : OwnSS W B v vs zss) (b : Nat) (hb : InSS vs b) : B ≤ b ∧ b < W.heap.size := by
  obtain ⟨j, hj, hk⟩ := hb
  exact World.ownsRow.lt (h.inner j hj) b hk

/-- What lists of lists leave of a measure. -/
def szL : List (List Int) → Int → Int
  | [], left => left
  | zs :: r, left => if (zs.length : Int) ≤ left then szL r (left - zs.length) else -1
def szSS (zss : List (List Int)) (left : Int) : Int := if (zss.length : Int) ≤ left then szL zss (left - zss.length) else -1
theorem szL_all : ∀ (zss : List (List Int)) (left : Int), left ≤ 1048576 → ¬ szL zss left < 0 → ∀ j (hj : j < zss.length), zss[j].length ≤ 1048576
  | zs :: r, left, hl, h, 0, _ => by
    unfold szL at h
    split at h
    · next hle => show zs.length ≤ _; omega
    · omega
  | zs :: r, left, hl, h, j + 1, hj => by
    unfold szL at h
    split at h
    · next hle => exact szL_all r _ (by omega) h j (by simpa using hj)
    · omega

theorem make_SS (n : Nat) (hn : n ≤ 4194304) (w : World) : ∃ W1 : World,
    (Instr.makeSlice 47 (.int .i64 (n : Int)) (.int .i64 (n : Int))).run Try.prog w = .ok (.slice (some ⟨w.heap.size, 0, none⟩) n n) W1 ∧
    W1.ownsRow w.heap.size 22 1 (.slice (some ⟨w.heap.size, 0, none⟩) n n) n (List.replicate n (.slice none 0 0)) ∧ Below w.heap.size w W1 ∧ w.heap.size < W1.heap.size := by
  obtain ⟨i0, hi, hz0, hz1, hz2⟩ := info_parts infoSS
  obtain ⟨w', hr, ho, hg⟩ := run_make_full (P := Try.prog) w w.heap.size 47 22 i0 (.slice none 0 0) 1 Try.underlying47 hi hz0 hz1 .i64 .i64 n (by rw [hz2]; omega) (by unfold maxLen; omega) (Nat.le_refl _)
  have hlt := (World.ownsRow.lt ho w.heap.size rfl).2
  refine ⟨w', hr, ?_, (Below.refl _ w).grown hg (Nat.le_refl _) (fun k hk => by cases hk), hlt⟩
  have e := toList_madeCells_one (.slice none 0 0) n
  simp only [Nat.mul_one] at ho
  rw [show (Value.slice none 0 0).cells = #[Value.slice none 0 0] from rfl, e] at ho
  exact ho

def HasSS (W : World) (B : Nat) (v : Value) (zss : List (List Int)) : Prop := ∃ vs, OwnSS W B v vs zss

/-- The rows that are copied so far: the first ones, and nil ones behind them. -/
structure PartSS (W : World) (H n : Nat) (us : List Value) (zss : List (List Int)) (k : Nat) : Prop where
  len : us.length = k
  row : W.ownsRow H 22 1 (.slice (some ⟨H, 0, none⟩) n n) n (us ++ List.replicate (n - k) (.slice none 0 0))
  inner : ∀ j (hj : j < us.length) (hz : j < zss.length), Own W (H + 1) us[j] zss[j]
  apart : ∀ i j (hi : i < us.length) (hj : j < us.length), i ≠ j → ∀ b, us[i].ownBlock = some b → us[j].ownBlock ≠ some b

set_option maxRecDepth 100000 in
set_option maxHeartbeats 2000000 in
theorem eqSS_same (W : World) (v1 v2 : Value) (zss : List (List Int)) (h1 : ReadsSS W v1 zss) (h2 : ReadsSS W v2 zss) (hl : zss.length ≤ 4194304) (hin : ∀ j (hj : j < zss.length), zss[j].length ≤ 4194304) :
    Calls Try.prog 32 #[v1, v2] W fun e W' => e = .returned (.bool true) ∧ Below W.heap.size W W' := by
  obtain ⟨a1, cap1, rfl, hc1⟩ := h1
  obtain ⟨a2, cap2, rfl, hc2⟩ := h2
  by_cases hz : zss = []
  · subst hz
    simp only [List.length_nil]
    clear hc1 hc2
    go_enter Try.func32, Try.ntmps32
    go_wp2
    refine wp_loop_rounds 1 ?_
    rw [rounds_succ]
    go_wp2
    go_ret
    exact ⟨rfl, Below.refl _ _⟩
  · obtain ⟨g1, o1, rfl, hg1, hc1⟩ := hc1.resolve_left hz
    obtain ⟨g2, o2, rfl, hg2, hc2⟩ := hc2.resolve_left hz
    have HC1 : Hid (∀ W1, Since W.heap.size W W1 → ∀ j (hj : j < zss.length), ∃ u, W1.cell? ⟨g1, o1 + j, none⟩ = some u ∧ Reads W1 u zss[j]) := fun W1 hS j hj => by
      obtain ⟨u, h1, h2⟩ := hc1 j hj
      exact ⟨u, (hS.1.cell (p := ⟨g1, o1 + j, none⟩) hg1).trans h1, h2.below hS.1⟩
    have HC2 : Hid (∀ W1, Since W.heap.size W W1 → ∀ j (hj : j < zss.length), ∃ u, W1.cell? ⟨g2, o2 + j, none⟩ = some u ∧ Reads W1 u zss[j]) := fun W1 hS j hj => by
      obtain ⟨u, h1, h2⟩ := hc2 j hj
      exact ⟨u, (hS.1.cell (p := ⟨g2, o2 + j, none⟩) hg2).trans h1, h2.below hS.1⟩
    have HS0 : Hid (Since W.heap.size W W) := Since.start W
    have HIN : Hid (∀ j (hj : j < zss.length), zss[j].length ≤ 4194304) := hin
    clear hc1 hc2 hz hin
    go_enter Try.func32, Try.ntmps32
    go_wp2
    go_loopw [5] (fun i wr => ∃ k : Nat, k ≤ zss.length ∧ i = .int .i64 k ∧ Hid (Since W.heap.size W wr)) (fun i _ => zss.length - (intOf i).toNat)
    case atStart => exact ⟨0, Nat.zero_le _, rfl, HS0⟩
    case round =>
      obtain ⟨k, hk, rfl, HS⟩ := hrel
      by_cases hlt : k < zss.length
      · obtain ⟨u1, q1, hr1⟩ := HC1.out wr HS.out k hlt
        obtain ⟨u2, q2, hr2⟩ := HC2.out wr HS.out k hlt
        have HR1 : Hid (Reads wr u1 zss[k]) := hr1
        have HR2 : Hid (Reads wr u2 zss[k]) := hr2
        have HCE : Hid (∀ w', Since wr.heap.size wr w' → Calls Try.prog 12 #[u1, u2] w' fun e W' => e = .returned (.bool true) ∧ Below w'.heap.size w' W') := fun w' hs => eqIs_same w' u1 u2 zss[k] (HR1.out.below hs.1) (HR2.out.below hs.1) (HIN.out k hlt)
        have hlt' : (k : Int) < (zss.length : Int) := by omega
        clear hr1 hr2
        go_wp2
        go_region_with (go_at_call 12; refine (HCE.out _ (Since.start wr).drew).mono ?_; rintro e w1 ⟨rfl, hb⟩)
        all_goals
          have HS1 : Hid (Since W.heap.size W w1) := HS.out.drew.step hb
          clear hb
          go_wp2
          go_roundw
          case rel => exact ⟨k + 1, by omega, by go_num, HS1⟩
          case measure => simp [intOf]; omega
      · have hlt' : ¬ (k : Int) < (zss.length : Int) := by omega
        go_wp2
        go_ret
        exact ⟨rfl, HS.out.1⟩

/-- How many numbers there are. -/
def sumL (zss : List (List Int)) (k : Nat) : Nat := ((zss.take k).map List.length).sum
theorem szL_sum : ∀ (zss : List (List Int)) (left : Int), 0 ≤ left → left ≤ 1048576 → ¬ szL zss left < 0 → ∀ k, (sumL zss k : Int) ≤ left
  | [], left, h0, hl, h, k => by simp [sumL]; exact h0
  | zs :: r, left, h0, hl, h, 0 => by simp [sumL]; exact h0
  | zs :: r, left, h0, hl, h, k + 1 => by
    unfold szL at h
    split at h
    · next hle =>
      have ih := szL_sum r (left - zs.length) (by omega) (by omega) h k
      have e : sumL (zs :: r) (k + 1) = zs.length + sumL r k := by simp [sumL]
      omega
    · omega
theorem szSS_fit (zss : List (List Int)) (left : Int) (hl : left ≤ 1048576) (h : ¬ szSS zss left < 0) : zss.length ≤ 1048576 ∧ (∀ j (hj : j < zss.length), zss[j].length ≤ 1048576) ∧ ∀ k, k ≤ zss.length → sumL zss k ≤ 1048576 := by
  unfold szSS at h
  split at h
  · next hle => exact ⟨by omega, szL_all zss _ (by omega) h, fun k _ => by have := szL_sum zss _ (by omega) (by omega) h k; omega⟩
  · omega
theorem sumL_next (zss : List (List Int)) (k : Nat) (h : k < zss.length) : sumL zss (k + 1) = sumL zss k + zss[k].length := by
  unfold sumL
  rw [List.take_succ_eq_append_getElem h, List.map_append, List.sum_append]
  simp

set_option maxRecDepth 100000 in
set_option maxHeartbeats 2000000 in
theorem markSS_any (W : World) (B : Nat) (v : Value) (vs : List Value) (zss : List (List Int)) (k0 : Nat) (h : OwnSS W B v vs zss) (hl : zss.length ≤ 4194304) (hsum : ∀ k, k ≤ zss.length → sumL zss k ≤ 2097152) (hk1 : k0 ≤ 100000000) :
    Calls Try.prog 33 #[v, .int .i64 (k0 : Int)] W fun e W' => e = .returned (.int .i64 ((k0 + sumL zss zss.length : Nat) : Int)) ∧ Turned (InSS vs) W W' := by
  have HT0 : Hid (Turned (InSS vs) W W) := Turned.refl _ _
  have HLEN : Hid (vs.length = zss.length) := h.len
  have HAP : Hid (∀ i j (hi : i < vs.length) (hj : j < vs.length), i ≠ j → ∀ k, vs[i].ownBlock = some k → vs[j].ownBlock ≠ some k) := h.apart
  have HIN : Hid (∀ j (hj : j < vs.length), Own W B vs[j] (zss[j]'(by rw [← HLEN.out]; exact hj))) := h.inner
  have hro := h.row
  clear h
  rcases hro.2 with ⟨hv, hn⟩ | ⟨g, cap1, cur, hv, hB, hg, -⟩
  · have hz : zss = [] := List.eq_nil_of_length_eq_zero (by rw [← HLEN.out]; exact hn)
    subst hz hv
    clear hro
    go_enter Try.func33, Try.ntmps33
    go_wp2
    refine wp_loop_rounds 1 ?_
    rw [rounds_succ]
    go_wp2
    go_ret
    exact ⟨by simp [sumL], HT0.out⟩
  · rw [HLEN.out] at hv
    subst hv
    have HRO : Hid (W.ownsRow B 22 1 (.slice (some ⟨g, 0, none⟩) vs.length cap1) vs.length vs) := by rw [HLEN.out]; rw [HLEN.out] at hro; exact hro
    have HSM : Hid (∀ k, k ≤ zss.length → sumL zss k ≤ 2097152) := hsum
    clear hg hro hsum
    go_enter Try.func33, Try.ntmps33
    go_wp2
    go_loopw [1, 5] (fun x i wr => ∃ k : Nat, k ≤ zss.length ∧ i = .int .i64 k ∧ x = .int .i64 ((k0 + sumL zss k : Nat) : Int) ∧ Hid (Turned (InSS vs) W wr ∧ ∀ j (hj : j < vs.length), k ≤ j → Own wr B vs[j] (zss[j]'(by rw [← HLEN.out]; exact hj)))) (fun _ i _ => zss.length - (intOf i).toNat)
    case atStart => exact ⟨0, Nat.zero_le _, rfl, rfl, HT0.out, fun j hj _ => HIN.out j hj⟩
    case round =>
      obtain ⟨k, hk, rfl, rfl, HK⟩ := hrel
      by_cases hlt : k < zss.length
      · have hlt' : (k : Int) < (zss.length : Int) := by omega
        have hkv : k < vs.length := by rw [HLEN.out]; exact hlt
        have hout : ∀ b, InSS vs b → b ≠ g := fun b ⟨j, hj, hb⟩ e => rowsApart (HIN.out j hj) HRO.out (by decide) b hb (by rw [e]; rfl)
        have c0 : wr.cell? ⟨g, k, none⟩ = some vs[k] := by
          rw [World.cell?_of_block (HK.out.1.block g (World.ownsRow.lt HRO.out g rfl).2 (fun hp => hout g hp rfl)), World.ownsRow.cellAt HRO.out k (by omega), List.getElem?_eq_getElem hkv]
        have ho := HK.out.2 k hkv (Nat.le_refl _)
        have hsk := HSM.out k hk
        have hsn := HSM.out (k + 1) hlt
        rw [sumL_next zss k hlt] at hsn
        have CM : Hid (Calls Try.prog 16 #[vs[k], .int .i64 ((k0 + sumL zss k : Nat) : Int)] wr fun e W' => e = .returned (.int .i64 ((k0 + sumL zss (k + 1) : Nat) : Int)) ∧ wr.grownBy W' vs[k].ownBlock) := by
          refine (markIs_any wr B vs[k] (k0 + sumL zss k) zss[k] ho (by omega) (by omega)).mono ?_
          rintro e w' ⟨rfl, -, -, hgr⟩
          exact ⟨by rw [sumL_next zss k hlt]; congr 2; omega, hgr⟩
        have HVK : Hid (∀ b, vs[k].ownBlock = some b → InSS vs b) := fun b hb => ⟨k, hkv, hb⟩
        have HKK : Hid (∀ w', wr.grownBy w' vs[k].ownBlock → ∀ j (hj : j < vs.length), k + 1 ≤ j → Own w' B vs[j] (zss[j]'(by rw [← HLEN.out]; exact hj))) := fun w' hgr j hj hkj => rowGrow (HK.out.2 j hj (by omega)) hgr (fun b hb => HAP.out k j hkv hj (by omega) b hb)
        obtain ⟨av, cv, hav⟩ := ho.shape
        rw [hav] at c0 CM HVK HKK
        generalize zss[k].length = m at *
        generalize hs1 : k0 + sumL zss k = s1 at *
        generalize hs2 : k0 + sumL zss (k + 1) = s2 at *
        clear ho hav hout hs1
        go_wp2_with fail
        refine CM.out.mono ?_
        rintro e w1 ⟨rfl, hgr⟩
        have HT1 : Hid (Turned (InSS vs) W w1 ∧ ∀ j (hj : j < vs.length), k + 1 ≤ j → Own w1 B vs[j] (zss[j]'(by rw [← HLEN.out]; exact hj))) := ⟨HK.out.1.grown hgr HVK.out, HKK.out w1 hgr⟩
        clear hgr HK HKK CM
        go_wp2
        go_roundw
        case rel => exact ⟨k + 1, by omega, by go_num, by rw [hs2], HT1.out.1, HT1.out.2⟩
        case measure => simp [intOf]; omega
      · have hlt' : ¬ (k : Int) < (zss.length : Int) := by omega
        have e : k = zss.length := by omega
        subst e
        go_wp2
        go_ret
        exact ⟨rfl, HK.out.1⟩
end Go.Proofs.Ythlbmkefjjckaag
