/-
  Lists of lists of numbers: how they lie in memory, and what the laws' functions over them answer: 'szIntSS', 'toIntSS', 'eqIntSS', 'markIntSS'.
-/
import Derived.Test.YtkkamigaolejiaxRowLaw0
import Derived.Test.YtkkamigaolejiaxHand
namespace Go.Proofs.Ytkkamigaolejiax
open Go.RowKit
set_option linter.unusedVariables false

/-- What goes on in some blocks alone. -/
structure Turned (P : Nat → Prop) (W W' : World) : Prop where
  os : W'.os = W.os
  tape : W'.tape = W.tape
  output : W'.output = W.output
  size : W.heap.size ≤ W'.heap.size
  block : ∀ j, j < W.heap.size → ¬ P j → W'.heap[j]? = W.heap[j]?
theorem Turned.refl (P : Nat → Prop) (W : World) : Turned P W W := ⟨rfl, rfl, rfl, Nat.le_refl _, fun _ _ _ => rfl⟩
theorem Turned.grown {P : Nat → Prop} {W w w' : World} {row : Option Nat} (h : Turned P W w) (hg : w.grownBy w' row) (hr : ∀ k, row = some k → P k) : Turned P W w' :=
  ⟨hg.os.trans h.os, hg.tape.trans h.tape, hg.output.trans h.output, Nat.le_trans h.size hg.size, fun j hj hn => (hg.block j (Nat.lt_of_lt_of_le hj h.size) (fun e => hn (hr j e.symm))).trans (h.block j hj hn)⟩
theorem Since.turned {P : Nat → Prop} {B : Nat} {w0 w w' : World} (h : Since B w0 w) (ht : Turned P w w') (hP : ∀ k, P k → B ≤ k) : Since B w0 w' :=
  ⟨⟨ht.os.trans h.1.os, ht.tape.trans h.1.tape, ht.output.trans h.1.output, Nat.le_trans h.1.size ht.size, fun j hj => (ht.block j (Nat.lt_of_lt_of_le hj h.2) (fun hp => by have := hP j hp; omega)).trans (h.1.block j hj)⟩, Nat.le_trans h.2 ht.size⟩
theorem rowTurned {P : Nat → Prop} {W W' : World} {B : Nat} {e : TypeId} {size n : Nat} {v : Value} {xs : List Value} (h : W.ownsRow B e size v n xs) (ht : Turned P W W') (hne : ∀ k, v.ownBlock = some k → ¬ P k) : W'.ownsRow B e size v n xs :=
  rowSame h fun k hk => ht.block k (World.ownsRow.lt h k hk).2 (hne k hk)

/-- The slice v reads as the lists zss. -/
def ReadsSS (W : World) (v : Value) (zss : List (List Int)) : Prop :=
  ∃ (a : Option Addr) (cap : Nat), v = .slice a zss.length cap ∧ (zss = [] ∨ ∃ g off, a = some ⟨g, off, none⟩ ∧ g < W.heap.size ∧ ∀ j (hj : j < zss.length), ∃ u, W.cell? ⟨g, off + j, none⟩ = some u ∧ Reads W u zss[j])
theorem ReadsSS.shape {W : World} {v : Value} {zss : List (List Int)} (h : ReadsSS W v zss) : ∃ a cap, v = .slice a zss.length cap := by obtain ⟨a, cap, hv, -⟩ := h; exact ⟨a, cap, hv⟩
theorem ReadsSS.below {W W' : World} {v : Value} {zss : List (List Int)} (h : ReadsSS W v zss) (hb : Below W.heap.size W W') : ReadsSS W' v zss := by
  obtain ⟨a, cap, hv, hc⟩ := h
  refine ⟨a, cap, hv, hc.imp id ?_⟩
  rintro ⟨g, off, ha, hg, hcell⟩
  refine ⟨g, off, ha, Nat.lt_of_lt_of_le hg hb.size, fun j hj => ?_⟩
  obtain ⟨u, h1, h2⟩ := hcell j hj
  exact ⟨u, (hb.cell (p := ⟨g, off + j, none⟩) hg).trans h1, h2.below hb⟩

theorem infoSS : (Try.prog.info? 60).map (fun i => (i.zero, i.size, i.bytes)) = some (some (.slice none 0 0), 1, 24) := by kernel_rfl

/-- The slice v owns the lists zss, the inner ones vs, no two of them one block. -/
structure OwnSS (W : World) (B : Nat) (v : Value) (vs : List Value) (zss : List (List Int)) : Prop where
  len : vs.length = zss.length
  row : W.ownsRow B 60 1 v vs.length vs
  inner : ∀ j (hj : j < vs.length), Own W B vs[j] (zss[j]'(by omega))
  apart : ∀ i j (hi : i < vs.length) (hj : j < vs.length), i ≠ j → ∀ k, vs[i].ownBlock = some k → vs[j].ownBlock ≠ some k
theorem OwnSS.below {W W' : World} {B : Nat} {v : Value} {vs : List Value} {zss : List (List Int)} (h : OwnSS W B v vs zss) (hb : Below W.heap.size W W') : OwnSS W' B v vs zss :=
  ⟨h.len, rowBelow h.row hb, fun j hj => (h.inner j hj).below hb, h.apart⟩
theorem OwnSS.mono {W : World} {B B' : Nat} {v : Value} {vs : List Value} {zss : List (List Int)} (h : OwnSS W B v vs zss) (hB : B' ≤ B) : OwnSS W B' v vs zss :=
  ⟨h.len, rowMono h.row hB, fun j hj => (h.inner j hj).mono hB, h.apart⟩
theorem OwnSS.shape {W : World} {B : Nat} {v : Value} {vs : List Value} {zss : List (List Int)} (h : OwnSS W B v vs zss) : ∃ a cap, v = .slice a zss.length cap := by
  obtain ⟨a, cap, hv⟩ := rowShape h.row
  exact ⟨a, cap, by rw [hv, h.len]⟩
theorem OwnSS.reads {W : World} {B : Nat} {v : Value} {vs : List Value} {zss : List (List Int)} (h : OwnSS W B v vs zss) : ReadsSS W v zss := by
  have h' := h.row
  rcases h.row.2 with ⟨hv, hn⟩ | ⟨g, cap, cur, hv, hB, hg, -⟩
  · have : zss = [] := List.eq_nil_of_length_eq_zero (by rw [← h.len]; exact hn)
    exact ⟨none, 0, by rw [hv, this]; rfl, .inl this⟩
  · rw [hv] at h'
    refine ⟨_, cap, by rw [hv, h.len], .inr ⟨g, 0, rfl, (Array.getElem?_eq_some_iff.1 hg).1, fun j hj => ?_⟩⟩
    have hj' : j < vs.length := by rw [h.len]; exact hj
    refine ⟨vs[j], ?_, (h.inner j hj').reads⟩
    rw [Nat.zero_add, World.ownsRow.cellAt h' j (by omega), List.getElem?_eq_getElem hj']
/-- The blocks of the inner lists. -/
def InSS (vs : List Value) (b : Nat) : Prop := ∃ j, ∃ hj : j < vs.length, vs[j].ownBlock = some b
theorem OwnSS.inLt {W : World} {B : Nat} {v : Value} {vs : List Value} {zss : List (List Int)} (h : OwnSS W B v vs zss) (b : Nat) (hb : InSS vs b) : B ≤ b ∧ b < W.heap.size := by
  obtain ⟨j, hj, hk⟩ := hb
  exact World.ownsRow.lt (h.inner j hj) b hk

/-- What lists of lists leave of a measure. -/
def szL : List (List Int) → Int → Int
  | [], left => left
  | zs :: r, left => if (zs.length : Int) ≤ left then szL r (left - zs.length) else -1
def szSS (zss : List (List Int)) (left : Int) : Int := if (zss.length : Int) ≤ left then szL zss (left - zss.length) else -1
theorem szL_all : ∀ (zss : List (List Int)) (left : Int), left ≤ 1048576 → ¬ szL zss left < 0 → ∀ j (hj : j < zss.length), zss[j].length ≤ 1048576
  | zs :: r, left, hl, h, 0, _ => by
    unfold szL at h
    split at h
    · next hle => show zs.length ≤ _; omega
    · omega
  | zs :: r, left, hl, h, j + 1, hj => by
    unfold szL at h
    split at h
    · next hle => exact szL_all r _ (by omega) h j (by simpa using hj)
    · omega

set_option maxRecDepth 100000 in
set_option maxHeartbeats 2000000 in
theorem szSS_any (W : World) (v : Value) (zss : List (List Int)) (left : Int) (h : ReadsSS W v zss) (hl : zss.length ≤ maxLen) (hin : ∀ j (hj : j < zss.length), zss[j].length ≤ maxLen) (h0 : 0 ≤ left) (h1 : left ≤ 1048576) :
    Calls Try.prog 21 #[v, .int .i64 left] W fun e W' => e = .returned (.int .i64 (szSS zss left)) ∧ W' = W := by
  obtain ⟨a1, c1, rfl, hc1⟩ := h
  unfold maxLen at hl
  by_cases hle : (zss.length : Int) ≤ left
  · have HE : Hid (szSS zss left = szL zss (left - zss.length)) := by show _ = _; unfold szSS; rw [if_pos hle]
    have e : ¬ (left - (zss.length : Int) < 0) := by omega
    rw [HE.out]
    rcases hc1 with hz | ⟨g, o, rfl, -, hcell⟩
    · subst hz
      simp only [List.length_nil] at *
      clear HE
      go_enter Try.func21, Try.ntmps21
      go_wp2
      refine wp_loop_rounds 1 ?_
      rw [rounds_succ]
      go_wp2
      go_ret
      exact ⟨by simp [szL], rfl⟩
    · have HC : Hid (∀ j (hj : j < zss.length), ∃ u, W.cell? ⟨g, o + j, none⟩ = some u ∧ Reads W u zss[j]) := hcell
      have HM : Hid (∀ j (hj : j < zss.length), zss[j].length ≤ maxLen) := hin
      clear hcell hin HE
      go_enter Try.func21, Try.ntmps21
      go_wp2
      go_loopw [1, 5] (fun x i wr => ∃ (k : Nat) (lf : Int), k ≤ zss.length ∧ i = .int .i64 k ∧ x = .int .i64 lf ∧ 0 ≤ lf ∧ lf ≤ 1048576 ∧ Hid (szL zss (left - zss.length) = szL (zss.drop k) lf) ∧ wr = W) (fun _ i _ => zss.length - (intOf i).toNat)
      case atStart => exact ⟨0, _, Nat.zero_le _, rfl, rfl, by omega, by omega, rfl, rfl⟩
      case round =>
        obtain ⟨k, lf, hk, rfl, rfl, hlf0, hlf1, HK, rfl⟩ := hrel
        by_cases hlt : k < zss.length
        · have hlt' : (k : Int) < (zss.length : Int) := by omega
          obtain ⟨u, hu, hru⟩ := HC.out k hlt
          have CZ : Hid (Calls Try.prog 47 #[u, .int .i64 lf] wr fun e W' => e = .returned (.int .i64 (if (zss[k].length : Int) ≤ lf then lf - zss[k].length else -1)) ∧ W' = wr) := by
            obtain ⟨a2, c2, rfl⟩ := hru.shape
            have hm := HM.out k hlt
            unfold maxLen at hm
            clear HC HK hu
            by_cases hle2 : (zss[k].length : Int) ≤ lf
            · show Calls _ _ _ _ _
              rw [if_pos hle2]
              have e : ¬ (lf - (zss[k].length : Int) < 0) := by omega
              generalize zss[k].length = m at *
              go_enter Try.func47, Try.ntmps47
              go_wp2
              go_ret
              exact ⟨rfl, rfl⟩
            · show Calls _ _ _ _ _
              rw [if_neg hle2]
              have e : lf - (zss[k].length : Int) < 0 := by omega
              generalize zss[k].length = m at *
              go_enter Try.func47, Try.ntmps47
              go_wp2
              go_ret
              exact ⟨rfl, rfl⟩
          have HD : Hid (szL (zss.drop k) lf = if (zss[k].length : Int) ≤ lf then szL (zss.drop (k + 1)) (lf - zss[k].length) else -1) := by
            show _ = _
            rw [List.drop_eq_getElem_cons hlt]
            rfl
          generalize zss[k].length = m at *
          by_cases hle2 : (m : Int) ≤ lf
          · have HK1 : Hid (szL zss (left - zss.length) = szL (zss.drop (k + 1)) (lf - m)) := by show _ = _; rw [HK.out, HD.out, if_pos hle2]
            rw [if_pos hle2] at CZ
            have e2 : ¬ (lf - (m : Int) < 0) := by omega
            clear HK HD hru
            go_wp2_with fail
            refine CZ.out.mono ?_
            rintro e w1 ⟨rfl, rfl⟩
            go_wp2
            go_roundw
            case rel => exact ⟨k + 1, _, by omega, by go_num, rfl, by omega, by omega, HK1, trivial⟩
            case measure => simp [intOf]; omega
          · have HF : Hid (-1 = szL zss (left - zss.length)) := by show _ = _; rw [HK.out, HD.out, if_neg hle2]
            rw [if_neg hle2] at CZ
            clear HK HD hru
            go_wp2_with fail
            refine CZ.out.mono ?_
            rintro e w1 ⟨rfl, rfl⟩
            go_wp2
            go_ret
            exact ⟨by rw [← HF.out]; rfl, rfl⟩
        · have hlt' : ¬ (k : Int) < (zss.length : Int) := by omega
          have HF : Hid (lf = szL zss (left - zss.length)) := by show _ = _; rw [HK.out, List.drop_eq_nil_of_le (by omega)]; rfl
          clear HK
          go_wp2
          go_ret
          exact ⟨by rw [← HF.out]; rfl, rfl⟩
  · have HE : Hid (szSS zss left = -1) := by show _ = _; unfold szSS; rw [if_neg hle]
    have e : left - (zss.length : Int) < 0 := by omega
    rw [HE.out]
    clear hc1 hin
    go_enter Try.func21, Try.ntmps21
    go_wp2
    go_ret
    exact ⟨rfl, rfl⟩

theorem make_SS (n : Nat) (hn : n ≤ 4194304) (w : World) : ∃ W1 : World,
    (Instr.makeSlice 22 (.int .i64 (n : Int)) (.int .i64 (n : Int))).run Try.prog w = .ok (.slice (some ⟨w.heap.size, 0, none⟩) n n) W1 ∧
    W1.ownsRow w.heap.size 60 1 (.slice (some ⟨w.heap.size, 0, none⟩) n n) n (List.replicate n (.slice none 0 0)) ∧ Below w.heap.size w W1 ∧ w.heap.size < W1.heap.size := by
  obtain ⟨i0, hi, hz0, hz1, hz2⟩ := info_parts infoSS
  obtain ⟨w', hr, ho, hg⟩ := run_make_full (P := Try.prog) w w.heap.size 22 60 i0 (.slice none 0 0) 1 Try.underlying22 hi hz0 hz1 .i64 .i64 n (by rw [hz2]; omega) (by unfold maxLen; omega) (Nat.le_refl _)
  have hlt := (World.ownsRow.lt ho w.heap.size rfl).2
  refine ⟨w', hr, ?_, (Below.refl _ w).grown hg (Nat.le_refl _) (fun k hk => by cases hk), hlt⟩
  have e := toList_madeCells_one (.slice none 0 0) n
  simp only [Nat.mul_one] at ho
  rw [show (Value.slice none 0 0).cells = #[Value.slice none 0 0] from rfl, e] at ho
  exact ho

def HasSS (W : World) (B : Nat) (v : Value) (zss : List (List Int)) : Prop := ∃ vs, OwnSS W B v vs zss

/-- The rows that are copied so far: the first ones, and nil ones behind them. -/
structure PartSS (W : World) (H n : Nat) (us : List Value) (zss : List (List Int)) (k : Nat) : Prop where
  len : us.length = k
  row : W.ownsRow H 60 1 (.slice (some ⟨H, 0, none⟩) n n) n (us ++ List.replicate (n - k) (.slice none 0 0))
  inner : ∀ j (hj : j < us.length) (hz : j < zss.length), Own W (H + 1) us[j] zss[j]
  apart : ∀ i j (hi : i < us.length) (hj : j < us.length), i ≠ j → ∀ b, us[i].ownBlock = some b → us[j].ownBlock ≠ some b

set_option maxRecDepth 100000 in
set_option maxHeartbeats 4000000 in
theorem toSS_any (W : World) (v : Value) (zss : List (List Int)) (h : ReadsSS W v zss) (hl : zss.length ≤ 4194304) (hin : ∀ j (hj : j < zss.length), zss[j].length ≤ 4194304) :
    Calls Try.prog 26 #[v] W fun e W' => ∃ v', e = .returned v' ∧ HasSS W' W.heap.size v' zss ∧ Below W.heap.size W W' := by
  obtain ⟨a1, cap1, rfl, hc1⟩ := h
  obtain ⟨W1, hmake, ho, hb, hlt⟩ := make_SS zss.length hl W
  obtain ⟨H, hH⟩ : ∃ H, H = W.heap.size := ⟨_, rfl⟩
  rw [← hH] at hmake ho hb hlt ⊢
  have HB : Hid (Below H W W1) := hb
  have HO : Hid (PartSS W1 H zss.length [] zss 0) := ⟨rfl, by simpa using ho, fun j hj => absurd hj (Nat.not_lt_zero _), fun i j hi => absurd hi (Nat.not_lt_zero _)⟩
  have HHW : Hid (H = W.heap.size) := hH
  have HLT : Hid (H < W1.heap.size) := hlt
  have HIN : Hid (∀ j (hj : j < zss.length), zss[j].length ≤ 4194304) := hin
  clear ho hb hH hlt hin
  rcases hc1 with hz | ⟨g1, o1, rfl, hg1, hc1⟩
  · subst hz
    simp only [List.length_nil] at *
    have hm0 : (Instr.makeSlice 22 (.int .i64 0) (.int .i64 0)).run Try.prog W = .ok (.slice (some ⟨H, 0, none⟩) 0 0) W1 := hmake
    clear hmake
    go_enter Try.func26, Try.ntmps26
    go_wp2
    refine wp_loop_rounds 1 ?_
    rw [rounds_succ]
    go_wp2
    go_ret
    exact ⟨_, rfl, ⟨[], rfl, by simpa using HO.out.row, fun j hj => absurd hj (Nat.not_lt_zero _), fun i j hi => absurd hi (Nat.not_lt_zero _)⟩, HB.out⟩
  · have HC1 : Hid (∀ wr, Below H W wr → ∀ j (hj : j < zss.length), ∃ u, wr.cell? ⟨g1, o1 + j, none⟩ = some u ∧ Reads wr u zss[j]) := fun wr hS j hj => by
      have hS' : Below W.heap.size W wr := by rw [← HHW.out]; exact hS
      obtain ⟨u, h1, h2⟩ := hc1 j hj
      exact ⟨u, (hS'.cell (p := ⟨g1, o1 + j, none⟩) hg1).trans h1, h2.below hS'⟩
    clear hc1
    go_enter Try.func26, Try.ntmps26
    go_wp2
    go_loopw [4] (fun i wr => ∃ k : Nat, k ≤ zss.length ∧ i = .int .i64 k ∧ Hid (∃ us, PartSS wr H zss.length us zss k ∧ Below H W wr ∧ H < wr.heap.size)) (fun i _ => zss.length - (intOf i).toNat)
    case atStart => exact ⟨0, Nat.zero_le _, rfl, [], HO.out, HB.out, HLT.out⟩
    case round =>
      obtain ⟨k, hk, rfl, HK⟩ := hrel
      obtain ⟨us, hps, hbr, hHr⟩ := HK.out
      by_cases hlt2 : k < zss.length
      · obtain ⟨u, hu, hru⟩ := HC1.out wr hbr k hlt2
        have hlt' : (k : Int) < (zss.length : Int) := by omega
        have HP : Hid (PartSS wr H zss.length us zss k) := hps
        have HBR : Hid (Below H W wr) := hbr
        have HHR : Hid (H < wr.heap.size) := hHr
        have HRU : Hid (Reads wr u zss[k]) := hru
        clear hps hbr hHr hru HK
        go_wp2_with fail
        refine (toInts_any _ _ zss[k] HRU.out (HIN.out k hlt2)).mono ?_
        rintro e w2 ⟨v2, rfl, ho2, hb2⟩
        have hr2 := rowBelow HP.out.row hb2
        obtain ⟨d0, f0⟩ : ∃ c, w2.cell? ⟨H, k, none⟩ = some c := ⟨_, by rw [World.ownsRow.cellAt hr2 k (by omega)]; exact List.getElem?_eq_getElem (by have := HP.out.len; simp; omega)⟩
        have fz0 := World.ownsRow.frozenAt hr2 k
        have HN : Hid (∃ us', PartSS (w2.setCell ⟨H, k, none⟩ v2) H zss.length us' zss (k + 1) ∧ Below H W (w2.setCell ⟨H, k, none⟩ v2) ∧ H < (w2.setCell ⟨H, k, none⟩ v2).heap.size) := by
          have hlen := HP.out.len
          have hset : (us ++ List.replicate (zss.length - k) (Value.slice none 0 0)).set k v2 = (us ++ [v2]) ++ List.replicate (zss.length - (k + 1)) (.slice none 0 0) := by
            have e : zss.length - k = (zss.length - (k + 1)) + 1 := by omega
            rw [e, List.replicate_succ, List.set_append_right _ _ (by omega), hlen, Nat.sub_self, List.set_cons_zero, List.append_assoc]
            rfl
          have hst := (World.ownsRow.stored hr2 k v2).1
          rw [hset] at hst
          have hHH : H + 1 ≤ wr.heap.size := HHR.out
          have hkeep : ∀ b, b ≠ H → (w2.setCell ⟨H, k, none⟩ v2).heap[b]? = w2.heap[b]? := fun b hb => Below.heap_setCell _ _ _ _ hb
          refine ⟨us ++ [v2], ⟨by simp; omega, hst, fun j hj hz => ?_, fun i j hi hj hij b hb hb2' => ?_⟩, ?_, ?_⟩
          · by_cases e : j = k
            · subst e
              rw [List.getElem_append_right (by omega)]
              simp only [hlen, Nat.sub_self, List.getElem_cons_zero]
              have := ho2.mono hHH
              exact rowSame this fun b hb => hkeep b (by have := (World.ownsRow.lt this b hb).1; omega)
            · have hj' : j < us.length := by simp at hj; omega
              rw [List.getElem_append_left hj']
              have := (HP.out.inner j hj' hz).below hb2
              exact rowSame this fun b hb => hkeep b (by have := (World.ownsRow.lt this b hb).1; omega)
          · by_cases ei : i = k
            · subst ei
              have hj' : j < us.length := by simp at hj; omega
              rw [List.getElem_append_right (by omega)] at hb
              simp only [hlen, Nat.sub_self, List.getElem_cons_zero] at hb
              rw [List.getElem_append_left hj'] at hb2'
              have h1 := (World.ownsRow.lt ho2 b hb).1
              have h2 := (World.ownsRow.lt (HP.out.inner j hj' (by omega)) b hb2').2
              omega
            · have hi' : i < us.length := by simp at hi; omega
              rw [List.getElem_append_left hi'] at hb
              by_cases ej : j = k
              · subst ej
                rw [List.getElem_append_right (by omega)] at hb2'
                simp only [hlen, Nat.sub_self, List.getElem_cons_zero] at hb2'
                have h1 := (World.ownsRow.lt ho2 b hb2').1
                have h2 := (World.ownsRow.lt (HP.out.inner i hi' (by omega)) b hb).2
                omega
              · have hj' : j < us.length := by simp at hj; omega
                rw [List.getElem_append_left hj'] at hb2'
                exact HP.out.apart i j hi' hj' hij b hb hb2'
          · exact (HBR.out.trans (hb2.mono (Nat.le_of_lt HHR.out))).setCell (Nat.le_refl _) _
          · have := Nat.lt_of_lt_of_le HHR.out hb2.size
            simpa [World.setCell] using this
        obtain ⟨a2, c2, rfl⟩ := ho2.shape
        clear ho2 hb2 hr2 HP
        go_wp2
        go_roundw
        case rel => exact ⟨k + 1, by omega, by go_num, HN.out⟩
        case measure => simp [intOf]; omega
      · have hlt' : ¬ (k : Int) < (zss.length : Int) := by omega
        have e : k = zss.length := by omega
        subst e
        have HFIN : Hid (OwnSS wr H (.slice (some ⟨H, 0, none⟩) zss.length zss.length) us zss ∧ Below H W wr) := by
          have hlen := hps.len
          refine ⟨⟨hlen, by have := hps.row; rw [hlen]; simpa using this, fun j hj => ((hps.inner j hj (by omega)).mono (by omega)), hps.apart⟩, hbr⟩
        clear HK hps hbr hHr
        go_wp2
        go_ret
        exact ⟨_, rfl, ⟨us, HFIN.out.1⟩, HFIN.out.2⟩

set_option maxRecDepth 100000 in
set_option maxHeartbeats 2000000 in
theorem eqSS_same (W : World) (v1 v2 : Value) (zss : List (List Int)) (h1 : ReadsSS W v1 zss) (h2 : ReadsSS W v2 zss) (hl : zss.length ≤ 4194304) (hin : ∀ j (hj : j < zss.length), zss[j].length ≤ 4194304) :
    Calls Try.prog 31 #[v1, v2] W fun e W' => e = .returned (.bool true) ∧ Below W.heap.size W W' := by
  obtain ⟨a1, cap1, rfl, hc1⟩ := h1
  obtain ⟨a2, cap2, rfl, hc2⟩ := h2
  by_cases hz : zss = []
  · subst hz
    simp only [List.length_nil]
    clear hc1 hc2
    go_enter Try.func31, Try.ntmps31
    go_wp2
    refine wp_loop_rounds 1 ?_
    rw [rounds_succ]
    go_wp2
    go_ret
    exact ⟨rfl, Below.refl _ _⟩
  · obtain ⟨g1, o1, rfl, hg1, hc1⟩ := hc1.resolve_left hz
    obtain ⟨g2, o2, rfl, hg2, hc2⟩ := hc2.resolve_left hz
    have HC1 : Hid (∀ W1, Since W.heap.size W W1 → ∀ j (hj : j < zss.length), ∃ u, W1.cell? ⟨g1, o1 + j, none⟩ = some u ∧ Reads W1 u zss[j]) := fun W1 hS j hj => by
      obtain ⟨u, h1, h2⟩ := hc1 j hj
      exact ⟨u, (hS.1.cell (p := ⟨g1, o1 + j, none⟩) hg1).trans h1, h2.below hS.1⟩
    have HC2 : Hid (∀ W1, Since W.heap.size W W1 → ∀ j (hj : j < zss.length), ∃ u, W1.cell? ⟨g2, o2 + j, none⟩ = some u ∧ Reads W1 u zss[j]) := fun W1 hS j hj => by
      obtain ⟨u, h1, h2⟩ := hc2 j hj
      exact ⟨u, (hS.1.cell (p := ⟨g2, o2 + j, none⟩) hg2).trans h1, h2.below hS.1⟩
    have HS0 : Hid (Since W.heap.size W W) := Since.start W
    have HIN : Hid (∀ j (hj : j < zss.length), zss[j].length ≤ 4194304) := hin
    clear hc1 hc2 hz hin
    go_enter Try.func31, Try.ntmps31
    go_wp2
    go_loopw [5] (fun i wr => ∃ k : Nat, k ≤ zss.length ∧ i = .int .i64 k ∧ Hid (Since W.heap.size W wr)) (fun i _ => zss.length - (intOf i).toNat)
    case atStart => exact ⟨0, Nat.zero_le _, rfl, HS0⟩
    case round =>
      obtain ⟨k, hk, rfl, HS⟩ := hrel
      by_cases hlt : k < zss.length
      · obtain ⟨u1, q1, hr1⟩ := HC1.out wr HS.out k hlt
        obtain ⟨u2, q2, hr2⟩ := HC2.out wr HS.out k hlt
        have HR1 : Hid (Reads wr u1 zss[k]) := hr1
        have HR2 : Hid (Reads wr u2 zss[k]) := hr2
        have HCE : Hid (∀ w', Since wr.heap.size wr w' → Calls Try.prog 66 #[u1, u2] w' fun e W' => e = .returned (.bool true) ∧ Below w'.heap.size w' W') := fun w' hs => eqIs_same w' u1 u2 zss[k] (HR1.out.below hs.1) (HR2.out.below hs.1) (HIN.out k hlt)
        have hlt' : (k : Int) < (zss.length : Int) := by omega
        clear hr1 hr2
        go_wp2
        go_region_with (go_at_call 66; refine (HCE.out _ (Since.start wr).drew).mono ?_; rintro e w1 ⟨rfl, hb⟩)
        all_goals
          have HS1 : Hid (Since W.heap.size W w1) := HS.out.drew.step hb
          clear hb
          go_wp2
          go_roundw
          case rel => exact ⟨k + 1, by omega, by go_num, HS1⟩
          case measure => simp [intOf]; omega
      · have hlt' : ¬ (k : Int) < (zss.length : Int) := by omega
        go_wp2
        go_ret
        exact ⟨rfl, HS.out.1⟩

/-- How many numbers there are. -/
def sumL (zss : List (List Int)) (k : Nat) : Nat := ((zss.take k).map List.length).sum
theorem szL_sum : ∀ (zss : List (List Int)) (left : Int), 0 ≤ left → left ≤ 1048576 → ¬ szL zss left < 0 → ∀ k, (sumL zss k : Int) ≤ left
  | [], left, h0, hl, h, k => by simp [sumL]; exact h0
  | zs :: r, left, h0, hl, h, 0 => by simp [sumL]; exact h0
  | zs :: r, left, h0, hl, h, k + 1 => by
    unfold szL at h
    split at h
    · next hle =>
      have ih := szL_sum r (left - zs.length) (by omega) (by omega) h k
      have e : sumL (zs :: r) (k + 1) = zs.length + sumL r k := by simp [sumL]
      omega
    · omega
theorem szSS_fit (zss : List (List Int)) (left : Int) (hl : left ≤ 1048576) (h : ¬ szSS zss left < 0) : zss.length ≤ 1048576 ∧ (∀ j (hj : j < zss.length), zss[j].length ≤ 1048576) ∧ ∀ k, k ≤ zss.length → sumL zss k ≤ 1048576 := by
  unfold szSS at h
  split at h
  · next hle => exact ⟨by omega, szL_all zss _ (by omega) h, fun k _ => by have := szL_sum zss _ (by omega) (by omega) h k; omega⟩
  · omega
theorem sumL_next (zss : List (List Int)) (k : Nat) (h : k < zss.length) : sumL zss (k + 1) = sumL zss k + zss[k].length := by
  unfold sumL
  rw [List.take_succ_eq_append_getElem h, List.map_append, List.sum_append]
  simp

set_option maxRecDepth 100000 in
set_option maxHeartbeats 2000000 in
theorem markSS_any (W : World) (B : Nat) (v : Value) (vs : List Value) (zss : List (List Int)) (k0 : Nat) (h : OwnSS W B v vs zss) (hl : zss.length ≤ 4194304) (hsum : ∀ k, k ≤ zss.length → sumL zss k ≤ 2097152) (hk1 : k0 ≤ 100000000) :
    Calls Try.prog 33 #[v, .int .i64 (k0 : Int)] W fun e W' => e = .returned (.int .i64 ((k0 + sumL zss zss.length : Nat) : Int)) ∧ Turned (InSS vs) W W' := by
  have HT0 : Hid (Turned (InSS vs) W W) := Turned.refl _ _
  have HLEN : Hid (vs.length = zss.length) := h.len
  have HAP : Hid (∀ i j (hi : i < vs.length) (hj : j < vs.length), i ≠ j → ∀ k, vs[i].ownBlock = some k → vs[j].ownBlock ≠ some k) := h.apart
  have HIN : Hid (∀ j (hj : j < vs.length), Own W B vs[j] (zss[j]'(by rw [← HLEN.out]; exact hj))) := h.inner
  have hro := h.row
  clear h
  rcases hro.2 with ⟨hv, hn⟩ | ⟨g, cap1, cur, hv, hB, hg, -⟩
  · have hz : zss = [] := List.eq_nil_of_length_eq_zero (by rw [← HLEN.out]; exact hn)
    subst hz hv
    clear hro
    go_enter Try.func33, Try.ntmps33
    go_wp2
    refine wp_loop_rounds 1 ?_
    rw [rounds_succ]
    go_wp2
    go_ret
    exact ⟨by simp [sumL], HT0.out⟩
  · rw [HLEN.out] at hv
    subst hv
    have HRO : Hid (W.ownsRow B 60 1 (.slice (some ⟨g, 0, none⟩) vs.length cap1) vs.length vs) := by rw [HLEN.out]; rw [HLEN.out] at hro; exact hro
    have HSM : Hid (∀ k, k ≤ zss.length → sumL zss k ≤ 2097152) := hsum
    clear hg hro hsum
    go_enter Try.func33, Try.ntmps33
    go_wp2
    go_loopw [1, 5] (fun x i wr => ∃ k : Nat, k ≤ zss.length ∧ i = .int .i64 k ∧ x = .int .i64 ((k0 + sumL zss k : Nat) : Int) ∧ Hid (Turned (InSS vs) W wr ∧ ∀ j (hj : j < vs.length), k ≤ j → Own wr B vs[j] (zss[j]'(by rw [← HLEN.out]; exact hj)))) (fun _ i _ => zss.length - (intOf i).toNat)
    case atStart => exact ⟨0, Nat.zero_le _, rfl, rfl, HT0.out, fun j hj _ => HIN.out j hj⟩
    case round =>
      obtain ⟨k, hk, rfl, rfl, HK⟩ := hrel
      by_cases hlt : k < zss.length
      · have hlt' : (k : Int) < (zss.length : Int) := by omega
        have hkv : k < vs.length := by rw [HLEN.out]; exact hlt
        have hout : ∀ b, InSS vs b → b ≠ g := fun b ⟨j, hj, hb⟩ e => rowsApart (HIN.out j hj) HRO.out (by decide) b hb (by rw [e]; rfl)
        have c0 : wr.cell? ⟨g, k, none⟩ = some vs[k] := by
          rw [World.cell?_of_block (HK.out.1.block g (World.ownsRow.lt HRO.out g rfl).2 (fun hp => hout g hp rfl)), World.ownsRow.cellAt HRO.out k (by omega), List.getElem?_eq_getElem hkv]
        have ho := HK.out.2 k hkv (Nat.le_refl _)
        have hsk := HSM.out k hk
        have hsn := HSM.out (k + 1) hlt
        rw [sumL_next zss k hlt] at hsn
        have CM : Hid (Calls Try.prog 68 #[vs[k], .int .i64 ((k0 + sumL zss k : Nat) : Int)] wr fun e W' => e = .returned (.int .i64 ((k0 + sumL zss (k + 1) : Nat) : Int)) ∧ wr.grownBy W' vs[k].ownBlock) := by
          refine (markIs_any wr B vs[k] (k0 + sumL zss k) zss[k] ho (by omega) (by omega)).mono ?_
          rintro e w' ⟨rfl, -, -, hgr⟩
          exact ⟨by rw [sumL_next zss k hlt]; congr 2; omega, hgr⟩
        have HVK : Hid (∀ b, vs[k].ownBlock = some b → InSS vs b) := fun b hb => ⟨k, hkv, hb⟩
        have HKK : Hid (∀ w', wr.grownBy w' vs[k].ownBlock → ∀ j (hj : j < vs.length), k + 1 ≤ j → Own w' B vs[j] (zss[j]'(by rw [← HLEN.out]; exact hj))) := fun w' hgr j hj hkj => rowGrow (HK.out.2 j hj (by omega)) hgr (fun b hb => HAP.out k j hkv hj (by omega) b hb)
        obtain ⟨av, cv, hav⟩ := ho.shape
        rw [hav] at c0 CM HVK HKK
        generalize zss[k].length = m at *
        generalize hs1 : k0 + sumL zss k = s1 at *
        generalize hs2 : k0 + sumL zss (k + 1) = s2 at *
        clear ho hav hout hs1
        go_wp2_with fail
        refine CM.out.mono ?_
        rintro e w1 ⟨rfl, hgr⟩
        have HT1 : Hid (Turned (InSS vs) W w1 ∧ ∀ j (hj : j < vs.length), k + 1 ≤ j → Own w1 B vs[j] (zss[j]'(by rw [← HLEN.out]; exact hj))) := ⟨HK.out.1.grown hgr HVK.out, HKK.out w1 hgr⟩
        clear hgr HK HKK CM
        go_wp2
        go_roundw
        case rel => exact ⟨k + 1, by omega, by go_num, by rw [hs2], HT1.out.1, HT1.out.2⟩
        case measure => simp [intOf]; omega
      · have hlt' : ¬ (k : Int) < (zss.length : Int) := by omega
        have e : k = zss.length := by omega
        subst e
        go_wp2
        go_ret
        exact ⟨rfl, HK.out.1⟩
end Go.Proofs.Ytkkamigaolejiax
