import Derived.Test.YthlbmkefjjckaadBunA
import Derived.Test.YthlbmkefjjckaadHand
import Derived.Test.YthlbmkefjjckaadGrGrp
/-
  What the laws' walks share: a world that has gone on, rows that are kept, the laws' functions over numbers told as those over structs are.
-/
namespace Go.Proofs.Ythlbmkefjjckaad
open Go.RowKit

theorem Since.grown {B : Nat} {w0 w w' : World} {row : Option Nat} (h : Since B w0 w) (hg : w.grownBy w' row) (hk : ∀ k, row = some k → B ≤ k) : Since B w0 w' :=
  ⟨h.1.grown hg h.2 hk, Nat.le_trans h.2 hg.size⟩
theorem rowGrow {W W' : World} {B : Nat} {e : TypeId} {size n : Nat} {v : Value} {xs : List Value} {row : Option Nat} (h : W.ownsRow B e size v n xs) (hg : W.grownBy W' row) (hne : ∀ k, row = some k → v.ownBlock ≠ some k) : W'.ownsRow B e size v n xs := by
  refine World.ownsRow.kept h hg ?_
  rcases hv : v.ownBlock with _ | k
  · exact .inl rfl
  · exact .inr fun e => hne k e.symm hv
theorem apartSym {v u : Value} (h : ∀ k, v.ownBlock = some k → u.ownBlock ≠ some k) : ∀ k, u.ownBlock = some k → v.ownBlock ≠ some k := fun k hk hv => h k hv hk

end Go.Proofs.Ythlbmkefjjckaad

/-
  Lists of lists of numbers: how they lie in memory, and what the laws' functions over them answer: 'szIntSS', 'toIntSS', 'eqIntSS', 'markIntSS'.
-/
namespace Go.Proofs.Ythlbmkefjjckaad
open Go.RowKit
set_option linter.unusedVariables false

/-- What goes on in some blocks alone. -/
structure Turned (P : Nat → Prop) (W W' : World) : Prop where
  os : W'.os = W.os
  tape : W'.tape = W.tape
  output : W'.output = W.output
  size : W.heap.size ≤ W'.heap.size
  block : ∀ j, j < W.heap.size → ¬ P j → W'.heap[j]? = W.heap[j]?
theorem Turned.refl (P : Nat → Prop) (W : World) : Turned P W W := ⟨rfl, rfl, rfl, Nat.le_refl _, fun _ _ _ => rfl⟩
theorem Turned.grown {P : Nat → Prop} {W w w' : World} {row : Option Nat} (h : Turned P W w) (hg : w.grownBy w' row) (hr : ∀ k, row = some k → P k) : Turned P W w' :=
  ⟨hg.os.trans h.os, hg.tape.trans h.tape, hg.output.trans h.output, Nat.le_trans h.size hg.size, fun j hj hn => (hg.block j (Nat.lt_of_lt_of_le hj h.size) (fun e => hn (hr j e.symm))).trans (h.block j hj hn)⟩
theorem Since.turned {P : Nat → Prop} {B : Nat} {w0 w w' : World} (h : Since B w0 w) (ht : Turned P w w') (hP : ∀ k, P k → B ≤ k) : Since B w0 w' :=
  ⟨⟨ht.os.trans h.1.os, ht.tape.trans h.1.tape, ht.output.trans h.1.output, Nat.le_trans h.1.size ht.size, fun j hj => (ht.block j (Nat.lt_of_lt_of_le hj h.2) (fun hp => by have := hP j hp; omega)).trans (h.1.block j hj)⟩, Nat.le_trans h.2 ht.size⟩
theorem rowTurned {P : Nat → Prop} {W W' : World} {B : Nat} {e : TypeId} {size n : Nat} {v : Value} {xs : List Value} (h : W.ownsRow B e size v n xs) (ht : Turned P W W') (hne : ∀ k, v.ownBlock = some k → ¬ P k) : W'.ownsRow B e size v n xs :=
  rowSame h fun k hk => ht.block k (World.ownsRow.lt h k hk).2 (hne k hk)

/-- The slice v reads as the lists zss. -/
def ReadsSS (W : World) (v : Value) (zss : List (List Int)) : Prop :=
  ∃ (a : Option Addr) (cap : Nat), v = .slice a zss.length cap ∧ (zss = [] ∨ ∃ g off, a = some ⟨g, off, none⟩ ∧ g < W.heap.size ∧ ∀ j (hj : j < zss.length), ∃ u, W.cell? ⟨g, off + j, none⟩ = some u ∧ Reads W u zss[j])
theorem ReadsSS.shape {W : World} {v : Value} {zss : List (List Int)} (h : ReadsSS W v zss) : ∃ a cap, v = .slice a zss.length cap := by obtain ⟨a, cap, hv, -⟩ := h; exact ⟨a, cap, hv⟩
theorem ReadsSS.below {W W' : World} {v : Value} {zss : List (List Int)} (h : ReadsSS W v zss) (hb : Below W.heap.size W W') : ReadsSS W' v zss := by
  obtain ⟨a, cap, hv, hc⟩ := h
  refine ⟨a, cap, hv, hc.imp id ?_⟩
  rintro ⟨g, off, ha, hg, hcell⟩
  refine ⟨g, off, ha, Nat.lt_of_lt_of_le hg hb.size, fun j hj => ?_⟩
  obtain ⟨u, h1, h2⟩ := hcell j hj
  exact ⟨u, (hb.cell (p := ⟨g, off + j, none⟩) hg).trans h1, h2.below hb⟩

theorem infoSS : (Try.prog.info? 26).map (fun i => (i.zero, i.size, i.bytes)) = some (some (.slice none 0 0), 1, 24) := by kernel_rfl

/-- The slice v owns the lists zss, the inner ones vs, no two of them one block. -/
structure OwnSS (W : World) (B : Nat) (v : Value) (vs : List Value) (zss : List (List Int)) : Prop where
  len : vs.length = zss.length
  row : W.ownsRow B 26 1 v vs.length vs
  inner : ∀ j (hj : j < vs.length), Own W B vs[j] (zss[j]'(by omega))
  apart : ∀ i j (hi : i < vs.length) (hj : j < vs.length), i ≠ j → ∀ k, vs[i].ownBlock = some k → vs[j].ownBlock ≠ some k
theorem OwnSS.below {W W' : World} {B : Nat} {v : Value} {vs : List Value} {zss : List (List Int)} (h : OwnSS W B v vs zss) (hb : Below W.heap.size W W') : OwnSS W' B v vs zss :=
  ⟨h.len, rowBelow h.row hb, fun j hj => (h.inner j hj).below hb, h.apart⟩
theorem OwnSS.mono {W : World} {B B' : Nat} {v : Value} {vs : List Value} {zss : List (List Int)} (h : OwnSS W B v vs zss) (hB : B' ≤ B) : OwnSS W B' v vs zss :=
  ⟨h.len, rowMono h.row hB, fun j hj => (h.inner j hj).mono hB, h.apart⟩
theorem OwnSS.shape {W : World} {B : Nat} {v : Value} {vs : List Value} {zss : List (List Int)} (h : OwnSS W B v vs zss) : ∃ a cap, v = .slice a zss.length cap := by
  obtain ⟨a, cap, hv⟩ := rowShape h.row
  exact ⟨a, cap, by rw [hv, h.len]⟩
theorem OwnSS.reads {W : World} {B : Nat} {v : Value} {vs : List Value} {zss : List (List Int)} (h : OwnSS W B v vs zss) : ReadsSS W v zss := by
  have h' := h.row
  rcases h.row.2 with ⟨hv, hn⟩ | ⟨g, cap, cur, hv, hB, hg, -⟩
  · have : zss = [] := List.eq_nil_of_length_eq_zero (by rw [← h.len]; exact hn)
    exact ⟨none, 0, by rw [hv, this]; rfl, .inl this⟩
  · rw [hv] at h'
    refine ⟨_, cap, by rw [hv, h.len], .inr ⟨g, 0, rfl, (Array.getElem?_eq_some_iff.1 hg).1, fun j hj => ?_⟩⟩
    have hj' : j < vs.length := by rw [h.len]; exact hj
    refine ⟨vs[j], ?_, (h.inner j hj').reads⟩
    rw [Nat.zero_add, World.ownsRow.cellAt h' j (by omega), List.getElem?_eq_getElem hj']
/-- The blocks of the inner lists. -/
def InSS (vs : List Value) (b : Nat) : Prop := ∃ j, ∃ hj : j < vs.length, vs[j].ownBlock = some b
theorem OwnSS.inLt {W : World} {B : Nat} {v : Value} {vs : List Value} {zss : List (List Int)} (h : OwnSS W B v vs zss) (b : Nat) (hb : InSS vs b) : B ≤ b ∧ b < W.heap.size := by
  obtain ⟨j, hj, hk⟩ := hb
  exact World.ownsRow.lt (h.inner j hj) b hk

/-- What lists of lists leave of a measure. -/
def szL : List (List Int) → Int → Int
  | [], left => left
  | zs :: r, left => if (zs.length : Int) ≤ left then szL r (left - zs.length) else -1
def szSS (zss : List (List Int)) (left : Int) : Int := if (zss.length : Int) ≤ left then szL zss (left - zss.length) else -1
theorem szL_all : ∀ (zss : List (List Int)) (left : Int), left ≤ 1048576 → ¬ szL zss left < 0 → ∀ j (hj : j < zss.length), zss[j].length ≤ 1048576
  | zs :: r, left, hl, h, 0, _ => by
    unfold szL at h
    split at h
    · next hle => show zs.length ≤ _; omega
    · omega
  | zs :: r, left, hl, h, j + 1, hj => by
    unfold szL at h
    split at h
    · next hle => exact szL_all r _ (by omega) h j (by simpa using hj)
    · omega

theorem make_SS (n : Nat) (hn : n ≤ 4194304) (w : World) : ∃ W1 : World,
    (Instr.makeSlice 55 (.int .i64 (n : Int)) (.int .i64 (n : Int))).run Try.prog w = .ok (.slice (some ⟨w.heap.size, 0, none⟩) n n) W1 ∧
    W1.ownsRow w.heap.size 26 1 (.slice (some ⟨w.heap.size, 0, none⟩) n n) n (List.replicate n (.slice none 0 0)) ∧ Below w.heap.size w W1 ∧ w.heap.size < W1.heap.size := by
  obtain ⟨i0, hi, hz0, hz1, hz2⟩ := info_parts infoSS
  obtain ⟨w', hr, ho, hg⟩ := run_make_full (P := Try.prog) w w.heap.size 55 26 i0 (.slice none 0 0) 1 Try.underlying55 hi hz0 hz1 .i64 .i64 n (by rw [hz2]; omega) (by unfold maxLen; omega) (Nat.le_refl _)
  have hlt := (World.ownsRow.lt ho w.heap.size rfl).2
  refine ⟨w', hr, ?_, (Below.refl _ w).grown hg (Nat.le_refl _) (fun k hk => by cases hk), hlt⟩
  have e := toList_madeCells_one (.slice none 0 0) n
  simp only [Nat.mul_one] at ho
  rw [show (Value.slice none 0 0).cells = #[Value.slice none 0 0] from rfl, e] at ho
  exact ho

def HasSS (W : World) (B : Nat) (v : Value) (zss : List (List Int)) : Prop := ∃ vs, OwnSS W B v vs zss

/-- The rows that are copied so far: the first ones, and nil ones behind them. -/
structure PartSS (W : World) (H n : Nat) (us : List Value) (zss : List (List Int)) (k : Nat) : Prop where
  len : us.length = k
  row : W.ownsRow H 26 1 (.slice (some ⟨H, 0, none⟩) n n) n (us ++ List.replicate (n - k) (.slice none 0 0))
  inner : ∀ j (hj : j < us.length) (hz : j < zss.length), Own W (H + 1) us[j] zss[j]
  apart : ∀ i j (hi : i < us.length) (hj : j < us.length), i ≠ j → ∀ b, us[i].ownBlock = some b → us[j].ownBlock ≠ some b

/-- How many numbers there are. -/
def sumL (zss : List (List Int)) (k : Nat) : Nat := ((zss.take k).map List.length).sum
theorem szL_sum : ∀ (zss : List (List Int)) (left : Int), 0 ≤ left → left ≤ 1048576 → ¬ szL zss left < 0 → ∀ k, (sumL zss k : Int) ≤ left
  | [], left, h0, hl, h, k => by simp [sumL]; exact h0
  | zs :: r, left, h0, hl, h, 0 => by simp [sumL]; exact h0
  | zs :: r, left, h0, hl, h, k + 1 => by
    unfold szL at h
    split at h
    · next hle =>
      have ih := szL_sum r (left - zs.length) (by omega) (by omega) h k
      have e : sumL (zs :: r) (k + 1) = zs.length + sumL r k := by simp [sumL]
      omega
    · omega
theorem szSS_fit (zss : List (List Int)) (left : Int) (hl : left ≤ 1048576) (h : ¬ szSS zss left < 0) : zss.length ≤ 1048576 ∧ (∀ j (hj : j < zss.length), zss[j].length ≤ 1048576) ∧ ∀ k, k ≤ zss.length → sumL zss k ≤ 1048576 := by
  unfold szSS at h
  split at h
  · next hle => exact ⟨by omega, szL_all zss _ (by omega) h, fun k _ => by have := szL_sum zss _ (by omega) (by omega) h k; omega⟩
  · omega
theorem sumL_next (zss : List (List Int)) (k : Nat) (h : k < zss.length) : sumL zss (k + 1) = sumL zss k + zss[k].length := by
  unfold sumL
  rw [List.take_succ_eq_append_getElem h, List.map_append, List.sum_append]
  simp

end Go.Proofs.Ythlbmkefjjckaad

/-
  'joinGroups' writes into the groups alone.
-/
namespace Go.Proofs.Ythlbmkefjjckaad
open Go.RowKit
set_option linter.unusedVariables false

theorem Turned.setT {P : Nat → Prop} {W w : World} (h : Turned P W w) {p : Addr} (hp : P p.block ∨ W.heap.size ≤ p.block) (u : Value) : Turned P W (w.setCell p u) :=
  ⟨h.os, h.tape, h.output, by have := h.size; simpa [World.setCell] using this, fun j hj hn => (Below.heap_setCell _ _ _ _ (fun e => by
    rcases hp with hp | hp
    · exact hn (by rw [e]; exact hp)
    · omega)).trans (h.block j hj hn)⟩
theorem Turned.ofB {P : Nat → Prop} {W W' : World} (h : Below W.heap.size W W') : Turned P W W' := ⟨h.os, h.tape, h.output, h.size, fun j hj _ => h.block j hj⟩
theorem Turned.tran {P : Nat → Prop} {W w w' : World} (h : Turned P W w) (h' : Turned P w w') : Turned P W w' :=
  ⟨h'.os.trans h.os, h'.tape.trans h.tape, h'.output.trans h.output, Nat.le_trans h.size h'.size, fun j hj hn => (h'.block j (Nat.lt_of_lt_of_le hj h.size) hn).trans (h.block j hj hn)⟩
set_option maxRecDepth 100000 in
set_option maxHeartbeats 4000000 in
theorem relabel_walkT (W : World) (B g cap n : Nat) (zs : List Int) (a b : Nat) (x y : Int) (h : Own W B (.slice (some ⟨g, 0, none⟩) zs.length cap) zs) (hB : B ≤ W.heap.size) (hgB : B ≤ g) (hn : zs.length = n) (ha : a < n) (hb : b < n) (hx : zs[a]? = some x) (hy : zs[b]? = some y) (hn12 : n ≤ 12) :
    Calls Try.prog 71 #[.slice (some ⟨g, 0, none⟩) n cap, .int .i64 (a : Int), .int .i64 (b : Int)] W fun e W' => (∃ v, e = .returned v) ∧ Own W' B (.slice (some ⟨g, 0, none⟩) n cap) (relab zs (min x y) (max x y)) ∧ Turned (fun j => j = g) W W' := by
  have HCC : Hid (∀ w' : World, w'.heap = W.heap → w'.cell? ⟨g, a, none⟩ = some (.int .i64 x) ∧ w'.cell? ⟨g, b, none⟩ = some (.int .i64 y)) := fun w' e => by
    have h1 := own_cell h a (by omega)
    have h2 := own_cell h b (by omega)
    rw [List.getElem?_eq_getElem (by omega)] at hx hy
    rw [Option.some.inj hx] at h1
    rw [Option.some.inj hy] at h2
    unfold World.cell? at h1 h2 ⊢
    rw [e]
    exact ⟨h1, h2⟩
  have HZ0' : Hid (∀ p q, Own W.drew B (.slice (some ⟨g, 0, none⟩) n cap) (relTo zs p q 0) ∧ Turned (fun j => j = g) W W.drew) := fun p q => ⟨by rw [relTo_zero, ← hn]; exact h.drew, Turned.ofB (Below.refl _ _).drew⟩
  have HN : Hid (zs.length = n) := hn
  have HG : Hid (B ≤ g) := hgB
  have ha' : (a : Int) < (n : Int) := by omega
  have hb' : (b : Int) < (n : Int) := by omega
  clear h hB hgB hx hy
  rcases Int.lt_trichotomy x y with hlt | hlt | hlt
  · have h1 : x ≤ y := by omega
    have h2 : ¬ y ≤ x := by omega
    rw [Int.min_eq_left h1, Int.max_eq_right h1]
    clear hlt
    have HZ0 : Hid (Own W.drew B (.slice (some ⟨g, 0, none⟩) n cap) (relTo zs x y 0) ∧ Turned (fun j => j = g) W W.drew) := HZ0'.out x y
    go_enter Try.func71, Try.ntmps71
    go_wp2
    refine wp_region_held_drew (S := (fun w' => w'.cell? ⟨g, a, none⟩ = some (.int .i64 x) ∧ w'.cell? ⟨g, b, none⟩ = some (.int .i64 y))) (by kernel_rfl) ?_ (fun hHeld => ?_)
    · exact HCC.out _ rfl
    refine handRead 0 (some 10) (.slice (some ⟨g, 0, none⟩) n cap) rfl rfl (by kernel_rfl) (by kernel_rfl) (by kernel_rfl) (fun _ _ _ h => h) (by kernel_rfl) (by assumption) ?_ ?_
    · intro w hSw
      (try dsimp only at hSw)
      go_simp
    simp only [Act.put, List.setIfInBounds_toArray, List.set_cons_zero, List.set_cons_succ]
    refine handRead 1 (some 11) (.int .i64 a) rfl rfl (by kernel_rfl) (by kernel_rfl) (by kernel_rfl) (fun _ _ _ h => h) (by kernel_rfl) (by assumption) ?_ ?_
    · intro w hSw
      (try dsimp only at hSw)
      go_simp
    simp only [Act.put, List.setIfInBounds_toArray, List.set_cons_zero, List.set_cons_succ]
    refine handRead 2 (some 12) (.pointer (some ⟨g, a, none⟩)) rfl rfl (by kernel_rfl) (by kernel_rfl) (by kernel_rfl) (fun _ _ _ h => h) (by kernel_rfl) (by assumption) ?_ ?_
    · intro w hSw
      (try dsimp only at hSw)
      go_simp
    simp only [Act.put, List.setIfInBounds_toArray, List.set_cons_zero, List.set_cons_succ]
    refine handRead 3 (some 13) (.int .i64 x) rfl rfl (by kernel_rfl) (by kernel_rfl) (by kernel_rfl) (fun _ _ _ h => h) (by kernel_rfl) (by assumption) ?_ ?_
    · intro w hSw
      (try dsimp only at hSw)
      go_simp
    simp only [Act.put, List.setIfInBounds_toArray, List.set_cons_zero, List.set_cons_succ]
    refine handRead 4 (some 14) (.slice (some ⟨g, 0, none⟩) n cap) rfl rfl (by kernel_rfl) (by kernel_rfl) (by kernel_rfl) (fun _ _ _ h => h) (by kernel_rfl) (by assumption) ?_ ?_
    · intro w hSw
      (try dsimp only at hSw)
      go_simp
    simp only [Act.put, List.setIfInBounds_toArray, List.set_cons_zero, List.set_cons_succ]
    refine handRead 5 (some 15) (.int .i64 b) rfl rfl (by kernel_rfl) (by kernel_rfl) (by kernel_rfl) (fun _ _ _ h => h) (by kernel_rfl) (by assumption) ?_ ?_
    · intro w hSw
      (try dsimp only at hSw)
      go_simp
    simp only [Act.put, List.setIfInBounds_toArray, List.set_cons_zero, List.set_cons_succ]
    refine handRead 6 (some 16) (.pointer (some ⟨g, b, none⟩)) rfl rfl (by kernel_rfl) (by kernel_rfl) (by kernel_rfl) (fun _ _ _ h => h) (by kernel_rfl) (by assumption) ?_ ?_
    · intro w hSw
      (try dsimp only at hSw)
      go_simp
    simp only [Act.put, List.setIfInBounds_toArray, List.set_cons_zero, List.set_cons_succ]
    refine handRead 7 (some 17) (.int .i64 y) rfl rfl (by kernel_rfl) (by kernel_rfl) (by kernel_rfl) (fun _ _ _ h => h) (by kernel_rfl) (by assumption) ?_ ?_
    · intro w hSw
      (try dsimp only at hSw)
      go_simp
    simp only [Act.put, List.setIfInBounds_toArray, List.set_cons_zero, List.set_cons_succ]
    refine handRead 8 (some 18) (.int .i64 x) rfl rfl (by kernel_rfl) (by kernel_rfl) (by kernel_rfl) (fun _ _ _ h => h) (by kernel_rfl) (by assumption) ?_ ?_
    · intro w hSw
      (try dsimp only at hSw)
      go_simp
      all_goals (intros; omega)
    simp only [Act.put, List.setIfInBounds_toArray, List.set_cons_zero, List.set_cons_succ]
    refine handRead 9 (some 19) (.slice (some ⟨g, 0, none⟩) n cap) rfl rfl (by kernel_rfl) (by kernel_rfl) (by kernel_rfl) (fun _ _ _ h => h) (by kernel_rfl) (by assumption) ?_ ?_
    · intro w hSw
      (try dsimp only at hSw)
      go_simp
    simp only [Act.put, List.setIfInBounds_toArray, List.set_cons_zero, List.set_cons_succ]
    refine handRead 10 (some 20) (.int .i64 a) rfl rfl (by kernel_rfl) (by kernel_rfl) (by kernel_rfl) (fun _ _ _ h => h) (by kernel_rfl) (by assumption) ?_ ?_
    · intro w hSw
      (try dsimp only at hSw)
      go_simp
    simp only [Act.put, List.setIfInBounds_toArray, List.set_cons_zero, List.set_cons_succ]
    refine handRead 11 (some 21) (.pointer (some ⟨g, a, none⟩)) rfl rfl (by kernel_rfl) (by kernel_rfl) (by kernel_rfl) (fun _ _ _ h => h) (by kernel_rfl) (by assumption) ?_ ?_
    · intro w hSw
      (try dsimp only at hSw)
      go_simp
    simp only [Act.put, List.setIfInBounds_toArray, List.set_cons_zero, List.set_cons_succ]
    refine handRead 12 (some 22) (.int .i64 x) rfl rfl (by kernel_rfl) (by kernel_rfl) (by kernel_rfl) (fun _ _ _ h => h) (by kernel_rfl) (by assumption) ?_ ?_
    · intro w hSw
      (try dsimp only at hSw)
      go_simp
    simp only [Act.put, List.setIfInBounds_toArray, List.set_cons_zero, List.set_cons_succ]
    refine handRead 13 (some 23) (.slice (some ⟨g, 0, none⟩) n cap) rfl rfl (by kernel_rfl) (by kernel_rfl) (by kernel_rfl) (fun _ _ _ h => h) (by kernel_rfl) (by assumption) ?_ ?_
    · intro w hSw
      (try dsimp only at hSw)
      go_simp
    simp only [Act.put, List.setIfInBounds_toArray, List.set_cons_zero, List.set_cons_succ]
    refine handRead 14 (some 24) (.int .i64 b) rfl rfl (by kernel_rfl) (by kernel_rfl) (by kernel_rfl) (fun _ _ _ h => h) (by kernel_rfl) (by assumption) ?_ ?_
    · intro w hSw
      (try dsimp only at hSw)
      go_simp
    simp only [Act.put, List.setIfInBounds_toArray, List.set_cons_zero, List.set_cons_succ]
    refine handRead 15 (some 25) (.pointer (some ⟨g, b, none⟩)) rfl rfl (by kernel_rfl) (by kernel_rfl) (by kernel_rfl) (fun _ _ _ h => h) (by kernel_rfl) (by assumption) ?_ ?_
    · intro w hSw
      (try dsimp only at hSw)
      go_simp
    simp only [Act.put, List.setIfInBounds_toArray, List.set_cons_zero, List.set_cons_succ]
    refine handRead 16 (some 26) (.int .i64 y) rfl rfl (by kernel_rfl) (by kernel_rfl) (by kernel_rfl) (fun _ _ _ h => h) (by kernel_rfl) (by assumption) ?_ ?_
    · intro w hSw
      (try dsimp only at hSw)
      go_simp
    simp only [Act.put, List.setIfInBounds_toArray, List.set_cons_zero, List.set_cons_succ]
    refine handRead 17 (some 27) (.int .i64 y) rfl rfl (by kernel_rfl) (by kernel_rfl) (by kernel_rfl) (fun _ _ _ h => h) (by kernel_rfl) (by assumption) ?_ ?_
    · intro w hSw
      (try dsimp only at hSw)
      go_simp
      all_goals (intros; omega)
    simp only [Act.put, List.setIfInBounds_toArray, List.set_cons_zero, List.set_cons_succ]
    refine handRead 18 (some 6) (.int .i64 x) rfl rfl (by kernel_rfl) (by kernel_rfl) (by kernel_rfl) (fun _ _ _ h => h) (by kernel_rfl) (by assumption) ?_ ?_
    · intro w hSw
      (try dsimp only at hSw)
      go_simp
    simp only [Act.put, List.setIfInBounds_toArray, List.set_cons_zero, List.set_cons_succ]
    refine handRead 19 (some 7) (.int .i64 y) rfl rfl (by kernel_rfl) (by kernel_rfl) (by kernel_rfl) (fun _ _ _ h => h) (by kernel_rfl) (by assumption) ?_ ?_
    · intro w hSw
      (try dsimp only at hSw)
      go_simp
    simp only [Act.put, List.setIfInBounds_toArray, List.set_cons_zero, List.set_cons_succ]
    refine wpAnyH_done (by kernel_rfl) ?_ _
    go_wp2
    go_loopw [30] (fun i wr => ∃ k : Nat, k ≤ zs.length ∧ i = .int .i64 k ∧ Hid (Own wr B (.slice (some ⟨g, 0, none⟩) n cap) (relTo zs x y k) ∧ Turned (fun j => j = g) W wr)) (fun i _ => n - (intOf i).toNat)
    case atStart => exact ⟨0, Nat.zero_le _, rfl, HZ0.out⟩
    case round =>
      clear HZ0
      obtain ⟨k, hk, rfl, HK⟩ := hrel
      by_cases hlt : k < zs.length
      · have hlt' : (k : Int) < (n : Int) := by omega
        have HO := HK.out.1
        have hkn : k < n := by omega
        have c0 : wr.cell? ⟨g, k, none⟩ = some (.int .i64 zs[k]) := by
          have hk2 : k < (relTo zs x y k).length := by rw [relTo_len]; exact hlt
          have e : n = (relTo zs x y k).length := by rw [relTo_len]; exact HN.out.symm
          rw [e] at HO
          rw [own_cell HO k hk2]
          have := relTo_get zs x y k hlt
          rw [List.getElem?_eq_getElem hk2] at this
          rw [Option.some.inj this]
        have hf0 : wr.frozen? ⟨g, k, none⟩ = false := by
          have e : n = (relTo zs x y k).length := by rw [relTo_len]; exact HN.out.symm
          rw [e] at HO
          exact World.ownsRow.frozenAt HO k
        have HSM : Hid (¬ zs[k] = y → relTo zs x y (k + 1) = relTo zs x y k) := relTo_same zs x y k hlt
        have HNX : Hid (zs[k] = y → relTo zs x y (k + 1) = (relTo zs x y k).set k x) := fun e => by rw [relTo_next zs x y k hlt, if_pos e]
        have HOW : Hid (∀ u : Int, Own (wr.setCell ⟨g, k, none⟩ (.int .i64 u)) B (.slice (some ⟨g, 0, none⟩) n cap) ((relTo zs x y k).set k u)) := fun u => by
          have e : n = (relTo zs x y k).length := by rw [relTo_len]; exact HN.out.symm
          rw [e] at HO ⊢
          exact HO.set k u
        clear HO
        generalize zs[k] = z at *
        by_cases hz : z = y
        · have d1 : (z == y) = true := beq_iff_eq.2 hz
          have HF : Hid (Own (wr.setCell ⟨g, k, none⟩ (.int .i64 x)) B (.slice (some ⟨g, 0, none⟩) n cap) (relTo zs x y (k + 1)) ∧ Turned (fun j => j = g) W (wr.setCell ⟨g, k, none⟩ (.int .i64 x))) := ⟨by rw [HNX.out hz]; exact HOW.out x, HK.out.2.setT (.inl rfl) _⟩
          clear HK HSM HNX HOW hz
          go_wp2
          go_roundw
          case rel => exact ⟨k + 1, by omega, by go_num, HF.out⟩
          case measure => simp [intOf]; omega
        · have d1 : (z == y) = false := beq_eq_false_iff_ne.2 hz
          have HF : Hid (Own wr B (.slice (some ⟨g, 0, none⟩) n cap) (relTo zs x y (k + 1)) ∧ Turned (fun j => j = g) W wr) := ⟨by rw [HSM.out hz]; exact HK.out.1, HK.out.2⟩
          clear HK HSM HNX HOW hz hf0
          go_wp2
          go_roundw
          case rel => exact ⟨k + 1, by omega, by go_num, HF.out⟩
          case measure => simp [intOf]; omega
      · have hlt' : ¬ (k : Int) < (n : Int) := by omega
        have HF : Hid (Own wr B (.slice (some ⟨g, 0, none⟩) n cap) (relab zs x y) ∧ Turned (fun j => j = g) W wr) := ⟨by
          have := HK.out.1
          rw [show k = zs.length by omega, relTo_all] at this
          exact this, HK.out.2⟩
        clear HK
        go_wp2
        exact bodyPost_end (v := .tuple #[]) (by simp [results, Try.results71]) rfl ⟨⟨_, rfl⟩, HF.out⟩
  · subst hlt
    have h1 : x ≤ x := Int.le_refl _
    rw [Int.min_eq_left h1, Int.max_eq_right h1]
    have HZ0 : Hid (Own W.drew B (.slice (some ⟨g, 0, none⟩) n cap) (relTo zs x x 0) ∧ Turned (fun j => j = g) W W.drew) := HZ0'.out x x
    go_enter Try.func71, Try.ntmps71
    go_wp2
    refine wp_region_held_drew (S := (fun w' => w'.cell? ⟨g, a, none⟩ = some (.int .i64 x) ∧ w'.cell? ⟨g, b, none⟩ = some (.int .i64 x))) (by kernel_rfl) ?_ (fun hHeld => ?_)
    · exact HCC.out _ rfl
    refine handRead 0 (some 10) (.slice (some ⟨g, 0, none⟩) n cap) rfl rfl (by kernel_rfl) (by kernel_rfl) (by kernel_rfl) (fun _ _ _ h => h) (by kernel_rfl) (by assumption) ?_ ?_
    · intro w hSw
      (try dsimp only at hSw)
      go_simp
    simp only [Act.put, List.setIfInBounds_toArray, List.set_cons_zero, List.set_cons_succ]
    refine handRead 1 (some 11) (.int .i64 a) rfl rfl (by kernel_rfl) (by kernel_rfl) (by kernel_rfl) (fun _ _ _ h => h) (by kernel_rfl) (by assumption) ?_ ?_
    · intro w hSw
      (try dsimp only at hSw)
      go_simp
    simp only [Act.put, List.setIfInBounds_toArray, List.set_cons_zero, List.set_cons_succ]
    refine handRead 2 (some 12) (.pointer (some ⟨g, a, none⟩)) rfl rfl (by kernel_rfl) (by kernel_rfl) (by kernel_rfl) (fun _ _ _ h => h) (by kernel_rfl) (by assumption) ?_ ?_
    · intro w hSw
      (try dsimp only at hSw)
      go_simp
    simp only [Act.put, List.setIfInBounds_toArray, List.set_cons_zero, List.set_cons_succ]
    refine handRead 3 (some 13) (.int .i64 x) rfl rfl (by kernel_rfl) (by kernel_rfl) (by kernel_rfl) (fun _ _ _ h => h) (by kernel_rfl) (by assumption) ?_ ?_
    · intro w hSw
      (try dsimp only at hSw)
      go_simp
    simp only [Act.put, List.setIfInBounds_toArray, List.set_cons_zero, List.set_cons_succ]
    refine handRead 4 (some 14) (.slice (some ⟨g, 0, none⟩) n cap) rfl rfl (by kernel_rfl) (by kernel_rfl) (by kernel_rfl) (fun _ _ _ h => h) (by kernel_rfl) (by assumption) ?_ ?_
    · intro w hSw
      (try dsimp only at hSw)
      go_simp
    simp only [Act.put, List.setIfInBounds_toArray, List.set_cons_zero, List.set_cons_succ]
    refine handRead 5 (some 15) (.int .i64 b) rfl rfl (by kernel_rfl) (by kernel_rfl) (by kernel_rfl) (fun _ _ _ h => h) (by kernel_rfl) (by assumption) ?_ ?_
    · intro w hSw
      (try dsimp only at hSw)
      go_simp
    simp only [Act.put, List.setIfInBounds_toArray, List.set_cons_zero, List.set_cons_succ]
    refine handRead 6 (some 16) (.pointer (some ⟨g, b, none⟩)) rfl rfl (by kernel_rfl) (by kernel_rfl) (by kernel_rfl) (fun _ _ _ h => h) (by kernel_rfl) (by assumption) ?_ ?_
    · intro w hSw
      (try dsimp only at hSw)
      go_simp
    simp only [Act.put, List.setIfInBounds_toArray, List.set_cons_zero, List.set_cons_succ]
    refine handRead 7 (some 17) (.int .i64 x) rfl rfl (by kernel_rfl) (by kernel_rfl) (by kernel_rfl) (fun _ _ _ h => h) (by kernel_rfl) (by assumption) ?_ ?_
    · intro w hSw
      (try dsimp only at hSw)
      go_simp
    simp only [Act.put, List.setIfInBounds_toArray, List.set_cons_zero, List.set_cons_succ]
    refine handRead 8 (some 18) (.int .i64 x) rfl rfl (by kernel_rfl) (by kernel_rfl) (by kernel_rfl) (fun _ _ _ h => h) (by kernel_rfl) (by assumption) ?_ ?_
    · intro w hSw
      (try dsimp only at hSw)
      go_simp
      all_goals (intros; omega)
    simp only [Act.put, List.setIfInBounds_toArray, List.set_cons_zero, List.set_cons_succ]
    refine handRead 9 (some 19) (.slice (some ⟨g, 0, none⟩) n cap) rfl rfl (by kernel_rfl) (by kernel_rfl) (by kernel_rfl) (fun _ _ _ h => h) (by kernel_rfl) (by assumption) ?_ ?_
    · intro w hSw
      (try dsimp only at hSw)
      go_simp
    simp only [Act.put, List.setIfInBounds_toArray, List.set_cons_zero, List.set_cons_succ]
    refine handRead 10 (some 20) (.int .i64 a) rfl rfl (by kernel_rfl) (by kernel_rfl) (by kernel_rfl) (fun _ _ _ h => h) (by kernel_rfl) (by assumption) ?_ ?_
    · intro w hSw
      (try dsimp only at hSw)
      go_simp
    simp only [Act.put, List.setIfInBounds_toArray, List.set_cons_zero, List.set_cons_succ]
    refine handRead 11 (some 21) (.pointer (some ⟨g, a, none⟩)) rfl rfl (by kernel_rfl) (by kernel_rfl) (by kernel_rfl) (fun _ _ _ h => h) (by kernel_rfl) (by assumption) ?_ ?_
    · intro w hSw
      (try dsimp only at hSw)
      go_simp
    simp only [Act.put, List.setIfInBounds_toArray, List.set_cons_zero, List.set_cons_succ]
    refine handRead 12 (some 22) (.int .i64 x) rfl rfl (by kernel_rfl) (by kernel_rfl) (by kernel_rfl) (fun _ _ _ h => h) (by kernel_rfl) (by assumption) ?_ ?_
    · intro w hSw
      (try dsimp only at hSw)
      go_simp
    simp only [Act.put, List.setIfInBounds_toArray, List.set_cons_zero, List.set_cons_succ]
    refine handRead 13 (some 23) (.slice (some ⟨g, 0, none⟩) n cap) rfl rfl (by kernel_rfl) (by kernel_rfl) (by kernel_rfl) (fun _ _ _ h => h) (by kernel_rfl) (by assumption) ?_ ?_
    · intro w hSw
      (try dsimp only at hSw)
      go_simp
    simp only [Act.put, List.setIfInBounds_toArray, List.set_cons_zero, List.set_cons_succ]
    refine handRead 14 (some 24) (.int .i64 b) rfl rfl (by kernel_rfl) (by kernel_rfl) (by kernel_rfl) (fun _ _ _ h => h) (by kernel_rfl) (by assumption) ?_ ?_
    · intro w hSw
      (try dsimp only at hSw)
      go_simp
    simp only [Act.put, List.setIfInBounds_toArray, List.set_cons_zero, List.set_cons_succ]
    refine handRead 15 (some 25) (.pointer (some ⟨g, b, none⟩)) rfl rfl (by kernel_rfl) (by kernel_rfl) (by kernel_rfl) (fun _ _ _ h => h) (by kernel_rfl) (by assumption) ?_ ?_
    · intro w hSw
      (try dsimp only at hSw)
      go_simp
    simp only [Act.put, List.setIfInBounds_toArray, List.set_cons_zero, List.set_cons_succ]
    refine handRead 16 (some 26) (.int .i64 x) rfl rfl (by kernel_rfl) (by kernel_rfl) (by kernel_rfl) (fun _ _ _ h => h) (by kernel_rfl) (by assumption) ?_ ?_
    · intro w hSw
      (try dsimp only at hSw)
      go_simp
    simp only [Act.put, List.setIfInBounds_toArray, List.set_cons_zero, List.set_cons_succ]
    refine handRead 17 (some 27) (.int .i64 x) rfl rfl (by kernel_rfl) (by kernel_rfl) (by kernel_rfl) (fun _ _ _ h => h) (by kernel_rfl) (by assumption) ?_ ?_
    · intro w hSw
      (try dsimp only at hSw)
      go_simp
      all_goals (intros; omega)
    simp only [Act.put, List.setIfInBounds_toArray, List.set_cons_zero, List.set_cons_succ]
    refine handRead 18 (some 6) (.int .i64 x) rfl rfl (by kernel_rfl) (by kernel_rfl) (by kernel_rfl) (fun _ _ _ h => h) (by kernel_rfl) (by assumption) ?_ ?_
    · intro w hSw
      (try dsimp only at hSw)
      go_simp
    simp only [Act.put, List.setIfInBounds_toArray, List.set_cons_zero, List.set_cons_succ]
    refine handRead 19 (some 7) (.int .i64 x) rfl rfl (by kernel_rfl) (by kernel_rfl) (by kernel_rfl) (fun _ _ _ h => h) (by kernel_rfl) (by assumption) ?_ ?_
    · intro w hSw
      (try dsimp only at hSw)
      go_simp
    simp only [Act.put, List.setIfInBounds_toArray, List.set_cons_zero, List.set_cons_succ]
    refine wpAnyH_done (by kernel_rfl) ?_ _
    go_wp2
    go_loopw [30] (fun i wr => ∃ k : Nat, k ≤ zs.length ∧ i = .int .i64 k ∧ Hid (Own wr B (.slice (some ⟨g, 0, none⟩) n cap) (relTo zs x x k) ∧ Turned (fun j => j = g) W wr)) (fun i _ => n - (intOf i).toNat)
    case atStart => exact ⟨0, Nat.zero_le _, rfl, HZ0.out⟩
    case round =>
      clear HZ0
      obtain ⟨k, hk, rfl, HK⟩ := hrel
      by_cases hlt : k < zs.length
      · have hlt' : (k : Int) < (n : Int) := by omega
        have HO := HK.out.1
        have hkn : k < n := by omega
        have c0 : wr.cell? ⟨g, k, none⟩ = some (.int .i64 zs[k]) := by
          have hk2 : k < (relTo zs x x k).length := by rw [relTo_len]; exact hlt
          have e : n = (relTo zs x x k).length := by rw [relTo_len]; exact HN.out.symm
          rw [e] at HO
          rw [own_cell HO k hk2]
          have := relTo_get zs x x k hlt
          rw [List.getElem?_eq_getElem hk2] at this
          rw [Option.some.inj this]
        have hf0 : wr.frozen? ⟨g, k, none⟩ = false := by
          have e : n = (relTo zs x x k).length := by rw [relTo_len]; exact HN.out.symm
          rw [e] at HO
          exact World.ownsRow.frozenAt HO k
        have HSM : Hid (¬ zs[k] = x → relTo zs x x (k + 1) = relTo zs x x k) := relTo_same zs x x k hlt
        have HNX : Hid (zs[k] = x → relTo zs x x (k + 1) = (relTo zs x x k).set k x) := fun e => by rw [relTo_next zs x x k hlt, if_pos e]
        have HOW : Hid (∀ u : Int, Own (wr.setCell ⟨g, k, none⟩ (.int .i64 u)) B (.slice (some ⟨g, 0, none⟩) n cap) ((relTo zs x x k).set k u)) := fun u => by
          have e : n = (relTo zs x x k).length := by rw [relTo_len]; exact HN.out.symm
          rw [e] at HO ⊢
          exact HO.set k u
        clear HO
        generalize zs[k] = z at *
        by_cases hz : z = x
        · have d1 : (z == x) = true := beq_iff_eq.2 hz
          have HF : Hid (Own (wr.setCell ⟨g, k, none⟩ (.int .i64 x)) B (.slice (some ⟨g, 0, none⟩) n cap) (relTo zs x x (k + 1)) ∧ Turned (fun j => j = g) W (wr.setCell ⟨g, k, none⟩ (.int .i64 x))) := ⟨by rw [HNX.out hz]; exact HOW.out x, HK.out.2.setT (.inl rfl) _⟩
          clear HK HSM HNX HOW hz
          go_wp2
          go_roundw
          case rel => exact ⟨k + 1, by omega, by go_num, HF.out⟩
          case measure => simp [intOf]; omega
        · have d1 : (z == x) = false := beq_eq_false_iff_ne.2 hz
          have HF : Hid (Own wr B (.slice (some ⟨g, 0, none⟩) n cap) (relTo zs x x (k + 1)) ∧ Turned (fun j => j = g) W wr) := ⟨by rw [HSM.out hz]; exact HK.out.1, HK.out.2⟩
          clear HK HSM HNX HOW hz hf0
          go_wp2
          go_roundw
          case rel => exact ⟨k + 1, by omega, by go_num, HF.out⟩
          case measure => simp [intOf]; omega
      · have hlt' : ¬ (k : Int) < (n : Int) := by omega
        have HF : Hid (Own wr B (.slice (some ⟨g, 0, none⟩) n cap) (relab zs x x) ∧ Turned (fun j => j = g) W wr) := ⟨by
          have := HK.out.1
          rw [show k = zs.length by omega, relTo_all] at this
          exact this, HK.out.2⟩
        clear HK
        go_wp2
        exact bodyPost_end (v := .tuple #[]) (by simp [results, Try.results71]) rfl ⟨⟨_, rfl⟩, HF.out⟩
  · have h1 : y ≤ x := by omega
    have h2 : ¬ x ≤ y := by omega
    rw [Int.min_eq_right h1, Int.max_eq_left h1]
    clear hlt
    have HZ0 : Hid (Own W.drew B (.slice (some ⟨g, 0, none⟩) n cap) (relTo zs y x 0) ∧ Turned (fun j => j = g) W W.drew) := HZ0'.out y x
    go_enter Try.func71, Try.ntmps71
    go_wp2
    refine wp_region_held_drew (S := (fun w' => w'.cell? ⟨g, a, none⟩ = some (.int .i64 x) ∧ w'.cell? ⟨g, b, none⟩ = some (.int .i64 y))) (by kernel_rfl) ?_ (fun hHeld => ?_)
    · exact HCC.out _ rfl
    refine handRead 0 (some 10) (.slice (some ⟨g, 0, none⟩) n cap) rfl rfl (by kernel_rfl) (by kernel_rfl) (by kernel_rfl) (fun _ _ _ h => h) (by kernel_rfl) (by assumption) ?_ ?_
    · intro w hSw
      (try dsimp only at hSw)
      go_simp
    simp only [Act.put, List.setIfInBounds_toArray, List.set_cons_zero, List.set_cons_succ]
    refine handRead 1 (some 11) (.int .i64 a) rfl rfl (by kernel_rfl) (by kernel_rfl) (by kernel_rfl) (fun _ _ _ h => h) (by kernel_rfl) (by assumption) ?_ ?_
    · intro w hSw
      (try dsimp only at hSw)
      go_simp
    simp only [Act.put, List.setIfInBounds_toArray, List.set_cons_zero, List.set_cons_succ]
    refine handRead 2 (some 12) (.pointer (some ⟨g, a, none⟩)) rfl rfl (by kernel_rfl) (by kernel_rfl) (by kernel_rfl) (fun _ _ _ h => h) (by kernel_rfl) (by assumption) ?_ ?_
    · intro w hSw
      (try dsimp only at hSw)
      go_simp
    simp only [Act.put, List.setIfInBounds_toArray, List.set_cons_zero, List.set_cons_succ]
    refine handRead 3 (some 13) (.int .i64 x) rfl rfl (by kernel_rfl) (by kernel_rfl) (by kernel_rfl) (fun _ _ _ h => h) (by kernel_rfl) (by assumption) ?_ ?_
    · intro w hSw
      (try dsimp only at hSw)
      go_simp
    simp only [Act.put, List.setIfInBounds_toArray, List.set_cons_zero, List.set_cons_succ]
    refine handRead 4 (some 14) (.slice (some ⟨g, 0, none⟩) n cap) rfl rfl (by kernel_rfl) (by kernel_rfl) (by kernel_rfl) (fun _ _ _ h => h) (by kernel_rfl) (by assumption) ?_ ?_
    · intro w hSw
      (try dsimp only at hSw)
      go_simp
    simp only [Act.put, List.setIfInBounds_toArray, List.set_cons_zero, List.set_cons_succ]
    refine handRead 5 (some 15) (.int .i64 b) rfl rfl (by kernel_rfl) (by kernel_rfl) (by kernel_rfl) (fun _ _ _ h => h) (by kernel_rfl) (by assumption) ?_ ?_
    · intro w hSw
      (try dsimp only at hSw)
      go_simp
    simp only [Act.put, List.setIfInBounds_toArray, List.set_cons_zero, List.set_cons_succ]
    refine handRead 6 (some 16) (.pointer (some ⟨g, b, none⟩)) rfl rfl (by kernel_rfl) (by kernel_rfl) (by kernel_rfl) (fun _ _ _ h => h) (by kernel_rfl) (by assumption) ?_ ?_
    · intro w hSw
      (try dsimp only at hSw)
      go_simp
    simp only [Act.put, List.setIfInBounds_toArray, List.set_cons_zero, List.set_cons_succ]
    refine handRead 7 (some 17) (.int .i64 y) rfl rfl (by kernel_rfl) (by kernel_rfl) (by kernel_rfl) (fun _ _ _ h => h) (by kernel_rfl) (by assumption) ?_ ?_
    · intro w hSw
      (try dsimp only at hSw)
      go_simp
    simp only [Act.put, List.setIfInBounds_toArray, List.set_cons_zero, List.set_cons_succ]
    refine handRead 8 (some 18) (.int .i64 y) rfl rfl (by kernel_rfl) (by kernel_rfl) (by kernel_rfl) (fun _ _ _ h => h) (by kernel_rfl) (by assumption) ?_ ?_
    · intro w hSw
      (try dsimp only at hSw)
      go_simp
      all_goals (intros; omega)
    simp only [Act.put, List.setIfInBounds_toArray, List.set_cons_zero, List.set_cons_succ]
    refine handRead 9 (some 19) (.slice (some ⟨g, 0, none⟩) n cap) rfl rfl (by kernel_rfl) (by kernel_rfl) (by kernel_rfl) (fun _ _ _ h => h) (by kernel_rfl) (by assumption) ?_ ?_
    · intro w hSw
      (try dsimp only at hSw)
      go_simp
    simp only [Act.put, List.setIfInBounds_toArray, List.set_cons_zero, List.set_cons_succ]
    refine handRead 10 (some 20) (.int .i64 a) rfl rfl (by kernel_rfl) (by kernel_rfl) (by kernel_rfl) (fun _ _ _ h => h) (by kernel_rfl) (by assumption) ?_ ?_
    · intro w hSw
      (try dsimp only at hSw)
      go_simp
    simp only [Act.put, List.setIfInBounds_toArray, List.set_cons_zero, List.set_cons_succ]
    refine handRead 11 (some 21) (.pointer (some ⟨g, a, none⟩)) rfl rfl (by kernel_rfl) (by kernel_rfl) (by kernel_rfl) (fun _ _ _ h => h) (by kernel_rfl) (by assumption) ?_ ?_
    · intro w hSw
      (try dsimp only at hSw)
      go_simp
    simp only [Act.put, List.setIfInBounds_toArray, List.set_cons_zero, List.set_cons_succ]
    refine handRead 12 (some 22) (.int .i64 x) rfl rfl (by kernel_rfl) (by kernel_rfl) (by kernel_rfl) (fun _ _ _ h => h) (by kernel_rfl) (by assumption) ?_ ?_
    · intro w hSw
      (try dsimp only at hSw)
      go_simp
    simp only [Act.put, List.setIfInBounds_toArray, List.set_cons_zero, List.set_cons_succ]
    refine handRead 13 (some 23) (.slice (some ⟨g, 0, none⟩) n cap) rfl rfl (by kernel_rfl) (by kernel_rfl) (by kernel_rfl) (fun _ _ _ h => h) (by kernel_rfl) (by assumption) ?_ ?_
    · intro w hSw
      (try dsimp only at hSw)
      go_simp
    simp only [Act.put, List.setIfInBounds_toArray, List.set_cons_zero, List.set_cons_succ]
    refine handRead 14 (some 24) (.int .i64 b) rfl rfl (by kernel_rfl) (by kernel_rfl) (by kernel_rfl) (fun _ _ _ h => h) (by kernel_rfl) (by assumption) ?_ ?_
    · intro w hSw
      (try dsimp only at hSw)
      go_simp
    simp only [Act.put, List.setIfInBounds_toArray, List.set_cons_zero, List.set_cons_succ]
    refine handRead 15 (some 25) (.pointer (some ⟨g, b, none⟩)) rfl rfl (by kernel_rfl) (by kernel_rfl) (by kernel_rfl) (fun _ _ _ h => h) (by kernel_rfl) (by assumption) ?_ ?_
    · intro w hSw
      (try dsimp only at hSw)
      go_simp
    simp only [Act.put, List.setIfInBounds_toArray, List.set_cons_zero, List.set_cons_succ]
    refine handRead 16 (some 26) (.int .i64 y) rfl rfl (by kernel_rfl) (by kernel_rfl) (by kernel_rfl) (fun _ _ _ h => h) (by kernel_rfl) (by assumption) ?_ ?_
    · intro w hSw
      (try dsimp only at hSw)
      go_simp
    simp only [Act.put, List.setIfInBounds_toArray, List.set_cons_zero, List.set_cons_succ]
    refine handRead 17 (some 27) (.int .i64 x) rfl rfl (by kernel_rfl) (by kernel_rfl) (by kernel_rfl) (fun _ _ _ h => h) (by kernel_rfl) (by assumption) ?_ ?_
    · intro w hSw
      (try dsimp only at hSw)
      go_simp
      all_goals (intros; omega)
    simp only [Act.put, List.setIfInBounds_toArray, List.set_cons_zero, List.set_cons_succ]
    refine handRead 18 (some 6) (.int .i64 y) rfl rfl (by kernel_rfl) (by kernel_rfl) (by kernel_rfl) (fun _ _ _ h => h) (by kernel_rfl) (by assumption) ?_ ?_
    · intro w hSw
      (try dsimp only at hSw)
      go_simp
    simp only [Act.put, List.setIfInBounds_toArray, List.set_cons_zero, List.set_cons_succ]
    refine handRead 19 (some 7) (.int .i64 x) rfl rfl (by kernel_rfl) (by kernel_rfl) (by kernel_rfl) (fun _ _ _ h => h) (by kernel_rfl) (by assumption) ?_ ?_
    · intro w hSw
      (try dsimp only at hSw)
      go_simp
    simp only [Act.put, List.setIfInBounds_toArray, List.set_cons_zero, List.set_cons_succ]
    refine wpAnyH_done (by kernel_rfl) ?_ _
    go_wp2
    go_loopw [30] (fun i wr => ∃ k : Nat, k ≤ zs.length ∧ i = .int .i64 k ∧ Hid (Own wr B (.slice (some ⟨g, 0, none⟩) n cap) (relTo zs y x k) ∧ Turned (fun j => j = g) W wr)) (fun i _ => n - (intOf i).toNat)
    case atStart => exact ⟨0, Nat.zero_le _, rfl, HZ0.out⟩
    case round =>
      clear HZ0
      obtain ⟨k, hk, rfl, HK⟩ := hrel
      by_cases hlt : k < zs.length
      · have hlt' : (k : Int) < (n : Int) := by omega
        have HO := HK.out.1
        have hkn : k < n := by omega
        have c0 : wr.cell? ⟨g, k, none⟩ = some (.int .i64 zs[k]) := by
          have hk2 : k < (relTo zs y x k).length := by rw [relTo_len]; exact hlt
          have e : n = (relTo zs y x k).length := by rw [relTo_len]; exact HN.out.symm
          rw [e] at HO
          rw [own_cell HO k hk2]
          have := relTo_get zs y x k hlt
          rw [List.getElem?_eq_getElem hk2] at this
          rw [Option.some.inj this]
        have hf0 : wr.frozen? ⟨g, k, none⟩ = false := by
          have e : n = (relTo zs y x k).length := by rw [relTo_len]; exact HN.out.symm
          rw [e] at HO
          exact World.ownsRow.frozenAt HO k
        have HSM : Hid (¬ zs[k] = x → relTo zs y x (k + 1) = relTo zs y x k) := relTo_same zs y x k hlt
        have HNX : Hid (zs[k] = x → relTo zs y x (k + 1) = (relTo zs y x k).set k y) := fun e => by rw [relTo_next zs y x k hlt, if_pos e]
        have HOW : Hid (∀ u : Int, Own (wr.setCell ⟨g, k, none⟩ (.int .i64 u)) B (.slice (some ⟨g, 0, none⟩) n cap) ((relTo zs y x k).set k u)) := fun u => by
          have e : n = (relTo zs y x k).length := by rw [relTo_len]; exact HN.out.symm
          rw [e] at HO ⊢
          exact HO.set k u
        clear HO
        generalize zs[k] = z at *
        by_cases hz : z = x
        · have d1 : (z == x) = true := beq_iff_eq.2 hz
          have HF : Hid (Own (wr.setCell ⟨g, k, none⟩ (.int .i64 y)) B (.slice (some ⟨g, 0, none⟩) n cap) (relTo zs y x (k + 1)) ∧ Turned (fun j => j = g) W (wr.setCell ⟨g, k, none⟩ (.int .i64 y))) := ⟨by rw [HNX.out hz]; exact HOW.out y, HK.out.2.setT (.inl rfl) _⟩
          clear HK HSM HNX HOW hz
          go_wp2
          go_roundw
          case rel => exact ⟨k + 1, by omega, by go_num, HF.out⟩
          case measure => simp [intOf]; omega
        · have d1 : (z == x) = false := beq_eq_false_iff_ne.2 hz
          have HF : Hid (Own wr B (.slice (some ⟨g, 0, none⟩) n cap) (relTo zs y x (k + 1)) ∧ Turned (fun j => j = g) W wr) := ⟨by rw [HSM.out hz]; exact HK.out.1, HK.out.2⟩
          clear HK HSM HNX HOW hz hf0
          go_wp2
          go_roundw
          case rel => exact ⟨k + 1, by omega, by go_num, HF.out⟩
          case measure => simp [intOf]; omega
      · have hlt' : ¬ (k : Int) < (n : Int) := by omega
        have HF : Hid (Own wr B (.slice (some ⟨g, 0, none⟩) n cap) (relab zs y x) ∧ Turned (fun j => j = g) W wr) := ⟨by
          have := HK.out.1
          rw [show k = zs.length by omega, relTo_all] at this
          exact this, HK.out.2⟩
        clear HK
        go_wp2
        exact bodyPost_end (v := .tuple #[]) (by simp [results, Try.results71]) rfl ⟨⟨_, rfl⟩, HF.out⟩

set_option maxHeartbeats 2000000 in
theorem joinGroupsT_any (W : World) (B g cap n : Nat) (zs : List Int) (a b : Int) (h : Own W B (.slice (some ⟨g, 0, none⟩) n cap) zs) (hB : B ≤ W.heap.size) (hgB : B ≤ g) (hn : zs.length = n) (ha : 0 ≤ a ∧ a < n) (hb : 0 ≤ b ∧ b < n) (hn12 : n ≤ 12) :
    Calls Try.prog 71 #[.slice (some ⟨g, 0, none⟩) n cap, .int .i64 a, .int .i64 b] W fun e W' => (∃ v, e = .returned v) ∧ Own W' B (.slice (some ⟨g, 0, none⟩) n cap) (joinG zs a b) ∧ Turned (fun j => j = g) W W' := by
  subst hn
  obtain ⟨p, rfl⟩ : ∃ p : Nat, a = (p : Int) := ⟨a.toNat, by omega⟩
  obtain ⟨q, rfl⟩ : ∃ q : Nat, b = (q : Int) := ⟨b.toNat, by omega⟩
  have hp : p < zs.length := by omega
  have hq : q < zs.length := by omega
  unfold joinG
  rw [lab_get zs p hp, lab_get zs q hq]
  exact relabel_walkT W B g cap zs.length zs p q zs[p] zs[q] h hB hgB rfl hp hq (List.getElem?_eq_getElem hp) (List.getElem?_eq_getElem hq) hn12
end Go.Proofs.Ythlbmkefjjckaad
