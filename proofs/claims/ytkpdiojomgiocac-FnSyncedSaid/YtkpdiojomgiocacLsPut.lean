/-
  What the model's 'l7Put' and 'l7Merge' answer.
-/
import Derived.Test.YtkpdiojomgiocacLsMath
import Derived.Test.YtkpdiojomgiocacSince0
import Derived.WideShapes
import Derived.BigQuiet
import Derived.Deep.QuietTactic
namespace Go.Proofs.Ytkpdiojomgiocac
open Go.RowKit
set_option linter.unusedVariables false

theorem belowN {B : Nat} {w w' : World} (h : Below B w w') : ∀ n, Below B w (w'.drewN n)
  | 0 => h
  | n + 1 => (belowN h n).drew
/-- What a list of haves gives from a place on, and up to it. -/
theorem src_hv {w : World} {g o : Nat} {l : List HvD} (h : ∀ j (hj : j < l.length), HvAt w g (o + j * 2) l[j]) (n c : Nat) (hn : n = l.length) : Src w (.slice (some ⟨g, o, none⟩) n c) n (cellsHv l) := by
  subst hn
  refine .inr ⟨_, _, rfl, fun j u hu => ?_⟩
  rw [Go.WideShapes.add_plain]
  have hj : j < l.length * 2 := by rw [← cellsHv_len]; exact (List.getElem?_eq_some_iff.1 hu).1
  obtain ⟨q, hq | hq⟩ : ∃ q, j = q * 2 ∨ j = q * 2 + 1 := ⟨j / 2, by omega⟩
  · have c0 := cellsHv_get l q (by omega)
    have h0 := h q (by omega)
    subst hq
    rw [c0.1] at hu
    cases hu
    exact h0.1
  · have c0 := cellsHv_get l q (by omega)
    have h0 := h q (by omega)
    subst hq
    rw [c0.2] at hu
    cases hu
    have := h0.2
    rwa [Nat.add_assoc] at this
theorem src_none {w : World} (ad : Addr) (c : Nat) : Src w (.slice (some ad) 0 c) 0 (cellsHv []) := .inr ⟨ad, c, rfl, fun j u hu => by simp [cellsHv] at hu⟩
theorem src_nil {w : World} : Src w (.slice none 0 0) 0 (cellsHv []) := .inl ⟨rfl, rfl, rfl⟩
/-- One that lies in a block of its own. -/
theorem src_new (w : World) (x : HvD) (c : Nat) : Src (w.alloc (.cells #[.int .i64 x.From, .int .i64 x.Seq] 41)) (.slice (some ⟨w.heap.size, 0, none⟩) 1 c) 1 (cellsHv [x]) :=
  src_hv (l := [x]) (fun j hj => by
    obtain rfl : j = 0 := by simp at hj; omega
    exact ⟨by rw [World.cell?_alloc_at _ _ _ _ rfl]; rfl, by rw [World.cell?_alloc_at _ _ _ _ rfl]; rfl⟩) 1 c rfl

/-- 'append' onto a list of one's own: where the world is, and what comes. -/
structure AppTo (w : World) (B : Nat) (l : List HvD) (v' : Value) (w' : World) : Prop where
  own : OwnHv w' B v' l
  below : Below B w w'
  size : w.heap.size ≤ w'.heap.size
theorem run_to (w : World) (B : Nat) (v : Value) (hs : List HvD) (hown : OwnHv w B v hs) (x : Value) (ys : List HvD) (m : Nat) (hm : m = ys.length) (hsrc : Src w x m (cellsHv ys)) (hl : hs.length + ys.length ≤ 2097152) (hB : B ≤ w.heap.size) :
    ∀ ty, ∃ v' w', (Builtin.append_ #[23, 23] ty #[v, x]).run Try.prog w = .ok v' w' ∧ AppTo w B (hs ++ ys) v' w' := fun ty => by
  subst hm
  obtain ⟨v', w', hr, hg⟩ := run_appHv w B v hs hown x ys hsrc hl hB ty
  exact ⟨v', w', hr, hg.own, hg.below, hg.size⟩

theorem putHv_at (x : HvD) : ∀ (l : List HvD) (k : Nat), (∀ j (hj : j < l.length), j < k → l[j].From < x.From) → k ≤ l.length → putHv x l = l.take k ++ putHv x (l.drop k)
  | l, 0, _, _ => by simp
  | [], k + 1, _, hk => by simp at hk
  | y :: r, k + 1, h, hk => by
    have h0 : y.From < x.From := h 0 (by simp) (by omega)
    have ih := putHv_at x r k (fun j hj hjk => by have := h (j + 1) (by simpa using hj) (by omega); simpa using this) (by simpa using hk)
    conv => lhs; unfold putHv
    rw [if_pos h0, ih]
    rfl
theorem putHv_new (x : HvD) (l : List HvD) (k : Nat) (h : ∀ j (hj : j < l.length), j < k → l[j].From < x.From) (hk : k < l.length) (hne : x.From < l[k].From) : putHv x l = (l.take k ++ [x]) ++ l.drop k := by
  rw [putHv_at x l k h (by omega), List.drop_eq_getElem_cons hk]
  conv => lhs; unfold putHv
  rw [if_neg (by omega), if_neg (by omega), List.append_assoc]
  rfl
theorem putHv_same (x : HvD) (l : List HvD) (k : Nat) (h : ∀ j (hj : j < l.length), j < k → l[j].From < x.From) (hk : k < l.length) (he : l[k].From = x.From) : putHv x l = (l.take k ++ [if l[k].Seq > x.Seq then l[k] else x]) ++ l.drop (k + 1) := by
  rw [putHv_at x l k h (by omega), List.drop_eq_getElem_cons hk]
  conv => lhs; unfold putHv
  rw [if_neg (by omega), if_pos he, List.append_assoc]
  rfl
theorem putHv_end (x : HvD) (l : List HvD) (h : ∀ j (hj : j < l.length), l[j].From < x.From) : putHv x l = l ++ [x] := by
  rw [putHv_at x l l.length (fun j hj _ => h j hj) (Nat.le_refl _)]
  simp [putHv]

def PutHvPost (W : World) (out : List HvD) (e : Ending) (W' : World) : Prop := ∃ v', e = .returned v' ∧ OwnHv W' W.heap.size v' out ∧ Below W.heap.size W W'
theorem PutHvPost.mk {W W' : World} {B : Nat} {out : List HvD} {v : Value} (hs : List HvD) (h : OwnHv W' B v hs) (hB : W.heap.size ≤ B) (he : out = hs) (hb : Below W.heap.size W W') : PutHvPost W out (.returned v) W' := ⟨v, rfl, by rw [he]; exact h.mono hB, hb⟩

set_option maxRecDepth 100000 in
set_option maxHeartbeats 4000000 in
theorem l7Put_nil (W : World) (x : HvD) :
    Calls Try.prog 36 #[.slice none 0 0, .agg #[.int .i64 x.From, .int .i64 x.Seq]] W (PutHvPost W [x]) := by
  have HX : Hid (∀ w', Below (W.alloc (.cells #[.int .i64 x.From, .int .i64 x.Seq] 41)).heap.size (W.alloc (.cells #[.int .i64 x.From, .int .i64 x.Seq] 41)) w' → w'.cell? ⟨W.heap.size, 0, none⟩ = some (.int .i64 x.From) ∧ w'.cell? ⟨W.heap.size, 1, none⟩ = some (.int .i64 x.Seq)) := fun w' hs =>
    ⟨(hs.cell (p := ⟨W.heap.size, 0, none⟩) (by simp)).trans (by rw [World.cell?_alloc_at _ _ _ _ rfl]; rfl), (hs.cell (p := ⟨W.heap.size, 1, none⟩) (by simp)).trans (by rw [World.cell?_alloc_at _ _ _ _ rfl]; rfl)⟩
  have HBX : Hid (Below (W.alloc (.cells #[.int .i64 x.From, .int .i64 x.Seq] 41)).heap.size (W.alloc (.cells #[.int .i64 x.From, .int .i64 x.Seq] 41)) (W.alloc (.cells #[.int .i64 x.From, .int .i64 x.Seq] 41))) := Below.refl _ _
  have HB1 : Hid (∀ w', Below (W.alloc (.cells #[.int .i64 x.From, .int .i64 x.Seq] 41)).heap.size (W.alloc (.cells #[.int .i64 x.From, .int .i64 x.Seq] 41)) w' → Below W.heap.size W w' ∧ W.heap.size + 1 ≤ w'.heap.size) := fun w' h => ⟨((Below.refl _ W).alloc (Nat.le_refl _) _).trans (h.mono (by simp)), by have := h.size; simpa using this⟩
  have HXF : Hid (∀ w', Below (W.alloc (.cells #[.int .i64 x.From, .int .i64 x.Seq] 41)).heap.size (W.alloc (.cells #[.int .i64 x.From, .int .i64 x.Seq] 41)) w' → w'.frozen? ⟨W.heap.size, 0, none⟩ = false ∧ w'.frozen? ⟨W.heap.size, 1, none⟩ = false) := fun w' hs =>
    ⟨(hs.frozen (p := ⟨W.heap.size, 0, none⟩) (by simp)).trans (World.frozen?_alloc_at _ _ _ _ rfl), (hs.frozen (p := ⟨W.heap.size, 1, none⟩) (by simp)).trans (World.frozen?_alloc_at _ _ _ _ rfl)⟩
  go_enter Try.func36, Try.ntmps36
  go_wp2
  refine wp_loop_rounds 1 ?_
  rw [rounds_succ]
  go_wp2
  go_quiet (fail)
  have HBL : Hid (Below (W.alloc (.cells #[.int .i64 x.From, .int .i64 x.Seq] 41)).heap.size (W.alloc (.cells #[.int .i64 x.From, .int .i64 x.Seq] 41)) ((W.alloc (.cells #[.int .i64 x.From, .int .i64 x.Seq] 41)).drewN nq)) := belowN HBX.out nq
  generalize (W.alloc (.cells #[.int .i64 x.From, .int .i64 x.Seq] 41)).drewN nq = wl at *
  have HM : Hid (OwnHv (wl.alloc (.cells #[] 41)) (W.heap.size + 1) (.slice (some ⟨wl.heap.size, 0, none⟩) 0 0) []) := World.ownsRow_made (base := W.heap.size + 1) (e := 41) (size := 2) wl #[] 0 (by have := HBL.out.size; simp at this; omega) (by decide) rfl
  have HAL : Hid (Below (W.alloc (.cells #[.int .i64 x.From, .int .i64 x.Seq] 41)).heap.size (W.alloc (.cells #[.int .i64 x.From, .int .i64 x.Seq] 41)) (wl.alloc (.cells #[] 41))) := HBL.out.alloc HBL.out.size _
  have HA1 : Hid (∀ ty, ∃ v' w', (Builtin.append_ #[23, 23] ty #[.slice (some ⟨wl.heap.size, 0, none⟩) 0 0, .slice none 0 0]).run Try.prog (wl.alloc (.cells #[] 41)) = .ok v' w' ∧ AppTo (wl.alloc (.cells #[] 41)) (W.heap.size + 1) ([] ++ []) v' w') :=
    run_to _ _ _ _ HM.out _ [] _ rfl (src_nil) (by simp <;> omega) (by have := HBL.out.size; simp at this; simp; omega)
  go_wp2_with (at_builtin; refine list_app (by rfl) (.tmp 23) (.tmp 26) 23 (by rfl) (.slice (some ⟨wl.heap.size, 0, none⟩) 0 0) (.slice none 0 0) (by rfl) (by rfl) _ HA1.out ?_; intro v1 w1 hg1; have HG1 : Hid (OwnHv w1 (W.heap.size + 1) v1 [] ∧ Below (W.alloc (.cells #[.int .i64 x.From, .int .i64 x.Seq] 41)).heap.size (W.alloc (.cells #[.int .i64 x.From, .int .i64 x.Seq] 41)) w1) := ⟨hg1.own, HAL.out.trans (by simpa using hg1.below)⟩; clear hg1)
  clear HA1 HM HAL HBL
  obtain ⟨b0, b1⟩ := HX.out w1 HG1.out.2
  go_quiet (fail)
  have HG1b : Hid (OwnHv (w1.drewN nq) (W.heap.size + 1) v1 [] ∧ Below W.heap.size W (w1.drewN nq) ∧ W.heap.size + 1 ≤ (w1.drewN nq).heap.size) := ⟨rowSame HG1.out.1 fun _ _ => rfl, belowN (HB1.out w1 HG1.out.2).1 nq, (HB1.out w1 HG1.out.2).2⟩
  have HA2 : Hid (∀ ty, ∃ v' w', (Builtin.append_ #[23, 23] ty #[v1, .slice (some ⟨(w1.drewN nq).heap.size, 0, none⟩) 1 1]).run Try.prog ((w1.drewN nq).alloc (.cells #[.int .i64 x.From, .int .i64 x.Seq] 41)) = .ok v' w' ∧ AppTo ((w1.drewN nq).alloc (.cells #[.int .i64 x.From, .int .i64 x.Seq] 41)) (W.heap.size + 1) ([] ++ [x]) v' w') :=
    run_to _ _ _ _ (HG1b.out.1.below ((Below.refl _ _).alloc (Nat.le_refl _) _)) _ [x] 1 rfl (src_new _ x 1) (by simp <;> omega) (by have := HG1b.out.2.2; simp at this ⊢; omega)
  have HS2 : Hid (∀ w', Below (W.heap.size + 1) ((w1.drewN nq).alloc (.cells #[.int .i64 x.From, .int .i64 x.Seq] 41)) w' → Below W.heap.size W w') := fun w' h => (HG1b.out.2.1.alloc (Nat.le_trans (Nat.le_succ _) HG1b.out.2.2) _).trans (h.mono (Nat.le_succ _))
  go_wp2_with (first
    | (at_builtin; refine list_app (by rfl) (.tmp 56) (.tmp 58) 23 (by rfl) v1 (.slice (some ⟨(w1.drewN nq).heap.size, 0, none⟩) 1 1) (by rfl) (by rfl) _ HA2.out ?_; intro v2 w2 hg2; have HG2 : Hid (OwnHv w2 (W.heap.size + 1) v2 ([] ++ [x]) ∧ Below W.heap.size W w2 ∧ W.heap.size + 1 ≤ w2.heap.size) := ⟨hg2.own, HS2.out _ hg2.below, Nat.le_trans HG1b.out.2.2 (Nat.le_trans (by simp) hg2.size)⟩; have HA3 : Hid (∀ ty, ∃ v' w', (Builtin.append_ #[23, 23] ty #[v2, .slice none 0 0]).run Try.prog w2 = .ok v' w' ∧ AppTo w2 (W.heap.size + 1) (([] ++ [x]) ++ []) v' w') := run_to _ _ _ _ HG2.out.1 _ [] _ rfl (src_nil) (by simp <;> omega) HG2.out.2.2; clear hg2 HA2 HS2)
    | (at_builtin; refine list_app (by rfl) (.tmp 60) (.tmp 63) 23 (by rfl) v2 (.slice none 0 0) (by rfl) (by rfl) _ HA3.out ?_; intro v3 w3 hg3; have HG3 : Hid (OwnHv w3 (W.heap.size + 1) v3 (([] ++ [x]) ++ []) ∧ Below W.heap.size W w3) := ⟨hg3.own, HG2.out.2.1.trans (hg3.below.mono (Nat.le_succ _))⟩; clear hg3))
  go_ret
  exact PutHvPost.mk _ HG3.out.1 (Nat.le_succ _) rfl HG3.out.2

set_option maxRecDepth 100000 in
set_option maxHeartbeats 4000000 in
theorem l7Put_row (W : World) (B g cap : Nat) (l : List HvD) (x : HvD) (h : OwnHv W B (.slice (some ⟨g, 0, none⟩) l.length cap) l) (hl : l.length ≤ 1048576) (hcap : l.length ≤ cap) :
    Calls Try.prog 36 #[.slice (some ⟨g, 0, none⟩) l.length cap, .agg #[.int .i64 x.From, .int .i64 x.Seq]] W (PutHvPost W (putHv x l)) := by
  have HX : Hid (∀ w', Below (W.alloc (.cells #[.int .i64 x.From, .int .i64 x.Seq] 41)).heap.size (W.alloc (.cells #[.int .i64 x.From, .int .i64 x.Seq] 41)) w' → w'.cell? ⟨W.heap.size, 0, none⟩ = some (.int .i64 x.From) ∧ w'.cell? ⟨W.heap.size, 1, none⟩ = some (.int .i64 x.Seq)) := fun w' hs =>
    ⟨(hs.cell (p := ⟨W.heap.size, 0, none⟩) (by simp)).trans (by rw [World.cell?_alloc_at _ _ _ _ rfl]; rfl), (hs.cell (p := ⟨W.heap.size, 1, none⟩) (by simp)).trans (by rw [World.cell?_alloc_at _ _ _ _ rfl]; rfl)⟩
  have HBX : Hid (Below (W.alloc (.cells #[.int .i64 x.From, .int .i64 x.Seq] 41)).heap.size (W.alloc (.cells #[.int .i64 x.From, .int .i64 x.Seq] 41)) (W.alloc (.cells #[.int .i64 x.From, .int .i64 x.Seq] 41))) := Below.refl _ _
  have HB1 : Hid (∀ w', Below (W.alloc (.cells #[.int .i64 x.From, .int .i64 x.Seq] 41)).heap.size (W.alloc (.cells #[.int .i64 x.From, .int .i64 x.Seq] 41)) w' → Below W.heap.size W w' ∧ W.heap.size + 1 ≤ w'.heap.size) := fun w' h => ⟨((Below.refl _ W).alloc (Nat.le_refl _) _).trans (h.mono (by simp)), by have := h.size; simpa using this⟩
  have HXF : Hid (∀ w', Below (W.alloc (.cells #[.int .i64 x.From, .int .i64 x.Seq] 41)).heap.size (W.alloc (.cells #[.int .i64 x.From, .int .i64 x.Seq] 41)) w' → w'.frozen? ⟨W.heap.size, 0, none⟩ = false ∧ w'.frozen? ⟨W.heap.size, 1, none⟩ = false) := fun w' hs =>
    ⟨(hs.frozen (p := ⟨W.heap.size, 0, none⟩) (by simp)).trans (World.frozen?_alloc_at _ _ _ _ rfl), (hs.frozen (p := ⟨W.heap.size, 1, none⟩) (by simp)).trans (World.frozen?_alloc_at _ _ _ _ rfl)⟩
  have hgl : g < W.heap.size := (World.ownsRow.lt h g rfl).2
  have HC : Hid (∀ w', Below W.heap.size W w' → ∀ j (hj : j < l.length), HvAt w' g (0 + j * 2) l[j]) := fun w' hb j hj => by
    obtain ⟨c0, c1⟩ := cellsHv_get l j hj
    have q0 : HvAt W g (0 + j * 2) l[j] := by
      rw [Nat.zero_add]
      exact ⟨(World.ownsRow.cellAt h _ (by omega)).trans c0, (World.ownsRow.cellAt h _ (by omega)).trans c1⟩
    exact q0.below hgl hb
  have HTK : Hid (∀ w', Below W.heap.size W w' → ∀ k, k ≤ l.length → Src w' (.slice (some ⟨g, 0, none⟩) k cap) k (cellsHv (l.take k))) := fun w' hb k hk => src_hv (fun j hj => by
    rw [List.length_take] at hj
    rw [List.getElem_take]
    exact HC.out w' hb j (by omega)) k cap (by rw [List.length_take]; omega)
  have HDK : Hid (∀ w', Below W.heap.size W w' → ∀ k, k ≤ l.length → ∀ c, Src w' (.slice (some ⟨g, k * 2, none⟩) (l.length - k) c) (l.length - k) (cellsHv (l.drop k))) := fun w' hb k hk c => src_hv (fun j hj => by
    rw [List.length_drop] at hj
    rw [List.getElem_drop]
    have := HC.out w' hb (k + j) (by omega)
    rw [show 0 + (k + j) * 2 = k * 2 + j * 2 by omega] at this
    exact this) _ c (by rw [List.length_drop])
  clear h hgl
  go_enter Try.func36, Try.ntmps36
  go_wp2
  go_loopw [5] (fun i wr => ∃ k : Nat, k ≤ l.length ∧ i = .int .i64 k ∧ Hid ((∀ j (hj : j < l.length), j < k → l[j].From < x.From) ∧ Below (W.alloc (.cells #[.int .i64 x.From, .int .i64 x.Seq] 41)).heap.size (W.alloc (.cells #[.int .i64 x.From, .int .i64 x.Seq] 41)) wr)) (fun i _ => l.length - (intOf i).toNat)
  case atStart => exact ⟨0, Nat.zero_le _, rfl, fun j _ hj => absurd hj (Nat.not_lt_zero _), HBX.out⟩
  case round =>
    obtain ⟨k, hk, rfl, HK⟩ := hrel
    obtain ⟨b0', b1'⟩ := HX.out wr HK.out.2
    by_cases hlt : k < l.length
    · have d0 : decide ((k : Int) < (l.length : Int)) = true := decide_eq_true (by omega)
      obtain ⟨c0', c1'⟩ := HC.out wr (HB1.out wr HK.out.2).1 k hlt
      rw [Nat.zero_add] at c0' c1'
      by_cases h1 : l[k].From < x.From
      · have d1 : decide (l[k].From < x.From) = true := decide_eq_true h1
        have HA1 : Hid (∀ j (hj : j < l.length), j < k + 1 → l[j].From < x.From) := fun j hj h => by
          by_cases e : j = k
          · subst e; exact h1
          · exact HK.out.1 j hj (by omega)
        have HKB : Hid (Below (W.alloc (.cells #[.int .i64 x.From, .int .i64 x.Seq] 41)).heap.size (W.alloc (.cells #[.int .i64 x.From, .int .i64 x.Seq] 41)) wr) := HK.out.2
        clear HK
        generalize l[k].From = fk at *
        go_wp2
        go_quiet (fail)
        go_wp2
        go_roundw
        case rel => exact ⟨k + 1, by omega, by go_num, HA1.out, belowN HKB.out nq⟩
        case measure => simp [intOf]; omega
      · have d1 : decide (l[k].From < x.From) = false := decide_eq_false h1
        have HKB : Hid (Below (W.alloc (.cells #[.int .i64 x.From, .int .i64 x.Seq] 41)).heap.size (W.alloc (.cells #[.int .i64 x.From, .int .i64 x.Seq] 41)) wr) := HK.out.2
        by_cases h2 : l[k].From = x.From
        · have d2 : (l[k].From == x.From) = true := beq_iff_eq.2 h2
          have HFK : Hid (∀ w', Below W.heap.size W w' → w'.cell? ⟨g, k * 2, none⟩ = some (.int .i64 l[k].From) ∧ w'.cell? ⟨g, k * 2 + 1, none⟩ = some (.int .i64 l[k].Seq)) := fun w' hb => by
            have := HC.out w' hb k hlt
            rw [Nat.zero_add] at this
            exact this
          have HR0 : Hid (putHv x l = (l.take k ++ [if l[k].Seq > x.Seq then l[k] else x]) ++ l.drop (k + 1)) := putHv_same x l k HK.out.1 hlt h2
          clear HK h1 h2
          by_cases h3 : x.Seq < l[k].Seq
          · have HR : Hid (putHv x l = (l.take k ++ [l[k]]) ++ l.drop (k + 1)) := by
              show _ = _
              rw [HR0.out, if_pos h3]
            have d3 : decide (x.Seq < l[k].Seq) = true := decide_eq_true h3
            clear HR0 h3
            generalize l[k] = y at *
            go_wp2
            go_quiet (fail)
            have HBL : Hid (Below (W.alloc (.cells #[.int .i64 x.From, .int .i64 x.Seq] 41)).heap.size (W.alloc (.cells #[.int .i64 x.From, .int .i64 x.Seq] 41)) (wr.drewN nq)) := belowN HKB.out nq
            clear HKB b0' b1' c0' c1'
            generalize wr.drewN nq = wl at *
            have HM : Hid (OwnHv (wl.alloc (.cells #[] 41)) (W.heap.size + 1) (.slice (some ⟨wl.heap.size, 0, none⟩) 0 0) []) := World.ownsRow_made (base := W.heap.size + 1) (e := 41) (size := 2) wl #[] 0 (by have := HBL.out.size; simp at this; omega) (by decide) rfl
            have HAL : Hid (Below (W.alloc (.cells #[.int .i64 x.From, .int .i64 x.Seq] 41)).heap.size (W.alloc (.cells #[.int .i64 x.From, .int .i64 x.Seq] 41)) (wl.alloc (.cells #[] 41))) := HBL.out.alloc HBL.out.size _
            have HA1 : Hid (∀ ty, ∃ v' w', (Builtin.append_ #[23, 23] ty #[.slice (some ⟨wl.heap.size, 0, none⟩) 0 0, .slice (some ⟨g, 0, none⟩) k cap]).run Try.prog (wl.alloc (.cells #[] 41)) = .ok v' w' ∧ AppTo (wl.alloc (.cells #[] 41)) (W.heap.size + 1) ([] ++ (l.take k)) v' w') :=
              run_to _ _ _ _ HM.out _ (l.take k) _ (by rw [List.length_take]; omega) (HTK.out _ ((HB1.out _ HAL.out).1) k (by omega)) (by simp <;> omega) (by have := HBL.out.size; simp at this; simp; omega)
            go_wp2_with (at_builtin; refine list_app (by rfl) (.tmp 23) (.tmp 26) 23 (by rfl) (.slice (some ⟨wl.heap.size, 0, none⟩) 0 0) (.slice (some ⟨g, 0, none⟩) k cap) (by rfl) (by rfl) _ HA1.out ?_; intro v1 w1 hg1; have HG1 : Hid (OwnHv w1 (W.heap.size + 1) v1 (l.take k) ∧ Below (W.alloc (.cells #[.int .i64 x.From, .int .i64 x.Seq] 41)).heap.size (W.alloc (.cells #[.int .i64 x.From, .int .i64 x.Seq] 41)) w1) := ⟨hg1.own, HAL.out.trans (by simpa using hg1.below)⟩; clear hg1)
            clear HA1 HM HAL HBL
            obtain ⟨b0, b1⟩ := HX.out w1 HG1.out.2
            obtain ⟨c0, c1⟩ := HFK.out w1 (HB1.out w1 HG1.out.2).1
            go_quiet (fail)
            have HG1b : Hid (OwnHv (w1.drewN nq) (W.heap.size + 1) v1 (l.take k) ∧ Below W.heap.size W (w1.drewN nq) ∧ W.heap.size + 1 ≤ (w1.drewN nq).heap.size) := ⟨rowSame HG1.out.1 fun _ _ => rfl, belowN (HB1.out w1 HG1.out.2).1 nq, (HB1.out w1 HG1.out.2).2⟩
            have HXX : Hid (Below (W.alloc (.cells #[.int .i64 x.From, .int .i64 x.Seq] 41)).heap.size (W.alloc (.cells #[.int .i64 x.From, .int .i64 x.Seq] 41)) (w1.drewN nq)) := belowN HG1.out.2 nq
            clear b0 b1 c0 c1 HG1
            generalize w1.drewN nq = wa at *
            obtain ⟨b0, b1⟩ := HX.out wa HXX.out
            obtain ⟨c0, c1⟩ := HFK.out wa HG1b.out.2.1
            go_wp2
            go_quiet (fail)
            have HG1c : Hid (OwnHv (wa.drewN nq) (W.heap.size + 1) v1 (l.take k) ∧ Below W.heap.size W (wa.drewN nq) ∧ W.heap.size + 1 ≤ (wa.drewN nq).heap.size) := ⟨rowSame HG1b.out.1 fun _ _ => rfl, belowN HG1b.out.2.1 nq, HG1b.out.2.2⟩
            have HXY : Hid (Below (W.alloc (.cells #[.int .i64 x.From, .int .i64 x.Seq] 41)).heap.size (W.alloc (.cells #[.int .i64 x.From, .int .i64 x.Seq] 41)) (wa.drewN nq)) := belowN HXX.out nq
            clear b0 b1 c0 c1 HG1b HXX
            generalize wa.drewN nq = wb at *
            obtain ⟨b0, b1⟩ := HX.out wb HXY.out
            obtain ⟨z0, z1⟩ := HXF.out wb HXY.out
            obtain ⟨c0, c1⟩ := HFK.out wb HG1c.out.2.1
            have hw1 : IntKind.i64.wrap ((k : Int) + 1) = ((k + 1 : Nat) : Int) := by rw [IntKind.wrap_i64]; omega
            have HSZ : Hid (((wb.setCell ⟨W.heap.size, 0, none⟩ (.int .i64 y.From)).setCell ⟨W.heap.size, 1, none⟩ (.int .i64 y.Seq)).heap.size = wb.heap.size) := by show _ = _; simp [World.setCell]
            have HG1d : Hid (OwnHv ((wb.setCell ⟨W.heap.size, 0, none⟩ (.int .i64 y.From)).setCell ⟨W.heap.size, 1, none⟩ (.int .i64 y.Seq)) (W.heap.size + 1) v1 (l.take k) ∧ Below W.heap.size W ((wb.setCell ⟨W.heap.size, 0, none⟩ (.int .i64 y.From)).setCell ⟨W.heap.size, 1, none⟩ (.int .i64 y.Seq)) ∧ W.heap.size + 1 ≤ ((wb.setCell ⟨W.heap.size, 0, none⟩ (.int .i64 y.From)).setCell ⟨W.heap.size, 1, none⟩ (.int .i64 y.Seq)).heap.size) :=
              ⟨(HG1c.out.1.setCell (by simp) _).setCell (by simp) _, (HG1c.out.2.1.setCell (Nat.le_refl _) _).setCell (Nat.le_refl _) _, by have := HG1c.out.2.2; simpa [World.setCell] using this⟩
            by_cases hce : cap ≤ k + 1
            · have e1 : cap = k + 1 := by omega
              have e2 : l.length = k + 1 := by omega
              have HR1 : Hid (putHv x l = (l.take k ++ [y]) ++ []) := by
                show _ = _
                rw [HR.out, List.drop_eq_nil_of_le (by omega)]
              clear HR
              have HA2 : Hid (∀ ty, ∃ v' w', (Builtin.append_ #[23, 23] ty #[v1, .slice (some ⟨wb.heap.size, 0, none⟩) 1 1]).run Try.prog (((wb.setCell ⟨W.heap.size, 0, none⟩ (.int .i64 y.From)).setCell ⟨W.heap.size, 1, none⟩ (.int .i64 y.Seq)).alloc (.cells #[.int .i64 y.From, .int .i64 y.Seq] 41)) = .ok v' w' ∧ AppTo (((wb.setCell ⟨W.heap.size, 0, none⟩ (.int .i64 y.From)).setCell ⟨W.heap.size, 1, none⟩ (.int .i64 y.Seq)).alloc (.cells #[.int .i64 y.From, .int .i64 y.Seq] 41)) (W.heap.size + 1) ((l.take k) ++ [y]) v' w') :=
                HSZ.out ▸ run_to _ _ _ _ (HG1d.out.1.below ((Below.refl _ _).alloc (Nat.le_refl _) _)) _ [y] 1 rfl (src_new _ y 1) (by simp <;> omega) (by have := HG1d.out.2.2; simp at this ⊢; omega)
              have HS2 : Hid (∀ w', Below (W.heap.size + 1) (((wb.setCell ⟨W.heap.size, 0, none⟩ (.int .i64 y.From)).setCell ⟨W.heap.size, 1, none⟩ (.int .i64 y.Seq)).alloc (.cells #[.int .i64 y.From, .int .i64 y.Seq] 41)) w' → Below W.heap.size W w') := fun w' h => (HG1d.out.2.1.alloc (Nat.le_trans (Nat.le_succ _) HG1d.out.2.2) _).trans (h.mono (Nat.le_succ _))
              go_wp2_with (first
                | (at_builtin; refine list_app (by rfl) (.tmp 56) (.tmp 58) 23 (by rfl) v1 (.slice (some ⟨wb.heap.size, 0, none⟩) 1 1) (by rfl) (by rfl) _ HA2.out ?_; intro v2 w2 hg2; have HG2 : Hid (OwnHv w2 (W.heap.size + 1) v2 ((l.take k) ++ [y]) ∧ Below W.heap.size W w2 ∧ W.heap.size + 1 ≤ w2.heap.size) := ⟨hg2.own, HS2.out _ hg2.below, Nat.le_trans HG1d.out.2.2 (Nat.le_trans (by simp) hg2.size)⟩; have HA3 : Hid (∀ ty, ∃ v' w', (Builtin.append_ #[23, 23] ty #[v2, .slice (some ⟨g, 0, none⟩) 0 0]).run Try.prog w2 = .ok v' w' ∧ AppTo w2 (W.heap.size + 1) (((l.take k) ++ [y]) ++ []) v' w') := run_to _ _ _ _ HG2.out.1 _ [] _ rfl (src_none _ _) (by simp <;> omega) HG2.out.2.2; clear hg2 HA2 HS2)
                | (at_builtin; refine list_app (by rfl) (.tmp 60) (.tmp 63) 23 (by rfl) v2 (.slice (some ⟨g, 0, none⟩) 0 0) (by rfl) (by rfl) _ HA3.out ?_; intro v3 w3 hg3; have HG3 : Hid (OwnHv w3 (W.heap.size + 1) v3 (((l.take k) ++ [y]) ++ []) ∧ Below W.heap.size W w3) := ⟨hg3.own, HG2.out.2.1.trans (hg3.below.mono (Nat.le_succ _))⟩; clear hg3))
              go_ret
              exact PutHvPost.mk _ HG3.out.1 (Nat.le_succ _) HR1.out HG3.out.2
            · have HA2 : Hid (∀ ty, ∃ v' w', (Builtin.append_ #[23, 23] ty #[v1, .slice (some ⟨wb.heap.size, 0, none⟩) 1 1]).run Try.prog (((wb.setCell ⟨W.heap.size, 0, none⟩ (.int .i64 y.From)).setCell ⟨W.heap.size, 1, none⟩ (.int .i64 y.Seq)).alloc (.cells #[.int .i64 y.From, .int .i64 y.Seq] 41)) = .ok v' w' ∧ AppTo (((wb.setCell ⟨W.heap.size, 0, none⟩ (.int .i64 y.From)).setCell ⟨W.heap.size, 1, none⟩ (.int .i64 y.Seq)).alloc (.cells #[.int .i64 y.From, .int .i64 y.Seq] 41)) (W.heap.size + 1) ((l.take k) ++ [y]) v' w') :=
                HSZ.out ▸ run_to _ _ _ _ (HG1d.out.1.below ((Below.refl _ _).alloc (Nat.le_refl _) _)) _ [y] 1 rfl (src_new _ y 1) (by simp <;> omega) (by have := HG1d.out.2.2; simp at this ⊢; omega)
              have HS2 : Hid (∀ w', Below (W.heap.size + 1) (((wb.setCell ⟨W.heap.size, 0, none⟩ (.int .i64 y.From)).setCell ⟨W.heap.size, 1, none⟩ (.int .i64 y.Seq)).alloc (.cells #[.int .i64 y.From, .int .i64 y.Seq] 41)) w' → Below W.heap.size W w') := fun w' h => (HG1d.out.2.1.alloc (Nat.le_trans (Nat.le_succ _) HG1d.out.2.2) _).trans (h.mono (Nat.le_succ _))
              go_wp2_with (first
                | (at_builtin; refine list_app (by rfl) (.tmp 56) (.tmp 58) 23 (by rfl) v1 (.slice (some ⟨wb.heap.size, 0, none⟩) 1 1) (by rfl) (by rfl) _ HA2.out ?_; intro v2 w2 hg2; have HG2 : Hid (OwnHv w2 (W.heap.size + 1) v2 ((l.take k) ++ [y]) ∧ Below W.heap.size W w2 ∧ W.heap.size + 1 ≤ w2.heap.size) := ⟨hg2.own, HS2.out _ hg2.below, Nat.le_trans HG1d.out.2.2 (Nat.le_trans (by simp) hg2.size)⟩; have HA3 : Hid (∀ ty, ∃ v' w', (Builtin.append_ #[23, 23] ty #[v2, .slice (some ⟨g, (k + 1) * 2, none⟩) (l.length - (k + 1)) (cap - (k + 1))]).run Try.prog w2 = .ok v' w' ∧ AppTo w2 (W.heap.size + 1) (((l.take k) ++ [y]) ++ (l.drop (k + 1))) v' w') := run_to _ _ _ _ HG2.out.1 _ (l.drop (k + 1)) _ (by rw [List.length_drop]) (HDK.out _ HG2.out.2.1 (k + 1) (by omega) _) (by simp <;> omega) HG2.out.2.2; clear hg2 HA2 HS2)
                | (at_builtin; refine list_app (by rfl) (.tmp 60) (.tmp 63) 23 (by rfl) v2 (.slice (some ⟨g, (k + 1) * 2, none⟩) (l.length - (k + 1)) (cap - (k + 1))) (by rfl) (by rfl) _ HA3.out ?_; intro v3 w3 hg3; have HG3 : Hid (OwnHv w3 (W.heap.size + 1) v3 (((l.take k) ++ [y]) ++ (l.drop (k + 1))) ∧ Below W.heap.size W w3) := ⟨hg3.own, HG2.out.2.1.trans (hg3.below.mono (Nat.le_succ _))⟩; clear hg3))
              go_ret
              exact PutHvPost.mk _ HG3.out.1 (Nat.le_succ _) HR.out HG3.out.2
          · have HR : Hid (putHv x l = (l.take k ++ [x]) ++ l.drop (k + 1)) := by
              show _ = _
              rw [HR0.out, if_neg h3]
            have d3 : decide (x.Seq < l[k].Seq) = false := decide_eq_false h3
            clear HR0 h3
            generalize l[k] = y at *
            go_wp2
            go_quiet (fail)
            have HBL : Hid (Below (W.alloc (.cells #[.int .i64 x.From, .int .i64 x.Seq] 41)).heap.size (W.alloc (.cells #[.int .i64 x.From, .int .i64 x.Seq] 41)) (wr.drewN nq)) := belowN HKB.out nq
            clear HKB b0' b1' c0' c1'
            generalize wr.drewN nq = wl at *
            have HM : Hid (OwnHv (wl.alloc (.cells #[] 41)) (W.heap.size + 1) (.slice (some ⟨wl.heap.size, 0, none⟩) 0 0) []) := World.ownsRow_made (base := W.heap.size + 1) (e := 41) (size := 2) wl #[] 0 (by have := HBL.out.size; simp at this; omega) (by decide) rfl
            have HAL : Hid (Below (W.alloc (.cells #[.int .i64 x.From, .int .i64 x.Seq] 41)).heap.size (W.alloc (.cells #[.int .i64 x.From, .int .i64 x.Seq] 41)) (wl.alloc (.cells #[] 41))) := HBL.out.alloc HBL.out.size _
            have HA1 : Hid (∀ ty, ∃ v' w', (Builtin.append_ #[23, 23] ty #[.slice (some ⟨wl.heap.size, 0, none⟩) 0 0, .slice (some ⟨g, 0, none⟩) k cap]).run Try.prog (wl.alloc (.cells #[] 41)) = .ok v' w' ∧ AppTo (wl.alloc (.cells #[] 41)) (W.heap.size + 1) ([] ++ (l.take k)) v' w') :=
              run_to _ _ _ _ HM.out _ (l.take k) _ (by rw [List.length_take]; omega) (HTK.out _ ((HB1.out _ HAL.out).1) k (by omega)) (by simp <;> omega) (by have := HBL.out.size; simp at this; simp; omega)
            go_wp2_with (at_builtin; refine list_app (by rfl) (.tmp 23) (.tmp 26) 23 (by rfl) (.slice (some ⟨wl.heap.size, 0, none⟩) 0 0) (.slice (some ⟨g, 0, none⟩) k cap) (by rfl) (by rfl) _ HA1.out ?_; intro v1 w1 hg1; have HG1 : Hid (OwnHv w1 (W.heap.size + 1) v1 (l.take k) ∧ Below (W.alloc (.cells #[.int .i64 x.From, .int .i64 x.Seq] 41)).heap.size (W.alloc (.cells #[.int .i64 x.From, .int .i64 x.Seq] 41)) w1) := ⟨hg1.own, HAL.out.trans (by simpa using hg1.below)⟩; clear hg1)
            clear HA1 HM HAL HBL
            obtain ⟨b0, b1⟩ := HX.out w1 HG1.out.2
            obtain ⟨c0, c1⟩ := HFK.out w1 (HB1.out w1 HG1.out.2).1
            go_quiet (fail)
            have HG1b : Hid (OwnHv (w1.drewN nq) (W.heap.size + 1) v1 (l.take k) ∧ Below W.heap.size W (w1.drewN nq) ∧ W.heap.size + 1 ≤ (w1.drewN nq).heap.size) := ⟨rowSame HG1.out.1 fun _ _ => rfl, belowN (HB1.out w1 HG1.out.2).1 nq, (HB1.out w1 HG1.out.2).2⟩
            have HXX : Hid (Below (W.alloc (.cells #[.int .i64 x.From, .int .i64 x.Seq] 41)).heap.size (W.alloc (.cells #[.int .i64 x.From, .int .i64 x.Seq] 41)) (w1.drewN nq)) := belowN HG1.out.2 nq
            clear b0 b1 c0 c1 HG1
            generalize w1.drewN nq = wa at *
            obtain ⟨b0, b1⟩ := HX.out wa HXX.out
            obtain ⟨c0, c1⟩ := HFK.out wa HG1b.out.2.1
            go_wp2
            go_quiet (fail)
            have HG1c : Hid (OwnHv (wa.drewN nq) (W.heap.size + 1) v1 (l.take k) ∧ Below W.heap.size W (wa.drewN nq) ∧ W.heap.size + 1 ≤ (wa.drewN nq).heap.size) := ⟨rowSame HG1b.out.1 fun _ _ => rfl, belowN HG1b.out.2.1 nq, HG1b.out.2.2⟩
            have HXY : Hid (Below (W.alloc (.cells #[.int .i64 x.From, .int .i64 x.Seq] 41)).heap.size (W.alloc (.cells #[.int .i64 x.From, .int .i64 x.Seq] 41)) (wa.drewN nq)) := belowN HXX.out nq
            clear b0 b1 c0 c1 HG1b HXX
            generalize wa.drewN nq = wb at *
            obtain ⟨b0, b1⟩ := HX.out wb HXY.out
            obtain ⟨z0, z1⟩ := HXF.out wb HXY.out
            obtain ⟨c0, c1⟩ := HFK.out wb HG1c.out.2.1
            have hw1 : IntKind.i64.wrap ((k : Int) + 1) = ((k + 1 : Nat) : Int) := by rw [IntKind.wrap_i64]; omega
            clear z0 z1
            by_cases hce : cap ≤ k + 1
            · have e1 : cap = k + 1 := by omega
              have e2 : l.length = k + 1 := by omega
              have HR1 : Hid (putHv x l = (l.take k ++ [x]) ++ []) := by
                show _ = _
                rw [HR.out, List.drop_eq_nil_of_le (by omega)]
              clear HR
              have HA2 : Hid (∀ ty, ∃ v' w', (Builtin.append_ #[23, 23] ty #[v1, .slice (some ⟨wb.heap.size, 0, none⟩) 1 1]).run Try.prog (wb.alloc (.cells #[.int .i64 x.From, .int .i64 x.Seq] 41)) = .ok v' w' ∧ AppTo (wb.alloc (.cells #[.int .i64 x.From, .int .i64 x.Seq] 41)) (W.heap.size + 1) ((l.take k) ++ [x]) v' w') :=
                run_to _ _ _ _ (HG1c.out.1.below ((Below.refl _ _).alloc (Nat.le_refl _) _)) _ [x] 1 rfl (src_new _ x 1) (by simp <;> omega) (by have := HG1c.out.2.2; simp at this ⊢; omega)
              have HS2 : Hid (∀ w', Below (W.heap.size + 1) (wb.alloc (.cells #[.int .i64 x.From, .int .i64 x.Seq] 41)) w' → Below W.heap.size W w') := fun w' h => (HG1c.out.2.1.alloc (Nat.le_trans (Nat.le_succ _) HG1c.out.2.2) _).trans (h.mono (Nat.le_succ _))
              go_wp2_with (first
                | (at_builtin; refine list_app (by rfl) (.tmp 56) (.tmp 58) 23 (by rfl) v1 (.slice (some ⟨wb.heap.size, 0, none⟩) 1 1) (by rfl) (by rfl) _ HA2.out ?_; intro v2 w2 hg2; have HG2 : Hid (OwnHv w2 (W.heap.size + 1) v2 ((l.take k) ++ [x]) ∧ Below W.heap.size W w2 ∧ W.heap.size + 1 ≤ w2.heap.size) := ⟨hg2.own, HS2.out _ hg2.below, Nat.le_trans HG1c.out.2.2 (Nat.le_trans (by simp) hg2.size)⟩; have HA3 : Hid (∀ ty, ∃ v' w', (Builtin.append_ #[23, 23] ty #[v2, .slice (some ⟨g, 0, none⟩) 0 0]).run Try.prog w2 = .ok v' w' ∧ AppTo w2 (W.heap.size + 1) (((l.take k) ++ [x]) ++ []) v' w') := run_to _ _ _ _ HG2.out.1 _ [] _ rfl (src_none _ _) (by simp <;> omega) HG2.out.2.2; clear hg2 HA2 HS2)
                | (at_builtin; refine list_app (by rfl) (.tmp 60) (.tmp 63) 23 (by rfl) v2 (.slice (some ⟨g, 0, none⟩) 0 0) (by rfl) (by rfl) _ HA3.out ?_; intro v3 w3 hg3; have HG3 : Hid (OwnHv w3 (W.heap.size + 1) v3 (((l.take k) ++ [x]) ++ []) ∧ Below W.heap.size W w3) := ⟨hg3.own, HG2.out.2.1.trans (hg3.below.mono (Nat.le_succ _))⟩; clear hg3))
              go_ret
              exact PutHvPost.mk _ HG3.out.1 (Nat.le_succ _) HR1.out HG3.out.2
            · have HA2 : Hid (∀ ty, ∃ v' w', (Builtin.append_ #[23, 23] ty #[v1, .slice (some ⟨wb.heap.size, 0, none⟩) 1 1]).run Try.prog (wb.alloc (.cells #[.int .i64 x.From, .int .i64 x.Seq] 41)) = .ok v' w' ∧ AppTo (wb.alloc (.cells #[.int .i64 x.From, .int .i64 x.Seq] 41)) (W.heap.size + 1) ((l.take k) ++ [x]) v' w') :=
                run_to _ _ _ _ (HG1c.out.1.below ((Below.refl _ _).alloc (Nat.le_refl _) _)) _ [x] 1 rfl (src_new _ x 1) (by simp <;> omega) (by have := HG1c.out.2.2; simp at this ⊢; omega)
              have HS2 : Hid (∀ w', Below (W.heap.size + 1) (wb.alloc (.cells #[.int .i64 x.From, .int .i64 x.Seq] 41)) w' → Below W.heap.size W w') := fun w' h => (HG1c.out.2.1.alloc (Nat.le_trans (Nat.le_succ _) HG1c.out.2.2) _).trans (h.mono (Nat.le_succ _))
              go_wp2_with (first
                | (at_builtin; refine list_app (by rfl) (.tmp 56) (.tmp 58) 23 (by rfl) v1 (.slice (some ⟨wb.heap.size, 0, none⟩) 1 1) (by rfl) (by rfl) _ HA2.out ?_; intro v2 w2 hg2; have HG2 : Hid (OwnHv w2 (W.heap.size + 1) v2 ((l.take k) ++ [x]) ∧ Below W.heap.size W w2 ∧ W.heap.size + 1 ≤ w2.heap.size) := ⟨hg2.own, HS2.out _ hg2.below, Nat.le_trans HG1c.out.2.2 (Nat.le_trans (by simp) hg2.size)⟩; have HA3 : Hid (∀ ty, ∃ v' w', (Builtin.append_ #[23, 23] ty #[v2, .slice (some ⟨g, (k + 1) * 2, none⟩) (l.length - (k + 1)) (cap - (k + 1))]).run Try.prog w2 = .ok v' w' ∧ AppTo w2 (W.heap.size + 1) (((l.take k) ++ [x]) ++ (l.drop (k + 1))) v' w') := run_to _ _ _ _ HG2.out.1 _ (l.drop (k + 1)) _ (by rw [List.length_drop]) (HDK.out _ HG2.out.2.1 (k + 1) (by omega) _) (by simp <;> omega) HG2.out.2.2; clear hg2 HA2 HS2)
                | (at_builtin; refine list_app (by rfl) (.tmp 60) (.tmp 63) 23 (by rfl) v2 (.slice (some ⟨g, (k + 1) * 2, none⟩) (l.length - (k + 1)) (cap - (k + 1))) (by rfl) (by rfl) _ HA3.out ?_; intro v3 w3 hg3; have HG3 : Hid (OwnHv w3 (W.heap.size + 1) v3 (((l.take k) ++ [x]) ++ (l.drop (k + 1))) ∧ Below W.heap.size W w3) := ⟨hg3.own, HG2.out.2.1.trans (hg3.below.mono (Nat.le_succ _))⟩; clear hg3))
              go_ret
              exact PutHvPost.mk _ HG3.out.1 (Nat.le_succ _) HR.out HG3.out.2
        · have d2 : (l[k].From == x.From) = false := beq_eq_false_iff_ne.2 h2
          have HFK : Hid (∀ w', Below W.heap.size W w' → w'.cell? ⟨g, k * 2, none⟩ = some (.int .i64 l[k].From) ∧ w'.cell? ⟨g, k * 2 + 1, none⟩ = some (.int .i64 l[k].Seq)) := fun w' hb => by
            have := HC.out w' hb k hlt
            rw [Nat.zero_add] at this
            exact this
          have HR : Hid (putHv x l = (l.take k ++ [x]) ++ l.drop k) := putHv_new x l k HK.out.1 hlt (by omega)
          clear HK h1 h2
          generalize l[k] = y at *
          go_wp2
          go_quiet (fail)
          have HBL : Hid (Below (W.alloc (.cells #[.int .i64 x.From, .int .i64 x.Seq] 41)).heap.size (W.alloc (.cells #[.int .i64 x.From, .int .i64 x.Seq] 41)) (wr.drewN nq)) := belowN HKB.out nq
          clear HKB b0' b1' c0' c1'
          generalize wr.drewN nq = wl at *
          have HM : Hid (OwnHv (wl.alloc (.cells #[] 41)) (W.heap.size + 1) (.slice (some ⟨wl.heap.size, 0, none⟩) 0 0) []) := World.ownsRow_made (base := W.heap.size + 1) (e := 41) (size := 2) wl #[] 0 (by have := HBL.out.size; simp at this; omega) (by decide) rfl
          have HAL : Hid (Below (W.alloc (.cells #[.int .i64 x.From, .int .i64 x.Seq] 41)).heap.size (W.alloc (.cells #[.int .i64 x.From, .int .i64 x.Seq] 41)) (wl.alloc (.cells #[] 41))) := HBL.out.alloc HBL.out.size _
          have HA1 : Hid (∀ ty, ∃ v' w', (Builtin.append_ #[23, 23] ty #[.slice (some ⟨wl.heap.size, 0, none⟩) 0 0, .slice (some ⟨g, 0, none⟩) k cap]).run Try.prog (wl.alloc (.cells #[] 41)) = .ok v' w' ∧ AppTo (wl.alloc (.cells #[] 41)) (W.heap.size + 1) ([] ++ (l.take k)) v' w') :=
            run_to _ _ _ _ HM.out _ (l.take k) _ (by rw [List.length_take]; omega) (HTK.out _ ((HB1.out _ HAL.out).1) k (by omega)) (by simp <;> omega) (by have := HBL.out.size; simp at this; simp; omega)
          go_wp2_with (at_builtin; refine list_app (by rfl) (.tmp 23) (.tmp 26) 23 (by rfl) (.slice (some ⟨wl.heap.size, 0, none⟩) 0 0) (.slice (some ⟨g, 0, none⟩) k cap) (by rfl) (by rfl) _ HA1.out ?_; intro v1 w1 hg1; have HG1 : Hid (OwnHv w1 (W.heap.size + 1) v1 (l.take k) ∧ Below (W.alloc (.cells #[.int .i64 x.From, .int .i64 x.Seq] 41)).heap.size (W.alloc (.cells #[.int .i64 x.From, .int .i64 x.Seq] 41)) w1) := ⟨hg1.own, HAL.out.trans (by simpa using hg1.below)⟩; clear hg1)
          clear HA1 HM HAL HBL
          obtain ⟨b0, b1⟩ := HX.out w1 HG1.out.2
          obtain ⟨c0, c1⟩ := HFK.out w1 (HB1.out w1 HG1.out.2).1
          go_quiet (fail)
          have HG1b : Hid (OwnHv (w1.drewN nq) (W.heap.size + 1) v1 (l.take k) ∧ Below W.heap.size W (w1.drewN nq) ∧ W.heap.size + 1 ≤ (w1.drewN nq).heap.size) := ⟨rowSame HG1.out.1 fun _ _ => rfl, belowN (HB1.out w1 HG1.out.2).1 nq, (HB1.out w1 HG1.out.2).2⟩
          have hce : ¬ cap ≤ k := by omega
          have HA2 : Hid (∀ ty, ∃ v' w', (Builtin.append_ #[23, 23] ty #[v1, .slice (some ⟨(w1.drewN nq).heap.size, 0, none⟩) 1 1]).run Try.prog ((w1.drewN nq).alloc (.cells #[.int .i64 x.From, .int .i64 x.Seq] 41)) = .ok v' w' ∧ AppTo ((w1.drewN nq).alloc (.cells #[.int .i64 x.From, .int .i64 x.Seq] 41)) (W.heap.size + 1) ((l.take k) ++ [x]) v' w') :=
            run_to _ _ _ _ (HG1b.out.1.below ((Below.refl _ _).alloc (Nat.le_refl _) _)) _ [x] 1 rfl (src_new _ x 1) (by simp <;> omega) (by have := HG1b.out.2.2; simp at this ⊢; omega)
          have HS2 : Hid (∀ w', Below (W.heap.size + 1) ((w1.drewN nq).alloc (.cells #[.int .i64 x.From, .int .i64 x.Seq] 41)) w' → Below W.heap.size W w') := fun w' h => (HG1b.out.2.1.alloc (Nat.le_trans (Nat.le_succ _) HG1b.out.2.2) _).trans (h.mono (Nat.le_succ _))
          go_wp2_with (first
            | (at_builtin; refine list_app (by rfl) (.tmp 56) (.tmp 58) 23 (by rfl) v1 (.slice (some ⟨(w1.drewN nq).heap.size, 0, none⟩) 1 1) (by rfl) (by rfl) _ HA2.out ?_; intro v2 w2 hg2; have HG2 : Hid (OwnHv w2 (W.heap.size + 1) v2 ((l.take k) ++ [x]) ∧ Below W.heap.size W w2 ∧ W.heap.size + 1 ≤ w2.heap.size) := ⟨hg2.own, HS2.out _ hg2.below, Nat.le_trans HG1b.out.2.2 (Nat.le_trans (by simp) hg2.size)⟩; have HA3 : Hid (∀ ty, ∃ v' w', (Builtin.append_ #[23, 23] ty #[v2, .slice (some ⟨g, (k) * 2, none⟩) (l.length - (k)) (cap - (k))]).run Try.prog w2 = .ok v' w' ∧ AppTo w2 (W.heap.size + 1) (((l.take k) ++ [x]) ++ (l.drop (k))) v' w') := run_to _ _ _ _ HG2.out.1 _ (l.drop (k)) _ (by rw [List.length_drop]) (HDK.out _ HG2.out.2.1 (k) (by omega) _) (by simp <;> omega) HG2.out.2.2; clear hg2 HA2 HS2)
            | (at_builtin; refine list_app (by rfl) (.tmp 60) (.tmp 63) 23 (by rfl) v2 (.slice (some ⟨g, (k) * 2, none⟩) (l.length - (k)) (cap - (k))) (by rfl) (by rfl) _ HA3.out ?_; intro v3 w3 hg3; have HG3 : Hid (OwnHv w3 (W.heap.size + 1) v3 (((l.take k) ++ [x]) ++ (l.drop (k))) ∧ Below W.heap.size W w3) := ⟨hg3.own, HG2.out.2.1.trans (hg3.below.mono (Nat.le_succ _))⟩; clear hg3))
          go_ret
          exact PutHvPost.mk _ HG3.out.1 (Nat.le_succ _) HR.out HG3.out.2
    · have d0 : decide ((k : Int) < (l.length : Int)) = false := decide_eq_false (by omega)
      have HKB : Hid (Below (W.alloc (.cells #[.int .i64 x.From, .int .i64 x.Seq] 41)).heap.size (W.alloc (.cells #[.int .i64 x.From, .int .i64 x.Seq] 41)) wr) := HK.out.2
      obtain rfl : k = l.length := by omega
      have HR : Hid (putHv x l = (l.take l.length ++ [x]) ++ []) := by
        show _ = _
        rw [List.take_length, List.append_nil]
        exact putHv_end x l fun j hj => HK.out.1 j hj hj
      clear HK
      go_wp2
      go_quiet (fail)
      have HBL : Hid (Below (W.alloc (.cells #[.int .i64 x.From, .int .i64 x.Seq] 41)).heap.size (W.alloc (.cells #[.int .i64 x.From, .int .i64 x.Seq] 41)) (wr.drewN nq)) := belowN HKB.out nq
      clear HKB b0' b1'
      generalize wr.drewN nq = wl at *
      have HM : Hid (OwnHv (wl.alloc (.cells #[] 41)) (W.heap.size + 1) (.slice (some ⟨wl.heap.size, 0, none⟩) 0 0) []) := World.ownsRow_made (base := W.heap.size + 1) (e := 41) (size := 2) wl #[] 0 (by have := HBL.out.size; simp at this; omega) (by decide) rfl
      have HAL : Hid (Below (W.alloc (.cells #[.int .i64 x.From, .int .i64 x.Seq] 41)).heap.size (W.alloc (.cells #[.int .i64 x.From, .int .i64 x.Seq] 41)) (wl.alloc (.cells #[] 41))) := HBL.out.alloc HBL.out.size _
      have HA1 : Hid (∀ ty, ∃ v' w', (Builtin.append_ #[23, 23] ty #[.slice (some ⟨wl.heap.size, 0, none⟩) 0 0, .slice (some ⟨g, 0, none⟩) l.length cap]).run Try.prog (wl.alloc (.cells #[] 41)) = .ok v' w' ∧ AppTo (wl.alloc (.cells #[] 41)) (W.heap.size + 1) ([] ++ (l.take l.length)) v' w') :=
        run_to _ _ _ _ HM.out _ (l.take l.length) _ (by rw [List.length_take]; omega) (HTK.out _ ((HB1.out _ HAL.out).1) l.length (by omega)) (by simp <;> omega) (by have := HBL.out.size; simp at this; simp; omega)
      go_wp2_with (at_builtin; refine list_app (by rfl) (.tmp 23) (.tmp 26) 23 (by rfl) (.slice (some ⟨wl.heap.size, 0, none⟩) 0 0) (.slice (some ⟨g, 0, none⟩) l.length cap) (by rfl) (by rfl) _ HA1.out ?_; intro v1 w1 hg1; have HG1 : Hid (OwnHv w1 (W.heap.size + 1) v1 (l.take l.length) ∧ Below (W.alloc (.cells #[.int .i64 x.From, .int .i64 x.Seq] 41)).heap.size (W.alloc (.cells #[.int .i64 x.From, .int .i64 x.Seq] 41)) w1) := ⟨hg1.own, HAL.out.trans (by simpa using hg1.below)⟩; clear hg1)
      clear HA1 HM HAL HBL
      obtain ⟨b0, b1⟩ := HX.out w1 HG1.out.2
      go_quiet (fail)
      have HG1b : Hid (OwnHv (w1.drewN nq) (W.heap.size + 1) v1 (l.take l.length) ∧ Below W.heap.size W (w1.drewN nq) ∧ W.heap.size + 1 ≤ (w1.drewN nq).heap.size) := ⟨rowSame HG1.out.1 fun _ _ => rfl, belowN (HB1.out w1 HG1.out.2).1 nq, (HB1.out w1 HG1.out.2).2⟩
      by_cases hce : cap ≤ l.length
      · have e1 : cap = l.length := by omega
        have HR1 : Hid (putHv x l = (l.take l.length ++ [x]) ++ []) := HR.out
        have HA2 : Hid (∀ ty, ∃ v' w', (Builtin.append_ #[23, 23] ty #[v1, .slice (some ⟨(w1.drewN nq).heap.size, 0, none⟩) 1 1]).run Try.prog ((w1.drewN nq).alloc (.cells #[.int .i64 x.From, .int .i64 x.Seq] 41)) = .ok v' w' ∧ AppTo ((w1.drewN nq).alloc (.cells #[.int .i64 x.From, .int .i64 x.Seq] 41)) (W.heap.size + 1) ((l.take l.length) ++ [x]) v' w') :=
          run_to _ _ _ _ (HG1b.out.1.below ((Below.refl _ _).alloc (Nat.le_refl _) _)) _ [x] 1 rfl (src_new _ x 1) (by simp <;> omega) (by have := HG1b.out.2.2; simp at this ⊢; omega)
        have HS2 : Hid (∀ w', Below (W.heap.size + 1) ((w1.drewN nq).alloc (.cells #[.int .i64 x.From, .int .i64 x.Seq] 41)) w' → Below W.heap.size W w') := fun w' h => (HG1b.out.2.1.alloc (Nat.le_trans (Nat.le_succ _) HG1b.out.2.2) _).trans (h.mono (Nat.le_succ _))
        go_wp2_with (first
          | (at_builtin; refine list_app (by rfl) (.tmp 56) (.tmp 58) 23 (by rfl) v1 (.slice (some ⟨(w1.drewN nq).heap.size, 0, none⟩) 1 1) (by rfl) (by rfl) _ HA2.out ?_; intro v2 w2 hg2; have HG2 : Hid (OwnHv w2 (W.heap.size + 1) v2 ((l.take l.length) ++ [x]) ∧ Below W.heap.size W w2 ∧ W.heap.size + 1 ≤ w2.heap.size) := ⟨hg2.own, HS2.out _ hg2.below, Nat.le_trans HG1b.out.2.2 (Nat.le_trans (by simp) hg2.size)⟩; have HA3 : Hid (∀ ty, ∃ v' w', (Builtin.append_ #[23, 23] ty #[v2, .slice (some ⟨g, 0, none⟩) 0 0]).run Try.prog w2 = .ok v' w' ∧ AppTo w2 (W.heap.size + 1) (((l.take l.length) ++ [x]) ++ []) v' w') := run_to _ _ _ _ HG2.out.1 _ [] _ rfl (src_none _ _) (by simp <;> omega) HG2.out.2.2; clear hg2 HA2 HS2)
          | (at_builtin; refine list_app (by rfl) (.tmp 60) (.tmp 63) 23 (by rfl) v2 (.slice (some ⟨g, 0, none⟩) 0 0) (by rfl) (by rfl) _ HA3.out ?_; intro v3 w3 hg3; have HG3 : Hid (OwnHv w3 (W.heap.size + 1) v3 (((l.take l.length) ++ [x]) ++ []) ∧ Below W.heap.size W w3) := ⟨hg3.own, HG2.out.2.1.trans (hg3.below.mono (Nat.le_succ _))⟩; clear hg3))
        go_ret
        exact PutHvPost.mk _ HG3.out.1 (Nat.le_succ _) HR1.out HG3.out.2
      · have HR1 : Hid (putHv x l = (l.take l.length ++ [x]) ++ []) := HR.out
        have HA2 : Hid (∀ ty, ∃ v' w', (Builtin.append_ #[23, 23] ty #[v1, .slice (some ⟨(w1.drewN nq).heap.size, 0, none⟩) 1 1]).run Try.prog ((w1.drewN nq).alloc (.cells #[.int .i64 x.From, .int .i64 x.Seq] 41)) = .ok v' w' ∧ AppTo ((w1.drewN nq).alloc (.cells #[.int .i64 x.From, .int .i64 x.Seq] 41)) (W.heap.size + 1) ((l.take l.length) ++ [x]) v' w') :=
          run_to _ _ _ _ (HG1b.out.1.below ((Below.refl _ _).alloc (Nat.le_refl _) _)) _ [x] 1 rfl (src_new _ x 1) (by simp <;> omega) (by have := HG1b.out.2.2; simp at this ⊢; omega)
        have HS2 : Hid (∀ w', Below (W.heap.size + 1) ((w1.drewN nq).alloc (.cells #[.int .i64 x.From, .int .i64 x.Seq] 41)) w' → Below W.heap.size W w') := fun w' h => (HG1b.out.2.1.alloc (Nat.le_trans (Nat.le_succ _) HG1b.out.2.2) _).trans (h.mono (Nat.le_succ _))
        go_wp2_with (first
          | (at_builtin; refine list_app (by rfl) (.tmp 56) (.tmp 58) 23 (by rfl) v1 (.slice (some ⟨(w1.drewN nq).heap.size, 0, none⟩) 1 1) (by rfl) (by rfl) _ HA2.out ?_; intro v2 w2 hg2; have HG2 : Hid (OwnHv w2 (W.heap.size + 1) v2 ((l.take l.length) ++ [x]) ∧ Below W.heap.size W w2 ∧ W.heap.size + 1 ≤ w2.heap.size) := ⟨hg2.own, HS2.out _ hg2.below, Nat.le_trans HG1b.out.2.2 (Nat.le_trans (by simp) hg2.size)⟩; have HA3 : Hid (∀ ty, ∃ v' w', (Builtin.append_ #[23, 23] ty #[v2, .slice (some ⟨g, l.length * 2, none⟩) 0 (cap - l.length)]).run Try.prog w2 = .ok v' w' ∧ AppTo w2 (W.heap.size + 1) (((l.take l.length) ++ [x]) ++ []) v' w') := run_to _ _ _ _ HG2.out.1 _ [] _ rfl (src_none _ _) (by simp <;> omega) HG2.out.2.2; clear hg2 HA2 HS2)
          | (at_builtin; refine list_app (by rfl) (.tmp 60) (.tmp 63) 23 (by rfl) v2 (.slice (some ⟨g, l.length * 2, none⟩) 0 (cap - l.length)) (by rfl) (by rfl) _ HA3.out ?_; intro v3 w3 hg3; have HG3 : Hid (OwnHv w3 (W.heap.size + 1) v3 (((l.take l.length) ++ [x]) ++ []) ∧ Below W.heap.size W w3) := ⟨hg3.own, HG2.out.2.1.trans (hg3.below.mono (Nat.le_succ _))⟩; clear hg3))
        go_ret
        exact PutHvPost.mk _ HG3.out.1 (Nat.le_succ _) HR1.out HG3.out.2
end Go.Proofs.Ytkpdiojomgiocac
