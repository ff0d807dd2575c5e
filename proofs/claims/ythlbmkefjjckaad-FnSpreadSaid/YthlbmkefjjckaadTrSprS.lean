/-
  'l10Spread', 'SpreadOn' of the model.
-/
import Derived.Test.YthlbmkefjjckaadBunF
import Derived.Test.YthlbmkefjjckaadBunI
namespace Go.Proofs.Ythlbmkefjjckaad
open Go.RowKit
set_option linter.unusedVariables false

def slLen : Value → Nat
  | .slice _ n _ => n
  | _ => 0
/-- What has gone out, and what waits, when so many have sent on. -/
def outQ (p : List Int) (f : Int) : Nat → List HopD
  | 0 => []
  | k + 1 => sprd p f k
def queQ (p : List Int) (f : Int) : Nat → List HopD
  | 0 => [⟨-1, f⟩]
  | k + 1 => (sprd p f k).drop k
theorem queQ_len (p : List Int) (f : Int) (m : Nat) (h : ∀ k, m = k + 1 → k ≤ (sprd p f k).length) : (outQ p f m).length + 1 - (queQ p f m).length = m := by
  cases m with
  | zero => rfl
  | succ k =>
    have := h k rfl
    simp only [outQ, queQ, List.length_drop]
    omega
theorem queQ_step (p : List Int) (f : Int) (m : Nat) (x : HopD) (r : List HopD) (h : queQ p f m = x :: r) : outQ p f (m + 1) = outQ p f m ++ kidsD p x ∧ queQ p f (m + 1) = r ++ kidsD p x := by
  cases m with
  | zero =>
    simp only [queQ] at h
    injection h with h1 h2
    subst h1
    subst h2
    exact ⟨rfl, rfl⟩
  | succ k =>
    simp only [queQ] at h
    have hlt : k < (sprd p f k).length := by
      have := congrArg List.length h
      simp only [List.length_drop, List.length_cons] at this
      omega
    rw [List.drop_eq_getElem_cons hlt] at h
    injection h with h1 h2
    simp only [outQ, queQ, sprd_next p f k hlt, h1]
    refine ⟨trivial, ?_⟩
    rw [List.drop_append_of_le_length (by omega), h2]
theorem queQ_low (p : List Int) (f : Int) : ∀ m, (∀ j, j < m → queQ p f j ≠ []) → ∀ k, m = k + 1 → k ≤ (sprd p f k).length
  | 0, _, _, h => by omega
  | m + 1, hq, k, h => by
    obtain rfl : k = m := by omega
    cases k with
    | zero => omega
    | succ j =>
      have h1 := hq (j + 1) (by omega)
      simp only [queQ] at h1
      have hlt : j < (sprd p f j).length := by
        rcases Nat.lt_or_ge j (sprd p f j).length with q | q
        · exact q
        · exact absurd (List.drop_eq_nil_of_le q) h1
      rw [sprd_next p f j hlt, List.length_append]
      omega
theorem queQ_end (p : List Int) (f : Int) {m : Nat} (h : queQ p f m = []) : ∃ k, m = k + 1 ∧ ¬ k < (sprd p f k).length := by
  cases m with
  | zero => cases h
  | succ k =>
    refine ⟨k, rfl, fun q => ?_⟩
    simp only [queQ] at h
    have := congrArg List.length h
    simp only [List.length_drop, List.length_nil] at this
    omega
/-- To whom one sends on, of so many. -/
def kidsJ (x : HopD) (ks : List Int) : List HopD := (ks.filter fun k => !decide (k = x.From)).map fun k => ⟨x.To, k⟩
theorem kidsJ_take (x : HopD) (ks : List Int) (j : Nat) (h : j < ks.length) : kidsJ x (ks.take (j + 1)) = kidsJ x (ks.take j) ++ if ks[j] = x.From then [] else [⟨x.To, ks[j]⟩] := by
  unfold kidsJ
  rw [List.take_succ_eq_append_getElem h, List.filter_append, List.map_append]
  congr 1
  by_cases e : ks[j] = x.From <;> simp [e]
theorem kidsJ_all (p : List Int) (x : HopD) : kidsJ x (joinT p x.To p.length) = kidsD p x := by
  unfold kidsJ joinT kidsD
  rw [List.filter_filter]
  congr 1
  refine List.filter_congr fun k _ => ?_
  rw [Bool.and_comm]
theorem kidsJ_len (x : HopD) (ks : List Int) : (kidsJ x ks).length ≤ ks.length := by
  unfold kidsJ
  rw [List.length_map]
  exact List.length_filter_le _ _

/-- What has gone out, and what waits, while one sends on. -/
structure SprV (W : World) (lo : Nat) (w2 w : World) (vo vq : Value) (ho hq : List HopD) : Prop where
  o : OwnHop w W.heap.size vo ho
  q : QHop w W.heap.size vq hq
  ap : ∀ g, vo.ownBlock = some g → vq.ownBlock ≠ some g
  since : Since W.heap.size W w
  mid : ∀ k, lo ≤ k → k < w2.heap.size → w.heap[k]? = w2.heap[k]?
  size : w2.heap.size ≤ w.heap.size
  ob : ∀ g, vo.ownBlock = some g → g < lo ∨ w2.heap.size ≤ g
  qb : ∀ g, vq.ownBlock = some g → g < lo ∨ w2.heap.size ≤ g
theorem SprV.below {W w2 w w' : World} {lo : Nat} {vo vq : Value} {ho hq : List HopD} (h : SprV W lo w2 w vo vq ho hq) (hb : Below w.heap.size w w') : SprV W lo w2 w' vo vq ho hq :=
  ⟨h.o.below hb, h.q.below hb, h.ap, h.since.step hb, fun k h1 h2 => (hb.block k (Nat.lt_of_lt_of_le h2 h.size)).trans (h.mid k h1 h2), Nat.le_trans h.size hb.size, h.ob, h.qb⟩
theorem SprV.appO {W w2 w w5 : World} {lo : Nat} {vo vq v5 : Value} {ho hq : List HopD} {x : HopD} (h : SprV W lo w2 w vo vq ho hq) (hg : Grown w W.heap.size 36 2 vo (ho ++ [x]).length (cellsHop (ho ++ [x])) v5 w5) : SprV W lo w2 w5 v5 vq (ho ++ [x]) hq := by
  have hlt : ∀ g, vo.ownBlock = some g → g < w.heap.size := fun g e => (World.ownsRow.lt h.o g e).2
  refine ⟨hg.own, h.q.same fun k hk => hg.grown.block k (h.q.lt k hk).2 (fun e => h.ap k e.symm hk), fun g e e2 => ?_, ⟨h.since.1.trans hg.below, Nat.le_trans h.since.2 hg.size⟩, fun k h1 h2 => (hg.grown.block k (Nat.lt_of_lt_of_le h2 h.size) (fun e => ?_)).trans (h.mid k h1 h2), Nat.le_trans h.size hg.size, fun g e => ?_, h.qb⟩
  · rcases hg.lies with q | q
    · exact h.ap g (by rw [← q]; exact e) e2
    · rw [q] at e; cases e; have := (h.q.lt _ e2).2; omega
  · rcases h.ob k e.symm with q | q <;> omega
  · rcases hg.lies with q | q
    · exact h.ob g (by rw [← q]; exact e)
    · rw [q] at e; cases e; exact .inr h.size
theorem SprV.appQ {W w2 w w5 : World} {lo : Nat} {vo vq v5 : Value} {ho hq : List HopD} {x : HopD} (h : SprV W lo w2 w vo vq ho hq) (hg : QHop w5 W.heap.size v5 (hq ++ [x]) ∧ w.grownBy w5 vq.ownBlock ∧ (v5.ownBlock = vq.ownBlock ∨ v5.ownBlock = some w.heap.size)) : SprV W lo w2 w5 vo v5 ho (hq ++ [x]) := by
  obtain ⟨g1, g2, g3⟩ := hg
  refine ⟨rowSame h.o fun k hk => g2.block k (World.ownsRow.lt h.o k hk).2 (fun e => h.ap k hk e.symm), g1, fun g e e2 => ?_, ⟨⟨g2.os.trans h.since.1.os, g2.tape.trans h.since.1.tape, g2.output.trans h.since.1.output, Nat.le_trans h.since.1.size g2.size, fun k hk => (g2.block k (Nat.lt_of_lt_of_le hk h.since.2) (fun e => ?_)).trans (h.since.1.block k hk)⟩, Nat.le_trans h.since.2 g2.size⟩, fun k h1 h2 => (g2.block k (Nat.lt_of_lt_of_le h2 h.size) (fun e => ?_)).trans (h.mid k h1 h2), Nat.le_trans h.size g2.size, h.ob, fun g e => ?_⟩
  · rcases g3 with q | q
    · exact h.ap g e (by rw [← q]; exact e2)
    · rw [q] at e2; cases e2; have := (World.ownsRow.lt h.o _ e).2; omega
  · have := (h.q.lt k e.symm).1; omega
  · rcases h.qb k e.symm with q | q <;> omega
  · rcases g3 with q | q
    · exact h.qb g (by rw [← q]; exact e)
    · rw [q] at e; cases e; exact .inr h.size

set_option maxRecDepth 100000 in
set_option maxHeartbeats 16000000 in
theorem l10Spread_any (W : World) (B : Nat) (u : Value) (ps : List Int) (f : Int) (hu : Own W B u ps) (hg : goodU ps = true) (hf : 0 ≤ f ∧ f < ps.length) :
    Calls Try.prog 56 #[u, .int .i64 f] W fun e W' => ∃ v, e = .returned v ∧ OwnHop W' W.heap.size v (spreadD ps f) ∧ Below W.heap.size W W' := by
  obtain ⟨⟨hn1, hn2⟩, -, -⟩ := (goodU_iff ps).1 hg
  have CJ : Hid (∀ (w' : World) (x : Int), Since W.heap.size W w' → (0 ≤ x ∧ x < (ps.length : Int)) → Calls Try.prog 85 #[u, .int .i64 x] w' fun e w2 => ∃ v, e = .returned v ∧ Own w2 w'.heap.size v (joinT ps x ps.length) ∧ Below w'.heap.size w' w2) := fun w' x hs hx => l10Joined_any w' B u ps x (hu.below hs.1) hx hn2
  obtain ⟨au, cu, rfl⟩ := hu.shape
  have HSTEP : Hid (∀ (m : Nat) (x : HopD) (r : List HopD), queQ ps f m = x :: r → outQ ps f (m + 1) = outQ ps f m ++ kidsD ps x ∧ queQ ps f (m + 1) = r ++ kidsD ps x) := queQ_step ps f
  have HLOW : Hid (∀ m, (∀ j, j < m → queQ ps f j ≠ []) → (outQ ps f m).length + 1 - (queQ ps f m).length = m ∧ (outQ ps f m).length ≤ 12 ∧ (queQ ps f m).length ≤ 12 ∧ (queQ ps f m ≠ [] → m < ps.length) ∧ (queQ ps f m).length ≤ (outQ ps f m).length + 1) := fun m hm => by
    have h1 := queQ_low ps f m hm
    refine ⟨queQ_len ps f m h1, ?_, ?_, fun hne => ?_, ?_⟩
    · cases m with
      | zero => simp [outQ]
      | succ k => have := sprd_len hg hf.1 hf.2 k; simp only [outQ]; omega
    · cases m with
      | zero => simp [queQ]
      | succ k => have := sprd_len hg hf.1 hf.2 k; simp only [queQ, List.length_drop]; omega
    · cases m with
      | zero => omega
      | succ k =>
        have := sprd_len hg hf.1 hf.2 k
        have : k < (sprd ps f k).length := by
          rcases Nat.lt_or_ge k (sprd ps f k).length with q | q
          · exact q
          · exact absurd (List.drop_eq_nil_of_le q) hne
        omega
    · cases m with
      | zero => simp [queQ, outQ]
      | succ k => simp only [queQ, outQ, List.length_drop]; omega
  have HEND : Hid (∀ m, queQ ps f m = [] → outQ ps f m = spreadD ps f) := fun m h => by
    obtain ⟨k, rfl, hk⟩ := queQ_end ps f h
    exact sprd_all hg hf.1 hf.2 k hk
  have HTO : Hid (∀ m, ∀ x ∈ queQ ps f m, 0 ≤ x.To ∧ x.To < (ps.length : Int)) := fun m x hx => by
    cases m with
    | zero => simp only [queQ, List.mem_singleton] at hx; subst hx; exact hf
    | succ k => exact ((sprd_ok hg hf.1 hf.2 k).ok x (List.mem_of_mem_drop hx)).1.1
  have H0 : Hid (outQ ps f 0 = [] ∧ queQ ps f 0 = [⟨-1, f⟩]) := ⟨rfl, rfl⟩
  have HKA : Hid (∀ x : HopD, kidsJ x (joinT ps x.To ps.length) = kidsD ps x ∧ (joinT ps x.To ps.length).length ≤ 12) := fun x => ⟨kidsJ_all ps x, Nat.le_trans (joinT_len ps _ _) hn2⟩
  have HKT : Hid (∀ (x : HopD) (ks : List Int) (j : Nat) (h : j < ks.length), kidsJ x (ks.take (j + 1)) = kidsJ x (ks.take j) ++ if ks[j] = x.From then [] else [⟨x.To, ks[j]⟩]) := kidsJ_take
  have HKL : Hid (∀ (x : HopD) (ks : List Int), (kidsJ x ks).length ≤ ks.length) := kidsJ_len
  have HK0 : Hid (∀ x : HopD, kidsJ x [] = []) := fun _ => rfl
  generalize spreadD ps f = sD at *
  obtain ⟨oq, hoq⟩ : ∃ oq, oq = outQ ps f := ⟨_, rfl⟩
  obtain ⟨qq, hqq⟩ : ∃ qq, qq = queQ ps f := ⟨_, rfl⟩
  rw [← hoq] at HSTEP HLOW HEND H0
  rw [← hqq] at HSTEP HLOW HEND H0 HTO
  obtain ⟨kd, hkd⟩ : ∃ kd, kd = kidsD ps := ⟨_, rfl⟩
  rw [← hkd] at HSTEP HKA
  obtain ⟨jt, hjt⟩ : ∃ jt : Int → List Int, ∀ x, joinT ps x ps.length = jt x := ⟨fun x => joinT ps x ps.length, fun _ => rfl⟩
  simp only [hjt] at CJ HKA
  clear hg hu hoq hqq hkd hjt
  have HQ0 : Hid (QHop (W.alloc (.cells #[.int .i64 (-1), .int .i64 f] 36)) W.heap.size (.slice (some ⟨W.heap.size, 0, none⟩) 1 1) [⟨-1, f⟩] ∧ Since W.heap.size W (W.alloc (.cells #[.int .i64 (-1), .int .i64 f] 36))) := ⟨QHop.new W W.heap.size (Nat.le_refl _) ⟨-1, f⟩, (Below.refl _ W).alloc (Nat.le_refl _) _, by simp⟩
  go_enter Try.func56, Try.ntmps56
  go_wp2
  go_loopw [5, 6] (fun vo vq wr => ∃ m : Nat, Hid ((∀ j, j < m → qq j ≠ []) ∧ OwnHop wr W.heap.size vo (oq m) ∧ QHop wr W.heap.size vq (qq m) ∧ (∀ g, vo.ownBlock = some g → vq.ownBlock ≠ some g) ∧ Since W.heap.size W wr)) (fun vo vq _ => ps.length + 1 - (slLen vo + 1 - slLen vq))
  case atStart => exact ⟨0, fun j hj => by omega, by rw [H0.out.1]; exact OwnHop.nil _ _, by rw [H0.out.2]; exact HQ0.out.1, (fun g (hg : (none : Option Nat) = some g) => by cases hg), HQ0.out.2⟩
  case round =>
    clear HQ0
    obtain ⟨m, HI⟩ := hrel
    obtain ⟨a5, c5, rfl⟩ := HI.out.2.1.shape
    have hlow := HLOW.out m HI.out.1
    have hQ := HI.out.2.2.1
    obtain ⟨g6, o6, cap6, cur6, rfl, -⟩ := hQ
    cases hq : qq m with
    | nil =>
      rw [List.length_nil]
      have HE : Hid (OwnHop wr W.heap.size (.slice a5 (oq m).length c5) sD ∧ Below W.heap.size W wr) := ⟨by rw [← HEND.out m hq]; exact HI.out.2.1, HI.out.2.2.2.2.1⟩
      clear HI CJ HSTEP HLOW HEND HTO HKA
      go_wp2
      go_ret
      exact ⟨_, rfl, HE.out.1, HE.out.2⟩
    | cons x r =>
      have HX : Hid (QHop wr W.heap.size (.slice (some ⟨g6, o6, none⟩) (r.length + 1) cap6) (x :: r)) := by
        have := HI.out.2.2.1
        rw [hq] at this
        exact this
      rw [List.length_cons]
      obtain ⟨g7, o7, cap7, hv6, hcap, hcapm, hcf, hct, hq1, hq2⟩ := HX.out.head
      cases hv6
      have HST : Hid (oq (m + 1) = oq m ++ kd x ∧ qq (m + 1) = r ++ kd x) := HSTEP.out m x r hq
      have hxt := HTO.out m x (by rw [hq]; exact List.mem_cons_self ..)
      have HM : Hid ((∀ j, j < m + 1 → qq j ≠ []) ∧ m < ps.length ∧ (oq m).length + 1 - (r.length + 1) = m ∧ (oq m).length ≤ 12 ∧ r.length ≤ 12 ∧ r.length ≤ (oq m).length) := by
        refine ⟨fun j hj => ?_, hlow.2.2.2.1 (by rw [hq]; simp), ?_, hlow.2.1, ?_, ?_⟩
        · by_cases e : j = m
          · rw [e, hq]; simp
          · exact HI.out.1 j (by omega)
        · have := hlow.1; rw [hq, List.length_cons] at this; exact this
        · have := hlow.2.2.1; rw [hq, List.length_cons] at this; omega
        · have := hlow.2.2.2.2; rw [hq, List.length_cons] at this; omega
      have HO : Hid (OwnHop wr W.heap.size (.slice a5 (oq m).length c5) (oq m) ∧ Since W.heap.size W wr ∧ (∀ g, (Value.slice a5 (oq m).length c5).ownBlock = some g → g ≠ g6) ∧ g6 < wr.heap.size ∧ W.heap.size ≤ g6) := ⟨HI.out.2.1, HI.out.2.2.2.2, fun g hg e => by have := HI.out.2.2.2.1 g hg; rw [e] at this; exact this rfl, (HX.out.lt g6 rfl).2, (HX.out.lt g6 rfl).1⟩
      have HKA1 : Hid (kidsJ x (jt x.To) = kd x ∧ (jt x.To).length ≤ 12) := HKA.out x
      have CJ1 : Hid (∀ (w' : World), Since W.heap.size W w' → Calls Try.prog 85 #[.slice au ps.length cu, .int .i64 x.To] w' fun e w2 => ∃ v, e = .returned v ∧ Own w2 w'.heap.size v (jt x.To) ∧ Below w'.heap.size w' w2) := fun w' hs => CJ.out w' x.To hs hxt
      have HKT1 : Hid (∀ (ks : List Int) (j : Nat) (h : j < ks.length), kidsJ x (ks.take (j + 1)) = kidsJ x (ks.take j) ++ if ks[j] = x.From then [] else [⟨x.To, ks[j]⟩]) := HKT.out x
      have HKL1 : Hid (∀ ks, (kidsJ x ks).length ≤ ks.length) := HKL.out x
      have HK01 : Hid (kidsJ x [] = []) := HK0.out x
      obtain ⟨xf, xt⟩ := x
      dsimp only at *
      clear HI HX HSTEP HLOW HEND HTO HKA CJ HKT HKL HK0 H0 hlow hq hxt
      obtain ⟨kj, hkj⟩ : ∃ kj, kj = kidsJ (⟨xf, xt⟩ : HopD) := ⟨_, rfl⟩
      rw [← hkj] at HKA1 HKT1 HKL1 HK01
      clear hkj
      generalize jt xt = ks at *
      generalize oq m = om at *
      have hc64 : (cap6 : Int) ≤ 9223372036854775807 := by unfold maxLen at hcapm; omega
      by_cases hone : cap6 = 1
      · subst hone
        obtain rfl : r = [] := List.eq_nil_of_length_eq_zero (by omega)
        have HQ1 : Hid (QHop wr W.heap.size (.slice (some ⟨g6, o6, none⟩) 0 0) ([] : List HopD)) := hq1 rfl
        clear hq1 hq2
        have SA : Hid (Since W.heap.size W (wr.alloc (.cells #[.int .i64 xf, .int .i64 xt] 36))) := HO.out.2.1.step ((Below.refl _ wr).alloc (Nat.le_refl _) _)
        go_wp2_with fail
        refine (CJ1.out _ SA.out).mono ?_
        rintro e w2 ⟨v2, rfl, ho2, hb2⟩
        obtain ⟨a4, c4, rfl⟩ := ho2.shape
        have hab : Below wr.heap.size wr (wr.alloc (.cells #[.int .i64 xf, .int .i64 xt] 36)) := (Below.refl _ wr).alloc (Nat.le_refl _) _
        have hsz1 : (wr.alloc (.cells #[.int .i64 xf, .int .i64 xt] 36)).heap.size = wr.heap.size + 1 := by simp
        have hb02 : Below wr.heap.size wr w2 := hab.trans (hb2.mono hab.size)
        have HV0 : Hid (SprV W wr.heap.size w2 w2 (.slice a5 om.length c5) (.slice (some ⟨g6, o6, none⟩) 0 0) (om ++ kj (ks.take 0)) (([] : List HopD) ++ kj (ks.take 0))) := by
          show SprV _ _ _ _ _ _ _ _
          rw [List.take_zero, HK01.out, List.append_nil, List.append_nil]
          exact ⟨HO.out.1.below hb02, HQ1.out.below hb02, fun g hg e => HO.out.2.2.1 g hg (by cases e; rfl), SA.out.step hb2, fun k _ _ => rfl, Nat.le_refl _, fun g hg => .inl (World.ownsRow.lt HO.out.1 g hg).2, fun g hg => by cases hg; exact .inl HO.out.2.2.2.1⟩
        have HBX : Hid (∀ w : World, (∀ k : Nat, wr.heap.size ≤ k → k < w2.heap.size → w.heap[k]? = w2.heap[k]?) → w.cell? ⟨wr.heap.size, 0, none⟩ = some (.int .i64 xf) ∧ w.cell? ⟨wr.heap.size, 1, none⟩ = some (.int .i64 xt)) := fun w hw => by
          have hlt : wr.heap.size < w2.heap.size := by have := hb2.size; omega
          have h1 := hw wr.heap.size (Nat.le_refl _) hlt
          have h2 := hb2.block wr.heap.size (by omega)
          exact ⟨(World.cell?_of_block (a := ⟨wr.heap.size, 0, none⟩) h1).trans ((World.cell?_of_block (a := ⟨wr.heap.size, 0, none⟩) h2).trans (by simp)), (World.cell?_of_block (a := ⟨wr.heap.size, 1, none⟩) h1).trans ((World.cell?_of_block (a := ⟨wr.heap.size, 1, none⟩) h2).trans (by simp))⟩
        have HKC : Hid (∀ (w : World) (j : Nat) (hj : j < ks.length), (∀ k : Nat, wr.heap.size ≤ k → k < w2.heap.size → w.heap[k]? = w2.heap[k]?) → ∃ kg, a4 = some ⟨kg, 0, none⟩ ∧ w.cell? ⟨kg, j, none⟩ = some (.int .i64 ks[j])) := fun w j hj hw => by
          have ho := ho2
          rcases ho2.2 with ⟨hv, h0⟩ | ⟨g, cap, cur, hv, -⟩
          · omega
          · cases hv
            have hr := World.ownsRow.lt ho g rfl
            exact ⟨g, rfl, (World.cell?_of_block (a := ⟨g, j, none⟩) (hw g (by omega) hr.2)).trans (own_cellG ho rfl j hj)⟩
        clear ho2 hb2 hab hsz1 hb02 HO HQ1 CJ1 hcf hct SA
        obtain ⟨lo, hlo⟩ : ∃ lo, lo = wr.heap.size := ⟨_, rfl⟩
        rw [← hlo] at HV0 HBX HKC ⊢
        clear hlo
        go_wp2
        go_loopw [5, 6, 27] (fun vo vq t WW => ∃ j : Nat, j ≤ ks.length ∧ t = .int .i64 j ∧ Hid (SprV W lo w2 WW vo vq (om ++ kj (ks.take j)) (([] : List HopD) ++ kj (ks.take j)))) (fun _ _ t _ => ks.length - (intOf t).toNat)
        case atStart => exact ⟨0, Nat.zero_le _, rfl, HV0.out⟩
        case round =>
          clear HV0
          obtain ⟨j, hj, rfl, HV⟩ := hrel
          obtain ⟨ao, co, rfl⟩ := HV.out.o.shape
          have hQ := HV.out.q
          obtain ⟨gq, oq2, capq, curq, rfl, -⟩ := hQ
          by_cases hlt : j < ks.length
          · have hlt' : (j : Int) < (ks.length : Int) := by omega
            obtain ⟨kg, rfl, hkc⟩ := HKC.out _ j hlt HV.out.mid
            obtain ⟨hxf, hxt⟩ := HBX.out _ HV.out.mid
            have HT1 := HKT1.out ks j hlt
            have HKL2 := HKL1.out (ks.take j)
            have hk12 := HKA1.out.2
            have hmm := HM.out
            have HLN : Hid ((om ++ kj (ks.take j)).length ≤ 100 ∧ (([] : List HopD) ++ kj (ks.take j)).length ≤ 100) := by
              rw [List.length_take] at HKL2
              show _ ∧ _
              rw [List.length_append, List.length_append]
              (try simp only [List.length_nil] at hmm ⊢)
              omega
            have hks64 : ks.length ≤ 12 := hk12
            clear HKL2 hk12 hmm
            generalize ks[j] = y at *
            by_cases hy : y = xf
            · have hyb : (y != xf) = false := by simpa using hy
              have HF : Hid (SprV W lo w2 wr (.slice ao (om ++ kj (ks.take j)).length co) (.slice (some ⟨gq, oq2, none⟩) (([] : List HopD) ++ kj (ks.take j)).length capq) (om ++ kj (ks.take (j + 1))) (([] : List HopD) ++ kj (ks.take (j + 1)))) := by
                rw [if_pos hy, List.append_nil] at HT1
                show SprV _ _ _ _ _ _ _ _
                rw [HT1]
                exact HV.out
              clear HT1 HV hy HKC HBX
              go_wp2
              go_roundw
              case rel => exact ⟨j + 1, by omega, by go_num, HF.out⟩
              case measure => simp [intOf]; omega
            · have hyb : (y != xf) = true := by simpa using hy
              rw [if_neg hy] at HT1
              have HE : Hid (om ++ kj (ks.take (j + 1)) = (om ++ kj (ks.take j)) ++ [(⟨xt, y⟩ : HopD)] ∧ ([] : List HopD) ++ kj (ks.take (j + 1)) = (([] : List HopD) ++ kj (ks.take j)) ++ [(⟨xt, y⟩ : HopD)]) := by
                show _ ∧ _
                rw [HT1, List.append_assoc, List.append_assoc]
                exact ⟨rfl, rfl⟩
              generalize om ++ kj (ks.take j) = zo at *
              generalize ([] : List HopD) ++ kj (ks.take j) = zq at *
              obtain ⟨w3, hw3⟩ : ∃ w3, w3 = (wr.alloc (.cells #[.int .i64 xt, .int .i64 y] 36)).alloc (.cells #[.int .i64 xt, .int .i64 y] 36) := ⟨_, rfl⟩
              have hb3 : Below wr.heap.size wr w3 := by rw [hw3]; exact ((Below.refl _ wr).alloc (Nat.le_refl _) _).alloc (by simp) _
              have HW3 : Hid ((wr.alloc (.cells #[.int .i64 xt, .int .i64 y] 36)).alloc (.cells #[.int .i64 xt, .int .i64 y] 36) = w3 ∧ w3.heap.size = wr.heap.size + 2) := ⟨hw3.symm, by rw [hw3]; simp⟩
              have HV3 : Hid (SprV W lo w2 w3 (.slice ao zo.length co) (.slice (some ⟨gq, oq2, none⟩) zq.length capq) zo zq) := HV.out.below hb3
              have hszb : ∀ g, (Value.slice ao zo.length co).ownBlock = some g → g < wr.heap.size := fun g e => (World.ownsRow.lt HV.out.o g e).2
              have HSZ : Hid (∀ g, (Value.slice ao zo.length co).ownBlock = some g → g < wr.heap.size) := hszb
              have HA : Hid (∀ ty, ∃ v' w', (Builtin.append_ #[32, 32] ty #[.slice ao zo.length co, .slice (some ⟨wr.heap.size + 1, 0, none⟩) 1 1]).run Try.prog w3 = .ok v' w' ∧ Grown w3 W.heap.size 36 2 (.slice ao zo.length co) (zo ++ [(⟨xt, y⟩ : HopD)]).length (cellsHop (zo ++ [(⟨xt, y⟩ : HopD)])) v' w') := fun ty => by
                have hs := newHop (wr.alloc (.cells #[.int .i64 xt, .int .i64 y] 36)) ⟨xt, y⟩ 1
                rw [World.size_alloc] at hs
                rw [show (wr.alloc (.cells #[.int .i64 xt, .int .i64 y] 36)).alloc (.cells #[.int .i64 xt, .int .i64 y] 36) = w3 from HW3.out.1] at hs
                exact run_appHop w3 W.heap.size _ zo HV3.out.o _ [(⟨xt, y⟩ : HopD)] hs (by have := HLN.out; simp only [List.length_cons, List.length_nil]; omega) HV3.out.since.2 ty
              have HQ5 : Hid (∀ v5 w5, Grown w3 W.heap.size 36 2 (.slice ao zo.length co) (zo ++ [(⟨xt, y⟩ : HopD)]).length (cellsHop (zo ++ [(⟨xt, y⟩ : HopD)])) v5 w5 → (∃ a5 n5 c5, v5 = .slice a5 n5 c5) ∧ (w5.cell? ⟨wr.heap.size, 0, none⟩ = some (.int .i64 xt) ∧ w5.cell? ⟨wr.heap.size, 1, none⟩ = some (.int .i64 y)) ∧ Hid (SprV W lo w2 w5 v5 (.slice (some ⟨gq, oq2, none⟩) zq.length capq) (zo ++ [(⟨xt, y⟩ : HopD)]) zq)) := fun v5 w5 hg5 => by
                have hv := HV3.out.appO hg5
                obtain ⟨a9, c9, e9⟩ := hv.o.shape
                have hbk := hg5.grown.block wr.heap.size (by rw [HW3.out.2]; omega) (fun e => by have := HSZ.out _ e.symm; omega)
                have c0 : w3.cell? ⟨wr.heap.size, 0, none⟩ = some (.int .i64 xt) := by
                  rw [← HW3.out.1]
                  exact (World.cell?_alloc_lt _ _ _ (by simp)).trans (by simp)
                have c1 : w3.cell? ⟨wr.heap.size, 1, none⟩ = some (.int .i64 y) := by
                  rw [← HW3.out.1]
                  exact (World.cell?_alloc_lt _ _ _ (by simp)).trans (by simp)
                exact ⟨⟨_, _, _, e9⟩, ⟨(World.cell?_of_block (a := ⟨wr.heap.size, 0, none⟩) hbk).trans c0, (World.cell?_of_block (a := ⟨wr.heap.size, 1, none⟩) hbk).trans c1⟩, hv⟩
              have HQ6 : Hid (∀ v5 w5, SprV W lo w2 w5 v5 (.slice (some ⟨gq, oq2, none⟩) zq.length capq) (zo ++ [(⟨xt, y⟩ : HopD)]) zq → (∀ ty, ∃ v' w', (Builtin.append_ #[32, 32] ty #[.slice (some ⟨gq, oq2, none⟩) zq.length capq, .slice (some ⟨w5.heap.size, 0, none⟩) 1 1]).run Try.prog (w5.alloc (.cells #[.int .i64 xt, .int .i64 y] 36)) = .ok v' w' ∧ (QHop w' W.heap.size v' (zq ++ [(⟨xt, y⟩ : HopD)]) ∧ (w5.alloc (.cells #[.int .i64 xt, .int .i64 y] 36)).grownBy w' (Value.slice (some ⟨gq, oq2, none⟩) zq.length capq).ownBlock ∧ (v'.ownBlock = (Value.slice (some ⟨gq, oq2, none⟩) zq.length capq).ownBlock ∨ v'.ownBlock = some (w5.alloc (.cells #[.int .i64 xt, .int .i64 y] 36)).heap.size)))) := fun v5 w5 hv ty =>
                run_appQ _ W.heap.size _ zq (hv.below ((Below.refl _ w5).alloc (Nat.le_refl _) _)).q w5.heap.size ⟨xt, y⟩ ⟨by simp, by simp⟩ (by have := HLN.out; omega) (by have := hv.since.2; simp; omega) ty
              have HQ7 : Hid (∀ v5 w5 v6 w6, SprV W lo w2 w5 v5 (.slice (some ⟨gq, oq2, none⟩) zq.length capq) (zo ++ [(⟨xt, y⟩ : HopD)]) zq → (QHop w6 W.heap.size v6 (zq ++ [(⟨xt, y⟩ : HopD)]) ∧ (w5.alloc (.cells #[.int .i64 xt, .int .i64 y] 36)).grownBy w6 (Value.slice (some ⟨gq, oq2, none⟩) zq.length capq).ownBlock ∧ (v6.ownBlock = (Value.slice (some ⟨gq, oq2, none⟩) zq.length capq).ownBlock ∨ v6.ownBlock = some (w5.alloc (.cells #[.int .i64 xt, .int .i64 y] 36)).heap.size)) → SprV W lo w2 w6 v5 v6 (om ++ kj (ks.take (j + 1))) (([] : List HopD) ++ kj (ks.take (j + 1)))) := fun v5 w5 v6 w6 hv hg => by
                rw [HE.out.1, HE.out.2]
                exact (hv.below ((Below.refl _ w5).alloc (Nat.le_refl _) _)).appQ hg
              clear HT1 HV hy HKC HBX HE HV3 hszb HSZ hb3 HLN hw3
              go_wp2_with (first
                | (at_builtin; rw [HW3.out.1]; refine list_app (by rfl) (.tmp 39) (.tmp 41) 32 (by rfl) (.slice ao zo.length co) (.slice (some ⟨wr.heap.size + 1, 0, none⟩) 1 1) (by rfl) (by rfl) _ HA.out ?_; intro v5 w5 hg5; obtain ⟨⟨a9, n9, c9, rfl⟩, ⟨hc0, hc1⟩, HV5⟩ := HQ5.out v5 w5 hg5; clear hg5 HA HQ5 hxf hxt hkc; have HA6 := HQ6.out _ w5 HV5.out)
                | (at_builtin; refine list_app (by rfl) (.tmp 43) (.tmp 45) 32 (by rfl) (.slice (some ⟨gq, oq2, none⟩) zq.length capq) (.slice (some ⟨w5.heap.size, 0, none⟩) 1 1) (by rfl) (by rfl) _ HA6 ?_; intro v6 w6 hg6; have HF : Hid (SprV W lo w2 w6 (.slice a9 n9 c9) v6 (om ++ kj (ks.take (j + 1))) (([] : List HopD) ++ kj (ks.take (j + 1)))) := HQ7.out _ w5 v6 w6 HV5.out hg6; clear hg6))
              go_roundw
              case rel => exact ⟨j + 1, by omega, by go_num, HF.out⟩
              case measure => simp [intOf]; omega
          · have e : j = ks.length := by omega
            have HF : Hid ((∀ j, j < m + 1 → qq j ≠ []) ∧ OwnHop wr W.heap.size (.slice ao (om ++ kj (ks.take j)).length co) (oq (m + 1)) ∧ QHop wr W.heap.size (.slice (some ⟨gq, oq2, none⟩) (([] : List HopD) ++ kj (ks.take j)).length capq) (qq (m + 1)) ∧ (∀ g, (Value.slice ao (om ++ kj (ks.take j)).length co).ownBlock = some g → (Value.slice (some ⟨gq, oq2, none⟩) (([] : List HopD) ++ kj (ks.take j)).length capq).ownBlock ≠ some g) ∧ Since W.heap.size W wr) := by
              have hv := HV.out
              rw [e, List.take_length, HKA1.out.1] at hv ⊢
              rw [HST.out.1, HST.out.2]
              exact ⟨HM.out.1, hv.o, hv.q, hv.ap, hv.since⟩
            have HMS : Hid (ps.length + 1 - ((om ++ kj (ks.take j)).length + 1 - (([] : List HopD) ++ kj (ks.take j)).length) < ps.length + 1 - (om.length + 1 - (([] : List HopD).length + 1))) := by
              have hmm := HM.out
              show _ < _
              rw [List.length_append, List.length_append]
              (try simp only [List.length_nil] at hmm ⊢)
              omega
            clear HV HKC HBX
            go_wp2
            go_roundw
            case rel => exact ⟨m + 1, HF.out⟩
            case measure => exact HMS.out
      · have HQ1 : Hid (QHop wr W.heap.size (.slice (some ⟨g6, o6 + 2, none⟩) r.length (cap6 - 1)) r) := hq2 hone
        clear hq1 hq2
        have SA : Hid (Since W.heap.size W (wr.alloc (.cells #[.int .i64 xf, .int .i64 xt] 36))) := HO.out.2.1.step ((Below.refl _ wr).alloc (Nat.le_refl _) _)
        go_wp2_with fail
        refine (CJ1.out _ SA.out).mono ?_
        rintro e w2 ⟨v2, rfl, ho2, hb2⟩
        obtain ⟨a4, c4, rfl⟩ := ho2.shape
        have hab : Below wr.heap.size wr (wr.alloc (.cells #[.int .i64 xf, .int .i64 xt] 36)) := (Below.refl _ wr).alloc (Nat.le_refl _) _
        have hsz1 : (wr.alloc (.cells #[.int .i64 xf, .int .i64 xt] 36)).heap.size = wr.heap.size + 1 := by simp
        have hb02 : Below wr.heap.size wr w2 := hab.trans (hb2.mono hab.size)
        have HV0 : Hid (SprV W wr.heap.size w2 w2 (.slice a5 om.length c5) (.slice (some ⟨g6, o6 + 2, none⟩) r.length (cap6 - 1)) (om ++ kj (ks.take 0)) (r ++ kj (ks.take 0))) := by
          show SprV _ _ _ _ _ _ _ _
          rw [List.take_zero, HK01.out, List.append_nil, List.append_nil]
          exact ⟨HO.out.1.below hb02, HQ1.out.below hb02, fun g hg e => HO.out.2.2.1 g hg (by cases e; rfl), SA.out.step hb2, fun k _ _ => rfl, Nat.le_refl _, fun g hg => .inl (World.ownsRow.lt HO.out.1 g hg).2, fun g hg => by cases hg; exact .inl HO.out.2.2.2.1⟩
        have HBX : Hid (∀ w : World, (∀ k : Nat, wr.heap.size ≤ k → k < w2.heap.size → w.heap[k]? = w2.heap[k]?) → w.cell? ⟨wr.heap.size, 0, none⟩ = some (.int .i64 xf) ∧ w.cell? ⟨wr.heap.size, 1, none⟩ = some (.int .i64 xt)) := fun w hw => by
          have hlt : wr.heap.size < w2.heap.size := by have := hb2.size; omega
          have h1 := hw wr.heap.size (Nat.le_refl _) hlt
          have h2 := hb2.block wr.heap.size (by omega)
          exact ⟨(World.cell?_of_block (a := ⟨wr.heap.size, 0, none⟩) h1).trans ((World.cell?_of_block (a := ⟨wr.heap.size, 0, none⟩) h2).trans (by simp)), (World.cell?_of_block (a := ⟨wr.heap.size, 1, none⟩) h1).trans ((World.cell?_of_block (a := ⟨wr.heap.size, 1, none⟩) h2).trans (by simp))⟩
        have HKC : Hid (∀ (w : World) (j : Nat) (hj : j < ks.length), (∀ k : Nat, wr.heap.size ≤ k → k < w2.heap.size → w.heap[k]? = w2.heap[k]?) → ∃ kg, a4 = some ⟨kg, 0, none⟩ ∧ w.cell? ⟨kg, j, none⟩ = some (.int .i64 ks[j])) := fun w j hj hw => by
          have ho := ho2
          rcases ho2.2 with ⟨hv, h0⟩ | ⟨g, cap, cur, hv, -⟩
          · omega
          · cases hv
            have hr := World.ownsRow.lt ho g rfl
            exact ⟨g, rfl, (World.cell?_of_block (a := ⟨g, j, none⟩) (hw g (by omega) hr.2)).trans (own_cellG ho rfl j hj)⟩
        clear ho2 hb2 hab hsz1 hb02 HO HQ1 CJ1 hcf hct SA
        obtain ⟨lo, hlo⟩ : ∃ lo, lo = wr.heap.size := ⟨_, rfl⟩
        rw [← hlo] at HV0 HBX HKC ⊢
        clear hlo
        go_wp2
        go_loopw [5, 6, 27] (fun vo vq t WW => ∃ j : Nat, j ≤ ks.length ∧ t = .int .i64 j ∧ Hid (SprV W lo w2 WW vo vq (om ++ kj (ks.take j)) (r ++ kj (ks.take j)))) (fun _ _ t _ => ks.length - (intOf t).toNat)
        case atStart => exact ⟨0, Nat.zero_le _, rfl, HV0.out⟩
        case round =>
          clear HV0
          obtain ⟨j, hj, rfl, HV⟩ := hrel
          obtain ⟨ao, co, rfl⟩ := HV.out.o.shape
          have hQ := HV.out.q
          obtain ⟨gq, oq2, capq, curq, rfl, -⟩ := hQ
          by_cases hlt : j < ks.length
          · have hlt' : (j : Int) < (ks.length : Int) := by omega
            obtain ⟨kg, rfl, hkc⟩ := HKC.out _ j hlt HV.out.mid
            obtain ⟨hxf, hxt⟩ := HBX.out _ HV.out.mid
            have HT1 := HKT1.out ks j hlt
            have HKL2 := HKL1.out (ks.take j)
            have hk12 := HKA1.out.2
            have hmm := HM.out
            have HLN : Hid ((om ++ kj (ks.take j)).length ≤ 100 ∧ (r ++ kj (ks.take j)).length ≤ 100) := by
              rw [List.length_take] at HKL2
              show _ ∧ _
              rw [List.length_append, List.length_append]
              (try simp only [List.length_nil] at hmm ⊢)
              omega
            have hks64 : ks.length ≤ 12 := hk12
            clear HKL2 hk12 hmm
            generalize ks[j] = y at *
            by_cases hy : y = xf
            · have hyb : (y != xf) = false := by simpa using hy
              have HF : Hid (SprV W lo w2 wr (.slice ao (om ++ kj (ks.take j)).length co) (.slice (some ⟨gq, oq2, none⟩) (r ++ kj (ks.take j)).length capq) (om ++ kj (ks.take (j + 1))) (r ++ kj (ks.take (j + 1)))) := by
                rw [if_pos hy, List.append_nil] at HT1
                show SprV _ _ _ _ _ _ _ _
                rw [HT1]
                exact HV.out
              clear HT1 HV hy HKC HBX
              go_wp2
              go_roundw
              case rel => exact ⟨j + 1, by omega, by go_num, HF.out⟩
              case measure => simp [intOf]; omega
            · have hyb : (y != xf) = true := by simpa using hy
              rw [if_neg hy] at HT1
              have HE : Hid (om ++ kj (ks.take (j + 1)) = (om ++ kj (ks.take j)) ++ [(⟨xt, y⟩ : HopD)] ∧ r ++ kj (ks.take (j + 1)) = (r ++ kj (ks.take j)) ++ [(⟨xt, y⟩ : HopD)]) := by
                show _ ∧ _
                rw [HT1, List.append_assoc, List.append_assoc]
                exact ⟨rfl, rfl⟩
              generalize om ++ kj (ks.take j) = zo at *
              generalize r ++ kj (ks.take j) = zq at *
              obtain ⟨w3, hw3⟩ : ∃ w3, w3 = (wr.alloc (.cells #[.int .i64 xt, .int .i64 y] 36)).alloc (.cells #[.int .i64 xt, .int .i64 y] 36) := ⟨_, rfl⟩
              have hb3 : Below wr.heap.size wr w3 := by rw [hw3]; exact ((Below.refl _ wr).alloc (Nat.le_refl _) _).alloc (by simp) _
              have HW3 : Hid ((wr.alloc (.cells #[.int .i64 xt, .int .i64 y] 36)).alloc (.cells #[.int .i64 xt, .int .i64 y] 36) = w3 ∧ w3.heap.size = wr.heap.size + 2) := ⟨hw3.symm, by rw [hw3]; simp⟩
              have HV3 : Hid (SprV W lo w2 w3 (.slice ao zo.length co) (.slice (some ⟨gq, oq2, none⟩) zq.length capq) zo zq) := HV.out.below hb3
              have hszb : ∀ g, (Value.slice ao zo.length co).ownBlock = some g → g < wr.heap.size := fun g e => (World.ownsRow.lt HV.out.o g e).2
              have HSZ : Hid (∀ g, (Value.slice ao zo.length co).ownBlock = some g → g < wr.heap.size) := hszb
              have HA : Hid (∀ ty, ∃ v' w', (Builtin.append_ #[32, 32] ty #[.slice ao zo.length co, .slice (some ⟨wr.heap.size + 1, 0, none⟩) 1 1]).run Try.prog w3 = .ok v' w' ∧ Grown w3 W.heap.size 36 2 (.slice ao zo.length co) (zo ++ [(⟨xt, y⟩ : HopD)]).length (cellsHop (zo ++ [(⟨xt, y⟩ : HopD)])) v' w') := fun ty => by
                have hs := newHop (wr.alloc (.cells #[.int .i64 xt, .int .i64 y] 36)) ⟨xt, y⟩ 1
                rw [World.size_alloc] at hs
                rw [show (wr.alloc (.cells #[.int .i64 xt, .int .i64 y] 36)).alloc (.cells #[.int .i64 xt, .int .i64 y] 36) = w3 from HW3.out.1] at hs
                exact run_appHop w3 W.heap.size _ zo HV3.out.o _ [(⟨xt, y⟩ : HopD)] hs (by have := HLN.out; simp only [List.length_cons, List.length_nil]; omega) HV3.out.since.2 ty
              have HQ5 : Hid (∀ v5 w5, Grown w3 W.heap.size 36 2 (.slice ao zo.length co) (zo ++ [(⟨xt, y⟩ : HopD)]).length (cellsHop (zo ++ [(⟨xt, y⟩ : HopD)])) v5 w5 → (∃ a5 n5 c5, v5 = .slice a5 n5 c5) ∧ (w5.cell? ⟨wr.heap.size, 0, none⟩ = some (.int .i64 xt) ∧ w5.cell? ⟨wr.heap.size, 1, none⟩ = some (.int .i64 y)) ∧ Hid (SprV W lo w2 w5 v5 (.slice (some ⟨gq, oq2, none⟩) zq.length capq) (zo ++ [(⟨xt, y⟩ : HopD)]) zq)) := fun v5 w5 hg5 => by
                have hv := HV3.out.appO hg5
                obtain ⟨a9, c9, e9⟩ := hv.o.shape
                have hbk := hg5.grown.block wr.heap.size (by rw [HW3.out.2]; omega) (fun e => by have := HSZ.out _ e.symm; omega)
                have c0 : w3.cell? ⟨wr.heap.size, 0, none⟩ = some (.int .i64 xt) := by
                  rw [← HW3.out.1]
                  exact (World.cell?_alloc_lt _ _ _ (by simp)).trans (by simp)
                have c1 : w3.cell? ⟨wr.heap.size, 1, none⟩ = some (.int .i64 y) := by
                  rw [← HW3.out.1]
                  exact (World.cell?_alloc_lt _ _ _ (by simp)).trans (by simp)
                exact ⟨⟨_, _, _, e9⟩, ⟨(World.cell?_of_block (a := ⟨wr.heap.size, 0, none⟩) hbk).trans c0, (World.cell?_of_block (a := ⟨wr.heap.size, 1, none⟩) hbk).trans c1⟩, hv⟩
              have HQ6 : Hid (∀ v5 w5, SprV W lo w2 w5 v5 (.slice (some ⟨gq, oq2, none⟩) zq.length capq) (zo ++ [(⟨xt, y⟩ : HopD)]) zq → (∀ ty, ∃ v' w', (Builtin.append_ #[32, 32] ty #[.slice (some ⟨gq, oq2, none⟩) zq.length capq, .slice (some ⟨w5.heap.size, 0, none⟩) 1 1]).run Try.prog (w5.alloc (.cells #[.int .i64 xt, .int .i64 y] 36)) = .ok v' w' ∧ (QHop w' W.heap.size v' (zq ++ [(⟨xt, y⟩ : HopD)]) ∧ (w5.alloc (.cells #[.int .i64 xt, .int .i64 y] 36)).grownBy w' (Value.slice (some ⟨gq, oq2, none⟩) zq.length capq).ownBlock ∧ (v'.ownBlock = (Value.slice (some ⟨gq, oq2, none⟩) zq.length capq).ownBlock ∨ v'.ownBlock = some (w5.alloc (.cells #[.int .i64 xt, .int .i64 y] 36)).heap.size)))) := fun v5 w5 hv ty =>
                run_appQ _ W.heap.size _ zq (hv.below ((Below.refl _ w5).alloc (Nat.le_refl _) _)).q w5.heap.size ⟨xt, y⟩ ⟨by simp, by simp⟩ (by have := HLN.out; omega) (by have := hv.since.2; simp; omega) ty
              have HQ7 : Hid (∀ v5 w5 v6 w6, SprV W lo w2 w5 v5 (.slice (some ⟨gq, oq2, none⟩) zq.length capq) (zo ++ [(⟨xt, y⟩ : HopD)]) zq → (QHop w6 W.heap.size v6 (zq ++ [(⟨xt, y⟩ : HopD)]) ∧ (w5.alloc (.cells #[.int .i64 xt, .int .i64 y] 36)).grownBy w6 (Value.slice (some ⟨gq, oq2, none⟩) zq.length capq).ownBlock ∧ (v6.ownBlock = (Value.slice (some ⟨gq, oq2, none⟩) zq.length capq).ownBlock ∨ v6.ownBlock = some (w5.alloc (.cells #[.int .i64 xt, .int .i64 y] 36)).heap.size)) → SprV W lo w2 w6 v5 v6 (om ++ kj (ks.take (j + 1))) (r ++ kj (ks.take (j + 1)))) := fun v5 w5 v6 w6 hv hg => by
                rw [HE.out.1, HE.out.2]
                exact (hv.below ((Below.refl _ w5).alloc (Nat.le_refl _) _)).appQ hg
              clear HT1 HV hy HKC HBX HE HV3 hszb HSZ hb3 HLN hw3
              go_wp2_with (first
                | (at_builtin; rw [HW3.out.1]; refine list_app (by rfl) (.tmp 39) (.tmp 41) 32 (by rfl) (.slice ao zo.length co) (.slice (some ⟨wr.heap.size + 1, 0, none⟩) 1 1) (by rfl) (by rfl) _ HA.out ?_; intro v5 w5 hg5; obtain ⟨⟨a9, n9, c9, rfl⟩, ⟨hc0, hc1⟩, HV5⟩ := HQ5.out v5 w5 hg5; clear hg5 HA HQ5 hxf hxt hkc; have HA6 := HQ6.out _ w5 HV5.out)
                | (at_builtin; refine list_app (by rfl) (.tmp 43) (.tmp 45) 32 (by rfl) (.slice (some ⟨gq, oq2, none⟩) zq.length capq) (.slice (some ⟨w5.heap.size, 0, none⟩) 1 1) (by rfl) (by rfl) _ HA6 ?_; intro v6 w6 hg6; have HF : Hid (SprV W lo w2 w6 (.slice a9 n9 c9) v6 (om ++ kj (ks.take (j + 1))) (r ++ kj (ks.take (j + 1)))) := HQ7.out _ w5 v6 w6 HV5.out hg6; clear hg6))
              go_roundw
              case rel => exact ⟨j + 1, by omega, by go_num, HF.out⟩
              case measure => simp [intOf]; omega
          · have e : j = ks.length := by omega
            have HF : Hid ((∀ j, j < m + 1 → qq j ≠ []) ∧ OwnHop wr W.heap.size (.slice ao (om ++ kj (ks.take j)).length co) (oq (m + 1)) ∧ QHop wr W.heap.size (.slice (some ⟨gq, oq2, none⟩) (r ++ kj (ks.take j)).length capq) (qq (m + 1)) ∧ (∀ g, (Value.slice ao (om ++ kj (ks.take j)).length co).ownBlock = some g → (Value.slice (some ⟨gq, oq2, none⟩) (r ++ kj (ks.take j)).length capq).ownBlock ≠ some g) ∧ Since W.heap.size W wr) := by
              have hv := HV.out
              rw [e, List.take_length, HKA1.out.1] at hv ⊢
              rw [HST.out.1, HST.out.2]
              exact ⟨HM.out.1, hv.o, hv.q, hv.ap, hv.since⟩
            have HMS : Hid (ps.length + 1 - ((om ++ kj (ks.take j)).length + 1 - (r ++ kj (ks.take j)).length) < ps.length + 1 - (om.length + 1 - (r.length + 1))) := by
              have hmm := HM.out
              show _ < _
              rw [List.length_append, List.length_append]
              (try simp only [List.length_nil] at hmm ⊢)
              omega
            clear HV HKC HBX
            go_wp2
            go_roundw
            case rel => exact ⟨m + 1, HF.out⟩
            case measure => exact HMS.out

def spOutS (ps : List Int) (f : Int) : List HopD := spOut ps f
theorem twoOk_one (ps : List Int) (f : Int) : twoOk ps f f = spOk ps f := by
  unfold twoOk spOk
  cases goodU ps <;> simp

set_option maxRecDepth 100000 in
set_option maxHeartbeats 4000000 in
theorem specSpreadOn_any (W : World) (B : Nat) (u : Value) (ps : List Int) (f : Int) (hu : Own W B u ps) (hl : ps.length ≤ 1048576) :
    Calls Try.prog 18 #[u, .int .i64 f] W (HopPost W (spOut ps f) (spOk ps f)) := by
  have CG : Hid (Calls Try.prog 55 #[u, .int .i64 f, .int .i64 f] W fun e W' => e = .returned (.bool (spOk ps f)) ∧ W' = W) := by
    have t := l10Two_any W B u ps f f hu hl
    rw [twoOk_one] at t
    exact t
  have CS : Hid (spOk ps f = true → Calls Try.prog 56 #[u, .int .i64 f] W fun e w2 => ∃ v, e = .returned v ∧ OwnHop w2 W.heap.size v (spreadD ps f) ∧ Below W.heap.size W w2) := fun h => l10Spread_any W B u ps f hu (spOk_true h).1 (spOk_true h).2
  have HD : Hid (spOut ps f = if spOk ps f then spreadD ps f else []) := rfl
  obtain ⟨au, cu, rfl⟩ := hu.shape
  generalize spOut ps f = out at *
  generalize spOk ps f = ok at *
  clear hu
  cases ok with
  | false =>
    have HF : Hid (out = []) := HD.out
    clear HD CS
    go_enter Try.func18, Try.ntmps18
    go_wp2_with fail
    refine CG.out.mono ?_
    rintro e ww ⟨rfl, hww⟩
    obtain rfl : W = ww := hww.symm
    go_wp2
    refine bodyPost_ret (results_tmp2 rfl _ _ _) rfl ?_
    exact ⟨_, rfl, by rw [HF.out]; exact OwnHop.nil _ _, Below.refl _ _⟩
  | true =>
    have HF : Hid (out = spreadD ps f) := HD.out
    have CS1 : Hid (Calls Try.prog 56 #[.slice au ps.length cu, .int .i64 f] W fun e w2 => ∃ v, e = .returned v ∧ OwnHop w2 W.heap.size v (spreadD ps f) ∧ Below W.heap.size W w2) := CS.out rfl
    clear HD CS
    go_enter Try.func18, Try.ntmps18
    go_wp2_with fail
    refine CG.out.mono ?_
    rintro e ww ⟨rfl, hww⟩
    obtain rfl : W = ww := hww.symm
    go_wp2_with fail
    refine CS1.out.mono ?_
    rintro e w3 ⟨u3, rfl, ho3, hb3⟩
    have H3 : Hid (OwnHop w3 W.heap.size u3 (spreadD ps f) ∧ Below W.heap.size W w3) := ⟨ho3, hb3⟩
    obtain ⟨a3, c3, rfl⟩ := ho3.shape
    clear ho3 hb3
    go_wp2
    refine bodyPost_ret (results_tmp2 rfl _ _ _) rfl ?_
    exact ⟨_, rfl, by rw [HF.out]; exact H3.out.1, H3.out.2⟩
end Go.Proofs.Ythlbmkefjjckaad
