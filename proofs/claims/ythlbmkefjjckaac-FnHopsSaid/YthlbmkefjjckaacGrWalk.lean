/-
  'walk': the iterator over the least one of the ways of least cost.
-/
import Derived.Test.YthlbmkefjjckaacGrFirst
namespace Go.Proofs.Ythlbmkefjjckaac
open Go.RowKit
set_option linter.unusedVariables false
attribute [local go_sem] Oper.semAt_some wide_fn

set_option maxHeartbeats 1000000 in
theorem walk_any (W : World) (v u : Value) (hv : ∃ a n c, v = .slice a n c) (hu : ∃ a n c, u = .slice a n c) (a : Int) :
    Calls Try.prog 114 #[v, u, .int .i64 a] W fun e W' => e = .returned (.func (.func 136) #[] #[.pointer (some ⟨W.heap.size + 1 + 1, 0, none⟩), .pointer (some ⟨W.heap.size, 0, none⟩), .pointer (some ⟨W.heap.size + 1, 0, none⟩)]) ∧ W' = hopsW W v u a := by
  obtain ⟨a1, n1, c1, rfl⟩ := hv
  obtain ⟨a2, n2, c2, rfl⟩ := hu
  unfold hopsW
  go_enter Try.func114, Try.ntmps114
  go_wp2
  go_ret
  exact ⟨rfl, rfl⟩

theorem KeptBut.same {Mine : World → Nat → Prop} {A B : World} (h : KeptBut Mine A B) {p : Addr} {u : Value} (hc : A.cell? p = some u) (hm : ¬ Mine A p.block) : B.heap[p.block]? = A.heap[p.block]? := by
  obtain ⟨o, ho, hcs⟩ := cells_of_cell hc
  exact (h.2 p.block o ho hcs hm).1.trans ho.symm
theorem readsEd_kept {Mine : World → Nat → Prop} {A B : World} {v : Value} {l : List EdD} (h : KeptBut Mine A B) (hr : ReadsEd A v l) (hm : ∀ b, b < A.heap.size → ∀ a n c, v = .slice (some a) n c → a.block = b → ¬ Mine A b) : ReadsEd B v l := by
  obtain ⟨a, cap, hv, hc⟩ := hr
  refine ⟨a, cap, hv, hc.imp id ?_⟩
  rintro ⟨g, off, ha, hg, hcell⟩
  have hn := hm g hg ⟨g, off, none⟩ l.length cap (by rw [hv, ha]) rfl
  exact ⟨g, off, ha, Nat.lt_of_lt_of_le hg h.1, fun j hj => ⟨h.cell (hcell j hj).1 hn, h.cell (hcell j hj).2.1 hn, h.cell (hcell j hj).2.2 hn⟩⟩
theorem own_kept {Mine : World → Nat → Prop} {A B : World} {B0 g n cap : Nat} {zs : List Int} (h : KeptBut Mine A B) (hu : Own A B0 (.slice (some ⟨g, 0, none⟩) n cap) zs) (hm : ¬ Mine A g) (hn : n = zs.length) (hp : 0 < n) : Own B B0 (.slice (some ⟨g, 0, none⟩) n cap) zs :=
  rowSame hu fun k hk => by
    cases hk
    exact h.same (p := ⟨g, 0, none⟩) (own_cellG hu hn 0 (by omega)) hm
theorem getD_atW (zs : List Int) (j : Nat) (h : j < zs.length) : zs.getD j 0 = zs[j] := by simp [List.getD_eq_getElem?_getD, h]
theorem way_step {l : List EdD} {far : List Int} : ∀ (ws : List Int), IsWay l far ws → ∀ k, k < ws.length → (k + 1 < ws.length → (hopsD l far (ws.getD k 0)).head? = some (ws.getD (k + 1) 0)) ∧ (k + 1 = ws.length → hopsD l far (ws.getD k 0) = [])
  | [], h, k, hk => by cases hk
  | [x], h, k, hk => by
    have : k = 0 := by simp at hk; omega
    subst this
    exact ⟨fun q => by simp at q, fun _ => h⟩
  | x :: y :: r, h, 0, hk => ⟨fun _ => h.1, fun q => by simp at q⟩
  | x :: y :: r, h, k + 1, hk => by
    have := way_step (y :: r) h.2 k (by simpa using hk)
    exact ⟨fun q => this.1 (by simpa using q), fun q => this.2 (by simpa using q)⟩
/-- How much of the way is left, by what lies in the slice. -/
def leftW (far : List Int) (v : Value) (w : World) : Nat :=
  match v with
  | .slice (some p) (_ + 1) _ => match w.cell? p with
    | some (.int _ y) => (lab far y).toNat + 1
    | _ => 0
  | _ => 0
theorem leftW_some {far : List Int} {g n cp : Nat} {w : World} {y : Int} (hn : 1 ≤ n) (h : w.cell? ⟨g, 0, none⟩ = some (.int .i64 y)) : leftW far (.slice (some ⟨g, 0, none⟩) n cp) w = (lab far y).toNat + 1 := by
  obtain ⟨m, rfl⟩ : ∃ m, n = m + 1 := ⟨n - 1, by omega⟩
  simp only [leftW, h]
theorem leftW_none {far : List Int} {a : Option Addr} {cp : Nat} {w : World} : leftW far (.slice a 0 cp) w = 0 := by
  cases a <;> rfl
/-- What the slice holds when k have come. -/
def WalkI (Mine : World → Nat → Prop) (ws : List Int) (k : Nat) (a : Option Addr) (n : Nat) (w : World) : Prop :=
  (k < ws.length → 1 ≤ n ∧ ∃ g, a = some ⟨g, 0, none⟩ ∧ w.cell? ⟨g, 0, none⟩ = some (.int .i64 (ws.getD k 0)) ∧ ¬ Mine w g) ∧ (k = ws.length → n = 0)
theorem walkI_next {Mine : World → Nat → Prop} {ws : List Int} {k : Nat} {hs : List Int} {B : Nat} {v : Value} {w : World} (h : Own w B v hs) (hB : ∀ b, B ≤ b → ¬ Mine w b) (h1 : k < ws.length → hs.head? = some (ws.getD k 0)) (h2 : k = ws.length → hs = []) :
    ∃ a c, v = .slice a hs.length c ∧ WalkI Mine ws k a hs.length w := by
  obtain ⟨a, c, rfl⟩ := h.shape
  refine ⟨a, c, rfl, fun hk => ?_, fun hk => by rw [h2 hk]; rfl⟩
  have hh := h1 hk
  obtain ⟨y, t, rfl⟩ : ∃ y t, hs = y :: t := by cases hs with
    | nil => cases hh
    | cons y t => exact ⟨y, t, rfl⟩
  rcases h.2 with ⟨hv, h0⟩ | ⟨g, cap, cur, hv, hg, -⟩
  · simp at h0
  · cases hv
    refine ⟨by simp, g, rfl, ?_, hB g hg⟩
    have := own_cellG h rfl 0 (by simp)
    rw [this]
    cases hh
    rfl

set_option maxRecDepth 100000 in
set_option maxHeartbeats 4000000 in
theorem walkIt_any (S : Nat → Prop) (bl bt bf : Nat) (v : Value) (l : List EdD) (far : List Int) (n : Nat) (x0 : Int) (r : List Int) (W0 w : World) (B0 fg fcap : Nat) (hn : 1 ≤ n ∧ n ≤ 12) (hfl : far.length = n) (hf : FitEd n l) (hx0 : 0 ≤ x0 ∧ x0 < n) (hl : l.length ≤ 40)
    (hfar : ∀ i : Int, 0 ≤ i → i < n → 0 ≤ lab far i ∧ lab far i ≤ farC) (hway : IsWay l far (x0 :: r)) (hbl : S bl) (hbt : S bt) (hbf : S bf)
    (hcl : w.cell? ⟨bl, 0, none⟩ = some v) (hct : w.cell? ⟨bt, 0, none⟩ = some (.int .i64 x0)) (hcf : w.cell? ⟨bf, 0, none⟩ = some (.slice (some ⟨fg, 0, none⟩) n fcap))
    (hr : ReadsEd W0 v l) (hu : Own W0 B0 (.slice (some ⟨fg, 0, none⟩) n fcap) far) (hw0 : Below W0.heap.size W0 w) (hS2 : ∀ b, b < W0.heap.size → S b) :
    SeqO Try.prog 136 #[.pointer (some ⟨bt, 0, none⟩), .pointer (some ⟨bl, 0, none⟩), .pointer (some ⟨bf, 0, none⟩)] (fun x : Int => #[.int .i64 x]) S (x0 :: r) w := by
  intro ll J Jx Mine W hW hJ hJx hM hN hY h0
  obtain ⟨a1, c1, rfl⟩ := hr.shape
  have cl : W.cell? ⟨bl, 0, none⟩ = some (.slice a1 l.length c1) := (hW.cell (p := ⟨bl, 0, none⟩) (World.block_lt_of_cell? w ⟨bl, 0, none⟩ hcl)).trans hcl
  have ct : W.cell? ⟨bt, 0, none⟩ = some (.int .i64 x0) := (hW.cell (p := ⟨bt, 0, none⟩) (World.block_lt_of_cell? w ⟨bt, 0, none⟩ hct)).trans hct
  have cf : W.cell? ⟨bf, 0, none⟩ = some (.slice (some ⟨fg, 0, none⟩) n fcap) := (hW.cell (p := ⟨bf, 0, none⟩) (World.block_lt_of_cell? w ⟨bf, 0, none⟩ hcf)).trans hcf
  have hW0W : Below W0.heap.size W0 W := hw0.trans (hW.mono hw0.size)
  have hfgW0 : fg < W0.heap.size := (World.ownsRow.lt hu fg rfl).2
  have HRE : Hid (ReadsEd W (.slice a1 l.length c1) l) := hr.below hW0W
  have HOW : Hid (Own W B0 (.slice (some ⟨fg, 0, none⟩) n fcap) far) := hu.below hW0W
  have HME : Hid (∀ b, b < W.heap.size → ∀ a n' c, Value.slice a1 l.length c1 = .slice (some a) n' c → a.block = b → l ≠ [] → ¬ Mine W b) := fun b _ a n' c e1 e2 e3 => by
    obtain ⟨a', c', ev, hc⟩ := hr
    rcases hc with hc | ⟨g, off, ha, hg, -⟩
    · exact absurd hc e3
    · cases ev
      cases e1
      cases ha
      exact e2 ▸ hN g (hS2 g hg)
  have HM : Hid (MineOk W.heap.size J Mine) := hM
  have HNM : Hid (¬ Mine W bl ∧ ¬ Mine W bt ∧ ¬ Mine W bf ∧ ¬ Mine W fg) := ⟨hN bl hbl, hN bt hbt, hN bf hbf, hN fg (hS2 fg hfgW0)⟩
  have HC : Hid (W.cell? ⟨bl, 0, none⟩ = some (.slice a1 l.length c1) ∧ W.cell? ⟨bf, 0, none⟩ = some (.slice (some ⟨fg, 0, none⟩) n fcap)) := ⟨cl, cf⟩
  have HJ : Hid (OwnFrom W.heap.size J) := hJ
  have H0 : Hid (J [] W) := h0
  obtain ⟨ws, hws⟩ : ∃ ws, ws = x0 :: r := ⟨_, rfl⟩
  have hws1 : 1 ≤ ws.length ∧ ws.getD 0 0 = x0 := by rw [hws]; exact ⟨by simp, rfl⟩
  have HST : Hid (∀ k, k < ws.length → (k + 1 < ws.length → (hopsD l far (ws.getD k 0)).head? = some (ws.getD (k + 1) 0)) ∧ (k + 1 = ws.length → hopsD l far (ws.getD k 0) = [])) := way_step ws (by rw [hws]; exact hway)
  have HIN : Hid (∀ k, k < ws.length → 0 ≤ ws.getD k 0 ∧ ws.getD k 0 < (n : Int)) := fun k hk => by
    rw [getD_atW ws k hk]
    exact way_fit hf r x0 hx0.1 hx0.2 hway _ (by rw [← hws]; exact List.getElem_mem hk)
  rw [← hws] at hY ⊢
  have HY : Hid (∀ pre x W1, J pre W1 → pre ++ [x] <+: ws → YieldW Try.prog ll #[.int .i64 x] W1 fun e W' => (e = .returned (.bool true) ∧ J (pre ++ [x]) W' ∧ KeptBut Mine W1 W' ∧ KeepsFrom W.heap.size W1 W') ∨ (e = .returned (.bool false) ∧ Jx (pre ++ [x]) W' ∧ KeepsFrom W.heap.size W1 W')) := hY
  have HFACT : Hid (FitEd n l ∧ (∀ i : Int, 0 ≤ i → i < n → 0 ≤ lab far i ∧ lab far i ≤ farC)) := ⟨hf, hfar⟩
  clear hcl hct hcf hw0 hS2 hN hr hu hway hws hx0 hY hJ h0 hM hW hJx hW0W hfgW0 hf hfar cl cf hbl hbt hbf
  refine callsIn_of_wp Try.func136 rfl trivial ?_ rfl
  simp only [Try.ntmps136, List.size_toArray, List.length_cons, List.length_nil, Nat.reduceAdd, Nat.reduceSub, Array.replicate_succ, Array.replicate_zero, List.push_toArray, List.append_toArray, List.nil_append, List.cons_append]
  gi_wp2
  have hb1 : Below W.heap.size W (W.alloc (.cells #[.int .i64 x0] 3)) := (Below.refl _ W).alloc (Nat.le_refl _) _
  gi_loopw [5] (fun i wr => ∃ (k n1 : Nat) (ad : Option Addr) (cp : Nat), k ≤ ws.length ∧ i = .slice ad n1 cp ∧ Hid (WalkI Mine ws k ad n1 wr ∧ J (ws.take k) wr ∧ KeptBut Mine W wr)) (fun i wr => leftW far i wr)
  case atStart =>
    refine ⟨0, 1, _, 1, Nat.zero_le _, rfl, ⟨fun _ => ⟨Nat.le_refl _, _, rfl, ?_, HM.out.new H0.out (Nat.le_refl _) hb1 (Nat.le_refl _)⟩, fun e => by omega⟩, own_on HJ.out H0.out hb1, KeptBut.below HM.out H0.out (Nat.le_refl _) hb1⟩
    rw [hws1.2]
    exact new_cell _ _ _
  case round =>
    obtain ⟨k, n1, ad, cp, hkl, rfl, HI⟩ := hrel
    clear hb1 ct
    by_cases hlt : k < ws.length
    · obtain ⟨hn1, g, rfl, hcell, hgm⟩ := HI.out.1.1 hlt
      have htk : ws.take (k + 1) = ws.take k ++ [ws.getD k 0] := by rw [List.take_succ_eq_append_getElem hlt, getD_atW ws k hlt]
      have HT : Hid (ws.take (k + 1) = ws.take k ++ [ws.getD k 0]) := htk
      have HKW : Hid (KeptBut Mine W wr) := HI.out.2.2
      have HME2 : Hid (leftW far (.slice (some ⟨g, 0, none⟩) n1 cp) wr = (lab far (ws.getD k 0)).toNat + 1) := leftW_some hn1 hcell
      have HX := HIN.out k hlt
      have HNX : Hid ((k + 1 < ws.length → (hopsD l far (ws.getD k 0)).head? = some (ws.getD (k + 1) 0)) ∧ (k + 1 = ws.length → hopsD l far (ws.getD k 0) = [])) := HST.out k hlt
      obtain ⟨fn, tmps, assign, body, hy, hR⟩ := HY.out (ws.take k) (ws.getD k 0) wr HI.out.2.1 (by rw [← htk]; exact List.take_prefix _ _)
      rw [← htk] at hR
      have HR : Hid (∀ m, RoundIn Fence.wide m Try.prog ll fn tmps assign body wr fun e W' => (e = .returned (.bool true) ∧ J (ws.take (k + 1)) W' ∧ KeptBut Mine wr W' ∧ KeepsFrom W.heap.size wr W') ∨ (e = .returned (.bool false) ∧ Jx (ws.take (k + 1)) W' ∧ KeepsFrom W.heap.size wr W')) := hR
      have HG : Hid (wr.cell? ⟨g, 0, none⟩ = some (.int .i64 (ws.getD k 0)) ∧ ¬ Mine wr g) := ⟨hcell, hgm⟩
      obtain ⟨x, hx⟩ : ∃ x, x = ws.getD k 0 := ⟨_, rfl⟩
      have HXX : Hid (x = ws.getD k 0) := hx
      rw [← hx] at hy hcell HX HNX HG HME2
      have hpos : 0 < (n1 : Int) := by omega
      clear hx hR htk HT HY H0 hgm HST HIN hws1
      gi_wp2
      refine (HR.out _).mono ?_
      rintro e W3 (⟨rfl, hj3, hk3, -⟩ | ⟨rfl, hx3, -⟩)
      · have HJ3 : Hid (J (ws.take (k + 1)) W3 ∧ KeptBut Mine W W3) := ⟨hj3, HKW.out.trans hk3⟩
        have HG3 : Hid (W3.cell? ⟨g, 0, none⟩ = some (.int .i64 x)) := hk3.cell HG.out.1 HG.out.2
        clear hj3 hk3 HR hy hcell HG HKW HI
        gi_wp2
        have hdr : Below W3.heap.size W3 W3.drew := (Below.refl _ W3).drew
        have HK4 : Hid (J (ws.take (k + 1)) W3.drew ∧ KeptBut Mine W W3.drew) := ⟨own_on HJ.out HJ3.out.1 hdr, HJ3.out.2.trans (KeptBut.below HM.out HJ3.out.1 HJ3.out.2.1 hdr)⟩
        have HSH : Hid (∀ w', Below W3.drew.heap.size W3.drew w' → w'.cell? ⟨bl, 0, none⟩ = some (.slice a1 l.length c1) ∧ w'.cell? ⟨bf, 0, none⟩ = some (.slice (some ⟨fg, 0, none⟩) n fcap) ∧ w'.cell? ⟨g, 0, none⟩ = some (.int .i64 x)) := fun w' hb => by
          have q1 := HK4.out.2.cell HC.out.1 HNM.out.1
          have q2 := HK4.out.2.cell HC.out.2 HNM.out.2.2.1
          have q3 : W3.drew.cell? ⟨g, 0, none⟩ = some (.int .i64 x) := HG3.out
          exact ⟨(hb.cell (p := ⟨bl, 0, none⟩) (World.block_lt_of_cell? _ ⟨bl, 0, none⟩ q1)).trans q1, (hb.cell (p := ⟨bf, 0, none⟩) (World.block_lt_of_cell? _ ⟨bf, 0, none⟩ q2)).trans q2, (hb.cell (p := ⟨g, 0, none⟩) (World.block_lt_of_cell? _ ⟨g, 0, none⟩ q3)).trans q3⟩
        have HRE3 : Hid (ReadsEd W3.drew (.slice a1 l.length c1) l) := by
          by_cases hne : l = []
          · obtain ⟨a', c', ev, -⟩ := HRE.out
            exact ⟨a', c', ev, .inl hne⟩
          · exact readsEd_kept HK4.out.2 HRE.out fun b hb a n' c e1 e2 => HME.out b hb a n' c e1 e2 hne
        have HOW3 : Hid (Own W3.drew B0 (.slice (some ⟨fg, 0, none⟩) n fcap) far) := own_kept HK4.out.2 HOW.out HNM.out.2.2.2 hfl.symm (by omega)
        have CC : Hid (Calls Try.prog 113 #[.func (.func 139) #[] #[.pointer (some ⟨W3.drew.heap.size, 0, none⟩), .pointer (some ⟨W3.drew.heap.size + 1 + 1, 0, none⟩), .pointer (some ⟨W3.drew.heap.size + 1, 0, none⟩)]] (hopsW W3.drew (.slice a1 l.length c1) (.slice (some ⟨fg, 0, none⟩) n fcap) x) fun e w2 => ∃ v', e = .returned v' ∧ Own w2 W3.drew.heap.size v' (hopsD l far x) ∧ Below W3.drew.heap.size W3.drew w2) :=
          colHops_any W3.drew _ _ l far n x B0 HRE3.out HOW3.out hn hfl HFACT.out.1 HX hl HFACT.out.2
        clear hdr HRE3 HOW3 HRE HOW HME HJ3 HG3
        refine region_outRound (S := (fun w' : World => w'.cell? ⟨bl, 0, none⟩ = some (.slice a1 l.length c1) ∧ w'.cell? ⟨bf, 0, none⟩ = some (.slice (some ⟨fg, 0, none⟩) n fcap) ∧ w'.cell? ⟨g, 0, none⟩ = some (.int .i64 x))) 7 (by kernel_rfl) ?_ (fun hHeld => ?_)
        · exact HSH.out _ (Below.refl _ _)
        refine roundRead 0 (some 18) (.slice a1 l.length c1) rfl rfl (by kernel_rfl) (by kernel_rfl) (by kernel_rfl) (by kernel_rfl) (fun _ _ _ h => h) (by kernel_rfl) (by assumption) ?_ ?_
        · intro w hSw
          (try dsimp only at hSw)
          go_simp
        simp only [Act.put, List.setIfInBounds_toArray, List.set_cons_zero, List.set_cons_succ]
        refine roundRead 1 (some 19) (.slice (some ⟨fg, 0, none⟩) n fcap) rfl rfl (by kernel_rfl) (by kernel_rfl) (by kernel_rfl) (by kernel_rfl) (fun _ _ _ h => h) (by kernel_rfl) (by assumption) ?_ ?_
        · intro w hSw
          (try dsimp only at hSw)
          go_simp
        simp only [Act.put, List.setIfInBounds_toArray, List.set_cons_zero, List.set_cons_succ]
        refine roundRead 2 (some 20) (.slice (some ⟨g, 0, none⟩) n1 cp) rfl rfl (by kernel_rfl) (by kernel_rfl) (by kernel_rfl) (by kernel_rfl) (fun _ _ _ h => h) (by kernel_rfl) (by assumption) ?_ ?_
        · intro w hSw
          (try dsimp only at hSw)
          go_simp
        simp only [Act.put, List.setIfInBounds_toArray, List.set_cons_zero, List.set_cons_succ]
        refine roundRead 3 (some 21) (.pointer (some ⟨g, 0, none⟩)) rfl rfl (by kernel_rfl) (by kernel_rfl) (by kernel_rfl) (by kernel_rfl) (fun _ _ _ h => h) (by kernel_rfl) (by assumption) ?_ ?_
        · intro w hSw
          (try dsimp only at hSw)
          go_simp
        simp only [Act.put, List.setIfInBounds_toArray, List.set_cons_zero, List.set_cons_succ]
        refine roundRead 4 (some 22) (.int .i64 x) rfl rfl (by kernel_rfl) (by kernel_rfl) (by kernel_rfl) (by kernel_rfl) (fun _ _ _ h => h) (by kernel_rfl) (by assumption) ?_ ?_
        · intro w hSw
          (try dsimp only at hSw)
          go_simp
        simp only [Act.put, List.setIfInBounds_toArray, List.set_cons_zero, List.set_cons_succ]
        refine roundCall 5 (some 23) 119 #[.slice a1 l.length c1, .slice (some ⟨fg, 0, none⟩) n fcap, .int .i64 x] (by kernel_rfl) rfl rfl (by kernel_rfl) (by simp [go_sem]) ((hopsOn_any _ (.slice a1 l.length c1) (.slice (some ⟨fg, 0, none⟩) n fcap) ⟨_, _, _, rfl⟩ ⟨_, _, _, rfl⟩ x).mono ?_)
        rintro e w4 ⟨rfl, hw4⟩
        have hw4 : w4 = hopsW W3.drew (.slice a1 l.length c1) (.slice (some ⟨fg, 0, none⟩) n fcap) x := hw4
        subst hw4
        refine ⟨_, rfl, (by exact HSH.out _ (hopsW_below _ _ _ _)), fun hHeld => ?_⟩
        simp only [Act.put, List.setIfInBounds_toArray, List.set_cons_zero, List.set_cons_succ]
        refine roundCall 6 (some 24) 113 #[.func (.func 139) #[] #[.pointer (some ⟨W3.drew.heap.size, 0, none⟩), .pointer (some ⟨W3.drew.heap.size + 1 + 1, 0, none⟩), .pointer (some ⟨W3.drew.heap.size + 1, 0, none⟩)]] (by kernel_rfl) rfl rfl (by kernel_rfl) (by simp [go_sem]) ((CC.out).mono ?_)
        rintro e w5 ⟨v5, rfl, ho5, hb5⟩
        refine ⟨_, rfl, (by exact HSH.out _ hb5), fun hHeld => ?_⟩
        simp only [Act.put, List.setIfInBounds_toArray, List.set_cons_zero, List.set_cons_succ]
        obtain ⟨a5, c5, rfl⟩ := ho5.shape
        have HF : Hid (Own w5 W3.drew.heap.size (.slice a5 (hopsD l far x).length c5) (hopsD l far x) ∧ Below W3.drew.heap.size W3.drew w5) := ⟨ho5, hb5⟩
        clear ho5 hb5 CC
        refine roundValue 7 (some 5) (.slice a5 (hopsD l far x).length c5) w5 (by kernel_rfl) rfl rfl (.inl (by kernel_rfl)) (by kernel_rfl) (by go_simp) ?_
        simp only [Act.put, List.setIfInBounds_toArray, List.set_cons_zero, List.set_cons_succ]
        refine wpAnyR.done (by kernel_rfl) ?_ _
        clear hHeld
        gi_wp2
        have hJ5 : J (ws.take (k + 1)) w5 := own_on HJ.out HK4.out.1 HF.out.2
        have hK5 : KeptBut Mine W3.drew w5 := KeptBut.below HM.out HK4.out.1 HK4.out.2.1 HF.out.2
        have hNEW : ∀ b, W3.drew.heap.size ≤ b → ¬ Mine w5 b := fun b hb => HM.out.new HK4.out.1 HK4.out.2.1 HF.out.2 hb
        obtain ⟨a6, c6, ev, hWI⟩ := walkI_next (Mine := Mine) (ws := ws) (k := k + 1) HF.out.1 hNEW HNX.out.1 HNX.out.2
        cases ev
        have HG6 : Hid (WalkI Mine ws (k + 1) a5 (hopsD l far x).length w5 ∧ J (ws.take (k + 1)) w5 ∧ KeptBut Mine W w5) := ⟨hWI, hJ5, HK4.out.2.trans hK5⟩
        have hME : leftW far (.slice a5 (hopsD l far x).length c5) w5 < leftW far (.slice (some ⟨g, 0, none⟩) n1 cp) wr := by
          rw [HME2.out]
          by_cases hl2 : k + 1 < ws.length
          · obtain ⟨h1, g6, rfl, h3, -⟩ := hWI.1 hl2
            rw [leftW_some h1 h3]
            obtain ⟨c, hj, hc⟩ := way_hop HFACT.out.1 (HNX.out.1 hl2)
            have hfit := hj.fit HFACT.out.1
            have := HFACT.out.2 _ hfit.2.1.1 hfit.2.1.2
            have := HFACT.out.2 _ hfit.1.1 hfit.1.2
            omega
          · rw [hWI.2 (by omega), leftW_none]
            omega
        clear hJ5 hK5 hNEW hWI
        go_roundw
        case rel => exact ⟨k + 1, _, _, _, by omega, rfl, HG6.out⟩
        case measure => exact hME
      · have HF : Hid (∃ p, Jx p W3) := ⟨_, hx3⟩
        clear hx3 HR hy HI
        gi_wp2
        go_end0
        exact ⟨⟨_, rfl⟩, .inr HF.out⟩
    · have e : k = ws.length := by omega
      have HE : Hid (J ws wr) := by
        have := HI.out.2.1
        rwa [e, List.take_length] at this
      obtain rfl : n1 = 0 := HI.out.1.2 e
      clear HI HY H0 HST HIN
      gi_wp2
      go_end0
      exact ⟨⟨_, rfl⟩, .inl HE.out⟩
end Go.Proofs.Ythlbmkefjjckaac
