/-
  'l3Tick' of the model.
-/
import Derived.Test.YtchddjidjfpehaaHear
namespace Go.Proofs.Ytchddjidjfpehaa
open Go.RowKit

theorem Own3.away {W : World} {B : Nat} {x y z : Value} {p : PR} (h : Own3 W B x y z p) {a : Addr} (hn : ¬ Has x y z a.block) (u : Value) : Own3 (W.setCell a u) B x y z p :=
  h.same fun _ hk => Below.heap_setCell _ _ _ _ (fun e => hn (e ▸ hk))
theorem Own3.setSt {W : World} {B g n c : Nat} {y z : Value} {p : PR} (h : Own3 W B (.slice (some ⟨g, 0, none⟩) n c) y z p) (k : Nat) (s : Int) (hn : n = p.st.length) : Own3 (W.setCell ⟨g, k, none⟩ (.int .i64 s)) B (.slice (some ⟨g, 0, none⟩) n c) y z ⟨p.st.set k s, p.lf, p.ln⟩ := by
  subst hn
  have G := (World.ownsRow.stored h.st k (.int .i64 s)).2
  refine ⟨?_, h.lf.grow G (fun j hj => by rw [Option.some.injEq] at hj; subst hj; exact h.apart _ rfl), h.ln.grow G (fun j hj e => by rw [Option.some.injEq] at hj; subst hj; exact hello_apart h.ln h.st _ e rfl), h.apart⟩
  exact h.st.set k s
theorem Own3.setLf {W : World} {B g n c : Nat} {x z : Value} {p : PR} (h : Own3 W B x (.slice (some ⟨g, 0, none⟩) n c) z p) (k : Nat) (s : Int) (hn : n = p.lf.length) : Own3 (W.setCell ⟨g, k, none⟩ (.int .i64 s)) B x (.slice (some ⟨g, 0, none⟩) n c) z ⟨p.st, p.lf.set k s, p.ln⟩ := by
  subst hn
  have G := (World.ownsRow.stored h.lf k (.int .i64 s)).2
  refine ⟨h.st.grow G (fun j hj e => by rw [Option.some.injEq] at hj; subst hj; exact h.apart _ e rfl), ?_, h.ln.grow G (fun j hj e => by rw [Option.some.injEq] at hj; subst hj; exact hello_apart h.ln h.lf _ e rfl), h.apart⟩
  exact h.lf.set k s
theorem Wrote.refl (W : World) (B : Nat) (x y : Value) : Wrote W W B x y := ⟨Below.refl _ _, Nat.le_refl _, fun _ _ _ _ => rfl⟩
theorem Wrote.step {W w w' : World} {B : Nat} {x y : Value} (h : Wrote W w B x y) (hb : Below w.heap.size w w') (hB : B ≤ W.heap.size) : Wrote W w' B x y :=
  ⟨h.below.trans (hb.mono (Nat.le_trans hB h.size)), Nat.le_trans h.size hb.size, fun b hl n1 n2 => (hb.block b (Nat.lt_of_lt_of_le hl h.size)).trans (h.block b hl n1 n2)⟩
theorem Wrote.set {W w : World} {B : Nat} {x y : Value} (h : Wrote W w B x y) {a : Addr} (u : Value) (ha : W.heap.size ≤ a.block ∨ x.ownBlock = some a.block ∨ y.ownBlock = some a.block) (hB : B ≤ a.block) : Wrote W (w.setCell a u) B x y := by
  refine ⟨h.below.setCell hB u, by rw [show (w.setCell a u).heap.size = w.heap.size from by simp [World.setCell]]; exact h.size, fun b hl n1 n2 => ?_⟩
  rw [Below.heap_setCell _ _ _ _ (fun e => ?_)]
  · exact h.block b hl n1 n2
  · rcases ha with ha | ha | ha
    · omega
    · exact n1 (e ▸ ha)
    · exact n2 (e ▸ ha)

/-- The pair as the ticks go on. -/
def tk (s0 s1 l0 l1 : Int) (ln : List HD) : Nat → PR
  | 0 => ⟨[s0, s1], [l0, l1], ln⟩
  | 1 => ⟨[tickS s0 l0, s1], [tickL l0, l1], ln⟩
  | _ => ⟨[tickS s0 l0, tickS s1 l1], [tickL l0, tickL l1], ln⟩

structure TickI (W : World) (B r1 r2 c1 c2 : Nat) (z : Value) (q : PR) (w : World) : Prop where
  own : Own3 w B (.slice (some ⟨r1, 0, none⟩) 2 c1) (.slice (some ⟨r2, 0, none⟩) 2 c2) z q
  wrote : Wrote W w B (.slice (some ⟨r1, 0, none⟩) 2 c1) (.slice (some ⟨r2, 0, none⟩) 2 c2)
  px : Bx3 w W.heap.size (.slice (some ⟨r1, 0, none⟩) 2 c1) (.slice (some ⟨r2, 0, none⟩) 2 c2) z
  rx : Bx3 w (W.heap.size + 1) (.slice none 0 0) (.slice none 0 0) (.slice none 0 0)
  b1 : B ≤ r1 ∧ r1 < W.heap.size
  b2 : B ≤ r2 ∧ r2 < W.heap.size
theorem TickI.less {W : World} {B r1 r2 c1 c2 : Nat} {z : Value} {q : PR} {w : World} (h : TickI W B r1 r2 c1 c2 z q w) (k : Nat) (v : Int) (hl : 2 = q.lf.length) : TickI W B r1 r2 c1 c2 z ⟨q.st, q.lf.set k v, q.ln⟩ (w.setCell ⟨r2, k, none⟩ (.int .i64 v)) :=
  ⟨h.own.setLf k v hl, h.wrote.set (a := ⟨r2, k, none⟩) _ (.inr (.inr rfl)) h.b2.1, h.px.other (by have := h.b2.2; show r2 ≠ _; omega) _, h.rx.other (by have := h.b2.2; show r2 ≠ _; omega) _, h.b1, h.b2⟩
theorem TickI.down {W : World} {B r1 r2 c1 c2 : Nat} {z : Value} {q : PR} {w : World} (h : TickI W B r1 r2 c1 c2 z q w) (k : Nat) (v : Int) (hl : 2 = q.st.length) : TickI W B r1 r2 c1 c2 z ⟨q.st.set k v, q.lf, q.ln⟩ (w.setCell ⟨r1, k, none⟩ (.int .i64 v)) :=
  ⟨h.own.setSt k v hl, h.wrote.set (a := ⟨r1, k, none⟩) _ (.inr (.inl rfl)) h.b1.1, h.px.other (by have := h.b1.2; show r1 ≠ _; omega) _, h.rx.other (by have := h.b1.2; show r1 ≠ _; omega) _, h.b1, h.b2⟩
theorem TickI.to {W : World} {B r1 r2 c1 c2 : Nat} {z : Value} {q q' : PR} {w : World} (h : TickI W B r1 r2 c1 c2 z q w) (e : q = q') : TickI W B r1 r2 c1 c2 z q' w := e ▸ h
/-- The cells of both rows. -/
theorem TickI.cells {W : World} {B r1 r2 c1 c2 : Nat} {z : Value} {q : PR} {w : World} (h : TickI W B r1 r2 c1 c2 z q w) (k : Nat) (s l : Int) (hs : q.st[k]? = some s) (hl : q.lf[k]? = some l) :
    w.cell? ⟨r1, k, none⟩ = some (.int .i64 s) ∧ w.cell? ⟨r2, k, none⟩ = some (.int .i64 l) ∧ w.frozen? ⟨r1, k, none⟩ = false ∧ w.frozen? ⟨r2, k, none⟩ = false ∧ r1 ≠ r2 := by
  obtain ⟨a1, e1, hv1, hc1⟩ := h.own.st.form
  obtain ⟨a2, e2, hv2, hc2⟩ := h.own.lf.form
  simp only [Value.slice.injEq] at hv1 hv2
  obtain ⟨rfl, -, -⟩ := hv1
  obtain ⟨rfl, -, -⟩ := hv2
  obtain ⟨g1, he1, -, -, hcell1, hf1⟩ := hc1.resolve_left (fun e => by rw [e] at hs; simp at hs)
  obtain ⟨g2, he2, -, -, hcell2, hf2⟩ := hc2.resolve_left (fun e => by rw [e] at hl; simp at hl)
  simp only [Option.some.injEq, Addr.mk.injEq, and_true] at he1 he2
  subst he1 he2
  obtain ⟨hk1, rfl⟩ := List.getElem?_eq_some_iff.1 hs
  obtain ⟨hk2, rfl⟩ := List.getElem?_eq_some_iff.1 hl
  exact ⟨hcell1 k hk1, hcell2 k hk2, hf1 k, hf2 k, fun e => h.own.apart r1 rfl (by rw [e]; rfl)⟩

set_option maxRecDepth 100000 in
set_option maxHeartbeats 4000000 in
theorem l3Tick_any (W : World) (B : Nat) (x y z : Value) (s0 s1 l0 l1 : Int) (ln : List HD) (h : Own3 W B x y z ⟨[s0, s1], [l0, l1], ln⟩) (hB : B ≤ W.heap.size) (g0 : goodS s0 l0 = true) (g1 : goodS s1 l1 = true) :
    Calls Try.prog 83 #[.agg #[x, y, z]] W fun e W' => e = .returned (.agg #[x, y, z]) ∧ Own3 W' B x y z ⟨[tickS s0 l0, tickS s1 l1], [tickL l0, tickL l1], ln⟩ ∧ Wrote W W' B x y := by
  obtain ⟨a1, c1, rfl, hc1⟩ := h.st.form
  obtain ⟨a2, c2, rfl, hc2⟩ := h.lf.form
  obtain ⟨a3, c3, rfl⟩ := h.ln.shape
  obtain ⟨r1, rfl, hB1, hr1, -, -⟩ := hc1.resolve_left (by simp)
  obtain ⟨r2, rfl, hB2, hr2, -, -⟩ := hc2.resolve_left (by simp)
  simp only [List.length_cons, List.length_nil, Nat.zero_add, Nat.reduceAdd] at *
  have HT : Hid (TickI W B r1 r2 c1 c2 (.slice a3 ln.length c3) (tk s0 s1 l0 l1 ln 0) ((W.alloc (.cells #[.slice (some ⟨r1, 0, none⟩) 2 c1, .slice (some ⟨r2, 0, none⟩) 2 c2, .slice a3 ln.length c3] 40)).alloc (.cells #[.slice none 0 0, .slice none 0 0, .slice none 0 0] 40))) := by
    refine ⟨(h.below ((Below.refl _ W).alloc (Nat.le_refl _) _)).below ((Below.refl _ _).alloc (Nat.le_refl _) _), ((Wrote.refl W B _ _).step ((Below.refl _ W).alloc (Nat.le_refl _) _) hB).step ((Below.refl _ _).alloc (Nat.le_refl _) _) hB, (Bx3.new _ _ _ _ _).below ((Below.refl _ _).alloc (Nat.le_refl _) _), ?_, ⟨hB1, hr1⟩, ⟨hB2, hr2⟩⟩
    have := Bx3.new (W.alloc (.cells #[.slice (some ⟨r1, 0, none⟩) 2 c1, .slice (some ⟨r2, 0, none⟩) 2 c2, .slice a3 ln.length c3] 40)) (.slice none 0 0) (.slice none 0 0) (.slice none 0 0) 40
    exact (show Bx3 _ _ _ _ _ by simpa using this)
  have HN : Hid (¬ Has (.slice (some ⟨r1, 0, none⟩) 2 c1) (.slice (some ⟨r2, 0, none⟩) 2 c2) (.slice a3 ln.length c3) (W.heap.size + 1)) := fun hh => by have := (h.lt _ hh).2; omega
  have HBB : Hid (B ≤ W.heap.size + 1) := by show _ ≤ _; omega
  have G0 := goodS_cases s0 l0 g0
  have G1 := goodS_cases s1 l1 g1
  clear h hc1 hc2 g0 g1 hB1 hB2 hr1 hr2 hB
  go_enter Try.func83, Try.ntmps83
  go_wp2
  generalize hw : (W.alloc (.cells #[.slice (some ⟨r1, 0, none⟩) 2 c1, .slice (some ⟨r2, 0, none⟩) 2 c2, .slice a3 ln.length c3] 40)).alloc (.cells #[.slice none 0 0, .slice none 0 0, .slice none 0 0] 40) = w2 at *
  clear hw
  go_loopw [7] (fun i wr => ∃ k : Nat, k ≤ 2 ∧ i = .int .i64 k ∧ Hid (TickI W B r1 r2 c1 c2 (.slice a3 ln.length c3) (tk s0 s1 l0 l1 ln k) wr)) (fun i _ => 2 - (intOf i).toNat)
  case atStart => exact ⟨0, Nat.zero_le _, rfl, HT⟩
  case round =>
    clear HT
    obtain ⟨k, hk, rfl, HT⟩ := hrel
    obtain ⟨p0, p1, p2, p3, -⟩ := HT.out.px
    have hk3 : k = 0 ∨ k = 1 ∨ k = 2 := by omega
    rcases hk3 with rfl | rfl | rfl
    · clear G1
      rcases G0 with ⟨rfl, rfl⟩ | ⟨gs, gl⟩
      · obtain ⟨k1, k2, f1, f2, hne⟩ := HT.out.cells 0 0 0 rfl rfl
        have HF : Hid (TickI W B r1 r2 c1 c2 (.slice a3 ln.length c3) (tk 0 s1 0 l1 ln 1) wr) := HT.out.to rfl
        clear HT
        go_wp2
        go_roundw
        case rel => exact ⟨1, by omega, by go_num, HF⟩
        case measure => simp [intOf]
      · obtain ⟨k1, k2, f1, f2, hne⟩ := HT.out.cells 0 s0 l0 rfl rfl
        have ns : ¬ s0 = 0 := by omega
        by_cases e1 : l0 = 1
        · subst e1
          have HF : Hid (TickI W B r1 r2 c1 c2 (.slice a3 ln.length c3) (tk s0 s1 1 l1 ln 1) ((wr.setCell ⟨r2, 0, none⟩ (.int .i64 0)).setCell ⟨r1, 0, none⟩ (.int .i64 0))) := ((HT.out.less 0 0 rfl).down 0 0 rfl).to rfl
          obtain ⟨p0', p1', p2', p3', -⟩ := (HT.out.less 0 0 rfl).px
          clear HT gs gl
          go_wp2
          go_roundw
          case rel => exact ⟨1, by omega, by go_num, HF⟩
          case measure => simp [intOf]
        · have n1 : ¬ l0 - 1 = 0 := by omega
          have u1 : l0 ≤ 3 := by omega
          have v1 : 2 ≤ l0 := by omega
          have HF : Hid (TickI W B r1 r2 c1 c2 (.slice a3 ln.length c3) (tk s0 s1 l0 l1 ln 1) (wr.setCell ⟨r2, 0, none⟩ (.int .i64 (l0 - 1)))) := by
            refine (HT.out.less 0 (l0 - 1) rfl).to ?_
            have ht : ¬ l0 ≤ 1 := by omega
            simp [tk, tickS, tickL, ht]
          obtain ⟨p0', p1', p2', p3', -⟩ := (HT.out.less 0 (l0 - 1) rfl).px
          clear HT gs gl
          go_wp2
          go_roundw
          case rel => exact ⟨1, by omega, by go_num, HF⟩
          case measure => simp [intOf]
    · clear G0
      rcases G1 with ⟨rfl, rfl⟩ | ⟨gs, gl⟩
      · obtain ⟨k1, k2, f1, f2, hne⟩ := HT.out.cells 1 0 0 rfl rfl
        have HF : Hid (TickI W B r1 r2 c1 c2 (.slice a3 ln.length c3) (tk s0 0 l0 0 ln 2) wr) := HT.out.to rfl
        clear HT
        go_wp2
        go_roundw
        case rel => exact ⟨2, by omega, by go_num, HF⟩
        case measure => simp [intOf]
      · obtain ⟨k1, k2, f1, f2, hne⟩ := HT.out.cells 1 s1 l1 rfl rfl
        have ns : ¬ s1 = 0 := by omega
        by_cases e1 : l1 = 1
        · subst e1
          have HF : Hid (TickI W B r1 r2 c1 c2 (.slice a3 ln.length c3) (tk s0 s1 l0 1 ln 2) ((wr.setCell ⟨r2, 1, none⟩ (.int .i64 0)).setCell ⟨r1, 1, none⟩ (.int .i64 0))) := ((HT.out.less 1 0 rfl).down 1 0 rfl).to rfl
          obtain ⟨p0', p1', p2', p3', -⟩ := (HT.out.less 1 0 rfl).px
          clear HT gs gl
          go_wp2
          go_roundw
          case rel => exact ⟨2, by omega, by go_num, HF⟩
          case measure => simp [intOf]
        · have n1 : ¬ l1 - 1 = 0 := by omega
          have u1 : l1 ≤ 3 := by omega
          have v1 : 2 ≤ l1 := by omega
          have HF : Hid (TickI W B r1 r2 c1 c2 (.slice a3 ln.length c3) (tk s0 s1 l0 l1 ln 2) (wr.setCell ⟨r2, 1, none⟩ (.int .i64 (l1 - 1)))) := by
            refine (HT.out.less 1 (l1 - 1) rfl).to ?_
            have ht : ¬ l1 ≤ 1 := by omega
            simp [tk, tickS, tickL, ht]
          obtain ⟨p0', p1', p2', p3', -⟩ := (HT.out.less 1 (l1 - 1) rfl).px
          clear HT gs gl
          go_wp2
          go_roundw
          case rel => exact ⟨2, by omega, by go_num, HF⟩
          case measure => simp [intOf]
    · obtain ⟨r0, y1, y2, y3, yf⟩ := HT.out.rx
      have HO : Hid (Own3 wr B (.slice (some ⟨r1, 0, none⟩) 2 c1) (.slice (some ⟨r2, 0, none⟩) 2 c2) (.slice a3 ln.length c3) ⟨[tickS s0 l0, tickS s1 l1], [tickL l0, tickL l1], ln⟩) := HT.out.own
      have HW : Hid (Wrote W wr B (.slice (some ⟨r1, 0, none⟩) 2 c1) (.slice (some ⟨r2, 0, none⟩) 2 c2)) := HT.out.wrote
      clear HT
      go_wp2
      refine bodyPost_ret (v := .agg #[.slice (some ⟨r1, 0, none⟩) 2 c1, .slice (some ⟨r2, 0, none⟩) 2 c2, .slice a3 ln.length c3]) (by simp [results, Try.results83, go_sem, y1, y2, y3]) rfl ⟨rfl, ?_, ?_⟩
      · exact (((HO.out.away (a := ⟨W.heap.size + 1, 0, none⟩) HN.out _).away (a := ⟨W.heap.size + 1, 1, none⟩) HN.out _).away (a := ⟨W.heap.size + 1, 2, none⟩) HN.out _)
      · exact ((HW.out.set (a := ⟨W.heap.size + 1, 0, none⟩) _ (.inl (by simp)) HBB.out).set (a := ⟨W.heap.size + 1, 1, none⟩) _ (.inl (by simp)) HBB.out).set (a := ⟨W.heap.size + 1, 2, none⟩) _ (.inl (by simp)) HBB.out
end Go.Proofs.Ytchddjidjfpehaa
