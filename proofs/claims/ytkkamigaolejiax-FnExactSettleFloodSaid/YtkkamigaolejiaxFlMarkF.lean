/-
  'markFlood', 'heldFlood'.
-/
import Derived.Test.YtkkamigaolejiaxFlMark
namespace Go.Proofs.Ytkkamigaolejiax
open Go.RowKit
set_option linter.unusedVariables false

theorem Turned.mono {P Q : Nat → Prop} {W W' : World} (h : Turned P W W') (hPQ : ∀ b, P b → Q b) : Turned Q W W' := ⟨h.os, h.tape, h.output, h.size, fun j hj hn => h.block j hj (fun hp => hn (hPQ j hp))⟩
theorem Turned.trans {P : Nat → Prop} {W w w' : World} (h : Turned P W w) (h' : Turned P w w') : Turned P W w' :=
  ⟨h'.os.trans h.os, h'.tape.trans h.tape, h'.output.trans h.output, Nat.le_trans h.size h'.size, fun j hj hn => (h'.block j (Nat.lt_of_lt_of_le hj h.size) hn).trans (h.block j hj hn)⟩
theorem Turned.ofBelow {P : Nat → Prop} {W W' : World} (h : Below W.heap.size W W') : Turned P W W' := ⟨h.os, h.tape, h.output, h.size, fun j hj _ => h.block j hj⟩
theorem OwnSS.turned {P : Nat → Prop} {W W' : World} {B : Nat} {v : Value} {vs : List Value} {zss : List (List Int)} (h : OwnSS W B v vs zss) (ht : Turned P W W') (h1 : ∀ b, v.ownBlock = some b → ¬ P b) (h2 : ∀ b, InSS vs b → ¬ P b) : OwnSS W' B v vs zss :=
  h.same (fun k hk => ht.block k (World.ownsRow.lt h.row k hk).2 (h1 k hk)) (fun k hk => ht.block k (h.inLt k hk).2 (h2 k hk))
theorem outer_inner {W : World} {B B' : Nat} {v y : Value} {vs ys : List Value} {f g : List (List Int)} (h : OwnSS W B v vs f) (h' : OwnSS W B' y ys g) (b : Nat) (hb : v.ownBlock = some b) : ¬ InSS ys b := fun ⟨j, hj, hb2⟩ => rowsApart h.row (h'.inner j hj) (by decide) b hb hb2
theorem lts_inner {W : World} {B B' : Nat} {v y : Value} {hs : List LtD} {ys : List Value} {g : List (List Int)} (h : OwnLt W B v hs) (h' : OwnSS W B' y ys g) (b : Nat) (hb : v.ownBlock = some b) : ¬ InSS ys b := fun ⟨j, hj, hb2⟩ => rowsApart h (h'.inner j hj) (by decide) b hb hb2
theorem lts_outer {W : World} {B B' : Nat} {v y : Value} {hs : List LtD} {ys : List Value} {g : List (List Int)} (h : OwnLt W B v hs) (h' : OwnSS W B' y ys g) (b : Nat) (hb : v.ownBlock = some b) : y.ownBlock ≠ some b := rowsApart h h'.row (by decide) b hb
/-- The blocks of a flood that marks go into. -/
def InF (l : Value) (xs ys zs : List Value) (b : Nat) : Prop := InSS xs b ∨ InSS ys b ∨ InSS zs b ∨ l.ownBlock = some b
theorem OwnF.inLt {W : World} {B : Nat} {x y z l : Value} {xs ys zs : List Value} {f : FD} (h : OwnF W B x y z l xs ys zs f) (b : Nat) (hb : InF l xs ys zs b) : B ≤ b ∧ b < W.heap.size := by
  rcases hb with hb | hb | hb | hb
  · exact h.lk.inLt b hb
  · exact h.kn.inLt b hb
  · exact h.ow.inLt b hb
  · exact World.ownsRow.lt h.ln b hb
/-- What is nowhere a flood's marks go into stays. -/
theorem OwnF.turned {P : Nat → Prop} {W W' : World} {B : Nat} {x y z l : Value} {xs ys zs : List Value} {f : FD} (h : OwnF W B x y z l xs ys zs f) (ht : Turned P W W') (hn : ∀ b, P b → ¬ (B ≤ b ∧ b < W.heap.size)) : OwnF W' B x y z l xs ys zs f :=
  ⟨h.lk.turned ht (fun b hb hp => hn b hp (World.ownsRow.lt h.lk.row b hb)) (fun b hb hp => hn b hp (h.lk.inLt b hb)),
   h.kn.turned ht (fun b hb hp => hn b hp (World.ownsRow.lt h.kn.row b hb)) (fun b hb hp => hn b hp (h.kn.inLt b hb)),
   h.ow.turned ht (fun b hb hp => hn b hp (World.ownsRow.lt h.ow.row b hb)) (fun b hb hp => hn b hp (h.ow.inLt b hb)),
   rowTurned h.ln ht (fun b hb hp => hn b hp (World.ownsRow.lt h.ln b hb)), h.a01, h.a02, h.a12⟩
def k1F (f : FD) (k : Nat) : Nat := k + sumL f.lk f.lk.length
def k2F (f : FD) (k : Nat) : Nat := k1F f k + sumL f.kn f.kn.length
def k3F (f : FD) (k : Nat) : Nat := k2F f k + sumL f.ow f.ow.length
def endF (f : FD) (k : Nat) : Nat := k3F f k + 5 * f.ln.length
/-- A flood with marks from k on. -/
def markF (f : FD) (k : Nat) : FD := ⟨markL k f.lk, markL (k1F f k) f.kn, markL (k2F f k) f.ow, marksLt (k3F f k) f.ln.length⟩

set_option maxRecDepth 100000 in
set_option maxHeartbeats 4000000 in
theorem markFlood_any (W : World) (B : Nat) (x y z l : Value) (xs ys zs : List Value) (f : FD) (k0 : Nat) (h : OwnF W B x y z l xs ys zs f) (hf : FitF f) (hk : k0 ≤ 1000000) :
    Calls Try.prog 13 #[.agg #[x, y, z, l], .int .i64 (k0 : Int)] W fun e W' => e = .returned (.int .i64 (endF f k0 : Int)) ∧ OwnF W' B x y z l xs ys zs (markF f k0) ∧ Turned (InF l xs ys zs) W W' := by
  have HF : Hid (FitF f) := hf
  obtain ⟨a0, c0, rfl⟩ := h.lk.shape
  obtain ⟨a1, c1, rfl⟩ := h.kn.shape
  obtain ⟨a2, c2, rfl⟩ := h.ow.shape
  obtain ⟨a3, c3, rfl⟩ := h.ln.shape
  have hb0 : Below W.heap.size W (W.alloc (.cells #[.slice a0 f.lk.length c0, .slice a1 f.kn.length c1, .slice a2 f.ow.length c2, .slice a3 f.ln.length c3] 31)) := (Below.refl _ W).alloc (Nat.le_refl _) _
  have H0 : Hid (OwnF (W.alloc (.cells #[.slice a0 f.lk.length c0, .slice a1 f.kn.length c1, .slice a2 f.ow.length c2, .slice a3 f.ln.length c3] 31)) B (.slice a0 f.lk.length c0) (.slice a1 f.kn.length c1) (.slice a2 f.ow.length c2) (.slice a3 f.ln.length c3) xs ys zs f) := h.below hb0
  have HX0 : Hid (Bx4 (W.alloc (.cells #[.slice a0 f.lk.length c0, .slice a1 f.kn.length c1, .slice a2 f.ow.length c2, .slice a3 f.ln.length c3] 31)) W.heap.size (.slice a0 f.lk.length c0) (.slice a1 f.kn.length c1) (.slice a2 f.ow.length c2) (.slice a3 f.ln.length c3)) := Bx4.new _ _ _ _ _ _
  have HT0 : Hid (Turned (InF (.slice a3 f.ln.length c3) xs ys zs) W (W.alloc (.cells #[.slice a0 f.lk.length c0, .slice a1 f.kn.length c1, .slice a2 f.ow.length c2, .slice a3 f.ln.length c3] 31))) := Turned.ofBelow hb0
  have HN : Hid (¬ InF (.slice a3 f.ln.length c3) xs ys zs W.heap.size) := fun hb => by have := (h.inLt _ hb).2; omega
  have b1 : k1F f k0 ≤ 3000000 := by unfold k1F; have := hf.lks f.lk.length (Nat.le_refl _); omega
  have b2 : k2F f k0 ≤ 5000000 := by unfold k2F; have := hf.kns f.kn.length (Nat.le_refl _); omega
  have b3 : k3F f k0 ≤ 7000000 := by unfold k3F; have := hf.ows f.ow.length (Nat.le_refl _); omega
  have E1 : Hid (k0 + sumL f.lk f.lk.length = k1F f k0) := rfl
  have E2 : Hid (k1F f k0 + sumL f.kn f.kn.length = k2F f k0) := rfl
  have E3 : Hid (k2F f k0 + sumL f.ow f.ow.length = k3F f k0) := rfl
  have E4 : Hid (k3F f k0 + 5 * f.ln.length = endF f k0) := rfl
  have EM : Hid (markF f k0 = ⟨markL k0 f.lk, markL (k1F f k0) f.kn, markL (k2F f k0) f.ow, marksLt (k3F f k0) f.ln.length⟩) := rfl
  rw [EM.out]
  clear h hf hb0 EM
  generalize endF f k0 = ke at *
  generalize k1F f k0 = k1 at *
  generalize k2F f k0 = k2 at *
  generalize k3F f k0 = k3 at *
  go_enter Try.func13, Try.ntmps13
  go_wp2_with fail
  generalize W.alloc (.cells #[.slice a0 f.lk.length c0, .slice a1 f.kn.length c1, .slice a2 f.ow.length c2, .slice a3 f.ln.length c3] 31) = w0 at *
  refine (markSSc_any w0 B _ xs f.lk k0 H0.out.lk (by have := HF.out.lk; omega) (fun k hk => by have := HF.out.lks k hk; omega) (by omega)).mono ?_
  rintro e w1 ⟨rfl, ht1, ho1⟩
  rw [E1.out]
  have H1 : Hid (OwnF w1 B (.slice a0 f.lk.length c0) (.slice a1 f.kn.length c1) (.slice a2 f.ow.length c2) (.slice a3 f.ln.length c3) xs ys zs ⟨(markL k0 f.lk), f.kn, f.ow, f.ln⟩) := ⟨ho1, H0.out.kn.turned ht1 (fun b hb => outer_inner H0.out.kn H0.out.lk b hb) (fun b hb hp => H0.out.a01.2 b hp hb), H0.out.ow.turned ht1 (fun b hb => outer_inner H0.out.ow H0.out.lk b hb) (fun b hb hp => H0.out.a02.2 b hp hb), rowTurned H0.out.ln ht1 (fun b hb => lts_inner H0.out.ln H0.out.lk b hb), H0.out.a01, H0.out.a02, H0.out.a12⟩
  have HT1 : Hid (Turned (InF (.slice a3 f.ln.length c3) xs ys zs) W w1) := HT0.out.trans (ht1.mono fun b hb => .inl hb)
  have HX1 : Hid (Bx4 w1 W.heap.size (.slice a0 f.lk.length c0) (.slice a1 f.kn.length c1) (.slice a2 f.ow.length c2) (.slice a3 f.ln.length c3)) := HX0.out.same (ht1.block _ HX0.out.lt (fun hb => HN.out (.inl hb))) ht1.size
  clear ht1 ho1 H0 HT0 HX0
  obtain ⟨-, q0, q1, q2, q3, -⟩ := HX1.out
  go_wp2_with fail
  refine (markSSc_any w1 B _ ys f.kn k1 H1.out.kn (by have := HF.out.kn; omega) (fun k hk => by have := HF.out.kns k hk; omega) (by omega)).mono ?_
  rintro e w2 ⟨rfl, ht2, ho2⟩
  rw [E2.out]
  have H2 : Hid (OwnF w2 B (.slice a0 f.lk.length c0) (.slice a1 f.kn.length c1) (.slice a2 f.ow.length c2) (.slice a3 f.ln.length c3) xs ys zs ⟨(markL k0 f.lk), (markL k1 f.kn), f.ow, f.ln⟩) := ⟨H1.out.lk.turned ht2 (fun b hb => outer_inner H1.out.lk H1.out.kn b hb) (fun b hb hp => H1.out.a01.2 b hb hp), ho2, H1.out.ow.turned ht2 (fun b hb => outer_inner H1.out.ow H1.out.kn b hb) (fun b hb hp => H1.out.a12.2 b hp hb), rowTurned H1.out.ln ht2 (fun b hb => lts_inner H1.out.ln H1.out.kn b hb), H1.out.a01, H1.out.a02, H1.out.a12⟩
  have HT2 : Hid (Turned (InF (.slice a3 f.ln.length c3) xs ys zs) W w2) := HT1.out.trans (ht2.mono fun b hb => .inr (.inl hb))
  have HX2 : Hid (Bx4 w2 W.heap.size (.slice a0 f.lk.length c0) (.slice a1 f.kn.length c1) (.slice a2 f.ow.length c2) (.slice a3 f.ln.length c3)) := HX1.out.same (ht2.block _ HX1.out.lt (fun hb => HN.out (.inr (.inl hb)))) ht2.size
  clear q0 q1 q2 q3
  clear ht2 ho2 H1 HT1 HX1
  obtain ⟨-, q0, q1, q2, q3, -⟩ := HX2.out
  go_wp2_with fail
  refine (markSSc_any w2 B _ zs f.ow k2 H2.out.ow (by have := HF.out.ow; omega) (fun k hk => by have := HF.out.ows k hk; omega) (by omega)).mono ?_
  rintro e w3 ⟨rfl, ht3, ho3⟩
  rw [E3.out]
  have H3 : Hid (OwnF w3 B (.slice a0 f.lk.length c0) (.slice a1 f.kn.length c1) (.slice a2 f.ow.length c2) (.slice a3 f.ln.length c3) xs ys zs ⟨(markL k0 f.lk), (markL k1 f.kn), (markL k2 f.ow), f.ln⟩) := ⟨H2.out.lk.turned ht3 (fun b hb => outer_inner H2.out.lk H2.out.ow b hb) (fun b hb hp => H2.out.a02.2 b hb hp), H2.out.kn.turned ht3 (fun b hb => outer_inner H2.out.kn H2.out.ow b hb) (fun b hb hp => H2.out.a12.2 b hb hp), ho3, rowTurned H2.out.ln ht3 (fun b hb => lts_inner H2.out.ln H2.out.ow b hb), H2.out.a01, H2.out.a02, H2.out.a12⟩
  have HT3 : Hid (Turned (InF (.slice a3 f.ln.length c3) xs ys zs) W w3) := HT2.out.trans (ht3.mono fun b hb => .inr (.inr (.inl hb)))
  have HX3 : Hid (Bx4 w3 W.heap.size (.slice a0 f.lk.length c0) (.slice a1 f.kn.length c1) (.slice a2 f.ow.length c2) (.slice a3 f.ln.length c3)) := HX2.out.same (ht3.block _ HX2.out.lt (fun hb => HN.out (.inr (.inr (.inl hb))))) ht3.size
  clear q0 q1 q2 q3
  clear ht3 ho3 H2 HT2 HX2
  obtain ⟨-, q0, q1, q2, q3, -⟩ := HX3.out
  go_wp2_with fail
  refine (markLts_any w3 B _ k3 f.ln H3.out.ln (by have := HF.out.ln; omega) (by omega)).mono ?_
  rintro e w4 ⟨rfl, ho4, hz4, hg4⟩
  rw [E4.out]
  have ht4 : Turned (InF (.slice a3 f.ln.length c3) xs ys zs) w3 w4 := (Turned.refl _ w3).grown hg4 (fun k hk => .inr (.inr (.inr hk)))
  have H4 : Hid (OwnF w4 B (.slice a0 f.lk.length c0) (.slice a1 f.kn.length c1) (.slice a2 f.ow.length c2) (.slice a3 f.ln.length c3) xs ys zs ⟨markL k0 f.lk, markL k1 f.kn, markL k2 f.ow, marksLt k3 f.ln.length⟩) :=
    ⟨H3.out.lk.same (fun k hk => hg4.block k (World.ownsRow.lt H3.out.lk.row k hk).2 (fun e => lts_outer H3.out.ln H3.out.lk k e.symm hk)) (fun k hk => hg4.block k (H3.out.lk.inLt k hk).2 (fun e => lts_inner H3.out.ln H3.out.lk k e.symm hk)),
     H3.out.kn.same (fun k hk => hg4.block k (World.ownsRow.lt H3.out.kn.row k hk).2 (fun e => lts_outer H3.out.ln H3.out.kn k e.symm hk)) (fun k hk => hg4.block k (H3.out.kn.inLt k hk).2 (fun e => lts_inner H3.out.ln H3.out.kn k e.symm hk)),
     H3.out.ow.same (fun k hk => hg4.block k (World.ownsRow.lt H3.out.ow.row k hk).2 (fun e => lts_outer H3.out.ln H3.out.ow k e.symm hk)) (fun k hk => hg4.block k (H3.out.ow.inLt k hk).2 (fun e => lts_inner H3.out.ln H3.out.ow k e.symm hk)),
     ho4, H3.out.a01, H3.out.a02, H3.out.a12⟩
  have HT4 : Hid (Turned (InF (.slice a3 f.ln.length c3) xs ys zs) W w4) := HT3.out.trans ht4
  clear ho4 hz4 hg4 ht4 H3 HT3 HX3 q0 q1 q2 q3
  go_wp2
  go_ret
  exact ⟨rfl, H4.out, HT4.out⟩

set_option maxRecDepth 100000 in
set_option maxHeartbeats 2000000 in
theorem heldFlood_yes (W : World) (x y z l : Value) (f : FD) (k0 : Nat) (h : ReadsF W x y z l (markF f k0)) (hf : FitF f) (hk : k0 ≤ 1000000) :
    Calls Try.prog 14 #[.agg #[x, y, z, l], .int .i64 (k0 : Int)] W fun e W' => e = .returned (.int .i64 (endF f k0 : Int)) ∧ Below W.heap.size W W' := by
  have HF : Hid (FitF f) := hf
  have HR : Hid (∀ W1, Below W.heap.size W W1 → ReadsF W1 x y z l (markF f k0)) := fun W1 hb => h.below hb
  have HB : Hid (Below W.heap.size W (W.alloc (.cells #[x, y, z, l] 31))) := (Below.refl _ W).alloc (Nat.le_refl _) _
  have b1 : k1F f k0 ≤ 3000000 := by unfold k1F; have := hf.lks f.lk.length (Nat.le_refl _); omega
  have b2 : k2F f k0 ≤ 5000000 := by unfold k2F; have := hf.kns f.kn.length (Nat.le_refl _); omega
  have b3 : k3F f k0 ≤ 7000000 := by unfold k3F; have := hf.ows f.ow.length (Nat.le_refl _); omega
  have C1 : Hid (Calls Try.prog 35 #[x, .int .i64 (k0 : Int)] (W.alloc (.cells #[x, y, z, l] 31)) fun e W' => e = .returned (.int .i64 ((k1F f k0 : Nat) : Int)) ∧ W' = W.alloc (.cells #[x, y, z, l] 31)) := heldSS_yes _ x f.lk k0 (HR.out _ HB.out).lk (by have := HF.out.lk; omega) HF.out.lki (fun k hk => by have := HF.out.lks k hk; omega) (by omega)
  have C2 : Hid (Calls Try.prog 35 #[y, .int .i64 ((k1F f k0 : Nat) : Int)] (W.alloc (.cells #[x, y, z, l] 31)) fun e W' => e = .returned (.int .i64 ((k2F f k0 : Nat) : Int)) ∧ W' = W.alloc (.cells #[x, y, z, l] 31)) := heldSS_yes _ y f.kn (k1F f k0) (HR.out _ HB.out).kn (by have := HF.out.kn; omega) HF.out.kni (fun k hk => by have := HF.out.kns k hk; omega) (by omega)
  have C3 : Hid (Calls Try.prog 35 #[z, .int .i64 ((k2F f k0 : Nat) : Int)] (W.alloc (.cells #[x, y, z, l] 31)) fun e W' => e = .returned (.int .i64 ((k3F f k0 : Nat) : Int)) ∧ W' = W.alloc (.cells #[x, y, z, l] 31)) := heldSS_yes _ z f.ow (k2F f k0) (HR.out _ HB.out).ow (by have := HF.out.ow; omega) HF.out.owi (fun k hk => by have := HF.out.ows k hk; omega) (by omega)
  have C4 : Hid (Calls Try.prog 36 #[l, .int .i64 ((k3F f k0 : Nat) : Int)] (W.alloc (.cells #[x, y, z, l] 31)) fun e W' => e = .returned (.int .i64 ((endF f k0 : Nat) : Int)) ∧ W' = W.alloc (.cells #[x, y, z, l] 31)) := heldLts_yes _ l (k3F f k0) f.ln.length (HR.out _ HB.out).ln (by have := HF.out.ln; omega) (by omega)
  obtain ⟨a0, c0, rfl⟩ := h.lk.shape
  obtain ⟨a1, c1, rfl⟩ := h.kn.shape
  obtain ⟨a2, c2, rfl⟩ := h.ow.shape
  obtain ⟨a3, c3, rfl⟩ := h.ln.shape
  have n4 : ¬ ((endF f k0 : Nat) : Int) < 0 := by omega
  have n1 : ¬ ((k1F f k0 : Nat) : Int) < 0 := by omega
  have n2 : ¬ ((k2F f k0 : Nat) : Int) < 0 := by omega
  have n3 : ¬ ((k3F f k0 : Nat) : Int) < 0 := by omega
  clear h hf HR HF
  generalize endF f k0 = ke at *
  generalize k1F f k0 = k1 at *
  generalize k2F f k0 = k2 at *
  generalize k3F f k0 = k3 at *
  generalize (markF f k0).lk.length = m0 at *
  generalize (markF f k0).kn.length = m1 at *
  generalize (markF f k0).ow.length = m2 at *
  generalize (markF f k0).ln.length = m3 at *
  go_enter Try.func14, Try.ntmps14
  go_wp2_with fail
  refine C1.out.mono ?_
  rintro e w1 ⟨rfl, rfl⟩
  go_wp2_with fail
  refine C2.out.mono ?_
  rintro e w1 ⟨rfl, rfl⟩
  go_wp2_with fail
  refine C3.out.mono ?_
  rintro e w1 ⟨rfl, rfl⟩
  go_wp2_with fail
  refine C4.out.mono ?_
  rintro e w1 ⟨rfl, rfl⟩
  go_wp2
  go_ret
  exact ⟨rfl, HB.out⟩
end Go.Proofs.Ytkkamigaolejiax
