/-
  Proved: for every number of nodes and every list of lists of numbers, 'NewFlood' of the program at commit d1b657bec838 answers as the model's 'NewFlood', every field and the bool; it writes into no argument (the lists that it was handed read as before), keeps nothing of them (marks that are written into them change no answer), and its answer is memory of its own (marks that are written into it stay there behind another call). No condition.
-/
import Derived.Test.YtkkamigaolejiawPlain
import Derived.Test.YtkkamigaolejiawFlNewP
import Derived.Test.YtkkamigaolejiawFlNewS
import Derived.Test.YtkkamigaolejiawFlTo
import Derived.Test.YtkkamigaolejiawFlMarkF
import Derived.Test.YtkkamigaolejiawRowOfSS
namespace Go.Proofs.Ytkkamigaolejiaw.fnExactNewFlood
open Go.ChangeShapes Go.WideShapes Go.ChangeAt Go.RowKit
open Go.ChangeMaps (open_string shut_string)
set_option linter.unusedVariables false

theorem ownF_turned2 {P : Nat → Prop} {W W' W0 : World} {B B0 : Nat} {x y z l : Value} {xs ys zs : List Value} {f f0 : FD} (h : OwnF W B x y z l xs ys zs f) (h0 : OwnF W0 B0 x y z l xs ys zs f0) (ht : Turned P W W') (hn : ∀ b, P b → W0.heap.size ≤ b) : OwnF W' B x y z l xs ys zs f :=
  ⟨h.lk.turned ht (fun b hb hp => by have := hn b hp; have := (World.ownsRow.lt h0.lk.row b hb).2; omega) (fun b hb hp => by have := hn b hp; have := (h0.lk.inLt b hb).2; omega),
   h.kn.turned ht (fun b hb hp => by have := hn b hp; have := (World.ownsRow.lt h0.kn.row b hb).2; omega) (fun b hb hp => by have := hn b hp; have := (h0.kn.inLt b hb).2; omega),
   h.ow.turned ht (fun b hb hp => by have := hn b hp; have := (World.ownsRow.lt h0.ow.row b hb).2; omega) (fun b hb hp => by have := hn b hp; have := (h0.ow.inLt b hb).2; omega),
   rowTurned h.ln ht (fun b hb hp => by have := hn b hp; have := (World.ownsRow.lt h0.ln b hb).2; omega), h.a01, h.a02, h.a12⟩
theorem newR_fit (n : Int) (lks : List (List Int)) (h1 : lks.length ≤ 1048576) (h2 : ∀ j (hj : j < lks.length), lks[j].length ≤ 1048576) (h3 : ∀ k, k ≤ lks.length → sumL lks k ≤ 1048576) : FitF (newR n lks) := by
  have zl : ∀ many long : Nat, many ≤ 36 → long ≤ 6 → (zerosL many long).length ≤ 1048576 ∧ (∀ j (hj : j < (zerosL many long).length), (zerosL many long)[j].length ≤ 1048576) ∧ ∀ k, k ≤ (zerosL many long).length → sumL (zerosL many long) k ≤ 1048576 := fun many long hm hl => by
    have hg : ∀ j (hj : j < (zerosL many long).length), (zerosL many long)[j].length = long := fun j hj => by simp [zerosL]
    refine ⟨by rw [zerosL_len]; omega, fun j hj => by rw [hg j hj]; omega, fun k hk => ?_⟩
    have hb : ∀ k, k ≤ (zerosL many long).length → sumL (zerosL many long) k ≤ k * 6 := fun k => by
      induction k with
      | zero => intro _; simp [sumL]
      | succ k ih =>
        intro hk
        rw [sumL_next _ k (by omega), hg k (by omega)]
        have := ih (by omega)
        omega
    have := hb k hk
    rw [zerosL_len] at hk
    omega
  unfold newR
  by_cases hok : newOk n lks = true
  · rw [if_pos hok]
    unfold newOk at hok
    rw [Bool.and_eq_true] at hok
    have hn := of_decide_eq_true hok.1
    have hd : (debtsL n.toNat lks).length ≤ 36 := Nat.le_trans (debtsTo_len n.toNat lks n.toNat) (by have : n.toNat * n.toNat ≤ 6 * 6 := Nat.mul_le_mul (by omega) (by omega); omega)
    obtain ⟨a1, a2, a3⟩ := zl n.toNat n.toNat (by omega) (by omega)
    obtain ⟨b1, b2, b3⟩ := zl (debtsL n.toNat lks).length n.toNat hd (by omega)
    exact ⟨h1, h2, h3, a1, a2, a3, b1, b2, b3, by simp [newF]⟩
  · rw [if_neg hok]
    exact ⟨by simp [noF], fun j hj => absurd hj (Nat.not_lt_zero _), fun k hk => by simp [noF, sumL], by simp [noF], fun j hj => absurd hj (Nat.not_lt_zero _), fun k hk => by simp [noF, sumL], by simp [noF], fun j hj => absurd hj (Nat.not_lt_zero _), fun k hk => by simp [noF, sumL], by simp [noF]⟩

set_option maxRecDepth 100000 in
set_option maxHeartbeats 8000000 in
theorem walk (n : Int) (v : Value) (lks : List (List Int)) (w : World) (_ : (Lit.int .i64 n).wf = true) (h : ReadsSS w v lks) (hm : lks.length ≤ maxLen) (hmi : ∀ j (hj : j < lks.length), lks[j].length ≤ maxLen) :
    Calls Try.prog 7 #[.int .i64 n, v] w fun e w' => e = .returned (.bool true) ∧ Below w.heap.size w w' := by
  have HR : Hid (∀ W1, Since w.heap.size w W1 → ReadsSS W1 v lks) := fun W1 hb => h.below hb.1
  have CZ : Hid (Calls Try.prog 25 #[v, .int .i64 1048576] w fun e W' => e = .returned (.int .i64 (szSS lks 1048576)) ∧ W' = w) := szSS_any w v lks 1048576 h hm hmi (by omega) (by omega)
  have hfit := szSS_fit lks 1048576 (by omega)
  obtain ⟨av, cv, rfl⟩ := h.shape
  clear h hm hmi
  generalize szSS lks 1048576 = sz at *
  by_cases hle : sz < 0
  · clear hfit HR
    go_enter Try.func7, Try.ntmps7
    go_wp2_with fail
    refine CZ.out.mono ?_
    rintro e w1 ⟨rfl, rfl⟩
    go_wp2
    go_ret
    exact ⟨rfl, Below.refl _ _⟩
  · obtain ⟨l1, l2, l3⟩ := hfit hle
    have HL1 : Hid (lks.length ≤ 1048576) := l1
    have HL2 : Hid (∀ j (hj : j < lks.length), lks[j].length ≤ 1048576) := l2
    have HL3 : Hid (∀ k, k ≤ lks.length → sumL lks k ≤ 1048576) := l3
    have HFIT : Hid (FitF (newR n lks)) := newR_fit n lks l1 l2 l3
    have HI : Hid (∀ W u, ReadsSS W u lks → Calls Try.prog 28 #[.int .i64 n, u] W fun e W' => ∃ x y z l, e = .returned (.tuple #[.agg #[x, y, z, l], .bool (newOk n lks)]) ∧ (∃ xs ys zs, OwnF W' W.heap.size x y z l xs ys zs (newR n lks)) ∧ Below W.heap.size W W') := fun W u hu => implNewF_any W u lks n hu HL1.out HL2.out
    have HP : Hid (∀ W u, ReadsSS W u lks → Calls Try.prog 26 #[.int .i64 n, u] W fun e W' => ∃ x y z l, e = .returned (.tuple #[.agg #[x, y, z, l], .bool (newOk n lks)]) ∧ (∃ xs ys zs, OwnF W' W.heap.size x y z l xs ys zs (newR n lks)) ∧ Below W.heap.size W W') := fun W u hu => specNewF_any W u lks n _ rfl hu HL1.out HL2.out
    have HTO : Hid (∀ W, Since w.heap.size w W → Calls Try.prog 27 #[.slice av lks.length cv] W fun e W' => ∃ v', e = .returned v' ∧ HasSS W' W.heap.size v' lks ∧ Below W.heap.size W W') := fun W hs => toSS_any W _ lks (HR.out W hs) (by have := HL1.out; omega) (fun j hj => by have := HL2.out j hj; omega)
    generalize newR n lks = f at *
    generalize newOk n lks = ok at *
    obtain ⟨q, hq⟩ : ∃ q : Int, q = (endF f 1 : Int) := ⟨_, rfl⟩
    have HQ : Hid ((endF f 1 : Int) = q) := hq.symm
    have hq1 : ¬ q < 0 := by omega
    have hqq : (q != q) = false := by simp
    have hoo : (ok != ok) = false := by simp
    obtain ⟨k, hk⟩ : ∃ k : Int, k = ((1 + sumL lks lks.length : Nat) : Int) := ⟨_, rfl⟩
    have HKK : Hid (((1 + sumL lks lks.length : Nat) : Int) = k) := hk.symm
    have hk1 : decide (k < 0) = false := decide_eq_false (by omega)
    clear hq hk l1 l2 l3
    have HS0 : Hid (Since w.heap.size w w) := Since.start w
    go_enter Try.func7, Try.ntmps7
    go_wp2_with fail
    refine CZ.out.mono ?_
    rintro e w0 ⟨rfl, rfl⟩
    go_wp2_with fail
    refine (HTO.out _ HS0.out).mono ?_
    rintro e w1 ⟨v1, rfl, ⟨vs1, ho1⟩, hb1⟩
    obtain ⟨a1, c1, hv1⟩ := ho1.shape
    subst hv1
    have HS1 : Hid (Since _ _ w1) := HS0.out.step hb1
    have HO1 : Hid (ReadsSS w1 (.slice a1 lks.length c1) lks) := ho1.reads
    clear ho1 hb1
    go_wp2_with fail
    refine (HP.out _ _ HO1.out).mono ?_
    rintro e w2 ⟨x2, y2, z2, l2, rfl, ⟨xs2, ys2, zs2, ho2⟩, hb2⟩
    obtain ⟨b20, d20, rfl⟩ := ho2.lk.shape
    obtain ⟨b21, d21, rfl⟩ := ho2.kn.shape
    obtain ⟨b22, d22, rfl⟩ := ho2.ow.shape
    obtain ⟨b23, d23, rfl⟩ := ho2.ln.shape
    have HB2 : Hid (Below w2.heap.size w2 (w2.alloc (.cells #[.slice b20 f.lk.length d20, .slice b21 f.kn.length d21, .slice b22 f.ow.length d22, .slice b23 f.ln.length d23] 51))) := (Below.refl _ w2).alloc (Nat.le_refl _) _
    have HS2 : Hid (Since _ _ (w2.alloc (.cells #[.slice b20 f.lk.length d20, .slice b21 f.kn.length d21, .slice b22 f.ow.length d22, .slice b23 f.ln.length d23] 51))) := (HS1.out.step hb2).step HB2.out
    have HBW : Hid (_ ≤ w2.heap.size) := (HS1.out.step hb2).2
    have HO2 : Hid (OwnF w2 w1.heap.size (.slice b20 f.lk.length d20) (.slice b21 f.kn.length d21) (.slice b22 f.ow.length d22) (.slice b23 f.ln.length d23) xs2 ys2 zs2 f) := ho2
    have HOa : Hid (OwnF (w2.alloc (.cells #[.slice b20 f.lk.length d20, .slice b21 f.kn.length d21, .slice b22 f.ow.length d22, .slice b23 f.ln.length d23] 51)) w1.heap.size (.slice b20 f.lk.length d20) (.slice b21 f.kn.length d21) (.slice b22 f.ow.length d22) (.slice b23 f.ln.length d23) xs2 ys2 zs2 f) := ho2.below HB2.out
    have HXa : Hid (Bx4 (w2.alloc (.cells #[.slice b20 f.lk.length d20, .slice b21 f.kn.length d21, .slice b22 f.ow.length d22, .slice b23 f.ln.length d23] 51)) w2.heap.size (.slice b20 f.lk.length d20) (.slice b21 f.kn.length d21) (.slice b22 f.ow.length d22) (.slice b23 f.ln.length d23)) := Bx4.new _ _ _ _ _ _
    have hsA : (w2.alloc (.cells #[.slice b20 f.lk.length d20, .slice b21 f.kn.length d21, .slice b22 f.ow.length d22, .slice b23 f.ln.length d23] 51)).heap.size = w2.heap.size + 1 := by simp
    clear ho2 hb2 HS1 HO1 HB2
    go_wp2_with fail
    refine (HTO.out _ HS2.out).mono ?_
    rintro e w3 ⟨v3, rfl, ⟨vs3, ho3⟩, hb3⟩
    obtain ⟨a3, c3, hv3⟩ := ho3.shape
    subst hv3
    have HS3 : Hid (Since _ _ w3) := HS2.out.step hb3
    have HO3 : Hid (OwnSS w3 (w2.heap.size + 1) (.slice a3 lks.length c3) vs3 lks) := by have := ho3; rw [hsA] at this; exact this
    have HLT3 : Hid (∀ b, InSS vs3 b → w2.heap.size + 1 ≤ b ∧ b < w3.heap.size) := fun b hb => HO3.out.inLt b hb
    have HOb : Hid (OwnF w3 w1.heap.size (.slice b20 f.lk.length d20) (.slice b21 f.kn.length d21) (.slice b22 f.ow.length d22) (.slice b23 f.ln.length d23) xs2 ys2 zs2 f) := HOa.out.below hb3
    have HXb : Hid (Bx4 w3 w2.heap.size (.slice b20 f.lk.length d20) (.slice b21 f.kn.length d21) (.slice b22 f.ow.length d22) (.slice b23 f.ln.length d23)) := HXa.out.below hb3
    have hs3 : w2.heap.size + 1 ≤ w3.heap.size := by have := hb3.size; omega
    clear ho3 hb3 HS2 HOa HXa hsA
    go_wp2_with fail
    refine (HI.out _ _ HO3.out.reads).mono ?_
    rintro e w4 ⟨x4, y4, z4, l4, rfl, ⟨xs4, ys4, zs4, ho4⟩, hb4⟩
    obtain ⟨b40, d40, rfl⟩ := ho4.lk.shape
    obtain ⟨b41, d41, rfl⟩ := ho4.kn.shape
    obtain ⟨b42, d42, rfl⟩ := ho4.ow.shape
    obtain ⟨b43, d43, rfl⟩ := ho4.ln.shape
    have HB4 : Hid (Below w4.heap.size w4 (w4.alloc (.cells #[.slice b40 f.lk.length d40, .slice b41 f.kn.length d41, .slice b42 f.ow.length d42, .slice b43 f.ln.length d43] 51))) := (Below.refl _ w4).alloc (Nat.le_refl _) _
    have HS4 : Hid (Since _ _ (w4.alloc (.cells #[.slice b40 f.lk.length d40, .slice b41 f.kn.length d41, .slice b42 f.ow.length d42, .slice b43 f.ln.length d43] 51))) := (HS3.out.step hb4).step HB4.out
    have HLT4 : Hid (∀ b, InF (.slice b43 f.ln.length d43) xs4 ys4 zs4 b → w3.heap.size ≤ b ∧ b < w4.heap.size) := fun b hb => ho4.inLt b hb
    have HOg : Hid (OwnF (w4.alloc (.cells #[.slice b40 f.lk.length d40, .slice b41 f.kn.length d41, .slice b42 f.ow.length d42, .slice b43 f.ln.length d43] 51)) w3.heap.size (.slice b40 f.lk.length d40) (.slice b41 f.kn.length d41) (.slice b42 f.ow.length d42) (.slice b43 f.ln.length d43) xs4 ys4 zs4 f) := ho4.below HB4.out
    have HXg : Hid (Bx4 (w4.alloc (.cells #[.slice b40 f.lk.length d40, .slice b41 f.kn.length d41, .slice b42 f.ow.length d42, .slice b43 f.ln.length d43] 51)) w4.heap.size (.slice b40 f.lk.length d40) (.slice b41 f.kn.length d41) (.slice b42 f.ow.length d42) (.slice b43 f.ln.length d43)) := Bx4.new _ _ _ _ _ _
    have HOc : Hid (OwnF (w4.alloc (.cells #[.slice b40 f.lk.length d40, .slice b41 f.kn.length d41, .slice b42 f.ow.length d42, .slice b43 f.ln.length d43] 51)) w1.heap.size (.slice b20 f.lk.length d20) (.slice b21 f.kn.length d21) (.slice b22 f.ow.length d22) (.slice b23 f.ln.length d23) xs2 ys2 zs2 f) := (HOb.out.below hb4).below HB4.out
    have HXc : Hid (Bx4 (w4.alloc (.cells #[.slice b40 f.lk.length d40, .slice b41 f.kn.length d41, .slice b42 f.ow.length d42, .slice b43 f.ln.length d43] 51)) w2.heap.size (.slice b20 f.lk.length d20) (.slice b21 f.kn.length d21) (.slice b22 f.ow.length d22) (.slice b23 f.ln.length d23)) := (HXb.out.below hb4).below HB4.out
    have HO4 : Hid (OwnSS (w4.alloc (.cells #[.slice b40 f.lk.length d40, .slice b41 f.kn.length d41, .slice b42 f.ow.length d42, .slice b43 f.ln.length d43] 51)) (w2.heap.size + 1) (.slice a3 lks.length c3) vs3 lks) := (HO3.out.below hb4).below HB4.out
    have hs4 : w3.heap.size ≤ w4.heap.size := hb4.size
    clear ho4 hb4 HS3 HOb HXb HO3 HB4
    obtain ⟨m1, q10, q11, q12, q13, -⟩ := HXc.out
    obtain ⟨m2, q20, q21, q22, q23, -⟩ := HXg.out
    go_wp2_with fail
    refine (eqFlood_same _ _ _ _ _ _ _ _ _ f HOg.out.reads HOc.out.reads HFIT.out).mono ?_
    rintro e w5 ⟨rfl, hb5⟩
    have HS5 : Hid (Since _ _ w5) := HS4.out.step hb5
    have HOg5 : Hid (OwnF w5 w3.heap.size (.slice b40 f.lk.length d40) (.slice b41 f.kn.length d41) (.slice b42 f.ow.length d42) (.slice b43 f.ln.length d43) xs4 ys4 zs4 f) := HOg.out.below hb5
    have HXg5 : Hid (Bx4 w5 w4.heap.size (.slice b40 f.lk.length d40) (.slice b41 f.kn.length d41) (.slice b42 f.ow.length d42) (.slice b43 f.ln.length d43)) := HXg.out.below hb5
    have HOc5 : Hid (OwnF w5 w1.heap.size (.slice b20 f.lk.length d20) (.slice b21 f.kn.length d21) (.slice b22 f.ow.length d22) (.slice b23 f.ln.length d23) xs2 ys2 zs2 f) := HOc.out.below hb5
    have HXc5 : Hid (Bx4 w5 w2.heap.size (.slice b20 f.lk.length d20) (.slice b21 f.kn.length d21) (.slice b22 f.ow.length d22) (.slice b23 f.ln.length d23)) := HXc.out.below hb5
    have HO5 : Hid (OwnSS w5 (w2.heap.size + 1) (.slice a3 lks.length c3) vs3 lks) := HO4.out.below hb5
    clear hb5 HS4 HOg HXg HOc HXc HO4 m1 q10 q11 q12 q13 m2 q20 q21 q22 q23
    go_wp2_with fail
    refine (HTO.out _ HS5.out).mono ?_
    rintro e w6 ⟨v6, rfl, ⟨vs6, ho6⟩, hb6⟩
    obtain ⟨a6, c6, hv6⟩ := ho6.shape
    subst hv6
    have HS6 : Hid (Since _ _ w6) := HS5.out.step hb6
    have HOr6 : Hid (ReadsSS w6 (.slice a6 lks.length c6) lks) := ho6.reads
    have HOg6 : Hid (OwnF w6 w3.heap.size (.slice b40 f.lk.length d40) (.slice b41 f.kn.length d41) (.slice b42 f.ow.length d42) (.slice b43 f.ln.length d43) xs4 ys4 zs4 f) := HOg5.out.below hb6
    have HXg6 : Hid (Bx4 w6 w4.heap.size (.slice b40 f.lk.length d40) (.slice b41 f.kn.length d41) (.slice b42 f.ow.length d42) (.slice b43 f.ln.length d43)) := HXg5.out.below hb6
    have HOc6 : Hid (OwnF w6 w1.heap.size (.slice b20 f.lk.length d20) (.slice b21 f.kn.length d21) (.slice b22 f.ow.length d22) (.slice b23 f.ln.length d23) xs2 ys2 zs2 f) := HOc5.out.below hb6
    have HXc6 : Hid (Bx4 w6 w2.heap.size (.slice b20 f.lk.length d20) (.slice b21 f.kn.length d21) (.slice b22 f.ow.length d22) (.slice b23 f.ln.length d23)) := HXc5.out.below hb6
    have HO6 : Hid (OwnSS w6 (w2.heap.size + 1) (.slice a3 lks.length c3) vs3 lks) := HO5.out.below hb6
    clear ho6 hb6 HS5 HOg5 HXg5 HOc5 HXc5 HO5
    go_wp2_with fail
    refine (eqSS_same w6 _ _ lks HO6.out.reads HOr6.out (by have := HL1.out; omega) (fun j hj => by have := HL2.out j hj; omega)).mono ?_
    rintro e w7 ⟨rfl, hb7⟩
    have HS7 : Hid (Since _ _ w7) := HS6.out.step hb7
    have HOg7 : Hid (OwnF w7 w3.heap.size (.slice b40 f.lk.length d40) (.slice b41 f.kn.length d41) (.slice b42 f.ow.length d42) (.slice b43 f.ln.length d43) xs4 ys4 zs4 f) := HOg6.out.below hb7
    have HXg7 : Hid (Bx4 w7 w4.heap.size (.slice b40 f.lk.length d40) (.slice b41 f.kn.length d41) (.slice b42 f.ow.length d42) (.slice b43 f.ln.length d43)) := HXg6.out.below hb7
    have HOc7 : Hid (OwnF w7 w1.heap.size (.slice b20 f.lk.length d20) (.slice b21 f.kn.length d21) (.slice b22 f.ow.length d22) (.slice b23 f.ln.length d23) xs2 ys2 zs2 f) := HOc6.out.below hb7
    have HXc7 : Hid (Bx4 w7 w2.heap.size (.slice b20 f.lk.length d20) (.slice b21 f.kn.length d21) (.slice b22 f.ow.length d22) (.slice b23 f.ln.length d23)) := HXc6.out.below hb7
    have HO7 : Hid (OwnSS w7 (w2.heap.size + 1) (.slice a3 lks.length c3) vs3 lks) := HO6.out.below hb7
    clear hb7 HS6 HOg6 HXg6 HOc6 HXc6 HO6 HOr6
    have CMK : Hid (Calls Try.prog 31 #[.slice a3 lks.length c3, .int .i64 1] w7 fun e W' => e = .returned (.int .i64 k) ∧ Turned (InSS vs3) w7 W') := (markSS_any w7 _ _ vs3 lks 1 HO7.out (by have := HL1.out; omega) (fun k hk => by have := HL3.out k hk; omega) (by omega)).mono fun e W' ⟨he, ht⟩ => ⟨by rw [he, HKK.out], ht⟩
    go_wp2_with fail
    refine CMK.out.mono ?_
    rintro e w8 ⟨rfl, ht8⟩
    have HS8 : Hid (Since _ _ w8) := HS7.out.turned ht8 (fun b hb => by have := (HLT3.out b hb).1; have := HBW.out; omega)
    have HOg8 : Hid (OwnF w8 w3.heap.size (.slice b40 f.lk.length d40) (.slice b41 f.kn.length d41) (.slice b42 f.ow.length d42) (.slice b43 f.ln.length d43) xs4 ys4 zs4 f) := HOg7.out.turned ht8 (fun b hb hh => by have := (HLT3.out b hb).2; omega)
    have HXg8 : Hid (Bx4 w8 w4.heap.size (.slice b40 f.lk.length d40) (.slice b41 f.kn.length d41) (.slice b42 f.ow.length d42) (.slice b43 f.ln.length d43)) := HXg7.out.same (ht8.block _ HXg7.out.lt (fun hb => by have := (HLT3.out _ hb).2; omega)) ht8.size
    have HOc8 : Hid (OwnF w8 w1.heap.size (.slice b20 f.lk.length d20) (.slice b21 f.kn.length d21) (.slice b22 f.ow.length d22) (.slice b23 f.ln.length d23) xs2 ys2 zs2 f) := ownF_turned2 HOc7.out HO2.out ht8 (fun b hb => by have := (HLT3.out b hb).1; omega)
    have HXc8 : Hid (Bx4 w8 w2.heap.size (.slice b20 f.lk.length d20) (.slice b21 f.kn.length d21) (.slice b22 f.ow.length d22) (.slice b23 f.ln.length d23)) := HXc7.out.same (ht8.block _ HXc7.out.lt (fun hb => by have := (HLT3.out _ hb).1; omega)) ht8.size
    clear ht8 HS7 HOg7 HXg7 HOc7 HXc7 HO7 CMK
    obtain ⟨m1, q10, q11, q12, q13, -⟩ := HXc8.out
    obtain ⟨m2, q20, q21, q22, q23, -⟩ := HXg8.out
    go_wp2_with fail
    refine (eqFlood_same _ _ _ _ _ _ _ _ _ f HOg8.out.reads HOc8.out.reads HFIT.out).mono ?_
    rintro e w9 ⟨rfl, hb9⟩
    have HS9 : Hid (Since _ _ w9) := HS8.out.step hb9
    have HOg9 : Hid (OwnF w9 w3.heap.size (.slice b40 f.lk.length d40) (.slice b41 f.kn.length d41) (.slice b42 f.ow.length d42) (.slice b43 f.ln.length d43) xs4 ys4 zs4 f) := HOg8.out.below hb9
    have HXg9 : Hid (Bx4 w9 w4.heap.size (.slice b40 f.lk.length d40) (.slice b41 f.kn.length d41) (.slice b42 f.ow.length d42) (.slice b43 f.ln.length d43)) := HXg8.out.below hb9
    have HOc9 : Hid (OwnF w9 w1.heap.size (.slice b20 f.lk.length d20) (.slice b21 f.kn.length d21) (.slice b22 f.ow.length d22) (.slice b23 f.ln.length d23) xs2 ys2 zs2 f) := HOc8.out.below hb9
    have HXc9 : Hid (Bx4 w9 w2.heap.size (.slice b20 f.lk.length d20) (.slice b21 f.kn.length d21) (.slice b22 f.ow.length d22) (.slice b23 f.ln.length d23)) := HXc8.out.below hb9
    clear hb9 HS8 HOg8 HXg8 HOc8 HXc8 m1 q10 q11 q12 q13 m2 q20 q21 q22 q23
    obtain ⟨m2, q20, q21, q22, q23, -⟩ := HXg9.out
    have CMF : Hid (Calls Try.prog 32 #[.agg #[.slice b40 f.lk.length d40, .slice b41 f.kn.length d41, .slice b42 f.ow.length d42, .slice b43 f.ln.length d43], .int .i64 1] w9 fun e W' => e = .returned (.int .i64 q) ∧ OwnF W' w3.heap.size (.slice b40 f.lk.length d40) (.slice b41 f.kn.length d41) (.slice b42 f.ow.length d42) (.slice b43 f.ln.length d43) xs4 ys4 zs4 (markF f 1) ∧ Turned (InF (.slice b43 f.ln.length d43) xs4 ys4 zs4) w9 W') := (markFlood_any w9 _ _ _ _ _ xs4 ys4 zs4 f 1 HOg9.out HFIT.out (by omega)).mono fun e W' ⟨he, ht⟩ => ⟨by rw [he, HQ.out], ht⟩
    go_wp2_with fail
    refine CMF.out.mono ?_
    rintro e w10 ⟨rfl, ho10, ht10⟩
    have HS10 : Hid (Since _ _ w10) := HS9.out.turned ht10 (fun b hb => by have := (HLT4.out b hb).1; have := HBW.out; omega)
    have HOg10 : Hid (OwnF w10 w3.heap.size (.slice b40 f.lk.length d40) (.slice b41 f.kn.length d41) (.slice b42 f.ow.length d42) (.slice b43 f.ln.length d43) xs4 ys4 zs4 (markF f 1)) := ho10
    have HXg10 : Hid (Bx4 w10 w4.heap.size (.slice b40 f.lk.length d40) (.slice b41 f.kn.length d41) (.slice b42 f.ow.length d42) (.slice b43 f.ln.length d43)) := HXg9.out.same (ht10.block _ HXg9.out.lt (fun hb => by have := (HLT4.out _ hb).2; omega)) ht10.size
    have HOc10 : Hid (OwnF w10 w1.heap.size (.slice b20 f.lk.length d20) (.slice b21 f.kn.length d21) (.slice b22 f.ow.length d22) (.slice b23 f.ln.length d23) xs2 ys2 zs2 f) := ownF_turned2 HOc9.out HO2.out ht10 (fun b hb => by have := (HLT4.out b hb).1; omega)
    have HXc10 : Hid (Bx4 w10 w2.heap.size (.slice b20 f.lk.length d20) (.slice b21 f.kn.length d21) (.slice b22 f.ow.length d22) (.slice b23 f.ln.length d23)) := HXc9.out.same (ht10.block _ HXc9.out.lt (fun hb => by have := (HLT4.out _ hb).1; omega)) ht10.size
    clear ho10 ht10 HS9 HOg9 HXg9 HOc9 HXc9 m2 q20 q21 q22 q23 CMF
    obtain ⟨m2, q20, q21, q22, q23, -⟩ := HXg10.out
    have CHF : Hid (∀ W', ReadsF W' (.slice b40 f.lk.length d40) (.slice b41 f.kn.length d41) (.slice b42 f.ow.length d42) (.slice b43 f.ln.length d43) (markF f 1) → Calls Try.prog 33 #[.agg #[.slice b40 f.lk.length d40, .slice b41 f.kn.length d41, .slice b42 f.ow.length d42, .slice b43 f.ln.length d43], .int .i64 1] W' fun e W'' => e = .returned (.int .i64 q) ∧ Below W'.heap.size W' W'') := fun W' hr => (heldFlood_yes W' _ _ _ _ f 1 hr HFIT.out (by omega)).mono fun e W'' ⟨he, ht⟩ => ⟨by rw [he, HQ.out], ht⟩
    go_wp2_with fail
    refine (CHF.out _ HOg10.out.reads).mono ?_
    rintro e w11 ⟨rfl, hb11⟩
    have HS11 : Hid (Since _ _ w11) := HS10.out.step hb11
    have HOg11 : Hid (OwnF w11 w3.heap.size (.slice b40 f.lk.length d40) (.slice b41 f.kn.length d41) (.slice b42 f.ow.length d42) (.slice b43 f.ln.length d43) xs4 ys4 zs4 (markF f 1)) := HOg10.out.below hb11
    have HXg11 : Hid (Bx4 w11 w4.heap.size (.slice b40 f.lk.length d40) (.slice b41 f.kn.length d41) (.slice b42 f.ow.length d42) (.slice b43 f.ln.length d43)) := HXg10.out.below hb11
    have HOc11 : Hid (OwnF w11 w1.heap.size (.slice b20 f.lk.length d20) (.slice b21 f.kn.length d21) (.slice b22 f.ow.length d22) (.slice b23 f.ln.length d23) xs2 ys2 zs2 f) := HOc10.out.below hb11
    have HXc11 : Hid (Bx4 w11 w2.heap.size (.slice b20 f.lk.length d20) (.slice b21 f.kn.length d21) (.slice b22 f.ow.length d22) (.slice b23 f.ln.length d23)) := HXc10.out.below hb11
    clear hb11 HS10 HOg10 HXg10 HOc10 HXc10 m2 q20 q21 q22 q23
    go_wp2_with fail
    refine (HTO.out _ HS11.out).mono ?_
    rintro e w12 ⟨v12, rfl, ⟨vs12, ho12⟩, hb12⟩
    obtain ⟨a12, c12, hv12⟩ := ho12.shape
    subst hv12
    have HS12 : Hid (Since _ _ w12) := HS11.out.step hb12
    have HOr12 : Hid (ReadsSS w12 (.slice a12 lks.length c12) lks) := ho12.reads
    have HOg12 : Hid (OwnF w12 w3.heap.size (.slice b40 f.lk.length d40) (.slice b41 f.kn.length d41) (.slice b42 f.ow.length d42) (.slice b43 f.ln.length d43) xs4 ys4 zs4 (markF f 1)) := HOg11.out.below hb12
    have HXg12 : Hid (Bx4 w12 w4.heap.size (.slice b40 f.lk.length d40) (.slice b41 f.kn.length d41) (.slice b42 f.ow.length d42) (.slice b43 f.ln.length d43)) := HXg11.out.below hb12
    have HOc12 : Hid (OwnF w12 w1.heap.size (.slice b20 f.lk.length d20) (.slice b21 f.kn.length d21) (.slice b22 f.ow.length d22) (.slice b23 f.ln.length d23) xs2 ys2 zs2 f) := HOc11.out.below hb12
    have HXc12 : Hid (Bx4 w12 w2.heap.size (.slice b20 f.lk.length d20) (.slice b21 f.kn.length d21) (.slice b22 f.ow.length d22) (.slice b23 f.ln.length d23)) := HXc11.out.below hb12
    clear ho12 hb12 HS11 HOg11 HXg11 HOc11 HXc11
    go_wp2_with fail
    refine (HI.out _ _ HOr12.out).mono ?_
    rintro e w13 ⟨x13, y13, z13, l13, rfl, ⟨xs13, ys13, zs13, ho13⟩, hb13⟩
    obtain ⟨b130, d130, rfl⟩ := ho13.lk.shape
    obtain ⟨b131, d131, rfl⟩ := ho13.kn.shape
    obtain ⟨b132, d132, rfl⟩ := ho13.ow.shape
    obtain ⟨b133, d133, rfl⟩ := ho13.ln.shape
    have HB13 : Hid (Below w13.heap.size w13 (w13.alloc (.cells #[.slice b130 f.lk.length d130, .slice b131 f.kn.length d131, .slice b132 f.ow.length d132, .slice b133 f.ln.length d133] 51))) := (Below.refl _ w13).alloc (Nat.le_refl _) _
    have HS13 : Hid (Since _ _ (w13.alloc (.cells #[.slice b130 f.lk.length d130, .slice b131 f.kn.length d131, .slice b132 f.ow.length d132, .slice b133 f.ln.length d133] 51))) := (HS12.out.step hb13).step HB13.out
    have HOh13 : Hid (ReadsF (w13.alloc (.cells #[.slice b130 f.lk.length d130, .slice b131 f.kn.length d131, .slice b132 f.ow.length d132, .slice b133 f.ln.length d133] 51)) (.slice b130 f.lk.length d130) (.slice b131 f.kn.length d131) (.slice b132 f.ow.length d132) (.slice b133 f.ln.length d133) f) := ho13.reads.below HB13.out
    have HXh13 : Hid (Bx4 (w13.alloc (.cells #[.slice b130 f.lk.length d130, .slice b131 f.kn.length d131, .slice b132 f.ow.length d132, .slice b133 f.ln.length d133] 51)) w13.heap.size (.slice b130 f.lk.length d130) (.slice b131 f.kn.length d131) (.slice b132 f.ow.length d132) (.slice b133 f.ln.length d133)) := Bx4.new _ _ _ _ _ _
    have HOg13 : Hid (OwnF (w13.alloc (.cells #[.slice b130 f.lk.length d130, .slice b131 f.kn.length d131, .slice b132 f.ow.length d132, .slice b133 f.ln.length d133] 51)) w3.heap.size (.slice b40 f.lk.length d40) (.slice b41 f.kn.length d41) (.slice b42 f.ow.length d42) (.slice b43 f.ln.length d43) xs4 ys4 zs4 (markF f 1)) := (HOg12.out.below hb13).below HB13.out
    have HXg13 : Hid (Bx4 (w13.alloc (.cells #[.slice b130 f.lk.length d130, .slice b131 f.kn.length d131, .slice b132 f.ow.length d132, .slice b133 f.ln.length d133] 51)) w4.heap.size (.slice b40 f.lk.length d40) (.slice b41 f.kn.length d41) (.slice b42 f.ow.length d42) (.slice b43 f.ln.length d43)) := (HXg12.out.below hb13).below HB13.out
    have HOc13 : Hid (OwnF (w13.alloc (.cells #[.slice b130 f.lk.length d130, .slice b131 f.kn.length d131, .slice b132 f.ow.length d132, .slice b133 f.ln.length d133] 51)) w1.heap.size (.slice b20 f.lk.length d20) (.slice b21 f.kn.length d21) (.slice b22 f.ow.length d22) (.slice b23 f.ln.length d23) xs2 ys2 zs2 f) := (HOc12.out.below hb13).below HB13.out
    have HXc13 : Hid (Bx4 (w13.alloc (.cells #[.slice b130 f.lk.length d130, .slice b131 f.kn.length d131, .slice b132 f.ow.length d132, .slice b133 f.ln.length d133] 51)) w2.heap.size (.slice b20 f.lk.length d20) (.slice b21 f.kn.length d21) (.slice b22 f.ow.length d22) (.slice b23 f.ln.length d23)) := (HXc12.out.below hb13).below HB13.out
    clear ho13 hb13 HS12 HOg12 HXg12 HOc12 HXc12 HOr12 HB13
    obtain ⟨m1, q10, q11, q12, q13, -⟩ := HXc13.out
    obtain ⟨m2, q20, q21, q22, q23, -⟩ := HXh13.out
    go_wp2_with fail
    refine (eqFlood_same _ _ _ _ _ _ _ _ _ f HOh13.out HOc13.out.reads HFIT.out).mono ?_
    rintro e w14 ⟨rfl, hb14⟩
    have HS14 : Hid (Since _ _ w14) := HS13.out.step hb14
    have HOg14 : Hid (ReadsF w14 (.slice b40 f.lk.length d40) (.slice b41 f.kn.length d41) (.slice b42 f.ow.length d42) (.slice b43 f.ln.length d43) (markF f 1)) := (HOg13.out.below hb14).reads
    have HXg14 : Hid (Bx4 w14 w4.heap.size (.slice b40 f.lk.length d40) (.slice b41 f.kn.length d41) (.slice b42 f.ow.length d42) (.slice b43 f.ln.length d43)) := HXg13.out.below hb14
    clear hb14 HS13 HOg13 HXg13 HOc13 HXc13 HOh13 HXh13 m1 q10 q11 q12 q13 m2 q20 q21 q22 q23
    obtain ⟨m2, q20, q21, q22, q23, -⟩ := HXg14.out
    go_wp2_with fail
    refine (CHF.out _ HOg14.out).mono ?_
    rintro e w15 ⟨rfl, hb15⟩
    have HS15 : Hid (Since _ _ w15) := HS14.out.step hb15
    clear hb15 m2 q20 q21 q22 q23
    go_wp2
    go_ret
    exact ⟨rfl, HS15.out.1⟩

set_option maxRecDepth 100000 in
theorem contract (H : Type) (enc : TypeId × Value → H) (W : World) (base : Nat) (args : Array Value) (ds gs : List (DataW H)) (before : List MemPlace)
    (hval : ∀ (j : Nat) t v, Try.f7.params[j]? = some t → args[j]? = some v → Value.okWide Try.prog W .any base t v)
    (hW : DataW.Whole enc Try.prog Try.f7.params.toList Rows.fnExactNewFloodSpec.vars false W args.toList ds gs before) :
    Calls Try.prog 7 args W fun e W' => ∃ v, e = .returned v ∧ Rows.fnExactNewFloodSpec.post enc Try.prog Try.f7 false true false false W args v W' := by
  have hW' := hW
  obtain ⟨p, q, hA0, hV0, rfl, hfz, hnd⟩ := hW
  have hA : DataW.TrodAll enc Try.prog W 0 (fun _ => true) true Try.f7.params.toList args.toList ds p := hA0
  rw [Try.params7] at hA hval
  obtain ⟨v0, vs0, d0, ds0, p0, q0, hargs, rfl, rfl, h0, r0⟩ := trodAll_cons hA
  obtain ⟨v1, vs1, d1, ds1, p1, q1, rfl, rfl, rfl, h1, r1⟩ := trodAll_cons r0
  obtain ⟨rfl, rfl, rfl⟩ := trodAll_nil r1
  obtain rfl : args = #[v0, v1] := by cases args; simp_all
  obtain ⟨rfl, rfl⟩ := trodVars_none hV0
  obtain ⟨a0, rfl, rfl, rfl, w0⟩ := open_int Try.underlying3 (hval 0 3 v0 rfl rfl) h0
  obtain ⟨a1, len1, cap1, rfl⟩ := okWide_slice Try.underlying47 (hval 1 47 v1 rfl rfl)
  have k1 := h1
  have lt1 : ∀ x ∈ p1, x.block < W.heap.size := by obtain ⟨m, hm⟩ := k1; exact DataW.trod_lt m _ _ _ hm
  obtain ⟨ps1, hr1, hz1, hy1⟩ := SS_of k1
  clear hA0 hV0
  refine (walk a0 _ ps1 W w0 hr1 hz1 hy1).mono fun e W' ⟨he, bel⟩ => ?_
  subst he
  exact ⟨_, rfl, _, _, _, [], _, [], hW', trodAll_mk1 (shut_bool Try.underlying4 _), (trodAll_cons_mk (shut_int Try.underlying3 w0) (trodAll_cons_mk (Below.trod laidOut (by kernel_rfl) (of_decide_eq_true (by kernel_rfl)) k1 bel lt1) trodAll_mk0)), rfl, bel.frame _, fun h => by cases h⟩

set_option maxRecDepth 100000 in
theorem lifted (os : Os) (started : os.Started) (H : Type) (enc : TypeId × Value → H) :
    ReturnsInHanded {} Try.checked os 7 .any (Rows.fnExactNewFloodSpec.pre6 enc Try.prog Try.f7 Rows.fnExactNewFloodRow.domain false) (Rows.fnExactNewFloodSpec.post enc Try.prog Try.f7 false true false false) := by
  refine returnsInHanded_of_change (C := Try.checked) own started (by kernel_rfl) Try.func7
    (ChangeSpec.witness6 (enc := enc) (C := Try.checked) false ⟨#[], #[.int .i64 0, .slice none 0 0], []⟩ 8 (by kernel_rfl) (by kernel_rfl) (by kernel_rfl) (by kernel_rfl)) ?_
  intro W base args ds gs before hval hW _ _
  exact contract H enc W base args ds gs before hval hW

/-- The statement. -/
theorem said : Rows.FnExactNewFloodSaid :=
  OpenClaim.holds_of_wide 7 Try.f7 rfl rfl rfl rfl rfl rfl rfl ⟨rfl, rfl, rfl, rfl, rfl⟩ rfl rfl rfl rfl rfl (by kernel_rfl) Try.func7 (by kernel_rfl)
    (of_decide_eq_true (by kernel_rfl)) (by unfold Func.isWrapper; first | (rw [if_pos (by decide +kernel)]; kernel_rfl) | (rw [if_neg (by decide +kernel)]; exact ⟨rfl, rfl⟩))
    (fun os started H enc _ => lifted os started H enc)
#print axioms said
end Go.Proofs.Ytkkamigaolejiaw.fnExactNewFlood
