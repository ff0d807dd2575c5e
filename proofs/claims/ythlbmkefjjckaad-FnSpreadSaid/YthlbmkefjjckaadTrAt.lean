/-
  'treeAt', 'TreeAt' of the program.
-/
import Derived.Test.YthlbmkefjjckaadGrFirst
namespace Go.Proofs.Ythlbmkefjjckaad
open Go.RowKit
set_option linter.unusedVariables false

/-- The first of numbers, or none. -/
def head0 (zs : List Int) : Int := zs.headD (-1)
theorem head0_app (zs : List Int) : (zs ++ [-1])[0]? = some (head0 zs) := by
  cases zs <;> rfl
/-- The parents of the first k spots in a tree of shortest ways from a root. -/
def treeT (n : Nat) (l : List EdD) (r : Int) (k : Nat) : List Int := (iota k).map fun s => head0 (hopsD l (fars n l r) s)
def treeD (n : Nat) (l : List EdD) (r : Int) : List Int := treeT n l r n
theorem treeT_len (n : Nat) (l : List EdD) (r : Int) (k : Nat) : (treeT n l r k).length = k := by simp [treeT, iota_len]
theorem treeT_succ (n : Nat) (l : List EdD) (r : Int) (k : Nat) : treeT n l r (k + 1) = treeT n l r k ++ [head0 (hopsD l (fars n l r) k)] := by
  unfold treeT
  rw [iota_succ, List.map_append]
  rfl
theorem own_low {W W' : World} {B C : Nat} {v : Value} {zs : List Int} (h : Own W B v zs) (hv : ∀ k, v.ownBlock = some k → k < C) (hb : Below C W W') : Own W' B v zs := rowSame h fun k hk => hb.block k (hv k hk)

set_option maxRecDepth 100000 in
set_option maxHeartbeats 4000000 in
theorem treeAt_any (W : World) (v : Value) (l : List EdD) (N : Nat) (r : Int) (h : ReadsEd W v l) (hf : FitEd N l) (hn : 1 ≤ N ∧ N ≤ 12) (hl : l.length ≤ 40) (hr : 0 ≤ r ∧ r < N) :
    Calls Try.prog 38 #[.int .i64 (N : Int), v, .int .i64 r] W fun e W' => ∃ v', e = .returned v' ∧ Own W' W.heap.size v' (treeD N l r) ∧ Below W.heap.size W W' := by
  have HRD : Hid (∀ w', Since W.heap.size W w' → ReadsEd w' v l) := fun w' hs => h.below hs.1
  have HS0 : Hid (Since W.heap.size W W) := Since.start W
  obtain ⟨a1, c1, rfl⟩ := h.shape
  have CF : Hid (Calls Try.prog 49 #[.int .i64 (N : Int), .slice a1 l.length c1, .int .i64 r] W fun e w2 => ∃ u, e = .returned u ∧ Own w2 W.heap.size u (fars N l r) ∧ Below W.heap.size W w2) := farsFrom_any W _ l N r h hf hn hl hr
  have hN2 : N ≤ 12 := hn.2
  have CC : Hid (∀ (w' : World) (k : Nat) (u : Value), Since W.heap.size W w' → Own w' W.heap.size u (fars N l r) → k < N → Calls Try.prog 65 #[.func (.func 93) #[] #[.pointer (some ⟨w'.heap.size, 0, none⟩), .pointer (some ⟨w'.heap.size + 1 + 1, 0, none⟩), .pointer (some ⟨w'.heap.size + 1, 0, none⟩)]] (hopsW w' (.slice a1 l.length c1) u (k : Int)) fun e w2 => ∃ v', e = .returned v' ∧ Own w2 w'.heap.size v' (hopsD l (fars N l r) (k : Int)) ∧ Below w'.heap.size w' w2) := fun w' k u hs ho hk =>
    colHops_any w' _ u l (fars N l r) N (k : Int) W.heap.size (HRD.out w' hs) ho hn fars_len hf (by omega) hl (fun i h0 hi => ⟨fars_nonneg hf hr i h0 hi, fars_far hr i h0 hi⟩)
  have HHL : Hid (∀ k : Int, (hopsD l (fars N l r) k).length ≤ 40) := fun k => Nat.le_trans (hopsD_len l (fars N l r) k) hl
  have HTS : Hid (∀ k : Nat, treeT N l r (k + 1) = treeT N l r k ++ [head0 (hopsD l (fars N l r) (k : Int))]) := treeT_succ N l r
  have HFL : Hid ((fars N l r).length = N) := fars_len
  clear h hf hn hr
  go_enter Try.func38, Try.ntmps38
  go_wp2_with fail
  refine CF.out.mono ?_
  rintro e w1 ⟨u1, rfl, ho1, hb1⟩
  obtain ⟨fg, fc, rfl, HF1⟩ : ∃ fg fc, u1 = .slice fg (fars N l r).length fc ∧ Hid (Own w1 W.heap.size (.slice fg (fars N l r).length fc) (fars N l r) ∧ Since W.heap.size W w1) := by
    obtain ⟨g, c, rfl⟩ := ho1.shape
    exact ⟨g, c, rfl, ho1, HS0.out.step hb1⟩
  rw [HFL.out] at *
  clear ho1 hb1 CF
  go_wp2
  go_loopw [8, 16] (fun u t wr => ∃ k : Nat, k ≤ N ∧ t = .int .i64 k ∧ Hid (Own wr w1.heap.size u (treeT N l r k) ∧ Since w1.heap.size w1 wr)) (fun _ t _ => N - (intOf t).toNat)
  case atStart => exact ⟨0, Nat.zero_le _, rfl, Own.nil _ _, Since.start _⟩
  case round =>
    obtain ⟨k, hk, rfl, HK⟩ := hrel
    obtain ⟨a2, c2, rfl⟩ := HK.out.1.shape
    rw [treeT_len] at *
    by_cases hlt : k < N
    · have hlt' : (k : Int) < (N : Int) := by omega
      have HZ : Hid (treeT N l r (k + 1) = treeT N l r k ++ [head0 (hopsD l (fars N l r) (k : Int))]) := HTS.out k
      have HOF : Hid (Own wr W.heap.size (.slice fg N fc) (fars N l r) ∧ Since W.heap.size W wr) := ⟨HF1.out.1.below HK.out.2.1, HF1.out.2.step HK.out.2.1⟩
      have HHK : Hid ((hopsD l (fars N l r) (k : Int)).length ≤ 40) := HHL.out k
      have hgl : (treeT N l r k).length = k := treeT_len ..
      go_wp2_with fail
      refine (hopsOn_any wr (.slice a1 l.length c1) (.slice fg N fc) ⟨_, _, _, rfl⟩ ⟨_, _, _, rfl⟩ (k : Int)).mono ?_
      rintro e w3 ⟨rfl, hw3⟩
      have hw3' : w3 = hopsW wr (.slice a1 l.length c1) (.slice fg N fc) (k : Int) := hw3
      rw [hw3']
      clear hw3 hw3'
      go_wp2_with fail
      refine (CC.out wr k _ HOF.out.2 HOF.out.1 hlt).mono ?_
      rintro e w4 ⟨u4, rfl, ho4, hb4⟩
      obtain ⟨a5, c5, rfl⟩ := ho4.shape
      have HO4 : Hid (Own w4 wr.heap.size (.slice a5 (hopsD l (fars N l r) (k : Int)).length c5) (hopsD l (fars N l r) (k : Int))) := ho4
      have HP4 : Hid (Own w4 w1.heap.size (.slice a2 k c2) (treeT N l r k) ∧ Since w1.heap.size w1 w4 ∧ wr.heap.size ≤ w4.heap.size ∧ w1.heap.size ≤ wr.heap.size ∧ (∀ b, (Value.slice a2 k c2).ownBlock = some b → b < wr.heap.size)) := ⟨HK.out.1.below hb4, HK.out.2.step hb4, hb4.size, HK.out.2.2, fun b hb => (World.ownsRow.lt HK.out.1 b hb).2⟩
      clear ho4 hb4 HK HOF CC
      generalize hopsD l (fars N l r) (k : Int) = hs at *
      generalize treeT N l r k = z0 at *
      have HC1 : Hid (∀ ty, ∃ v' w', (Builtin.append_ #[26, 26] ty #[.slice a5 hs.length c5, .slice (some ⟨w4.heap.size, 0, none⟩) 1 1]).run Try.prog (w4.alloc (.cells #[.int .i64 (-1)] 3)) = .ok v' w' ∧ Grown (w4.alloc (.cells #[.int .i64 (-1)] 3)) wr.heap.size 3 1 (.slice a5 hs.length c5) (hs ++ [-1]).length ((hs ++ [-1]).map (Value.int .i64)) v' w') := fun ty =>
        run_app1 _ _ _ hs (HO4.out.below ((Below.refl _ w4).alloc (Nat.le_refl _) _)) w4.heap.size 1 (-1) (new_cell _ _ _) (by have := HHK.out; omega) (by have := HP4.out.2.2.1; simp; omega) ty
      have HQ1 : Hid (∀ v5 w5, Grown (w4.alloc (.cells #[.int .i64 (-1)] 3)) wr.heap.size 3 1 (.slice a5 hs.length c5) (hs ++ [-1]).length ((hs ++ [-1]).map (Value.int .i64)) v5 w5 → ∃ g5 d5, v5 = .slice (some ⟨g5, 0, none⟩) (hs.length + 1) d5 ∧ w5.cell? ⟨g5, 0, none⟩ = some (.int .i64 (head0 hs)) ∧ Hid (Own w5 w1.heap.size (.slice a2 k c2) z0 ∧ Since w1.heap.size w1 w5)) := fun v5 w5 hg5 => by
        have ho := hg5.own
        obtain ⟨p1, p2, p4, p5, p6⟩ := HP4.out
        have hb45 : Below wr.heap.size w4 w5 := (((Below.refl _ w4).alloc (Nat.le_refl _) _).mono p4).trans hg5.below
        have hsz : w4.heap.size ≤ w5.heap.size := hb45.size
        rcases (show Own w5 wr.heap.size v5 (hs ++ [-1]) from ho).2 with ⟨-, h0⟩ | ⟨g, cap, cur, hv, -⟩
        · simp at h0
        · have ho' : Own w5 wr.heap.size (.slice (some ⟨g, 0, none⟩) (hs ++ [-1]).length cap) (hs ++ [-1]) := by rw [← hv]; exact ho
          have hcell := own_cellG ho' rfl 0 (by simp)
          have hh : (hs ++ [-1])[0]'(by simp) = head0 hs := by cases hs <;> rfl
          rw [hh] at hcell
          refine ⟨g, cap, by rw [hv, List.length_append]; rfl, hcell, own_low p1 p6 hb45, ⟨p2.1.trans (hb45.mono p5), Nat.le_trans p2.2 hsz⟩⟩
      have hpos : (0 : Int) < ((hs.length + 1 : Nat) : Int) := by omega
      have hpos' : (0 : Int) < (hs.length : Int) + 1 := by omega
      have HQ2 : Hid (∀ w5, Own w5 w1.heap.size (.slice a2 k c2) z0 ∧ Since w1.heap.size w1 w5 → (∀ ty, ∃ v' w', (Builtin.append_ #[26, 26] ty #[.slice a2 k c2, .slice (some ⟨w5.heap.size, 0, none⟩) 1 1]).run Try.prog (w5.alloc (.cells #[.int .i64 (head0 hs)] 3)) = .ok v' w' ∧ Grown (w5.alloc (.cells #[.int .i64 (head0 hs)] 3)) w1.heap.size 3 1 (.slice a2 k c2) (z0 ++ [head0 hs]).length ((z0 ++ [head0 hs]).map (Value.int .i64)) v' w')) := fun w5 hp ty => by
        have hp1 := hp.1
        rw [← hgl] at hp1 ⊢
        exact run_app1 _ _ _ z0 (hp1.below ((Below.refl _ w5).alloc (Nat.le_refl _) _)) w5.heap.size 1 (head0 hs) (new_cell _ _ _) (by omega) (by have := hp.2.2; simp; omega) ty
      have HQ3 : Hid (∀ w5 v6 w6, Own w5 w1.heap.size (.slice a2 k c2) z0 ∧ Since w1.heap.size w1 w5 → Grown (w5.alloc (.cells #[.int .i64 (head0 hs)] 3)) w1.heap.size 3 1 (.slice a2 k c2) (z0 ++ [head0 hs]).length ((z0 ++ [head0 hs]).map (Value.int .i64)) v6 w6 → Own w6 w1.heap.size v6 (treeT N l r (k + 1)) ∧ Since w1.heap.size w1 w6) := fun w5 v6 w6 hp hg => by
        have S1 := hp.2.step ((Below.refl _ w5).alloc (Nat.le_refl _) (.cells #[.int .i64 (head0 hs)] 3))
        exact ⟨by rw [HZ.out]; exact hg.own, S1.1.trans hg.below, Nat.le_trans S1.2 hg.size⟩
      clear HO4 HP4 HHL HTS HRD HHK HZ hgl
      generalize head0 hs = z at *
      go_wp2_with (first
        | (at_builtin; refine list_app (by rfl) (.tmp 25) (.tmp 26) 26 (by rfl) (.slice a5 hs.length c5) (.slice (some ⟨w4.heap.size, 0, none⟩) 1 1) (by rfl) (by rfl) _ HC1.out ?_; intro v5 w5 hg5; obtain ⟨g5, d5, rfl, hcell, HP5⟩ := HQ1.out v5 w5 hg5; clear hg5 HQ1 HC1; have HC2 := HQ2.out w5 HP5.out)
        | (clear hcell; at_builtin; refine list_app (by rfl) (.tmp 24) (.tmp 30) 26 (by rfl) (.slice a2 k c2) (.slice (some ⟨w5.heap.size, 0, none⟩) 1 1) (by rfl) (by rfl) _ HC2 ?_; intro v6 w6 hg6; have HF : Hid (Own w6 w1.heap.size v6 (treeT N l r (k + 1)) ∧ Since w1.heap.size w1 w6) := HQ3.out w5 v6 w6 HP5.out hg6; clear hg6))
      go_roundw
      case rel => exact ⟨k + 1, by omega, by go_num, HF.out⟩
      case measure => simp [intOf]; omega
    · have e : k = N := by omega
      subst e
      have HE : Hid (Own wr W.heap.size (.slice a2 k c2) (treeD k l r) ∧ Below W.heap.size W wr) := ⟨HK.out.1.mono HF1.out.2.2, (HF1.out.2.step HK.out.2.1).1⟩
      clear HK CC HRD
      go_wp2
      go_ret
      exact ⟨_, rfl, HE.out.1, HE.out.2⟩

def treeOut (n : Int) (l : List EdD) (a : Int) : List Int := if farsOk n l a then treeD n.toNat l a else []
theorem treeOut_len (n : Int) (l : List EdD) (a : Int) : (treeOut n l a).length ≤ 4194304 := by
  unfold treeOut
  split
  · next h =>
    have := (goodEd_true (farsOk_true h).1).1
    unfold treeD
    rw [treeT_len]
    omega
  · simp

set_option maxRecDepth 100000 in
set_option maxHeartbeats 2000000 in
theorem implTreeAt_any (W : World) (v : Value) (n : Int) (l : List EdD) (a : Int) (h : ReadsEd W v l) (hl : l.length ≤ 2097152) :
    Calls Try.prog 6 #[.int .i64 n, v, .int .i64 a] W (NearPost W (treeOut n l a) (farsOk n l a)) := by
  have CG : Hid (Calls Try.prog 37 #[.int .i64 n, v, .int .i64 a, .int .i64 a] W fun e W' => e = .returned (.bool (farsOk n l a)) ∧ Below W.heap.size W W') := by
    have := areEnds_any W v n l a a h hl
    rw [ends_fars] at this
    exact this
  have HRD : Hid (∀ w', Since W.heap.size W w' → ReadsEd w' v l) := fun w' hs => h.below hs.1
  have HS0 : Hid (Since W.heap.size W W) := Since.start W
  obtain ⟨a1, c1, rfl⟩ := h.shape
  have HD : Hid (treeOut n l a = if farsOk n l a then treeD n.toNat l a else []) := rfl
  have HT : Hid (farsOk n l a = true → goodEd n l = true ∧ 0 ≤ a ∧ a < n) := farsOk_true
  generalize treeOut n l a = out at *
  generalize farsOk n l a = ok at *
  clear h
  cases ok with
  | false =>
    have HF : Hid (out = []) := HD.out
    clear HD HT
    go_enter Try.func6, Try.ntmps6
    go_wp2_with fail
    refine CG.out.mono ?_
    rintro e w1 ⟨rfl, hb1⟩
    have HB1 : Hid (Below W.heap.size W w1) := hb1
    clear hb1
    go_wp2
    refine bodyPost_ret (results_tmp2 rfl _ _ _) rfl ?_
    exact NearPost.zero rfl HF.out HB1.out
  | true =>
    have HF : Hid (out = treeD n.toNat l a) := HD.out
    obtain ⟨hg, ha⟩ := HT.out rfl
    have CN : Hid (∀ w', Since W.heap.size W w' → Calls Try.prog 38 #[.int .i64 n, .slice a1 l.length c1, .int .i64 a] w' fun e w2 => ∃ u, e = .returned u ∧ Own w2 w'.heap.size u (treeD n.toNat l a) ∧ Below w'.heap.size w' w2) := fun w' hs => by
      obtain ⟨g1, g2, g3, g4⟩ := goodEd_true hg
      have en : ((n.toNat : Nat) : Int) = n := by omega
      have t := treeAt_any w' _ l n.toNat a (HRD.out w' hs) (by rw [en]; exact g3) (by omega) g2 (by omega)
      rw [en] at t
      exact t
    clear HD HT hg ha
    go_enter Try.func6, Try.ntmps6
    go_wp2_with fail
    refine CG.out.mono ?_
    rintro e w1 ⟨rfl, hb1⟩
    have HS1 : Hid (Since W.heap.size W w1) := HS0.out.step hb1
    clear hb1
    go_wp2_with fail
    refine (CN.out _ HS1.out).mono ?_
    rintro e w2 ⟨u2, rfl, ho2, hb2⟩
    have HO2 : Hid (Own w2 W.heap.size u2 (treeD n.toNat l a)) := ho2.mono HS1.out.2
    have HS2 : Hid (Since W.heap.size W w2) := HS1.out.step hb2
    clear ho2 hb2
    go_wp2
    refine bodyPost_ret (results_tmp2 rfl _ _ _) rfl ?_
    exact NearPost.mk rfl HF.out HO2.out HS2.out.1
end Go.Proofs.Ythlbmkefjjckaad
