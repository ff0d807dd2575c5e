/-
  'GoodParents' of the program.
-/
import Derived.Test.YthlbmkefjjckaadTrJoin
namespace Go.Proofs.Ythlbmkefjjckaad
open Go.RowKit
set_option linter.unusedVariables false
attribute [local go_sem] Oper.semAt_some wide_fn run_storeF

theorem resGood (tmps : Array Value) (W : World) (b2 : Nat) (q : Bool) (h2 : tmps[2]?.getD undef = .pointer (some ⟨b2, 0, none⟩)) (c2 : W.cell? ⟨b2, 0, none⟩ = some (.bool q)) :
    (results Try.f10 tmps).run Try.prog W = .ok (.bool q) W := by
  simp [results, Try.f10, go_sem, h2, c2]
theorem goodU_len (p : List Int) (h : ¬ (1 ≤ p.length ∧ p.length ≤ 12)) : goodU p = false := by
  unfold goodU
  rw [decide_eq_false h, Bool.false_and]
/-- What lies in the cells when so many steps have been joined. -/
def GoodI (ps : List Int) (W : World) (b3 b g cap n : Nat) (v : Value) (pre : List (Int × Int)) (w : World) : Prop :=
  Boxed w W.heap.size 26 v ∧ Boxed w (W.heap.size + 1) 4 (.bool false) ∧ Boxed w b3 66 (.func (.func 72) #[] #[.pointer (some ⟨b, 0, none⟩)]) ∧ (∃ gs, jnP n (iota n) pre = some gs ∧ JoinS w (W.heap.size + 2) b g cap n gs) ∧ Since W.heap.size W w
theorem fin1 {W w : World} {b2 : Nat} {x : Value} {q : Bool} (h2 : Boxed w b2 4 x) (hb : Below W.heap.size W w) (l2 : W.heap.size ≤ b2) :
    (w.setCell ⟨b2, 0, none⟩ (.bool q)).cell? ⟨b2, 0, none⟩ = some (.bool q) ∧ Below W.heap.size W (w.setCell ⟨b2, 0, none⟩ (.bool q)) :=
  ⟨(h2.set (.bool q)).cell, hb.setCell (p := ⟨b2, 0, none⟩) l2 _⟩

theorem stepsU_mem {p : List Int} {k : Nat} {pre : List (Int × Int)} {x : Int × Int} (h : pre ++ [x] <+: stepsU p k) : 0 ≤ x.1 ∧ x.1 < k := by
  have : x ∈ stepsU p k := h.subset (by simp)
  unfold stepsU at this
  obtain ⟨i, hi, rfl⟩ := List.mem_map.1 this
  exact (mem_iota k i).1 (List.mem_filter.1 hi).1

set_option maxRecDepth 100000 in
set_option maxHeartbeats 8000000 in
theorem implGoodParents_any (W : World) (B : Nat) (u : Value) (ps : List Int) (hu : Own W B u ps) (hl : ps.length ≤ 1048576) :
    Calls Try.prog 10 #[u] W fun e W' => e = .returned (.bool (goodU ps)) ∧ Below W.heap.size W W' := by
  have HUD : Hid (∀ w', Since W.heap.size W w' → Own w' B u ps) := fun w' hs => hu.below hs.1
  obtain ⟨aw, cw, rfl⟩ := hu.shape
  have HLN : Hid (¬ (1 ≤ ps.length ∧ ps.length ≤ 12) → goodU ps = false) := goodU_len ps
  have HJN : Hid ((1 ≤ ps.length ∧ ps.length ≤ 12) → goodU ps = (jnP ps.length (iota ps.length) (stepsU ps ps.length)).isSome) := goodU_jn ps
  generalize goodU ps = ok at *
  clear hu
  obtain ⟨W2, hW2⟩ : ∃ W2, W2 = (W.alloc (.cells #[.slice aw ps.length cw] 26)).alloc (.cells #[.bool false] 4) := ⟨_, rfl⟩
  have HS2 : Hid (Since W.heap.size W W2) := by
    show Since _ _ _
    rw [hW2]
    exact ⟨((Below.refl _ W).alloc (Nat.le_refl _) _).alloc (by simp) _, by simp; omega⟩
  have HB2 : Hid (Boxed W2 W.heap.size 26 (.slice aw ps.length cw) ∧ Boxed W2 (W.heap.size + 1) 4 (.bool false)) := by
    show _ ∧ _
    rw [hW2]
    refine ⟨(Boxed.new W _ _).alloc _, ?_⟩
    have := Boxed.new (W.alloc (.cells #[.slice aw ps.length cw] 26)) 4 (.bool false)
    rwa [World.size_alloc] at this
  have HW2 : Hid ((W.alloc (.cells #[.slice aw ps.length cw] 26)).alloc (.cells #[.bool false] 4) = W2) := hW2.symm
  clear hW2
  refine callsIn_wide (n := 9) |>.1 ?_
  refine callsIn_of_wp_marks Try.func10 rfl trivial ?_ rfl
  simp only [Try.ntmps10, List.size_toArray, List.length_cons, List.length_nil, Nat.reduceAdd, Nat.reduceSub, Array.replicate_succ, Array.replicate_zero, List.push_toArray, List.append_toArray, List.nil_append, List.cons_append]
  have hcl0 : ((W.alloc (.cells #[.slice aw ps.length cw] 26)).alloc (.cells #[.bool false] 4)).cell? ⟨W.heap.size, 0, none⟩ = some (.slice aw ps.length cw) := by rw [HW2.out]; exact HB2.out.1.cell
  by_cases hl1 : ps.length < 1
  · have HF : Hid (ok = false) := HLN.out (by omega)
    have q1 : decide ((ps.length : Int) < 1) = true := by simp; omega
    clear HUD HLN HJN hl1
    gi_wp2
    rw [HW2.out]
    exact ⟨_, resGood _ _ _ _ rfl HB2.out.2.cell, by rw [HF.out], HS2.out.1⟩
  have q1 : decide ((ps.length : Int) < 1) = false := by simp; omega
  by_cases hl2 : 12 < ps.length
  · have HF : Hid (ok = false) := HLN.out (by omega)
    have q2 : decide (12 < (ps.length : Int)) = true := by simp; omega
    clear HUD HLN HJN hl1 hl2
    gi_wp2
    rw [HW2.out]
    exact ⟨_, resGood _ _ _ _ rfl HB2.out.2.cell, by rw [HF.out], HS2.out.1⟩
  have q2 : decide (12 < (ps.length : Int)) = false := by simp; omega
  have hw1 : 1 ≤ ps.length := by omega
  have hw2 : ps.length ≤ 12 := by omega
  have HGD : Hid (ok = (jnP ps.length (iota ps.length) (stepsU ps ps.length)).isSome) := HJN.out ⟨hw1, hw2⟩
  obtain ⟨wg, rfl⟩ : ∃ wg, aw = some ⟨wg, 0, none⟩ := by
    rcases (HUD.out W (Since.start W)).2 with ⟨hv, h0⟩ | ⟨g, cap, cur, hv, -⟩
    · omega
    · cases hv; exact ⟨g, rfl⟩
  obtain ⟨n, hn⟩ : ∃ n, n = ps.length := ⟨_, rfl⟩
  have HN : Hid (n = ps.length) := hn
  have CJ : Hid (Calls Try.prog 44 #[.int .i64 (n : Int)] W2 fun e W' => ∃ b g cap, e = .returned (.func (.func 72) #[] #[.pointer (some ⟨b, 0, none⟩)]) ∧ JoinS W' W2.heap.size b g cap n (iota n) ∧ Below W2.heap.size W2 W') := joiner_any W2 n (by omega) (by omega)
  have HUI : Hid (∀ (W3 : World) (w1 : World), Since W.heap.size W W3 → Boxed W3 (w1.heap.size + 1) 26 (.slice (some ⟨wg, 0, none⟩) n cw) → W.heap.size ≤ w1.heap.size → SeqO Try.prog 73 #[.pointer (some ⟨w1.heap.size + 1, 0, none⟩)] (fun p : Int × Int => #[.int .i64 p.1, .int .i64 p.2]) (fun b => b < W.heap.size ∨ b = w1.heap.size + 1) (stepsU ps n) W3) := fun W3 w1 hs hbx hsz => by
    have hu0 := HUD.out W (Since.start W)
    rw [HN.out] at hbx ⊢
    exact stepsUpIt_any _ (w1.heap.size + 1) ps W W3 B wg cw hw1 (by omega) (.inr rfl) hbx.cell hu0 hs.1 (fun b hb => .inl hb)
  have hsz2 : W2.heap.size = W.heap.size + 2 := by rw [← HW2.out]; simp
  rw [hsz2] at CJ
  have hn1 : 1 ≤ n := by omega
  have hn2 : n ≤ 12 := by omega
  rw [← hn] at HB2 HW2 hcl0 q1 q2 HGD ⊢
  have HSM : Hid (∀ (pre : List (Int × Int)) (x : Int × Int), pre ++ [x] <+: stepsU ps n → 0 ≤ x.1 ∧ x.1 < n) := fun pre x h => stepsU_mem h
  generalize stepsU ps n = xs at *
  clear HLN HJN hl1 hl2 HUD hw1 hw2 hn
  gi_wp2_with (first
    | (gi_at_call 44; rw [HW2.out]; refine (callsIn_wide.2 CJ.out).mono ?_; rintro e w1 ⟨b, g, cap, rfl, hj1, hb1⟩; have HB1 : Hid (Boxed w1 W.heap.size 26 (.slice (some ⟨wg, 0, none⟩) n cw) ∧ Boxed w1 (W.heap.size + 1) 4 (.bool false) ∧ Since W.heap.size W w1 ∧ JoinS w1 (W.heap.size + 2) b g cap n (iota n)) := ⟨(hb1.block _ (by omega)).trans HB2.out.1, (hb1.block _ (by omega)).trans HB2.out.2, ⟨HS2.out.1.trans (hb1.mono (by omega)), by have := hb1.size; omega⟩, hj1⟩; have hc1 : (w1.alloc (.cells #[.func (.func 72) #[] #[.pointer (some ⟨b, 0, none⟩)]] 66)).cell? ⟨W.heap.size, 0, none⟩ = some (.slice (some ⟨wg, 0, none⟩) n cw) := (HB1.out.1.alloc _).cell; have hc0 := HB1.out.1.cell; clear hb1 hcl0 hj1)
    | (gi_at_call 45; refine (callsIn_wide.2 (stepsUp_any (w1.alloc (.cells #[.func (.func 72) #[] #[.pointer (some ⟨b, 0, none⟩)]] 66)) (.slice (some ⟨wg, 0, none⟩) n cw) ⟨_, _, _, rfl⟩)).mono ?_; rintro e w2 ⟨rfl, rfl⟩))
  obtain ⟨W3, hW3⟩ : ∃ W3, W3 = (w1.alloc (.cells #[.func (.func 72) #[] #[.pointer (some ⟨b, 0, none⟩)]] 66)).alloc (.cells #[.slice (some ⟨wg, 0, none⟩) n cw] 26) := ⟨_, rfl⟩
  have hsz : W3.heap.size = w1.heap.size + 2 := by rw [hW3]; simp
  have hb3 : Below w1.heap.size w1 W3 := by rw [hW3]; exact ((Below.refl _ w1).alloc (Nat.le_refl _) _).alloc (by simp) _
  have H3 : Boxed W3 w1.heap.size 66 (.func (.func 72) #[] #[.pointer (some ⟨b, 0, none⟩)]) := by rw [hW3]; exact (Boxed.new w1 _ _).alloc _
  have HWB : Boxed W3 (w1.heap.size + 1) 26 (.slice (some ⟨wg, 0, none⟩) n cw) := by
    rw [hW3]
    have := Boxed.new (w1.alloc (.cells #[.func (.func 72) #[] #[.pointer (some ⟨b, 0, none⟩)]] 66)) 26 (.slice (some ⟨wg, 0, none⟩) n cw)
    rwa [World.size_alloc] at this
  rw [← hW3]
  clear hW3 hc1 hc0
  obtain ⟨B1, B2, S1, J1⟩ := HB1.out
  have l2 := B2.lt
  have S3 : Since W.heap.size W W3 := S1.step hb3
  have D1 : Boxed W3 W.heap.size 26 (.slice (some ⟨wg, 0, none⟩) n cw) := (hb3.block _ B1.lt).trans B1
  have D2 : Boxed W3 (W.heap.size + 1) 4 (.bool false) := (hb3.block _ B2.lt).trans B2
  have J3 : JoinS W3 (W.heap.size + 2) b g cap n (iota n) := J1.below hb3
  have hglt : g < w1.heap.size := J1.glt
  have hglow : W.heap.size + 2 ≤ g := J1.low
  have hblow : W.heap.size + 2 ≤ b := J1.lowb
  have hbg : b ≠ g := J1.ne
  have h00 : GoodI ps W w1.heap.size b g cap n (.slice (some ⟨wg, 0, none⟩) n cw) [] W3 := ⟨D1, D2, H3, ⟨_, rfl, J3⟩, S3⟩
  refine wp_range (w0 := W3) (xs := xs) (encs := fun p : Int × Int => #[.int .i64 p.1, .int .i64 p.2]) (S := fun b => b < W.heap.size ∨ b = w1.heap.size + 1) (gf := 73) (lb := #[.pointer (some ⟨w1.heap.size + 1, 0, none⟩)]) rfl (enters_of Try.func73 (by kernel_rfl) rfl)
    (HUI.out W3 w1 S3 HWB S1.2) (Below.refl _ _)
    (GoodI ps W w1.heap.size b g cap n (.slice (some ⟨wg, 0, none⟩) n cw)) (fun w b => (b = W.heap.size + 1 ∨ b = g) ∧ b < w.heap.size) ⟨fun _ _ _ _ h => h.2, fun _ X Y row b _ hX _ _ h => ⟨h.1, by have := h.1; omega⟩⟩
    (fun b hb q => by have := q.1; rcases hb with hb | hb <;> omega) (fun _ => rfl)
    (fun c pre w => c = .ret ∧ Boxed w (W.heap.size + 1) 4 (.bool false) ∧ jnP n (iota n) xs = none ∧ Since W.heap.size W w)
    (fun s X Y row hs hg hr => ⟨boxed_own (β := Unit) _ _ (fun _ => _) () X Y row hs.1 hg (fun r e => (hr r e).2), boxed_own (β := Unit) _ _ (fun _ => _) () X Y row hs.2.1 hg (fun r e => (hr r e).2), boxed_own (β := Unit) _ _ (fun _ => _) () X Y row hs.2.2.1 hg (fun r e => (hr r e).2), (by obtain ⟨gs, h1, h2⟩ := hs.2.2.2.1; exact ⟨gs, h1, joinS_from _ _ _ _ _ _ gs X Y row h2 hg hr⟩), since_from (β := Unit) (Nat.le_refl _) (by omega) () X Y row hs.2.2.2.2 hg hr⟩)
    (fun c s X Y row hs hg hr => ⟨hs.1, boxed_own (β := Unit) _ _ (fun _ => _) () X Y row hs.2.1 hg (fun r e => (hr r e).2), hs.2.2.1, since_from (β := Unit) (Nat.le_refl _) (by omega) () X Y row hs.2.2.2 hg hr⟩)
    h00
    (fun x => { tmps := #[.slice (some ⟨wg, 0, none⟩) n cw, .pointer (some ⟨W.heap.size, 0, none⟩), .pointer (some ⟨W.heap.size + 1, 0, none⟩), .pointer (some ⟨w1.heap.size, 0, none⟩), .int .i64 x.1, .int .i64 x.2, .slice (some ⟨wg, 0, none⟩) n cw, .int .i64 (n : Int), .bool false, .bool false, .slice (some ⟨wg, 0, none⟩) n cw, .int .i64 (n : Int), .bool false, .bool false, .slice (some ⟨wg, 0, none⟩) n cw, .int .i64 (n : Int), .func (.func 72) #[] #[.pointer (some ⟨b, 0, none⟩)], .slice (some ⟨wg, 0, none⟩) n cw, .func (.func 73) #[] #[.pointer (some ⟨w1.heap.size + 1, 0, none⟩)], .int .i64 x.1, .int .i64 x.2, undef, undef, undef, undef, undef, undef, undef, undef, undef, undef, undef, undef], defers := [] }) ?assign ?body ?done ?stop
  case assign =>
    intro l2 x Wx K hK
    gi_wp2
    exact hK
  case body =>
    rintro l2 pre ⟨x, y⟩ wr ⟨E1, E2, E3, ⟨gs, hgs, hJ⟩, hs⟩ hpre hsx
    have hx := HSM.out _ _ hpre
    dsimp only at hx
    have HNONE : Hid (¬ (0 ≤ y ∧ y < (n : Int)) → jnP n (iota n) xs = none) := fun h => jnP_pre n hpre (by rw [jnP_snoc, hgs]; dsimp only [Option.bind]; rw [if_neg h])
    have HSAME : Hid (lab gs x = lab gs y → jnP n (iota n) xs = none) := fun h => jnP_pre n hpre (by rw [jnP_snoc, hgs]; dsimp only [Option.bind]; rw [if_pos h]; split <;> rfl)
    have HNEXT : Hid ((0 ≤ y ∧ y < (n : Int)) → lab gs x ≠ lab gs y → jnP n (iota n) (pre ++ [(x, y)]) = some (joinG gs x y)) := fun h1 h2 => by
      show _ = _
      rw [jnP_snoc, hgs]
      dsimp only [Option.bind]
      rw [if_pos h1, if_neg h2]
    have k1 := E1.cell
    have k2 := E2.cell
    have f2 := E2.frozen
    have k3 := E3.cell
    have HE : Hid (Boxed wr W.heap.size 26 (.slice (some ⟨wg, 0, none⟩) n cw) ∧ Boxed wr (W.heap.size + 1) 4 (.bool false) ∧ Boxed wr w1.heap.size 66 (.func (.func 72) #[] #[.pointer (some ⟨b, 0, none⟩)]) ∧ JoinS wr (W.heap.size + 2) b g cap n gs ∧ Since W.heap.size W wr ∧ W3.heap.size ≤ wr.heap.size) := ⟨E1, E2, E3, hJ, hs, hsx⟩
    clear E1 E2 E3 hJ hs hpre hsx hgs
    refine wpIn_block ?_
    cases hsp : decide (0 ≤ y ∧ y < (n : Int)) with
    | false =>
      have HNO : Hid (jnP n (iota n) xs = none) := HNONE.out (of_decide_eq_false hsp)
      clear HNONE HSAME HNEXT
      gi_wp2_with (gi_at_call 46; refine (CallsIn.inRound l2 (callsIn_wide.2 (isSpot_any wr y n))).mono ?_; rintro e ww ⟨rfl, hww⟩; rw [hww, hsp]; clear hww)
      refine ⟨(KeepsOthers.setCell _ _ _).from _, rfl, HE.out.2.1.set _, HNO.out, ⟨HE.out.2.2.2.2.1.1.setCell (p := ⟨_, 0, none⟩) (by show W.heap.size ≤ W.heap.size + 1; omega) _, by have := HE.out.2.2.2.2.1.2; simpa [World.setCell] using this⟩⟩
    | true =>
      have hy := of_decide_eq_true hsp
      have CJ1 : Hid (Calls Try.prog 72 #[.int .i64 x, .int .i64 y, .pointer (some ⟨b, 0, none⟩)] wr fun e W' => e = .returned (.bool (decide (lab gs x ≠ lab gs y))) ∧ JoinS W' (W.heap.size + 2) b g cap n (if lab gs x = lab gs y then gs else joinG gs x y) ∧ Turned (fun j => j = g) wr W') := join1_any wr _ b g cap n gs x y HE.out.2.2.2.1 hx hy hn2
      by_cases hq : lab gs x = lab gs y
      · have HNO : Hid (jnP n (iota n) xs = none) := HSAME.out hq
        have hqd : decide (lab gs x ≠ lab gs y) = false := by simp [hq]
        rw [hqd] at CJ1
        clear HNONE HSAME HNEXT hq hqd
        gi_wp2_with (first
          | (gi_at_call 46; refine (CallsIn.inRound l2 (callsIn_wide.2 (isSpot_any wr y n))).mono ?_; rintro e ww ⟨rfl, hww⟩; rw [hww, hsp]; clear hww)
          | (gi_at_call 72; refine (CallsIn.inRound l2 (callsIn_wide.2 CJ1.out)).mono ?_; rintro e w5 ⟨rfl, hj5, ht5⟩; have H5 : Hid (Boxed w5 (W.heap.size + 1) 4 (.bool false) ∧ KeepsOthers wr w5 ∧ Since W.heap.size W w5) := ⟨(ht5.block _ HE.out.2.1.lt (by omega)).trans HE.out.2.1, ht5.others HE.out.2.2.2.1.cells, HE.out.2.2.2.2.1.turned ht5 (fun k hk => by omega)⟩; have k5 := H5.out.1.cell; have f5 := H5.out.1.frozen; clear hj5 ht5 k1 k2 f2 k3))
        obtain ⟨F2, ko, hs5⟩ := H5.out
        refine ⟨ko.from _ |>.trans ((KeepsOthers.setCell _ _ _).from _), rfl, F2.set _, HNO.out, ⟨hs5.1.setCell (p := ⟨_, 0, none⟩) (by show W.heap.size ≤ W.heap.size + 1; omega) _, by have := hs5.2; simpa [World.setCell] using this⟩⟩
      · have HNX : Hid (jnP n (iota n) (pre ++ [(x, y)]) = some (joinG gs x y)) := HNEXT.out hy hq
        have hqd : decide (lab gs x ≠ lab gs y) = true := by simp [hq]
        rw [hqd, if_neg hq] at CJ1
        clear HNONE HSAME HNEXT hq hqd
        gi_wp2_with (first
          | (gi_at_call 46; refine (CallsIn.inRound l2 (callsIn_wide.2 (isSpot_any wr y n))).mono ?_; rintro e ww ⟨rfl, hww⟩; rw [hww, hsp]; clear hww)
          | (gi_at_call 72; refine (CallsIn.inRound l2 (callsIn_wide.2 CJ1.out)).mono ?_; rintro e w5 ⟨rfl, hj5, ht5⟩; have H5 : Hid (Boxed w5 W.heap.size 26 (.slice (some ⟨wg, 0, none⟩) n cw) ∧ Boxed w5 (W.heap.size + 1) 4 (.bool false) ∧ Boxed w5 w1.heap.size 66 (.func (.func 72) #[] #[.pointer (some ⟨b, 0, none⟩)]) ∧ KeepsOthers wr w5 ∧ Since W.heap.size W w5 ∧ JoinS w5 (W.heap.size + 2) b g cap n (joinG gs x y) ∧ Turned (fun j => j = g) wr w5) := ⟨(ht5.block _ HE.out.1.lt (by omega)).trans HE.out.1, (ht5.block _ HE.out.2.1.lt (by omega)).trans HE.out.2.1, (ht5.block _ HE.out.2.2.1.lt (by omega)).trans HE.out.2.2.1, ht5.others HE.out.2.2.2.1.cells, HE.out.2.2.2.2.1.turned ht5 (fun k hk => by omega), hj5, ht5⟩; clear hj5 ht5 k1 k2 f2 k3))
        obtain ⟨F1, F2, F3, ko, hs5, hj5, ht5⟩ := H5.out
        exact ⟨ko.from _, ⟨ht5.size, fun b' o hbo hoc hm => ⟨(ht5.block b' (Array.getElem?_eq_some_iff.1 hbo).1 (fun e => hm ⟨.inr e, (Array.getElem?_eq_some_iff.1 hbo).1⟩)).trans hbo, fun q => hm ⟨q.1, (Array.getElem?_eq_some_iff.1 hbo).1⟩⟩⟩, F1, F2, F3, ⟨_, HNX.out, hj5⟩, hs5⟩
  case done =>
    rintro D Wx hD ⟨E1, E2, E3, ⟨gs, hgs, hJ⟩, hs⟩ hd
    have HO : ok = true := by rw [HGD.out, hgs]; rfl
    have k2 := E2.cell
    have f2 := E2.frozen
    have HE : Hid (Boxed Wx (W.heap.size + 1) 4 (.bool false) ∧ Since W.heap.size W Wx ∧ Wx.heap[D]? = some (.deferred (some []))) := ⟨E2, hs, hd⟩
    clear E1 E2 E3 hJ hs hd hgs
    gi_wp2
    obtain ⟨E2, hs, hd⟩ := HE.out
    obtain ⟨q2', qb⟩ := fin1 (q := true) E2 hs.1 (by omega)
    have hd' := (KeepsOthers.setCell Wx ⟨W.heap.size + 1, 0, none⟩ (.bool true)).same D _ hd rfl
    refine ⟨by simp, .inl ⟨_, _, rfl, run_takeDeferred hd', ?_⟩⟩
    have hgp := grownBy_putObj' (Wx.setCell ⟨W.heap.size + 1, 0, none⟩ (.bool true)) D (.deferred none)
    exact ⟨_, resGood _ _ _ _ rfl (cell_kept q2' hgp (fun r e => by cases e; exact ⟨_, hd', rfl⟩)), by rw [HO], qb.grown hgp (by have := hs.2; simpa [World.setCell] using this) (fun k e => by cases e; omega)⟩
  case stop =>
    rintro D c pre Wx hD ⟨rfl, E2, hno, hs⟩ hd
    have HO : ok = false := by rw [HGD.out, hno]; rfl
    have HE : Hid (Boxed Wx (W.heap.size + 1) 4 (.bool false) ∧ Since W.heap.size W Wx ∧ Wx.heap[D]? = some (.deferred (some []))) := ⟨E2, hs, hd⟩
    clear E2 hs hd hno
    gi_wp2
    obtain ⟨E2, hs, hd⟩ := HE.out
    refine ⟨by simp, .inl ⟨_, _, rfl, run_takeDeferred hd, ?_⟩⟩
    have hgp := grownBy_putObj' Wx D (.deferred none)
    exact ⟨_, resGood _ _ _ _ rfl (cell_kept E2.cell hgp (fun r e => by cases e; exact ⟨_, hd, rfl⟩)), by rw [HO], hs.1.grown hgp hs.2 (fun k e => by cases e; omega)⟩
end Go.Proofs.Ythlbmkefjjckaad
