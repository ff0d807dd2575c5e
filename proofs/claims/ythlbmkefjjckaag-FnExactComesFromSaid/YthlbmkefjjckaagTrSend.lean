/-
  How 'spreadOn' sends on: the hops, in a box, and one more to each that is joined.
-/
import Derived.Test.YthlbmkefjjckaagTrSpots
namespace Go.Proofs.Ythlbmkefjjckaag
open Go.RowKit
set_option linter.unusedVariables false
attribute [local go_sem] run_storeF

theorem newHop (w : World) (x : HopD) (c : Nat) : Src (w.alloc (.cells #[.int .i64 x.From, .int .i64 x.To] 63)) (.slice (some ⟨w.heap.size, 0, none⟩) 1 c) 1 (cellsHop [x]) := by
  refine .inr ⟨_, _, rfl, fun j u hu => ?_⟩
  match j, hu with
  | 0, hu => simp [cellsHop] at hu; subst hu; simp [Addr.add]
  | 1, hu => simp [cellsHop] at hu; subst hu; simp [Addr.add]
  | j + 2, hu => simp [cellsHop] at hu
/-- To whom one sends on, but to some. -/
def kidsT (p : List Int) (a : Int) (bs : List Int) (k : Nat) : List HopD := ((iota k).filter fun s => joinU p a s && !decide (s ∈ bs)).map fun s => ⟨a, s⟩
theorem kidsT_succ (p : List Int) (a : Int) (bs : List Int) (k : Nat) : kidsT p a bs (k + 1) = kidsT p a bs k ++ if joinU p a (k : Int) && !decide ((k : Int) ∈ bs) then [⟨a, (k : Int)⟩] else [] := by
  unfold kidsT
  rw [iota_succ, List.filter_append, List.map_append]
  congr 1
  cases h : joinU p a (k : Int) && !decide ((k : Int) ∈ bs) <;> simp only [List.filter_cons, List.filter_nil, h] <;> rfl
theorem kidsT_len (p : List Int) (a : Int) (bs : List Int) (k : Nat) : (kidsT p a bs k).length ≤ k := by
  unfold kidsT
  rw [List.length_map]
  exact Nat.le_trans (List.length_filter_le _ _) (by rw [iota_len]; exact Nat.le_refl _)
theorem kidsT_one (p : List Int) (x : HopD) : kidsT p x.To [x.From] p.length = kidsD p x := by
  unfold kidsT kidsD
  congr 1
  refine List.filter_congr fun s _ => ?_
  simp
theorem kidsT_start (p : List Int) (f : Int) : kidsT p f [] p.length = kidsD p ⟨-1, f⟩ := by
  unfold kidsT kidsD
  congr 1
  refine List.filter_congr fun s hs => ?_
  have := (mem_iota _ s).1 hs
  have e : ¬ s = -1 := by omega
  simp [e]
/-- The hops, in their box. -/
def HopS (w : World) (bh : Nat) (v : Value) (H : List HopD) : Prop := Boxed w bh 26 v ∧ OwnHop w (bh + 1) v H

theorem own_lowT {W W' : World} {B C : Nat} {v : Value} {zs : List Int} (h : Own W B v zs) (hv : ∀ k, v.ownBlock = some k → k < C) (hb : Below C W W') : Own W' B v zs := rowSame h fun k hk => hb.block k (hv k hk)
/-- Which blocks sending on writes. -/
def SendP (W : World) (bh : Nat) (vh : Value) (j : Nat) : Prop := j = bh ∨ vh.ownBlock = some j ∨ W.heap.size ≤ j
theorem reads_turned {W w : World} {bh : Nat} {v vh : Value} {bs : List Int} (h : Reads W v bs) (ht : Turned (SendP W bh vh) W w) (hvb : ∀ g o n c, v = .slice (some ⟨g, o, none⟩) n c → g ≠ bh ∧ vh.ownBlock ≠ some g) : Reads w v bs := by
  obtain ⟨a, cap, rfl, hc⟩ := h
  refine ⟨a, cap, rfl, hc.imp id ?_⟩
  rintro ⟨g, o, rfl, hg, hcell⟩
  refine ⟨g, o, rfl, Nat.lt_of_lt_of_le hg ht.size, fun j hj => ?_⟩
  have hn := hvb g o _ _ rfl
  have hb := ht.block g hg (by rintro (q | q | q); · exact hn.1 q
                               · exact hn.2 q
                               · omega)
  exact (World.cell?_of_block (a := ⟨g, o + j, none⟩) hb).trans (hcell j hj)
/-- What holds when so many have been asked. -/
def SendI (W : World) (bh : Nat) (vh : Value) (H : List HopD) (v : Value) (w : World) : Prop := HopS w bh v H ∧ Turned (SendP W bh vh) W w ∧ (v.ownBlock = vh.ownBlock ∨ ∀ g, v.ownBlock = some g → W.heap.size ≤ g)
theorem SendI.since {W w : World} {bh : Nat} {vh v : Value} {H H0 : List HopD} (h : SendI W bh vh H v w) (h0 : HopS W bh vh H0) : Since bh W w :=
  ⟨⟨h.2.1.os, h.2.1.tape, h.2.1.output, h.2.1.size, fun j hj => h.2.1.block j (Nat.lt_trans hj h0.1.lt) (by
    rintro (q | q | q)
    · omega
    · have := (World.ownsRow.lt h0.2 j q).1; omega
    · have := h0.1.lt; omega)⟩, Nat.le_trans (Nat.le_of_lt h0.1.lt) h.2.1.size⟩
theorem SendI.more {W w : World} {bh : Nat} {vh v : Value} {H : List HopD} {x : HopD} (h : SendI W bh vh H v w) (hW : bh < W.heap.size) {v5 : Value} {w5 : World}
    (hg : Grown (w.alloc (.cells #[.int .i64 x.From, .int .i64 x.To] 63)) (bh + 1) 63 2 v (H ++ [x]).length (cellsHop (H ++ [x])) v5 w5) : Boxed w5 bh 26 v ∧ SendI W bh vh (H ++ [x]) v5 (w5.setCell ⟨bh, 0, none⟩ v5) := by
  obtain ⟨⟨hb, ho⟩, ht, hl⟩ := h
  have hlt := hb.lt
  have hb5 : Boxed w5 bh 26 v := (hg.below.block bh (by omega)).trans (hb.alloc _)
  refine ⟨hb5, ⟨hb5.set v5, OwnHop.setCell (show OwnHop w5 (bh + 1) v5 (H ++ [x]) from hg.own) (by show bh < bh + 1; omega) v5⟩, ?_, ?_⟩
  · refine Turned.setT (Turned.grown (ht.tran ⟨((Below.refl _ w).alloc (Nat.le_refl _) _).os, ((Below.refl _ w).alloc (Nat.le_refl _) _).tape, ((Below.refl _ w).alloc (Nat.le_refl _) _).output, by simp, fun j hj _ => (Below.heap_alloc _ _ _ hj)⟩) hg.grown (fun k hk => ?_)) (.inl (.inl rfl)) v5
    rcases hl with q | q
    · exact .inr (.inl (by rw [← q]; exact hk))
    · exact .inr (.inr (q k hk))
  · rcases hg.lies with q | q
    · rcases hl with q2 | q2
      · exact .inl (q.trans q2)
      · exact .inr (by rw [q]; exact q2)
    · exact .inr fun g e => by
        rw [q] at e
        cases e
        have := ht.size
        simp
        omega

set_option maxRecDepth 100000 in
set_option maxHeartbeats 4000000 in
theorem send_any (W : World) (bp bh Bu : Nat) (u vh v : Value) (ps bs : List Int) (a : Int) (H : List HopD) (hbp : Boxed W bp 22 u) (hlt : bp < bh) (hu : Own W Bu u ps) (hub : ∀ g, u.ownBlock = some g → g < bh) (hh : HopS W bh vh H) (ha : 0 ≤ a ∧ a < ps.length) (hn : ps.length ≤ 12) (hH : H.length ≤ 1000)
    (hv : Reads W v bs) (hbl : bs.length ≤ 12) (hvb : ∀ g o n c, v = .slice (some ⟨g, o, none⟩) n c → g ≠ bh ∧ vh.ownBlock ≠ some g) :
    Calls Try.prog 64 #[.int .i64 a, v, .pointer (some ⟨bp, 0, none⟩), .pointer (some ⟨bh, 0, none⟩)] W fun e W' => (∃ r, e = .returned r) ∧ (∃ vh', HopS W' bh vh' (H ++ kidsT ps a bs ps.length)) ∧ Since bh W W' := by
  obtain ⟨au, cu, rfl⟩ := hu.shape
  have hszb : bh < W.heap.size := hh.1.lt
  have HUD : Hid (∀ w', Since bh W w' → Own w' Bu (.slice au ps.length cu) ps) := fun w' hs => own_lowT hu hub hs.1
  have HBX : Hid (∀ w', Since bh W w' → Boxed w' bp 22 (.slice au ps.length cu)) := fun w' hs => (hs.1.block _ hlt).trans hbp
  have CJ : Hid (∀ (w' : World) (k : Nat), Since bh W w' → k < ps.length → Calls Try.prog 65 #[.slice au ps.length cu, .int .i64 a, .int .i64 (k : Int)] w' fun e w2 => e = .returned (.bool (joinU ps a (k : Int))) ∧ w2 = w') := fun w' k hs hk => areJoinedOn_any w' Bu _ ps a (k : Int) (HUD.out w' hs) ha (by omega)
  have CC : Hid (∀ (w' : World) (k : Int), Turned (SendP W bh vh) W w' → Calls Try.prog 66 #[v, .int .i64 k] w' fun e w2 => e = .returned (.bool (decide (k ∈ bs))) ∧ w2 = w') := fun w' k ht => containsT_any w' v bs k (reads_turned hv ht hvb) hbl
  obtain ⟨av, cv, rfl⟩ := hv.shape
  have HH0 : Hid (HopS W bh vh H) := hh
  have HKT : Hid (∀ k, kidsT ps a bs (k + 1) = kidsT ps a bs k ++ if joinU ps a (k : Int) && !decide ((k : Int) ∈ bs) then [⟨a, (k : Int)⟩] else []) := kidsT_succ ps a bs
  have HKL : Hid (∀ k, (kidsT ps a bs k).length ≤ k) := kidsT_len ps a bs
  have HK0 : Hid (kidsT ps a bs 0 = []) := rfl
  have HS0 : Hid (SendI W bh vh (H ++ kidsT ps a bs 0) vh W) := ⟨by rw [HK0.out, List.append_nil]; exact hh, Turned.refl _ _, .inl rfl⟩
  have hcb := hbp.cell
  obtain ⟨kt, hkt⟩ : ∃ kt, kt = kidsT ps a bs := ⟨_, rfl⟩
  rw [← hkt] at HKT HKL HS0 ⊢
  clear hbp hu hub hh ha hv hvb hkt HK0
  go_enter Try.func64, Try.ntmps64
  go_wp2
  go_loopw [9] (fun t wr => ∃ k : Nat, k ≤ ps.length ∧ t = .int .i64 k ∧ ∃ v', Hid (SendI W bh vh (H ++ kt k) v' wr)) (fun t _ => ps.length - (intOf t).toNat)
  case atStart => exact ⟨0, Nat.zero_le _, rfl, vh, HS0.out⟩
  case round =>
    clear hcb HS0
    obtain ⟨k, hk, rfl, v', HI⟩ := hrel
    by_cases hlt2 : k < ps.length
    · have hlt' : (k : Int) < (ps.length : Int) := by omega
      have SW : Hid (Since bh W wr) := HI.out.since HH0.out
      have hcb := (HBX.out wr SW.out).cell
      have CJ1 : Hid (Calls Try.prog 65 #[.slice au ps.length cu, .int .i64 a, .int .i64 (k : Int)] wr fun e w2 => e = .returned (.bool (joinU ps a (k : Int))) ∧ w2 = wr) := CJ.out wr k SW.out hlt2
      have CC1 : Hid (Calls Try.prog 66 #[.slice av bs.length cv, .int .i64 (k : Int)] wr fun e w2 => e = .returned (.bool (decide ((k : Int) ∈ bs))) ∧ w2 = wr) := CC.out wr (k : Int) HI.out.2.1
      have HKT1 : Hid (kt (k + 1) = kt k ++ if joinU ps a (k : Int) && !decide ((k : Int) ∈ bs) then [⟨a, (k : Int)⟩] else []) := HKT.out k
      have hkl := HKL.out k
      clear CJ CC HKT HUD HBX
      generalize joinU ps a (k : Int) = jn at *
      generalize decide ((k : Int) ∈ bs) = ct at *
      cases jn with
      | false =>
        have HF : Hid (SendI W bh vh (H ++ kt (k + 1)) v' wr) := by
          have := HKT1.out
          rw [Bool.false_and, if_neg (by decide), List.append_nil] at this
          show SendI _ _ _ _ _ _
          rw [this]
          exact HI.out
        clear HKT1 HI CC1
        go_wp2_with fail
        refine CJ1.out.mono ?_
        rintro e ww ⟨rfl, hww⟩
        obtain rfl : wr = ww := hww.symm
        go_wp2
        go_roundw
        case rel => exact ⟨k + 1, by omega, by go_num, _, HF⟩
        case measure => simp [intOf]; omega
      | true =>
        cases ct with
        | true =>
          have HF : Hid (SendI W bh vh (H ++ kt (k + 1)) v' wr) := by
            have := HKT1.out
            rw [Bool.true_and, if_neg (by decide), List.append_nil] at this
            show SendI _ _ _ _ _ _
            rw [this]
            exact HI.out
          clear HKT1 HI
          go_wp2_with fail
          refine CJ1.out.mono ?_
          rintro e ww ⟨rfl, hww⟩
          obtain rfl : wr = ww := hww.symm
          go_wp2_with fail
          refine CC1.out.mono ?_
          rintro e ww ⟨rfl, hww⟩
          obtain rfl : wr = ww := hww.symm
          go_wp2
          go_roundw
          case rel => exact ⟨k + 1, by omega, by go_num, _, HF⟩
          case measure => simp [intOf]; omega
        | false =>
          have HKT2 : Hid (kt (k + 1) = kt k ++ [⟨a, (k : Int)⟩]) := by
            have := HKT1.out
            rw [if_pos (by decide)] at this
            exact this
          have HHL : Hid ((H ++ kt k).length ≤ 2000) := by
            show _ ≤ _
            rw [List.length_append]
            omega
          obtain ⟨zz, hzz⟩ : ∃ zz, zz = H ++ kt k := ⟨_, rfl⟩
          have HZ : Hid (H ++ kt (k + 1) = zz ++ [⟨a, (k : Int)⟩]) := by
            show _ = _
            rw [HKT2.out, hzz, List.append_assoc]
          rw [← hzz] at HI HHL
          obtain ⟨a2, c2, rfl⟩ := HI.out.1.2.shape
          have hch := HI.out.1.1.cell
          have hch2 : (wr.alloc (.cells #[.int .i64 a, .int .i64 (k : Int)] 63)).cell? ⟨bh, 0, none⟩ = some (.slice a2 zz.length c2) := (HI.out.1.1.alloc _).cell
          have HA : Hid (∀ ty, ∃ v' w', (Builtin.append_ #[26, 26] ty #[.slice a2 zz.length c2, .slice (some ⟨wr.heap.size, 0, none⟩) 1 1]).run Try.prog (wr.alloc (.cells #[.int .i64 a, .int .i64 (k : Int)] 63)) = .ok v' w' ∧ Grown (wr.alloc (.cells #[.int .i64 a, .int .i64 (k : Int)] 63)) (bh + 1) 63 2 (.slice a2 zz.length c2) (zz ++ [(⟨a, (k : Int)⟩ : HopD)]).length (cellsHop (zz ++ [(⟨a, (k : Int)⟩ : HopD)])) v' w') := fun ty => run_appHop _ (bh + 1) _ zz (HI.out.1.2.below ((Below.refl _ wr).alloc (Nat.le_refl _) _)) _ [(⟨a, (k : Int)⟩ : HopD)] (newHop wr ⟨a, (k : Int)⟩ 1) (by have := HHL.out; simp only [List.length_cons, List.length_nil]; omega) (by have := HI.out.1.1.lt; simp; omega) ty
          have HQ : Hid (∀ v5 w5, Grown (wr.alloc (.cells #[.int .i64 a, .int .i64 (k : Int)] 63)) (bh + 1) 63 2 (.slice a2 zz.length c2) (zz ++ [(⟨a, (k : Int)⟩ : HopD)]).length (cellsHop (zz ++ [(⟨a, (k : Int)⟩ : HopD)])) v5 w5 → (w5.cell? ⟨bh, 0, none⟩ = some (.slice a2 zz.length c2) ∧ w5.frozen? ⟨bh, 0, none⟩ = false) ∧ (∃ a5 n5 c5, v5 = .slice a5 n5 c5) ∧ Hid (SendI W bh vh (H ++ kt (k + 1)) v5 (w5.setCell ⟨bh, 0, none⟩ v5))) := fun v5 w5 hg5 => by
            obtain ⟨h1, h2⟩ := HI.out.more (x := ⟨a, (k : Int)⟩) hszb hg5
            obtain ⟨a5, c5, e5⟩ := h2.1.2.shape
            exact ⟨⟨h1.cell, h1.frozen⟩, ⟨_, _, _, e5⟩, by rw [HZ.out]; exact h2⟩
          clear HKT1 HKT2 HI HHL HZ hzz
          go_wp2_with fail
          refine CJ1.out.mono ?_
          rintro e ww ⟨rfl, hww⟩
          obtain rfl : wr = ww := hww.symm
          go_wp2_with fail
          refine CC1.out.mono ?_
          rintro e ww ⟨rfl, hww⟩
          obtain rfl : wr = ww := hww.symm
          go_wp2_with (at_builtin; refine list_app (by rfl) (.tmp 22) (.tmp 26) 26 (by rfl) (.slice a2 zz.length c2) (.slice (some ⟨wr.heap.size, 0, none⟩) 1 1) (by rfl) (by rfl) _ HA.out ?_; intro v5 w5 hg5; obtain ⟨⟨hc5, hf5⟩, ⟨a5, n5, c5, rfl⟩, HF⟩ := HQ.out v5 w5 hg5; clear hg5)
          go_roundw
          case rel => exact ⟨k + 1, by omega, by go_num, _, HF⟩
          case measure => simp [intOf]; omega
    · have e : k = ps.length := by omega
      have HE : Hid ((∃ vh', HopS wr bh vh' (H ++ kt ps.length)) ∧ Since bh W wr) := by
        rw [← e]
        exact ⟨⟨_, HI.out.1⟩, HI.out.since HH0.out⟩
      clear HI CJ CC HUD HBX HKT
      subst e
      go_wp2
      go_end0
      exact ⟨⟨_, rfl⟩, HE.out.1, HE.out.2⟩
end Go.Proofs.Ythlbmkefjjckaag
