/-
  'Moved' of the program.
-/
import Derived.Test.YtiimiiblhafajabServO
namespace Go.Proofs.Ytiimiiblhafajab
open Go.RowKit
set_option linter.unusedVariables false

/-- Whether there is one with that Id, and it is up. -/
def upAt (l : List BrD) (id : Int) : Bool := match placeB l id with
  | .ofNat k => (match l[k]? with
    | some x => x.up
    | none => false)
  | .negSucc _ => false
/-- The bridges with that one down. -/
def goneL (l : List BrD) (id : Int) : List BrD := match l[(placeB l id).toNat]? with
  | some x => l.set (placeB l id).toNat { x with up := false }
  | none => l
def movedL (l g : List BrD) (n : Nat) : List Int := ((List.range n).filter fun j => decide (servAt l j ≠ servAt g j)).map fun j : Nat => (j : Int)
theorem movedL_len (l g : List BrD) (n : Nat) : (movedL l g n).length ≤ n := by
  unfold movedL
  rw [List.length_map]
  have := List.length_filter_le (fun j => decide (servAt l j ≠ servAt g j)) (List.range n)
  simpa using this
theorem movedL_yes (l g : List BrD) (n : Nat) (h : servAt l n ≠ servAt g n) : movedL l g (n + 1) = movedL l g n ++ [(n : Int)] := by
  unfold movedL
  rw [List.range_succ, List.filter_append]
  simp [h]
theorem movedL_no (l g : List BrD) (n : Nat) (h : servAt l n = servAt g n) : movedL l g (n + 1) = movedL l g n := by
  unfold movedL
  rw [List.range_succ, List.filter_append]
  simp [h]
def movedOk (l : List BrD) (id groups : Int) : Bool := goodBrs l && (cntB groups && upAt l id)
def movedOut (l : List BrD) (id groups : Int) : List Int := if movedOk l id groups then movedL l (goneL l id) groups.toNat else []
theorem movedOut_len (l : List BrD) (id groups : Int) : (movedOut l id groups).length ≤ 4194304 := by
  unfold movedOut
  split
  · next h =>
    unfold movedOk cntB at h
    simp only [Bool.and_eq_true, decide_eq_true_eq] at h
    have := movedL_len l (goneL l id) groups.toNat
    omega
  · simp
theorem goodB_like (x y : BrD) (h1 : x.id = y.id) (h2 : x.rank = y.rank) : goodB x = goodB y := by unfold goodB; rw [h1, h2]
theorem set_like (l : List BrD) (k : Nat) (hk : k < l.length) (b : Bool) (j : Nat) (hj : j < l.length) : ((l.set k { l[k] with up := b })[j]'(by simpa using hj)).id = l[j].id ∧ ((l.set k { l[k] with up := b })[j]'(by simpa using hj)).rank = l[j].rank := by
  rw [List.getElem_set]
  split
  · next e => subst e; exact ⟨rfl, rfl⟩
  · exact ⟨rfl, rfl⟩
theorem good_set (l : List BrD) (k : Nat) (hk : k < l.length) (b : Bool) (h : goodBrs l = true) : goodBrs (l.set k { l[k] with up := b }) = true := by
  have h0 := (goodBrs_at l h).1
  refine goodBrs_yes _ (by simpa using h0) fun j hj => ?_
  have hj' : j < l.length := by simpa using hj
  have hok := (goodBrs_at l h).2 j hj'
  obtain ⟨e1, e2⟩ := set_like l k hk b j hj'
  cases j with
  | zero =>
    rw [okAt_zero l hj'] at hok
    rw [okAt_zero _ hj, goodB_like _ _ e1 e2]
    exact hok
  | succ i =>
    obtain ⟨f1, f2⟩ := set_like l k hk b i (by omega)
    rw [okAt_succ l i hj'] at hok
    rw [okAt_succ _ i hj, goodB_like _ _ e1 e2, e1, f1]
    exact hok
theorem moved_no (l : List BrD) (id groups : Int) (h : movedOk l id groups = false) : movedOk l id groups = false ∧ movedOut l id groups = [] := ⟨h, by unfold movedOut; rw [h]; rfl⟩
theorem upAt_some (l : List BrD) (id : Int) (k : Nat) (hk : k < l.length) (hp : placeB l id = (k : Int)) : upAt l id = l[k].up ∧ goneL l id = l.set k { l[k] with up := false } := by
  constructor
  · unfold upAt
    rw [hp]
    show (match l[k]? with | some x => x.up | none => false) = _
    rw [List.getElem?_eq_getElem hk]
  · unfold goneL
    rw [hp]
    simp only [Int.toNat_natCast, List.getElem?_eq_getElem hk]
theorem upAt_none (l : List BrD) (id : Int) (hp : placeB l id = -1) : upAt l id = false := by
  unfold upAt
  rw [hp]
  rfl
theorem cellOf {W : World} {B : Nat} {v : Value} {zs : List Int} (h : Own W B v zs) (hn : 0 < zs.length) : ∃ g cap, v = .slice (some ⟨g, 0, none⟩) zs.length cap ∧ g < W.heap.size ∧ ∀ j (hj : j < zs.length), W.cell? ⟨g, j, none⟩ = some (.int .i64 zs[j]) := by
  obtain ⟨a, cap, hv, hc⟩ := h.form
  rcases hc with e | ⟨g, rfl, -, hg, hcell, -⟩
  · rw [e] at hn; simp at hn
  · exact ⟨g, cap, hv, hg, hcell⟩
theorem ownBr_someM {W : World} {B : Nat} {v : Value} {l : List BrD} (h : OwnBr W B v l) (hl : 0 < l.length) : ∃ g cap, v = .slice (some ⟨g, 0, none⟩) l.length cap := by
  rcases h.2 with ⟨hv, hn⟩ | ⟨g, cap, cur, hv, -⟩
  · omega
  · exact ⟨g, cap, hv⟩

set_option maxRecDepth 100000 in
set_option maxHeartbeats 8000000 in
theorem implMoved_any (W : World) (B : Nat) (v : Value) (l : List BrD) (id groups : Int) (h : OwnBr W B v l) (hl : l.length ≤ 1048576) :
    Calls Try.prog 17 #[v, .int .i64 id, .int .i64 groups] W fun e W' => ∃ v', e = .returned (.tuple #[v', .bool (movedOk l id groups)]) ∧ Own W' W.heap.size v' (movedOut l id groups) ∧ Below W.heap.size W W' := by
  cases hg : goodBrs l with
  | false =>
    obtain ⟨a1, c1, rfl⟩ := h.shape
    have HO : Hid (OwnBr W B (.slice a1 l.length c1) l) := h
    have HR : Hid (ReadsBr W (.slice a1 l.length c1) l) := h.reads
    have HN : Hid (movedOk l id groups = false ∧ movedOut l id groups = []) := moved_no l id groups (by unfold movedOk; rw [hg]; rfl)
    have HG : Hid (goodBrs l = false) := hg
    obtain ⟨p, hp⟩ : ∃ p, placeB l id = p := ⟨_, rfl⟩
    have HP : Hid (placeB l id = p) := hp
    clear hg hp h
    go_enter Try.func17, Try.ntmps17
    go_wp2_with fail
    refine (placeOf_any _ _ l id HR.out hl).mono ?_
    rintro e w1 ⟨rfl, hb1⟩
    have S1 : Hid (Since W.heap.size W w1) := (Since.start W).step hb1
    have R1 : Hid (OwnBr w1 B (.slice a1 l.length c1) l) := HO.out.below hb1
    rw [HP.out]
    clear hb1
    go_wp2_with fail
    refine (implGoodBs_any _ _ l R1.out.reads hl).mono ?_
    rintro e w2 ⟨rfl, hb2⟩
    have S2 : Hid (Since W.heap.size W w2) := S1.out.step hb2
    have R2 : Hid (OwnBr w2 B (.slice a1 l.length c1) l) := R1.out.below hb2
    rw [HG.out]
    clear hb2
    go_wp2
    refine bodyPost_ret (results_tmp2 rfl _ _ _) rfl ?_
    rw [HN.out.1, HN.out.2]
    exact ⟨_, rfl, Own.nil _ _, S2.out.1⟩
  | true =>
    have HG : Hid (goodBrs l = true) := hg
    obtain ⟨g1, c1, rfl⟩ := ownBr_someM h (goodBrs_at l hg).1.1
    obtain ⟨a1, ha1⟩ : ∃ a1, a1 = some (⟨g1, 0, none⟩ : Addr) := ⟨_, rfl⟩
    rw [← ha1] at h
    have HO : Hid (OwnBr W B (.slice a1 l.length c1) l) := h
    have HR : Hid (ReadsBr W (.slice a1 l.length c1) l) := h.reads
    rw [← ha1]
    clear h
    cases hc : cntB groups with
    | false =>
      have HN : Hid (movedOk l id groups = false ∧ movedOut l id groups = []) := moved_no l id groups (by unfold movedOk; rw [hc]; simp)
      have HC : Hid (cntB groups = false) := hc
      obtain ⟨p, hp⟩ : ∃ p, placeB l id = p := ⟨_, rfl⟩
      have HP : Hid (placeB l id = p) := hp
      clear hg hc hp ha1
      go_enter Try.func17, Try.ntmps17
      go_wp2_with fail
      refine (placeOf_any _ _ l id HR.out hl).mono ?_
      rintro e w1 ⟨rfl, hb1⟩
      have S1 : Hid (Since W.heap.size W w1) := (Since.start W).step hb1
      have R1 : Hid (OwnBr w1 B (.slice a1 l.length c1) l) := HO.out.below hb1
      rw [HP.out]
      clear hb1
      go_wp2_with fail
      refine (implGoodBs_any _ _ l R1.out.reads hl).mono ?_
      rintro e w2 ⟨rfl, hb2⟩
      have S2 : Hid (Since W.heap.size W w2) := S1.out.step hb2
      have R2 : Hid (OwnBr w2 B (.slice a1 l.length c1) l) := R1.out.below hb2
      rw [HG.out]
      clear hb2
      go_wp2_with fail
      refine (isGroupCount_any groups _).mono ?_
      rintro e w3 ⟨rfl, hw3⟩
      obtain rfl : w2 = w3 := hw3.symm
      rw [HC.out]
      go_wp2
      refine bodyPost_ret (results_tmp2 rfl _ _ _) rfl ?_
      rw [HN.out.1, HN.out.2]
      exact ⟨_, rfl, Own.nil _ _, S2.out.1⟩
    | true =>
      have HC : Hid (cntB groups = true) := hc
      rcases placeB_cases l id with hp | ⟨k, hkl, hp, hid⟩
      · have HN : Hid (movedOk l id groups = false ∧ movedOut l id groups = []) := moved_no l id groups (by unfold movedOk; rw [upAt_none l id hp]; simp)
        have HP : Hid (placeB l id = -1) := hp
        clear hg hc hp ha1
        go_enter Try.func17, Try.ntmps17
        go_wp2_with fail
        refine (placeOf_any _ _ l id HR.out hl).mono ?_
        rintro e w1 ⟨rfl, hb1⟩
        have S1 : Hid (Since W.heap.size W w1) := (Since.start W).step hb1
        have R1 : Hid (OwnBr w1 B (.slice a1 l.length c1) l) := HO.out.below hb1
        rw [HP.out]
        clear hb1
        go_wp2_with fail
        refine (implGoodBs_any _ _ l R1.out.reads hl).mono ?_
        rintro e w2 ⟨rfl, hb2⟩
        have S2 : Hid (Since W.heap.size W w2) := S1.out.step hb2
        have R2 : Hid (OwnBr w2 B (.slice a1 l.length c1) l) := R1.out.below hb2
        rw [HG.out]
        clear hb2
        go_wp2_with fail
        refine (isGroupCount_any groups _).mono ?_
        rintro e w3 ⟨rfl, hw3⟩
        obtain rfl : w2 = w3 := hw3.symm
        rw [HC.out]
        go_wp2
        refine bodyPost_ret (results_tmp2 rfl _ _ _) rfl ?_
        rw [HN.out.1, HN.out.2]
        exact ⟨_, rfl, Own.nil _ _, S2.out.1⟩
      · have HP : Hid (placeB l id = (k : Int)) := hp
        obtain ⟨hup, hgn⟩ := upAt_some l id k hkl hp
        have hk0 : ¬ (k : Int) < 0 := by omega
        have hkl' : (k : Int) < (l.length : Int) := by omega
        have HUC : Hid (∀ w, OwnBr w B (.slice (some ⟨g1, 0, none⟩) l.length c1) l → w.cell? ⟨g1, k * 3 + 2, none⟩ = some (.bool l[k].up)) := fun w ho => by
          rw [World.ownsRow.cellAt ho _ (by omega)]
          exact (cellsBr_get l k hkl).2.2
        subst ha1
        cases hu : l[k].up with
        | false =>
          have HN : Hid (movedOk l id groups = false ∧ movedOut l id groups = []) := moved_no l id groups (by unfold movedOk; rw [hup, hu]; simp)
          rw [hu] at HUC
          clear hg hc hp hid hup hgn hu
          go_enter Try.func17, Try.ntmps17
          go_wp2_with fail
          refine (placeOf_any _ _ l id HR.out hl).mono ?_
          rintro e w1 ⟨rfl, hb1⟩
          have S1 : Hid (Since W.heap.size W w1) := (Since.start W).step hb1
          have R1 : Hid (OwnBr w1 B (.slice (some ⟨g1, 0, none⟩) l.length c1) l) := HO.out.below hb1
          rw [HP.out]
          clear hb1
          go_wp2_with fail
          refine (implGoodBs_any _ _ l R1.out.reads hl).mono ?_
          rintro e w2 ⟨rfl, hb2⟩
          have S2 : Hid (Since W.heap.size W w2) := S1.out.step hb2
          have R2 : Hid (OwnBr w2 B (.slice (some ⟨g1, 0, none⟩) l.length c1) l) := R1.out.below hb2
          rw [HG.out]
          clear hb2
          go_wp2_with fail
          refine (isGroupCount_any groups _).mono ?_
          rintro e w3 ⟨rfl, hw3⟩
          obtain rfl : w2 = w3 := hw3.symm
          rw [HC.out]
          have hcu := HUC.out _ R2.out
          go_wp2
          refine bodyPost_ret (results_tmp2 rfl _ _ _) rfl ?_
          rw [HN.out.1, HN.out.2]
          exact ⟨_, rfl, Own.nil _ _, S2.out.1⟩
        | true =>
          have hcc : 0 ≤ groups ∧ groups ≤ 40 := of_decide_eq_true hc
          obtain ⟨n, rfl⟩ : ∃ n : Nat, groups = (n : Int) := ⟨groups.toNat, by omega⟩
          have hok : movedOk l id (n : Int) = true := by unfold movedOk; rw [hg, hc, hup, hu]; rfl
          have HY : Hid (movedOk l id (n : Int) = true ∧ movedOut l id (n : Int) = movedL l (goneL l id) n) := ⟨hok, by unfold movedOut; rw [hok]; rfl⟩
          have HGN : Hid (goneL l id = l.set k { l[k] with up := false }) := hgn
          have hn : n ≤ 40 := by omega
          rw [hu] at HUC
          clear hg hc hp hid hup hgn hu hok hcc
          go_enter Try.func17, Try.ntmps17
          go_wp2_with fail
          refine (placeOf_any _ _ l id HR.out hl).mono ?_
          rintro e w1 ⟨rfl, hb1⟩
          have S1 : Hid (Since W.heap.size W w1) := (Since.start W).step hb1
          have R1 : Hid (OwnBr w1 B (.slice (some ⟨g1, 0, none⟩) l.length c1) l) := HO.out.below hb1
          rw [HP.out]
          clear hb1
          go_wp2_with fail
          refine (implGoodBs_any _ _ l R1.out.reads hl).mono ?_
          rintro e w2 ⟨rfl, hb2⟩
          have S2 : Hid (Since W.heap.size W w2) := S1.out.step hb2
          have R2 : Hid (OwnBr w2 B (.slice (some ⟨g1, 0, none⟩) l.length c1) l) := R1.out.below hb2
          rw [HG.out]
          clear hb2
          go_wp2_with fail
          refine (isGroupCount_any (n : Int) _).mono ?_
          rintro e w3 ⟨rfl, hw3⟩
          obtain rfl : w2 = w3 := hw3.symm
          rw [HC.out]
          have hcu := HUC.out _ R2.out
          go_wp2_with fail
          refine (copyBrs_any _ B _ l R2.out hl).mono ?_
          rintro e w4 ⟨v4, rfl, ho4, hb4⟩
          have HB3 : Hid (Since W.heap.size W w4) := S2.out.step hb4
          have ho3' : OwnBr w4 w2.heap.size v4 l := ho4
          have SB : Hid (W.heap.size ≤ w2.heap.size) := S2.out.2
          have HLB : Hid (OwnBr w2 B (.slice (some ⟨g1, 0, none⟩) l.length c1) l) := R2.out
          have HL4 : Hid (OwnBr w4 B (.slice (some ⟨g1, 0, none⟩) l.length c1) l) := R2.out.below hb4
          clear ho4 hb4
          obtain ⟨g3, c3, rfl⟩ := ownBr_someM ho3' (by omega)
          obtain ⟨d0, f0⟩ : ∃ c, w4.cell? ⟨g3, k * 3 + 2, none⟩ = some c := ⟨_, by rw [World.ownsRow.cellAt ho3' _ (by omega)]; exact List.getElem?_eq_getElem (by rw [cellsBr_len]; omega)⟩
          have fz0 := World.ownsRow.frozenAt ho3' (k * 3 + 2)
          have hge3 : w2.heap.size ≤ g3 := (World.ownsRow.lt ho3' g3 rfl).1
          have HN4 : Hid (OwnBr (w4.setCell ⟨g3, k * 3 + 2, none⟩ (.bool false)) w2.heap.size (.slice (some ⟨g3, 0, none⟩) l.length c3) (l.set k { l[k] with up := false })) := ho3'.set_up k hkl false
          have S5 : Hid (Since W.heap.size W (w4.setCell ⟨g3, k * 3 + 2, none⟩ (.bool false))) := ⟨HB3.out.1.setCell (Nat.le_trans SB.out hge3) _, by simpa [World.setCell] using HB3.out.2⟩
          have HL5 : Hid (OwnBr (w4.setCell ⟨g3, k * 3 + 2, none⟩ (.bool false)) B (.slice (some ⟨g1, 0, none⟩) l.length c1) l) := rowSame HL4.out fun b hb => Below.heap_setCell _ _ _ _ (fun e => by have h1 := (World.ownsRow.lt HLB.out b hb).2; have e' : b = g3 := e; omega)
          clear ho3' hge3
          go_wp2_with fail
          refine (serversFor_any _ _ _ l n HL5.out hl HG.out hn).mono ?_
          rintro e w6 ⟨v6, rfl, ho6, hb6⟩
          have S6 : Hid (Since W.heap.size W w6) := S5.out.step hb6
          have A6 : Hid (Own w6 0 v6 (servL l n)) := ho6.mono (Nat.zero_le _)
          have N6 : Hid (OwnBr w6 w2.heap.size (.slice (some ⟨g3, 0, none⟩) (l.set k { l[k] with up := false }).length c3) (l.set k { l[k] with up := false })) := by have := HN4.out.below hb6; rw [List.length_set]; exact this
          clear ho6 hb6
          have HLE : Hid ((l.set k { l[k] with up := false }).length = l.length) := List.length_set ..
          have C2 : Hid (∀ w, OwnBr w w2.heap.size (.slice (some ⟨g3, 0, none⟩) (l.set k { l[k] with up := false }).length c3) (l.set k { l[k] with up := false }) → Calls Try.prog 47 #[.slice (some ⟨g3, 0, none⟩) l.length c3, .int .i64 (n : Int)] w fun e W' => ∃ v', e = .returned v' ∧ Own W' w.heap.size v' (servL (l.set k { l[k] with up := false }) n) ∧ Below w.heap.size w W') := fun w ho => by
            have := serversFor_any w _ _ (l.set k { l[k] with up := false }) n ho (by rw [HLE.out]; exact hl) (good_set l k hkl false HG.out) hn
            rw [HLE.out] at this
            exact this
          go_wp2_with fail
          refine (C2.out _ N6.out).mono ?_
          rintro e w7 ⟨v7, rfl, ho7, hb7⟩
          have S7 : Hid (Since W.heap.size W w7) := S6.out.step hb7
          have A7 : Hid (Own w7 0 v6 (servL l n)) := A6.out.below hb7
          have B7 : Hid (Own w7 0 v7 (servL (l.set k { l[k] with up := false }) n)) := ho7.mono (Nat.zero_le _)
          clear ho7 hb7 A6 N6 HN4 C2 HLE
          obtain ⟨a6, c6, rfl⟩ := A7.out.shape
          obtain ⟨a7, c7, rfl⟩ := B7.out.shape
          rw [servL_len] at A7 B7
          rw [servL_len, servL_len]
          have HGO : Hid (goneL l id = l.set k { l[k] with up := false }) := HGN.out
          generalize hgn : l.set k { l[k] with up := false } = gn at *
          clear hgn
          have HS7 : Hid (Since w7.heap.size w7 w7) := Since.start w7
          go_wp2
          go_loopw [12, 50] (fun u i wr => ∃ j : Nat, j ≤ n ∧ i = .int .i64 j ∧ Hid (Own wr w7.heap.size u (movedL l gn j) ∧ Since w7.heap.size w7 wr)) (fun _ i _ => n - (intOf i).toNat)
          case atStart => exact ⟨0, Nat.zero_le _, rfl, Own.nil _ _, HS7.out⟩
          case round =>
            obtain ⟨j, hj, rfl, HJ⟩ := hrel
            obtain ⟨a8, c8, rfl⟩ := HJ.out.1.shape
            by_cases hlt : j < n
            · have hlt' : (j : Int) < (n : Int) := by omega
              obtain ⟨ga, ca, ea, hga, hca⟩ := cellOf A7.out (by rw [servL_len]; omega)
              obtain ⟨gb, cb, eb, hgb, hcb⟩ := cellOf B7.out (by rw [servL_len]; omega)
              rw [servL_len] at ea eb
              obtain ⟨rfl, -⟩ : a6 = some ⟨ga, 0, none⟩ ∧ c6 = ca := by simpa using ea
              obtain ⟨rfl, -⟩ : a7 = some ⟨gb, 0, none⟩ ∧ c7 = cb := by simpa using eb
              have q1 : wr.cell? ⟨ga, j, none⟩ = some (.int .i64 (servAt l j)) := by
                rw [HJ.out.2.1.cell (p := ⟨ga, j, none⟩) hga, hca j (by rw [servL_len]; exact hlt), servL_get]
              have q2 : wr.cell? ⟨gb, j, none⟩ = some (.int .i64 (servAt gn j)) := by
                rw [HJ.out.2.1.cell (p := ⟨gb, j, none⟩) hgb, hcb j (by rw [servL_len]; exact hlt), servL_get]
              clear ea eb hca hcb
              have HNO : Hid (servAt l j = servAt gn j → movedL l gn (j + 1) = movedL l gn j) := movedL_no l gn j
              have HYE : Hid (servAt l j ≠ servAt gn j → movedL l gn (j + 1) = movedL l gn j ++ [(j : Int)]) := movedL_yes l gn j
              generalize servAt l j = za at *
              generalize servAt gn j = zb at *
              by_cases he : za = zb
              · have HE : Hid (movedL l gn (j + 1) = movedL l gn j) := HNO.out he
                subst he
                have HJ1 : Hid (Own wr w7.heap.size (.slice a8 (movedL l gn j).length c8) (movedL l gn (j + 1)) ∧ Since w7.heap.size w7 wr) := by show _ ∧ _; rw [HE.out]; exact HJ.out
                clear HNO HYE HJ HE
                generalize (movedL l gn j).length = ml at *
                go_wp2
                go_quiet (fail)
                go_wp2
                go_roundw
                case rel => exact ⟨j + 1, by omega, by go_num, HJ1.out.1, HJ1.out.2.drewN nq⟩
                case measure => simp [intOf]; omega
              · have HE : Hid (movedL l gn (j + 1) = movedL l gn j ++ [(j : Int)]) := HYE.out he
                have hml : (movedL l gn j).length ≤ j := movedL_len l gn j
                have HO8 : Hid (Own wr w7.heap.size (.slice a8 (movedL l gn j).length c8) (movedL l gn j)) := HJ.out.1
                have HS8 : Hid (Since w7.heap.size w7 wr) := HJ.out.2
                have he2 : ¬ zb = za := fun e => he e.symm
                have HC8 : Hid (∀ (wx : World), Own wx w7.heap.size (.slice a8 (movedL l gn j).length c8) (movedL l gn j) → w7.heap.size ≤ wx.heap.size → ∀ ty, ∃ v' w', (Builtin.append_ #[27, 27] ty #[.slice a8 (movedL l gn j).length c8, .slice (some ⟨wx.heap.size, 0, none⟩) 1 1]).run Try.prog (wx.alloc (.cells #[.int .i64 (j : Int)] 3)) = .ok v' w' ∧ Grown (wx.alloc (.cells #[.int .i64 (j : Int)] 3)) w7.heap.size 3 1 (.slice a8 (movedL l gn j).length c8) (movedL l gn j ++ [(j : Int)]).length ((movedL l gn j ++ [(j : Int)]).map (Value.int .i64)) v' w') := fun wx ho hs ty =>
                  run_app1 _ _ _ (movedL l gn j) (ho.below ((Below.refl _ wx).alloc (Nat.le_refl _) _)) wx.heap.size 1 (j : Int) (new_cell _ _ _) (by omega) (by simp; omega) ty
                clear HNO HYE HJ
                go_wp2
                go_quiet (fail)
                have HC9 := HC8.out (wr.drewN nq) (rowSame HO8.out fun _ _ => rfl) (HS8.out.drewN nq).2
                go_wp2_with (at_builtin; refine list_app (by rfl) (.tmp 62) (.tmp 64) 27 (by rfl) (.slice a8 (movedL l gn j).length c8) (.slice (some ⟨wr.heap.size, 0, none⟩) 1 1) (by rfl) (by rfl) _ HC9 ?_; intro v9 w9 hg9; have HF : Hid (Own w9 w7.heap.size v9 (movedL l gn (j + 1)) ∧ Since w7.heap.size w7 w9) := ⟨by rw [HE.out]; exact hg9.own, ⟨((HS8.out.drewN nq).step ((Below.refl _ _).alloc (Nat.le_refl _) _)).1.trans hg9.below, Nat.le_trans ((HS8.out.drewN nq).step ((Below.refl _ _).alloc (Nat.le_refl _) (.cells #[.int .i64 (j : Int)] 3))).2 hg9.size⟩⟩; clear hg9)
                go_roundw
                case rel => exact ⟨j + 1, by omega, by go_num, HF.out⟩
                case measure => simp [intOf]; omega
            · have hlt' : ¬ (j : Int) < (n : Int) := by omega
              have e : j = n := by omega
              subst e
              have HZ : Hid (Own wr W.heap.size (.slice a8 (movedL l gn j).length c8) (movedOut l id (j : Int)) ∧ Below W.heap.size W wr) := ⟨by rw [HY.out.2, HGO.out]; exact HJ.out.1.mono S7.out.2, (S7.out.tran HJ.out.2).1⟩
              clear HJ
              go_wp2
              refine bodyPost_ret (results_tmp2 rfl _ _ _) rfl ?_
              rw [HY.out.1]
              exact ⟨_, rfl, HZ.out.1, HZ.out.2⟩
end Go.Proofs.Ytiimiiblhafajab
