/-
  'serversFor' of the program, 'l4Servers' of the model; 'isGroupCount'.
-/
import Derived.Test.YtiimiiblhafajabPrefT
import Derived.Test.YtiimiiblhafajabRowLaw0
namespace Go.Proofs.Ytiimiiblhafajab
open Go.RowKit
set_option linter.unusedVariables false

/-- Who serves group g. -/
def servAt (l : List BrD) (g : Nat) : Int := bestId (bestOf (prefB (g : Int)) l)
def servL (l : List BrD) (n : Nat) : List Int := (List.range n).map (servAt l)
theorem servL_len (l : List BrD) (n : Nat) : (servL l n).length = n := by simp [servL]
theorem servL_next (l : List BrD) (n : Nat) : servL l (n + 1) = servL l n ++ [servAt l n] := by simp [servL, List.range_succ]
theorem servL_get (l : List BrD) (n j : Nat) (h : j < (servL l n).length) : (servL l n)[j] = servAt l j := by simp [servL]

set_option maxRecDepth 100000 in
set_option maxHeartbeats 2000000 in
theorem serversFor_any (W : World) (B : Nat) (v : Value) (l : List BrD) (n : Nat) (h : OwnBr W B v l) (hl : l.length ≤ 1048576) (hg : goodBrs l = true) (hn : n ≤ 40) :
    Calls Try.prog 47 #[v, .int .i64 (n : Int)] W fun e W' => ∃ v', e = .returned v' ∧ Own W' W.heap.size v' (servL l n) ∧ Below W.heap.size W W' := by
  obtain ⟨a1, c1, rfl⟩ := h.shape
  have HS0 : Hid (Since W.heap.size W W) := Since.start W
  have HR : Hid (∀ w', Since W.heap.size W w' → ReadsBr w' (.slice a1 l.length c1) l) := fun w' hs => h.reads.below hs.1
  have hmf : ∀ (fn : Fn) (first cap : Array Value) (w : World), (Instr.makeFunc fn first cap).run Try.prog w = .ok (.func fn first cap) w := fun _ _ _ _ => rfl
  have HG : Hid (goodBrs l = true) := hg
  clear h hg
  go_enter Try.func47, Try.ntmps47
  go_wp2
  go_loopw [5, 8] (fun u i wr => ∃ k : Nat, k ≤ n ∧ i = .int .i64 k ∧ Hid (Own wr W.heap.size u (servL l k) ∧ Since W.heap.size W wr)) (fun _ i _ => n - (intOf i).toNat)
  case atStart => exact ⟨0, Nat.zero_le _, rfl, Own.nil _ _, HS0.out⟩
  case round =>
    obtain ⟨k, hk, rfl, HK⟩ := hrel
    obtain ⟨a2, c2, rfl⟩ := HK.out.1.shape
    have eL := servL_len l k
    rw [eL] at HK
    rw [eL]
    clear eL
    by_cases hlt : k < n
    · have hlt' : (k : Int) < (n : Int) := by omega
      obtain ⟨z, hz⟩ : ∃ z, z = servAt l k := ⟨_, rfl⟩
      have HZ : Hid (servL l (k + 1) = servL l k ++ [z]) := by show _ = _; rw [servL_next, hz]
      have CB : Hid (∀ w, Since W.heap.size W w → Calls Try.prog 31 #[.slice a1 l.length c1, .func (.func 52) #[.int .i64 (k : Int)] #[]] w fun e w' => e = .returned (.int .i64 z) ∧ Below w.heap.size w w') := fun w hs => by
        rw [hz]
        exact bestPref_any w _ l (k : Int) (HR.out _ hs) hl HG.out (by omega)
      clear hz
      go_wp2_with fail
      refine (CB.out _ HK.out.2).mono ?_
      rintro e wq ⟨rfl, hbq⟩
      have SQ : Hid (Since W.heap.size W wq) := HK.out.2.step hbq
      have OQ : Hid (Own wq W.heap.size (.slice a2 k c2) (servL l k)) := HK.out.1.below hbq
      clear HK hbq
      have hb1 : Below wq.heap.size wq (wq.alloc (.cells #[.int .i64 z] 3)) := (Below.refl _ wq).alloc (Nat.le_refl _) _
      have HC : Hid (∀ ty, ∃ v' w', (Builtin.append_ #[27, 27] ty #[.slice a2 k c2, .slice (some ⟨wq.heap.size, 0, none⟩) 1 1]).run Try.prog (wq.alloc (.cells #[.int .i64 z] 3)) = .ok v' w' ∧ Grown (wq.alloc (.cells #[.int .i64 z] 3)) W.heap.size 3 1 (.slice a2 k c2) (servL l k ++ [z]).length ((servL l k ++ [z]).map (Value.int .i64)) v' w') := fun ty =>
        run_app1 _ _ _ (servL l k) (OQ.out.below hb1) wq.heap.size 1 z (new_cell _ _ _) (by rw [servL_len]; omega) (by have := SQ.out.2; simp; omega) ty
      have SQ1 : Hid (Since W.heap.size W (wq.alloc (.cells #[.int .i64 z] 3))) := SQ.out.step hb1
      clear hb1
      go_wp2_with (at_builtin; refine list_app (by rfl) (.tmp 11) (.tmp 16) 27 (by rfl) (.slice a2 k c2) (.slice (some ⟨wq.heap.size, 0, none⟩) 1 1) (by rfl) (by rfl) _ HC.out ?_; intro v5 w5 hg5; have HF : Hid (Own w5 W.heap.size v5 (servL l (k + 1)) ∧ Since W.heap.size W w5) := ⟨by rw [HZ.out]; exact hg5.own, ⟨SQ1.out.1.trans hg5.below, Nat.le_trans SQ1.out.2 hg5.size⟩⟩; clear hg5)
      go_roundw
      case rel => exact ⟨k + 1, by omega, by go_num, HF.out⟩
      case measure => simp [intOf]; omega
    · have hlt' : ¬ (k : Int) < (n : Int) := by omega
      have e : k = n := by omega
      subst e
      go_wp2
      go_ret
      exact ⟨_, rfl, HK.out.1, HK.out.2.1⟩

theorem pref_later (g : Int) (x y : BrD) (h : y.id < x.id) : prefB g x y = decide (scoreB y.id g < scoreB x.id g) := by
  unfold prefB
  split
  · next e => rw [decide_eq_false (by omega), decide_eq_false (by omega)]
  · rfl

set_option maxRecDepth 100000 in
set_option maxHeartbeats 4000000 in
theorem l4Servers_any (W : World) (B : Nat) (v : Value) (l : List BrD) (n : Nat) (h : OwnBr W B v l) (hl : l.length ≤ 1048576) (hg : goodBrs l = true) (hn : n ≤ 40) :
    Calls Try.prog 49 #[v, .int .i64 (n : Int)] W fun e W' => ∃ v', e = .returned v' ∧ Own W' W.heap.size v' (servL l n) ∧ Below W.heap.size W W' := by
  obtain ⟨a1, cap1, rfl, hc1⟩ := h.reads
  obtain ⟨g1, o1, rfl, hg1, hc1⟩ := hc1.resolve_left (fun e => by have := (goodBrs_at l hg).1; rw [e] at this; simp at this)
  have HC1 : Hid (∀ W1, Since W.heap.size W W1 → ∀ j (hj : j < l.length), BrAt W1 g1 (o1 + j * 3) l[j]) := fun W1 hS j hj => (hc1 j hj).below hg1 hS.1
  have HS0 : Hid (Since W.heap.size W W) := Since.start W
  have HG : Hid (goodBrs l = true) := hg
  clear h hg hc1 hg1
  go_enter Try.func49, Try.ntmps49
  go_wp2
  go_loopw [5, 6] (fun u i wr => ∃ k : Nat, k ≤ n ∧ i = .int .i64 k ∧ Hid (Own wr W.heap.size u (servL l k) ∧ Since W.heap.size W wr)) (fun _ i _ => n - (intOf i).toNat)
  case atStart => exact ⟨0, Nat.zero_le _, rfl, Own.nil _ _, HS0.out⟩
  case round =>
    obtain ⟨k, hk, rfl, HK⟩ := hrel
    obtain ⟨a2, c2, rfl⟩ := HK.out.1.shape
    have eL := servL_len l k
    rw [eL] at HK
    rw [eL]
    clear eL
    by_cases hlt : k < n
    · have hlt' : (k : Int) < (n : Int) := by omega
      have hk40 : (k : Int) ≤ 40 := by omega
      generalize hwo : wr = wo at *
      clear hwo
      go_wp2
      go_loopw [7, 17] (fun bv i wr => ∃ j : Nat, j ≤ l.length ∧ i = .int .i64 j ∧ bv = .int .i64 (bestId (bestOf (prefB (k : Int)) (l.take j))) ∧ Hid (Below wo.heap.size wo wr)) (fun _ i _ => l.length - (intOf i).toNat)
      case atStart => exact ⟨0, Nat.zero_le _, rfl, rfl, Below.refl _ _⟩
      case round =>
        obtain ⟨j, hj, rfl, rfl, HQ⟩ := hrel
        by_cases hjl : j < l.length
        · have hjl' : (j : Int) < (l.length : Int) := by omega
          have HN : Hid (bestOf (prefB (k : Int)) (l.take (j + 1)) = bestStep (prefB (k : Int)) (bestOf (prefB (k : Int)) (l.take j)) l[j]) := best_next _ l j hjl
          have HLT : Hid (∀ y, bestOf (prefB (k : Int)) (l.take j) = some y → 1 ≤ y.id ∧ y.id ≤ 1000 ∧ prefB (k : Int) l[j] y = decide (scoreB y.id k < scoreB l[j].id k)) := fun y hy => by
            have hm := (bestOf_mem _ (l.take j) _ rfl y hy).1
            obtain ⟨i, hi, rfl⟩ := List.getElem_of_mem hm
            have hi' : i < j := by simp at hi; omega
            rw [List.getElem_take]
            have h1 := goodB_id _ (good_at l HG.out i (by omega))
            have h2 := good_rise l HG.out i j hi' hjl
            exact ⟨h1.1, h1.2.1, pref_later _ _ _ h2⟩
          have HI : Hid (1 ≤ l[j].id ∧ l[j].id ≤ 1000) := by have := goodB_id _ (good_at l HG.out j hjl); exact ⟨this.1, this.2.1⟩
          obtain ⟨q0, q1, q2⟩ := HC1.out wr (HK.out.2.step HQ.out) j hjl
          generalize l[j] = x at *
          generalize bestOf (prefB (k : Int)) (l.take j) = o at *
          cases hu : x.up with
          | false =>
            have HN1 : Hid (bestOf (prefB (k : Int)) (l.take (j + 1)) = o) := by show _ = _; rw [HN.out]; unfold bestStep; rw [hu]; rfl
            have HB1 : Hid (Below wo.heap.size wo (wr.alloc (.cells #[.int .i64 x.id, .int .i64 x.rank, .bool false] 35))) := HQ.out.alloc HQ.out.size _
            rw [hu] at q2
            clear HQ hu HN HLT HI
            obtain ⟨bid, hbid⟩ : ∃ bid, bestId o = bid := ⟨_, rfl⟩
            have HBI : Hid (bestId o = bid) := hbid
            rw [hbid]
            clear hbid
            go_wp2
            go_roundw
            case rel => exact ⟨j + 1, by omega, by go_num, by rw [HN1.out, HBI.out], HB1.out⟩
            case measure => simp [intOf]; omega
          | true =>
            have HB1 : Hid (Below wo.heap.size wo (wr.alloc (.cells #[.int .i64 x.id, .int .i64 x.rank, .bool true] 35))) := HQ.out.alloc HQ.out.size _
            rw [hu] at q2
            cases o with
            | none =>
              have HN1 : Hid (.int .i64 x.id = Value.int .i64 (bestId (bestOf (prefB (k : Int)) (l.take (j + 1))))) := by show _ = _; rw [HN.out]; unfold bestStep; rw [hu]; rfl
              clear HQ hu HN HLT HI
              simp only [bestId]
              go_wp2
              go_roundw
              case rel => exact ⟨j + 1, by omega, by go_num, HN1.out, HB1.out⟩
              case measure => simp [intOf]; omega
            | some y =>
              obtain ⟨hy1, hy2, hpf⟩ := HLT.out y rfl
              obtain ⟨hx1, hx2⟩ := HI.out
              obtain ⟨sx, hsx⟩ : ∃ s, scoreB x.id k = s := ⟨_, rfl⟩
              obtain ⟨sy, hsy⟩ : ∃ s, scoreB y.id k = s := ⟨_, rfl⟩
              have CX : Hid (∀ w, Calls Try.prog 53 #[.int .i64 x.id, .int .i64 (k : Int)] w fun e w' => e = .returned (.int .i64 sx) ∧ w' = w) := fun w => by rw [← hsx]; exact l4Score_any w x.id k (by omega) (by omega)
              have CY : Hid (∀ w, Calls Try.prog 53 #[.int .i64 y.id, .int .i64 (k : Int)] w fun e w' => e = .returned (.int .i64 sy) ∧ w' = w) := fun w => by rw [← hsy]; exact l4Score_any w y.id k (by omega) (by omega)
              rw [hsx, hsy] at hpf
              have hy0 : ¬ y.id = 0 := by omega
              simp only [bestId]
              by_cases hss : sy < sx
              · have HN1 : Hid (.int .i64 x.id = Value.int .i64 (bestId (bestOf (prefB (k : Int)) (l.take (j + 1))))) := by
                  show _ = _
                  rw [HN.out]
                  unfold bestStep
                  rw [hu]
                  simp only [if_true, hpf, decide_eq_true hss]
                  rfl
                clear HQ hu HN HLT HI hpf hsx hsy hy1 hy2 hx1 hx2
                have hd := decide_eq_true hss
                go_wp2_with fail
                refine (CX.out _).mono ?_
                rintro e w7 ⟨rfl, hw7⟩
                obtain rfl := hw7.symm
                go_wp2_with fail
                refine (CY.out _).mono ?_
                rintro e w8 ⟨rfl, hw8⟩
                obtain rfl := hw8.symm
                go_wp2
                go_roundw
                case rel => exact ⟨j + 1, by omega, by go_num, HN1.out, HB1.out⟩
                case measure => simp [intOf]; omega
              · have HN1 : Hid (.int .i64 y.id = Value.int .i64 (bestId (bestOf (prefB (k : Int)) (l.take (j + 1))))) := by
                  show _ = _
                  rw [HN.out]
                  unfold bestStep
                  rw [hu]
                  simp only [if_true, hpf, decide_eq_false hss]
                  rfl
                clear HQ hu HN HLT HI hpf hsx hsy hy1 hy2 hx1 hx2
                have hd := decide_eq_false hss
                go_wp2_with fail
                refine (CX.out _).mono ?_
                rintro e w7 ⟨rfl, hw7⟩
                obtain rfl := hw7.symm
                go_wp2_with fail
                refine (CY.out _).mono ?_
                rintro e w8 ⟨rfl, hw8⟩
                obtain rfl := hw8.symm
                go_wp2
                go_roundw
                case rel => exact ⟨j + 1, by omega, by go_num, HN1.out, HB1.out⟩
                case measure => simp [intOf]; omega
        · generalize hwq : wr = wq at *
          clear hwq
          have hjl' : ¬ (j : Int) < (l.length : Int) := by omega
          have en : l.take j = l := List.take_of_length_le (by omega)
          rw [en]
          clear en
          obtain ⟨z, hz⟩ : ∃ z, z = servAt l k := ⟨_, rfl⟩
          have HZ : Hid (servL l (k + 1) = servL l k ++ [z]) := by show _ = _; rw [servL_next, hz]
          rw [show bestId (bestOf (prefB (k : Int)) l) = z from hz.symm]
          have SQ : Hid (Since W.heap.size W wq) := HK.out.2.step HQ.out
          have OQ : Hid (Own wq W.heap.size (.slice a2 k c2) (servL l k)) := HK.out.1.below HQ.out
          clear HK HQ hz
          have hb1 : Below wq.heap.size wq (wq.alloc (.cells #[.int .i64 z] 3)) := (Below.refl _ wq).alloc (Nat.le_refl _) _
          have HC : Hid (∀ ty, ∃ v' w', (Builtin.append_ #[27, 27] ty #[.slice a2 k c2, .slice (some ⟨wq.heap.size, 0, none⟩) 1 1]).run Try.prog (wq.alloc (.cells #[.int .i64 z] 3)) = .ok v' w' ∧ Grown (wq.alloc (.cells #[.int .i64 z] 3)) W.heap.size 3 1 (.slice a2 k c2) (servL l k ++ [z]).length ((servL l k ++ [z]).map (Value.int .i64)) v' w') := fun ty =>
            run_app1 _ _ _ (servL l k) (OQ.out.below hb1) wq.heap.size 1 z (new_cell _ _ _) (by rw [servL_len]; omega) (by have := SQ.out.2; simp; omega) ty
          have SQ1 : Hid (Since W.heap.size W (wq.alloc (.cells #[.int .i64 z] 3))) := SQ.out.step hb1
          clear hb1
          go_wp2_with (at_builtin; refine list_app (by rfl) (.tmp 40) (.tmp 42) 27 (by rfl) (.slice a2 k c2) (.slice (some ⟨wq.heap.size, 0, none⟩) 1 1) (by rfl) (by rfl) _ HC.out ?_; intro v5 w5 hg5; have HF : Hid (Own w5 W.heap.size v5 (servL l (k + 1)) ∧ Since W.heap.size W w5) := ⟨by rw [HZ.out]; exact hg5.own, ⟨SQ1.out.1.trans hg5.below, Nat.le_trans SQ1.out.2 hg5.size⟩⟩; clear hg5)
          go_roundw
          case rel => exact ⟨k + 1, by omega, by go_num, HF.out⟩
          case measure => simp [intOf]; omega
    · have hlt' : ¬ (k : Int) < (n : Int) := by omega
      have e : k = n := by omega
      subst e
      go_wp2
      go_ret
      exact ⟨_, rfl, HK.out.1, HK.out.2.1⟩
end Go.Proofs.Ytiimiiblhafajab
