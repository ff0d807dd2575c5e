/-
  'SyncBy' of the program.
-/
import Derived.Test.YtkpdiojomgiocacLsCutI
import Derived.Test.YtkpdiojomgiocacLsNb
import Derived.Test.YtkpdiojomgiocacLsMerge
namespace Go.Proofs.Ytkpdiojomgiocac
open Go.RowKit
set_option linter.unusedVariables false

theorem cut_parts (m : Nat) : ∀ (n : Nat) (lo : Int) (l : List HvD), Rise l ∧ FitHv l → ∀ s ∈ cutGo m n lo l, Rise s.Hs ∧ FitHv s.Hs
  | 0, lo, l, h, s, hs => by simp [cutGo] at hs; subst hs; exact h
  | n + 1, lo, l, h, s, hs => by
    unfold cutGo at hs
    split at hs
    · rcases List.mem_cons.1 hs with rfl | hs
      · exact ⟨List.Pairwise.sublist (List.take_sublist _ _) h.1, fun x hx => h.2 x (List.mem_of_mem_take hx)⟩
      · exact cut_parts m n _ _ ⟨List.Pairwise.sublist (List.drop_sublist _ _) h.1, fun x hx => h.2 x (List.mem_of_mem_drop hx)⟩ s hs
    · simp at hs; subst hs; exact h
theorem cut_some (m : Nat) : ∀ (n : Nat) (lo : Int) (l : List HvD), 1 ≤ (cutGo m n lo l).length
  | 0, lo, l => by simp [cutGo]
  | n + 1, lo, l => by unfold cutGo; split <;> simp
theorem cut_few (m : Nat) : ∀ (n : Nat) (lo : Int) (l : List HvD), (cutGo m n lo l).length ≤ n + 1
  | 0, lo, l => by simp [cutGo]
  | n + 1, lo, l => by
    unfold cutGo
    split
    · have := cut_few m n ((l.getD (m - 1) hv0).From + 1) (l.drop m)
      simp only [List.length_cons]
      omega
    · simp
def SyOk (t : SyD) : Prop := (Rise t.A ∧ FitHv t.A) ∧ Rise t.B ∧ FitHv t.B
def syAt (ps : List SmD) (a b : List HvD) (k : Nat) : SyD := (ps.take k).foldl syncStep ⟨a, b, 0⟩
theorem syAt_next (ps : List SmD) (a b : List HvD) (k : Nat) (h : k < ps.length) : syAt ps a b (k + 1) = syncStep (syAt ps a b k) ps[k] := by
  unfold syAt
  rw [List.take_succ_eq_append_getElem h, List.foldl_append]
  rfl
theorem syAt_all (m : Nat) (a b : List HvD) : syAt (cutHv m a) a b (cutHv m a).length = syncHv a b m := by
  unfold syAt syncHv
  rw [List.take_length]
theorem syAt_ok (ps : List SmD) (a b : List HvD) (ha : Rise a ∧ FitHv a) (hb : Rise b ∧ FitHv b) (hp : ∀ s ∈ ps, Rise s.Hs ∧ FitHv s.Hs) : ∀ k, k ≤ ps.length → SyOk (syAt ps a b k) ∧ (syAt ps a b k).N ≤ k * 2000
  | 0, _ => ⟨⟨ha, hb⟩, Nat.zero_le _⟩
  | k + 1, h => by
    have ih := syAt_ok ps a b ha hb hp k (by omega)
    have hs := hp ps[k] (List.getElem_mem (by omega))
    rw [syAt_next ps a b k (by omega)]
    refine ⟨step_keeps ih.1.1 ih.1.2 hs, ?_⟩
    have h1 := rise_len hs.1 hs.2
    have h2 := rise_len ih.1.2.1 ih.1.2.2
    have h3 := List.length_filter_le (fun x : HvD => decide (seqIn (syAt ps a b k).B x.From < x.Seq)) ps[k].Hs
    have h4 := List.length_filter_le (fun x : HvD => decide (ps[k].Lo ≤ x.From ∧ x.From ≤ ps[k].Hi) && decide (seqIn ps[k].Hs x.From < x.Seq)) (syAt ps a b k).B
    have e : (syncStep (syAt ps a b k) ps[k]).N = (syAt ps a b k).N + (newsHv ps[k].Hs (syAt ps a b k).B).length + (beyondHv (syAt ps a b k).B ps[k]).length := rfl
    rw [e, beyondHv_eq]
    have := ih.2
    have e2 : (newsHv ps[k].Hs (syAt ps a b k).B).length ≤ 1000 := Nat.le_trans h3 h1
    omega
def syncOk (a b : List HvD) (most : Int) : Bool := goodHv a && goodHv b && decide (1 ≤ most ∧ most ≤ 30) && goodHv (syncHv a b most.toNat).A && goodHv (syncHv a b most.toNat).B
def syncA (a b : List HvD) (most : Int) : List HvD := if syncOk a b most then (syncHv a b most.toNat).A else []
def syncB (a b : List HvD) (most : Int) : List HvD := if syncOk a b most then (syncHv a b most.toNat).B else []
def syncN (a b : List HvD) (most : Int) : Int := if syncOk a b most then ((syncHv a b most.toNat).N : Int) else 0
theorem sync_no {a b : List HvD} {most : Int} (h : syncOk a b most = false) : syncA a b most = [] ∧ syncB a b most = [] ∧ syncN a b most = 0 := ⟨by unfold syncA; rw [h]; rfl, by unfold syncB; rw [h]; rfl, by unfold syncN; rw [h]; rfl⟩
theorem sync_yes {a b : List HvD} {most : Int} (h : syncOk a b most = true) : syncA a b most = (syncHv a b most.toNat).A ∧ syncB a b most = (syncHv a b most.toNat).B ∧ syncN a b most = ((syncHv a b most.toNat).N : Int) := ⟨by unfold syncA; rw [h]; rfl, by unfold syncB; rw [h]; rfl, by unfold syncN; rw [h]; rfl⟩
theorem syncA_len (a b : List HvD) (most : Int) : (syncA a b most).length ≤ 4194304 := by
  unfold syncA
  split
  · next h =>
    unfold syncOk at h
    simp only [Bool.and_eq_true] at h
    have := (goodHv_true h.1.2).1
    omega
  · simp
theorem syncB_len (a b : List HvD) (most : Int) : (syncB a b most).length ≤ 4194304 := by
  unfold syncB
  split
  · next h =>
    unfold syncOk at h
    simp only [Bool.and_eq_true] at h
    have := (goodHv_true h.2).1
    omega
  · simp
def SyncPost (W : World) (x y : List HvD) (n : Int) (ok : Bool) (e : Ending) (W' : World) : Prop := ∃ u1 u2, e = .returned (.tuple #[u1, u2, .int .i64 n, .bool ok]) ∧ OwnHv W' W.heap.size u1 x ∧ OwnHv W' W.heap.size u2 y ∧ (∀ k, u1.ownBlock = some k → u2.ownBlock ≠ some k) ∧ Below W.heap.size W W'
theorem SyncPost.zero {W W' : World} (hb : Below W.heap.size W W') : SyncPost W [] [] 0 false (.returned (.tuple #[.slice none 0 0, .slice none 0 0, .int .i64 0, .bool false])) W' := ⟨_, _, rfl, OwnHv.nil _ _, OwnHv.nil _ _, fun k hk => by simp [Value.ownBlock] at hk, hb⟩
theorem sync_bad1 {a b : List HvD} {most : Int} (h : goodHv a = false) : syncOk a b most = false := by unfold syncOk; rw [h]; rfl
theorem sync_bad2 {a b : List HvD} {most : Int} (h : goodHv b = false) : syncOk a b most = false := by unfold syncOk; rw [h, Bool.and_false]; rfl
theorem sync_bad3 {a b : List HvD} {most : Int} (h : ¬ (1 ≤ most ∧ most ≤ 30)) : syncOk a b most = false := by unfold syncOk; rw [decide_eq_false h, Bool.and_false]; rfl
theorem sync_ok4 {a b : List HvD} {m : Nat} (ha : goodHv a = true) (hb : goodHv b = true) (h1 : 1 ≤ m) (h2 : m ≤ 30) : syncOk a b (m : Int) = (goodHv (syncHv a b m).A && goodHv (syncHv a b m).B) := by
  unfold syncOk
  rw [ha, hb, decide_eq_true (show 1 ≤ (m : Int) ∧ (m : Int) ≤ 30 by omega), Int.toNat_natCast]
  rfl

/-- What a part of the list of parts gives, wherever the world has gone since. -/
theorem parts_at {W : World} {B : Nat} {a : Option Addr} {c : Nat} {es : List SmE} (h : OwnSm W B (.slice a es.length c) es) (hn : 0 < es.length) : ∃ g, a = some ⟨g, 0, none⟩ ∧ ∀ wr, Below W.heap.size W wr → ∀ j (hj : j < es.length), (wr.cell? ⟨g, j * 3, none⟩ = some (.int .i64 es[j].s.Lo) ∧ wr.cell? ⟨g, j * 3 + 1, none⟩ = some (.int .i64 es[j].s.Hi) ∧ wr.cell? ⟨g, j * 3 + 2, none⟩ = some es[j].u) ∧ LiesHv wr es[j].u es[j].s.Hs := by
  obtain ⟨-, g, rfl, hg, hc⟩ := h.at (List.length_pos_iff.1 hn)
  refine ⟨g, rfl, fun wr hb j hj => ⟨?_, ((h.inner j hj).below hb).lies⟩⟩
  obtain ⟨c0, c1, c2⟩ := hc j hj
  exact ⟨(hb.cell (p := ⟨g, j * 3, none⟩) hg).trans c0, (hb.cell (p := ⟨g, j * 3 + 1, none⟩) hg).trans c1, (hb.cell (p := ⟨g, j * 3 + 2, none⟩) hg).trans c2⟩

/-- What the loop keeps. -/
structure Syn (W : World) (ps : List SmD) (a b : List HvD) (k : Nat) (v1 v2 : Value) (wr : World) : Prop where
  l1 : LiesHv wr v1 (syAt ps a b k).A
  l2 : LiesHv wr v2 (syAt ps a b k).B
  below : Below W.heap.size W wr
  own : 0 < k → OwnHv wr W.heap.size v1 (syAt ps a b k).A ∧ OwnHv wr W.heap.size v2 (syAt ps a b k).B ∧ ∀ q, v1.ownBlock = some q → v2.ownBlock ≠ some q
theorem isMost_any (W : World) (x : Int) : Calls Try.prog 29 #[.int .i64 x] W fun e W' => e = .returned (.bool (decide (1 ≤ x ∧ x ≤ 30))) ∧ W' = W := by
  by_cases h1 : 1 ≤ x
  · by_cases h2 : x ≤ 30
    · rw [decide_eq_true (show 1 ≤ x ∧ x ≤ 30 from ⟨h1, h2⟩)]
      have d1 : decide (1 ≤ x) = true := decide_eq_true h1
      have d2 : decide (x ≤ 30) = true := decide_eq_true h2
      go_enter Try.func29, Try.ntmps29
      go_wp2
      go_ret
      exact ⟨rfl, rfl⟩
    · rw [decide_eq_false (show ¬ (1 ≤ x ∧ x ≤ 30) from fun h => h2 h.2)]
      have d1 : decide (1 ≤ x) = true := decide_eq_true h1
      have d2 : decide (x ≤ 30) = false := decide_eq_false h2
      go_enter Try.func29, Try.ntmps29
      go_wp2
      go_ret
      exact ⟨rfl, rfl⟩
  · rw [decide_eq_false (show ¬ (1 ≤ x ∧ x ≤ 30) from fun h => h1 h.1)]
    have d1 : decide (1 ≤ x) = false := decide_eq_false h1
    go_enter Try.func29, Try.ntmps29
    go_wp2
    go_ret
    exact ⟨rfl, rfl⟩

set_option maxRecDepth 100000 in
set_option maxHeartbeats 8000000 in
theorem implSyncBy_any (W : World) (v1 v2 : Value) (a b : List HvD) (most : Int) (h1 : LiesHv W v1 a) (h2 : LiesHv W v2 b) (hla : a.length ≤ 1048576) (hlb : b.length ≤ 1048576) :
    Calls Try.prog 6 #[v1, v2, .int .i64 most] W (SyncPost W (syncA a b most) (syncB a b most) (syncN a b most) (syncOk a b most)) := by
  obtain ⟨a1, c1, rfl⟩ := h1.shape
  obtain ⟨a2, c2, rfl⟩ := h2.shape
  have CA : Hid (Calls Try.prog 22 #[.slice a1 a.length c1] W fun e W' => e = .returned (.bool (goodHv a)) ∧ Below W.heap.size W W') := implGoodHv_any W _ a h1.reads (by omega)
  have CB : Hid (∀ w', Below W.heap.size W w' → Calls Try.prog 22 #[.slice a2 b.length c2] w' fun e W' => e = .returned (.bool (goodHv b)) ∧ Below w'.heap.size w' W') := fun w' hb => implGoodHv_any w' _ b (h2.below hb).reads (by omega)
  have H1 : Hid (∀ w', Below W.heap.size W w' → LiesHv w' (.slice a1 a.length c1) a ∧ LiesHv w' (.slice a2 b.length c2) b) := fun w' hb => ⟨h1.below hb, h2.below hb⟩
  clear h1 h2
  have fin0 : Hid (∀ w', Below W.heap.size W w' → syncOk a b most = false → SyncPost W (syncA a b most) (syncB a b most) (syncN a b most) (syncOk a b most) (.returned (.tuple #[.slice none 0 0, .slice none 0 0, .int .i64 0, .bool false])) w') := fun w' hb ho => by
    rw [(sync_no ho).1, (sync_no ho).2.1, (sync_no ho).2.2, ho]
    exact SyncPost.zero hb
  cases hga : goodHv a with
  | false =>
    have HO : Hid (syncOk a b most = false) := sync_bad1 hga
    rw [hga] at CA
    clear hga
    go_enter Try.func6, Try.ntmps6
    go_wp2_with fail
    refine CA.out.mono ?_
    rintro e w1 ⟨rfl, hb1⟩
    have HB1 : Hid (Below W.heap.size W w1) := hb1
    clear hb1
    go_wp2
    refine bodyPost_ret (v := .tuple #[.slice none 0 0, .slice none 0 0, .int .i64 0, .bool false]) (by simp [results, Try.results6, go_sem]) rfl ?_
    exact fin0.out _ HB1.out HO.out
  | true =>
    rw [hga] at CA
    cases hgb : goodHv b with
    | false =>
      have HO : Hid (syncOk a b most = false) := sync_bad2 hgb
      rw [hgb] at CB
      clear hga hgb
      go_enter Try.func6, Try.ntmps6
      go_wp2_with fail
      refine CA.out.mono ?_
      rintro e w1 ⟨rfl, hb1⟩
      have HB1 : Hid (Below W.heap.size W w1) := hb1
      clear hb1
      go_wp2_with fail
      refine (CB.out _ HB1.out).mono ?_
      rintro e w2 ⟨rfl, hb2⟩
      have HB2 : Hid (Below W.heap.size W w2) := HB1.out.trans (hb2.mono HB1.out.size)
      clear hb2
      go_wp2
      refine bodyPost_ret (v := .tuple #[.slice none 0 0, .slice none 0 0, .int .i64 0, .bool false]) (by simp [results, Try.results6, go_sem]) rfl ?_
      exact fin0.out _ HB2.out HO.out
    | true =>
      rw [hgb] at CB
      by_cases hm : 1 ≤ most ∧ most ≤ 30
      · obtain ⟨m, rfl⟩ : ∃ m : Nat, most = (m : Int) := ⟨most.toNat, by omega⟩
        have hm1 : 1 ≤ m := by omega
        have hm2 : m ≤ 30 := by omega
        have HI : Hid (decide (1 ≤ (m : Int) ∧ (m : Int) ≤ 30) = true) := decide_eq_true hm
        have ha := goodHv_true hga
        have hb0 := goodHv_true hgb
        have HOK : Hid (syncOk a b (m : Int) = (goodHv (syncHv a b m).A && goodHv (syncHv a b m).B)) := sync_ok4 hga hgb hm1 hm2
        have HYES : Hid (syncOk a b (m : Int) = true → syncA a b (m : Int) = (syncHv a b m).A ∧ syncB a b (m : Int) = (syncHv a b m).B ∧ syncN a b (m : Int) = ((syncHv a b m).N : Int)) := fun h => by
          have := sync_yes h
          rwa [Int.toNat_natCast] at this
        have CC : Hid (∀ w', Below W.heap.size W w' → Calls Try.prog 30 #[.slice a1 a.length c1, .int .i64 (m : Int)] w' fun e W' => ∃ v' es, e = .returned v' ∧ OwnSm W' w'.heap.size v' es ∧ es.map SmE.s = cutHv m a ∧ Below w'.heap.size w' W') := fun w' hb => cutHaves_any w' _ a m (H1.out w' hb).1 (by omega) ha.2.1 hm1 hm2
        have HPP : Hid (∀ s ∈ cutHv m a, Rise s.Hs ∧ FitHv s.Hs) := cut_parts m a.length 1 a ⟨ha.2.2, ha.2.1⟩
        have HP1 : Hid (1 ≤ (cutHv m a).length ∧ (cutHv m a).length ≤ 31) := ⟨cut_some m _ _ _, Nat.le_trans (cut_few m a.length 1 a) (by omega)⟩
        have HSY : Hid (∀ k, k ≤ (cutHv m a).length → SyOk (syAt (cutHv m a) a b k) ∧ (syAt (cutHv m a) a b k).N ≤ k * 2000) := syAt_ok _ a b ⟨ha.2.2, ha.2.1⟩ ⟨hb0.2.2, hb0.2.1⟩ HPP.out
        have HALL : Hid (syAt (cutHv m a) a b (cutHv m a).length = syncHv a b m) := syAt_all m a b
        clear hm ha hb0 hga hgb
        go_enter Try.func6, Try.ntmps6
        go_wp2_with fail
        refine CA.out.mono ?_
        rintro e w1 ⟨rfl, hb1⟩
        have HB1 : Hid (Below W.heap.size W w1) := hb1
        clear hb1
        go_wp2_with fail
        refine (CB.out _ HB1.out).mono ?_
        rintro e w2 ⟨rfl, hb2⟩
        have HB2 : Hid (Below W.heap.size W w2) := HB1.out.trans (hb2.mono HB1.out.size)
        clear hb2
        go_wp2_with fail
        refine (isMost_any _ _).mono ?_
        rintro e w3 ⟨rfl, hw3⟩
        obtain rfl : w2 = w3 := hw3.symm
        rw [HI.out]
        go_wp2_with fail
        refine (CC.out _ HB2.out).mono ?_
        rintro e w4 ⟨v4, es, rfl, ho4, he4, hb4⟩
        have HB4 : Hid (Below W.heap.size W w4) := HB2.out.trans (hb4.mono HB2.out.size)
        have hes : es.length = (cutHv m a).length := by rw [← he4, List.length_map]
        have hes1 := HP1.out
        obtain ⟨a4, c4, rfl⟩ := ho4.shape
        obtain ⟨g4, ha4, hp4⟩ := parts_at ho4 (by omega)
        subst ha4
        have HP4 : Hid (∀ wr, Below w4.heap.size w4 wr → ∀ j (hj : j < es.length), (wr.cell? ⟨g4, j * 3, none⟩ = some (.int .i64 es[j].s.Lo) ∧ wr.cell? ⟨g4, j * 3 + 1, none⟩ = some (.int .i64 es[j].s.Hi) ∧ wr.cell? ⟨g4, j * 3 + 2, none⟩ = some es[j].u) ∧ LiesHv wr es[j].u es[j].s.Hs) := hp4
        have HNX : Hid (∀ k (hk : k < es.length), syAt (cutHv m a) a b (k + 1) = syncStep (syAt (cutHv m a) a b k) es[k].s ∧ (Rise es[k].s.Hs ∧ FitHv es[k].s.Hs)) := fun k hk => by
          have e2 : (cutHv m a)[k]'(by omega) = es[k].s := by
            have : (es.map SmE.s)[k]'(by simpa using hk) = es[k].s := by simp
            rw [← this]
            congr 1
            exact he4.symm
          refine ⟨?_, ?_⟩
          · rw [syAt_next _ _ _ k (by omega), e2]
          · rw [← e2]; exact HPP.out _ (List.getElem_mem _)
        have HLE : Hid (es.length = (cutHv m a).length) := hes
        have hes2 : es.length ≤ 31 := by omega
        have hes3 : 1 ≤ es.length := by omega
        have HS0 : Hid (Syn W (cutHv m a) a b 0 (.slice a1 a.length c1) (.slice a2 b.length c2) w4) := ⟨(H1.out w4 HB4.out).1, (H1.out w4 HB4.out).2, HB4.out, fun h => absurd h (Nat.lt_irrefl 0)⟩
        have HW4 : Hid (W.heap.size ≤ w4.heap.size) := HB4.out.size
        clear ho4 he4 hb4 hp4 hes hes1 CC CA CB
        generalize cutHv m a = ps at *
        go_wp2
        go_loopw [0, 1, 10, 32] (fun u v n i wr => ∃ (k : Nat) (x1 : Option Addr) (y1 : Nat) (x2 : Option Addr) (y2 : Nat), k ≤ es.length ∧ i = .int .i64 k ∧ n = .int .i64 ((syAt ps a b k).N : Int) ∧ u = .slice x1 (syAt ps a b k).A.length y1 ∧ v = .slice x2 (syAt ps a b k).B.length y2 ∧ Hid (Syn W ps a b k (.slice x1 (syAt ps a b k).A.length y1) (.slice x2 (syAt ps a b k).B.length y2) wr ∧ Below w4.heap.size w4 wr)) (fun _ _ _ i _ => es.length - (intOf i).toNat)
        case atStart => exact ⟨0, a1, c1, a2, c2, Nat.zero_le _, rfl, rfl, rfl, rfl, HS0.out, Below.refl _ _⟩
        case round =>
          obtain ⟨k, x1, y1, x2, y2, hk, rfl, rfl, rfl, rfl, HK⟩ := hrel
          by_cases hlt : k < es.length
          · have hlt' : (k : Int) < (es.length : Int) := by omega
            obtain ⟨⟨p0, p1, p2⟩, pl⟩ := HP4.out wr HK.out.2 k hlt
            obtain ⟨HN, hsg⟩ := HNX.out k hlt
            obtain ⟨hok, hNN⟩ := HSY.out k (by have := HLE.out; omega)
            have HK1 : Hid (Syn W ps a b k (.slice x1 (syAt ps a b k).A.length y1) (.slice x2 (syAt ps a b k).B.length y2) wr) := HK.out.1
            have HK2 : Hid (Below w4.heap.size w4 wr) := HK.out.2
            clear HK
            generalize es[k] = x at *
            obtain ⟨s, u⟩ := x
            simp only at p0 p1 p2 pl HN hsg
            obtain ⟨xa, xc, rfl⟩ := pl.shape
            have L1 : Hid (LiesHv wr (.slice x1 (syAt ps a b k).A.length y1) (syAt ps a b k).A ∧ LiesHv wr (.slice x2 (syAt ps a b k).B.length y2) (syAt ps a b k).B ∧ LiesHv wr (.slice xa s.Hs.length xc) s.Hs) := ⟨HK1.out.l1, HK1.out.l2, pl⟩
            have HBW : Hid (Below W.heap.size W wr) := HK1.out.below
            have HOKT : Hid (SyOk (syAt ps a b k)) := hok
            have HSG : Hid (Rise s.Hs ∧ FitHv s.Hs) := hsg
            clear HK1 pl hok hsg
            generalize ht : syAt ps a b k = t at *
            generalize ht2 : syAt ps a b (k + 1) = t2 at *
            have HT2 : Hid (t2.A = mergeHv t.A (beyondHv t.B s) ∧ t2.B = mergeHv t.B (newsHv s.Hs t.B) ∧ (t2.N : Int) = (t.N : Int) + (((newsHv s.Hs t.B).length : Int) + ((beyondHv t.B s).length : Int))) := ⟨by rw [HN]; rfl, by rw [HN]; rfl, by
              rw [HN]
              show ((t.N + (newsHv s.Hs t.B).length + (beyondHv t.B s).length : Nat) : Int) = _
              omega⟩
            have hnl : (newsHv s.Hs t.B).length ≤ 1000 ∧ (beyondHv t.B s).length ≤ 1000 := by
              have h1 := rise_len HSG.out.1 HSG.out.2
              have h2 := rise_len HOKT.out.2.1 HOKT.out.2.2
              have h3 := List.length_filter_le (fun x : HvD => decide (seqIn t.B x.From < x.Seq)) s.Hs
              have h4 := List.length_filter_le (fun x : HvD => decide (s.Lo ≤ x.From ∧ x.From ≤ s.Hi) && decide (seqIn s.Hs x.From < x.Seq)) t.B
              refine ⟨Nat.le_trans h3 h1, ?_⟩
              rw [beyondHv_eq]
              exact Nat.le_trans h4 h2
            have CNB : Hid (∀ w', Below wr.heap.size wr w' → Calls Try.prog 31 #[.slice x2 t.B.length y2, .agg #[.int .i64 s.Lo, .int .i64 s.Hi, .slice xa s.Hs.length xc]] w' fun e W' => ∃ u1 u2, e = .returned (.tuple #[u1, u2]) ∧ OwnHv W' w'.heap.size u1 (newsHv s.Hs t.B) ∧ OwnHv W' w'.heap.size u2 (beyondHv t.B s) ∧ (∀ k, u1.ownBlock = some k → u2.ownBlock ≠ some k) ∧ Below w'.heap.size w' W') := fun w' hb => newsBetween_any w' _ _ t.B s (L1.out.2.1.below hb) (L1.out.2.2.below hb) HOKT.out.2 HSG.out
            have CM1 : Hid (∀ w' z, Below wr.heap.size wr w' → LiesHv w' z (beyondHv t.B s) → Calls Try.prog 32 #[.slice x1 t.A.length y1, z] w' fun e W' => ∃ v, e = .returned v ∧ OwnHv W' w'.heap.size v (mergeHv t.A (beyondHv t.B s)) ∧ Below w'.heap.size w' W') := fun w' z hb hz => mergeHaves_any w' _ _ t.A _ (L1.out.1.below hb).reads hz.reads HOKT.out.1 ⟨by rw [beyondHv_eq]; exact filter_rise HOKT.out.2.1 _, by rw [beyondHv_eq]; exact filter_fit HOKT.out.2.2 _⟩
            have CM2 : Hid (∀ w' z, Below wr.heap.size wr w' → LiesHv w' z (newsHv s.Hs t.B) → Calls Try.prog 32 #[.slice x2 t.B.length y2, z] w' fun e W' => ∃ v, e = .returned v ∧ OwnHv W' w'.heap.size v (mergeHv t.B (newsHv s.Hs t.B)) ∧ Below w'.heap.size w' W') := fun w' z hb hz => mergeHaves_any w' _ _ t.B _ (L1.out.2.1.below hb).reads hz.reads HOKT.out.2 ⟨filter_rise HSG.out.1 _, filter_fit HSG.out.2 _⟩
            have HBX : Hid (Below wr.heap.size wr (wr.alloc (.cells #[.int .i64 s.Lo, .int .i64 s.Hi, .slice xa s.Hs.length xc] 32))) := (Below.refl _ _).alloc (Nat.le_refl _) _
            have HWR : Hid (W.heap.size ≤ wr.heap.size) := HBW.out.size
            clear HN HSG HOKT L1
            generalize newsHv s.Hs t.B = nw at *
            generalize beyondHv t.B s = by_ at *
            go_wp2_with fail
            refine (CNB.out _ HBX.out).mono ?_
            rintro e w5 ⟨n1, n2, rfl, hn1, hn2, -, hb5⟩
            have HB5 : Hid (Below wr.heap.size wr w5) := HBX.out.trans (hb5.mono HBX.out.size)
            have N1 : Hid (LiesHv w5 n1 nw) := hn1.lies
            have N2 : Hid (LiesHv w5 n2 by_) := hn2.lies
            clear hn1 hn2 hb5 CNB HBX
            obtain ⟨xn1, yn1, rfl⟩ := N1.out.shape
            obtain ⟨xn2, yn2, rfl⟩ := N2.out.shape
            go_wp2_with fail
            refine (CM1.out _ _ HB5.out N2.out).mono ?_
            rintro e w6 ⟨v6, rfl, ho6, hb6⟩
            have HB6 : Hid (Below wr.heap.size wr w6) := HB5.out.trans (hb6.mono HB5.out.size)
            have O6 : Hid (OwnHv w6 W.heap.size v6 t2.A) := by show OwnHv _ _ _ _; rw [HT2.out.1]; exact ho6.mono (Nat.le_trans HWR.out HB5.out.size)
            have N6 : Hid (LiesHv w6 (.slice xn1 nw.length yn1) nw) := N1.out.below hb6
            clear ho6 hb6 CM1 N1
            obtain ⟨x6, y6, rfl⟩ := O6.out.shape
            go_wp2_with fail
            refine (CM2.out _ _ HB6.out N6.out).mono ?_
            rintro e w7 ⟨v7, rfl, ho7, hb7⟩
            have HB7 : Hid (Below wr.heap.size wr w7) := HB6.out.trans (hb7.mono HB6.out.size)
            have O7 : Hid (OwnHv w7 W.heap.size v7 t2.B) := by show OwnHv _ _ _ _; rw [HT2.out.2.1]; exact ho7.mono (Nat.le_trans HWR.out HB6.out.size)
            have O7a : Hid (OwnHv w7 W.heap.size (.slice x6 t2.A.length y6) t2.A) := O6.out.below hb7
            have AP7 : Hid (∀ q, (Value.slice x6 t2.A.length y6).ownBlock = some q → v7.ownBlock ≠ some q) := rowsApartLt O6.out ho7 (Nat.le_refl _)
            clear ho7 hb7 CM2
            obtain ⟨x7, y7, rfl⟩ := O7.out.shape
            have HNEW : Hid (Syn W ps a b (k + 1) (.slice x6 t2.A.length y6) (.slice x7 t2.B.length y7) w7 ∧ Below w4.heap.size w4 w7) := ⟨⟨by rw [ht2]; exact O7a.out.lies, by rw [ht2]; exact O7.out.lies, HBW.out.trans (HB7.out.mono HWR.out), fun _ => by rw [ht2]; exact ⟨O7a.out, O7.out, AP7.out⟩⟩, HK2.out.trans (HB7.out.mono HK2.out.size)⟩
            have hwn1 : IntKind.i64.wrap ((nw.length : Int) + (by_.length : Int)) = (nw.length : Int) + (by_.length : Int) := by rw [IntKind.wrap_i64]; omega
            have hwn2 : IntKind.i64.wrap ((t.N : Int) + ((nw.length : Int) + (by_.length : Int))) = (t.N : Int) + ((nw.length : Int) + (by_.length : Int)) := by rw [IntKind.wrap_i64]; omega
            go_wp2
            go_roundw
            case rel => exact ⟨k + 1, x6, y6, x7, y7, by omega, by go_num, by rw [ht2, HT2.out.2.2], by rw [ht2], by rw [ht2], by rw [ht2]; exact HNEW.out⟩
            case measure => simp [intOf]; omega
          · have hlt' : ¬ (k : Int) < (es.length : Int) := by omega
            have e : k = ps.length := by have := HLE.out; omega
            have hk0 : 0 < k := by omega
            subst e
            rw [HALL.out] at HK ⊢
            have HO1 := HK.out.1.own hk0
            rw [HALL.out] at HO1
            have OA : Hid (OwnHv wr W.heap.size (.slice x1 (syncHv a b m).A.length y1) (syncHv a b m).A ∧ OwnHv wr W.heap.size (.slice x2 (syncHv a b m).B.length y2) (syncHv a b m).B ∧ ∀ q, (Value.slice x1 (syncHv a b m).A.length y1).ownBlock = some q → (Value.slice x2 (syncHv a b m).B.length y2).ownBlock ≠ some q) := HO1
            have HBW : Hid (Below W.heap.size W wr) := HK.out.1.below
            obtain ⟨hokt, -⟩ := HSY.out ps.length (Nat.le_refl _)
            rw [HALL.out] at hokt
            have hlA := rise_len hokt.1.1 hokt.1.2
            have hlB := rise_len hokt.2.1 hokt.2.2
            have CGA : Hid (Calls Try.prog 22 #[.slice x1 (syncHv a b m).A.length y1] wr fun e W' => e = .returned (.bool (goodHv (syncHv a b m).A)) ∧ Below wr.heap.size wr W') := implGoodHv_any wr _ _ OA.out.1.reads (by omega)
            have CGB : Hid (∀ w', Below wr.heap.size wr w' → Calls Try.prog 22 #[.slice x2 (syncHv a b m).B.length y2] w' fun e W' => e = .returned (.bool (goodHv (syncHv a b m).B)) ∧ Below w'.heap.size w' W') := fun w' hb => implGoodHv_any w' _ _ (OA.out.2.1.below hb).reads (by omega)
            clear HK HO1 hokt hlA hlB
            generalize syncHv a b m = r at *
            cases hgA : goodHv r.A with
            | false =>
              rw [hgA] at CGA
              have HO : Hid (syncOk a b (m : Int) = false) := by show _ = _; rw [HOK.out, hgA]; rfl
              clear hgA
              go_wp2_with fail
              refine CGA.out.mono ?_
              rintro e w8 ⟨rfl, hb8⟩
              have HB8 : Hid (Below W.heap.size W w8) := HBW.out.trans (hb8.mono HBW.out.size)
              clear hb8
              go_wp2
              refine bodyPost_ret (v := .tuple #[.slice none 0 0, .slice none 0 0, .int .i64 0, .bool false]) (by simp [results, Try.results6, go_sem]) rfl ?_
              exact fin0.out _ HB8.out HO.out
            | true =>
              rw [hgA] at CGA
              cases hgB : goodHv r.B with
              | false =>
                rw [hgB] at CGB
                have HO : Hid (syncOk a b (m : Int) = false) := by show _ = _; rw [HOK.out, hgB, Bool.and_false]
                clear hgA hgB
                go_wp2_with fail
                refine CGA.out.mono ?_
                rintro e w8 ⟨rfl, hb8⟩
                have HB8 : Hid (Below wr.heap.size wr w8) := hb8
                clear hb8
                go_wp2_with fail
                refine (CGB.out _ HB8.out).mono ?_
                rintro e w9 ⟨rfl, hb9⟩
                have HB9 : Hid (Below W.heap.size W w9) := HBW.out.trans ((HB8.out.trans (hb9.mono HB8.out.size)).mono HBW.out.size)
                clear hb9
                go_wp2
                refine bodyPost_ret (v := .tuple #[.slice none 0 0, .slice none 0 0, .int .i64 0, .bool false]) (by simp [results, Try.results6, go_sem]) rfl ?_
                exact fin0.out _ HB9.out HO.out
              | true =>
                rw [hgB] at CGB
                have HO : Hid (syncOk a b (m : Int) = true) := by show _ = _; rw [HOK.out, hgA, hgB]; rfl
                clear hgA hgB
                go_wp2_with fail
                refine CGA.out.mono ?_
                rintro e w8 ⟨rfl, hb8⟩
                have HB8 : Hid (Below wr.heap.size wr w8) := hb8
                clear hb8
                go_wp2_with fail
                refine (CGB.out _ HB8.out).mono ?_
                rintro e w9 ⟨rfl, hb9⟩
                have HB9 : Hid (Below wr.heap.size wr w9) := HB8.out.trans (hb9.mono HB8.out.size)
                clear hb9
                go_wp2
                refine bodyPost_ret (v := .tuple #[.slice x1 r.A.length y1, .slice x2 r.B.length y2, .int .i64 (r.N : Int), .bool true]) (by simp [results, Try.results6, go_sem]) rfl ?_
                have hy := HYES.out HO.out
                rw [hy.1, hy.2.1, hy.2.2, HO.out]
                exact ⟨_, _, rfl, OA.out.1.below HB9.out, OA.out.2.1.below HB9.out, OA.out.2.2, HBW.out.trans (HB9.out.mono HBW.out.size)⟩
      · have HO : Hid (syncOk a b most = false) := sync_bad3 hm
        have HI : Hid (decide (1 ≤ most ∧ most ≤ 30) = false) := decide_eq_false hm
        clear hga hgb hm
        go_enter Try.func6, Try.ntmps6
        go_wp2_with fail
        refine CA.out.mono ?_
        rintro e w1 ⟨rfl, hb1⟩
        have HB1 : Hid (Below W.heap.size W w1) := hb1
        clear hb1
        go_wp2_with fail
        refine (CB.out _ HB1.out).mono ?_
        rintro e w2 ⟨rfl, hb2⟩
        have HB2 : Hid (Below W.heap.size W w2) := HB1.out.trans (hb2.mono HB1.out.size)
        clear hb2
        go_wp2_with fail
        refine (isMost_any _ _).mono ?_
        rintro e w3 ⟨rfl, hw3⟩
        obtain rfl : w2 = w3 := hw3.symm
        rw [HI.out]
        go_wp2
        refine bodyPost_ret (v := .tuple #[.slice none 0 0, .slice none 0 0, .int .i64 0, .bool false]) (by simp [results, Try.results6, go_sem]) rfl ?_
        exact fin0.out _ HB2.out HO.out
end Go.Proofs.Ytkpdiojomgiocac
