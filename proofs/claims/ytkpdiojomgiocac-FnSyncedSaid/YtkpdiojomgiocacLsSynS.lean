/-
  'SyncBy' of the model.
-/
import Derived.Test.YtkpdiojomgiocacLsSynI
import Derived.Test.YtkpdiojomgiocacLsCutS
import Derived.Test.YtkpdiojomgiocacLsAskM
import Derived.Test.YtkpdiojomgiocacRowLaw0
namespace Go.Proofs.Ytkpdiojomgiocac
open Go.RowKit
set_option linter.unusedVariables false

/-- What the loop keeps. -/
structure SynS (W : World) (ps : List SmD) (a b : List HvD) (k : Nat) (v1 v2 : Value) (wr : World) : Prop where
  ox : OwnHv wr W.heap.size v1 (syAt ps a b k).A
  oy : OwnHv wr W.heap.size v2 (syAt ps a b k).B
  below : Below W.heap.size W wr
  ap : ∀ q, v1.ownBlock = some q → v2.ownBlock ≠ some q

set_option maxRecDepth 100000 in
set_option maxHeartbeats 8000000 in
theorem specSyncBy_any (W : World) (v1 v2 : Value) (a b : List HvD) (most : Int) (h1 : LiesHv W v1 a) (h2 : LiesHv W v2 b) (hla : a.length ≤ 1048576) (hlb : b.length ≤ 1048576) :
    Calls Try.prog 7 #[v1, v2, .int .i64 most] W (SyncPost W (syncA a b most) (syncB a b most) (syncN a b most) (syncOk a b most)) := by
  obtain ⟨a1, c1, rfl⟩ := h1.shape
  obtain ⟨a2, c2, rfl⟩ := h2.shape
  have CA : Hid (Calls Try.prog 23 #[.slice a1 a.length c1] W fun e W' => e = .returned (.bool (goodHv a)) ∧ Below W.heap.size W W') := specGoodHv_any W _ a h1.reads (by omega)
  have CB : Hid (∀ w', Below W.heap.size W w' → Calls Try.prog 23 #[.slice a2 b.length c2] w' fun e W' => e = .returned (.bool (goodHv b)) ∧ Below w'.heap.size w' W') := fun w' hb => specGoodHv_any w' _ b (h2.below hb).reads (by omega)
  have H1 : Hid (∀ w', Below W.heap.size W w' → LiesHv w' (.slice a1 a.length c1) a ∧ LiesHv w' (.slice a2 b.length c2) b) := fun w' hb => ⟨h1.below hb, h2.below hb⟩
  clear h1 h2
  have fin0 : Hid (∀ w', Below W.heap.size W w' → syncOk a b most = false → SyncPost W (syncA a b most) (syncB a b most) (syncN a b most) (syncOk a b most) (.returned (.tuple #[.slice none 0 0, .slice none 0 0, .int .i64 0, .bool false])) w') := fun w' hb ho => by
    rw [(sync_no ho).1, (sync_no ho).2.1, (sync_no ho).2.2, ho]
    exact SyncPost.zero hb
  cases hga : goodHv a with
  | false =>
    have HO : Hid (syncOk a b most = false) := sync_bad1 hga
    rw [hga] at CA
    clear hga
    go_enter Try.func7, Try.ntmps7
    go_wp2_with fail
    refine CA.out.mono ?_
    rintro e w1 ⟨rfl, hb1⟩
    have HB1 : Hid (Below W.heap.size W w1) := hb1
    clear hb1
    go_wp2
    refine bodyPost_ret (v := .tuple #[.slice none 0 0, .slice none 0 0, .int .i64 0, .bool false]) (by simp [results, Try.results7, go_sem]) rfl ?_
    exact fin0.out _ HB1.out HO.out
  | true =>
    rw [hga] at CA
    cases hgb : goodHv b with
    | false =>
      have HO : Hid (syncOk a b most = false) := sync_bad2 hgb
      rw [hgb] at CB
      clear hga hgb
      go_enter Try.func7, Try.ntmps7
      go_wp2_with fail
      refine CA.out.mono ?_
      rintro e w1 ⟨rfl, hb1⟩
      have HB1 : Hid (Below W.heap.size W w1) := hb1
      clear hb1
      go_wp2_with fail
      refine (CB.out _ HB1.out).mono ?_
      rintro e w2 ⟨rfl, hb2⟩
      have HB2 : Hid (Below W.heap.size W w2) := HB1.out.trans (hb2.mono HB1.out.size)
      clear hb2
      go_wp2
      refine bodyPost_ret (v := .tuple #[.slice none 0 0, .slice none 0 0, .int .i64 0, .bool false]) (by simp [results, Try.results7, go_sem]) rfl ?_
      exact fin0.out _ HB2.out HO.out
    | true =>
      rw [hgb] at CB
      by_cases hm : 1 ≤ most ∧ most ≤ 30
      · obtain ⟨m, rfl⟩ : ∃ m : Nat, most = (m : Int) := ⟨most.toNat, by omega⟩
        have hm1 : 1 ≤ m := by omega
        have hm2 : m ≤ 30 := by omega
        have HI : Hid (decide (1 ≤ (m : Int) ∧ (m : Int) ≤ 30) = true) := decide_eq_true hm
        have ha := goodHv_true hga
        have hb0 := goodHv_true hgb
        have HOK : Hid (syncOk a b (m : Int) = (goodHv (syncHv a b m).A && goodHv (syncHv a b m).B)) := sync_ok4 hga hgb hm1 hm2
        have HYES : Hid (syncOk a b (m : Int) = true → syncA a b (m : Int) = (syncHv a b m).A ∧ syncB a b (m : Int) = (syncHv a b m).B ∧ syncN a b (m : Int) = ((syncHv a b m).N : Int)) := fun h => by
          have := sync_yes h
          rwa [Int.toNat_natCast] at this
        have CC : Hid (∀ w', Below W.heap.size W w' → Calls Try.prog 34 #[.slice a1 a.length c1, .int .i64 (m : Int)] w' fun e W' => ∃ v' es, e = .returned v' ∧ OwnSm W' w'.heap.size v' es ∧ es.map SmE.s = cutHv m a ∧ Below w'.heap.size w' W') := fun w' hb => l7Cut_any w' _ a m (H1.out w' hb).1 (by omega) ha.2.1 hm1 hm2
        have HPP : Hid (∀ s ∈ cutHv m a, Rise s.Hs ∧ FitHv s.Hs) := cut_parts m a.length 1 a ⟨ha.2.2, ha.2.1⟩
        have HP1 : Hid (1 ≤ (cutHv m a).length ∧ (cutHv m a).length ≤ 31) := ⟨cut_some m _ _ _, Nat.le_trans (cut_few m a.length 1 a) (by omega)⟩
        have HSY : Hid (∀ k, k ≤ (cutHv m a).length → SyOk (syAt (cutHv m a) a b k) ∧ (syAt (cutHv m a) a b k).N ≤ k * 2000) := syAt_ok _ a b ⟨ha.2.2, ha.2.1⟩ ⟨hb0.2.2, hb0.2.1⟩ HPP.out
        have HALL : Hid (syAt (cutHv m a) a b (cutHv m a).length = syncHv a b m) := syAt_all m a b
        have hla2 : a.length ≤ 30 := ha.1
        have hlb2 : b.length ≤ 30 := hb0.1
        clear hm ha hb0 hga hgb
        go_enter Try.func7, Try.ntmps7
        go_wp2_with fail
        refine CA.out.mono ?_
        rintro e w1 ⟨rfl, hb1⟩
        have HB1 : Hid (Below W.heap.size W w1) := hb1
        clear hb1
        go_wp2_with fail
        refine (CB.out _ HB1.out).mono ?_
        rintro e w2 ⟨rfl, hb2⟩
        have HB2 : Hid (Below W.heap.size W w2) := HB1.out.trans (hb2.mono HB1.out.size)
        clear hb2
        go_wp2_with fail
        refine (l1In_any _ _ _ _).mono ?_
        rintro e w3 ⟨rfl, hw3⟩
        obtain rfl : w2 = w3 := hw3.symm
        rw [HI.out]
        have HMX : Hid (∀ ty, ∃ v' w', (Builtin.append_ #[23, 23] ty #[.slice (some ⟨w2.heap.size, 0, none⟩) 0 0, .slice a1 a.length c1]).run Try.prog (w2.alloc (.cells #[] 41)) = .ok v' w' ∧ OwnHv w' w2.heap.size v' a ∧ Below w2.heap.size w2 w') := made_to w2 _ a a.length rfl (fun w' hb => (H1.out w' (HB2.out.trans (hb.mono HB2.out.size))).1.src) (by omega)
        have HMY : Hid (∀ w3 : World, Below W.heap.size W w3 → ∀ ty, ∃ v' w', (Builtin.append_ #[23, 23] ty #[.slice (some ⟨w3.heap.size, 0, none⟩) 0 0, .slice a2 b.length c2]).run Try.prog (w3.alloc (.cells #[] 41)) = .ok v' w' ∧ OwnHv w' w3.heap.size v' b ∧ Below w3.heap.size w3 w') := fun w3 h3 => made_to w3 _ b b.length rfl (fun w' hb => (H1.out w' (h3.trans (hb.mono h3.size))).2.src) (by omega)
        go_wp2_with (first
          | (at_builtin; refine list_app (by rfl) (.tmp 32) (.tmp 33) 23 (by rfl) (.slice (some ⟨w2.heap.size, 0, none⟩) 0 0) (.slice a1 a.length c1) (by rfl) (by rfl) _ HMX.out ?_; intro vx wx hgx; have HX1 : Hid (OwnHv wx W.heap.size vx a ∧ Below W.heap.size W wx) := ⟨hgx.1.mono HB2.out.size, HB2.out.trans (hgx.2.mono HB2.out.size)⟩; clear hgx; have HM3 := HMY.out wx HX1.out.2)
          | (at_builtin; refine list_app (by rfl) (.tmp 35) (.tmp 36) 23 (by rfl) (.slice (some ⟨wx.heap.size, 0, none⟩) 0 0) (.slice a2 b.length c2) (by rfl) (by rfl) _ HM3 ?_; intro vy w3 hgy; have HY1 : Hid (OwnHv w3 W.heap.size vx a ∧ OwnHv w3 W.heap.size vy b ∧ (∀ q, vx.ownBlock = some q → vy.ownBlock ≠ some q) ∧ Below W.heap.size W w3) := ⟨HX1.out.1.below hgy.2, hgy.1.mono HX1.out.2.size, rowsApartLt HX1.out.1 hgy.1 (Nat.le_refl _), HX1.out.2.trans (hgy.2.mono HX1.out.2.size)⟩; clear hgy))
        refine (CC.out _ HY1.out.2.2.2).mono ?_
        rintro e w4 ⟨v4, es, rfl, ho4, he4, hb4⟩
        have HB4 : Hid (Below W.heap.size W w4) := HY1.out.2.2.2.trans (hb4.mono HY1.out.2.2.2.size)
        have hes : es.length = (cutHv m a).length := by rw [← he4, List.length_map]
        have hes1 := HP1.out
        obtain ⟨a4, c4, rfl⟩ := ho4.shape
        obtain ⟨g4, ha4, hp4⟩ := parts_at ho4 (by omega)
        subst ha4
        have HP4 : Hid (∀ wr, Below w4.heap.size w4 wr → ∀ j (hj : j < es.length), (wr.cell? ⟨g4, j * 3, none⟩ = some (.int .i64 es[j].s.Lo) ∧ wr.cell? ⟨g4, j * 3 + 1, none⟩ = some (.int .i64 es[j].s.Hi) ∧ wr.cell? ⟨g4, j * 3 + 2, none⟩ = some es[j].u) ∧ LiesHv wr es[j].u es[j].s.Hs) := hp4
        have HNX : Hid (∀ k (hk : k < es.length), syAt (cutHv m a) a b (k + 1) = syncStep (syAt (cutHv m a) a b k) es[k].s ∧ (Rise es[k].s.Hs ∧ FitHv es[k].s.Hs)) := fun k hk => by
          have e2 : (cutHv m a)[k]'(by omega) = es[k].s := by
            have : (es.map SmE.s)[k]'(by simpa using hk) = es[k].s := by simp
            rw [← this]
            congr 1
            exact he4.symm
          refine ⟨?_, ?_⟩
          · rw [syAt_next _ _ _ k (by omega), e2]
          · rw [← e2]; exact HPP.out _ (List.getElem_mem _)
        have HLE : Hid (es.length = (cutHv m a).length) := hes
        have hes2 : es.length ≤ 31 := by omega
        have hes3 : 1 ≤ es.length := by omega
        have HXY : Hid (OwnHv w4 W.heap.size vx a ∧ OwnHv w4 W.heap.size vy b ∧ ∀ q, vx.ownBlock = some q → vy.ownBlock ≠ some q) := ⟨HY1.out.1.below hb4, HY1.out.2.1.below hb4, HY1.out.2.2.1⟩
        obtain ⟨x0, y0, rfl⟩ := HXY.out.1.shape
        obtain ⟨x0', y0', rfl⟩ := HXY.out.2.1.shape
        have HS0 : Hid (SynS W (cutHv m a) a b 0 (.slice x0 a.length y0) (.slice x0' b.length y0') w4) := ⟨HXY.out.1, HXY.out.2.1, HB4.out, HXY.out.2.2⟩
        have HW4 : Hid (W.heap.size ≤ w4.heap.size) := HB4.out.size
        clear ho4 he4 hb4 hp4 hes hes1 CC CA CB HXY HY1 HX1 HMX HMY HM3
        generalize cutHv m a = ps at *
        go_wp2
        go_loopw [10, 11, 12, 42] (fun u v n i wr => ∃ (k : Nat) (x1 : Option Addr) (y1 : Nat) (x2 : Option Addr) (y2 : Nat), k ≤ es.length ∧ i = .int .i64 k ∧ n = .int .i64 ((syAt ps a b k).N : Int) ∧ u = .slice x1 (syAt ps a b k).A.length y1 ∧ v = .slice x2 (syAt ps a b k).B.length y2 ∧ Hid (SynS W ps a b k (.slice x1 (syAt ps a b k).A.length y1) (.slice x2 (syAt ps a b k).B.length y2) wr ∧ Below w4.heap.size w4 wr)) (fun _ _ _ i _ => es.length - (intOf i).toNat)
        case atStart => exact ⟨0, x0, y0, x0', y0', Nat.zero_le _, rfl, rfl, rfl, rfl, HS0.out, Below.refl _ _⟩
        case round =>
          obtain ⟨k, x1, y1, x2, y2, hk, rfl, rfl, rfl, rfl, HK⟩ := hrel
          by_cases hlt : k < es.length
          · have hlt' : (k : Int) < (es.length : Int) := by omega
            obtain ⟨⟨p0, p1, p2⟩, pl⟩ := HP4.out wr HK.out.2 k hlt
            obtain ⟨HN, hsg⟩ := HNX.out k hlt
            obtain ⟨hok, hNN⟩ := HSY.out k (by have := HLE.out; omega)
            have HK1 : Hid (SynS W ps a b k (.slice x1 (syAt ps a b k).A.length y1) (.slice x2 (syAt ps a b k).B.length y2) wr) := HK.out.1
            have HK2 : Hid (Below w4.heap.size w4 wr) := HK.out.2
            clear HK
            generalize es[k] = x at *
            obtain ⟨s, u⟩ := x
            simp only at p0 p1 p2 pl HN hsg
            obtain ⟨xa, xc, rfl⟩ := pl.shape
            have PL : Hid (LiesHv wr (.slice xa s.Hs.length xc) s.Hs) := pl
            have HBW : Hid (Below W.heap.size W wr) := HK1.out.below
            have HOKT : Hid (SyOk (syAt ps a b k)) := hok
            have HSG : Hid (Rise s.Hs ∧ FitHv s.Hs) := hsg
            clear pl hok hsg
            generalize ht : syAt ps a b k = t at *
            generalize ht2 : syAt ps a b (k + 1) = t2 at *
            have OX : Hid (OwnHv wr W.heap.size (.slice x1 t.A.length y1) t.A) := by have := HK1.out.ox; rwa [ht] at this
            have OY : Hid (OwnHv wr W.heap.size (.slice x2 t.B.length y2) t.B) := by have := HK1.out.oy; rwa [ht] at this
            have HT2 : Hid (t2.A = mergeHv t.A (beyondHv t.B s) ∧ t2.B = mergeHv t.B (newsHv s.Hs t.B) ∧ (t2.N : Int) = (t.N : Int) + (((newsHv s.Hs t.B).length : Int) + ((beyondHv t.B s).length : Int))) := ⟨by rw [HN]; rfl, by rw [HN]; rfl, by
              rw [HN]
              show ((t.N + (newsHv s.Hs t.B).length + (beyondHv t.B s).length : Nat) : Int) = _
              omega⟩
            have hsl := rise_len HSG.out.1 HSG.out.2
            have htl := rise_len HOKT.out.2.1 HOKT.out.2.2
            have hal := rise_len HOKT.out.1.1 HOKT.out.1.2
            have hnl : (newsHv s.Hs t.B).length ≤ 1000 ∧ (beyondHv t.B s).length ≤ 1000 := by
              have h3 := List.length_filter_le (fun x : HvD => decide (seqIn t.B x.From < x.Seq)) s.Hs
              have h4 := List.length_filter_le (fun x : HvD => decide (s.Lo ≤ x.From ∧ x.From ≤ s.Hi) && decide (seqIn s.Hs x.From < x.Seq)) t.B
              refine ⟨Nat.le_trans h3 hsl, ?_⟩
              rw [beyondHv_eq]
              exact Nat.le_trans h4 htl
            have HSQ : Hid (∀ j (hj : j < (newsHv s.Hs t.B).length), seqIn s.Hs (newsHv s.Hs t.B)[j].From = (newsHv s.Hs t.B)[j].Seq) := fun j hj => by
              have hm := (List.mem_filter.1 (List.getElem_mem hj)).1
              unfold seqIn
              rw [mem_cont HSG.out.1 hm]
              rfl
            have CNB : Hid (∀ w', Below wr.heap.size wr w' → Calls Try.prog 35 #[.slice x2 t.B.length y2, .agg #[.int .i64 s.Lo, .int .i64 s.Hi, .slice xa s.Hs.length xc]] w' (AskPost2 w' (fromsOf (newsHv s.Hs t.B)) (beyondHv t.B s))) := fun w' hb => l7Ask_any w' _ _ t.B s (OY.out.lies.below hb) (PL.out.below hb) (by omega) (by omega)
            have CSQ : Hid (∀ w' q, Below wr.heap.size wr w' → Calls Try.prog 37 #[.slice xa s.Hs.length xc, .int .i64 q] w' fun e W' => e = .returned (.int .i64 (seqIn s.Hs q)) ∧ Below w'.heap.size w' W') := fun w' q hb => l7Seq_any w' _ s.Hs q (PL.out.below hb).reads (by omega)
            have CMA : Hid (∀ w' z, Below wr.heap.size wr w' → LiesHv w' z (beyondHv t.B s) → Calls Try.prog 38 #[.slice x1 t.A.length y1, z] w' fun e W' => ∃ v, e = .returned v ∧ OwnHv W' w'.heap.size v (mergeHv t.A (beyondHv t.B s)) ∧ Below w'.heap.size w' W') := fun w' z hb hz => l7Merge_any w' _ _ t.A _ (OX.out.lies.below hb) hz (by omega) (by omega)
            have HML : Hid (∀ j, (mergeHv t.B ((newsHv s.Hs t.B).take j)).length ≤ 100000) := fun j => by
              have := mergeHv_len t.B ((newsHv s.Hs t.B).take j)
              rw [List.length_take] at this
              omega
            have HBX : Hid (Below wr.heap.size wr (wr.alloc (.cells #[.int .i64 s.Lo, .int .i64 s.Hi, .slice xa s.Hs.length xc] 32)) ∧ ∀ w', Below (wr.alloc (.cells #[.int .i64 s.Lo, .int .i64 s.Hi, .slice xa s.Hs.length xc] 32)).heap.size (wr.alloc (.cells #[.int .i64 s.Lo, .int .i64 s.Hi, .slice xa s.Hs.length xc] 32)) w' → w'.cell? ⟨wr.heap.size, 2, none⟩ = some (.slice xa s.Hs.length xc)) := ⟨(Below.refl _ _).alloc (Nat.le_refl _) _, fun w' hb => (smNew wr _ _ _ w' hb).2.2⟩
            have HWR : Hid (W.heap.size ≤ wr.heap.size) := HBW.out.size
            clear HN HSG HOKT PL HK1 hsl htl hal
            generalize hnw : newsHv s.Hs t.B = nw at *
            generalize beyondHv t.B s = by_ at *
            clear hnw
            go_wp2_with fail
            refine (CNB.out _ HBX.out.1).mono ?_
            rintro e w5 ⟨n1, n2, rfl, hn1, hn2, hb5⟩
            have HX5 : Hid (∀ w', Below w5.heap.size w5 w' → w'.cell? ⟨wr.heap.size, 2, none⟩ = some (.slice xa s.Hs.length xc)) := fun w' hb => HBX.out.2 w' (hb5.trans (hb.mono hb5.size))
            have HB5 : Hid (Below wr.heap.size wr w5) := HBX.out.1.trans (hb5.mono HBX.out.1.size)
            have N1 : Hid (Reads w5 n1 (fromsOf nw)) := Own.reads hn1
            have N2 : Hid (LiesHv w5 n2 by_) := hn2.lies
            have O5 : Hid (OwnHv w5 W.heap.size (.slice x2 t.B.length y2) t.B) := OY.out.below HB5.out
            clear hn1 hn2 hb5 CNB HBX
            obtain ⟨xn2, yn2, rfl⟩ := N2.out.shape
            have hwn1 : IntKind.i64.wrap ((nw.length : Int) + (by_.length : Int)) = (nw.length : Int) + (by_.length : Int) := by rw [IntKind.wrap_i64]; omega
            have hwn2 : IntKind.i64.wrap ((t.N : Int) + ((nw.length : Int) + (by_.length : Int))) = (t.N : Int) + ((nw.length : Int) + (by_.length : Int)) := by rw [IntKind.wrap_i64]; omega
            obtain ⟨xn1, yn1, hv1, hc1⟩ := N1.out
            have hfl : (fromsOf nw).length = nw.length := by unfold fromsOf; rw [List.length_map]
            rw [hfl] at hv1
            subst hv1
            have TAIL : Hid (∀ w6 x8 y8 v6, Below w5.heap.size w5 w6 → OwnHv w6 W.heap.size (.slice x8 t2.B.length y8) t2.B → ∀ w7, OwnHv w7 w6.heap.size v6 (mergeHv t.A by_) → Below w6.heap.size w6 w7 → SynS W ps a b (k + 1) v6 (.slice x8 t2.B.length y8) w7 ∧ Below w4.heap.size w4 w7) := fun w6 x8 y8 v6 h6 o6 w7 o7 h7 => by
              have hb6 : Below wr.heap.size wr w6 := HB5.out.trans (h6.mono HB5.out.size)
              have hb7 : Below wr.heap.size wr w7 := hb6.trans (h7.mono hb6.size)
              refine ⟨⟨?_, ?_, HBW.out.trans (hb7.mono HWR.out), ?_⟩, HK2.out.trans (hb7.mono HK2.out.size)⟩
              · rw [ht2, HT2.out.1]; exact o7.mono (Nat.le_trans HWR.out hb6.size)
              · rw [ht2]; exact o6.below h7
              · exact apartSym (rowsApartLt o6 o7 (Nat.le_refl _))
            generalize wr = wo at *
            by_cases hz : nw = []
            · subst hz
              have HTB : Hid (t2.B = t.B) := HT2.out.2.1
              have O6 : Hid (OwnHv w5 W.heap.size (.slice x2 t2.B.length y2) t2.B) := by show OwnHv _ _ _ _; rw [HTB.out]; exact O5.out
              have hlen2 : t.B.length = t2.B.length := by rw [HTB.out]
              simp only [List.length_nil] at *
              go_wp2
              refine wp_loop_rounds 1 ?_
              rw [rounds_succ]
              go_wp2_with fail
              refine (CMA.out _ _ HB5.out N2.out).mono ?_
              rintro e w7 ⟨v7, rfl, ho7, hb7⟩
              have HNEW : Hid (SynS W ps a b (k + 1) v7 (.slice x2 t2.B.length y2) w7 ∧ Below w4.heap.size w4 w7) := TAIL.out w5 x2 y2 v7 (Below.refl _ _) O6.out w7 ho7 hb7
              clear ho7 hb7
              obtain ⟨x9, y9, hv7⟩ := HNEW.out.1.ox.shape
              rw [ht2] at hv7
              subst hv7
              go_wp2
              go_roundw
              case rel => exact ⟨k + 1, x9, y9, x2, y2, by omega, by go_num, by rw [ht2, HT2.out.2.2]; simp, by rw [ht2], by rw [ht2], by rw [ht2]; exact HNEW.out⟩
              case measure => simp [intOf]; omega
            · obtain ⟨g1, o1, rfl, hg1, hcell⟩ := hc1.resolve_left (fun e => hz (List.eq_nil_of_length_eq_zero (by rw [← hfl, e]; rfl)))
              have HC1 : Hid (∀ wr, Below w5.heap.size w5 wr → ∀ j (hj : j < nw.length), wr.cell? ⟨g1, o1 + j, none⟩ = some (.int .i64 nw[j].From)) := fun wr hB j hj => by
                have := (hB.cell (p := ⟨g1, o1 + j, none⟩) hg1).trans (hcell j (by omega))
                rw [this]
                congr 2
                unfold fromsOf
                simp
              have HMN : Hid (∀ j (hj : j < nw.length), mergeHv t.B (nw.take (j + 1)) = putHv nw[j] (mergeHv t.B (nw.take j))) := fun j hj => by rw [List.take_succ_eq_append_getElem hj, mergeHv_snoc]
              clear hcell hc1 hg1 hz N1
              go_wp2
              go_loopw [11, 54] (fun y i wr => ∃ (j : Nat) (x8 : Option Addr) (y8 : Nat), j ≤ nw.length ∧ i = .int .i64 j ∧ y = .slice x8 (mergeHv t.B (nw.take j)).length y8 ∧ Hid (OwnHv wr W.heap.size (.slice x8 (mergeHv t.B (nw.take j)).length y8) (mergeHv t.B (nw.take j)) ∧ Below w5.heap.size w5 wr)) (fun _ i _ => nw.length - (intOf i).toNat)
              case atStart => exact ⟨0, x2, y2, Nat.zero_le _, rfl, rfl, O5.out, Below.refl _ _⟩
              case round =>
                obtain ⟨j, x8, y8, hj, rfl, rfl, HJ⟩ := hrel
                by_cases hlj : j < nw.length
                · have hlj' : (j : Int) < (nw.length : Int) := by omega
                  have cj := HC1.out wr HJ.out.2 j hlj
                  have bx := HX5.out wr HJ.out.2
                  have hsq := HSQ.out j hlj
                  have HMJ : Hid (mergeHv t.B (nw.take (j + 1)) = putHv nw[j] (mergeHv t.B (nw.take j))) := HMN.out j hlj
                  have hln := HML.out j
                  have HJ1 : Hid (OwnHv wr W.heap.size (.slice x8 (mergeHv t.B (nw.take j)).length y8) (mergeHv t.B (nw.take j))) := HJ.out.1
                  have HJ2 : Hid (Below w5.heap.size w5 wr) := HJ.out.2
                  have CS1 : Hid (Calls Try.prog 37 #[.slice xa s.Hs.length xc, .int .i64 nw[j].From] wr fun e W' => e = .returned (.int .i64 nw[j].Seq) ∧ Below wr.heap.size wr W') := by
                    have := CSQ.out wr nw[j].From (HB5.out.trans (HJ2.out.mono HB5.out.size))
                    rw [hsq] at this
                    exact this
                  clear HJ hsq
                  generalize nw[j] = q at *
                  generalize hm1 : mergeHv t.B (nw.take j) = ml at *
                  generalize hm2 : mergeHv t.B (nw.take (j + 1)) = m2 at *
                  clear hm1
                  go_wp2_with fail
                  refine CS1.out.mono ?_
                  rintro e w6 ⟨rfl, hb6⟩
                  have HJ3 : Hid (OwnHv w6 W.heap.size (.slice x8 ml.length y8) ml) := HJ1.out.below hb6
                  have HJ4 : Hid (Below w5.heap.size w5 w6) := HJ2.out.trans (hb6.mono HJ2.out.size)
                  clear hb6 CS1 HJ1 HJ2
                  go_wp2_with fail
                  refine (l7Put_any w6 W.heap.size _ ml q HJ3.out (by omega)).mono ?_
                  rintro e w7 ⟨v7, rfl, ho7, hb7⟩
                  have HW6 : Hid (W.heap.size ≤ w6.heap.size) := Nat.le_trans (Nat.le_trans HWR.out HB5.out.size) HJ4.out.size
                  have HF7 : Hid (OwnHv w7 W.heap.size v7 m2 ∧ Below w5.heap.size w5 w7) := ⟨by rw [HMJ.out]; exact ho7.mono HW6.out, HJ4.out.trans (hb7.mono HJ4.out.size)⟩
                  clear ho7 hb7
                  obtain ⟨xb, yb, rfl⟩ := HF7.out.1.shape
                  go_wp2
                  go_roundw
                  case rel => exact ⟨j + 1, xb, yb, by omega, by go_num, by rw [hm2], by rw [hm2]; exact HF7.out⟩
                  case measure => simp [intOf]; omega
                · have hlj' : ¬ (j : Int) < (nw.length : Int) := by omega
                  have e : j = nw.length := by omega
                  subst e
                  rw [List.take_length, ← HT2.out.2.1] at HJ ⊢
                  go_wp2_with fail
                  refine (CMA.out _ _ (HB5.out.trans (HJ.out.2.mono HB5.out.size)) (N2.out.below HJ.out.2)).mono ?_
                  rintro e w7 ⟨v7, rfl, ho7, hb7⟩
                  have HNEW : Hid (SynS W ps a b (k + 1) v7 (.slice x8 t2.B.length y8) w7 ∧ Below w4.heap.size w4 w7) := TAIL.out wr x8 y8 v7 HJ.out.2 HJ.out.1 w7 ho7 hb7
                  clear ho7 hb7 HJ
                  obtain ⟨x9, y9, hv7⟩ := HNEW.out.1.ox.shape
                  rw [ht2] at hv7
                  subst hv7
                  go_wp2
                  go_roundw
                  case rel => exact ⟨k + 1, x9, y9, x8, y8, by omega, by go_num, by rw [ht2, HT2.out.2.2], by rw [ht2], by rw [ht2], by rw [ht2]; exact HNEW.out⟩
                  case measure => simp [intOf]; omega
          · have hlt' : ¬ (k : Int) < (es.length : Int) := by omega
            have e : k = ps.length := by have := HLE.out; omega
            have hk0 : 0 < k := by omega
            subst e
            rw [HALL.out] at HK ⊢
            have HO1 : OwnHv wr W.heap.size (.slice x1 (syAt ps a b ps.length).A.length y1) (syAt ps a b ps.length).A ∧ OwnHv wr W.heap.size (.slice x2 (syAt ps a b ps.length).B.length y2) (syAt ps a b ps.length).B ∧ ∀ q, (Value.slice x1 (syAt ps a b ps.length).A.length y1).ownBlock = some q → (Value.slice x2 (syAt ps a b ps.length).B.length y2).ownBlock ≠ some q := by
              rw [HALL.out]
              have h1 := HK.out.1.ox
              have h2 := HK.out.1.oy
              rw [HALL.out] at h1 h2
              exact ⟨h1, h2, HK.out.1.ap⟩
            rw [HALL.out] at HO1
            have OA : Hid (OwnHv wr W.heap.size (.slice x1 (syncHv a b m).A.length y1) (syncHv a b m).A ∧ OwnHv wr W.heap.size (.slice x2 (syncHv a b m).B.length y2) (syncHv a b m).B ∧ ∀ q, (Value.slice x1 (syncHv a b m).A.length y1).ownBlock = some q → (Value.slice x2 (syncHv a b m).B.length y2).ownBlock ≠ some q) := HO1
            have HBW : Hid (Below W.heap.size W wr) := HK.out.1.below
            obtain ⟨hokt, -⟩ := HSY.out ps.length (Nat.le_refl _)
            rw [HALL.out] at hokt
            have hlA := rise_len hokt.1.1 hokt.1.2
            have hlB := rise_len hokt.2.1 hokt.2.2
            have CGA : Hid (Calls Try.prog 23 #[.slice x1 (syncHv a b m).A.length y1] wr fun e W' => e = .returned (.bool (goodHv (syncHv a b m).A)) ∧ Below wr.heap.size wr W') := specGoodHv_any wr _ _ OA.out.1.reads (by omega)
            have CGB : Hid (∀ w', Below wr.heap.size wr w' → Calls Try.prog 23 #[.slice x2 (syncHv a b m).B.length y2] w' fun e W' => e = .returned (.bool (goodHv (syncHv a b m).B)) ∧ Below w'.heap.size w' W') := fun w' hb => specGoodHv_any w' _ _ (OA.out.2.1.below hb).reads (by omega)
            clear HK HO1 hokt hlA hlB
            generalize syncHv a b m = r at *
            cases hgA : goodHv r.A with
            | false =>
              rw [hgA] at CGA
              have HO : Hid (syncOk a b (m : Int) = false) := by show _ = _; rw [HOK.out, hgA]; rfl
              clear hgA
              go_wp2_with fail
              refine CGA.out.mono ?_
              rintro e w8 ⟨rfl, hb8⟩
              have HB8 : Hid (Below W.heap.size W w8) := HBW.out.trans (hb8.mono HBW.out.size)
              clear hb8
              go_wp2
              refine bodyPost_ret (v := .tuple #[.slice none 0 0, .slice none 0 0, .int .i64 0, .bool false]) (by simp [results, Try.results7, go_sem]) rfl ?_
              exact fin0.out _ HB8.out HO.out
            | true =>
              rw [hgA] at CGA
              cases hgB : goodHv r.B with
              | false =>
                rw [hgB] at CGB
                have HO : Hid (syncOk a b (m : Int) = false) := by show _ = _; rw [HOK.out, hgB, Bool.and_false]
                clear hgA hgB
                go_wp2_with fail
                refine CGA.out.mono ?_
                rintro e w8 ⟨rfl, hb8⟩
                have HB8 : Hid (Below wr.heap.size wr w8) := hb8
                clear hb8
                go_wp2_with fail
                refine (CGB.out _ HB8.out).mono ?_
                rintro e w9 ⟨rfl, hb9⟩
                have HB9 : Hid (Below W.heap.size W w9) := HBW.out.trans ((HB8.out.trans (hb9.mono HB8.out.size)).mono HBW.out.size)
                clear hb9
                go_wp2
                refine bodyPost_ret (v := .tuple #[.slice none 0 0, .slice none 0 0, .int .i64 0, .bool false]) (by simp [results, Try.results7, go_sem]) rfl ?_
                exact fin0.out _ HB9.out HO.out
              | true =>
                rw [hgB] at CGB
                have HO : Hid (syncOk a b (m : Int) = true) := by show _ = _; rw [HOK.out, hgA, hgB]; rfl
                clear hgA hgB
                go_wp2_with fail
                refine CGA.out.mono ?_
                rintro e w8 ⟨rfl, hb8⟩
                have HB8 : Hid (Below wr.heap.size wr w8) := hb8
                clear hb8
                go_wp2_with fail
                refine (CGB.out _ HB8.out).mono ?_
                rintro e w9 ⟨rfl, hb9⟩
                have HB9 : Hid (Below wr.heap.size wr w9) := HB8.out.trans (hb9.mono HB8.out.size)
                clear hb9
                go_wp2
                refine bodyPost_ret (v := .tuple #[.slice x1 r.A.length y1, .slice x2 r.B.length y2, .int .i64 (r.N : Int), .bool true]) (by simp [results, Try.results7, go_sem]) rfl ?_
                have hy := HYES.out HO.out
                rw [hy.1, hy.2.1, hy.2.2, HO.out]
                exact ⟨_, _, rfl, OA.out.1.below HB9.out, OA.out.2.1.below HB9.out, OA.out.2.2, HBW.out.trans (HB9.out.mono HBW.out.size)⟩
      · have HO : Hid (syncOk a b most = false) := sync_bad3 hm
        have HI : Hid (decide (1 ≤ most ∧ most ≤ 30) = false) := decide_eq_false hm
        clear hga hgb hm
        go_enter Try.func7, Try.ntmps7
        go_wp2_with fail
        refine CA.out.mono ?_
        rintro e w1 ⟨rfl, hb1⟩
        have HB1 : Hid (Below W.heap.size W w1) := hb1
        clear hb1
        go_wp2_with fail
        refine (CB.out _ HB1.out).mono ?_
        rintro e w2 ⟨rfl, hb2⟩
        have HB2 : Hid (Below W.heap.size W w2) := HB1.out.trans (hb2.mono HB1.out.size)
        clear hb2
        go_wp2_with fail
        refine (l1In_any _ _ _ _).mono ?_
        rintro e w3 ⟨rfl, hw3⟩
        obtain rfl : w2 = w3 := hw3.symm
        rw [HI.out]
        go_wp2
        refine bodyPost_ret (v := .tuple #[.slice none 0 0, .slice none 0 0, .int .i64 0, .bool false]) (by simp [results, Try.results7, go_sem]) rfl ?_
        exact fin0.out _ HB2.out HO.out
end Go.Proofs.Ytkpdiojomgiocac
