/-
  'l6Groups' of the model.
-/
import Derived.Test.YtkkamigaolejiaxFlEq
import Derived.Test.YtkkamigaolejiaxFlGrp
namespace Go.Proofs.Ytkkamigaolejiax
open Go.RowKit
set_option linter.unusedVariables false

def castL (l : List Nat) : List Int := l.map fun (k : Nat) => (k : Int)
theorem castL_len (l : List Nat) : (castL l).length = l.length := by simp [castL]
theorem castL_get (l : List Nat) (j : Nat) (hj : j < l.length) : (castL l)[j]'(by rw [castL_len]; exact hj) = ((l.getD j 0 : Nat) : Int) := by simp [castL, List.getD_eq_getElem?_getD, hj]
theorem castL_set (l : List Nat) (a m : Nat) : castL (l.set a m) = (castL l).set a (m : Int) := by simp [castL, List.map_set]
theorem own_setN {w : World} {B g n c : Nat} {l : List Nat} (h : Own w B (.slice (some ⟨g, 0, none⟩) n c) (castL l)) (a m : Nat) : Own (w.setCell ⟨g, a, none⟩ (.int .i64 (m : Int))) B (.slice (some ⟨g, 0, none⟩) n c) (castL (l.set a m)) := by
  have hn : n = (castL l).length := by rcases h.2 with ⟨hv, -⟩ | ⟨_, _, _, hv, -⟩ <;> simp at hv; exact hv.2.1
  subst hn
  have := (World.ownsRow.stored h a (.int .i64 (m : Int))).1
  unfold Own
  rw [castL_set, List.length_set]
  rw [List.map_set]
  exact this
theorem own_cellN {w : World} {B g n c : Nat} {l : List Nat} (h : Own w B (.slice (some ⟨g, 0, none⟩) n c) (castL l)) (a : Nat) (ha : a < l.length) : w.cell? ⟨g, a, none⟩ = some (.int .i64 ((l.getD a 0 : Nat) : Int)) ∧ w.frozen? ⟨g, a, none⟩ = false := by
  have hn : n = (castL l).length := by rcases h.2 with ⟨hv, -⟩ | ⟨_, _, _, hv, -⟩ <;> simp at hv; exact hv.2.1
  subst hn
  refine ⟨?_, World.ownsRow.frozenAt h a⟩
  rw [World.ownsRow.cellAt h a (by rw [castL_len]; omega), List.getElem?_map, List.getElem?_eq_getElem (by rw [castL_len]; exact ha), castL_get l a ha]
  rfl
theorem sweep_next (lks : List (List Int)) (out : List Nat) (k : Nat) (h : k < lks.length) : sweep (lks.take (k + 1)) out = relaxL (sweep (lks.take k) out) (at0 lks[k]).toNat (at1 lks[k]).toNat := by
  unfold sweep
  rw [List.take_succ_eq_append_getElem h, List.foldl_append]
  rfl

set_option maxRecDepth 100000 in
set_option maxHeartbeats 4000000 in
theorem l6Groups_any (W : World) (v : Value) (lks : List (List Int)) (n : Nat) (h : ReadsSS W v lks) (hlk : linksB (n : Int) lks = true) (hl : lks.length ≤ 15) (hn : n ≤ 6) (hn1 : 1 ≤ n) :
    Calls Try.prog 43 #[.int .i64 (n : Int), v] W fun e W' => ∃ g c, e = .returned (.slice (some ⟨g, 0, none⟩) n c) ∧ Own W' W.heap.size (.slice (some ⟨g, 0, none⟩) n c) (castL (grpL n lks)) ∧ Below W.heap.size W W' := by
  have HS0 : Hid (Own W W.heap.size (.slice none 0 0) (castL (List.range 0)) ∧ Since W.heap.size W W) := ⟨Own.nil W _, Since.start W⟩
  have HRD : Hid (∀ W1, Since W.heap.size W W1 → ReadsSS W1 v lks) := fun W1 hS => h.below hS.1
  have HBL : Hid (∀ j (hj : j < lks.length), ∃ a b : Nat, a < b ∧ a < n ∧ b < n ∧ at0 lks[j] = (a : Int) ∧ at1 lks[j] = (b : Int) ∧ (at0 lks[j]).toNat = a ∧ (at1 lks[j]).toNat = b ∧ lks[j].length = 2) := fun j hj => by
    have := linksB_mem hlk lks[j] (List.getElem_mem hj)
    exact ⟨(at0 lks[j]).toNat, (at1 lks[j]).toNat, by omega, by omega, by omega, by omega, by omega, rfl, rfl, this.1⟩
  obtain ⟨av, cv, rfl⟩ := h.shape
  clear h hlk
  go_enter Try.func43, Try.ntmps43
  go_wp2
  go_loopw [5, 6] (fun d i wr => ∃ k : Nat, k ≤ n ∧ i = .int .i64 k ∧ Hid (Own wr W.heap.size d (castL (List.range k)) ∧ Since W.heap.size W wr)) (fun _ i _ => n - (intOf i).toNat)
  case atStart => exact ⟨0, Nat.zero_le _, rfl, HS0⟩
  case round =>
    obtain ⟨k, hk, rfl, HK⟩ := hrel
    obtain ⟨ad, cd, hd⟩ := HK.out.1.shape
    have e0 : (castL (List.range k)).length = k := by rw [castL_len, List.length_range]
    rw [e0] at hd
    subst hd
    by_cases hlt : k < n
    · have hlt' : (k : Int) < (n : Int) := by omega
      have HNX : Hid (castL (List.range (k + 1)) = castL (List.range k) ++ [(k : Int)]) := by show _ = _; rw [List.range_succ]; simp [castL]
      generalize hnx : castL (List.range (k + 1)) = nxt at *
      have HNQ : Hid (castL (List.range (k + 1)) = nxt) := hnx
      clear hnx
      generalize hcur : castL (List.range k) = cur at *
      clear hcur
      have HO2 : Hid (Own (wr.alloc (.cells #[.int .i64 (k : Int)] 3)) W.heap.size (.slice ad k cd) cur) := Own.alloc HK.out.1 _
      have HAP : Hid (∀ ty, ∃ v' w', (Builtin.append_ #[60, 60] ty #[.slice ad k cd, .slice (some ⟨wr.heap.size, 0, none⟩) 1 1]).run Try.prog (wr.alloc (.cells #[.int .i64 (k : Int)] 3)) = .ok v' w' ∧ Grown (wr.alloc (.cells #[.int .i64 (k : Int)] 3)) W.heap.size 3 1 (.slice ad k cd) (cur ++ [(k : Int)]).length ((cur ++ [(k : Int)]).map (Value.int .i64)) v' w') := fun ty => run_app1 _ _ _ cur HO2.out wr.heap.size 1 (k : Int) (new_cell wr _ 3) (by omega) (Nat.le_trans HK.out.2.2 (by simp)) ty
      go_wp2_with (at_builtin; refine list_app (by rfl) (.tmp 15) (.tmp 17) 60 (by rfl) (.slice ad k cd) (.slice (some ⟨wr.heap.size, 0, none⟩) 1 1) (by rfl) (by rfl) _ HAP.out ?_; intro v7 w7 hg7; have HF : Hid (Own w7 W.heap.size v7 nxt ∧ Since W.heap.size W w7) := ⟨by rw [HNX.out]; exact hg7.own, (HK.out.2.1.alloc HK.out.2.2 _).trans hg7.below, Nat.le_trans HK.out.2.2 (Nat.le_trans (by simp) hg7.size)⟩; clear hg7)
      go_roundw
      case rel => exact ⟨k + 1, by omega, by go_num, by rw [HNQ.out]; exact HF⟩
      case measure => simp [intOf]; omega
    · have hlt' : ¬ (k : Int) < (n : Int) := by omega
      obtain rfl : k = n := by omega
      obtain ⟨g, rfl⟩ : ∃ g, ad = some ⟨g, 0, none⟩ := by
        rcases HK.out.1.2 with ⟨hv, -⟩ | ⟨g, _, _, hv, -⟩
        · simp only [Value.slice.injEq] at hv; omega
        · simp only [Value.slice.injEq] at hv; exact ⟨g, hv.1⟩
      have HGB : Hid (W.heap.size ≤ g) := (World.ownsRow.lt HK.out.1 g rfl).1
      have HK0 : Hid (Own wr W.heap.size (.slice (some ⟨g, 0, none⟩) k cd) (castL (grpTo k lks 0)) ∧ Since W.heap.size W wr) := HK.out
      clear HK e0
      go_wp2
      go_loopw [21] (fun i wr => ∃ r : Nat, r ≤ k ∧ i = .int .i64 r ∧ Hid (Own wr W.heap.size (.slice (some ⟨g, 0, none⟩) k cd) (castL (grpTo k lks r)) ∧ Since W.heap.size W wr)) (fun i _ => k - (intOf i).toNat)
      case atStart => exact ⟨0, Nat.zero_le _, rfl, HK0⟩
      case round =>
        obtain ⟨r, hr, rfl, HR⟩ := hrel
        by_cases hlt2 : r < k
        · have hlt2' : (r : Int) < (k : Int) := by omega
          have HGN : Hid (grpTo k lks (r + 1) = sweep (lks.take lks.length) (grpTo k lks r)) := by show _ = _; rw [List.take_length]; rfl
          have HGL : Hid ((grpTo k lks r).length = k) := grpTo_len k lks r
          generalize hgn : grpTo k lks (r + 1) = gnx at *
          have HGQ : Hid (grpTo k lks (r + 1) = gnx) := hgn
          clear hgn
          generalize hgc : grpTo k lks r = gc at *
          clear hgc
          have HR0 : Hid (Own wr W.heap.size (.slice (some ⟨g, 0, none⟩) k cd) (castL (sweep (lks.take 0) gc)) ∧ Since W.heap.size W wr) := HR.out
          clear HR
          go_wp2
          go_loopw [25] (fun i wr => ∃ t : Nat, t ≤ lks.length ∧ i = .int .i64 t ∧ Hid (Own wr W.heap.size (.slice (some ⟨g, 0, none⟩) k cd) (castL (sweep (lks.take t) gc)) ∧ Since W.heap.size W wr)) (fun i _ => lks.length - (intOf i).toNat)
          case atStart => exact ⟨0, Nat.zero_le _, rfl, HR0⟩
          case round =>
            obtain ⟨t, ht, rfl, HT⟩ := hrel
            by_cases hlt3 : t < lks.length
            · have hlt3' : (t : Int) < (lks.length : Int) := by omega
              obtain ⟨a8, c8, hv8, hc8⟩ := HRD.out wr HT.out.2
              simp only [Value.slice.injEq] at hv8
              obtain ⟨ha8, -, rfl⟩ := hv8
              obtain ⟨g8, o8, hb8, hg8, hcc⟩ := hc8.resolve_left (fun e => by rw [e] at hlt3; exact absurd hlt3 (Nat.not_lt_zero _))
              rw [hb8] at ha8
              obtain ⟨u, hu, hru⟩ := hcc t hlt3
              obtain ⟨a, b, hab, ha, hb, ea, eb, ta, tb, h2⟩ := HBL.out t hlt3
              have nab : ¬ a = b := by omega
              have nba : ¬ b = a := by omega
              obtain ⟨gl, ol, cl, rfl, hgl, p0, p1⟩ := reads_two hru h2
              rw [ea] at p0
              rw [eb] at p1
              have hln : (sweep (lks.take t) gc).length = k := by rw [sweep_len, HGL.out]
              obtain ⟨z0, f0⟩ := own_cellN HT.out.1 a (by omega)
              obtain ⟨z1, f1⟩ := own_cellN HT.out.1 b (by omega)
              have HSN : Hid (sweep (lks.take (t + 1)) gc = relaxL (sweep (lks.take t) gc) a b) := by show _ = _; rw [sweep_next lks gc t hlt3, ta, tb]
              have ne1 : ¬ gl = g := fun e => by
                have h1 : ReadsSS W (.slice (some ⟨g8, o8, none⟩) lks.length cv) lks := by rw [← ha8]; exact HRD.out W (Since.start W)
                obtain ⟨a9, c9, hv9, hc9⟩ := h1
                simp only [Value.slice.injEq] at hv9
                obtain ⟨ha9, -, -⟩ := hv9
                obtain ⟨g9, o9, hb9, hg9, hcc9⟩ := hc9.resolve_left (fun e => by rw [e] at hlt3; exact absurd hlt3 (Nat.not_lt_zero _))
                rw [← ha9] at hb9
                simp only [Option.some.injEq, Addr.mk.injEq, and_true] at hb9
                obtain ⟨rfl, rfl⟩ := hb9
                obtain ⟨u9, hu9, hr9⟩ := hcc9 t hlt3
                have := (HT.out.2.1.cell (p := ⟨g8, o8 + t, none⟩) hg9)
                rw [hu9, hu] at this
                simp only [Option.some.injEq] at this
                subst this
                obtain ⟨gl9, ol9, cl9, hv10, hgl9, -, -⟩ := reads_two hr9 h2
                simp only [Value.slice.injEq, Option.some.injEq, Addr.mk.injEq, and_true, true_and] at hv10
                have := HGB.out
                omega
              have ne2 : ¬ g8 = g := fun e => by
                have h1 : ReadsSS W (.slice (some ⟨g8, o8, none⟩) lks.length cv) lks := by rw [← ha8]; exact HRD.out W (Since.start W)
                obtain ⟨a9, c9, hv9, hc9⟩ := h1
                simp only [Value.slice.injEq] at hv9
                obtain ⟨ha9, -, -⟩ := hv9
                obtain ⟨g9, o9, hb9, hg9, hcc9⟩ := hc9.resolve_left (fun e => by rw [e] at hlt3; exact absurd hlt3 (Nat.not_lt_zero _))
                rw [← ha9] at hb9
                simp only [Option.some.injEq, Addr.mk.injEq, and_true] at hb9
                have := HGB.out
                omega
              have ne3 : ¬ g = gl := fun e => ne1 e.symm
              have HO : Hid (Own wr W.heap.size (.slice (some ⟨g, 0, none⟩) k cd) (castL (sweep (lks.take t) gc))) := HT.out.1
              have HST : Hid (Since W.heap.size W wr) := HT.out.2
              clear hcc hg8 hc8 hru h2 ea eb ta tb hgl HT hb8
              subst ha8
              generalize hsn : sweep (lks.take (t + 1)) gc = snx at *
              have HSQ : Hid (sweep (lks.take (t + 1)) gc = snx) := hsn
              clear hsn
              generalize sweep (lks.take t) gc = sc at *
              have CLE : Hid (∀ w, Calls Try.prog 74 #[.int .i64 ((sc.getD a 0 : Nat) : Int), .int .i64 ((sc.getD b 0 : Nat) : Int)] w fun e W' => e = .returned (.int .i64 ((min (sc.getD a 0) (sc.getD b 0) : Nat) : Int)) ∧ W' = w) := fun w => l1Least_any w _ _
              have HRX : Hid (snx = (sc.set a (min (sc.getD a 0) (sc.getD b 0))).set b (min (sc.getD a 0) (sc.getD b 0))) := HSN.out
              clear HSN
              generalize min (sc.getD a 0) (sc.getD b 0) = m at *
              generalize sc.getD a 0 = xa at *
              generalize sc.getD b 0 = xb at *
              have ha' : (a : Int) < (k : Int) := by omega
              have hb' : (b : Int) < (k : Int) := by omega
              go_wp2
              go_quiet (first | (go_at_call 74; exact Calls.quiet_of_same (CLE.out _)))
              have HN : Hid (Own (((wr.drewN nq).setCell ⟨g, a, none⟩ (.int .i64 (m : Int))).setCell ⟨g, b, none⟩ (.int .i64 (m : Int))) W.heap.size (.slice (some ⟨g, 0, none⟩) k cd) (castL snx) ∧ Since W.heap.size W (((wr.drewN nq).setCell ⟨g, a, none⟩ (.int .i64 (m : Int))).setCell ⟨g, b, none⟩ (.int .i64 (m : Int)))) := by
                refine ⟨?_, ?_, ?_⟩
                · rw [HRX.out]
                  exact own_setN (own_setN (HO.out.below (below_drewN (Below.refl _ _) nq)) a m) b m
                · exact ((HST.out.drewN nq).1.setCell HGB.out _).setCell HGB.out _
                · have := (HST.out.drewN nq).2
                  simpa [World.setCell] using this
              go_wp2
              go_roundw
              case rel => exact ⟨t + 1, by omega, by go_num, by rw [HSQ.out]; exact HN⟩
              case measure => simp [intOf]; omega
            · have hlt3' : ¬ (t : Int) < (lks.length : Int) := by omega
              have HF : Hid (Own wr W.heap.size (.slice (some ⟨g, 0, none⟩) k cd) (castL gnx) ∧ Since W.heap.size W wr) := by
                have e : t = lks.length := by omega
                have := HT.out
                rw [e, ← HGN.out] at this
                exact this
              clear HT
              go_wp2
              go_roundw
              case rel => exact ⟨r + 1, by omega, by go_num, by rw [HGQ.out]; exact HF⟩
              case measure => simp [intOf]; omega
        · have hlt2' : ¬ (r : Int) < (k : Int) := by omega
          obtain rfl : r = k := by omega
          go_wp2
          go_ret
          exact ⟨g, cd, rfl, HR.out.1, HR.out.2.1⟩
end Go.Proofs.Ytkkamigaolejiax
