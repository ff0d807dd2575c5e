/-
  What is drawn of lists of haves and summaries: 'DrawSyncBy', 'summary', 'DrawAskFor'; 'sameInts' and 'has' of the laws.
-/
import Derived.Test.YtkpdiojomgiocacDrawHv2
import Derived.Test.YtkpdiojomgiocacLsCutX
namespace Go.Proofs.Ytkpdiojomgiocac
open Go.RowKit
set_option linter.unusedVariables false

theorem results_tmp3 {fn : Func} {a b c : Tmp} (h : fn.results = #[.tmp a, .tmp b, .tmp c]) (tmps : Array Value) (P : Program) (w : World) :
    (results fn tmps).run P w = .ok (.tuple #[tmps.getD a undef, tmps.getD b undef, tmps.getD c undef]) w := by
  simp [results, h]

set_option maxRecDepth 100000 in
set_option maxHeartbeats 1000000 in
theorem sameInts_same (W : World) (v1 v2 : Value) (zs : List Int) (h1 : Reads W v1 zs) (h2 : Reads W v2 zs) (hl : zs.length ≤ 4194304) :
    Calls Try.prog 13 #[v1, v2] W fun e W' => e = .returned (.bool true) ∧ Below W.heap.size W W' := by
  obtain ⟨a1, cap1, rfl, hc1⟩ := h1
  obtain ⟨a2, cap2, rfl, hc2⟩ := h2
  by_cases hz : zs = []
  · subst hz
    simp only [List.length_nil]
    clear hc1 hc2
    go_enter Try.func13, Try.ntmps13
    go_wp2
    refine wp_loop_rounds 1 ?_
    rw [rounds_succ]
    go_wp2
    go_ret
    exact ⟨rfl, Below.refl _ _⟩
  · obtain ⟨g1, o1, rfl, -, hc1⟩ := hc1.resolve_left hz
    obtain ⟨g2, o2, rfl, -, hc2⟩ := hc2.resolve_left hz
    have HC1 : Hid (∀ j (hj : j < zs.length), W.cell? ⟨g1, o1 + j, none⟩ = some (.int .i64 zs[j])) := hc1
    have HC2 : Hid (∀ j (hj : j < zs.length), W.cell? ⟨g2, o2 + j, none⟩ = some (.int .i64 zs[j])) := hc2
    clear hc1 hc2 hz
    go_enter Try.func13, Try.ntmps13
    go_wp2
    go_loopw [13] (fun i wr => ∃ k : Nat, k ≤ zs.length ∧ i = .int .i64 k ∧ ∃ n, wr = W.drewN n) (fun i _ => zs.length - (intOf i).toNat)
    case atStart => exact ⟨0, Nat.zero_le _, rfl, 0, rfl⟩
    case round =>
      obtain ⟨k, hk, rfl, n, rfl⟩ := hrel
      by_cases hlt : k < zs.length
      · have c1 : W.cell? ⟨g1, o1 + k, none⟩ = some (.int .i64 zs[k]) := HC1.out k hlt
        have c2 : W.cell? ⟨g2, o2 + k, none⟩ = some (.int .i64 zs[k]) := HC2.out k hlt
        generalize zs[k] = z at c1 c2
        have hlt' : (k : Int) < (zs.length : Int) := by omega
        go_wp2
        go_quiet (fail)
        go_wp2
        go_roundw
        case rel => exact ⟨k + 1, by omega, by go_num, _, rfl⟩
        case measure => simp [intOf]; omega
      · have hlt' : ¬ (k : Int) < (zs.length : Int) := by omega
        go_wp2
        go_ret
        exact ⟨rfl, below_drewN (Below.refl _ _) _⟩

set_option maxRecDepth 100000 in
set_option maxHeartbeats 1000000 in
theorem has_any (W : World) (v : Value) (zs : List Int) (z : Int) (h : Reads W v zs) (hl : zs.length ≤ 4194304) :
    Calls Try.prog 16 #[v, .int .i64 z] W fun e W' => e = .returned (.bool (decide (z ∈ zs))) ∧ W' = W := by
  obtain ⟨a1, cap1, rfl, hc1⟩ := h
  rcases hc1 with hz | ⟨g1, o1, rfl, -, hc1⟩
  · subst hz
    simp only [List.length_nil]
    go_enter Try.func16, Try.ntmps16
    go_wp2
    refine wp_loop_rounds 1 ?_
    rw [rounds_succ]
    go_wp2
    go_ret
    exact ⟨by simp, rfl⟩
  · have HC1 : Hid (∀ j (hj : j < zs.length), W.cell? ⟨g1, o1 + j, none⟩ = some (.int .i64 zs[j])) := hc1
    clear hc1
    go_enter Try.func16, Try.ntmps16
    go_wp2
    go_loop [9] (fun i => ∃ k : Nat, k ≤ zs.length ∧ i = .int .i64 k ∧ Hid (∀ j (hj : j < zs.length), j < k → zs[j] ≠ z)) (fun i => zs.length - (intOf i).toNat)
    case atStart => exact ⟨0, Nat.zero_le _, rfl, fun j _ hj => absurd hj (Nat.not_lt_zero _)⟩
    case round =>
      obtain ⟨k, hk, rfl, HA⟩ := hrel
      by_cases hlt : k < zs.length
      · have c1 := HC1.out k hlt
        have hlt' : (k : Int) < (zs.length : Int) := by omega
        by_cases he : zs[k] = z
        · have HF : Hid (true = decide (z ∈ zs)) := by show _ = _; rw [decide_eq_true (by rw [← he]; exact List.getElem_mem hlt)]
          rw [he] at c1
          clear he
          go_wp2
          go_ret
          exact ⟨ret_bool HF.out, rfl⟩
        · have HA1 : Hid (∀ j (hj : j < zs.length), j < k + 1 → zs[j] ≠ z) := fun j hj h => by
            by_cases e : j = k
            · subst e; exact he
            · exact HA.out j hj (by omega)
          generalize zs[k] = y at *
          go_wp2
          go_round
          case rel => exact ⟨k + 1, by omega, by go_num, HA1⟩
          case measure => simp [intOf]; omega
      · have hlt' : ¬ (k : Int) < (zs.length : Int) := by omega
        have HF : Hid (false = decide (z ∈ zs)) := by
          show _ = _
          rw [decide_eq_false]
          intro hm
          obtain ⟨j, hj, e⟩ := List.getElem_of_mem hm
          exact HA.out j hj (by omega) e
        go_wp2
        go_ret
        exact ⟨ret_bool HF.out, rfl⟩

theorem OwnSms.only {W W' : World} {B c : Nat} {v : Value} {ss : List SmD} (h : OwnSms W B v ss) (ho : Only c W W') (hc : c < B) : OwnSms W' B v ss := by
  obtain ⟨es, h1, e⟩ := h
  exact ⟨es, ⟨rowOnly h1.row ho hc, fun j hj => rowOnly (h1.inner j hj) ho hc, h1.apart⟩, e⟩
/-- A summary at a place of a list that a call owns. -/
theorem OwnSms.get {W : World} {B : Nat} {a : Option Addr} {c : Nat} {ss : List SmD} (h : OwnSms W B (.slice a ss.length c) ss) (k : Nat) (hk : k < ss.length) : ∃ g x y, a = some ⟨g, 0, none⟩ ∧ W.cell? ⟨g, k * 3, none⟩ = some (.int .i64 ss[k].Lo) ∧ W.cell? ⟨g, k * 3 + 1, none⟩ = some (.int .i64 ss[k].Hi) ∧ W.cell? ⟨g, k * 3 + 2, none⟩ = some (.slice x ss[k].Hs.length y) ∧ OwnHv W B (.slice x ss[k].Hs.length y) ss[k].Hs := by
  obtain ⟨es, ho, rfl⟩ := h
  have hk' : k < es.length := by simpa using hk
  obtain ⟨-, g, rfl, hg, hc⟩ := ho.at (fun e => by rw [e] at hk'; exact absurd hk' (Nat.not_lt_zero _))
  obtain ⟨c0, c1, c2⟩ := hc k hk'
  have hi := ho.inner k hk'
  obtain ⟨x, y, e⟩ := hi.shape
  rw [e] at c2 hi
  simp only [List.getElem_map]
  exact ⟨g, x, y, rfl, c0, c1, c2, hi⟩
/-- A summary of nothing in a block of its own. -/
structure Zb (W : World) (b : Nat) : Prop where
  lt : b < W.heap.size
  c0 : W.cell? ⟨b, 0, none⟩ = some (.int .i64 0)
  c1 : W.cell? ⟨b, 1, none⟩ = some (.int .i64 0)
  c2 : W.cell? ⟨b, 2, none⟩ = some (.slice none 0 0)
  fz : ∀ j, W.frozen? ⟨b, j, none⟩ = false
theorem Zb.new (W : World) (t : TypeId) : Zb (W.alloc (.cells #[.int .i64 0, .int .i64 0, .slice none 0 0] t)) W.heap.size := by
  have hh : (W.alloc (.cells #[.int .i64 0, .int .i64 0, .slice none 0 0] t)).heap[W.heap.size]? = some (.cells #[.int .i64 0, .int .i64 0, .slice none 0 0] t) := by
    show (W.heap.push _)[W.heap.size]? = _
    simp
  refine ⟨by simp, ?_, ?_, ?_, fun j => by unfold World.frozen?; rw [hh]; simp⟩ <;> (rw [World.cell?_alloc_at _ _ _ _ rfl]; rfl)
theorem Zb.only {W W' : World} {b c : Nat} (h : Zb W b) (ho : Only c W W') (hbc : b ≠ c) : Zb W' b := by
  have e := ho.2 b h.lt hbc
  exact ⟨Nat.lt_of_lt_of_le h.lt ho.1, (World.cell?_of_block e).trans h.c0, (World.cell?_of_block e).trans h.c1, (World.cell?_of_block e).trans h.c2, fun j => (World.frozen?_of_block e).trans (h.fz j)⟩
theorem Only.set {c : Nat} {w w' : World} (h : Only c w w') {b : Nat} (hb : w.heap.size ≤ b) (o : Nat) (v : Value) : Only c w (w'.setCell ⟨b, o, none⟩ v) :=
  ⟨by simpa [World.setCell] using h.1, fun k hk hne => by rw [Below.heap_setCell _ _ _ _ (by show k ≠ b; omega)]; exact h.2 k hk hne⟩

def DrawnHHI (B : Nat) (w0 W : World) (e : Ending) (W' : World) : Prop := ∃ v l u k r, e = .returned (.tuple #[v, u, .int .i64 r]) ∧ OwnHv W' W.heap.size v l ∧ l.length ≤ 30 ∧ OwnHv W' W.heap.size u k ∧ k.length ≤ 30 ∧ Since B w0 W'
def DrawnHS (B : Nat) (w0 W : World) (e : Ending) (W' : World) : Prop := ∃ (v : Value) (l : List HvD) (u : Value) (s : SmD), e = .returned (.tuple #[v, .agg #[.int .i64 s.Lo, .int .i64 s.Hi, u]]) ∧ OwnHv W' W.heap.size v l ∧ l.length ≤ 30 ∧ OwnHv W' W.heap.size u s.Hs ∧ s.Hs.length ≤ 30 ∧ Since B w0 W'
def SmPost (B : Nat) (w0 W : World) (c : Nat) (a : Option Addr) (len cap m : Nat) (e : Ending) (W' : World) : Prop :=
  ∃ (v : Value) (s : SmD), e = .returned (.agg #[.int .i64 s.Lo, .int .i64 s.Hi, v]) ∧ OwnHv W' W.heap.size v s.Hs ∧ s.Hs.length ≤ 30 ∧ Cur B w0 W' c a len cap (m + 600) ∧ Only c W W'

set_option maxRecDepth 100000 in
set_option maxHeartbeats 2000000 in
theorem drawSyncBy_any (B : Nat) (w0 W : World) (a : Option Addr) (len cap : Nat) (hC : Code B w0 a len) (hl : len ≤ 9223372036854775807) (h : Since B w0 W) :
    Calls Try.prog 5 #[.slice a len cap] W (DrawnHHI B w0 W) := by
  have HC : Hid (Code B w0 a len) := hC
  have HU : Hid (Cur B w0 (W.alloc (.cells #[.slice a len cap, .int .i64 0, .int .u64 0] 57)) W.heap.size a len cap 0) := cur_new a len cap 57 h
  clear hC h
  go_enter Try.func5, Try.ntmps5
  go_wp2_with fail
  refine (haves_any B w0 _ _ a len cap 0 HC.out hl (by omega) HU.out).mono ?_
  rintro e W1 ⟨v, l, rfl, ho1, hl1, hc1, hn1⟩
  obtain ⟨a1, c1, rfl⟩ := ho1.shape
  have O1 : Hid (OwnHv W1 (W.heap.size + 1) (.slice a1 l.length c1) l) := by show OwnHv _ _ _ _; have := ho1; simp at this; exact this
  have C1 : Hid (Cur B w0 W1 W.heap.size a len cap 260) := hc1.mono (by omega)
  have hcW1 : W.heap.size < W1.heap.size := hc1.2.1
  clear ho1 hc1 hn1 HU
  go_wp2_with fail
  refine (haves_any B w0 _ W.heap.size a len cap 260 HC.out hl (by omega) C1.out).mono ?_
  rintro e W2 ⟨v2, k2, rfl, ho2, hl2, hc2, hn2⟩
  obtain ⟨a2, c2, rfl⟩ := ho2.shape
  have O2 : Hid (OwnHv W2 (W.heap.size + 1) (.slice a1 l.length c1) l) := rowOnly O1.out hn2 (by omega)
  have P2 : Hid (OwnHv W2 (W.heap.size + 1) (.slice a2 k2.length c2) k2) := ho2.mono (by omega)
  have C2 : Hid (Cur B w0 W2 W.heap.size a len cap 520) := hc2.mono (by omega)
  have hcW2 : W.heap.size < W2.heap.size := hc2.2.1
  clear ho2 hc2 hn2 C1 O1
  have HCL : Hid (∀ j (hj : j < [(0 : Int), 1, 2, 3, 30, 31].length), (W2.alloc (.cells #[.int .i64 0, .int .i64 1, .int .i64 2, .int .i64 3, .int .i64 30, .int .i64 31] 3)).cell? ⟨W2.heap.size, j, none⟩ = some (.int .i64 [(0 : Int), 1, 2, 3, 30, 31][j])) := cells_lit W2 3 [(0 : Int), 1, 2, 3, 30, 31]
  go_wp2_with fail
  refine (among_any B w0 _ W.heap.size W2.heap.size [(0 : Int), 1, 2, 3, 30, 31] a len cap 6 520 HC.out hl (by omega) (curAlloc C2.out _) (by simp) (by simp) (by simp) (by omega) HCL.out).mono ?_
  rintro e W3 ⟨g, rfl, -, hc3, ho3⟩
  have hO3 : Only W.heap.size W2 W3 := (onlyAlloc (Only.refl _ _) _).trans ho3
  have HP : Hid (DrawnHHI B w0 W (.returned (.tuple #[.slice a1 l.length c1, .slice a2 k2.length c2, .int .i64 g])) W3) := ⟨_, l, _, k2, g, rfl, rowMono (rowOnly O2.out hO3 (by omega)) (Nat.le_succ _), hl1, rowMono (rowOnly P2.out hO3 (by omega)) (Nat.le_succ _), hl2, hc3.2.2.1⟩
  clear hc3 ho3 hO3 HCL C2 O2 P2
  go_wp2
  refine bodyPost_ret (results_tmp3 rfl _ _ _) rfl ?_
  exact HP.out

set_option maxRecDepth 100000 in
set_option maxHeartbeats 8000000 in
theorem summary_any (B : Nat) (w0 W : World) (c : Nat) (a : Option Addr) (len cap m : Nat) (hC : Code B w0 a len) (hl : len ≤ 9223372036854775807) (hm : m ≤ 50000) (h : Cur B w0 W c a len cap m) :
    Calls Try.prog 39 #[.pointer (some ⟨c, 0, none⟩)] W (SmPost B w0 W c a len cap m) := by
  have HD : Hid (Code B w0 a len) := hC
  have hcW : c < W.heap.size := h.2.1
  have HC0 : Hid (Cur B w0 (W.alloc (.cells #[.int .i64 0, .int .i64 0, .slice none 0 0] 32)) c a len cap m) := curAlloc h _
  have HN0 : Hid (Only c W (W.alloc (.cells #[.int .i64 0, .int .i64 0, .slice none 0 0] 32))) := onlyAlloc (Only.refl _ _) _
  have HZ0 : Hid (Zb (W.alloc (.cells #[.int .i64 0, .int .i64 0, .slice none 0 0] 32)) W.heap.size) := Zb.new W _
  clear hC h
  go_enter Try.func39, Try.ntmps39
  go_wp2_with fail
  refine (haves_any B w0 _ c a len cap m HD.out hl (by omega) HC0.out).mono ?_
  rintro e W1 ⟨v1, l, rfl, ho1, hl1, hc1, on1⟩
  obtain ⟨a1, c1, rfl⟩ := ho1.shape
  have HC1 : Hid (Cur B w0 W1 c a len cap (m + 260) ∧ Only c W W1 ∧ Zb W1 W.heap.size) := ⟨hc1, HN0.out.trans on1, HZ0.out.only on1 (by omega)⟩
  have HO1 : Hid (OwnHv W1 (W.heap.size + 1) (.slice a1 l.length c1) l) := by show OwnHv _ _ _ _; have := ho1; simp at this; exact this
  clear ho1 hc1 on1 HC0 HN0 HZ0
  go_wp2_with fail
  refine (pick_any B w0 _ c a len cap (m + 260) 4 HD.out hl (by omega) HC1.out.1 (by omega) (by omega)).mono ?_
  rintro e W2 ⟨q, rfl, q0, q1, hc2, on2⟩
  have HC2 : Hid (Cur B w0 W2 c a len cap (m + 262) ∧ Only c W W2 ∧ Zb W2 W.heap.size) := ⟨hc2, HC1.out.2.1.trans on2, HC1.out.2.2.only on2 (by omega)⟩
  have HO2 : Hid (OwnHv W2 (W.heap.size + 1) (.slice a1 l.length c1) l) := rowOnly HO1.out on2 (by omega)
  clear hc2 on2 HC1 HO1
  obtain ⟨ss, hss⟩ : ∃ ss, ss = cutOut l (1 + q) := ⟨_, rfl⟩
  obtain ⟨ok, hok⟩ : ∃ ok, ok = cutOk l (1 + q) := ⟨_, rfl⟩
  have CC : Hid (Calls Try.prog 19 #[.slice a1 l.length c1, .int .i64 (1 + q)] W2 (CutPost W2 ss ok)) := by rw [hss, hok]; exact specCut_any W2 _ l (1 + q) HO2.out.lies (by omega)
  have HSM : Hid (ss.length ≤ 31 ∧ ∀ s ∈ ss, s.Hs.length ≤ 30) := by rw [hss]; exact cutOut_small l (1 + q)
  have HS1 : Hid (ok = true → 1 ≤ ss.length) := fun h => by
    rw [hok] at h
    rw [hss]
    unfold cutOut
    rw [if_pos h]
    exact cut_some _ _ _ _
  clear hss hok
  go_wp2_with fail
  refine CC.out.mono ?_
  rintro e W3 ⟨v3, rfl, ho3, hb3⟩
  obtain ⟨a3, c3, rfl⟩ := ho3.shape
  have hlt2 : W.heap.size < W2.heap.size := HC2.out.2.2.lt
  have HC3 : Hid (Cur B w0 W3 c a len cap (m + 262) ∧ Only c W W3 ∧ Zb W3 W.heap.size) := ⟨HC2.out.1.below hb3, HC2.out.2.1.trans (below_only hb3 c), HC2.out.2.2.only (below_only hb3 c) (by omega)⟩
  have HO3 : Hid (OwnSms W3 (W.heap.size + 1) (.slice a3 ss.length c3) ss) := ho3.mono hlt2
  clear ho3 hb3 HC2 HO2 CC hlt2
  cases ok with
  | false =>
    have HCN := HC3
    clear HC3 HO3 HS1
    go_wp2_with fail
    refine (pick_any B w0 _ c a len cap (m + 262) 4 HD.out hl (by omega) HCN.out.1 (by omega) (by omega)).mono ?_
    rintro e Z1 ⟨p1, rfl, p10, p11, hz1, oz1⟩
    have HZ1 : Hid (Cur B w0 Z1 c a len cap (m + 264) ∧ Only c W Z1 ∧ Zb Z1 W.heap.size) := ⟨hz1, HCN.out.2.1.trans oz1, HCN.out.2.2.only oz1 (by omega)⟩
    have hcZ1 : c < Z1.heap.size := hz1.2.1
    clear hz1 oz1 HCN
    have HCL : Hid (∀ j (hj : j < [(0 : Int), 3, 1000, 1001].length), (Z1.alloc (.cells #[.int .i64 0, .int .i64 3, .int .i64 1000, .int .i64 1001] 3)).cell? ⟨Z1.heap.size, j, none⟩ = some (.int .i64 [(0 : Int), 3, 1000, 1001][j])) := cells_lit Z1 3 [(0 : Int), 3, 1000, 1001]
    go_wp2_with fail
    refine (among_any B w0 _ c Z1.heap.size [(0 : Int), 3, 1000, 1001] a len cap 4 (m + 264) HD.out hl (by omega) (curAlloc HZ1.out.1 _) (by simp) (by simp) (by simp) (by omega) HCL.out).mono ?_
    rintro e Z2 ⟨g2, rfl, -, hz2, oz2⟩
    have hO2 : Only c Z1 Z2 := (onlyAlloc (Only.refl _ _) _).trans oz2
    have HZ2 : Hid (Cur B w0 Z2 c a len cap (m + 266) ∧ Only c W Z2 ∧ Zb Z2 W.heap.size) := ⟨hz2, HZ1.out.2.1.trans hO2, HZ1.out.2.2.only hO2 (by omega)⟩
    clear hz2 oz2 hO2 HZ1 HCL hcZ1
    go_wp2_with fail
    refine (haves_any B w0 _ c a len cap (m + 266) HD.out hl (by omega) HZ2.out.1).mono ?_
    rintro e Z3 ⟨vx, lx, rfl, hox, hlx, hz3, oz3⟩
    obtain ⟨ax, cx, rfl⟩ := hox.shape
    have HB3 : Hid (Zb Z3 W.heap.size) := HZ2.out.2.2.only oz3 (by omega)
    have HN3 : Hid (Only c W (((Z3.setCell ⟨W.heap.size, 0, none⟩ (.int .i64 p1)).setCell ⟨W.heap.size, 1, none⟩ (.int .i64 g2)).setCell ⟨W.heap.size, 2, none⟩ (.slice ax lx.length cx))) := (((HZ2.out.2.1.trans oz3).set (Nat.le_refl _) _ _).set (Nat.le_refl _) _ _).set (Nat.le_refl _) _ _
    have HC3 : Hid (Cur B w0 (((Z3.setCell ⟨W.heap.size, 0, none⟩ (.int .i64 p1)).setCell ⟨W.heap.size, 1, none⟩ (.int .i64 g2)).setCell ⟨W.heap.size, 2, none⟩ (.slice ax lx.length cx)) c a len cap (m + 600)) := (((hz3.other (by omega) _).other (by omega) _).other (by omega) _).mono (by omega)
    have HO3 : Hid (OwnHv (((Z3.setCell ⟨W.heap.size, 0, none⟩ (.int .i64 p1)).setCell ⟨W.heap.size, 1, none⟩ (.int .i64 g2)).setCell ⟨W.heap.size, 2, none⟩ (.slice ax lx.length cx)) W.heap.size (.slice ax lx.length cx) lx) := by
      have hlt : W.heap.size < Z2.heap.size := HZ2.out.2.2.lt
      exact (((hox.setCell (p := ⟨W.heap.size, 0, none⟩) hlt _).setCell (p := ⟨W.heap.size, 1, none⟩) hlt _).setCell (p := ⟨W.heap.size, 2, none⟩) hlt _).mono (Nat.le_of_lt hlt)
    have HLX : Hid (lx.length ≤ 30) := hlx
    clear hox hlx hz3 oz3 HZ2
    obtain ⟨-, r0, r1, r2, hfz⟩ := HB3.out
    have fr0 := hfz 0
    have fr1 := hfz 1
    have fr2 := hfz 2
    clear hfz
    go_wp2
    refine bodyPost_ret (v := .agg #[.int .i64 p1, .int .i64 g2, .slice ax lx.length cx]) (by simp [results, Try.results39, go_sem, r0, r1, r2]) rfl ?_
    exact ⟨_, ⟨p1, g2, lx⟩, rfl, HO3.out, HLX.out, HC3.out, HN3.out⟩
  | true =>
    have hs1 : 1 ≤ ss.length := HS1.out (by first | rfl | trivial)
    have hs2 : ss.length ≤ 31 := HSM.out.1
    clear HS1
    go_wp2_with fail
    refine (one_any B w0 _ c a len cap (m + 262) 12 HD.out hl (by omega) HC3.out.1 (by omega) (by omega)).mono ?_
    rintro e W4 ⟨b4, rfl, hc4, on4⟩
    have HC4 : Hid (Cur B w0 W4 c a len cap (m + 264) ∧ Only c W W4 ∧ Zb W4 W.heap.size) := ⟨hc4, HC3.out.2.1.trans on4, HC3.out.2.2.only on4 (by omega)⟩
    have HO4 : Hid (OwnSms W4 (W.heap.size + 1) (.slice a3 ss.length c3) ss) := HO3.out.only on4 (by omega)
    clear hc4 on4 HC3 HO3
    cases b4 with
    | true =>
      have HCN := HC4
      clear HC4 HO4
      go_wp2_with fail
      refine (pick_any B w0 _ c a len cap (m + 264) 4 HD.out hl (by omega) HCN.out.1 (by omega) (by omega)).mono ?_
      rintro e Z1 ⟨p1, rfl, p10, p11, hz1, oz1⟩
      have HZ1 : Hid (Cur B w0 Z1 c a len cap (m + 266) ∧ Only c W Z1 ∧ Zb Z1 W.heap.size) := ⟨hz1, HCN.out.2.1.trans oz1, HCN.out.2.2.only oz1 (by omega)⟩
      have hcZ1 : c < Z1.heap.size := hz1.2.1
      clear hz1 oz1 HCN
      have HCL : Hid (∀ j (hj : j < [(0 : Int), 3, 1000, 1001].length), (Z1.alloc (.cells #[.int .i64 0, .int .i64 3, .int .i64 1000, .int .i64 1001] 3)).cell? ⟨Z1.heap.size, j, none⟩ = some (.int .i64 [(0 : Int), 3, 1000, 1001][j])) := cells_lit Z1 3 [(0 : Int), 3, 1000, 1001]
      go_wp2_with fail
      refine (among_any B w0 _ c Z1.heap.size [(0 : Int), 3, 1000, 1001] a len cap 4 (m + 266) HD.out hl (by omega) (curAlloc HZ1.out.1 _) (by simp) (by simp) (by simp) (by omega) HCL.out).mono ?_
      rintro e Z2 ⟨g2, rfl, -, hz2, oz2⟩
      have hO2 : Only c Z1 Z2 := (onlyAlloc (Only.refl _ _) _).trans oz2
      have HZ2 : Hid (Cur B w0 Z2 c a len cap (m + 268) ∧ Only c W Z2 ∧ Zb Z2 W.heap.size) := ⟨hz2, HZ1.out.2.1.trans hO2, HZ1.out.2.2.only hO2 (by omega)⟩
      clear hz2 oz2 hO2 HZ1 HCL hcZ1
      go_wp2_with fail
      refine (haves_any B w0 _ c a len cap (m + 268) HD.out hl (by omega) HZ2.out.1).mono ?_
      rintro e Z3 ⟨vx, lx, rfl, hox, hlx, hz3, oz3⟩
      obtain ⟨ax, cx, rfl⟩ := hox.shape
      have HB3 : Hid (Zb Z3 W.heap.size) := HZ2.out.2.2.only oz3 (by omega)
      have HN3 : Hid (Only c W (((Z3.setCell ⟨W.heap.size, 0, none⟩ (.int .i64 p1)).setCell ⟨W.heap.size, 1, none⟩ (.int .i64 g2)).setCell ⟨W.heap.size, 2, none⟩ (.slice ax lx.length cx))) := (((HZ2.out.2.1.trans oz3).set (Nat.le_refl _) _ _).set (Nat.le_refl _) _ _).set (Nat.le_refl _) _ _
      have HC3 : Hid (Cur B w0 (((Z3.setCell ⟨W.heap.size, 0, none⟩ (.int .i64 p1)).setCell ⟨W.heap.size, 1, none⟩ (.int .i64 g2)).setCell ⟨W.heap.size, 2, none⟩ (.slice ax lx.length cx)) c a len cap (m + 600)) := (((hz3.other (by omega) _).other (by omega) _).other (by omega) _).mono (by omega)
      have HO3 : Hid (OwnHv (((Z3.setCell ⟨W.heap.size, 0, none⟩ (.int .i64 p1)).setCell ⟨W.heap.size, 1, none⟩ (.int .i64 g2)).setCell ⟨W.heap.size, 2, none⟩ (.slice ax lx.length cx)) W.heap.size (.slice ax lx.length cx) lx) := by
        have hlt : W.heap.size < Z2.heap.size := HZ2.out.2.2.lt
        exact (((hox.setCell (p := ⟨W.heap.size, 0, none⟩) hlt _).setCell (p := ⟨W.heap.size, 1, none⟩) hlt _).setCell (p := ⟨W.heap.size, 2, none⟩) hlt _).mono (Nat.le_of_lt hlt)
      have HLX : Hid (lx.length ≤ 30) := hlx
      clear hox hlx hz3 oz3 HZ2
      obtain ⟨-, r0, r1, r2, hfz⟩ := HB3.out
      have fr0 := hfz 0
      have fr1 := hfz 1
      have fr2 := hfz 2
      clear hfz
      go_wp2
      refine bodyPost_ret (v := .agg #[.int .i64 p1, .int .i64 g2, .slice ax lx.length cx]) (by simp [results, Try.results39, go_sem, r0, r1, r2]) rfl ?_
      exact ⟨_, ⟨p1, g2, lx⟩, rfl, HO3.out, HLX.out, HC3.out, HN3.out⟩
    | false =>
      go_wp2_with fail
      refine (pick_any B w0 _ c a len cap (m + 264) (ss.length : Int) HD.out hl (by omega) HC4.out.1 (by omega) (by omega)).mono ?_
      rintro e W6 ⟨q6, rfl, q60, q61, hc6, on6⟩
      obtain ⟨k, rfl⟩ : ∃ k : Nat, q6 = k := ⟨q6.toNat, by omega⟩
      have hk : k < ss.length := by omega
      have hO6 : OwnSms W6 (W.heap.size + 1) (.slice a3 ss.length c3) ss := HO4.out.only on6 (by omega)
      obtain ⟨g6, x6, y6, rfl, p0, p1, p2, hin⟩ := hO6.get k hk
      have hsl := HSM.out.2 _ (List.getElem_mem hk)
      generalize ss[k] = s at *
      obtain ⟨lo, hi, hs⟩ := s
      simp only at *
      have HB6 : Hid (Zb W6 W.heap.size) := HC4.out.2.2.only on6 (by omega)
      have HN6 : Hid (Only c W (((W6.setCell ⟨W.heap.size, 0, none⟩ (.int .i64 lo)).setCell ⟨W.heap.size, 1, none⟩ (.int .i64 hi)).setCell ⟨W.heap.size, 2, none⟩ (.slice x6 hs.length y6))) := (((HC4.out.2.1.trans on6).set (Nat.le_refl _) _ _).set (Nat.le_refl _) _ _).set (Nat.le_refl _) _ _
      have HC6 : Hid (Cur B w0 (((W6.setCell ⟨W.heap.size, 0, none⟩ (.int .i64 lo)).setCell ⟨W.heap.size, 1, none⟩ (.int .i64 hi)).setCell ⟨W.heap.size, 2, none⟩ (.slice x6 hs.length y6)) c a len cap (m + 600)) := (((hc6.other (by omega) _).other (by omega) _).other (by omega) _).mono (by omega)
      have HO6 : Hid (OwnHv (((W6.setCell ⟨W.heap.size, 0, none⟩ (.int .i64 lo)).setCell ⟨W.heap.size, 1, none⟩ (.int .i64 hi)).setCell ⟨W.heap.size, 2, none⟩ (.slice x6 hs.length y6)) W.heap.size (.slice x6 hs.length y6) hs) := (((hin.setCell (p := ⟨W.heap.size, 0, none⟩) (Nat.lt_succ_self _) _).setCell (p := ⟨W.heap.size, 1, none⟩) (Nat.lt_succ_self _) _).setCell (p := ⟨W.heap.size, 2, none⟩) (Nat.lt_succ_self _) _).mono (Nat.le_succ _)
      have HLX : Hid (hs.length ≤ 30) := hsl
      clear hO6 hin hc6 on6 HC4 HO4 hsl
      obtain ⟨-, r0, r1, r2, hfz⟩ := HB6.out
      have fr0 := hfz 0
      have fr1 := hfz 1
      have fr2 := hfz 2
      clear hfz
      go_wp2
      refine bodyPost_ret (v := .agg #[.int .i64 lo, .int .i64 hi, .slice x6 hs.length y6]) (by simp [results, Try.results39, go_sem, r0, r1, r2]) rfl ?_
      exact ⟨_, ⟨lo, hi, hs⟩, rfl, HO6.out, HLX.out, HC6.out, HN6.out⟩

set_option maxRecDepth 100000 in
set_option maxHeartbeats 4000000 in
theorem drawAskFor_any (B : Nat) (w0 W : World) (a : Option Addr) (len cap : Nat) (hC : Code B w0 a len) (hl : len ≤ 9223372036854775807) (h : Since B w0 W) :
    Calls Try.prog 10 #[.slice a len cap] W (DrawnHS B w0 W) := by
  have HC : Hid (Code B w0 a len) := hC
  have HZ0 : Hid (Zb (W.alloc (.cells #[.int .i64 0, .int .i64 0, .slice none 0 0] 32)) W.heap.size) := Zb.new W _
  have HU : Hid (Cur B w0 ((W.alloc (.cells #[.int .i64 0, .int .i64 0, .slice none 0 0] 32)).alloc (.cells #[.slice a len cap, .int .i64 0, .int .u64 0] 57)) (W.heap.size + 1) a len cap 0) := by
    have := cur_new a len cap 57 (h.step ((Below.refl _ W).alloc (Nat.le_refl _) (.cells #[.int .i64 0, .int .i64 0, .slice none 0 0] 32)))
    exact (show Cur _ _ _ _ _ _ _ _ by simpa using this)
  have HBB : Hid (B ≤ W.heap.size) := h.2
  have HZ1 : Hid (Zb ((W.alloc (.cells #[.int .i64 0, .int .i64 0, .slice none 0 0] 32)).alloc (.cells #[.slice a len cap, .int .i64 0, .int .u64 0] 57)) W.heap.size) := HZ0.out.only (c := W.heap.size + 1) (below_only ((Below.refl _ _).alloc (Nat.le_refl _) _) _) (by omega)
  clear hC h HZ0
  go_enter Try.func10, Try.ntmps10
  go_wp2_with fail
  refine (haves_any B w0 _ (W.heap.size + 1) a len cap 0 HC.out hl (by omega) HU.out).mono ?_
  rintro e W1 ⟨v, l, rfl, ho1, hl1, hc1, hn1⟩
  obtain ⟨a1, c1, rfl⟩ := ho1.shape
  have O1 : Hid (OwnHv W1 (W.heap.size + 2) (.slice a1 l.length c1) l) := by show OwnHv _ _ _ _; have := ho1; simp at this; exact this
  have C1 : Hid (Cur B w0 W1 (W.heap.size + 1) a len cap 260) := hc1.mono (by omega)
  have Z1 : Hid (Zb W1 W.heap.size) := HZ1.out.only hn1 (by omega)
  have hcW1 : W.heap.size + 1 < W1.heap.size := hc1.2.1
  clear ho1 hc1 hn1 HU HZ1
  go_wp2_with fail
  refine (summary_any B w0 _ (W.heap.size + 1) a len cap 260 HC.out hl (by omega) C1.out).mono ?_
  rintro e W2 ⟨v2, s, rfl, ho2, hl2, hc2, hn2⟩
  obtain ⟨lo, hi, hs⟩ := s
  simp only at *
  obtain ⟨a2, c2, rfl⟩ := ho2.shape
  have Z2 : Hid (Zb W2 W.heap.size) := Z1.out.only hn2 (by omega)
  have h1 : W.heap.size < W.heap.size + 2 := by omega
  have O2 : Hid (OwnHv (((W2.setCell ⟨W.heap.size, 0, none⟩ (.int .i64 lo)).setCell ⟨W.heap.size, 1, none⟩ (.int .i64 hi)).setCell ⟨W.heap.size, 2, none⟩ (.slice a2 hs.length c2)) W.heap.size (.slice a1 l.length c1) l) := ((((show OwnHv W2 (W.heap.size + 2) (.slice a1 l.length c1) l from rowOnly O1.out hn2 (by omega)).setCell (p := ⟨W.heap.size, 0, none⟩) h1 _).setCell (p := ⟨W.heap.size, 1, none⟩) h1 _).setCell (p := ⟨W.heap.size, 2, none⟩) h1 _).mono (by omega)
  have h2 : W.heap.size < W1.heap.size := by omega
  have P2 : Hid (OwnHv (((W2.setCell ⟨W.heap.size, 0, none⟩ (.int .i64 lo)).setCell ⟨W.heap.size, 1, none⟩ (.int .i64 hi)).setCell ⟨W.heap.size, 2, none⟩ (.slice a2 hs.length c2)) W.heap.size (.slice a2 hs.length c2) hs) := (((ho2.setCell (p := ⟨W.heap.size, 0, none⟩) h2 _).setCell (p := ⟨W.heap.size, 1, none⟩) h2 _).setCell (p := ⟨W.heap.size, 2, none⟩) h2 _).mono (by omega)
  have S2 : Hid (Since B w0 (((W2.setCell ⟨W.heap.size, 0, none⟩ (.int .i64 lo)).setCell ⟨W.heap.size, 1, none⟩ (.int .i64 hi)).setCell ⟨W.heap.size, 2, none⟩ (.slice a2 hs.length c2))) := by
    have hz := hc2.2.2.1
    exact ⟨((hz.1.setCell (p := ⟨W.heap.size, 0, none⟩) HBB.out _).setCell (p := ⟨W.heap.size, 1, none⟩) HBB.out _).setCell (p := ⟨W.heap.size, 2, none⟩) HBB.out _, by simpa [World.setCell] using hz.2⟩
  clear ho2 hc2 hn2 C1 O1 Z1 h1 h2
  obtain ⟨-, r0, r1, r2, hfz⟩ := Z2.out
  have fr0 := hfz 0
  have fr1 := hfz 1
  have fr2 := hfz 2
  clear hfz
  go_wp2
  refine bodyPost_ret (v := .tuple #[.slice a1 l.length c1, .agg #[.int .i64 lo, .int .i64 hi, .slice a2 hs.length c2]]) (by simp [results, Try.results10, go_sem, r0, r1, r2]) rfl ?_
  exact ⟨_, l, _, ⟨lo, hi, hs⟩, rfl, O2.out, hl1, P2.out, hl2, S2.out⟩
end Go.Proofs.Ytkpdiojomgiocac
