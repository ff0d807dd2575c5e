/-
  Draws of chapter 9: two spots, a flow, a way.
-/
import Derived.Test.YthlbmkefjjckaadBunH
import Derived.Test.YthlbmkefjjckaadGrWayTo
namespace Go.Proofs.Ythlbmkefjjckaad
open Go.RowKit
set_option linter.unusedVariables false

theorem wayOut_small (n : Int) (l : List EdD) (a b : Int) : (wayOut n l a b).length ≤ 12 := by
  by_cases h : wayOk n l a b = true
  · obtain ⟨r, hr, hw⟩ := wayOut_is h
    rw [hr]
    unfold wayOk at h
    rw [Bool.and_eq_true] at h
    obtain ⟨hg, hA, hB⟩ := endsOk_true h.1
    obtain ⟨g1, -, g3, -⟩ := goodEd_true hg
    obtain ⟨N, rfl⟩ : ∃ N : Nat, n = (N : Int) := ⟨n.toNat, by omega⟩
    have := way_len g3 r a hA.1 hA.2 hw
    omega
  · unfold wayOut
    rw [if_neg h]
    simp

/-- 'pick' of nothing. -/
theorem pick0_any (W : World) (c : Nat) (n : Int) (h : n ≤ 1) : Calls Try.prog 54 #[.pointer (some ⟨c, 0, none⟩), .int .i64 n] W fun e W' => e = .returned (.int .i64 0) ∧ W' = W := by
  go_enter Try.func54, Try.ntmps54
  go_wp2
  go_ret
  exact ⟨rfl, rfl⟩
theorem pickN_any (B : Nat) (w0 W : World) (c : Nat) (a : Option Addr) (len cap m : Nat) (n : Int) (hC : Code B w0 a len) (hl : len ≤ 9223372036854775807) (hm : m ≤ 900000) (h : Cur B w0 W c a len cap m) (n2 : n ≤ 1000000) :
    Calls Try.prog 54 #[.pointer (some ⟨c, 0, none⟩), .int .i64 n] W fun e W' => ∃ r : Int, e = .returned (.int .i64 r) ∧ 0 ≤ r ∧ r ≤ max n 0 ∧ Cur B w0 W' c a len cap (m + 2) ∧ Only c W W' := by
  by_cases h1 : n ≤ 1
  · refine (pick0_any W c n h1).mono ?_
    rintro e W' ⟨rfl, rfl⟩
    exact ⟨0, rfl, by omega, by omega, h.mono (by omega), Only.refl _ _⟩
  · refine (pick_any B w0 W c a len cap m n hC hl hm h (by omega) n2).mono ?_
    rintro e W' ⟨r, rfl, r0, r1, hc, ho⟩
    exact ⟨r, rfl, r0, by omega, hc, ho⟩

theorem results_tmp4w {fn : Func} {t u v x : Tmp} (h : fn.results = #[.tmp t, .tmp u, .tmp v, .tmp x]) (tmps : Array Value) (P : Program) (w : World) :
    (results fn tmps).run P w = .ok (.tuple #[tmps[t]?.getD undef, tmps[u]?.getD undef, tmps[v]?.getD undef, tmps[x]?.getD undef]) w := by
  simp [results, h, go_sem]
theorem results_tmp5w {fn : Func} {t u v x y : Tmp} (h : fn.results = #[.tmp t, .tmp u, .tmp v, .tmp x, .tmp y]) (tmps : Array Value) (P : Program) (w : World) :
    (results fn tmps).run P w = .ok (.tuple #[tmps[t]?.getD undef, tmps[u]?.getD undef, tmps[v]?.getD undef, tmps[x]?.getD undef, tmps[y]?.getD undef]) w := by
  simp [results, h, go_sem]
def DrawnEii (B : Nat) (w0 W : World) (e : Ending) (W' : World) : Prop := ∃ (n : Nat) (v : Value) (l : List EdD) (r s : Int), e = .returned (.tuple #[.int .i64 (n : Int), v, .int .i64 r, .int .i64 s]) ∧ OwnEd W' W.heap.size v l ∧ l.length ≤ 40 ∧ n ≤ 13 ∧ Since B w0 W' ∧ W.heap.size ≤ W'.heap.size

/-- Of a way drawn one may have been spoilt. -/
def DrawnEn (B : Nat) (w0 W : World) (e : Ending) (W' : World) : Prop := ∃ (n : Nat) (v : Value) (l : List EdD) (u : Value) (ws : List Int), e = .returned (.tuple #[.int .i64 (n : Int), v, u]) ∧ OwnEd W' W.heap.size v l ∧ l.length ≤ 40 ∧ n ≤ 13 ∧ Own W' W.heap.size u ws ∧ ws.length ≤ 12 ∧ Since B w0 W'

end Go.Proofs.Ythlbmkefjjckaad
