/-
  'HopFor' of the program and of the model.
-/
import Derived.Test.YthlbmkefjjckaacGrFirst
namespace Go.Proofs.Ythlbmkefjjckaac
open Go.RowKit
set_option linter.unusedVariables false

def hopForOk (n : Int) (l : List EdD) (a b f : Int) : Bool := hopsOk n l a b && decide (0 ≤ f ∧ f ≤ 1000) && decide (hopsOut n l a b ≠ [])
def hopForOut (n : Int) (l : List EdD) (a b f : Int) : Int := if hopForOk n l a b f then (hopsOut n l a b).getD (f.toNat % (hopsOut n l a b).length) 0 else 0
theorem hopForOk_true {n : Int} {l : List EdD} {a b f : Int} (h : hopForOk n l a b f = true) : hopsOk n l a b = true ∧ (0 ≤ f ∧ f ≤ 1000) ∧ 0 < (hopsOut n l a b).length := by
  unfold hopForOk at h
  rw [Bool.and_eq_true, Bool.and_eq_true] at h
  exact ⟨h.1.1, of_decide_eq_true h.1.2, List.length_pos_iff.2 (of_decide_eq_true h.2)⟩
def ForPost (W : World) (out : Int) (ok : Bool) (e : Ending) (W' : World) : Prop := e = .returned (.tuple #[.int .i64 out, .bool ok]) ∧ Below W.heap.size W W'
theorem ForPost.zero {W W' : World} {out : Int} {ok : Bool} (h1 : ok = false) (h2 : out = 0) (hb : Below W.heap.size W W') : ForPost W out ok (.returned (.tuple #[.int .i64 0, .bool false])) W' := ⟨by rw [h1, h2], hb⟩
theorem ForPost.mk {W W' : World} {out z : Int} {ok : Bool} (h1 : ok = true) (h2 : out = z) (hb : Below W.heap.size W W') : ForPost W out ok (.returned (.tuple #[.int .i64 z, .bool true])) W' := ⟨by rw [h1, h2], hb⟩

set_option maxRecDepth 100000 in
set_option maxHeartbeats 4000000 in
theorem implHopFor_any (W : World) (v : Value) (n : Int) (l : List EdD) (a b f : Int) (h : ReadsEd W v l) (hl : l.length ≤ 2097152) :
    Calls Try.prog 67 #[.int .i64 n, v, .int .i64 a, .int .i64 b, .int .i64 f] W (ForPost W (hopForOut n l a b f) (hopForOk n l a b f)) := by
  have CH : Hid (Calls Try.prog 64 #[.int .i64 n, v, .int .i64 a, .int .i64 b] W (NearPost W (hopsOut n l a b) (hopsOk n l a b))) := implFirstHops_any W v n l a b h hl
  obtain ⟨a1, c1, rfl⟩ := h.shape
  have HD : Hid (hopForOk n l a b f = (hopsOk n l a b && decide (0 ≤ f ∧ f ≤ 1000) && decide (hopsOut n l a b ≠ [])) ∧ hopForOut n l a b f = if hopForOk n l a b f then (hopsOut n l a b).getD (f.toNat % (hopsOut n l a b).length) 0 else 0) := ⟨rfl, rfl⟩
  have HLN : Hid ((hopsOut n l a b).length ≤ 4194304) := hopsOut_len n l a b
  generalize hopForOk n l a b f = ok at *
  generalize hopForOut n l a b f = out at *
  generalize hopsOut n l a b = hs at *
  clear h
  cases hk : hopsOk n l a b with
  | false =>
    have HF : Hid (ok = false ∧ out = 0) := by
      have h1 : ok = false := HD.out.1.trans (by rw [hk]; rfl)
      exact ⟨h1, HD.out.2.trans (by rw [h1]; rfl)⟩
    rw [hk] at CH
    clear hk HD
    go_enter Try.func67, Try.ntmps67
    go_wp2_with fail
    refine CH.out.mono ?_
    rintro e w1 ⟨u1, rfl, ho1, hb1⟩
    obtain ⟨au, cu, rfl⟩ := ho1.shape
    have HB1 : Hid (Own w1 W.heap.size (.slice au hs.length cu) hs ∧ Below W.heap.size W w1) := ⟨ho1, hb1⟩
    clear ho1 hb1
    go_wp2
    refine bodyPost_ret (results_tmp2 rfl _ _ _) rfl ?_
    exact ForPost.zero HF.out.1 HF.out.2 HB1.out.2
  | true =>
    rw [hk] at CH
    cases hf : decide (0 ≤ f ∧ f ≤ 1000) with
    | false =>
      have HF : Hid (ok = false ∧ out = 0) := by
        have h1 : ok = false := HD.out.1.trans (by rw [hk, hf]; rfl)
        exact ⟨h1, HD.out.2.trans (by rw [h1]; rfl)⟩
      clear hk HD
      by_cases h1 : f < 0
      · have q1 : decide (f < 0) = true := by simpa using h1
        clear h1 hf
        go_enter Try.func67, Try.ntmps67
        go_wp2_with fail
        refine CH.out.mono ?_
        rintro e w1 ⟨u1, rfl, ho1, hb1⟩
        obtain ⟨au, cu, rfl⟩ := ho1.shape
        have HB1 : Hid (Own w1 W.heap.size (.slice au hs.length cu) hs ∧ Below W.heap.size W w1) := ⟨ho1, hb1⟩
        clear ho1 hb1
        go_wp2
        refine bodyPost_ret (results_tmp2 rfl _ _ _) rfl ?_
        exact ForPost.zero HF.out.1 HF.out.2 HB1.out.2
      · have q1 : decide (f < 0) = false := by simpa using h1
        have q2 : decide (1000 < f) = true := by
          have := of_decide_eq_false hf
          simp
          omega
        clear h1 hf
        go_enter Try.func67, Try.ntmps67
        go_wp2_with fail
        refine CH.out.mono ?_
        rintro e w1 ⟨u1, rfl, ho1, hb1⟩
        obtain ⟨au, cu, rfl⟩ := ho1.shape
        have HB1 : Hid (Own w1 W.heap.size (.slice au hs.length cu) hs ∧ Below W.heap.size W w1) := ⟨ho1, hb1⟩
        clear ho1 hb1
        go_wp2
        refine bodyPost_ret (results_tmp2 rfl _ _ _) rfl ?_
        exact ForPost.zero HF.out.1 HF.out.2 HB1.out.2
    | true =>
      have hf' := of_decide_eq_true hf
      have q1 : decide (f < 0) = false := by simp; omega
      have q2 : decide (1000 < f) = false := by simp; omega
      by_cases h0 : hs = []
      · have HF : Hid (ok = false ∧ out = 0) := by
          have h1 : ok = false := HD.out.1.trans (by rw [hk, hf, decide_eq_false (not_not_intro h0)]; rfl)
          exact ⟨h1, HD.out.2.trans (by rw [h1]; rfl)⟩
        have hl0 : ((hs.length : Int) == 0) = true := by rw [h0]; rfl
        have hlz : hs.length = 0 := by rw [h0]; rfl
        clear hk HD h0
        go_enter Try.func67, Try.ntmps67
        go_wp2_with fail
        refine CH.out.mono ?_
        rintro e w1 ⟨u1, rfl, ho1, hb1⟩
        obtain ⟨au, cu, rfl⟩ := ho1.shape
        have HB1 : Hid (Own w1 W.heap.size (.slice au hs.length cu) hs ∧ Below W.heap.size W w1) := ⟨ho1, hb1⟩
        clear ho1 hb1
        go_wp2
        refine bodyPost_ret (results_tmp2 rfl _ _ _) rfl ?_
        exact ForPost.zero HF.out.1 HF.out.2 HB1.out.2
      · have hlen : 0 < hs.length := List.length_pos_iff.2 h0
        have hl0 : ((hs.length : Int) == 0) = false := by simp; omega
        obtain ⟨m, rfl⟩ : ∃ m : Nat, f = (m : Int) := ⟨f.toNat, by omega⟩
        have hrlt : m % hs.length < hs.length := Nat.mod_lt _ hlen
        have hrem : (m : Int).tmod (hs.length : Int) = ((m % hs.length : Nat) : Int) := rfl
        have HF : Hid (ok = true ∧ out = hs[m % hs.length]) := by
          have h1 : ok = true := HD.out.1.trans (by rw [hk, hf, decide_eq_true h0]; rfl)
          refine ⟨h1, HD.out.2.trans ?_⟩
          rw [if_pos h1, show ((m : Int)).toNat = m from rfl, List.getD_eq_getElem?_getD, List.getElem?_eq_getElem hrlt]
          rfl
        clear hk HD h0
        go_enter Try.func67, Try.ntmps67
        go_wp2_with fail
        refine CH.out.mono ?_
        rintro e w1 ⟨u1, rfl, ho1, hb1⟩
        obtain ⟨au, cu, rfl⟩ := ho1.shape
        have HB1 : Hid (Own w1 W.heap.size (.slice au hs.length cu) hs ∧ Below W.heap.size W w1) := ⟨ho1, hb1⟩
        clear ho1 hb1
        have hcell : ∃ g, au = some ⟨g, 0, none⟩ ∧ w1.cell? ⟨g, m % hs.length, none⟩ = some (.int .i64 hs[m % hs.length]) := by
          have ho := HB1.out.1
          rcases HB1.out.1.2 with ⟨hv, h0⟩ | ⟨g, cap, cur, hv, -⟩
          · omega
          · cases hv
            exact ⟨g, rfl, own_cellG ho rfl _ hrlt⟩
        obtain ⟨g, rfl, hcell⟩ := hcell
        generalize hs[m % hs.length] = z at *
        obtain ⟨r, hr⟩ : ∃ r, r = m % hs.length := ⟨_, rfl⟩
        rw [← hr] at hrlt hrem hcell
        have hrlt' : (r : Int) < (hs.length : Int) := by omega
        clear hr
        go_wp2
        refine bodyPost_ret (results_tmp2 rfl _ _ _) rfl ?_
        exact ForPost.mk HF.out.1 HF.out.2 HB1.out.2

set_option maxRecDepth 100000 in
set_option maxHeartbeats 4000000 in
theorem specHopFor_any (W : World) (v : Value) (n : Int) (l : List EdD) (a b f : Int) (h : ReadsEd W v l) (hl : l.length ≤ 2097152) :
    Calls Try.prog 68 #[.int .i64 n, v, .int .i64 a, .int .i64 b, .int .i64 f] W (ForPost W (hopForOut n l a b f) (hopForOk n l a b f)) := by
  have CH : Hid (Calls Try.prog 65 #[.int .i64 n, v, .int .i64 a, .int .i64 b] W (NearPost W (hopsOut n l a b) (hopsOk n l a b))) := specFirstHops_any W v n l a b h hl
  obtain ⟨a1, c1, rfl⟩ := h.shape
  have HD : Hid (hopForOk n l a b f = (hopsOk n l a b && decide (0 ≤ f ∧ f ≤ 1000) && decide (hopsOut n l a b ≠ [])) ∧ hopForOut n l a b f = if hopForOk n l a b f then (hopsOut n l a b).getD (f.toNat % (hopsOut n l a b).length) 0 else 0) := ⟨rfl, rfl⟩
  have HLN : Hid ((hopsOut n l a b).length ≤ 4194304) := hopsOut_len n l a b
  generalize hopForOk n l a b f = ok at *
  generalize hopForOut n l a b f = out at *
  generalize hopsOut n l a b = hs at *
  clear h
  cases hk : hopsOk n l a b with
  | false =>
    have HF : Hid (ok = false ∧ out = 0) := by
      have h1 : ok = false := HD.out.1.trans (by rw [hk]; rfl)
      exact ⟨h1, HD.out.2.trans (by rw [h1]; rfl)⟩
    rw [hk] at CH
    clear hk HD
    go_enter Try.func68, Try.ntmps68
    go_wp2_with fail
    refine CH.out.mono ?_
    rintro e w1 ⟨u1, rfl, ho1, hb1⟩
    obtain ⟨au, cu, rfl⟩ := ho1.shape
    have HB1 : Hid (Own w1 W.heap.size (.slice au hs.length cu) hs ∧ Below W.heap.size W w1) := ⟨ho1, hb1⟩
    clear ho1 hb1
    go_wp2
    refine bodyPost_ret (results_tmp2 rfl _ _ _) rfl ?_
    exact ForPost.zero HF.out.1 HF.out.2 HB1.out.2
  | true =>
    rw [hk] at CH
    cases hf : decide (0 ≤ f ∧ f ≤ 1000) with
    | false =>
      have HF : Hid (ok = false ∧ out = 0) := by
        have h1 : ok = false := HD.out.1.trans (by rw [hk, hf]; rfl)
        exact ⟨h1, HD.out.2.trans (by rw [h1]; rfl)⟩
      clear hk HD
      go_enter Try.func68, Try.ntmps68
      go_wp2_with fail
      refine CH.out.mono ?_
      rintro e w1 ⟨u1, rfl, ho1, hb1⟩
      obtain ⟨au, cu, rfl⟩ := ho1.shape
      have HB1 : Hid (Own w1 W.heap.size (.slice au hs.length cu) hs ∧ Below W.heap.size W w1) := ⟨ho1, hb1⟩
      clear ho1 hb1
      go_wp2_with fail
      refine (l1In_any _ 0 1000 _).mono ?_
      rintro e ww ⟨rfl, hww⟩
      obtain rfl := hww
      rw [hf]
      go_wp2
      refine bodyPost_ret (results_tmp2 rfl _ _ _) rfl ?_
      exact ForPost.zero HF.out.1 HF.out.2 HB1.out.2
    | true =>
      have hf' := of_decide_eq_true hf
      have q1 : decide (f < 0) = false := by simp; omega
      have q2 : decide (1000 < f) = false := by simp; omega
      by_cases h0 : hs = []
      · have HF : Hid (ok = false ∧ out = 0) := by
          have h1 : ok = false := HD.out.1.trans (by rw [hk, hf, decide_eq_false (not_not_intro h0)]; rfl)
          exact ⟨h1, HD.out.2.trans (by rw [h1]; rfl)⟩
        have hl0 : ((hs.length : Int) == 0) = true := by rw [h0]; rfl
        have hlz : hs.length = 0 := by rw [h0]; rfl
        clear hk HD h0
        go_enter Try.func68, Try.ntmps68
        go_wp2_with fail
        refine CH.out.mono ?_
        rintro e w1 ⟨u1, rfl, ho1, hb1⟩
        obtain ⟨au, cu, rfl⟩ := ho1.shape
        have HB1 : Hid (Own w1 W.heap.size (.slice au hs.length cu) hs ∧ Below W.heap.size W w1) := ⟨ho1, hb1⟩
        clear ho1 hb1
        go_wp2_with fail
        refine (l1In_any _ 0 1000 _).mono ?_
        rintro e ww ⟨rfl, hww⟩
        obtain rfl := hww
        rw [hf]
        go_wp2
        refine bodyPost_ret (results_tmp2 rfl _ _ _) rfl ?_
        exact ForPost.zero HF.out.1 HF.out.2 HB1.out.2
      · have hlen : 0 < hs.length := List.length_pos_iff.2 h0
        have hl0 : ((hs.length : Int) == 0) = false := by simp; omega
        obtain ⟨m, rfl⟩ : ∃ m : Nat, f = (m : Int) := ⟨f.toNat, by omega⟩
        have hrlt : m % hs.length < hs.length := Nat.mod_lt _ hlen
        have hrem : (m : Int).tmod (hs.length : Int) = ((m % hs.length : Nat) : Int) := rfl
        have HF : Hid (ok = true ∧ out = hs[m % hs.length]) := by
          have h1 : ok = true := HD.out.1.trans (by rw [hk, hf, decide_eq_true h0]; rfl)
          refine ⟨h1, HD.out.2.trans ?_⟩
          rw [if_pos h1, show ((m : Int)).toNat = m from rfl, List.getD_eq_getElem?_getD, List.getElem?_eq_getElem hrlt]
          rfl
        clear hk HD h0
        go_enter Try.func68, Try.ntmps68
        go_wp2_with fail
        refine CH.out.mono ?_
        rintro e w1 ⟨u1, rfl, ho1, hb1⟩
        obtain ⟨au, cu, rfl⟩ := ho1.shape
        have HB1 : Hid (Own w1 W.heap.size (.slice au hs.length cu) hs ∧ Below W.heap.size W w1) := ⟨ho1, hb1⟩
        clear ho1 hb1
        have hcell : ∃ g, au = some ⟨g, 0, none⟩ ∧ w1.cell? ⟨g, m % hs.length, none⟩ = some (.int .i64 hs[m % hs.length]) := by
          have ho := HB1.out.1
          rcases HB1.out.1.2 with ⟨hv, h0⟩ | ⟨g, cap, cur, hv, -⟩
          · omega
          · cases hv
            exact ⟨g, rfl, own_cellG ho rfl _ hrlt⟩
        obtain ⟨g, rfl, hcell⟩ := hcell
        generalize hs[m % hs.length] = z at *
        obtain ⟨r, hr⟩ : ∃ r, r = m % hs.length := ⟨_, rfl⟩
        rw [← hr] at hrlt hrem hcell
        have hrlt' : (r : Int) < (hs.length : Int) := by omega
        clear hr
        go_wp2_with fail
        refine (l1In_any _ 0 1000 _).mono ?_
        rintro e ww ⟨rfl, hww⟩
        obtain rfl := hww
        rw [hf]
        go_wp2
        refine bodyPost_ret (results_tmp2 rfl _ _ _) rfl ?_
        exact ForPost.mk HF.out.1 HF.out.2 HB1.out.2

end Go.Proofs.Ythlbmkefjjckaac
