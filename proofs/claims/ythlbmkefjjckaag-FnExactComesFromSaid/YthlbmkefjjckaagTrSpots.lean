/-
  'areJoinedOn', 'areSpotsOn'; 'slices.Contains', 'slices.ContainsFunc' of numbers.
-/
import Derived.Test.YthlbmkefjjckaagTrGood
namespace Go.Proofs.Ythlbmkefjjckaag
open Go.RowKit
set_option linter.unusedVariables false

set_option maxRecDepth 100000 in
set_option maxHeartbeats 2000000 in
theorem areJoinedOn_any (W : World) (B : Nat) (u : Value) (ps : List Int) (a b : Int) (hu : Own W B u ps) (ha : 0 ≤ a ∧ a < ps.length) (hb : 0 ≤ b ∧ b < ps.length) :
    Calls Try.prog 65 #[u, .int .i64 a, .int .i64 b] W fun e W' => e = .returned (.bool (joinU ps a b)) ∧ W' = W := by
  obtain ⟨wg, cap, rfl, -⟩ := own_at hu (by omega)
  obtain ⟨p, rfl⟩ : ∃ p : Nat, a = (p : Int) := ⟨a.toNat, by omega⟩
  obtain ⟨q, rfl⟩ : ∃ q : Nat, b = (q : Int) := ⟨b.toNat, by omega⟩
  have hp' : (p : Int) < (ps.length : Int) := ha.2
  have hq' : (q : Int) < (ps.length : Int) := hb.2
  have hcp : W.cell? ⟨wg, p, none⟩ = some (.int .i64 (lab ps (p : Int))) := by rw [lab_get ps p (by omega)]; exact own_cellG hu rfl p (by omega)
  have hcq : W.cell? ⟨wg, q, none⟩ = some (.int .i64 (lab ps (q : Int))) := by rw [lab_get ps q (by omega)]; exact own_cellG hu rfl q (by omega)
  have HJ : Hid (joinU ps (p : Int) (q : Int) = ((lab ps (p : Int) == (q : Int)) || (lab ps (q : Int) == (p : Int)))) := by
    show _ = _
    unfold joinU
    rw [Bool.eq_iff_iff]
    simp
  generalize joinU ps (p : Int) (q : Int) = j at *
  generalize lab ps (p : Int) = x at *
  generalize lab ps (q : Int) = y at *
  clear hu ha hb
  cases h1 : x == (q : Int) with
  | true =>
    have HF : Hid (true = j) := by rw [h1] at HJ; exact HJ.out.symm
    clear HJ
    go_enter Try.func65, Try.ntmps65
    go_wp2
    go_ret
    exact ⟨congrArg (fun q => Ending.returned (Value.bool q)) HF.out, rfl⟩
  | false =>
    cases h2 : y == (p : Int) with
    | true =>
      have HF : Hid (true = j) := by rw [h1, h2] at HJ; exact HJ.out.symm
      clear HJ
      go_enter Try.func65, Try.ntmps65
      go_wp2
      go_ret
      exact ⟨congrArg (fun q => Ending.returned (Value.bool q)) HF.out, rfl⟩
    | false =>
      have HF : Hid (false = j) := by rw [h1, h2] at HJ; exact HJ.out.symm
      clear HJ
      go_enter Try.func65, Try.ntmps65
      go_wp2
      go_ret
      exact ⟨congrArg (fun q => Ending.returned (Value.bool q)) HF.out, rfl⟩

set_option maxRecDepth 100000 in
set_option maxHeartbeats 2000000 in
theorem indexT_any (W : World) (v : Value) (zs : List Int) (x : Int) (h : Reads W v zs) (hl : zs.length ≤ 12) :
    Calls Try.prog 83 #[v, .int .i64 x] W fun e W' => (∃ z : Int, e = .returned (.int .i64 z) ∧ decide (0 ≤ z) = decide (x ∈ zs)) ∧ W' = W := by
  obtain ⟨a1, cap1, rfl, hc1⟩ := h
  have HC1 : Hid (∀ j (hj : j < zs.length), ∃ g1 o1, a1 = some ⟨g1, o1, none⟩ ∧ W.cell? ⟨g1, o1 + j, none⟩ = some (.int .i64 zs[j])) := fun j hj => by
    rcases hc1 with e | ⟨g1, o1, rfl, -, h⟩
    · rw [e] at hj; simp at hj
    · exact ⟨g1, o1, rfl, h j hj⟩
  clear hc1
  go_enter Try.func83, Try.ntmps83
  go_wp2
  go_loop [8] (fun t => ∃ k : Nat, k ≤ zs.length ∧ t = .int .i64 k ∧ Hid (x ∉ zs.take k)) (fun t => zs.length - (intOf t).toNat)
  case atStart => exact ⟨0, Nat.zero_le _, rfl, by show x ∉ []; simp⟩
  case round =>
    obtain ⟨k, hk, rfl, HN⟩ := hrel
    by_cases hlt : k < zs.length
    · have hlt' : (k : Int) < (zs.length : Int) := by omega
      obtain ⟨g1, o1, rfl, q0⟩ := HC1.out k hlt
      by_cases e : x = zs[k]
      · have HF : Hid (decide (0 ≤ (k : Int)) = decide (x ∈ zs)) := by
          show _ = _
          rw [decide_eq_true (by omega), decide_eq_true (by rw [e]; exact List.getElem_mem hlt)]
        have eb : (x == zs[k]) = true := by simpa using e
        clear HC1 HN e
        generalize zs[k] = y at *
        go_wp2
        go_ret
        exact ⟨⟨_, rfl, decide_eq_decide.1 HF.out⟩, rfl⟩
      · have eb : (x == zs[k]) = false := by simpa using e
        have HF : Hid (x ∉ zs.take (k + 1)) := by
          show _ ∉ _
          rw [List.take_succ_eq_append_getElem hlt, List.mem_append]
          rintro (q | q)
          · exact HN.out q
          · exact e (by simpa using q)
        clear HC1 HN e
        generalize zs[k] = y at *
        go_wp2
        go_round
        case rel => exact ⟨k + 1, by omega, by go_num, HF⟩
        case measure => simp [intOf]; omega
    · have e : k = zs.length := by omega
      have HF : Hid (decide (0 ≤ (-1 : Int)) = decide (x ∈ zs)) := by
        show _ = _
        have := HN.out
        rw [e, List.take_length] at this
        rw [decide_eq_false this]
        rfl
      clear HC1 HN
      subst e
      go_wp2
      go_ret
      exact ⟨⟨_, rfl, decide_eq_decide.1 HF.out⟩, rfl⟩

set_option maxRecDepth 100000 in
set_option maxHeartbeats 2000000 in
theorem containsT_any (W : World) (v : Value) (zs : List Int) (x : Int) (h : Reads W v zs) (hl : zs.length ≤ 12) :
    Calls Try.prog 66 #[v, .int .i64 x] W fun e W' => e = .returned (.bool (decide (x ∈ zs))) ∧ W' = W := by
  have CI : Hid (Calls Try.prog 83 #[v, .int .i64 x] W fun e W' => (∃ z : Int, e = .returned (.int .i64 z) ∧ decide (0 ≤ z) = decide (x ∈ zs)) ∧ W' = W) := indexT_any W v zs x h hl
  obtain ⟨a1, cap1, rfl, hc1⟩ := h
  clear hc1
  generalize decide (x ∈ zs) = ok at *
  go_enter Try.func66, Try.ntmps66
  go_wp2_with fail
  refine CI.out.mono ?_
  rintro e ww ⟨⟨z, rfl, hz⟩, hww⟩
  obtain rfl : W = ww := hww.symm
  go_wp2
  go_ret
  exact ⟨rfl, rfl⟩

set_option maxRecDepth 100000 in
set_option maxHeartbeats 2000000 in
theorem isNone_any (W : World) (b : Nat) (wg : Option Addr) (n cap : Nat) (z : Int) (hb : W.cell? ⟨b, 0, none⟩ = some (.slice wg n cap)) :
    Calls Try.prog 62 #[.int .i64 z, .pointer (some ⟨b, 0, none⟩)] W fun e W' => e = .returned (.bool (!decide (0 ≤ z ∧ z < (n : Int)))) ∧ W' = W := by
  cases hd : decide (0 ≤ z ∧ z < (n : Int)) with
  | false =>
    go_enter Try.func62, Try.ntmps62
    go_wp2_with fail
    refine (isSpot_any W z n).mono ?_
    rintro e ww ⟨rfl, hww⟩
    obtain rfl : W = ww := hww.symm
    rw [hd]
    go_wp2
    go_ret
    exact ⟨rfl, rfl⟩
  | true =>
    go_enter Try.func62, Try.ntmps62
    go_wp2_with fail
    refine (isSpot_any W z n).mono ?_
    rintro e ww ⟨rfl, hww⟩
    obtain rfl : W = ww := hww.symm
    rw [hd]
    go_wp2
    go_ret
    exact ⟨rfl, rfl⟩

def noneIn (n : Nat) (zs : List Int) : Bool := zs.any fun z => !decide (0 ≤ z ∧ z < (n : Int))
theorem noneIn_take (n : Nat) (zs : List Int) (k : Nat) (h : k < zs.length) : noneIn n (zs.take (k + 1)) = (noneIn n (zs.take k) || !decide (0 ≤ zs[k] ∧ zs[k] < (n : Int))) := by
  unfold noneIn
  rw [List.take_succ_eq_append_getElem h, List.any_append]
  simp
theorem noneIn_yes (n : Nat) (zs : List Int) (k : Nat) (h : k < zs.length) (hz : (!decide (0 ≤ zs[k] ∧ zs[k] < (n : Int))) = true) : noneIn n zs = true := by
  unfold noneIn
  exact List.any_eq_true.2 ⟨_, List.getElem_mem h, hz⟩

set_option maxRecDepth 100000 in
set_option maxHeartbeats 2000000 in
theorem indexF_any (W : World) (v : Value) (zs : List Int) (b : Nat) (wg : Option Addr) (n cap : Nat) (hb : W.cell? ⟨b, 0, none⟩ = some (.slice wg n cap)) (h : Reads W v zs) (hl : zs.length ≤ 12) :
    Calls Try.prog 82 #[v, .func (.func 62) #[] #[.pointer (some ⟨b, 0, none⟩)]] W fun e W' => (∃ z : Int, e = .returned (.int .i64 z) ∧ decide (0 ≤ z) = noneIn n zs) ∧ W' = W := by
  have CN : Hid (∀ z : Int, Calls Try.prog 62 #[.int .i64 z, .pointer (some ⟨b, 0, none⟩)] W fun e W' => e = .returned (.bool (!decide (0 ≤ z ∧ z < (n : Int)))) ∧ W' = W) := fun z => isNone_any W b wg n cap z hb
  obtain ⟨a1, cap1, rfl, hc1⟩ := h
  have HC1 : Hid (∀ j (hj : j < zs.length), ∃ g1 o1, a1 = some ⟨g1, o1, none⟩ ∧ W.cell? ⟨g1, o1 + j, none⟩ = some (.int .i64 zs[j])) := fun j hj => by
    rcases hc1 with e | ⟨g1, o1, rfl, -, h⟩
    · rw [e] at hj; simp at hj
    · exact ⟨g1, o1, rfl, h j hj⟩
  have HT : Hid ((∀ (k : Nat) (h : k < zs.length), noneIn n (zs.take (k + 1)) = (noneIn n (zs.take k) || !decide (0 ≤ zs[k] ∧ zs[k] < (n : Int)))) ∧ ∀ (k : Nat) (h : k < zs.length), (!decide (0 ≤ zs[k] ∧ zs[k] < (n : Int))) = true → noneIn n zs = true) := ⟨noneIn_take n zs, noneIn_yes n zs⟩
  clear hc1 hb
  go_enter Try.func82, Try.ntmps82
  go_wp2
  go_loop [8] (fun t => ∃ k : Nat, k ≤ zs.length ∧ t = .int .i64 k ∧ Hid (noneIn n (zs.take k) = false)) (fun t => zs.length - (intOf t).toNat)
  case atStart => exact ⟨0, Nat.zero_le _, rfl, rfl⟩
  case round =>
    obtain ⟨k, hk, rfl, HN⟩ := hrel
    by_cases hlt : k < zs.length
    · have hlt' : (k : Int) < (zs.length : Int) := by omega
      obtain ⟨g1, o1, rfl, q0⟩ := HC1.out k hlt
      have HT1 : Hid (noneIn n (zs.take (k + 1)) = (noneIn n (zs.take k) || !decide (0 ≤ zs[k] ∧ zs[k] < (n : Int)))) := HT.out.1 k hlt
      have HT2 : Hid ((!decide (0 ≤ zs[k] ∧ zs[k] < (n : Int))) = true → noneIn n zs = true) := HT.out.2 k hlt
      generalize zs[k] = y at *
      have CN1 : Hid (Calls Try.prog 62 #[.int .i64 y, .pointer (some ⟨b, 0, none⟩)] W fun e W' => e = .returned (.bool (!decide (0 ≤ y ∧ y < (n : Int)))) ∧ W' = W) := CN.out y
      generalize (!decide (0 ≤ y ∧ y < (n : Int))) = d at *
      clear CN HC1 HT
      cases d with
      | true =>
        have HF : Hid (decide (0 ≤ (k : Int)) = noneIn n zs) := by
          show _ = _
          rw [decide_eq_true (by omega), HT2.out rfl]
        clear HT1 HT2 HN
        go_wp2_with fail
        refine CN1.out.mono ?_
        rintro e ww ⟨rfl, hww⟩
        obtain rfl : W = ww := hww.symm
        go_wp2
        go_ret
        exact ⟨⟨_, rfl, HF.out⟩, rfl⟩
      | false =>
        have HF : Hid (noneIn n (zs.take (k + 1)) = false) := by
          show _ = _
          rw [HT1.out, HN.out]; rfl
        clear HT1 HT2 HN
        go_wp2_with fail
        refine CN1.out.mono ?_
        rintro e ww ⟨rfl, hww⟩
        obtain rfl : W = ww := hww.symm
        go_wp2
        go_round
        case rel => exact ⟨k + 1, by omega, by go_num, HF⟩
        case measure => simp [intOf]; omega
    · have e : k = zs.length := by omega
      have HF : Hid (decide (0 ≤ (-1 : Int)) = noneIn n zs) := by
        show _ = _
        have := HN.out
        rw [e, List.take_length] at this
        rw [this]
        rfl
      clear HC1 HN CN HT
      subst e
      go_wp2
      go_ret
      exact ⟨⟨_, rfl, HF.out⟩, rfl⟩

def spotsOn (ps : List Int) (zs : List Int) : Bool := goodU ps && !noneIn ps.length zs

set_option maxRecDepth 100000 in
set_option maxHeartbeats 2000000 in
theorem areSpotsOn_any (W : World) (B : Nat) (u v : Value) (ps zs : List Int) (hu : Own W B u ps) (hl : ps.length ≤ 1048576) (h : Reads W v zs) (hzl : zs.length ≤ 12) :
    Calls Try.prog 41 #[u, v] W fun e W' => e = .returned (.bool (spotsOn ps zs)) ∧ Below W.heap.size W W' := by
  have HU : Hid (Own W B u ps ∧ Reads W v zs) := ⟨hu, h⟩
  obtain ⟨aw, cw, rfl⟩ := hu.shape
  obtain ⟨a1, cap1, rfl, -⟩ := h
  have hb0 : Below W.heap.size W (W.alloc (.cells #[.slice aw ps.length cw] 22)) := (Below.refl _ W).alloc (Nat.le_refl _) _
  have CP : Hid (Calls Try.prog 11 #[.slice aw ps.length cw] (W.alloc (.cells #[.slice aw ps.length cw] 22)) fun e w2 => e = .returned (.bool (goodU ps)) ∧ Below (W.alloc (.cells #[.slice aw ps.length cw] 22)).heap.size (W.alloc (.cells #[.slice aw ps.length cw] 22)) w2) := implGoodParents_any _ B _ ps (HU.out.1.below hb0) hl
  have CC : Hid (∀ w2, Below (W.alloc (.cells #[.slice aw ps.length cw] 22)).heap.size (W.alloc (.cells #[.slice aw ps.length cw] 22)) w2 → Calls Try.prog 82 #[.slice a1 zs.length cap1, .func (.func 62) #[] #[.pointer (some ⟨W.heap.size, 0, none⟩)]] w2 fun e W' => (∃ z : Int, e = .returned (.int .i64 z) ∧ decide (0 ≤ z) = noneIn ps.length zs) ∧ W' = w2) := fun w2 hb => by
    have hx : Boxed w2 W.heap.size 22 (.slice aw ps.length cw) := (hb.block _ (by simp)).trans (Boxed.new W _ _)
    exact indexF_any w2 _ zs W.heap.size aw ps.length cw hx.cell (HU.out.2.below (hb0.trans (hb.mono (by simp)))) hzl
  have HB : Hid (∀ w2, Below (W.alloc (.cells #[.slice aw ps.length cw] 22)).heap.size (W.alloc (.cells #[.slice aw ps.length cw] 22)) w2 → Below W.heap.size W w2) := fun w2 hb => hb0.trans (hb.mono (by simp))
  have HD : Hid (spotsOn ps zs = (goodU ps && !noneIn ps.length zs)) := rfl
  generalize spotsOn ps zs = ok at *
  generalize goodU ps = g at *
  generalize noneIn ps.length zs = nn at *
  clear hu hb0
  have CD : Hid (∀ w2, Below (W.alloc (.cells #[.slice aw ps.length cw] 22)).heap.size (W.alloc (.cells #[.slice aw ps.length cw] 22)) w2 → Calls Try.prog 63 #[.slice a1 zs.length cap1, .func (.func 62) #[] #[.pointer (some ⟨W.heap.size, 0, none⟩)]] w2 fun e W' => e = .returned (.bool nn) ∧ W' = w2) := fun w2 hb => by
    have CC1 := CC.out w2 hb
    clear CC CP HB HD HU hb
    have CI : Hid (Calls Try.prog 82 #[.slice a1 zs.length cap1, .func (.func 62) #[] #[.pointer (some ⟨W.heap.size, 0, none⟩)]] w2 fun e W' => (∃ z : Int, e = .returned (.int .i64 z) ∧ decide (0 ≤ z) = nn) ∧ W' = w2) := CC1
    clear CC1
    go_enter Try.func63, Try.ntmps63
    go_wp2_with fail
    refine CI.out.mono ?_
    rintro e ww ⟨⟨z, rfl, hz⟩, hww⟩
    obtain rfl : w2 = ww := hww.symm
    go_wp2
    go_ret
    exact ⟨rfl, rfl⟩
  clear CC HU
  cases g with
  | false =>
    have HF : Hid (false = ok) := HD.out.symm
    clear CD HD
    go_enter Try.func41, Try.ntmps41
    go_wp2_with fail
    refine CP.out.mono ?_
    rintro e w2 ⟨rfl, hb2⟩
    have H2 : Hid (Below W.heap.size W w2) := HB.out w2 hb2
    clear hb2
    go_wp2
    go_ret
    exact ⟨congrArg (fun q => Ending.returned (Value.bool q)) HF.out, H2.out⟩
  | true =>
    have HF : Hid ((!nn) = ok) := HD.out.symm
    clear HD
    go_enter Try.func41, Try.ntmps41
    go_wp2_with fail
    refine CP.out.mono ?_
    rintro e w2 ⟨rfl, hb2⟩
    have H2 : Hid (Below W.heap.size W w2) := HB.out w2 hb2
    have CD2 : Hid (Calls Try.prog 63 #[.slice a1 zs.length cap1, .func (.func 62) #[] #[.pointer (some ⟨W.heap.size, 0, none⟩)]] w2 fun e W' => e = .returned (.bool nn) ∧ W' = w2) := CD.out w2 hb2
    clear hb2 CD
    go_wp2_with fail
    refine CD2.out.mono ?_
    rintro e ww ⟨rfl, hww⟩
    obtain rfl : w2 = ww := hww.symm
    go_wp2
    go_ret
    exact ⟨congrArg (fun q => Ending.returned (Value.bool q)) HF.out, H2.out⟩
end Go.Proofs.Ythlbmkefjjckaag
