import Derived.Test.YthlbmkefjjckaadTrGood
/-
  'areJoinedOn', 'areSpotsOn'; 'slices.Contains', 'slices.ContainsFunc' of numbers.
-/
namespace Go.Proofs.Ythlbmkefjjckaad
open Go.RowKit
set_option linter.unusedVariables false

set_option maxRecDepth 100000 in
set_option maxHeartbeats 2000000 in
theorem areJoinedOn_any (W : World) (B : Nat) (u : Value) (ps : List Int) (a b : Int) (hu : Own W B u ps) (ha : 0 ≤ a ∧ a < ps.length) (hb : 0 ≤ b ∧ b < ps.length) :
    Calls Try.prog 77 #[u, .int .i64 a, .int .i64 b] W fun e W' => e = .returned (.bool (joinU ps a b)) ∧ W' = W := by
  obtain ⟨wg, cap, rfl, -⟩ := own_at hu (by omega)
  obtain ⟨p, rfl⟩ : ∃ p : Nat, a = (p : Int) := ⟨a.toNat, by omega⟩
  obtain ⟨q, rfl⟩ : ∃ q : Nat, b = (q : Int) := ⟨b.toNat, by omega⟩
  have hp' : (p : Int) < (ps.length : Int) := ha.2
  have hq' : (q : Int) < (ps.length : Int) := hb.2
  have hcp : W.cell? ⟨wg, p, none⟩ = some (.int .i64 (lab ps (p : Int))) := by rw [lab_get ps p (by omega)]; exact own_cellG hu rfl p (by omega)
  have hcq : W.cell? ⟨wg, q, none⟩ = some (.int .i64 (lab ps (q : Int))) := by rw [lab_get ps q (by omega)]; exact own_cellG hu rfl q (by omega)
  have HJ : Hid (joinU ps (p : Int) (q : Int) = ((lab ps (p : Int) == (q : Int)) || (lab ps (q : Int) == (p : Int)))) := by
    show _ = _
    unfold joinU
    rw [Bool.eq_iff_iff]
    simp
  generalize joinU ps (p : Int) (q : Int) = j at *
  generalize lab ps (p : Int) = x at *
  generalize lab ps (q : Int) = y at *
  clear hu ha hb
  cases h1 : x == (q : Int) with
  | true =>
    have HF : Hid (true = j) := by rw [h1] at HJ; exact HJ.out.symm
    clear HJ
    go_enter Try.func77, Try.ntmps77
    go_wp2
    go_ret
    exact ⟨congrArg (fun q => Ending.returned (Value.bool q)) HF.out, rfl⟩
  | false =>
    cases h2 : y == (p : Int) with
    | true =>
      have HF : Hid (true = j) := by rw [h1, h2] at HJ; exact HJ.out.symm
      clear HJ
      go_enter Try.func77, Try.ntmps77
      go_wp2
      go_ret
      exact ⟨congrArg (fun q => Ending.returned (Value.bool q)) HF.out, rfl⟩
    | false =>
      have HF : Hid (false = j) := by rw [h1, h2] at HJ; exact HJ.out.symm
      clear HJ
      go_enter Try.func77, Try.ntmps77
      go_wp2
      go_ret
      exact ⟨congrArg (fun q => Ending.returned (Value.bool q)) HF.out, rfl⟩

set_option maxRecDepth 100000 in
set_option maxHeartbeats 2000000 in
theorem indexT_any (W : World) (v : Value) (zs : List Int) (x : Int) (h : Reads W v zs) (hl : zs.length ≤ 12) :
    Calls Try.prog 99 #[v, .int .i64 x] W fun e W' => (∃ z : Int, e = .returned (.int .i64 z) ∧ decide (0 ≤ z) = decide (x ∈ zs)) ∧ W' = W := by
  obtain ⟨a1, cap1, rfl, hc1⟩ := h
  have HC1 : Hid (∀ j (hj : j < zs.length), ∃ g1 o1, a1 = some ⟨g1, o1, none⟩ ∧ W.cell? ⟨g1, o1 + j, none⟩ = some (.int .i64 zs[j])) := fun j hj => by
    rcases hc1 with e | ⟨g1, o1, rfl, -, h⟩
    · rw [e] at hj; simp at hj
    · exact ⟨g1, o1, rfl, h j hj⟩
  clear hc1
  go_enter Try.func99, Try.ntmps99
  go_wp2
  go_loop [8] (fun t => ∃ k : Nat, k ≤ zs.length ∧ t = .int .i64 k ∧ Hid (x ∉ zs.take k)) (fun t => zs.length - (intOf t).toNat)
  case atStart => exact ⟨0, Nat.zero_le _, rfl, by show x ∉ []; simp⟩
  case round =>
    obtain ⟨k, hk, rfl, HN⟩ := hrel
    by_cases hlt : k < zs.length
    · have hlt' : (k : Int) < (zs.length : Int) := by omega
      obtain ⟨g1, o1, rfl, q0⟩ := HC1.out k hlt
      by_cases e : x = zs[k]
      · have HF : Hid (decide (0 ≤ (k : Int)) = decide (x ∈ zs)) := by
          show _ = _
          rw [decide_eq_true (by omega), decide_eq_true (by rw [e]; exact List.getElem_mem hlt)]
        have eb : (x == zs[k]) = true := by simpa using e
        clear HC1 HN e
        generalize zs[k] = y at *
        go_wp2
        go_ret
        exact ⟨⟨_, rfl, decide_eq_decide.1 HF.out⟩, rfl⟩
      · have eb : (x == zs[k]) = false := by simpa using e
        have HF : Hid (x ∉ zs.take (k + 1)) := by
          show _ ∉ _
          rw [List.take_succ_eq_append_getElem hlt, List.mem_append]
          rintro (q | q)
          · exact HN.out q
          · exact e (by simpa using q)
        clear HC1 HN e
        generalize zs[k] = y at *
        go_wp2
        go_round
        case rel => exact ⟨k + 1, by omega, by go_num, HF⟩
        case measure => simp [intOf]; omega
    · have e : k = zs.length := by omega
      have HF : Hid (decide (0 ≤ (-1 : Int)) = decide (x ∈ zs)) := by
        show _ = _
        have := HN.out
        rw [e, List.take_length] at this
        rw [decide_eq_false this]
        rfl
      clear HC1 HN
      subst e
      go_wp2
      go_ret
      exact ⟨⟨_, rfl, decide_eq_decide.1 HF.out⟩, rfl⟩

set_option maxRecDepth 100000 in
set_option maxHeartbeats 2000000 in
theorem containsT_any (W : World) (v : Value) (zs : List Int) (x : Int) (h : Reads W v zs) (hl : zs.length ≤ 12) :
    Calls Try.prog 78 #[v, .int .i64 x] W fun e W' => e = .returned (.bool (decide (x ∈ zs))) ∧ W' = W := by
  have CI : Hid (Calls Try.prog 99 #[v, .int .i64 x] W fun e W' => (∃ z : Int, e = .returned (.int .i64 z) ∧ decide (0 ≤ z) = decide (x ∈ zs)) ∧ W' = W) := indexT_any W v zs x h hl
  obtain ⟨a1, cap1, rfl, hc1⟩ := h
  clear hc1
  generalize decide (x ∈ zs) = ok at *
  go_enter Try.func78, Try.ntmps78
  go_wp2_with fail
  refine CI.out.mono ?_
  rintro e ww ⟨⟨z, rfl, hz⟩, hww⟩
  obtain rfl : W = ww := hww.symm
  go_wp2
  go_ret
  exact ⟨rfl, rfl⟩

set_option maxRecDepth 100000 in
set_option maxHeartbeats 2000000 in
theorem isNone_any (W : World) (b : Nat) (wg : Option Addr) (n cap : Nat) (z : Int) (hb : W.cell? ⟨b, 0, none⟩ = some (.slice wg n cap)) :
    Calls Try.prog 74 #[.int .i64 z, .pointer (some ⟨b, 0, none⟩)] W fun e W' => e = .returned (.bool (!decide (0 ≤ z ∧ z < (n : Int)))) ∧ W' = W := by
  cases hd : decide (0 ≤ z ∧ z < (n : Int)) with
  | false =>
    go_enter Try.func74, Try.ntmps74
    go_wp2_with fail
    refine (isSpot_any W z n).mono ?_
    rintro e ww ⟨rfl, hww⟩
    obtain rfl : W = ww := hww.symm
    rw [hd]
    go_wp2
    go_ret
    exact ⟨rfl, rfl⟩
  | true =>
    go_enter Try.func74, Try.ntmps74
    go_wp2_with fail
    refine (isSpot_any W z n).mono ?_
    rintro e ww ⟨rfl, hww⟩
    obtain rfl : W = ww := hww.symm
    rw [hd]
    go_wp2
    go_ret
    exact ⟨rfl, rfl⟩

def noneIn (n : Nat) (zs : List Int) : Bool := zs.any fun z => !decide (0 ≤ z ∧ z < (n : Int))
theorem noneIn_take (n : Nat) (zs : List Int) (k : Nat) (h : k < zs.length) : noneIn n (zs.take (k + 1)) = (noneIn n (zs.take k) || !decide (0 ≤ zs[k] ∧ zs[k] < (n : Int))) := by
  unfold noneIn
  rw [List.take_succ_eq_append_getElem h, List.any_append]
  simp
theorem noneIn_yes (n : Nat) (zs : List Int) (k : Nat) (h : k < zs.length) (hz : (!decide (0 ≤ zs[k] ∧ zs[k] < (n : Int))) = true) : noneIn n zs = true := by
  unfold noneIn
  exact List.any_eq_true.2 ⟨_, List.getElem_mem h, hz⟩

set_option maxRecDepth 100000 in
set_option maxHeartbeats 2000000 in
theorem indexF_any (W : World) (v : Value) (zs : List Int) (b : Nat) (wg : Option Addr) (n cap : Nat) (hb : W.cell? ⟨b, 0, none⟩ = some (.slice wg n cap)) (h : Reads W v zs) (hl : zs.length ≤ 12) :
    Calls Try.prog 98 #[v, .func (.func 74) #[] #[.pointer (some ⟨b, 0, none⟩)]] W fun e W' => (∃ z : Int, e = .returned (.int .i64 z) ∧ decide (0 ≤ z) = noneIn n zs) ∧ W' = W := by
  have CN : Hid (∀ z : Int, Calls Try.prog 74 #[.int .i64 z, .pointer (some ⟨b, 0, none⟩)] W fun e W' => e = .returned (.bool (!decide (0 ≤ z ∧ z < (n : Int)))) ∧ W' = W) := fun z => isNone_any W b wg n cap z hb
  obtain ⟨a1, cap1, rfl, hc1⟩ := h
  have HC1 : Hid (∀ j (hj : j < zs.length), ∃ g1 o1, a1 = some ⟨g1, o1, none⟩ ∧ W.cell? ⟨g1, o1 + j, none⟩ = some (.int .i64 zs[j])) := fun j hj => by
    rcases hc1 with e | ⟨g1, o1, rfl, -, h⟩
    · rw [e] at hj; simp at hj
    · exact ⟨g1, o1, rfl, h j hj⟩
  have HT : Hid ((∀ (k : Nat) (h : k < zs.length), noneIn n (zs.take (k + 1)) = (noneIn n (zs.take k) || !decide (0 ≤ zs[k] ∧ zs[k] < (n : Int)))) ∧ ∀ (k : Nat) (h : k < zs.length), (!decide (0 ≤ zs[k] ∧ zs[k] < (n : Int))) = true → noneIn n zs = true) := ⟨noneIn_take n zs, noneIn_yes n zs⟩
  clear hc1 hb
  go_enter Try.func98, Try.ntmps98
  go_wp2
  go_loop [8] (fun t => ∃ k : Nat, k ≤ zs.length ∧ t = .int .i64 k ∧ Hid (noneIn n (zs.take k) = false)) (fun t => zs.length - (intOf t).toNat)
  case atStart => exact ⟨0, Nat.zero_le _, rfl, rfl⟩
  case round =>
    obtain ⟨k, hk, rfl, HN⟩ := hrel
    by_cases hlt : k < zs.length
    · have hlt' : (k : Int) < (zs.length : Int) := by omega
      obtain ⟨g1, o1, rfl, q0⟩ := HC1.out k hlt
      have HT1 : Hid (noneIn n (zs.take (k + 1)) = (noneIn n (zs.take k) || !decide (0 ≤ zs[k] ∧ zs[k] < (n : Int)))) := HT.out.1 k hlt
      have HT2 : Hid ((!decide (0 ≤ zs[k] ∧ zs[k] < (n : Int))) = true → noneIn n zs = true) := HT.out.2 k hlt
      generalize zs[k] = y at *
      have CN1 : Hid (Calls Try.prog 74 #[.int .i64 y, .pointer (some ⟨b, 0, none⟩)] W fun e W' => e = .returned (.bool (!decide (0 ≤ y ∧ y < (n : Int)))) ∧ W' = W) := CN.out y
      generalize (!decide (0 ≤ y ∧ y < (n : Int))) = d at *
      clear CN HC1 HT
      cases d with
      | true =>
        have HF : Hid (decide (0 ≤ (k : Int)) = noneIn n zs) := by
          show _ = _
          rw [decide_eq_true (by omega), HT2.out rfl]
        clear HT1 HT2 HN
        go_wp2_with fail
        refine CN1.out.mono ?_
        rintro e ww ⟨rfl, hww⟩
        obtain rfl : W = ww := hww.symm
        go_wp2
        go_ret
        exact ⟨⟨_, rfl, HF.out⟩, rfl⟩
      | false =>
        have HF : Hid (noneIn n (zs.take (k + 1)) = false) := by
          show _ = _
          rw [HT1.out, HN.out]; rfl
        clear HT1 HT2 HN
        go_wp2_with fail
        refine CN1.out.mono ?_
        rintro e ww ⟨rfl, hww⟩
        obtain rfl : W = ww := hww.symm
        go_wp2
        go_round
        case rel => exact ⟨k + 1, by omega, by go_num, HF⟩
        case measure => simp [intOf]; omega
    · have e : k = zs.length := by omega
      have HF : Hid (decide (0 ≤ (-1 : Int)) = noneIn n zs) := by
        show _ = _
        have := HN.out
        rw [e, List.take_length] at this
        rw [this]
        rfl
      clear HC1 HN CN HT
      subst e
      go_wp2
      go_ret
      exact ⟨⟨_, rfl, HF.out⟩, rfl⟩

def spotsOn (ps : List Int) (zs : List Int) : Bool := goodU ps && !noneIn ps.length zs

set_option maxRecDepth 100000 in
set_option maxHeartbeats 2000000 in
theorem areSpotsOn_any (W : World) (B : Nat) (u v : Value) (ps zs : List Int) (hu : Own W B u ps) (hl : ps.length ≤ 1048576) (h : Reads W v zs) (hzl : zs.length ≤ 12) :
    Calls Try.prog 47 #[u, v] W fun e W' => e = .returned (.bool (spotsOn ps zs)) ∧ Below W.heap.size W W' := by
  have HU : Hid (Own W B u ps ∧ Reads W v zs) := ⟨hu, h⟩
  obtain ⟨aw, cw, rfl⟩ := hu.shape
  obtain ⟨a1, cap1, rfl, -⟩ := h
  have hb0 : Below W.heap.size W (W.alloc (.cells #[.slice aw ps.length cw] 26)) := (Below.refl _ W).alloc (Nat.le_refl _) _
  have CP : Hid (Calls Try.prog 10 #[.slice aw ps.length cw] (W.alloc (.cells #[.slice aw ps.length cw] 26)) fun e w2 => e = .returned (.bool (goodU ps)) ∧ Below (W.alloc (.cells #[.slice aw ps.length cw] 26)).heap.size (W.alloc (.cells #[.slice aw ps.length cw] 26)) w2) := implGoodParents_any _ B _ ps (HU.out.1.below hb0) hl
  have CC : Hid (∀ w2, Below (W.alloc (.cells #[.slice aw ps.length cw] 26)).heap.size (W.alloc (.cells #[.slice aw ps.length cw] 26)) w2 → Calls Try.prog 98 #[.slice a1 zs.length cap1, .func (.func 74) #[] #[.pointer (some ⟨W.heap.size, 0, none⟩)]] w2 fun e W' => (∃ z : Int, e = .returned (.int .i64 z) ∧ decide (0 ≤ z) = noneIn ps.length zs) ∧ W' = w2) := fun w2 hb => by
    have hx : Boxed w2 W.heap.size 26 (.slice aw ps.length cw) := (hb.block _ (by simp)).trans (Boxed.new W _ _)
    exact indexF_any w2 _ zs W.heap.size aw ps.length cw hx.cell (HU.out.2.below (hb0.trans (hb.mono (by simp)))) hzl
  have HB : Hid (∀ w2, Below (W.alloc (.cells #[.slice aw ps.length cw] 26)).heap.size (W.alloc (.cells #[.slice aw ps.length cw] 26)) w2 → Below W.heap.size W w2) := fun w2 hb => hb0.trans (hb.mono (by simp))
  have HD : Hid (spotsOn ps zs = (goodU ps && !noneIn ps.length zs)) := rfl
  generalize spotsOn ps zs = ok at *
  generalize goodU ps = g at *
  generalize noneIn ps.length zs = nn at *
  clear hu hb0
  have CD : Hid (∀ w2, Below (W.alloc (.cells #[.slice aw ps.length cw] 26)).heap.size (W.alloc (.cells #[.slice aw ps.length cw] 26)) w2 → Calls Try.prog 75 #[.slice a1 zs.length cap1, .func (.func 74) #[] #[.pointer (some ⟨W.heap.size, 0, none⟩)]] w2 fun e W' => e = .returned (.bool nn) ∧ W' = w2) := fun w2 hb => by
    have CC1 := CC.out w2 hb
    clear CC CP HB HD HU hb
    have CI : Hid (Calls Try.prog 98 #[.slice a1 zs.length cap1, .func (.func 74) #[] #[.pointer (some ⟨W.heap.size, 0, none⟩)]] w2 fun e W' => (∃ z : Int, e = .returned (.int .i64 z) ∧ decide (0 ≤ z) = nn) ∧ W' = w2) := CC1
    clear CC1
    go_enter Try.func75, Try.ntmps75
    go_wp2_with fail
    refine CI.out.mono ?_
    rintro e ww ⟨⟨z, rfl, hz⟩, hww⟩
    obtain rfl : w2 = ww := hww.symm
    go_wp2
    go_ret
    exact ⟨rfl, rfl⟩
  clear CC HU
  cases g with
  | false =>
    have HF : Hid (false = ok) := HD.out.symm
    clear CD HD
    go_enter Try.func47, Try.ntmps47
    go_wp2_with fail
    refine CP.out.mono ?_
    rintro e w2 ⟨rfl, hb2⟩
    have H2 : Hid (Below W.heap.size W w2) := HB.out w2 hb2
    clear hb2
    go_wp2
    go_ret
    exact ⟨congrArg (fun q => Ending.returned (Value.bool q)) HF.out, H2.out⟩
  | true =>
    have HF : Hid ((!nn) = ok) := HD.out.symm
    clear HD
    go_enter Try.func47, Try.ntmps47
    go_wp2_with fail
    refine CP.out.mono ?_
    rintro e w2 ⟨rfl, hb2⟩
    have H2 : Hid (Below W.heap.size W w2) := HB.out w2 hb2
    have CD2 : Hid (Calls Try.prog 75 #[.slice a1 zs.length cap1, .func (.func 74) #[] #[.pointer (some ⟨W.heap.size, 0, none⟩)]] w2 fun e W' => e = .returned (.bool nn) ∧ W' = w2) := CD.out w2 hb2
    clear hb2 CD
    go_wp2_with fail
    refine CD2.out.mono ?_
    rintro e ww ⟨rfl, hww⟩
    obtain rfl : w2 = ww := hww.symm
    go_wp2
    go_ret
    exact ⟨congrArg (fun q => Ending.returned (Value.bool q)) HF.out, H2.out⟩
end Go.Proofs.Ythlbmkefjjckaad

/-
  How 'spreadOn' sends on: the hops, in a box, and one more to each that is joined.
-/
namespace Go.Proofs.Ythlbmkefjjckaad
open Go.RowKit
set_option linter.unusedVariables false
attribute [local go_sem] run_storeF

theorem newHop (w : World) (x : HopD) (c : Nat) : Src (w.alloc (.cells #[.int .i64 x.From, .int .i64 x.To] 36)) (.slice (some ⟨w.heap.size, 0, none⟩) 1 c) 1 (cellsHop [x]) := by
  refine .inr ⟨_, _, rfl, fun j u hu => ?_⟩
  match j, hu with
  | 0, hu => simp [cellsHop] at hu; subst hu; simp [Addr.add]
  | 1, hu => simp [cellsHop] at hu; subst hu; simp [Addr.add]
  | j + 2, hu => simp [cellsHop] at hu
/-- To whom one sends on, but to some. -/
def kidsT (p : List Int) (a : Int) (bs : List Int) (k : Nat) : List HopD := ((iota k).filter fun s => joinU p a s && !decide (s ∈ bs)).map fun s => ⟨a, s⟩
theorem kidsT_succ (p : List Int) (a : Int) (bs : List Int) (k : Nat) : kidsT p a bs (k + 1) = kidsT p a bs k ++ if joinU p a (k : Int) && !decide ((k : Int) ∈ bs) then [⟨a, (k : Int)⟩] else [] := by
  unfold kidsT
  rw [iota_succ, List.filter_append, List.map_append]
  congr 1
  cases h : joinU p a (k : Int) && !decide ((k : Int) ∈ bs) <;> simp only [List.filter_cons, List.filter_nil, h] <;> rfl
theorem kidsT_len (p : List Int) (a : Int) (bs : List Int) (k : Nat) : (kidsT p a bs k).length ≤ k := by
  unfold kidsT
  rw [List.length_map]
  exact Nat.le_trans (List.length_filter_le _ _) (by rw [iota_len]; exact Nat.le_refl _)
theorem kidsT_one (p : List Int) (x : HopD) : kidsT p x.To [x.From] p.length = kidsD p x := by
  unfold kidsT kidsD
  congr 1
  refine List.filter_congr fun s _ => ?_
  simp
theorem kidsT_start (p : List Int) (f : Int) : kidsT p f [] p.length = kidsD p ⟨-1, f⟩ := by
  unfold kidsT kidsD
  congr 1
  refine List.filter_congr fun s hs => ?_
  have := (mem_iota _ s).1 hs
  have e : ¬ s = -1 := by omega
  simp [e]
/-- The hops, in their box. -/
def HopS (w : World) (bh : Nat) (v : Value) (H : List HopD) : Prop := Boxed w bh 32 v ∧ OwnHop w (bh + 1) v H

theorem own_lowT {W W' : World} {B C : Nat} {v : Value} {zs : List Int} (h : Own W B v zs) (hv : ∀ k, v.ownBlock = some k → k < C) (hb : Below C W W') : Own W' B v zs := rowSame h fun k hk => hb.block k (hv k hk)
/-- Which blocks sending on writes. -/
def SendP (W : World) (bh : Nat) (vh : Value) (j : Nat) : Prop := j = bh ∨ vh.ownBlock = some j ∨ W.heap.size ≤ j
theorem reads_turned {W w : World} {bh : Nat} {v vh : Value} {bs : List Int} (h : Reads W v bs) (ht : Turned (SendP W bh vh) W w) (hvb : ∀ g o n c, v = .slice (some ⟨g, o, none⟩) n c → g ≠ bh ∧ vh.ownBlock ≠ some g) : Reads w v bs := by
  obtain ⟨a, cap, rfl, hc⟩ := h
  refine ⟨a, cap, rfl, hc.imp id ?_⟩
  rintro ⟨g, o, rfl, hg, hcell⟩
  refine ⟨g, o, rfl, Nat.lt_of_lt_of_le hg ht.size, fun j hj => ?_⟩
  have hn := hvb g o _ _ rfl
  have hb := ht.block g hg (by rintro (q | q | q); · exact hn.1 q
                               · exact hn.2 q
                               · omega)
  exact (World.cell?_of_block (a := ⟨g, o + j, none⟩) hb).trans (hcell j hj)
/-- What holds when so many have been asked. -/
def SendI (W : World) (bh : Nat) (vh : Value) (H : List HopD) (v : Value) (w : World) : Prop := HopS w bh v H ∧ Turned (SendP W bh vh) W w ∧ (v.ownBlock = vh.ownBlock ∨ ∀ g, v.ownBlock = some g → W.heap.size ≤ g)
theorem SendI.since {W w : World} {bh : Nat} {vh v : Value} {H H0 : List HopD} (h : SendI W bh vh H v w) (h0 : HopS W bh vh H0) : Since bh W w :=
  ⟨⟨h.2.1.os, h.2.1.tape, h.2.1.output, h.2.1.size, fun j hj => h.2.1.block j (Nat.lt_trans hj h0.1.lt) (by
    rintro (q | q | q)
    · omega
    · have := (World.ownsRow.lt h0.2 j q).1; omega
    · have := h0.1.lt; omega)⟩, Nat.le_trans (Nat.le_of_lt h0.1.lt) h.2.1.size⟩
theorem SendI.more {W w : World} {bh : Nat} {vh v : Value} {H : List HopD} {x : HopD} (h : SendI W bh vh H v w) (hW : bh < W.heap.size) {v5 : Value} {w5 : World}
    (hg : Grown (w.alloc (.cells #[.int .i64 x.From, .int .i64 x.To] 36)) (bh + 1) 36 2 v (H ++ [x]).length (cellsHop (H ++ [x])) v5 w5) : Boxed w5 bh 32 v ∧ SendI W bh vh (H ++ [x]) v5 (w5.setCell ⟨bh, 0, none⟩ v5) := by
  obtain ⟨⟨hb, ho⟩, ht, hl⟩ := h
  have hlt := hb.lt
  have hb5 : Boxed w5 bh 32 v := (hg.below.block bh (by omega)).trans (hb.alloc _)
  refine ⟨hb5, ⟨hb5.set v5, OwnHop.setCell (show OwnHop w5 (bh + 1) v5 (H ++ [x]) from hg.own) (by show bh < bh + 1; omega) v5⟩, ?_, ?_⟩
  · refine Turned.setT (Turned.grown (ht.tran ⟨((Below.refl _ w).alloc (Nat.le_refl _) _).os, ((Below.refl _ w).alloc (Nat.le_refl _) _).tape, ((Below.refl _ w).alloc (Nat.le_refl _) _).output, by simp, fun j hj _ => (Below.heap_alloc _ _ _ hj)⟩) hg.grown (fun k hk => ?_)) (.inl (.inl rfl)) v5
    rcases hl with q | q
    · exact .inr (.inl (by rw [← q]; exact hk))
    · exact .inr (.inr (q k hk))
  · rcases hg.lies with q | q
    · rcases hl with q2 | q2
      · exact .inl (q.trans q2)
      · exact .inr (by rw [q]; exact q2)
    · exact .inr fun g e => by
        rw [q] at e
        cases e
        have := ht.size
        simp
        omega

set_option maxRecDepth 100000 in
set_option maxHeartbeats 4000000 in
theorem send_any (W : World) (bp bh Bu : Nat) (u vh v : Value) (ps bs : List Int) (a : Int) (H : List HopD) (hbp : Boxed W bp 26 u) (hlt : bp < bh) (hu : Own W Bu u ps) (hub : ∀ g, u.ownBlock = some g → g < bh) (hh : HopS W bh vh H) (ha : 0 ≤ a ∧ a < ps.length) (hn : ps.length ≤ 12) (hH : H.length ≤ 1000)
    (hv : Reads W v bs) (hbl : bs.length ≤ 12) (hvb : ∀ g o n c, v = .slice (some ⟨g, o, none⟩) n c → g ≠ bh ∧ vh.ownBlock ≠ some g) :
    Calls Try.prog 76 #[.int .i64 a, v, .pointer (some ⟨bp, 0, none⟩), .pointer (some ⟨bh, 0, none⟩)] W fun e W' => (∃ r, e = .returned r) ∧ (∃ vh', HopS W' bh vh' (H ++ kidsT ps a bs ps.length)) ∧ Since bh W W' := by
  obtain ⟨au, cu, rfl⟩ := hu.shape
  have hszb : bh < W.heap.size := hh.1.lt
  have HUD : Hid (∀ w', Since bh W w' → Own w' Bu (.slice au ps.length cu) ps) := fun w' hs => own_lowT hu hub hs.1
  have HBX : Hid (∀ w', Since bh W w' → Boxed w' bp 26 (.slice au ps.length cu)) := fun w' hs => (hs.1.block _ hlt).trans hbp
  have CJ : Hid (∀ (w' : World) (k : Nat), Since bh W w' → k < ps.length → Calls Try.prog 77 #[.slice au ps.length cu, .int .i64 a, .int .i64 (k : Int)] w' fun e w2 => e = .returned (.bool (joinU ps a (k : Int))) ∧ w2 = w') := fun w' k hs hk => areJoinedOn_any w' Bu _ ps a (k : Int) (HUD.out w' hs) ha (by omega)
  have CC : Hid (∀ (w' : World) (k : Int), Turned (SendP W bh vh) W w' → Calls Try.prog 78 #[v, .int .i64 k] w' fun e w2 => e = .returned (.bool (decide (k ∈ bs))) ∧ w2 = w') := fun w' k ht => containsT_any w' v bs k (reads_turned hv ht hvb) hbl
  obtain ⟨av, cv, rfl⟩ := hv.shape
  have HH0 : Hid (HopS W bh vh H) := hh
  have HKT : Hid (∀ k, kidsT ps a bs (k + 1) = kidsT ps a bs k ++ if joinU ps a (k : Int) && !decide ((k : Int) ∈ bs) then [⟨a, (k : Int)⟩] else []) := kidsT_succ ps a bs
  have HKL : Hid (∀ k, (kidsT ps a bs k).length ≤ k) := kidsT_len ps a bs
  have HK0 : Hid (kidsT ps a bs 0 = []) := rfl
  have HS0 : Hid (SendI W bh vh (H ++ kidsT ps a bs 0) vh W) := ⟨by rw [HK0.out, List.append_nil]; exact hh, Turned.refl _ _, .inl rfl⟩
  have hcb := hbp.cell
  obtain ⟨kt, hkt⟩ : ∃ kt, kt = kidsT ps a bs := ⟨_, rfl⟩
  rw [← hkt] at HKT HKL HS0 ⊢
  clear hbp hu hub hh ha hv hvb hkt HK0
  go_enter Try.func76, Try.ntmps76
  go_wp2
  go_loopw [9] (fun t wr => ∃ k : Nat, k ≤ ps.length ∧ t = .int .i64 k ∧ ∃ v', Hid (SendI W bh vh (H ++ kt k) v' wr)) (fun t _ => ps.length - (intOf t).toNat)
  case atStart => exact ⟨0, Nat.zero_le _, rfl, vh, HS0.out⟩
  case round =>
    clear hcb HS0
    obtain ⟨k, hk, rfl, v', HI⟩ := hrel
    by_cases hlt2 : k < ps.length
    · have hlt' : (k : Int) < (ps.length : Int) := by omega
      have SW : Hid (Since bh W wr) := HI.out.since HH0.out
      have hcb := (HBX.out wr SW.out).cell
      have CJ1 : Hid (Calls Try.prog 77 #[.slice au ps.length cu, .int .i64 a, .int .i64 (k : Int)] wr fun e w2 => e = .returned (.bool (joinU ps a (k : Int))) ∧ w2 = wr) := CJ.out wr k SW.out hlt2
      have CC1 : Hid (Calls Try.prog 78 #[.slice av bs.length cv, .int .i64 (k : Int)] wr fun e w2 => e = .returned (.bool (decide ((k : Int) ∈ bs))) ∧ w2 = wr) := CC.out wr (k : Int) HI.out.2.1
      have HKT1 : Hid (kt (k + 1) = kt k ++ if joinU ps a (k : Int) && !decide ((k : Int) ∈ bs) then [⟨a, (k : Int)⟩] else []) := HKT.out k
      have hkl := HKL.out k
      clear CJ CC HKT HUD HBX
      generalize joinU ps a (k : Int) = jn at *
      generalize decide ((k : Int) ∈ bs) = ct at *
      cases jn with
      | false =>
        have HF : Hid (SendI W bh vh (H ++ kt (k + 1)) v' wr) := by
          have := HKT1.out
          rw [Bool.false_and, if_neg (by decide), List.append_nil] at this
          show SendI _ _ _ _ _ _
          rw [this]
          exact HI.out
        clear HKT1 HI CC1
        go_wp2_with fail
        refine CJ1.out.mono ?_
        rintro e ww ⟨rfl, hww⟩
        obtain rfl : wr = ww := hww.symm
        go_wp2
        go_roundw
        case rel => exact ⟨k + 1, by omega, by go_num, _, HF⟩
        case measure => simp [intOf]; omega
      | true =>
        cases ct with
        | true =>
          have HF : Hid (SendI W bh vh (H ++ kt (k + 1)) v' wr) := by
            have := HKT1.out
            rw [Bool.true_and, if_neg (by decide), List.append_nil] at this
            show SendI _ _ _ _ _ _
            rw [this]
            exact HI.out
          clear HKT1 HI
          go_wp2_with fail
          refine CJ1.out.mono ?_
          rintro e ww ⟨rfl, hww⟩
          obtain rfl : wr = ww := hww.symm
          go_wp2_with fail
          refine CC1.out.mono ?_
          rintro e ww ⟨rfl, hww⟩
          obtain rfl : wr = ww := hww.symm
          go_wp2
          go_roundw
          case rel => exact ⟨k + 1, by omega, by go_num, _, HF⟩
          case measure => simp [intOf]; omega
        | false =>
          have HKT2 : Hid (kt (k + 1) = kt k ++ [⟨a, (k : Int)⟩]) := by
            have := HKT1.out
            rw [if_pos (by decide)] at this
            exact this
          have HHL : Hid ((H ++ kt k).length ≤ 2000) := by
            show _ ≤ _
            rw [List.length_append]
            omega
          obtain ⟨zz, hzz⟩ : ∃ zz, zz = H ++ kt k := ⟨_, rfl⟩
          have HZ : Hid (H ++ kt (k + 1) = zz ++ [⟨a, (k : Int)⟩]) := by
            show _ = _
            rw [HKT2.out, hzz, List.append_assoc]
          rw [← hzz] at HI HHL
          obtain ⟨a2, c2, rfl⟩ := HI.out.1.2.shape
          have hch := HI.out.1.1.cell
          have hch2 : (wr.alloc (.cells #[.int .i64 a, .int .i64 (k : Int)] 36)).cell? ⟨bh, 0, none⟩ = some (.slice a2 zz.length c2) := (HI.out.1.1.alloc _).cell
          have HA : Hid (∀ ty, ∃ v' w', (Builtin.append_ #[32, 32] ty #[.slice a2 zz.length c2, .slice (some ⟨wr.heap.size, 0, none⟩) 1 1]).run Try.prog (wr.alloc (.cells #[.int .i64 a, .int .i64 (k : Int)] 36)) = .ok v' w' ∧ Grown (wr.alloc (.cells #[.int .i64 a, .int .i64 (k : Int)] 36)) (bh + 1) 36 2 (.slice a2 zz.length c2) (zz ++ [(⟨a, (k : Int)⟩ : HopD)]).length (cellsHop (zz ++ [(⟨a, (k : Int)⟩ : HopD)])) v' w') := fun ty => run_appHop _ (bh + 1) _ zz (HI.out.1.2.below ((Below.refl _ wr).alloc (Nat.le_refl _) _)) _ [(⟨a, (k : Int)⟩ : HopD)] (newHop wr ⟨a, (k : Int)⟩ 1) (by have := HHL.out; simp only [List.length_cons, List.length_nil]; omega) (by have := HI.out.1.1.lt; simp; omega) ty
          have HQ : Hid (∀ v5 w5, Grown (wr.alloc (.cells #[.int .i64 a, .int .i64 (k : Int)] 36)) (bh + 1) 36 2 (.slice a2 zz.length c2) (zz ++ [(⟨a, (k : Int)⟩ : HopD)]).length (cellsHop (zz ++ [(⟨a, (k : Int)⟩ : HopD)])) v5 w5 → (w5.cell? ⟨bh, 0, none⟩ = some (.slice a2 zz.length c2) ∧ w5.frozen? ⟨bh, 0, none⟩ = false) ∧ (∃ a5 n5 c5, v5 = .slice a5 n5 c5) ∧ Hid (SendI W bh vh (H ++ kt (k + 1)) v5 (w5.setCell ⟨bh, 0, none⟩ v5))) := fun v5 w5 hg5 => by
            obtain ⟨h1, h2⟩ := HI.out.more (x := ⟨a, (k : Int)⟩) hszb hg5
            obtain ⟨a5, c5, e5⟩ := h2.1.2.shape
            exact ⟨⟨h1.cell, h1.frozen⟩, ⟨_, _, _, e5⟩, by rw [HZ.out]; exact h2⟩
          clear HKT1 HKT2 HI HHL HZ hzz
          go_wp2_with fail
          refine CJ1.out.mono ?_
          rintro e ww ⟨rfl, hww⟩
          obtain rfl : wr = ww := hww.symm
          go_wp2_with fail
          refine CC1.out.mono ?_
          rintro e ww ⟨rfl, hww⟩
          obtain rfl : wr = ww := hww.symm
          go_wp2_with (at_builtin; refine list_app (by rfl) (.tmp 22) (.tmp 26) 32 (by rfl) (.slice a2 zz.length c2) (.slice (some ⟨wr.heap.size, 0, none⟩) 1 1) (by rfl) (by rfl) _ HA.out ?_; intro v5 w5 hg5; obtain ⟨⟨hc5, hf5⟩, ⟨a5, n5, c5, rfl⟩, HF⟩ := HQ.out v5 w5 hg5; clear hg5)
          go_roundw
          case rel => exact ⟨k + 1, by omega, by go_num, _, HF⟩
          case measure => simp [intOf]; omega
    · have e : k = ps.length := by omega
      have HE : Hid ((∃ vh', HopS wr bh vh' (H ++ kt ps.length)) ∧ Since bh W wr) := by
        rw [← e]
        exact ⟨⟨_, HI.out.1⟩, HI.out.since HH0.out⟩
      clear HI CJ CC HUD HBX HKT
      subst e
      go_wp2
      go_end0
      exact ⟨⟨_, rfl⟩, HE.out.1, HE.out.2⟩
end Go.Proofs.Ythlbmkefjjckaad
