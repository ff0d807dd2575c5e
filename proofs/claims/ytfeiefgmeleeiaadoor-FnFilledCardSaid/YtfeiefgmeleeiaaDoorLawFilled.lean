/-
  Proved: for every two lists of bytes, the law FnFilled of the program at commit bd74fe5090bb answers true: in a text drawn from the first list FillSum makes both sums nought, changes nothing but its two bytes and answers as the model does, MendByte makes the first sum nought, IsWhole answers as the model does; and both lists read afterwards as before. Condition: the package variable impl.moduli starts as the program's text lays it (tied by the card).
-/
import Derived.Test.YtfeiefgmeleeiaaDoorDraws
import Derived.Test.YtfeiefgmeleeiaaDoorCodeOf
import Derived.Test.YtfeiefgmeleeiaaDoorFilledMath
import Derived.Test.YtfeiefgmeleeiaaDoorFillImpl
namespace Go.Proofs.YtfeiefgmeleeiaaDoor.fnFilled
open Go.ChangeShapes Go.WideShapes Go.ChangeAt Go.RowKit
open Go.ChangeMaps (open_string shut_string)
set_option linter.unusedVariables false

set_option maxHeartbeats 4000000 in
theorem walk (a0 : Option Addr) (len0 cap0 : Nat) (a1 : Option Addr) (len1 cap1 : Nat) (w : World) (hC0 : Code w.heap.size w a0 len0) (l0 : len0 ≤ 140737488351232) (hC1 : Code w.heap.size w a1 len1) (l1 : len1 ≤ 140737488351232) (ht : Tab w) :
    Calls Tryd.prog 4 #[.slice a0 len0 cap0, .slice a1 len1 cap1] w fun e w' => e = .returned (.bool true) ∧ Below w.heap.size w w' := by
  by_cases hbig : 1048576 < len0 + len1
  · have hbig' : (1048576 : Int) < (len0 : Int) + (len1 : Int) := by omega
    clear ht hC0 hC1
    go_enter Tryd.func4, Tryd.ntmps4
    go_wp2
    go_ret
    exact ⟨rfl, Below.refl _ _⟩
  · have hbig' : (len0 : Int) + (len1 : Int) ≤ 1048576 := by omega
    have HT : Hid (Tab w) := ht
    have HP : Hid (0 < w.heap.size) := ht.pos
    have HC0 : Hid (Code w.heap.size w a0 len0) := hC0
    have HC1 : Hid (Code w.heap.size w a1 len1) := hC1
    clear ht hC0 hC1
    go_enter Tryd.func4, Tryd.ntmps4
    go_wp2_with fail
    refine (drawFillSum_any w.heap.size w _ a0 len0 cap0 HC0.out (by omega) (Since.start w)).mono ?_
    rintro e W1 ⟨s, k, rfl, hs, k0, k1, hS1⟩
    by_cases hg : s.size ≤ 200 ∧ 0 ≤ k ∧ k + 1 < (s.size : Int)
    · obtain ⟨g1, g2, g3⟩ := hg
      obtain ⟨i, rfl⟩ : ∃ i : Nat, k = i := ⟨k.toNat, by omega⟩
      go_wp2_with fail
      refine (implFill_nat s i _ g1 (by omega) (hS1.tab HT.out HP.out)).mono ?_
      rintro e W2 ⟨rfl, hb2⟩
      have hS2 := hS1.step hb2
      clear hS1 hb2
      go_wp2_with fail
      refine (specFill_yes s i _ hS2 g1 (by omega) (by omega)).mono ?_
      rintro e W3 ⟨rfl, hS3⟩
      clear hS2
      have hmf : (fillS s i).size ≤ maxLen := by rw [fillS_sz]; unfold maxLen; omega
      go_wp2_with fail
      refine (implWhole_u (fillS s i) _ hmf hS3 HT.out HP.out).mono ?_
      rintro e W4 ⟨rfl, hS4⟩
      rw [fill_whole s i g1 (by omega)]
      clear hS3 hmf
      have hF : (fillS s i).size = s.size := fillS_sz s i
      have hE1 := fill_head s i
      have hE2 := fill_tail s i
      have hwr : IntKind.i64.wrap ((i : Int) + 2) = (i : Int) + 2 := by rw [IntKind.wrap_i64]; omega
      have v1 : (i : Int) ≤ (s.size : Int) := by omega
      have v2 : (i : Int) + 2 ≤ (s.size : Int) := by omega
      have v3 : (0 : Int) ≤ (i : Int) + 2 := by omega
      go_wp2
      go_quiet (fail)
      clear hF hE1 hE2 hwr v1 v2 v3
      go_wp2_with fail
      refine (drawMendByte_any w.heap.size w _ a1 len1 cap1 HC1.out (by omega) (hS4.drewN _)).mono ?_
      rintro e W5 ⟨t, k2, rfl, ht2, q0, q1, hS5⟩
      clear hS4
      by_cases hg2 : t.size ≤ 200 ∧ 0 ≤ k2 ∧ k2 < (t.size : Int)
      · obtain ⟨m1, m2, m3⟩ := hg2
        obtain ⟨j, rfl⟩ : ∃ j : Nat, k2 = j := ⟨k2.toNat, by omega⟩
        go_wp2_with fail
        refine (implMend_nat t j _ m1 (by omega) (hS5.tab HT.out HP.out)).mono ?_
        rintro e W6 ⟨rfl, hb6⟩
        have hS6 := hS5.step hb6
        clear hS5 hb6
        go_wp2_with fail
        refine (specMend_yes t j _ hS6 m1 (by omega) (by omega)).mono ?_
        rintro e W7 ⟨rfl, hS7⟩
        clear hS6
        have hmm : (mendS t j).size ≤ maxLen := by rw [mendS_sz]; unfold maxLen; omega
        go_wp2_with fail
        refine (implSumOf_u (mendS t j) _ hmm hS7 HT.out HP.out).mono ?_
        rintro e W7b ⟨rfl, hS7b⟩
        rw [(mend_sum t j m1 (by omega)).1, (mend_sum t j m1 (by omega)).2]
        clear hS7 hmm
        go_wp2_with fail
        refine (drawIsWhole_any w.heap.size w _ a1 len1 cap1 HC1.out (by omega) hS7b).mono ?_
        rintro e W8 ⟨u, rfl, hu, hS8⟩
        have hmu : u.size ≤ maxLen := by unfold maxLen; omega
        clear hS7b
        go_wp2_with fail
        refine (implWhole_u u _ hmu hS8 HT.out HP.out).mono ?_
        rintro e W9 ⟨rfl, hS9⟩
        clear hS8
        go_wp2_with fail
        refine (specWhole_u u _ hmu hS9).mono ?_
        rintro e W10 ⟨rfl, hS10⟩
        have HE : Hid (Below w.heap.size w W10) := hS10.1
        clear hS9 hS10 hmu
        go_wp2
        go_ret
        exact ⟨rfl, HE.out⟩
      · have HM2 : Hid (t.size ≤ maxLen) := by show _ ≤ _; unfold maxLen; omega
        have HH2 : Hid (200 < t.size ∨ k2 < 0 ∨ (t.size : Int) ≤ k2) := by show _ ∨ _; omega
        clear hg2
        go_wp2_with fail
        refine (implMend_no t k2 _ HM2.out HH2.out).mono ?_
        rintro e W6 ⟨rfl, rfl⟩
        go_wp2_with fail
        refine (specMend_no t k2 _ HM2.out HH2.out).mono ?_
        rintro e W7 ⟨rfl, rfl⟩
        go_wp2_with fail
        refine (drawIsWhole_any w.heap.size w _ a1 len1 cap1 HC1.out (by omega) hS5).mono ?_
        rintro e W8 ⟨u, rfl, hu, hS8⟩
        have hmu : u.size ≤ maxLen := by unfold maxLen; omega
        clear hS5
        go_wp2_with fail
        refine (implWhole_u u _ hmu hS8 HT.out HP.out).mono ?_
        rintro e W9 ⟨rfl, hS9⟩
        clear hS8
        go_wp2_with fail
        refine (specWhole_u u _ hmu hS9).mono ?_
        rintro e W10 ⟨rfl, hS10⟩
        have HE : Hid (Below w.heap.size w W10) := hS10.1
        clear hS9 hS10 hmu
        go_wp2
        go_ret
        exact ⟨rfl, HE.out⟩
    · have HM : Hid (s.size ≤ maxLen) := by show _ ≤ _; unfold maxLen; omega
      have HH : Hid (200 < s.size ∨ k < 0 ∨ (s.size : Int) ≤ k + 1) := by show _ ∨ _; omega
      clear hg
      go_wp2_with fail
      refine (implFill_no s k _ HM.out HH.out).mono ?_
      rintro e W2 ⟨rfl, rfl⟩
      go_wp2_with fail
      refine (specFill_no s k _ HM.out HH.out).mono ?_
      rintro e W3 ⟨rfl, rfl⟩
      go_wp2_with fail
      refine (drawMendByte_any w.heap.size w _ a1 len1 cap1 HC1.out (by omega) hS1).mono ?_
      rintro e W5 ⟨t, k2, rfl, ht2, q0, q1, hS5⟩
      clear hS1
      by_cases hg2 : t.size ≤ 200 ∧ 0 ≤ k2 ∧ k2 < (t.size : Int)
      · obtain ⟨m1, m2, m3⟩ := hg2
        obtain ⟨j, rfl⟩ : ∃ j : Nat, k2 = j := ⟨k2.toNat, by omega⟩
        go_wp2_with fail
        refine (implMend_nat t j _ m1 (by omega) (hS5.tab HT.out HP.out)).mono ?_
        rintro e W6 ⟨rfl, hb6⟩
        have hS6 := hS5.step hb6
        clear hS5 hb6
        go_wp2_with fail
        refine (specMend_yes t j _ hS6 m1 (by omega) (by omega)).mono ?_
        rintro e W7 ⟨rfl, hS7⟩
        clear hS6
        have hmm : (mendS t j).size ≤ maxLen := by rw [mendS_sz]; unfold maxLen; omega
        go_wp2_with fail
        refine (implSumOf_u (mendS t j) _ hmm hS7 HT.out HP.out).mono ?_
        rintro e W7b ⟨rfl, hS7b⟩
        rw [(mend_sum t j m1 (by omega)).1, (mend_sum t j m1 (by omega)).2]
        clear hS7 hmm
        go_wp2_with fail
        refine (drawIsWhole_any w.heap.size w _ a1 len1 cap1 HC1.out (by omega) hS7b).mono ?_
        rintro e W8 ⟨u, rfl, hu, hS8⟩
        have hmu : u.size ≤ maxLen := by unfold maxLen; omega
        clear hS7b
        go_wp2_with fail
        refine (implWhole_u u _ hmu hS8 HT.out HP.out).mono ?_
        rintro e W9 ⟨rfl, hS9⟩
        clear hS8
        go_wp2_with fail
        refine (specWhole_u u _ hmu hS9).mono ?_
        rintro e W10 ⟨rfl, hS10⟩
        have HE : Hid (Below w.heap.size w W10) := hS10.1
        clear hS9 hS10 hmu
        go_wp2
        go_ret
        exact ⟨rfl, HE.out⟩
      · have HM2 : Hid (t.size ≤ maxLen) := by show _ ≤ _; unfold maxLen; omega
        have HH2 : Hid (200 < t.size ∨ k2 < 0 ∨ (t.size : Int) ≤ k2) := by show _ ∨ _; omega
        clear hg2
        go_wp2_with fail
        refine (implMend_no t k2 _ HM2.out HH2.out).mono ?_
        rintro e W6 ⟨rfl, rfl⟩
        go_wp2_with fail
        refine (specMend_no t k2 _ HM2.out HH2.out).mono ?_
        rintro e W7 ⟨rfl, rfl⟩
        go_wp2_with fail
        refine (drawIsWhole_any w.heap.size w _ a1 len1 cap1 HC1.out (by omega) hS5).mono ?_
        rintro e W8 ⟨u, rfl, hu, hS8⟩
        have hmu : u.size ≤ maxLen := by unfold maxLen; omega
        clear hS5
        go_wp2_with fail
        refine (implWhole_u u _ hmu hS8 HT.out HP.out).mono ?_
        rintro e W9 ⟨rfl, hS9⟩
        clear hS8
        go_wp2_with fail
        refine (specWhole_u u _ hmu hS9).mono ?_
        rintro e W10 ⟨rfl, hS10⟩
        have HE : Hid (Below w.heap.size w W10) := hS10.1
        clear hS9 hS10 hmu
        go_wp2
        go_ret
        exact ⟨rfl, HE.out⟩

theorem contract (H : Type) (enc : TypeId × Value → H) (W : World) (base : Nat) (args : Array Value) (ds gs : List (DataW H)) (before : List MemPlace)
    (hval : ∀ (j : Nat) t v, Tryd.f4.params[j]? = some t → args[j]? = some v → Value.okWide Tryd.prog W .any base t v)
    (hW : DataW.Whole enc Tryd.prog Tryd.f4.params.toList Rows.fnFilledSpec.vars false W args.toList ds gs before) (hsz : (DataW.weightsEach Tryd.prog (Tryd.f4.params.toList ++ (OpenSpec.ofChange Rows.fnFilledSpec).bare.plain.varTypes Tryd.prog) (ds ++ gs)).all (· ≤ reachBytes) = true) (hL : laidMetH Tryd.prog Rows.fnFilledRow.laid W) :
    Calls Tryd.prog 4 args W fun e W' => ∃ v, e = .returned v ∧ Rows.fnFilledSpec.post enc Tryd.prog Tryd.f4 false true false false W args v W' := by
  have hW' := hW
  obtain ⟨p, q, hA0, hV0, rfl, hfz, hnd⟩ := hW
  have hA : DataW.TrodAll enc Tryd.prog W 0 (fun _ => true) true Tryd.f4.params.toList args.toList ds p := hA0
  have hV : DataW.TrodVars enc Tryd.prog W (fun _ => true) ["loop.example/g00575/impl.moduli"] gs q := hV0
  rw [Tryd.params4] at hA hval hsz
  obtain ⟨v0, vs0, d0, ds0, p0, q0, hargs, rfl, rfl, h0, r0⟩ := trodAll_cons hA
  obtain ⟨v1, vs1, d1, ds1, p1, q1, rfl, rfl, rfl, h1, r1⟩ := trodAll_cons r0
  obtain ⟨rfl, rfl, rfl⟩ := trodAll_nil r1
  obtain rfl : args = #[v0, v1] := by cases args; simp_all
  obtain ⟨a0, len0, cap0, rfl⟩ := okWide_slice Tryd.underlying22 (hval 0 22 v0 rfl rfl)
  have k0 := h0
  have lt0 : ∀ x ∈ p0, x.block < W.heap.size := by obtain ⟨m, hm⟩ := k0; exact DataW.trod_lt m _ _ _ hm
  have hl0 : len0 ≤ 140737488351232 := by
    rcases (code_of h0).2 with h | ⟨el, sp, hd, hel⟩
    · omega
    · have := sized_slice hsz (j := 0) (t := 22) (e := 5) rfl (by rw [hd]; rfl) Tryd.underlying22
      rw [bytes5] at this
      unfold reachBytes at this
      omega
  obtain ⟨a1, len1, cap1, rfl⟩ := okWide_slice Tryd.underlying22 (hval 1 22 v1 rfl rfl)
  have k1 := h1
  have lt1 : ∀ x ∈ p1, x.block < W.heap.size := by obtain ⟨m, hm⟩ := k1; exact DataW.trod_lt m _ _ _ hm
  have hl1 : len1 ≤ 140737488351232 := by
    rcases (code_of h1).2 with h | ⟨el, sp, hd, hel⟩
    · omega
    · have := sized_slice hsz (j := 1) (t := 22) (e := 5) rfl (by rw [hd]; rfl) Tryd.underlying22
      rw [bytes5] at this
      unfold reachBytes at this
      omega
  have hT := table hL
  clear hA0 hV0
  refine (walk a0 len0 cap0 a1 len1 cap1 W (code_of k0).1 hl0 (code_of k1).1 hl1 hT).mono fun e W' ⟨he, bel⟩ => ?_
  subst he
  obtain ⟨d, rfl, hv'⟩ := vars_again hV bel (fun x hx => hW'.lt x (List.mem_append_right _ hx)) hT.pos
  exact ⟨_, rfl, _, _, _, [], _, q, hW', trodAll_mk1 (shut_bool Tryd.underlying4 _), (trodAll_cons_mk (Below.trod laidOut (by kernel_rfl) (of_decide_eq_true (by kernel_rfl)) k0 bel lt0) (trodAll_cons_mk (Below.trod laidOut (by kernel_rfl) (of_decide_eq_true (by kernel_rfl)) k1 bel lt1) trodAll_mk0)), hv', bel.frame _, fun h => by cases h⟩

theorem laid_met (os : Os) : laidMet Tryd.prog Rows.fnFilledRow.laid (({ World.holding Tryd.prog os ⟨#[], #[], []⟩ with heap := (World.holding Tryd.prog os ⟨#[], #[], []⟩).heap.modify 0 fun | .cells _ t frozen => .cells #[.int .i64 32640, .int .i64 16320, .int .i64 8160, .int .i64 4080, .int .i64 2040, .int .i64 1020, .int .i64 510, .int .i64 255] t frozen | o => o } : World).forCall (fun _ _ => 0) ⟨#[], #[.slice none 0 0, .slice none 0 0], []⟩).memory :=
  laidMet_of_run' 8 (by kernel_rfl) (by kernel_rfl)
theorem reads (os : Os) {H : Type} (enc : TypeId × Value → H) : ∃ places, DataW.whole enc Tryd.prog (({ World.holding Tryd.prog os ⟨#[], #[], []⟩ with heap := (World.holding Tryd.prog os ⟨#[], #[], []⟩).heap.modify 0 fun | .cells _ t frozen => .cells #[.int .i64 32640, .int .i64 16320, .int .i64 8160, .int .i64 4080, .int .i64 2040, .int .i64 1020, .int .i64 510, .int .i64 255] t frozen | o => o } : World).forCall (fun _ _ => 0) ⟨#[], #[.slice none 0 0, .slice none 0 0], []⟩).memory Tryd.f4.params.toList Rows.fnFilledSpec.vars false #[Value.slice none 0 0, Value.slice none 0 0].toList 8 = some ([.nil, .nil], [Rows.laid_loop_example_g00575_impl_moduli], places) :=
  ⟨[.cell 0 0, .cell 0 1, .cell 0 2, .cell 0 3, .cell 0 4, .cell 0 5, .cell 0 6, .cell 0 7], by kernel_rfl⟩

set_option maxRecDepth 100000 in
theorem lifted (os : Os) (started : os.Started) (H : Type) (enc : TypeId × Value → H) (F : Stop.Interp) :
    ReturnsInHanded {} Tryd.checked os 4 .any ((OpenSpec.ofChange Rows.fnFilledSpec).preRow enc Tryd.prog Tryd.f4 Rows.fnFilledRow.domain false Rows.fnFilledRow.laid) (((OpenSpec.ofChange Rows.fnFilledSpec).at F).post enc Tryd.prog Tryd.f4 false true false false) := by
  obtain ⟨places, hx⟩ := reads os enc
  refine returnsInHanded_of_row (C := Tryd.checked) (s := OpenSpec.ofChange Rows.fnFilledSpec) own started (by kernel_rfl) Tryd.func4
    (witness_row_at (enc := enc) (C := Tryd.checked) false ({ World.holding Tryd.prog os ⟨#[], #[], []⟩ with heap := (World.holding Tryd.prog os ⟨#[], #[], []⟩).heap.modify 0 fun | .cells _ t frozen => .cells #[.int .i64 32640, .int .i64 16320, .int .i64 8160, .int .i64 4080, .int .i64 2040, .int .i64 1020, .int .i64 510, .int .i64 255] t frozen | o => o } : World) #[.slice none 0 0, .slice none 0 0] rfl (by kernel_rfl) (by kernel_rfl) (by kernel_rfl)
      (OpenSpec.preRow_of_cond 8 hx (by kernel_rfl) (fun k hk => by cases hk) (by kernel_rfl) (laid_met os))) ?_
  intro W base args ds gs before hval hW _ _ hsz hL _ _
  exact contract H enc W base args ds gs before hval hW hsz hL

theorem said : Rows.FnFilledSaid :=
  OpenClaim.holds_of_cond 4 Tryd.f4 rfl rfl rfl rfl rfl rfl rfl ⟨rfl, rfl, rfl, rfl, rfl⟩ rfl rfl rfl rfl rfl (by kernel_rfl) Tryd.func4 (by kernel_rfl)
    (of_decide_eq_true (by kernel_rfl)) (by unfold Func.isWrapper; first | (rw [if_pos (by decide +kernel)]; kernel_rfl) | (rw [if_neg (by decide +kernel)]; exact ⟨rfl, rfl⟩))
    (fun os started H enc _ F => by rw [OpenClaim.pre_eq_preRow]; exact lifted os started H enc F)

theorem plain (f : FuncId) (fn : Func) (hf : Tryd.pinned.checked.prog.funcNamed "loop.example/g00575/laws.FnFilled" = some f) (hfn : Tryd.pinned.checked.prog.funcs[f]? = some fn) :
    false = Tryd.pinned.checked.prog.looks [] ∧ ∀ (j : Nat) t, fn.params[j]? = some t → Tryd.pinned.checked.prog.wantsStandIn t = false := by
  obtain rfl : f = 4 := Option.some.inj ((show Tryd.prog.funcNamed "loop.example/g00575/laws.FnFilled" = some 4 by kernel_rfl).symm.trans hf) |>.symm
  obtain rfl : fn = Tryd.f4 := (Option.some.inj (Tryd.func4.symm.trans hfn)).symm
  refine ⟨by kernel_rfl, fun j t ht => ?_⟩
  rw [Tryd.params4] at ht
  have hm : t ∈ [22] := by simpa using Array.mem_of_getElem? ht
  have hall : ([22].all fun u => !Tryd.prog.wantsStandIn u) = true := by kernel_rfl
  exact (show Tryd.prog.wantsStandIn t = false by simpa using List.all_eq_true.1 hall t hm)

/-- The card. -/
theorem card : Rows.FnFilledCardSaid :=
  Claim7.holds_tied_plain_at .later [] _ _ _ _ said (fun _ h => by cases h) (by kernel_rfl) (fun _ h => by cases h) fnFilled_row_tie rfl ⟨rfl, rfl⟩ (by kernel_rfl) rfl plain (by kernel_rfl)
#print axioms card
end Go.Proofs.YtfeiefgmeleeiaaDoor.fnFilled
