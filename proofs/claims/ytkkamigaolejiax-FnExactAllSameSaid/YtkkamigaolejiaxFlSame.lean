/-
  'AllSame' of the program and of the model.
-/
import Derived.Test.YtkkamigaolejiaxFlGroups
import Derived.Test.YtkkamigaolejiaxFlOwed
namespace Go.Proofs.Ytkkamigaolejiax
open Go.RowKit
set_option linter.unusedVariables false

def rowOf (f : FD) (v : Nat) : List Int := f.kn.getD v []
theorem rowOf_at (f : FD) (v : Nat) (h : v < f.kn.length) : rowOf f v = f.kn[v] := by unfold rowOf; exact getL_at f.kn v h
def lkSame (f : FD) (l : List Int) : Bool := decide (rowOf f (at0 l).toNat = rowOf f (at1 l).toNat)
def grSame (f : FD) (v : Nat) : Bool := decide (rowOf f v = rowOf f ((grpL f.kn.length f.lk).getD v 0))
/-- Whether all of each group know the same. -/
def sameB (f : FD) : Bool := goodF f && f.lk.all (lkSame f)
theorem sameB_gr {f : FD} (h : linksB (f.kn.length : Int) f.lk = true) : f.lk.all (lkSame f) = (List.range f.kn.length).all (grSame f) := by
  have := same_groups h (rowOf f)
  rw [Bool.eq_iff_iff, List.all_eq_true, List.all_eq_true]
  constructor
  · intro h1 v hv
    exact decide_eq_true (this.1 (fun l hl => of_decide_eq_true (h1 l hl)) v (List.mem_range.1 hv))
  · intro h1 l hl
    exact decide_eq_true (this.2 (fun v hv => of_decide_eq_true (h1 v (List.mem_range.2 hv))) l hl)
theorem all_no {α : Type} (l : List α) (p : α → Bool) (x : α) (hx : x ∈ l) (hf : p x = false) : l.all p = false := by
  rw [Bool.eq_false_iff]
  intro e
  have := List.all_eq_true.1 e x hx
  rw [hf] at this
  cases this

set_option maxRecDepth 100000 in
set_option maxHeartbeats 4000000 in
theorem implSame_any (W : World) (x y z l : Value) (f : FD) (h : ReadsF W x y z l f) (hf : FitF f) :
    Calls Try.prog 18 #[.agg #[x, y, z, l]] W fun e W' => e = .returned (.tuple #[.bool (sameB f), .bool (goodF f)]) ∧ Below W.heap.size W W' := by
  obtain ⟨a0, c0, rfl⟩ := h.lk.shape
  obtain ⟨a1, c1, rfl⟩ := h.kn.shape
  obtain ⟨a2, c2, rfl⟩ := h.ow.shape
  obtain ⟨a3, c3, rfl⟩ := h.ln.shape
  have HB : Hid (Since W.heap.size W (W.alloc (.cells #[.slice a0 f.lk.length c0, .slice a1 f.kn.length c1, .slice a2 f.ow.length c2, .slice a3 f.ln.length c3] 31))) := (Since.start W).step ((Below.refl _ W).alloc (Nat.le_refl _) _)
  have HX0 : Hid (∀ w', Since (W.alloc (.cells #[.slice a0 f.lk.length c0, .slice a1 f.kn.length c1, .slice a2 f.ow.length c2, .slice a3 f.ln.length c3] 31)).heap.size (W.alloc (.cells #[.slice a0 f.lk.length c0, .slice a1 f.kn.length c1, .slice a2 f.ow.length c2, .slice a3 f.ln.length c3] 31)) w' → Bx4 w' W.heap.size (.slice a0 f.lk.length c0) (.slice a1 f.kn.length c1) (.slice a2 f.ow.length c2) (.slice a3 f.ln.length c3)) := fun w' hs => (Bx4.new W (.slice a0 f.lk.length c0) (.slice a1 f.kn.length c1) (.slice a2 f.ow.length c2) (.slice a3 f.ln.length c3) 31).below hs.1
  have CG : Hid (Calls Try.prog 28 #[.agg #[.slice a0 f.lk.length c0, .slice a1 f.kn.length c1, .slice a2 f.ow.length c2, .slice a3 f.ln.length c3]] (W.alloc (.cells #[.slice a0 f.lk.length c0, .slice a1 f.kn.length c1, .slice a2 f.ow.length c2, .slice a3 f.ln.length c3] 31)) fun e W' => e = .returned (.bool (goodF f)) ∧ Below (W.alloc (.cells #[.slice a0 f.lk.length c0, .slice a1 f.kn.length c1, .slice a2 f.ow.length c2, .slice a3 f.ln.length c3] 31)).heap.size (W.alloc (.cells #[.slice a0 f.lk.length c0, .slice a1 f.kn.length c1, .slice a2 f.ow.length c2, .slice a3 f.ln.length c3] 31)) W') := implGoodF_any _ _ _ _ _ f (h.below HB.out.1) hf
  have HR : Hid (∀ W1, Below W.heap.size W W1 → ReadsF W1 (.slice a0 f.lk.length c0) (.slice a1 f.kn.length c1) (.slice a2 f.ow.length c2) (.slice a3 f.ln.length c3) f) := fun W1 hb => h.below hb
  clear h hf
  cases hg : goodF f with
  | false =>
    have HE : Hid (sameB f = false) := by show _ = _; unfold sameB; rw [hg]; rfl
    rw [HE.out]
    rw [hg] at CG
    go_enter Try.func18, Try.ntmps18
    go_wp2_with fail
    refine CG.out.mono ?_
    rintro e w1 ⟨rfl, hb1⟩
    have HS1 : Hid (Since W.heap.size W w1) := HB.out.step hb1
    clear hb1
    go_wp2
    go_ret2
    exact ⟨rfl, HS1.out.1⟩
  | true =>
    have hgr := goodF_rows hg
    have hn6 : f.kn.length ≤ 6 := hgr.1.2
    have hn1 : 1 ≤ f.kn.length := hgr.1.1
    have h15 : f.lk.length ≤ 15 := links15 hgr.2.1 (by omega)
    have HLK : Hid (linksB (f.kn.length : Int) f.lk = true) := hgr.2.1
    have HKL : Hid (∀ j (hj : j < f.kn.length), f.kn[j].length = f.kn.length) := fun j hj => by
      have := hgr.2.2.2.2.2.1 j hj
      unfold rowB at this
      rw [Bool.and_eq_true] at this
      have := of_decide_eq_true this.1
      omega
    clear hgr
    rw [hg] at CG
    have HE : Hid (sameB f = f.lk.all (lkSame f)) := by show _ = _; unfold sameB; rw [hg]; rfl
    generalize sameB f = res at *
    clear hg
    go_enter Try.func18, Try.ntmps18
    go_wp2_with fail
    refine CG.out.mono ?_
    rintro e w1 ⟨rfl, hb1⟩
    have HS1 : Hid (Since W.heap.size W w1) := HB.out.step hb1
    have HX1 : Hid (∀ w', Since w1.heap.size w1 w' → Bx4 w' W.heap.size (.slice a0 f.lk.length c0) (.slice a1 f.kn.length c1) (.slice a2 f.ow.length c2) (.slice a3 f.ln.length c3)) := fun w' hs => HX0.out w' (((Since.start _).step hb1).tran hs)
    have HR1 : Hid (∀ w', Since w1.heap.size w1 w' → ReadsF w' (.slice a0 f.lk.length c0) (.slice a1 f.kn.length c1) (.slice a2 f.ow.length c2) (.slice a3 f.ln.length c3) f) := fun w' hs => HR.out w' (HS1.out.tran hs).1
    obtain ⟨-, x0, x1, x2, x3, -⟩ := HX1.out w1 (Since.start w1)
    clear hb1 HX0 HR CG
    go_wp2
    go_loopw [12] (fun i wr => ∃ k : Nat, k ≤ f.lk.length ∧ i = .int .i64 k ∧ Hid ((∀ j (hj : j < f.lk.length), j < k → lkSame f f.lk[j] = true) ∧ Since w1.heap.size w1 wr)) (fun i _ => f.lk.length - (intOf i).toNat)
    case atStart => exact ⟨0, Nat.zero_le _, rfl, fun j hj h => absurd h (Nat.not_lt_zero _), Since.start w1⟩
    case round =>
      obtain ⟨k, hk, rfl, HK⟩ := hrel
      by_cases hlt : k < f.lk.length
      · have hlt' : (k : Int) < (f.lk.length : Int) := by omega
        have hR := HR1.out wr HK.out.2
        obtain ⟨y0, y1', y2, y3, y4, -⟩ := HX1.out wr HK.out.2
        have hm := linksB_mem HLK.out f.lk[k] (List.getElem_mem hlt)
        obtain ⟨a8, c8, hv8, hc8⟩ := hR.lk
        simp only [Value.slice.injEq] at hv8
        obtain ⟨ha8, -, -⟩ := hv8
        obtain ⟨g8, o8, hb8, hg8, hcc⟩ := hc8.resolve_left (fun e => by rw [e] at hlt; exact absurd hlt (Nat.not_lt_zero _))
        obtain ⟨u, hu, hru⟩ := hcc k hlt
        obtain ⟨gl, ol, cl, rfl, hgl, p0, p1⟩ := reads_two hru hm.1
        obtain ⟨a7, c7, hv7, hc7⟩ := hR.kn
        simp only [Value.slice.injEq] at hv7
        obtain ⟨ha7, -, -⟩ := hv7
        obtain ⟨g7, o7, hb7, hg7, hck⟩ := hc7.resolve_left (fun e => by rw [e] at hn1; exact absurd hn1 (by decide))
        obtain ⟨a, ea⟩ : ∃ a : Nat, at0 f.lk[k] = (a : Int) := ⟨(at0 f.lk[k]).toNat, by omega⟩
        obtain ⟨b, eb⟩ : ∃ b : Nat, at1 f.lk[k] = (b : Int) := ⟨(at1 f.lk[k]).toNat, by omega⟩
        have ha : a < f.kn.length := by omega
        have hb : b < f.kn.length := by omega
        obtain ⟨u1, hu1, hr1⟩ := hck a ha
        obtain ⟨u2, hu2, hr2⟩ := hck b hb
        rw [ea] at p0
        rw [eb] at p1
        have HD : Hid (lkSame f f.lk[k] = decide (f.kn[a] = f.kn[b])) := by
          show _ = _
          unfold lkSame
          rw [ea, eb, show ((a : Int)).toNat = a from rfl, show ((b : Int)).toNat = b from rfl, rowOf_at f a ha, rowOf_at f b hb]
        have HYES : Hid (lkSame f f.lk[k] = true → ∀ j (hj : j < f.lk.length), j < k + 1 → lkSame f f.lk[j] = true) := fun hf j hj h => by
          by_cases e : j = k
          · subst e; exact hf
          · exact HK.out.1 j hj (by omega)
        have HNO : Hid (lkSame f f.lk[k] = false → res = false) := fun hf => by rw [HE.out]; exact all_no f.lk _ _ (List.getElem_mem hlt) hf
        have l1 := HKL.out a ha
        have l2 := HKL.out b hb
        have CE : Hid (∀ m, Calls Try.prog 45 #[u1, u2] (wr.drewN m) fun e W' => e = .returned (.bool (decide (f.kn[a] = f.kn[b]))) ∧ ∃ n, W' = (wr.drewN m).drewN n) := fun m => sliceEq_any _ u1 u2 f.kn[a] f.kn[b] (hr1.below (below_drewN (Below.refl _ _) m)) (hr2.below (below_drewN (Below.refl _ _) m)) (by omega) (by omega)
        obtain ⟨au1, cu1, hs1⟩ := hr1.shape
        obtain ⟨au2, cu2, hs2⟩ := hr2.shape
        rw [l1] at hs1
        rw [l2] at hs2
        subst hs1 hs2
        rw [hb8] at ha8
        rw [hb7] at ha7
        clear hR hcc hg8 hc8 hru hgl hc7 hg7 hck hr1 hr2 hm ea eb l1 l2 hb8 hb7
        subst ha8 ha7
        have ha' : (a : Int) < (f.kn.length : Int) := by omega
        have hb' : (b : Int) < (f.kn.length : Int) := by omega
        rw [HD.out] at HYES HNO
        generalize decide (f.kn[a] = f.kn[b]) = jj at *
        cases jj with
        | true =>
          have HA1 : Hid (∀ j (hj : j < f.lk.length), j < k + 1 → lkSame f f.lk[j] = true) := HYES.out rfl
          clear HYES HNO HD
          go_wp2
          go_quiet (first | (go_at_call 45; exact Calls.quiet_of (CE.out _)))
          go_wp2
          go_roundw
          case rel => exact ⟨k + 1, by omega, by go_num, HA1.out, HK.out.2.drewN _⟩
          case measure => simp [intOf]; omega
        | false =>
          have HFL : Hid (res = false) := HNO.out rfl
          clear HYES HNO HD
          go_wp2
          go_quiet (first | (go_at_call 45; exact Calls.quiet_of (CE.out _)))
          go_wp2
          go_ret2
          exact ⟨by rw [HFL.out]; rfl, (HS1.out.tran (HK.out.2.drewN _)).1⟩
      · have hlt' : ¬ (k : Int) < (f.lk.length : Int) := by omega
        have HFL : Hid (res = true) := by
          show _ = _
          rw [HE.out]
          exact List.all_eq_true.2 fun l hl => by
            obtain ⟨j, hj, rfl⟩ := List.getElem_of_mem hl
            exact HK.out.1 j hj (by omega)
        go_wp2
        go_ret2
        exact ⟨by rw [HFL.out]; rfl, (HS1.out.tran HK.out.2).1⟩

set_option maxRecDepth 100000 in
set_option maxHeartbeats 4000000 in
theorem specSame_any (W : World) (x y z l : Value) (f : FD) (h : ReadsF W x y z l f) (hf : FitF f) :
    Calls Try.prog 17 #[.agg #[x, y, z, l]] W fun e W' => e = .returned (.tuple #[.bool (sameB f), .bool (goodF f)]) ∧ Below W.heap.size W W' := by
  obtain ⟨a0, c0, rfl⟩ := h.lk.shape
  obtain ⟨a1, c1, rfl⟩ := h.kn.shape
  obtain ⟨a2, c2, rfl⟩ := h.ow.shape
  obtain ⟨a3, c3, rfl⟩ := h.ln.shape
  have HB : Hid (Since W.heap.size W (W.alloc (.cells #[.slice a0 f.lk.length c0, .slice a1 f.kn.length c1, .slice a2 f.ow.length c2, .slice a3 f.ln.length c3] 31))) := (Since.start W).step ((Below.refl _ W).alloc (Nat.le_refl _) _)
  have HX0 : Hid (∀ w', Since (W.alloc (.cells #[.slice a0 f.lk.length c0, .slice a1 f.kn.length c1, .slice a2 f.ow.length c2, .slice a3 f.ln.length c3] 31)).heap.size (W.alloc (.cells #[.slice a0 f.lk.length c0, .slice a1 f.kn.length c1, .slice a2 f.ow.length c2, .slice a3 f.ln.length c3] 31)) w' → Bx4 w' W.heap.size (.slice a0 f.lk.length c0) (.slice a1 f.kn.length c1) (.slice a2 f.ow.length c2) (.slice a3 f.ln.length c3)) := fun w' hs => (Bx4.new W (.slice a0 f.lk.length c0) (.slice a1 f.kn.length c1) (.slice a2 f.ow.length c2) (.slice a3 f.ln.length c3) 31).below hs.1
  have CG : Hid (Calls Try.prog 23 #[.agg #[.slice a0 f.lk.length c0, .slice a1 f.kn.length c1, .slice a2 f.ow.length c2, .slice a3 f.ln.length c3]] (W.alloc (.cells #[.slice a0 f.lk.length c0, .slice a1 f.kn.length c1, .slice a2 f.ow.length c2, .slice a3 f.ln.length c3] 31)) fun e W' => e = .returned (.bool (goodF f)) ∧ Below (W.alloc (.cells #[.slice a0 f.lk.length c0, .slice a1 f.kn.length c1, .slice a2 f.ow.length c2, .slice a3 f.ln.length c3] 31)).heap.size (W.alloc (.cells #[.slice a0 f.lk.length c0, .slice a1 f.kn.length c1, .slice a2 f.ow.length c2, .slice a3 f.ln.length c3] 31)) W') := specGoodF_any _ _ _ _ _ f (h.below HB.out.1) hf
  have HR : Hid (∀ W1, Below W.heap.size W W1 → ReadsF W1 (.slice a0 f.lk.length c0) (.slice a1 f.kn.length c1) (.slice a2 f.ow.length c2) (.slice a3 f.ln.length c3) f) := fun W1 hb => h.below hb
  clear h hf
  cases hg : goodF f with
  | false =>
    have HE : Hid (sameB f = false) := by show _ = _; unfold sameB; rw [hg]; rfl
    rw [HE.out]
    rw [hg] at CG
    go_enter Try.func17, Try.ntmps17
    go_wp2_with fail
    refine CG.out.mono ?_
    rintro e w1 ⟨rfl, hb1⟩
    have HS1 : Hid (Since W.heap.size W w1) := HB.out.step hb1
    clear hb1
    go_wp2
    go_ret2
    exact ⟨rfl, HS1.out.1⟩
  | true =>
    have hgr := goodF_rows hg
    have hn6 : f.kn.length ≤ 6 := hgr.1.2
    have hn1 : 1 ≤ f.kn.length := hgr.1.1
    have h15 : f.lk.length ≤ 15 := links15 hgr.2.1 (by omega)
    have HLK : Hid (linksB (f.kn.length : Int) f.lk = true) := hgr.2.1
    have HKL : Hid (∀ j (hj : j < f.kn.length), f.kn[j].length = f.kn.length) := fun j hj => by
      have := hgr.2.2.2.2.2.1 j hj
      unfold rowB at this
      rw [Bool.and_eq_true] at this
      have := of_decide_eq_true this.1
      omega
    clear hgr
    rw [hg] at CG
    have HE : Hid (sameB f = (List.range f.kn.length).all (grSame f)) := by show _ = _; rw [← sameB_gr HLK.out]; unfold sameB; rw [hg]; rfl
    generalize sameB f = res at *
    clear hg
    go_enter Try.func17, Try.ntmps17
    go_wp2_with fail
    refine CG.out.mono ?_
    rintro e w1 ⟨rfl, hb1⟩
    have HS1 : Hid (Since W.heap.size W w1) := HB.out.step hb1
    have HX1 : Hid (∀ w', Since w1.heap.size w1 w' → Bx4 w' W.heap.size (.slice a0 f.lk.length c0) (.slice a1 f.kn.length c1) (.slice a2 f.ow.length c2) (.slice a3 f.ln.length c3)) := fun w' hs => HX0.out w' (((Since.start _).step hb1).tran hs)
    have HR1 : Hid (∀ w', Since w1.heap.size w1 w' → ReadsF w' (.slice a0 f.lk.length c0) (.slice a1 f.kn.length c1) (.slice a2 f.ow.length c2) (.slice a3 f.ln.length c3) f) := fun w' hs => HR.out w' (HS1.out.tran hs).1
    obtain ⟨-, x0, x1, x2, x3, -⟩ := HX1.out w1 (Since.start w1)
    clear hb1 HX0 HR CG
    go_wp2_with fail
    refine (l6Groups_any w1 _ f.lk f.kn.length (HR1.out _ (Since.start w1)).lk HLK.out h15 hn6 hn1).mono ?_
    rintro e w2 ⟨gg, gc, rfl, ho2, hb2⟩
    have HS2 : Hid (Since w1.heap.size w1 w2) := (Since.start w1).step hb2
    have HO2 : Hid (∀ w', Since w2.heap.size w2 w' → Own w' w1.heap.size (.slice (some ⟨gg, 0, none⟩) f.kn.length gc) (castL (grpL f.kn.length f.lk))) := fun w' hs => ho2.below hs.1
    have HGL : Hid ((grpL f.kn.length f.lk).length = f.kn.length) := grpTo_len _ _ _
    have HGT : Hid (∀ v, v < f.kn.length → (grpL f.kn.length f.lk).getD v 0 < f.kn.length) := fun v hv => grp_lt HLK.out _ v hv
    clear ho2 hb2 x0 x1 x2 x3
    obtain ⟨-, x0, x1, x2, x3, -⟩ := HX1.out w2 HS2.out
    go_wp2
    go_loopw [19] (fun i wr => ∃ k : Nat, k ≤ f.kn.length ∧ i = .int .i64 k ∧ Hid ((∀ j, j < k → grSame f j = true) ∧ Since w2.heap.size w2 wr)) (fun i _ => f.kn.length - (intOf i).toNat)
    case atStart => exact ⟨0, Nat.zero_le _, rfl, fun j h => absurd h (Nat.not_lt_zero _), Since.start w2⟩
    case round =>
      obtain ⟨k, hk, rfl, HK⟩ := hrel
      by_cases hlt : k < f.kn.length
      · have hlt' : (k : Int) < (f.kn.length : Int) := by omega
        have hR := HR1.out wr (HS2.out.tran HK.out.2)
        obtain ⟨y0, y1', y2, y3, y4, -⟩ := HX1.out wr (HS2.out.tran HK.out.2)
        obtain ⟨zc, -⟩ := own_cellN (HO2.out wr HK.out.2) k (by rw [HGL.out]; exact hlt)
        have hb := HGT.out k hlt
        obtain ⟨a7, c7, hv7, hc7⟩ := hR.kn
        simp only [Value.slice.injEq] at hv7
        obtain ⟨ha7, -, -⟩ := hv7
        obtain ⟨g7, o7, hb7, hg7, hck⟩ := hc7.resolve_left (fun e => by rw [e] at hn1; exact absurd hn1 (by decide))
        have HD : Hid (grSame f k = decide (f.kn[k] = f.kn[(grpL f.kn.length f.lk).getD k 0])) := by
          show _ = _
          unfold grSame
          rw [rowOf_at f k hlt, rowOf_at f _ hb]
        have HYES : Hid (grSame f k = true → ∀ j, j < k + 1 → grSame f j = true) := fun hf j h => by
          by_cases e : j = k
          · subst e; exact hf
          · exact HK.out.1 j (by omega)
        have HNO : Hid (grSame f k = false → res = false) := fun hf => by rw [HE.out]; exact all_no _ _ _ (List.mem_range.2 hlt) hf
        rw [HD.out] at HYES HNO
        clear HD
        generalize (grpL f.kn.length f.lk).getD k 0 = b at *
        obtain ⟨u1, hu1, hr1⟩ := hck k hlt
        obtain ⟨u2, hu2, hr2⟩ := hck b hb
        have l1 := HKL.out k hlt
        have l2 := HKL.out b hb
        have CE : Hid (∀ m, Calls Try.prog 44 #[u1, u2] (wr.drewN m) fun e W' => e = .returned (.bool (decide (f.kn[k] = f.kn[b]))) ∧ ∃ n, W' = (wr.drewN m).drewN n) := fun m => l1Same_any _ u1 u2 f.kn[k] f.kn[b] (hr1.below (below_drewN (Below.refl _ _) m)) (hr2.below (below_drewN (Below.refl _ _) m)) (by omega) (by omega)
        obtain ⟨au1, cu1, hs1⟩ := hr1.shape
        obtain ⟨au2, cu2, hs2⟩ := hr2.shape
        rw [l1] at hs1
        rw [l2] at hs2
        subst hs1 hs2
        rw [hb7] at ha7
        clear hR hc7 hg7 hck hr1 hr2 l1 l2 hb7
        subst ha7
        have hb' : (b : Int) < (f.kn.length : Int) := by omega
        generalize decide (f.kn[k] = f.kn[b]) = jj at *
        cases jj with
        | true =>
          have HA1 : Hid (∀ j, j < k + 1 → grSame f j = true) := HYES.out rfl
          clear HYES HNO
          go_wp2
          go_quiet (first | (go_at_call 44; exact Calls.quiet_of (CE.out _)))
          go_wp2
          go_roundw
          case rel => exact ⟨k + 1, by omega, by go_num, HA1.out, HK.out.2.drewN _⟩
          case measure => simp [intOf]; omega
        | false =>
          have HFL : Hid (res = false) := HNO.out rfl
          clear HYES HNO
          go_wp2
          go_quiet (first | (go_at_call 44; exact Calls.quiet_of (CE.out _)))
          go_wp2
          go_ret2
          exact ⟨by rw [HFL.out]; rfl, ((HS1.out.tran HS2.out).tran (HK.out.2.drewN _)).1⟩
      · have hlt' : ¬ (k : Int) < (f.kn.length : Int) := by omega
        have HFL : Hid (res = true) := by
          show _ = _
          rw [HE.out]
          exact List.all_eq_true.2 fun j hj => HK.out.1 j (by have := List.mem_range.1 hj; omega)
        go_wp2
        go_ret2
        exact ⟨by rw [HFL.out]; rfl, ((HS1.out.tran HS2.out).tran HK.out.2).1⟩
end Go.Proofs.Ytkkamigaolejiax
