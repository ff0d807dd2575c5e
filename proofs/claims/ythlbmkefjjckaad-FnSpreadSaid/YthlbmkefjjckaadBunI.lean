import Derived.Test.YthlbmkefjjckaadTrOnI
import Derived.Test.YthlbmkefjjckaadTrSprI
import Derived.Test.YthlbmkefjjckaadPut2
/-
  'l10Up', 'l10On', 'OnTree' of the model.
-/
namespace Go.Proofs.Ythlbmkefjjckaad
open Go.RowKit
set_option linter.unusedVariables false
attribute [local go_sem] Oper.semAt_some wide_fn

def slLn : Value → Nat
  | .slice _ n _ => n
  | _ => 0

set_option maxRecDepth 100000 in
set_option maxHeartbeats 4000000 in
theorem l10Up_any (W : World) (B : Nat) (u : Value) (ps : List Int) (a : Int) (hu : Own W B u ps) (hg : goodU ps = true) (ha : 0 ≤ a ∧ a < ps.length) :
    Calls Try.prog 86 #[u, .int .i64 a] W fun e W' => ∃ v, e = .returned v ∧ Own W' W.heap.size v (upL ps (dep ps a) a) ∧ Below W.heap.size W W' := by
  obtain ⟨⟨hn1, hn2⟩, hfit, -⟩ := (goodU_iff ps).1 hg
  obtain ⟨wg, cap, rfl, -⟩ := own_at hu (by omega)
  have HC : Hid (∀ w (z : Nat), Since W.heap.size W w → z < ps.length → w.cell? ⟨wg, z, none⟩ = some (.int .i64 (lab ps (z : Int)))) := fun w z hs hz => by
    rw [lab_get ps z hz]
    exact own_cellG (hu.below hs.1) rfl z hz
  have hdl := dep_le (p := ps) a
  have HU : Hid (∀ j, (0 ≤ upU ps j a ↔ j < dep ps a) ∧ upU ps j a < (ps.length : Int) ∧ (0 ≤ upU ps j a → upU ps (j + 1) a = lab ps (upU ps j a)) ∧ upL ps (j + 1) a = upL ps j a ++ [upU ps j a] ∧ (upL ps j a).length = j) := fun j => by
    refine ⟨⟨fun h => up_lt_dep hg j ha.1 ha.2 h, fun h => up_pos hg j ha.1 ha.2 h⟩, (hfit.up j (by omega) ha.2).2, fun h => by rw [upU_succ, parU_pos ps h], upL_succ ps j a, upL_len ps j a⟩
  have HS0 : Hid (Since W.heap.size W W) := Since.start W
  have H0 : Hid (upU ps 0 a = a ∧ upL ps 0 a = []) := ⟨rfl, rfl⟩
  generalize dep ps a = d at *
  obtain ⟨uu, huu⟩ : ∃ uu : Nat → Int, uu = fun j => upU ps j a := ⟨_, rfl⟩
  obtain ⟨ul, hul⟩ : ∃ ul : Nat → List Int, ul = fun j => upL ps j a := ⟨_, rfl⟩
  have e1 : ∀ j, upU ps j a = uu j := fun j => by rw [huu]
  have e2 : ∀ j, upL ps j a = ul j := fun j => by rw [hul]
  simp only [e1, e2] at HU H0 ⊢
  clear e1 e2 huu hul hu hg hfit ha
  go_enter Try.func86, Try.ntmps86
  go_wp2
  go_loopw [1, 5] (fun t u wr => ∃ j : Nat, j ≤ d ∧ ∃ z : Int, t = .int .i64 z ∧ Hid (z = uu j ∧ Own wr W.heap.size u (ul j) ∧ Since W.heap.size W wr)) (fun _ u _ => ps.length + 1 - slLn u)
  case atStart => exact ⟨0, Nat.zero_le _, a, rfl, H0.out.1.symm, by rw [H0.out.2]; exact Own.nil _ _, HS0.out⟩
  case round =>
    obtain ⟨j, hj, z, rfl, HK⟩ := hrel
    obtain ⟨a2, c2, rfl⟩ := HK.out.2.1.shape
    have hU := HU.out j
    rw [← HK.out.1] at hU
    have HL : Hid ((ul j).length = j) := hU.2.2.2.2
    rw [hU.2.2.2.2] at HK ⊢
    by_cases hlt : j < d
    · have hz0 : 0 ≤ z := hU.1.2 hlt
      have hzb : decide (0 ≤ z) = true := by simpa using hz0
      obtain ⟨y, rfl⟩ : ∃ y : Nat, z = (y : Int) := ⟨z.toNat, by omega⟩
      have hyl : (y : Int) < (ps.length : Int) := hU.2.1
      have hyl2 : y < ps.length := by omega
      have HN : Hid (lab ps (y : Int) = uu (j + 1) ∧ ul (j + 1) = ul j ++ [(y : Int)]) := ⟨(hU.2.2.1 hz0).symm, hU.2.2.2.1⟩
      have hb1 : Below wr.heap.size wr (wr.alloc (.cells #[.int .i64 (y : Int)] 3)) := (Below.refl _ wr).alloc (Nat.le_refl _) _
      have HA : Hid (∀ ty, ∃ v' w', (Builtin.append_ #[26, 26] ty #[.slice a2 j c2, .slice (some ⟨wr.heap.size, 0, none⟩) 1 1]).run Try.prog (wr.alloc (.cells #[.int .i64 (y : Int)] 3)) = .ok v' w' ∧ Grown (wr.alloc (.cells #[.int .i64 (y : Int)] 3)) W.heap.size 3 1 (.slice a2 j c2) (ul j ++ [(y : Int)]).length ((ul j ++ [(y : Int)]).map (Value.int .i64)) v' w') := fun ty => by
        exact run_app1 _ _ _ (ul j) (HK.out.2.1.below hb1) wr.heap.size 1 (y : Int) (new_cell _ _ _) (by have := HL.out; omega) (by have := HK.out.2.2.2; simp; omega) ty
      have SQ1 : Hid (Since W.heap.size W (wr.alloc (.cells #[.int .i64 (y : Int)] 3))) := HK.out.2.2.step hb1
      have HQ : Hid (∀ v5 w5, Grown (wr.alloc (.cells #[.int .i64 (y : Int)] 3)) W.heap.size 3 1 (.slice a2 j c2) (ul j ++ [(y : Int)]).length ((ul j ++ [(y : Int)]).map (Value.int .i64)) v5 w5 → (∃ a5 c5, v5 = .slice a5 (j + 1) c5) ∧ w5.cell? ⟨wg, y, none⟩ = some (.int .i64 (lab ps (y : Int))) ∧ Hid (lab ps (y : Int) = uu (j + 1) ∧ Own w5 W.heap.size v5 (ul (j + 1)) ∧ Since W.heap.size W w5)) := fun v5 w5 hg5 => by
        have hs5 : Since W.heap.size W w5 := ⟨SQ1.out.1.trans hg5.below, Nat.le_trans SQ1.out.2 hg5.size⟩
        have ho5 : Own w5 W.heap.size v5 (ul (j + 1)) := by rw [HN.out.2]; exact hg5.own
        obtain ⟨a5, c5, e5⟩ := ho5.shape
        have hl5 : (ul (j + 1)).length = j + 1 := by rw [HN.out.2, List.length_append, HL.out]; rfl
        rw [hl5] at e5
        exact ⟨⟨_, _, e5⟩, HC.out w5 y hs5 hyl2, HN.out.1, ho5, hs5⟩
      clear HK HU hU HC HN HL SQ1 hb1 hz0
      generalize lab ps (y : Int) = yn at *
      go_wp2_with (at_builtin; refine list_app (by rfl) (.tmp 8) (.tmp 10) 26 (by rfl) (.slice a2 j c2) (.slice (some ⟨wr.heap.size, 0, none⟩) 1 1) (by rfl) (by rfl) _ HA.out ?_; intro v5 w5 hg5; obtain ⟨⟨a5, c5, rfl⟩, hc5, HF⟩ := HQ.out v5 w5 hg5; clear hg5)
      go_roundw
      case rel => exact ⟨j + 1, by omega, _, rfl, HF.out⟩
      case measure => simp [slLn]; omega
    · have hz0 : ¬ 0 ≤ z := fun h => hlt (hU.1.1 h)
      have hzb : decide (0 ≤ z) = false := by simpa using hz0
      have e : j = d := by omega
      have HE : Hid (Own wr W.heap.size (.slice a2 j c2) (ul d) ∧ Below W.heap.size W wr) := by rw [← e]; exact ⟨HK.out.2.1, HK.out.2.2.1⟩
      clear HK HU hU HC hz0
      go_wp2
      go_ret
      exact ⟨_, rfl, HE.out.1, HE.out.2⟩

theorem meet_found {p : List Int} (hg : goodU p = true) {a b : Int} (ha : 0 ≤ a ∧ a < (p.length : Int)) (hb : 0 ≤ b ∧ b < (p.length : Int)) {i k : Nat} (hi : i < dep p a) (hk : k < dep p b) (hno : ∀ i', i' < i → ∀ j, j < dep p b → upU p i' a ≠ upU p j b) (he : upU p i a = upU p k b) :
    meetU p a b = some i ∧ dep p b - dep p (upU p i a) = k := by
  have hpos := up_pos hg k hb.1 hb.2 hk
  have hon : onU p b (upU p i a) = true := by rw [he]; exact onU_up hg k hb.1 hb.2 hpos
  have hdk : dep p b - dep p (upU p i a) = k := by
    have := dep_up hg k hb.1 hb.2 hpos
    rw [he]; omega
  refine ⟨?_, hdk⟩
  cases hm : meetU p a b with
  | none =>
    have := List.find?_eq_none.1 hm i (List.mem_range.2 hi)
    exact absurd hon this
  | some i2 =>
    obtain ⟨h1, h2, h3⟩ := meet_some hm
    rcases Nat.lt_trichotomy i2 i with q | q | q
    · obtain ⟨c1, c2⟩ := (onU_iff p b _).1 h2
      have hx := up_pos hg i2 ha.1 ha.2 h1
      have hd := dep_pos hg hx (by
        have hf := ((goodU_iff p).1 hg).2.1
        exact (hf.up i2 (by omega) ha.2).2)
      exact absurd c2.symm (hno i2 q _ (by omega))
    · rw [q]
    · have := h3 i q
      rw [hon] at this; cases this
theorem meet_not {p : List Int} (hg : goodU p = true) {a b : Int} (ha : 0 ≤ a ∧ a < (p.length : Int)) (hno : ∀ i, i < dep p a → ∀ j, j < dep p b → upU p i a ≠ upU p j b) : onTOk p a b = false := by
  unfold onTOk
  cases hm : meetU p a b with
  | none => rfl
  | some i2 =>
    obtain ⟨h1, h2, h3⟩ := meet_some hm
    obtain ⟨c1, c2⟩ := (onU_iff p b _).1 h2
    have hx := up_pos hg i2 ha.1 ha.2 h1
    have hd := dep_pos hg hx (by
      have hf := ((goodU_iff p).1 hg).2.1
      exact (hf.up i2 (by omega) ha.2).2)
    exact absurd c2.symm (hno i2 h1 _ (by omega))
theorem downL_get (p : List Int) (b : Int) : ∀ (k t : Nat) (h : t < (downL p b k).length), (downL p b k)[t] = upU p (k - 1 - t) b
  | 0, t, h => by simp [downL] at h
  | k + 1, 0, _ => rfl
  | k + 1, t + 1, h => by
    simp only [downL, List.getElem_cons_succ]
    rw [downL_get p b k t]
    congr 1
    omega

set_option maxRecDepth 100000 in
set_option maxHeartbeats 8000000 in
theorem l10On_any (W : World) (B : Nat) (u : Value) (ps : List Int) (a b : Int) (hu : Own W B u ps) (hg : goodU ps = true) (ha : 0 ≤ a ∧ a < (ps.length : Int)) (hb : 0 ≤ b ∧ b < (ps.length : Int)) :
    Calls Try.prog 57 #[u, .int .i64 a, .int .i64 b] W (NearPost W (onOut ps a b) (onTOk ps a b)) := by
  obtain ⟨⟨hn1, hn2⟩, hfit, -⟩ := (goodU_iff ps).1 hg
  have CA : Hid (Calls Try.prog 86 #[u, .int .i64 a] W fun e W' => ∃ v, e = .returned v ∧ Own W' W.heap.size v (upL ps (dep ps a) a) ∧ Below W.heap.size W W') := l10Up_any W B u ps a hu hg ha
  have CB : Hid (∀ w', Below W.heap.size W w' → Calls Try.prog 86 #[u, .int .i64 b] w' fun e w2 => ∃ v, e = .returned v ∧ Own w2 w'.heap.size v (upL ps (dep ps b) b) ∧ Below w'.heap.size w' w2) := fun w' h => l10Up_any w' B u ps b (hu.below h) hg hb
  have HFOUND : Hid (∀ (i k : Nat), i < dep ps a → k < dep ps b → (∀ i', i' < i → ∀ j, j < dep ps b → upU ps i' a ≠ upU ps j b) → upU ps i a = upU ps k b → onTOk ps a b = true ∧ onOut ps a b = upL ps (i + 1) a ++ downL ps b k) := fun i k hi hk hno he => by
    obtain ⟨h1, h2⟩ := meet_found hg ha hb hi hk hno he
    exact ⟨by rw [onTOk, h1]; rfl, by unfold onOut; rw [h1]; dsimp only; rw [h2]⟩
  have HNOT : Hid ((∀ i, i < dep ps a → ∀ j, j < dep ps b → upU ps i a ≠ upU ps j b) → onTOk ps a b = false ∧ onOut ps a b = []) := fun hno => by
    have h1 := meet_not hg ha hno
    refine ⟨h1, ?_⟩
    unfold onTOk at h1
    unfold onOut
    cases hm : meetU ps a b with
    | none => rfl
    | some i => rw [hm] at h1; cases h1
  have hda := dep_le (p := ps) a
  have hdb := dep_le (p := ps) b
  have hda1 := dep_pos hg ha.1 ha.2
  have hdb1 := dep_pos hg hb.1 hb.2
  have HGA : Hid ((upL ps (dep ps a) a).length = dep ps a ∧ ∀ j (h : j < (upL ps (dep ps a) a).length), (upL ps (dep ps a) a)[j] = upU ps j a) := ⟨upL_len .., fun j h => upL_get ..⟩
  have HGB : Hid ((upL ps (dep ps b) b).length = dep ps b ∧ ∀ j (h : j < (upL ps (dep ps b) b).length), (upL ps (dep ps b) b)[j] = upU ps j b) := ⟨upL_len .., fun j h => upL_get ..⟩
  have HTA : Hid (∀ i, i < dep ps a → (upL ps (dep ps a) a).take (i + 1) = upL ps (i + 1) a) := fun i hi => upL_take ps _ _ a (by omega)
  have HDL : Hid (∀ k, (downL ps b k).length = k ∧ ∀ t (h : t < (downL ps b k).length), (downL ps b k)[t] = upU ps (k - 1 - t) b) := fun k => ⟨downL_len .., fun t h => downL_get ..⟩
  obtain ⟨au, cu, rfl⟩ := hu.shape
  generalize onOut ps a b = out at *
  generalize onTOk ps a b = ok at *
  generalize dep ps a = da at *
  generalize dep ps b = db at *
  generalize upL ps da a = la at *
  generalize upL ps db b = lb at *
  obtain ⟨ua, hua⟩ : ∃ ua : Nat → Int, ∀ j, upU ps j a = ua j := ⟨fun j => upU ps j a, fun _ => rfl⟩
  obtain ⟨ub, hub⟩ : ∃ ub : Nat → Int, ∀ j, upU ps j b = ub j := ⟨fun j => upU ps j b, fun _ => rfl⟩
  simp only [hua, hub] at HFOUND HNOT HGA HGB HDL
  clear hu hg ha hb hfit hua hub
  go_enter Try.func57, Try.ntmps57
  go_wp2_with fail
  refine CA.out.mono ?_
  rintro e w1 ⟨v1, rfl, ho1, hb1⟩
  obtain ⟨ga, ca, rfl, hga⟩ := own_at ho1 (by have := HGA.out.1; omega)
  have HO1 : Hid (Own w1 W.heap.size (.slice (some ⟨ga, 0, none⟩) la.length ca) la ∧ Below W.heap.size W w1) := ⟨ho1, hb1⟩
  clear ho1 hb1 CA
  go_wp2_with fail
  refine (CB.out w1 HO1.out.2).mono ?_
  rintro e w2 ⟨v2, rfl, ho2, hb2⟩
  obtain ⟨gb, cb, rfl, hgb⟩ := own_at ho2 (by have := HGB.out.1; omega)
  have HO2 : Hid (Own w2 W.heap.size (.slice (some ⟨ga, 0, none⟩) la.length ca) la ∧ Own w2 w1.heap.size (.slice (some ⟨gb, 0, none⟩) lb.length cb) lb ∧ Since W.heap.size W w2 ∧ la.length ≤ ca) := ⟨HO1.out.1.below hb2, ho2, ⟨HO1.out.2.trans (hb2.mono HO1.out.2.size), Nat.le_trans HO1.out.2.size hb2.size⟩, by
    rcases HO1.out.1.2 with ⟨hv, -⟩ | ⟨g, cap, cur, hv, -, -, h, -⟩
    · cases hv
    · cases hv; exact h⟩
  have hlena := HGA.out.1
  have hlenb := HGB.out.1
  have HCA : Hid (∀ w, Since w2.heap.size w2 w → ∀ j, j < da → w.cell? ⟨ga, j, none⟩ = some (.int .i64 (ua j))) := fun w hs j hj => by
    have h1 := own_cellG HO2.out.1 rfl j (by omega)
    rw [HGA.out.2 j (by omega)] at h1
    exact (hs.1.cell (p := ⟨ga, j, none⟩) (World.block_lt_of_cell? w2 ⟨ga, j, none⟩ h1)).trans h1
  have HCB : Hid (∀ w, Since w2.heap.size w2 w → ∀ j, j < db → w.cell? ⟨gb, j, none⟩ = some (.int .i64 (ub j))) := fun w hs j hj => by
    have h1 := own_cellG HO2.out.2.1 rfl j (by omega)
    rw [HGB.out.2 j (by omega)] at h1
    exact (hs.1.cell (p := ⟨gb, j, none⟩) (World.block_lt_of_cell? w2 ⟨gb, j, none⟩ h1)).trans h1
  have hcapa := HO2.out.2.2.2
  rw [hlena] at hcapa ⊢
  rw [hlenb]
  clear ho2 hb2 CB HO1 HGB hga hgb
  go_wp2
  go_loop [24] (fun t => ∃ i : Nat, i ≤ da ∧ t = .int .i64 i ∧ Hid (∀ i', i' < i → ∀ j, j < db → ua i' ≠ ub j)) (fun t => da - (intOf t).toNat)
  case atStart => exact ⟨0, Nat.zero_le _, rfl, fun i' h => by omega⟩
  case round =>
    obtain ⟨i, hi, rfl, HI⟩ := hrel
    by_cases hlt : i < da
    · have hlt' : (i : Int) < (da : Int) := by omega
      have hc1 := HCA.out w2 (Since.start w2) i hlt
      go_wp2
      clear hc1
      go_loop [31] (fun t => ∃ k : Nat, k ≤ db ∧ t = .int .i64 k ∧ Hid (∀ j, j < k → ua i ≠ ub j)) (fun t => db - (intOf t).toNat)
      case atStart => exact ⟨0, Nat.zero_le _, rfl, fun j h => by omega⟩
      case round =>
        obtain ⟨k, hk, rfl, HK⟩ := hrel
        by_cases hlt2 : k < db
        · have hlt2' : (k : Int) < (db : Int) := by omega
          have hc2 := HCB.out w2 (Since.start w2) k hlt2
          by_cases he : ua i = ub k
          · have heb : (ua i != ub k) = false := by simpa using he
            obtain ⟨hok, hout⟩ := HFOUND.out i k hlt hlt2 HI.out he
            have hal : Below w2.heap.size w2 (w2.alloc (.cells #[] 3)) := (Below.refl _ w2).alloc (Nat.le_refl _) _
            have HA : Hid (∀ ty, ∃ v' w', (Builtin.append_ #[26, 26] ty #[.slice (some ⟨w2.heap.size, 0, none⟩) 0 0, .slice (some ⟨ga, 0, none⟩) (i + 1) ca]).run Try.prog (w2.alloc (.cells #[] 3)) = .ok v' w' ∧ Grown (w2.alloc (.cells #[] 3)) w2.heap.size 3 1 (.slice (some ⟨w2.heap.size, 0, none⟩) 0 0) (la.take (i + 1)).length ((la.take (i + 1)).map (Value.int .i64)) v' w') := fun ty => by
              have ho : Own (w2.alloc (.cells #[] 3)) w2.heap.size (.slice (some ⟨w2.heap.size, 0, none⟩) 0 0) [] := World.ownsRow_lit (base := w2.heap.size) (e := 3) (size := 1) w2 #[] 0 (Nat.le_refl _) (by decide) (by simp)
              have hln : (la.take (i + 1)).length = i + 1 := by rw [List.length_take]; omega
              have hsrc : Src (w2.alloc (.cells #[] 3)) (.slice (some ⟨ga, 0, none⟩) (i + 1) ca) (la.take (i + 1)).length ((la.take (i + 1)).map (Value.int .i64)) := by
                rw [hln]
                refine .inr ⟨_, _, rfl, fun j u hu => ?_⟩
                obtain ⟨hjl, hju⟩ := List.getElem?_eq_some_iff.1 hu
                rw [List.length_map, hln] at hjl
                rw [List.getElem_map, List.getElem_take, HGA.out.2 j (by omega)] at hju
                rw [← hju, Addr.add_lit, Nat.zero_add]
                exact HCA.out _ ⟨hal, hal.size⟩ j (by omega)
              have := run_appI (w2.alloc (.cells #[] 3)) w2.heap.size _ [] ho _ (la.take (i + 1)) hsrc (by rw [hln]; simp; omega) hal.size ty
              simpa using this
            rw [HTA.out i hlt] at HA
            have hul : (upL ps (i + 1) a).length = i + 1 := upL_len ..
            have HQ : Hid (∀ v5 w5, Grown (w2.alloc (.cells #[] 3)) w2.heap.size 3 1 (.slice (some ⟨w2.heap.size, 0, none⟩) 0 0) (upL ps (i + 1) a).length ((upL ps (i + 1) a).map (Value.int .i64)) v5 w5 → (∃ a5 n5 c5, v5 = .slice a5 n5 c5) ∧ Hid (Own w5 w2.heap.size v5 (upL ps (i + 1) a ++ (downL ps b k).take 0) ∧ Since w2.heap.size w2 w5)) := fun v5 w5 hg5 => by
              obtain ⟨a5, c5, e5⟩ := rowShape hg5.own
              exact ⟨⟨_, _, _, e5⟩, by rw [List.take_zero, List.append_nil]; exact hg5.own, hal.trans hg5.below, Nat.le_trans hal.size hg5.size⟩
            have HD2 : Hid ((downL ps b k).length = k ∧ (∀ t (h : t < (downL ps b k).length), (downL ps b k)[t] = ub (k - 1 - t))) := HDL.out k
            have HF : Hid (ok = true ∧ out = upL ps (i + 1) a ++ downL ps b k) := ⟨hok, hout⟩
            have HW2 : Hid (Since W.heap.size W w2) := HO2.out.2.2.1
            have hwi : IntKind.i64.wrap ((i : Int) + 1) = (i : Int) + 1 := by rw [IntKind.wrap_i64]; omega
            have hcap1 : (i : Int) + 1 ≤ (ca : Int) := by omega
            have hge1 : (0 : Int) ≤ (i : Int) + 1 := by omega
            have hnat1 : ((i : Int) + 1).toNat = i + 1 := by omega
            have hca0 : ca ≠ 0 := by omega
            have hwk : IntKind.i64.wrap ((k : Int) - 1) = (k : Int) - 1 := by rw [IntKind.wrap_i64]; omega
            clear HFOUND HNOT HTA HDL HGA hok hout HI HK HO2 hal
            generalize upL ps (i + 1) a = l1 at *
            generalize downL ps b k = l2 at *
            go_wp2_with (at_builtin; refine list_app (by rfl) (.tmp 39) (.tmp 43) 26 (by rfl) (.slice (some ⟨w2.heap.size, 0, none⟩) 0 0) (.slice (some ⟨ga, 0, none⟩) (i + 1) ca) (by rfl) (by rfl) _ HA.out ?_; intro v5 w5 hg5; obtain ⟨⟨a5, n5, c5, rfl⟩, H5⟩ := HQ.out v5 w5 hg5; clear hg5 HA HQ)
            go_loopw [14, 15] (fun u t wr => ∃ q : Nat, q ≤ k ∧ t = .int .i64 ((k : Int) - 1 - (q : Int)) ∧ Hid (Own wr w2.heap.size u (l1 ++ l2.take q) ∧ Since w2.heap.size w2 wr)) (fun _ t _ => (intOf t + 1).toNat)
            case atStart => exact ⟨0, Nat.zero_le _, by simp, H5.out⟩
            case round =>
              clear H5
              obtain ⟨q, hq, rfl, HK⟩ := hrel
              obtain ⟨a6, c6, rfl⟩ := HK.out.1.shape
              by_cases hlt3 : q < k
              · have hge3 : decide (0 ≤ (k : Int) - 1 - (q : Int)) = true := by simp; omega
                have e1 : (k : Int) - 1 - (q : Int) = ((k - 1 - q : Nat) : Int) := by omega
                have hcd := HCB.out wr HK.out.2 (k - 1 - q) (by omega)
                have HT : Hid (l2.take (q + 1) = l2.take q ++ [ub (k - 1 - q)]) := by
                  show _ = _
                  rw [List.take_succ_eq_append_getElem (by have := HD2.out.1; omega), HD2.out.2 q (by have := HD2.out.1; omega)]
                have hl12 : (l1 ++ l2.take q).length ≤ 100 := by rw [List.length_append, List.length_take]; omega
                have hb1 : Below wr.heap.size wr (wr.alloc (.cells #[.int .i64 (ub (k - 1 - q))] 3)) := (Below.refl _ wr).alloc (Nat.le_refl _) _
                have SQ1 : Hid (Since w2.heap.size w2 (wr.alloc (.cells #[.int .i64 (ub (k - 1 - q))] 3))) := HK.out.2.step hb1
                have HE : Hid (l1 ++ l2.take (q + 1) = (l1 ++ l2.take q) ++ [ub (k - 1 - q)]) := by
                  show _ = _
                  rw [HT.out, List.append_assoc]
                have HA : Hid (∀ ty, ∃ v' w', (Builtin.append_ #[26, 26] ty #[.slice a6 (l1 ++ l2.take q).length c6, .slice (some ⟨wr.heap.size, 0, none⟩) 1 1]).run Try.prog (wr.alloc (.cells #[.int .i64 (ub (k - 1 - q))] 3)) = .ok v' w' ∧ Grown (wr.alloc (.cells #[.int .i64 (ub (k - 1 - q))] 3)) w2.heap.size 3 1 (.slice a6 (l1 ++ l2.take q).length c6) ((l1 ++ l2.take q) ++ [ub (k - 1 - q)]).length (((l1 ++ l2.take q) ++ [ub (k - 1 - q)]).map (Value.int .i64)) v' w') := fun ty =>
                  run_app1 _ _ _ (l1 ++ l2.take q) (HK.out.1.below hb1) wr.heap.size 1 _ (new_cell _ _ _) (by omega) (by have := HK.out.2.2; simp; omega) ty
                have HQ : Hid (∀ v5 w5, Grown (wr.alloc (.cells #[.int .i64 (ub (k - 1 - q))] 3)) w2.heap.size 3 1 (.slice a6 (l1 ++ l2.take q).length c6) ((l1 ++ l2.take q) ++ [ub (k - 1 - q)]).length (((l1 ++ l2.take q) ++ [ub (k - 1 - q)]).map (Value.int .i64)) v5 w5 → Own w5 w2.heap.size v5 (l1 ++ l2.take (q + 1)) ∧ Since w2.heap.size w2 w5) := fun v5 w5 hg5 => ⟨by rw [HE.out]; exact hg5.own, SQ1.out.1.trans hg5.below, Nat.le_trans SQ1.out.2 hg5.size⟩
                have e2 : ((k - 1 - q : Nat) : Int) < (db : Int) := by omega
                have hwq : IntKind.i64.wrap (((k - 1 - q : Nat) : Int) - 1) = ((k - 1 - q : Nat) : Int) - 1 := by rw [IntKind.wrap_i64]; omega
                have hq1 : q + 1 ≤ k := by omega
                have e3 : (k : Int) - 1 - ((q : Int) + 1) = ((k - 1 - q : Nat) : Int) - 1 := by omega
                rw [e1] at hge3 ⊢
                clear HK HT SQ1 hb1 HE e1 HCA HCB HD2
                generalize (l1 ++ l2.take q).length = ln at *
                generalize k - 1 - q = y at *
                generalize ub y = z at *
                go_wp2_with (at_builtin; refine list_app (by rfl) (.tmp 51) (.tmp 56) 26 (by rfl) (.slice a6 ln c6) (.slice (some ⟨wr.heap.size, 0, none⟩) 1 1) (by rfl) (by rfl) _ HA.out ?_; intro v6 w6 hg6; have HF6 : Hid (Own w6 w2.heap.size v6 (l1 ++ l2.take (q + 1)) ∧ Since w2.heap.size w2 w6) := HQ.out v6 w6 hg6; clear hg6)
                go_roundw
                case rel => exact ⟨q + 1, hq1, by rw [show ((q + 1 : Nat) : Int) = (q : Int) + 1 by omega, e3], HF6.out⟩
                case measure => simp [intOf] <;> omega
              · have e : q = k := by omega
                have hge3 : decide (0 ≤ (k : Int) - 1 - (q : Int)) = false := by simp; omega
                have HE : Hid (Own wr W.heap.size (.slice a6 (l1 ++ l2.take q).length c6) (l1 ++ l2) ∧ Below W.heap.size W wr) := by
                  have hh := HK.out
                  rw [e, List.take_of_length_le (by have := HD2.out.1; omega)] at hh ⊢
                  exact ⟨hh.1.mono HW2.out.2, (HW2.out.step hh.2.1).1⟩
                clear HK HCA HCB HD2
                generalize (l1 ++ l2.take q).length = ln at *
                go_wp2
                refine bodyPost_ret (results_tmp2 rfl _ _ _) rfl ?_
                exact NearPost.mk HF.out.1 HF.out.2 HE.out.1 HE.out.2
          · have heb : (ua i != ub k) = true := by simpa using he
            have HF : Hid (∀ j, j < k + 1 → ua i ≠ ub j) := fun j hj => by
              by_cases e : j = k
              · rw [e]; exact he
              · exact HK.out j (by omega)
            clear HFOUND HNOT HTA HDL HGA HK he
            go_wp2
            go_round
            case rel => exact ⟨k + 1, by omega, by go_num, HF⟩
            case measure => simp [intOf]; omega
        · have e : k = db := by omega
          have HF : Hid (∀ i', i' < i + 1 → ∀ j, j < db → ua i' ≠ ub j) := fun i' hi' => by
            by_cases e2 : i' = i
            · rw [e2, ← e]; exact HK.out
            · exact HI.out i' (by omega)
          clear HFOUND HNOT HTA HDL HGA HK HI
          go_wp2
          go_round
          case rel => exact ⟨i + 1, by omega, by go_num, HF⟩
          case measure => simp [intOf]; omega
    · have e : i = da := by omega
      have HF : Hid (ok = false ∧ out = []) := HNOT.out (by rw [← e]; exact HI.out)
      have HB : Hid (Below W.heap.size W w2) := HO2.out.2.2.1.1
      clear HFOUND HNOT HTA HDL HGA HI HCA HCB
      go_wp2
      refine bodyPost_ret (results_tmp2 rfl _ _ _) rfl ?_
      exact NearPost.zero HF.out.1 HF.out.2 HB.out
end Go.Proofs.Ythlbmkefjjckaad

/-
  'OnTree', 'ComesFrom' of the model.
-/
namespace Go.Proofs.Ythlbmkefjjckaad
open Go.RowKit
set_option linter.unusedVariables false

set_option maxRecDepth 100000 in
set_option maxHeartbeats 4000000 in
theorem specOnTree_any (W : World) (B : Nat) (u : Value) (ps : List Int) (a b : Int) (hu : Own W B u ps) (hl : ps.length ≤ 1048576) :
    Calls Try.prog 21 #[u, .int .i64 a, .int .i64 b] W (NearPost W (otOut ps a b) (otOk ps a b)) := by
  have CG : Hid (Calls Try.prog 55 #[u, .int .i64 a, .int .i64 b] W fun e W' => e = .returned (.bool (twoOk ps a b)) ∧ W' = W) := l10Two_any W B u ps a b hu hl
  have CS : Hid (twoOk ps a b = true → Calls Try.prog 57 #[u, .int .i64 a, .int .i64 b] W (NearPost W (onOut ps a b) (onTOk ps a b))) := fun h => l10On_any W B u ps a b hu (twoOk_true h).1 (twoOk_true h).2.1 (twoOk_true h).2.2
  have HD : Hid (otOk ps a b = (twoOk ps a b && onTOk ps a b) ∧ (otOut ps a b = if otOk ps a b then onOut ps a b else []) ∧ (onTOk ps a b = false → onOut ps a b = [])) := ⟨rfl, rfl, fun h => by
    unfold onTOk at h
    unfold onOut
    cases hm : meetU ps a b with
    | none => rfl
    | some i => rw [hm] at h; cases h⟩
  obtain ⟨au, cu, rfl⟩ := hu.shape
  generalize otOut ps a b = out at *
  generalize otOk ps a b = ok at *
  generalize twoOk ps a b = tk at *
  generalize onOut ps a b = oo at *
  generalize onTOk ps a b = ot at *
  clear hu
  cases tk with
  | false =>
    have HF : Hid (ok = false ∧ out = []) := by
      have h1 : ok = false := HD.out.1.trans (Bool.false_and _)
      exact ⟨h1, HD.out.2.1.trans (by rw [h1]; rfl)⟩
    clear HD CS
    go_enter Try.func21, Try.ntmps21
    go_wp2_with fail
    refine CG.out.mono ?_
    rintro e ww ⟨rfl, hww⟩
    obtain rfl : W = ww := hww.symm
    go_wp2
    refine bodyPost_ret (results_tmp2 rfl _ _ _) rfl ?_
    exact NearPost.zero HF.out.1 HF.out.2 (Below.refl _ _)
  | true =>
    have HF : Hid (ok = ot ∧ out = oo) := by
      have h1 : ok = ot := HD.out.1.trans (Bool.true_and _)
      refine ⟨h1, HD.out.2.1.trans ?_⟩
      rw [h1]
      cases ho : ot with
      | true => rfl
      | false => rw [HD.out.2.2 ho]; rfl
    have CS1 : Hid (Calls Try.prog 57 #[.slice au ps.length cu, .int .i64 a, .int .i64 b] W (NearPost W oo ot)) := CS.out rfl
    clear HD CS
    go_enter Try.func21, Try.ntmps21
    go_wp2_with fail
    refine CG.out.mono ?_
    rintro e ww ⟨rfl, hww⟩
    obtain rfl : W = ww := hww.symm
    go_wp2_with fail
    refine CS1.out.mono ?_
    rintro e w1 ⟨u1, rfl, ho1, hb1⟩
    have H1 : Hid (Own w1 W.heap.size u1 oo ∧ Below W.heap.size W w1) := ⟨ho1, hb1⟩
    obtain ⟨a9, c9, rfl⟩ := ho1.shape
    clear ho1 hb1
    go_wp2
    refine bodyPost_ret (results_tmp2 rfl _ _ _) rfl ?_
    exact ⟨_, by rw [HF.out.1]; rfl, by rw [HF.out.2]; exact H1.out.1, H1.out.2⟩

set_option maxRecDepth 100000 in
set_option maxHeartbeats 4000000 in
theorem specComesFrom_any (W : World) (B : Nat) (u : Value) (ps : List Int) (a b : Int) (hu : Own W B u ps) (hl : ps.length ≤ 1048576) :
    Calls Try.prog 20 #[u, .int .i64 a, .int .i64 b] W (CfPost W (cfOut ps a b) (cfOk ps a b)) := by
  have CG : Hid (Calls Try.prog 55 #[u, .int .i64 a, .int .i64 b] W fun e W' => e = .returned (.bool (twoOk ps a b)) ∧ W' = W) := l10Two_any W B u ps a b hu hl
  have CS : Hid (twoOk ps a b = true → Calls Try.prog 57 #[u, .int .i64 a, .int .i64 b] W (NearPost W (onOut ps a b) (onTOk ps a b))) := fun h => l10On_any W B u ps a b hu (twoOk_true h).1 (twoOk_true h).2.1 (twoOk_true h).2.2
  have HD : Hid (cfOk ps a b = ((twoOk ps a b && onTOk ps a b) && !decide (a = b)) ∧ (cfOut ps a b = if cfOk ps a b then (onOut ps a b).getD ((onOut ps a b).length - 2) 0 else 0) ∧ (twoOk ps a b = true → onTOk ps a b = true → (a ≠ b → 2 ≤ (onOut ps a b).length) ∧ (onOut ps a b).length ≤ 24)) := ⟨rfl, rfl, fun h h' => ⟨onOut_two (by rw [otOk, h, h']; rfl), by
    have h1 := (twoOk_true h).1
    have := ((goodU_iff ps).1 h1).1
    have := onOut_len ps a b
    omega⟩⟩
  obtain ⟨au, cu, rfl⟩ := hu.shape
  generalize cfOut ps a b = out at *
  generalize cfOk ps a b = ok at *
  generalize twoOk ps a b = tk at *
  generalize onOut ps a b = ws at *
  generalize onTOk ps a b = ot at *
  clear hu
  cases tk with
  | false =>
    have HF : Hid (ok = false ∧ out = 0) := by
      have h1 : ok = false := HD.out.1.trans (by rw [Bool.false_and, Bool.false_and])
      exact ⟨h1, HD.out.2.1.trans (by rw [h1]; rfl)⟩
    clear HD CS
    go_enter Try.func20, Try.ntmps20
    go_wp2_with fail
    refine CG.out.mono ?_
    rintro e ww ⟨rfl, hww⟩
    obtain rfl : W = ww := hww.symm
    go_wp2
    refine bodyPost_ret (results_tmp2 rfl _ _ _) rfl ?_
    exact ⟨by rw [HF.out.1, HF.out.2]; rfl, Below.refl _ _⟩
  | true =>
    have CS1 : Hid (Calls Try.prog 57 #[.slice au ps.length cu, .int .i64 a, .int .i64 b] W (NearPost W ws ot)) := CS.out rfl
    by_cases hab : a = b
    · have HF : Hid (ok = false ∧ out = 0) := by
        have h1 : ok = false := HD.out.1.trans (by rw [decide_eq_true hab]; simp)
        exact ⟨h1, HD.out.2.1.trans (by rw [h1]; rfl)⟩
      have hbb : (a == b) = true := by simpa using hab
      clear HD CS CS1 hab
      go_enter Try.func20, Try.ntmps20
      go_wp2_with fail
      refine CG.out.mono ?_
      rintro e ww ⟨rfl, hww⟩
      obtain rfl : W = ww := hww.symm
      go_wp2
      refine bodyPost_ret (results_tmp2 rfl _ _ _) rfl ?_
      exact ⟨by rw [HF.out.1, HF.out.2]; rfl, Below.refl _ _⟩
    · have hbb : (a == b) = false := by simpa using hab
      cases hot : ot with
      | false =>
        have HF : Hid (ok = false ∧ out = 0) := by
          have h1 : ok = false := HD.out.1.trans (by rw [hot]; rfl)
          exact ⟨h1, HD.out.2.1.trans (by rw [h1]; rfl)⟩
        rw [hot] at CS1
        clear HD CS hab hot
        go_enter Try.func20, Try.ntmps20
        go_wp2_with fail
        refine CG.out.mono ?_
        rintro e ww ⟨rfl, hww⟩
        obtain rfl : W = ww := hww.symm
        go_wp2_with fail
        refine CS1.out.mono ?_
        rintro e w1 ⟨u1, rfl, ho1, hb1⟩
        have H1 : Hid (Below W.heap.size W w1) := hb1
        obtain ⟨a9, c9, rfl⟩ := ho1.shape
        clear ho1 hb1
        go_wp2
        refine bodyPost_ret (results_tmp2 rfl _ _ _) rfl ?_
        exact ⟨by rw [HF.out.1, HF.out.2]; rfl, H1.out⟩
      | true =>
        obtain ⟨h2, h3⟩ := HD.out.2.2 rfl hot
        have HF : Hid (ok = true ∧ out = ws.getD (ws.length - 2) 0) := by
          have h1 : ok = true := HD.out.1.trans (by rw [hot, decide_eq_false hab]; rfl)
          exact ⟨h1, HD.out.2.1.trans (by rw [h1]; rfl)⟩
        have h4 := h2 hab
        rw [hot] at CS1
        clear HD CS hab hot h2
        obtain ⟨m, hm⟩ : ∃ m, ws.length = m + 2 := ⟨ws.length - 2, by omega⟩
        have hgm : ws.getD (ws.length - 2) 0 = ws[m]'(by omega) := by
          have e : ws.length - 2 = m := by omega
          rw [e, List.getD_eq_getElem?_getD, List.getElem?_eq_getElem (by omega)]; rfl
        rw [hgm] at HF
        have hwr : IntKind.i64.wrap ((m : Int) + 2 - 2) = (m : Int) := by rw [IntKind.wrap_i64]; omega
        have hwr2 : IntKind.i64.wrap (m : Int) = (m : Int) := by rw [IntKind.wrap_i64]; omega
        have hmlt : (m : Int) < (m : Int) + 2 := by omega
        go_enter Try.func20, Try.ntmps20
        go_wp2_with fail
        refine CG.out.mono ?_
        rintro e ww ⟨rfl, hww⟩
        obtain rfl : W = ww := hww.symm
        go_wp2_with fail
        refine CS1.out.mono ?_
        rintro e w1 ⟨u1, rfl, ho1, hb1⟩
        have H1 : Hid (Below W.heap.size W w1) := hb1
        obtain ⟨g2, c2, rfl, -⟩ := own_at ho1 (by omega)
        have hc := own_cellG ho1 rfl m (by omega)
        rw [hm]
        clear ho1 hb1 hgm
        generalize ws[m]'(by omega) = z at *
        go_wp2
        refine bodyPost_ret (results_tmp2 rfl _ _ _) rfl ?_
        exact ⟨by rw [HF.out.1, HF.out.2]; rfl, H1.out⟩
end Go.Proofs.Ythlbmkefjjckaad

/-
  A list of hops as a queue: its head cut off, more appended.
-/
namespace Go.Proofs.Ythlbmkefjjckaad
open Go.RowKit
set_option linter.unusedVariables false

theorem run_append_roomO {P : Program} (w : World) (t ty e : TypeId) (i : TypeInfo) (ht : P.underlying t = some (.slice e)) (hi : P.info? e = some i)
    (g o sLen sCap : Nat) (cur : Array Value) (hg : w.heap[g]? = some (.cells cur e (0, 0)))
    (a : Addr) (m c : Nat) (news : List Value) (hl : news.length = m * i.size) (hnews : ∀ j u, news[j]? = some u → w.cell? (a.add j) = some u) (h1 : ∀ u ∈ news, u.oneCell' = true)
    (hroom : sLen + m ≤ sCap) (hfit : o + sLen * i.size + news.length ≤ cur.size) :
    (Builtin.append_ #[t, t] ty #[.slice (some ⟨g, o, none⟩) sLen sCap, .slice (some a) m c]).run P w =
      .ok (.slice (some ⟨g, o, none⟩) (sLen + m) sCap) (w.setRow g (cur.toList.take (o + sLen * i.size) ++ news ++ cur.toList.drop (o + sLen * i.size + news.length)).toArray) := by
  have hf := run_firstCells_some (P := P) w i.size m a m c news hl hnews
  have hst := run_storeCells_at P g (o + sLen * i.size) e news 0 cur w hg (by simpa using hfit) h1
  simp only [Nat.add_zero] at hst
  simp [Builtin.append_, run_underlying ht, sizeOf, typeInfo, hi, Builtin.lenOf, hroom, hf, Addr.add_lit, hst]

/-- The slice v is a queue of hops, in a block that nothing else writes. -/
def QHop (W : World) (B : Nat) (v : Value) (xs : List HopD) : Prop :=
  ∃ (g o cap : Nat) (cur : Array Value), v = .slice (some ⟨g, o, none⟩) xs.length cap ∧ B ≤ g ∧ W.heap[g]? = some (.cells cur 36 (0, 0)) ∧ xs.length ≤ cap ∧ cap ≤ maxLen ∧ (cap = 0 ∨ o + cap * 2 = cur.size) ∧ ∀ j u, (cellsHop xs)[j]? = some u → cur[o + j]? = some u
theorem QHop.same {W W' : World} {B : Nat} {v : Value} {xs : List HopD} (h : QHop W B v xs) (hs : ∀ k, v.ownBlock = some k → W'.heap[k]? = W.heap[k]?) : QHop W' B v xs := by
  obtain ⟨g, o, cap, cur, rfl, h1, h2, h3⟩ := h
  exact ⟨g, o, cap, cur, rfl, h1, (hs g rfl).trans h2, h3⟩
theorem QHop.lt {W : World} {B : Nat} {v : Value} {xs : List HopD} (h : QHop W B v xs) : ∀ k, v.ownBlock = some k → B ≤ k ∧ k < W.heap.size := by
  obtain ⟨g, o, cap, cur, rfl, h1, h2, h3⟩ := h
  intro k hk
  cases hk
  exact ⟨h1, (Array.getElem?_eq_some_iff.1 h2).1⟩
theorem QHop.below {W W' : World} {B : Nat} {v : Value} {xs : List HopD} (h : QHop W B v xs) (hb : Below W.heap.size W W') : QHop W' B v xs := h.same fun k hk => hb.block k (h.lt k hk).2
theorem QHop.new (W : World) (B : Nat) (hB : B ≤ W.heap.size) (x : HopD) : QHop (W.alloc (.cells #[.int .i64 x.From, .int .i64 x.To] 36)) B (.slice (some ⟨W.heap.size, 0, none⟩) 1 1) [x] := by
  refine ⟨W.heap.size, 0, 1, #[.int .i64 x.From, .int .i64 x.To], rfl, hB, World.alloc_heap_new W _, by simp, by unfold maxLen; omega, .inr (by simp), fun j u hu => ?_⟩
  match j, hu with
  | 0, hu => simpa [cellsHop] using hu
  | 1, hu => simpa [cellsHop] using hu
  | j + 2, hu => simp [cellsHop] at hu
theorem qcell {W : World} {g : Nat} {cur : Array Value} (h : W.heap[g]? = some (.cells cur 36 (0, 0))) (j : Nat) (u : Value) (hu : cur[j]? = some u) : W.cell? ⟨g, j, none⟩ = some u := by
  simp [World.cell?, h, hu]
/-- Its head, and what is left when that is cut off. -/
theorem QHop.head {W : World} {B : Nat} {v : Value} {x : HopD} {xs : List HopD} (h : QHop W B v (x :: xs)) :
    ∃ g o cap, v = .slice (some ⟨g, o, none⟩) (xs.length + 1) cap ∧ xs.length + 1 ≤ cap ∧ cap ≤ maxLen ∧ W.cell? ⟨g, o, none⟩ = some (.int .i64 x.From) ∧ W.cell? ⟨g, o + 1, none⟩ = some (.int .i64 x.To) ∧
      (cap = 1 → QHop W B (.slice (some ⟨g, o, none⟩) xs.length (cap - 1)) xs) ∧ (cap ≠ 1 → QHop W B (.slice (some ⟨g, o + 2, none⟩) xs.length (cap - 1)) xs) := by
  obtain ⟨g, o, cap, cur, rfl, h1, h2, h3, h4, h5, h6⟩ := h
  rw [List.length_cons] at h3
  refine ⟨g, o, cap, rfl, h3, h4, qcell h2 _ _ (h6 0 _ rfl), qcell h2 _ _ (h6 1 _ rfl), fun e => ?_, fun e => ?_⟩
  · have : xs = [] := List.eq_nil_of_length_eq_zero (by omega)
    subst this
    exact ⟨g, o, cap - 1, cur, rfl, h1, h2, by simp, by omega, .inl (by omega), fun j u hu => by simp [cellsHop] at hu⟩
  · refine ⟨g, o + 2, cap - 1, cur, rfl, h1, h2, by omega, by omega, .inr ?_, fun j u hu => ?_⟩
    · rcases h5 with q | q
      · omega
      · omega
    · have := h6 (j + 2) u (by simpa [cellsHop] using hu)
      rw [show o + 2 + j = o + (j + 2) by omega]
      exact this
theorem run_appQ (w : World) (B : Nat) (v : Value) (xs : List HopD) (hown : QHop w B v xs) (b : Nat) (x : HopD) (hx : w.cell? ⟨b, 0, none⟩ = some (.int .i64 x.From) ∧ w.cell? ⟨b, 1, none⟩ = some (.int .i64 x.To)) (hl : xs.length ≤ 2097152) (hB : B ≤ w.heap.size) (ty : TypeId) :
    ∃ v' w', (Builtin.append_ #[32, 32] ty #[v, .slice (some ⟨b, 0, none⟩) 1 1]).run Try.prog w = .ok v' w' ∧ (QHop w' B v' (xs ++ [x]) ∧ w.grownBy w' v.ownBlock ∧ (v'.ownBlock = v.ownBlock ∨ v'.ownBlock = some w.heap.size)) := by
  obtain ⟨i0, hi, hz0, hz1, hz2⟩ := info_parts infoHop
  obtain ⟨g, o, cap, cur, rfl, h1, h2, h3, h4, h5, h6⟩ := hown
  have hnl : (cellsHop [x]).length = 1 * i0.size := by rw [cellsHop_len, hz1]; rfl
  have hnews : ∀ j u, (cellsHop [x])[j]? = some u → w.cell? ((⟨b, 0, none⟩ : Addr).add j) = some u := fun j u hu => by
    match j, hu with
    | 0, hu => simp [cellsHop] at hu; subst hu; simpa [Addr.add] using hx.1
    | 1, hu => simp [cellsHop] at hu; subst hu; simpa [Addr.add] using hx.2
    | j + 2, hu => simp [cellsHop] at hu
  by_cases hr : xs.length + 1 ≤ cap
  · have hsz : o + cap * 2 = cur.size := by rcases h5 with q | q <;> omega
    have hfit : o + xs.length * i0.size + (cellsHop [x]).length ≤ cur.size := by
      have e3 : xs.length * i0.size = xs.length * 2 := by rw [hz1]
      have e4 : (cellsHop [x]).length = 2 := rfl
      omega
    have hrun := run_append_roomO (P := Try.prog) w 32 ty 36 i0 Try.underlying32 hi g o xs.length cap cur h2 ⟨b, 0, none⟩ 1 1 (cellsHop [x]) hnl hnews (cellsHop_one [x]) hr hfit
    refine ⟨_, _, hrun, ⟨g, o, cap, _, by rw [List.length_append]; rfl, h1, setRow_heap w g cur _ _ _ h2, by rw [List.length_append]; exact hr, h4, .inr ?_, fun j u hu => ?_⟩, ⟨rfl, rfl, rfl, by simp, fun k _ hk => setRow_other w g k _ (fun e => hk (by simp [Value.ownBlock, e]))⟩, .inl rfl⟩
    · have e3 : xs.length * i0.size = xs.length * 2 := by rw [hz1]
      have e4 : (cellsHop [x]).length = 2 := rfl
      rw [e3, e4] at hfit
      simp only [List.size_toArray, List.length_append, List.length_take, List.length_drop, Array.length_toList, cellsHop_len, hz1, List.length_singleton]
      omega
    · rw [cellsHop_app] at hu
      have hco := cellsHop_len xs
      simp only [List.getElem?_toArray]
      rw [List.append_assoc]
      have htk : (cur.toList.take (o + xs.length * i0.size)).length = o + xs.length * 2 := by
        have e3 : xs.length * i0.size = xs.length * 2 := by rw [hz1]
        have e5 : cur.toList.length = cur.size := Array.length_toList ..
        rw [List.length_take, e3, e5]
        omega
      by_cases hj : j < (cellsHop xs).length
      · rw [List.getElem?_append_left hj] at hu
        rw [List.getElem?_append_left (by rw [htk]; omega), List.getElem?_take_of_lt (by rw [hz1]; omega)]
        have := h6 j u hu
        simpa using this
      · rw [List.getElem?_append_right (by omega)] at hu
        rw [List.getElem?_append_right (by rw [htk]; omega), htk, show o + j - (o + xs.length * 2) = j - (cellsHop xs).length by omega, List.getElem?_append_left]
        · exact hu
        · obtain ⟨hlt, -⟩ := List.getElem?_eq_some_iff.1 hu
          exact hlt
  · have holds : ∀ j u, (cellsHop xs)[j]? = some u → w.cell? ((⟨g, o, none⟩ : Addr).add j) = some u := fun j u hu => by
      rw [Addr.add_lit]
      exact qcell h2 _ _ (h6 j u hu)
    have hlo : (cellsHop xs).length = xs.length * i0.size := by rw [cellsHop_len, hz1]
    have hrun := run_append_grow (P := Try.prog) w 32 ty 36 i0 _ Try.underlying32 hi hz0 ⟨g, o, none⟩ xs.length cap (cellsHop xs) hlo holds ⟨b, 0, none⟩ 1 1 (cellsHop [x]) hnl hnews (by omega) (by omega) (growslice_fits (by omega) (by rw [hz2]; omega))
    have hge := grownCap_ge w (xs.length + 1) cap 36
    have hcm : grownCap w (xs.length + 1) cap 36 ≤ maxLen := grownCap_le_maxLen w (xs.length + 1) cap _ (by unfold maxLen; omega)
    refine ⟨_, _, hrun, ⟨w.heap.size, 0, _, _, by rw [List.length_append]; rfl, hB, heap_alloc_new w.drew _, by rw [List.length_append]; exact hge, hcm, .inr ?_, fun j u hu => ?_⟩, ⟨rfl, rfl, rfl, by simp, fun k hk _ => heap_alloc_old w.drew _ hk⟩, .inr rfl⟩
    · have hzc : (Value.agg #[Value.int .i64 0, Value.int .i64 0]).cells.size = 2 := rfl
      simp only [Array.size_append, List.size_toArray, size_zeroCells, cellsHop_len, List.length_singleton, hzc]
      omega
    · rw [cellsHop_app] at hu
      obtain ⟨hlt, hv⟩ := List.getElem?_eq_some_iff.1 hu
      rw [Nat.zero_add, Array.getElem?_append_left (by simpa using hlt)]
      simpa using hu
end Go.Proofs.Ythlbmkefjjckaad
