/-
  What is drawn of steps: 'pairSteps'.
-/
import Derived.Test.YtchddjidjfpehaaDrawG
import Derived.Test.YtchddjidjfpehaaRowSt
import Derived.Deep.CutRange
namespace Go.Proofs.Ytchddjidjfpehaa
open Go.RowKit
set_option linter.unusedVariables false

/-- A block of two cells. -/
structure Dx2 (W : World) (b : Nat) (x y : Value) : Prop where
  lt : b < W.heap.size
  c0 : W.cell? ⟨b, 0, none⟩ = some x
  c1 : W.cell? ⟨b, 1, none⟩ = some y
  fz : ∀ j, W.frozen? ⟨b, j, none⟩ = false
theorem Dx2.new (W : World) (x y : Value) (t : TypeId) : Dx2 (W.alloc (.cells #[x, y] t)) W.heap.size x y := by
  refine ⟨by simp, ?_, ?_, fun j => ?_⟩
  · rw [World.cell?_alloc_at _ _ _ _ rfl]; rfl
  · rw [World.cell?_alloc_at _ _ _ _ rfl]; rfl
  · have hh : (W.alloc (.cells #[x, y] t)).heap[W.heap.size]? = some (.cells #[x, y] t) := by
      show (W.heap.push _)[W.heap.size]? = _
      simp
    unfold World.frozen?; rw [hh]; simp
theorem Dx2.only {W W' : World} {b c : Nat} {x y : Value} (h : Dx2 W b x y) (ho : Only c W W') (hbc : b ≠ c) : Dx2 W' b x y := by
  have e := ho.2 b h.lt hbc
  exact ⟨Nat.lt_of_lt_of_le h.lt ho.1, (World.cell?_of_block e).trans h.c0, (World.cell?_of_block e).trans h.c1, fun j => (World.frozen?_of_block e).trans (h.fz j)⟩
theorem Only.set {c : Nat} {w w' : World} (h : Only c w w') {b : Nat} (hb : w.heap.size ≤ b) (o : Nat) (v : Value) : Only c w (w'.setCell ⟨b, o, none⟩ v) :=
  ⟨by simpa [World.setCell] using h.1, fun k hk hne => by rw [Below.heap_setCell _ _ _ _ (by show k ≠ b; omega)]; exact h.2 k hk hne⟩

/-- What 'pairSteps' leaves: a list of its own. -/
def StsPost (B : Nat) (w0 W : World) (c : Nat) (a : Option Addr) (len cap m : Nat) (e : Ending) (W' : World) : Prop :=
  ∃ v l, e = .returned v ∧ OwnSt W' W.heap.size v l ∧ l.length ≤ 61 ∧ Cur B w0 W' c a len cap (m + 700) ∧ Only c W W'

/-- What the loop of 'pairSteps' keeps. -/
structure Sts (B : Nat) (w0 W : World) (c : Nat) (a : Option Addr) (len cap m : Nat) (v : Value) (l : List StD) (n : Nat) (wr : World) : Prop where
  own : OwnSt wr W.heap.size v l
  fit : l.length + n ≤ 61
  cur : Cur B w0 wr c a len cap (m + 6 + 10 * (61 - n))
  only : Only c W wr

/-- 'append(l, x)' of one step that lies in a block of its own. -/
theorem run_appStD (w : World) (B : Nat) (v : Value) (hs : List StD) (x : StD) (hown : OwnSt w B v hs) (hl : hs.length ≤ 1048576) (hB : B ≤ w.heap.size) (ty : TypeId) :
    ∃ v' w', (Builtin.append_ #[35, 35] ty #[v, .slice (some ⟨w.heap.size, 0, none⟩) 1 1]).run Try.prog (w.alloc (.cells #[.int .i64 x.kd, .int .i64 x.k] 53)) = .ok v' w' ∧ Grown (w.alloc (.cells #[.int .i64 x.kd, .int .i64 x.k] 53)) B 53 2 v (hs ++ [x]).length (cellsSt (hs ++ [x])) v' w' := by
  refine run_appSt _ B v hs (hown.below ((Below.refl _ w).alloc (Nat.le_refl _) _)) _ [x] (.inr ⟨_, 1, rfl, fun j u hu => ?_⟩) (by simp; omega) (by simp; omega) ty
  have hc : cellsSt [x] = [.int .i64 x.kd, .int .i64 x.k] := rfl
  rw [hc] at hu
  rw [Go.WideShapes.add_plain, Nat.zero_add, World.cell?_alloc_at _ _ _ _ rfl]
  simpa using hu
theorem sts_add {B : Nat} {w0 W w6 w7 : World} {c : Nat} {a : Option Addr} {len cap m m6 k : Nat} {v v' : Value} {l : List StD} {o : Obj} (hcW : c < W.heap.size) (hc : Cur B w0 w6 c a len cap m6) (hm6 : m6 ≤ m + 6 + 10 * (61 - k) + 10) (ho : Only c W w6) (hg : Grown (w6.alloc o) W.heap.size 53 2 v l.length (cellsSt l) v' w7) (hf : l.length + (k - 1) ≤ 61) (hk : 0 < k) (hk2 : k ≤ 61) : Sts B w0 W c a len cap m v' l (k - 1) w7 := by
  have hcb : Cur B w0 (w6.alloc o) c a len cap m6 := curAlloc hc o
  have hlow : ∀ j, j < W.heap.size → w7.heap[j]? = (w6.alloc o).heap[j]? := fun j hj => hg.below.block j hj
  refine ⟨hg.own, hf, ?_, ?_⟩
  · have h1 := hlow c hcW
    obtain ⟨k1, k2, k3, k4, ⟨n, hn, k5⟩, ⟨sd, k6⟩, k7, k8⟩ := hcb
    refine ⟨k1, Nat.lt_of_lt_of_le k2 hg.size, ⟨k3.1.trans (hg.below.mono (Nat.le_trans k1 (Nat.le_of_lt hcW))), Nat.le_trans k3.2 hg.size⟩, (World.cell?_of_block h1).trans k4, ⟨n, by omega, (World.cell?_of_block h1).trans k5⟩, ⟨sd, (World.cell?_of_block h1).trans k6⟩, (World.frozen?_of_block h1).trans k7, (World.frozen?_of_block h1).trans k8⟩
  · have h2 := onlyAlloc ho o
    exact ⟨Nat.le_trans h2.1 hg.size, fun j hj hne => (hlow j hj).trans (h2.2 j hj hne)⟩

/-- The block n is not a's. -/
def Far (n : Nat) : Option Addr → Prop
  | some p => n ≠ p.block
  | none => True
theorem sts_other {W : World} {B n : Nat} {a : Option Addr} {cap : Nat} {l : List StD} (h : OwnSt W B (.slice a l.length cap) l) (hn : Far n a) (o : Nat) (u : Value) : OwnSt (W.setCell ⟨n, o, none⟩ u) B (.slice a l.length cap) l :=
  rowSame h fun k hk => by
    rw [Below.heap_setCell _ _ _ _ (by
      show k ≠ n
      cases a with
      | none => simp [Value.ownBlock] at hk
      | some p =>
        simp [Value.ownBlock] at hk
        have hn' : n ≠ p.block := hn
        omega)]
theorem sts_far {W W' : World} {B : Nat} {a : Option Addr} {cap : Nat} {l : List StD} (h : OwnSt W B (.slice a l.length cap) l) (hs : W.heap.size ≤ W'.heap.size) : Far W'.heap.size a := by
  cases a with
  | none => trivial
  | some p =>
    have := (World.ownsRow.lt h p.block (by simp [Value.ownBlock])).2
    show W'.heap.size ≠ p.block
    omega

set_option maxRecDepth 100000 in
set_option maxHeartbeats 4000000 in
theorem pairSteps_any (B : Nat) (w0 W : World) (c : Nat) (a : Option Addr) (len cap m : Nat) (hC : Code B w0 a len) (hl : len ≤ 9223372036854775807) (hm : m ≤ 100000) (h : Cur B w0 W c a len cap m) :
    Calls Try.prog 54 #[.pointer (some ⟨c, 0, none⟩)] W (StsPost B w0 W c a len cap m) := by
  have HD : Hid (Code B w0 a len) := hC
  have hcW : c < W.heap.size := h.2.1
  have HH : Hid (Cur B w0 W c a len cap m) := h
  clear hC h
  go_enter Try.func54, Try.ntmps54
  go_wp2_with fail
  refine (pick_any B w0 _ c a len cap m 24 HD.out hl (by omega) HH.out (by omega) (by omega)).mono ?_
  rintro e W1 ⟨q, rfl, q0, q1, hc1, ho1⟩
  obtain ⟨n1, rfl⟩ : ∃ n : Nat, q = n := ⟨q.toNat, by omega⟩
  have HC1 : Hid (Cur B w0 W1 c a len cap (m + 2) ∧ Only c W W1) := ⟨hc1, ho1⟩
  clear hc1 ho1 HH
  go_wp2_with fail
  refine (one_any B w0 _ c a len cap (m + 2) 20 HD.out hl (by omega) HC1.out.1 (by omega) (by omega)).mono ?_
  rintro e W2 ⟨b2, rfl, hc2, ho2⟩
  have HC2 : Hid (Cur B w0 W2 c a len cap (m + 4) ∧ Only c W W2) := ⟨hc2, HC1.out.2.trans ho2⟩
  clear hc2 ho2 HC1
  cases b2 with
  | false =>
    have HB0 : Hid (Sts B w0 W c a len cap m (.slice none 0 0) [] n1 W2) := ⟨OwnSt.nil _ _, by simp; omega, HC2.out.1.mono (by omega), HC2.out.2⟩
    clear HC2
    go_wp2
    go_loopw [3, 4] (fun v i wr => ∃ (l : List StD) (k : Nat), i = .int .i64 (k : Int) ∧ Hid (Sts B w0 W c a len cap m v l k wr)) (fun _ i _ => (intOf i).toNat)
    case atStart => exact ⟨[], n1, rfl, HB0.out⟩
    case round =>
      clear HB0
      obtain ⟨l, k, rfl, HG⟩ := hrel
      obtain ⟨a3, c3, rfl⟩ := HG.out.own.shape
      have hkl : l.length + k ≤ 61 := HG.out.fit
      by_cases hk : 0 < k
      · have hk' : 0 < (k : Int) := by omega
        have HCU : Hid (Cur B w0 wr c a len cap (m + 6 + 10 * (61 - k))) := HG.out.cur
        have hcwr : c < wr.heap.size := HCU.out.2.1
        have HCL : Hid (∀ j (hj : j < [(1 : Int), 1, 1, 2, 2, 2, 3, 4].length), (wr.alloc (.cells #[.int .i64 1, .int .i64 1, .int .i64 1, .int .i64 2, .int .i64 2, .int .i64 2, .int .i64 3, .int .i64 4] 3)).cell? ⟨wr.heap.size, j, none⟩ = some (.int .i64 [(1 : Int), 1, 1, 2, 2, 2, 3, 4][j])) := cells_lit wr 3 [(1 : Int), 1, 1, 2, 2, 2, 3, 4]
        go_wp2_with fail
        refine (among_any B w0 _ c wr.heap.size [(1 : Int), 1, 1, 2, 2, 2, 3, 4] a len cap 8 (m + 6 + 10 * (61 - k)) HD.out hl (by omega) (curAlloc HCU.out _) (by simp) (by simp) (by simp) (by omega) HCL.out).mono ?_
        rintro e W4 ⟨g4, rfl, -, hc4, ho4⟩
        have HC4 : Hid (Cur B w0 W4 c a len cap (m + 6 + 10 * (61 - k) + 2) ∧ Only c wr W4) := ⟨hc4, (onlyAlloc (Only.refl _ _) _).trans ho4⟩
        clear hc4 ho4 HCL HCU hcwr
        go_wp2_with fail
        refine (pick_any B w0 _ c a len cap (m + 6 + 10 * (61 - k) + 2) 2 HD.out hl (by omega) HC4.out.1 (by omega) (by omega)).mono ?_
        rintro e W5 ⟨p5, rfl, p50, p51, hc5, ho5⟩
        have HC5 : Hid (Cur B w0 W5 c a len cap (m + 6 + 10 * (61 - k) + 4) ∧ Only c wr W5) := ⟨hc5, HC4.out.2.trans ho5⟩
        have NE : Hid (Far W5.heap.size a3) := sts_far (W' := W5) HG.out.own HC5.out.2.1
        clear hc5 ho5 HC4
        by_cases h4 : g4 = 4
        · subst h4
          have HU5 : Hid (Cur B w0 (W5.alloc (.cells #[.int .i64 4, .int .i64 0] 53)) c a len cap (m + 6 + 10 * (61 - k) + 4)) := curAlloc HC5.out.1 _
          have HN5 : Hid (Only c wr (W5.alloc (.cells #[.int .i64 4, .int .i64 0] 53))) := onlyAlloc HC5.out.2 _
          have HX5 : Hid (Dx2 (W5.alloc (.cells #[.int .i64 4, .int .i64 0] 53)) W5.heap.size (.int .i64 4) (.int .i64 0)) := Dx2.new _ _ _ _
          have hcW5 : c < W5.heap.size := HC5.out.1.2.1
          have hwr5 : wr.heap.size ≤ W5.heap.size := HC5.out.2.1
          clear HC5
          go_wp2_with fail
          refine (one_any B w0 _ c a len cap (m + 6 + 10 * (61 - k) + 4) 30 HD.out hl (by omega) HU5.out (by omega) (by omega)).mono ?_
          rintro e W6 ⟨b6, rfl, hc6, ho6⟩
          have HON6 : Hid (Only c wr W6) := HN5.out.trans ho6
          have HX6 : Hid (Dx2 W6 W5.heap.size (.int .i64 4) (.int .i64 0)) := HX5.out.only ho6 (by omega)
          have HU6 : Hid (Cur B w0 W6 c a len cap (m + 6 + 10 * (61 - k) + 6)) := hc6
          clear hc6 ho6 HN5 HX5 HU5
          obtain ⟨n5, hn5e⟩ : ∃ n5, n5 = W5.heap.size := ⟨_, rfl⟩
          rw [← hn5e] at HX6 hcW5 hwr5 NE ⊢
          clear hn5e
          cases b6 with
          | false =>
            have HOW : Hid (OwnSt W6 W.heap.size (.slice a3 l.length c3) l) := rowOnly HG.out.own HON6.out hcW
            have HON : Hid (Only c W W6) := HG.out.only.trans HON6.out
            have HCU := HU6
            have x0 := HX6.out.c0
            have x1 := HX6.out.c1
            clear HU6 HON6 HG HX6
            have HC : Hid (∀ ty, ∃ v' w', (Builtin.append_ #[35, 35] ty #[.slice a3 l.length c3, .slice (some ⟨W6.heap.size, 0, none⟩) 1 1]).run Try.prog (W6.alloc (.cells #[.int .i64 4, .int .i64 0] 53)) = .ok v' w' ∧ Grown (W6.alloc (.cells #[.int .i64 4, .int .i64 0] 53)) W.heap.size 53 2 (.slice a3 l.length c3) (l ++ [(⟨4, 0⟩ : StD)]).length (cellsSt (l ++ [(⟨4, 0⟩ : StD)])) v' w') := fun ty => by
              have h := run_appStD W6 _ _ l (⟨4, 0⟩ : StD) HOW.out (by omega) HON.out.1 ty
              exact h
            go_wp2_with (at_builtin; refine list_app (by rfl) (.tmp 35) (.tmp 37) 35 (by rfl) (.slice a3 l.length c3) (.slice (some ⟨W6.heap.size, 0, none⟩) 1 1) (by rfl) (by rfl) _ HC.out ?_; intro v7 w7 hg7; have HF : Hid (Sts B w0 W c a len cap m v7 (l ++ [(⟨4, 0⟩ : StD)]) (k - 1) w7) := sts_add hcW HCU.out (by omega) HON.out hg7 (by simp; omega) hk (by omega); clear hg7)
            go_roundw
            case rel => exact ⟨_, k - 1, by go_num, HF.out⟩
            case measure => simp [intOf]; omega
          | true =>
            go_wp2_with fail
            refine (pick_any B w0 _ c a len cap (m + 6 + 10 * (61 - k) + 6) 6 HD.out hl (by omega) HU6.out (by omega) (by omega)).mono ?_
            rintro e W7 ⟨p7, rfl, p70, p71, hc7, ho7⟩
            have HU7 : Hid (Cur B w0 W7 c a len cap (m + 6 + 10 * (61 - k) + 8) ∧ Only c W6 W7) := ⟨hc7, ho7⟩
            clear hc7 ho7
            go_wp2_with fail
            refine (pick_any B w0 _ c a len cap (m + 6 + 10 * (61 - k) + 8) 5 HD.out hl (by omega) HU7.out.1 (by omega) (by omega)).mono ?_
            rintro e W8 ⟨p8, rfl, p80, p81, hc8, ho8⟩
            have hO8 := HU7.out.2.trans ho8
            have HX8 : Hid (Dx2 W8 n5 (.int .i64 4) (.int .i64 0)) := HX6.out.only hO8 (by omega)
            have HO8 : Hid (OwnSt W8 W.heap.size (.slice a3 l.length c3) l) := rowOnly HG.out.own (HON6.out.trans hO8) hcW
            have x0 := HX8.out.c0
            have x1 := HX8.out.c1
            have f0 := HX8.out.fz 0
            have f1 := HX8.out.fz 1
            have hW8 : W.heap.size ≤ n5 := Nat.le_trans HG.out.only.1 hwr5
            have hn8 : n5 < W8.heap.size := HX8.out.lt
            have HAP : Hid (Far n5 a3) := NE.out
            have HOW : Hid (OwnSt ((W8.setCell ⟨n5, 0, none⟩ (.int .i64 p7)).setCell ⟨n5, 1, none⟩ (.int .i64 (p8 - 1))) W.heap.size (.slice a3 l.length c3) l) := sts_other (sts_other HO8.out HAP.out _ _) HAP.out _ _
            have HON : Hid (Only c W ((W8.setCell ⟨n5, 0, none⟩ (.int .i64 p7)).setCell ⟨n5, 1, none⟩ (.int .i64 (p8 - 1)))) := ((HG.out.only.trans (HON6.out.trans hO8)).set hW8 _ _).set hW8 _ _
            have HCU : Hid (Cur B w0 ((W8.setCell ⟨n5, 0, none⟩ (.int .i64 p7)).setCell ⟨n5, 1, none⟩ (.int .i64 (p8 - 1))) c a len cap (m + 6 + 10 * (61 - k) + 10)) := (hc8.other (by omega) _).other (by omega) _
            clear hc8 ho8 hO8 HU7 HX8 HO8 HU6 HON6 HG HX6
            have HC : Hid (∀ ty, ∃ v' w', (Builtin.append_ #[35, 35] ty #[.slice a3 l.length c3, .slice (some ⟨W8.heap.size, 0, none⟩) 1 1]).run Try.prog (((W8.setCell ⟨n5, 0, none⟩ (.int .i64 p7)).setCell ⟨n5, 1, none⟩ (.int .i64 (p8 - 1))).alloc (.cells #[.int .i64 p7, .int .i64 (p8 - 1)] 53)) = .ok v' w' ∧ Grown (((W8.setCell ⟨n5, 0, none⟩ (.int .i64 p7)).setCell ⟨n5, 1, none⟩ (.int .i64 (p8 - 1))).alloc (.cells #[.int .i64 p7, .int .i64 (p8 - 1)] 53)) W.heap.size 53 2 (.slice a3 l.length c3) (l ++ [(⟨p7, (p8 - 1)⟩ : StD)]).length (cellsSt (l ++ [(⟨p7, (p8 - 1)⟩ : StD)])) v' w') := fun ty => by
              have h := run_appStD ((W8.setCell ⟨n5, 0, none⟩ (.int .i64 p7)).setCell ⟨n5, 1, none⟩ (.int .i64 (p8 - 1))) _ _ l (⟨p7, (p8 - 1)⟩ : StD) HOW.out (by omega) HON.out.1 ty
              rw [show ((W8.setCell ⟨n5, 0, none⟩ (.int .i64 p7)).setCell ⟨n5, 1, none⟩ (.int .i64 (p8 - 1))).heap.size = W8.heap.size by simp [World.setCell]] at h
              exact h
            go_wp2_with (at_builtin; refine list_app (by rfl) (.tmp 35) (.tmp 37) 35 (by rfl) (.slice a3 l.length c3) (.slice (some ⟨W8.heap.size, 0, none⟩) 1 1) (by rfl) (by rfl) _ HC.out ?_; intro v7 w7 hg7; have HF : Hid (Sts B w0 W c a len cap m v7 (l ++ [(⟨p7, (p8 - 1)⟩ : StD)]) (k - 1) w7) := sts_add hcW HCU.out (by omega) HON.out hg7 (by simp; omega) hk (by omega); clear hg7)
            go_roundw
            case rel => exact ⟨_, k - 1, by go_num, HF.out⟩
            case measure => simp [intOf]; omega
        · have h4' : decide (g4 = 4) = false := decide_eq_false h4
          have HU5 : Hid (Cur B w0 (W5.alloc (.cells #[.int .i64 g4, .int .i64 p5] 53)) c a len cap (m + 6 + 10 * (61 - k) + 4)) := curAlloc HC5.out.1 _
          have HN5 : Hid (Only c wr (W5.alloc (.cells #[.int .i64 g4, .int .i64 p5] 53))) := onlyAlloc HC5.out.2 _
          have HX5 : Hid (Dx2 (W5.alloc (.cells #[.int .i64 g4, .int .i64 p5] 53)) W5.heap.size (.int .i64 g4) (.int .i64 p5)) := Dx2.new _ _ _ _
          have hcW5 : c < W5.heap.size := HC5.out.1.2.1
          have hwr5 : wr.heap.size ≤ W5.heap.size := HC5.out.2.1
          clear HC5
          go_wp2_with fail
          refine (one_any B w0 _ c a len cap (m + 6 + 10 * (61 - k) + 4) 30 HD.out hl (by omega) HU5.out (by omega) (by omega)).mono ?_
          rintro e W6 ⟨b6, rfl, hc6, ho6⟩
          have HON6 : Hid (Only c wr W6) := HN5.out.trans ho6
          have HX6 : Hid (Dx2 W6 W5.heap.size (.int .i64 g4) (.int .i64 p5)) := HX5.out.only ho6 (by omega)
          have HU6 : Hid (Cur B w0 W6 c a len cap (m + 6 + 10 * (61 - k) + 6)) := hc6
          clear hc6 ho6 HN5 HX5 HU5
          obtain ⟨n5, hn5e⟩ : ∃ n5, n5 = W5.heap.size := ⟨_, rfl⟩
          rw [← hn5e] at HX6 hcW5 hwr5 NE ⊢
          clear hn5e
          cases b6 with
          | false =>
            have HOW : Hid (OwnSt W6 W.heap.size (.slice a3 l.length c3) l) := rowOnly HG.out.own HON6.out hcW
            have HON : Hid (Only c W W6) := HG.out.only.trans HON6.out
            have HCU := HU6
            have x0 := HX6.out.c0
            have x1 := HX6.out.c1
            clear HU6 HON6 HG HX6
            have HC : Hid (∀ ty, ∃ v' w', (Builtin.append_ #[35, 35] ty #[.slice a3 l.length c3, .slice (some ⟨W6.heap.size, 0, none⟩) 1 1]).run Try.prog (W6.alloc (.cells #[.int .i64 g4, .int .i64 p5] 53)) = .ok v' w' ∧ Grown (W6.alloc (.cells #[.int .i64 g4, .int .i64 p5] 53)) W.heap.size 53 2 (.slice a3 l.length c3) (l ++ [(⟨g4, p5⟩ : StD)]).length (cellsSt (l ++ [(⟨g4, p5⟩ : StD)])) v' w') := fun ty => by
              have h := run_appStD W6 _ _ l (⟨g4, p5⟩ : StD) HOW.out (by omega) HON.out.1 ty
              exact h
            go_wp2_with (at_builtin; refine list_app (by rfl) (.tmp 35) (.tmp 37) 35 (by rfl) (.slice a3 l.length c3) (.slice (some ⟨W6.heap.size, 0, none⟩) 1 1) (by rfl) (by rfl) _ HC.out ?_; intro v7 w7 hg7; have HF : Hid (Sts B w0 W c a len cap m v7 (l ++ [(⟨g4, p5⟩ : StD)]) (k - 1) w7) := sts_add hcW HCU.out (by omega) HON.out hg7 (by simp; omega) hk (by omega); clear hg7)
            go_roundw
            case rel => exact ⟨_, k - 1, by go_num, HF.out⟩
            case measure => simp [intOf]; omega
          | true =>
            go_wp2_with fail
            refine (pick_any B w0 _ c a len cap (m + 6 + 10 * (61 - k) + 6) 6 HD.out hl (by omega) HU6.out (by omega) (by omega)).mono ?_
            rintro e W7 ⟨p7, rfl, p70, p71, hc7, ho7⟩
            have HU7 : Hid (Cur B w0 W7 c a len cap (m + 6 + 10 * (61 - k) + 8) ∧ Only c W6 W7) := ⟨hc7, ho7⟩
            clear hc7 ho7
            go_wp2_with fail
            refine (pick_any B w0 _ c a len cap (m + 6 + 10 * (61 - k) + 8) 5 HD.out hl (by omega) HU7.out.1 (by omega) (by omega)).mono ?_
            rintro e W8 ⟨p8, rfl, p80, p81, hc8, ho8⟩
            have hO8 := HU7.out.2.trans ho8
            have HX8 : Hid (Dx2 W8 n5 (.int .i64 g4) (.int .i64 p5)) := HX6.out.only hO8 (by omega)
            have HO8 : Hid (OwnSt W8 W.heap.size (.slice a3 l.length c3) l) := rowOnly HG.out.own (HON6.out.trans hO8) hcW
            have x0 := HX8.out.c0
            have x1 := HX8.out.c1
            have f0 := HX8.out.fz 0
            have f1 := HX8.out.fz 1
            have hW8 : W.heap.size ≤ n5 := Nat.le_trans HG.out.only.1 hwr5
            have hn8 : n5 < W8.heap.size := HX8.out.lt
            have HAP : Hid (Far n5 a3) := NE.out
            have HOW : Hid (OwnSt ((W8.setCell ⟨n5, 0, none⟩ (.int .i64 p7)).setCell ⟨n5, 1, none⟩ (.int .i64 (p8 - 1))) W.heap.size (.slice a3 l.length c3) l) := sts_other (sts_other HO8.out HAP.out _ _) HAP.out _ _
            have HON : Hid (Only c W ((W8.setCell ⟨n5, 0, none⟩ (.int .i64 p7)).setCell ⟨n5, 1, none⟩ (.int .i64 (p8 - 1)))) := ((HG.out.only.trans (HON6.out.trans hO8)).set hW8 _ _).set hW8 _ _
            have HCU : Hid (Cur B w0 ((W8.setCell ⟨n5, 0, none⟩ (.int .i64 p7)).setCell ⟨n5, 1, none⟩ (.int .i64 (p8 - 1))) c a len cap (m + 6 + 10 * (61 - k) + 10)) := (hc8.other (by omega) _).other (by omega) _
            clear hc8 ho8 hO8 HU7 HX8 HO8 HU6 HON6 HG HX6
            have HC : Hid (∀ ty, ∃ v' w', (Builtin.append_ #[35, 35] ty #[.slice a3 l.length c3, .slice (some ⟨W8.heap.size, 0, none⟩) 1 1]).run Try.prog (((W8.setCell ⟨n5, 0, none⟩ (.int .i64 p7)).setCell ⟨n5, 1, none⟩ (.int .i64 (p8 - 1))).alloc (.cells #[.int .i64 p7, .int .i64 (p8 - 1)] 53)) = .ok v' w' ∧ Grown (((W8.setCell ⟨n5, 0, none⟩ (.int .i64 p7)).setCell ⟨n5, 1, none⟩ (.int .i64 (p8 - 1))).alloc (.cells #[.int .i64 p7, .int .i64 (p8 - 1)] 53)) W.heap.size 53 2 (.slice a3 l.length c3) (l ++ [(⟨p7, (p8 - 1)⟩ : StD)]).length (cellsSt (l ++ [(⟨p7, (p8 - 1)⟩ : StD)])) v' w') := fun ty => by
              have h := run_appStD ((W8.setCell ⟨n5, 0, none⟩ (.int .i64 p7)).setCell ⟨n5, 1, none⟩ (.int .i64 (p8 - 1))) _ _ l (⟨p7, (p8 - 1)⟩ : StD) HOW.out (by omega) HON.out.1 ty
              rw [show ((W8.setCell ⟨n5, 0, none⟩ (.int .i64 p7)).setCell ⟨n5, 1, none⟩ (.int .i64 (p8 - 1))).heap.size = W8.heap.size by simp [World.setCell]] at h
              exact h
            go_wp2_with (at_builtin; refine list_app (by rfl) (.tmp 35) (.tmp 37) 35 (by rfl) (.slice a3 l.length c3) (.slice (some ⟨W8.heap.size, 0, none⟩) 1 1) (by rfl) (by rfl) _ HC.out ?_; intro v7 w7 hg7; have HF : Hid (Sts B w0 W c a len cap m v7 (l ++ [(⟨p7, (p8 - 1)⟩ : StD)]) (k - 1) w7) := sts_add hcW HCU.out (by omega) HON.out hg7 (by simp; omega) hk (by omega); clear hg7)
            go_roundw
            case rel => exact ⟨_, k - 1, by go_num, HF.out⟩
            case measure => simp [intOf]; omega
      · have hk' : ¬ 0 < (k : Int) := by omega
        obtain rfl : k = 0 := by omega
        have HO : Hid (OwnSt wr W.heap.size (.slice a3 l.length c3) l) := HG.out.own
        have HCU : Hid (Cur B w0 wr c a len cap (m + 700)) := HG.out.cur.mono (by omega)
        have HON : Hid (Only c W wr) := HG.out.only
        clear HG
        go_wp2
        go_ret
        exact ⟨_, l, rfl, HO.out, by omega, HCU.out, HON.out⟩
  | true =>
    go_wp2_with fail
    refine (pick_any B w0 _ c a len cap (m + 4) 3 HD.out hl (by omega) HC2.out.1 (by omega) (by omega)).mono ?_
    rintro e W3 ⟨q3, rfl, q30, q31, hc3, ho3⟩
    obtain ⟨n3, rfl⟩ : ∃ n : Nat, q3 = n := ⟨q3.toNat, by omega⟩
    have HB0 : Hid (Sts B w0 W c a len cap m (.slice none 0 0) [] (59 + n3) W3) := ⟨OwnSt.nil _ _, by simp; omega, hc3.mono (by omega), HC2.out.2.trans ho3⟩
    clear HC2 hc3 ho3
    go_wp2
    go_loopw [3, 4] (fun v i wr => ∃ (l : List StD) (k : Nat), i = .int .i64 (k : Int) ∧ Hid (Sts B w0 W c a len cap m v l k wr)) (fun _ i _ => (intOf i).toNat)
    case atStart => exact ⟨[], 59 + n3, by rw [show ((59 + n3 : Nat) : Int) = 59 + (n3 : Int) by omega], HB0.out⟩
    case round =>
      clear HB0
      obtain ⟨l, k, rfl, HG⟩ := hrel
      obtain ⟨a3, c3, rfl⟩ := HG.out.own.shape
      have hkl : l.length + k ≤ 61 := HG.out.fit
      by_cases hk : 0 < k
      · have hk' : 0 < (k : Int) := by omega
        have HCU : Hid (Cur B w0 wr c a len cap (m + 6 + 10 * (61 - k))) := HG.out.cur
        have hcwr : c < wr.heap.size := HCU.out.2.1
        have HCL : Hid (∀ j (hj : j < [(1 : Int), 1, 1, 2, 2, 2, 3, 4].length), (wr.alloc (.cells #[.int .i64 1, .int .i64 1, .int .i64 1, .int .i64 2, .int .i64 2, .int .i64 2, .int .i64 3, .int .i64 4] 3)).cell? ⟨wr.heap.size, j, none⟩ = some (.int .i64 [(1 : Int), 1, 1, 2, 2, 2, 3, 4][j])) := cells_lit wr 3 [(1 : Int), 1, 1, 2, 2, 2, 3, 4]
        go_wp2_with fail
        refine (among_any B w0 _ c wr.heap.size [(1 : Int), 1, 1, 2, 2, 2, 3, 4] a len cap 8 (m + 6 + 10 * (61 - k)) HD.out hl (by omega) (curAlloc HCU.out _) (by simp) (by simp) (by simp) (by omega) HCL.out).mono ?_
        rintro e W4 ⟨g4, rfl, -, hc4, ho4⟩
        have HC4 : Hid (Cur B w0 W4 c a len cap (m + 6 + 10 * (61 - k) + 2) ∧ Only c wr W4) := ⟨hc4, (onlyAlloc (Only.refl _ _) _).trans ho4⟩
        clear hc4 ho4 HCL HCU hcwr
        go_wp2_with fail
        refine (pick_any B w0 _ c a len cap (m + 6 + 10 * (61 - k) + 2) 2 HD.out hl (by omega) HC4.out.1 (by omega) (by omega)).mono ?_
        rintro e W5 ⟨p5, rfl, p50, p51, hc5, ho5⟩
        have HC5 : Hid (Cur B w0 W5 c a len cap (m + 6 + 10 * (61 - k) + 4) ∧ Only c wr W5) := ⟨hc5, HC4.out.2.trans ho5⟩
        have NE : Hid (Far W5.heap.size a3) := sts_far (W' := W5) HG.out.own HC5.out.2.1
        clear hc5 ho5 HC4
        by_cases h4 : g4 = 4
        · subst h4
          have HU5 : Hid (Cur B w0 (W5.alloc (.cells #[.int .i64 4, .int .i64 0] 53)) c a len cap (m + 6 + 10 * (61 - k) + 4)) := curAlloc HC5.out.1 _
          have HN5 : Hid (Only c wr (W5.alloc (.cells #[.int .i64 4, .int .i64 0] 53))) := onlyAlloc HC5.out.2 _
          have HX5 : Hid (Dx2 (W5.alloc (.cells #[.int .i64 4, .int .i64 0] 53)) W5.heap.size (.int .i64 4) (.int .i64 0)) := Dx2.new _ _ _ _
          have hcW5 : c < W5.heap.size := HC5.out.1.2.1
          have hwr5 : wr.heap.size ≤ W5.heap.size := HC5.out.2.1
          clear HC5
          go_wp2_with fail
          refine (one_any B w0 _ c a len cap (m + 6 + 10 * (61 - k) + 4) 30 HD.out hl (by omega) HU5.out (by omega) (by omega)).mono ?_
          rintro e W6 ⟨b6, rfl, hc6, ho6⟩
          have HON6 : Hid (Only c wr W6) := HN5.out.trans ho6
          have HX6 : Hid (Dx2 W6 W5.heap.size (.int .i64 4) (.int .i64 0)) := HX5.out.only ho6 (by omega)
          have HU6 : Hid (Cur B w0 W6 c a len cap (m + 6 + 10 * (61 - k) + 6)) := hc6
          clear hc6 ho6 HN5 HX5 HU5
          obtain ⟨n5, hn5e⟩ : ∃ n5, n5 = W5.heap.size := ⟨_, rfl⟩
          rw [← hn5e] at HX6 hcW5 hwr5 NE ⊢
          clear hn5e
          cases b6 with
          | false =>
            have HOW : Hid (OwnSt W6 W.heap.size (.slice a3 l.length c3) l) := rowOnly HG.out.own HON6.out hcW
            have HON : Hid (Only c W W6) := HG.out.only.trans HON6.out
            have HCU := HU6
            have x0 := HX6.out.c0
            have x1 := HX6.out.c1
            clear HU6 HON6 HG HX6
            have HC : Hid (∀ ty, ∃ v' w', (Builtin.append_ #[35, 35] ty #[.slice a3 l.length c3, .slice (some ⟨W6.heap.size, 0, none⟩) 1 1]).run Try.prog (W6.alloc (.cells #[.int .i64 4, .int .i64 0] 53)) = .ok v' w' ∧ Grown (W6.alloc (.cells #[.int .i64 4, .int .i64 0] 53)) W.heap.size 53 2 (.slice a3 l.length c3) (l ++ [(⟨4, 0⟩ : StD)]).length (cellsSt (l ++ [(⟨4, 0⟩ : StD)])) v' w') := fun ty => by
              have h := run_appStD W6 _ _ l (⟨4, 0⟩ : StD) HOW.out (by omega) HON.out.1 ty
              exact h
            go_wp2_with (at_builtin; refine list_app (by rfl) (.tmp 35) (.tmp 37) 35 (by rfl) (.slice a3 l.length c3) (.slice (some ⟨W6.heap.size, 0, none⟩) 1 1) (by rfl) (by rfl) _ HC.out ?_; intro v7 w7 hg7; have HF : Hid (Sts B w0 W c a len cap m v7 (l ++ [(⟨4, 0⟩ : StD)]) (k - 1) w7) := sts_add hcW HCU.out (by omega) HON.out hg7 (by simp; omega) hk (by omega); clear hg7)
            go_roundw
            case rel => exact ⟨_, k - 1, by go_num, HF.out⟩
            case measure => simp [intOf]; omega
          | true =>
            go_wp2_with fail
            refine (pick_any B w0 _ c a len cap (m + 6 + 10 * (61 - k) + 6) 6 HD.out hl (by omega) HU6.out (by omega) (by omega)).mono ?_
            rintro e W7 ⟨p7, rfl, p70, p71, hc7, ho7⟩
            have HU7 : Hid (Cur B w0 W7 c a len cap (m + 6 + 10 * (61 - k) + 8) ∧ Only c W6 W7) := ⟨hc7, ho7⟩
            clear hc7 ho7
            go_wp2_with fail
            refine (pick_any B w0 _ c a len cap (m + 6 + 10 * (61 - k) + 8) 5 HD.out hl (by omega) HU7.out.1 (by omega) (by omega)).mono ?_
            rintro e W8 ⟨p8, rfl, p80, p81, hc8, ho8⟩
            have hO8 := HU7.out.2.trans ho8
            have HX8 : Hid (Dx2 W8 n5 (.int .i64 4) (.int .i64 0)) := HX6.out.only hO8 (by omega)
            have HO8 : Hid (OwnSt W8 W.heap.size (.slice a3 l.length c3) l) := rowOnly HG.out.own (HON6.out.trans hO8) hcW
            have x0 := HX8.out.c0
            have x1 := HX8.out.c1
            have f0 := HX8.out.fz 0
            have f1 := HX8.out.fz 1
            have hW8 : W.heap.size ≤ n5 := Nat.le_trans HG.out.only.1 hwr5
            have hn8 : n5 < W8.heap.size := HX8.out.lt
            have HAP : Hid (Far n5 a3) := NE.out
            have HOW : Hid (OwnSt ((W8.setCell ⟨n5, 0, none⟩ (.int .i64 p7)).setCell ⟨n5, 1, none⟩ (.int .i64 (p8 - 1))) W.heap.size (.slice a3 l.length c3) l) := sts_other (sts_other HO8.out HAP.out _ _) HAP.out _ _
            have HON : Hid (Only c W ((W8.setCell ⟨n5, 0, none⟩ (.int .i64 p7)).setCell ⟨n5, 1, none⟩ (.int .i64 (p8 - 1)))) := ((HG.out.only.trans (HON6.out.trans hO8)).set hW8 _ _).set hW8 _ _
            have HCU : Hid (Cur B w0 ((W8.setCell ⟨n5, 0, none⟩ (.int .i64 p7)).setCell ⟨n5, 1, none⟩ (.int .i64 (p8 - 1))) c a len cap (m + 6 + 10 * (61 - k) + 10)) := (hc8.other (by omega) _).other (by omega) _
            clear hc8 ho8 hO8 HU7 HX8 HO8 HU6 HON6 HG HX6
            have HC : Hid (∀ ty, ∃ v' w', (Builtin.append_ #[35, 35] ty #[.slice a3 l.length c3, .slice (some ⟨W8.heap.size, 0, none⟩) 1 1]).run Try.prog (((W8.setCell ⟨n5, 0, none⟩ (.int .i64 p7)).setCell ⟨n5, 1, none⟩ (.int .i64 (p8 - 1))).alloc (.cells #[.int .i64 p7, .int .i64 (p8 - 1)] 53)) = .ok v' w' ∧ Grown (((W8.setCell ⟨n5, 0, none⟩ (.int .i64 p7)).setCell ⟨n5, 1, none⟩ (.int .i64 (p8 - 1))).alloc (.cells #[.int .i64 p7, .int .i64 (p8 - 1)] 53)) W.heap.size 53 2 (.slice a3 l.length c3) (l ++ [(⟨p7, (p8 - 1)⟩ : StD)]).length (cellsSt (l ++ [(⟨p7, (p8 - 1)⟩ : StD)])) v' w') := fun ty => by
              have h := run_appStD ((W8.setCell ⟨n5, 0, none⟩ (.int .i64 p7)).setCell ⟨n5, 1, none⟩ (.int .i64 (p8 - 1))) _ _ l (⟨p7, (p8 - 1)⟩ : StD) HOW.out (by omega) HON.out.1 ty
              rw [show ((W8.setCell ⟨n5, 0, none⟩ (.int .i64 p7)).setCell ⟨n5, 1, none⟩ (.int .i64 (p8 - 1))).heap.size = W8.heap.size by simp [World.setCell]] at h
              exact h
            go_wp2_with (at_builtin; refine list_app (by rfl) (.tmp 35) (.tmp 37) 35 (by rfl) (.slice a3 l.length c3) (.slice (some ⟨W8.heap.size, 0, none⟩) 1 1) (by rfl) (by rfl) _ HC.out ?_; intro v7 w7 hg7; have HF : Hid (Sts B w0 W c a len cap m v7 (l ++ [(⟨p7, (p8 - 1)⟩ : StD)]) (k - 1) w7) := sts_add hcW HCU.out (by omega) HON.out hg7 (by simp; omega) hk (by omega); clear hg7)
            go_roundw
            case rel => exact ⟨_, k - 1, by go_num, HF.out⟩
            case measure => simp [intOf]; omega
        · have h4' : decide (g4 = 4) = false := decide_eq_false h4
          have HU5 : Hid (Cur B w0 (W5.alloc (.cells #[.int .i64 g4, .int .i64 p5] 53)) c a len cap (m + 6 + 10 * (61 - k) + 4)) := curAlloc HC5.out.1 _
          have HN5 : Hid (Only c wr (W5.alloc (.cells #[.int .i64 g4, .int .i64 p5] 53))) := onlyAlloc HC5.out.2 _
          have HX5 : Hid (Dx2 (W5.alloc (.cells #[.int .i64 g4, .int .i64 p5] 53)) W5.heap.size (.int .i64 g4) (.int .i64 p5)) := Dx2.new _ _ _ _
          have hcW5 : c < W5.heap.size := HC5.out.1.2.1
          have hwr5 : wr.heap.size ≤ W5.heap.size := HC5.out.2.1
          clear HC5
          go_wp2_with fail
          refine (one_any B w0 _ c a len cap (m + 6 + 10 * (61 - k) + 4) 30 HD.out hl (by omega) HU5.out (by omega) (by omega)).mono ?_
          rintro e W6 ⟨b6, rfl, hc6, ho6⟩
          have HON6 : Hid (Only c wr W6) := HN5.out.trans ho6
          have HX6 : Hid (Dx2 W6 W5.heap.size (.int .i64 g4) (.int .i64 p5)) := HX5.out.only ho6 (by omega)
          have HU6 : Hid (Cur B w0 W6 c a len cap (m + 6 + 10 * (61 - k) + 6)) := hc6
          clear hc6 ho6 HN5 HX5 HU5
          obtain ⟨n5, hn5e⟩ : ∃ n5, n5 = W5.heap.size := ⟨_, rfl⟩
          rw [← hn5e] at HX6 hcW5 hwr5 NE ⊢
          clear hn5e
          cases b6 with
          | false =>
            have HOW : Hid (OwnSt W6 W.heap.size (.slice a3 l.length c3) l) := rowOnly HG.out.own HON6.out hcW
            have HON : Hid (Only c W W6) := HG.out.only.trans HON6.out
            have HCU := HU6
            have x0 := HX6.out.c0
            have x1 := HX6.out.c1
            clear HU6 HON6 HG HX6
            have HC : Hid (∀ ty, ∃ v' w', (Builtin.append_ #[35, 35] ty #[.slice a3 l.length c3, .slice (some ⟨W6.heap.size, 0, none⟩) 1 1]).run Try.prog (W6.alloc (.cells #[.int .i64 g4, .int .i64 p5] 53)) = .ok v' w' ∧ Grown (W6.alloc (.cells #[.int .i64 g4, .int .i64 p5] 53)) W.heap.size 53 2 (.slice a3 l.length c3) (l ++ [(⟨g4, p5⟩ : StD)]).length (cellsSt (l ++ [(⟨g4, p5⟩ : StD)])) v' w') := fun ty => by
              have h := run_appStD W6 _ _ l (⟨g4, p5⟩ : StD) HOW.out (by omega) HON.out.1 ty
              exact h
            go_wp2_with (at_builtin; refine list_app (by rfl) (.tmp 35) (.tmp 37) 35 (by rfl) (.slice a3 l.length c3) (.slice (some ⟨W6.heap.size, 0, none⟩) 1 1) (by rfl) (by rfl) _ HC.out ?_; intro v7 w7 hg7; have HF : Hid (Sts B w0 W c a len cap m v7 (l ++ [(⟨g4, p5⟩ : StD)]) (k - 1) w7) := sts_add hcW HCU.out (by omega) HON.out hg7 (by simp; omega) hk (by omega); clear hg7)
            go_roundw
            case rel => exact ⟨_, k - 1, by go_num, HF.out⟩
            case measure => simp [intOf]; omega
          | true =>
            go_wp2_with fail
            refine (pick_any B w0 _ c a len cap (m + 6 + 10 * (61 - k) + 6) 6 HD.out hl (by omega) HU6.out (by omega) (by omega)).mono ?_
            rintro e W7 ⟨p7, rfl, p70, p71, hc7, ho7⟩
            have HU7 : Hid (Cur B w0 W7 c a len cap (m + 6 + 10 * (61 - k) + 8) ∧ Only c W6 W7) := ⟨hc7, ho7⟩
            clear hc7 ho7
            go_wp2_with fail
            refine (pick_any B w0 _ c a len cap (m + 6 + 10 * (61 - k) + 8) 5 HD.out hl (by omega) HU7.out.1 (by omega) (by omega)).mono ?_
            rintro e W8 ⟨p8, rfl, p80, p81, hc8, ho8⟩
            have hO8 := HU7.out.2.trans ho8
            have HX8 : Hid (Dx2 W8 n5 (.int .i64 g4) (.int .i64 p5)) := HX6.out.only hO8 (by omega)
            have HO8 : Hid (OwnSt W8 W.heap.size (.slice a3 l.length c3) l) := rowOnly HG.out.own (HON6.out.trans hO8) hcW
            have x0 := HX8.out.c0
            have x1 := HX8.out.c1
            have f0 := HX8.out.fz 0
            have f1 := HX8.out.fz 1
            have hW8 : W.heap.size ≤ n5 := Nat.le_trans HG.out.only.1 hwr5
            have hn8 : n5 < W8.heap.size := HX8.out.lt
            have HAP : Hid (Far n5 a3) := NE.out
            have HOW : Hid (OwnSt ((W8.setCell ⟨n5, 0, none⟩ (.int .i64 p7)).setCell ⟨n5, 1, none⟩ (.int .i64 (p8 - 1))) W.heap.size (.slice a3 l.length c3) l) := sts_other (sts_other HO8.out HAP.out _ _) HAP.out _ _
            have HON : Hid (Only c W ((W8.setCell ⟨n5, 0, none⟩ (.int .i64 p7)).setCell ⟨n5, 1, none⟩ (.int .i64 (p8 - 1)))) := ((HG.out.only.trans (HON6.out.trans hO8)).set hW8 _ _).set hW8 _ _
            have HCU : Hid (Cur B w0 ((W8.setCell ⟨n5, 0, none⟩ (.int .i64 p7)).setCell ⟨n5, 1, none⟩ (.int .i64 (p8 - 1))) c a len cap (m + 6 + 10 * (61 - k) + 10)) := (hc8.other (by omega) _).other (by omega) _
            clear hc8 ho8 hO8 HU7 HX8 HO8 HU6 HON6 HG HX6
            have HC : Hid (∀ ty, ∃ v' w', (Builtin.append_ #[35, 35] ty #[.slice a3 l.length c3, .slice (some ⟨W8.heap.size, 0, none⟩) 1 1]).run Try.prog (((W8.setCell ⟨n5, 0, none⟩ (.int .i64 p7)).setCell ⟨n5, 1, none⟩ (.int .i64 (p8 - 1))).alloc (.cells #[.int .i64 p7, .int .i64 (p8 - 1)] 53)) = .ok v' w' ∧ Grown (((W8.setCell ⟨n5, 0, none⟩ (.int .i64 p7)).setCell ⟨n5, 1, none⟩ (.int .i64 (p8 - 1))).alloc (.cells #[.int .i64 p7, .int .i64 (p8 - 1)] 53)) W.heap.size 53 2 (.slice a3 l.length c3) (l ++ [(⟨p7, (p8 - 1)⟩ : StD)]).length (cellsSt (l ++ [(⟨p7, (p8 - 1)⟩ : StD)])) v' w') := fun ty => by
              have h := run_appStD ((W8.setCell ⟨n5, 0, none⟩ (.int .i64 p7)).setCell ⟨n5, 1, none⟩ (.int .i64 (p8 - 1))) _ _ l (⟨p7, (p8 - 1)⟩ : StD) HOW.out (by omega) HON.out.1 ty
              rw [show ((W8.setCell ⟨n5, 0, none⟩ (.int .i64 p7)).setCell ⟨n5, 1, none⟩ (.int .i64 (p8 - 1))).heap.size = W8.heap.size by simp [World.setCell]] at h
              exact h
            go_wp2_with (at_builtin; refine list_app (by rfl) (.tmp 35) (.tmp 37) 35 (by rfl) (.slice a3 l.length c3) (.slice (some ⟨W8.heap.size, 0, none⟩) 1 1) (by rfl) (by rfl) _ HC.out ?_; intro v7 w7 hg7; have HF : Hid (Sts B w0 W c a len cap m v7 (l ++ [(⟨p7, (p8 - 1)⟩ : StD)]) (k - 1) w7) := sts_add hcW HCU.out (by omega) HON.out hg7 (by simp; omega) hk (by omega); clear hg7)
            go_roundw
            case rel => exact ⟨_, k - 1, by go_num, HF.out⟩
            case measure => simp [intOf]; omega
      · have hk' : ¬ 0 < (k : Int) := by omega
        obtain rfl : k = 0 := by omega
        have HO : Hid (OwnSt wr W.heap.size (.slice a3 l.length c3) l) := HG.out.own
        have HCU : Hid (Cur B w0 wr c a len cap (m + 700)) := HG.out.cur.mono (by omega)
        have HON : Hid (Only c W wr) := HG.out.only
        clear HG
        go_wp2
        go_ret
        exact ⟨_, l, rfl, HO.out, by omega, HCU.out, HON.out⟩
end Go.Proofs.Ytchddjidjfpehaa
