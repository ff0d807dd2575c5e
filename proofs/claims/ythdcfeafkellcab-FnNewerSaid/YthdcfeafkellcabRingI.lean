/-
  'ringOf' and 'halfFrom' of the program.
-/
import Derived.Test.YthdcfeafkellcabRing0
import Derived.Laws.ResultCell
namespace Go.Proofs.Ythdcfeafkellcab
open Go.RowKit
set_option linter.unusedVariables false

/-- Which numbers a list holds. -/
def hasN (zs : List Int) (n : Nat) : Bool := zs.any fun z => z == (n : Int)
theorem hasN_next (zs : List Int) (k : Nat) (hk : k < zs.length) (m : Nat) (hm : zs[k] = (m : Int)) : ringA (fun n => if n = m then true else hasN (zs.take k) n) = ringA (hasN (zs.take (k + 1))) := by
  congr 1
  funext n
  unfold hasN
  rw [List.take_succ_eq_append_getElem hk, List.any_append, hm]
  by_cases e : n = m
  · subst e
    simp
  · have e' : ¬ m = n := fun h => e h.symm
    have e2 : ((m : Int) == (n : Int)) = false := by simp; omega
    simp [e, e2]

set_option maxRecDepth 100000 in
set_option maxHeartbeats 4000000 in
theorem ringOf_any (W : World) (v : Value) (zs : List Int) (h : Reads W v zs) (hl : zs.length ≤ 40) (hz : ∀ z ∈ zs, seqB z = true) :
    Calls Try.prog 81 #[v] W fun e W' => e = .returned (.agg (ringA (hasN zs))) ∧ Below W.heap.size W W' := by
  obtain ⟨a1, cap1, rfl, hc1⟩ := h
  obtain ⟨W0, hW0⟩ : ∃ W0, W0 = (W.alloc (.cells (ringA fun _ => false) 99)).alloc (.cells (ringA fun _ => false) 99) := ⟨_, rfl⟩
  have HR2 : Hid (RB W0 W.heap.size (fun _ => false)) := by rw [hW0]; exact (RB.new W _).below ((Below.refl _ _).alloc (Nat.le_refl _) _)
  have HR3 : Hid (RB W0 (W.heap.size + 1) (hasN (zs.take 0))) := by
    have := RB.new (W.alloc (.cells (ringA fun _ => false) 99)) (fun _ => false)
    rw [hW0]
    have e : hasN (zs.take 0) = fun _ => false := by funext n; rfl
    rw [e]
    exact (show RB _ _ _ by simpa using this)
  have HS0 : Hid (Since W.heap.size W W0) := by rw [hW0]; exact (Since.start W).step (((Below.refl _ W).alloc (Nat.le_refl _) _).alloc (by simp) _)
  have HC1 : Hid (∀ W1, Since W.heap.size W W1 → ∀ j (hj : j < zs.length), ∃ g o, a1 = some ⟨g, o, none⟩ ∧ W1.cell? ⟨g, o + j, none⟩ = some (.int .i64 zs[j])) := fun W1 hs j hj => by
    rcases hc1 with e | ⟨g, o, ha, hg, hc⟩
    · rw [e] at hj; simp at hj
    · exact ⟨g, o, ha, (hs.1.cell (p := ⟨g, o + j, none⟩) hg).trans (hc j hj)⟩
  have HZ : Hid (∀ z ∈ zs, seqB z = true) := hz
  have HW0 : Hid (W0 = (W.alloc (.cells (ringA fun _ => false) 99)).alloc (.cells (ringA fun _ => false) 99)) := hW0
  clear hc1 hz hW0
  go_enter Try.func81, Try.ntmps81
  go_wp2
  go_loopw [8] (fun i wr => ∃ k : Nat, k ≤ zs.length ∧ i = .int .i64 k ∧ Hid (RB wr W.heap.size (fun _ => false) ∧ RB wr (W.heap.size + 1) (hasN (zs.take k)) ∧ Since W.heap.size W wr)) (fun i _ => zs.length - (intOf i).toNat)
  case atStart =>
    refine ⟨0, Nat.zero_le _, rfl, ?_⟩
    have := And.intro HR2.out (And.intro HR3.out HS0.out)
    rw [HW0.out] at this
    exact this
  case round =>
    clear HW0 HR2 HR3 HS0
    obtain ⟨k, hk, rfl, HK⟩ := hrel
    by_cases hlt : k < zs.length
    · obtain ⟨hr2, hr3, hS⟩ := HK.out
      obtain ⟨g1, o1, rfl, q0⟩ := HC1.out wr hS k hlt
      have hsq := seqB_iff.1 (HZ.out _ (List.getElem_mem hlt))
      obtain ⟨m, hm⟩ : ∃ m : Nat, zs[k] = (m : Int) := ⟨zs[k].toNat, by omega⟩
      have hm64 : m < 64 := by omega
      have hm64' : (m : Int) < 64 := by omega
      have hput := hr3.put m true
      have HN : Hid (RB (wr.setCell ⟨W.heap.size + 1, m, none⟩ (.bool true)) (W.heap.size + 1) (hasN (zs.take (k + 1)))) := by
        unfold RB at hput
        rw [hasN_next zs k hlt m hm] at hput
        exact hput
      have HO : Hid (RB (wr.setCell ⟨W.heap.size + 1, m, none⟩ (.bool true)) W.heap.size (fun _ => false)) := hr2.other (by simp) _
      have HS1 : Hid (Since W.heap.size W (wr.setCell ⟨W.heap.size + 1, m, none⟩ (.bool true))) := ⟨hS.1.setCell (Nat.le_succ _) _, by simpa [World.setCell] using hS.2⟩
      have c0 := hr3.cell m hm64
      have f0 := hr3.free m
      rw [hm] at q0
      have hlt' : (k : Int) < (zs.length : Int) := by omega
      generalize hasN (zs.take k) m = old at *
      clear hr2 hr3 hS HK hput hsq hm
      go_wp2
      go_roundw
      case rel => exact ⟨k + 1, by omega, by go_num, HO.out, HN.out, HS1.out⟩
      case measure => simp [intOf]; omega
    · have hlt' : ¬ (k : Int) < (zs.length : Int) := by omega
      obtain ⟨hr2, hr3, hS⟩ := HK.out
      rw [List.take_of_length_le (by omega)] at hr3
      have HR2 : Hid (RB wr W.heap.size (fun _ => false)) := hr2
      have HR3 : Hid (RB wr (W.heap.size + 1) (hasN zs)) := hr3
      have HS : Hid (Since W.heap.size W wr) := hS
      clear hr2 hr3 hS HK
      go_wp2_with (first
        | (refine wpList_ringLoad (.tmp 3) rfl rfl rfl HR3.out ?_; simp only [Act.put, List.setIfInBounds_toArray, List.set_cons_zero, List.set_cons_succ])
        | (refine wpList_ringStore (.tmp 2) (.tmp 15) rfl rfl rfl rfl HR2.out ?_; simp only [Act.put]))
      refine bodyPost_ret (results_ring rfl _ _ rfl (HR2.out.row (hasN zs))) rfl ⟨rfl, ?_⟩
      exact below_setRow HS.out.1 (Nat.le_refl _) _

/-- The half of a ring from s on. -/
def winB (s n : Nat) : Bool := decide ((n + 64 - s) % 64 < 32)
def partB (f : Nat → Bool) (s k n : Nat) : Bool := decide ((n + 64 - s) % 64 < k) && f n
theorem partB_next (f : Nat → Bool) (s k m : Nat) (hs : s < 64) (hk : k < 32) (hm : (s + k) % 64 = m) : ringA (fun n => if n = m then f m else partB f s k n) = ringA (partB f s (k + 1)) := by
  apply ringA_ext
  intro n hn
  unfold partB
  by_cases e : n = m
  · subst e
    rw [if_pos rfl, decide_eq_true (by omega)]
    rfl
  · rw [if_neg e]
    congr 1
    rw [Bool.eq_iff_iff]
    simp
    omega

set_option maxRecDepth 100000 in
set_option maxHeartbeats 4000000 in
theorem halfFrom_any (W : World) (f : Nat → Bool) (s : Nat) (hs : s < 64) :
    Calls Try.prog 94 #[.agg (ringA f), .int .i64 (s : Int)] W fun e W' => e = .returned (.agg (ringA (partB f s 32))) ∧ Below W.heap.size W W' := by
  obtain ⟨W0, hW0⟩ : ∃ W0, W0 = ((W.alloc (.cells (ringA f) 99)).alloc (.cells (ringA fun _ => false) 99)).alloc (.cells (ringA fun _ => false) 99) := ⟨_, rfl⟩
  have HR2 : Hid (RB W0 W.heap.size f) := by rw [hW0]; exact ((RB.new W _).below ((Below.refl _ _).alloc (Nat.le_refl _) _)).below ((Below.refl _ _).alloc (Nat.le_refl _) _)
  have HR4 : Hid (RB W0 (W.heap.size + 1) (fun _ => false)) := by
    have := (RB.new (W.alloc (.cells (ringA f) 99)) (fun _ => false)).below ((Below.refl _ _).alloc (Nat.le_refl _) (.cells (ringA fun _ => false) 99))
    rw [hW0]
    exact (show RB _ _ _ by simpa using this)
  have HR5 : Hid (RB W0 (W.heap.size + 1 + 1) (partB f s 0)) := by
    have := RB.new ((W.alloc (.cells (ringA f) 99)).alloc (.cells (ringA fun _ => false) 99)) (fun _ => false)
    rw [hW0]
    have e : partB f s 0 = fun _ => false := by funext n; rfl
    rw [e]
    exact (show RB _ _ _ by simpa using this)
  have HS0 : Hid (Since W.heap.size W W0) := by rw [hW0]; exact (Since.start W).step ((((Below.refl _ W).alloc (Nat.le_refl _) _).alloc (by simp) _).alloc (by simp; omega) _)
  have HW0 : Hid (W0 = ((W.alloc (.cells (ringA f) 99)).alloc (.cells (ringA fun _ => false) 99)).alloc (.cells (ringA fun _ => false) 99)) := hW0
  clear hW0
  have hs' : (s : Int) < 64 := by omega
  go_enter Try.func94, Try.ntmps94
  go_wp2
  go_loopw [8] (fun i wr => ∃ k : Nat, k ≤ 32 ∧ i = .int .i64 k ∧ Hid (RB wr W.heap.size f ∧ RB wr (W.heap.size + 1) (fun _ => false) ∧ RB wr (W.heap.size + 1 + 1) (partB f s k) ∧ Since W.heap.size W wr)) (fun i _ => 32 - (intOf i).toNat)
  case atStart =>
    refine ⟨0, Nat.zero_le _, rfl, ?_⟩
    have := And.intro HR2.out (And.intro HR4.out (And.intro HR5.out HS0.out))
    rw [HW0.out] at this
    exact this
  case round =>
    clear HW0 HR2 HR4 HR5 HS0
    obtain ⟨k, hk, rfl, HK⟩ := hrel
    by_cases hlt : k < 32
    · obtain ⟨hr2, hr4, hr5, hS⟩ := HK.out
      obtain ⟨m, hm⟩ : ∃ m : Nat, (s + k) % 64 = m := ⟨_, rfl⟩
      have hm64 : m < 64 := by omega
      have hm64' : (m : Int) < 64 := by omega
      have htm : ((s : Int) + (k : Int)).tmod 64 = (m : Int) := by rw [Int.tmod_eq_emod_of_nonneg (by omega)]; omega
      have hput := hr5.put m (f m)
      have HN : Hid (RB (wr.setCell ⟨W.heap.size + 1 + 1, m, none⟩ (.bool (f m))) (W.heap.size + 1 + 1) (partB f s (k + 1))) := by
        unfold RB at hput
        rw [partB_next f s k m hs hlt hm] at hput
        exact hput
      have HO : Hid (RB (wr.setCell ⟨W.heap.size + 1 + 1, m, none⟩ (.bool (f m))) W.heap.size f ∧ RB (wr.setCell ⟨W.heap.size + 1 + 1, m, none⟩ (.bool (f m))) (W.heap.size + 1) (fun _ => false)) := ⟨hr2.other (by simp; omega) _, hr4.other (by simp) _⟩
      have HS1 : Hid (Since W.heap.size W (wr.setCell ⟨W.heap.size + 1 + 1, m, none⟩ (.bool (f m)))) := ⟨hS.1.setCell (by simp; omega) _, by simpa [World.setCell] using hS.2⟩
      have c0 := hr5.cell m hm64
      have f0 := hr5.free m
      have c1 := hr2.cell m hm64
      have hlt' : (k : Int) < 32 := by omega
      generalize partB f s k m = old at *
      generalize f m = new at *
      clear hr2 hr4 hr5 hS HK hput hm
      go_wp2
      go_roundw
      case rel => exact ⟨k + 1, by omega, by go_num, HO.out.1, HO.out.2, HN.out, HS1.out⟩
      case measure => simp [intOf]; omega
    · have hlt' : ¬ (k : Int) < 32 := by omega
      obtain ⟨hr2, hr4, hr5, hS⟩ := HK.out
      obtain rfl : k = 32 := by omega
      have HR4 : Hid (RB wr (W.heap.size + 1) (fun _ => false)) := hr4
      have HR5 : Hid (RB wr (W.heap.size + 1 + 1) (partB f s 32)) := hr5
      have HS : Hid (Since W.heap.size W wr) := hS
      clear hr2 hr4 hr5 hS HK
      go_wp2_with (first
        | (refine wpList_ringLoad (.tmp 5) rfl rfl rfl HR5.out ?_; simp only [Act.put, List.setIfInBounds_toArray, List.set_cons_zero, List.set_cons_succ])
        | (refine wpList_ringStore (.tmp 4) (.tmp 21) rfl rfl rfl rfl HR4.out ?_; simp only [Act.put]))
      refine bodyPost_ret (results_ring rfl _ _ rfl (HR4.out.row (partB f s 32))) rfl ⟨rfl, ?_⟩
      exact below_setRow HS.out.1 (Nat.le_succ _) _
end Go.Proofs.Ythdcfeafkellcab
