/-
  The library's slices.SortFunc over haves of the call's own, by its contract: the same haves, by rising names.
-/
import Derived.Test.YtkpdiojomgiocacRowHv
import Derived.Test.YtkpdiojomgiocacLsShelf
import Derived.Shelf.SlSortCmp.WholeK
namespace Go.Proofs.Ytkpdiojomgiocac
open Go.RowKit Go.Sort Go.Shelf
set_option linter.unusedVariables false

/-- What is sorted: haves whose name is within 1..1000. -/
structure KeyD where
  x : HvD
  low : 1 ≤ x.From
  high : x.From ≤ 1000
instance : Inhabited KeyD := ⟨⟨⟨1, 0⟩, by decide, by decide⟩⟩
def encK (y : KeyD) : List Value := [.int .i64 y.x.From, .int .i64 y.x.Seq]
def cmpK (a b : KeyD) : Int := a.x.From - b.x.From
theorem ltK (a b : KeyD) : ltOf cmpK a b = decide (a.x.From < b.x.From) := by
  unfold ltOf cmpK
  by_cases h : a.x.From < b.x.From
  · rw [decide_eq_true h]; exact decide_eq_true (by omega)
  · rw [decide_eq_false h]; exact decide_eq_false (by omega)
theorem swoK : SWO (ltOf cmpK) where
  irrefl x := by rw [ltK]; simp
  trans x y z h1 h2 := by rw [ltK] at *; simp at *; omega
  ntrans x y z h1 h2 := by rw [ltK] at *; simp at *; omega

set_option maxHeartbeats 1000000 in
theorem closureK (x y : KeyD) (W : World) : Calls Try.prog 51 #[.agg #[.int .i64 x.x.From, .int .i64 x.x.Seq], .agg #[.int .i64 y.x.From, .int .i64 y.x.Seq]] W fun e w' => e = .returned (.int .i64 (cmpK x y)) ∧ ∃ q os', w' = grow (W.drewN q) os' := by
  have HW : Hid (IntKind.i64.wrap (x.x.From - y.x.From) = cmpK x y) := by
    show _ = _
    rw [IntKind.wrap_i64]
    have := x.low; have := x.high; have := y.low; have := y.high
    unfold cmpK
    omega
  generalize cmpK x y = r at *
  generalize x.x.From = a at *
  generalize x.x.Seq = a2 at *
  generalize y.x.From = b at *
  generalize y.x.Seq = b2 at *
  have hw := HW.out
  go_enter Try.func51, Try.ntmps51
  go_wp2
  go_ret
  exact ⟨rfl, 0, _, by rw [alloc_eq_grow, alloc_eq_grow, grow_grow]; rfl⟩
theorem cmpLaysK (blk off size : Nat) (w : World) : CmpLays Try.prog 51 #[] encK 2 cmpK blk off size w := fun _ _ _ _ x y => closureK x y _

theorem lift_keys : ∀ acc : List HvD, (∀ x ∈ acc, 1 ≤ x.From ∧ x.From ≤ 1000) → ∃ ds : List KeyD, ds.map KeyD.x = acc
  | [], _ => ⟨[], rfl⟩
  | x :: r, h => by
    obtain ⟨ds, e⟩ := lift_keys r fun y hy => h y (List.mem_cons_of_mem _ hy)
    have hx := h x (List.mem_cons_self ..)
    exact ⟨⟨x, hx.1, hx.2⟩ :: ds, by simp [e]⟩
theorem cells_keys (ds : List KeyD) (t : Nat) (h : t < ds.length * 2) : (cellsHv (ds.map KeyD.x))[t]? = some (flatK encK 2 ds.toArray)[t]! := by
  rw [get_flatK encK 2 ds.toArray t (by simpa using h)]
  have hj : t / 2 < ds.length := by omega
  have c := cellsHv_get (ds.map KeyD.x) (t / 2) (by simpa using hj)
  have e : ds.toArray[t / 2]! = ds[t / 2] := by simp [hj]
  rw [e]
  simp only [List.getElem_map] at c
  rcases Nat.mod_two_eq_zero_or_one t with h0 | h0
  · rw [show t / 2 * 2 = t by omega] at c
    rw [c.1, h0]
    rfl
  · rw [show t / 2 * 2 + 1 = t by omega] at c
    rw [c.2, h0]
    rfl
theorem holds_keys {W : World} {B g cap : Nat} {ds : List KeyD} (h : OwnHv W B (.slice (some ⟨g, 0, none⟩) (ds.map KeyD.x).length cap) (ds.map KeyD.x)) : HoldsK encK 2 W g 0 ds.toArray := by
  intro j hj
  rw [size_flatK] at hj
  have hj' : j < ds.length * 2 := by simpa using hj
  refine ⟨?_, World.ownsRow.frozenAt h _⟩
  rw [Nat.zero_add, World.ownsRow.cellAt h j (by simpa using hj')]
  exact cells_keys ds j hj'

theorem heap_sortedV {w : World} {g n : Nat} {os : Array Obj} {cur : Array Value} {e : TypeId} {fr : Nat × Nat} (d : Array Value) (hb : w.heap[g]? = some (.cells cur e fr)) :
    (grow (putRow id (Sort.ahead w n) g 0 d) os).heap[g]? = some (.cells (putCells id 0 d cur) e fr) := by
  have hg : g < w.heap.size := (Array.getElem?_eq_some_iff.1 hb).1
  rw [heap_grow_old _ _ (by simpa using hg)]
  simp [putRow, mapBlock, Sort.ahead, Array.getElem?_modify, hb, onCells]
theorem grownBy_sortedV {w : World} {g n : Nat} {os : Array Obj} (d : Array Value) : w.grownBy (grow (putRow id (Sort.ahead w n) g 0 d) os) (some g) := by
  refine ⟨rfl, rfl, rfl, by simp, fun k hk hne => ?_⟩
  rw [heap_grow_old _ _ (by simpa using hk)]
  have : g ≠ k := fun e => hne (by rw [e])
  simp [putRow, mapBlock, Sort.ahead, Array.getElem?_modify, this]
theorem take_putCellsV (cur d : Array Value) (xs : List Value) (hd : d.toList = xs) (h : d.size ≤ cur.size) : (putCells id 0 d cur).toList.take xs.length = xs := by
  subst hd
  apply List.ext_getElem?
  intro j
  by_cases hj : j < d.size
  · rw [List.getElem?_take_of_lt (by simpa using hj), Array.getElem?_toList]
    simp [putCells, hj, show j < cur.size by omega]
  · rw [List.getElem?_take_eq_none (by simpa using hj), List.getElem?_eq_none (by simpa using hj)]
theorem flat_list (ds : List KeyD) : (flatK encK 2 ds.toArray).toList = cellsHv (ds.map KeyD.x) := by
  apply List.ext_getElem?
  intro t
  by_cases ht : t < ds.length * 2
  · rw [cells_keys ds t ht, Array.getElem?_toList]
    have : t < (flatK encK 2 ds.toArray).size := by simpa using ht
    rw [Array.getElem?_eq_getElem this, getElem!_pos _ t this]
  · rw [List.getElem?_eq_none (by simpa using ht), List.getElem?_eq_none (by rw [cellsHv_len]; simpa using ht)]

theorem lenZero (W : World) : Calls Try.prog 53 #[.int .u64 0] W fun e w' => e = .returned (.int .i64 0) ∧ w' = W := by
  have h := Any.bits_Len (SlLaysF0.n15.bits (P := Try.prog) (ρ := sortHv_ren) { sortHv with }) 0 W (by omega) (by omega)
  exact h
theorem insNone (p : Option Addr) (cap : Nat) (fv : Value) (W : World) : Calls Try.prog 54 #[.slice p 0 cap, .int .i64 0, .int .i64 0, fv] W fun e w' => e = .returned (.tuple #[]) ∧ w' = W := by
  go_enter Try.func54, Try.ntmps54
  go_wp2
  refine wp_loop_rounds 1 ?_
  rw [rounds_succ]
  go_wp2
  go_end0
  exact ⟨rfl, rfl⟩
theorem pdqNone (p : Option Addr) (cap : Nat) (lim : Int) (fv : Value) (W : World) : Calls Try.prog 52 #[.slice p 0 cap, .int .i64 0, .int .i64 0, .int .i64 lim, fv] W fun e w' => e = .returned (.tuple #[]) ∧ w' = W := by
  have hi := insNone p cap fv
  go_enter Try.func52, Try.ntmps52
  go_wp2
  refine wp_loop_rounds 1 ?_
  rw [rounds_succ]
  go_wp2_with (go_at_call 54; refine (hi _).mono ?_; rintro e w' ⟨rfl, rfl⟩)
  (try simp only [Exit.inBlock, Exit.then])
  refine bodyPost_ret (results_none rfl _ _ _) rfl ?_
  exact ⟨rfl, rfl⟩
theorem sortNone (p : Option Addr) (cap : Nat) (fv : Value) (W : World) : Calls Try.prog 50 #[.slice p 0 cap, fv] W fun e w' => e = .returned (.tuple #[]) ∧ w' = W := by
  have hl := lenZero
  have hp := pdqNone p cap 0 fv
  go_enter Try.func50, Try.ntmps50
  go_wp2_with fail
  refine (hl _).mono ?_
  rintro e w' ⟨rfl, rfl⟩
  go_wp2_with fail
  refine (hp _).mono ?_
  rintro e w' ⟨rfl, rfl⟩
  go_wp2
  go_end0
  exact ⟨rfl, rfl⟩

/-- Sorted haves of the call's own. -/
theorem sort_any (W : World) (B : Nat) (v : Value) (acc : List HvD) (h : OwnHv W B v acc) (hk : ∀ x ∈ acc, 1 ≤ x.From ∧ x.From ≤ 1000) (hl : acc.length ≤ 1048576) :
    Calls Try.prog 50 #[v, .func (.func 51) #[] #[]] W fun e W' => e = .returned (.tuple #[]) ∧
      ∃ L : List HvD, L.Perm acc ∧ L.Pairwise (fun a b => a.From ≤ b.From) ∧ OwnHv W' B v L ∧ Below B W W' := by
  obtain ⟨ds, rfl⟩ := lift_keys acc hk
  rcases h.2 with ⟨rfl, hn⟩ | ⟨g, cap, cur, rfl, hBg, hg, hnc, hmx, hcs, htk⟩
  · have e0 : ds.map KeyD.x = [] := List.eq_nil_of_length_eq_zero hn
    rw [e0]
    refine (sortNone none 0 _ W).mono ?_
    rintro e w' ⟨rfl, rfl⟩
    exact ⟨rfl, [], List.Perm.refl _, List.Pairwise.nil, OwnHv.nil _ _, Below.refl _ _⟩
  · have eg : ∀ args w, (callFunc 51 args).run Try.prog w = .ok (.enter 51 args) w := enters_of Try.func51 (by kernel_rfl) rfl
    have hlt : g < W.heap.size := (Array.getElem?_eq_some_iff.1 hg).1
    have hcon := AnyQ.slices_SortFunc sortHv 2 Try.isAgg41 Try.sizeOf41 encK (fun _ => rfl) (fun x v hv => by simp [encK] at hv; rcases hv with rfl | rfl <;> rfl) cmpK swoK 51 #[] g 0 cap ds.toArray W eg (cmpLaysK g 0 ds.toArray.size W) (holds_keys h) hlt (by simp at hl ⊢; omega)
    have es : (ds.map KeyD.x).length = ds.toArray.size := by simp
    rw [es]
    refine hcon.mono ?_
    rintro e w' ⟨rfl, d', n, os, hp, hs, rfl⟩
    obtain ⟨hsz, -, hperm⟩ := hp
    have hfull : ∀ d : Array KeyD, d.size = ds.toArray.size → (d.extract 0 ds.toArray.size).toList = d.toList := fun d e => by rw [← e, Array.extract_size]
    rw [hfull d' hsz, hfull ds.toArray rfl] at hperm
    refine ⟨rfl, d'.toList.map KeyD.x, hperm.map _, ?_, ?_, ?_⟩
    · rw [List.pairwise_map]
      refine List.pairwise_iff_getElem.2 fun i j hi hj hij => ?_
      have hj' : j < ds.toArray.size := by rw [← hsz]; simpa using hj
      have := hs i j (Nat.zero_le _) hij hj'
      rw [ltK, getElem!_pos d' j (by simpa using hj), getElem!_pos d' i (by simpa using hi)] at this
      have := of_decide_eq_false this
      simp only [Array.getElem_toList]
      omega
    · have hlen : (d'.toList.map KeyD.x).length = (ds.map KeyD.x).length := by simpa using hsz
      have hfl := flat_list d'.toList
      have e2 : d'.toList.toArray = d' := by simp
      rw [e2] at hfl
      have hr : (sortWorldK encK 2 W g 0 n d' os).ownsRow B 41 2 (.slice (some ⟨g, 0, none⟩) (ds.map KeyD.x).length cap) (d'.toList.map KeyD.x).length (cellsHv (d'.toList.map KeyD.x)) := by
        refine ⟨by rw [cellsHv_len], .inr ⟨g, cap, _, by rw [hlen], hBg, heap_sortedV _ hg, by omega, hmx, by simp [putCells, hcs], ?_⟩⟩
        have h2 : (d'.toList.map KeyD.x).length * 2 = (cellsHv (d'.toList.map KeyD.x)).length := (cellsHv_len _).symm
        rw [h2]
        refine take_putCellsV _ _ _ hfl ?_
        rw [size_flatK, hcs]
        have : d'.size = (ds.map KeyD.x).length := by simpa using hsz
        omega
      rw [← es]
      exact hr
    · exact (Below.refl B W).grown (grownBy_sortedV _) (Nat.le_trans hBg (Nat.le_of_lt hlt)) fun j hj => by cases hj; exact hBg
end Go.Proofs.Ytkpdiojomgiocac
