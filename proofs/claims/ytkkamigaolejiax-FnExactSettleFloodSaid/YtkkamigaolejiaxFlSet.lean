/-
  Floods that settle, as plain data: what a step does, and that each step comes nearer to the end.
-/
import Derived.Test.YtkkamigaolejiaxFlMath
namespace Go.Proofs.Ytkkamigaolejiax
set_option linter.unusedVariables false

/-- Sums over the first n numbers. -/
def sumN (n : Nat) (g : Nat → Int) : Int := ((List.range n).map g).sum
theorem sumN_succ (n : Nat) (g : Nat → Int) : sumN (n + 1) g = sumN n g + g n := by unfold sumN; rw [List.range_succ, List.map_append, List.sum_append]; simp
theorem sumN_congr : ∀ (n : Nat) (g h : Nat → Int), (∀ k, k < n → g k = h k) → sumN n g = sumN n h
  | 0, g, h, _ => rfl
  | n + 1, g, h, e => by rw [sumN_succ, sumN_succ, sumN_congr n g h fun k hk => e k (by omega), e n (by omega)]
theorem sumN_le : ∀ (n : Nat) (g : Nat → Int) (c : Int), (∀ k, k < n → g k ≤ c) → sumN n g ≤ n * c
  | 0, g, c, _ => by simp [sumN]
  | n + 1, g, c, h => by
    have := sumN_le n g c fun k hk => h k (by omega)
    have := h n (by omega)
    rw [sumN_succ]
    have e : ((n + 1 : Nat) : Int) * c = n * c + c := by rw [Int.natCast_add, Int.add_mul]; simp
    omega
theorem sumN_nonneg : ∀ (n : Nat) (g : Nat → Int), (∀ k, k < n → 0 ≤ g k) → 0 ≤ sumN n g
  | 0, g, _ => by simp [sumN]
  | n + 1, g, h => by
    have := sumN_nonneg n g fun k hk => h k (by omega)
    have := h n (by omega)
    rw [sumN_succ]
    omega
theorem sumN_one : ∀ (n : Nat) (g h : Nat → Int) (i : Nat), i < n → (∀ k, k < n → k ≠ i → g k = h k) → sumN n g = sumN n h + (g i - h i)
  | n + 1, g, h, i, hi, e => by
    rw [sumN_succ, sumN_succ]
    by_cases hin : i = n
    · subst hin
      rw [sumN_congr i g h fun k hk => e k (by omega) (by omega)]
      omega
    · rw [sumN_one n g h i (by omega) fun k hk hne => e k (by omega) hne, e n (by omega) (fun h => hin h.symm)]
      omega
theorem sumN_two (n : Nat) (g h : Nat → Int) (i r : Nat) (hi : i < n) (hr : r < n) (hir : i ≠ r) (e : ∀ k, k < n → k ≠ i → k ≠ r → g k = h k) : sumN n g = sumN n h + (g i - h i) + (g r - h r) := by
  have h1 := sumN_one n g (fun k => if k = r then g r else h k) i hi fun k hk hne => by
    by_cases hkr : k = r
    · subst hkr; simp
    · simp [hkr, e k hk hne hkr]
  have h2 := sumN_one n (fun k => if k = r then g r else h k) h r hr fun k hk hne => by simp [hne]
  simp only [if_neg hir] at h1 h2
  simp at h2
  omega

/-- A cell of rows. -/
def atR (rows : List (List Int)) (i j : Nat) : Int := (rows.getD i []).getD j 0
def setR (rows : List (List Int)) (i j : Nat) (x : Int) : List (List Int) := rows.set i ((rows.getD i []).set j x)
theorem setR_len (rows : List (List Int)) (i j : Nat) (x : Int) : (setR rows i j x).length = rows.length := by simp [setR]
theorem setR_row (rows : List (List Int)) (i j : Nat) (x : Int) (k : Nat) : (setR rows i j x).getD k [] = if k = i ∧ i < rows.length then (rows.getD i []).set j x else rows.getD k [] := by
  unfold setR
  simp only [List.getD_eq_getElem?_getD, List.getElem?_set]
  by_cases h : i = k
  · subst h
    by_cases h2 : i < rows.length
    · simp [h2]
    · simp [h2]
  · have h' : ¬ k = i := fun e => h e.symm
    simp [h, h']
theorem getD_setI (l : List Int) (i j : Nat) (x : Int) (hi : i < l.length) : (l.set i x).getD j 0 = if j = i then x else l.getD j 0 := by
  simp only [List.getD_eq_getElem?_getD, List.getElem?_set]
  by_cases h : i = j
  · subst h; simp [hi]
  · have h' : ¬ j = i := fun e => h e.symm
    simp [h, h']
/-- Rows of one length, within bounds. -/
structure Mat (rows : List (List Int)) (m n : Nat) (hi : Int) : Prop where
  len : rows.length = m
  row : ∀ i, i < m → (rows.getD i []).length = n
  lo : ∀ i j, i < m → j < n → 0 ≤ atR rows i j
  up : ∀ i j, i < m → j < n → atR rows i j ≤ hi
theorem Mat.at {rows : List (List Int)} {m n : Nat} {hi : Int} (h : Mat rows m n hi) {i j : Nat} (hi' : i < m) (hj : j < n) (x : Int) (a b : Nat) : atR (setR rows i j x) a b = if a = i ∧ b = j then x else atR rows a b := by
  unfold atR
  rw [setR_row]
  by_cases ha : a = i
  · subst ha
    rw [if_pos ⟨rfl, by rw [h.len]; exact hi'⟩, getD_setI _ _ _ _ (by rw [h.row a hi']; exact hj)]
    by_cases hb : b = j
    · simp [hb]
    · simp [hb]
  · rw [if_neg (fun e => ha e.1), if_neg (fun e => ha e.1)]
theorem Mat.set {rows : List (List Int)} {m n : Nat} {hi : Int} (h : Mat rows m n hi) {i j : Nat} (hi' : i < m) (hj : j < n) {x : Int} (h0 : 0 ≤ x) (h1 : x ≤ hi) : Mat (setR rows i j x) m n hi := by
  refine ⟨by rw [setR_len]; exact h.len, fun k hk => ?_, fun a b ha hb => ?_, fun a b ha hb => ?_⟩
  · rw [setR_row]
    split
    · rw [List.length_set]; exact h.row i hi'
    · exact h.row k hk
  · rw [h.at hi' hj]
    split
    · exact h0
    · exact h.lo a b ha hb
  · rw [h.at hi' hj]
    split
    · exact h1
    · exact h.up a b ha hb
theorem Mat.ext {r s : List (List Int)} {m n : Nat} {a b : Int} (h : Mat r m n a) (h' : Mat s m n b) (e : ∀ i j, i < m → j < n → atR r i j = atR s i j) : r = s := by
  refine List.ext_getElem (by rw [h.len, h'.len]) fun i h1 h2 => ?_
  have hi : i < m := by rw [← h.len]; exact h1
  have r1 : r.getD i [] = r[i] := getL_at r i h1
  have r2 : s.getD i [] = s[i] := getL_at s i h2
  have l1 := h.row i hi
  have l2 := h'.row i hi
  rw [r1] at l1
  rw [r2] at l2
  refine List.ext_getElem (by rw [l1, l2]) fun j h3 h4 => ?_
  have := e i j hi (by rw [← l1]; exact h3)
  unfold atR at this
  rw [r1, r2, List.getD_eq_getElem?_getD, List.getD_eq_getElem?_getD, List.getElem?_eq_getElem h3, List.getElem?_eq_getElem h4] at this
  exact this

def noD : DbD := ⟨0, 0⟩
def dp (ds : List DbD) (i : Nat) : Nat := (ds.getD i noD).p.toNat
def dq (ds : List DbD) (i : Nat) : Nat := (ds.getD i noD).q.toNat
/-- A node owes it to all, in the first k rows. -/
def oweTo (ds : List DbD) (rows : List (List Int)) (node u : Nat) : Nat → List (List Int)
  | 0 => rows
  | k + 1 => if dp ds k = node then setR (oweTo ds rows node u k) k u 1 else oweTo ds rows node u k
theorem oweTo_mat {ds : List DbD} {rows : List (List Int)} {m n : Nat} (h : Mat rows m n 1) (node : Nat) {u : Nat} (hu : u < n) : ∀ k, k ≤ m → Mat (oweTo ds rows node u k) m n 1 ∧ ∀ a b, a < m → b < n → atR (oweTo ds rows node u k) a b = if a < k ∧ dp ds a = node ∧ b = u then 1 else atR rows a b
  | 0, _ => ⟨h, fun a b _ _ => by simp [oweTo]⟩
  | k + 1, hk => by
    obtain ⟨ih, ia⟩ := oweTo_mat h node hu k (by omega)
    unfold oweTo
    by_cases hd : dp ds k = node
    · rw [if_pos hd]
      refine ⟨ih.set (by omega) hu (by omega) (by omega), fun a b ha hb => ?_⟩
      rw [ih.at (by omega) hu, ia a b ha hb]
      by_cases hab : a = k ∧ b = u
      · obtain ⟨rfl, rfl⟩ := hab
        rw [if_pos ⟨rfl, rfl⟩, if_pos ⟨by omega, hd, rfl⟩]
      · rw [if_neg hab]
        by_cases hc : a < k ∧ dp ds a = node ∧ b = u
        · rw [if_pos hc, if_pos ⟨by omega, hc.2⟩]
        · rw [if_neg hc, if_neg (fun e => by
            by_cases hak : a = k
            · exact hab ⟨hak, e.2.2⟩
            · exact hc ⟨by omega, e.2⟩)]
    · rw [if_neg hd]
      refine ⟨ih, fun a b ha hb => ?_⟩
      rw [ia a b ha hb]
      by_cases hc : a < k ∧ dp ds a = node ∧ b = u
      · rw [if_pos hc, if_pos ⟨by omega, hc.2⟩]
      · rw [if_neg hc, if_neg (fun e => by
          by_cases hak : a = k
          · rw [hak] at e; exact hd e.2.1
          · exact hc ⟨by omega, e.2⟩)]

/-- What taking an entry does: r is the row of who hears it and who said it. -/
def takeE (ds : List DbD) (f : FD) (to u : Nat) (seq : Int) (r : Nat) : FD :=
  if atR f.kn to u < seq then ⟨f.lk, setR f.kn to u seq, setR (oweTo ds f.ow to u ds.length) r u 0, f.ln⟩
  else ⟨f.lk, f.kn, setR f.ow r u (if seq < atR f.kn to u then 1 else 0), f.ln⟩
/-- What taking an Ack does. -/
def takeA (f : FD) (to u : Nat) (seq : Int) (r : Nat) : FD := if atR f.kn to u = seq then ⟨f.lk, f.kn, setR f.ow r u 0, f.ln⟩ else f
/-- One thing that is owed is dealt with: i the row, r the row of the same two the other way round. -/
def stepS (ds : List DbD) (f : FD) (i u r : Nat) : FD :=
  if atR f.kn (dp ds i) u = 0 then ⟨f.lk, f.kn, setR f.ow i u 0, f.ln⟩
  else takeA (takeE ds ⟨f.lk, f.kn, f.ow, []⟩ (dq ds i) u (atR f.kn (dp ds i) u) r) (dp ds i) u (atR f.kn (dp ds i) u) i

/-- A flood whose numbers are as said, of n nodes and m rows. -/
structure Num (ds : List DbD) (n m : Nat) (f : FD) : Prop where
  kn : Mat f.kn n n 60
  ow : Mat f.ow m n 1
  dl : ds.length = m
  hp : ∀ i, i < m → dp ds i < n
  hq : ∀ i, i < m → dq ds i < n

def m1 (n : Nat) (f : FD) : Int := sumN n fun v => sumN n fun u => 60 - atR f.kn v u
def wt (ds : List DbD) (f : FD) (i u : Nat) : Int := atR f.ow i u * (if atR f.kn (dp ds i) u < atR f.kn (dq ds i) u then 2 else 1)
def m2 (ds : List DbD) (n m : Nat) (f : FD) : Int := sumN m fun i => sumN n fun u => wt ds f i u
/-- How far a flood is from being settled. -/
def far (ds : List DbD) (n m : Nat) (f : FD) : Int := 1000 * m1 n f + m2 ds n m f
theorem wt_bound {ds : List DbD} {n m : Nat} {f : FD} (h : Num ds n m f) {i u : Nat} (hi : i < m) (hu : u < n) : 0 ≤ wt ds f i u ∧ wt ds f i u ≤ 2 := by
  have h0 := h.ow.lo i u hi hu
  have h1 := h.ow.up i u hi hu
  unfold wt
  have e : atR f.ow i u = 0 ∨ atR f.ow i u = 1 := by omega
  rcases e with e | e <;> rw [e] <;> split <;> omega
theorem m2_bound {ds : List DbD} {n m : Nat} {f : FD} (h : Num ds n m f) (hn : n ≤ 6) (hm : m ≤ 36) : 0 ≤ m2 ds n m f ∧ m2 ds n m f ≤ 432 := by
  refine ⟨sumN_nonneg _ _ fun i hi => sumN_nonneg _ _ fun u hu => (wt_bound h hi hu).1, ?_⟩
  have h1 : ∀ i, i < m → sumN n (fun u => wt ds f i u) ≤ 12 := fun i hi => by
    have := sumN_le n (fun u => wt ds f i u) 2 fun u hu => (wt_bound h hi hu).2
    omega
  have := sumN_le m (fun i => sumN n fun u => wt ds f i u) 12 h1
  unfold m2
  omega
theorem m1_bound {ds : List DbD} {n m : Nat} {f : FD} (h : Num ds n m f) (hn : n ≤ 6) : 0 ≤ m1 n f ∧ m1 n f ≤ 2160 := by
  refine ⟨sumN_nonneg _ _ fun v hv => sumN_nonneg _ _ fun u hu => by have := h.kn.up v u hv hu; omega, ?_⟩
  have h1 : ∀ v, v < n → sumN n (fun u => 60 - atR f.kn v u) ≤ 360 := fun v hv => by
    have := sumN_le n (fun u => 60 - atR f.kn v u) 60 fun u hu => by have := h.kn.lo v u hv hu; omega
    omega
  have := sumN_le n (fun v => sumN n fun u => 60 - atR f.kn v u) 360 h1
  unfold m1
  omega
theorem far_bound {ds : List DbD} {n m : Nat} {f : FD} (h : Num ds n m f) (hn : n ≤ 6) (hm : m ≤ 36) : 0 ≤ far ds n m f ∧ far ds n m f ≤ 2200000 := by
  have := m1_bound h hn
  have := m2_bound h hn hm
  unfold far
  omega

theorem Num.clear {ds : List DbD} {n m : Nat} {f : FD} (h : Num ds n m f) (ln : List LtD) : Num ds n m ⟨f.lk, f.kn, f.ow, ln⟩ := ⟨h.kn, h.ow, h.dl, h.hp, h.hq⟩
theorem Num.setOw {ds : List DbD} {n m : Nat} {f : FD} (h : Num ds n m f) {i u : Nat} (hi : i < m) (hu : u < n) {x : Int} (h0 : 0 ≤ x) (h1 : x ≤ 1) (ln : List LtD) : Num ds n m ⟨f.lk, f.kn, setR f.ow i u x, ln⟩ := ⟨h.kn, h.ow.set hi hu h0 h1, h.dl, h.hp, h.hq⟩
theorem takeE_num {ds : List DbD} {n m : Nat} {f : FD} (h : Num ds n m f) {to u r : Nat} (ht : to < n) (hu : u < n) (hr : r < m) {seq : Int} (h0 : 0 ≤ seq) (h1 : seq ≤ 60) : Num ds n m (takeE ds f to u seq r) := by
  unfold takeE
  split
  · have ho := (oweTo_mat (ds := ds) h.ow to hu ds.length (by rw [h.dl]; exact Nat.le_refl _)).1
    exact ⟨h.kn.set ht hu h0 h1, ho.set hr hu (by omega) (by omega), h.dl, h.hp, h.hq⟩
  · refine h.setOw hr hu ?_ ?_ _ <;> split <;> omega
theorem takeA_num {ds : List DbD} {n m : Nat} {f : FD} (h : Num ds n m f) {to u r : Nat} (hu : u < n) (hr : r < m) (seq : Int) : Num ds n m (takeA f to u seq r) := by
  unfold takeA
  split
  · exact h.setOw hr hu (by omega) (by omega) _
  · exact h
theorem stepS_num {ds : List DbD} {n m : Nat} {f : FD} (h : Num ds n m f) {i u r : Nat} (hi : i < m) (hu : u < n) (hr : r < m) : Num ds n m (stepS ds f i u r) := by
  unfold stepS
  have hp := h.hp i hi
  have hq := h.hq i hi
  split
  · exact h.setOw hi hu (by omega) (by omega) _
  · exact takeA_num (takeE_num (h.clear []) hq hu hr (h.kn.lo _ _ hp hu) (h.kn.up _ _ hp hu)) hu hi _

/-- What changes a cell of what is owed, and no more. -/
theorem m2_one {ds : List DbD} {n m : Nat} {f : FD} (h : Num ds n m f) {i u : Nat} (hi : i < m) (hu : u < n) (x : Int) (ln : List LtD) : m2 ds n m ⟨f.lk, f.kn, setR f.ow i u x, ln⟩ = m2 ds n m f + (x - atR f.ow i u) * (if atR f.kn (dp ds i) u < atR f.kn (dq ds i) u then 2 else 1) := by
  unfold m2
  rw [sumN_one m _ (fun i => sumN n fun u => wt ds f i u) i hi fun k hk hne => sumN_congr n _ _ fun v hv => by
    unfold wt
    simp only
    rw [h.ow.at hi hu, if_neg (fun e => hne e.1)]]
  rw [sumN_one n (fun v => wt ds ⟨f.lk, f.kn, setR f.ow i u x, ln⟩ i v) (fun v => wt ds f i v) u hu fun k hk hne => by
    unfold wt
    simp only
    rw [h.ow.at hi hu, if_neg (fun e => hne e.2)]]
  have e : wt ds ⟨f.lk, f.kn, setR f.ow i u x, ln⟩ i u = x * (if atR f.kn (dp ds i) u < atR f.kn (dq ds i) u then 2 else 1) := by
    unfold wt
    simp only
    rw [h.ow.at hi hu, if_pos ⟨rfl, rfl⟩]
  rw [e]
  unfold wt
  rw [Int.sub_mul]
  omega
theorem m1_same (n : Nat) (f g : FD) (h : g.kn = f.kn) : m1 n g = m1 n f := by unfold m1; rw [h]
theorem m1_less {ds : List DbD} {n m : Nat} {f g : FD} (h : Num ds n m f) {v u : Nat} (hv : v < n) (hu : u < n) {x : Int} (hx : atR f.kn v u < x) (e : g.kn = setR f.kn v u x) : m1 n g < m1 n f := by
  unfold m1
  rw [e]
  rw [sumN_one n _ (fun v => sumN n fun u => 60 - atR f.kn v u) v hv fun k hk hne => sumN_congr n _ _ fun w hw => by rw [h.kn.at hv hu, if_neg (fun e => hne e.1)]]
  rw [sumN_one n (fun w => 60 - atR (setR f.kn v u x) v w) (fun w => 60 - atR f.kn v w) u hu fun k hk hne => by rw [h.kn.at hv hu, if_neg (fun e => hne e.2)]]
  rw [h.kn.at hv hu, if_pos ⟨rfl, rfl⟩]
  omega

/-- Each step comes nearer to the end. -/
theorem far_less {ds : List DbD} {n m : Nat} {f : FD} (h : Num ds n m f) (hn : n ≤ 6) (hm : m ≤ 36) {i u r : Nat} (hi : i < m) (hu : u < n) (hr : r < m) (hio : atR f.ow i u = 1) (hrp : dp ds r = dq ds i) (hrq : dq ds r = dp ds i) (hne : dp ds i ≠ dq ds i) : far ds n m (stepS ds f i u r) < far ds n m f := by
  have hp := h.hp i hi
  have hq := h.hq i hi
  have hir : i ≠ r := fun e => by subst e; exact hne hrp
  have hN := stepS_num h hi hu hr
  have b2 := m2_bound h hn hm
  have b2' := m2_bound hN hn hm
  unfold far
  by_cases hz : atR f.kn (dp ds i) u = 0
  · have e : stepS ds f i u r = ⟨f.lk, f.kn, setR f.ow i u 0, f.ln⟩ := by unfold stepS; rw [if_pos hz]
    have q1 : m1 n (stepS ds f i u r) = m1 n f := by rw [e]; exact m1_same n f _ rfl
    rw [q1, e, m2_one h hi hu 0 f.ln, hio]
    split <;> omega
  · have e : stepS ds f i u r = takeA (takeE ds ⟨f.lk, f.kn, f.ow, []⟩ (dq ds i) u (atR f.kn (dp ds i) u) r) (dp ds i) u (atR f.kn (dp ds i) u) i := by unfold stepS; rw [if_neg hz]
    by_cases hlt : atR f.kn (dq ds i) u < atR f.kn (dp ds i) u
    · have ekn : (stepS ds f i u r).kn = setR f.kn (dq ds i) u (atR f.kn (dp ds i) u) := by
        rw [e]
        unfold takeE
        rw [if_pos hlt]
        unfold takeA
        split <;> rfl
      have := m1_less h hq hu hlt ekn
      omega
    · have hc := h.clear []
      have eE : takeE ds ⟨f.lk, f.kn, f.ow, []⟩ (dq ds i) u (atR f.kn (dp ds i) u) r = ⟨f.lk, f.kn, setR f.ow r u (if atR f.kn (dp ds i) u < atR f.kn (dq ds i) u then 1 else 0), []⟩ := by unfold takeE; rw [if_neg hlt]
      have hE : Num ds n m ⟨f.lk, f.kn, setR f.ow r u (if atR f.kn (dp ds i) u < atR f.kn (dq ds i) u then 1 else 0), []⟩ := h.setOw hr hu (by split <;> omega) (by split <;> omega) []
      have eA : stepS ds f i u r = ⟨f.lk, f.kn, setR (setR f.ow r u (if atR f.kn (dp ds i) u < atR f.kn (dq ds i) u then 1 else 0)) i u 0, []⟩ := by
        rw [e, eE]
        unfold takeA
        rw [if_pos rfl]
      have s1 := m2_one hE hi hu 0 []
      have s2 := m2_one h hr hu (if atR f.kn (dp ds i) u < atR f.kn (dq ds i) u then 1 else 0) []
      have hoi : atR (setR f.ow r u (if atR f.kn (dp ds i) u < atR f.kn (dq ds i) u then 1 else 0)) i u = 1 := by rw [h.ow.at hr hu, if_neg (fun e => hir e.1)]; exact hio
      have ro0 := h.ow.lo r u hr hu
      have ro1 := h.ow.up r u hr hu
      have q1 : m1 n (stepS ds f i u r) = m1 n f := by rw [eA]; exact m1_same n f _ rfl
      rw [q1, eA]
      simp only at s1
      rw [s1, s2, hoi, hrp, hrq]
      have er : atR f.ow r u = 0 ∨ atR f.ow r u = 1 := by omega
      by_cases hgt : atR f.kn (dp ds i) u < atR f.kn (dq ds i) u
      · rw [if_pos hgt, if_neg (show ¬ atR f.kn (dq ds i) u < atR f.kn (dp ds i) u by omega)]
        rcases er with er | er <;> rw [er] <;> omega
      · rw [if_neg hgt]
        rcases er with er | er <;> rw [er] <;> split <;> omega
end Go.Proofs.Ytkkamigaolejiax
