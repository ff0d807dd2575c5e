/-
  'l3Step' and 'StepPair' of the model.
-/
import Derived.Test.YtchddjidjfpehaaSpNo
import Derived.Test.YtchddjidjfpehaaSpTick
import Derived.Test.YtchddjidjfpehaaSpSay
import Derived.Test.YtchddjidjfpehaaSpTake
import Derived.Test.YtchddjidjfpehaaStepI
namespace Go.Proofs.Ytchddjidjfpehaa
open Go.RowKit

/-- What 'l3Step' leaves of a good pair: the step's pair, where the step can be done. -/
def L3Post (W : World) (B : Nat) (x y z : Value) (p : PR) (kind k : Int) (e : Ending) (W' : World) : Prop := ∃ q, (canB p.ln kind k = true → q = stepP p kind k) ∧ StpPost W B x y z q (canB p.ln kind k) e W'
theorem L3Post.no {W : World} {B : Nat} {x y z : Value} {p q : PR} {kind k : Int} {e : Ending} {W' : World} (hc : canB p.ln kind k = false) (h : StpPost W B x y z q false e W') : L3Post W B x y z p kind k e W' := ⟨q, (fun h1 => by rw [hc] at h1; cases h1), by rw [hc]; exact h⟩
theorem L3Post.yes {W : World} {B : Nat} {x y z : Value} {p q : PR} {kind k : Int} {e : Ending} {W' : World} (hc : canB p.ln kind k = true) (hq : q = stepP p kind k) (h : StpPost W B x y z q true e W') : L3Post W B x y z p kind k e W' := ⟨q, fun _ => hq, by rw [hc]; exact h⟩

theorem l3Step_any (W : World) (B : Nat) (x y z : Value) (p : PR) (kind k : Int) (h : Own3 W B x y z p) (hB : B ≤ W.heap.size) (hg : goodPr p = true) :
    Calls Try.prog 56 #[.agg #[x, y, z], .agg #[.int .i64 kind, .int .i64 k]] W (L3Post W B x y z p kind k) := by
  obtain ⟨s0, s1, l0, l1, ln, rfl, g0, g1, hl, hL⟩ := goodPr_form p hg
  by_cases e1 : kind = 1
  · subst e1
    by_cases hk : (0 ≤ k ∧ k ≤ 1) ∧ ln.length < 12
    · have hc : canB ln 1 k = true := by unfold canB; rw [if_pos rfl]; exact decide_eq_true hk
      obtain ⟨hk, hlt⟩ := hk
      have hk : k = 0 ∨ k = 1 := by omega
      rcases hk with rfl | rfl
      · exact (sp_say_0 W B x y z s0 s1 l0 l1 ln h hB hl hlt).mono fun e W' hp => L3Post.yes hc (by simp [stepP, bne]; rfl) hp
      · exact (sp_say_1 W B x y z s0 s1 l0 l1 ln h hB hl hlt).mono fun e W' hp => L3Post.yes hc (by simp [stepP, bne]; rfl) hp
    · have hc : canB ln 1 k = false := by unfold canB; rw [if_pos rfl]; exact decide_eq_false hk
      exact (sp_say_no W B x y z s0 s1 l0 l1 ln k h hB hl hk).mono fun e W' hp => L3Post.no hc hp
  · by_cases e23 : kind = 2 ∨ kind = 3
    · by_cases hk : 0 ≤ k ∧ k < (ln.length : Int)
      · have hc : canB ln kind k = true := by unfold canB; rw [if_neg e1, if_pos e23]; exact decide_eq_true hk
        obtain ⟨n, rfl⟩ : ∃ n : Nat, k = (n : Int) := ⟨k.toNat, by omega⟩
        have hn : n < ln.length := by omega
        obtain ⟨a1, c1, rfl, hc1⟩ := h.st.form
        obtain ⟨a2, c2, rfl, hc2⟩ := h.lf.form
        obtain ⟨r1, rfl, -⟩ := hc1.resolve_left (by simp)
        obtain ⟨r2, rfl, -⟩ := hc2.resolve_left (by simp)
        rcases h.ln.2 with ⟨-, hz⟩ | ⟨g, cap, cur, rfl, hBg, hg', hcap, -⟩
        · exact absurd hz (by show ¬ ln.length = 0; omega)
        have hcap : ln.length ≤ cap := hcap
        have hf := goodL_at ln hL n hn
        by_cases hcl : cap = n + 1
        · have hlen : ln.length = n + 1 := by omega
          subst hcl
          simp only [hlen] at h ⊢
          rcases e23 with rfl | rfl
          · rcases hf with hf | hf
            · exact (sp_take_0_a W B g r1 r2 c1 c2 n s0 s1 l0 l1 ln ln[n] h hB hl hlen hn rfl hf (goodS_state _ _ g0) (goodS_state _ _ g1)).mono fun e W' hp => L3Post.yes hc (by simp [stepP, List.getElem?_eq_getElem hn, hf]) hp
            · exact (sp_take_1_a W B g r1 r2 c1 c2 n s0 s1 l0 l1 ln ln[n] h hB hl hlen hn rfl hf (goodS_state _ _ g0) (goodS_state _ _ g1)).mono fun e W' hp => L3Post.yes hc (by simp [stepP, List.getElem?_eq_getElem hn, hf]) hp
          · exact (sp_lose_a W B g r1 r2 c1 c2 n s0 s1 l0 l1 ln ln[n] h hB hl hlen hn rfl).mono fun e W' hp => L3Post.yes hc (by simp [stepP]) hp
        · rcases e23 with rfl | rfl
          · rcases hf with hf | hf
            · exact (sp_take_0_b W B g r1 r2 c1 c2 n ln.length cap s0 s1 l0 l1 ln ln[n] h hB hl rfl hcap hcl hn rfl hf (goodS_state _ _ g0) (goodS_state _ _ g1)).mono fun e W' hp => L3Post.yes hc (by simp [stepP, List.getElem?_eq_getElem hn, hf]) hp
            · exact (sp_take_1_b W B g r1 r2 c1 c2 n ln.length cap s0 s1 l0 l1 ln ln[n] h hB hl rfl hcap hcl hn rfl hf (goodS_state _ _ g0) (goodS_state _ _ g1)).mono fun e W' hp => L3Post.yes hc (by simp [stepP, List.getElem?_eq_getElem hn, hf]) hp
          · exact (sp_lose_b W B g r1 r2 c1 c2 n ln.length cap s0 s1 l0 l1 ln ln[n] h hB hl rfl hcap hcl hn rfl).mono fun e W' hp => L3Post.yes hc (by simp [stepP]) hp
      · have hc : canB ln kind k = false := by unfold canB; rw [if_neg e1, if_pos e23]; exact decide_eq_false hk
        rcases e23 with rfl | rfl
        · exact (sp_far_2 W B x y z s0 s1 l0 l1 ln k h hB hl hk).mono fun e W' hp => L3Post.no hc hp
        · exact (sp_far_3 W B x y z s0 s1 l0 l1 ln k h hB hl hk).mono fun e W' hp => L3Post.no hc hp
    · by_cases e4 : kind = 4
      · subst e4
        by_cases hk : k = 0
        · subst hk
          exact (sp_tick_true W B x y z s0 s1 l0 l1 ln h hB hl g0 g1).mono fun e W' hp => L3Post.yes rfl rfl hp
        · have hc : canB ln 4 k = false := by unfold canB; rw [if_neg e1, if_neg e23]; exact decide_eq_false (fun hh => hk hh.2)
          exact (sp_tick_false W B x y z s0 s1 l0 l1 ln k h hB hl hk g0 g1).mono fun e W' hp => L3Post.no hc hp
      · have hc : canB ln kind k = false := by unfold canB; rw [if_neg e1, if_neg e23]; exact decide_eq_false (fun hh => e4 hh.1)
        exact (sp_rest W B x y z s0 s1 l0 l1 ln kind k h hB hl e1 (fun e => e23 (.inl e)) (fun e => e23 (.inr e)) e4).mono fun e W' hp => L3Post.no hc hp
end Go.Proofs.Ytchddjidjfpehaa
