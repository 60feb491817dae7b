/- A region that draws its order inside a round of a range over a function: as outside of one. Conditions: it defers nothing. -/
import Derived.Test.YtgoffjpfddmhhaaGreatDoorPK06
import Derived.Deep.RegionHeld3
import Derived.Stop.RegionWithIn
import Derived.BigRegionIn
namespace Go.Proofs.YtgoffjpfddmhhaaGreatDoor
open Go.RowKit Go.Shelf
set_option linter.unusedVariables false
set_option maxRecDepth 100000

def noDefer (ops : Array Oper) : Bool := ops.all (fun o => match o.op with | .defer _ => false | _ => true)
theorem noDefer_at {ops : Array Oper} (h : noDefer ops = true) {i : Nat} {o : Oper} (e : ops[i]? = some o) : ∀ c, o.op ≠ .defer c := by
  intro c hc
  unfold noDefer at h
  rw [Array.all_eq_true'] at h
  have := h o (Array.mem_of_getElem? e)
  rw [hc] at this
  simp at this
theorem uponIn_round {F : Fence} {l n : Nat} {P : Program} {o : Oper} {a : Act} {K : Act → World → Prop} {Q : Exit → Act → World → Prop} {r : Result Next} (h : o.uponIn F n P a K Q r) : o.uponIn (F.inRound l) n P a K Q r := by
  cases r with
  | ok x w' => cases x <;> exact h
  | _ => exact h
theorem wpAnyIn_round {F : Fence} {l n : Nat} {P : Program} {md : Region.Mode} {ops : Array Oper} {Q : Exit → Act → World → Prop} (hro : F.round = none) (hnd : noDefer ops = true) : ∀ (fuel : Nat) (listed : Array Bool) (a : Act) (w : World), wpAnyIn F n P md ops Q fuel listed a w → wpAnyIn (F.inRound l) n P md ops Q fuel listed a w := by
  intro fuel
  induction fuel with
  | zero => intro listed a w h; exact h
  | succ fuel ih =>
    intro listed a w h
    refine ⟨h.1, fun i hi => ?_⟩
    have hs := h.2 i hi
    unfold wpOpIn at hs ⊢
    cases ho : ops[i]? with
    | none =>
      rw [ho] at hs
      exact ih _ _ _ hs
    | some o =>
      rw [ho] at hs
      have hn := noDefer_at hnd ho
      dsimp only at hs ⊢
      by_cases hw : Region.wanted o (yielded ops a.tmps) = true
      · rw [if_pos hw] at hs ⊢
        have h2 := Oper.wpIn_mono (K' := wpAnyIn (F.inRound l) n P md ops Q fuel (listed.setIfInBounds i true)) (fun a w => ih _ a w) hs
        unfold Oper.wpIn at h2 ⊢
        refine ⟨h2.1, ?_⟩
        have h3 := h2.2
        rw [Oper.semAt_eq _ _ _ hn] at h3 ⊢
        exact uponIn_round h3
      · rw [if_neg hw] at hs ⊢
        exact ⟨hs.1, ih _ _ _ hs.2⟩
end Go.Proofs.YtgoffjpfddmhhaaGreatDoor
