/- Mathematics of literals: the scanner finds just those that the document tells. No condition. -/
import Derived.Test.YtafpjgojmpjajaaZJ
namespace Go.Proofs.Ytafpjgojmpjajaa
open Go.RowKit
set_option linter.unusedVariables false
set_option maxRecDepth 100000

theorem at_101 {s : ByteArray} {k : Nat} : at' s k 101 101 ↔ (k < s.size ∧ byt s k = 101) := by unfold at'; omega
theorem at_48 {s : ByteArray} {k : Nat} : at' s k 48 48 ↔ (k < s.size ∧ byt s k = 48) := by unfold at'; omega
theorem at_45 {s : ByteArray} {k : Nat} : at' s k 45 45 ↔ (k < s.size ∧ byt s k = 45) := by unfold at'; omega
theorem at_46 {s : ByteArray} {k : Nat} : at' s k 46 46 ↔ (k < s.size ∧ byt s k = 46) := by unfold at'; omega
def okR (r : Bool × Lt) : Prop := r.1 = true ∧ r.2.pw ≤ 400
theorem okR_fnl {s : ByteArray} {k : Nat} {l : Lt} (h : k ≤ s.size) : okR (fnl (D s k) l) ↔ (k = s.size ∧ l.pw ≤ 400) := by
  rw [fnl_D s k l h]; unfold okR; simp
/-- behind the sign of a power -/
theorem pow_tail {s : ByteArray} {a : Nat} {l : Lt} (hl : l.pw = 0) (h : at' s a 49 57) :
    okR (match pss 48 57 4 (D s (a + 1)) (gat 4 (byt s a) l) with
        | none => fnl (D s (a + 1)) (gat 4 (byt s a) l)
        | some z => fnl ((pss 48 57 4 z.1 z.2).getD z).1 ((pss 48 57 4 z.1 z.2).getD z).2) ↔ (dn s a ≤ 3 ∧ nm s a (dn s a) ≤ 400 ∧ a + dn s a = s.size) := by
  have d0 : dig' s a := ⟨h.1, by have := h.2; omega, h.2.2⟩
  have p1 : (gat 4 (byt s a) l).pw = nm s a 1 := by rw [gat4_pw, hl]; unfold nm nm; simp
  by_cases h2 : dig' s (a + 1)
  · rw [pss_at h2]
    dsimp only
    have p2 : (gat 4 (byt s (a + 1)) (gat 4 (byt s a) l)).pw = nm s a 2 := by rw [gat4_pw, p1]; rfl
    by_cases h3 : dig' s (a + 1 + 1)
    · rw [pss_at h3]
      dsimp only [Option.getD_some]
      have p3 : (gat 4 (byt s (a + 1 + 1)) (gat 4 (byt s (a + 1)) (gat 4 (byt s a) l))).pw = nm s a 3 := by rw [gat4_pw, p2]; rfl
      rw [okR_fnl (by have := h3.1; omega), p3]
      have e3 : dn s a = dn s (a + 1 + 1 + 1) + 3 := by rw [dn_yes d0, dn_yes h2, dn_yes h3]
      by_cases h4 : dig' s (a + 1 + 1 + 1)
      · have := dn_yes h4
        have := h4.1
        constructor <;> intro q <;> omega
      · rw [dn_no h4] at e3
        rw [e3]
        constructor
        · intro q; exact ⟨by omega, q.2, by omega⟩
        · intro q; exact ⟨by omega, q.2.1⟩
    · rw [pss_off h3]
      dsimp only [Option.getD_none]
      have e3 : dn s a = 2 := by rw [dn_yes d0, dn_yes h2, dn_no h3]
      rw [okR_fnl (by have := h2.1; omega), p2, e3]
      constructor
      · intro q; exact ⟨by omega, q.2, by omega⟩
      · intro q; exact ⟨by omega, q.2.1⟩
  · rw [pss_off h2]
    dsimp only
    have e3 : dn s a = 1 := by rw [dn_yes d0, dn_no h2]
    rw [okR_fnl (by have := h.1; omega), p1, e3]
    constructor
    · intro q; exact ⟨by omega, q.2, by omega⟩
    · intro q; exact ⟨by omega, q.2.1⟩
theorem pow_sign {s : ByteArray} {a : Nat} {l : Lt} (hl : l.pw = 0) (x : List Int × Lt) (ex : x = (D s a, l)) :
    okR (match pss 49 57 4 x.1 x.2 with
      | none => (false, x.2)
      | some y => match pss 48 57 4 y.1 y.2 with
        | none => fnl y.1 y.2
        | some z => fnl ((pss 48 57 4 z.1 z.2).getD z).1 ((pss 48 57 4 z.1 z.2).getD z).2) ↔ (at' s a 49 57 ∧ dn s a ≤ 3 ∧ nm s a (dn s a) ≤ 400 ∧ a + dn s a = s.size) := by
  subst ex
  dsimp only
  by_cases h : at' s a 49 57
  · rw [pss_at h]
    dsimp only
    rw [pow_tail hl h]
    constructor
    · intro q; exact ⟨h, q⟩
    · intro q; exact q.2
  · rw [pss_off h]
    dsimp only
    unfold okR
    constructor
    · intro q; cases q.1
    · intro q; exact (h q.1).elim
theorem pwr_eq {s : ByteArray} {k : Nat} {l : Lt} (hk : k ≤ s.size) (hl : l.pw = 0) : okR (pwr (D s k) l) ↔ expS s k = true := by
  unfold pwr expS
  by_cases he : k < s.size ∧ byt s k = 101
  case neg =>
    rw [pss_off (fun h => he (at_101.1 h)), if_neg he]
    dsimp only
    rw [okR_fnl hk]
    simp
    intro _
    omega
  rw [pss_at (at_101.2 he), if_pos he]
  dsimp only
  have g1 : (gat 1 (byt s k) l).pw = 0 := (gat_pw (by decide)).trans hl
  generalize gat 1 (byt s k) l = l1 at *
  by_cases h0 : k + 1 < s.size ∧ byt s (k + 1) = 48
  · have hm : ¬ (k + 1 < s.size ∧ byt s (k + 1) = 45) := by omega
    rw [pss_at (at_48.2 h0), if_neg hm]
    dsimp only
    have d0 : dig' s (k + 1) := ⟨h0.1, by omega, by omega⟩
    have e := dn_yes d0
    have eg : (gat 4 (byt s (k + 1)) l1).pw = 0 := by rw [gat4_pw, g1, h0.2]; decide
    rw [okR_fnl (by omega), eg]
    simp only [Nat.add_zero]
    by_cases h1 : dig' s (k + 1 + 1)
    · have e1 := dn_yes h1
      rw [if_pos (show dn s (k + 1) = 0 ∨ 3 < dn s (k + 1) ∨ ((1 < dn s (k + 1) ∨ (k + 1 < s.size ∧ byt s (k + 1) = 45)) ∧ byt s (k + 1) = 48) from .inr (.inr ⟨.inl (by omega), h0.2⟩))]
      have := h1.1
      constructor
      · intro q; omega
      · intro q; cases q
    · rw [dn_no h1] at e
      rw [e, if_neg (by omega)]
      have en : nm s (k + 1) (0 + 1) = 0 := by unfold nm nm; simp; omega
      rw [en]
      simp
  · rw [pss_off (fun h => h0 (at_48.1 h))]
    dsimp only
    by_cases hm : k + 1 < s.size ∧ byt s (k + 1) = 45
    · have ex : (pss 45 45 3 (D s (k + 1)) l1).getD (D s (k + 1), l1) = (D s (k + 1 + 1), gat 3 (byt s (k + 1)) l1) := by rw [pss_at (at_45.2 hm)]; rfl
      refine (pow_sign (a := k + 1 + 1) ((gat_pw (by decide)).trans g1) _ ex).trans ?_
      rw [if_pos hm]
      generalize k + 1 + 1 = a at *
      by_cases h : at' s a 49 57
      · have d0 : dig' s a := ⟨h.1, by have := h.2; omega, h.2.2⟩
        have := dn_yes d0
        have h' := h.2
        by_cases h3 : 3 < dn s a
        · rw [if_pos (.inr (.inl h3))]
          constructor
          · intro q; omega
          · intro q; cases q
        · rw [if_neg (by omega)]
          simp
          constructor
          · intro q; exact ⟨q.2.2.1, q.2.2.2⟩
          · intro q; exact ⟨h, by omega, q.1, q.2⟩
      · rw [if_pos (by
          by_cases c : dig' s a
          · have c' := c.2
            exact .inr (.inr ⟨.inr hm, by have : ¬ (49 ≤ byt s a ∧ byt s a ≤ 57) := fun g => h ⟨c.1, g⟩; omega⟩)
          · exact .inl (dn_no c))]
        constructor
        · intro q; exact (h q.1).elim
        · intro q; cases q
    · have ex : (pss 45 45 3 (D s (k + 1)) l1).getD (D s (k + 1), l1) = (D s (k + 1), l1) := by rw [pss_off (fun h => hm (at_45.1 h))]; rfl
      refine (pow_sign (a := k + 1) g1 _ ex).trans ?_
      rw [if_neg hm]
      simp only [Nat.add_zero]
      by_cases h : at' s (k + 1) 49 57
      · have d0 : dig' s (k + 1) := ⟨h.1, by have := h.2; omega, h.2.2⟩
        have := dn_yes d0
        have h' := h.2
        by_cases h3 : 3 < dn s (k + 1)
        · rw [if_pos (.inr (.inl h3))]
          constructor
          · intro q; omega
          · intro q; cases q
        · rw [if_neg (by omega)]
          simp
          constructor
          · intro q; exact ⟨q.2.2.1, q.2.2.2⟩
          · intro q; exact ⟨h, by omega, q.1, q.2⟩
      · rw [if_pos (by
          by_cases c : dig' s (k + 1)
          · have c' := c.2
            have c1 := c.1
            exfalso
            have : ¬ (49 ≤ byt s (k + 1) ∧ byt s (k + 1) ≤ 57) := fun g => h ⟨c.1, g⟩
            omega
          · exact .inl (dn_no c))]
        constructor
        · intro q; exact (h q.1).elim
        · intro q; cases q
theorem pnt_eq {s : ByteArray} {k : Nat} {l : Lt} (hk : k ≤ s.size) (hl : l.pw = 0) : okR (pnt (D s k) l) ↔ (if k < s.size ∧ byt s k = 46 then (if dn s (k + 1) = 0 then false else expS s (k + 1 + dn s (k + 1))) else expS s k) = true := by
  unfold pnt
  by_cases he : k < s.size ∧ byt s k = 46
  case neg =>
    rw [pss_off (fun h => he (at_46.1 h)), if_neg he]
    exact pwr_eq hk hl
  rw [pss_at (at_46.2 he), if_pos he]
  dsimp only
  have g1 : (gat 1 (byt s k) l).pw = 0 := (gat_pw (by decide)).trans hl
  generalize gat 1 (byt s k) l = l1 at *
  by_cases h : dig' s (k + 1)
  · rw [pss_at h, if_neg (by have := dn_yes h; omega)]
    dsimp only
    rw [beh_run s _ _ _ rfl]
    have e := dn_yes h
    rw [show k + 1 + 1 + dn s (k + 1 + 1) = k + 1 + dn s (k + 1) by omega]
    refine pwr_eq ?_ ((gats_pw s (by decide) _ _ _).trans ((gat_pw (by decide)).trans g1))
    have := dn_dig s _ (k + 1) (dn s (k + 1) - 1) rfl (by omega)
    have := this.1
    omega
  · rw [pss_off h, if_pos (dn_no h)]
    dsimp only
    unfold okR
    constructor
    · intro q; cases q.1
    · intro q; cases q
theorem decS_bad {s : ByteArray} (h : 60 < s.size ∨ dn s 0 = 0 ∨ (1 < dn s 0 ∧ byt s 0 = 48)) : decS s = false := by unfold decS; rw [if_pos h]
theorem decS_ok {s : ByteArray} (h : ¬ (60 < s.size ∨ dn s 0 = 0 ∨ (1 < dn s 0 ∧ byt s 0 = 48))) : decS s = if dn s 0 < s.size ∧ byt s (dn s 0) = 46 then (if dn s (dn s 0 + 1) = 0 then false else expS s (dn s 0 + 1 + dn s (dn s 0 + 1))) else expS s (dn s 0) := by unfold decS; rw [if_neg h]
theorem scn_eq {s : ByteArray} (h60 : ¬ 60 < s.size) : okR (scn (D s 0) lt0) ↔ decS s = true := by
  unfold scn
  by_cases h0 : at' s 0 48 48
  · rw [pss_at h0]
    dsimp only
    have d0 : dig' s 0 := ⟨h0.1, h0.2.1, by have := h0.2; omega⟩
    have b0 := (at_48.1 h0).2
    have e := dn_yes d0
    refine (pnt_eq (by have := h0.1; omega) (gat_pw (by decide))).trans ?_
    by_cases h1 : dig' s (0 + 1)
    · have e1 := dn_yes h1
      have h1' := h1.1
      have h1'' := h1.2
      rw [decS_bad (.inr (.inr ⟨by omega, b0⟩)), if_neg (by omega)]
      unfold expS
      rw [if_neg (by omega)]
      constructor
      · intro q
        have q' := of_decide_eq_true q
        omega
      · intro q; cases q
    · rw [dn_no h1] at e
      rw [decS_ok (by omega), e]
  · rw [pss_off h0]
    dsimp only
    by_cases h1 : at' s 0 49 57
    · rw [pss_at h1]
      dsimp only
      have d0 : dig' s 0 := ⟨h1.1, by have := h1.2; omega, h1.2.2⟩
      have e := dn_yes d0
      rw [whl_run s _ _ _ rfl, decS_ok (by have := h1.2; omega)]
      rw [show 0 + 1 + dn s (0 + 1) = dn s 0 by omega]
      refine pnt_eq ?_ ((gats_pw s (by decide) _ _ _).trans (gat_pw (by decide)))
      have := dn_dig s _ 0 (dn s 0 - 1) rfl (by omega)
      have := this.1
      omega
    · rw [pss_off h1]
      dsimp only
      have c : ¬ dig' s 0 := fun c => by
        have c' := c.2
        have g0 : ¬ (byt s 0 = 48) := fun g => h0 (at_48.2 ⟨c.1, g⟩)
        exact h1 ⟨c.1, by omega, c.2.2⟩
      rw [decS_bad (.inr (.inl (dn_no c)))]
      unfold okR
      constructor
      · intro q; cases q.1
      · intro q; cases q
theorem dec_eq (s : ByteArray) : decI s = decS s := by
  unfold decI litR
  by_cases h60 : 60 < s.size
  · rw [if_neg (by omega), decS_bad (.inl h60)]; rfl
  rw [if_pos (by omega), scn_bytes]
  have key := scn_eq h60
  by_cases c : okR (scn (D s 0) lt0)
  · rw [if_pos (show _ ∧ _ from c), key.1 c]; rfl
  · rw [if_neg (show ¬ (_ ∧ _) from c)]
    have g : ¬ decS s = true := fun g => c (key.2 g)
    rw [Bool.not_eq_true] at g
    rw [g]; rfl
end Go.Proofs.Ytafpjgojmpjajaa
