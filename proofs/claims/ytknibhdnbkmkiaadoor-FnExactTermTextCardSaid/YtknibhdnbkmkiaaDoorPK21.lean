/- The text of a term, by the program. Nothing that was there is written. No condition but that the nodes are there. -/
import Derived.Test.YtknibhdnbkmkiaaDoorPK16
import Derived.Test.YtknibhdnbkmkiaaDoorPK20
namespace Go.Proofs.YtknibhdnbkmkiaaDoor
open Go.RowKit
set_option linter.unusedVariables false
set_option maxRecDepth 100000

attribute [local go_sem] ta_leaf_leaf ta_leaf_minus ta_leaf_joint ta_leaf_raised ta_leaf_ownCall ta_leaf_namedCall
attribute [local go_sem] ta_minus_leaf ta_minus_minus ta_minus_joint ta_minus_raised ta_minus_ownCall ta_minus_namedCall
attribute [local go_sem] ta_joint_leaf ta_joint_minus ta_joint_joint ta_joint_raised ta_joint_ownCall ta_joint_namedCall
attribute [local go_sem] ta_raised_leaf ta_raised_minus ta_raised_joint ta_raised_raised ta_raised_ownCall ta_raised_namedCall
attribute [local go_sem] ta_ownCall_leaf ta_ownCall_minus ta_ownCall_joint ta_ownCall_raised ta_ownCall_ownCall ta_ownCall_namedCall
attribute [local go_sem] ta_namedCall_leaf ta_namedCall_minus ta_namedCall_joint ta_namedCall_raised ta_namedCall_ownCall ta_namedCall_namedCall
set_option maxRecDepth 100000 in
theorem iBareCall_named {w w' : World} (hW : Below w.heap.size w w') (k : Int) (s r : ByteArray) (a : Option Addr) (m c : Nat)
    (R : Hid (∀ w1, Below w.heap.size w w1 → Calls Tryd.prog 36 #[.agg #[.string s, .slice a m c]] w1 fun e w2 => e = .returned (.string r) ∧ Below w1.heap.size w1 w2)) :
    Calls Tryd.prog 25 #[.iface 72 (.agg #[.string s, .slice a m c])] w' fun e w'' => e = .returned (.string r) ∧ Below w'.heap.size w' w'' := by
  go_enter Tryd.func25, Tryd.ntmps25
  go_wp2_with fail
  refine (R.out _ (by repeat (first | with_reducible exact hW | with_reducible refine old_alloc ?_ _))).mono ?_
  rintro e w1 ⟨rfl, hb1⟩
  go_wp2
  go_ret
  exact ⟨rfl, (by repeat (first | with_reducible exact Below.refl _ _ | with_reducible refine Below.drew ?_ | ((with_reducible refine Below.setCell ?_ ?_ _); rotate_left; (focus (first | (simp; done) | omega | (simp; omega)))) | with_reducible refine old_alloc ?_ _ | with_reducible refine old_trans ?_ (by with_reducible assumption)))⟩
set_option maxRecDepth 100000 in
theorem iBareCall_own {w w' : World} (hW : Below w.heap.size w w') (k : Int) (s r : ByteArray) (a : Option Addr) (m c : Nat)
    (R : Hid (∀ w1, Below w.heap.size w w1 → Calls Tryd.prog 36 #[.agg #[.string s, .slice a m c]] w1 fun e w2 => e = .returned (.string r) ∧ Below w1.heap.size w1 w2)) :
    Calls Tryd.prog 25 #[.iface 84 (.agg #[.string s, .slice a m c, .int .i64 k])] w' fun e w'' => e = .returned (.string r) ∧ Below w'.heap.size w' w'' := by
  go_enter Tryd.func25, Tryd.ntmps25
  go_wp2_with fail
  refine (R.out _ (by repeat (first | with_reducible exact hW | with_reducible refine old_alloc ?_ _))).mono ?_
  rintro e w1 ⟨rfl, hb1⟩
  go_wp2
  go_ret
  exact ⟨rfl, (by repeat (first | with_reducible exact Below.refl _ _ | with_reducible refine Below.drew ?_ | ((with_reducible refine Below.setCell ?_ ?_ _); rotate_left; (focus (first | (simp; done) | omega | (simp; omega)))) | with_reducible refine old_alloc ?_ _ | with_reducible refine old_trans ?_ (by with_reducible assumption)))⟩
theorem getD_tx {ps : List Tr} {i : Nat} (h : i < ps.length) : (ps.map Tr.tx).getD i tx0 = ps[i].tx := by
  rw [List.getD_eq_getElem?_getD, List.getElem?_map, List.getElem?_eq_getElem h]; rfl
theorem iBareArgs {w : World} (ps : List Tr) (wd : ByteArray) (b off cap : Nat) (vs : Nat → Value) (hm : ps.length ≤ 6) (hcap : ps.length ≤ cap ∧ cap ≤ maxLen) (hb : b < w.heap.size) (hc : ∀ i, i < ps.length → w.cell? ⟨b, off + i, none⟩ = some (vs i)) (hv : ∀ i, i < ps.length → ∃ ty u, vs i = .iface ty u)
    (ih : ∀ i (hi : i < ps.length), AtOk Tryd.prog 14 w ps[i] (vs i)) (hs : (((wd ++ ⟨#[40]⟩) ++ accJ (fun i => atT 0 ((ps.map Tr.tx).getD i tx0)) (ps.map Tr.tx).length) ++ ⟨#[41]⟩).size ≤ 20000) :
    Hid (∀ w1, Below w.heap.size w w1 → Calls Tryd.prog 36 #[.agg #[.string wd, .slice (some ⟨b, off, none⟩) ps.length cap]] w1 fun e w2 => e = .returned (.string (((wd ++ ⟨#[40]⟩) ++ accJ (fun i => atT 0 ((ps.map Tr.tx).getD i tx0)) (ps.map Tr.tx).length) ++ ⟨#[41]⟩)) ∧ Below w1.heap.size w1 w2) := by
  have hl : (ps.map Tr.tx).length = ps.length := List.length_map ..
  rw [hl] at hs ⊢
  rw [ByteArray.size_append, ByteArray.size_append, ByteArray.size_append] at hs
  have e1 : (⟨#[40]⟩ : ByteArray).size = 1 := rfl
  have e2 : (⟨#[41]⟩ : ByteArray).size = 1 := rfl
  intro w1 hW
  refine iCalled hW wd b off cap ps.length vs _ hm hcap hb hc hv (fun i hi w2 h2 => ?_) (by omega)
  have g := acc_ge (fun i => atT 0 ((ps.map Tr.tx).getD i tx0)) hi
  have g2 := at_ge 0 ps[i].tx
  (try dsimp only at g)
  (try dsimp only)
  rw [getD_tx hi] at g ⊢
  exact ih i hi (Nat.le_trans g2 (by omega)) 0 w2 h2
theorem iBare {w : World} {g : Option Nat} {t : Tr} {v : Value} (h : TV w g t v) : t.pw → BareOk Tryd.prog 25 w t v := by
  induction h with
  | leaf n hk => exact fun _ => iBareLeaf n hk
  | minus n t v hk h ih =>
    intro hp
    simp only [Tr.pw, pwL] at hp
    have i := iTextAt h (ih hp.2.1)
    obtain ⟨ty, u, rfl⟩ := h.iface
    exact iBareMinus n t ty u hk i
  | raised n t v hk h ih =>
    intro hp
    simp only [Tr.pw, pwL] at hp
    have i := iTextAt h (ih hp.2.1)
    obtain ⟨ty, u, rfl⟩ := h.iface
    exact iBareRaised n t ty u hk (hp.1 hk) i
  | joint n t u v v' sg lv hk h h' ih ih' =>
    intro hp
    simp only [Tr.pw, pwL] at hp
    have i := iTextAt h (ih hp.2.1)
    have i' := iTextAt h' (ih' hp.2.2.1)
    obtain ⟨ty, x, rfl⟩ := h.iface
    obtain ⟨ty', x', rfl⟩ := h'.iface
    exact iBareJoint n t u ty ty' x x' sg lv hk i i'
  | named n ps b off cap vs hk hm hcap hb hq hc h ih =>
    intro hp hs w' hW
    simp only [Tr.pw] at hp
    rw [txt_mk, tx_named hk] at hs ⊢
    exact iBareCall_named hW 0 n.s _ _ _ _ (iBareArgs ps n.s b off cap vs hm hcap hb hc (fun i hi => (h i hi).iface) (fun i hi => iTextAt (h i hi) (ih i hi (pwL_at hp.2 hi))) hs)
  | own n ps b off cap vs wd hk hm hcap hb hq hc h ih =>
    intro hp hs w' hW
    simp only [Tr.pw] at hp
    rw [txt_mk, tx_own hk] at hs ⊢
    exact iBareCall_own hW n.k wd _ _ _ _ (iBareArgs ps wd b off cap vs hm hcap hb hc (fun i hi => (h i hi).iface) (fun i hi => iTextAt (h i hi) (ih i hi (pwL_at hp.2 hi))) hs)
theorem at_zero (t : Tr) : atT 0 t.tx = t.txt := if_neg (by show ¬ lvK t.nd.k < 0; have := lvK_nn t.nd.k; omega)
theorem iTermText (a : Option Addr) (len cap : Nat) (xs : List Tn) (w : World) (hR : InN w a len cap xs) :
    Calls Tryd.prog 7 #[.agg #[.slice a len cap]] w fun e w' => e = .returned (.string (txT xs)) ∧ Below w.heap.size w w' := by
  have hp := hR.1
  have K0 := CS.made w _ rfl #[.slice a len cap] 29
  have hBB : Below w.heap.size w (w.alloc (.cells #[.slice a len cap] 29)) := old_alloc (Below.refl _ _) _
  have m0 := K0.cell 0 _ rfl
  cases hk : okT xs
  · have e : txT xs = ⟨#[]⟩ := by unfold txT; rw [hk]; rfl
    rw [e]
    have TO := hd (fun w' (h : Below w.heap.size w w') => iTreeNo a len cap xs w' (hR.old h) hk)
    clear hk e
    go_enter Tryd.func7, Tryd.ntmps7
    generalize hW0 : w.alloc (.cells #[.slice a len cap] 29) = W0 at *
    go_wp2_with fail
    refine (TO.out _ hBB).mono ?_
    rintro ev w1 ⟨rfl, hb1⟩
    go_wp2
    go_ret
    exact ⟨rfl, old_trans hBB hb1⟩
  · have e : txT xs = atT 0 (tr xs (len - 1)).tx := by rw [at_zero]; unfold txT; rw [hk, hp]; rfl
    rw [e]
    have TO := hd (fun w' (h : Below w.heap.size w w') => iTreeOf a len cap xs w' (hR.old h) hk)
    have hpos := okT_pos hk
    have hsz := tr_size hk (e := len - 1) (by omega)
    have hpw := tr_pw hk (e := len - 1) (by omega)
    clear e hk
    go_enter Tryd.func7, Tryd.ntmps7
    generalize hW0 : w.alloc (.cells #[.slice a len cap] 29) = W0 at *
    go_wp2_with fail
    refine (TO.out _ hBB).mono ?_
    rintro ev w1 ⟨⟨v, g, rfl, T⟩, hb1⟩
    have D := hd (iTextAt T (iBare T hpw) (by omega) 0 w1 (Below.refl _ _))
    go_wp2_with fail
    refine D.out.mono ?_
    rintro ev w2 ⟨rfl, hb2⟩
    go_wp2
    go_ret
    exact ⟨rfl, old_trans (old_trans hBB hb1) hb2⟩
end Go.Proofs.YtknibhdnbkmkiaaDoor
