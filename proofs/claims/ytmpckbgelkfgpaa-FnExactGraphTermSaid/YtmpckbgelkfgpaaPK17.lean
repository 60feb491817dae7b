/- Whether a graph is one, by the program, and that this is what the specification says. Nothing that was there is written. No condition but that the graph is there. -/
import Derived.Test.YtmpckbgelkfgpaaPK13
import Derived.Test.YtmpckbgelkfgpaaPK16
import Derived.Shelf.Abstract
namespace Go.Proofs.Ytmpckbgelkfgpaa
open Go.RowKit
set_option linter.unusedVariables false
set_option maxRecDepth 100000

def gnOk2 (vs : Int) (xs : List Gn) (i : Nat) : Prop := if (i : Int) < vs then xs.getD i gn0 = gvar i else gnPart (xs.getD i gn0) i
def gOk2 (vs : Int) (xs : List Gn) (ys : List Gr) : Prop := gLim vs xs.length ys.length ∧ (¬ ∃ i, i < ys.length ∧ ¬ grOk xs.length (ys.getD i gr0)) ∧ (∀ i, i < xs.length → gnOk2 vs xs i) ∧ xs.Nodup
theorem getD_lt {xs : List Gn} {i : Nat} (h : i < xs.length) : xs.getD i gn0 = xs[i] := by rw [List.getD_eq_getElem?_getD, List.getElem?_eq_getElem h]; rfl
theorem gOk_iff (vs : Int) (xs : List Gn) (ys : List Gr) : gOk vs xs ys ↔ gOk2 vs xs ys := by
  unfold gOk gOk2
  constructor
  · rintro ⟨h1, h2, h3⟩
    refine ⟨h1, fun ⟨i, hi, hn⟩ => hn (h3 i hi), fun i hi => ?_, ?_⟩
    · have q := h2 i hi
      unfold gnOk at q
      unfold gnOk2
      split
      · rename_i c
        rw [if_pos c] at q
        exact q
      · rename_i c
        rw [if_neg c] at q
        exact q.1
    · rw [List.Nodup, List.pairwise_iff_getElem]
      intro i j hi hj hij e
      have q := h2 j hj
      have qi := h2 i hi
      unfold gnOk at q qi
      rw [getD_lt hj] at q
      rw [getD_lt hi] at qi
      by_cases c : (j : Int) < vs
      · rw [if_pos c] at q
        rw [if_pos (by omega)] at qi
        rw [q, qi] at e
        have := (Gn.mk.inj e).2.2.2.1
        omega
      · rw [if_neg c] at q
        exact q.2 i hij ((getD_lt hi).trans e)
  · rintro ⟨h1, h2, h3, h4⟩
    refine ⟨h1, fun i hi => ?_, fun i hi => Classical.byContradiction fun hn => h2 ⟨i, hi, hn⟩⟩
    have q := h3 i hi
    unfold gnOk2 at q
    unfold gnOk
    split
    · rename_i c
      rw [if_pos c] at q
      exact q
    · rename_i c
      rw [if_neg c] at q
      refine ⟨q, fun j hj e => ?_⟩
      rw [getD_lt (by omega), getD_lt hi] at e
      rw [List.Nodup, List.pairwise_iff_getElem] at h4
      exact h4 j i (by omega) hi hj e
set_option maxRecDepth 100000 in
set_option maxHeartbeats 8000000 in
theorem iGraphOk (vs : Int) (a : Option Addr) (len cap : Nat) (xs : List Gn) (a' : Option Addr) (len' cap' : Nat) (ys : List Gr) (w : World) (hR : InGn w a len cap xs) (hR' : InGr w a' len' cap' ys) (hl : len ≤ 1048576) (hl' : len' ≤ 1048576) :
    Calls Try.prog 82 #[.agg #[.int .i64 vs, .slice a len cap, .slice a' len' cap']] w fun e w' => BoolIs e (gOk vs xs ys) ∧ Below w.heap.size w w' := by
  have K := CS.made w _ rfl #[.int .i64 vs, .slice a len cap, .slice a' len' cap'] 71
  have hB := old_alloc (Below.refl w.heap.size w) (.cells #[.int .i64 vs, .slice a len cap, .slice a' len' cap'] 71)
  replace hR := hR.old hB
  replace hR' := hR'.old hB
  have hn : xs.length = len := hR.1
  have hn' : ys.length = len' := hR'.1
  have GP : Hid (gOk vs xs ys ↔ (gLim vs len len' ∧ (¬ ∃ i, i < len' ∧ ¬ grOk len (ys.getD i gr0)) ∧ (∀ i, i < len → gnOk2 vs xs i) ∧ xs.Nodup)) := by
    rw [gOk_iff]
    unfold gOk2
    rw [hn, hn']
    exact Iff.rfl
  obtain ⟨P, hP⟩ : ∃ P : Prop, P = gOk vs xs ys := ⟨_, rfl⟩
  rw [← hP] at GP ⊢
  clear hP hn hn'
  have LM := hd (iLim vs a len cap xs a' len' cap')
  have WR := hd (fun k l r W => iWrong vs a len cap xs a' len' cap' ys k l r W)
  have m0 := K.cell 0 _ rfl
  have m1 := K.cell 1 _ rfl
  have m2 := K.cell 2 _ rfl
  go_enter Try.func82, Try.ntmps82
  go_upto_region 1 with fail
  generalize w.alloc (.cells #[.int .i64 vs, .slice a len cap, .slice a' len' cap'] 71) = W at *
  go_wp2_with fail
  refine (LM.out _).mono ?_
  rintro e w1 ⟨⟨r, rfl, hr⟩, hb1⟩
  replace hr := hd hr
  replace K := K.later hb1
  replace hR := hR.old hb1
  replace hR' := hR'.old hb1
  replace hB := old_trans hB hb1
  clear m0 m1 m2 hb1 LM
  cases r
  case false =>
    have no : Hid (¬ P) := fun h => by have := hr.out.2 (GP.out.1 h).1; cases this
    clear K hR hR'
    go_wp2
    go_ret
    exact ⟨BoolIs.no no.out rfl, hB⟩
  have lim := hd (hr.out.1 rfl)
  have m0 := K.cell 0 _ rfl
  have m1 := K.cell 1 _ rfl
  have m2 := K.cell 2 _ rfl
  have CF := hd (iContainsGr 116 (.agg #[.int .i64 vs, .slice a len cap, .slice a' len' cap']) a' len' cap' ys (fun y => ¬ grOk len y) w1 hR' (enters_of Try.func116 (by kernel_rfl) rfl) WR.out)
  clear hR' hr
  go_wp2_with fail
  refine CF.out.mono ?_
  rintro e w2 ⟨⟨r, rfl, hr⟩, hb2⟩
  replace hr := hd hr
  replace K := K.later hb2
  replace hR := hR.old hb2
  replace hB := old_trans hB hb2
  clear m0 m1 m2 hb2 CF WR
  cases r
  case true =>
    have no : Hid (¬ P) := fun h => (GP.out.1 h).2.1 (hr.out.1 rfl)
    clear K hR
    go_wp2
    go_ret
    exact ⟨BoolIs.no no.out rfl, hB⟩
  have rels : Hid (¬ ∃ i, i < len' ∧ ¬ grOk len (ys.getD i gr0)) := fun h => by have := hr.out.2 h; cases this
  have hl120 : len ≤ 120 := by have := lim.out; unfold gLim at this; omega
  have m1 := K.cell 1 _ rfl
  clear hr
  go_wp2_with fail
  clear m1
  go_loopw [18] (fun x wr => ∃ j : Nat, j ≤ len ∧ x = .int .i64 j ∧ Hid (∀ q, q < j → gnOk2 vs xs q) ∧ Below w2.heap.size w2 wr) (fun x _ => len - (intOf x).toNat)
  case atStart => exact ⟨0, by omega, rfl, fun q h => by omega, Below.refl _ _⟩
  case round =>
    obtain ⟨j, hj, rfl, hne, hb⟩ := hrel
    have m0 := (K.later hb).cell 0 _ rfl
    have m1 := (K.later hb).cell 1 _ rfl
    have m2 := (K.later hb).cell 2 _ rfl
    by_cases hlt : j < len
    · have hjI : (j : Int) < (len : Int) := by omega
      by_cases hv : (j : Int) < vs
      · have d0 : decide ((j : Int) < vs) = true := decide_eq_true hv
        have CV := hd (iVar vs a len cap xs a' len' cap' j wr (hR.old hb) hlt)
        have one : Hid (gnOk2 vs xs j ↔ xs.getD j gn0 = gvar j) := by unfold gnOk2; rw [if_pos hv]; exact Iff.rfl
        clear hR K hv
        go_wp2_with fail
        refine CV.out.mono ?_
        rintro e w3 ⟨⟨r, rfl, hr⟩, hb3⟩
        replace hr := hd hr
        have hb' := old_trans hb hb3
        cases r
        case false =>
          have no : Hid (¬ P) := fun h => by have := hr.out.2 (one.out.1 ((GP.out.1 h).2.2.1 j hlt)); cases this
          go_wp2
          go_ret
          exact ⟨BoolIs.no no.out rfl, old_trans hB hb'⟩
        case true =>
          have yes := hd (one.out.2 (hr.out.1 rfl))
          go_wp2
          go_roundw
          case rel => exact ⟨j + 1, by omega, by go_num, fun q hq => by
            by_cases e : q = j
            · rw [e]; exact yes.out
            · exact hne.out q (by omega), hb'⟩
          case measure => simp [intOf]; omega
      · have d0 : decide ((j : Int) < vs) = false := decide_eq_false hv
        have CV := hd (iMade vs a len cap xs a' len' cap' j wr (hR.old hb) hlt)
        have one : Hid (gnOk2 vs xs j ↔ gnPart (xs.getD j gn0) j) := by unfold gnOk2; rw [if_neg hv]; exact Iff.rfl
        clear hR K hv
        go_wp2_with fail
        refine CV.out.mono ?_
        rintro e w3 ⟨⟨r, rfl, hr⟩, hb3⟩
        replace hr := hd hr
        have hb' := old_trans hb hb3
        cases r
        case false =>
          have no : Hid (¬ P) := fun h => by have := hr.out.2 (one.out.1 ((GP.out.1 h).2.2.1 j hlt)); cases this
          go_wp2
          go_ret
          exact ⟨BoolIs.no no.out rfl, old_trans hB hb'⟩
        case true =>
          have yes := hd (one.out.2 (hr.out.1 rfl))
          go_wp2
          go_roundw
          case rel => exact ⟨j + 1, by omega, by go_num, fun q hq => by
            by_cases e : q = j
            · rw [e]; exact yes.out
            · exact hne.out q (by omega), hb'⟩
          case measure => simp [intOf]; omega
    · obtain rfl : j = len := by omega
      have hni : ¬ ((j : Int) < (j : Int)) := by omega
      have TW := hd (iTwiceGn a j cap xs wr (hR.old hb) (by omega))
      clear hR K m0 m2
      go_wp2_with fail
      refine TW.out.mono ?_
      rintro e w3 ⟨⟨r, rfl, hr⟩, hb3⟩
      replace hr := hd hr
      have hb' := old_trans hB (old_trans hb hb3)
      cases r
      case true =>
        have no : Hid (¬ P) := fun h => hr.out.1 rfl (GP.out.1 h).2.2.2
        go_wp2
        go_ret
        exact ⟨BoolIs.no no.out rfl, hb'⟩
      case false =>
        have yes : Hid P := GP.out.2 ⟨lim.out, rels.out, hne.out, Classical.byContradiction fun h => by have := hr.out.2 h; cases this⟩
        go_wp2
        go_ret
        exact ⟨BoolIs.yes yes.out rfl, hb'⟩
end Go.Proofs.Ytmpckbgelkfgpaa
