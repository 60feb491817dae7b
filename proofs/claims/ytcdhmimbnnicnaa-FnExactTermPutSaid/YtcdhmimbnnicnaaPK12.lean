/- Terms: both sides say alike whether nodes are one. Nothing that was there is written. No condition but that the nodes are there. -/
import Derived.Test.YtcdhmimbnnicnaaPK11
import Derived.Deep.RegionWith
namespace Go.Proofs.Ytcdhmimbnnicnaa
open Go.RowKit
set_option linter.unusedVariables false
set_option maxRecDepth 100000

/-- how many wholes stand behind these nodes, if those ahead left so many -/
def runT : List Tn → Int → Option Int
  | [], d => some d
  | x :: t, d => if ac x < 0 ∨ d < ac x then none else runT t (d - ac x + 1)
def okT (xs : List Tn) : Bool := decide (xs.length ≤ 100) && (runT xs 0 == some 1)
theorem drop_at {xs : List Tn} {k : Nat} (h : k < xs.length) : xs.drop k = xs.getD k tn0 :: xs.drop (k + 1) := by
  rw [List.drop_eq_getElem_cons h, List.getD_eq_getElem?_getD, List.getElem?_eq_getElem h]; rfl
theorem okT_long {xs : List Tn} (h : ¬ xs.length ≤ 100) : okT xs = false := by unfold okT; rw [decide_eq_false h]; rfl
theorem okT_none {xs : List Tn} (h : runT xs 0 = none) : okT xs = false := by unfold okT; rw [h]; simp
theorem okT_some {xs : List Tn} {d : Int} (hl : xs.length ≤ 100) (h : runT xs 0 = some d) : okT xs = (d == 1) := by unfold okT; rw [h, decide_eq_true hl]; simp
theorem runT_no {x : Tn} {t : List Tn} {d : Int} (h : ac x < 0 ∨ d < ac x) : runT (x :: t) d = none := by unfold runT; rw [if_pos h]
theorem runT_go {x : Tn} {t : List Tn} {d : Int} (h : ¬ (ac x < 0 ∨ d < ac x)) : runT (x :: t) d = runT t (d - ac x + 1) := by rw [runT, if_neg h]
set_option maxHeartbeats 4000000 in
theorem iTermOk (a : Option Addr) (len cap : Nat) (xs : List Tn) (w : World) (hR : InN w a len cap xs) :
    Calls Try.prog 42 #[.agg #[.slice a len cap]] w fun e w' => e = .returned (.bool (okT xs)) ∧ Below w.heap.size w w' := by
  have hp := hR.1
  have hlen : len ≤ maxLen := Nat.le_trans hR.2.1 hR.2.2.1
  unfold maxLen at hlen
  by_cases hl : len ≤ 100
  case neg =>
    rw [okT_long (by omega)]
    go_enter Try.func42, Try.ntmps42
    go_wp2
    go_ret
    exact ⟨rfl, (by repeat (first | exact Below.refl _ _ | refine Below.drew ?_ | refine old_alloc ?_ _ | refine old_trans ?_ (by assumption)))⟩
  obtain ⟨res, hres⟩ : ∃ r, okT xs = r := ⟨_, rfl⟩
  rw [hres]
  have eN := hd (fun h => hres.symm.trans (okT_none (xs := xs) h))
  have eS := hd (fun d h => hres.symm.trans (okT_some (xs := xs) (d := d) (by omega) h))
  clear hres
  go_enter Try.func42, Try.ntmps42
  go_wp2
  go_loopw [3, 15] (fun d i wr => ∃ (k : Nat) (r : Int), k ≤ len ∧ i = .int .i64 k ∧ d = .int .i64 r ∧ 0 ≤ r ∧ r ≤ k ∧ runT xs 0 = runT (xs.drop k) r ∧ Below w.heap.size w wr) (fun _ i _ => len - (intOf i).toNat)
  case atStart => exact ⟨0, 0, by omega, rfl, rfl, by omega, by omega, rfl, (by repeat (first | exact Below.refl _ _ | refine Below.drew ?_ | refine old_alloc ?_ _ | refine old_trans ?_ (by assumption)))⟩
  case round =>
    obtain ⟨k, r, hk, rfl, rfl, hr0, hr1, hrun, hb⟩ := hrel
    by_cases hlt : k < len
    · obtain ⟨b, off, x, y, s, rfl, hbl, hx, hf, c0, c1, c2⟩ := (hR.old hb).at hlt
      rw [drop_at (by omega), hx] at hrun
      have P := hd (iPart x y s)
      have bn := hd (fun h => eN.out (hrun.trans (runT_no h)))
      have bg := hd (fun h => hrun.trans (runT_go h))
      clear hrun hf hx
      by_cases h0 : 0 ≤ ac ⟨x, y, s⟩
      · by_cases h1 : r < ac ⟨x, y, s⟩
        · have q := hd (bn.out (.inr h1))
          rw [decide_eq_true h0] at P
          clear bn bg
          generalize ac ⟨x, y, s⟩ = m at *
          go_wp2_with fail
          refine (P.out _).mono ?_
          rintro e w1 ⟨⟨c, rfl, hc⟩, hb1⟩
          obtain rfl := hc h0
          go_wp2
          go_ret
          exact ⟨rB q.out, (by repeat (first | exact hb | exact Below.refl _ _ | refine Below.drew ?_ | refine old_alloc ?_ _ | refine old_trans ?_ (by assumption)))⟩
        · have q := hd (bg.out (by omega))
          rw [decide_eq_true h0] at P
          clear bn bg
          generalize ac ⟨x, y, s⟩ = m at *
          go_wp2_with fail
          refine (P.out _).mono ?_
          rintro e w1 ⟨⟨c, rfl, hc⟩, hb1⟩
          obtain rfl := hc h0
          go_wp2
          go_roundw
          case rel => exact ⟨k + 1, r - c + 1, by omega, by go_num, by go_num, by omega, by omega, q.out, (by repeat (first | exact hb | exact Below.refl _ _ | refine Below.drew ?_ | refine old_alloc ?_ _ | refine old_trans ?_ (by assumption)))⟩
          case measure => simp [intOf]; omega
      · have q := hd (bn.out (.inl (by omega)))
        rw [decide_eq_false h0] at P
        clear bn bg
        generalize ac ⟨x, y, s⟩ = m at *
        go_wp2_with fail
        refine (P.out _).mono ?_
        rintro e w1 ⟨⟨c, rfl, hc⟩, hb1⟩
        clear hc
        go_wp2
        go_ret
        exact ⟨rB q.out, (by repeat (first | exact hb | exact Below.refl _ _ | refine Below.drew ?_ | refine old_alloc ?_ _ | refine old_trans ?_ (by assumption)))⟩
    · obtain rfl : k = len := by omega
      have hlt' : ¬ (k : Int) < (k : Int) := by omega
      rw [List.drop_eq_nil_of_le (by omega)] at hrun
      have q := hd (eS.out r hrun)
      clear hrun
      go_wp2
      go_ret
      exact ⟨rB q.out, hb⟩
set_option maxHeartbeats 4000000 in
theorem sTermOk (a : Option Addr) (len cap : Nat) (xs : List Tn) (w : World) (hR : InN w a len cap xs) :
    Calls Try.prog 38 #[.agg #[.slice a len cap]] w fun e w' => e = .returned (.bool (okT xs)) ∧ Below w.heap.size w w' := by
  have hp := hR.1
  have hlen : len ≤ maxLen := Nat.le_trans hR.2.1 hR.2.2.1
  unfold maxLen at hlen
  by_cases hl : len ≤ 100
  case neg =>
    rw [okT_long (by omega)]
    go_enter Try.func38, Try.ntmps38
    go_wp2
    go_ret
    exact ⟨rfl, (by repeat (first | exact Below.refl _ _ | refine Below.drew ?_ | refine old_alloc ?_ _ | refine old_trans ?_ (by assumption)))⟩
  obtain ⟨res, hres⟩ : ∃ r, okT xs = r := ⟨_, rfl⟩
  rw [hres]
  have eN := hd (fun h => hres.symm.trans (okT_none (xs := xs) h))
  have eS := hd (fun d h => hres.symm.trans (okT_some (xs := xs) (d := d) (by omega) h))
  clear hres
  have K0 := CS.made w _ rfl #[.slice a len cap] 32
  have hBB : Below w.heap.size w (w.alloc (.cells #[.slice a len cap] 32)) := old_alloc (Below.refl _ _) _
  go_enter Try.func38, Try.ntmps38
  go_wp2
  generalize w.alloc (.cells #[.slice a len cap] 32) = W0 at *
  go_loopw [3, 4] (fun d i wr => ∃ (k : Nat) (r : Int), k ≤ len ∧ i = .int .i64 k ∧ d = .int .i64 r ∧ 0 ≤ r ∧ r ≤ k ∧ runT xs 0 = runT (xs.drop k) r ∧ Below W0.heap.size W0 wr) (fun _ i _ => len - (intOf i).toNat)
  case atStart => exact ⟨0, 0, by omega, rfl, rfl, by omega, by omega, rfl, Below.refl _ _⟩
  case round =>
    obtain ⟨k, r, hk, rfl, rfl, hr0, hr1, hrun, hb⟩ := hrel
    have m0 := (K0.later hb).cell 0 _ rfl
    by_cases hlt : k < len
    · obtain ⟨b, off, x, y, s, rfl, hbl, hx, hf, c0, c1, c2⟩ := ((hR.old hBB).old hb).at hlt
      rw [drop_at (by omega), hx] at hrun
      have P := hd (sArgs x y s hf.2.2)
      have bn := hd (fun h => eN.out (hrun.trans (runT_no h)))
      have bg := hd (fun h => hrun.trans (runT_go h))
      clear hrun hf hx
      by_cases h0 : 0 ≤ ac ⟨x, y, s⟩
      · by_cases h1 : r < ac ⟨x, y, s⟩
        · have q := hd (bn.out (.inr h1))
          clear bn bg
          generalize ac ⟨x, y, s⟩ = m at *
          go_wp2_with fail
          refine (P.out _).mono ?_
          rintro e w1 ⟨rfl, hb1⟩
          go_wp2
          go_ret
          exact ⟨rB q.out, old_trans (old_trans hBB hb) hb1⟩
        · have q := hd (bg.out (by omega))
          clear bn bg
          generalize ac ⟨x, y, s⟩ = m at *
          go_wp2_with fail
          refine (P.out _).mono ?_
          rintro e w1 ⟨rfl, hb1⟩
          go_wp2
          go_roundw
          case rel => exact ⟨k + 1, r - m + 1, by omega, by go_num, by go_num, by omega, by omega, q.out, old_trans hb hb1⟩
          case measure => simp [intOf]; omega
      · have q := hd (bn.out (.inl (by omega)))
        have h0' : ac ⟨x, y, s⟩ < 0 := by omega
        clear bn bg
        generalize ac ⟨x, y, s⟩ = m at *
        go_wp2_with fail
        refine (P.out _).mono ?_
        rintro e w1 ⟨rfl, hb1⟩
        go_wp2
        go_ret
        exact ⟨rB q.out, old_trans (old_trans hBB hb) hb1⟩
    · obtain rfl : k = len := by omega
      have hlt' : ¬ (k : Int) < (k : Int) := by omega
      rw [List.drop_eq_nil_of_le (by omega)] at hrun
      have q := hd (eS.out r hrun)
      clear hrun
      go_wp2
      go_ret
      exact ⟨rB q.out, old_trans hBB hb⟩
end Go.Proofs.Ytcdhmimbnnicnaa

/- A law's own copy of a term, as nodes that lie somewhere. Conditions: lists of 2^20 nodes at most. -/
namespace Go.Proofs.Ytcdhmimbnnicnaa
open Go.RowKit
set_option linter.unusedVariables false
set_option maxRecDepth 100000

theorem InN.al {w : World} {a : Option Addr} {len cap : Nat} {xs : List Tn} (h : InN w a len cap xs) (o : Obj) : InN (w.alloc o) a len cap xs := h.old ((Below.refl _ _).alloc (Nat.le_refl _) o)
theorem InN.dr {w : World} {a : Option Addr} {len cap : Nat} {xs : List Tn} (h : InN w a len cap xs) : InN w.drew a len cap xs := h.old (Below.refl _ _).drew
end Go.Proofs.Ytcdhmimbnnicnaa
