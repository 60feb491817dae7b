/- TermPut over copies that a law makes; its answer, marked and held. Condition: 2^20 nodes at most where they are marked. -/
import Derived.Test.YtcdhmimbnnicnaaPK16
namespace Go.Proofs.Ytcdhmimbnnicnaa
open Go.RowKit
set_option linter.unusedVariables false
set_option maxRecDepth 100000

theorem gs_xs {gs : List (Nat × List Tn)} {ts : List Te} (h1 : gs.length = ts.length) (h2 : ∀ i, i < ts.length → (gs.getD i tg0).2 = (ts.getD i te0).xs) : (gs.map tgE).map Te.xs = ts.map Te.xs := by
  apply List.ext_getElem (by simp [h1])
  intro i g1 g2
  have hi : i < ts.length := by simpa using g2
  have hj : i < gs.length := by omega
  have e := h2 i hi
  rw [List.getD_eq_getElem?_getD, List.getD_eq_getElem?_getD, List.getElem?_eq_getElem hi, List.getElem?_eq_getElem hj] at e
  simpa [tgE] using e
theorem gs_sum {gs : List (Nat × List Tn)} {ts : List Te} (h1 : gs.length = ts.length) (h2 : ∀ i, i < ts.length → (gs.getD i tg0).2 = (ts.getD i te0).xs) : sumU (gs.map tgE) gs.length = sumU ts ts.length := by
  rw [h1]
  refine sumU_same _ (fun i hi => ?_)
  rw [map_getD (by omega)]
  exact h2 i hi
theorem tpL_len (names : List ByteArray) (zs : List (List Tn)) (xs : List Tn) : (tpL names zs xs).length ≤ 100 := by
  unfold tpL
  split
  · rename_i h
    unfold tpB at h
    simp only [Bool.and_eq_true, decide_eq_true_eq] at h
    exact h.2.2.2.2
  · simp
theorem sTP (a : Option Addr) (cap : Nat) (xs : List Tn) (an : Option Addr) (cn : Nat) (names : List ByteArray) (ts : List Te) (gs : List (Nat × List Tn)) (base b top : Nat) (w : World) (R : InN w a xs.length cap xs) (RN : InT w an names.length cn names) (T : GTs w base b top gs) (h1 : gs.length = ts.length) (h2 : ∀ i, i < ts.length → (gs.getD i tg0).2 = (ts.getD i te0).xs) :
    Calls Try.prog 9 #[.agg #[.slice a xs.length cap], .slice an names.length cn, .slice (some ⟨b, 0, none⟩) ts.length ts.length] w fun e w' => (∃ av cv, e = .returned (.tuple #[.agg #[.slice av (tpL names (ts.map Te.xs) xs).length cv], .bool (tpB names (ts.map Te.xs) xs)]) ∧ OTn w' w.heap.size av cv (tpL names (ts.map Te.xs) xs)) ∧ Below w.heap.size w w' := by
  have hT := T.inTs
  have h := sTermPut a cap xs an cn names (some ⟨b, 0, none⟩) gs.length (gs.map tgE) w R RN (by rw [List.length_map]; exact hT)
  rw [gs_xs h1 h2, List.length_map, h1] at h
  exact h
theorem iTP (a : Option Addr) (cap : Nat) (xs : List Tn) (an : Option Addr) (cn : Nat) (names : List ByteArray) (ts : List Te) (gs : List (Nat × List Tn)) (base b top : Nat) (w : World) (R : InN w a xs.length cap xs) (RN : InT w an names.length cn names) (T : GTs w base b top gs) (h1 : gs.length = ts.length) (h2 : ∀ i, i < ts.length → (gs.getD i tg0).2 = (ts.getD i te0).xs) :
    Calls Try.prog 13 #[.agg #[.slice a xs.length cap], .slice an names.length cn, .slice (some ⟨b, 0, none⟩) ts.length ts.length] w fun e w' => (∃ av cv, e = .returned (.tuple #[.agg #[.slice av (tpL names (ts.map Te.xs) xs).length cv], .bool (tpB names (ts.map Te.xs) xs)]) ∧ OTn w' w.heap.size av cv (tpL names (ts.map Te.xs) xs)) ∧ Below w.heap.size w w' := by
  have hT := T.inTs
  have h := iTermPut a cap xs an cn names (some ⟨b, 0, none⟩) gs.length (gs.map tgE) w R RN (by rw [List.length_map]; exact hT)
  rw [gs_xs h1 h2, List.length_map, h1] at h
  exact h
set_option maxHeartbeats 2000000 in
theorem lMarkTermG (base : Nat) (av : Option Addr) (cv : Nat) (xs : List Tn) (k : Int) (w : World) (h : OTn w base av cv xs) (hl : xs.length ≤ 1048576) (k0 : 0 ≤ k) (k1 : k ≤ 16777216) :
    Calls Try.prog 17 #[.agg #[.slice av xs.length cv], .int .i64 k] w fun e w' => e = .returned (.int .i64 (k + 3 * xs.length)) ∧ OTn w' base av cv (tnmarks k xs.length) ∧ w.grownBy w' (ownB av) := by
  have hal : Below w.heap.size w (w.alloc (.cells #[.slice av xs.length cv] 32)) := old_alloc (Below.refl _ _) _
  have MN := hd (lMarkTnO base av cv xs k _ (h.later hal) hl k0 k1)
  have hg0 : w.grownBy (w.alloc (.cells #[.slice av xs.length cv] 32)) (ownB av) := ⟨hal.1, hal.2, hal.3, hal.4, fun j hj _ => hal.5 j hj⟩
  clear h
  go_enter Try.func17, Try.ntmps17
  go_wp2_with fail
  refine MN.out.mono ?_
  rintro e w2 ⟨rfl, hr2, hg2⟩
  replace hr2 := hd hr2
  go_wp2
  go_ret
  exact ⟨rfl, hr2.out, hg0.trans hg2⟩
set_option maxHeartbeats 2000000 in
theorem lHeldTermG (base : Nat) (av : Option Addr) (cv n : Nat) (k : Int) (w : World) (h : OTn w base av cv (tnmarks k n)) (hl : n ≤ 1048576) (k0 : 0 ≤ k) (k1 : k ≤ 16777216) :
    Calls Try.prog 20 #[.agg #[.slice av n cv], .int .i64 k] w fun e w' => e = .returned (.int .i64 (k + 3 * n)) ∧ Below w.heap.size w w' := by
  have hal : Below w.heap.size w (w.alloc (.cells #[.slice av n cv] 32)) := old_alloc (Below.refl _ _) _
  have HN := hd (lHeldTnO base av cv n k _ (h.later hal) hl k0 k1)
  have hk : ¬ (k + 3 * (n : Int) < 0) := by omega
  obtain ⟨q, hq⟩ : ∃ q : Int, k + 3 * (n : Int) = q := ⟨_, rfl⟩
  rw [hq] at HN hk ⊢
  clear h hq
  go_enter Try.func20, Try.ntmps20
  go_wp2_with fail
  refine HN.out.mono ?_
  rintro e w2 ⟨rfl, hb2⟩
  go_wp2
  go_ret
  exact ⟨rfl, old_trans hal hb2⟩
theorem lEqGT {ts : List Te} {gs gz : List (Nat × List Tn)} {base b top base' b' top' : Nat} {w : World} (T : GTs w base b top gs) (Z : GTs w base' b' top' gz) (h1 : gs.length = ts.length) (h2 : ∀ i, i < ts.length → (gs.getD i tg0).2 = (ts.getD i te0).xs) (k1 : gz.length = ts.length) (k2 : ∀ i, i < ts.length → (gz.getD i tg0).2 = (ts.getD i te0).xs) :
    Calls Try.prog 16 #[.slice (some ⟨b, 0, none⟩) ts.length ts.length, .slice (some ⟨b', 0, none⟩) ts.length ts.length] w fun e w' => e = .returned (.bool true) ∧ Below w.heap.size w w' := by
  have hT := T.inTs
  have hZ := Z.inTs
  rw [h1] at hT
  rw [k1] at hZ
  exact lEqTs _ _ ts.length ts.length ts.length (gs.map tgE) (gz.map tgE) w hT hZ (fun i hi => by rw [map_getD (by omega), map_getD (by omega)]; exact (h2 i hi).trans (k2 i hi).symm)
theorem lMarkGT {ts : List Te} {gs : List (Nat × List Tn)} {base b top : Nat} (k : Int) {w : World} (T : GTs w base b top gs) (h1 : gs.length = ts.length) (h2 : ∀ i, i < ts.length → (gs.getD i tg0).2 = (ts.getD i te0).xs) {su : Nat} (hu : sumU ts ts.length = su) (hl : ts.length ≤ 1048576) (hs : su ≤ 1048576) (k0 : 0 ≤ k) (k1 : k ≤ 8388608) :
    Calls Try.prog 19 #[.slice (some ⟨b, 0, none⟩) ts.length ts.length, .int .i64 k] w fun e w' => (e = .returned (.int .i64 (k + 3 * (su : Int)))) ∧ Out (fun x => b < x ∧ x < top) w w' := by
  have e := gs_sum h1 h2
  have h := lMarkTs base b top gs k w T (by omega) (by rw [e, hu]; exact hs) k0 k1
  rw [e, hu, h1] at h
  exact h
theorem ne_lo {av av' : Option Addr} {n m : Nat} (h : ∀ q, av = some q → q.block < n) (h' : ∀ q, av' = some q → m ≤ q.block) (hn : n ≤ m) : ∀ q, av = some q → some q.block ≠ ownB av' := by
  intro q e e2
  cases av' with
  | none => cases e2
  | some p => have := h' p rfl; have := h q e; simp [ownB] at e2; omega
theorem ne_hi {av av' : Option Addr} {n m : Nat} (h : ∀ q, av = some q → m ≤ q.block) (h' : ∀ q, av' = some q → q.block < n) (hn : n ≤ m) : ∀ q, av = some q → some q.block ≠ ownB av' := by
  intro q e e2
  cases av' with
  | none => cases e2
  | some p => have := h' p rfl; have := h q e; simp [ownB] at e2; omega
theorem ne_up {av' : Option Addr} {n c : Nat} (h' : ∀ q, av' = some q → q.block < n) (hn : n ≤ c) : some c ≠ ownB av' := by
  intro e2
  cases av' with
  | none => cases e2
  | some p => have := h' p rfl; simp [ownB] at e2; omega
theorem ne_dn {av' : Option Addr} {n c : Nat} (h' : ∀ q, av' = some q → n ≤ q.block) (hn : c < n) : some c ≠ ownB av' := by
  intro e2
  cases av' with
  | none => cases e2
  | some p => have := h' p rfl; simp [ownB] at e2; omega
theorem own_lt {av' : Option Addr} {n : Nat} (h' : ∀ q, av' = some q → q.block < n) : ∀ r, ownB av' = some r → r < n := by
  intro r e
  cases av' with
  | none => cases e
  | some p => have := h' p rfl; simp [ownB] at e; omega
theorem Below.byOut {n : Nat} {w0 w w' : World} {C : Nat → Prop} (hb : Below n w0 w) (k : Out C w w') (hn : ∀ i, C i → n ≤ i) (h0 : n ≤ w.heap.size) : Below n w0 w' := hb.trans (k.below h0 hn)
theorem ON.out {w w' : World} {C : Nat → Prop} {base b : Nat} {xs : List Tn} (h : ON w base b xs) (k : Out C w w') (hn : ¬ C b) : ON w' base b xs := ⟨h.1, h.2.1, h.2.2.1, h.2.2.2.same (k.same _ h.2.2.2.1 hn) k.size⟩
end Go.Proofs.Ytcdhmimbnnicnaa
