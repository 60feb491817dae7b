/- The iterator over places and digits, the highest ahead: it hands them out till a round says no. No condition but that the digits are there, and that the rounds leave them. -/
import Derived.Test.YtgoffjpfddmhhaaGreatDoorPK01
import Derived.RangeFuncNested
import Derived.RangeFuncBound
import Derived.RangeFuncCalls
import Derived.RangeFuncLeaves
import Derived.Shelf.Abstract
import Derived.Shelf.RegionOpen
import Derived.OwnWalkIn
import Derived.TacticsInMore
import Derived.LoopNIn
import Derived.LoopIn
namespace Go.Proofs.YtgoffjpfddmhhaaGreatDoor
open Go.RowKit Go.Shelf
attribute [local go_sem] Oper.semAt_some
set_option linter.unusedVariables false
set_option maxRecDepth 100000

theorem KeepsOthers.of_below {n : Nat} {w w' : World} (h : Below n w w') (hn : w.heap.size ≤ n) : KeepsOthers w w' :=
  KeepsOthers.of_grownBy (row := none) ⟨h.1, h.2, h.3, h.4, fun k hk _ => h.5 k (Nat.lt_of_lt_of_le hk hn)⟩ (by simp)
/-- what P names is as it was -/
def Same (P : Nat → Prop) (A B : World) : Prop := A.heap.size ≤ B.heap.size ∧ ∀ k, P k → k < A.heap.size → B.heap[k]? = A.heap[k]?
theorem Same.refl (P : Nat → Prop) (A : World) : Same P A A := ⟨Nat.le_refl _, fun _ _ _ => rfl⟩
theorem Same.trans {P : Nat → Prop} {A B C : World} (h : Same P A B) (k : Same P B C) : Same P A C := ⟨Nat.le_trans h.1 k.1, fun i hi hl => (k.2 i hi (Nat.lt_of_lt_of_le hl h.1)).trans (h.2 i hi hl)⟩
theorem Same.of_below {P : Nat → Prop} {n : Nat} {A B : World} (hP : ∀ k, P k → k < n) (h : Below n A B) : Same P A B := ⟨h.size, fun k hk _ => h.5 k (hP k hk)⟩
theorem Same.setCell {P : Nat → Prop} {A B : World} (h : Same P A B) (p : Addr) (v : Value) (hp : ¬ P p.block) : Same P A (B.setCell p v) :=
  ⟨by simpa [World.setCell] using h.1, fun k hk hl => (Below.heap_setCell _ _ _ _ (by intro e; subst e; exact hp hk)).trans (h.2 k hk hl)⟩
theorem InI.under {w w' : World} {P : Nat → Prop} {a : Option Addr} {len cap : Nat} {xs : List Int} (h : InI w a len cap xs) (b : Same P w w') (hn : 0 < len → ∀ q, a = some q → P q.block) : InI w' a len cap xs := by
  obtain ⟨h1, h2, h3, h4, h5⟩ := h
  refine ⟨h1, h2, h3, h4, ?_⟩
  by_cases h0 : len = 0
  · exact .inl h0
  rcases h5 with h5 | ⟨bb, off, q1, q2, q3⟩
  · exact .inl h5
  · have hb := hn (by omega) _ q1
    exact .inr ⟨bb, off, q1, Nat.lt_of_lt_of_le q2 b.1, fun i hi => (World.cell?_of_block (a := ⟨bb, off + i, none⟩) (b.2 bb hb q2)).trans (q3 i hi)⟩
/-- the first k places from the top -/
def downR (len k : Nat) : List Nat := (List.range k).map (fun i => len - 1 - i)
theorem downR_succ (len k : Nat) : downR len (k + 1) = downR len k ++ [len - 1 - k] := by simp [downR, List.range_succ]

set_option maxRecDepth 100000 in
set_option maxHeartbeats 2000000 in
theorem top1_in (F : Fence) (n : Nat) (hf : F.fn 108) (hro : F.round = none) (hn : 1 ≤ n) (l Bs len cap : Nat) (P : Nat → Prop) (a : Option Addr) (xs : List Int) (J Jx : List (Fin len) → World → Prop)
    (hY : ∀ pre (x : Fin len) W, J pre W → pre.length < len → YieldAt F (n - 1) Tryz.prog l #[.int .i64 (x.val : Int), .int .i64 (xs.getD x.val 0)] W fun e W' =>
      (e = .returned (.bool true) ∧ J (pre ++ [x]) W' ∧ Same P W W') ∨ (e = .returned (.bool false) ∧ Jx (pre ++ [x]) W'))
    (W : World) (hBs : W.cell? ⟨Bs, 0, none⟩ = some (.slice a len cap)) (hBn : P Bs) (hBl : Bs < W.heap.size) (hR : InI W a len cap xs) (hRn : 0 < len → ∀ q, a = some q → P q.block) (h0 : J [] W) :
    CallsIn F n Tryz.prog 108 #[.func (.yield l) #[] #[], .pointer (some ⟨Bs, 0, none⟩)] W fun e W' => (∃ v, e = .returned v) ∧
      ((∃ ys : List (Fin len), ys.map Fin.val = downR len len ∧ J ys W') ∨ (∃ pre : List (Fin len), (∃ k, k ≤ len ∧ pre.map Fin.val = downR len k) ∧ Jx pre W')) := by
  have hlen := hR.len
  refine callsIn_of_wp Tryz.func108 rfl hf ?_ hro
  simp only [Tryz.ntmps108, List.size_toArray, List.length_cons, List.length_nil, Nat.reduceAdd, Nat.reduceSub, Array.replicate_succ, Array.replicate_zero, List.push_toArray, List.append_toArray, List.nil_append, List.cons_append]
  gi_wp2
  gi_loopw [3] (fun i wr => ∃ (k : Nat) (j : Int) (pre : List (Fin len)), j + 1 + k = len ∧ -1 ≤ j ∧ i = .int .i64 j ∧ pre.map Fin.val = downR len k ∧ J pre wr ∧ Same P W wr)
    (fun i _ => (intOf i + 1).toNat)
  case atStart => exact ⟨0, (len : Int) - 1, [], by omega, by omega, rfl, rfl, h0, Same.refl _ _⟩
  case round =>
    obtain ⟨k, j, pre, hk, hj, rfl, hpre, hJs, hbw⟩ := hrel
    have hpl : pre.length = k := by have := congrArg List.length hpre; simpa [downR] using this
    by_cases hlt : 0 ≤ j
    · obtain ⟨m, rfl⟩ := Int.eq_ofNat_of_zero_le hlt
      have hm : m < len := by omega
      have hmk : Hid (len - 1 - k = m) := by show _ = _; omega
      obtain ⟨b, off, x, rfl, hbl, hx, -, c0⟩ := (hR.under hbw hRn).at hm
      have cB := (World.cell?_of_block (a := ⟨Bs, 0, none⟩) (hbw.2 Bs hBn hBl)).trans hBs
      obtain ⟨fn, tmps, assign, body, hy, hY2⟩ := hY pre ⟨m, hm⟩ wr hJs (by omega)
      dsimp only at hy
      rw [hx] at hy
      clear hx
      gi_wp2
      refine hY2.mono ?_
      rintro e W3 (⟨rfl, hJ3, hk3⟩ | ⟨rfl, hJx3⟩)
      · gi_wp2
        go_roundw
        case rel => exact ⟨k + 1, (m : Int) - 1, _, by omega, by omega, by go_num, by rw [List.map_append, hpre, downR_succ, hmk.out]; rfl, hJ3, hbw.trans hk3⟩
        case measure => simp [intOf] <;> omega
      · gi_wp2
        refine bodyPost_ret (results_none rfl _ _ _) rfl ?_
        exact ⟨⟨_, rfl⟩, .inr ⟨_, ⟨k + 1, by omega, by rw [List.map_append, hpre, downR_succ, hmk.out]; rfl⟩, hJx3⟩⟩
    · obtain rfl : j = -1 := by omega
      obtain rfl : k = len := by omega
      gi_wp2
      go_end0
      exact ⟨⟨_, rfl⟩, .inl ⟨_, hpre, hJs⟩⟩

set_option maxHeartbeats 1000000 in
theorem top_in (F : Fence) (n : Nat) (hf : F.fn 90) (hro : F.round = none) (a : Option Addr) (len cap : Nat) (w : World) :
    CallsIn F n Tryz.prog 90 #[.slice a len cap] w fun e w' => e = .returned (.func (.func 108) #[] #[.pointer (some ⟨w.heap.size, 0, none⟩)]) ∧ w' = w.alloc (.cells #[.slice a len cap] 80) := by
  refine callsIn_of_wp Tryz.func90 rfl hf ?_ hro
  simp only [Tryz.ntmps90, List.size_toArray, List.length_cons, List.length_nil, Nat.reduceAdd, Nat.reduceSub, Array.replicate_succ, Array.replicate_zero, List.push_toArray, List.append_toArray, List.nil_append, List.cons_append]
  gi_wp2
  go_ret
  exact ⟨rfl, rfl⟩

theorem top_stop (F : Fence) (n : Nat) (hf : F.fn 108) (hro : F.round = none) (hn : 1 ≤ n) (Bs len cap : Nat) (P : Nat → Prop) (a : Option Addr) (xs : List Int) (w : World) (hBl : Bs < w.heap.size) (hBn : P Bs)
    (hc : w.cell? ⟨Bs, 0, none⟩ = some (.slice a len cap)) (hR : InI w a len cap xs) (hRn : 0 < len → ∀ q, a = some q → P q.block) :
    SeqStopsK F n Tryz.prog 108 #[.pointer (some ⟨Bs, 0, none⟩)] (fun x : Fin len => #[Value.int .i64 (x.val : Int), Value.int .i64 (xs.getD x.val 0)]) (Same P) (fun ys => ys.map Fin.val = downR len len) (fun pre => ∃ k, k ≤ len ∧ pre.map Fin.val = downR len k) len w := fun l J Jx W hW _ _ hY h0 =>
  top1_in F n hf hro hn l Bs len cap P a xs J Jx hY W ((hW.cell (p := ⟨Bs, 0, none⟩) hBl).trans hc) hBn (Nat.lt_of_lt_of_le hBl hW.size) (hR.old hW) hRn h0
theorem same_b {P : Nat → Prop} {n : Nat} {w : World} (hP : ∀ k, P k → k < n) (h : n ≤ w.heap.size) : ∀ (W : World) (l : Nat) (o o' : Obj), w.heap.size ≤ l → W.heap[l]? = some o → o.isCells = false → o.isWalk = false → Same P W (W.putObj l o') :=
  fun W l o o' h1 h2 h3 h4 => Same.of_below hP (belowK_b (w := w) h W l o o' h1 h2 h3 h4)
/-- the blocks that an iterator over a list wants kept -/
def KeepP (Bs : Nat) (a : Option Addr) (len : Nat) (k : Nat) : Prop := k = Bs ∨ (0 < len ∧ ∃ q, a = some q ∧ q.block = k)
theorem keepP_at {Bs : Nat} {a : Option Addr} {len : Nat} : 0 < len → ∀ q, a = some q → KeepP Bs a len q.block := fun h q e => .inr ⟨h, q, e, rfl⟩
theorem keepP_lt {Bs n : Nat} {a : Option Addr} {len : Nat} (h1 : Bs < n) (h2 : 0 < len → ∀ q, a = some q → q.block < n) : ∀ k, KeepP Bs a len k → k < n := by
  rintro k (rfl | ⟨h, q, e, rfl⟩)
  · exact h1
  · exact h2 h q e
end Go.Proofs.YtgoffjpfddmhhaaGreatDoor
