/- The iterator over a box's coordinates: it hands out 0, 1, .. in their order till a round says no. No condition but that the box is there. -/
import Derived.RangeFuncNested
import Derived.RangeFuncBound
import Derived.RangeFuncCalls
import Derived.RangeFuncLeaves
import Derived.Shelf.Abstract
import Derived.Shelf.RegionOpen
import Derived.WalkKit
import Derived.OwnWalkIn
import Derived.TacticsInMore
import Derived.LoopNIn
import Derived.LoopIn
import Derived.Test.YtlggbihdmabifaaGreatDoorProg
namespace Go.Proofs.YtlggbihdmabifaaGreatDoor
open Go.RowKit Go.Shelf
attribute [local go_sem] Oper.semAt_some
set_option linter.unusedVariables false
set_option maxRecDepth 100000

theorem KeepsOthers.of_below {n : Nat} {w w' : World} (h : Below n w w') (hn : w.heap.size ≤ n) : KeepsOthers w w' :=
  KeepsOthers.of_grownBy (row := none) ⟨h.1, h.2, h.3, h.4, fun k hk _ => h.5 k (Nat.lt_of_lt_of_le hk hn)⟩ (by simp)

set_option maxRecDepth 100000 in
set_option maxHeartbeats 2000000 in
theorem places1_in (F : Fence) (n : Nat) (hf : F.fn 51) (hro : F.round = none) (hn : 1 ≤ n) (l Bs n₀ len cap : Nat) (a : Option Addr) (hlen : len ≤ maxLen) (J Jx : List (Fin len) → World → Prop)
    (hY : ∀ pre (x : Fin len) W, J pre W → pre.length < len → YieldAt F (n - 1) Tryz.prog l #[.int .i64 (x.val : Int)] W fun e W' =>
      (e = .returned (.bool true) ∧ J (pre ++ [x]) W' ∧ Below n₀ W W') ∨ (e = .returned (.bool false) ∧ Jx (pre ++ [x]) W'))
    (W : World) (hBs : W.cell? ⟨Bs, 0, none⟩ = some (.slice a len cap)) (h0 : J [] W) :
    CallsIn F n Tryz.prog 51 #[.func (.yield l) #[] #[], .pointer (some ⟨Bs, 0, none⟩)] W fun e W' => (∃ v, e = .returned v) ∧
      ((∃ ys : List (Fin len), ys.map Fin.val = List.range len ∧ J ys W') ∨ (∃ pre : List (Fin len), (∃ k, k ≤ len ∧ pre.map Fin.val = List.range k) ∧ Jx pre W')) := by
  refine callsIn_of_wp Tryz.func51 rfl hf ?_ hro
  simp only [Tryz.ntmps51, List.size_toArray, List.length_cons, List.length_nil, Nat.reduceAdd, Nat.reduceSub, Array.replicate_succ, Array.replicate_zero, List.push_toArray, List.append_toArray, List.nil_append, List.cons_append]
  gi_wp2
  gi_loopw [7] (fun i wr => ∃ (k : Nat) (pre : List (Fin len)), k ≤ len ∧ i = .int .i64 k ∧ pre.map Fin.val = List.range k ∧ J pre wr)
    (fun i _ => len - (intOf i).toNat)
  case atStart => exact ⟨0, [], Nat.zero_le _, rfl, rfl, h0⟩
  case round =>
    obtain ⟨k, pre, hk, rfl, hpre, hJs⟩ := hrel
    have hpl : pre.length = k := by have := congrArg List.length hpre; simpa using this
    unfold maxLen at hlen
    by_cases hlt : k < len
    · obtain ⟨fn, tmps, assign, body, hy, hR⟩ := hY pre ⟨k, hlt⟩ wr hJs (by omega)
      dsimp only at hy
      gi_wp2
      refine hR.mono ?_
      rintro e W3 (⟨rfl, hJ3, hk3⟩ | ⟨rfl, hJx3⟩)
      · gi_wp2
        go_roundw
        case rel => exact ⟨k + 1, _, by omega, by simp, by rw [List.map_append, hpre, List.range_succ]; rfl, hJ3⟩
        case measure => simp [intOf]; omega
      · gi_wp2
        refine bodyPost_ret (results_none rfl _ _ _) rfl ?_
        exact ⟨⟨_, rfl⟩, .inr ⟨_, ⟨k + 1, by omega, by rw [List.map_append, hpre, List.range_succ]; rfl⟩, hJx3⟩⟩
    · obtain rfl : k = len := by omega
      gi_wp2
      go_end0
      exact ⟨⟨_, rfl⟩, .inl ⟨_, hpre, hJs⟩⟩

set_option maxHeartbeats 1000000 in
theorem places_in (F : Fence) (n : Nat) (hf : F.fn 35) (hro : F.round = none) (a : Option Addr) (len cap : Nat) (w : World) :
    CallsIn F n Tryz.prog 35 #[.agg #[.slice a len cap]] w fun e w' => e = .returned (.func (.func 51) #[] #[.pointer (some ⟨w.heap.size, 0, none⟩)]) ∧ w' = w.alloc (.cells #[.slice a len cap] 31) := by
  refine callsIn_of_wp Tryz.func35 rfl hf ?_ hro
  simp only [Tryz.ntmps35, List.size_toArray, List.length_cons, List.length_nil, Nat.reduceAdd, Nat.reduceSub, Array.replicate_succ, Array.replicate_zero, List.push_toArray, List.append_toArray, List.nil_append, List.cons_append]
  gi_wp2
  go_ret
  exact ⟨rfl, rfl⟩

theorem places_stop (F : Fence) (n : Nat) (hf : F.fn 51) (hro : F.round = none) (hn : 1 ≤ n) (Bs n₀ len cap : Nat) (a : Option Addr) (hlen : len ≤ maxLen) (w : World) (hBs : Bs < w.heap.size)
    (hc : w.cell? ⟨Bs, 0, none⟩ = some (.slice a len cap)) :
    SeqStopsK F n Tryz.prog 51 #[.pointer (some ⟨Bs, 0, none⟩)] (fun x : Fin len => #[Value.int .i64 (x.val : Int)]) (Below n₀) (fun ys => ys.map Fin.val = List.range len) (fun pre => ∃ k, k ≤ len ∧ pre.map Fin.val = List.range k) len w := fun l J Jx W hW _ _ hY h0 =>
  places1_in F n hf hro hn l Bs n₀ len cap a hlen J Jx hY W ((hW.cell (p := ⟨Bs, 0, none⟩) hBs).trans hc) h0
end Go.Proofs.YtlggbihdmabifaaGreatDoor

/- The first coordinate at which a function answers yes, else -1: of whatever function that answers a test at each place and writes nothing that was there. -/
namespace Go.Proofs.YtlggbihdmabifaaGreatDoor
open Go.RowKit Go.Shelf
attribute [local go_sem] Oper.semAt_some
set_option linter.unusedVariables false
set_option maxRecDepth 100000

def firstI (len : Nat) (p : Nat → Bool) : Int := match (List.range len).find? p with | some k => (k : Int) | none => -1

theorem firstI_none {len : Nat} {p : Nat → Bool} {ys : List (Fin len)} (hy : ys.map Fin.val = List.range len) (h : ∀ y ∈ ys, p y.val = false) : firstI len p = -1 := by
  unfold firstI
  have : (List.range len).find? p = none := by
    rw [← hy, List.find?_eq_none]
    intro x hx
    obtain ⟨y, hm, rfl⟩ := List.mem_map.1 hx
    simp [h y hm]
  rw [this]
theorem firstI_some {len k : Nat} {p : Nat → Bool} {pre : List (Fin len)} {x : Fin len} (hk : k ≤ len) (hy : (pre ++ [x]).map Fin.val = List.range k) (h : ∀ y ∈ pre, p y.val = false) (hx : p x.val = true) : firstI len p = (x.val : Int) := by
  unfold firstI
  have hl : k = pre.length + 1 := by have := congrArg List.length hy; simp at this; exact this.symm
  obtain ⟨j, rfl⟩ : ∃ j, len = k + j := ⟨len - k, by omega⟩
  have hs : List.range (k + j) = pre.map Fin.val ++ (x.val :: (List.range j).map (k + ·)) := by
    rw [List.range_add, ← hy]; simp
  have : (List.range (k + j)).find? p = some x.val := by
    rw [hs, List.find?_append]
    have h0 : (pre.map Fin.val).find? p = none := by
      rw [List.find?_eq_none]
      intro z hz
      obtain ⟨y, hm, rfl⟩ := List.mem_map.1 hz
      simp [h y hm]
    rw [h0]
    simp [hx]
  rw [this]

set_option maxRecDepth 100000 in
set_option maxHeartbeats 4000000 in
theorem coordThat (g : Nat) (caps : Array Value) (a : Option Addr) (len cap : Nat) (hlen : len ≤ maxLen) (p : Nat → Bool) (w : World)
    (hE : ∀ args w, (callFunc g args).run Tryz.prog w = .ok (.enter g args) w)
    (hG : ∀ (k : Nat) (W : World), k < len → Below w.heap.size w W → Calls Tryz.prog g (#[.int .i64 (k : Int)] ++ caps) W fun e W' => e = .returned (.bool (p k)) ∧ Below W.heap.size W W') :
    Calls Tryz.prog 19 #[.agg #[.slice a len cap], .func (.func g) #[] caps] w fun e W' => e = .returned (.int .i64 (firstI len p)) ∧ Below w.heap.size w W' := by
  refine (callsIn_wide (n := 3)).1 ?_
  have hro : Fence.wide.round = none := rfl
  have h1 : 1 ≤ 3 := by omega
  refine callsIn_of_wp_marks Tryz.func19 rfl trivial ?_ hro
  simp only [Tryz.ntmps19, List.size_toArray, List.length_cons, List.length_nil, Nat.reduceAdd, Nat.reduceSub, Array.replicate_succ, Array.replicate_zero, List.push_toArray, List.append_toArray, List.nil_append, List.cons_append]
  gi_wp2_with (refine ⟨trivial, ?_⟩; gi_at_call 35; refine (places_in Fence.wide (3 - 1) trivial hro _ _ _ _).mono ?_; rintro e w' ⟨rfl, rfl⟩)
  have b1 := ((Boxed.new (w.alloc (.cells #[.slice a len cap] 31)) 51 (.func (.func g) #[] caps)).alloc (.cells #[.int .i64 0] 3)).alloc (.cells #[.slice a len cap] 31)
  have b2 := (Boxed.new ((w.alloc (.cells #[.slice a len cap] 31)).alloc (.cells #[.func (.func g) #[] caps] 51)) 3 (.int .i64 0)).alloc (.cells #[.slice a len cap] 31)
  have b3 := Boxed.new (((w.alloc (.cells #[.slice a len cap] 31)).alloc (.cells #[.func (.func g) #[] caps] 51)).alloc (.cells #[.int .i64 0] 3)) 31 (.slice a len cap)
  simp only [World.size_alloc] at b1 b2 b3
  have c1 := b1.cell
  have c2 := b2.cell
  have f2 := b2.frozen
  have c3 := b3.cell
  have hB0 : Below w.heap.size w ((((w.alloc (.cells #[.slice a len cap] 31)).alloc (.cells #[.func (.func g) #[] caps] 51)).alloc (.cells #[.int .i64 0] 3)).alloc (.cells #[.slice a len cap] 31)) := ((((Below.refl _ w).alloc (Nat.le_refl _) _).alloc (by simp) _).alloc (by simp; omega) _).alloc (by simp; omega) _
  have hsz : ((((w.alloc (.cells #[.slice a len cap] 31)).alloc (.cells #[.func (.func g) #[] caps] 51)).alloc (.cells #[.int .i64 0] 3)).alloc (.cells #[.slice a len cap] 31)).heap.size = w.heap.size + 4 := by simp
  clear b1 b2 b3
  generalize ((((w.alloc (.cells #[.slice a len cap] 31)).alloc (.cells #[.func (.func g) #[] caps] 51)).alloc (.cells #[.int .i64 0] 3)).alloc (.cells #[.slice a len cap] 31)) = W0 at *
  refine wpIn_rangeFunc_ownF hro h1 (gf := 51) (lb := #[.pointer (some ⟨w.heap.size + 1 + 1 + 1, 0, none⟩)]) rfl trivial (enters_of Tryz.func51 (by kernel_rfl) rfl)
    (places_stop Fence.wide (3 - 1) trivial hro (by omega) (w.heap.size + 1 + 1 + 1) w.heap.size len cap a hlen W0 (by omega) c3) belowK_t (belowK_b (by omega)) (Below.refl _ _) (fun _ => rfl)
    (fun pre W => ((∀ y ∈ pre, p y.val = false) ∧ W.cell? ⟨w.heap.size + 1, 0, none⟩ = some (.func (.func g) #[] caps) ∧ W.cell? ⟨w.heap.size + 1 + 1, 0, none⟩ = some (.int .i64 0) ∧ W.frozen? ⟨w.heap.size + 1 + 1, 0, none⟩ = false) ∧ w.heap.size + 4 ≤ W.heap.size ∧ Below w.heap.size w W)
    (fun c pre W => (c = .ret ∧ ∃ (q : List (Fin len)) (x : Fin len), pre = q ++ [x] ∧ (∀ y ∈ q, p y.val = false) ∧ p x.val = true ∧ W.cell? ⟨w.heap.size + 1 + 1, 0, none⟩ = some (.int .i64 (x.val : Int))) ∧ Below w.heap.size w W)
    (OwnFrom.and (Own.from (fun s A B row hs hg hr => ⟨hs.1, cell_kept hs.2.1 hg hr, cell_kept hs.2.2.1 hg hr, (frozen_kept hs.2.2.1 hg hr).trans hs.2.2.2⟩) _) (OwnFrom.and (fun s A B row hs hg hr => Nat.le_trans hs hg.size) (ownFrom_below (Nat.le_refl _) (by omega))))
    (fun c => OwnFrom.and (Own.from (fun s A B row hs hg hr => ⟨hs.1, by obtain ⟨q, x, e1, e2, e3, e4⟩ := hs.2; exact ⟨q, x, e1, e2, e3, cell_kept e4 hg hr⟩⟩) _) (ownFrom_below (Nat.le_refl _) (by omega)))
    ⟨⟨by simp, c1, c2, f2⟩, by omega, hB0⟩
    (fun x => { tmps := #[.agg #[.slice a len cap], .func (.func g) #[] caps, .pointer (some ⟨w.heap.size, 0, none⟩), .pointer (some ⟨w.heap.size + 1, 0, none⟩), .pointer (some ⟨w.heap.size + 1 + 1, 0, none⟩), .int .i64 (x.val : Int), .agg #[.slice a len cap], .func (.func 51) #[] #[.pointer (some ⟨w.heap.size + 1 + 1 + 1, 0, none⟩)], .int .i64 (x.val : Int), undef, undef, undef, undef], defers := [] }) ?assign ?body ?done ?stop
  case assign =>
    intro l x W K hK
    gi_wp2
    exact hK
  case body =>
    rintro l pre x W ⟨⟨hp, hcg, hcr, hfr⟩, hsW, hB⟩ _
    gi_wp2_with fail
    refine ⟨trivial, (CallsIn.inRound l (callsIn_wide.2 (hG x.val W x.isLt hB))).mono ?_⟩
    rintro e W1 ⟨rfl, hb1⟩
    have k1 := (hb1.cell (p := ⟨w.heap.size + 1, 0, none⟩) (by simp; omega)).trans hcg
    have k2 := (hb1.cell (p := ⟨w.heap.size + 1 + 1, 0, none⟩) (by simp; omega)).trans hcr
    have k3 := (hb1.frozen (p := ⟨w.heap.size + 1 + 1, 0, none⟩) (by simp; omega)).trans hfr
    have hB1 : Below w.heap.size w W1 := hB.trans (hb1.mono (by omega))
    cases hpx : p x.val
    · gi_wp2
      exact ⟨KeepsOthers.of_below hb1 (Nat.le_refl _), hb1.mono (by omega), ⟨fun y hy => (List.mem_append.1 hy).elim (hp y) (fun e => by simp at e; subst e; exact hpx), k1, k2, k3⟩, Nat.le_trans hsW hb1.size, hB1⟩
    · gi_wp2
      exact ⟨(KeepsOthers.of_below hb1 (Nat.le_refl _)).trans (KeepsOthers.setCell _ _ _), ⟨rfl, pre, x, rfl, hp, hpx, World.cell?_setCell_same' _ _ _ (by rw [k2]; rfl)⟩, hB1.setCell (p := ⟨w.heap.size + 1 + 1, 0, none⟩) (by simp; omega) _⟩
  case done =>
    rintro D ys W hD hys ⟨⟨hne, _, hcr, hfr⟩, hsW, hB⟩ hK
    gi_wp2
    have hK' := (KeepsOthers.setCell W ⟨w.heap.size + 1 + 1, 0, none⟩ (.int .i64 (-1))).same D _ hK rfl
    refine ⟨by simp, .inl ⟨_, _, rfl, run_takeDeferred hK', ?_⟩⟩
    have hc5 := cell_kept (World.cell?_setCell_same' W ⟨w.heap.size + 1 + 1, 0, none⟩ (.int .i64 (-1)) (by rw [hcr]; rfl)) (grownBy_putObj' _ D (.deferred none)) (fun r e => by cases e; exact ⟨_, hK', rfl⟩)
    refine ⟨.int .i64 (-1), ?_, by rw [firstI_none hys hne], (hB.setCell (p := ⟨w.heap.size + 1 + 1, 0, none⟩) (by simp; omega) _).trans (belowK_b (w := w) (Nat.le_refl _) _ D _ _ (by omega) hK' rfl rfl)⟩
    simp [results, Tryz.f19, go_sem, hc5]
  case stop =>
    rintro D c pre W hD ⟨k, hk, hpre⟩ ⟨⟨rfl, q, x, rfl, hq, hx, hcr⟩, hB⟩ hK
    gi_wp2
    refine ⟨by simp, .inl ⟨_, _, rfl, run_takeDeferred hK, ?_⟩⟩
    have hc5 := cell_kept hcr (grownBy_putObj' _ D (.deferred none)) (fun r e => by cases e; exact ⟨_, hK, rfl⟩)
    refine ⟨.int .i64 (x.val : Int), ?_, by rw [firstI_some hk hpre hq hx], hB.trans (belowK_b (w := w) (Nat.le_refl _) W D _ _ (by omega) hK rfl rfl)⟩
    simp [results, Tryz.f19, go_sem, hc5]
end Go.Proofs.YtlggbihdmabifaaGreatDoor
