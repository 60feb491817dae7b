/- Which of two numbers is greater, by the program: its iterator from the top, till two digits differ. Conditions: numbers. -/
import Derived.Test.YtpamnpdigoikoaaDoorNC
namespace Go.Proofs.YtpamnpdigoikoaaDoor
open Go.RowKit Go.Shelf
attribute [local go_sem] Oper.semAt_some
set_option linter.unusedVariables false
set_option maxRecDepth 100000

def cmpZ (x y : Int) : Int := if x < y then -1 else if y < x then 1 else 0
set_option maxHeartbeats 1000000 in
theorem isNaNI (x : Int) (w : World) : Calls Tryd.prog 118 #[.int .i64 x] w fun e w' => e = .returned (.bool false) ∧ w' = w := by
  go_enter Tryd.func118, Tryd.ntmps118
  go_wp2
  go_ret
  exact ⟨retB (by simp), rfl⟩
set_option maxHeartbeats 1000000 in
theorem compareI (x y : Int) (w : World) : Calls Tryd.prog 108 #[.int .i64 x, .int .i64 y] w fun e w' => e = .returned (.int .i64 (cmpZ x y)) ∧ w' = w := by
  have N := hd isNaNI
  rcases Int.lt_trichotomy x y with h | h | h
  · have e : cmpZ x y = -1 := by unfold cmpZ; rw [if_pos h]
    rw [e]
    go_enter Tryd.func108, Tryd.ntmps108
    go_wp2_with (go_at_call 118; refine (N.out _ _).mono ?_; rintro e w1 ⟨rfl, rfl⟩)
    go_ret
    exact ⟨rfl, rfl⟩
  · subst h
    have e : cmpZ x x = 0 := by unfold cmpZ; simp
    rw [e]
    go_enter Tryd.func108, Tryd.ntmps108
    go_wp2_with (go_at_call 118; refine (N.out _ _).mono ?_; rintro e w1 ⟨rfl, rfl⟩)
    go_ret
    exact ⟨rfl, rfl⟩
  · have e : cmpZ x y = 1 := by unfold cmpZ; rw [if_neg (by omega), if_pos h]
    rw [e]
    go_enter Tryd.func108, Tryd.ntmps108
    go_wp2_with (go_at_call 118; refine (N.out _ _).mono ?_; rintro e w1 ⟨rfl, rfl⟩)
    go_ret
    exact ⟨rfl, rfl⟩
theorem cmp_none {len : Nat} {xs ys : List Int} (pa : xs.length = len) (pb : ys.length = len) {zs : List (Fin len)} (hy : zs.map Fin.val = downR len len) (h : ∀ y ∈ zs, xs.getD y.val 0 = ys.getD y.val 0) : cmpI (val xs) (val ys) = 0 := by
  have e : xs = ys := ext_getD (by omega) (fun i hi => by
    obtain ⟨y, hy1, rfl⟩ := downR_mem (Nat.le_refl _) hy (i := i) (by omega) (by omega)
    exact h y hy1)
  rw [e]; exact cmpI_eq _
theorem cmp_some {len k : Nat} {xs ys : List Int} (pa : xs.length = len) (pb : ys.length = len) (hx : digs xs) (hy : digs ys) {q : List (Fin len)} {x : Fin len} (hk : k ≤ len) (hpre : (q ++ [x]).map Fin.val = downR len k) (h : ∀ y ∈ q, xs.getD y.val 0 = ys.getD y.val 0) (hne : xs.getD x.val 0 ≠ ys.getD x.val 0) : cmpI (val xs) (val ys) = cmpZ (xs.getD x.val 0) (ys.getD x.val 0) := by
  obtain ⟨j, rfl, hq, hxv⟩ := downR_last hpre
  have := x.isLt
  have hall : ∀ i, x.val < i → i < len → xs.getD i 0 = ys.getD i 0 := by
    intro i h1 h2
    obtain ⟨y, hy1, rfl⟩ := downR_mem (k := j) (by omega) hq (i := i) (by omega) (by omega)
    exact h y hy1
  rcases Int.lt_trichotomy (xs.getD x.val 0) (ys.getD x.val 0) with g | g | g
  · rw [cmpI_lt (val_at (j := x.val) hx hy (by omega) (by omega) (fun i h1 h2 => hall i h1 (by omega)) g)]
    unfold cmpZ; rw [if_pos g]
  · exact absurd g hne
  · rw [cmpI_gt (val_at (j := x.val) hy hx (by omega) (by omega) (fun i h1 h2 => (hall i h1 (by omega)).symm) g)]
    unfold cmpZ; rw [if_neg (by omega), if_pos g]

set_option maxRecDepth 100000 in
set_option maxHeartbeats 4000000 in
theorem iAgainstSame (a b : Option Addr) (len ca cb : Nat) (xs ys : List Int) (w : World) (hA : InI w a len ca xs) (hB : InI w b len cb ys) (hx : digs xs) (hy : digs ys) :
    Calls Tryd.prog 84 #[.slice a len ca, .slice b len cb] w fun e w' => e = .returned (.int .i64 (cmpI (val xs) (val ys))) ∧ Below w.heap.size w w' := by
  refine (callsIn_wide (n := 3)).1 ?_
  have pa := hA.1
  have pb := hB.1
  have hlen := hA.len
  have hro : Fence.wide.round = none := rfl
  have h1 : 1 ≤ 3 := by omega
  refine callsIn_of_wp_marks Tryd.func84 rfl trivial ?_ hro
  simp only [Tryd.ntmps84, List.size_toArray, List.length_cons, List.length_nil, Nat.reduceAdd, Nat.reduceSub, Array.replicate_succ, Array.replicate_zero, List.push_toArray, List.append_toArray, List.nil_append, List.cons_append]
  gi_wp2_with (refine ⟨trivial, ?_⟩; gi_at_call 80; refine (top_in Fence.wide (3 - 1) trivial hro _ _ _ _).mono ?_; rintro e w' ⟨rfl, rfl⟩)
  have b1 := ((Boxed.new w 57 (.slice b len cb)).alloc (.cells #[.int .i64 0] 3)).alloc (.cells #[.slice a len ca] 57)
  have b2 := (Boxed.new (w.alloc (.cells #[.slice b len cb] 57)) 3 (.int .i64 0)).alloc (.cells #[.slice a len ca] 57)
  have b3 := Boxed.new ((w.alloc (.cells #[.slice b len cb] 57)).alloc (.cells #[.int .i64 0] 3)) 57 (.slice a len ca)
  simp only [World.size_alloc] at b1 b2 b3
  have c1 := b1.cell
  have c2 := b2.cell
  have f2 := b2.frozen
  have c3 := b3.cell
  have hR0 := ((hA.alloc (.cells #[.slice b len cb] 57)).alloc (.cells #[.int .i64 0] 3)).alloc (.cells #[.slice a len ca] 57)
  have hB0 : Below w.heap.size w (((w.alloc (.cells #[.slice b len cb] 57)).alloc (.cells #[.int .i64 0] 3)).alloc (.cells #[.slice a len ca] 57)) := (((Below.refl _ w).alloc (Nat.le_refl _) _).alloc (by simp) _).alloc (by simp; omega) _
  have hsz : (((w.alloc (.cells #[.slice b len cb] 57)).alloc (.cells #[.int .i64 0] 3)).alloc (.cells #[.slice a len ca] 57)).heap.size = w.heap.size + 3 := by simp
  clear b1 b2 b3
  generalize (((w.alloc (.cells #[.slice b len cb] 57)).alloc (.cells #[.int .i64 0] 3)).alloc (.cells #[.slice a len ca] 57)) = W0 at *
  have hfar := hA.far
  refine wpIn_rangeFunc_ownF hro h1 (gf := 105) (lb := #[.pointer (some ⟨w.heap.size + 1 + 1, 0, none⟩)]) rfl trivial (enters_of Tryd.func105 (by kernel_rfl) rfl)
    (top_stop Fence.wide (3 - 1) trivial hro (by omega) (w.heap.size + 1 + 1) len ca (KeepP (w.heap.size + 1 + 1) a len) a xs W0 (by omega) (.inl rfl) c3 hR0 keepP_at) (fun h k => Same.trans h k) (same_b (n := w.heap.size + 3) (keepP_lt (by omega) (fun h q e => by have := hfar h q e; omega)) (by omega)) (Below.refl _ _) (fun _ => rfl)
    (fun pre W => ((∀ y ∈ pre, xs.getD y.val 0 = ys.getD y.val 0) ∧ W.cell? ⟨w.heap.size, 0, none⟩ = some (.slice b len cb) ∧ W.cell? ⟨w.heap.size + 1, 0, none⟩ = some (.int .i64 0) ∧ W.frozen? ⟨w.heap.size + 1, 0, none⟩ = false) ∧ w.heap.size + 3 ≤ W.heap.size ∧ Below w.heap.size w W)
    (fun c pre W => (c = .ret ∧ ∃ (q : List (Fin len)) (x : Fin len), pre = q ++ [x] ∧ (∀ y ∈ q, xs.getD y.val 0 = ys.getD y.val 0) ∧ xs.getD x.val 0 ≠ ys.getD x.val 0 ∧ W.cell? ⟨w.heap.size + 1, 0, none⟩ = some (.int .i64 (cmpZ (xs.getD x.val 0) (ys.getD x.val 0)))) ∧ Below w.heap.size w W)
    (OwnFrom.and (Own.from (fun s A B row hs hg hr => ⟨hs.1, cell_kept hs.2.1 hg hr, cell_kept hs.2.2.1 hg hr, (frozen_kept hs.2.2.1 hg hr).trans hs.2.2.2⟩) _) (OwnFrom.and (fun s A B row hs hg hr => Nat.le_trans hs hg.size) (ownFrom_below (Nat.le_refl _) (by omega))))
    (fun c => OwnFrom.and (Own.from (fun s A B row hs hg hr => ⟨hs.1, by obtain ⟨q, x, e1, e2, e3, e4⟩ := hs.2; exact ⟨q, x, e1, e2, e3, cell_kept e4 hg hr⟩⟩) _) (ownFrom_below (Nat.le_refl _) (by omega)))
    ⟨⟨by simp, c1, c2, f2⟩, by omega, hB0⟩
    (fun x => { tmps := #[.slice a len ca, .slice b len cb, undef, .pointer (some ⟨w.heap.size, 0, none⟩), .pointer (some ⟨w.heap.size + 1, 0, none⟩), .int .i64 (x.val : Int), .int .i64 (xs.getD x.val 0), .slice a len ca, .int .i64 (len : Int), .slice b len cb, .int .i64 (len : Int), .bool false, undef, undef, undef, undef, undef, .slice a len ca, .func (.func 105) #[] #[.pointer (some ⟨w.heap.size + 1 + 1, 0, none⟩)], .int .i64 (x.val : Int), .int .i64 (xs.getD x.val 0), undef, undef, undef, undef, undef, undef, undef, undef, undef, undef, undef, undef], defers := [] }) ?assign ?body ?done ?stop
  case assign =>
    intro l x W K hK
    generalize xs.getD x.val 0 = z at *
    gi_wp2
    exact hK
  case body =>
    rintro l pre x W ⟨⟨hq, hca, hcr, hfr⟩, hsW, hBw⟩ _
    have hxl := x.isLt
    obtain ⟨bb, off, y, rfl, -, ey, -, cy⟩ := (hB.old hBw).at x.isLt
    have ey' := hd ey
    clear ey
    generalize hz : xs.getD x.val 0 = z
    have hz' := hd hz
    clear hz
    by_cases hz0 : z = y
    · subst hz0
      have hzb : (z != z) = false := by simp
      gi_wp2
      exact ⟨KeepsOthers.refl _, Same.refl _ _, ⟨fun u hu => (List.mem_append.1 hu).elim (hq u) (fun e => by simp at e; subst e; rw [hz'.out, ey'.out]), hca, hcr, hfr⟩, hsW, hBw⟩
    · have hzb : (z != y) = true := by simpa using hz0
      gi_wp2_with fail
      refine ⟨trivial, (CallsIn.inRound l (callsIn_wide.2 (compareI z y W))).mono ?_⟩
      rintro e W1 ⟨rfl, rfl⟩
      gi_wp2
      exact ⟨KeepsOthers.setCell _ _ _, ⟨rfl, pre, x, rfl, hq, by rw [hz'.out, ey'.out]; exact hz0, by rw [hz'.out, ey'.out]; exact World.cell?_setCell_same' _ _ _ (by rw [hcr]; rfl)⟩, hBw.setCell (p := ⟨w.heap.size + 1, 0, none⟩) (by simp) _⟩
  case done =>
    rintro D zs W hD hzs ⟨⟨hne, _, hcr, hfr⟩, hsW, hBw⟩ hK
    gi_wp2
    have hK' := (KeepsOthers.setCell W ⟨w.heap.size + 1, 0, none⟩ (.int .i64 0)).same D _ hK rfl
    refine ⟨by simp, .inl ⟨_, _, rfl, run_takeDeferred hK', ?_⟩⟩
    have hc5 := cell_kept (World.cell?_setCell_same' W ⟨w.heap.size + 1, 0, none⟩ (.int .i64 0) (by rw [hcr]; rfl)) (grownBy_putObj' _ D (.deferred none)) (fun r e => by cases e; exact ⟨_, hK', rfl⟩)
    refine ⟨.int .i64 0, ?_, retI (cmp_none pa pb hzs hne), (hBw.setCell (p := ⟨w.heap.size + 1, 0, none⟩) (by simp) _).trans (belowK_b (w := w) (Nat.le_refl _) _ D _ _ (by omega) hK' rfl rfl)⟩
    simp [results, Tryd.f84, go_sem, hc5]
  case stop =>
    rintro D c pre W hD ⟨k, hk, hpre⟩ ⟨⟨rfl, q, x, rfl, hq, hxx, hcr⟩, hBw⟩ hK
    have hcs := cmp_some pa pb hx hy hk hpre hq hxx
    generalize cmpZ (xs.getD x.val 0) (ys.getD x.val 0) = cz at *
    gi_wp2
    refine ⟨by simp, .inl ⟨_, _, rfl, run_takeDeferred hK, ?_⟩⟩
    have hc5 := cell_kept hcr (grownBy_putObj' _ D (.deferred none)) (fun r e => by cases e; exact ⟨_, hK, rfl⟩)
    refine ⟨.int .i64 cz, ?_, retI hcs, hBw.trans (belowK_b (w := w) (Nat.le_refl _) W D _ _ (by omega) hK rfl rfl)⟩
    simp [results, Tryd.f84, go_sem, hc5]
end Go.Proofs.YtpamnpdigoikoaaDoor
