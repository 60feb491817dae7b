/- Noughts at the top are left out, by the program; the memory is the same. No condition but that they are digits. -/
import Derived.Test.YtpamnpdigoikoaaDoorNF
namespace Go.Proofs.YtpamnpdigoikoaaDoor
open Go.RowKit Go.Shelf
attribute [local go_sem] Oper.semAt_some
set_option linter.unusedVariables false
set_option maxRecDepth 100000

theorem downR_mem {len k : Nat} (hk : k ≤ len) {pre : List (Fin len)} (h : pre.map Fin.val = downR len k) {i : Nat} (h1 : len - k ≤ i) (h2 : i < len) : ∃ y ∈ pre, y.val = i := by
  have : i ∈ pre.map Fin.val := by
    rw [h]
    unfold downR
    exact List.mem_map.2 ⟨len - 1 - i, List.mem_range.2 (by omega), by omega⟩
  obtain ⟨y, hy, e⟩ := List.mem_map.1 this
  exact ⟨y, hy, e⟩
theorem downR_last {len k : Nat} {q : List (Fin len)} {x : Fin len} (h : (q ++ [x]).map Fin.val = downR len k) : ∃ j, k = j + 1 ∧ q.map Fin.val = downR len j ∧ x.val = len - 1 - j := by
  cases k with
  | zero => simp [downR] at h
  | succ j =>
    rw [downR_succ, List.map_append] at h
    obtain ⟨h1, h2⟩ := List.append_inj' h (by simp)
    simp at h2
    exact ⟨j, rfl, h1, h2⟩
theorem trim_none {len : Nat} {xs : List Int} (hp : xs.length = len) (hdg : digs xs) {ys : List (Fin len)} (hy : ys.map Fin.val = downR len len) (h : ∀ y ∈ ys, xs.getD y.val 0 = 0) : xs.take 0 = natL (val xs) := by
  refine trim_natL hdg (by omega) (fun i _ hi => ?_) (.inl rfl)
  obtain ⟨y, hy1, rfl⟩ := downR_mem (Nat.le_refl _) hy (i := i) (by omega) (by omega)
  exact h y hy1
theorem trim_some {len k : Nat} {xs : List Int} (hp : xs.length = len) (hdg : digs xs) {q : List (Fin len)} {x : Fin len} (hk : k ≤ len) (hy : (q ++ [x]).map Fin.val = downR len k) (h : ∀ y ∈ q, xs.getD y.val 0 = 0) (hx : xs.getD x.val 0 ≠ 0) : xs.take (x.val + 1) = natL (val xs) := by
  obtain ⟨j, rfl, hq, hxv⟩ := downR_last hy
  have := x.isLt
  refine trim_natL hdg (by omega) (fun i h1 h2 => ?_) (.inr (by simpa using hx))
  obtain ⟨y, hy1, rfl⟩ := downR_mem (k := j) (by omega) hq (i := i) (by omega) (by omega)
  exact h y hy1

set_option maxRecDepth 100000 in
set_option maxHeartbeats 4000000 in
theorem iTrim (a : Option Addr) (len cap : Nat) (xs : List Int) (w : World) (hR : InI w a len cap xs) (hdg : digs xs) :
    Calls Tryd.prog 78 #[.slice a len cap] w fun e w' => (∃ n, n ≤ len ∧ xs.take n = natL (val xs) ∧ ((n = 0 ∧ e = .returned (.slice none 0 0)) ∨ (0 < n ∧ e = .returned (.slice a n cap)))) ∧ Below w.heap.size w w' := by
  refine (callsIn_wide (n := 3)).1 ?_
  have hp := hR.1
  have hcap := hR.2.1
  have hcm := hR.2.2.1
  unfold maxLen at hcm
  have hro : Fence.wide.round = none := rfl
  have h1 : 1 ≤ 3 := by omega
  have k1 : (((w.alloc (.cells #[.slice a len cap] 57)).alloc (.cells #[.slice none 0 0] 57)).alloc (.cells #[.slice a len cap] 57)).cell? ⟨w.heap.size, 0, none⟩ = some (.slice a len cap) := ((Boxed.new w 57 (.slice a len cap)).alloc _).alloc _ |>.cell
  refine callsIn_of_wp_marks Tryd.func78 rfl trivial ?_ hro
  simp only [Tryd.ntmps78, List.size_toArray, List.length_cons, List.length_nil, Nat.reduceAdd, Nat.reduceSub, Array.replicate_succ, Array.replicate_zero, List.push_toArray, List.append_toArray, List.nil_append, List.cons_append]
  gi_wp2_with (refine ⟨trivial, ?_⟩; gi_at_call 80; refine (top_in Fence.wide (3 - 1) trivial hro _ _ _ _).mono ?_; rintro e w' ⟨rfl, rfl⟩)
  have b1 := ((Boxed.new w 57 (.slice a len cap)).alloc (.cells #[.slice none 0 0] 57)).alloc (.cells #[.slice a len cap] 57)
  have b2 := (Boxed.new (w.alloc (.cells #[.slice a len cap] 57)) 57 (.slice none 0 0)).alloc (.cells #[.slice a len cap] 57)
  have b3 := Boxed.new ((w.alloc (.cells #[.slice a len cap] 57)).alloc (.cells #[.slice none 0 0] 57)) 57 (.slice a len cap)
  simp only [World.size_alloc] at b1 b2 b3
  have c1 := b1.cell
  have c2 := b2.cell
  have f2 := b2.frozen
  have c3 := b3.cell
  have hR0 := ((hR.alloc (.cells #[.slice a len cap] 57)).alloc (.cells #[.slice none 0 0] 57)).alloc (.cells #[.slice a len cap] 57)
  have hB0 : Below w.heap.size w (((w.alloc (.cells #[.slice a len cap] 57)).alloc (.cells #[.slice none 0 0] 57)).alloc (.cells #[.slice a len cap] 57)) := (((Below.refl _ w).alloc (Nat.le_refl _) _).alloc (by simp) _).alloc (by simp; omega) _
  have hsz : (((w.alloc (.cells #[.slice a len cap] 57)).alloc (.cells #[.slice none 0 0] 57)).alloc (.cells #[.slice a len cap] 57)).heap.size = w.heap.size + 3 := by simp
  clear b1 b2 b3 k1
  generalize (((w.alloc (.cells #[.slice a len cap] 57)).alloc (.cells #[.slice none 0 0] 57)).alloc (.cells #[.slice a len cap] 57)) = W0 at *
  have hfar := hR.far
  refine wpIn_rangeFunc_ownF hro h1 (gf := 105) (lb := #[.pointer (some ⟨w.heap.size + 1 + 1, 0, none⟩)]) rfl trivial (enters_of Tryd.func105 (by kernel_rfl) rfl)
    (top_stop Fence.wide (3 - 1) trivial hro (by omega) (w.heap.size + 1 + 1) len cap (KeepP (w.heap.size + 1 + 1) a len) a xs W0 (by omega) (.inl rfl) c3 hR0 keepP_at) (fun h k => Same.trans h k) (same_b (n := w.heap.size + 3) (keepP_lt (by omega) (fun h q e => by have := hfar h q e; omega)) (by omega)) (Below.refl _ _) (fun _ => rfl)
    (fun pre W => ((∀ y ∈ pre, xs.getD y.val 0 = 0) ∧ W.cell? ⟨w.heap.size, 0, none⟩ = some (.slice a len cap) ∧ W.cell? ⟨w.heap.size + 1, 0, none⟩ = some (.slice none 0 0) ∧ W.frozen? ⟨w.heap.size + 1, 0, none⟩ = false) ∧ w.heap.size + 3 ≤ W.heap.size ∧ Below w.heap.size w W)
    (fun c pre W => (c = .ret ∧ ∃ (q : List (Fin len)) (x : Fin len), pre = q ++ [x] ∧ (∀ y ∈ q, xs.getD y.val 0 = 0) ∧ xs.getD x.val 0 ≠ 0 ∧ W.cell? ⟨w.heap.size + 1, 0, none⟩ = some (.slice a (x.val + 1) cap)) ∧ Below w.heap.size w W)
    (OwnFrom.and (Own.from (fun s A B row hs hg hr => ⟨hs.1, cell_kept hs.2.1 hg hr, cell_kept hs.2.2.1 hg hr, (frozen_kept hs.2.2.1 hg hr).trans hs.2.2.2⟩) _) (OwnFrom.and (fun s A B row hs hg hr => Nat.le_trans hs hg.size) (ownFrom_below (Nat.le_refl _) (by omega))))
    (fun c => OwnFrom.and (Own.from (fun s A B row hs hg hr => ⟨hs.1, by obtain ⟨q, x, e1, e2, e3, e4⟩ := hs.2; exact ⟨q, x, e1, e2, e3, cell_kept e4 hg hr⟩⟩) _) (ownFrom_below (Nat.le_refl _) (by omega)))
    ⟨⟨by simp, c1, c2, f2⟩, by omega, hB0⟩
    (fun x => { tmps := #[.slice a len cap, .pointer (some ⟨w.heap.size, 0, none⟩), .pointer (some ⟨w.heap.size + 1, 0, none⟩), .int .i64 (x.val : Int), .int .i64 (xs.getD x.val 0), .slice a len cap, .func (.func 105) #[] #[.pointer (some ⟨w.heap.size + 1 + 1, 0, none⟩)], .int .i64 (x.val : Int), .int .i64 (xs.getD x.val 0), undef, undef, undef, undef, undef, undef], defers := [] }) ?assign ?body ?done ?stop
  case assign =>
    intro l x W K hK
    generalize xs.getD x.val 0 = z at *
    gi_wp2
    exact hK
  case body =>
    rintro l pre x W ⟨⟨hq, hca, hcr, hfr⟩, hsW, hB⟩ _
    obtain ⟨b, off, -, rfl, -, -, -, -⟩ := hR.at x.isLt
    generalize hz : xs.getD x.val 0 = z
    have hxl := x.isLt
    by_cases hz0 : z = 0
    · subst hz0
      gi_wp2
      exact ⟨KeepsOthers.refl _, Same.refl _ _, ⟨fun y hy => (List.mem_append.1 hy).elim (hq y) (fun e => by simp at e; subst e; exact hz), hca, hcr, hfr⟩, hsW, hB⟩
    · have hzb : (z != 0) = true := by simpa using hz0
      gi_wp2
      exact ⟨KeepsOthers.setCell _ _ _, ⟨rfl, pre, x, rfl, hq, by rw [hz]; exact hz0, World.cell?_setCell_same' _ _ _ (by rw [hcr]; rfl)⟩, hB.setCell (p := ⟨w.heap.size + 1, 0, none⟩) (by simp) _⟩
  case done =>
    rintro D ys W hD hys ⟨⟨hne, _, hcr, hfr⟩, hsW, hB⟩ hK
    gi_wp2
    have hK' := (KeepsOthers.setCell W ⟨w.heap.size + 1, 0, none⟩ (.slice none 0 0)).same D _ hK rfl
    refine ⟨by simp, .inl ⟨_, _, rfl, run_takeDeferred hK', ?_⟩⟩
    have hc5 := cell_kept (World.cell?_setCell_same' W ⟨w.heap.size + 1, 0, none⟩ (.slice none 0 0) (by rw [hcr]; rfl)) (grownBy_putObj' _ D (.deferred none)) (fun r e => by cases e; exact ⟨_, hK', rfl⟩)
    refine ⟨.slice none 0 0, ?_, ⟨0, by omega, trim_none hp hdg hys hne, .inl ⟨rfl, rfl⟩⟩, (hB.setCell (p := ⟨w.heap.size + 1, 0, none⟩) (by simp) _).trans (belowK_b (w := w) (Nat.le_refl _) _ D _ _ (by omega) hK' rfl rfl)⟩
    simp [results, Tryd.f78, go_sem, hc5]
  case stop =>
    rintro D c pre W hD ⟨k, hk, hpre⟩ ⟨⟨rfl, q, x, rfl, hq, hx, hcr⟩, hB⟩ hK
    have hxl := x.isLt
    gi_wp2
    refine ⟨by simp, .inl ⟨_, _, rfl, run_takeDeferred hK, ?_⟩⟩
    have hc5 := cell_kept hcr (grownBy_putObj' _ D (.deferred none)) (fun r e => by cases e; exact ⟨_, hK, rfl⟩)
    refine ⟨.slice a (x.val + 1) cap, ?_, ⟨x.val + 1, by omega, trim_some hp hdg hk hpre hq hx, .inr ⟨by omega, rfl⟩⟩, hB.trans (belowK_b (w := w) (Nat.le_refl _) W D _ _ (by omega) hK rfl rfl)⟩
    simp [results, Tryd.f78, go_sem, hc5]
theorem IRow.take {w : World} {b n : Nat} {xs : List Int} (h : IRow w b xs) : IRow w b (xs.take n) := by
  refine ⟨h.1, fun i hi => ?_⟩
  rw [List.length_take] at hi
  have e : (xs.take n).getD i 0 = xs.getD i 0 := by simp [List.getD_eq_getElem?_getD, show i < n by omega]
  rw [e]
  exact h.2 i (by omega)
/-- what is left is its own, if it was -/
theorem iTrimO (base : Nat) (av : Option Addr) (cv : Nat) (xs : List Int) (w : World) (h : OI w base av cv xs) (hdg : digs xs) :
    Calls Tryd.prog 78 #[.slice av xs.length cv] w fun e w' => (∃ av' cv', e = .returned (.slice av' (natL (val xs)).length cv') ∧ OI w' base av' cv' (natL (val xs))) ∧ Below w.heap.size w w' := by
  refine (iTrim av xs.length cv xs w h.inI hdg).mono ?_
  rintro e w' ⟨⟨n, hn, ht, hc⟩, hb⟩
  refine ⟨?_, hb⟩
  have hl : (natL (val xs)).length = n := by rw [← ht, List.length_take]; omega
  rcases hc with ⟨rfl, rfl⟩ | ⟨h0, rfl⟩
  · rw [← ht]
    exact ⟨none, 0, rfl, OI.none _ _⟩
  · have h' := h.later hb
    obtain ⟨h1, h2, h3, ⟨rfl, rfl⟩ | ⟨g, rfl, h4, h5⟩⟩ := h'
    · simp at hn; omega
    · refine ⟨_, _, by rw [hl], natL_fits _, by omega, h3, .inr ⟨g, rfl, h4, ?_⟩⟩
      rw [← ht]
      exact h5.take
end Go.Proofs.YtpamnpdigoikoaaDoor
