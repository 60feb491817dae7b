/- Noughts at the top are left out, by the program; the memory is the same. No condition but that they are digits. -/
import Derived.Test.YtgoffjpfddmhhaaGreatDoorPK06
namespace Go.Proofs.YtgoffjpfddmhhaaGreatDoor
open Go.RowKit Go.Shelf
attribute [local go_sem] Oper.semAt_some
set_option linter.unusedVariables false
set_option maxRecDepth 100000

theorem downR_mem {len k : Nat} (hk : k ≤ len) {pre : List (Fin len)} (h : pre.map Fin.val = downR len k) {i : Nat} (h1 : len - k ≤ i) (h2 : i < len) : ∃ y ∈ pre, y.val = i := by
  have : i ∈ pre.map Fin.val := by
    rw [h]
    unfold downR
    exact List.mem_map.2 ⟨len - 1 - i, List.mem_range.2 (by omega), by omega⟩
  obtain ⟨y, hy, e⟩ := List.mem_map.1 this
  exact ⟨y, hy, e⟩
theorem downR_last {len k : Nat} {q : List (Fin len)} {x : Fin len} (h : (q ++ [x]).map Fin.val = downR len k) : ∃ j, k = j + 1 ∧ q.map Fin.val = downR len j ∧ x.val = len - 1 - j := by
  cases k with
  | zero => simp [downR] at h
  | succ j =>
    rw [downR_succ, List.map_append] at h
    obtain ⟨h1, h2⟩ := List.append_inj' h (by simp)
    simp at h2
    exact ⟨j, rfl, h1, h2⟩
theorem trim_none {len : Nat} {xs : List Int} (hp : xs.length = len) (hdg : digs xs) {ys : List (Fin len)} (hy : ys.map Fin.val = downR len len) (h : ∀ y ∈ ys, xs.getD y.val 0 = 0) : xs.take 0 = natL (val xs) := by
  refine trim_natL hdg (by omega) (fun i _ hi => ?_) (.inl rfl)
  obtain ⟨y, hy1, rfl⟩ := downR_mem (Nat.le_refl _) hy (i := i) (by omega) (by omega)
  exact h y hy1
theorem trim_some {len k : Nat} {xs : List Int} (hp : xs.length = len) (hdg : digs xs) {q : List (Fin len)} {x : Fin len} (hk : k ≤ len) (hy : (q ++ [x]).map Fin.val = downR len k) (h : ∀ y ∈ q, xs.getD y.val 0 = 0) (hx : xs.getD x.val 0 ≠ 0) : xs.take (x.val + 1) = natL (val xs) := by
  obtain ⟨j, rfl, hq, hxv⟩ := downR_last hy
  have := x.isLt
  refine trim_natL hdg (by omega) (fun i h1 h2 => ?_) (.inr (by simpa using hx))
  obtain ⟨y, hy1, rfl⟩ := downR_mem (k := j) (by omega) hq (i := i) (by omega) (by omega)
  exact h y hy1

set_option maxRecDepth 100000 in
set_option maxHeartbeats 4000000 in
theorem iTrim (a : Option Addr) (len cap : Nat) (xs : List Int) (w : World) (hR : InI w a len cap xs) (hdg : digs xs) :
    Calls Tryz.prog 86 #[.slice a len cap] w fun e w' => (∃ n, n ≤ len ∧ xs.take n = natL (val xs) ∧ ((n = 0 ∧ e = .returned (.slice none 0 0)) ∨ (0 < n ∧ e = .returned (.slice a n cap)))) ∧ Below w.heap.size w w' := by
  refine (callsIn_wide (n := 3)).1 ?_
  have hp := hR.1
  have hcap := hR.2.1
  have hcm := hR.2.2.1
  unfold maxLen at hcm
  have hro : Fence.wide.round = none := rfl
  have h1 : 1 ≤ 3 := by omega
  have k1 : (((w.alloc (.cells #[.slice a len cap] 80)).alloc (.cells #[.slice none 0 0] 80)).alloc (.cells #[.slice a len cap] 80)).cell? ⟨w.heap.size, 0, none⟩ = some (.slice a len cap) := ((Boxed.new w 80 (.slice a len cap)).alloc _).alloc _ |>.cell
  refine callsIn_of_wp_marks Tryz.func86 rfl trivial ?_ hro
  simp only [Tryz.ntmps86, List.size_toArray, List.length_cons, List.length_nil, Nat.reduceAdd, Nat.reduceSub, Array.replicate_succ, Array.replicate_zero, List.push_toArray, List.append_toArray, List.nil_append, List.cons_append]
  gi_wp2_with (refine ⟨trivial, ?_⟩; gi_at_call 90; refine (top_in Fence.wide (3 - 1) trivial hro _ _ _ _).mono ?_; rintro e w' ⟨rfl, rfl⟩)
  have b1 := ((Boxed.new w 80 (.slice a len cap)).alloc (.cells #[.slice none 0 0] 80)).alloc (.cells #[.slice a len cap] 80)
  have b2 := (Boxed.new (w.alloc (.cells #[.slice a len cap] 80)) 80 (.slice none 0 0)).alloc (.cells #[.slice a len cap] 80)
  have b3 := Boxed.new ((w.alloc (.cells #[.slice a len cap] 80)).alloc (.cells #[.slice none 0 0] 80)) 80 (.slice a len cap)
  simp only [World.size_alloc] at b1 b2 b3
  have c1 := b1.cell
  have c2 := b2.cell
  have f2 := b2.frozen
  have c3 := b3.cell
  have hR0 := ((hR.alloc (.cells #[.slice a len cap] 80)).alloc (.cells #[.slice none 0 0] 80)).alloc (.cells #[.slice a len cap] 80)
  have hB0 : Below w.heap.size w (((w.alloc (.cells #[.slice a len cap] 80)).alloc (.cells #[.slice none 0 0] 80)).alloc (.cells #[.slice a len cap] 80)) := (((Below.refl _ w).alloc (Nat.le_refl _) _).alloc (by simp) _).alloc (by simp; omega) _
  have hsz : (((w.alloc (.cells #[.slice a len cap] 80)).alloc (.cells #[.slice none 0 0] 80)).alloc (.cells #[.slice a len cap] 80)).heap.size = w.heap.size + 3 := by simp
  clear b1 b2 b3 k1
  generalize (((w.alloc (.cells #[.slice a len cap] 80)).alloc (.cells #[.slice none 0 0] 80)).alloc (.cells #[.slice a len cap] 80)) = W0 at *
  have hfar := hR.far
  refine wpIn_rangeFunc_ownF hro h1 (gf := 108) (lb := #[.pointer (some ⟨w.heap.size + 1 + 1, 0, none⟩)]) rfl trivial (enters_of Tryz.func108 (by kernel_rfl) rfl)
    (top_stop Fence.wide (3 - 1) trivial hro (by omega) (w.heap.size + 1 + 1) len cap (KeepP (w.heap.size + 1 + 1) a len) a xs W0 (by omega) (.inl rfl) c3 hR0 keepP_at) (fun h k => Same.trans h k) (same_b (n := w.heap.size + 3) (keepP_lt (by omega) (fun h q e => by have := hfar h q e; omega)) (by omega)) (Below.refl _ _) (fun _ => rfl)
    (fun pre W => ((∀ y ∈ pre, xs.getD y.val 0 = 0) ∧ W.cell? ⟨w.heap.size, 0, none⟩ = some (.slice a len cap) ∧ W.cell? ⟨w.heap.size + 1, 0, none⟩ = some (.slice none 0 0) ∧ W.frozen? ⟨w.heap.size + 1, 0, none⟩ = false) ∧ w.heap.size + 3 ≤ W.heap.size ∧ Below w.heap.size w W)
    (fun c pre W => (c = .ret ∧ ∃ (q : List (Fin len)) (x : Fin len), pre = q ++ [x] ∧ (∀ y ∈ q, xs.getD y.val 0 = 0) ∧ xs.getD x.val 0 ≠ 0 ∧ W.cell? ⟨w.heap.size + 1, 0, none⟩ = some (.slice a (x.val + 1) cap)) ∧ Below w.heap.size w W)
    (OwnFrom.and (Own.from (fun s A B row hs hg hr => ⟨hs.1, cell_kept hs.2.1 hg hr, cell_kept hs.2.2.1 hg hr, (frozen_kept hs.2.2.1 hg hr).trans hs.2.2.2⟩) _) (OwnFrom.and (fun s A B row hs hg hr => Nat.le_trans hs hg.size) (ownFrom_below (Nat.le_refl _) (by omega))))
    (fun c => OwnFrom.and (Own.from (fun s A B row hs hg hr => ⟨hs.1, by obtain ⟨q, x, e1, e2, e3, e4⟩ := hs.2; exact ⟨q, x, e1, e2, e3, cell_kept e4 hg hr⟩⟩) _) (ownFrom_below (Nat.le_refl _) (by omega)))
    ⟨⟨by simp, c1, c2, f2⟩, by omega, hB0⟩
    (fun x => { tmps := #[.slice a len cap, .pointer (some ⟨w.heap.size, 0, none⟩), .pointer (some ⟨w.heap.size + 1, 0, none⟩), .int .i64 (x.val : Int), .int .i64 (xs.getD x.val 0), .slice a len cap, .func (.func 108) #[] #[.pointer (some ⟨w.heap.size + 1 + 1, 0, none⟩)], .int .i64 (x.val : Int), .int .i64 (xs.getD x.val 0), undef, undef, undef, undef, undef, undef], defers := [] }) ?assign ?body ?done ?stop
  case assign =>
    intro l x W K hK
    generalize xs.getD x.val 0 = z at *
    gi_wp2
    exact hK
  case body =>
    rintro l pre x W ⟨⟨hq, hca, hcr, hfr⟩, hsW, hB⟩ _
    obtain ⟨b, off, -, rfl, -, -, -, -⟩ := hR.at x.isLt
    generalize hz : xs.getD x.val 0 = z
    have hxl := x.isLt
    by_cases hz0 : z = 0
    · subst hz0
      gi_wp2
      exact ⟨KeepsOthers.refl _, Same.refl _ _, ⟨fun y hy => (List.mem_append.1 hy).elim (hq y) (fun e => by simp at e; subst e; exact hz), hca, hcr, hfr⟩, hsW, hB⟩
    · have hzb : (z != 0) = true := by simpa using hz0
      gi_wp2
      exact ⟨KeepsOthers.setCell _ _ _, ⟨rfl, pre, x, rfl, hq, by rw [hz]; exact hz0, World.cell?_setCell_same' _ _ _ (by rw [hcr]; rfl)⟩, hB.setCell (p := ⟨w.heap.size + 1, 0, none⟩) (by simp) _⟩
  case done =>
    rintro D ys W hD hys ⟨⟨hne, _, hcr, hfr⟩, hsW, hB⟩ hK
    gi_wp2
    have hK' := (KeepsOthers.setCell W ⟨w.heap.size + 1, 0, none⟩ (.slice none 0 0)).same D _ hK rfl
    refine ⟨by simp, .inl ⟨_, _, rfl, run_takeDeferred hK', ?_⟩⟩
    have hc5 := cell_kept (World.cell?_setCell_same' W ⟨w.heap.size + 1, 0, none⟩ (.slice none 0 0) (by rw [hcr]; rfl)) (grownBy_putObj' _ D (.deferred none)) (fun r e => by cases e; exact ⟨_, hK', rfl⟩)
    refine ⟨.slice none 0 0, ?_, ⟨0, by omega, trim_none hp hdg hys hne, .inl ⟨rfl, rfl⟩⟩, (hB.setCell (p := ⟨w.heap.size + 1, 0, none⟩) (by simp) _).trans (belowK_b (w := w) (Nat.le_refl _) _ D _ _ (by omega) hK' rfl rfl)⟩
    simp [results, Tryz.f86, go_sem, hc5]
  case stop =>
    rintro D c pre W hD ⟨k, hk, hpre⟩ ⟨⟨rfl, q, x, rfl, hq, hx, hcr⟩, hB⟩ hK
    have hxl := x.isLt
    gi_wp2
    refine ⟨by simp, .inl ⟨_, _, rfl, run_takeDeferred hK, ?_⟩⟩
    have hc5 := cell_kept hcr (grownBy_putObj' _ D (.deferred none)) (fun r e => by cases e; exact ⟨_, hK, rfl⟩)
    refine ⟨.slice a (x.val + 1) cap, ?_, ⟨x.val + 1, by omega, trim_some hp hdg hk hpre hq hx, .inr ⟨by omega, rfl⟩⟩, hB.trans (belowK_b (w := w) (Nat.le_refl _) W D _ _ (by omega) hK rfl rfl)⟩
    simp [results, Tryz.f86, go_sem, hc5]
theorem IRow.take {w : World} {b n : Nat} {xs : List Int} (h : IRow w b xs) : IRow w b (xs.take n) := by
  refine ⟨h.1, fun i hi => ?_⟩
  rw [List.length_take] at hi
  have e : (xs.take n).getD i 0 = xs.getD i 0 := by simp [List.getD_eq_getElem?_getD, show i < n by omega]
  rw [e]
  exact h.2 i (by omega)
/-- what is left is its own, if it was -/
theorem iTrimO (base : Nat) (av : Option Addr) (cv : Nat) (xs : List Int) (w : World) (h : OI w base av cv xs) (hdg : digs xs) :
    Calls Tryz.prog 86 #[.slice av xs.length cv] w fun e w' => (∃ av' cv', e = .returned (.slice av' (natL (val xs)).length cv') ∧ OI w' base av' cv' (natL (val xs))) ∧ Below w.heap.size w w' := by
  refine (iTrim av xs.length cv xs w h.inI hdg).mono ?_
  rintro e w' ⟨⟨n, hn, ht, hc⟩, hb⟩
  refine ⟨?_, hb⟩
  have hl : (natL (val xs)).length = n := by rw [← ht, List.length_take]; omega
  rcases hc with ⟨rfl, rfl⟩ | ⟨h0, rfl⟩
  · rw [← ht]
    exact ⟨none, 0, rfl, OI.none _ _⟩
  · have h' := h.later hb
    obtain ⟨h1, h2, h3, ⟨rfl, rfl⟩ | ⟨g, rfl, h4, h5⟩⟩ := h'
    · simp at hn; omega
    · refine ⟨_, _, by rw [hl], natL_fits _, by omega, h3, .inr ⟨g, rfl, h4, ?_⟩⟩
      rw [← ht]
      exact h5.take
end Go.Proofs.YtgoffjpfddmhhaaGreatDoor

/- Sums of digits with carries: mathematics alone. No condition. -/
namespace Go.Proofs.YtgoffjpfddmhhaaGreatDoor
set_option linter.unusedVariables false
set_option maxRecDepth 100000

theorem val_take_succ (zs : List Int) (k : Nat) : val (zs.take (k + 1)) = val (zs.take k) + 65536 ^ k * (zs.getD k 0).toNat := by
  by_cases h : k < zs.length
  · rw [List.take_succ_eq_append_getElem h, val_append, List.length_take, Nat.min_eq_left (by omega)]
    have e : zs.getD k 0 = zs[k] := by rw [List.getD_eq_getElem?_getD, List.getElem?_eq_getElem h]; rfl
    rw [e]
    simp [val]
  · rw [List.take_of_length_le (by omega), List.take_of_length_le (by omega)]
    have e : zs.getD k 0 = 0 := by rw [List.getD_eq_getElem?_getD, List.getElem?_eq_none (by omega)]; rfl
    rw [e]; simp
theorem take_set_same (qs : List Int) (k : Nat) (d : Int) : (qs.set k d).take k = qs.take k := by
  rw [List.take_set_of_le (Nat.le_refl _)]
theorem getD_set (qs : List Int) (k : Nat) (d : Int) (h : k < qs.length) : (qs.set k d).getD k 0 = d := by simp [List.getD_eq_getElem?_getD, h]
theorem digs_set {qs : List Int} (h : digs qs) (k : Nat) {d : Int} (hd : dig d) : digs (qs.set k d) := by
  intro i hi
  rw [List.length_set] at hi
  by_cases e : i = k
  · subst e; rw [getD_set _ _ _ hi]; exact hd
  · have : (qs.set k d).getD i 0 = qs.getD i 0 := by simp [List.getD_eq_getElem?_getD, Ne.symm e]
    rw [this]; exact h i hi
theorem digs_zeros (n : Nat) : digs (List.replicate n 0) := by
  intro i hi
  rw [List.length_replicate] at hi
  simp [List.getD_eq_getElem?_getD, hi, dig]
theorem digs_getD {xs : List Int} (h : digs xs) (k : Nat) : dig (xs.getD k 0) := by
  by_cases hk : k < xs.length
  · exact h k hk
  · rw [List.getD_eq_getElem?_getD, List.getElem?_eq_none (by omega)]; simp [dig]
theorem mul_bd {x f F : Int} (h1 : dig x) (h2 : -F ≤ f) (h3 : f ≤ F) : -(65535 * F) ≤ x * f ∧ x * f ≤ 65535 * F := by
  unfold dig at h1
  have hF : 0 ≤ F := by omega
  have a1 : x * f ≤ x * F := Int.mul_le_mul_of_nonneg_left h3 h1.1
  have a2 : x * F ≤ 65535 * F := Int.mul_le_mul_of_nonneg_right (by omega) hF
  have a3 : x * (-F) ≤ x * f := Int.mul_le_mul_of_nonneg_left h2 h1.1
  rw [Int.mul_neg] at a3
  omega
theorem mix_step {A P c F x y fa fb s d c' : Int} (h : A + P * c = F) (hs : s = c + x * fa + y * fb) (hd : s = d + 65536 * c') : A + P * d + P * 65536 * c' = F + P * x * fa + P * y * fb := by
  grind
theorem pow_cast (L : Nat) : ((65536 ^ L : Nat) : Int) = (65536 : Int) ^ L := Int.natCast_pow 65536 L
theorem mix_end {L : Nat} {q : Nat} {c V : Int} (h : (q : Int) + (65536 : Int) ^ L * c = V) (hq : q < 65536 ^ L) (h0 : 0 ≤ V) (h1 : V < (65536 : Int) ^ L) : c = 0 ∧ V.toNat = q := by
  have e := pow_cast L
  have hq' : (q : Int) < (65536 : Int) ^ L := by omega
  have hP : (0 : Int) < (65536 : Int) ^ L := by omega
  have hc : c = 0 := by
    rcases Int.lt_trichotomy c 0 with g | g | g
    · have : (65536 : Int) ^ L * c ≤ (65536 : Int) ^ L * (-1) := Int.mul_le_mul_of_nonneg_left (by omega) (by omega)
      omega
    · exact g
    · have : (65536 : Int) ^ L * 1 ≤ (65536 : Int) ^ L * c := Int.mul_le_mul_of_nonneg_left (by omega) (by omega)
      omega
  subst hc
  simp at h
  omega
end Go.Proofs.YtgoffjpfddmhhaaGreatDoor

/- A sum of multiples of two numbers, by the program: its digits, in memory of its own. Conditions: what comes out is not below 0, and has one digit more than the longer one at most. -/
namespace Go.Proofs.YtgoffjpfddmhhaaGreatDoor
open Go.RowKit
set_option linter.unusedVariables false
set_option maxRecDepth 100000

theorem mkDigs (w : World) (n : Nat) (hn : n ≤ 2097154) : (Instr.makeSlice 80 (.int .i64 (n : Int)) (.int .i64 (n : Int))).run Tryz.prog w = .ok (.slice (some ⟨w.heap.size, 0, none⟩) n n) (w.alloc (.cells (madeCells #[.int .i64 0] (n * 1)) 3)) := by
  obtain ⟨i, h1, h2, h3, h4⟩ := info_parts infoInt
  have h := run_make (P := Tryz.prog) w 80 3 i _ Tryz.underlying80 h1 h2 .i64 .i64 n n (by omega) (by omega) (by rw [h4]; omega) (by omega)
  rw [h3] at h
  exact h
theorem getD_out {xs : List Int} {k : Nat} (h : xs.length ≤ k) : xs.getD k 0 = 0 := by rw [List.getD_eq_getElem?_getD, List.getElem?_eq_none (by omega)]; rfl

def MixI (k : Nat) (L : Nat) (xs ys qs : List Int) (fa fb c : Int) : Prop :=
  qs.length = L ∧ digs qs ∧ ((val (qs.take k) : Nat) : Int) + (65536 : Int) ^ k * c = (val (xs.take k) : Nat) * fa + (val (ys.take k) : Nat) * fb
theorem MixI.step {k L : Nat} {xs ys qs : List Int} {fa fb c : Int} (h : MixI k L xs ys qs fa fb c) (hx : digs xs) (hy : digs ys) (hk : k < L) (s : Int) (hs : s = c + xs.getD k 0 * fa + ys.getD k 0 * fb) :
    MixI (k + 1) L xs ys (qs.set k (s % 65536)) fa fb (s / 65536) := by
  obtain ⟨h1, h2, h3⟩ := h
  have hdm : dig (s % 65536) := by unfold dig; omega
  refine ⟨by simpa using h1, digs_set h2 k hdm, ?_⟩
  have dx := digs_getD hx k
  have dy := digs_getD hy k
  rw [val_take_succ, val_take_succ, val_take_succ, take_set_same, getD_set _ _ _ (by omega)]
  unfold dig at dx dy hdm
  have e1 : (((xs.getD k 0).toNat : Nat) : Int) = xs.getD k 0 := by omega
  have e2 : (((ys.getD k 0).toNat : Nat) : Int) = ys.getD k 0 := by omega
  have e3 : (((s % 65536).toNat : Nat) : Int) = s % 65536 := by omega
  have e := pow_cast k
  have := mix_step (P := (65536 : Int) ^ k) h3 hs (show s = s % 65536 + 65536 * (s / 65536) by omega)
  rw [Int.natCast_add, Int.natCast_add, Int.natCast_add, Int.natCast_mul, Int.natCast_mul, Int.natCast_mul, e, e1, e2, e3, Int.pow_succ, Int.add_mul, Int.add_mul]
  omega
theorem MixI.all {L : Nat} {xs ys qs : List Int} {fa fb c : Int} (h : MixI L L xs ys qs fa fb c) (hx : xs.length ≤ L) (hy : ys.length ≤ L) (V : Int) (hV : V = (val xs : Nat) * fa + (val ys : Nat) * fb) (h0 : 0 ≤ V) (h1 : V < (65536 : Int) ^ L) : val qs = V.toNat := by
  obtain ⟨q1, q2, q3⟩ := h
  rw [List.take_of_length_le (by omega), List.take_of_length_le hx, List.take_of_length_le hy] at q3
  have hl := val_lt q2
  rw [q1] at hl
  have := mix_end (q3.trans hV.symm) hl h0 h1
  omega

set_option maxHeartbeats 2000000 in
theorem iMixed (a b : Option Addr) (la lb ca cb : Nat) (xs ys : List Int) (fa fb F : Int) (w : World) (hA : InI w a la ca xs) (hB : InI w b lb cb ys) (hx : digs xs) (hy : digs ys) (hla : la ≤ 1048576) (hlb : lb ≤ 1048576)
    (hF : 1 ≤ F) (hF2 : F ≤ 35184372088832) (ha : -F ≤ fa ∧ fa ≤ F) (hb : -F ≤ fb ∧ fb ≤ F) (V : Int) (hV : V = (val xs : Nat) * fa + (val ys : Nat) * fb) (hV0 : 0 ≤ V) (hV1 : V < (65536 : Int) ^ (max la lb + 1)) :
    Calls Tryz.prog 115 #[.slice a la ca, .slice b lb cb, .int .i64 fa, .int .i64 fb] w fun e w' => (∃ av cv, e = .returned (.slice av (natL V.toNat).length cv) ∧ OI w' w.heap.size av cv (natL V.toNat)) ∧ Below w.heap.size w w' := by
  have pa := hA.1
  have pb := hB.1
  obtain ⟨L, hL⟩ : ∃ L, L = max la lb + 1 := ⟨_, rfl⟩
  have hLa : la < L := by omega
  have hLb : lb < L := by omega
  have hLm : L ≤ 1048577 := by omega
  rw [← hL] at hV1
  have hmk := mkDigs w L (by omega)
  have hr0 := IRow.made w L 3
  have hb0 : Below w.heap.size w (w.alloc (.cells (madeCells #[.int .i64 0] (L * 1)) 3)) := (Below.refl _ w).alloc (Nat.le_refl _) _
  generalize w.alloc (.cells (madeCells #[.int .i64 0] (L * 1)) 3) = w0 at *
  rcases Nat.lt_trichotomy la lb with hle | hle | hle
  · have hLi : (L : Int) = (lb : Int) + 1 := by omega
    rw [hLi] at hmk
    clear hLi hL
    go_enter Tryz.func115, Tryz.ntmps115
    go_wp2
    go_loopw [10, 21] (fun c i wr => ∃ (k : Nat) (qs : List Int) (cv : Int), k ≤ L ∧ c = .int .i64 cv ∧ i = .int .i64 k ∧ MixI k L xs ys qs fa fb cv ∧ (-(4 * F) ≤ cv ∧ cv ≤ 4 * F) ∧ IRow wr w.heap.size qs ∧ Below w.heap.size w wr) (fun _ i _ => L - (intOf i).toNat)
    case atStart => exact ⟨0, _, 0, by omega, rfl, rfl, ⟨by simp, digs_zeros _, by simp [val]⟩, by omega, hr0, hb0⟩
    case round =>
      obtain ⟨k, qs, c, hk, rfl, rfl, hM, hc, hr, hbw⟩ := hrel
      by_cases hlt : k < L
      · obtain ⟨z, -, d0, d2⟩ := hr.at (k := k) (by rw [hM.1]; omega)
        by_cases ka : k < la
        · obtain ⟨ba, oa, x, rfl, -, ex, -, cx⟩ := (hA.old hbw).at ka
          have m1 := mul_bd (digs_getD hx k) ha.1 ha.2
          rw [ex] at m1
          have kb : k < lb := by omega
          obtain ⟨bb, ob, y, rfl, -, ey, -, cy⟩ := (hB.old hbw).at kb
          have m2 := mul_bd (digs_getD hy k) hb.1 hb.2
          rw [ey] at m2
          have hst := hM.step hx hy hlt (c + x * fa + y * fb) (by rw [ex, ey])
          have cb2 : -(4 * F) ≤ (c + x * fa + y * fb) / 65536 ∧ (c + x * fa + y * fb) / 65536 ≤ 4 * F := by omega
          have hset := hr.set k (by rw [hM.1]; omega) ((c + x * fa + y * fb) % 65536)
          have hmask := i64_mask (c + x * fa + y * fb)
          have hfd : (c + x * fa + y * fb).fdiv 65536 = (c + x * fa + y * fb) / 65536 := Int.fdiv_eq_ediv_of_nonneg _ (by omega)
          clear hM hr
          go_wp2
          go_roundw
          case rel => exact ⟨k + 1, _, _, by omega, rfl, by go_num, hst, cb2, hset, hbw.setCell (p := ⟨w.heap.size, k, none⟩) (Nat.le_refl _) _⟩
          case measure => simp [intOf]; omega
        · have ex : xs.getD k 0 = 0 := getD_out (by omega)
          by_cases kb : k < lb
          · obtain ⟨bb, ob, y, rfl, -, ey, -, cy⟩ := (hB.old hbw).at kb
            have m2 := mul_bd (digs_getD hy k) hb.1 hb.2
            rw [ey] at m2
            have hst := hM.step hx hy hlt (c + y * fb) (by rw [ex, ey, Int.zero_mul, Int.add_zero])
            have cb2 : -(4 * F) ≤ (c + y * fb) / 65536 ∧ (c + y * fb) / 65536 ≤ 4 * F := by omega
            have hset := hr.set k (by rw [hM.1]; omega) ((c + y * fb) % 65536)
            have hmask := i64_mask (c + y * fb)
            have hfd : (c + y * fb).fdiv 65536 = (c + y * fb) / 65536 := Int.fdiv_eq_ediv_of_nonneg _ (by omega)
            clear hM hr
            go_wp2
            go_roundw
            case rel => exact ⟨k + 1, _, _, by omega, rfl, by go_num, hst, cb2, hset, hbw.setCell (p := ⟨w.heap.size, k, none⟩) (Nat.le_refl _) _⟩
            case measure => simp [intOf]; omega
          · have ey : ys.getD k 0 = 0 := getD_out (by omega)
            have hst := hM.step hx hy hlt (c) (by rw [ex, ey, Int.zero_mul, Int.zero_mul, Int.add_zero, Int.add_zero])
            have cb2 : -(4 * F) ≤ (c) / 65536 ∧ (c) / 65536 ≤ 4 * F := by omega
            have hset := hr.set k (by rw [hM.1]; omega) ((c) % 65536)
            have hmask := i64_mask (c)
            have hfd : (c).fdiv 65536 = (c) / 65536 := Int.fdiv_eq_ediv_of_nonneg _ (by omega)
            clear hM hr
            go_wp2
            go_roundw
            case rel => exact ⟨k + 1, _, _, by omega, rfl, by go_num, hst, cb2, hset, hbw.setCell (p := ⟨w.heap.size, k, none⟩) (Nat.le_refl _) _⟩
            case measure => simp [intOf]; omega
      · obtain rfl : k = L := by omega
        have hv := hM.all (by omega) (by omega) V hV hV0 hV1
        have hq1 := hM.1
        have O : OI wr w.heap.size (some ⟨w.heap.size, 0, none⟩) k qs := ⟨digs_fits hM.2.1, by omega, by unfold maxLen; omega, .inr ⟨_, rfl, Nat.le_refl _, hr⟩⟩
        have T := hd (iTrimO _ _ _ _ _ O hM.2.1)
        rw [hv, hq1] at T
        clear hM hr hmk O hr0 hb0 hV1 hV hv hA hB
        go_wp2_with fail
        refine T.out.mono ?_
        rintro e w1 ⟨⟨av, cv, rfl, hO⟩, hb1⟩
        go_wp2
        go_ret
        exact ⟨⟨_, _, rfl, hO⟩, old_trans hbw hb1⟩
  · subst hle
    have hLi : (L : Int) = (la : Int) + 1 := by omega
    rw [hLi] at hmk
    clear hLi hL
    go_enter Tryz.func115, Tryz.ntmps115
    go_wp2
    go_loopw [10, 21] (fun c i wr => ∃ (k : Nat) (qs : List Int) (cv : Int), k ≤ L ∧ c = .int .i64 cv ∧ i = .int .i64 k ∧ MixI k L xs ys qs fa fb cv ∧ (-(4 * F) ≤ cv ∧ cv ≤ 4 * F) ∧ IRow wr w.heap.size qs ∧ Below w.heap.size w wr) (fun _ i _ => L - (intOf i).toNat)
    case atStart => exact ⟨0, _, 0, by omega, rfl, rfl, ⟨by simp, digs_zeros _, by simp [val]⟩, by omega, hr0, hb0⟩
    case round =>
      obtain ⟨k, qs, c, hk, rfl, rfl, hM, hc, hr, hbw⟩ := hrel
      by_cases hlt : k < L
      · obtain ⟨z, -, d0, d2⟩ := hr.at (k := k) (by rw [hM.1]; omega)
        by_cases ka : k < la
        · obtain ⟨ba, oa, x, rfl, -, ex, -, cx⟩ := (hA.old hbw).at ka
          have m1 := mul_bd (digs_getD hx k) ha.1 ha.2
          rw [ex] at m1
          have kb := ka
          obtain ⟨bb, ob, y, rfl, -, ey, -, cy⟩ := (hB.old hbw).at kb
          have m2 := mul_bd (digs_getD hy k) hb.1 hb.2
          rw [ey] at m2
          have hst := hM.step hx hy hlt (c + x * fa + y * fb) (by rw [ex, ey])
          have cb2 : -(4 * F) ≤ (c + x * fa + y * fb) / 65536 ∧ (c + x * fa + y * fb) / 65536 ≤ 4 * F := by omega
          have hset := hr.set k (by rw [hM.1]; omega) ((c + x * fa + y * fb) % 65536)
          have hmask := i64_mask (c + x * fa + y * fb)
          have hfd : (c + x * fa + y * fb).fdiv 65536 = (c + x * fa + y * fb) / 65536 := Int.fdiv_eq_ediv_of_nonneg _ (by omega)
          clear hM hr
          go_wp2
          go_roundw
          case rel => exact ⟨k + 1, _, _, by omega, rfl, by go_num, hst, cb2, hset, hbw.setCell (p := ⟨w.heap.size, k, none⟩) (Nat.le_refl _) _⟩
          case measure => simp [intOf]; omega
        · have ex : xs.getD k 0 = 0 := getD_out (by omega)
          have kb : ¬ k < la := by omega
          have ey : ys.getD k 0 = 0 := getD_out (by omega)
          have hst := hM.step hx hy hlt (c) (by rw [ex, ey, Int.zero_mul, Int.zero_mul, Int.add_zero, Int.add_zero])
          have cb2 : -(4 * F) ≤ (c) / 65536 ∧ (c) / 65536 ≤ 4 * F := by omega
          have hset := hr.set k (by rw [hM.1]; omega) ((c) % 65536)
          have hmask := i64_mask (c)
          have hfd : (c).fdiv 65536 = (c) / 65536 := Int.fdiv_eq_ediv_of_nonneg _ (by omega)
          clear hM hr
          go_wp2
          go_roundw
          case rel => exact ⟨k + 1, _, _, by omega, rfl, by go_num, hst, cb2, hset, hbw.setCell (p := ⟨w.heap.size, k, none⟩) (Nat.le_refl _) _⟩
          case measure => simp [intOf]; omega
      · obtain rfl : k = L := by omega
        have hv := hM.all (by omega) (by omega) V hV hV0 hV1
        have hq1 := hM.1
        have O : OI wr w.heap.size (some ⟨w.heap.size, 0, none⟩) k qs := ⟨digs_fits hM.2.1, by omega, by unfold maxLen; omega, .inr ⟨_, rfl, Nat.le_refl _, hr⟩⟩
        have T := hd (iTrimO _ _ _ _ _ O hM.2.1)
        rw [hv, hq1] at T
        clear hM hr hmk O hr0 hb0 hV1 hV hv hA hB
        go_wp2_with fail
        refine T.out.mono ?_
        rintro e w1 ⟨⟨av, cv, rfl, hO⟩, hb1⟩
        go_wp2
        go_ret
        exact ⟨⟨_, _, rfl, hO⟩, old_trans hbw hb1⟩
  · have hLi : (L : Int) = (la : Int) + 1 := by omega
    rw [hLi] at hmk
    clear hLi hL
    go_enter Tryz.func115, Tryz.ntmps115
    go_wp2
    go_loopw [10, 21] (fun c i wr => ∃ (k : Nat) (qs : List Int) (cv : Int), k ≤ L ∧ c = .int .i64 cv ∧ i = .int .i64 k ∧ MixI k L xs ys qs fa fb cv ∧ (-(4 * F) ≤ cv ∧ cv ≤ 4 * F) ∧ IRow wr w.heap.size qs ∧ Below w.heap.size w wr) (fun _ i _ => L - (intOf i).toNat)
    case atStart => exact ⟨0, _, 0, by omega, rfl, rfl, ⟨by simp, digs_zeros _, by simp [val]⟩, by omega, hr0, hb0⟩
    case round =>
      obtain ⟨k, qs, c, hk, rfl, rfl, hM, hc, hr, hbw⟩ := hrel
      by_cases hlt : k < L
      · obtain ⟨z, -, d0, d2⟩ := hr.at (k := k) (by rw [hM.1]; omega)
        by_cases ka : k < la
        · obtain ⟨ba, oa, x, rfl, -, ex, -, cx⟩ := (hA.old hbw).at ka
          have m1 := mul_bd (digs_getD hx k) ha.1 ha.2
          rw [ex] at m1
          by_cases kb : k < lb
          · obtain ⟨bb, ob, y, rfl, -, ey, -, cy⟩ := (hB.old hbw).at kb
            have m2 := mul_bd (digs_getD hy k) hb.1 hb.2
            rw [ey] at m2
            have hst := hM.step hx hy hlt (c + x * fa + y * fb) (by rw [ex, ey])
            have cb2 : -(4 * F) ≤ (c + x * fa + y * fb) / 65536 ∧ (c + x * fa + y * fb) / 65536 ≤ 4 * F := by omega
            have hset := hr.set k (by rw [hM.1]; omega) ((c + x * fa + y * fb) % 65536)
            have hmask := i64_mask (c + x * fa + y * fb)
            have hfd : (c + x * fa + y * fb).fdiv 65536 = (c + x * fa + y * fb) / 65536 := Int.fdiv_eq_ediv_of_nonneg _ (by omega)
            clear hM hr
            go_wp2
            go_roundw
            case rel => exact ⟨k + 1, _, _, by omega, rfl, by go_num, hst, cb2, hset, hbw.setCell (p := ⟨w.heap.size, k, none⟩) (Nat.le_refl _) _⟩
            case measure => simp [intOf]; omega
          · have ey : ys.getD k 0 = 0 := getD_out (by omega)
            have hst := hM.step hx hy hlt (c + x * fa) (by rw [ex, ey, Int.zero_mul, Int.add_zero])
            have cb2 : -(4 * F) ≤ (c + x * fa) / 65536 ∧ (c + x * fa) / 65536 ≤ 4 * F := by omega
            have hset := hr.set k (by rw [hM.1]; omega) ((c + x * fa) % 65536)
            have hmask := i64_mask (c + x * fa)
            have hfd : (c + x * fa).fdiv 65536 = (c + x * fa) / 65536 := Int.fdiv_eq_ediv_of_nonneg _ (by omega)
            clear hM hr
            go_wp2
            go_roundw
            case rel => exact ⟨k + 1, _, _, by omega, rfl, by go_num, hst, cb2, hset, hbw.setCell (p := ⟨w.heap.size, k, none⟩) (Nat.le_refl _) _⟩
            case measure => simp [intOf]; omega
        · have ex : xs.getD k 0 = 0 := getD_out (by omega)
          have kb : ¬ k < lb := by omega
          have ey : ys.getD k 0 = 0 := getD_out (by omega)
          have hst := hM.step hx hy hlt (c) (by rw [ex, ey, Int.zero_mul, Int.zero_mul, Int.add_zero, Int.add_zero])
          have cb2 : -(4 * F) ≤ (c) / 65536 ∧ (c) / 65536 ≤ 4 * F := by omega
          have hset := hr.set k (by rw [hM.1]; omega) ((c) % 65536)
          have hmask := i64_mask (c)
          have hfd : (c).fdiv 65536 = (c) / 65536 := Int.fdiv_eq_ediv_of_nonneg _ (by omega)
          clear hM hr
          go_wp2
          go_roundw
          case rel => exact ⟨k + 1, _, _, by omega, rfl, by go_num, hst, cb2, hset, hbw.setCell (p := ⟨w.heap.size, k, none⟩) (Nat.le_refl _) _⟩
          case measure => simp [intOf]; omega
      · obtain rfl : k = L := by omega
        have hv := hM.all (by omega) (by omega) V hV hV0 hV1
        have hq1 := hM.1
        have O : OI wr w.heap.size (some ⟨w.heap.size, 0, none⟩) k qs := ⟨digs_fits hM.2.1, by omega, by unfold maxLen; omega, .inr ⟨_, rfl, Nat.le_refl _, hr⟩⟩
        have T := hd (iTrimO _ _ _ _ _ O hM.2.1)
        rw [hv, hq1] at T
        clear hM hr hmk O hr0 hb0 hV1 hV hv hA hB
        go_wp2_with fail
        refine T.out.mono ?_
        rintro e w1 ⟨⟨av, cv, rfl, hO⟩, hb1⟩
        go_wp2
        go_ret
        exact ⟨⟨_, _, rfl, hO⟩, old_trans hbw hb1⟩
end Go.Proofs.YtgoffjpfddmhhaaGreatDoor

/- The specification's digit at a place, and its noughts taken off: a new list. Conditions: 2^20 numbers at most. -/
namespace Go.Proofs.YtgoffjpfddmhhaaGreatDoor
open Go.RowKit
set_option linter.unusedVariables false
set_option maxRecDepth 100000

set_option maxHeartbeats 1000000 in
theorem sAt (a : Option Addr) (len cap : Nat) (xs : List Int) (k : Nat) (w : World) (hR : InI w a len cap xs) :
    Calls Tryz.prog 93 #[.slice a len cap, .int .i64 (k : Int)] w fun e w' => e = .returned (.int .i64 (xs.getD k 0)) ∧ w' = w := by
  have hlen := hR.len
  have hp := hR.1
  by_cases hk : k < len
  · obtain ⟨b, off, x, rfl, hbl, hx, -, c0⟩ := hR.at hk
    rw [hx]
    go_enter Tryz.func93, Tryz.ntmps93
    go_wp2
    go_ret
    exact ⟨rfl, rfl⟩
  · have hx : xs.getD k 0 = 0 := by rw [List.getD_eq_getElem?_getD, List.getElem?_eq_none (by omega)]; rfl
    rw [hx]
    go_enter Tryz.func93, Tryz.ntmps93
    go_wp2
    go_ret
    exact ⟨rfl, rfl⟩
theorem take_snoc {xs : List Int} {k : Nat} (h : k < xs.length) : xs.take (k + 1) = xs.take k ++ [xs.getD k 0] := by
  rw [List.take_succ_eq_append_getElem h, List.getD_eq_getElem?_getD, List.getElem?_eq_getElem h]; rfl
set_option maxHeartbeats 2000000 in
theorem sTrim (a : Option Addr) (len cap : Nat) (xs : List Int) (w : World) (hR : InI w a len cap xs) (hdg : digs xs) (hl : len ≤ 4194304) :
    Calls Tryz.prog 74 #[.slice a len cap] w fun e w' => (∃ av cv, e = .returned (.slice av (natL (val xs)).length cv) ∧ OI w' w.heap.size av cv (natL (val xs))) ∧ Below w.heap.size w w' := by
  obtain ⟨i0, hi, hz0, hz1, hz2⟩ := info_parts infoInt
  have hlen := hR.len
  have hp := hR.1
  have htr := hd (fun k h1 h2 h3 => trim_natL (xs := xs) (n := k) hdg h1 h2 h3)
  generalize natL (val xs) = qs at *
  go_enter Tryz.func74, Tryz.ntmps74
  go_wp2
  go_loopw [3] (fun n wr => ∃ k : Nat, k ≤ len ∧ n = .int .i64 k ∧ (∀ i, k ≤ i → i < len → xs.getD i 0 = 0) ∧ wr = w) (fun n _ => (intOf n).toNat)
  case atStart => exact ⟨len, by omega, rfl, fun i h1 h2 => by omega, rfl⟩
  case round =>
    obtain ⟨k, hk, rfl, hz, hw⟩ := hrel
    obtain rfl : w = wr := hw.symm
    clear hw
    by_cases hgo : 0 < k ∧ xs.getD (k - 1) 0 = 0
    · obtain ⟨b, off, x, rfl, hbl, hx, -, c0⟩ := hR.at (k := k - 1) (by omega)
      have ek : ((k : Int) - 1) = ((k - 1 : Nat) : Int) := by omega
      obtain rfl : x = 0 := by rw [← hx]; exact hgo.2
      have hpos := hgo.1
      clear hgo
      go_wp2
      go_roundw
      case rel =>
        refine ⟨k - 1, by omega, by go_num, fun i h1 h2 => ?_, trivial⟩
        by_cases e : i = k - 1
        · subst e; exact hx
        · exact hz i (by omega) h2
      case measure => simp [intOf]; omega
    · have ht : xs.take k = qs := by
        refine htr.out k (by omega) (fun i h1 h2 => hz i h1 (by omega)) ?_
        by_cases h0 : k = 0
        · exact .inl h0
        · exact .inr (fun e => hgo ⟨by omega, e⟩)
      have hkl : qs.length = k := by rw [← ht, List.length_take]; omega
      have hkl' := hd hkl
      have ht' := hd ht
      clear ht hkl hz
      have hcase : k = 0 ∨ (0 < k ∧ ∃ x, x ≠ 0 ∧ xs.getD (k - 1) 0 = x) := by
        by_cases h0 : k = 0
        · exact .inl h0
        · exact .inr ⟨by omega, _, fun e => hgo ⟨by omega, e⟩, rfl⟩
      clear hgo
      rcases hcase with rfl | ⟨h0, x, hx0, hx⟩
      · go_wp2
        go_loopw [4, 5] (fun o i wr => o = .slice none 0 0 ∧ i = .int .i64 0 ∧ wr = w) (fun _ _ _ => 0)
        case atStart => exact ⟨rfl, rfl, rfl⟩
        case round =>
          obtain ⟨rfl, rfl, rfl⟩ := hrel
          go_wp2
          go_ret
          have : qs = [] := List.length_eq_zero_iff.1 hkl'.out
          subst this
          exact ⟨⟨none, 0, rfl, OI.none _ _⟩, Below.refl _ _⟩
      · obtain ⟨b, off, x', rfl, hbl, hx2, -, c0⟩ := hR.at (k := k - 1) (by omega)
        obtain rfl : x' = x := by rw [← hx, ← hx2]
        have ek : ((k : Int) - 1) = ((k - 1 : Nat) : Int) := by omega
        have hxb : (x' == 0) = false := by simpa using hx0
        go_wp2
        go_loopw [4, 5] (fun o i wr => ∃ (j : Nat), j ≤ k ∧ i = .int .i64 j ∧ IGrows wr w.heap.size o (xs.take j) ∧ Below w.heap.size w wr) (fun _ i _ => k - (intOf i).toNat)
        case atStart => exact ⟨0, by omega, rfl, IGrows.nil _ _, Below.refl _ _⟩
        case round =>
          obtain ⟨j, hj, rfl, G, hb⟩ := hrel
          clear ek c0 hxb hx0 hx hx2
          by_cases hlt : j < k
          · obtain ⟨b', off', y, he, -, hy, -, c0⟩ := (hR.old hb).at (k := j) (by omega)
            obtain ⟨rfl, rfl⟩ : b = b' ∧ off = off' := by injection he with he; injection he with h1 h2; exact ⟨h1, h2⟩
            clear he
            have hjl : (xs.take j).length = j := by rw [List.length_take]; omega
            have hsn := hd (take_snoc (xs := xs) (k := j) (by omega))
            rw [hy] at hsn
            have G2 := G.alloc (.cells #[.int .i64 y] 3)
            have B2 : Below w.heap.size w (wr.alloc (.cells #[.int .i64 y] 3)) := old_alloc hb _
            have cw := cells_one wr wr.heap.size rfl (.int .i64 y) 3
            have hsz := hb.size
            go_wp2_with (at_builtin; refine wpList_append_own _ rfl _ _ 23 rfl w.heap.size 3 i0 _ 1 8 Tryz.underlying23 hi hz0 hz1 hz2 rfl (by decide) _ _ _ rfl G2 ⟨wr.heap.size, 0, none⟩ 1 1 [.int .i64 y] rfl rfl cw (by simp [Value.oneCell']) (by rw [hjl]; unfold maxLen; omega) (by rw [hjl]; omega) (by simp; omega) ?_; intro v' w5 hown hgrow _)
            go_roundw
            case rel =>
              refine ⟨j + 1, by omega, by go_num, ?_, ?_⟩
              · rw [hsn.out]
                unfold IGrows
                rw [ints_snoc, List.length_append]
                exact hown
              · exact B2.grown hgrow B2.size (fun c e => by have := (World.ownsRow.lt G2 c e).1; omega)
            case measure => simp [intOf]; omega
          · obtain rfl : j = k := by omega
            rw [ht'.out] at G
            have hf : IFits qs := by rw [← ht'.out]; exact fun x hx => hR.2.2.2.1 x (List.mem_of_mem_take hx)
            obtain ⟨av, cv, rfl, ho⟩ := G.oi hf
            go_wp2
            go_ret
            exact ⟨⟨_, _, rfl, ho⟩, hb⟩
end Go.Proofs.YtgoffjpfddmhhaaGreatDoor

/- Sums, by the specification and by the program. Conditions: numbers. -/
namespace Go.Proofs.YtgoffjpfddmhhaaGreatDoor
open Go.RowKit
set_option linter.unusedVariables false
set_option maxRecDepth 100000

/-- digits that are being made by a sum of multiples -/
def MixG (k : Nat) (xs ys o : List Int) (fa fb c : Int) : Prop :=
  o.length = k ∧ digs o ∧ ((val o : Nat) : Int) + (65536 : Int) ^ k * c = (val (xs.take k) : Nat) * fa + (val (ys.take k) : Nat) * fb
theorem MixG.zero (xs ys : List Int) (fa fb : Int) : MixG 0 xs ys [] fa fb 0 := ⟨rfl, digs_nil, by simp [val]⟩
theorem MixG.step {k : Nat} {xs ys o : List Int} {fa fb c : Int} (h : MixG k xs ys o fa fb c) (hx : digs xs) (hy : digs ys) (s d c' : Int) (hs : s = c + xs.getD k 0 * fa + ys.getD k 0 * fb) (hd : dig d) (hsd : s = d + 65536 * c') :
    MixG (k + 1) xs ys (o ++ [d]) fa fb c' := by
  obtain ⟨h1, h2, h3⟩ := h
  refine ⟨by simp [h1], digs_append.2 ⟨h2, digs_cons.2 ⟨hd, digs_nil⟩⟩, ?_⟩
  have dx := digs_getD hx k
  have dy := digs_getD hy k
  rw [val_take_succ, val_take_succ, val_append, h1, val_cons, val_nil]
  unfold dig at dx dy hd
  have e1 : (((xs.getD k 0).toNat : Nat) : Int) = xs.getD k 0 := by omega
  have e2 : (((ys.getD k 0).toNat : Nat) : Int) = ys.getD k 0 := by omega
  have e3 : (((d.toNat + 65536 * 0 : Nat)) : Int) = d := by omega
  have e := pow_cast k
  have := mix_step (P := (65536 : Int) ^ k) h3 hs hsd
  rw [Int.natCast_add, Int.natCast_add, Int.natCast_add, Int.natCast_mul, Int.natCast_mul, Int.natCast_mul, e, e1, e2, e3, Int.pow_succ, Int.add_mul, Int.add_mul]
  omega
theorem MixG.all {n : Nat} {xs ys o : List Int} {fa fb c : Int} (h : MixG n xs ys o fa fb c) (hx : xs.length ≤ n) (hy : ys.length ≤ n) : ((val o : Nat) : Int) + (65536 : Int) ^ n * c = (val xs : Nat) * fa + (val ys : Nat) * fb := by
  have := h.2.2
  rwa [List.take_of_length_le hx, List.take_of_length_le hy] at this
theorem val_ge {xs : List Int} (h : digs xs) (t : topped xs) (h0 : 0 < xs.length) : 65536 ^ (xs.length - 1) ≤ val xs := by
  have e := natL_canon h t
  rcases Nat.lt_or_ge (val xs) (65536 ^ (xs.length - 1)) with g | g
  · have := natL_len.2 g
    rw [e] at this
    omega
  · exact g
theorem canon_ge {o : List Int} (h : digs o) (g : o.length = 0 ∨ 65536 ^ (o.length - 1) ≤ val o) : natL (val o) = o := by
  refine natL_canon h ?_
  rcases g with g | g
  · exact .inl g
  · by_cases h0 : o.length = 0
    · exact .inl h0
    · refine .inr (fun e => ?_)
      have hs : o.take (o.length - 1 + 1) = o := List.take_of_length_le (by omega)
      have hv := val_take_succ o (o.length - 1)
      rw [hs, e] at hv
      have ht : digs (o.take (o.length - 1)) := (digs_append.1 (by rw [List.take_append_drop]; exact h)).1
      have hl := val_lt ht
      rw [List.length_take, Nat.min_eq_left (by omega)] at hl
      simp at hv
      omega
/-- what a sum's digits are, when the last carry stands at their head -/
theorem add_end {n : Nat} {xs ys o : List Int} {c : Int} (h : MixG n xs ys o 1 1 c) (hx : digs xs) (hy : digs ys) (tx : topped xs) (ty : topped ys) (hn : n = max xs.length ys.length) (hc : c = 0 ∨ c = 1) :
    (c = 0 → natL (val xs + val ys) = o) ∧ (c = 1 → natL (val xs + val ys) = o ++ [1]) := by
  have ha := h.all (by omega) (by omega)
  have e := pow_cast n
  constructor
  · rintro rfl
    have hv : val xs + val ys = val o := by simp at ha; omega
    rw [hv]
    refine canon_ge h.2.1 ?_
    rw [← hv, h.1]
    by_cases h0 : n = 0
    · exact .inl h0
    · refine .inr ?_
      rcases Nat.le_total xs.length ys.length with g | g
      · have := val_ge hy ty (by omega)
        rw [show ys.length = n by omega] at this
        omega
      · have := val_ge hx tx (by omega)
        rw [show xs.length = n by omega] at this
        omega
  · rintro rfl
    have hv : val xs + val ys = val (o ++ [1]) := by
      rw [val_append, h.1, val_cons, val_nil]
      simp at ha ⊢
      omega
    rw [hv]
    refine natL_canon (digs_append.2 ⟨h.2.1, digs_cons.2 ⟨by unfold dig; omega, digs_nil⟩⟩) (.inr ?_)
    simp [List.getD_eq_getElem?_getD]

set_option maxHeartbeats 2000000 in
theorem sAdd (a b : Option Addr) (la lb ca cb : Nat) (xs ys : List Int) (w : World) (hA : InI w a la ca xs) (hB : InI w b lb cb ys) (hx : digs xs) (hy : digs ys) (tx : topped xs) (ty : topped ys) (hla : la ≤ 1048576) (hlb : lb ≤ 1048576) :
    Calls Tryz.prog 71 #[.slice a la ca, .slice b lb cb] w fun e w' => (∃ av cv, e = .returned (.slice av (natL (val xs + val ys)).length cv) ∧ OI w' w.heap.size av cv (natL (val xs + val ys))) ∧ Below w.heap.size w w' := by
  obtain ⟨i0, hi, hz0, hz1, hz2⟩ := info_parts infoInt
  have pa := hA.1
  have pb := hB.1
  have hend := hd (fun o c h => add_end (n := max la lb) (o := o) (c := c) h hx hy tx ty (by omega))
  have hfit := hd (natL_fits (val xs + val ys))
  generalize natL (val xs + val ys) = ql at *
  have hnL : Hid (∃ n, n = max la lb ∧ n ≤ 1048576) := ⟨_, rfl, by omega⟩
  obtain ⟨n, hn, hnl⟩ := hnL.out
  clear hnL
  rw [← hn] at hend
  by_cases hle : la < lb
  all_goals
    first | (have hnla : (n : Int) = (la : Int) := by omega) | (have hnla : (n : Int) = (lb : Int) := by omega)
    have hxa : Hid (∀ k, n ≤ k → xs.getD k 0 = 0) := fun k hk => getD_out (by omega)
    go_enter Tryz.func71, Tryz.ntmps71
    go_wp2
    go_loopw [6, 7, 8] (fun o c i wr => ∃ (k : Nat) (qs : List Int) (cv : Int), k ≤ n ∧ c = .int .i64 cv ∧ i = .int .i64 k ∧ MixG k xs ys qs 1 1 cv ∧ (0 ≤ cv ∧ cv ≤ 1) ∧ IGrows wr w.heap.size o qs ∧ Below w.heap.size w wr) (fun _ _ i _ => n - (intOf i).toNat)
    case atStart => exact ⟨0, [], 0, by omega, rfl, rfl, MixG.zero _ _ _ _, by omega, IGrows.nil _ _, Below.refl _ _⟩
    case round =>
      obtain ⟨k, qs, c, hk, rfl, rfl, hM, hc, G, hb⟩ := hrel
      have hql := hM.1
      have hsz := hb.size
      by_cases hlt : k < n
      · have hltz : (k : Int) < (la : Int) ∨ (k : Int) < (lb : Int) := by omega
        have dx := digs_getD hx k
        have dy := digs_getD hy k
        have SA := hd (sAt a la ca xs k _ (hA.old hb))
        have SB := hd (sAt b lb cb ys k _ (hB.old hb))
        have hst := hd (fun d c' h1 h2 => hM.step hx hy (c + xs.getD k 0 * 1 + ys.getD k 0 * 1) d c' rfl h1 h2)
        generalize xs.getD k 0 = x at *
        generalize ys.getD k 0 = y at *
        unfold dig at dx dy
        obtain ⟨s, hs⟩ : ∃ s, s = x + y + c := ⟨_, rfl⟩
        have hs0 : 0 ≤ s := by omega
        have hs1 : s ≤ 131071 := by omega
        have h2 := hst.out (s % 65536) (s / 65536) (by unfold dig; omega) (by omega)
        have h2' := hd h2
        have hcb : 0 ≤ s / 65536 ∧ s / 65536 ≤ 1 := by omega
        have hcb' := hd hcb
        clear h2 hcb hst hM hnla hxa hend
        subst hs
        have G2 := G.alloc (.cells #[.int .i64 ((x + y + c) % 65536)] 3)
        have B2 : Below w.heap.size w (wr.alloc (.cells #[.int .i64 ((x + y + c) % 65536)] 3)) := old_alloc hb _
        have cw := cells_one wr wr.heap.size rfl (.int .i64 ((x + y + c) % 65536)) 3
        first | (have hkn : (k : Int) < (la : Int) := by omega) | (have hkn : (k : Int) < (lb : Int) := by omega)
        clear hltz
        go_wp2_with fail
        refine SA.out.mono ?_
        rintro e w1 ⟨rfl, rfl⟩
        go_wp2_with fail
        refine SB.out.mono ?_
        rintro e w1 ⟨rfl, rfl⟩
        go_wp2_with (at_builtin; refine wpList_append_own _ rfl _ _ 23 rfl w.heap.size 3 i0 _ 1 8 Tryz.underlying23 hi hz0 hz1 hz2 rfl (by decide) _ _ _ rfl G2 ⟨_, 0, none⟩ 1 1 [.int .i64 ((x + y + c) % 65536)] rfl rfl cw (by simp [Value.oneCell']) (by rw [hql]; unfold maxLen; omega) (by rw [hql]; omega) (by simp; omega) ?_; intro v' w5 hown hgrow _)
        go_roundw
        case rel =>
          refine ⟨k + 1, _, _, by omega, rfl, by go_num, h2'.out, hcb'.out, ?_, ?_⟩
          · unfold IGrows
            rw [ints_snoc, List.length_append]
            exact hown
          · exact B2.grown hgrow B2.size (fun c e => by have := (World.ownsRow.lt G2 c e).1; omega)
        case measure => simp [intOf]; omega
      · obtain rfl : k = n := by omega
        have he := hend.out qs c hM (by omega)
        have hk1 : ¬ ((k : Int) < (la : Int)) := by omega
        have hk2 : ¬ ((k : Int) < (lb : Int)) := by omega
        by_cases h0 : c = 0
        · subst h0
          have e := he.1 rfl
          subst e
          obtain ⟨av, cv, rfl, ho⟩ := G.oi hfit.out
          clear he hM hend hn hnla
          go_wp2
          go_ret
          exact ⟨⟨_, _, rfl, ho⟩, hb⟩
        · obtain rfl : c = 1 := by omega
          have e := he.2 rfl
          have e' := hd e
          clear he e hM hend hn hnla
          have G2 := G.alloc (.cells #[.int .i64 1] 3)
          have B2 : Below w.heap.size w (wr.alloc (.cells #[.int .i64 1] 3)) := old_alloc hb _
          have cw := cells_one wr wr.heap.size rfl (.int .i64 1) 3
          go_wp2_with (at_builtin; refine wpList_append_own _ rfl _ _ 23 rfl w.heap.size 3 i0 _ 1 8 Tryz.underlying23 hi hz0 hz1 hz2 rfl (by decide) _ _ _ rfl G2 ⟨_, 0, none⟩ 1 1 [.int .i64 1] rfl rfl cw (by simp [Value.oneCell']) (by rw [hql]; unfold maxLen; omega) (by rw [hql]; omega) (by simp; omega) ?_; intro v' w5 hown hgrow _)
          have G5 : IGrows w5 w.heap.size v' ql := by
            rw [e'.out]
            unfold IGrows
            rw [ints_snoc, List.length_append]
            exact hown
          obtain ⟨av, cv, rfl, ho⟩ := G5.oi hfit.out
          go_ret
          exact ⟨⟨_, _, rfl, ho⟩, B2.grown hgrow B2.size (fun c e => by have := (World.ownsRow.lt G2 c e).1; omega)⟩
end Go.Proofs.YtgoffjpfddmhhaaGreatDoor

/- Sums of numbers, where they have no more digits than may be. No condition. -/
namespace Go.Proofs.YtgoffjpfddmhhaaGreatDoor
open Go.RowKit
set_option linter.unusedVariables false
set_option maxRecDepth 100000

theorem sum_lt {xs ys : List Int} {la lb : Nat} (hx : digs xs) (hy : digs ys) (pa : xs.length = la) (pb : ys.length = lb) : ((val xs + val ys : Nat) : Int) < (65536 : Int) ^ (max la lb + 1) := by
  have h1 := val_lt hx
  have h2 := val_lt hy
  have g1 : 65536 ^ xs.length ≤ 65536 ^ (max la lb) := Nat.pow_le_pow_right (by omega) (by omega)
  have g2 : 65536 ^ ys.length ≤ 65536 ^ (max la lb) := Nat.pow_le_pow_right (by omega) (by omega)
  have e := pow_cast (max la lb + 1)
  rw [← e, Nat.pow_succ]
  omega
set_option maxHeartbeats 1000000 in
theorem iPlus (a b : Option Addr) (la lb ca cb : Nat) (xs ys : List Int) (w : World) (hA : InI w a la ca xs) (hB : InI w b lb cb ys) (hx : digs xs) (hy : digs ys) (hla : la ≤ 1048576) (hlb : lb ≤ 1048576) :
    Calls Tryz.prog 102 #[.slice a la ca, .slice b lb cb] w fun e w' => (∃ av cv, e = .returned (.slice av (natL (val xs + val ys)).length cv) ∧ OI w' w.heap.size av cv (natL (val xs + val ys))) ∧ Below w.heap.size w w' := by
  have M := hd (iMixed a b la lb ca cb xs ys 1 1 1 w hA hB hx hy hla hlb (by omega) (by omega) (by omega) (by omega) ((val xs + val ys : Nat) : Int) (by omega) (by omega) (sum_lt hx hy hA.1 hB.1))
  rw [Int.toNat_natCast] at M
  generalize natL (val xs + val ys) = ql at *
  go_enter Tryz.func102, Tryz.ntmps102
  go_wp2_with fail
  refine M.out.mono ?_
  rintro e w1 ⟨⟨av, cv, rfl, hO⟩, hb1⟩
  go_wp2
  go_ret
  exact ⟨⟨_, _, rfl, hO⟩, hb1⟩
end Go.Proofs.YtgoffjpfddmhhaaGreatDoor

/- Products, by the program. Conditions: digits. -/
namespace Go.Proofs.YtgoffjpfddmhhaaGreatDoor
open Go.RowKit
set_option linter.unusedVariables false
set_option maxRecDepth 100000

theorem val_set (qs : List Int) (k : Nat) (d : Int) (h : k < qs.length) : ((val (qs.set k d) : Nat) : Int) + (65536 : Int) ^ k * ((qs.getD k 0).toNat : Int) = (val qs : Nat) + (65536 : Int) ^ k * (d.toNat : Int) := by
  induction k generalizing qs with
  | zero =>
    cases qs with
    | nil => simp at h
    | cons x xs =>
      rw [List.set_cons_zero, val_cons, val_cons]
      simp
      omega
  | succ k ih =>
    cases qs with
    | nil => simp at h
    | cons x xs =>
      have e := ih xs (by simpa using h)
      rw [List.set_cons_succ, val_cons, val_cons, List.getD_cons_succ, Int.pow_succ]
      generalize (xs.getD k 0).toNat = u at *
      generalize val (xs.set k d) = p at *
      generalize val xs = q at *
      generalize (65536 : Int) ^ k = P at *
      have : P * 65536 * (u : Int) = 65536 * (P * (u : Int)) := by grind
      have : P * 65536 * (d.toNat : Int) = 65536 * (P * (d.toNat : Int)) := by grind
      omega
/-- a row of a product: i rows are done, and j places of the next -/
structure MulI (la lb i j : Nat) (xs ys qs : List Int) (c : Int) : Prop where
  len : qs.length = la + lb
  dg : digs qs
  eq : ((val qs : Nat) : Int) + (65536 : Int) ^ (i + j) * c = (val (xs.take i) : Nat) * (val ys : Nat) + (65536 : Int) ^ i * (xs.getD i 0) * (val (ys.take j) : Nat)
  zero : ∀ m, i + lb ≤ m → m < la + lb → qs.getD m 0 = 0
theorem MulI.start {la lb : Nat} {xs ys : List Int} : MulI la lb 0 0 xs ys (List.replicate (la + lb) 0) 0 := by
  refine ⟨by simp, digs_zeros _, ?_, fun m h1 h2 => by simp [List.getD_eq_getElem?_getD, h2]⟩
  have : val (List.replicate (la + lb) 0) = 0 := digs_zero (fun i hi => by rw [List.length_replicate] at hi; simp [List.getD_eq_getElem?_getD, hi])
  rw [this]; simp [val]
theorem mul_alg {P V o s d c c' x y A B Y : Int} (h : V + P * c = A + B * x * Y) (hs : s = c + o + x * y) (hd : s = d + 65536 * c') (V' : Int) (hV : V' + P * o = V + P * d) (Q : Int) (hP : P = B * Q) : V' + P * 65536 * c' = A + B * x * (Y + Q * y) := by
  subst hP
  grind
theorem MulI.step {la lb i j : Nat} {xs ys qs : List Int} {c : Int} (h : MulI la lb i j xs ys qs c) (hx : digs xs) (hy : digs ys) (hi : i < la) (hj : j < lb) (hl : ys.length = lb) (s d c' : Int) (hs : s = c + qs.getD (i + j) 0 + xs.getD i 0 * ys.getD j 0) (hd : dig d) (hsd : s = d + 65536 * c') :
    MulI la lb i (j + 1) xs ys (qs.set (i + j) d) c' := by
  refine ⟨by simpa using h.len, digs_set h.dg _ hd, ?_, fun m h1 h2 => ?_⟩
  · have dq := digs_getD h.dg (i + j)
    have dy := digs_getD hy j
    unfold dig at dq dy hd
    have e := val_set qs (i + j) d (by rw [h.len]; omega)
    have e1 : (((qs.getD (i + j) 0).toNat : Nat) : Int) = qs.getD (i + j) 0 := by omega
    have e2 : ((d.toNat : Nat) : Int) = d := by omega
    have e3 : (((ys.getD j 0).toNat : Nat) : Int) = ys.getD j 0 := by omega
    rw [e1, e2] at e
    have k := mul_alg h.eq hs hsd _ e ((65536 : Int) ^ j) (Int.pow_add _ _ _)
    rw [val_take_succ, Int.natCast_add, Int.natCast_mul, pow_cast, e3, ← Nat.add_assoc, Int.pow_succ]
    exact k
  · have : (qs.set (i + j) d).getD m 0 = qs.getD m 0 := by simp [List.getD_eq_getElem?_getD, show i + j ≠ m by omega]
    rw [this]
    exact h.zero m h1 h2
theorem MulI.next {la lb i : Nat} {xs ys qs : List Int} {c : Int} (h : MulI la lb i lb xs ys qs c) (hx : digs xs) (hi : i < la) (hl : ys.length = lb) (hc : dig c) :
    MulI la lb (i + 1) 0 xs ys (qs.set (i + lb) c) 0 := by
  refine ⟨by simpa using h.len, digs_set h.dg _ hc, ?_, fun m h1 h2 => ?_⟩
  · have hz := h.zero (i + lb) (by omega) (by omega)
    have dx := digs_getD hx i
    unfold dig at dx hc
    have e := val_set qs (i + lb) c (by rw [h.len]; omega)
    rw [hz] at e
    have e2 : ((c.toNat : Nat) : Int) = c := by omega
    have e3 : (((xs.getD i 0).toNat : Nat) : Int) = xs.getD i 0 := by omega
    rw [e2] at e
    have q := h.eq
    rw [List.take_of_length_le (show ys.length ≤ lb by omega)] at q
    rw [val_take_succ, Int.natCast_add, Int.natCast_mul, pow_cast, e3, List.take_zero, val_nil]
    generalize xs.getD i 0 = x at *
    simp at e ⊢
    rw [Int.add_mul]
    omega
  · have : (qs.set (i + lb) c).getD m 0 = qs.getD m 0 := by simp [List.getD_eq_getElem?_getD, show i + lb ≠ m by omega]
    rw [this]
    exact h.zero m (by omega) h2
theorem MulI.all {la lb : Nat} {xs ys qs : List Int} (h : MulI la lb la 0 xs ys qs 0) (hx : xs.length = la) : val qs = val xs * val ys := by
  have e := h.eq
  rw [List.take_of_length_le (show xs.length ≤ la by omega), List.take_zero, val_nil] at e
  simp at e
  exact_mod_cast e

set_option maxHeartbeats 2000000 in
theorem iTimes (a b : Option Addr) (la lb ca cb : Nat) (xs ys : List Int) (w : World) (hA : InI w a la ca xs) (hB : InI w b lb cb ys) (hx : digs xs) (hy : digs ys) (hla : la ≤ 1048576) (hlb : lb ≤ 1048576) :
    Calls Tryz.prog 174 #[.slice a la ca, .slice b lb cb] w fun e w' => (∃ av cv, e = .returned (.slice av (natL (val xs * val ys)).length cv) ∧ OI w' w.heap.size av cv (natL (val xs * val ys))) ∧ Below w.heap.size w w' := by
  have pa := hA.1
  have pb := hB.1
  have hmk := mkDigs w (la + lb) (by omega)
  have hr0 := IRow.made w (la + lb) 3
  have hb0 : Below w.heap.size w (w.alloc (.cells (madeCells #[.int .i64 0] ((la + lb) * 1)) 3)) := (Below.refl _ w).alloc (Nat.le_refl _) _
  rw [Int.natCast_add] at hmk
  generalize w.alloc (.cells (madeCells #[.int .i64 0] ((la + lb) * 1)) 3) = w0 at *
  have hend := hd (fun qs h => MulI.all (la := la) (lb := lb) (xs := xs) (ys := ys) (qs := qs) h pa)
  generalize val xs * val ys = V at *
  go_enter Tryz.func174, Tryz.ntmps174
  go_wp2
  go_loopw [19] (fun i wr => ∃ (k : Nat) (qs : List Int), k ≤ la ∧ i = .int .i64 k ∧ MulI la lb k 0 xs ys qs 0 ∧ IRow wr w.heap.size qs ∧ Below w.heap.size w wr) (fun i _ => la - (intOf i).toNat)
  case atStart => exact ⟨0, _, by omega, rfl, MulI.start, hr0, hb0⟩
  case round =>
    obtain ⟨k, qs, hk, rfl, hM, hr, hbw⟩ := hrel
    by_cases hlt : k < la
    · obtain ⟨b1, o1, x, rfl, hb1, ex, -, c1⟩ := (hA.old hbw).at hlt
      have dx := digs_getD hx k
      go_wp2
      go_loopw [8, 26] (fun c i wr => ∃ (j : Nat) (qs : List Int) (cv : Int), j ≤ lb ∧ c = .int .i64 cv ∧ i = .int .i64 j ∧ MulI la lb k j xs ys qs cv ∧ (0 ≤ cv ∧ cv ≤ 65535) ∧ IRow wr w.heap.size qs ∧ Below w.heap.size w wr) (fun _ i _ => lb - (intOf i).toNat)
      case atStart => exact ⟨0, qs, 0, by omega, rfl, rfl, hM, by omega, hr, hbw⟩
      case round =>
        clear hM hr hbw c1 hb1 hmk hr0 hb0 hend
        obtain ⟨j, qs, c, hj, rfl, rfl, hM, hc, hr, hbw⟩ := hrel
        by_cases hjl : j < lb
        · obtain ⟨b2, o2, y, rfl, -, ey, -, c2⟩ := (hB.old hbw).at hjl
          obtain ⟨z, ez, d0, d2⟩ := hr.at (k := k + j) (by rw [hM.len]; omega)
          have dy := digs_getD hy j
          have dz := digs_getD hM.dg (k + j)
          rw [ex] at dx
          rw [ey] at dy
          rw [ez] at dz
          have m1 := mul_bd (F := 65535) dx (f := y) (by unfold dig at dy; omega) (by unfold dig at dy; omega)
          unfold dig at dx dy dz
          have m0 : 0 ≤ x * y := Int.mul_nonneg dx.1 dy.1
          have hst := hM.step hx hy hlt hjl pb (c + (z + x * y)) ((c + (z + x * y)) % 65536) ((c + (z + x * y)) / 65536) (by rw [ez, ex, ey]; omega) (by unfold dig; omega) (by omega)
          have cb2 : 0 ≤ (c + (z + x * y)) / 65536 ∧ (c + (z + x * y)) / 65536 ≤ 65535 := by omega
          have hset := hr.set (k + j) (by rw [hM.len]; omega) ((c + (z + x * y)) % 65536)
          have hmask := i64_mask (c + (z + x * y))
          have hfd : (c + (z + x * y)).fdiv 65536 = (c + (z + x * y)) / 65536 := Int.fdiv_eq_ediv_of_nonneg _ (by omega)
          have hst' := hd hst
          clear hM hr hst
          go_wp2
          go_roundw
          case rel => exact ⟨j + 1, _, _, by omega, rfl, by go_num, hst'.out, cb2, hset, hbw.setCell (p := ⟨w.heap.size, k + j, none⟩) (Nat.le_refl _) _⟩
          case measure => simp [intOf]; omega
        · obtain rfl : j = lb := by omega
          obtain ⟨z, ez, d0, d2⟩ := hr.at (k := k + j) (by rw [hM.len]; omega)
          have hst' := hd (hM.next hx hlt pb (by unfold dig; omega))
          have hset := hr.set (k + j) (by rw [hM.len]; omega) c
          clear hM hr
          go_wp2
          go_roundw
          case rel => exact ⟨k + 1, _, by omega, by go_num, hst'.out, hset, hbw.setCell (p := ⟨w.heap.size, k + j, none⟩) (Nat.le_refl _) _⟩
          case measure => simp [intOf]; omega
    · obtain rfl : k = la := by omega
      have hv := hend.out qs hM
      have hq1 := hM.len
      have O : OI wr w.heap.size (some ⟨w.heap.size, 0, none⟩) (k + lb) qs := ⟨digs_fits hM.dg, by omega, by unfold maxLen; omega, .inr ⟨_, rfl, Nat.le_refl _, hr⟩⟩
      have T := hd (iTrimO _ _ _ _ _ O hM.dg)
      rw [hv, hq1] at T
      clear hM hr hmk O hr0 hb0 hv hA hB hend hq1
      go_wp2_with fail
      refine T.out.mono ?_
      rintro e w1 ⟨⟨av, cv, rfl, hO⟩, hb1⟩
      go_wp2
      go_ret
      exact ⟨⟨_, _, rfl, hO⟩, old_trans hbw hb1⟩
end Go.Proofs.YtgoffjpfddmhhaaGreatDoor

/- Products, by the specification. Conditions: digits. -/
namespace Go.Proofs.YtgoffjpfddmhhaaGreatDoor
open Go.RowKit
set_option linter.unusedVariables false
set_option maxRecDepth 100000

theorem below_dn {B : Nat} {a w : World} (h : Below B a w) (n : Nat) : Below B a (w.drewN n) := ⟨h.os, h.tape, h.output, h.size, h.block⟩
set_option maxHeartbeats 2000000 in
theorem sMul (a b : Option Addr) (la lb ca cb : Nat) (xs ys : List Int) (w : World) (hA : InI w a la ca xs) (hB : InI w b lb cb ys) (hx : digs xs) (hy : digs ys) (hla : la ≤ 524288) (hlb : lb ≤ 524288) :
    Calls Tryz.prog 54 #[.slice a la ca, .slice b lb cb] w fun e w' => (∃ av cv, e = .returned (.slice av (natL (val xs * val ys)).length cv) ∧ OI w' w.heap.size av cv (natL (val xs * val ys))) ∧ Below w.heap.size w w' := by
  have pa := hA.1
  have pb := hB.1
  have hmk := mkInts w (la + lb) (by omega)
  have hr0 := IRow.made w (la + lb) 3
  have hb0 : Below w.heap.size w (w.alloc (.cells (madeCells #[.int .i64 0] ((la + lb) * 1)) 3)) := (Below.refl _ w).alloc (Nat.le_refl _) _
  rw [Int.natCast_add] at hmk
  generalize w.alloc (.cells (madeCells #[.int .i64 0] ((la + lb) * 1)) 3) = w0 at *
  have hend := hd (fun qs h => MulI.all (la := la) (lb := lb) (xs := xs) (ys := ys) (qs := qs) h pa)
  generalize val xs * val ys = V at *
  go_enter Tryz.func54, Tryz.ntmps54
  go_wp2
  go_loopw [6] (fun i wr => ∃ (k : Nat) (qs : List Int), k ≤ la ∧ i = .int .i64 k ∧ MulI la lb k 0 xs ys qs 0 ∧ IRow wr w.heap.size qs ∧ Below w.heap.size w wr) (fun i _ => la - (intOf i).toNat)
  case atStart => exact ⟨0, _, by omega, rfl, MulI.start, hr0, hb0⟩
  case round =>
    obtain ⟨k, qs, hk, rfl, hM, hr, hbw⟩ := hrel
    by_cases hlt : k < la
    · obtain ⟨b1, o1, x, rfl, hb1, ex, -, c1⟩ := (hA.old hbw).at hlt
      have dx := digs_getD hx k
      go_wp2
      go_loopw [7, 8] (fun c i wr => ∃ (j : Nat) (qs : List Int) (cv : Int), j ≤ lb ∧ c = .int .i64 cv ∧ i = .int .i64 j ∧ MulI la lb k j xs ys qs cv ∧ (0 ≤ cv ∧ cv ≤ 65535) ∧ IRow wr w.heap.size qs ∧ Below w.heap.size w wr) (fun _ i _ => lb - (intOf i).toNat)
      case atStart => exact ⟨0, qs, 0, by omega, rfl, rfl, hM, by omega, hr, hbw⟩
      case round =>
        clear hM hr hbw c1 hb1 hmk hr0 hb0 hend
        obtain ⟨j, qs, c, hj, rfl, rfl, hM, hc, hr, hbw⟩ := hrel
        by_cases hjl : j < lb
        · obtain ⟨b2, o2, y, rfl, -, ey, -, c2⟩ := (hB.old hbw).at hjl
          obtain ⟨b1', o1', x', hea, -, ex', -, c1⟩ := (hA.old hbw).at hlt
          obtain ⟨rfl, rfl⟩ : b1 = b1' ∧ o1 = o1' := by injection hea with hea; injection hea with h1 h2; exact ⟨h1, h2⟩
          obtain rfl : x = x' := ex.symm.trans ex'
          clear hea ex'
          obtain ⟨z, ez, d0, d2⟩ := hr.at (k := k + j) (by rw [hM.len]; omega)
          have dy := digs_getD hy j
          have dz := digs_getD hM.dg (k + j)
          rw [ex] at dx
          rw [ey] at dy
          rw [ez] at dz
          have m1 := mul_bd (F := 65535) dx (f := y) (by unfold dig at dy; omega) (by unfold dig at dy; omega)
          unfold dig at dx dy dz
          have m0 : 0 ≤ x * y := Int.mul_nonneg dx.1 dy.1
          have hst := hM.step hx hy hlt hjl pb (z + x * y + c) ((z + x * y + c) % 65536) ((z + x * y + c) / 65536) (by rw [ez, ex, ey]; omega) (by unfold dig; omega) (by omega)
          have cb2 : 0 ≤ (z + x * y + c) / 65536 ∧ (z + x * y + c) / 65536 ≤ 65535 := by omega
          have hset := hr.set (k + j) (by rw [hM.len]; omega) ((z + x * y + c) % 65536)
          have hst' := hd hst
          clear hM hr hst
          have hcb' := hd cb2
          clear cb2
          go_wp2_with fail
          go_quiet (fail)
          go_wp2
          go_roundw
          case rel => exact ⟨j + 1, _, _, by omega, rfl, by go_num, hst'.out, hcb'.out, hset, (below_dn hbw nq).setCell (p := ⟨w.heap.size, k + j, none⟩) (Nat.le_refl _) _⟩
          case measure => simp [intOf]; omega
        · obtain rfl : j = lb := by omega
          obtain ⟨z, ez, d0, d2⟩ := hr.at (k := k + j) (by rw [hM.len]; omega)
          have hst' := hd (hM.next hx hlt pb (by unfold dig; omega))
          have hset := hr.set (k + j) (by rw [hM.len]; omega) c
          clear hM hr
          go_wp2
          go_roundw
          case rel => exact ⟨k + 1, _, by omega, by go_num, hst'.out, hset, hbw.setCell (p := ⟨w.heap.size, k + j, none⟩) (Nat.le_refl _) _⟩
          case measure => simp [intOf]; omega
    · obtain rfl : k = la := by omega
      have hv := hend.out qs hM
      have hq1 := hM.len
      have O : OI wr w.heap.size (some ⟨w.heap.size, 0, none⟩) (k + lb) qs := ⟨digs_fits hM.dg, by omega, by unfold maxLen; omega, .inr ⟨_, rfl, Nat.le_refl _, hr⟩⟩
      have T := hd (sTrim _ _ _ _ _ O.inI hM.dg (by omega))
      rw [hv, hq1] at T
      have hsz := hbw.size
      clear hM hr hmk O hr0 hb0 hv hA hB hend hq1
      go_wp2_with fail
      refine T.out.mono ?_
      rintro e w1 ⟨⟨av, cv, rfl, hO⟩, hb1⟩
      go_wp2
      go_ret
      exact ⟨⟨_, _, rfl, hO.mono hsz⟩, old_trans hbw hb1⟩
end Go.Proofs.YtgoffjpfddmhhaaGreatDoor

/- Products of numbers, where they have no more digits than may be. No condition. -/
namespace Go.Proofs.YtgoffjpfddmhhaaGreatDoor
open Go.RowKit
set_option linter.unusedVariables false
set_option maxRecDepth 100000

end Go.Proofs.YtgoffjpfddmhhaaGreatDoor
