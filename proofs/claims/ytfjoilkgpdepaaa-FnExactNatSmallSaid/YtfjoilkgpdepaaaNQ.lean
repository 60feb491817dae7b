/- A number below 2^64 as one word, by the program: its iterator from the top. No condition. -/
import Derived.Test.YtfjoilkgpdepaaaNP
namespace Go.Proofs.Ytfjoilkgpdepaaa
open Go.RowKit Go.Shelf
attribute [local go_sem] Oper.semAt_some
set_option linter.unusedVariables false

def accF (xs : List Int) {len : Nat} (pre : List (Fin len)) : Nat := pre.foldl (fun n y => n * 65536 + (xs.getD y.val 0).toNat) 0
theorem accF_snoc (xs : List Int) {len : Nat} (pre : List (Fin len)) (x : Fin len) : accF xs (pre ++ [x]) = accF xs pre * 65536 + (xs.getD x.val 0).toNat := by simp [accF]
theorem accF_lt {xs : List Int} (h : digs xs) {len : Nat} (n : Nat) : ∀ (pre : List (Fin len)), pre.length = n → accF xs pre < 65536 ^ n := by
  induction n with
  | zero =>
    intro pre hp
    have : pre = [] := List.length_eq_zero_iff.1 hp
    subst this; simp [accF]
  | succ n ih =>
    intro pre hp
    obtain ⟨q, x, rfl⟩ : ∃ q x, pre = q ++ [x] := ⟨pre.dropLast, pre.getLast (by intro e; subst e; simp at hp), (List.dropLast_concat_getLast _).symm⟩
    have := ih q (by simpa using hp)
    have d := digs_getD h x.val
    unfold dig at d
    rw [accF_snoc, Nat.pow_succ]
    omega
theorem accF_val {xs : List Int} {len : Nat} (hp : xs.length = len) (k : Nat) : ∀ (ys : List (Fin len)), k ≤ len → ys.map Fin.val = downR len k → accF xs ys = val (xs.drop (len - k)) := by
  induction k with
  | zero =>
    intro ys hk hy
    have : ys = [] := by simpa [downR] using hy
    subst this
    rw [Nat.sub_zero, List.drop_of_length_le (by omega)]; rfl
  | succ k ih =>
    intro ys hk hy
    have hl : ys.length = k + 1 := by have := congrArg List.length hy; simpa [downR] using this
    obtain ⟨q, x, rfl⟩ : ∃ q x, ys = q ++ [x] := ⟨ys.dropLast, ys.getLast (by intro e; subst e; simp at hl), (List.dropLast_concat_getLast _).symm⟩
    obtain ⟨j, hj, hq, hx⟩ := downR_last hy
    obtain rfl : k = j := by omega
    rw [accF_snoc, ih q (by omega) hq, hx]
    have e := val_drop (xs := xs) (j := len - (k + 1)) (by omega)
    rw [show len - (k + 1) + 1 = len - k by omega, show len - (k + 1) = len - 1 - k by omega] at e
    rw [show len - (k + 1) = len - 1 - k by omega, e]
    omega
theorem or_join {n : Nat} {d : Int} (h1 : n < 281474976710656) (h2 : dig d) : bits .or .u64 ((n : Int) * 65536) d = (n : Int) * 65536 + d := by
  unfold dig at h2
  rw [u64_or _ _ (by omega) (by omega) (by omega) (by omega)]
  have e := nat_join 16 ((n : Int) * 65536).toNat d.toNat (by omega) (by omega)
  rw [e]
  omega
set_option maxRecDepth 100000 in
set_option maxHeartbeats 4000000 in
theorem iNatSmall (a : Option Addr) (len cap : Nat) (xs : List Int) (w : World) (hR : InI w a len cap xs) :
    Calls Try.prog 14 #[.slice a len cap] w fun e w' => e = .returned (.tuple #[.int .u64 (smallV xs : Nat), .bool (smallB xs)]) ∧ Below w.heap.size w w' := by
  have hlen := hR.len
  have hp := hR.1
  have K1 := hd (iNatOk a len cap xs w hR)
  cases h1 : natOk xs
  · have e : smallB xs = false := by unfold smallB; rw [h1]; rfl
    have e2 : smallV xs = 0 := by unfold smallV; rw [e]; rfl
    rw [e, e2]
    rw [h1] at K1
    clear e e2 h1
    go_enter Try.func14, Try.ntmps14
    go_wp2_with fail
    refine K1.out.mono ?_
    rintro e w1 ⟨rfl, rfl⟩
    go_wp2
    go_ret2
    exact ⟨rfl, Below.refl _ _⟩
  rw [h1] at K1
  have q := (natOk_in h1).2.1
  have L1 := hd (iLength a len cap xs w hR q (by have := (natOk_in h1).1; omega))
  have hb64 := bitsN_64 h1
  by_cases h4 : len ≤ 4
  case neg =>
    have e : smallB xs = false := by unfold smallB; rw [h1, decide_eq_false (by omega)]; rfl
    have e2 : smallV xs = 0 := by unfold smallV; rw [e]; rfl
    rw [e, e2]
    have hbig : 64 < bitsN xs := by omega
    clear e e2 h1 hb64
    generalize bitsN xs = z at *
    go_enter Try.func14, Try.ntmps14
    go_wp2_with fail
    refine K1.out.mono ?_
    rintro e w1 ⟨rfl, rfl⟩
    go_wp2_with fail
    refine L1.out.mono ?_
    rintro e w1 ⟨rfl, rfl⟩
    go_wp2
    go_ret2
    exact ⟨rfl, Below.refl _ _⟩
  have e : smallB xs = true := by unfold smallB; rw [h1, decide_eq_true (by omega)]; rfl
  have e2 : smallV xs = val xs := by unfold smallV; rw [e]; rfl
  rw [e, e2]
  have hsm : ¬ (64 < bitsN xs) := by omega
  have hv0 := hd (show val xs = val (xs.drop 0) from rfl)
  generalize bitsN xs = z at *
  clear e e2 h1 hb64
  generalize val xs = V at *
  refine (callsIn_wide (n := 3)).1 ?_
  have hro : Fence.wide.round = none := rfl
  have h1 : 1 ≤ 3 := by omega
  refine callsIn_of_wp_marks Try.func14 rfl trivial ?_ hro
  simp only [Try.ntmps14, List.size_toArray, List.length_cons, List.length_nil, Nat.reduceAdd, Nat.reduceSub, Array.replicate_succ, Array.replicate_zero, List.push_toArray, List.append_toArray, List.nil_append, List.cons_append]
  gi_wp2_with (refine ⟨trivial, ?_⟩; first | (gi_at_call 15; refine (callsIn_wide.2 K1.out).mono ?_; rintro e w' ⟨rfl, hw'⟩; obtain rfl : w = w' := hw'.symm; clear hw') | (gi_at_call 36; refine (callsIn_wide.2 L1.out).mono ?_; rintro e w' ⟨rfl, hw'⟩; obtain rfl : w = w' := hw'.symm; clear hw') | (gi_at_call 37; refine (top_in Fence.wide (3 - 1) trivial hro _ _ _ _).mono ?_; rintro e w' ⟨rfl, rfl⟩))
  have b1 := (Boxed.new w 23 (.int .u64 0)).alloc (.cells #[.slice a len cap] 45)
  have b3 := Boxed.new (w.alloc (.cells #[.int .u64 0] 23)) 45 (.slice a len cap)
  simp only [World.size_alloc] at b1 b3
  have c1 := b1.cell
  have f1 := b1.frozen
  have c3 := b3.cell
  have hR0 := (hR.alloc (.cells #[.int .u64 0] 23)).alloc (.cells #[.slice a len cap] 45)
  have hB0 : Below w.heap.size w ((w.alloc (.cells #[.int .u64 0] 23)).alloc (.cells #[.slice a len cap] 45)) := ((Below.refl _ w).alloc (Nat.le_refl _) _).alloc (by simp) _
  have hsz : ((w.alloc (.cells #[.int .u64 0] 23)).alloc (.cells #[.slice a len cap] 45)).heap.size = w.heap.size + 2 := by simp
  clear b1 b3
  generalize ((w.alloc (.cells #[.int .u64 0] 23)).alloc (.cells #[.slice a len cap] 45)) = W0 at *
  have hfar := hR.far
  refine wpIn_rangeFunc_ownF hro h1 (gf := 52) (lb := #[.pointer (some ⟨w.heap.size + 1, 0, none⟩)]) rfl trivial (enters_of Try.func52 (by kernel_rfl) rfl)
    (top_stop Fence.wide (3 - 1) trivial hro (by omega) (w.heap.size + 1) len cap (KeepP (w.heap.size + 1) a len) a xs W0 (by omega) (.inl rfl) c3 hR0 keepP_at) (fun h k => Same.trans h k) (same_b (n := w.heap.size + 2) (keepP_lt (by omega) (fun h q e => by have := hfar h q e; omega)) (by omega)) (Below.refl _ _) (fun _ => rfl)
    (fun pre W => (W.cell? ⟨w.heap.size, 0, none⟩ = some (.int .u64 (accF xs pre : Nat)) ∧ W.frozen? ⟨w.heap.size, 0, none⟩ = false) ∧ w.heap.size + 2 ≤ W.heap.size ∧ Below w.heap.size w W)
    (fun c pre W => False)
    (OwnFrom.and (Own.from (fun s A B row hs hg hr => ⟨cell_kept hs.1 hg hr, (frozen_kept hs.1 hg hr).trans hs.2⟩) _) (OwnFrom.and (fun s A B row hs hg hr => Nat.le_trans hs hg.size) (ownFrom_below (Nat.le_refl _) (by omega))))
    (fun c s A B row hs hg hr => hs.elim)
    ⟨⟨c1, f1⟩, by omega, hB0⟩
    (fun x => { tmps := #[.slice a len cap, undef, .int .u64 0, .bool false, .pointer (some ⟨w.heap.size, 0, none⟩), undef, .int .i64 (xs.getD x.val 0), .slice a len cap, .bool true, .bool false, .bool false, .slice a len cap, .int .i64 z, .bool (decide (64 < z)), .bool (decide (64 < z)), .slice a len cap, .func (.func 52) #[] #[.pointer (some ⟨w.heap.size + 1, 0, none⟩)], .int .i64 (x.val : Int), .int .i64 (xs.getD x.val 0), undef, undef, undef, undef, undef, undef], defers := [] }) ?assign ?body ?done ?stop
  case assign =>
    intro l x W K hK
    generalize xs.getD x.val 0 = y at *
    gi_wp2
    exact hK
  case body =>
    rintro l pre x W ⟨⟨hcn, hfn⟩, hsW, hBw⟩ hpl
    have dx := digs_getD q x.val
    have hac := accF_lt q pre.length pre rfl
    have hpw : 65536 ^ pre.length ≤ 65536 ^ 3 := Nat.pow_le_pow_right (by omega) (by omega)
    have hlt : accF xs pre < 281474976710656 := by omega
    have hsn := hd (accF_snoc xs pre x)
    clear hac hpw
    generalize hy : xs.getD x.val 0 = y at *
    have hor := or_join hlt dx
    unfold dig at dx
    generalize accF xs pre = n at *
    have hne : ¬ KeepP (w.heap.size + 1) a len w.heap.size := by
      rintro (e | ⟨h, p, e, e2⟩)
      · omega
      · have := hfar h p e; omega
    have hsum : ((accF xs (pre ++ [x]) : Nat) : Int) = (n : Int) * 65536 + y := by rw [hsn.out]; omega
    have hsum' := hd hsum
    clear hsum hsn
    gi_wp2
    refine ⟨KeepsOthers.setCell _ _ _, (Same.refl _ _).setCell ⟨w.heap.size, 0, none⟩ _ hne, ⟨by rw [hsum'.out]; exact World.cell?_setCell_same' _ _ _ (by rw [hcn]; rfl), by simpa using hfn⟩, by simpa [World.setCell] using hsW, hBw.setCell (p := ⟨w.heap.size, 0, none⟩) (by simp) _⟩
  case done =>
    rintro D ys W hD hys ⟨⟨hcn, hfn⟩, hsW, hBw⟩ hK
    have hv := accF_val hp len ys (Nat.le_refl _) hys
    rw [Nat.sub_self, ← hv0.out] at hv
    rw [hv] at hcn
    gi_wp2
    refine ⟨by simp, .inl ⟨_, _, rfl, run_takeDeferred hK, ?_⟩⟩
    refine ⟨.tuple #[.int .u64 V, .bool true], ?_, rfl, hBw.trans (belowK_b (w := w) (Nat.le_refl _) _ D _ _ (by omega) hK rfl rfl)⟩
    simp [results, Try.f14, go_sem]
  case stop =>
    rintro D c pre W hD _ h hK
    exact h.elim
end Go.Proofs.Ytfjoilkgpdepaaa
