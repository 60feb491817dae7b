/- How many bits a number has, by the specification and by the program. No condition. -/
import Derived.Test.YtgoffjpfddmhhaaGreatDoorPK01
import Derived.Test.YtgoffjpfddmhhaaGreatDoorPK05
import Derived.Test.YtgoffjpfddmhhaaGreatDoorPK07
namespace Go.Proofs.YtgoffjpfddmhhaaGreatDoor
open Go.RowKit
set_option linter.unusedVariables false
set_option maxRecDepth 100000

theorem hlvI_zero : hlvI 0 = 0 := by decide
theorem hlvI_half {d : Int} (h : 0 < d) (h2 : d < 65536) : hlvI d = hlvI (d / 2) + 1 := by
  unfold hlvI
  have e := Lib.bitLen_half d.toNat (by omega) (by omega)
  have f : d.toNat / 2 = (d / 2).toNat := by omega
  rw [f] at e
  omega
def bitsN (xs : List Int) : Int := if xs.length = 0 then 0 else 16 * ((xs.length : Int) - 1) + hlvI (xs.getD (xs.length - 1) 0)
set_option maxHeartbeats 2000000 in
theorem sBits (a : Option Addr) (len cap : Nat) (xs : List Int) (w : World) (hR : InI w a len cap xs) (hdg : digs xs) (hl : len ≤ 1048576) :
    Calls Tryz.prog 83 #[.slice a len cap] w fun e w' => e = .returned (.int .i64 (bitsN xs)) ∧ w' = w := by
  have hp := hR.1
  by_cases h0 : len = 0
  · subst h0
    have e : bitsN xs = 0 := by unfold bitsN; rw [if_pos hp]
    rw [e]
    go_enter Tryz.func83, Tryz.ntmps83
    go_wp2
    go_ret
    exact ⟨rfl, rfl⟩
  obtain ⟨b, off, x, rfl, hbl, hx, -, c0⟩ := hR.at (k := len - 1) (by omega)
  have ek : ((len : Int) - 1) = ((len - 1 : Nat) : Int) := by omega
  have dx := hdg (len - 1) (by omega)
  rw [hx] at dx
  unfold dig at dx
  have e : bitsN xs = 16 * ((len : Int) - 1) + hlvI x := by unfold bitsN; rw [if_neg (by omega), hp, hx]
  have hbd := hlvI_bd (g := x) (by omega)
  generalize bitsN xs = r at *
  have h0' : ((len : Int) == 0) = false := by simp; omega
  go_enter Tryz.func83, Tryz.ntmps83
  have e' := hd e
  clear e hx hp
  go_wp2
  go_loopw [3, 4] (fun n d wr => ∃ (m y : Int), n = .int .i64 m ∧ d = .int .i64 y ∧ 0 ≤ y ∧ y < 65536 ∧ m + hlvI y = r ∧ (0 ≤ m ∧ m ≤ 33554432) ∧ wr = w) (fun _ d _ => (intOf d).toNat)
  case atStart =>
    refine ⟨_, x, rfl, rfl, by omega, by omega, by have := e'.out; omega, by omega, rfl⟩
  case round =>
    obtain ⟨m, y, rfl, rfl, hy0, hy1, hm, hm2, hw⟩ := hrel
    obtain rfl : w = wr := hw.symm
    clear hw
    by_cases hy : 0 < y
    · have hh := hlvI_half hy hy1
      have hb2 := hlvI_bd (g := y / 2) (by omega)
      have hr : r ≤ 33554432 := by have := e'.out; omega
      have hm' := hd hm
      have hh' := hd hh
      clear hm hh
      go_wp2
      go_roundw
      case rel => exact ⟨m + 1, y / 2, by go_num, by go_num, by omega, by omega, by have := hm'.out; have := hh'.out; omega, by have := hm'.out; have := hh'.out; omega, trivial⟩
      case measure => simp [intOf]; omega
    · obtain rfl : y = 0 := by omega
      rw [hlvI_zero] at hm
      have hm' := hd hm
      clear hm
      go_wp2
      go_ret
      exact ⟨retI (by have := hm'.out; omega), rfl⟩
set_option maxHeartbeats 1000000 in
theorem iLenU (x : Int) (h : 0 ≤ x ∧ x ≤ 18446744073709551615) (w : World) :
    Calls Tryz.prog 107 #[.int .u64 x] w fun e w' => e = .returned (.int .i64 (hlvI x)) ∧ w' = w := by
  have L := hd (iLen64 x h w)
  go_enter Tryz.func107, Tryz.ntmps107
  go_wp2_with fail
  refine L.out.mono ?_
  rintro e w1 ⟨rfl, rfl⟩
  go_wp2
  go_ret
  exact ⟨rfl, rfl⟩
set_option maxHeartbeats 2000000 in
theorem iLength (a : Option Addr) (len cap : Nat) (xs : List Int) (w : World) (hR : InI w a len cap xs) (hdg : digs xs) (hl : len ≤ 1048576) :
    Calls Tryz.prog 89 #[.slice a len cap] w fun e w' => e = .returned (.int .i64 (bitsN xs)) ∧ w' = w := by
  have hp := hR.1
  by_cases h0 : len = 0
  · subst h0
    have e : bitsN xs = 0 := by unfold bitsN; rw [if_pos hp]
    rw [e]
    go_enter Tryz.func89, Tryz.ntmps89
    go_wp2
    go_ret
    exact ⟨rfl, rfl⟩
  obtain ⟨b, off, x, rfl, hbl, hx, -, c0⟩ := hR.at (k := len - 1) (by omega)
  have ek : ((len : Int) - 1) = ((len - 1 : Nat) : Int) := by omega
  have dx := hdg (len - 1) (by omega)
  rw [hx] at dx
  unfold dig at dx
  have e : bitsN xs = 16 * ((len - 1 : Nat) : Int) + hlvI x := by unfold bitsN; rw [if_neg (by omega), hp, hx, ek]
  have hbd := hlvI_bd (g := x) (by omega)
  rw [e]
  have L := hd (iLenU x (by omega) w)
  clear e hx hp
  have h0' : ((len : Int) == 0) = false := by simp; omega
  generalize hlvI x = z at *
  go_enter Tryz.func89, Tryz.ntmps89
  go_wp2_with fail
  refine L.out.mono ?_
  rintro e w1 ⟨rfl, rfl⟩
  go_wp2
  go_ret
  exact ⟨rfl, rfl⟩
end Go.Proofs.YtgoffjpfddmhhaaGreatDoor

/- A number below 2^64 as one word: the specification; mathematics for the program. Conditions: numbers. -/
namespace Go.Proofs.YtgoffjpfddmhhaaGreatDoor
open Go.RowKit
set_option linter.unusedVariables false
set_option maxRecDepth 100000

def smallB (xs : List Int) : Bool := natOk xs && decide (xs.length ≤ 4)
def smallV (xs : List Int) : Nat := if smallB xs then val xs else 0
theorem val_drop {xs : List Int} {j : Nat} (h : j < xs.length) : val (xs.drop j) = (xs.getD j 0).toNat + 65536 * val (xs.drop (j + 1)) := by
  rw [List.drop_eq_getElem_cons h, val_cons, List.getD_eq_getElem?_getD, List.getElem?_eq_getElem h]; rfl
theorem digs_drop {xs : List Int} (h : digs xs) (j : Nat) : digs (xs.drop j) := (digs_append.1 (by rw [List.take_append_drop]; exact h)).2
theorem val_drop_lt {xs : List Int} (h : digs xs) (hl : xs.length ≤ 4) (j : Nat) (hj : 0 < j) : val (xs.drop j) < 281474976710656 := by
  have := val_lt (digs_drop h j)
  rw [List.length_drop] at this
  have h2 : 65536 ^ (xs.length - j) ≤ 65536 ^ 3 := Nat.pow_le_pow_right (by omega) (by omega)
  omega
theorem hlvI_16 {x : Int} (h : dig x) : 0 ≤ hlvI x ∧ hlvI x ≤ 16 := by
  unfold dig at h
  have := Lib.bitLen_le x.toNat 16 (by omega) (by omega)
  unfold hlvI
  omega
theorem hlvI_pos {x : Int} (h : dig x) (h0 : x ≠ 0) : 1 ≤ hlvI x := by
  unfold dig at h
  have := hlvI_half (d := x) (by omega) h.2
  have := hlvI_16 (x := x / 2) (by unfold dig; omega)
  omega
theorem bitsN_64 {xs : List Int} (h : natOk xs = true) : bitsN xs ≤ 64 ↔ xs.length ≤ 4 := by
  obtain ⟨h1, h2, h3⟩ := natOk_in h
  unfold bitsN
  split
  · omega
  · have d := h2 (xs.length - 1) (by omega)
    have a := hlvI_16 d
    have b := hlvI_pos d (h3.resolve_left (by omega))
    omega
set_option maxHeartbeats 2000000 in
theorem sNatSmall (a : Option Addr) (len cap : Nat) (xs : List Int) (w : World) (hR : InI w a len cap xs) :
    Calls Tryz.prog 85 #[.slice a len cap] w fun e w' => e = .returned (.tuple #[.int .u64 (smallV xs : Nat), .bool (smallB xs)]) ∧ w' = w := by
  have hlen := hR.len
  have hp := hR.1
  have K1 := hd (sNatOk a len cap xs w hR)
  cases h1 : natOk xs
  · have e : smallB xs = false := by unfold smallB; rw [h1]; rfl
    have e2 : smallV xs = 0 := by unfold smallV; rw [e]; rfl
    rw [e, e2]
    rw [h1] at K1
    clear e e2 h1
    go_enter Tryz.func85, Tryz.ntmps85
    go_wp2_with fail
    refine K1.out.mono ?_
    rintro e w1 ⟨rfl, rfl⟩
    go_wp2
    go_ret2
    exact ⟨rfl, rfl⟩
  rw [h1] at K1
  by_cases h4 : len ≤ 4
  case neg =>
    have e : smallB xs = false := by unfold smallB; rw [h1, decide_eq_false (by omega)]; rfl
    have e2 : smallV xs = 0 := by unfold smallV; rw [e]; rfl
    rw [e, e2]
    clear e e2 h1
    go_enter Tryz.func85, Tryz.ntmps85
    go_wp2_with fail
    refine K1.out.mono ?_
    rintro e w1 ⟨rfl, rfl⟩
    go_wp2
    go_ret2
    exact ⟨rfl, rfl⟩
  have e : smallB xs = true := by unfold smallB; rw [h1, decide_eq_true (by omega)]; rfl
  have e2 : smallV xs = val xs := by unfold smallV; rw [e]; rfl
  rw [e, e2]
  have q := (natOk_in h1).2.1
  have hv0 := hd (show val xs = val (xs.drop 0) from rfl)
  generalize val xs = V at *
  clear e e2 h1
  go_enter Tryz.func85, Tryz.ntmps85
  go_wp2_with fail
  refine K1.out.mono ?_
  rintro e w1 ⟨rfl, hw⟩
  obtain rfl : w = w1 := hw.symm
  clear hw
  go_wp2
  go_loopw [4, 5] (fun n i wr => ∃ (k : Nat) (j : Int) (m : Nat), j + 1 + k = len ∧ -1 ≤ j ∧ n = .int .u64 m ∧ i = .int .i64 j ∧ m = val (xs.drop (len - k)) ∧ wr = w) (fun _ i _ => (intOf i + 1).toNat)
  case atStart => exact ⟨0, (len : Int) - 1, 0, by omega, by omega, rfl, rfl, by rw [Nat.sub_zero, List.drop_of_length_le (by omega)]; rfl, rfl⟩
  case round =>
    obtain ⟨k, j, m, hk, hj, rfl, rfl, hm, hw⟩ := hrel
    obtain rfl : w = wr := hw.symm
    clear hw
    by_cases h0 : 0 ≤ j
    · obtain ⟨i, rfl⟩ := Int.eq_ofNat_of_zero_le h0
      obtain ⟨b, off, x, rfl, hbl, hx, -, c0⟩ := hR.at (k := i) (by omega)
      have dx := digs_getD q i
      rw [hx] at dx
      unfold dig at dx
      have hlt : m < 281474976710656 := by rw [hm]; exact val_drop_lt q (by omega) _ (by omega)
      have hs : val (xs.drop i) = x.toNat + 65536 * val (xs.drop (i + 1)) := by rw [val_drop (by omega), hx]
      have hm2 : val (xs.drop i) = x.toNat + 65536 * m := by rw [hs, hm, show len - k = i + 1 by omega]
      have hm2' := hd hm2
      clear hs hm hm2 hx
      go_wp2
      go_roundw
      case rel => exact ⟨k + 1, (i : Int) - 1, m * 65536 + x.toNat, by omega, by omega, by congr 1; omega, by go_num, by rw [show len - (k + 1) = i by omega, hm2'.out]; omega, trivial⟩
      case measure => simp [intOf] <;> omega
    · obtain rfl : j = -1 := by omega
      obtain rfl : k = len := by omega
      rw [Nat.sub_self] at hm
      obtain rfl : m = V := hm.trans hv0.out.symm
      clear hm
      go_wp2
      go_ret2
      exact ⟨rfl, rfl⟩
end Go.Proofs.YtgoffjpfddmhhaaGreatDoor

/- A number below 2^64 as one word, by the program: its iterator from the top. No condition. -/
namespace Go.Proofs.YtgoffjpfddmhhaaGreatDoor
open Go.RowKit Go.Shelf
attribute [local go_sem] Oper.semAt_some
set_option linter.unusedVariables false
set_option maxRecDepth 100000

def accF (xs : List Int) {len : Nat} (pre : List (Fin len)) : Nat := pre.foldl (fun n y => n * 65536 + (xs.getD y.val 0).toNat) 0
theorem accF_snoc (xs : List Int) {len : Nat} (pre : List (Fin len)) (x : Fin len) : accF xs (pre ++ [x]) = accF xs pre * 65536 + (xs.getD x.val 0).toNat := by simp [accF]
theorem accF_lt {xs : List Int} (h : digs xs) {len : Nat} (n : Nat) : ∀ (pre : List (Fin len)), pre.length = n → accF xs pre < 65536 ^ n := by
  induction n with
  | zero =>
    intro pre hp
    have : pre = [] := List.length_eq_zero_iff.1 hp
    subst this; simp [accF]
  | succ n ih =>
    intro pre hp
    obtain ⟨q, x, rfl⟩ : ∃ q x, pre = q ++ [x] := ⟨pre.dropLast, pre.getLast (by intro e; subst e; simp at hp), (List.dropLast_concat_getLast _).symm⟩
    have := ih q (by simpa using hp)
    have d := digs_getD h x.val
    unfold dig at d
    rw [accF_snoc, Nat.pow_succ]
    omega
theorem accF_val {xs : List Int} {len : Nat} (hp : xs.length = len) (k : Nat) : ∀ (ys : List (Fin len)), k ≤ len → ys.map Fin.val = downR len k → accF xs ys = val (xs.drop (len - k)) := by
  induction k with
  | zero =>
    intro ys hk hy
    have : ys = [] := by simpa [downR] using hy
    subst this
    rw [Nat.sub_zero, List.drop_of_length_le (by omega)]; rfl
  | succ k ih =>
    intro ys hk hy
    have hl : ys.length = k + 1 := by have := congrArg List.length hy; simpa [downR] using this
    obtain ⟨q, x, rfl⟩ : ∃ q x, ys = q ++ [x] := ⟨ys.dropLast, ys.getLast (by intro e; subst e; simp at hl), (List.dropLast_concat_getLast _).symm⟩
    obtain ⟨j, hj, hq, hx⟩ := downR_last hy
    obtain rfl : k = j := by omega
    rw [accF_snoc, ih q (by omega) hq, hx]
    have e := val_drop (xs := xs) (j := len - (k + 1)) (by omega)
    rw [show len - (k + 1) + 1 = len - k by omega, show len - (k + 1) = len - 1 - k by omega] at e
    rw [show len - (k + 1) = len - 1 - k by omega, e]
    omega
theorem or_join {n : Nat} {d : Int} (h1 : n < 281474976710656) (h2 : dig d) : bits .or .u64 ((n : Int) * 65536) d = (n : Int) * 65536 + d := by
  unfold dig at h2
  rw [u64_or _ _ (by omega) (by omega) (by omega) (by omega)]
  have e := nat_join 16 ((n : Int) * 65536).toNat d.toNat (by omega) (by omega)
  rw [e]
  omega
set_option maxRecDepth 100000 in
set_option maxHeartbeats 4000000 in
theorem iNatSmall (a : Option Addr) (len cap : Nat) (xs : List Int) (w : World) (hR : InI w a len cap xs) :
    Calls Tryz.prog 172 #[.slice a len cap] w fun e w' => e = .returned (.tuple #[.int .u64 (smallV xs : Nat), .bool (smallB xs)]) ∧ Below w.heap.size w w' := by
  have hlen := hR.len
  have hp := hR.1
  have K1 := hd (iNatOk a len cap xs w hR)
  cases h1 : natOk xs
  · have e : smallB xs = false := by unfold smallB; rw [h1]; rfl
    have e2 : smallV xs = 0 := by unfold smallV; rw [e]; rfl
    rw [e, e2]
    rw [h1] at K1
    clear e e2 h1
    go_enter Tryz.func172, Tryz.ntmps172
    go_wp2_with fail
    refine K1.out.mono ?_
    rintro e w1 ⟨rfl, rfl⟩
    go_wp2
    go_ret2
    exact ⟨rfl, Below.refl _ _⟩
  rw [h1] at K1
  have q := (natOk_in h1).2.1
  have L1 := hd (iLength a len cap xs w hR q (by have := (natOk_in h1).1; omega))
  have hb64 := bitsN_64 h1
  by_cases h4 : len ≤ 4
  case neg =>
    have e : smallB xs = false := by unfold smallB; rw [h1, decide_eq_false (by omega)]; rfl
    have e2 : smallV xs = 0 := by unfold smallV; rw [e]; rfl
    rw [e, e2]
    have hbig : 64 < bitsN xs := by omega
    clear e e2 h1 hb64
    generalize bitsN xs = z at *
    go_enter Tryz.func172, Tryz.ntmps172
    go_wp2_with fail
    refine K1.out.mono ?_
    rintro e w1 ⟨rfl, rfl⟩
    go_wp2_with fail
    refine L1.out.mono ?_
    rintro e w1 ⟨rfl, rfl⟩
    go_wp2
    go_ret2
    exact ⟨rfl, Below.refl _ _⟩
  have e : smallB xs = true := by unfold smallB; rw [h1, decide_eq_true (by omega)]; rfl
  have e2 : smallV xs = val xs := by unfold smallV; rw [e]; rfl
  rw [e, e2]
  have hsm : ¬ (64 < bitsN xs) := by omega
  have hv0 := hd (show val xs = val (xs.drop 0) from rfl)
  generalize bitsN xs = z at *
  clear e e2 h1 hb64
  generalize val xs = V at *
  refine (callsIn_wide (n := 3)).1 ?_
  have hro : Fence.wide.round = none := rfl
  have h1 : 1 ≤ 3 := by omega
  refine callsIn_of_wp_marks Tryz.func172 rfl trivial ?_ hro
  simp only [Tryz.ntmps172, List.size_toArray, List.length_cons, List.length_nil, Nat.reduceAdd, Nat.reduceSub, Array.replicate_succ, Array.replicate_zero, List.push_toArray, List.append_toArray, List.nil_append, List.cons_append]
  gi_wp2_with (refine ⟨trivial, ?_⟩; first | (gi_at_call 96; refine (callsIn_wide.2 K1.out).mono ?_; rintro e w' ⟨rfl, hw'⟩; obtain rfl : w = w' := hw'.symm; clear hw') | (gi_at_call 89; refine (callsIn_wide.2 L1.out).mono ?_; rintro e w' ⟨rfl, hw'⟩; obtain rfl : w = w' := hw'.symm; clear hw') | (gi_at_call 90; refine (top_in Fence.wide (3 - 1) trivial hro _ _ _ _).mono ?_; rintro e w' ⟨rfl, rfl⟩))
  have b1 := (Boxed.new w 71 (.int .u64 0)).alloc (.cells #[.slice a len cap] 80)
  have b3 := Boxed.new (w.alloc (.cells #[.int .u64 0] 71)) 80 (.slice a len cap)
  simp only [World.size_alloc] at b1 b3
  have c1 := b1.cell
  have f1 := b1.frozen
  have c3 := b3.cell
  have hR0 := (hR.alloc (.cells #[.int .u64 0] 71)).alloc (.cells #[.slice a len cap] 80)
  have hB0 : Below w.heap.size w ((w.alloc (.cells #[.int .u64 0] 71)).alloc (.cells #[.slice a len cap] 80)) := ((Below.refl _ w).alloc (Nat.le_refl _) _).alloc (by simp) _
  have hsz : ((w.alloc (.cells #[.int .u64 0] 71)).alloc (.cells #[.slice a len cap] 80)).heap.size = w.heap.size + 2 := by simp
  clear b1 b3
  generalize ((w.alloc (.cells #[.int .u64 0] 71)).alloc (.cells #[.slice a len cap] 80)) = W0 at *
  have hfar := hR.far
  refine wpIn_rangeFunc_ownF hro h1 (gf := 108) (lb := #[.pointer (some ⟨w.heap.size + 1, 0, none⟩)]) rfl trivial (enters_of Tryz.func108 (by kernel_rfl) rfl)
    (top_stop Fence.wide (3 - 1) trivial hro (by omega) (w.heap.size + 1) len cap (KeepP (w.heap.size + 1) a len) a xs W0 (by omega) (.inl rfl) c3 hR0 keepP_at) (fun h k => Same.trans h k) (same_b (n := w.heap.size + 2) (keepP_lt (by omega) (fun h q e => by have := hfar h q e; omega)) (by omega)) (Below.refl _ _) (fun _ => rfl)
    (fun pre W => (W.cell? ⟨w.heap.size, 0, none⟩ = some (.int .u64 (accF xs pre : Nat)) ∧ W.frozen? ⟨w.heap.size, 0, none⟩ = false) ∧ w.heap.size + 2 ≤ W.heap.size ∧ Below w.heap.size w W)
    (fun c pre W => False)
    (OwnFrom.and (Own.from (fun s A B row hs hg hr => ⟨cell_kept hs.1 hg hr, (frozen_kept hs.1 hg hr).trans hs.2⟩) _) (OwnFrom.and (fun s A B row hs hg hr => Nat.le_trans hs hg.size) (ownFrom_below (Nat.le_refl _) (by omega))))
    (fun c s A B row hs hg hr => hs.elim)
    ⟨⟨c1, f1⟩, by omega, hB0⟩
    (fun x => { tmps := #[.slice a len cap, undef, .int .u64 0, .bool false, .pointer (some ⟨w.heap.size, 0, none⟩), undef, .int .i64 (xs.getD x.val 0), .slice a len cap, .bool true, .bool false, .bool false, .slice a len cap, .int .i64 z, .bool (decide (64 < z)), .bool (decide (64 < z)), .slice a len cap, .func (.func 108) #[] #[.pointer (some ⟨w.heap.size + 1, 0, none⟩)], .int .i64 (x.val : Int), .int .i64 (xs.getD x.val 0), undef, undef, undef, undef, undef, undef], defers := [] }) ?assign ?body ?done ?stop
  case assign =>
    intro l x W K hK
    generalize xs.getD x.val 0 = y at *
    gi_wp2
    exact hK
  case body =>
    rintro l pre x W ⟨⟨hcn, hfn⟩, hsW, hBw⟩ hpl
    have dx := digs_getD q x.val
    have hac := accF_lt q pre.length pre rfl
    have hpw : 65536 ^ pre.length ≤ 65536 ^ 3 := Nat.pow_le_pow_right (by omega) (by omega)
    have hlt : accF xs pre < 281474976710656 := by omega
    have hsn := hd (accF_snoc xs pre x)
    clear hac hpw
    generalize hy : xs.getD x.val 0 = y at *
    have hor := or_join hlt dx
    unfold dig at dx
    generalize accF xs pre = n at *
    have hne : ¬ KeepP (w.heap.size + 1) a len w.heap.size := by
      rintro (e | ⟨h, p, e, e2⟩)
      · omega
      · have := hfar h p e; omega
    have hsum : ((accF xs (pre ++ [x]) : Nat) : Int) = (n : Int) * 65536 + y := by rw [hsn.out]; omega
    have hsum' := hd hsum
    clear hsum hsn
    gi_wp2
    refine ⟨KeepsOthers.setCell _ _ _, (Same.refl _ _).setCell ⟨w.heap.size, 0, none⟩ _ hne, ⟨by rw [hsum'.out]; exact World.cell?_setCell_same' _ _ _ (by rw [hcn]; rfl), by simpa using hfn⟩, by simpa [World.setCell] using hsW, hBw.setCell (p := ⟨w.heap.size, 0, none⟩) (by simp) _⟩
  case done =>
    rintro D ys W hD hys ⟨⟨hcn, hfn⟩, hsW, hBw⟩ hK
    have hv := accF_val hp len ys (Nat.le_refl _) hys
    rw [Nat.sub_self, ← hv0.out] at hv
    rw [hv] at hcn
    gi_wp2
    refine ⟨by simp, .inl ⟨_, _, rfl, run_takeDeferred hK, ?_⟩⟩
    refine ⟨.tuple #[.int .u64 V, .bool true], ?_, rfl, hBw.trans (belowK_b (w := w) (Nat.le_refl _) _ D _ _ (by omega) hK rfl rfl)⟩
    simp [results, Tryz.f172, go_sem]
  case stop =>
    rintro D c pre W hD _ h hK
    exact h.elim
end Go.Proofs.YtgoffjpfddmhhaaGreatDoor

/- The specification's products with a digit, its quotient and rest by a digit, what is left from a place on. Conditions: digits. -/
namespace Go.Proofs.YtgoffjpfddmhhaaGreatDoor
open Go.RowKit
set_option linter.unusedVariables false
set_option maxRecDepth 100000

theorem dig_row (w : World) (d : Int) (t : TypeId) : InI (w.alloc (.cells #[.int .i64 d] t)) (some ⟨w.heap.size, 0, none⟩) 1 1 [d] ∨ ¬ dig d := by
  by_cases h : dig d
  · left
    unfold dig at h
    refine ⟨rfl, Nat.le_refl _, by decide, fun x hx => ?_, .inr ⟨w.heap.size, 0, rfl, by simp, fun i hi => ?_⟩⟩
    · have : x = d := by simpa using hx
      subst this; omega
    · have : i = 0 := by omega
      subst this
      simp
  · exact .inr h
set_option maxHeartbeats 1000000 in
theorem sTimes (a : Option Addr) (len cap : Nat) (xs : List Int) (d : Int) (w : World) (hR : InI w a len cap xs) (hx : digs xs) (hdd : dig d) (hl : len ≤ 524288) :
    Calls Tryz.prog 50 #[.slice a len cap, .int .i64 d] w fun e w' => (∃ av cv, e = .returned (.slice av (natL (val xs * d.toNat)).length cv) ∧ OI w' w.heap.size av cv (natL (val xs * d.toNat))) ∧ Below w.heap.size w w' := by
  by_cases h0 : d = 0
  · subst h0
    have e : natL (val xs * (0 : Int).toNat) = [] := by rw [show (0 : Int).toNat = 0 from rfl, Nat.mul_zero, natL_zero]
    rw [e]
    go_enter Tryz.func50, Tryz.ntmps50
    go_wp2
    go_ret
    exact ⟨⟨_, _, rfl, OI.none _ _⟩, Below.refl _ _⟩
  · have hrow := (dig_row w d 3).resolve_right (fun h => h hdd)
    have hB1 : Below w.heap.size w (w.alloc (.cells #[.int .i64 d] 3)) := (Below.refl _ w).alloc (Nat.le_refl _) _
    have M := hd (sMul a (some ⟨w.heap.size, 0, none⟩) len 1 cap 1 xs [d] _ (hR.old hB1) hrow hx (digs_cons.2 ⟨hdd, digs_nil⟩) hl (by omega))
    have ev : val [d] = d.toNat := by rw [val_cons, val_nil]; omega
    rw [ev] at M
    have hdb : (d == 0) = false := by simpa using h0
    clear hrow ev
    generalize natL (val xs * d.toNat) = ql at *
    go_enter Tryz.func50, Tryz.ntmps50
    go_wp2_with fail
    refine M.out.mono ?_
    rintro e w1 ⟨⟨av, cv, rfl, hO⟩, hb1⟩
    go_wp2
    go_ret
    exact ⟨⟨_, _, rfl, hO.mono hB1.size⟩, old_trans hB1 hb1⟩
structure DivI (len : Nat) (xs qs : List Int) (d : Nat) (k : Nat) (r : Int) : Prop where
  sz : qs.length = len
  dg : digs qs
  lo : 0 ≤ r
  hi : r < d
  eq : val (xs.drop (len - k)) = d * val (qs.drop (len - k)) + r.toNat
theorem val_drop_set {qs : List Int} {i : Nat} {v : Int} (h : i < qs.length) : val ((qs.set i v).drop i) = v.toNat + 65536 * val (qs.drop (i + 1)) := by
  rw [val_drop (by simpa using h), getD_set _ _ _ h, List.drop_set_of_lt (by omega)]
theorem DivI.step {len : Nat} {xs qs : List Int} {d k i : Nat} {r : Int} (h : DivI len xs qs d k r) (hp : xs.length = len) (hi : i + 1 + k = len) (hx : digs xs) (s : Int) (hs : s = r * 65536 + xs.getD i 0) :
    DivI len xs (qs.set i (s / d)) d (k + 1) (s % d) ∧ 0 ≤ s / d ∧ s / d < 65536 ∧ 0 ≤ s % d ∧ s % d < d := by
  have h0 : (0 : Int) < d := Int.lt_of_le_of_lt h.lo h.hi
  have dx := digs_getD hx i
  unfold dig at dx
  have lo := h.lo
  have hi2 := h.hi
  have hs0 : 0 ≤ s := by omega
  have hs1 : s < d * 65536 := by omega
  have q0 : 0 ≤ s / d := Int.ediv_nonneg hs0 (by omega)
  have q1 : s / d < 65536 := Int.ediv_lt_of_lt_mul h0 (by omega)
  have r0 := Int.emod_nonneg s (show (d : Int) ≠ 0 by omega)
  have r1 := Int.emod_lt_of_pos s h0
  refine ⟨⟨by simpa using h.sz, digs_set h.dg _ ⟨q0, q1⟩, r0, r1, ?_⟩, q0, q1, r0, r1⟩
  have e := h.eq
  rw [show len - k = i + 1 by omega] at e
  rw [show len - (k + 1) = i by omega, val_drop (by omega), val_drop_set (by rw [h.sz]; omega), e]
  have hsd := Int.mul_ediv_add_emod s d
  generalize xs.getD i 0 = x at *
  generalize val (qs.drop (i + 1)) = B at *
  obtain ⟨q, hq⟩ := Int.eq_ofNat_of_zero_le q0
  obtain ⟨rr, hr⟩ := Int.eq_ofNat_of_zero_le r0
  obtain ⟨r', rfl⟩ := Int.eq_ofNat_of_zero_le lo
  obtain ⟨x', rfl⟩ := Int.eq_ofNat_of_zero_le dx.1
  rw [hq, hr]
  rw [hq, hr] at hsd
  simp only [Int.toNat_natCast]
  have hn : d * q + rr = r' * 65536 + x' := by
    have : ((d * q + rr : Nat) : Int) = ((r' * 65536 + x' : Nat) : Int) := by
      rw [Int.natCast_add, Int.natCast_mul, hsd, hs]; omega
    exact_mod_cast this
  grind
theorem DivI.all {len : Nat} {xs qs : List Int} {d : Nat} {r : Int} (h : DivI len xs qs d len r) : val qs = val xs / d ∧ r = ((val xs % d : Nat) : Int) := by
  have e := h.eq
  rw [Nat.sub_self, List.drop_zero, List.drop_zero] at e
  obtain ⟨r', rfl⟩ := Int.eq_ofNat_of_zero_le h.lo
  have hi := h.hi
  simp only [Int.toNat_natCast] at e
  have hd0 : 0 < d := by omega
  constructor
  · rw [e, Nat.mul_add_div hd0, Nat.div_eq_of_lt (by omega)]; omega
  · rw [e, Nat.mul_add_mod, Nat.mod_eq_of_lt (by omega)]
set_option maxHeartbeats 2000000 in
theorem sDivSmall (a : Option Addr) (len cap : Nat) (xs : List Int) (d : Nat) (w : World) (hR : InI w a len cap xs) (hx : digs xs) (hd0 : 0 < d) (hd1 : d ≤ 65536) (hl : len ≤ 1048576) :
    Calls Tryz.prog 94 #[.slice a len cap, .int .i64 (d : Int)] w fun e w' => (∃ av cv, e = .returned (.tuple #[.slice av (natL (val xs / d)).length cv, .int .i64 ((val xs % d : Nat) : Int)]) ∧ OI w' w.heap.size av cv (natL (val xs / d))) ∧ Below w.heap.size w w' := by
  have hmk := mkInts w len (by omega)
  have hr0 := IRow.made w len 3
  have hb0 : Below w.heap.size w (w.alloc (.cells (madeCells #[.int .i64 0] (len * 1)) 3)) := (Below.refl _ w).alloc (Nat.le_refl _) _
  generalize w.alloc (.cells (madeCells #[.int .i64 0] (len * 1)) 3) = w0 at *
  have hp := hR.1
  have hend := hd (fun qs r h => DivI.all (len := len) (xs := xs) (qs := qs) (d := d) (r := r) h)
  have hd0' : (0 : Int) < (d : Int) := by omega
  have hst0 : DivI len xs (List.replicate len 0) d 0 0 := ⟨by simp, digs_zeros _, by omega, hd0', by rw [Nat.sub_zero, List.drop_of_length_le (by omega), List.drop_of_length_le (by simp)]; simp [val]⟩
  have hst0' := hd hst0
  clear hst0
  generalize val xs / d = Q at *
  generalize val xs % d = Rr at *
  go_enter Tryz.func94, Tryz.ntmps94
  go_wp2
  go_loopw [7, 8] (fun r i wr => ∃ (k : Nat) (j rv : Int) (qs : List Int), j + 1 + k = len ∧ -1 ≤ j ∧ r = .int .i64 rv ∧ i = .int .i64 j ∧ DivI len xs qs d k rv ∧ IRow wr w.heap.size qs ∧ Below w.heap.size w wr) (fun _ i _ => (intOf i + 1).toNat)
  case atStart => exact ⟨0, (len : Int) - 1, 0, _, by omega, by omega, rfl, rfl, hst0'.out, hr0, hb0⟩
  case round =>
    obtain ⟨k, j, r, qs, hk, hj, rfl, rfl, hD, hr, hbw⟩ := hrel
    by_cases h0 : 0 ≤ j
    · obtain ⟨i, rfl⟩ := Int.eq_ofNat_of_zero_le h0
      obtain ⟨b1, o1, x, rfl, hb1, ex, -, c1⟩ := (hR.old hbw).at (k := i) (by omega)
      obtain ⟨z, -, d0, d2⟩ := hr.at (k := i) (by rw [hD.sz]; omega)
      have hst := hD.step (i := i) hp (by omega) hx (r * 65536 + x) (by rw [ex])
      have dx := digs_getD hx i
      rw [ex] at dx
      unfold dig at dx
      have lo := hD.lo
      have hi := hD.hi
      have hset := hr.set i (by rw [hD.sz]; omega) ((r * 65536 + x) / (d : Int))
      obtain ⟨hst1, q0, q1, r0, r1⟩ := hst
      have hst' := hd hst1
      have htd : (r * 65536 + x).tdiv (d : Int) = (r * 65536 + x) / (d : Int) := Int.tdiv_eq_ediv_of_nonneg (by omega)
      have htm : (r * 65536 + x).tmod (d : Int) = (r * 65536 + x) % (d : Int) := Int.tmod_eq_emod_of_nonneg (by omega)
      have hdz : ((d : Int) == 0) = false := by simp; omega
      clear hD hr hst1 hend hst0' hr0 hb0 hmk
      go_wp2
      go_roundw
      case rel => exact ⟨k + 1, (i : Int) - 1, _, _, by omega, by omega, rfl, by go_num, hst'.out, hset, hbw.setCell (p := ⟨w.heap.size, i, none⟩) (Nat.le_refl _) _⟩
      case measure => simp [intOf] <;> omega
    · obtain rfl : j = -1 := by omega
      obtain rfl : k = len := by omega
      obtain ⟨hv, hrr⟩ := hend.out qs r hD
      subst hrr
      have hq1 := hD.sz
      have O : OI wr w.heap.size (some ⟨w.heap.size, 0, none⟩) k qs := ⟨digs_fits hD.dg, by omega, by unfold maxLen; omega, .inr ⟨_, rfl, Nat.le_refl _, hr⟩⟩
      have T := hd (sTrim _ _ _ _ _ O.inI hD.dg (by omega))
      rw [hv, hq1] at T
      have hsz := hbw.size
      clear hD hr hmk O hr0 hb0 hv hR hend hq1 hst0'
      go_wp2_with fail
      refine T.out.mono ?_
      rintro e w1 ⟨⟨av, cv, rfl, hO⟩, hb1⟩
      go_wp2
      go_ret2
      exact ⟨⟨_, _, rfl, hO.mono hsz⟩, old_trans hbw hb1⟩
end Go.Proofs.YtgoffjpfddmhhaaGreatDoor

/- The specification's digits from a place on, digits of nought below a number, powers of two. Conditions: digits. -/
namespace Go.Proofs.YtgoffjpfddmhhaaGreatDoor
open Go.RowKit
set_option linter.unusedVariables false
set_option maxRecDepth 100000

theorem igrows_made (w : World) (n : Nat) (hn : n ≤ 1048577) : IGrows (w.alloc (.cells (madeCells #[.int .i64 0] (n * 1)) 3)) w.heap.size (.slice (some ⟨w.heap.size, 0, none⟩) n n) (List.replicate n 0) := by
  unfold IGrows
  rw [List.length_replicate]
  refine ⟨by simp [ints], .inr ⟨w.heap.size, n, _, rfl, Nat.le_refl _, World.alloc_heap_new _ _, Nat.le_refl _, by unfold maxLen; omega, size_madeCells _ _, ?_⟩⟩
  apply List.ext_getElem?
  intro i
  by_cases h : i < n
  · have e0 : (madeCells #[Value.int IntKind.i64 0] (n * 1))[i]? = some (.int .i64 0) := by
      simp [madeCells, show i < n by omega, Nat.mod_one]
    rw [List.getElem?_take_of_lt (by omega), Array.getElem?_toList, e0]
    simp [ints, h]
  · rw [List.getElem?_eq_none (by rw [List.length_take]; omega), List.getElem?_eq_none (by simp [ints]; omega)]
theorem drop_take_snoc {xs : List Int} {f j : Nat} (h : j < xs.length) (hf : f ≤ j) : (xs.take (j + 1)).drop f = (xs.take j).drop f ++ [xs.getD j 0] := by
  rw [take_snoc h, List.drop_append_of_le_length (by rw [List.length_take]; omega)]
set_option maxHeartbeats 2000000 in
theorem sTop (a : Option Addr) (len cap : Nat) (xs : List Int) (f : Nat) (w : World) (hR : InI w a len cap xs) (hl : len ≤ 1048576) (hf : f ≤ len) :
    Calls Tryz.prog 95 #[.slice a len cap, .int .i64 (f : Int)] w fun e w' => (∃ av cv, e = .returned (.slice av (xs.drop f).length cv) ∧ OI w' w.heap.size av cv (xs.drop f)) ∧ Below w.heap.size w w' := by
  obtain ⟨i0, hi, hz0, hz1, hz2⟩ := info_parts infoInt
  have hp := hR.1
  have hfin : Hid ((xs.take len).drop f = xs.drop f) := by show _ = _; rw [List.take_of_length_le (by omega)]
  have hfit : Hid (IFits (xs.drop f)) := fun x hx => hR.2.2.2.1 x (List.mem_of_mem_drop hx)
  generalize xs.drop f = ql at *
  go_enter Tryz.func95, Tryz.ntmps95
  go_wp2
  go_loopw [5, 6] (fun o i wr => ∃ (j : Nat), f ≤ j ∧ j ≤ len ∧ i = .int .i64 j ∧ IGrows wr w.heap.size o ((xs.take j).drop f) ∧ Below w.heap.size w wr) (fun _ i _ => len - (intOf i).toNat)
  case atStart => exact ⟨f, by omega, hf, rfl, by rw [List.drop_of_length_le (by rw [List.length_take]; omega)]; exact IGrows.nil _ _, Below.refl _ _⟩
  case round =>
    obtain ⟨j, hj1, hj, rfl, G, hb⟩ := hrel
    by_cases hlt : j < len
    · obtain ⟨b, off, y, rfl, -, hy, -, c0⟩ := (hR.old hb).at (k := j) hlt
      have hjl : ((xs.take j).drop f).length = j - f := by rw [List.length_drop, List.length_take]; omega
      have hsn := hd (drop_take_snoc (xs := xs) (f := f) (j := j) (by omega) hj1)
      rw [hy] at hsn
      have G2 := G.alloc (.cells #[.int .i64 y] 3)
      have B2 : Below w.heap.size w (wr.alloc (.cells #[.int .i64 y] 3)) := old_alloc hb _
      have cw := cells_one wr wr.heap.size rfl (.int .i64 y) 3
      have hsz := hb.size
      have hjl' := hd hjl
      clear hjl
      go_wp2_with (at_builtin; refine wpList_append_own _ rfl _ _ 23 rfl w.heap.size 3 i0 _ 1 8 Tryz.underlying23 hi hz0 hz1 hz2 rfl (by decide) _ _ _ rfl G2 ⟨wr.heap.size, 0, none⟩ 1 1 [.int .i64 y] rfl rfl cw (by simp [Value.oneCell']) (by rw [hjl'.out]; unfold maxLen; omega) (by rw [hjl'.out]; omega) (by simp; omega) ?_; intro v' w5 hown hgrow _)
      go_roundw
      case rel =>
        refine ⟨j + 1, by omega, by omega, by go_num, ?_, ?_⟩
        · rw [hsn.out]
          unfold IGrows
          rw [ints_snoc, List.length_append]
          exact hown
        · exact B2.grown hgrow B2.size (fun c e => by have := (World.ownsRow.lt G2 c e).1; omega)
      case measure => simp [intOf]; omega
    · obtain rfl : j = len := by omega
      rw [hfin.out] at G
      obtain ⟨av, cv, rfl, ho⟩ := G.oi hfit.out
      go_wp2
      go_ret
      exact ⟨⟨_, _, rfl, ho⟩, hb⟩
theorem val_zeros (n : Nat) : val (List.replicate n 0) = 0 := digs_zero (fun i hi => by rw [List.length_replicate] at hi; simp [List.getD_eq_getElem?_getD, hi])
theorem shl_canon {xs : List Int} (n : Nat) (hx : digs xs) (tx : topped xs) (h0 : 0 < xs.length) : List.replicate n 0 ++ xs = natL (val xs * 65536 ^ n) := by
  have e : val xs * 65536 ^ n = val (List.replicate n 0 ++ xs) := by rw [val_append, val_zeros, List.length_replicate, Nat.mul_comm]; omega
  rw [e]
  refine (natL_canon (digs_append.2 ⟨digs_zeros _, hx⟩) (.inr ?_)).symm
  have := tx.resolve_left (by omega)
  rw [List.length_append, List.length_replicate]
  simpa [List.getD_eq_getElem?_getD, List.getElem?_append, show ¬ (n + xs.length - 1 < n) by omega, show n + xs.length - 1 - n = xs.length - 1 by omega] using this
set_option maxHeartbeats 2000000 in
theorem sShl (a : Option Addr) (len cap : Nat) (xs : List Int) (n : Nat) (w : World) (hR : InI w a len cap xs) (hx : digs xs) (tx : topped xs) (hl : len ≤ 524288) (hn : n ≤ 524288) :
    Calls Tryz.prog 78 #[.slice a len cap, .int .i64 (n : Int)] w fun e w' => (∃ av cv, e = .returned (.slice av (natL (val xs * 65536 ^ n)).length cv) ∧ OI w' w.heap.size av cv (natL (val xs * 65536 ^ n))) ∧ Below w.heap.size w w' := by
  obtain ⟨i0, hi, hz0, hz1, hz2⟩ := info_parts infoInt
  have hp := hR.1
  by_cases h0 : len = 0
  · subst h0
    have : xs = [] := List.length_eq_zero_iff.1 hp
    subst this
    have e : natL (val [] * 65536 ^ n) = [] := by rw [val_nil, Nat.zero_mul, natL_zero]
    rw [e]
    go_enter Tryz.func78, Tryz.ntmps78
    go_wp2
    go_ret
    exact ⟨⟨_, _, rfl, OI.none _ _⟩, Below.refl _ _⟩
  have hfin := hd (shl_canon n hx tx (by omega))
  have hfit := hd (natL_fits (val xs * 65536 ^ n))
  generalize natL (val xs * 65536 ^ n) = ql at *
  have hmk := mkInts w n (by omega)
  have hg0 := igrows_made w n (by omega)
  have hb0 : Below w.heap.size w (w.alloc (.cells (madeCells #[.int .i64 0] (n * 1)) 3)) := (Below.refl _ w).alloc (Nat.le_refl _) _
  generalize w.alloc (.cells (madeCells #[.int .i64 0] (n * 1)) 3) = w0 at *
  have h0' : ((len : Int) == 0) = false := by simp; omega
  go_enter Tryz.func78, Tryz.ntmps78
  go_wp2
  go_loopw [5, 6] (fun o i wr => ∃ (j : Nat), j ≤ len ∧ i = .int .i64 j ∧ IGrows wr w.heap.size o (List.replicate n 0 ++ xs.take j) ∧ Below w.heap.size w wr) (fun _ i _ => len - (intOf i).toNat)
  case atStart => exact ⟨0, by omega, rfl, by rw [List.take_zero, List.append_nil]; exact hg0, hb0⟩
  case round =>
    clear hg0 hb0 hmk
    obtain ⟨j, hj, rfl, G, hb⟩ := hrel
    by_cases hlt : j < len
    · obtain ⟨b, off, y, rfl, -, hy, -, c0⟩ := (hR.old hb).at (k := j) hlt
      have hjl' : Hid ((List.replicate n (0 : Int) ++ xs.take j).length = n + j) := by show _ = _; rw [List.length_append, List.length_replicate, List.length_take]; omega
      have hsn := hd (take_snoc (xs := xs) (k := j) (by omega))
      rw [hy] at hsn
      have G2 := G.alloc (.cells #[.int .i64 y] 3)
      have B2 : Below w.heap.size w (wr.alloc (.cells #[.int .i64 y] 3)) := old_alloc hb _
      have cw := cells_one wr wr.heap.size rfl (.int .i64 y) 3
      have hsz := hb.size
      go_wp2_with (at_builtin; refine wpList_append_own _ rfl _ _ 23 rfl w.heap.size 3 i0 _ 1 8 Tryz.underlying23 hi hz0 hz1 hz2 rfl (by decide) _ _ _ rfl G2 ⟨wr.heap.size, 0, none⟩ 1 1 [.int .i64 y] rfl rfl cw (by simp [Value.oneCell']) (by rw [hjl'.out]; unfold maxLen; omega) (by rw [hjl'.out]; omega) (by simp; omega) ?_; intro v' w5 hown hgrow _)
      go_roundw
      case rel =>
        refine ⟨j + 1, by omega, by go_num, ?_, ?_⟩
        · rw [hsn.out, ← List.append_assoc]
          unfold IGrows
          rw [ints_snoc, List.length_append]
          exact hown
        · exact B2.grown hgrow B2.size (fun c e => by have := (World.ownsRow.lt G2 c e).1; omega)
      case measure => simp [intOf]; omega
    · obtain rfl : j = len := by omega
      rw [List.take_of_length_le (by omega), hfin.out] at G
      obtain ⟨av, cv, rfl, ho⟩ := G.oi hfit.out
      go_wp2
      go_ret
      exact ⟨⟨_, _, rfl, ho⟩, hb⟩
end Go.Proofs.YtgoffjpfddmhhaaGreatDoor

/- Quotients digit by digit, each guessed by the highest digits: mathematics alone. No condition. -/
namespace Go.Proofs.YtgoffjpfddmhhaaGreatDoor
set_option linter.unusedVariables false
set_option maxRecDepth 100000

/-- two lists that share no block -/
def Sep (a b : Option Addr) : Prop := ∀ p q, a = some p → b = some q → p.block ≠ q.block
theorem Sep.symm {a b : Option Addr} (h : Sep a b) : Sep b a := fun p q e1 e2 => (h q p e2 e1).symm
theorem Sep.none (b : Option Addr) : Sep none b := fun p q e => by cases e
theorem OI.sepOf {w w' : World} {base base' cv cv' : Nat} {av av' : Option Addr} {ps qs : List Int} (h : OI w base av cv ps) (h' : OI w' base' av' cv' qs) (hb : w.heap.size ≤ base') : Sep av av' := by
  intro p q e1 e2
  have := h.lt p e1
  have := h'.ge q e2
  omega
theorem natL_getD (v k : Nat) : (natL v).getD k 0 = ((v / 65536 ^ k % 65536 : Nat) : Int) := by
  induction k generalizing v with
  | zero =>
    by_cases h : v = 0
    · subst h; rw [natL_zero]; rfl
    · rw [natL_pos h]; simp
  | succ k ih =>
    by_cases h : v = 0
    · subst h; rw [natL_zero]; simp
    · rw [natL_pos h, List.getD_cons_succ, ih, Nat.div_div_eq_div_mul, Nat.pow_succ, Nat.mul_comm]
/-- the two highest digits of a number of n + 1 digits at most -/
theorem top_two {R n : Nat} (h : R < 65536 ^ (n + 2)) : (natL R).getD (n + 1) 0 * 65536 + (natL R).getD n 0 = ((R / 65536 ^ n : Nat) : Int) := by
  rw [natL_getD, natL_getD, Nat.pow_succ, ← Nat.div_div_eq_div_mul]
  have h2 : R / 65536 ^ n / 65536 < 65536 := by
    rw [Nat.div_div_eq_div_mul, ← Nat.pow_succ]
    refine Nat.div_lt_of_lt_mul ?_
    rw [← Nat.pow_succ]; exact h
  generalize R / 65536 ^ n = t at *
  omega
theorem top_one {Y n : Nat} (h : Y < 65536 ^ (n + 1)) : (natL Y).getD n 0 = ((Y / 65536 ^ n : Nat) : Int) := by
  rw [natL_getD]
  have : Y / 65536 ^ n < 65536 := Nat.div_lt_of_lt_mul (by rw [← Nat.pow_succ]; exact h)
  rw [Nat.mod_eq_of_lt this]
/-- a guess by the highest digits is never too small -/
theorem guess_le {R Y P : Nat} (hP : 0 < P) (hy : 0 < Y / P) : R / Y ≤ (R / P) / (Y / P) := by
  rw [Nat.le_div_iff_mul_le hy, Nat.le_div_iff_mul_le hP]
  calc R / Y * (Y / P) * P = R / Y * (Y / P * P) := by rw [Nat.mul_assoc]
    _ ≤ R / Y * Y := Nat.mul_le_mul_left _ (Nat.div_mul_le_self _ _)
    _ ≤ R := Nat.div_mul_le_self _ _
/-- a long division, the digits from i on done -/
structure LongI (m : Nat) (xs qs : List Int) (Y i R : Nat) : Prop where
  sz : qs.length = m
  dg : digs qs
  lt : R < Y
  eq : val (xs.drop i) = Y * val (qs.drop i) + R
theorem LongI.step {m : Nat} {xs qs : List Int} {Y i R : Nat} (h : LongI m xs qs Y (i + 1) R) (hm : m ≤ xs.length) (hi : i < m) (hx : digs xs) (R' : Nat) (hR : R' = R * 65536 + (xs.getD i 0).toNat) :
    R' / Y < 65536 ∧ LongI m xs (qs.set i ((R' / Y : Nat) : Int)) Y i (R' % Y) := by
  have hY : 0 < Y := Nat.lt_of_le_of_lt (Nat.zero_le _) h.lt
  have dx := digs_getD hx i
  unfold dig at dx
  have lt := h.lt
  have q1 : R' / Y < 65536 := Nat.div_lt_of_lt_mul (by omega)
  refine ⟨q1, by simpa using h.sz, digs_set h.dg _ ⟨Int.natCast_nonneg _, Int.ofNat_lt.2 q1⟩, Nat.mod_lt _ hY, ?_⟩
  have e := h.eq
  rw [val_drop (by omega), val_drop_set (by rw [h.sz]; omega), e]
  have hsd := Nat.div_add_mod R' Y
  generalize R' / Y = g at *
  generalize R' % Y = t at *
  rw [Int.toNat_natCast]
  generalize val (qs.drop (i + 1)) = B at *
  generalize (xs.getD i 0).toNat = x at *
  grind
theorem LongI.all {m : Nat} {xs qs : List Int} {Y R : Nat} (h : LongI m xs qs Y 0 R) : val qs = val xs / Y ∧ R = val xs % Y := by
  have e := h.eq
  have lt := h.lt
  rw [List.drop_zero, List.drop_zero] at e
  have hd0 : 0 < Y := by omega
  constructor
  · rw [e, Nat.mul_add_div hd0, Nat.div_eq_of_lt lt]; omega
  · rw [e, Nat.mul_add_mod, Nat.mod_eq_of_lt lt]
theorem LongI.zero {m : Nat} {xs : List Int} {Y n : Nat} (hx : digs xs) (hm : m = xs.length - n + 1) (hn : 0 < n) (hl : n ≤ xs.length) (hY : 65536 ^ (n - 1) ≤ Y) : LongI m xs (List.replicate m 0) Y m (val (xs.drop m)) := by
  have hdd : digs (xs.drop m) := (digs_append.1 (by rw [List.take_append_drop]; exact hx)).2
  have hv := val_lt hdd
  rw [List.length_drop, show xs.length - m = n - 1 by omega] at hv
  refine ⟨by simp, digs_zeros _, by omega, ?_⟩
  rw [show (List.replicate m (0 : Int)).drop m = [] from List.drop_of_length_le (by simp), val_nil]
  omega
/-- digits that go on to the top of a number are a number -/
theorem drop_canon {v m : Nat} : (natL v).drop m = natL (val ((natL v).drop m)) := by
  have hdd : digs ((natL v).drop m) := (digs_append.1 (by rw [List.take_append_drop]; exact digs_natL v)).2
  refine (natL_canon hdd ?_).symm
  by_cases h : (natL v).length ≤ m
  · left; rw [List.length_drop]; omega
  · right
    have ht := (topped_natL v).resolve_left (by omega)
    rw [List.length_drop]
    have e : ((natL v).drop m).getD ((natL v).length - m - 1) 0 = (natL v).getD ((natL v).length - 1) 0 := by
      rw [List.getD_eq_getElem?_getD, List.getElem?_drop, List.getD_eq_getElem?_getD, show m + ((natL v).length - m - 1) = (natL v).length - 1 by omega]
    rw [e]; exact ht
theorem natL_le {a b : Nat} (h : a ≤ b) : (natL a).length ≤ (natL b).length := by
  have := val_lt (digs_natL b)
  rw [val_natL] at this
  exact natL_len.2 (Nat.lt_of_le_of_lt h this)
theorem natL_pow_le {v : Nat} (h : 0 < v) : 65536 ^ ((natL v).length - 1) ≤ v := by
  have h0 : 0 < (natL v).length := by
    rw [natL_pos (by omega)]; simp
  have := val_ge (digs_natL v) (topped_natL v) h0
  rwa [val_natL] at this
theorem natL_lt_pow (v : Nat) : v < 65536 ^ (natL v).length := by
  have := val_lt (digs_natL v)
  rwa [val_natL] at this
theorem natL_length_pos {v : Nat} (h : 0 < v) : 0 < (natL v).length := by rw [natL_pos (by omega)]; simp
end Go.Proofs.YtgoffjpfddmhhaaGreatDoor

/- Powers, by the specification. No condition. -/
namespace Go.Proofs.YtgoffjpfddmhhaaGreatDoor
open Go.RowKit
set_option linter.unusedVariables false
set_option maxRecDepth 100000

theorem one_row (w : World) (b : Nat) (hb : b = w.heap.size) (t : TypeId) : IRow (w.alloc (.cells #[.int .i64 1] t)) b (natL (1 : Nat)) := by
  have e : natL 1 = [1] := by rw [natL_pos (by omega), show 1 / 65536 = 0 by decide, natL_zero]; rfl
  subst hb
  rw [e]
  refine ⟨by simp, fun i hi => ?_⟩
  have : i = 0 := by simpa using hi
  subst this
  exact ⟨by simp, by simp⟩
theorem one_oi (w : World) (t : TypeId) : OI (w.alloc (.cells #[.int .i64 1] t)) w.heap.size (some ⟨w.heap.size, 0, none⟩) 1 (natL (1 : Nat)) := by
  have e : natL 1 = [1] := by rw [natL_pos (by omega), show 1 / 65536 = 0 by decide, natL_zero]; rfl
  exact ⟨natL_fits _, by rw [e]; simp, by decide, .inr ⟨_, rfl, Nat.le_refl _, one_row w _ rfl t⟩⟩
end Go.Proofs.YtgoffjpfddmhhaaGreatDoor

/- Powers, by the program: squares and products, bit by bit. No condition. -/
namespace Go.Proofs.YtgoffjpfddmhhaaGreatDoor
open Go.RowKit
set_option linter.unusedVariables false
set_option maxRecDepth 100000

end Go.Proofs.YtgoffjpfddmhhaaGreatDoor

/- Powers of numbers, where they have no more digits than may be, by the program. No condition. -/
namespace Go.Proofs.YtgoffjpfddmhhaaGreatDoor
open Go.RowKit
set_option linter.unusedVariables false
set_option maxRecDepth 100000

theorem bitLen_low (n : Nat) : ∀ x : Nat, x = n → 0 < x → x < 2 ^ 64 → 2 ^ (Lib.bitLen x - 1) ≤ x := by
  induction n using Nat.strongRecOn with
  | _ n ih =>
    intro x hx h0 h1
    subst hx
    have e := Lib.bitLen_half x (by omega) h1
    by_cases h2 : x / 2 = 0
    · rw [h2] at e
      have : Lib.bitLen 0 = 0 := by decide
      rw [this] at e
      rw [e]
      have e2 : 2 ^ (1 + 0 - 1) = 1 := by decide
      rw [e2]
      exact h0
    · have k := ih (x / 2) (by omega) (x / 2) rfl (by omega) (by omega)
      have hp : 1 ≤ Lib.bitLen (x / 2) := by
        have := Lib.bitLen_half (x / 2) h2 (by omega)
        omega
      rw [e, show 1 + Lib.bitLen (x / 2) - 1 = (Lib.bitLen (x / 2) - 1) + 1 by omega, Nat.pow_succ]
      omega
theorem bits_low {xs : List Int} (h : natOk xs = true) (h0 : xs.length ≠ 0) : 2 ^ (bitsN xs - 1).toNat ≤ val xs ∧ 1 ≤ bitsN xs ∧ bitsN xs ≤ 4096 := by
  obtain ⟨h1, h2, h3⟩ := natOk_in h
  have d := h2 (xs.length - 1) (by omega)
  have hnz := h3.resolve_left h0
  have hv := val_take_succ xs (xs.length - 1)
  rw [show xs.length - 1 + 1 = xs.length by omega, List.take_of_length_le (Nat.le_refl _)] at hv
  have hb : bitsN xs = 16 * ((xs.length : Int) - 1) + hlvI (xs.getD (xs.length - 1) 0) := by unfold bitsN; rw [if_neg h0]
  generalize xs.getD (xs.length - 1) 0 = x at *
  unfold dig at d
  have hl := bitLen_low _ x.toNat rfl (by omega) (by omega)
  have h16 := Lib.bitLen_le x.toNat 16 (by omega) (by omega)
  have hp : 1 ≤ Lib.bitLen x.toNat := by
    have := Lib.bitLen_half x.toNat (by omega) (by omega)
    omega
  unfold hlvI at hb
  refine ⟨?_, by omega, by omega⟩
  have he : (bitsN xs - 1).toNat = 16 * (xs.length - 1) + (Lib.bitLen x.toNat - 1) := by omega
  rw [he, Nat.pow_add, Nat.pow_mul, hv]
  have : 2 ^ 16 = 65536 := by decide
  rw [this]
  have := Nat.mul_le_mul_left (65536 ^ (xs.length - 1)) hl
  omega
theorem bitsN_bd {xs : List Int} (h : natOk xs = true) : 0 ≤ bitsN xs ∧ bitsN xs ≤ 4096 := by
  by_cases h0 : xs.length = 0
  · have : bitsN xs = 0 := by unfold bitsN; rw [if_pos h0]
    omega
  · have := bits_low h h0
    omega
end Go.Proofs.YtgoffjpfddmhhaaGreatDoor

/- Numbers shifted up, by the program. Conditions: digits. -/
namespace Go.Proofs.YtgoffjpfddmhhaaGreatDoor
open Go.RowKit
set_option linter.unusedVariables false
set_option maxRecDepth 100000

theorem val_zeros' (n : Nat) : val (List.replicate n 0) = 0 := digs_zero (fun i hi => by rw [List.length_replicate] at hi; simp [List.getD_eq_getElem?_getD, hi])
theorem i64_join {c x : Int} {p : Nat} (hp : p < 16) (hc0 : 0 ≤ c) (hc1 : c < (2 ^ p : Nat)) (hx : dig x) : bits .or .i64 c (x * (2 ^ p : Nat)) = c + x * (2 ^ p : Nat) ∧ 0 ≤ x * ((2 ^ p : Nat) : Int) ∧ x * ((2 ^ p : Nat) : Int) ≤ 2147450880 ∧ c + x * ((2 ^ p : Nat) : Int) < 2147483648 := by
  unfold dig at hx
  obtain ⟨c', rfl⟩ := Int.eq_ofNat_of_zero_le hc0
  obtain ⟨x', rfl⟩ := Int.eq_ofNat_of_zero_le hx.1
  have hT : 2 ^ p ≤ 2 ^ 15 := Nat.pow_le_pow_right (by omega) (by omega)
  have hT' : 2 ^ 15 = 32768 := by decide
  have hm : x' * 2 ^ p ≤ 65535 * 2 ^ p := Nat.mul_le_mul_right _ (by omega)
  have e : ((x' : Int) * ((2 ^ p : Nat) : Int)) = ((x' * 2 ^ p : Nat) : Int) := by rw [Int.natCast_mul]
  have hj := nat_join p (x' * 2 ^ p) c' (Nat.mul_mod_left _ _) (by omega)
  rw [e]
  generalize 2 ^ p = T at *
  refine ⟨?_, by omega, by omega, by omega⟩
  show IntKind.i64.wrap ((BitVec.ofInt 64 (c' : Int) ||| BitVec.ofInt 64 ((x' * T : Nat) : Int)).toNat : Int) = _
  have e1 : (BitVec.ofInt 64 (c' : Int)).toNat = c' := ofInt_u64 c' (by omega)
  have e2 : (BitVec.ofInt 64 ((x' * T : Nat) : Int)).toNat = x' * T := ofInt_u64 (x' * T) (by omega)
  rw [BitVec.toNat_or, e1, e2, Nat.or_comm, hj]
  simp [IntKind.wrap, IntKind.bits, IntKind.signed]
  omega
theorem or_shl {c x : Int} {p : Nat} (hp : p < 16) (hc0 : 0 ≤ c) (hc1 : c < (2 ^ p : Nat)) (hx : dig x) : ∃ s : Int, bits .or .i64 c (wrap64 (x * 2 ^ p)) = s ∧ s = c + x * ((2 ^ p : Nat) : Int) ∧ 0 ≤ s ∧ s < 2147483648 := by
  obtain ⟨j1, j2, j3, j4⟩ := i64_join hp hc0 hc1 hx
  have e : (x * 2 ^ p : Int) = x * ((2 ^ p : Nat) : Int) := by rw [Int.natCast_pow]; rfl
  refine ⟨_, ?_, rfl, by omega, j4⟩
  rw [e]
  generalize x * ((2 ^ p : Nat) : Int) = y at *
  have hw : wrap64 y = y := by
    unfold wrap64
    omega
  rw [hw, j1]
/-- a shift up, k digits of it done -/
structure UpI (L P T k : Nat) (xs qs : List Int) (c : Int) : Prop where
  sz : qs.length = L
  dg : digs qs
  eq : ((val qs : Nat) : Int) + (65536 : Int) ^ (P + k) * c = (65536 : Int) ^ P * (T : Int) * (val (xs.take k) : Nat)
  zero : ∀ m, P + k ≤ m → m < L → qs.getD m 0 = 0
theorem up_alg {V c s d c' x T A B Y V' : Int} (h : V + A * B * c = A * T * Y) (hs : s = c + x * T) (hd : s = d + 65536 * c') (hV : V' + A * B * 0 = V + A * B * d) : V' + A * B * 65536 * c' = A * T * (Y + B * x) := by grind
theorem UpI.step {L P T k : Nat} {xs qs : List Int} {c : Int} (h : UpI L P T k xs qs c) (hx : digs xs) (hk : P + k < L) (s d c' : Int) (hs : s = c + xs.getD k 0 * (T : Int)) (hd : dig d) (hsd : s = d + 65536 * c') : UpI L P T (k + 1) xs (qs.set (P + k) d) c' := by
  refine ⟨by simpa using h.sz, digs_set h.dg _ hd, ?_, fun m h1 h2 => ?_⟩
  · have hz := h.zero (P + k) (Nat.le_refl _) hk
    have dx := digs_getD hx k
    unfold dig at dx hd
    have e := val_set qs (P + k) d (by rw [h.sz]; omega)
    rw [hz] at e
    have e2 : ((d.toNat : Nat) : Int) = d := by omega
    have e3 : (((xs.getD k 0).toNat : Nat) : Int) = xs.getD k 0 := by omega
    rw [e2, show (((0 : Int).toNat : Nat) : Int) = 0 from rfl, Int.pow_add] at e
    have q := h.eq
    rw [Int.pow_add] at q
    have := up_alg q hs hsd e
    rw [val_take_succ, Int.natCast_add, Int.natCast_mul, pow_cast, e3, ← Nat.add_assoc, Int.pow_succ, Int.pow_add]
    exact this
  · have : (qs.set (P + k) d).getD m 0 = qs.getD m 0 := by simp [List.getD_eq_getElem?_getD, show P + k ≠ m by omega]
    rw [this]
    exact h.zero m (by omega) h2
theorem UpI.all {L P T len : Nat} {xs qs : List Int} {c : Int} (h : UpI L P T len xs qs c) (hp : xs.length = len) (hk : P + len < L) (hc : dig c) : val (qs.set (P + len) c) = 65536 ^ P * T * val xs := by
  have hz := h.zero (P + len) (Nat.le_refl _) hk
  unfold dig at hc
  have e := val_set qs (P + len) c (by rw [h.sz]; omega)
  rw [hz, show (((0 : Int).toNat : Nat) : Int) = 0 from rfl, Int.mul_zero, Int.add_zero, show ((c.toNat : Nat) : Int) = c by omega, h.eq, List.take_of_length_le (by omega), ← pow_cast, ← Int.natCast_mul, ← Int.natCast_mul] at e
  exact Int.ofNat.inj e
set_option maxHeartbeats 2000000 in
theorem iUp (a : Option Addr) (len cap : Nat) (xs : List Int) (P p : Nat) (w : World) (hR : InI w a len cap xs) (hx : digs xs) (hp : p < 16) (hP : P ≤ 1024) (hl : len ≤ 1048576) :
    Calls Tryz.prog 68 #[.slice a len cap, .int .i64 (16 * (P : Int) + p)] w fun e w' => (∃ av cv, e = .returned (.slice av (natL (65536 ^ P * 2 ^ p * val xs)).length cv) ∧ OI w' w.heap.size av cv (natL (65536 ^ P * 2 ^ p * val xs))) ∧ Below w.heap.size w w' := by
  have hmk := mkDigs w (len + P + 1) (by omega)
  have hr0 := IRow.made w (len + P + 1) 3
  have hb0 : Below w.heap.size w (w.alloc (.cells (madeCells #[.int .i64 0] ((len + P + 1) * 1)) 3)) := (Below.refl _ w).alloc (Nat.le_refl _) _
  have hq : (16 * (P : Int) + p) / 16 = P := by omega
  have hr : (16 * (P : Int) + p) % 16 = p := by omega
  have hpx := hR.1
  simp only [Int.natCast_add, Int.natCast_one] at hmk
  generalize w.alloc (.cells (madeCells #[.int .i64 0] ((len + P + 1) * 1)) 3) = w0 at *
  have hT : Hid (2 ^ p ≤ 32768 ∧ 0 < 2 ^ p) := ⟨by have : 2 ^ p ≤ 2 ^ 15 := Nat.pow_le_pow_right (by omega) (by omega)
                                                   omega, Nat.pow_pos (by omega)⟩
  have hst0 : Hid (UpI (len + P + 1) P (2 ^ p) 0 xs (List.replicate (len + P + 1) 0) 0) := ⟨by simp, digs_zeros _, by rw [val_zeros']; simp [val], fun m h1 h2 => by simp [List.getD_eq_getElem?_getD, h2]⟩
  have hend := hd (fun qs c h1 h2 => UpI.all (L := len + P + 1) (P := P) (T := 2 ^ p) (len := len) (xs := xs) (qs := qs) (c := c) h1 hpx (by omega) h2)
  generalize 65536 ^ P * 2 ^ p * val xs = V at *
  go_enter Tryz.func68, Tryz.ntmps68
  go_wp2
  go_loopw [8, 23] (fun c i wr => ∃ (k : Nat) (cv : Int) (qs : List Int), k ≤ len ∧ c = .int .i64 cv ∧ i = .int .i64 k ∧ (0 ≤ cv ∧ cv < (2 ^ p : Nat)) ∧ UpI (len + P + 1) P (2 ^ p) k xs qs cv ∧ IRow wr w.heap.size qs ∧ Below w.heap.size w wr) (fun _ i _ => len - (intOf i).toNat)
  case atStart => exact ⟨0, 0, _, by omega, rfl, rfl, ⟨by omega, by have := hT.out.2; omega⟩, hst0.out, hr0, hb0⟩
  case round =>
    clear hst0 hr0 hb0 hmk
    obtain ⟨k, c, qs, hk, rfl, rfl, ⟨hc0, hc1⟩, hU, hrw, hbw⟩ := hrel
    have hT1 := hT.out.1
    by_cases hlt : k < len
    · obtain ⟨b, off, x, rfl, -, hx2, -, c0⟩ := (hR.old hbw).at hlt
      have dx := digs_getD hx k
      rw [hx2] at dx
      obtain ⟨s, hor, hs, hs0, hs1⟩ := or_shl hp hc0 hc1 dx
      have hst' := hd (hU.step hx (by omega) s (s % 65536) (s / 65536) (by rw [hx2]; exact hs) (by unfold dig; omega) (by omega))
      have hcb : Hid (0 ≤ s / 65536 ∧ s / 65536 < ((2 ^ p : Nat) : Int)) := by
        unfold dig at dx
        have m1 : x * ((2 ^ p : Nat) : Int) ≤ 65535 * ((2 ^ p : Nat) : Int) := Int.mul_le_mul_of_nonneg_right (by omega) (by omega)
        exact ⟨by omega, by omega⟩
      obtain ⟨z, -, d0, d2⟩ := hrw.at (k := k + P) (by rw [hU.sz]; omega)
      have hset := hrw.set (k + P) (by rw [hU.sz]; omega) (s % 65536)
      rw [show P + k = k + P by omega] at hst'
      have hmask := i64_mask s
      clear hU hrw hs hT1 hc0 hc1
      go_wp2
      go_roundw
      case rel => exact ⟨k + 1, _, _, by omega, rfl, by go_num, hcb.out, hst'.out, hset, hbw.setCell (p := ⟨w.heap.size, k + P, none⟩) (Nat.le_refl _) _⟩
      case measure => simp [intOf]; omega
    · obtain rfl : k = len := by omega
      have hcd : dig c := ⟨hc0, by omega⟩
      have hv := hend.out qs c hU hcd
      have dq := digs_set hU.dg (P + k) hcd
      obtain ⟨z, -, d0, d2⟩ := hrw.at (k := k + P) (by rw [hU.sz]; omega)
      have hset := hrw.set (k + P) (by rw [hU.sz]; omega) c
      have hq1 : (qs.set (P + k) c).length = k + P + 1 := by rw [List.length_set]; exact hU.sz
      have hbs := hbw.setCell (p := ⟨w.heap.size, k + P, none⟩) (Nat.le_refl _) (.int .i64 c)
      rw [show k + P = P + k by omega] at hset
      have O : OI (wr.setCell ⟨w.heap.size, P + k, none⟩ (.int .i64 c)) w.heap.size (some ⟨w.heap.size, 0, none⟩) (k + P + 1) (qs.set (P + k) c) := ⟨digs_fits dq, by omega, by unfold maxLen; omega, .inr ⟨_, rfl, Nat.le_refl _, hset⟩⟩
      have T := hd (iTrimO _ _ _ _ _ O dq)
      rw [hv, hq1, show P + k = k + P by omega] at T
      clear hU hrw O hv dq hend hq1 hset hR hT hT1
      go_wp2_with fail
      refine T.out.mono ?_
      rintro e w1 ⟨⟨av, cv, rfl, hO⟩, hb1⟩
      go_wp2
      go_ret
      exact ⟨⟨_, _, rfl, hO⟩, old_trans hbs hb1⟩
end Go.Proofs.YtgoffjpfddmhhaaGreatDoor

/- Which of two numbers is greater: mathematics, and the specification. Conditions: numbers. -/
namespace Go.Proofs.YtgoffjpfddmhhaaGreatDoor
open Go.RowKit
set_option linter.unusedVariables false
set_option maxRecDepth 100000

def cmpI (x y : Nat) : Int := if x < y then -1 else if y < x then 1 else 0
theorem cmpI_lt {x y : Nat} (h : x < y) : cmpI x y = -1 := by unfold cmpI; rw [if_pos h]
theorem cmpI_gt {x y : Nat} (h : y < x) : cmpI x y = 1 := by unfold cmpI; rw [if_neg (by omega), if_pos h]
theorem cmpI_eq (x : Nat) : cmpI x x = 0 := by unfold cmpI; simp
theorem val_shorter {xs ys : List Int} (hx : digs xs) (hy : digs ys) (ty : topped ys) (h : xs.length < ys.length) : val xs < val ys := by
  have h1 := val_lt hx
  have h2 := val_ge hy ty (by omega)
  have h3 : 65536 ^ xs.length ≤ 65536 ^ (ys.length - 1) := Nat.pow_le_pow_right (by omega) (by omega)
  omega
theorem getD_drop (xs : List Int) (n i : Nat) : (xs.drop n).getD i 0 = xs.getD (n + i) 0 := by simp [List.getD_eq_getElem?_getD]
theorem ext_getD {xs ys : List Int} (hl : xs.length = ys.length) (h : ∀ i, i < xs.length → xs.getD i 0 = ys.getD i 0) : xs = ys := IUpto.all ⟨hl, fun i hi => h i (by omega)⟩
theorem val_at {xs ys : List Int} {j : Nat} (hx : digs xs) (hy : digs ys) (hl : xs.length = ys.length) (hj : j < xs.length) (he : ∀ i, j < i → i < xs.length → xs.getD i 0 = ys.getD i 0) (h : xs.getD j 0 < ys.getD j 0) : val xs < val ys := by
  have ed : xs.drop (j + 1) = ys.drop (j + 1) := by
    refine ext_getD (by rw [List.length_drop, List.length_drop, hl]) (fun i hi => ?_)
    rw [List.length_drop] at hi
    rw [getD_drop, getD_drop]
    exact he _ (by omega) (by omega)
  have e1 : val xs = val (xs.take (j + 1)) + 65536 ^ (j + 1) * val (xs.drop (j + 1)) := by
    rw [← List.take_append_drop (j + 1) xs, val_append, List.take_append_drop, List.length_take, Nat.min_eq_left (by omega)]
  have e2 : val ys = val (ys.take (j + 1)) + 65536 ^ (j + 1) * val (ys.drop (j + 1)) := by
    rw [← List.take_append_drop (j + 1) ys, val_append, List.take_append_drop, List.length_take, Nat.min_eq_left (by omega)]
  rw [e1, e2, ed, val_take_succ, val_take_succ]
  have dt : digs (xs.take j) := (digs_append.1 (by rw [List.take_append_drop]; exact hx)).1
  have hv := val_lt dt
  rw [List.length_take, Nat.min_eq_left (by omega)] at hv
  have dx := digs_getD hx j
  have dy := digs_getD hy j
  unfold dig at dx dy
  have hm : 65536 ^ j * ((xs.getD j 0).toNat + 1) ≤ 65536 ^ j * (ys.getD j 0).toNat := Nat.mul_le_mul_left _ (by omega)
  rw [Nat.mul_add] at hm
  omega
set_option maxHeartbeats 2000000 in
theorem sCmp (a b : Option Addr) (la lb ca cb : Nat) (xs ys : List Int) (w : World) (hA : InI w a la ca xs) (hB : InI w b lb cb ys) (hx : digs xs) (hy : digs ys) (tx : topped xs) (ty : topped ys) :
    Calls Tryz.prog 72 #[.slice a la ca, .slice b lb cb] w fun e w' => e = .returned (.int .i64 (cmpI (val xs) (val ys))) ∧ Below w.heap.size w w' := by
  have pa := hA.1
  have pb := hB.1
  have hla := hA.len
  have hlb := hB.len
  rcases Nat.lt_trichotomy la lb with h | h | h
  · rw [cmpI_lt (val_shorter hx hy ty (by omega))]
    go_enter Tryz.func72, Tryz.ntmps72
    go_wp2
    go_ret
    exact ⟨rfl, Below.refl _ _⟩
  · subst h
    have hlt := hd (fun j h1 h2 h3 => cmpI_lt (val_at (j := j) hx hy (by omega) h1 h2 h3))
    have hgt := hd (fun j h1 h2 h3 => cmpI_gt (val_at (j := j) hy hx (by omega) h1 h2 h3))
    have heq : Hid ((∀ i, i < la → xs.getD i 0 = ys.getD i 0) → cmpI (val xs) (val ys) = 0) := by
      intro h
      have e : xs = ys := ext_getD (by omega) (fun i hi => h i (by omega))
      rw [e]; exact cmpI_eq _
    generalize cmpI (val xs) (val ys) = r at *
    go_enter Tryz.func72, Tryz.ntmps72
    go_wp2
    go_loopw [5] (fun i wr => ∃ j : Int, -1 ≤ j ∧ j < la ∧ i = .int .i64 j ∧ (∀ m : Nat, j < (m : Int) → m < la → xs.getD m 0 = ys.getD m 0) ∧ Below w.heap.size w wr) (fun i _ => (intOf i + 1).toNat)
    case atStart => exact ⟨(la : Int) - 1, by omega, by omega, rfl, fun m h1 h2 => by omega, Below.refl _ _⟩
    case round =>
      obtain ⟨j, hj1, hj2, rfl, he, hb⟩ := hrel
      by_cases h0 : 0 ≤ j
      · obtain ⟨m, rfl⟩ := Int.eq_ofNat_of_zero_le h0
        have hm : m < la := by omega
        obtain ⟨b1, o1, x, rfl, hb1, ex, -, c1⟩ := (hA.old hb).at hm
        obtain ⟨b2, o2, y, rfl, hb2, ey, -, c2⟩ := (hB.old hb).at hm
        have he' := hd he
        clear he
        rcases Int.lt_trichotomy x y with g | g | g
        · go_wp2_with fail
          go_region
          all_goals
            go_wp2
            go_ret
            exact ⟨retI (hlt.out m (by omega) (fun i h1 h2 => he'.out i (by omega) (by omega)) (by rw [ex, ey]; exact g)), hb.drew⟩
        · subst g
          go_wp2_with fail
          go_region
          all_goals
            go_wp2_with fail
            go_region
            all_goals
              go_wp2
              go_roundw
              case rel =>
                refine ⟨(m : Int) - 1, by omega, by omega, by go_num, fun i h1 h2 => ?_, hb.drew.drew⟩
                by_cases e : i = m
                · subst e; rw [ex, ey]
                · exact he'.out i (by omega) h2
              case measure => simp [intOf] <;> omega
        · go_wp2_with fail
          go_region
          all_goals
            go_wp2_with fail
            go_region
            all_goals
              go_wp2
              go_ret
              exact ⟨retI (hgt.out m (by omega) (fun i h1 h2 => (he'.out i (by omega) (by omega)).symm) (by rw [ex, ey]; exact g)), hb.drew.drew⟩
      · obtain rfl : j = -1 := by omega
        have he' := hd he
        clear he
        go_wp2
        go_ret
        exact ⟨retI (heq.out (fun i hi => he'.out i (by omega) hi)), hb⟩
  · rw [cmpI_gt (val_shorter hy hx tx (by omega))]
    go_enter Tryz.func72, Tryz.ntmps72
    go_wp2
    go_ret
    exact ⟨rfl, Below.refl _ _⟩
end Go.Proofs.YtgoffjpfddmhhaaGreatDoor

/- Which of two numbers is greater, by the program: its iterator from the top, till two digits differ. Conditions: numbers. -/
namespace Go.Proofs.YtgoffjpfddmhhaaGreatDoor
open Go.RowKit Go.Shelf
attribute [local go_sem] Oper.semAt_some
set_option linter.unusedVariables false
set_option maxRecDepth 100000

def cmpZ (x y : Int) : Int := if x < y then -1 else if y < x then 1 else 0
set_option maxHeartbeats 1000000 in
theorem isNaNI (x : Int) (w : World) : Calls Tryz.prog 111 #[.int .i64 x] w fun e w' => e = .returned (.bool false) ∧ w' = w := by
  go_enter Tryz.func111, Tryz.ntmps111
  go_wp2
  go_ret
  exact ⟨retB (by simp), rfl⟩
set_option maxHeartbeats 1000000 in
theorem compareI (x y : Int) (w : World) : Calls Tryz.prog 97 #[.int .i64 x, .int .i64 y] w fun e w' => e = .returned (.int .i64 (cmpZ x y)) ∧ w' = w := by
  have N := hd isNaNI
  rcases Int.lt_trichotomy x y with h | h | h
  · have e : cmpZ x y = -1 := by unfold cmpZ; rw [if_pos h]
    rw [e]
    go_enter Tryz.func97, Tryz.ntmps97
    go_wp2_with (go_at_call 111; refine (N.out _ _).mono ?_; rintro e w1 ⟨rfl, rfl⟩)
    go_ret
    exact ⟨rfl, rfl⟩
  · subst h
    have e : cmpZ x x = 0 := by unfold cmpZ; simp
    rw [e]
    go_enter Tryz.func97, Tryz.ntmps97
    go_wp2_with (go_at_call 111; refine (N.out _ _).mono ?_; rintro e w1 ⟨rfl, rfl⟩)
    go_ret
    exact ⟨rfl, rfl⟩
  · have e : cmpZ x y = 1 := by unfold cmpZ; rw [if_neg (by omega), if_pos h]
    rw [e]
    go_enter Tryz.func97, Tryz.ntmps97
    go_wp2_with (go_at_call 111; refine (N.out _ _).mono ?_; rintro e w1 ⟨rfl, rfl⟩)
    go_ret
    exact ⟨rfl, rfl⟩
theorem cmp_none {len : Nat} {xs ys : List Int} (pa : xs.length = len) (pb : ys.length = len) {zs : List (Fin len)} (hy : zs.map Fin.val = downR len len) (h : ∀ y ∈ zs, xs.getD y.val 0 = ys.getD y.val 0) : cmpI (val xs) (val ys) = 0 := by
  have e : xs = ys := ext_getD (by omega) (fun i hi => by
    obtain ⟨y, hy1, rfl⟩ := downR_mem (Nat.le_refl _) hy (i := i) (by omega) (by omega)
    exact h y hy1)
  rw [e]; exact cmpI_eq _
theorem cmp_some {len k : Nat} {xs ys : List Int} (pa : xs.length = len) (pb : ys.length = len) (hx : digs xs) (hy : digs ys) {q : List (Fin len)} {x : Fin len} (hk : k ≤ len) (hpre : (q ++ [x]).map Fin.val = downR len k) (h : ∀ y ∈ q, xs.getD y.val 0 = ys.getD y.val 0) (hne : xs.getD x.val 0 ≠ ys.getD x.val 0) : cmpI (val xs) (val ys) = cmpZ (xs.getD x.val 0) (ys.getD x.val 0) := by
  obtain ⟨j, rfl, hq, hxv⟩ := downR_last hpre
  have := x.isLt
  have hall : ∀ i, x.val < i → i < len → xs.getD i 0 = ys.getD i 0 := by
    intro i h1 h2
    obtain ⟨y, hy1, rfl⟩ := downR_mem (k := j) (by omega) hq (i := i) (by omega) (by omega)
    exact h y hy1
  rcases Int.lt_trichotomy (xs.getD x.val 0) (ys.getD x.val 0) with g | g | g
  · rw [cmpI_lt (val_at (j := x.val) hx hy (by omega) (by omega) (fun i h1 h2 => hall i h1 (by omega)) g)]
    unfold cmpZ; rw [if_pos g]
  · exact absurd g hne
  · rw [cmpI_gt (val_at (j := x.val) hy hx (by omega) (by omega) (fun i h1 h2 => (hall i h1 (by omega)).symm) g)]
    unfold cmpZ; rw [if_neg (by omega), if_pos g]

set_option maxRecDepth 100000 in
set_option maxHeartbeats 4000000 in
theorem iAgainstSame (a b : Option Addr) (len ca cb : Nat) (xs ys : List Int) (w : World) (hA : InI w a len ca xs) (hB : InI w b len cb ys) (hx : digs xs) (hy : digs ys) :
    Calls Tryz.prog 80 #[.slice a len ca, .slice b len cb] w fun e w' => e = .returned (.int .i64 (cmpI (val xs) (val ys))) ∧ Below w.heap.size w w' := by
  refine (callsIn_wide (n := 3)).1 ?_
  have pa := hA.1
  have pb := hB.1
  have hlen := hA.len
  have hro : Fence.wide.round = none := rfl
  have h1 : 1 ≤ 3 := by omega
  refine callsIn_of_wp_marks Tryz.func80 rfl trivial ?_ hro
  simp only [Tryz.ntmps80, List.size_toArray, List.length_cons, List.length_nil, Nat.reduceAdd, Nat.reduceSub, Array.replicate_succ, Array.replicate_zero, List.push_toArray, List.append_toArray, List.nil_append, List.cons_append]
  gi_wp2_with (refine ⟨trivial, ?_⟩; gi_at_call 90; refine (top_in Fence.wide (3 - 1) trivial hro _ _ _ _).mono ?_; rintro e w' ⟨rfl, rfl⟩)
  have b1 := ((Boxed.new w 80 (.slice b len cb)).alloc (.cells #[.int .i64 0] 3)).alloc (.cells #[.slice a len ca] 80)
  have b2 := (Boxed.new (w.alloc (.cells #[.slice b len cb] 80)) 3 (.int .i64 0)).alloc (.cells #[.slice a len ca] 80)
  have b3 := Boxed.new ((w.alloc (.cells #[.slice b len cb] 80)).alloc (.cells #[.int .i64 0] 3)) 80 (.slice a len ca)
  simp only [World.size_alloc] at b1 b2 b3
  have c1 := b1.cell
  have c2 := b2.cell
  have f2 := b2.frozen
  have c3 := b3.cell
  have hR0 := ((hA.alloc (.cells #[.slice b len cb] 80)).alloc (.cells #[.int .i64 0] 3)).alloc (.cells #[.slice a len ca] 80)
  have hB0 : Below w.heap.size w (((w.alloc (.cells #[.slice b len cb] 80)).alloc (.cells #[.int .i64 0] 3)).alloc (.cells #[.slice a len ca] 80)) := (((Below.refl _ w).alloc (Nat.le_refl _) _).alloc (by simp) _).alloc (by simp; omega) _
  have hsz : (((w.alloc (.cells #[.slice b len cb] 80)).alloc (.cells #[.int .i64 0] 3)).alloc (.cells #[.slice a len ca] 80)).heap.size = w.heap.size + 3 := by simp
  clear b1 b2 b3
  generalize (((w.alloc (.cells #[.slice b len cb] 80)).alloc (.cells #[.int .i64 0] 3)).alloc (.cells #[.slice a len ca] 80)) = W0 at *
  have hfar := hA.far
  refine wpIn_rangeFunc_ownF hro h1 (gf := 108) (lb := #[.pointer (some ⟨w.heap.size + 1 + 1, 0, none⟩)]) rfl trivial (enters_of Tryz.func108 (by kernel_rfl) rfl)
    (top_stop Fence.wide (3 - 1) trivial hro (by omega) (w.heap.size + 1 + 1) len ca (KeepP (w.heap.size + 1 + 1) a len) a xs W0 (by omega) (.inl rfl) c3 hR0 keepP_at) (fun h k => Same.trans h k) (same_b (n := w.heap.size + 3) (keepP_lt (by omega) (fun h q e => by have := hfar h q e; omega)) (by omega)) (Below.refl _ _) (fun _ => rfl)
    (fun pre W => ((∀ y ∈ pre, xs.getD y.val 0 = ys.getD y.val 0) ∧ W.cell? ⟨w.heap.size, 0, none⟩ = some (.slice b len cb) ∧ W.cell? ⟨w.heap.size + 1, 0, none⟩ = some (.int .i64 0) ∧ W.frozen? ⟨w.heap.size + 1, 0, none⟩ = false) ∧ w.heap.size + 3 ≤ W.heap.size ∧ Below w.heap.size w W)
    (fun c pre W => (c = .ret ∧ ∃ (q : List (Fin len)) (x : Fin len), pre = q ++ [x] ∧ (∀ y ∈ q, xs.getD y.val 0 = ys.getD y.val 0) ∧ xs.getD x.val 0 ≠ ys.getD x.val 0 ∧ W.cell? ⟨w.heap.size + 1, 0, none⟩ = some (.int .i64 (cmpZ (xs.getD x.val 0) (ys.getD x.val 0)))) ∧ Below w.heap.size w W)
    (OwnFrom.and (Own.from (fun s A B row hs hg hr => ⟨hs.1, cell_kept hs.2.1 hg hr, cell_kept hs.2.2.1 hg hr, (frozen_kept hs.2.2.1 hg hr).trans hs.2.2.2⟩) _) (OwnFrom.and (fun s A B row hs hg hr => Nat.le_trans hs hg.size) (ownFrom_below (Nat.le_refl _) (by omega))))
    (fun c => OwnFrom.and (Own.from (fun s A B row hs hg hr => ⟨hs.1, by obtain ⟨q, x, e1, e2, e3, e4⟩ := hs.2; exact ⟨q, x, e1, e2, e3, cell_kept e4 hg hr⟩⟩) _) (ownFrom_below (Nat.le_refl _) (by omega)))
    ⟨⟨by simp, c1, c2, f2⟩, by omega, hB0⟩
    (fun x => { tmps := #[.slice a len ca, .slice b len cb, undef, .pointer (some ⟨w.heap.size, 0, none⟩), .pointer (some ⟨w.heap.size + 1, 0, none⟩), .int .i64 (x.val : Int), .int .i64 (xs.getD x.val 0), .slice a len ca, .int .i64 (len : Int), .slice b len cb, .int .i64 (len : Int), .bool false, undef, undef, undef, undef, undef, .slice a len ca, .func (.func 108) #[] #[.pointer (some ⟨w.heap.size + 1 + 1, 0, none⟩)], .int .i64 (x.val : Int), .int .i64 (xs.getD x.val 0), undef, undef, undef, undef, undef, undef, undef, undef, undef, undef, undef, undef], defers := [] }) ?assign ?body ?done ?stop
  case assign =>
    intro l x W K hK
    generalize xs.getD x.val 0 = z at *
    gi_wp2
    exact hK
  case body =>
    rintro l pre x W ⟨⟨hq, hca, hcr, hfr⟩, hsW, hBw⟩ _
    have hxl := x.isLt
    obtain ⟨bb, off, y, rfl, -, ey, -, cy⟩ := (hB.old hBw).at x.isLt
    have ey' := hd ey
    clear ey
    generalize hz : xs.getD x.val 0 = z
    have hz' := hd hz
    clear hz
    by_cases hz0 : z = y
    · subst hz0
      have hzb : (z != z) = false := by simp
      gi_wp2
      exact ⟨KeepsOthers.refl _, Same.refl _ _, ⟨fun u hu => (List.mem_append.1 hu).elim (hq u) (fun e => by simp at e; subst e; rw [hz'.out, ey'.out]), hca, hcr, hfr⟩, hsW, hBw⟩
    · have hzb : (z != y) = true := by simpa using hz0
      gi_wp2_with fail
      refine ⟨trivial, (CallsIn.inRound l (callsIn_wide.2 (compareI z y W))).mono ?_⟩
      rintro e W1 ⟨rfl, rfl⟩
      gi_wp2
      exact ⟨KeepsOthers.setCell _ _ _, ⟨rfl, pre, x, rfl, hq, by rw [hz'.out, ey'.out]; exact hz0, by rw [hz'.out, ey'.out]; exact World.cell?_setCell_same' _ _ _ (by rw [hcr]; rfl)⟩, hBw.setCell (p := ⟨w.heap.size + 1, 0, none⟩) (by simp) _⟩
  case done =>
    rintro D zs W hD hzs ⟨⟨hne, _, hcr, hfr⟩, hsW, hBw⟩ hK
    gi_wp2
    have hK' := (KeepsOthers.setCell W ⟨w.heap.size + 1, 0, none⟩ (.int .i64 0)).same D _ hK rfl
    refine ⟨by simp, .inl ⟨_, _, rfl, run_takeDeferred hK', ?_⟩⟩
    have hc5 := cell_kept (World.cell?_setCell_same' W ⟨w.heap.size + 1, 0, none⟩ (.int .i64 0) (by rw [hcr]; rfl)) (grownBy_putObj' _ D (.deferred none)) (fun r e => by cases e; exact ⟨_, hK', rfl⟩)
    refine ⟨.int .i64 0, ?_, retI (cmp_none pa pb hzs hne), (hBw.setCell (p := ⟨w.heap.size + 1, 0, none⟩) (by simp) _).trans (belowK_b (w := w) (Nat.le_refl _) _ D _ _ (by omega) hK' rfl rfl)⟩
    simp [results, Tryz.f80, go_sem, hc5]
  case stop =>
    rintro D c pre W hD ⟨k, hk, hpre⟩ ⟨⟨rfl, q, x, rfl, hq, hxx, hcr⟩, hBw⟩ hK
    have hcs := cmp_some pa pb hx hy hk hpre hq hxx
    generalize cmpZ (xs.getD x.val 0) (ys.getD x.val 0) = cz at *
    gi_wp2
    refine ⟨by simp, .inl ⟨_, _, rfl, run_takeDeferred hK, ?_⟩⟩
    have hc5 := cell_kept hcr (grownBy_putObj' _ D (.deferred none)) (fun r e => by cases e; exact ⟨_, hK, rfl⟩)
    refine ⟨.int .i64 cz, ?_, retI hcs, hBw.trans (belowK_b (w := w) (Nat.le_refl _) W D _ _ (by omega) hK rfl rfl)⟩
    simp [results, Tryz.f80, go_sem, hc5]
end Go.Proofs.YtgoffjpfddmhhaaGreatDoor

/- Comparing numbers, by the program and by the specification. No condition. -/
namespace Go.Proofs.YtgoffjpfddmhhaaGreatDoor
open Go.RowKit
set_option linter.unusedVariables false
set_option maxRecDepth 100000

theorem cmpZ_lt {x y : Int} (h : x < y) : cmpZ x y = -1 := by unfold cmpZ; rw [if_pos h]
theorem cmpZ_gt {x y : Int} (h : y < x) : cmpZ x y = 1 := by unfold cmpZ; rw [if_neg (by omega), if_pos h]
set_option maxHeartbeats 2000000 in
theorem iAgainst (a b : Option Addr) (la lb ca cb : Nat) (xs ys : List Int) (w : World) (hA : InI w a la ca xs) (hB : InI w b lb cb ys) (hx : digs xs) (hy : digs ys) (tx : topped xs) (ty : topped ys) :
    Calls Tryz.prog 80 #[.slice a la ca, .slice b lb cb] w fun e w' => e = .returned (.int .i64 (cmpI (val xs) (val ys))) ∧ Below w.heap.size w w' := by
  by_cases h : la = lb
  · subst h
    exact iAgainstSame a b la ca cb xs ys w hA hB hx hy
  have pa := hA.1
  have pb := hB.1
  have hla := hA.len
  have hlb := hB.len
  have hc : cmpI (val xs) (val ys) = cmpZ (la : Int) (lb : Int) := by
    rcases Nat.lt_or_ge la lb with g | g
    · rw [cmpI_lt (val_shorter hx hy ty (by omega)), cmpZ_lt (by omega)]
    · rw [cmpI_gt (val_shorter hy hx tx (by omega)), cmpZ_gt (by omega)]
  rw [hc]
  have C := hd (compareI (la : Int) (lb : Int))
  have hne : ((la : Int) != (lb : Int)) = true := by simp; omega
  generalize cmpZ (la : Int) (lb : Int) = r at *
  have b2 := Boxed.new (w.alloc (.cells #[.slice b lb cb] 80)) 3 (.int .i64 0)
  have hB0 : Below w.heap.size w ((w.alloc (.cells #[.slice b lb cb] 80)).alloc (.cells #[.int .i64 0] 3)) := ((Below.refl _ w).alloc (Nat.le_refl _) _).alloc (by simp) _
  simp only [World.size_alloc] at b2
  have c2 := b2.cell
  have f2 := b2.frozen
  go_enter Tryz.func80, Tryz.ntmps80
  go_wp2_with fail
  refine (C.out _).mono ?_
  rintro e w1 ⟨rfl, rfl⟩
  go_wp2
  refine bodyPost_ret (v := .int .i64 r) ?_ rfl ⟨rfl, ((Below.refl _ w).alloc (Nat.le_refl _) _).alloc (by simp) _⟩
  simp [results, Tryz.results80, go_sem]
end Go.Proofs.YtgoffjpfddmhhaaGreatDoor

/- A multiple of a number is added to digits in place, the last of which may fall below 0. Conditions: digits; the two lists apart. -/
namespace Go.Proofs.YtgoffjpfddmhhaaGreatDoor
open Go.RowKit
set_option linter.unusedVariables false
set_option maxRecDepth 100000

/-- the number that n digits and a last one, which may be below 0, are -/
def sval (n : Nat) (rs : List Int) : Int := ((val (rs.take n) : Nat) : Int) + (65536 : Int) ^ n * rs.getD n 0
theorem take_getD {rs : List Int} {n k : Nat} (h : k < n) : (rs.take n).getD k 0 = rs.getD k 0 := by simp [List.getD_eq_getElem?_getD, h]
theorem digs_take {rs : List Int} {n : Nat} (h : digs rs) : digs (rs.take n) := (digs_append.1 (by rw [List.take_append_drop]; exact h)).1
structure AddI (n k : Nat) (rs xs qs : List Int) (t c : Int) : Prop where
  sz : qs.length = n + 1
  mix : MixG k (rs.take n) xs (qs.take k) 1 t c
  same : ∀ i, k ≤ i → i ≤ n → qs.getD i 0 = rs.getD i 0
theorem AddI.zero {n : Nat} {rs xs : List Int} {t : Int} (h : rs.length = n + 1) : AddI n 0 rs xs rs t 0 := ⟨h, MixG.zero _ _ _ _, fun _ _ _ => rfl⟩
theorem AddI.step {n k : Nat} {rs xs qs : List Int} {t c : Int} (h : AddI n k rs xs qs t c) (hr : digs (rs.take n)) (hx : digs xs) (hk : k < n) (s : Int) (hs : s = c + (rs.getD k 0 + xs.getD k 0 * t)) : AddI n (k + 1) rs xs (qs.set k (s % 65536)) t (s / 65536) := by
  refine ⟨by simpa using h.sz, ?_, fun i h1 h2 => ?_⟩
  · have hm := h.mix.step hr hx (c + (rs.take n).getD k 0 * 1 + xs.getD k 0 * t) (s % 65536) (s / 65536) rfl (by unfold dig; omega) (by rw [take_getD hk]; omega)
    have e : (qs.set k (s % 65536)).take (k + 1) = qs.take k ++ [s % 65536] := by
      rw [take_snoc (by rw [List.length_set, h.sz]; omega), take_set_same, getD_set _ _ _ (by rw [h.sz]; omega)]
    rw [e]; exact hm
  · have : (qs.set k (s % 65536)).getD i 0 = qs.getD i 0 := by simp [List.getD_eq_getElem?_getD, show k ≠ i by omega]
    rw [this]
    exact h.same i (by omega) h2
theorem AddI.all {n : Nat} {rs xs qs : List Int} {t c : Int} (h : AddI n n rs xs qs t c) (hx : xs.length = n) (hl : rs.length = n + 1) : sval n (qs.set n (rs.getD n 0 + c)) = sval n rs + t * (val xs : Nat) ∧ digs ((qs.set n (rs.getD n 0 + c)).take n) := by
  have ha := h.mix.all (by rw [List.length_take]; omega) (by omega)
  unfold sval
  rw [take_set_same, getD_set _ _ _ (by rw [h.sz]; omega)]
  refine ⟨?_, h.mix.2.1⟩
  generalize (65536 : Int) ^ n = P at *
  rw [Int.mul_add]
  have : ((val xs : Nat) : Int) * t = t * (val xs : Nat) := Int.mul_comm _ _
  omega
theorem mul_bd2 {x t : Int} (h : dig x) (h1 : -65535 ≤ t) (h2 : t ≤ 65535) : -4294836225 ≤ x * t ∧ x * t ≤ 4294836225 := by
  have := mul_bd (F := 65535) h h1 h2
  omega
set_option maxRecDepth 100000 in
set_option maxHeartbeats 2000000 in
theorem iAddTo (a : Option Addr) (n ca g cr : Nat) (xs rs : List Int) (t : Int) (w : World) (hA : InI w a n ca xs) (hr : IRow w g rs) (hl : rs.length = n + 1) (hx : digs xs) (hd0 : digs (rs.take n)) (hsep : 0 < n → ∀ q, a = some q → q.block ≠ g) (ht : -65535 ≤ t ∧ t ≤ 65535) (htop : -1099511627776 ≤ rs.getD n 0 ∧ rs.getD n 0 ≤ 1099511627776) (hn : n ≤ 1048576) (hcr : n + 1 ≤ cr) :
    Calls Tryz.prog 110 #[.slice a n ca, .slice (some ⟨g, 0, none⟩) (n + 1) cr, .int .i64 t] w fun e w' => (∃ v, e = .returned v) ∧ (∃ qs, qs.length = n + 1 ∧ digs (qs.take n) ∧ sval n qs = sval n rs + t * (val xs : Nat) ∧ IRow w' g qs) ∧ w.grownBy w' (some g) := by
  have pa := hA.1
  have hend := hd (fun qs c h => AddI.all (n := n) (rs := rs) (xs := xs) (qs := qs) (t := t) (c := c) h pa hl)
  generalize hR : rs.getD n 0 = top at *
  go_enter Tryz.func110, Tryz.ntmps110
  go_wp2
  go_loopw [6, 11] (fun c i wr => ∃ (k : Nat) (qs : List Int) (cv : Int), k ≤ n ∧ c = .int .i64 cv ∧ i = .int .i64 k ∧ AddI n k rs xs qs t cv ∧ (-131072 ≤ cv ∧ cv ≤ 131072) ∧ IRow wr g qs ∧ w.grownBy wr (some g)) (fun _ i _ => n - (intOf i).toNat)
  case atStart => exact ⟨0, rs, 0, by omega, rfl, rfl, AddI.zero hl, by omega, hr, World.grownBy.refl _ _⟩
  case round =>
    obtain ⟨k, qs, c, hk, rfl, rfl, hI, hc, hrw, hg⟩ := hrel
    by_cases hlt : k < n
    · have hAk := hA.kept hg (fun h q e => by intro e2; injection e2 with e3; exact hsep h q e e3)
      obtain ⟨ba, oa, x, rfl, -, ex, -, cx⟩ := hAk.at hlt
      have dx := digs_getD hx k
      rw [ex] at dx
      have m1 := mul_bd2 dx ht.1 ht.2
      obtain ⟨z, ez, d0, d2⟩ := hrw.at (k := k) (by rw [hI.sz]; omega)
      have ez2 : rs.getD k 0 = z := by rw [← hI.same k (Nat.le_refl _) (by omega)]; exact ez
      have dz := digs_getD hd0 k
      rw [take_getD hlt, ez2] at dz
      have hst := hd (hI.step hd0 hx hlt (c + (z + x * t)) (by rw [ez2, ex]))
      unfold dig at dx dz
      generalize hxt : x * t = xt at *
      have cb2 : Hid (-131072 ≤ (c + (z + xt)) / 65536 ∧ (c + (z + xt)) / 65536 ≤ 131072) := by show _ ∧ _; omega
      have hset := hrw.set k (by rw [hI.sz]; omega) ((c + (z + xt)) % 65536)
      have hmask := i64_mask (c + (z + xt))
      have hfd : (c + (z + xt)).fdiv 65536 = (c + (z + xt)) / 65536 := Int.fdiv_eq_ediv_of_nonneg _ (by omega)
      clear hI hrw hend hAk
      go_wp2
      go_roundw
      case rel => exact ⟨k + 1, _, _, by omega, rfl, by go_num, hst.out, cb2.out, hset, grown_set hg _ _⟩
      case measure => simp [intOf]; omega
    · obtain rfl : k = n := by omega
      obtain ⟨z, ez, d0, d2⟩ := hrw.at (k := k) (by rw [hI.sz]; omega)
      have ez2 : z = top := by rw [← ez, hI.same k (Nat.le_refl _) (Nat.le_refl _)]; exact hR
      subst ez2
      obtain ⟨q1, q2⟩ := hend.out _ _ hI
      have hset := hrw.set k (by rw [hI.sz]; omega) (z + c)
      have hsz : (qs.set k (z + c)).length = k + 1 := by rw [List.length_set]; exact hI.sz
      clear hI hrw hend
      go_wp2
      go_end0
      exact ⟨⟨_, rfl⟩, ⟨_, hsz, q2, q1, hset⟩, grown_set hg _ _⟩
end Go.Proofs.YtgoffjpfddmhhaaGreatDoor
