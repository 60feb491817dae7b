/- How often a power of two goes into a fraction, and whether nothing is left, by the program. Condition: its numbers are digits in their form, of 1024 digits at most. -/
import Derived.Test.YtgoffjpfddmhhaaGreatDoorPK26
import Derived.Test.YtgoffjpfddmhhaaGreatDoorPK14
import Derived.BigQuiet
import Derived.Deep.RegionHeld3
import Derived.Deep.DeepCutAuto
namespace Go.Proofs.YtgoffjpfddmhhaaGreatDoor
open Go.RowKit
set_option linter.unusedVariables false
set_option maxRecDepth 100000

def uN (A : Nat) (p : Int) : Nat := if p < 0 then 2 ^ (-p).toNat * A else A
def uD (B : Nat) (p : Int) : Nat := if p < 0 then B else 2 ^ p.toNat * B
theorem iUpM (a : Option Addr) (cap o k : Nat) (hk : k ≤ 16000) (ho : (natL o).length ≤ 1048576) (w : World) (hR : InI w a (natL o).length cap (natL o)) :
    Calls Tryz.prog 68 #[.slice a (natL o).length cap, .int .i64 (k : Int)] w fun e w' => (∃ av cv, e = .returned (.slice av (natL (2 ^ k * o)).length cv) ∧ OI w' w.heap.size av cv (natL (2 ^ k * o))) ∧ Below w.heap.size w w' := by
  have h := iUp a (natL o).length cap (natL o) (k / 16) (k % 16) w hR (digs_natL o) (by omega) (by omega) ho
  have e1 : (16 * ((k / 16 : Nat) : Int) + ((k % 16 : Nat) : Int)) = (k : Int) := by omega
  have e2 : 65536 ^ (k / 16) * 2 ^ (k % 16) * val (natL o) = 2 ^ k * o := by
    rw [pow_16, val_natL, show 16 * (k / 16) + k % 16 = k by omega]
  rw [e1, e2] at h
  exact h
theorem len_lt {v k : Nat} (h : (natL v).length ≤ k) : v < 2 ^ (16 * k) := by
  have := natL_len.1 h
  rw [p16] at this
  exact this
theorem mulpow_len {A j k l : Nat} (h : (natL A).length ≤ k) (hl : j + 16 * k ≤ 16 * l) : (natL (2 ^ j * A)).length ≤ l := by
  refine natL_len2 (Nat.lt_of_lt_of_le ?_ (two_bd hl))
  rw [Nat.pow_add]
  exact Nat.mul_lt_mul_of_pos_left (len_lt h) (Nat.pow_pos (by omega))
theorem cutN (a b : Option Addr) (ca cb N D : Nat) (w : World) (hA : InI w a (natL N).length ca (natL N)) (hB : InI w b (natL D).length cb (natL D)) (hD : D ≠ 0) (h1 : (natL N).length ≤ 65536) (h2 : (natL D).length ≤ 65536) :
    Calls Tryz.prog 70 #[.slice a (natL N).length ca, .slice b (natL D).length cb] w fun e w' => (∃ av cv av2 cv2, e = .returned (.tuple #[.slice av (natL (N / D)).length cv, .slice av2 (natL (N % D)).length cv2]) ∧ OI w' w.heap.size av cv (natL (N / D)) ∧ OI w' w.heap.size av2 cv2 (natL (N % D)) ∧ Sep av av2) ∧ Below w.heap.size w w' := by
  have h := iCut a b _ _ ca cb _ _ w hA hB (digs_natL N) (digs_natL D) (topped_natL D) h1 h2 (natL_length_pos (by omega))
  rw [val_natL, val_natL] at h
  exact h
theorem len0 (R : Nat) : (((natL R).length : Int) == 0) = decide (R = 0) := by
  rw [Bool.eq_iff_iff, beq_iff_eq, decide_eq_true_eq]
  constructor
  · intro h
    exact natL_len0 (by omega)
  · intro h
    rw [h, natL_zero]; rfl

set_option maxHeartbeats 4000000 in
theorem iUnits (a b : Option Addr) (ca cb A B : Nat) (p : Int) (w : World) (hA : InI w a (natL A).length ca (natL A)) (hB : InI w b (natL B).length cb (natL B)) (hla : (natL A).length ≤ 1024) (hlb : (natL B).length ≤ 1024) (hB0 : B ≠ 0) (hp : -16000 ≤ p ∧ p ≤ 16000) :
    Calls Tryz.prog 171 #[.agg #[.slice a (natL A).length ca, .slice b (natL B).length cb], .int .i64 p] w fun e w' => (∃ av cv, e = .returned (.tuple #[.slice av (natL (uN A p / uD B p)).length cv, .bool (decide (uN A p % uD B p = 0))]) ∧ OI w' w.heap.size av cv (natL (uN A p / uD B p))) ∧ Below w.heap.size w w' := by
  have e0 : Below w.heap.size w (w.alloc (.cells #[.slice a (natL A).length ca, .slice b (natL B).length cb] 82)) := (by repeat (first | exact Below.refl _ _ | refine Below.drew ?_ | refine old_alloc ?_ _ | refine old_trans ?_ (by assumption)))
  have c0 : (w.alloc (.cells #[.slice a (natL A).length ca, .slice b (natL B).length cb] 82)).cell? ⟨w.heap.size, 0, none⟩ = some (.slice a (natL A).length ca) := by simp
  have c1 : (w.alloc (.cells #[.slice a (natL A).length ca, .slice b (natL B).length cb] 82)).cell? ⟨w.heap.size, 1, none⟩ = some (.slice b (natL B).length cb) := by simp
  have L0 := hd len0
  by_cases c : p < 0
  · have eN : uN A p = 2 ^ (-p).toNat * A := by unfold uN; rw [if_pos c]
    have eD : uD B p = B := by unfold uD; rw [if_pos c]
    have U := fun w h => iUpM a ca A (-p).toNat (by omega) (by omega) w h
    have l1 := mulpow_len (j := (-p).toNat) (l := 65536) hla (by omega)
    rw [← eN] at l1
    rw [← eN, Int.toNat_of_nonneg (by omega)] at U
    replace U := hd U
    rw [eD]
    have C := hd (fun a2 c2 w h1 h2 => cutN a2 b c2 cb (uN A p) B w h1 h2 hB0 l1 (by omega))
    clear eN eD l1 hla hlb hB0
    generalize uN A p = N at *
    go_enter Tryz.func171, Tryz.ntmps171
    go_wp2_with fail
    go_quiet (fail)
    all_goals
      go_wp2_with fail
      refine (U.out _ (hA.old (below_drewN e0 _))).mono ?_
      rintro e w1 ⟨⟨av, cv, rfl, O⟩, hb1⟩
      have hB1 := old_trans (below_drewN e0 _) hb1
      go_wp2_with fail
      refine (C.out _ _ _ O.inI (hB.old hB1)).mono ?_
      rintro e w2 ⟨⟨qv, qc, rv, rc, rfl, O1, O2, -⟩, hb2⟩
      have L1 := L0.out
      go_wp2
      go_ret2
      exact ⟨⟨_, _, rfl, O1.mono (Nat.le_trans (below_drewN e0 _).size hb1.size)⟩, old_trans hB1 hb2⟩
  · have eN : uN A p = A := by unfold uN; rw [if_neg c]
    have eD : uD B p = 2 ^ p.toNat * B := by unfold uD; rw [if_neg c]
    have U := fun w h => iUpM b cb B p.toNat (by omega) (by omega) w h
    have l1 := mulpow_len (j := p.toNat) (l := 65536) hlb (by omega)
    have nz : uD B p ≠ 0 := by
      rw [eD]
      exact Nat.mul_ne_zero (Nat.ne_of_gt (Nat.pow_pos (by omega))) hB0
    rw [← eD] at l1
    rw [← eD, Int.toNat_of_nonneg (by omega)] at U
    replace U := hd U
    rw [eN]
    have C := hd (fun b2 c2 w h1 h2 => cutN a b2 ca c2 A (uD B p) w h1 h2 nz (by omega) l1)
    clear eN eD l1 hla hlb hB0 nz
    generalize uD B p = N at *
    go_enter Tryz.func171, Tryz.ntmps171
    go_wp2_with fail
    go_quiet (fail)
    all_goals
      go_wp2_with fail
      refine (U.out _ (hB.old (below_drewN e0 _))).mono ?_
      rintro e w1 ⟨⟨av, cv, rfl, O⟩, hb1⟩
      have hB1 := old_trans (below_drewN e0 _) hb1
      go_wp2_with fail
      refine (C.out _ _ _ (hA.old hB1) O.inI).mono ?_
      rintro e w2 ⟨⟨qv, qc, rv, rc, rfl, O1, O2, -⟩, hb2⟩
      have L1 := L0.out
      go_wp2
      go_ret2
      exact ⟨⟨_, _, rfl, O1.mono (Nat.le_trans (below_drewN e0 _).size hb1.size)⟩, old_trans hB1 hb2⟩
end Go.Proofs.YtgoffjpfddmhhaaGreatDoor

/- How many bits a quotient has: the lengths of both leave a bit open. Mathematics alone. -/
namespace Go.Proofs.YtgoffjpfddmhhaaGreatDoor
open Go.RowKit
set_option linter.unusedVariables false
set_option maxRecDepth 100000

theorem bitLen_hiF (n : Nat) : ∀ x : Nat, x = n → x < 2 ^ 64 → x < 2 ^ (Lib.bitLen x) := by
  induction n using Nat.strongRecOn with
  | _ n ih =>
    intro x hx h
    by_cases h0 : x = 0
    · subst h0; exact Nat.pow_pos (by omega)
    · have e := Lib.bitLen_half x h0 h
      have := ih (x / 2) (by omega) (x / 2) rfl (by omega)
      rw [e, Nat.add_comm, Nat.pow_succ]
      omega
theorem bits_highF {xs : List Int} (h : natOk xs = true) (h0 : xs.length ≠ 0) : val xs < 2 ^ (bitsN xs).toNat := by
  obtain ⟨h1, h2, h3⟩ := natOk_in h
  have d := h2 (xs.length - 1) (by omega)
  have hv := val_take_succ xs (xs.length - 1)
  rw [show xs.length - 1 + 1 = xs.length by omega, List.take_of_length_le (Nat.le_refl _)] at hv
  have hb : bitsN xs = 16 * ((xs.length : Int) - 1) + hlvI (xs.getD (xs.length - 1) 0) := by unfold bitsN; rw [if_neg h0]
  have hdt : digs (xs.take (xs.length - 1)) := (digs_append.1 (by rw [List.take_append_drop]; exact h2)).1
  have ht := val_lt hdt
  rw [List.length_take, Nat.min_eq_left (by omega)] at ht
  generalize xs.getD (xs.length - 1) 0 = x at *
  generalize val (xs.take (xs.length - 1)) = T at *
  unfold dig at d
  have hl := bitLen_hiF _ x.toNat rfl (by omega)
  unfold hlvI at hb
  have he : (bitsN xs).toNat = 16 * (xs.length - 1) + Lib.bitLen x.toNat := by omega
  rw [he, Nat.pow_add, Nat.pow_mul, hv]
  have : 2 ^ 16 = 65536 := by decide
  rw [this]
  have h5 := Nat.mul_le_mul_left (65536 ^ (xs.length - 1)) hl
  rw [Nat.mul_succ] at h5
  omega

theorem natL_neF {Y : Nat} (h : Y ≠ 0) : (natL Y).length ≠ 0 := by have := natL_length_pos (Nat.pos_of_ne_zero h); omega
def bl (v : Nat) : Int := bitsN (natL v)
theorem okF {v : Nat} (l : (natL v).length ≤ 256) : natOk (natL v) = true := natOk_mk l (digs_natL v) (topped_natL v)
theorem bl_bd {v : Nat} (l : (natL v).length ≤ 256) : 0 ≤ bl v ∧ bl v ≤ 4096 := bitsN_bd (okF l)
theorem bl_low {v : Nat} (h0 : v ≠ 0) (l : (natL v).length ≤ 256) : 2 ^ (bl v - 1).toNat ≤ v ∧ 1 ≤ bl v := by
  have h := bits_low (okF l) (natL_neF h0)
  rw [val_natL] at h
  exact ⟨h.1, h.2.1⟩
theorem bl_high {v : Nat} (l : (natL v).length ≤ 256) : v < 2 ^ (bl v).toNat := by
  by_cases h0 : v = 0
  · subst h0; exact Nat.pow_pos (by omega)
  · have h := bits_highF (okF l) (natL_neF h0)
    rw [val_natL] at h
    exact h
theorem quo_lt {A B room : Nat} {p : Int} (lA : (natL A).length ≤ 256) (lB : (natL B).length ≤ 256) (hB : B ≠ 0) (hp : bl A - bl B - room ≤ p) : uN A p / uD B p < 2 ^ (room + 1) := by
  have a1 := bl_high lA
  have a0 := bl_bd lA
  obtain ⟨b1, b2⟩ := bl_low hB lB
  have key : ∀ i j : Nat, i + (bl A).toNat ≤ j + ((bl B - 1).toNat + (room + 1)) → 2 ^ i * A < 2 ^ j * B * 2 ^ (room + 1) := by
    intro i j h
    have h1 : 2 ^ i * A < 2 ^ i * 2 ^ (bl A).toNat := Nat.mul_lt_mul_of_pos_left a1 (Nat.pow_pos (by omega))
    have h2 : 2 ^ j * 2 ^ (bl B - 1).toNat ≤ 2 ^ j * B := Nat.mul_le_mul_left _ b1
    have h3 : 2 ^ j * 2 ^ (bl B - 1).toNat * 2 ^ (room + 1) ≤ 2 ^ j * B * 2 ^ (room + 1) := Nat.mul_le_mul_right _ h2
    rw [← Nat.pow_add] at h1
    rw [← Nat.pow_add, ← Nat.pow_add] at h3
    have h4 : 2 ^ (i + (bl A).toNat) ≤ 2 ^ (j + (bl B - 1).toNat + (room + 1)) := two_bd (by omega)
    exact Nat.lt_of_lt_of_le h1 (Nat.le_trans h4 h3)
  apply Nat.div_lt_of_lt_mul
  unfold uN uD
  by_cases c : p < 0
  · rw [if_pos c, if_pos c]
    have := key (-p).toNat 0 (by omega)
    rw [Nat.pow_zero, Nat.one_mul] at this
    exact this
  · rw [if_neg c, if_neg c]
    have := key 0 p.toNat (by omega)
    rw [Nat.pow_zero, Nat.one_mul] at this
    exact this
/-- the power that partBelow tries first, and what it finds -/
def pbP (A B room : Nat) (least : Int) : Int := max (bl A - bl B - room) least
def pbQ (A B room : Nat) (least : Int) : Nat := uN A (pbP A B room least) / uD B (pbP A B room least)
def pbE (A B room : Nat) (least : Int) : Bool := decide (uN A (pbP A B room least) % uD B (pbP A B room least) = 0)
theorem pbQ_lt {A B room : Nat} {least : Int} (lA : (natL A).length ≤ 256) (lB : (natL B).length ≤ 256) (hB : B ≠ 0) : pbQ A B room least < 2 ^ (room + 1) := quo_lt lA lB hB (by unfold pbP; omega)
theorem small_natL {v : Nat} (h : v < 18446744073709551616) : smallV (natL v) = v := by
  have e : (65536 : Nat) ^ 4 = 18446744073709551616 := by decide
  have l4 : (natL v).length ≤ 4 := natL_len.2 (by omega)
  have hb : smallB (natL v) = true := by
    unfold smallB
    rw [okF (by omega), decide_eq_true l4]
    rfl
  unfold smallV
  rw [if_pos hb, val_natL]
end Go.Proofs.YtgoffjpfddmhhaaGreatDoor

/- The greatest number of so many bits that is not above a fraction, by the program. Conditions: digits in their form, of 256 at most; nothing below the line but not 0. -/
namespace Go.Proofs.YtgoffjpfddmhhaaGreatDoor
open Go.RowKit
set_option linter.unusedVariables false
set_option maxRecDepth 100000

theorem u64_and1 (q : Nat) (h : q < 18446744073709551616) : bits .and .u64 (q : Int) 1 = ((q % 2 : Nat) : Int) := by
  rw [u64_and q 1 (by omega) (by omega) (by omega) (by omega)]
  have e3 : ∀ x : Nat, x &&& 1 = x % 2 := fun x => Nat.and_two_pow_sub_one_eq_mod x 1
  have e1 : (1 : Int).toNat = 1 := rfl
  rw [e1, e3, Int.toNat_natCast]
/-- what partBelow answers -/
def pbS (A B room : Nat) (least : Int) : Nat := if pbQ A B room least / 2 ^ room = 0 then pbQ A B room least else pbQ A B room least / 2
def pbW (A B room : Nat) (least : Int) : Int := if pbQ A B room least / 2 ^ room = 0 then pbP A B room least else pbP A B room least + 1
def pbX (A B room : Nat) (least : Int) : Bool := if pbQ A B room least / 2 ^ room = 0 then pbE A B room least else (pbE A B room least && decide (pbQ A B room least % 2 = 0))
theorem resPB {W : World} {b : Nat} {v0 v1 v2 r : Value} {tmps : Array Value} (h : Cel3 W b v0 v1 v2) (ht : tmps[6]? = some (.pointer (some ⟨b, 0, none⟩))) (h3 : tmps[7]? = some r) : (results Tryz.f164 tmps).run Tryz.prog W = .ok (.tuple #[.agg #[v0, v1, v2], r]) W := by
  obtain ⟨-, ⟨a0, a1, a2⟩, -⟩ := h
  simp [results, Tryz.results164, go_sem, a0, a1, a2, ht, h3]
set_option maxHeartbeats 4000000 in
theorem iPartBelow (a b : Option Addr) (ca cb A B room : Nat) (least : Int) (w : World) (hA : InI w a (natL A).length ca (natL A)) (hB : InI w b (natL B).length cb (natL B)) (lA : (natL A).length ≤ 256) (lB : (natL B).length ≤ 256) (hB0 : B ≠ 0) (hr : room ≤ 60) (hl : -3000 ≤ least ∧ least ≤ 3000) :
    Calls Tryz.prog 164 #[.agg #[.slice a (natL A).length ca, .slice b (natL B).length cb], .int .i64 (room : Int), .int .i64 least] w fun e w' => e = .returned (.tuple #[.agg #[.bool false, .int .u64 (pbS A B room least : Nat), .int .i64 (pbW A B room least)], .bool (pbX A B room least)]) ∧ Below w.heap.size w w' := by
  have e0 : Below w.heap.size w ((w.alloc (.cells #[.slice a (natL A).length ca, .slice b (natL B).length cb] 82)).alloc (.cells #[.bool false, .int .u64 0, .int .i64 0] 73)) := (by repeat (first | exact Below.refl _ _ | refine Below.drew ?_ | refine old_alloc ?_ _ | refine old_trans ?_ (by assumption)))
  have K := Cel3.new (w.alloc (.cells #[.slice a (natL A).length ca, .slice b (natL B).length cb] 82)) (.bool false) (.int .u64 0) (.int .i64 0) 73
  simp only [World.size_alloc] at K
  have hS : ((w.alloc (.cells #[.slice a (natL A).length ca, .slice b (natL B).length cb] 82)).alloc (.cells #[.bool false, .int .u64 0, .int .i64 0] 73)).cell? ⟨w.heap.size, 0, none⟩ = some (.slice a (natL A).length ca) ∧ ((w.alloc (.cells #[.slice a (natL A).length ca, .slice b (natL B).length cb] 82)).alloc (.cells #[.bool false, .int .u64 0, .int .i64 0] 73)).cell? ⟨w.heap.size, 1, none⟩ = some (.slice b (natL B).length cb) := by simp
  have bA := bl_bd lA
  have bB := bl_bd lB
  have LA := hd (fun w h => iLength a (natL A).length ca (natL A) w h (digs_natL A) (by omega))
  have LB := hd (fun w h => iLength b (natL B).length cb (natL B) w h (digs_natL B) (by omega))
  have hP : Hid (pbP A B room least = max (bl A - bl B - room) least) := rfl
  have hP2 : -16000 ≤ pbP A B room least ∧ pbP A B room least ≤ 16000 := by unfold pbP; omega
  have UN : Hid (∀ w, InI w a (natL A).length ca (natL A) → InI w b (natL B).length cb (natL B) → Calls Tryz.prog 171 #[.agg #[.slice a (natL A).length ca, .slice b (natL B).length cb], .int .i64 (pbP A B room least)] w fun e w' => (∃ av cv, e = .returned (.tuple #[.slice av (natL (pbQ A B room least)).length cv, .bool (pbE A B room least)]) ∧ OI w' w.heap.size av cv (natL (pbQ A B room least))) ∧ Below w.heap.size w w') := hd (fun w h1 h2 => iUnits a b ca cb A B (pbP A B room least) w h1 h2 (by omega) (by omega) hB0 hP2)
  have hQ : pbQ A B room least < 18446744073709551616 := by
    have h1 := pbQ_lt (room := room) (least := least) lA lB hB0
    have h2 : 2 ^ (room + 1) ≤ 2 ^ 61 := two_bd (by omega)
    have h3 : (2 : Nat) ^ 61 = 2305843009213693952 := by decide
    omega
  have NS := hd (fun a c w h => iNatSmall a (natL (pbQ A B room least)).length c (natL (pbQ A B room least)) w h)
  rw [small_natL hQ] at NS
  unfold pbS pbW pbX
  generalize pbQ A B room least = Q at *
  generalize pbP A B room least = P at *
  generalize pbE A B room least = E at *
  clear lA lB hB0
  by_cases c : Q / 2 ^ room = 0
  · have hz : Q / 2 ^ room = 0 := c
    have hsh : Op.shift .shr .u64 (Q : Int) .i64 (room : Int) = pure (.int .u64 0) := by
      have h := shr_u64 Q room 0 c (by omega)
      exact h
    have hdv : (Q : Int) / 2 ^ room = 0 := div_pow (o := 0) c
    rw [if_pos c, if_pos c, if_pos c]
    go_enter Tryz.func164, Tryz.ntmps164
    go_upto_region 1 with fail
    generalize (w.alloc (.cells #[.slice a (natL A).length ca, .slice b (natL B).length cb] 82)).alloc (.cells #[.bool false, .int .u64 0, .int .i64 0] 73) = W at *
    go_cut [8] (fun s wx => s = .int .i64 P ∧ (wx.cell? ⟨w.heap.size, 0, none⟩ = some (.slice a (natL A).length ca) ∧ wx.cell? ⟨w.heap.size, 1, none⟩ = some (.slice b (natL B).length cb)) ∧ Cel3 wx (w.heap.size + 1) (.bool false) (.int .u64 0) (.int .i64 0) ∧ Below w.heap.size w wx)
    case first =>
      have I1 := hA.old e0
      have I2 := hB.old e0
      unfold bl at bA bB hP
      clear hsh hdv UN NS
      generalize bitsN (natL A) = x at *
      generalize bitsN (natL B) = y at *
      have q1 : IntKind.i64.wrap (x - y) = x - y := by simp [IntKind.wrap, IntKind.bits, IntKind.signed]; omega
      have q2 : IntKind.i64.wrap (x - y - (room : Int)) = x - y - room := by simp [IntKind.wrap, IntKind.bits, IntKind.signed]; omega
      obtain ⟨h0, h1⟩ := id hS
      go_wp2_with fail
      go_region_with (first | (go_at_call_of 89 (Value.slice a (natL A).length ca); refine (LA.out _ (by first | exact I1 | exact InI.old (w := World.drew _) I1 (Below.refl _ _))).mono ?_; rintro e wx ⟨rfl, rfl⟩) | (go_at_call_of 89 (Value.slice b (natL B).length cb); refine (LB.out _ (by first | exact I2 | exact InI.old (w := World.drew _) I2 (Below.refl _ _))).mono ?_; rintro e wx ⟨rfl, rfl⟩))
      all_goals
        go_wp2_with fail
        go_meet
        exact ⟨by rw [hP.out], hS, K, (by first | exact e0 | exact Below.drew e0)⟩
    case rest =>
      obtain ⟨rfl, hS, K, hB1⟩ := hcut
      clear LA LB e0
      obtain ⟨h0, h1⟩ := id hS
      have q3 : IntKind.i64.wrap (P + 1) = P + 1 := by simp [IntKind.wrap, IntKind.bits, IntKind.signed]; omega
      go_wp2_with fail
      refine (UN.out _ (hA.old hB1) (hB.old hB1)).mono ?_
      rintro e w2 ⟨⟨av, cv, rfl, O⟩, hb2⟩
      replace K := K.old hb2
      have hB2 := old_trans hB1 hb2
      clear hb2 h0 h1 hS UN hB1
      go_wp2_with fail
      refine (NS.out _ _ _ O.inI).mono ?_
      rintro e w3 ⟨rfl, hb3⟩
      replace K := K.old hb3
      have hB3 := old_trans hB2 hb3
      obtain ⟨k1, ⟨k2, k3, k4⟩, k5, k6, k7⟩ := id K
      clear hb3 hB2 O NS
      go_wp2
      exact bodyPost_ret (resPB (K.setAll (.bool false) (.int .u64 (Q : Int)) (.int .i64 P)) rfl rfl) rfl ⟨rfl, below_set (below_set (below_set hB3 (by omega) _) (by omega) _) (by omega) _⟩
  · have hsh := shr_u64 Q room (Q / 2 ^ room) rfl (by omega)
    have hdv := div_pow (s := Q) (ee := room) rfl
    have hpos : (0 : Int) < ((Q / 2 ^ room : Nat) : Int) := Int.ofNat_lt.2 (Nat.pos_of_ne_zero c)
    have hn1 := u64_and1 Q hQ
    have hq := hd (show ((Q / 2 : Nat) : Int) = (Q : Int) / 2 by omega)
    rw [if_neg c, if_neg c, if_neg c]
    clear c
    generalize Q / 2 ^ room = o at *
    go_enter Tryz.func164, Tryz.ntmps164
    go_upto_region 1 with fail
    generalize (w.alloc (.cells #[.slice a (natL A).length ca, .slice b (natL B).length cb] 82)).alloc (.cells #[.bool false, .int .u64 0, .int .i64 0] 73) = W at *
    go_cut [8] (fun s wx => s = .int .i64 P ∧ (wx.cell? ⟨w.heap.size, 0, none⟩ = some (.slice a (natL A).length ca) ∧ wx.cell? ⟨w.heap.size, 1, none⟩ = some (.slice b (natL B).length cb)) ∧ Cel3 wx (w.heap.size + 1) (.bool false) (.int .u64 0) (.int .i64 0) ∧ Below w.heap.size w wx)
    case first =>
      have I1 := hA.old e0
      have I2 := hB.old e0
      unfold bl at bA bB hP
      clear hsh hdv UN NS
      generalize bitsN (natL A) = x at *
      generalize bitsN (natL B) = y at *
      have q1 : IntKind.i64.wrap (x - y) = x - y := by simp [IntKind.wrap, IntKind.bits, IntKind.signed]; omega
      have q2 : IntKind.i64.wrap (x - y - (room : Int)) = x - y - room := by simp [IntKind.wrap, IntKind.bits, IntKind.signed]; omega
      obtain ⟨h0, h1⟩ := id hS
      go_wp2_with fail
      go_region_with (first | (go_at_call_of 89 (Value.slice a (natL A).length ca); refine (LA.out _ (by first | exact I1 | exact InI.old (w := World.drew _) I1 (Below.refl _ _))).mono ?_; rintro e wx ⟨rfl, rfl⟩) | (go_at_call_of 89 (Value.slice b (natL B).length cb); refine (LB.out _ (by first | exact I2 | exact InI.old (w := World.drew _) I2 (Below.refl _ _))).mono ?_; rintro e wx ⟨rfl, rfl⟩))
      all_goals
        go_wp2_with fail
        go_meet
        exact ⟨by rw [hP.out], hS, K, (by first | exact e0 | exact Below.drew e0)⟩
    case rest =>
      obtain ⟨rfl, hS, K, hB1⟩ := hcut
      clear LA LB e0
      obtain ⟨h0, h1⟩ := id hS
      have q3 : IntKind.i64.wrap (P + 1) = P + 1 := by simp [IntKind.wrap, IntKind.bits, IntKind.signed]; omega
      go_wp2_with fail
      refine (UN.out _ (hA.old hB1) (hB.old hB1)).mono ?_
      rintro e w2 ⟨⟨av, cv, rfl, O⟩, hb2⟩
      replace K := K.old hb2
      have hB2 := old_trans hB1 hb2
      clear hb2 h0 h1 hS UN hB1
      go_wp2_with fail
      refine (NS.out _ _ _ O.inI).mono ?_
      rintro e w3 ⟨rfl, hb3⟩
      replace K := K.old hb3
      have hB3 := old_trans hB2 hb3
      obtain ⟨k1, ⟨k2, k3, k4⟩, k5, k6, k7⟩ := id K
      clear hb3 hB2 O NS
      cases E
      · go_wp2
        exact bodyPost_ret (resPB (K.setAll (.bool false) (.int .u64 ((Q : Int) / 2)) (.int .i64 (P + 1))) rfl rfl) rfl ⟨by rw [hq.out]; rfl, below_set (below_set (below_set hB3 (by omega) _) (by omega) _) (by omega) _⟩
      · by_cases t2 : Q % 2 = 0
        · have t3 : (((Q % 2 : Nat) : Int) == 0) = true := by rw [t2]; rfl
          rw [t2] at hn1
          go_wp2
          exact bodyPost_ret (resPB (K.setAll (.bool false) (.int .u64 ((Q : Int) / 2)) (.int .i64 (P + 1))) rfl rfl) rfl ⟨by rw [hq.out, decide_eq_true t2]; rfl, below_set (below_set (below_set hB3 (by omega) _) (by omega) _) (by omega) _⟩
        · have t2' : Q % 2 = 1 := by omega
          rw [t2'] at hn1
          go_wp2
          exact bodyPost_ret (resPB (K.setAll (.bool false) (.int .u64 ((Q : Int) / 2)) (.int .i64 (P + 1))) rfl rfl) rfl ⟨by rw [hq.out, decide_eq_false t2]; rfl, below_set (below_set (below_set hB3 (by omega) _) (by omega) _) (by omega) _⟩
end Go.Proofs.YtgoffjpfddmhhaaGreatDoor
