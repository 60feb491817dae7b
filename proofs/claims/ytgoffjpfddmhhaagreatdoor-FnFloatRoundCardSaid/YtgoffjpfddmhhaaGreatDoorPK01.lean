/- Lists of whole numbers: what lies in memory, what a law's own copy, comparison, mark and look do. Conditions: lists of 2^20 numbers at most. -/
import Derived.Test.YtgoffjpfddmhhaaGreatDoorRows
import Derived.WalkKit
import Derived.WalkSpells
import Derived.WalkLawsBesides
import Derived.ProofKit
import Derived.OpenShut
import Derived.OwnWalk
import Derived.BigQuiet
import Derived.Deep.QuietTactic
import Derived.RangeFuncBox
import Derived.Maps.AppendAt
import Derived.Lib.SmallJoins
import Derived.ChangeOld
import Derived.ShutString
import Derived.Laws.BitsAllLaws
namespace Go.Proofs.YtgoffjpfddmhhaaGreatDoor
open Go.ChangeShapes Go.WideShapes Go.ChangeAt Go.RowKit
set_option linter.unusedVariables false
set_option maxRecDepth 100000

theorem hd {p : Prop} (h : p) : Hid p := h
theorem old_alloc {a b : World} (h : Below a.heap.size a b) (o : Obj) : Below a.heap.size a (b.alloc o) := h.alloc h.size o
theorem old_trans {a b c : World} (h : Below a.heap.size a b) (k : Below b.heap.size b c) : Below a.heap.size a c := h.trans (k.mono h.size)
theorem grown_set {w w' : World} {b : Nat} (h : w.grownBy w' (some b)) (i : Nat) (v : Value) : w.grownBy (w'.setCell ⟨b, i, none⟩ v) (some b) :=
  ⟨h.os, h.tape, h.output, by simpa [World.setCell] using h.size, fun k hk hne => (Below.heap_setCell _ _ _ _ (by intro e; exact hne (by rw [e]))).trans (h.block k hk hne)⟩
theorem grown_below {w w' : World} (h : Below w.heap.size w w') : w.grownBy w' none := ⟨h.1, h.2, h.3, h.4, fun k hk _ => h.5 k hk⟩

/-- numbers in a block of their own -/
def IRow (w : World) (b : Nat) (xs : List Int) : Prop :=
  b < w.heap.size ∧ ∀ i, i < xs.length → w.cell? ⟨b, i, none⟩ = some (.int .i64 (xs.getD i 0)) ∧ w.frozen? ⟨b, i, none⟩ = false
def IFits (xs : List Int) : Prop := ∀ x ∈ xs, -9223372036854775808 ≤ x ∧ x ≤ 9223372036854775807
/-- numbers that lie somewhere -/
def InI (w : World) (a : Option Addr) (len cap : Nat) (xs : List Int) : Prop :=
  xs.length = len ∧ len ≤ cap ∧ cap ≤ maxLen ∧ IFits xs ∧
  (len = 0 ∨ ∃ b off : Nat, a = some ⟨b, off, none⟩ ∧ b < w.heap.size ∧ ∀ i, i < len → w.cell? ⟨b, off + i, none⟩ = some (.int .i64 (xs.getD i 0)))
theorem InI.old {w w' : World} {a : Option Addr} {len cap : Nat} {xs : List Int} (h : InI w a len cap xs) (b : Below w.heap.size w w') : InI w' a len cap xs := by
  obtain ⟨h1, h2, h3, h4, h5⟩ := h
  refine ⟨h1, h2, h3, h4, ?_⟩
  rcases h5 with h5 | ⟨bb, off, q1, q2, q3⟩
  · exact .inl h5
  · exact .inr ⟨bb, off, q1, Nat.lt_of_lt_of_le q2 b.size, fun i hi => (b.cell (p := ⟨bb, off + i, none⟩) q2).trans (q3 i hi)⟩
theorem InI.alloc {w : World} {a : Option Addr} {len cap : Nat} {xs : List Int} (h : InI w a len cap xs) (o : Obj) : InI (w.alloc o) a len cap xs := h.old ((Below.refl _ _).alloc (Nat.le_refl _) o)
theorem InI.drew {w : World} {a : Option Addr} {len cap : Nat} {xs : List Int} (h : InI w a len cap xs) : InI w.drew a len cap xs := h
theorem getD_mem {xs : List Int} {k : Nat} (hk : k < xs.length) : xs.getD k 0 ∈ xs := by
  have e2 : xs.getD k 0 = xs[k]'hk := by rw [List.getD_eq_getElem?_getD, List.getElem?_eq_getElem hk]; rfl
  rw [e2]
  exact List.getElem_mem _
theorem InI.at {w : World} {a : Option Addr} {len cap : Nat} {xs : List Int} (h : InI w a len cap xs) {k : Nat} (hk : k < len) : ∃ (b off : Nat) (x : Int), a = some ⟨b, off, none⟩ ∧ b < w.heap.size ∧ xs.getD k 0 = x ∧ (-9223372036854775808 ≤ x ∧ x ≤ 9223372036854775807) ∧ w.cell? ⟨b, off + k, none⟩ = some (.int .i64 x) := by
  rcases h.2.2.2.2 with h0 | ⟨b, off, e, hb, hc⟩
  · omega
  · exact ⟨b, off, _, e, hb, rfl, h.2.2.2.1 _ (getD_mem (by rw [h.1]; exact hk)), hc k hk⟩
theorem InI.kept {w w' : World} {a : Option Addr} {len cap : Nat} {xs : List Int} {row : Option Nat} (h : InI w a len cap xs) (g : w.grownBy w' row) (hne : 0 < len → ∀ q, a = some q → some q.block ≠ row) : InI w' a len cap xs := by
  obtain ⟨h1, h2, h3, h4, h5⟩ := h
  refine ⟨h1, h2, h3, h4, ?_⟩
  by_cases h0 : len = 0
  · exact .inl h0
  rcases h5 with h5 | ⟨b, off, q1, q2, q3⟩
  · exact .inl h5
  · refine .inr ⟨b, off, q1, Nat.lt_of_lt_of_le q2 g.size, fun i hi => ?_⟩
    have e := g.block b q2 (hne (by omega) _ q1)
    exact (World.cell?_of_block (a := ⟨b, off + i, none⟩) e).trans (q3 i hi)
theorem InI.far {w : World} {a : Option Addr} {len cap : Nat} {xs : List Int} (h : InI w a len cap xs) : 0 < len → ∀ q, a = some q → q.block < w.heap.size := by
  intro h0 q e
  rcases h.2.2.2.2 with h5 | ⟨b, off, q1, q2, -⟩
  · omega
  · rw [q1] at e; cases e; exact q2
theorem InI.len {w : World} {a : Option Addr} {len cap : Nat} {xs : List Int} (h : InI w a len cap xs) : len ≤ 9223372036854775807 := by
  have := Nat.le_trans h.2.1 h.2.2.1
  unfold maxLen at this
  omega
theorem IRow.old {w w' : World} {b : Nat} {xs : List Int} (h : IRow w b xs) (k : Below w.heap.size w w') : IRow w' b xs :=
  ⟨Nat.lt_of_lt_of_le h.1 k.size, fun i hi => ⟨(k.cell (p := ⟨b, i, none⟩) h.1).trans (h.2 i hi).1, (k.frozen (p := ⟨b, i, none⟩) h.1).trans (h.2 i hi).2⟩⟩
theorem IRow.inI {w : World} {b cap : Nat} {xs : List Int} (h : IRow w b xs) (f : IFits xs) (h1 : xs.length ≤ cap) (h2 : cap ≤ maxLen) : InI w (some ⟨b, 0, none⟩) xs.length cap xs :=
  ⟨rfl, h1, h2, f, .inr ⟨b, 0, rfl, h.1, fun i hi => by rw [Nat.zero_add]; exact (h.2 i hi).1⟩⟩
theorem IRow.at {w : World} {b : Nat} {xs : List Int} (h : IRow w b xs) {k : Nat} (hk : k < xs.length) : ∃ x : Int, xs.getD k 0 = x ∧ w.cell? ⟨b, k, none⟩ = some (.int .i64 x) ∧ w.frozen? ⟨b, k, none⟩ = false := ⟨_, rfl, (h.2 k hk).1, (h.2 k hk).2⟩
theorem IRow.set {w : World} {b : Nat} {xs : List Int} (h : IRow w b xs) (k : Nat) (hk : k < xs.length) (x : Int) : IRow (w.setCell ⟨b, k, none⟩ (.int .i64 x)) b (xs.set k x) := by
  refine ⟨by simpa [World.setCell] using h.1, fun i hi => ?_⟩
  rw [List.length_set] at hi
  obtain ⟨h1, h3⟩ := h.2 i hi
  by_cases e : i = k
  · subst e
    have eg : (xs.set i x).getD i 0 = x := by simp [List.getD_eq_getElem?_getD, hk]
    rw [eg]
    exact ⟨World.cell?_setCell_same _ _ _ h1, by simpa using h3⟩
  · have eg : (xs.set k x).getD i 0 = xs.getD i 0 := by simp [List.getD_eq_getElem?_getD, Ne.symm e]
    rw [eg]
    refine ⟨?_, by simpa using h3⟩
    rw [World.cell?_setCell_other _ _ _ _ (by intro h; injection h with _ h2; omega)]; exact h1
theorem IRow.kept {w w' : World} {c : Nat} {xs : List Int} {row : Option Nat} (h : IRow w c xs) (g : w.grownBy w' row) (hne : some c ≠ row) : IRow w' c xs := by
  refine ⟨Nat.lt_of_lt_of_le h.1 g.size, fun i hi => ?_⟩
  have e := g.block c h.1 hne
  exact ⟨(World.cell?_of_block (a := ⟨c, i, none⟩) e).trans (h.2 i hi).1, (World.frozen?_of_block (a := ⟨c, i, none⟩) e).trans (h.2 i hi).2⟩
theorem IRow.made (w : World) (n : Nat) (t : TypeId) : IRow (w.alloc (.cells (madeCells #[.int .i64 0] (n * 1)) t)) w.heap.size (List.replicate n 0) := by
  refine ⟨by simp, fun i hi => ?_⟩
  rw [List.length_replicate] at hi
  have eg : (List.replicate n (0 : Int)).getD i 0 = 0 := by simp [List.getD_eq_getElem?_getD, hi]
  rw [eg]
  have e0 : (madeCells #[Value.int IntKind.i64 0] (n * 1))[i]? = some (.int .i64 0) := by
    simp [madeCells, show i < n by omega, Nat.mod_one]
  exact ⟨by simpa using e0, by simp⟩

theorem infoInt : (Tryz.prog.info? 3).map (fun i => (i.zero, i.size, i.bytes)) = some (some (.int .i64 0), 1, 8) := by kernel_rfl
theorem mkInts (w : World) (n : Nat) (hn : n ≤ 1048577) : (Instr.makeSlice 23 (.int .i64 (n : Int)) (.int .i64 (n : Int))).run Tryz.prog w = .ok (.slice (some ⟨w.heap.size, 0, none⟩) n n) (w.alloc (.cells (madeCells #[.int .i64 0] (n * 1)) 3)) := by
  obtain ⟨i, h1, h2, h3, h4⟩ := info_parts infoInt
  have h := run_make (P := Tryz.prog) w 23 3 i _ Tryz.underlying23 h1 h2 .i64 .i64 n n (by omega) (by omega) (by rw [h4]; omega) (by omega)
  rw [h3] at h
  exact h

/-- the first k numbers are these -/
def IUpto (k : Nat) (qs xs : List Int) : Prop := qs.length = xs.length ∧ ∀ i, i < k → qs.getD i 0 = xs.getD i 0
theorem IUpto.zero {qs xs : List Int} (hp : qs.length = xs.length) : IUpto 0 qs xs := ⟨hp, fun i h => by omega⟩
theorem IUpto.step {k : Nat} {qs xs : List Int} (h : IUpto k qs xs) (hk : k < xs.length) : IUpto (k + 1) (qs.set k (xs.getD k 0)) xs := by
  refine ⟨by simpa using h.1, fun i hi => ?_⟩
  by_cases e : i = k
  · subst e; simp [List.getD_eq_getElem?_getD, h.1, hk]
  · rw [← h.2 i (by omega)]; simp [List.getD_eq_getElem?_getD, Ne.symm e]
theorem IUpto.all {qs xs : List Int} (h : IUpto xs.length qs xs) : qs = xs := by
  apply List.ext_getElem h.1
  intro i h1 h2
  have := h.2 i h2
  simpa [List.getD_eq_getElem?_getD, h1, h2] using this

section
variable {H : Type} {enc : TypeId × Value → H} {w : World} {base : Nat}
end
end Go.Proofs.YtgoffjpfddmhhaaGreatDoor

/- What a number is, by the specification and by the program; nothing is written. No condition. -/
namespace Go.Proofs.YtgoffjpfddmhhaaGreatDoor
open Go.RowKit
set_option linter.unusedVariables false
set_option maxRecDepth 100000

theorem retB {b c : Bool} (h : c = b) : Ending.returned (.bool b) = .returned (.bool c) := by rw [h]
theorem retI {k : IntKind} {b c : Int} (h : c = b) : Ending.returned (.int k b) = .returned (.int k c) := by rw [h]
def dig (x : Int) : Prop := 0 ≤ x ∧ x < 65536
def digs (xs : List Int) : Prop := ∀ i, i < xs.length → dig (xs.getD i 0)
def natOk (xs : List Int) : Bool := decide (xs.length ≤ 256 ∧ (∀ i, i < xs.length → 0 ≤ xs.getD i 0 ∧ xs.getD i 0 < 65536) ∧ (xs.length = 0 ∨ xs.getD (xs.length - 1) 0 ≠ 0))
theorem natOk_in {xs : List Int} (h : natOk xs = true) : xs.length ≤ 256 ∧ digs xs ∧ (xs.length = 0 ∨ xs.getD (xs.length - 1) 0 ≠ 0) := by
  unfold natOk at h
  rw [decide_eq_true_eq] at h
  exact h
theorem natOk_mk {xs : List Int} (h1 : xs.length ≤ 256) (h2 : digs xs) (h3 : xs.length = 0 ∨ xs.getD (xs.length - 1) 0 ≠ 0) : natOk xs = true := by
  unfold natOk
  rw [decide_eq_true_eq]
  exact ⟨h1, h2, h3⟩
theorem natOk_long {xs : List Int} (h : ¬ xs.length ≤ 256) : natOk xs = false := by
  unfold natOk
  exact decide_eq_false (fun g => h g.1)
theorem natOk_bad {xs : List Int} {k : Nat} (hk : k < xs.length) (h : ¬ dig (xs.getD k 0)) : natOk xs = false := by
  unfold natOk
  exact decide_eq_false (fun g => h (g.2.1 k hk))
theorem natOk_last {xs : List Int} (h0 : xs.length ≠ 0) (h : xs.getD (xs.length - 1) 0 = 0) : natOk xs = false := by
  unfold natOk
  exact decide_eq_false (fun g => g.2.2.elim h0 (fun q => q h))

set_option maxHeartbeats 2000000 in
theorem sNatOk (a : Option Addr) (len cap : Nat) (xs : List Int) (w : World) (hR : InI w a len cap xs) :
    Calls Tryz.prog 62 #[.slice a len cap] w fun e w' => e = .returned (.bool (natOk xs)) ∧ w' = w := by
  have hlen := hR.len
  have hp := hR.1
  by_cases hl : len ≤ 256
  case neg =>
    rw [natOk_long (by omega)]
    go_enter Tryz.func62, Tryz.ntmps62
    go_wp2
    go_ret
    exact ⟨rfl, rfl⟩
  go_enter Tryz.func62, Tryz.ntmps62
  go_wp2
  go_loopw [3] (fun a wr => ∃ k : Nat, k ≤ len ∧ a = .int .i64 k ∧ (∀ i, i < k → dig (xs.getD i 0)) ∧ wr = w) (fun b _ => len - (intOf b).toNat)
  case atStart => exact ⟨0, by omega, rfl, fun i h => absurd h (by omega), rfl⟩
  case round =>
    obtain ⟨k, hk, rfl, hd0, rfl⟩ := hrel
    by_cases hlt : k < len
    · obtain ⟨b, off, x, rfl, hbl, hx, -, c0⟩ := hR.at hlt
      by_cases c1 : x < 0
      · go_wp2
        go_ret
        exact ⟨retB (natOk_bad (k := k) (by omega) (by rw [hx]; unfold dig; omega)), rfl⟩
      by_cases c2 : 65536 ≤ x
      · go_wp2
        go_ret
        exact ⟨retB (natOk_bad (k := k) (by omega) (by rw [hx]; unfold dig; omega)), rfl⟩
      go_wp2
      go_roundw
      case rel =>
        refine ⟨k + 1, by omega, by go_num, fun i hi => ?_, trivial⟩
        by_cases e : i = k
        · subst e; rw [hx]; unfold dig; omega
        · exact hd0 i (by omega)
      case measure => simp [intOf]; omega
    · obtain rfl : k = len := by omega
      by_cases h0 : k = 0
      · subst h0
        go_wp2
        go_ret
        exact ⟨retB (natOk_mk (by omega) (fun i hi => hd0 i (by omega)) (.inl hp)), rfl⟩
      obtain ⟨b, off, x, rfl, hbl, hx, -, c0⟩ := hR.at (k := k - 1) (by omega)
      have ek : ((k : Int) - 1) = ((k - 1 : Nat) : Int) := by omega
      by_cases c1 : x = 0
      · subst c1
        go_wp2
        go_ret
        exact ⟨retB ((natOk_last (xs := xs) (by omega) (by rw [hp]; exact hx)).trans (by simp; omega)), rfl⟩
      · go_wp2
        go_ret
        exact ⟨retB ((natOk_mk (by omega) (fun i hi => hd0 i (by omega)) (.inr (by rw [hp, hx]; exact c1))).trans (by simp [c1])), rfl⟩
set_option maxHeartbeats 2000000 in
theorem iNatOk (a : Option Addr) (len cap : Nat) (xs : List Int) (w : World) (hR : InI w a len cap xs) :
    Calls Tryz.prog 96 #[.slice a len cap] w fun e w' => e = .returned (.bool (natOk xs)) ∧ w' = w := by
  have hlen := hR.len
  have hp := hR.1
  by_cases hl : len ≤ 256
  case neg =>
    rw [natOk_long (by omega)]
    go_enter Tryz.func96, Tryz.ntmps96
    go_wp2
    go_ret
    exact ⟨rfl, rfl⟩
  by_cases h0 : len = 0
  · subst h0
    rw [natOk_mk (by omega) (fun i hi => absurd hi (by omega)) (.inl hp)]
    go_enter Tryz.func96, Tryz.ntmps96
    go_wp2
    go_loopw [24] (fun a wr => a = .int .i64 0 ∧ wr = w) (fun _ _ => 0)
    case atStart => exact ⟨rfl, rfl⟩
    case round =>
      obtain ⟨rfl, rfl⟩ := hrel
      go_wp2
      go_ret
      exact ⟨rfl, rfl⟩
  obtain ⟨b, off, x, rfl, hbl, hx, -, c0⟩ := hR.at (k := len - 1) (by omega)
  have ek : ((len : Int) - 1) = ((len - 1 : Nat) : Int) := by omega
  by_cases c1 : x = 0
  · subst c1
    rw [natOk_last (xs := xs) (by omega) (by rw [hp]; exact hx)]
    go_enter Tryz.func96, Tryz.ntmps96
    go_wp2
    go_ret
    exact ⟨rfl, rfl⟩
  go_enter Tryz.func96, Tryz.ntmps96
  have c1' : (x == 0) = false := by simpa using c1
  go_wp2
  go_loopw [24] (fun a wr => ∃ k : Nat, k ≤ len ∧ a = .int .i64 k ∧ (∀ i, i < k → dig (xs.getD i 0)) ∧ wr = w) (fun b _ => len - (intOf b).toNat)
  case atStart => exact ⟨0, by omega, rfl, fun i h => absurd h (by omega), rfl⟩
  case round =>
    obtain ⟨k, hk, rfl, hd0, rfl⟩ := hrel
    by_cases hlt : k < len
    · obtain ⟨b', off', y, he, -, hy, -, c2⟩ := hR.at hlt
      obtain ⟨rfl, rfl⟩ : b = b' ∧ off = off' := by injection he with he; injection he with h1 h2; exact ⟨h1, h2⟩
      clear he
      by_cases d1 : y < 0
      · go_wp2
        go_ret
        exact ⟨retB (natOk_bad (k := k) (by omega) (by rw [hy]; unfold dig; omega)), rfl⟩
      by_cases d2 : 65536 ≤ y
      · go_wp2
        go_ret
        exact ⟨retB (natOk_bad (k := k) (by omega) (by rw [hy]; unfold dig; omega)), rfl⟩
      go_wp2
      go_roundw
      case rel =>
        refine ⟨k + 1, by omega, by go_num, fun i hi => ?_, trivial⟩
        by_cases e : i = k
        · subst e; rw [hy]; unfold dig; omega
        · exact hd0 i (by omega)
      case measure => simp [intOf]; omega
    · obtain rfl : k = len := by omega
      go_wp2
      go_ret
      exact ⟨retB (natOk_mk (by omega) (fun i hi => hd0 i (by omega)) (.inr (by rw [hp, hx]; exact c1))), rfl⟩
end Go.Proofs.YtgoffjpfddmhhaaGreatDoor

/- Digits and the numbers that they are: mathematics alone. No condition. -/
namespace Go.Proofs.YtgoffjpfddmhhaaGreatDoor
set_option linter.unusedVariables false
set_option maxRecDepth 100000

theorem i64_mask (a : Int) : bits .and .i64 a 65535 = a % 65536 := by
  show IntKind.i64.wrap ((BitVec.ofInt 64 a &&& BitVec.ofInt 64 65535).toNat : Int) = _
  have e1 : (BitVec.ofInt 64 a).toNat = (a % 18446744073709551616).toNat := by rw [BitVec.toNat_ofInt]; rfl
  have e2 : (BitVec.ofInt 64 65535).toNat = 65535 := by decide
  rw [BitVec.toNat_and, e1, e2]
  have e3 : ∀ x : Nat, x &&& 65535 = x % 65536 := fun x => Nat.and_two_pow_sub_one_eq_mod x 16
  rw [e3]
  simp [IntKind.wrap, IntKind.bits, IntKind.signed]
  omega
theorem u64_mask (a : Int) (h0 : 0 ≤ a) (h1 : a < 18446744073709551616) : bits .and .u64 a 65535 = a % 65536 := by
  rw [u64_and a 65535 h0 h1 (by omega) (by omega)]
  have e3 : ∀ x : Nat, x &&& 65535 = x % 65536 := fun x => Nat.and_two_pow_sub_one_eq_mod x 16
  have : (65535 : Int).toNat = 65535 := rfl
  rw [this, e3]
  omega

/-- the number that digits are -/
def val : List Int → Nat
  | [] => 0
  | x :: xs => x.toNat + 65536 * val xs
theorem val_nil : val [] = 0 := rfl
theorem val_cons (x : Int) (xs : List Int) : val (x :: xs) = x.toNat + 65536 * val xs := rfl
theorem val_append (xs ys : List Int) : val (xs ++ ys) = val xs + 65536 ^ xs.length * val ys := by
  induction xs with
  | nil => simp [val]
  | cons x xs ih =>
    rw [List.cons_append, val_cons, ih, val_cons, List.length_cons, Nat.pow_succ, Nat.mul_add]
    have : 65536 * (65536 ^ xs.length * val ys) = 65536 ^ xs.length * 65536 * val ys := by rw [Nat.mul_comm (65536 ^ xs.length) 65536, Nat.mul_assoc]
    omega
theorem digs_nil : digs [] := fun i h => absurd h (by simp)
theorem digs_cons {x : Int} {xs : List Int} : digs (x :: xs) ↔ dig x ∧ digs xs := by
  constructor
  · intro h
    refine ⟨by simpa using h 0 (by simp), fun i hi => ?_⟩
    have := h (i + 1) (by simp; omega)
    simpa using this
  · rintro ⟨h1, h2⟩ i hi
    cases i with
    | zero => simpa using h1
    | succ i => simpa using h2 i (by simpa using hi)
theorem digs_append {xs ys : List Int} : digs (xs ++ ys) ↔ digs xs ∧ digs ys := by
  induction xs with
  | nil => simp [digs_nil]
  | cons x xs ih => rw [List.cons_append, digs_cons, digs_cons, ih, and_assoc]
theorem digs_fits {xs : List Int} (h : digs xs) : IFits xs := by
  intro x hx
  obtain ⟨i, hi, rfl⟩ := List.mem_iff_getElem.1 hx
  have := h i hi
  unfold dig at this
  rw [List.getD_eq_getElem?_getD, List.getElem?_eq_getElem hi] at this
  simp at this
  omega
theorem val_lt {xs : List Int} (h : digs xs) : val xs < 65536 ^ xs.length := by
  induction xs with
  | nil => simp [val]
  | cons x xs ih =>
    obtain ⟨h1, h2⟩ := digs_cons.1 h
    have := ih h2
    unfold dig at h1
    rw [val_cons, List.length_cons, Nat.pow_succ]
    omega

/-- the digits of a number, the lowest ahead, none needless -/
def natL (v : Nat) : List Int := if h : v = 0 then [] else ((v % 65536 : Nat) : Int) :: natL (v / 65536)
  termination_by v
  decreasing_by omega
theorem natL_zero : natL 0 = [] := by rw [natL]; simp
theorem natL_pos {v : Nat} (h : v ≠ 0) : natL v = ((v % 65536 : Nat) : Int) :: natL (v / 65536) := by rw [natL]; simp [h]
theorem val_natL (v : Nat) : val (natL v) = v := by
  induction v using Nat.strongRecOn with
  | _ v ih =>
    by_cases h : v = 0
    · subst h; rw [natL_zero]; rfl
    · rw [natL_pos h, val_cons, ih _ (by omega)]
      omega
theorem digs_natL (v : Nat) : digs (natL v) := by
  induction v using Nat.strongRecOn with
  | _ v ih =>
    by_cases h : v = 0
    · subst h; rw [natL_zero]; exact digs_nil
    · rw [natL_pos h, digs_cons]
      exact ⟨by unfold dig; omega, ih _ (by omega)⟩
/-- no needless nought at the top -/
def topped (xs : List Int) : Prop := xs.length = 0 ∨ xs.getD (xs.length - 1) 0 ≠ 0
theorem topped_nil : topped [] := .inl rfl
theorem topped_one {x : Int} : topped [x] ↔ x ≠ 0 := by unfold topped; simp
theorem topped_cons {x y : Int} {xs : List Int} : topped (x :: y :: xs) ↔ topped (y :: xs) := by
  unfold topped; simp
theorem natL_canon {xs : List Int} (h : digs xs) (t : topped xs) : natL (val xs) = xs := by
  induction xs with
  | nil => rw [val_nil, natL_zero]
  | cons x xs ih =>
    obtain ⟨h1, h2⟩ := digs_cons.1 h
    unfold dig at h1
    have hx : ((x.toNat % 65536 : Nat) : Int) = x := by omega
    cases xs with
    | nil =>
      have := topped_one.1 t
      rw [val_cons, val_nil, natL_pos (by omega)]
      rw [show (x.toNat + 65536 * 0) / 65536 = 0 by omega, natL_zero, show ((x.toNat + 65536 * 0) % 65536) = x.toNat % 65536 by omega, hx]
    | cons y ys =>
      have t2 := topped_cons.1 t
      have e := ih h2 t2
      have hv : val (y :: ys) ≠ 0 := by
        intro h0
        rw [h0, natL_zero] at e
        cases e
      rw [val_cons, natL_pos (by omega)]
      rw [show (x.toNat + 65536 * val (y :: ys)) / 65536 = val (y :: ys) by omega, e, show (x.toNat + 65536 * val (y :: ys)) % 65536 = x.toNat % 65536 by omega, hx]
theorem topped_natL (v : Nat) : topped (natL v) := by
  induction v using Nat.strongRecOn with
  | _ v ih =>
    by_cases h : v = 0
    · subst h; rw [natL_zero]; exact topped_nil
    · have e := ih (v / 65536) (by omega)
      rw [natL_pos h]
      by_cases h2 : v / 65536 = 0
      · rw [h2, natL_zero]; rw [topped_one]; omega
      · rw [natL_pos h2] at e ⊢
        rw [topped_cons]; exact e
theorem natOk_canon {xs : List Int} (h : natOk xs = true) : natL (val xs) = xs := natL_canon (natOk_in h).2.1 (natOk_in h).2.2
theorem natL_fits (v : Nat) : IFits (natL v) := digs_fits (digs_natL v)
theorem natL_len {v n : Nat} : (natL v).length ≤ n ↔ v < 65536 ^ n := by
  constructor
  · intro h
    have h1 := val_lt (digs_natL v)
    rw [val_natL] at h1
    exact Nat.lt_of_lt_of_le h1 (Nat.pow_le_pow_right (by omega) h)
  · induction n generalizing v with
    | zero => intro h; have : v = 0 := by omega
              subst this; rw [natL_zero]; simp
    | succ n ih =>
      intro h
      by_cases h0 : v = 0
      · subst h0; rw [natL_zero]; simp
      · rw [natL_pos h0, List.length_cons]
        have := ih (v := v / 65536) (by rw [Nat.pow_succ] at h; omega)
        omega
theorem natOk_natL {v : Nat} (h : v < 65536 ^ 256) : natOk (natL v) = true := natOk_mk (natL_len.2 h) (digs_natL v) (topped_natL v)
theorem natOk_lt {xs : List Int} (h : natOk xs = true) : val xs < 65536 ^ 256 := by
  have := (natOk_in h).1
  exact Nat.lt_of_lt_of_le (val_lt (natOk_in h).2.1) (Nat.pow_le_pow_right (by omega) this)
theorem digs_zero {xs : List Int} (h : ∀ i, i < xs.length → xs.getD i 0 = 0) : val xs = 0 := by
  induction xs with
  | nil => rfl
  | cons x xs ih =>
    have h0 := h 0 (by simp)
    have h1 := ih (fun i hi => by have := h (i + 1) (by simp; omega); simpa using this)
    simp at h0
    rw [val_cons, h1, h0]; rfl
/-- noughts at the top fall away -/
theorem trim_natL {xs : List Int} {n : Nat} (hd : digs xs) (hn : n ≤ xs.length) (hz : ∀ i, n ≤ i → i < xs.length → xs.getD i 0 = 0) (ht : n = 0 ∨ xs.getD (n - 1) 0 ≠ 0) : xs.take n = natL (val xs) := by
  have hsplit : xs.take n ++ xs.drop n = xs := List.take_append_drop n xs
  have hv : val xs = val (xs.take n) := by
    have h2 : val (xs.drop n) = 0 := by
      apply digs_zero
      intro i hi
      rw [List.length_drop] at hi
      have := hz (n + i) (by omega) (by omega)
      simpa [List.getD_eq_getElem?_getD] using this
    rw [← hsplit, val_append, h2, hsplit]; omega
  have hdt : digs (xs.take n) := (digs_append.1 (by rw [hsplit]; exact hd)).1
  rw [hv]
  refine (natL_canon hdt ?_).symm
  unfold topped
  rw [List.length_take, Nat.min_eq_left hn]
  rcases ht with h | h
  · exact .inl h
  · by_cases h0 : n = 0
    · exact .inl h0
    · refine .inr ?_
      simpa [List.getD_eq_getElem?_getD, show n - 1 < n by omega] using h
end Go.Proofs.YtgoffjpfddmhhaaGreatDoor

/- Lists of whole numbers in memory of their own: those that grow by append, those that were made; what a mark leaves. No condition. -/
namespace Go.Proofs.YtgoffjpfddmhhaaGreatDoor
open Go.RowKit
set_option linter.unusedVariables false
set_option maxRecDepth 100000

def ints (xs : List Int) : List Value := xs.map (fun x => .int .i64 x)
theorem ints_length (xs : List Int) : (ints xs).length = xs.length * 1 := by simp [ints]
theorem ints_snoc (xs : List Int) (x : Int) : ints (xs ++ [x]) = ints xs ++ [.int .i64 x] := by simp [ints]
theorem ints_get {xs : List Int} {i : Nat} (h : i < xs.length) : (ints xs)[i]? = some (.int .i64 (xs.getD i 0)) := by
  simp [ints, List.getD_eq_getElem?_getD, h]
/-- a list that is being made -/
def IGrows (w : World) (base : Nat) (v : Value) (xs : List Int) : Prop := w.ownsRow base 3 1 v xs.length (ints xs)
theorem IGrows.nil (w : World) (base : Nat) : IGrows w base (.slice none 0 0) [] := World.ownsRow_nil w base _ _
theorem IGrows.kept {w w' : World} {base : Nat} {v : Value} {xs : List Int} {row : Option Nat} (h : IGrows w base v xs) (g : w.grownBy w' row) (hne : ∀ b, row = some b → b < base) : IGrows w' base v xs := by
  refine World.ownsRow.kept h g ?_
  cases hv : v.ownBlock with
  | none => exact .inl rfl
  | some k =>
    refine .inr (fun e => ?_)
    have := hne k e.symm
    have := (World.ownsRow.lt h k hv).1
    omega
theorem IGrows.later {w w' : World} {base : Nat} {v : Value} {xs : List Int} (h : IGrows w base v xs) (g : Below w.heap.size w w') : IGrows w' base v xs := h.kept (grown_below g) (by simp)
theorem IGrows.alloc {w : World} {base : Nat} {v : Value} {xs : List Int} (h : IGrows w base v xs) (o : Obj) : IGrows (w.alloc o) base v xs := h.later ((Below.refl _ _).alloc (Nat.le_refl _) o)
theorem IGrows.far {w : World} {base : Nat} {v : Value} {xs : List Int} (h : IGrows w base v xs) {c : Nat} (hc : c < base) : some c ≠ v.ownBlock := fun e => by have := (World.ownsRow.lt h c e.symm).1; omega
theorem IGrows.row {w : World} {base : Nat} {v : Value} {xs : List Int} (h : IGrows w base v xs) (hp : 0 < xs.length) : ∃ g cap, v = .slice (some ⟨g, 0, none⟩) xs.length cap ∧ base ≤ g ∧ xs.length ≤ cap ∧ cap ≤ maxLen ∧ IRow w g xs := by
  have h' := h
  rcases h.2 with ⟨_, h0⟩ | ⟨g, cap, cur, rfl, hb, hg, h1, h2, -, -⟩
  · omega
  refine ⟨g, cap, rfl, hb, h1, h2, (Array.getElem?_eq_some_iff.1 hg).1, fun i hi => ?_⟩
  exact ⟨(World.ownsRow.cellAt h' i (by omega)).trans (ints_get hi), World.ownsRow.frozenAt h' _⟩
theorem IGrows.none {w : World} {base : Nat} {v : Value} (h : IGrows w base v []) : ∃ av cv, v = .slice av 0 cv := by
  rcases h.2 with ⟨h0, _⟩ | ⟨g, cap, cur, rfl, hb, hg, h1, h2, -, -⟩
  · exact ⟨_, _, h0⟩
  · exact ⟨_, _, rfl⟩
theorem cells_one (w : World) (b : Nat) (hb : b = w.heap.size) (x : Value) (t : TypeId) : ∀ j u, [x][j]? = some u → (w.alloc (.cells #[x] t)).cell? ((⟨b, 0, none⟩ : Addr).add j) = some u := by
  subst hb
  intro j u h
  match j, h with
  | 0, h => simp at h; subst h; simp [Addr.add]
  | j + 1, h => simp at h

/-- numbers in memory of their own, at or beyond base; or none -/
def OI (w : World) (base : Nat) (av : Option Addr) (cv : Nat) (xs : List Int) : Prop :=
  IFits xs ∧ xs.length ≤ cv ∧ cv ≤ maxLen ∧ ((av = none ∧ xs = []) ∨ ∃ g, av = some ⟨g, 0, none⟩ ∧ base ≤ g ∧ IRow w g xs)
theorem fits_nil : IFits [] := fun p hp => absurd hp (by simp)
theorem OI.none (w : World) (base : Nat) : OI w base none 0 [] := ⟨fits_nil, Nat.le_refl _, Nat.zero_le _, .inl ⟨rfl, rfl⟩⟩
theorem IGrows.oi {w : World} {base : Nat} {v : Value} {xs : List Int} (h : IGrows w base v xs) (f : IFits xs) : ∃ av cv, v = .slice av xs.length cv ∧ OI w base av cv xs := by
  by_cases h0 : 0 < xs.length
  · obtain ⟨g, cap, rfl, h1, h2, h3, h4⟩ := h.row h0
    exact ⟨_, _, rfl, f, h2, h3, .inr ⟨g, rfl, h1, h4⟩⟩
  · obtain rfl : xs = [] := List.length_eq_zero_iff.1 (by omega)
    rcases h.2 with ⟨h1, _⟩ | ⟨g, cap, cur, rfl, hb, hg, h1, h2, -, -⟩
    · exact ⟨_, _, h1, fits_nil, Nat.le_refl _, Nat.zero_le _, .inl ⟨rfl, rfl⟩⟩
    · exact ⟨_, _, rfl, fits_nil, h1, h2, .inr ⟨g, rfl, hb, (Array.getElem?_eq_some_iff.1 hg).1, fun i hi => absurd hi (by simp)⟩⟩
section
variable {w w' : World} {base cv : Nat} {av : Option Addr} {ps : List Int}
theorem OI.inI (h : OI w base av cv ps) : InI w av ps.length cv ps := by
  obtain ⟨h1, h2, h3, ⟨rfl, rfl⟩ | ⟨g, rfl, h4, h5⟩⟩ := h
  · exact ⟨rfl, h2, h3, h1, .inl rfl⟩
  · exact h5.inI h1 h2 h3
theorem OI.mono {base' : Nat} (h : OI w base av cv ps) (hb : base' ≤ base) : OI w base' av cv ps := by
  obtain ⟨h1, h2, h3, h4 | ⟨g, h4, h5, h6⟩⟩ := h
  · exact ⟨h1, h2, h3, .inl h4⟩
  · exact ⟨h1, h2, h3, .inr ⟨g, h4, by omega, h6⟩⟩
theorem OI.later (h : OI w base av cv ps) (k : Below w.heap.size w w') : OI w' base av cv ps := by
  obtain ⟨h1, h2, h3, h4 | ⟨g, h4, h5, h6⟩⟩ := h
  · exact ⟨h1, h2, h3, .inl h4⟩
  · exact ⟨h1, h2, h3, .inr ⟨g, h4, h5, h6.old k⟩⟩
theorem OI.alloc (h : OI w base av cv ps) (o : Obj) : OI (w.alloc o) base av cv ps := h.later ((Below.refl _ _).alloc (Nat.le_refl _) o)
theorem OI.drew (h : OI w base av cv ps) : OI w.drew base av cv ps := h
theorem OI.kept {row : Option Nat} (h : OI w base av cv ps) (g : w.grownBy w' row) (hne : ∀ q, av = some q → some q.block ≠ row) : OI w' base av cv ps := by
  obtain ⟨h1, h2, h3, h4 | ⟨c, h4, h5, h6⟩⟩ := h
  · exact ⟨h1, h2, h3, .inl h4⟩
  · exact ⟨h1, h2, h3, .inr ⟨c, h4, h5, h6.kept g (hne _ h4)⟩⟩
theorem OI.lt (h : OI w base av cv ps) : ∀ q, av = some q → q.block < w.heap.size := by
  intro q e
  obtain ⟨h1, h2, h3, ⟨rfl, _⟩ | ⟨c, rfl, h5, h6⟩⟩ := h
  · cases e
  · cases e; exact h6.1
theorem OI.ge (h : OI w base av cv ps) : ∀ q, av = some q → base ≤ q.block := by
  intro q e
  obtain ⟨h1, h2, h3, ⟨rfl, _⟩ | ⟨c, rfl, h5, h6⟩⟩ := h
  · cases e
  · cases e; exact h5
end
end Go.Proofs.YtgoffjpfddmhhaaGreatDoor

/- The digits of a number of 64 bits, by the specification and by the program: new lists with the same digits. No condition. -/
namespace Go.Proofs.YtgoffjpfddmhhaaGreatDoor
open Go.RowKit
set_option linter.unusedVariables false
set_option maxRecDepth 100000

theorem snocN (m : Nat) (hm : m ≠ 0) : natL m = [(m : Int) % 65536] ++ natL (m / 65536) := by rw [natL_pos hm]; simp
set_option maxHeartbeats 4000000 in
theorem sNatOf (n : Nat) (hn : n < 18446744073709551616) (w : World) :
    Calls Tryz.prog 56 #[.int .u64 (n : Int)] w fun e w' => (∃ av cv, e = .returned (.slice av (natL n).length cv) ∧ OI w' w.heap.size av cv (natL n)) ∧ Below w.heap.size w w' := by
  obtain ⟨i0, hi, hz0, hz1, hz2⟩ := info_parts infoInt
  have hlen : (natL n).length ≤ 4 := natL_len.2 (by omega)
  go_enter Tryz.func56, Tryz.ntmps56
  go_wp2
  go_loopw [0, 3] (fun p o wr => ∃ (m : Nat) (xs : List Int), p = .int .u64 m ∧ m ≤ n ∧ natL n = xs ++ natL m ∧ IGrows wr w.heap.size o xs ∧ Below w.heap.size w wr) (fun p _ _ => (intOf p).toNat)
  case atStart => exact ⟨n, [], rfl, Nat.le_refl _, rfl, IGrows.nil _ _, Below.refl _ _⟩
  case round =>
    obtain ⟨m, xs, rfl, hm, he, G, hb⟩ := hrel
    by_cases h0 : m = 0
    · subst h0
      rw [natL_zero, List.append_nil] at he
      obtain ⟨av, cv, rfl, ho⟩ := G.oi (by rw [← he]; exact natL_fits n)
      go_wp2
      go_ret
      rw [he]
      exact ⟨⟨_, _, rfl, ho⟩, hb⟩
    · have he2 := he
      rw [snocN m h0, ← List.append_assoc] at he2
      have hxl : xs.length ≤ 3 := by
        have := congrArg List.length he2
        simp at this
        omega
      have G2 := G.alloc (.cells #[.int .i64 ((m : Int) % 65536)] 3)
      have B2 : Below w.heap.size w (wr.alloc (.cells #[.int .i64 ((m : Int) % 65536)] 3)) := old_alloc hb _
      have cw := cells_one wr wr.heap.size rfl (.int .i64 ((m : Int) % 65536)) 3
      have hsz := hb.size
      replace he := hd he
      replace he2 := hd he2
      go_wp2_with (at_builtin; refine wpList_append_own _ rfl _ _ 23 rfl w.heap.size 3 i0 _ 1 8 Tryz.underlying23 hi hz0 hz1 hz2 rfl (by decide) _ _ _ rfl G2 ⟨wr.heap.size, 0, none⟩ 1 1 [.int .i64 ((m : Int) % 65536)] rfl rfl cw (by simp [Value.oneCell']) (by unfold maxLen; omega) (by omega) (by simp; omega) ?_; intro v' w5 hown hgrow _)
      go_roundw
      case rel =>
        refine ⟨m / 65536, xs ++ [((m : Int) % 65536)], by go_num, by omega, he2.out, ?_, ?_⟩
        · unfold IGrows
          rw [ints_snoc, List.length_append]
          exact hown
        · exact B2.grown hgrow B2.size (fun c e => by have := (World.ownsRow.lt G2 c e).1; omega)
      case measure => simp [intOf]; omega
set_option maxHeartbeats 4000000 in
theorem iNatOf (n : Nat) (hn : n < 18446744073709551616) (w : World) :
    Calls Tryz.prog 163 #[.int .u64 (n : Int)] w fun e w' => (∃ av cv, e = .returned (.slice av (natL n).length cv) ∧ OI w' w.heap.size av cv (natL n)) ∧ Below w.heap.size w w' := by
  obtain ⟨i0, hi, hz0, hz1, hz2⟩ := info_parts infoInt
  have hlen : (natL n).length ≤ 4 := natL_len.2 (by omega)
  go_enter Tryz.func163, Tryz.ntmps163
  go_wp2
  go_loopw [0, 3] (fun p o wr => ∃ (m : Nat) (xs : List Int), p = .int .u64 m ∧ m ≤ n ∧ natL n = xs ++ natL m ∧ IGrows wr w.heap.size o xs ∧ Below w.heap.size w wr) (fun p _ _ => (intOf p).toNat)
  case atStart => exact ⟨n, [], rfl, Nat.le_refl _, rfl, IGrows.nil _ _, Below.refl _ _⟩
  case round =>
    obtain ⟨m, xs, rfl, hm, he, G, hb⟩ := hrel
    by_cases h0 : m = 0
    · subst h0
      rw [natL_zero, List.append_nil] at he
      obtain ⟨av, cv, rfl, ho⟩ := G.oi (by rw [← he]; exact natL_fits n)
      go_wp2
      go_ret
      rw [he]
      exact ⟨⟨_, _, rfl, ho⟩, hb⟩
    · have he2 := he
      rw [snocN m h0, ← List.append_assoc] at he2
      have hxl : xs.length ≤ 3 := by
        have := congrArg List.length he2
        simp at this
        omega
      have G2 := G.alloc (.cells #[.int .i64 ((m : Int) % 65536)] 3)
      have B2 : Below w.heap.size w (wr.alloc (.cells #[.int .i64 ((m : Int) % 65536)] 3)) := old_alloc hb _
      have cw := cells_one wr wr.heap.size rfl (.int .i64 ((m : Int) % 65536)) 3
      have hsz := hb.size
      replace he := hd he
      replace he2 := hd he2
      have hmask := u64_mask (m : Int) (by omega) (by omega)
      have hfd : (m : Int).fdiv 65536 = (m : Int) / 65536 := Int.fdiv_eq_ediv_of_nonneg _ (by omega)
      go_wp2_with (at_builtin; refine wpList_append_own _ rfl _ _ 23 rfl w.heap.size 3 i0 _ 1 8 Tryz.underlying23 hi hz0 hz1 hz2 rfl (by decide) _ _ _ rfl G2 ⟨wr.heap.size, 0, none⟩ 1 1 [.int .i64 ((m : Int) % 65536)] rfl rfl cw (by simp [Value.oneCell']) (by unfold maxLen; omega) (by omega) (by simp; omega) ?_; intro v' w5 hown hgrow _)
      go_roundw
      case rel =>
        refine ⟨m / 65536, xs ++ [((m : Int) % 65536)], by go_num, by omega, he2.out, ?_, ?_⟩
        · unfold IGrows
          rw [ints_snoc, List.length_append]
          exact hown
        · exact B2.grown hgrow B2.size (fun c e => by have := (World.ownsRow.lt G2 c e).1; omega)
      case measure => simp [intOf]; omega
end Go.Proofs.YtgoffjpfddmhhaaGreatDoor

/- Contracts of the small functions of chapter 1: what each call returns; nothing that was there is written. No condition. -/
namespace Go.Proofs.YtgoffjpfddmhhaaGreatDoor
open Go.RowKit


theorem idx0 (w : World) : (Instr.index 120 (.agg #[.int .i64 32, .iface 116 (.agg #[]), .int .i64 64, .iface 119 (.agg #[])]) (.int .i64 0)).run Tryz.prog w = .ok (.agg #[.int .i64 32, .iface 116 (.agg #[])]) w := by kernel_rfl
theorem idx1 (w : World) : (Instr.index 120 (.agg #[.int .i64 32, .iface 116 (.agg #[]), .int .i64 64, .iface 119 (.agg #[])]) (.int .i64 1)).run Tryz.prog w = .ok (.agg #[.int .i64 64, .iface 119 (.agg #[])]) w := by kernel_rfl

set_option maxHeartbeats 400000 in
theorem formOf_32 (w : World) :
    Calls Tryz.prog 36 #[.int .i64 32] w fun e w' => e = .returned (.tuple #[.iface 116 (.agg #[]), .bool true]) ∧ Below w.heap.size w w' := by
  have i0 := idx0
  go_enter Tryz.func36, Tryz.ntmps36
  go_wp2
  refine wp_loop_rounds 1 ?_
  rw [rounds_succ]
  go_wp2
  go_ret2
  exact ⟨rfl, (by repeat (first | exact Below.refl _ _ | refine Below.drew ?_ | refine old_alloc ?_ _ | refine old_trans ?_ (by assumption)))⟩
set_option maxHeartbeats 400000 in
theorem formOf_64 (w : World) :
    Calls Tryz.prog 36 #[.int .i64 64] w fun e w' => e = .returned (.tuple #[.iface 119 (.agg #[]), .bool true]) ∧ Below w.heap.size w w' := by
  have i0 := idx0
  have i1 := idx1
  go_enter Tryz.func36, Tryz.ntmps36
  go_wp2
  refine wp_loop_rounds 2 ?_
  rw [rounds_succ]
  go_wp2
  rw [rounds_succ]
  go_wp2
  go_ret2
  exact ⟨rfl, (by repeat (first | exact Below.refl _ _ | refine Below.drew ?_ | refine old_alloc ?_ _ | refine old_trans ?_ (by assumption)))⟩
set_option maxHeartbeats 400000 in
theorem formOf_no (n : Int) (w : World) (h1 : (32 == n) = false) (h2 : (64 == n) = false) :
    Calls Tryz.prog 36 #[.int .i64 n] w fun e w' => e = .returned (.tuple #[.nilIface, .bool false]) ∧ Below w.heap.size w w' := by
  have i0 := idx0
  have i1 := idx1
  go_enter Tryz.func36, Tryz.ntmps36
  go_wp2
  refine wp_loop_rounds 3 ?_
  rw [rounds_succ]
  go_wp2
  rw [rounds_succ]
  go_wp2
  rw [rounds_succ]
  go_wp2
  go_ret2
  exact ⟨rfl, (by repeat (first | exact Below.refl _ _ | refine Below.drew ?_ | refine old_alloc ?_ _ | refine old_trans ?_ (by assumption)))⟩
end Go.Proofs.YtgoffjpfddmhhaaGreatDoor

/- Contracts of the methods of a form, of formWith and of BitTop: what each call returns at each width; nothing that was there is written. -/
namespace Go.Proofs.YtgoffjpfddmhhaaGreatDoor
open Go.RowKit

theorem meth_fraction_32 (w : World) : (method 341 116 (.agg #[]) "loop.example/pinfold/impl.fraction").run Tryz.prog w = .ok (142, .agg #[]) w := by kernel_rfl
theorem meth_least_32 (w : World) : (method 341 116 (.agg #[]) "loop.example/pinfold/impl.least").run Tryz.prog w = .ok (143, .agg #[]) w := by kernel_rfl
theorem meth_sign_32 (w : World) : (method 341 116 (.agg #[]) "loop.example/pinfold/impl.sign").run Tryz.prog w = .ok (144, .agg #[]) w := by kernel_rfl
theorem meth_top_32 (w : World) : (method 341 116 (.agg #[]) "loop.example/pinfold/impl.top").run Tryz.prog w = .ok (145, .agg #[]) w := by kernel_rfl
theorem meth_fraction_64 (w : World) : (method 341 119 (.agg #[]) "loop.example/pinfold/impl.fraction").run Tryz.prog w = .ok (146, .agg #[]) w := by kernel_rfl
theorem meth_least_64 (w : World) : (method 341 119 (.agg #[]) "loop.example/pinfold/impl.least").run Tryz.prog w = .ok (147, .agg #[]) w := by kernel_rfl
theorem meth_sign_64 (w : World) : (method 341 119 (.agg #[]) "loop.example/pinfold/impl.sign").run Tryz.prog w = .ok (148, .agg #[]) w := by kernel_rfl
theorem meth_top_64 (w : World) : (method 341 119 (.agg #[]) "loop.example/pinfold/impl.top").run Tryz.prog w = .ok (149, .agg #[]) w := by kernel_rfl

set_option maxHeartbeats 400000 in
theorem formWith_32 (n : Int) (w : World) (h1 : -2139095040 ≤ n) (h2 : n ≤ 2139095040) :
    Calls Tryz.prog 66 #[.int .i64 32, .int .i64 n] w fun e w' => e = .returned (.tuple #[.iface 116 (.agg #[]), .bool true]) ∧ Below w.heap.size w w' := by
  have m1 := meth_top_32
  have t1 : decide (n < -2139095040) = false := by simp; omega
  have t2 : decide (2139095040 < n) = false := by simp; omega
  go_enter Tryz.func66, Tryz.ntmps66
  go_wp2_with (first | (go_at_call 36; refine (formOf_32 _).mono ?_; rintro e w1 ⟨rfl, hb1⟩) | go_in)
  go_ret2
  exact ⟨rfl, (by repeat (first | exact Below.refl _ _ | refine Below.drew ?_ | refine old_alloc ?_ _ | refine old_trans ?_ (by assumption)))⟩
set_option maxHeartbeats 400000 in
theorem formWith_32_lo (n : Int) (w : World) (h1 : n < -2139095040) :
    Calls Tryz.prog 66 #[.int .i64 32, .int .i64 n] w fun e w' => e = .returned (.tuple #[.nilIface, .bool false]) ∧ Below w.heap.size w w' := by
  have m1 := meth_top_32
  have t1 : decide (n < -2139095040) = true := by simp; omega
  go_enter Tryz.func66, Tryz.ntmps66
  go_wp2_with (first | (go_at_call 36; refine (formOf_32 _).mono ?_; rintro e w1 ⟨rfl, hb1⟩) | go_in)
  go_ret2
  exact ⟨rfl, (by repeat (first | exact Below.refl _ _ | refine Below.drew ?_ | refine old_alloc ?_ _ | refine old_trans ?_ (by assumption)))⟩
set_option maxHeartbeats 400000 in
theorem formWith_32_hi (n : Int) (w : World) (h1 : 2139095040 < n) :
    Calls Tryz.prog 66 #[.int .i64 32, .int .i64 n] w fun e w' => e = .returned (.tuple #[.nilIface, .bool false]) ∧ Below w.heap.size w w' := by
  have m1 := meth_top_32
  have t1 : decide (n < -2139095040) = false := by simp; omega
  have t2 : decide (2139095040 < n) = true := by simp; omega
  go_enter Tryz.func66, Tryz.ntmps66
  go_wp2_with (first | (go_at_call 36; refine (formOf_32 _).mono ?_; rintro e w1 ⟨rfl, hb1⟩) | go_in)
  go_ret2
  exact ⟨rfl, (by repeat (first | exact Below.refl _ _ | refine Below.drew ?_ | refine old_alloc ?_ _ | refine old_trans ?_ (by assumption)))⟩
theorem formWith_32_out (n : Int) (w : World) (h : ¬ (-2139095040 ≤ n ∧ n ≤ 2139095040)) :
    Calls Tryz.prog 66 #[.int .i64 32, .int .i64 n] w fun e w' => e = .returned (.tuple #[.nilIface, .bool false]) ∧ Below w.heap.size w w' := by
  by_cases h1 : n < -2139095040
  · exact formWith_32_lo n w h1
  · exact formWith_32_hi n w (by omega)
set_option maxHeartbeats 400000 in
theorem iBitTop_32 (w : World) :
    Calls Tryz.prog 11 #[.int .i64 32] w fun e w' => e = .returned (.int .i64 2139095040) ∧ Below w.heap.size w w' := by
  have m1 := meth_top_32
  go_enter Tryz.func11, Tryz.ntmps11
  go_wp2_with (first | (go_at_call 36; refine (formOf_32 _).mono ?_; rintro e w1 ⟨rfl, hb1⟩) | go_in)
  go_ret
  exact ⟨rfl, (by repeat (first | exact Below.refl _ _ | refine Below.drew ?_ | refine old_alloc ?_ _ | refine old_trans ?_ (by assumption)))⟩
set_option maxHeartbeats 400000 in
theorem sBitTop_32 (w : World) :
    Calls Tryz.prog 47 #[.int .i64 32] w fun e w' => e = .returned (.int .i64 2139095040) ∧ w' = w := by
  go_enter Tryz.func47, Tryz.ntmps47
  go_wp2
  go_ret
  exact ⟨rfl, rfl⟩
set_option maxHeartbeats 400000 in
theorem sBitOk_32 (n : Int) (w : World) (h1 : -2139095040 ≤ n) (h2 : n ≤ 2139095040) :
    Calls Tryz.prog 17 #[.int .i64 32, .int .i64 n] w fun e w' => e = .returned (.bool true) ∧ Below w.heap.size w w' := by
  have t1 : decide (-2139095040 ≤ n) = true := by simp; omega
  have t2 : decide (n ≤ 2139095040) = true := by simp; omega
  go_enter Tryz.func17, Tryz.ntmps17
  go_wp2
  go_ret
  exact ⟨rfl, (by repeat (first | exact Below.refl _ _ | refine Below.drew ?_ | refine old_alloc ?_ _ | refine old_trans ?_ (by assumption)))⟩
set_option maxHeartbeats 400000 in
theorem sBitOk_32_lo (n : Int) (w : World) (h1 : n < -2139095040) :
    Calls Tryz.prog 17 #[.int .i64 32, .int .i64 n] w fun e w' => e = .returned (.bool false) ∧ Below w.heap.size w w' := by
  have t1 : decide (-2139095040 ≤ n) = false := by simp; omega
  go_enter Tryz.func17, Tryz.ntmps17
  go_wp2
  go_ret
  exact ⟨rfl, (by repeat (first | exact Below.refl _ _ | refine Below.drew ?_ | refine old_alloc ?_ _ | refine old_trans ?_ (by assumption)))⟩
set_option maxHeartbeats 400000 in
theorem sBitOk_32_hi (n : Int) (w : World) (h1 : 2139095040 < n) :
    Calls Tryz.prog 17 #[.int .i64 32, .int .i64 n] w fun e w' => e = .returned (.bool false) ∧ Below w.heap.size w w' := by
  have t1 : decide (-2139095040 ≤ n) = true := by simp; omega
  have t2 : decide (n ≤ 2139095040) = false := by simp; omega
  go_enter Tryz.func17, Tryz.ntmps17
  go_wp2
  go_ret
  exact ⟨rfl, (by repeat (first | exact Below.refl _ _ | refine Below.drew ?_ | refine old_alloc ?_ _ | refine old_trans ?_ (by assumption)))⟩
theorem sBitOk_32_out (n : Int) (w : World) (h : ¬ (-2139095040 ≤ n ∧ n ≤ 2139095040)) :
    Calls Tryz.prog 17 #[.int .i64 32, .int .i64 n] w fun e w' => e = .returned (.bool false) ∧ Below w.heap.size w w' := by
  by_cases h1 : n < -2139095040
  · exact sBitOk_32_lo n w h1
  · exact sBitOk_32_hi n w (by omega)

set_option maxHeartbeats 400000 in
theorem formWith_64 (n : Int) (w : World) (h1 : -9218868437227405312 ≤ n) (h2 : n ≤ 9218868437227405312) :
    Calls Tryz.prog 66 #[.int .i64 64, .int .i64 n] w fun e w' => e = .returned (.tuple #[.iface 119 (.agg #[]), .bool true]) ∧ Below w.heap.size w w' := by
  have m1 := meth_top_64
  have t1 : decide (n < -9218868437227405312) = false := by simp; omega
  have t2 : decide (9218868437227405312 < n) = false := by simp; omega
  go_enter Tryz.func66, Tryz.ntmps66
  go_wp2_with (first | (go_at_call 36; refine (formOf_64 _).mono ?_; rintro e w1 ⟨rfl, hb1⟩) | go_in)
  go_ret2
  exact ⟨rfl, (by repeat (first | exact Below.refl _ _ | refine Below.drew ?_ | refine old_alloc ?_ _ | refine old_trans ?_ (by assumption)))⟩
set_option maxHeartbeats 400000 in
theorem formWith_64_lo (n : Int) (w : World) (h1 : n < -9218868437227405312) :
    Calls Tryz.prog 66 #[.int .i64 64, .int .i64 n] w fun e w' => e = .returned (.tuple #[.nilIface, .bool false]) ∧ Below w.heap.size w w' := by
  have m1 := meth_top_64
  have t1 : decide (n < -9218868437227405312) = true := by simp; omega
  go_enter Tryz.func66, Tryz.ntmps66
  go_wp2_with (first | (go_at_call 36; refine (formOf_64 _).mono ?_; rintro e w1 ⟨rfl, hb1⟩) | go_in)
  go_ret2
  exact ⟨rfl, (by repeat (first | exact Below.refl _ _ | refine Below.drew ?_ | refine old_alloc ?_ _ | refine old_trans ?_ (by assumption)))⟩
set_option maxHeartbeats 400000 in
theorem formWith_64_hi (n : Int) (w : World) (h1 : 9218868437227405312 < n) :
    Calls Tryz.prog 66 #[.int .i64 64, .int .i64 n] w fun e w' => e = .returned (.tuple #[.nilIface, .bool false]) ∧ Below w.heap.size w w' := by
  have m1 := meth_top_64
  have t1 : decide (n < -9218868437227405312) = false := by simp; omega
  have t2 : decide (9218868437227405312 < n) = true := by simp; omega
  go_enter Tryz.func66, Tryz.ntmps66
  go_wp2_with (first | (go_at_call 36; refine (formOf_64 _).mono ?_; rintro e w1 ⟨rfl, hb1⟩) | go_in)
  go_ret2
  exact ⟨rfl, (by repeat (first | exact Below.refl _ _ | refine Below.drew ?_ | refine old_alloc ?_ _ | refine old_trans ?_ (by assumption)))⟩
theorem formWith_64_out (n : Int) (w : World) (h : ¬ (-9218868437227405312 ≤ n ∧ n ≤ 9218868437227405312)) :
    Calls Tryz.prog 66 #[.int .i64 64, .int .i64 n] w fun e w' => e = .returned (.tuple #[.nilIface, .bool false]) ∧ Below w.heap.size w w' := by
  by_cases h1 : n < -9218868437227405312
  · exact formWith_64_lo n w h1
  · exact formWith_64_hi n w (by omega)
set_option maxHeartbeats 400000 in
theorem iBitTop_64 (w : World) :
    Calls Tryz.prog 11 #[.int .i64 64] w fun e w' => e = .returned (.int .i64 9218868437227405312) ∧ Below w.heap.size w w' := by
  have m1 := meth_top_64
  go_enter Tryz.func11, Tryz.ntmps11
  go_wp2_with (first | (go_at_call 36; refine (formOf_64 _).mono ?_; rintro e w1 ⟨rfl, hb1⟩) | go_in)
  go_ret
  exact ⟨rfl, (by repeat (first | exact Below.refl _ _ | refine Below.drew ?_ | refine old_alloc ?_ _ | refine old_trans ?_ (by assumption)))⟩
set_option maxHeartbeats 400000 in
theorem sBitTop_64 (w : World) :
    Calls Tryz.prog 47 #[.int .i64 64] w fun e w' => e = .returned (.int .i64 9218868437227405312) ∧ w' = w := by
  go_enter Tryz.func47, Tryz.ntmps47
  go_wp2
  go_ret
  exact ⟨rfl, rfl⟩
set_option maxHeartbeats 400000 in
theorem sBitOk_64 (n : Int) (w : World) (h1 : -9218868437227405312 ≤ n) (h2 : n ≤ 9218868437227405312) :
    Calls Tryz.prog 17 #[.int .i64 64, .int .i64 n] w fun e w' => e = .returned (.bool true) ∧ Below w.heap.size w w' := by
  have t1 : decide (-9218868437227405312 ≤ n) = true := by simp; omega
  have t2 : decide (n ≤ 9218868437227405312) = true := by simp; omega
  go_enter Tryz.func17, Tryz.ntmps17
  go_wp2
  go_ret
  exact ⟨rfl, (by repeat (first | exact Below.refl _ _ | refine Below.drew ?_ | refine old_alloc ?_ _ | refine old_trans ?_ (by assumption)))⟩
set_option maxHeartbeats 400000 in
theorem sBitOk_64_lo (n : Int) (w : World) (h1 : n < -9218868437227405312) :
    Calls Tryz.prog 17 #[.int .i64 64, .int .i64 n] w fun e w' => e = .returned (.bool false) ∧ Below w.heap.size w w' := by
  have t1 : decide (-9218868437227405312 ≤ n) = false := by simp; omega
  go_enter Tryz.func17, Tryz.ntmps17
  go_wp2
  go_ret
  exact ⟨rfl, (by repeat (first | exact Below.refl _ _ | refine Below.drew ?_ | refine old_alloc ?_ _ | refine old_trans ?_ (by assumption)))⟩
set_option maxHeartbeats 400000 in
theorem sBitOk_64_hi (n : Int) (w : World) (h1 : 9218868437227405312 < n) :
    Calls Tryz.prog 17 #[.int .i64 64, .int .i64 n] w fun e w' => e = .returned (.bool false) ∧ Below w.heap.size w w' := by
  have t1 : decide (-9218868437227405312 ≤ n) = true := by simp; omega
  have t2 : decide (n ≤ 9218868437227405312) = false := by simp; omega
  go_enter Tryz.func17, Tryz.ntmps17
  go_wp2
  go_ret
  exact ⟨rfl, (by repeat (first | exact Below.refl _ _ | refine Below.drew ?_ | refine old_alloc ?_ _ | refine old_trans ?_ (by assumption)))⟩
theorem sBitOk_64_out (n : Int) (w : World) (h : ¬ (-9218868437227405312 ≤ n ∧ n ≤ 9218868437227405312)) :
    Calls Tryz.prog 17 #[.int .i64 64, .int .i64 n] w fun e w' => e = .returned (.bool false) ∧ Below w.heap.size w w' := by
  by_cases h1 : n < -9218868437227405312
  · exact sBitOk_64_lo n w h1
  · exact sBitOk_64_hi n w (by omega)

set_option maxHeartbeats 400000 in
theorem formWith_no (wd n : Int) (w : World) (h1 : wd ≠ 32) (h2 : wd ≠ 64) :
    Calls Tryz.prog 66 #[.int .i64 wd, .int .i64 n] w fun e w' => e = .returned (.tuple #[.nilIface, .bool false]) ∧ Below w.heap.size w w' := by
  have t1 : (32 == wd) = false := by simp; omega
  have t2 : (64 == wd) = false := by simp; omega
  go_enter Tryz.func66, Tryz.ntmps66
  go_wp2_with (first | (go_at_call 36; refine (formOf_no wd _ t1 t2).mono ?_; rintro e w1 ⟨rfl, hb1⟩) | go_in)
  go_ret2
  exact ⟨rfl, (by repeat (first | exact Below.refl _ _ | refine Below.drew ?_ | refine old_alloc ?_ _ | refine old_trans ?_ (by assumption)))⟩
set_option maxHeartbeats 400000 in
theorem iBitTop_no (wd : Int) (w : World) (h1 : wd ≠ 32) (h2 : wd ≠ 64) :
    Calls Tryz.prog 11 #[.int .i64 wd] w fun e w' => e = .returned (.int .i64 0) ∧ Below w.heap.size w w' := by
  have t1 : (32 == wd) = false := by simp; omega
  have t2 : (64 == wd) = false := by simp; omega
  go_enter Tryz.func11, Tryz.ntmps11
  go_wp2_with (first | (go_at_call 36; refine (formOf_no wd _ t1 t2).mono ?_; rintro e w1 ⟨rfl, hb1⟩) | go_in)
  go_ret
  exact ⟨rfl, (by repeat (first | exact Below.refl _ _ | refine Below.drew ?_ | refine old_alloc ?_ _ | refine old_trans ?_ (by assumption)))⟩
set_option maxHeartbeats 400000 in
theorem sBitTop_no (wd : Int) (w : World) (h1 : wd ≠ 32) (h2 : wd ≠ 64) :
    Calls Tryz.prog 47 #[.int .i64 wd] w fun e w' => e = .returned (.int .i64 0) ∧ w' = w := by
  have t1 : (wd == 32) = false := by simp; omega
  have t2 : (wd == 64) = false := by simp; omega
  go_enter Tryz.func47, Tryz.ntmps47
  go_wp2
  go_ret
  exact ⟨rfl, rfl⟩
set_option maxHeartbeats 400000 in
theorem sBitOk_no (wd n : Int) (w : World) (h1 : wd ≠ 32) (h2 : wd ≠ 64) :
    Calls Tryz.prog 17 #[.int .i64 wd, .int .i64 n] w fun e w' => e = .returned (.bool false) ∧ Below w.heap.size w w' := by
  have t1 : (wd == 32) = false := by simp; omega
  have t2 : (wd == 64) = false := by simp; omega
  go_enter Tryz.func17, Tryz.ntmps17
  go_wp2
  go_ret
  exact ⟨rfl, (by repeat (first | exact Below.refl _ _ | refine Below.drew ?_ | refine old_alloc ?_ _ | refine old_trans ?_ (by assumption)))⟩
end Go.Proofs.YtgoffjpfddmhhaaGreatDoor
