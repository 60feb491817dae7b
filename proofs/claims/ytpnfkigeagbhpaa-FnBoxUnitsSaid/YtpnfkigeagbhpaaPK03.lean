/- Lists of whole numbers: what lies in memory, what a law's own copy, comparison, mark and look do. Conditions: lists of 2^20 numbers at most. -/
import Derived.Test.YtpnfkigeagbhpaaRows
import Derived.WalkKit
import Derived.WalkSpells
import Derived.WalkLawsBesides
import Derived.ProofKit
import Derived.OpenShut
import Derived.OwnWalk
import Derived.BigQuiet
import Derived.Deep.QuietTactic
import Derived.RangeFuncBox
import Derived.Maps.AppendAt
import Derived.Lib.SmallJoins
import Derived.ChangeOld
import Derived.ShutString
import Derived.Test.YtpnfkigeagbhpaaPK01
namespace Go.Proofs.Ytpnfkigeagbhpaa
open Go.ChangeShapes Go.WideShapes Go.ChangeAt Go.RowKit
set_option linter.unusedVariables false
set_option maxRecDepth 100000

theorem hd {p : Prop} (h : p) : Hid p := h
theorem old_alloc {a b : World} (h : Below a.heap.size a b) (o : Obj) : Below a.heap.size a (b.alloc o) := h.alloc h.size o
theorem old_trans {a b c : World} (h : Below a.heap.size a b) (k : Below b.heap.size b c) : Below a.heap.size a c := h.trans (k.mono h.size)
/-- numbers in a block of their own -/
def IRow (w : World) (b : Nat) (xs : List Int) : Prop :=
  b < w.heap.size ∧ ∀ i, i < xs.length → w.cell? ⟨b, i, none⟩ = some (.int .i64 (xs.getD i 0)) ∧ w.frozen? ⟨b, i, none⟩ = false
def IFits (xs : List Int) : Prop := ∀ x ∈ xs, -9223372036854775808 ≤ x ∧ x ≤ 9223372036854775807
/-- numbers that lie somewhere -/
def InI (w : World) (a : Option Addr) (len cap : Nat) (xs : List Int) : Prop :=
  xs.length = len ∧ len ≤ cap ∧ cap ≤ maxLen ∧ IFits xs ∧
  (len = 0 ∨ ∃ b off : Nat, a = some ⟨b, off, none⟩ ∧ b < w.heap.size ∧ ∀ i, i < len → w.cell? ⟨b, off + i, none⟩ = some (.int .i64 (xs.getD i 0)))
theorem InI.old {w w' : World} {a : Option Addr} {len cap : Nat} {xs : List Int} (h : InI w a len cap xs) (b : Below w.heap.size w w') : InI w' a len cap xs := by
  obtain ⟨h1, h2, h3, h4, h5⟩ := h
  refine ⟨h1, h2, h3, h4, ?_⟩
  rcases h5 with h5 | ⟨bb, off, q1, q2, q3⟩
  · exact .inl h5
  · exact .inr ⟨bb, off, q1, Nat.lt_of_lt_of_le q2 b.size, fun i hi => (b.cell (p := ⟨bb, off + i, none⟩) q2).trans (q3 i hi)⟩
theorem InI.alloc {w : World} {a : Option Addr} {len cap : Nat} {xs : List Int} (h : InI w a len cap xs) (o : Obj) : InI (w.alloc o) a len cap xs := h.old ((Below.refl _ _).alloc (Nat.le_refl _) o)
theorem InI.drew {w : World} {a : Option Addr} {len cap : Nat} {xs : List Int} (h : InI w a len cap xs) : InI w.drew a len cap xs := h
theorem getD_mem {xs : List Int} {k : Nat} (hk : k < xs.length) : xs.getD k 0 ∈ xs := by
  have e2 : xs.getD k 0 = xs[k]'hk := by rw [List.getD_eq_getElem?_getD, List.getElem?_eq_getElem hk]; rfl
  rw [e2]
  exact List.getElem_mem _
theorem InI.at {w : World} {a : Option Addr} {len cap : Nat} {xs : List Int} (h : InI w a len cap xs) {k : Nat} (hk : k < len) : ∃ (b off : Nat) (x : Int), a = some ⟨b, off, none⟩ ∧ b < w.heap.size ∧ xs.getD k 0 = x ∧ (-9223372036854775808 ≤ x ∧ x ≤ 9223372036854775807) ∧ w.cell? ⟨b, off + k, none⟩ = some (.int .i64 x) := by
  rcases h.2.2.2.2 with h0 | ⟨b, off, e, hb, hc⟩
  · omega
  · exact ⟨b, off, _, e, hb, rfl, h.2.2.2.1 _ (getD_mem (by rw [h.1]; exact hk)), hc k hk⟩
theorem InI.kept {w w' : World} {a : Option Addr} {len cap : Nat} {xs : List Int} {row : Option Nat} (h : InI w a len cap xs) (g : w.grownBy w' row) (hne : 0 < len → ∀ q, a = some q → some q.block ≠ row) : InI w' a len cap xs := by
  obtain ⟨h1, h2, h3, h4, h5⟩ := h
  refine ⟨h1, h2, h3, h4, ?_⟩
  by_cases h0 : len = 0
  · exact .inl h0
  rcases h5 with h5 | ⟨b, off, q1, q2, q3⟩
  · exact .inl h5
  · refine .inr ⟨b, off, q1, Nat.lt_of_lt_of_le q2 g.size, fun i hi => ?_⟩
    have e := g.block b q2 (hne (by omega) _ q1)
    exact (World.cell?_of_block (a := ⟨b, off + i, none⟩) e).trans (q3 i hi)
theorem InI.far {w : World} {a : Option Addr} {len cap : Nat} {xs : List Int} (h : InI w a len cap xs) : 0 < len → ∀ q, a = some q → q.block < w.heap.size := by
  intro h0 q e
  rcases h.2.2.2.2 with h5 | ⟨b, off, q1, q2, -⟩
  · omega
  · rw [q1] at e; cases e; exact q2
theorem InI.len {w : World} {a : Option Addr} {len cap : Nat} {xs : List Int} (h : InI w a len cap xs) : len ≤ 9223372036854775807 := by
  have := Nat.le_trans h.2.1 h.2.2.1
  unfold maxLen at this
  omega
theorem IRow.old {w w' : World} {b : Nat} {xs : List Int} (h : IRow w b xs) (k : Below w.heap.size w w') : IRow w' b xs :=
  ⟨Nat.lt_of_lt_of_le h.1 k.size, fun i hi => ⟨(k.cell (p := ⟨b, i, none⟩) h.1).trans (h.2 i hi).1, (k.frozen (p := ⟨b, i, none⟩) h.1).trans (h.2 i hi).2⟩⟩
theorem IRow.at {w : World} {b : Nat} {xs : List Int} (h : IRow w b xs) {k : Nat} (hk : k < xs.length) : ∃ x : Int, xs.getD k 0 = x ∧ w.cell? ⟨b, k, none⟩ = some (.int .i64 x) ∧ w.frozen? ⟨b, k, none⟩ = false := ⟨_, rfl, (h.2 k hk).1, (h.2 k hk).2⟩
theorem IRow.set {w : World} {b : Nat} {xs : List Int} (h : IRow w b xs) (k : Nat) (hk : k < xs.length) (x : Int) : IRow (w.setCell ⟨b, k, none⟩ (.int .i64 x)) b (xs.set k x) := by
  refine ⟨by simpa [World.setCell] using h.1, fun i hi => ?_⟩
  rw [List.length_set] at hi
  obtain ⟨h1, h3⟩ := h.2 i hi
  by_cases e : i = k
  · subst e
    have eg : (xs.set i x).getD i 0 = x := by simp [List.getD_eq_getElem?_getD, hk]
    rw [eg]
    exact ⟨World.cell?_setCell_same _ _ _ h1, by simpa using h3⟩
  · have eg : (xs.set k x).getD i 0 = xs.getD i 0 := by simp [List.getD_eq_getElem?_getD, Ne.symm e]
    rw [eg]
    refine ⟨?_, by simpa using h3⟩
    rw [World.cell?_setCell_other _ _ _ _ (by intro h; injection h with _ h2; omega)]; exact h1
theorem IRow.kept {w w' : World} {c : Nat} {xs : List Int} {row : Option Nat} (h : IRow w c xs) (g : w.grownBy w' row) (hne : some c ≠ row) : IRow w' c xs := by
  refine ⟨Nat.lt_of_lt_of_le h.1 g.size, fun i hi => ?_⟩
  have e := g.block c h.1 hne
  exact ⟨(World.cell?_of_block (a := ⟨c, i, none⟩) e).trans (h.2 i hi).1, (World.frozen?_of_block (a := ⟨c, i, none⟩) e).trans (h.2 i hi).2⟩
theorem IRow.made (w : World) (n : Nat) (t : TypeId) : IRow (w.alloc (.cells (madeCells #[.int .i64 0] (n * 1)) t)) w.heap.size (List.replicate n 0) := by
  refine ⟨by simp, fun i hi => ?_⟩
  rw [List.length_replicate] at hi
  have eg : (List.replicate n (0 : Int)).getD i 0 = 0 := by simp [List.getD_eq_getElem?_getD, hi]
  rw [eg]
  have e0 : (madeCells #[Value.int IntKind.i64 0] (n * 1))[i]? = some (.int .i64 0) := by
    simp [madeCells, show i < n by omega, Nat.mod_one]
  exact ⟨by simpa using e0, by simp⟩

/-- the first k numbers are these -/
def IUpto (k : Nat) (qs xs : List Int) : Prop := qs.length = xs.length ∧ ∀ i, i < k → qs.getD i 0 = xs.getD i 0
theorem IUpto.zero {qs xs : List Int} (hp : qs.length = xs.length) : IUpto 0 qs xs := ⟨hp, fun i h => by omega⟩
theorem IUpto.all {qs xs : List Int} (h : IUpto xs.length qs xs) : qs = xs := by
  apply List.ext_getElem h.1
  intro i h1 h2
  have := h.2 i h2
  simpa [List.getD_eq_getElem?_getD, h1, h2] using this

section
variable {H : Type} {enc : TypeId × Value → H} {w : World} {base : Nat}
end
end Go.Proofs.Ytpnfkigeagbhpaa

/- Contracts of the small functions of chapter 1: what each call returns; nothing that was there is written. No condition. -/
namespace Go.Proofs.Ytpnfkigeagbhpaa
open Go.RowKit


theorem idx0 (w : World) : (Instr.index 119 (.agg #[.int .i64 32, .iface 115 (.agg #[]), .int .i64 64, .iface 118 (.agg #[])]) (.int .i64 0)).run Try.prog w = .ok (.agg #[.int .i64 32, .iface 115 (.agg #[])]) w := by kernel_rfl
theorem idx1 (w : World) : (Instr.index 119 (.agg #[.int .i64 32, .iface 115 (.agg #[]), .int .i64 64, .iface 118 (.agg #[])]) (.int .i64 1)).run Try.prog w = .ok (.agg #[.int .i64 64, .iface 118 (.agg #[])]) w := by kernel_rfl

set_option maxHeartbeats 400000 in
theorem formOf_32 (w : World) :
    Calls Try.prog 92 #[.int .i64 32] w fun e w' => e = .returned (.tuple #[.iface 115 (.agg #[]), .bool true]) ∧ Below w.heap.size w w' := by
  have i0 := idx0
  go_enter Try.func92, Try.ntmps92
  go_wp2
  refine wp_loop_rounds 1 ?_
  rw [rounds_succ]
  go_wp2
  go_ret2
  exact ⟨rfl, (by repeat (first | exact Below.refl _ _ | refine Below.drew ?_ | refine old_alloc ?_ _ | refine old_trans ?_ (by assumption)))⟩
set_option maxHeartbeats 400000 in
theorem formOf_64 (w : World) :
    Calls Try.prog 92 #[.int .i64 64] w fun e w' => e = .returned (.tuple #[.iface 118 (.agg #[]), .bool true]) ∧ Below w.heap.size w w' := by
  have i0 := idx0
  have i1 := idx1
  go_enter Try.func92, Try.ntmps92
  go_wp2
  refine wp_loop_rounds 2 ?_
  rw [rounds_succ]
  go_wp2
  rw [rounds_succ]
  go_wp2
  go_ret2
  exact ⟨rfl, (by repeat (first | exact Below.refl _ _ | refine Below.drew ?_ | refine old_alloc ?_ _ | refine old_trans ?_ (by assumption)))⟩
set_option maxHeartbeats 400000 in
theorem formOf_no (n : Int) (w : World) (h1 : (32 == n) = false) (h2 : (64 == n) = false) :
    Calls Try.prog 92 #[.int .i64 n] w fun e w' => e = .returned (.tuple #[.nilIface, .bool false]) ∧ Below w.heap.size w w' := by
  have i0 := idx0
  have i1 := idx1
  go_enter Try.func92, Try.ntmps92
  go_wp2
  refine wp_loop_rounds 3 ?_
  rw [rounds_succ]
  go_wp2
  rw [rounds_succ]
  go_wp2
  rw [rounds_succ]
  go_wp2
  go_ret2
  exact ⟨rfl, (by repeat (first | exact Below.refl _ _ | refine Below.drew ?_ | refine old_alloc ?_ _ | refine old_trans ?_ (by assumption)))⟩
end Go.Proofs.Ytpnfkigeagbhpaa

/- Contracts of the methods of a form, of formWith and of BitTop: what each call returns at each width; nothing that was there is written. -/
namespace Go.Proofs.Ytpnfkigeagbhpaa
open Go.RowKit

theorem meth_top_32 (w : World) : (method 237 115 (.agg #[]) "loop.example/pinfold/impl.top").run Try.prog w = .ok (127, .agg #[]) w := by kernel_rfl
theorem meth_top_64 (w : World) : (method 237 118 (.agg #[]) "loop.example/pinfold/impl.top").run Try.prog w = .ok (131, .agg #[]) w := by kernel_rfl

set_option maxHeartbeats 400000 in
theorem formWith_32 (n : Int) (w : World) (h1 : -2139095040 ≤ n) (h2 : n ≤ 2139095040) :
    Calls Try.prog 93 #[.int .i64 32, .int .i64 n] w fun e w' => e = .returned (.tuple #[.iface 115 (.agg #[]), .bool true]) ∧ Below w.heap.size w w' := by
  have m1 := meth_top_32
  have t1 : decide (n < -2139095040) = false := by simp; omega
  have t2 : decide (2139095040 < n) = false := by simp; omega
  go_enter Try.func93, Try.ntmps93
  go_wp2_with (first | (go_at_call 92; refine (formOf_32 _).mono ?_; rintro e w1 ⟨rfl, hb1⟩) | go_in)
  go_ret2
  exact ⟨rfl, (by repeat (first | exact Below.refl _ _ | refine Below.drew ?_ | refine old_alloc ?_ _ | refine old_trans ?_ (by assumption)))⟩
set_option maxHeartbeats 400000 in
theorem formWith_32_lo (n : Int) (w : World) (h1 : n < -2139095040) :
    Calls Try.prog 93 #[.int .i64 32, .int .i64 n] w fun e w' => e = .returned (.tuple #[.nilIface, .bool false]) ∧ Below w.heap.size w w' := by
  have m1 := meth_top_32
  have t1 : decide (n < -2139095040) = true := by simp; omega
  go_enter Try.func93, Try.ntmps93
  go_wp2_with (first | (go_at_call 92; refine (formOf_32 _).mono ?_; rintro e w1 ⟨rfl, hb1⟩) | go_in)
  go_ret2
  exact ⟨rfl, (by repeat (first | exact Below.refl _ _ | refine Below.drew ?_ | refine old_alloc ?_ _ | refine old_trans ?_ (by assumption)))⟩
set_option maxHeartbeats 400000 in
theorem formWith_32_hi (n : Int) (w : World) (h1 : 2139095040 < n) :
    Calls Try.prog 93 #[.int .i64 32, .int .i64 n] w fun e w' => e = .returned (.tuple #[.nilIface, .bool false]) ∧ Below w.heap.size w w' := by
  have m1 := meth_top_32
  have t1 : decide (n < -2139095040) = false := by simp; omega
  have t2 : decide (2139095040 < n) = true := by simp; omega
  go_enter Try.func93, Try.ntmps93
  go_wp2_with (first | (go_at_call 92; refine (formOf_32 _).mono ?_; rintro e w1 ⟨rfl, hb1⟩) | go_in)
  go_ret2
  exact ⟨rfl, (by repeat (first | exact Below.refl _ _ | refine Below.drew ?_ | refine old_alloc ?_ _ | refine old_trans ?_ (by assumption)))⟩
theorem formWith_32_out (n : Int) (w : World) (h : ¬ (-2139095040 ≤ n ∧ n ≤ 2139095040)) :
    Calls Try.prog 93 #[.int .i64 32, .int .i64 n] w fun e w' => e = .returned (.tuple #[.nilIface, .bool false]) ∧ Below w.heap.size w w' := by
  by_cases h1 : n < -2139095040
  · exact formWith_32_lo n w h1
  · exact formWith_32_hi n w (by omega)
set_option maxHeartbeats 400000 in
theorem iBitTop_32 (w : World) :
    Calls Try.prog 68 #[.int .i64 32] w fun e w' => e = .returned (.int .i64 2139095040) ∧ Below w.heap.size w w' := by
  have m1 := meth_top_32
  go_enter Try.func68, Try.ntmps68
  go_wp2_with (first | (go_at_call 92; refine (formOf_32 _).mono ?_; rintro e w1 ⟨rfl, hb1⟩) | go_in)
  go_ret
  exact ⟨rfl, (by repeat (first | exact Below.refl _ _ | refine Below.drew ?_ | refine old_alloc ?_ _ | refine old_trans ?_ (by assumption)))⟩
set_option maxHeartbeats 400000 in
theorem sBitTop_32 (w : World) :
    Calls Try.prog 64 #[.int .i64 32] w fun e w' => e = .returned (.int .i64 2139095040) ∧ w' = w := by
  go_enter Try.func64, Try.ntmps64
  go_wp2
  go_ret
  exact ⟨rfl, rfl⟩
set_option maxHeartbeats 400000 in
theorem sBitOk_32 (n : Int) (w : World) (h1 : -2139095040 ≤ n) (h2 : n ≤ 2139095040) :
    Calls Try.prog 65 #[.int .i64 32, .int .i64 n] w fun e w' => e = .returned (.bool true) ∧ Below w.heap.size w w' := by
  have t1 : decide (-2139095040 ≤ n) = true := by simp; omega
  have t2 : decide (n ≤ 2139095040) = true := by simp; omega
  go_enter Try.func65, Try.ntmps65
  go_wp2
  go_ret
  exact ⟨rfl, (by repeat (first | exact Below.refl _ _ | refine Below.drew ?_ | refine old_alloc ?_ _ | refine old_trans ?_ (by assumption)))⟩
set_option maxHeartbeats 400000 in
theorem sBitOk_32_lo (n : Int) (w : World) (h1 : n < -2139095040) :
    Calls Try.prog 65 #[.int .i64 32, .int .i64 n] w fun e w' => e = .returned (.bool false) ∧ Below w.heap.size w w' := by
  have t1 : decide (-2139095040 ≤ n) = false := by simp; omega
  go_enter Try.func65, Try.ntmps65
  go_wp2
  go_ret
  exact ⟨rfl, (by repeat (first | exact Below.refl _ _ | refine Below.drew ?_ | refine old_alloc ?_ _ | refine old_trans ?_ (by assumption)))⟩
set_option maxHeartbeats 400000 in
theorem sBitOk_32_hi (n : Int) (w : World) (h1 : 2139095040 < n) :
    Calls Try.prog 65 #[.int .i64 32, .int .i64 n] w fun e w' => e = .returned (.bool false) ∧ Below w.heap.size w w' := by
  have t1 : decide (-2139095040 ≤ n) = true := by simp; omega
  have t2 : decide (n ≤ 2139095040) = false := by simp; omega
  go_enter Try.func65, Try.ntmps65
  go_wp2
  go_ret
  exact ⟨rfl, (by repeat (first | exact Below.refl _ _ | refine Below.drew ?_ | refine old_alloc ?_ _ | refine old_trans ?_ (by assumption)))⟩
theorem sBitOk_32_out (n : Int) (w : World) (h : ¬ (-2139095040 ≤ n ∧ n ≤ 2139095040)) :
    Calls Try.prog 65 #[.int .i64 32, .int .i64 n] w fun e w' => e = .returned (.bool false) ∧ Below w.heap.size w w' := by
  by_cases h1 : n < -2139095040
  · exact sBitOk_32_lo n w h1
  · exact sBitOk_32_hi n w (by omega)

set_option maxHeartbeats 400000 in
theorem formWith_64 (n : Int) (w : World) (h1 : -9218868437227405312 ≤ n) (h2 : n ≤ 9218868437227405312) :
    Calls Try.prog 93 #[.int .i64 64, .int .i64 n] w fun e w' => e = .returned (.tuple #[.iface 118 (.agg #[]), .bool true]) ∧ Below w.heap.size w w' := by
  have m1 := meth_top_64
  have t1 : decide (n < -9218868437227405312) = false := by simp; omega
  have t2 : decide (9218868437227405312 < n) = false := by simp; omega
  go_enter Try.func93, Try.ntmps93
  go_wp2_with (first | (go_at_call 92; refine (formOf_64 _).mono ?_; rintro e w1 ⟨rfl, hb1⟩) | go_in)
  go_ret2
  exact ⟨rfl, (by repeat (first | exact Below.refl _ _ | refine Below.drew ?_ | refine old_alloc ?_ _ | refine old_trans ?_ (by assumption)))⟩
set_option maxHeartbeats 400000 in
theorem formWith_64_lo (n : Int) (w : World) (h1 : n < -9218868437227405312) :
    Calls Try.prog 93 #[.int .i64 64, .int .i64 n] w fun e w' => e = .returned (.tuple #[.nilIface, .bool false]) ∧ Below w.heap.size w w' := by
  have m1 := meth_top_64
  have t1 : decide (n < -9218868437227405312) = true := by simp; omega
  go_enter Try.func93, Try.ntmps93
  go_wp2_with (first | (go_at_call 92; refine (formOf_64 _).mono ?_; rintro e w1 ⟨rfl, hb1⟩) | go_in)
  go_ret2
  exact ⟨rfl, (by repeat (first | exact Below.refl _ _ | refine Below.drew ?_ | refine old_alloc ?_ _ | refine old_trans ?_ (by assumption)))⟩
set_option maxHeartbeats 400000 in
theorem formWith_64_hi (n : Int) (w : World) (h1 : 9218868437227405312 < n) :
    Calls Try.prog 93 #[.int .i64 64, .int .i64 n] w fun e w' => e = .returned (.tuple #[.nilIface, .bool false]) ∧ Below w.heap.size w w' := by
  have m1 := meth_top_64
  have t1 : decide (n < -9218868437227405312) = false := by simp; omega
  have t2 : decide (9218868437227405312 < n) = true := by simp; omega
  go_enter Try.func93, Try.ntmps93
  go_wp2_with (first | (go_at_call 92; refine (formOf_64 _).mono ?_; rintro e w1 ⟨rfl, hb1⟩) | go_in)
  go_ret2
  exact ⟨rfl, (by repeat (first | exact Below.refl _ _ | refine Below.drew ?_ | refine old_alloc ?_ _ | refine old_trans ?_ (by assumption)))⟩
theorem formWith_64_out (n : Int) (w : World) (h : ¬ (-9218868437227405312 ≤ n ∧ n ≤ 9218868437227405312)) :
    Calls Try.prog 93 #[.int .i64 64, .int .i64 n] w fun e w' => e = .returned (.tuple #[.nilIface, .bool false]) ∧ Below w.heap.size w w' := by
  by_cases h1 : n < -9218868437227405312
  · exact formWith_64_lo n w h1
  · exact formWith_64_hi n w (by omega)
set_option maxHeartbeats 400000 in
theorem iBitTop_64 (w : World) :
    Calls Try.prog 68 #[.int .i64 64] w fun e w' => e = .returned (.int .i64 9218868437227405312) ∧ Below w.heap.size w w' := by
  have m1 := meth_top_64
  go_enter Try.func68, Try.ntmps68
  go_wp2_with (first | (go_at_call 92; refine (formOf_64 _).mono ?_; rintro e w1 ⟨rfl, hb1⟩) | go_in)
  go_ret
  exact ⟨rfl, (by repeat (first | exact Below.refl _ _ | refine Below.drew ?_ | refine old_alloc ?_ _ | refine old_trans ?_ (by assumption)))⟩
set_option maxHeartbeats 400000 in
theorem sBitTop_64 (w : World) :
    Calls Try.prog 64 #[.int .i64 64] w fun e w' => e = .returned (.int .i64 9218868437227405312) ∧ w' = w := by
  go_enter Try.func64, Try.ntmps64
  go_wp2
  go_ret
  exact ⟨rfl, rfl⟩
set_option maxHeartbeats 400000 in
theorem sBitOk_64 (n : Int) (w : World) (h1 : -9218868437227405312 ≤ n) (h2 : n ≤ 9218868437227405312) :
    Calls Try.prog 65 #[.int .i64 64, .int .i64 n] w fun e w' => e = .returned (.bool true) ∧ Below w.heap.size w w' := by
  have t1 : decide (-9218868437227405312 ≤ n) = true := by simp; omega
  have t2 : decide (n ≤ 9218868437227405312) = true := by simp; omega
  go_enter Try.func65, Try.ntmps65
  go_wp2
  go_ret
  exact ⟨rfl, (by repeat (first | exact Below.refl _ _ | refine Below.drew ?_ | refine old_alloc ?_ _ | refine old_trans ?_ (by assumption)))⟩
set_option maxHeartbeats 400000 in
theorem sBitOk_64_lo (n : Int) (w : World) (h1 : n < -9218868437227405312) :
    Calls Try.prog 65 #[.int .i64 64, .int .i64 n] w fun e w' => e = .returned (.bool false) ∧ Below w.heap.size w w' := by
  have t1 : decide (-9218868437227405312 ≤ n) = false := by simp; omega
  go_enter Try.func65, Try.ntmps65
  go_wp2
  go_ret
  exact ⟨rfl, (by repeat (first | exact Below.refl _ _ | refine Below.drew ?_ | refine old_alloc ?_ _ | refine old_trans ?_ (by assumption)))⟩
set_option maxHeartbeats 400000 in
theorem sBitOk_64_hi (n : Int) (w : World) (h1 : 9218868437227405312 < n) :
    Calls Try.prog 65 #[.int .i64 64, .int .i64 n] w fun e w' => e = .returned (.bool false) ∧ Below w.heap.size w w' := by
  have t1 : decide (-9218868437227405312 ≤ n) = true := by simp; omega
  have t2 : decide (n ≤ 9218868437227405312) = false := by simp; omega
  go_enter Try.func65, Try.ntmps65
  go_wp2
  go_ret
  exact ⟨rfl, (by repeat (first | exact Below.refl _ _ | refine Below.drew ?_ | refine old_alloc ?_ _ | refine old_trans ?_ (by assumption)))⟩
theorem sBitOk_64_out (n : Int) (w : World) (h : ¬ (-9218868437227405312 ≤ n ∧ n ≤ 9218868437227405312)) :
    Calls Try.prog 65 #[.int .i64 64, .int .i64 n] w fun e w' => e = .returned (.bool false) ∧ Below w.heap.size w w' := by
  by_cases h1 : n < -9218868437227405312
  · exact sBitOk_64_lo n w h1
  · exact sBitOk_64_hi n w (by omega)

set_option maxHeartbeats 400000 in
theorem formWith_no (wd n : Int) (w : World) (h1 : wd ≠ 32) (h2 : wd ≠ 64) :
    Calls Try.prog 93 #[.int .i64 wd, .int .i64 n] w fun e w' => e = .returned (.tuple #[.nilIface, .bool false]) ∧ Below w.heap.size w w' := by
  have t1 : (32 == wd) = false := by simp; omega
  have t2 : (64 == wd) = false := by simp; omega
  go_enter Try.func93, Try.ntmps93
  go_wp2_with (first | (go_at_call 92; refine (formOf_no wd _ t1 t2).mono ?_; rintro e w1 ⟨rfl, hb1⟩) | go_in)
  go_ret2
  exact ⟨rfl, (by repeat (first | exact Below.refl _ _ | refine Below.drew ?_ | refine old_alloc ?_ _ | refine old_trans ?_ (by assumption)))⟩
set_option maxHeartbeats 400000 in
theorem iBitTop_no (wd : Int) (w : World) (h1 : wd ≠ 32) (h2 : wd ≠ 64) :
    Calls Try.prog 68 #[.int .i64 wd] w fun e w' => e = .returned (.int .i64 0) ∧ Below w.heap.size w w' := by
  have t1 : (32 == wd) = false := by simp; omega
  have t2 : (64 == wd) = false := by simp; omega
  go_enter Try.func68, Try.ntmps68
  go_wp2_with (first | (go_at_call 92; refine (formOf_no wd _ t1 t2).mono ?_; rintro e w1 ⟨rfl, hb1⟩) | go_in)
  go_ret
  exact ⟨rfl, (by repeat (first | exact Below.refl _ _ | refine Below.drew ?_ | refine old_alloc ?_ _ | refine old_trans ?_ (by assumption)))⟩
set_option maxHeartbeats 400000 in
theorem sBitTop_no (wd : Int) (w : World) (h1 : wd ≠ 32) (h2 : wd ≠ 64) :
    Calls Try.prog 64 #[.int .i64 wd] w fun e w' => e = .returned (.int .i64 0) ∧ w' = w := by
  have t1 : (wd == 32) = false := by simp; omega
  have t2 : (wd == 64) = false := by simp; omega
  go_enter Try.func64, Try.ntmps64
  go_wp2
  go_ret
  exact ⟨rfl, rfl⟩
set_option maxHeartbeats 400000 in
theorem sBitOk_no (wd n : Int) (w : World) (h1 : wd ≠ 32) (h2 : wd ≠ 64) :
    Calls Try.prog 65 #[.int .i64 wd, .int .i64 n] w fun e w' => e = .returned (.bool false) ∧ Below w.heap.size w w' := by
  have t1 : (wd == 32) = false := by simp; omega
  have t2 : (wd == 64) = false := by simp; omega
  go_enter Try.func65, Try.ntmps65
  go_wp2
  go_ret
  exact ⟨rfl, (by repeat (first | exact Below.refl _ _ | refine Below.drew ?_ | refine old_alloc ?_ _ | refine old_trans ?_ (by assumption)))⟩
end Go.Proofs.Ytpnfkigeagbhpaa

/- A reader of a code in memory: what its method pick does: a number from 0 to n-1, the reader one place further, all other old memory as it was. -/
namespace Go.Proofs.Ytpnfkigeagbhpaa
open Go.RowKit


/-- all old blocks but one are as they were -/
structure But (rb : Nat) (w w' : World) : Prop where
  os : w'.os = w.os
  tape : w'.tape = w.tape
  output : w'.output = w.output
  size : w.heap.size ≤ w'.heap.size
  block : ∀ k, k < w.heap.size → k ≠ rb → w'.heap[k]? = w.heap[k]?

theorem But.refl (rb : Nat) (w : World) : But rb w w := ⟨rfl, rfl, rfl, Nat.le_refl _, fun _ _ _ => rfl⟩
theorem But.trans {rb : Nat} {a b c : World} (h : But rb a b) (k : But rb b c) : But rb a c :=
  ⟨k.os.trans h.os, k.tape.trans h.tape, k.output.trans h.output, Nat.le_trans h.size k.size, fun i hi hne => (k.block i (Nat.lt_of_lt_of_le hi h.size) hne).trans (h.block i hi hne)⟩
theorem But.of {rb : Nat} {a b : World} (h : Below a.heap.size a b) : But rb a b := ⟨h.os, h.tape, h.output, h.size, fun i hi _ => h.block i hi⟩
theorem But.drew {rb : Nat} {a b : World} (h : But rb a b) : But rb a b.drew := ⟨h.os, h.tape, h.output, h.size, h.block⟩
theorem But.drewN {rb : Nat} {a b : World} (h : But rb a b) (n : Nat) : But rb a (b.drewN n) := ⟨h.os, h.tape, h.output, h.size, h.block⟩
theorem But.alloc {rb : Nat} {a b : World} (h : But rb a b) (o : Obj) : But rb a (b.alloc o) := h.trans (But.of ((Below.refl _ _).alloc (Nat.le_refl _) o))
theorem But.setCell {rb : Nat} {a b : World} (h : But rb a b) (i : Nat) (v : Value) : But rb a (b.setCell ⟨rb, i, none⟩ v) :=
  h.trans ⟨rfl, rfl, rfl, by simp [World.setCell], fun k _ hne => Below.heap_setCell _ _ _ _ hne⟩
/-- the code's bytes, in another block than the reader -/
def Bytes (w : World) (rb : Nat) (a : Option Addr) (len : Nat) : Prop :=
  len = 0 ∨ ∃ bb off : Nat, a = some ⟨bb, off, none⟩ ∧ bb < rb ∧ bb < w.heap.size ∧ ∀ i, i < len → ∃ z : Int, 0 ≤ z ∧ z ≤ 255 ∧ w.cell? ⟨bb, off + i, none⟩ = some (.int .u8 z)
/-- a reader at block rb, at place p -/
def Rd (w : World) (rb : Nat) (p : Int) : Prop :=
  ∃ (a : Option Addr) (len cap : Nat), rb < w.heap.size ∧ w.cell? ⟨rb, 0, none⟩ = some (.slice a len cap) ∧ w.cell? ⟨rb, 1, none⟩ = some (.int .i64 p) ∧ w.frozen? ⟨rb, 1, none⟩ = false ∧ len ≤ 2000 ∧ len ≤ cap ∧ Bytes w rb a len

theorem Bytes.but {w w' : World} {rb : Nat} {a : Option Addr} {len : Nat} (h : Bytes w rb a len) (b : But rb w w') : Bytes w' rb a len := by
  rcases h with h | ⟨bb, off, h1, h2, h3, h4⟩
  · exact .inl h
  · refine .inr ⟨bb, off, h1, h2, Nat.lt_of_lt_of_le h3 b.size, fun i hi => ?_⟩
    obtain ⟨z, z0, z1, hz⟩ := h4 i hi
    exact ⟨z, z0, z1, (World.cell?_of_block (w := w) (b.block bb h3 (Nat.ne_of_lt h2))).trans hz⟩
theorem Rd.old {w w' : World} {rb : Nat} {p : Int} (h : Rd w rb p) (b : Below w.heap.size w w') : Rd w' rb p := by
  obtain ⟨a, len, cap, h0, h1, h2, h3, h4, h5, h6⟩ := h
  exact ⟨a, len, cap, Nat.lt_of_lt_of_le h0 b.size, (b.cell (p := ⟨rb, 0, none⟩) h0).trans h1, (b.cell (p := ⟨rb, 1, none⟩) h0).trans h2, (b.frozen (p := ⟨rb, 1, none⟩) h0).trans h3, h4, h5, h6.but (But.of b)⟩
theorem Rd.drewN {w : World} {rb : Nat} {p : Int} (h : Rd w rb p) (n : Nat) : Rd (w.drewN n) rb p := h.old (below_drewN (Below.refl _ _) n)
theorem Rd.set {w : World} {rb : Nat} {p : Int} (h : Rd w rb p) (q : Int) : Rd (w.setCell ⟨rb, 1, none⟩ (.int .i64 q)) rb q := by
  obtain ⟨a, len, cap, h0, h1, h2, h3, h4, h5, h6⟩ := h
  refine ⟨a, len, cap, by simpa [World.setCell] using h0, ?_, World.cell?_setCell_same _ _ _ h2, by simpa using h3, h4, h5, h6.but ((But.refl _ _).setCell _ _)⟩
  rw [World.cell?_setCell_other _ _ _ _ (by intro h; injection h with _ h2; exact absurd h2 (by decide))]
  exact h1

theorem Rd.far {w : World} {rb : Nat} {p : Int} (h : Rd w rb p) (b i : Nat) (hb : rb < b) (v : Value) : Rd (w.setCell ⟨b, i, none⟩ v) rb p := by
  obtain ⟨a, len, cap, h0, h1, h2, h3, h4, h5, h6⟩ := h
  refine ⟨a, len, cap, by simpa [World.setCell] using h0, ?_, ?_, by simpa using h3, h4, h5, ?_⟩
  · rw [World.cell?_setCell_other _ _ _ _ (by intro h; injection h with h _; omega)]; exact h1
  · rw [World.cell?_setCell_other _ _ _ _ (by intro h; injection h with h _; omega)]; exact h2
  · rcases h6 with h6 | ⟨bb, off, q1, q2, q3, q4⟩
    · exact .inl h6
    · refine .inr ⟨bb, off, q1, q2, by simpa [World.setCell] using q3, fun j hj => ?_⟩
      obtain ⟨z, z0, z1, hz⟩ := q4 j hj
      refine ⟨z, z0, z1, ?_⟩
      rw [World.cell?_setCell_other _ _ _ _ (by intro h; injection h with h _; omega)]; exact hz
theorem But.far {rb : Nat} {a b : World} (h : But rb a b) {p : Addr} (hp : a.heap.size ≤ p.block) (v : Value) : But rb a (b.setCell p v) :=
  ⟨h.os, h.tape, h.output, by simpa [World.setCell] using h.size, fun k hk hne => (Below.heap_setCell _ _ _ _ (by omega)).trans (h.block k hk hne)⟩

theorem xor_pos (x y : Int) (h1 : 0 ≤ x) (h2 : x < 9223372036854775808) (h3 : 0 ≤ y) (h4 : y < 9223372036854775808) : 0 ≤ bits .xor .i64 x y := by
  obtain ⟨A, rfl⟩ := Int.eq_ofNat_of_zero_le h1
  obtain ⟨B, rfl⟩ := Int.eq_ofNat_of_zero_le h3
  have e : bits .xor .i64 (A : Int) (B : Int) = IntKind.i64.wrap (((BitVec.ofInt 64 (A : Int) ^^^ BitVec.ofInt 64 (B : Int)).toNat : Nat) : Int) := rfl
  have ha : (BitVec.ofInt 64 (A : Int)).toNat = A := by rw [BitVec.toNat_ofInt]; omega
  have hb : (BitVec.ofInt 64 (B : Int)).toNat = B := by rw [BitVec.toNat_ofInt]; omega
  rw [e, BitVec.toNat_xor, ha, hb]
  have l : A ^^^ B < 2 ^ 63 := Nat.xor_lt_two_pow (by omega) (by omega)
  generalize A ^^^ B = N at *
  have hx : (N : Int) % 2 ^ 64 = N := by omega
  simp only [IntKind.wrap, IntKind.bits, IntKind.signed, hx]
  rw [if_neg (by simp; omega)]
  omega

set_option maxHeartbeats 400000 in
theorem pick_none (rb cap : Nat) (a : Option Addr) (p n : Int) (w : World) (n1 : 1 ≤ n) (p0 : 0 ≤ p) (p1 : p ≤ 1000000)
    (r0 : w.cell? ⟨rb, 0, none⟩ = some (.slice a 0 cap)) (r1 : w.cell? ⟨rb, 1, none⟩ = some (.int .i64 p)) (rf : w.frozen? ⟨rb, 1, none⟩ = false) :
    Calls Try.prog 26 #[.pointer (some ⟨rb, 0, none⟩), .int .i64 n] w fun e w' => e = .returned (.int .i64 0) ∧ w' = w.setCell ⟨rb, 1, none⟩ (.int .i64 (p + 1)) := by
  have t1 : decide (n < 1) = false := by simp; omega
  go_enter Try.func26, Try.ntmps26
  go_wp2
  go_ret
  exact ⟨rfl, rfl⟩
set_option maxHeartbeats 400000 in
theorem pick_in (rb bb off len cap : Nat) (p n z : Int) (w : World) (n1 : 1 ≤ n) (p0 : 0 ≤ p) (p1 : p ≤ 1000000) (l0 : 0 < (len : Int)) (_lc : len ≤ cap) (hlt : p < (len : Int)) (z0 : 0 ≤ z) (z1 : z ≤ 255) (hne : bb ≠ rb)
    (r0 : w.cell? ⟨rb, 0, none⟩ = some (.slice (some ⟨bb, off, none⟩) len cap)) (r1 : w.cell? ⟨rb, 1, none⟩ = some (.int .i64 p)) (rf : w.frozen? ⟨rb, 1, none⟩ = false)
    (c0 : w.cell? ⟨bb, off + p.toNat, none⟩ = some (.int .u8 z)) :
    Calls Try.prog 26 #[.pointer (some ⟨rb, 0, none⟩), .int .i64 n] w fun e w' => e = .returned (.int .i64 (z % n)) ∧ w' = w.setCell ⟨rb, 1, none⟩ (.int .i64 (p + 1)) := by
  have t1 : decide (n < 1) = false := by simp; omega
  have t2 : ((len : Int) == 0) = false := by simp; omega
  go_enter Try.func26, Try.ntmps26
  go_wp2
  go_ret
  exact ⟨rfl, rfl⟩
set_option maxHeartbeats 400000 in
theorem pick_past (rb bb off len cap : Nat) (p n z1 z2 i1 i2 i3 : Int) (w : World) (n1 : 1 ≤ n) (p0 : 0 ≤ p) (p1 : p ≤ 1000000) (l0 : 0 < (len : Int)) (_lc : len ≤ cap) (hlt : (len : Int) ≤ p) (z10 : 0 ≤ z1) (z11 : z1 ≤ 255) (z20 : 0 ≤ z2) (z21 : z2 ≤ 255) (hne : bb ≠ rb)
    (r0 : w.cell? ⟨rb, 0, none⟩ = some (.slice (some ⟨bb, off, none⟩) len cap)) (r1 : w.cell? ⟨rb, 1, none⟩ = some (.int .i64 p)) (rf : w.frozen? ⟨rb, 1, none⟩ = false)
    (e1 : p % (len : Int) = i1) (e2 : (p * 7 + 3) % (len : Int) = i2) (e3 : p / (len : Int) = i3) (i10 : 0 ≤ i1) (i11 : i1 < (len : Int)) (i20 : 0 ≤ i2) (i21 : i2 < (len : Int)) (i30 : 0 ≤ i3) (i31 : i3 ≤ 1000000)
    (c1 : w.cell? ⟨bb, off + i1.toNat, none⟩ = some (.int .u8 z1)) (c2 : w.cell? ⟨bb, off + i2.toNat, none⟩ = some (.int .u8 z2)) :
    Calls Try.prog 26 #[.pointer (some ⟨rb, 0, none⟩), .int .i64 n] w fun e w' => (∃ x : Int, 0 ≤ x ∧ e = .returned (.int .i64 (x.tmod n))) ∧ ∃ k, w' = (w.setCell ⟨rb, 1, none⟩ (.int .i64 (p + 1))).drewN k := by
  have t1 : decide (n < 1) = false := by simp; omega
  have t2 : ((len : Int) == 0) = false := by simp; omega
  have hx : Hid (0 ≤ bits BinOp.xor IntKind.i64 (z1 * 131 + z2 * 1117 + p * 29 + i3 * 53) ((z1 * 131 + z2 * 1117 + p * 29 + i3 * 53) / 64)) := xor_pos _ _ (by omega) (by omega) (by omega) (by omega)
  go_enter Try.func26, Try.ntmps26
  go_wp2
  go_quiet (fail)
  go_wp2
  go_ret
  exact ⟨⟨_, hx.out, rfl⟩, _, rfl⟩

theorem pick_any (rb : Nat) (p n : Int) (w : World) (h : Rd w rb p) (p0 : 0 ≤ p) (p1 : p ≤ 1000000) (n1 : 1 ≤ n) :
    Calls Try.prog 26 #[.pointer (some ⟨rb, 0, none⟩), .int .i64 n] w fun e w' => (∃ v : Int, (0 ≤ v ∧ v < n) ∧ e = .returned (.int .i64 v)) ∧ Rd w' rb (p + 1) ∧ But rb w w' := by
  have hR := h.set (p + 1)
  have hB : But rb w (w.setCell ⟨rb, 1, none⟩ (.int .i64 (p + 1))) := (But.refl _ _).setCell _ _
  obtain ⟨a, len, cap, h0, h1, h2, h3, h4, h5, h6⟩ := h
  rcases h6 with h6 | ⟨bb, off, rfl, q2, q3, q4⟩
  · subst h6
    refine (pick_none rb cap a p n w n1 p0 p1 h1 h2 h3).mono ?_
    rintro e w' ⟨rfl, rfl⟩
    exact ⟨⟨0, ⟨by omega, by omega⟩, rfl⟩, hR, hB⟩
  · by_cases hl : len = 0
    · subst hl
      refine (pick_none rb cap _ p n w n1 p0 p1 h1 h2 h3).mono ?_
      rintro e w' ⟨rfl, rfl⟩
      exact ⟨⟨0, ⟨by omega, by omega⟩, rfl⟩, hR, hB⟩
    by_cases hp : p < (len : Int)
    · obtain ⟨z, z0, z1, hz⟩ := q4 p.toNat (by omega)
      refine (pick_in rb bb off len cap p n z w n1 p0 p1 (by omega) h5 hp z0 z1 (Nat.ne_of_lt q2) h1 h2 h3 hz).mono ?_
      rintro e w' ⟨rfl, rfl⟩
      exact ⟨⟨z % n, ⟨Int.emod_nonneg _ (by omega), Int.emod_lt_of_pos _ (by omega)⟩, rfl⟩, hR, hB⟩
    · have lp : (0 : Int) < (len : Int) := by omega
      have a1 := Int.emod_nonneg p (b := (len : Int)) (by omega)
      have a2 := Int.emod_lt_of_pos p lp
      have a3 := Int.emod_nonneg (p * 7 + 3) (b := (len : Int)) (by omega)
      have a4 := Int.emod_lt_of_pos (p * 7 + 3) lp
      have a5 : 0 ≤ p / (len : Int) := Int.ediv_nonneg p0 (by omega)
      have a6 : p / (len : Int) ≤ p := Int.ediv_le_self _ p0
      obtain ⟨z1, z10, z11, hz1⟩ := q4 (p % (len : Int)).toNat (by omega)
      obtain ⟨z2, z20, z21, hz2⟩ := q4 ((p * 7 + 3) % (len : Int)).toNat (by omega)
      refine (pick_past rb bb off len cap p n z1 z2 _ _ _ w n1 p0 p1 lp h5 (by omega) z10 z11 z20 z21 (Nat.ne_of_lt q2) h1 h2 h3 rfl rfl rfl a1 a2 a3 a4 a5 (by omega) hz1 hz2).mono ?_
      rintro e w' ⟨⟨x, x0, rfl⟩, k, rfl⟩
      exact ⟨⟨x.tmod n, ⟨Int.tmod_nonneg _ x0, Int.tmod_lt_of_pos _ (by omega)⟩, rfl⟩, hR.drewN k, hB.drewN k⟩
end Go.Proofs.Ytpnfkigeagbhpaa

/- The reader's methods big, width and ord: a number each, the reader some places further, all other old memory as it was. -/
namespace Go.Proofs.Ytpnfkigeagbhpaa
open Go.RowKit


/-- a reader that can still be read k times -/
def Rk (w : World) (rb : Nat) (k : Nat) : Prop := ∃ p : Int, (0 ≤ p ∧ p + k ≤ 1000000) ∧ Rd w rb p
theorem Rk.mono {w : World} {rb k j : Nat} (h : Rk w rb k) (hj : j ≤ k) : Rk w rb j := by
  obtain ⟨p, hp, hr⟩ := h
  exact ⟨p, by omega, hr⟩
theorem Rk.old {w w' : World} {rb k : Nat} (h : Rk w rb k) (b : Below w.heap.size w w') : Rk w' rb k := by
  obtain ⟨p, hp, hr⟩ := h
  exact ⟨p, hp, hr.old b⟩
theorem Rk.alloc {w : World} {rb k : Nat} (h : Rk w rb k) (o : Obj) : Rk (w.alloc o) rb k := h.old ((Below.refl _ _).alloc (Nat.le_refl _) o)
theorem Rk.lt {w : World} {rb k : Nat} (h : Rk w rb k) : rb < w.heap.size := by
  obtain ⟨p, _, a, len, cap, h0, _⟩ := h
  exact h0
theorem Rk.far {w : World} {rb k : Nat} (h : Rk w rb k) (b i : Nat) (hb : rb < b) (v : Value) : Rk (w.setCell ⟨b, i, none⟩ v) rb k := by
  obtain ⟨p, hp, hr⟩ := h
  exact ⟨p, hp, hr.far b i hb v⟩
/-- two cells of another block than the reader's, that can be written -/
def Two (w : World) (b : Nat) : Prop := ∃ x y : Value, w.cell? ⟨b, 0, none⟩ = some x ∧ w.cell? ⟨b, 1, none⟩ = some y ∧ w.frozen? ⟨b, 0, none⟩ = false ∧ w.frozen? ⟨b, 1, none⟩ = false ∧ b < w.heap.size
theorem Two.but {w w' : World} {b rb : Nat} (h : Two w b) (k : But rb w w') (hne : b ≠ rb) : Two w' b := by
  obtain ⟨x, y, h1, h2, h3, h4, h5⟩ := h
  have e := k.block b h5 hne
  exact ⟨x, y, (World.cell?_of_block (w := w) (a := ⟨b, 0, none⟩) e).trans h1, (World.cell?_of_block (w := w) (a := ⟨b, 1, none⟩) e).trans h2, (World.frozen?_of_block (w := w) (a := ⟨b, 0, none⟩) e).trans h3, (World.frozen?_of_block (w := w) (a := ⟨b, 1, none⟩) e).trans h4, Nat.lt_of_lt_of_le h5 k.size⟩
theorem pick_k (rb k : Nat) (n : Int) (w : World) (h : Rk w rb (k + 1)) (n1 : 1 ≤ n) :
    Calls Try.prog 26 #[.pointer (some ⟨rb, 0, none⟩), .int .i64 n] w fun e w' => (∃ v : Int, (0 ≤ v ∧ v < n) ∧ e = .returned (.int .i64 v)) ∧ Rk w' rb k ∧ But rb w w' := by
  obtain ⟨p, hp, hr⟩ := h
  refine (pick_any rb p n w hr hp.1 (by omega) n1).mono ?_
  rintro e w' ⟨hv, hr', hb⟩
  exact ⟨hv, ⟨p + 1, by omega, hr'⟩, hb⟩

set_option maxHeartbeats 400000 in
theorem big_k (rb k : Nat) (w : World) (h : Rk w rb (k + 8)) :
    Calls Try.prog 85 #[.pointer (some ⟨rb, 0, none⟩)] w fun e w' => (∃ v : Int, (0 ≤ v ∧ v < 18446744073709551616) ∧ e = .returned (.int .u64 v)) ∧ Rk w' rb k ∧ But rb w w' := by
  go_enter Try.func85, Try.ntmps85
  go_wp2
  go_loopw [3, 4] (fun a b wr => ∃ (j : Nat) (v : Int), j ≤ 8 ∧ Hid (0 ≤ v ∧ v < 18446744073709551616) ∧ a = .int .u64 v ∧ b = .int .i64 j ∧ Rk wr rb (k + (8 - j)) ∧ But rb w wr) (fun _ b _ => 8 - (intOf b).toNat)
  case atStart => exact ⟨0, 0, by omega, ⟨by omega, by omega⟩, rfl, rfl, h, But.refl _ _⟩
  case round =>
    obtain ⟨j, v, hj, hv, rfl, rfl, hR0, hB0⟩ := hrel
    by_cases hlt : j < 8
    · have hR1 : Rk wr rb (k + (8 - (j + 1)) + 1) := by rw [show k + (8 - (j + 1)) + 1 = k + (8 - j) by omega]; exact hR0
      clear hR0
      go_wp2_with (go_at_call 26; refine (pick_k rb _ _ _ (by assumption) (by decide)).mono ?_; rintro e wx ⟨⟨u, ⟨va, vb⟩, rfl⟩, hR, hB⟩)
      go_roundw
      case rel => exact ⟨j + 1, _, by omega, by show _ ∧ _; rw [IntKind.wrap_u64]; omega, rfl, by go_num, hR, But.trans hB0 hB⟩
      case measure => simp [intOf]; omega
    · have e : j = 8 := by omega
      subst e
      go_wp2
      go_ret
      exact ⟨⟨v, hv, rfl⟩, hR0, hB0⟩

set_option maxHeartbeats 400000 in
theorem width_k (rb k : Nat) (w : World) (h : Rk w rb (k + 2)) :
    Calls Try.prog 73 #[.pointer (some ⟨rb, 0, none⟩)] w fun e w' => (∃ v : Int, (-64 ≤ v ∧ v ≤ 64) ∧ e = .returned (.int .i64 v)) ∧ Rk w' rb k ∧ But rb w w' := by
  go_enter Try.func73, Try.ntmps73
  go_wp2_with fail
  refine (pick_k rb _ _ _ h (by decide)).mono ?_
  rintro e w1 ⟨⟨v, ⟨va, vb⟩, rfl⟩, hR, hB⟩
  by_cases c1 : v < 15
  · go_wp2
    go_ret
    exact ⟨⟨32, by omega, rfl⟩, hR.mono (by omega), hB⟩
  by_cases c2 : v < 30
  · go_wp2
    go_ret
    exact ⟨⟨64, by omega, rfl⟩, hR.mono (by omega), hB⟩
  go_wp2_with fail
  have hlt := hR.lt
  refine (pick_k rb k _ _ (hR.alloc _) (by decide)).mono ?_
  rintro e w2 ⟨⟨u, ⟨ua, ub⟩, rfl⟩, hR2, hB2⟩
  have hc : ∀ i, w2.cell? ⟨w1.heap.size, i, none⟩ = (#[Value.int IntKind.i64 0, Value.int IntKind.i64 63, Value.int IntKind.i64 16, Value.int IntKind.i64 (-64)] : Array Value)[i]? := fun i =>
    (World.cell?_of_block (w := w1.alloc (.cells #[Value.int IntKind.i64 0, Value.int IntKind.i64 63, Value.int IntKind.i64 16, Value.int IntKind.i64 (-64)] 3)) (hB2.block w1.heap.size (by simp) (by omega))).trans (by simp)
  have fin : ∀ x : Int, -64 ≤ x → x ≤ 64 → (∃ v : Int, (-64 ≤ v ∧ v ≤ 64) ∧ Ending.returned (.int .i64 x) = .returned (.int .i64 v)) ∧ Rk w2 rb k ∧ But rb w w2 := fun x a b => ⟨⟨x, ⟨a, b⟩, rfl⟩, hR2, (hB.alloc _).trans hB2⟩
  have h4 : u = 0 ∨ u = 1 ∨ u = 2 ∨ u = 3 := by omega
  clear hR hB hR2 hB2 hlt c1 c2 va vb h
  rcases h4 with rfl | rfl | rfl | rfl
  · go_wp2
    go_ret
    exact fin _ (by decide) (by decide)
  · go_wp2
    go_ret
    exact fin _ (by decide) (by decide)
  · go_wp2
    go_ret
    exact fin _ (by decide) (by decide)
  · go_wp2
    go_ret
    exact fin _ (by decide) (by decide)
end Go.Proofs.Ytpnfkigeagbhpaa

/- Draws of a width and an order number off a code: two numbers, nothing that was there is written. -/
namespace Go.Proofs.Ytpnfkigeagbhpaa
open Go.RowKit


/-- a code: a slice of bytes that came in -/
def IsCode (w : World) (a : Option Addr) (len cap : Nat) : Prop :=
  len ≤ cap ∧ (cap : Int) ≤ 9223372036854775807 ∧ (len = 0 ∨ ∃ bb off : Nat, a = some ⟨bb, off, none⟩ ∧ bb < w.heap.size ∧ ∀ i, i < len → ∃ z : Int, 0 ≤ z ∧ z ≤ 255 ∧ w.cell? ⟨bb, off + i, none⟩ = some (.int .u8 z))
theorem IsCode.old {w w' : World} {a : Option Addr} {len cap : Nat} (h : IsCode w a len cap) (b : Below w.heap.size w w') : IsCode w' a len cap := by
  obtain ⟨h1, h2, h3⟩ := h
  refine ⟨h1, h2, ?_⟩
  rcases h3 with h3 | ⟨bb, off, q1, q2, q3⟩
  · exact .inl h3
  · refine .inr ⟨bb, off, q1, Nat.lt_of_lt_of_le q2 b.size, fun i hi => ?_⟩
    obtain ⟨z, z0, z1, hz⟩ := q3 i hi
    exact ⟨z, z0, z1, (b.cell (p := ⟨bb, off + i, none⟩) q2).trans hz⟩

theorem made_rk (w : World) (a : Option Addr) (len len' cap : Nat) (h : IsCode w a len cap) (hl : len' ≤ len) (h2 : len' ≤ 2000) : Rk (w.alloc (.cells #[.slice a len' cap, .int .i64 0] 73)) w.heap.size 1000 := by
  obtain ⟨h1, _, h3⟩ := h
  refine ⟨0, by omega, a, len', cap, by simp, by simp, by simp, by simp, h2, by omega, ?_⟩
  rcases h3 with h3 | ⟨bb, off, q1, q2, q3⟩
  · exact .inl (by omega)
  · refine .inr ⟨bb, off, q1, q2, by simp; omega, fun i hi => ?_⟩
    obtain ⟨z, z0, z1, hz⟩ := q3 i (by omega)
    exact ⟨z, z0, z1, (World.cell?_alloc_lt _ _ _ q2).trans hz⟩

set_option maxHeartbeats 400000 in
theorem open_few (w : World) (a : Option Addr) (len cap : Nat) (h : (len : Int) ≤ 2000) :
    Calls Try.prog 25 #[.slice a len cap] w fun e w' => e = .returned (.pointer (some ⟨w.heap.size, 0, none⟩)) ∧ w' = w.alloc (.cells #[.slice a len cap, .int .i64 0] 73) := by
  have t1 : decide ((2000 : Int) < (len : Int)) = false := by simp; omega
  go_enter Try.func25, Try.ntmps25
  go_wp2
  go_ret
  exact ⟨rfl, rfl⟩
set_option maxHeartbeats 400000 in
theorem open_many (w : World) (bb off len cap : Nat) (h : (2000 : Int) < (len : Int)) (hc : (len : Int) ≤ (cap : Int)) (hm : (cap : Int) ≤ 9223372036854775807) :
    Calls Try.prog 25 #[.slice (some ⟨bb, off, none⟩) len cap] w fun e w' => e = .returned (.pointer (some ⟨w.heap.size, 0, none⟩)) ∧ w' = w.alloc (.cells #[.slice (some ⟨bb, off, none⟩) 2000 cap, .int .i64 0] 73) := by
  have t1 : decide ((2000 : Int) < (len : Int)) = true := by simp; omega
  have t2 : (2000 : Int) ≤ (cap : Int) := by omega
  go_enter Try.func25, Try.ntmps25
  go_wp2
  go_ret
  exact ⟨rfl, rfl⟩
end Go.Proofs.Ytpnfkigeagbhpaa

/- Contracts of BitUp and BitDown, of the program and of the specification: both answer the same; nothing that was there is written. -/
namespace Go.Proofs.Ytpnfkigeagbhpaa
open Go.RowKit


set_option maxHeartbeats 800000 in
theorem iBitOk_32 (n : Int) (h1 : -2139095040 ≤ n) (h2 : n ≤ 2139095040) (w : World) :
    Calls Try.prog 69 #[.int .i64 32, .int .i64 n] w fun e w' => e = .returned (.bool true) ∧ Below w.heap.size w w' := by
  go_enter Try.func69, Try.ntmps69
  go_wp2_with (go_at_call 93; refine (formWith_32 _ _ h1 h2).mono ?_; rintro e w1 ⟨rfl, hb1⟩)
  go_ret
  exact ⟨rfl, (by repeat (first | exact Below.refl _ _ | refine Below.drew ?_ | refine old_alloc ?_ _ | refine old_trans ?_ (by assumption)))⟩

set_option maxHeartbeats 800000 in
theorem iBitOk_32_out (n : Int) (h : ¬ (-2139095040 ≤ n ∧ n ≤ 2139095040)) (w : World) :
    Calls Try.prog 69 #[.int .i64 32, .int .i64 n] w fun e w' => e = .returned (.bool false) ∧ Below w.heap.size w w' := by
  go_enter Try.func69, Try.ntmps69
  go_wp2_with (go_at_call 93; refine (formWith_32_out _ _ h).mono ?_; rintro e w1 ⟨rfl, hb1⟩)
  go_ret
  exact ⟨rfl, (by repeat (first | exact Below.refl _ _ | refine Below.drew ?_ | refine old_alloc ?_ _ | refine old_trans ?_ (by assumption)))⟩

set_option maxHeartbeats 800000 in
theorem iBitOk_64 (n : Int) (h1 : -9218868437227405312 ≤ n) (h2 : n ≤ 9218868437227405312) (w : World) :
    Calls Try.prog 69 #[.int .i64 64, .int .i64 n] w fun e w' => e = .returned (.bool true) ∧ Below w.heap.size w w' := by
  go_enter Try.func69, Try.ntmps69
  go_wp2_with (go_at_call 93; refine (formWith_64 _ _ h1 h2).mono ?_; rintro e w1 ⟨rfl, hb1⟩)
  go_ret
  exact ⟨rfl, (by repeat (first | exact Below.refl _ _ | refine Below.drew ?_ | refine old_alloc ?_ _ | refine old_trans ?_ (by assumption)))⟩

set_option maxHeartbeats 800000 in
theorem iBitOk_64_out (n : Int) (h : ¬ (-9218868437227405312 ≤ n ∧ n ≤ 9218868437227405312)) (w : World) :
    Calls Try.prog 69 #[.int .i64 64, .int .i64 n] w fun e w' => e = .returned (.bool false) ∧ Below w.heap.size w w' := by
  go_enter Try.func69, Try.ntmps69
  go_wp2_with (go_at_call 93; refine (formWith_64_out _ _ h).mono ?_; rintro e w1 ⟨rfl, hb1⟩)
  go_ret
  exact ⟨rfl, (by repeat (first | exact Below.refl _ _ | refine Below.drew ?_ | refine old_alloc ?_ _ | refine old_trans ?_ (by assumption)))⟩

set_option maxHeartbeats 800000 in
theorem iBitOk_no (wd n : Int) (g1 : wd ≠ 32) (g2 : wd ≠ 64) (w : World) :
    Calls Try.prog 69 #[.int .i64 wd, .int .i64 n] w fun e w' => e = .returned (.bool false) ∧ Below w.heap.size w w' := by
  go_enter Try.func69, Try.ntmps69
  go_wp2_with (go_at_call 93; refine (formWith_no wd _ _ g1 g2).mono ?_; rintro e w1 ⟨rfl, hb1⟩)
  go_ret
  exact ⟨rfl, (by repeat (first | exact Below.refl _ _ | refine Below.drew ?_ | refine old_alloc ?_ _ | refine old_trans ?_ (by assumption)))⟩

end Go.Proofs.Ytpnfkigeagbhpaa

/- BitTop, BitOk and PairOk of the program and of the specification, for every width at once; nothing that was there is written. -/
namespace Go.Proofs.Ytpnfkigeagbhpaa
open Go.RowKit


theorem iTop (wd : Int) (w : World) :
    Calls Try.prog 68 #[.int .i64 wd] w fun e w' => e = .returned (.int .i64 (topI wd)) ∧ Below w.heap.size w w' := by
  by_cases c1 : wd = 32
  · subst c1; exact iBitTop_32 w
  by_cases c2 : wd = 64
  · subst c2; exact iBitTop_64 w
  rw [topI_no c1 c2]; exact iBitTop_no wd w c1 c2
theorem sTopR (wd : Int) (w : World) :
    Calls Try.prog 64 #[.int .i64 wd] w fun e w' => e = .returned (.int .i64 (topI wd)) ∧ w' = w := by
  by_cases c1 : wd = 32
  · subst c1; exact sBitTop_32 w
  by_cases c2 : wd = 64
  · subst c2; exact sBitTop_64 w
  rw [topI_no c1 c2]; exact sBitTop_no wd w c1 c2
theorem iOk (wd n : Int) (w : World) :
    Calls Try.prog 69 #[.int .i64 wd, .int .i64 n] w fun e w' => e = .returned (.bool (okB wd n)) ∧ Below w.heap.size w w' := by
  by_cases c1 : wd = 32
  · subst c1; rw [okB_32]
    by_cases h : -2139095040 ≤ n ∧ n ≤ 2139095040
    · rw [decide_eq_true h]; exact iBitOk_32 n h.1 h.2 w
    · rw [decide_eq_false h]; exact iBitOk_32_out n h w
  by_cases c2 : wd = 64
  · subst c2; rw [okB_64]
    by_cases h : -9218868437227405312 ≤ n ∧ n ≤ 9218868437227405312
    · rw [decide_eq_true h]; exact iBitOk_64 n h.1 h.2 w
    · rw [decide_eq_false h]; exact iBitOk_64_out n h w
  rw [okB_no n c1 c2]; exact iBitOk_no wd n c1 c2 w
theorem sOk (wd n : Int) (w : World) :
    Calls Try.prog 65 #[.int .i64 wd, .int .i64 n] w fun e w' => e = .returned (.bool (okB wd n)) ∧ Below w.heap.size w w' := by
  by_cases c1 : wd = 32
  · subst c1; rw [okB_32]
    by_cases h : -2139095040 ≤ n ∧ n ≤ 2139095040
    · rw [decide_eq_true h]; exact sBitOk_32 n w h.1 h.2
    · rw [decide_eq_false h]; exact sBitOk_32_out n w h
  by_cases c2 : wd = 64
  · subst c2; rw [okB_64]
    by_cases h : -9218868437227405312 ≤ n ∧ n ≤ 9218868437227405312
    · rw [decide_eq_true h]; exact sBitOk_64 n w h.1 h.2
    · rw [decide_eq_false h]; exact sBitOk_64_out n w h
  rw [okB_no n c1 c2]; exact sBitOk_no wd n w c1 c2

set_option maxHeartbeats 800000 in
theorem iPairOk (wd lo hi : Int) (w : World) :
    Calls Try.prog 36 #[.int .i64 wd, .agg #[.int .i64 lo, .int .i64 hi]] w fun e w' => e = .returned (.bool (pokB wd lo hi)) ∧ Below w.heap.size w w' := by
  have c0 : (w.alloc (.cells #[.int .i64 lo, .int .i64 hi] 42)).cell? ⟨w.heap.size, 0, none⟩ = some (.int .i64 lo) := by simp
  have c1 : (w.alloc (.cells #[.int .i64 lo, .int .i64 hi] 42)).cell? ⟨w.heap.size, 1, none⟩ = some (.int .i64 hi) := by simp
  obtain ⟨T1, T2⟩ := topI_bd wd
  have H1 := hd (iOk wd lo)
  have H2 := hd (iOk wd hi)
  have H0 := hd (iTop wd)
  have hp : Hid (pokB wd lo hi = (okB wd lo && (okB wd hi && (decide (lo ≤ hi) && ((lo != topI wd) && (hi != -topI wd)))))) := rfl
  generalize topI wd = T at *
  generalize okB wd lo = b1 at *
  generalize okB wd hi = b2 at *
  generalize pokB wd lo hi = r at *
  go_enter Try.func36, Try.ntmps36
  go_wp2_with fail
  refine (H0.out _).mono ?_
  rintro e w1 ⟨rfl, hb1⟩
  replace c0 := cell_later hb1 c0
  replace c1 := cell_later hb1 c1
  go_wp2_with fail
  refine (H1.out _).mono ?_
  rintro e w2 ⟨rfl, hb2⟩
  replace c0 := cell_later hb2 c0
  replace c1 := cell_later hb2 c1
  cases b1
  · go_wp2
    go_ret
    exact ⟨ret_b (by rw [hp.out]; rfl), (by repeat (first | exact Below.refl _ _ | refine Below.drew ?_ | refine old_alloc ?_ _ | refine old_trans ?_ (by assumption)))⟩
  go_wp2_with fail
  refine (H2.out _).mono ?_
  rintro e w3 ⟨rfl, hb3⟩
  replace c0 := cell_later hb3 c0
  replace c1 := cell_later hb3 c1
  cases b2
  · go_wp2
    go_ret
    exact ⟨ret_b (by rw [hp.out]; rfl), (by repeat (first | exact Below.refl _ _ | refine Below.drew ?_ | refine old_alloc ?_ _ | refine old_trans ?_ (by assumption)))⟩
  by_cases t1 : lo ≤ hi
  · by_cases t2 : (lo != T) = true
    · go_wp2
      all_goals
        go_ret
        refine ⟨ret_b ?_, (by repeat (first | exact Below.refl _ _ | refine Below.drew ?_ | refine old_alloc ?_ _ | refine old_trans ?_ (by assumption)))⟩
        rw [hp.out]; simp [*]
    · replace t2 : (lo != T) = false := by simpa using t2
      go_wp2
      go_ret
      exact ⟨ret_b (by rw [hp.out, t2]; simp), (by repeat (first | exact Below.refl _ _ | refine Below.drew ?_ | refine old_alloc ?_ _ | refine old_trans ?_ (by assumption)))⟩
  · have t3 : decide (lo ≤ hi) = false := by simpa using t1
    go_wp2
    go_ret
    exact ⟨ret_b (by rw [hp.out, t3]; rfl), (by repeat (first | exact Below.refl _ _ | refine Below.drew ?_ | refine old_alloc ?_ _ | refine old_trans ?_ (by assumption)))⟩
end Go.Proofs.Ytpnfkigeagbhpaa

/- Contracts of BitGap and BitMiddle, of the program and of the specification: steps and middle; nothing that was there is written. -/
namespace Go.Proofs.Ytpnfkigeagbhpaa
open Go.RowKit

def gapI (lo hi : Int) : Int := if hi < lo then 0 else hi - lo
def midI (lo hi : Int) : Int := lo + gapI lo hi / 2

end Go.Proofs.Ytpnfkigeagbhpaa

/- The reader's method ord: a number, the reader some places further, all other old memory as it was. -/
namespace Go.Proofs.Ytpnfkigeagbhpaa
open Go.RowKit


set_option maxHeartbeats 2000000 in
theorem ordT_32 (rb k : Nat) (w : World) (h : Rk w rb (k + 13)) :
    Calls Try.prog 87 #[.pointer (some ⟨rb, 0, none⟩), .int .i64 32] w fun e w' => (∃ v : Int, (-9218868437227405315 ≤ v ∧ v ≤ 9218868437227405315) ∧ e = .returned (.int .i64 v)) ∧ Rk w' rb k ∧ But rb w w' := by
  go_enter Try.func87, Try.ntmps87
  go_wp2_with (go_at_call 64; refine (sBitTop_32 _).mono ?_; rintro e w0 ⟨rfl, rfl⟩)
  refine (pick_k rb _ _ _ h (by decide)).mono ?_
  rintro e w1 ⟨⟨v0, ⟨va, vb⟩, rfl⟩, hR1, hB1⟩
  have h6 : v0 = 0 ∨ v0 = 1 ∨ v0 = 2 ∨ v0 = 3 ∨ v0 = 4 ∨ 5 ≤ v0 := by omega
  clear h
  rcases h6 with rfl | rfl | rfl | rfl | rfl | h5
  · go_wp2_with (first | (go_at_call 26; refine (pick_k rb _ _ _ (by assumption) (by decide)).mono ?_; rintro e wx ⟨⟨v, ⟨va, vb⟩, rfl⟩, hR, hB⟩) | (go_at_call 85; refine (big_k rb _ _ (by assumption)).mono ?_; rintro e wx ⟨⟨v, ⟨va, vb⟩, rfl⟩, hR, hB⟩))
    all_goals
      go_ret
      refine ⟨⟨_, ?_, rfl⟩, Rk.mono (by assumption) (by omega), (by repeat (first | exact But.refl _ _ | assumption | refine But.drew ?_ | refine But.alloc ?_ _ | refine But.trans ?_ (by assumption)))⟩
      first | omega | (simp only [wrap64]; omega)
  · go_wp2_with (first | (go_at_call 26; refine (pick_k rb _ _ _ (by assumption) (by decide)).mono ?_; rintro e wx ⟨⟨v, ⟨va, vb⟩, rfl⟩, hR, hB⟩) | (go_at_call 85; refine (big_k rb _ _ (by assumption)).mono ?_; rintro e wx ⟨⟨v, ⟨va, vb⟩, rfl⟩, hR, hB⟩))
    all_goals
      go_ret
      refine ⟨⟨_, ?_, rfl⟩, Rk.mono (by assumption) (by omega), (by repeat (first | exact But.refl _ _ | assumption | refine But.drew ?_ | refine But.alloc ?_ _ | refine But.trans ?_ (by assumption)))⟩
      first | omega | (simp only [wrap64]; omega)
  · go_wp2_with (first | (go_at_call 26; refine (pick_k rb _ _ _ (by assumption) (by decide)).mono ?_; rintro e wx ⟨⟨v, ⟨va, vb⟩, rfl⟩, hR, hB⟩) | (go_at_call 85; refine (big_k rb _ _ (by assumption)).mono ?_; rintro e wx ⟨⟨v, ⟨va, vb⟩, rfl⟩, hR, hB⟩))
    all_goals
      go_ret
      refine ⟨⟨_, ?_, rfl⟩, Rk.mono (by assumption) (by omega), (by repeat (first | exact But.refl _ _ | assumption | refine But.drew ?_ | refine But.alloc ?_ _ | refine But.trans ?_ (by assumption)))⟩
      first | omega | (simp only [wrap64]; omega)
  · go_wp2_with (first | (go_at_call 26; refine (pick_k rb _ _ _ (by assumption) (by decide)).mono ?_; rintro e wx ⟨⟨v, ⟨va, vb⟩, rfl⟩, hR, hB⟩) | (go_at_call 85; refine (big_k rb _ _ (by assumption)).mono ?_; rintro e wx ⟨⟨v, ⟨va, vb⟩, rfl⟩, hR, hB⟩))
    all_goals
      go_ret
      refine ⟨⟨_, ?_, rfl⟩, Rk.mono (by assumption) (by omega), (by repeat (first | exact But.refl _ _ | assumption | refine But.drew ?_ | refine But.alloc ?_ _ | refine But.trans ?_ (by assumption)))⟩
      first | omega | (simp only [wrap64]; omega)
  · go_wp2_with (first | (go_at_call 26; refine (pick_k rb _ _ _ (by assumption) (by decide)).mono ?_; rintro e wx ⟨⟨v, ⟨va, vb⟩, rfl⟩, hR, hB⟩) | (go_at_call 85; refine (big_k rb _ _ (by assumption)).mono ?_; rintro e wx ⟨⟨v, ⟨va, vb⟩, rfl⟩, hR, hB⟩))
    all_goals
      go_ret
      refine ⟨⟨_, ?_, rfl⟩, Rk.mono (by assumption) (by omega), (by repeat (first | exact But.refl _ _ | assumption | refine But.drew ?_ | refine But.alloc ?_ _ | refine But.trans ?_ (by assumption)))⟩
      first | omega | (simp only [wrap64]; omega)
  · have f0 : (v0 == 0) = false := by simp; omega
    have f1 : (v0 == 1) = false := by simp; omega
    have f2 : (v0 == 2) = false := by simp; omega
    have f3 : (v0 == 3) = false := by simp; omega
    have f4 : (v0 == 4) = false := by simp; omega
    go_wp2_with (first | (go_at_call 26; refine (pick_k rb _ _ _ (by assumption) (by decide)).mono ?_; rintro e wx ⟨⟨v, ⟨va, vb⟩, rfl⟩, hR, hB⟩) | (go_at_call 85; refine (big_k rb _ _ (by assumption)).mono ?_; rintro e wx ⟨⟨v, ⟨va, vb⟩, rfl⟩, hR, hB⟩))
    all_goals
      go_ret
      refine ⟨⟨_, ?_, rfl⟩, Rk.mono (by assumption) (by omega), (by repeat (first | exact But.refl _ _ | assumption | refine But.drew ?_ | refine But.alloc ?_ _ | refine But.trans ?_ (by assumption)))⟩
      first | omega | (simp only [wrap64]; omega)
end Go.Proofs.Ytpnfkigeagbhpaa

/- The reader's method ord: a number, the reader some places further, all other old memory as it was. -/
namespace Go.Proofs.Ytpnfkigeagbhpaa
open Go.RowKit


set_option maxHeartbeats 2000000 in
theorem ordT_64 (rb k : Nat) (w : World) (h : Rk w rb (k + 13)) :
    Calls Try.prog 87 #[.pointer (some ⟨rb, 0, none⟩), .int .i64 64] w fun e w' => (∃ v : Int, (-9218868437227405315 ≤ v ∧ v ≤ 9218868437227405315) ∧ e = .returned (.int .i64 v)) ∧ Rk w' rb k ∧ But rb w w' := by
  go_enter Try.func87, Try.ntmps87
  go_wp2_with (go_at_call 64; refine (sBitTop_64 _).mono ?_; rintro e w0 ⟨rfl, rfl⟩)
  refine (pick_k rb _ _ _ h (by decide)).mono ?_
  rintro e w1 ⟨⟨v0, ⟨va, vb⟩, rfl⟩, hR1, hB1⟩
  have h6 : v0 = 0 ∨ v0 = 1 ∨ v0 = 2 ∨ v0 = 3 ∨ v0 = 4 ∨ 5 ≤ v0 := by omega
  clear h
  rcases h6 with rfl | rfl | rfl | rfl | rfl | h5
  · go_wp2_with (first | (go_at_call 26; refine (pick_k rb _ _ _ (by assumption) (by decide)).mono ?_; rintro e wx ⟨⟨v, ⟨va, vb⟩, rfl⟩, hR, hB⟩) | (go_at_call 85; refine (big_k rb _ _ (by assumption)).mono ?_; rintro e wx ⟨⟨v, ⟨va, vb⟩, rfl⟩, hR, hB⟩))
    all_goals
      go_ret
      refine ⟨⟨_, ?_, rfl⟩, Rk.mono (by assumption) (by omega), (by repeat (first | exact But.refl _ _ | assumption | refine But.drew ?_ | refine But.alloc ?_ _ | refine But.trans ?_ (by assumption)))⟩
      first | omega | (simp only [wrap64]; omega)
  · go_wp2_with (first | (go_at_call 26; refine (pick_k rb _ _ _ (by assumption) (by decide)).mono ?_; rintro e wx ⟨⟨v, ⟨va, vb⟩, rfl⟩, hR, hB⟩) | (go_at_call 85; refine (big_k rb _ _ (by assumption)).mono ?_; rintro e wx ⟨⟨v, ⟨va, vb⟩, rfl⟩, hR, hB⟩))
    all_goals
      go_ret
      refine ⟨⟨_, ?_, rfl⟩, Rk.mono (by assumption) (by omega), (by repeat (first | exact But.refl _ _ | assumption | refine But.drew ?_ | refine But.alloc ?_ _ | refine But.trans ?_ (by assumption)))⟩
      first | omega | (simp only [wrap64]; omega)
  · go_wp2_with (first | (go_at_call 26; refine (pick_k rb _ _ _ (by assumption) (by decide)).mono ?_; rintro e wx ⟨⟨v, ⟨va, vb⟩, rfl⟩, hR, hB⟩) | (go_at_call 85; refine (big_k rb _ _ (by assumption)).mono ?_; rintro e wx ⟨⟨v, ⟨va, vb⟩, rfl⟩, hR, hB⟩))
    all_goals
      go_ret
      refine ⟨⟨_, ?_, rfl⟩, Rk.mono (by assumption) (by omega), (by repeat (first | exact But.refl _ _ | assumption | refine But.drew ?_ | refine But.alloc ?_ _ | refine But.trans ?_ (by assumption)))⟩
      first | omega | (simp only [wrap64]; omega)
  · go_wp2_with (first | (go_at_call 26; refine (pick_k rb _ _ _ (by assumption) (by decide)).mono ?_; rintro e wx ⟨⟨v, ⟨va, vb⟩, rfl⟩, hR, hB⟩) | (go_at_call 85; refine (big_k rb _ _ (by assumption)).mono ?_; rintro e wx ⟨⟨v, ⟨va, vb⟩, rfl⟩, hR, hB⟩))
    all_goals
      go_ret
      refine ⟨⟨_, ?_, rfl⟩, Rk.mono (by assumption) (by omega), (by repeat (first | exact But.refl _ _ | assumption | refine But.drew ?_ | refine But.alloc ?_ _ | refine But.trans ?_ (by assumption)))⟩
      first | omega | (simp only [wrap64]; omega)
  · go_wp2_with (first | (go_at_call 26; refine (pick_k rb _ _ _ (by assumption) (by decide)).mono ?_; rintro e wx ⟨⟨v, ⟨va, vb⟩, rfl⟩, hR, hB⟩) | (go_at_call 85; refine (big_k rb _ _ (by assumption)).mono ?_; rintro e wx ⟨⟨v, ⟨va, vb⟩, rfl⟩, hR, hB⟩))
    all_goals
      go_ret
      refine ⟨⟨_, ?_, rfl⟩, Rk.mono (by assumption) (by omega), (by repeat (first | exact But.refl _ _ | assumption | refine But.drew ?_ | refine But.alloc ?_ _ | refine But.trans ?_ (by assumption)))⟩
      first | omega | (simp only [wrap64]; omega)
  · have f0 : (v0 == 0) = false := by simp; omega
    have f1 : (v0 == 1) = false := by simp; omega
    have f2 : (v0 == 2) = false := by simp; omega
    have f3 : (v0 == 3) = false := by simp; omega
    have f4 : (v0 == 4) = false := by simp; omega
    go_wp2_with (first | (go_at_call 26; refine (pick_k rb _ _ _ (by assumption) (by decide)).mono ?_; rintro e wx ⟨⟨v, ⟨va, vb⟩, rfl⟩, hR, hB⟩) | (go_at_call 85; refine (big_k rb _ _ (by assumption)).mono ?_; rintro e wx ⟨⟨v, ⟨va, vb⟩, rfl⟩, hR, hB⟩))
    all_goals
      go_ret
      refine ⟨⟨_, ?_, rfl⟩, Rk.mono (by assumption) (by omega), (by repeat (first | exact But.refl _ _ | assumption | refine But.drew ?_ | refine But.alloc ?_ _ | refine But.trans ?_ (by assumption)))⟩
      first | omega | (simp only [wrap64]; omega)
end Go.Proofs.Ytpnfkigeagbhpaa
