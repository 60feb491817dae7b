/- Lists of whole numbers: what lies in memory, what a law's own copy, comparison, mark and look do. Conditions: lists of 2^20 numbers at most. -/
import Derived.Test.YtmllcpcbaojipaaDoorRows
import Derived.WalkKit
import Derived.WalkSpells
import Derived.WalkLawsBesides
import Derived.ProofKit
import Derived.OpenShut
import Derived.OwnWalk
import Derived.BigQuiet
import Derived.Deep.QuietTactic
import Derived.RangeFuncBox
import Derived.Maps.AppendAt
import Derived.Lib.SmallJoins
import Derived.ChangeOld
import Derived.ShutString
namespace Go.Proofs.YtmllcpcbaojipaaDoor
open Go.ChangeShapes Go.WideShapes Go.ChangeAt Go.RowKit
set_option linter.unusedVariables false
set_option maxRecDepth 100000

theorem hd {p : Prop} (h : p) : Hid p := h
theorem old_alloc {a b : World} (h : Below a.heap.size a b) (o : Obj) : Below a.heap.size a (b.alloc o) := h.alloc h.size o
theorem old_trans {a b c : World} (h : Below a.heap.size a b) (k : Below b.heap.size b c) : Below a.heap.size a c := h.trans (k.mono h.size)
theorem grown_below {w w' : World} (h : Below w.heap.size w w') : w.grownBy w' none := ⟨h.1, h.2, h.3, h.4, fun k hk _ => h.5 k hk⟩

/-- numbers in a block of their own -/
def IRow (w : World) (b : Nat) (xs : List Int) : Prop :=
  b < w.heap.size ∧ ∀ i, i < xs.length → w.cell? ⟨b, i, none⟩ = some (.int .i64 (xs.getD i 0)) ∧ w.frozen? ⟨b, i, none⟩ = false
def IFits (xs : List Int) : Prop := ∀ x ∈ xs, -9223372036854775808 ≤ x ∧ x ≤ 9223372036854775807
/-- numbers that lie somewhere -/
def InI (w : World) (a : Option Addr) (len cap : Nat) (xs : List Int) : Prop :=
  xs.length = len ∧ len ≤ cap ∧ cap ≤ maxLen ∧ IFits xs ∧
  (len = 0 ∨ ∃ b off : Nat, a = some ⟨b, off, none⟩ ∧ b < w.heap.size ∧ ∀ i, i < len → w.cell? ⟨b, off + i, none⟩ = some (.int .i64 (xs.getD i 0)))
theorem InI.old {w w' : World} {a : Option Addr} {len cap : Nat} {xs : List Int} (h : InI w a len cap xs) (b : Below w.heap.size w w') : InI w' a len cap xs := by
  obtain ⟨h1, h2, h3, h4, h5⟩ := h
  refine ⟨h1, h2, h3, h4, ?_⟩
  rcases h5 with h5 | ⟨bb, off, q1, q2, q3⟩
  · exact .inl h5
  · exact .inr ⟨bb, off, q1, Nat.lt_of_lt_of_le q2 b.size, fun i hi => (b.cell (p := ⟨bb, off + i, none⟩) q2).trans (q3 i hi)⟩
theorem InI.alloc {w : World} {a : Option Addr} {len cap : Nat} {xs : List Int} (h : InI w a len cap xs) (o : Obj) : InI (w.alloc o) a len cap xs := h.old ((Below.refl _ _).alloc (Nat.le_refl _) o)
theorem InI.drew {w : World} {a : Option Addr} {len cap : Nat} {xs : List Int} (h : InI w a len cap xs) : InI w.drew a len cap xs := h
theorem getD_mem {xs : List Int} {k : Nat} (hk : k < xs.length) : xs.getD k 0 ∈ xs := by
  have e2 : xs.getD k 0 = xs[k]'hk := by rw [List.getD_eq_getElem?_getD, List.getElem?_eq_getElem hk]; rfl
  rw [e2]
  exact List.getElem_mem _
theorem InI.at {w : World} {a : Option Addr} {len cap : Nat} {xs : List Int} (h : InI w a len cap xs) {k : Nat} (hk : k < len) : ∃ (b off : Nat) (x : Int), a = some ⟨b, off, none⟩ ∧ b < w.heap.size ∧ xs.getD k 0 = x ∧ (-9223372036854775808 ≤ x ∧ x ≤ 9223372036854775807) ∧ w.cell? ⟨b, off + k, none⟩ = some (.int .i64 x) := by
  rcases h.2.2.2.2 with h0 | ⟨b, off, e, hb, hc⟩
  · omega
  · exact ⟨b, off, _, e, hb, rfl, h.2.2.2.1 _ (getD_mem (by rw [h.1]; exact hk)), hc k hk⟩
theorem InI.kept {w w' : World} {a : Option Addr} {len cap : Nat} {xs : List Int} {row : Option Nat} (h : InI w a len cap xs) (g : w.grownBy w' row) (hne : 0 < len → ∀ q, a = some q → some q.block ≠ row) : InI w' a len cap xs := by
  obtain ⟨h1, h2, h3, h4, h5⟩ := h
  refine ⟨h1, h2, h3, h4, ?_⟩
  by_cases h0 : len = 0
  · exact .inl h0
  rcases h5 with h5 | ⟨b, off, q1, q2, q3⟩
  · exact .inl h5
  · refine .inr ⟨b, off, q1, Nat.lt_of_lt_of_le q2 g.size, fun i hi => ?_⟩
    have e := g.block b q2 (hne (by omega) _ q1)
    exact (World.cell?_of_block (a := ⟨b, off + i, none⟩) e).trans (q3 i hi)
theorem InI.far {w : World} {a : Option Addr} {len cap : Nat} {xs : List Int} (h : InI w a len cap xs) : 0 < len → ∀ q, a = some q → q.block < w.heap.size := by
  intro h0 q e
  rcases h.2.2.2.2 with h5 | ⟨b, off, q1, q2, -⟩
  · omega
  · rw [q1] at e; cases e; exact q2
theorem InI.len {w : World} {a : Option Addr} {len cap : Nat} {xs : List Int} (h : InI w a len cap xs) : len ≤ 9223372036854775807 := by
  have := Nat.le_trans h.2.1 h.2.2.1
  unfold maxLen at this
  omega
theorem IRow.old {w w' : World} {b : Nat} {xs : List Int} (h : IRow w b xs) (k : Below w.heap.size w w') : IRow w' b xs :=
  ⟨Nat.lt_of_lt_of_le h.1 k.size, fun i hi => ⟨(k.cell (p := ⟨b, i, none⟩) h.1).trans (h.2 i hi).1, (k.frozen (p := ⟨b, i, none⟩) h.1).trans (h.2 i hi).2⟩⟩
theorem IRow.at {w : World} {b : Nat} {xs : List Int} (h : IRow w b xs) {k : Nat} (hk : k < xs.length) : ∃ x : Int, xs.getD k 0 = x ∧ w.cell? ⟨b, k, none⟩ = some (.int .i64 x) ∧ w.frozen? ⟨b, k, none⟩ = false := ⟨_, rfl, (h.2 k hk).1, (h.2 k hk).2⟩
theorem IRow.set {w : World} {b : Nat} {xs : List Int} (h : IRow w b xs) (k : Nat) (hk : k < xs.length) (x : Int) : IRow (w.setCell ⟨b, k, none⟩ (.int .i64 x)) b (xs.set k x) := by
  refine ⟨by simpa [World.setCell] using h.1, fun i hi => ?_⟩
  rw [List.length_set] at hi
  obtain ⟨h1, h3⟩ := h.2 i hi
  by_cases e : i = k
  · subst e
    have eg : (xs.set i x).getD i 0 = x := by simp [List.getD_eq_getElem?_getD, hk]
    rw [eg]
    exact ⟨World.cell?_setCell_same _ _ _ h1, by simpa using h3⟩
  · have eg : (xs.set k x).getD i 0 = xs.getD i 0 := by simp [List.getD_eq_getElem?_getD, Ne.symm e]
    rw [eg]
    refine ⟨?_, by simpa using h3⟩
    rw [World.cell?_setCell_other _ _ _ _ (by intro h; injection h with _ h2; omega)]; exact h1
theorem IRow.kept {w w' : World} {c : Nat} {xs : List Int} {row : Option Nat} (h : IRow w c xs) (g : w.grownBy w' row) (hne : some c ≠ row) : IRow w' c xs := by
  refine ⟨Nat.lt_of_lt_of_le h.1 g.size, fun i hi => ?_⟩
  have e := g.block c h.1 hne
  exact ⟨(World.cell?_of_block (a := ⟨c, i, none⟩) e).trans (h.2 i hi).1, (World.frozen?_of_block (a := ⟨c, i, none⟩) e).trans (h.2 i hi).2⟩
theorem IRow.made (w : World) (n : Nat) (t : TypeId) : IRow (w.alloc (.cells (madeCells #[.int .i64 0] (n * 1)) t)) w.heap.size (List.replicate n 0) := by
  refine ⟨by simp, fun i hi => ?_⟩
  rw [List.length_replicate] at hi
  have eg : (List.replicate n (0 : Int)).getD i 0 = 0 := by simp [List.getD_eq_getElem?_getD, hi]
  rw [eg]
  have e0 : (madeCells #[Value.int IntKind.i64 0] (n * 1))[i]? = some (.int .i64 0) := by
    simp [madeCells, show i < n by omega, Nat.mod_one]
  exact ⟨by simpa using e0, by simp⟩

/-- the first k numbers are these -/
def IUpto (k : Nat) (qs xs : List Int) : Prop := qs.length = xs.length ∧ ∀ i, i < k → qs.getD i 0 = xs.getD i 0
theorem IUpto.zero {qs xs : List Int} (hp : qs.length = xs.length) : IUpto 0 qs xs := ⟨hp, fun i h => by omega⟩
theorem IUpto.step {k : Nat} {qs xs : List Int} (h : IUpto k qs xs) (hk : k < xs.length) : IUpto (k + 1) (qs.set k (xs.getD k 0)) xs := by
  refine ⟨by simpa using h.1, fun i hi => ?_⟩
  by_cases e : i = k
  · subst e; simp [List.getD_eq_getElem?_getD, h.1, hk]
  · rw [← h.2 i (by omega)]; simp [List.getD_eq_getElem?_getD, Ne.symm e]
theorem IUpto.all {qs xs : List Int} (h : IUpto xs.length qs xs) : qs = xs := by
  apply List.ext_getElem h.1
  intro i h1 h2
  have := h.2 i h2
  simpa [List.getD_eq_getElem?_getD, h1, h2] using this

section
variable {H : Type} {enc : TypeId × Value → H} {w : World} {base : Nat}
end
end Go.Proofs.YtmllcpcbaojipaaDoor

/- Contracts of the small functions of chapter 1: what each call returns; nothing that was there is written. No condition. -/
namespace Go.Proofs.YtmllcpcbaojipaaDoor
open Go.RowKit


theorem idx0 (w : World) : (Instr.index 99 (.agg #[.int .i64 32, .iface 95 (.agg #[]), .int .i64 64, .iface 98 (.agg #[])]) (.int .i64 0)).run Tryd.prog w = .ok (.agg #[.int .i64 32, .iface 95 (.agg #[])]) w := by kernel_rfl
theorem idx1 (w : World) : (Instr.index 99 (.agg #[.int .i64 32, .iface 95 (.agg #[]), .int .i64 64, .iface 98 (.agg #[])]) (.int .i64 1)).run Tryd.prog w = .ok (.agg #[.int .i64 64, .iface 98 (.agg #[])]) w := by kernel_rfl

set_option maxHeartbeats 400000 in
theorem formOf_32 (w : World) :
    Calls Tryd.prog 31 #[.int .i64 32] w fun e w' => e = .returned (.tuple #[.iface 95 (.agg #[]), .bool true]) ∧ Below w.heap.size w w' := by
  have i0 := idx0
  go_enter Tryd.func31, Tryd.ntmps31
  go_wp2
  refine wp_loop_rounds 1 ?_
  rw [rounds_succ]
  go_wp2
  go_ret2
  exact ⟨rfl, (by repeat (first | exact Below.refl _ _ | refine Below.drew ?_ | refine old_alloc ?_ _ | refine old_trans ?_ (by assumption)))⟩
set_option maxHeartbeats 400000 in
theorem formOf_64 (w : World) :
    Calls Tryd.prog 31 #[.int .i64 64] w fun e w' => e = .returned (.tuple #[.iface 98 (.agg #[]), .bool true]) ∧ Below w.heap.size w w' := by
  have i0 := idx0
  have i1 := idx1
  go_enter Tryd.func31, Tryd.ntmps31
  go_wp2
  refine wp_loop_rounds 2 ?_
  rw [rounds_succ]
  go_wp2
  rw [rounds_succ]
  go_wp2
  go_ret2
  exact ⟨rfl, (by repeat (first | exact Below.refl _ _ | refine Below.drew ?_ | refine old_alloc ?_ _ | refine old_trans ?_ (by assumption)))⟩
set_option maxHeartbeats 400000 in
theorem formOf_no (n : Int) (w : World) (h1 : (32 == n) = false) (h2 : (64 == n) = false) :
    Calls Tryd.prog 31 #[.int .i64 n] w fun e w' => e = .returned (.tuple #[.nilIface, .bool false]) ∧ Below w.heap.size w w' := by
  have i0 := idx0
  have i1 := idx1
  go_enter Tryd.func31, Tryd.ntmps31
  go_wp2
  refine wp_loop_rounds 3 ?_
  rw [rounds_succ]
  go_wp2
  rw [rounds_succ]
  go_wp2
  rw [rounds_succ]
  go_wp2
  go_ret2
  exact ⟨rfl, (by repeat (first | exact Below.refl _ _ | refine Below.drew ?_ | refine old_alloc ?_ _ | refine old_trans ?_ (by assumption)))⟩
end Go.Proofs.YtmllcpcbaojipaaDoor

/- Contracts of the methods of a form, of formWith and of BitTop: what each call returns at each width; nothing that was there is written. -/
namespace Go.Proofs.YtmllcpcbaojipaaDoor
open Go.RowKit

theorem meth_sign_32 (w : World) : (method 244 95 (.agg #[]) "loop.example/pinfold/impl.sign").run Tryd.prog w = .ok (80, .agg #[]) w := by kernel_rfl
theorem meth_top_32 (w : World) : (method 244 95 (.agg #[]) "loop.example/pinfold/impl.top").run Tryd.prog w = .ok (81, .agg #[]) w := by kernel_rfl
theorem meth_sign_64 (w : World) : (method 244 98 (.agg #[]) "loop.example/pinfold/impl.sign").run Tryd.prog w = .ok (84, .agg #[]) w := by kernel_rfl
theorem meth_top_64 (w : World) : (method 244 98 (.agg #[]) "loop.example/pinfold/impl.top").run Tryd.prog w = .ok (85, .agg #[]) w := by kernel_rfl

set_option maxHeartbeats 400000 in
theorem formWith_32 (n : Int) (w : World) (h1 : -2139095040 ≤ n) (h2 : n ≤ 2139095040) :
    Calls Tryd.prog 35 #[.int .i64 32, .int .i64 n] w fun e w' => e = .returned (.tuple #[.iface 95 (.agg #[]), .bool true]) ∧ Below w.heap.size w w' := by
  have m1 := meth_top_32
  have t1 : decide (n < -2139095040) = false := by simp; omega
  have t2 : decide (2139095040 < n) = false := by simp; omega
  go_enter Tryd.func35, Tryd.ntmps35
  go_wp2_with (first | (go_at_call 31; refine (formOf_32 _).mono ?_; rintro e w1 ⟨rfl, hb1⟩) | go_in)
  go_ret2
  exact ⟨rfl, (by repeat (first | exact Below.refl _ _ | refine Below.drew ?_ | refine old_alloc ?_ _ | refine old_trans ?_ (by assumption)))⟩
set_option maxHeartbeats 400000 in
theorem formWith_32_lo (n : Int) (w : World) (h1 : n < -2139095040) :
    Calls Tryd.prog 35 #[.int .i64 32, .int .i64 n] w fun e w' => e = .returned (.tuple #[.nilIface, .bool false]) ∧ Below w.heap.size w w' := by
  have m1 := meth_top_32
  have t1 : decide (n < -2139095040) = true := by simp; omega
  go_enter Tryd.func35, Tryd.ntmps35
  go_wp2_with (first | (go_at_call 31; refine (formOf_32 _).mono ?_; rintro e w1 ⟨rfl, hb1⟩) | go_in)
  go_ret2
  exact ⟨rfl, (by repeat (first | exact Below.refl _ _ | refine Below.drew ?_ | refine old_alloc ?_ _ | refine old_trans ?_ (by assumption)))⟩
set_option maxHeartbeats 400000 in
theorem formWith_32_hi (n : Int) (w : World) (h1 : 2139095040 < n) :
    Calls Tryd.prog 35 #[.int .i64 32, .int .i64 n] w fun e w' => e = .returned (.tuple #[.nilIface, .bool false]) ∧ Below w.heap.size w w' := by
  have m1 := meth_top_32
  have t1 : decide (n < -2139095040) = false := by simp; omega
  have t2 : decide (2139095040 < n) = true := by simp; omega
  go_enter Tryd.func35, Tryd.ntmps35
  go_wp2_with (first | (go_at_call 31; refine (formOf_32 _).mono ?_; rintro e w1 ⟨rfl, hb1⟩) | go_in)
  go_ret2
  exact ⟨rfl, (by repeat (first | exact Below.refl _ _ | refine Below.drew ?_ | refine old_alloc ?_ _ | refine old_trans ?_ (by assumption)))⟩
theorem formWith_32_out (n : Int) (w : World) (h : ¬ (-2139095040 ≤ n ∧ n ≤ 2139095040)) :
    Calls Tryd.prog 35 #[.int .i64 32, .int .i64 n] w fun e w' => e = .returned (.tuple #[.nilIface, .bool false]) ∧ Below w.heap.size w w' := by
  by_cases h1 : n < -2139095040
  · exact formWith_32_lo n w h1
  · exact formWith_32_hi n w (by omega)
set_option maxHeartbeats 400000 in
theorem iBitTop_32 (w : World) :
    Calls Tryd.prog 51 #[.int .i64 32] w fun e w' => e = .returned (.int .i64 2139095040) ∧ Below w.heap.size w w' := by
  have m1 := meth_top_32
  go_enter Tryd.func51, Tryd.ntmps51
  go_wp2_with (first | (go_at_call 31; refine (formOf_32 _).mono ?_; rintro e w1 ⟨rfl, hb1⟩) | go_in)
  go_ret
  exact ⟨rfl, (by repeat (first | exact Below.refl _ _ | refine Below.drew ?_ | refine old_alloc ?_ _ | refine old_trans ?_ (by assumption)))⟩
set_option maxHeartbeats 400000 in
theorem sBitTop_32 (w : World) :
    Calls Tryd.prog 43 #[.int .i64 32] w fun e w' => e = .returned (.int .i64 2139095040) ∧ w' = w := by
  go_enter Tryd.func43, Tryd.ntmps43
  go_wp2
  go_ret
  exact ⟨rfl, rfl⟩
set_option maxHeartbeats 400000 in
theorem sBitOk_32 (n : Int) (w : World) (h1 : -2139095040 ≤ n) (h2 : n ≤ 2139095040) :
    Calls Tryd.prog 44 #[.int .i64 32, .int .i64 n] w fun e w' => e = .returned (.bool true) ∧ Below w.heap.size w w' := by
  have t1 : decide (-2139095040 ≤ n) = true := by simp; omega
  have t2 : decide (n ≤ 2139095040) = true := by simp; omega
  go_enter Tryd.func44, Tryd.ntmps44
  go_wp2
  go_ret
  exact ⟨rfl, (by repeat (first | exact Below.refl _ _ | refine Below.drew ?_ | refine old_alloc ?_ _ | refine old_trans ?_ (by assumption)))⟩
set_option maxHeartbeats 400000 in
theorem sBitOk_32_lo (n : Int) (w : World) (h1 : n < -2139095040) :
    Calls Tryd.prog 44 #[.int .i64 32, .int .i64 n] w fun e w' => e = .returned (.bool false) ∧ Below w.heap.size w w' := by
  have t1 : decide (-2139095040 ≤ n) = false := by simp; omega
  go_enter Tryd.func44, Tryd.ntmps44
  go_wp2
  go_ret
  exact ⟨rfl, (by repeat (first | exact Below.refl _ _ | refine Below.drew ?_ | refine old_alloc ?_ _ | refine old_trans ?_ (by assumption)))⟩
set_option maxHeartbeats 400000 in
theorem sBitOk_32_hi (n : Int) (w : World) (h1 : 2139095040 < n) :
    Calls Tryd.prog 44 #[.int .i64 32, .int .i64 n] w fun e w' => e = .returned (.bool false) ∧ Below w.heap.size w w' := by
  have t1 : decide (-2139095040 ≤ n) = true := by simp; omega
  have t2 : decide (n ≤ 2139095040) = false := by simp; omega
  go_enter Tryd.func44, Tryd.ntmps44
  go_wp2
  go_ret
  exact ⟨rfl, (by repeat (first | exact Below.refl _ _ | refine Below.drew ?_ | refine old_alloc ?_ _ | refine old_trans ?_ (by assumption)))⟩
theorem sBitOk_32_out (n : Int) (w : World) (h : ¬ (-2139095040 ≤ n ∧ n ≤ 2139095040)) :
    Calls Tryd.prog 44 #[.int .i64 32, .int .i64 n] w fun e w' => e = .returned (.bool false) ∧ Below w.heap.size w w' := by
  by_cases h1 : n < -2139095040
  · exact sBitOk_32_lo n w h1
  · exact sBitOk_32_hi n w (by omega)

set_option maxHeartbeats 400000 in
theorem formWith_64 (n : Int) (w : World) (h1 : -9218868437227405312 ≤ n) (h2 : n ≤ 9218868437227405312) :
    Calls Tryd.prog 35 #[.int .i64 64, .int .i64 n] w fun e w' => e = .returned (.tuple #[.iface 98 (.agg #[]), .bool true]) ∧ Below w.heap.size w w' := by
  have m1 := meth_top_64
  have t1 : decide (n < -9218868437227405312) = false := by simp; omega
  have t2 : decide (9218868437227405312 < n) = false := by simp; omega
  go_enter Tryd.func35, Tryd.ntmps35
  go_wp2_with (first | (go_at_call 31; refine (formOf_64 _).mono ?_; rintro e w1 ⟨rfl, hb1⟩) | go_in)
  go_ret2
  exact ⟨rfl, (by repeat (first | exact Below.refl _ _ | refine Below.drew ?_ | refine old_alloc ?_ _ | refine old_trans ?_ (by assumption)))⟩
set_option maxHeartbeats 400000 in
theorem formWith_64_lo (n : Int) (w : World) (h1 : n < -9218868437227405312) :
    Calls Tryd.prog 35 #[.int .i64 64, .int .i64 n] w fun e w' => e = .returned (.tuple #[.nilIface, .bool false]) ∧ Below w.heap.size w w' := by
  have m1 := meth_top_64
  have t1 : decide (n < -9218868437227405312) = true := by simp; omega
  go_enter Tryd.func35, Tryd.ntmps35
  go_wp2_with (first | (go_at_call 31; refine (formOf_64 _).mono ?_; rintro e w1 ⟨rfl, hb1⟩) | go_in)
  go_ret2
  exact ⟨rfl, (by repeat (first | exact Below.refl _ _ | refine Below.drew ?_ | refine old_alloc ?_ _ | refine old_trans ?_ (by assumption)))⟩
set_option maxHeartbeats 400000 in
theorem formWith_64_hi (n : Int) (w : World) (h1 : 9218868437227405312 < n) :
    Calls Tryd.prog 35 #[.int .i64 64, .int .i64 n] w fun e w' => e = .returned (.tuple #[.nilIface, .bool false]) ∧ Below w.heap.size w w' := by
  have m1 := meth_top_64
  have t1 : decide (n < -9218868437227405312) = false := by simp; omega
  have t2 : decide (9218868437227405312 < n) = true := by simp; omega
  go_enter Tryd.func35, Tryd.ntmps35
  go_wp2_with (first | (go_at_call 31; refine (formOf_64 _).mono ?_; rintro e w1 ⟨rfl, hb1⟩) | go_in)
  go_ret2
  exact ⟨rfl, (by repeat (first | exact Below.refl _ _ | refine Below.drew ?_ | refine old_alloc ?_ _ | refine old_trans ?_ (by assumption)))⟩
theorem formWith_64_out (n : Int) (w : World) (h : ¬ (-9218868437227405312 ≤ n ∧ n ≤ 9218868437227405312)) :
    Calls Tryd.prog 35 #[.int .i64 64, .int .i64 n] w fun e w' => e = .returned (.tuple #[.nilIface, .bool false]) ∧ Below w.heap.size w w' := by
  by_cases h1 : n < -9218868437227405312
  · exact formWith_64_lo n w h1
  · exact formWith_64_hi n w (by omega)
set_option maxHeartbeats 400000 in
theorem iBitTop_64 (w : World) :
    Calls Tryd.prog 51 #[.int .i64 64] w fun e w' => e = .returned (.int .i64 9218868437227405312) ∧ Below w.heap.size w w' := by
  have m1 := meth_top_64
  go_enter Tryd.func51, Tryd.ntmps51
  go_wp2_with (first | (go_at_call 31; refine (formOf_64 _).mono ?_; rintro e w1 ⟨rfl, hb1⟩) | go_in)
  go_ret
  exact ⟨rfl, (by repeat (first | exact Below.refl _ _ | refine Below.drew ?_ | refine old_alloc ?_ _ | refine old_trans ?_ (by assumption)))⟩
set_option maxHeartbeats 400000 in
theorem sBitTop_64 (w : World) :
    Calls Tryd.prog 43 #[.int .i64 64] w fun e w' => e = .returned (.int .i64 9218868437227405312) ∧ w' = w := by
  go_enter Tryd.func43, Tryd.ntmps43
  go_wp2
  go_ret
  exact ⟨rfl, rfl⟩
set_option maxHeartbeats 400000 in
theorem sBitOk_64 (n : Int) (w : World) (h1 : -9218868437227405312 ≤ n) (h2 : n ≤ 9218868437227405312) :
    Calls Tryd.prog 44 #[.int .i64 64, .int .i64 n] w fun e w' => e = .returned (.bool true) ∧ Below w.heap.size w w' := by
  have t1 : decide (-9218868437227405312 ≤ n) = true := by simp; omega
  have t2 : decide (n ≤ 9218868437227405312) = true := by simp; omega
  go_enter Tryd.func44, Tryd.ntmps44
  go_wp2
  go_ret
  exact ⟨rfl, (by repeat (first | exact Below.refl _ _ | refine Below.drew ?_ | refine old_alloc ?_ _ | refine old_trans ?_ (by assumption)))⟩
set_option maxHeartbeats 400000 in
theorem sBitOk_64_lo (n : Int) (w : World) (h1 : n < -9218868437227405312) :
    Calls Tryd.prog 44 #[.int .i64 64, .int .i64 n] w fun e w' => e = .returned (.bool false) ∧ Below w.heap.size w w' := by
  have t1 : decide (-9218868437227405312 ≤ n) = false := by simp; omega
  go_enter Tryd.func44, Tryd.ntmps44
  go_wp2
  go_ret
  exact ⟨rfl, (by repeat (first | exact Below.refl _ _ | refine Below.drew ?_ | refine old_alloc ?_ _ | refine old_trans ?_ (by assumption)))⟩
set_option maxHeartbeats 400000 in
theorem sBitOk_64_hi (n : Int) (w : World) (h1 : 9218868437227405312 < n) :
    Calls Tryd.prog 44 #[.int .i64 64, .int .i64 n] w fun e w' => e = .returned (.bool false) ∧ Below w.heap.size w w' := by
  have t1 : decide (-9218868437227405312 ≤ n) = true := by simp; omega
  have t2 : decide (n ≤ 9218868437227405312) = false := by simp; omega
  go_enter Tryd.func44, Tryd.ntmps44
  go_wp2
  go_ret
  exact ⟨rfl, (by repeat (first | exact Below.refl _ _ | refine Below.drew ?_ | refine old_alloc ?_ _ | refine old_trans ?_ (by assumption)))⟩
theorem sBitOk_64_out (n : Int) (w : World) (h : ¬ (-9218868437227405312 ≤ n ∧ n ≤ 9218868437227405312)) :
    Calls Tryd.prog 44 #[.int .i64 64, .int .i64 n] w fun e w' => e = .returned (.bool false) ∧ Below w.heap.size w w' := by
  by_cases h1 : n < -9218868437227405312
  · exact sBitOk_64_lo n w h1
  · exact sBitOk_64_hi n w (by omega)

set_option maxHeartbeats 400000 in
theorem formWith_no (wd n : Int) (w : World) (h1 : wd ≠ 32) (h2 : wd ≠ 64) :
    Calls Tryd.prog 35 #[.int .i64 wd, .int .i64 n] w fun e w' => e = .returned (.tuple #[.nilIface, .bool false]) ∧ Below w.heap.size w w' := by
  have t1 : (32 == wd) = false := by simp; omega
  have t2 : (64 == wd) = false := by simp; omega
  go_enter Tryd.func35, Tryd.ntmps35
  go_wp2_with (first | (go_at_call 31; refine (formOf_no wd _ t1 t2).mono ?_; rintro e w1 ⟨rfl, hb1⟩) | go_in)
  go_ret2
  exact ⟨rfl, (by repeat (first | exact Below.refl _ _ | refine Below.drew ?_ | refine old_alloc ?_ _ | refine old_trans ?_ (by assumption)))⟩
set_option maxHeartbeats 400000 in
theorem iBitTop_no (wd : Int) (w : World) (h1 : wd ≠ 32) (h2 : wd ≠ 64) :
    Calls Tryd.prog 51 #[.int .i64 wd] w fun e w' => e = .returned (.int .i64 0) ∧ Below w.heap.size w w' := by
  have t1 : (32 == wd) = false := by simp; omega
  have t2 : (64 == wd) = false := by simp; omega
  go_enter Tryd.func51, Tryd.ntmps51
  go_wp2_with (first | (go_at_call 31; refine (formOf_no wd _ t1 t2).mono ?_; rintro e w1 ⟨rfl, hb1⟩) | go_in)
  go_ret
  exact ⟨rfl, (by repeat (first | exact Below.refl _ _ | refine Below.drew ?_ | refine old_alloc ?_ _ | refine old_trans ?_ (by assumption)))⟩
set_option maxHeartbeats 400000 in
theorem sBitTop_no (wd : Int) (w : World) (h1 : wd ≠ 32) (h2 : wd ≠ 64) :
    Calls Tryd.prog 43 #[.int .i64 wd] w fun e w' => e = .returned (.int .i64 0) ∧ w' = w := by
  have t1 : (wd == 32) = false := by simp; omega
  have t2 : (wd == 64) = false := by simp; omega
  go_enter Tryd.func43, Tryd.ntmps43
  go_wp2
  go_ret
  exact ⟨rfl, rfl⟩
set_option maxHeartbeats 400000 in
theorem sBitOk_no (wd n : Int) (w : World) (h1 : wd ≠ 32) (h2 : wd ≠ 64) :
    Calls Tryd.prog 44 #[.int .i64 wd, .int .i64 n] w fun e w' => e = .returned (.bool false) ∧ Below w.heap.size w w' := by
  have t1 : (wd == 32) = false := by simp; omega
  have t2 : (wd == 64) = false := by simp; omega
  go_enter Tryd.func44, Tryd.ntmps44
  go_wp2
  go_ret
  exact ⟨rfl, (by repeat (first | exact Below.refl _ _ | refine Below.drew ?_ | refine old_alloc ?_ _ | refine old_trans ?_ (by assumption)))⟩
end Go.Proofs.YtmllcpcbaojipaaDoor
