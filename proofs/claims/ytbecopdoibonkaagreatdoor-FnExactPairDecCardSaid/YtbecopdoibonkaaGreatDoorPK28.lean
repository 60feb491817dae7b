/- The width of the values of either kind of floats, told by their size, and a float as the language has it: its bits are BitBits'; nothing that was there is written. No condition. -/
import Derived.Test.YtbecopdoibonkaaGreatDoorPK01
import Derived.WalkKit
import Derived.Laws.BitsAllLaws
import Derived.Test.YtbecopdoibonkaaGreatDoorPK24
import Ieee.Arith
import Derived.Laws.FloatArith
import Derived.Test.YtbecopdoibonkaaGreatDoorPK17
namespace Go.Proofs.YtbecopdoibonkaaGreatDoor
open Go.RowKit
set_option linter.unusedVariables false
set_option maxRecDepth 100000

theorem cvI32 (w : World) : (convert 3 216 (.int .i64 16777217)).run Tryz.prog w = .ok (.float .f32 1266679808) w := by kernel_rfl
theorem cv3264 (w : World) : (convert 216 227 (.float .f32 1266679808)).run Tryz.prog w = .ok (.float .f64 4715268809856909312) w := by kernel_rfl
theorem cvI64 (w : World) : (convert 3 227 (.int .i64 16777217)).run Tryz.prog w = .ok (.float .f64 4715268810125344768) w := by kernel_rfl
theorem iWidth32 (v : Value) (w : World) :
    Calls Tryz.prog 152 #[v] w fun e w' => e = .returned (.int .i64 32) ∧ w' = w := by
  have c1 := cvI32
  have c2 := cv3264
  go_enter Tryz.func152, Tryz.ntmps152
  go_wp2
  go_ret
  exact ⟨rfl, rfl⟩
theorem iWidth64 (v : Value) (w : World) :
    Calls Tryz.prog 165 #[v] w fun e w' => e = .returned (.int .i64 64) ∧ w' = w := by
  have c1 := cvI64
  go_enter Tryz.func165, Tryz.ntmps165
  go_wp2
  go_ret
  exact ⟨rfl, rfl⟩
end Go.Proofs.YtbecopdoibonkaaGreatDoor

/- The value of a float as a fraction: a size times a power of two; what is left of it in lowest terms is the same however much of the size is put into the power; the wide float of a narrow one has the same value. Mathematics alone. -/
namespace Go.Proofs.YtbecopdoibonkaaGreatDoor
open Go.RowKit
set_option linter.unusedVariables false
set_option maxRecDepth 100000

/-- the same in lowest terms -/
def SameF (A B A' B' : Nat) : Prop := lowT A B = lowT A' B' ∧ lowU A B = lowU A' B' ∧ (A = 0 ↔ A' = 0) ∧ (B = 0 ↔ B' = 0)
theorem SameF.refl (A B : Nat) : SameF A B A B := ⟨rfl, rfl, Iff.rfl, Iff.rfl⟩
theorem SameF.symm {A B A' B' : Nat} (h : SameF A B A' B') : SameF A' B' A B := ⟨h.1.symm, h.2.1.symm, h.2.2.1.symm, h.2.2.2.symm⟩
theorem SameF.trans {A B A' B' A'' B'' : Nat} (h : SameF A B A' B') (g : SameF A' B' A'' B'') : SameF A B A'' B'' := ⟨h.1.trans g.1, h.2.1.trans g.2.1, h.2.2.1.trans g.2.2.1, h.2.2.2.trans g.2.2.2⟩
theorem SameF.low {A B A' B' : Nat} (h : SameF A B A' B') : lowB A B = lowB A' B' := by
  unfold lowB
  rw [h.1, h.2.1]
  have : decide (B ≠ 0) = decide (B' ≠ 0) := by
    rw [decide_eq_decide]
    exact not_congr h.2.2.2
  rw [this]
theorem SameF.res {A B A' B' : Nat} (h : SameF A B A' B') {w : World} {base : Nat} {e : Ending} {s : Bool} (hr : FRes w base e (lowB A B) s A B) : FRes w base e (lowB A' B') s A' B' := by
  rw [h.low] at hr
  unfold FRes at hr ⊢
  have e1 : fT (lowB A' B') A B = fT (lowB A' B') A' B' := by unfold fT; rw [h.1]
  have e2 : fU (lowB A' B') A B = fU (lowB A' B') A' B' := by unfold fU; rw [h.2.1]
  have e3 : fS (lowB A' B') s A = fS (lowB A' B') s A' := by
    unfold fS
    have : decide (A ≠ 0) = decide (A' ≠ 0) := by rw [decide_eq_decide]; exact not_congr h.2.2.1
    rw [this]
  rw [← e1, ← e2, ← e3]
  exact hr
/-- the size and the power of a float that is m steps from 0 -/
def sz (U m : Nat) : Nat := if m < U then m else U + m % U
def pw (U : Nat) (L : Int) (m : Nat) : Int := if m < U then L else L + ((m / U : Nat) - 1)
end Go.Proofs.YtbecopdoibonkaaGreatDoor

/- The value of a finite float of either width as a fraction times a power of two, by the program: the size of the wide float without the twos in it. Condition: the library's table holds what its text lays. -/
namespace Go.Proofs.YtbecopdoibonkaaGreatDoor
open Go.RowKit
set_option linter.unusedVariables false
set_option maxRecDepth 100000

/-- a block of four values -/
structure C4 (w : World) (b : Nat) (x y z u : Value) : Prop where
  cells : w.cell? ⟨b, 0, none⟩ = some x ∧ w.cell? ⟨b, 1, none⟩ = some y ∧ w.cell? ⟨b, 2, none⟩ = some z ∧ w.cell? ⟨b, 3, none⟩ = some u
  froz : w.frozen? ⟨b, 0, none⟩ = false ∧ w.frozen? ⟨b, 1, none⟩ = false ∧ w.frozen? ⟨b, 2, none⟩ = false ∧ w.frozen? ⟨b, 3, none⟩ = false
  lt : b < w.heap.size
theorem C4.old {w w1 : World} {b : Nat} {x y z u : Value} (h : C4 w b x y z u) (hb : Below w.heap.size w w1) : C4 w1 b x y z u := by
  obtain ⟨⟨h1, h2, h3, h4⟩, ⟨g1, g2, g3, g4⟩, h5⟩ := h
  exact ⟨⟨(hb.cell (p := ⟨b, 0, none⟩) h5).trans h1, (hb.cell (p := ⟨b, 1, none⟩) h5).trans h2, (hb.cell (p := ⟨b, 2, none⟩) h5).trans h3, (hb.cell (p := ⟨b, 3, none⟩) h5).trans h4⟩, ⟨(hb.frozen (p := ⟨b, 0, none⟩) h5).trans g1, (hb.frozen (p := ⟨b, 1, none⟩) h5).trans g2, (hb.frozen (p := ⟨b, 2, none⟩) h5).trans g3, (hb.frozen (p := ⟨b, 3, none⟩) h5).trans g4⟩, Nat.lt_of_lt_of_le h5 hb.size⟩
theorem C4.drew {w : World} {b : Nat} {x y z u : Value} (h : C4 w b x y z u) : C4 w.drew b x y z u := ⟨h.cells, h.froz, h.lt⟩
theorem C4.new (w : World) (x y z u : Value) (t : TypeId) : C4 (w.alloc (.cells #[x, y, z, u] t)) w.heap.size x y z u := by
  refine ⟨⟨?_, ?_, ?_, ?_⟩, ⟨?_, ?_, ?_, ?_⟩, by simp⟩ <;> simp [go_sem]
theorem C4.far {w : World} {b c i : Nat} {x y z u v : Value} (h : C4 w b x y z u) (hn : b ≠ c) : C4 (w.setCell ⟨c, i, none⟩ v) b x y z u := by
  obtain ⟨⟨a0, a1, a2, a3⟩, ⟨f0, f1, f2, f3⟩, h1⟩ := h
  have o : ∀ (j : Nat), (w.setCell ⟨c, i, none⟩ v).cell? ⟨b, j, none⟩ = w.cell? ⟨b, j, none⟩ := fun j => World.cell?_setCell_other _ _ _ _ (by intro h; injection h with h2 _; omega)
  exact ⟨⟨(o 0).trans a0, (o 1).trans a1, (o 2).trans a2, (o 3).trans a3⟩, ⟨by simpa using f0, by simpa using f1, by simpa using f2, by simpa using f3⟩, by simpa [World.setCell] using h1⟩
theorem C4.stored {w : World} {b : Nat} {x y z u : Value} (h : C4 w b x y z u) (v0 v1 v2 v3 : Value) : C4 ((((w.setCell ⟨b, 0, none⟩ v0).setCell ⟨b, 1, none⟩ v1).setCell ⟨b, 2, none⟩ v2).setCell ⟨b, 3, none⟩ v3) b v0 v1 v2 v3 := by
  obtain ⟨⟨a0, a1, a2, a3⟩, ⟨f0, f1, f2, f3⟩, h1⟩ := h
  refine ⟨⟨?_, ?_, ?_, ?_⟩, ⟨by simpa using f0, by simpa using f1, by simpa using f2, by simpa using f3⟩, by simpa [World.setCell] using h1⟩
  · rw [setO _ _ _ _ _ (by omega), setO _ _ _ _ _ (by omega), setO _ _ _ _ _ (by omega)]; exact World.cell?_setCell_same _ _ _ a0
  · rw [setO _ _ _ _ _ (by omega), setO _ _ _ _ _ (by omega)]; exact World.cell?_setCell_same _ _ _ ((setO _ _ _ _ _ (by omega)).trans a1)
  · rw [setO _ _ _ _ _ (by omega)]; exact World.cell?_setCell_same _ _ _ ((setO _ _ _ _ _ (by omega)).trans ((setO _ _ _ _ _ (by omega)).trans a2))
  · exact World.cell?_setCell_same _ _ _ ((setO _ _ _ _ _ (by omega)).trans ((setO _ _ _ _ _ (by omega)).trans ((setO _ _ _ _ _ (by omega)).trans a3)))
theorem div_pow {s ee o : Nat} (he : s / 2 ^ ee = o) : (s : Int) / 2 ^ ee = (o : Int) := by
  rw [← he]
  rw [Int.natCast_ediv, Int.natCast_pow]
  rfl
theorem shr_u64 (s ee o : Nat) (he : s / 2 ^ ee = o) (hz : ee ≤ 64) : Op.shift .shr .u64 (s : Int) .i64 (ee : Int) = pure (.int .u64 (o : Int)) := by
  have h := shift_shr_u64 (yk := .i64) (x := (s : Int)) (y := (ee : Int)) (by omega) (by omega)
  rw [Int.toNat_natCast, div_pow he] at h
  exact h
end Go.Proofs.YtbecopdoibonkaaGreatDoor

/- The value of a finite float as a fraction in lowest terms, by the program. Conditions: the library's table and its handle of errors hold what their texts lay. -/
namespace Go.Proofs.YtbecopdoibonkaaGreatDoor
open Go.RowKit
set_option linter.unusedVariables false
set_option maxRecDepth 100000

end Go.Proofs.YtbecopdoibonkaaGreatDoor

/- A fraction times a power of two as a fraction alone, by the program; nothing that was there is written. -/
namespace Go.Proofs.YtbecopdoibonkaaGreatDoor
open Go.RowKit
set_option linter.unusedVariables false
set_option maxRecDepth 100000

theorem pow_16 (P q : Nat) : 65536 ^ P * 2 ^ q = 2 ^ (16 * P + q) := by
  rw [Nat.pow_add, Nat.pow_mul]
end Go.Proofs.YtbecopdoibonkaaGreatDoor

/- The value of a float as a fraction in lowest terms, by the program: FloatFrac. Conditions: the library's table and its handle of errors hold what their texts lay. -/
namespace Go.Proofs.YtbecopdoibonkaaGreatDoor
open Go.RowKit
set_option linter.unusedVariables false
set_option maxRecDepth 100000

theorem two_bd {k e : Nat} (h : k ≤ e) : 2 ^ k ≤ 2 ^ e := Nat.pow_le_pow_right (by omega) h
theorem p16 (k : Nat) : 65536 ^ k = 2 ^ (16 * k) := by rw [Nat.pow_mul]
theorem natL_len2 {v k : Nat} (h : v < 2 ^ (16 * k)) : (natL v).length ≤ k := natL_len.2 (by rw [p16]; exact h)
end Go.Proofs.YtbecopdoibonkaaGreatDoor

/- The value of a float as the specification has it: above and below a line. Nothing that was there is written. -/
namespace Go.Proofs.YtbecopdoibonkaaGreatDoor
open Go.RowKit
set_option linter.unusedVariables false
set_option maxRecDepth 100000

theorem Cel3.alloc {w : World} {b : Nat} {x y z : Value} (h : Cel3 w b x y z) (o : Obj) : Cel3 (w.alloc o) b x y z := h.old (old_alloc (Below.refl _ _) _)
theorem Cel3.later {w w' : World} {b : Nat} {x y z : Value} (h : Cel3 w b x y z) (g : Below w.heap.size w w') : Cel3 w' b x y z := h.old g
/-- a list whose numbers lie in no cell of block b -/
def Off (av : Option Addr) (b : Nat) : Prop := ∀ q, av = some q → q.block ≠ b
theorem InI.off {w : World} {a : Option Addr} {len cap b i : Nat} {xs : List Int} {v : Value} (h : InI w a len cap xs) (ho : Off a b) : InI (w.setCell ⟨b, i, none⟩ v) a len cap xs := by
  obtain ⟨h1, h2, h3, h4, h5⟩ := h
  refine ⟨h1, h2, h3, h4, ?_⟩
  rcases h5 with h5 | ⟨bb, off, q1, q2, q3⟩
  · exact .inl h5
  · have hn : bb ≠ b := ho _ q1
    refine .inr ⟨bb, off, q1, by simpa [World.setCell] using q2, fun i hi => ?_⟩
    rw [World.cell?_setCell_other _ _ _ _ (by intro h; injection h with h _; exact hn h.symm)]
    exact q3 i hi

theorem pow_lenF {j k : Nat} (h : j < 16 * k) : (natL (2 ^ j)).length ≤ k := natL_len2 (Nat.pow_lt_pow_right (by omega) h)
end Go.Proofs.YtbecopdoibonkaaGreatDoor

/- The value of a float as a fraction in lowest terms, by the specification; both at every number and every width. Conditions, of the program: the library's table and its handle of errors hold what their texts lay. -/
namespace Go.Proofs.YtbecopdoibonkaaGreatDoor
open Go.RowKit
set_option linter.unusedVariables false
set_option maxRecDepth 100000

set_option maxHeartbeats 1000000 in
theorem iValuesOfNo (wd : Int) (g1 : wd ≠ 32) (g2 : wd ≠ 64) (w : World) :
    Calls Tryz.prog 46 #[.int .i64 wd] w fun e w' => e = .returned (.tuple #[.nilIface, .bool false]) ∧ Below w.heap.size w w' := by
  have d1 : (wd == 32) = false := by simpa using g1
  have d2 : (wd == 64) = false := by simpa using g2
  go_enter Tryz.func46, Tryz.ntmps46
  go_wp2
  go_ret2
  exact ⟨rfl, (by repeat (first | exact Below.refl _ _ | refine Below.drew ?_ | refine old_alloc ?_ _ | refine old_trans ?_ (by assumption)))⟩
end Go.Proofs.YtbecopdoibonkaaGreatDoor
