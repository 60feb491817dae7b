/- The width of the values of either kind of floats, told by their size, and a float as the language has it: its bits are BitBits'; nothing that was there is written. No condition. -/
import Derived.Test.YtlggbihdmabifaaGreatDoorPK01
import Derived.WalkKit
import Derived.Laws.BitsAllLaws
import Derived.Test.YtlggbihdmabifaaGreatDoorPK17
import Derived.Test.YtlggbihdmabifaaGreatDoorPK22
import Derived.Test.YtlggbihdmabifaaGreatDoorPK20
import Derived.Test.YtlggbihdmabifaaGreatDoorPK18
import Derived.Test.YtlggbihdmabifaaGreatDoorPK10
namespace Go.Proofs.YtlggbihdmabifaaGreatDoor
open Go.RowKit
set_option linter.unusedVariables false
set_option maxRecDepth 100000

theorem cvI32 (w : World) : (convert 3 202 (.int .i64 16777217)).run Tryz.prog w = .ok (.float .f32 1266679808) w := by kernel_rfl
theorem cv3264 (w : World) : (convert 202 206 (.float .f32 1266679808)).run Tryz.prog w = .ok (.float .f64 4715268809856909312) w := by kernel_rfl
theorem cvI64 (w : World) : (convert 3 206 (.int .i64 16777217)).run Tryz.prog w = .ok (.float .f64 4715268810125344768) w := by kernel_rfl
theorem iWidth32 (v : Value) (w : World) :
    Calls Tryz.prog 143 #[v] w fun e w' => e = .returned (.int .i64 32) ∧ w' = w := by
  have c1 := cvI32
  have c2 := cv3264
  go_enter Tryz.func143, Tryz.ntmps143
  go_wp2
  go_ret
  exact ⟨rfl, rfl⟩
theorem iWidth64 (v : Value) (w : World) :
    Calls Tryz.prog 155 #[v] w fun e w' => e = .returned (.int .i64 64) ∧ w' = w := by
  have c1 := cvI64
  go_enter Tryz.func155, Tryz.ntmps155
  go_wp2
  go_ret
  exact ⟨rfl, rfl⟩
end Go.Proofs.YtlggbihdmabifaaGreatDoor

/- The value of a float as a fraction: a size times a power of two; what is left of it in lowest terms is the same however much of the size is put into the power; the wide float of a narrow one has the same value. Mathematics alone. -/
namespace Go.Proofs.YtlggbihdmabifaaGreatDoor
open Go.RowKit
set_option linter.unusedVariables false
set_option maxRecDepth 100000

/-- above and below the line of s times 2 to the power of p -/
def vA (s : Nat) (p : Int) : Nat := if 0 ≤ p then 2 ^ p.toNat * s else s
def vB (p : Int) : Nat := if 0 ≤ p then 1 else 2 ^ (-p).toNat
theorem vB_ne (p : Int) : vB p ≠ 0 := by
  unfold vB
  split
  · omega
  · exact Nat.ne_of_gt (Nat.pow_pos (by omega))
/-- the same in lowest terms -/
def SameF (A B A' B' : Nat) : Prop := lowT A B = lowT A' B' ∧ lowU A B = lowU A' B' ∧ (A = 0 ↔ A' = 0) ∧ (B = 0 ↔ B' = 0)
theorem SameF.refl (A B : Nat) : SameF A B A B := ⟨rfl, rfl, Iff.rfl, Iff.rfl⟩
theorem SameF.symm {A B A' B' : Nat} (h : SameF A B A' B') : SameF A' B' A B := ⟨h.1.symm, h.2.1.symm, h.2.2.1.symm, h.2.2.2.symm⟩
theorem SameF.trans {A B A' B' A'' B'' : Nat} (h : SameF A B A' B') (g : SameF A' B' A'' B'') : SameF A B A'' B'' := ⟨h.1.trans g.1, h.2.1.trans g.2.1, h.2.2.1.trans g.2.2.1, h.2.2.2.trans g.2.2.2⟩
theorem SameF.low {A B A' B' : Nat} (h : SameF A B A' B') : lowB A B = lowB A' B' := by
  unfold lowB
  rw [h.1, h.2.1]
  have : decide (B ≠ 0) = decide (B' ≠ 0) := by
    rw [decide_eq_decide]
    exact not_congr h.2.2.2
  rw [this]
theorem SameF.res {A B A' B' : Nat} (h : SameF A B A' B') {w : World} {base : Nat} {e : Ending} {s : Bool} (hr : FRes w base e (lowB A B) s A B) : FRes w base e (lowB A' B') s A' B' := by
  rw [h.low] at hr
  unfold FRes at hr ⊢
  have e1 : fT (lowB A' B') A B = fT (lowB A' B') A' B' := by unfold fT; rw [h.1]
  have e2 : fU (lowB A' B') A B = fU (lowB A' B') A' B' := by unfold fU; rw [h.2.1]
  have e3 : fS (lowB A' B') s A = fS (lowB A' B') s A' := by
    unfold fS
    have : decide (A ≠ 0) = decide (A' ≠ 0) := by rw [decide_eq_decide]; exact not_congr h.2.2.1
    rw [this]
  rw [← e1, ← e2, ← e3]
  exact hr
/-- the size and the power of a float that is m steps from 0 -/
def sz (U m : Nat) : Nat := if m < U then m else U + m % U
def pw (U : Nat) (L : Int) (m : Nat) : Int := if m < U then L else L + ((m / U : Nat) - 1)
theorem pSize_nat (U m : Nat) : pSize U m = (sz U m : Nat) := by
  unfold pSize sz
  by_cases c : m < U
  · rw [if_pos (by omega), if_pos c]
  · rw [if_neg (by omega), if_neg c]; omega
theorem pPow_nat (U : Nat) (L : Int) (m : Nat) : pPow U L m = pw U L m := by
  unfold pPow pw
  by_cases c : m < U
  · rw [if_pos (by omega), if_pos c]
  · rw [if_neg (by omega), if_neg c]; omega
theorem pw_bd {m : Nat} (h : m < 9218868437227405312) : -1074 ≤ pw 4503599627370496 (-1074) m ∧ pw 4503599627370496 (-1074) m ≤ 971 := by
  unfold pw
  split <;> omega
theorem sz_bd {m : Nat} : sz 4503599627370496 m < 9007199254740992 := by
  unfold sz
  split <;> omega
theorem pw_bd32 {m : Nat} (h : m < 2139095040) : -149 ≤ pw 8388608 (-149) m ∧ pw 8388608 (-149) m ≤ 104 := by
  unfold pw
  split <;> omega
theorem sz_bd32 {m : Nat} : sz 8388608 m < 16777216 := by
  unfold sz
  split <;> omega
end Go.Proofs.YtlggbihdmabifaaGreatDoor

/- The value of a finite float of either width as a fraction times a power of two, by the program: the size of the wide float without the twos in it. Condition: the library's table holds what its text lays. -/
namespace Go.Proofs.YtlggbihdmabifaaGreatDoor
open Go.RowKit
set_option linter.unusedVariables false
set_option maxRecDepth 100000

/-- a block of four values -/
structure C4 (w : World) (b : Nat) (x y z u : Value) : Prop where
  cells : w.cell? ⟨b, 0, none⟩ = some x ∧ w.cell? ⟨b, 1, none⟩ = some y ∧ w.cell? ⟨b, 2, none⟩ = some z ∧ w.cell? ⟨b, 3, none⟩ = some u
  froz : w.frozen? ⟨b, 0, none⟩ = false ∧ w.frozen? ⟨b, 1, none⟩ = false ∧ w.frozen? ⟨b, 2, none⟩ = false ∧ w.frozen? ⟨b, 3, none⟩ = false
  lt : b < w.heap.size
theorem C4.old {w w1 : World} {b : Nat} {x y z u : Value} (h : C4 w b x y z u) (hb : Below w.heap.size w w1) : C4 w1 b x y z u := by
  obtain ⟨⟨h1, h2, h3, h4⟩, ⟨g1, g2, g3, g4⟩, h5⟩ := h
  exact ⟨⟨(hb.cell (p := ⟨b, 0, none⟩) h5).trans h1, (hb.cell (p := ⟨b, 1, none⟩) h5).trans h2, (hb.cell (p := ⟨b, 2, none⟩) h5).trans h3, (hb.cell (p := ⟨b, 3, none⟩) h5).trans h4⟩, ⟨(hb.frozen (p := ⟨b, 0, none⟩) h5).trans g1, (hb.frozen (p := ⟨b, 1, none⟩) h5).trans g2, (hb.frozen (p := ⟨b, 2, none⟩) h5).trans g3, (hb.frozen (p := ⟨b, 3, none⟩) h5).trans g4⟩, Nat.lt_of_lt_of_le h5 hb.size⟩
theorem C4.drew {w : World} {b : Nat} {x y z u : Value} (h : C4 w b x y z u) : C4 w.drew b x y z u := ⟨h.cells, h.froz, h.lt⟩
theorem C4.new (w : World) (x y z u : Value) (t : TypeId) : C4 (w.alloc (.cells #[x, y, z, u] t)) w.heap.size x y z u := by
  refine ⟨⟨?_, ?_, ?_, ?_⟩, ⟨?_, ?_, ?_, ?_⟩, by simp⟩ <;> simp [go_sem]
theorem C4.far {w : World} {b c i : Nat} {x y z u v : Value} (h : C4 w b x y z u) (hn : b ≠ c) : C4 (w.setCell ⟨c, i, none⟩ v) b x y z u := by
  obtain ⟨⟨a0, a1, a2, a3⟩, ⟨f0, f1, f2, f3⟩, h1⟩ := h
  have o : ∀ (j : Nat), (w.setCell ⟨c, i, none⟩ v).cell? ⟨b, j, none⟩ = w.cell? ⟨b, j, none⟩ := fun j => World.cell?_setCell_other _ _ _ _ (by intro h; injection h with h2 _; omega)
  exact ⟨⟨(o 0).trans a0, (o 1).trans a1, (o 2).trans a2, (o 3).trans a3⟩, ⟨by simpa using f0, by simpa using f1, by simpa using f2, by simpa using f3⟩, by simpa [World.setCell] using h1⟩
theorem C4.stored {w : World} {b : Nat} {x y z u : Value} (h : C4 w b x y z u) (v0 v1 v2 v3 : Value) : C4 ((((w.setCell ⟨b, 0, none⟩ v0).setCell ⟨b, 1, none⟩ v1).setCell ⟨b, 2, none⟩ v2).setCell ⟨b, 3, none⟩ v3) b v0 v1 v2 v3 := by
  obtain ⟨⟨a0, a1, a2, a3⟩, ⟨f0, f1, f2, f3⟩, h1⟩ := h
  refine ⟨⟨?_, ?_, ?_, ?_⟩, ⟨by simpa using f0, by simpa using f1, by simpa using f2, by simpa using f3⟩, by simpa [World.setCell] using h1⟩
  · rw [setO _ _ _ _ _ (by omega), setO _ _ _ _ _ (by omega), setO _ _ _ _ _ (by omega)]; exact World.cell?_setCell_same _ _ _ a0
  · rw [setO _ _ _ _ _ (by omega), setO _ _ _ _ _ (by omega)]; exact World.cell?_setCell_same _ _ _ ((setO _ _ _ _ _ (by omega)).trans a1)
  · rw [setO _ _ _ _ _ (by omega)]; exact World.cell?_setCell_same _ _ _ ((setO _ _ _ _ _ (by omega)).trans ((setO _ _ _ _ _ (by omega)).trans a2))
  · exact World.cell?_setCell_same _ _ _ ((setO _ _ _ _ _ (by omega)).trans ((setO _ _ _ _ _ (by omega)).trans ((setO _ _ _ _ _ (by omega)).trans a3)))
theorem three_later {w w1 : World} {p : Nat} {x y z : Value} (h : w.cell? ⟨p, 0, none⟩ = some x ∧ w.cell? ⟨p, 1, none⟩ = some y ∧ w.cell? ⟨p, 2, none⟩ = some z) (hb : Below w.heap.size w w1) :
    w1.cell? ⟨p, 0, none⟩ = some x ∧ w1.cell? ⟨p, 1, none⟩ = some y ∧ w1.cell? ⟨p, 2, none⟩ = some z :=
  ⟨cell_later hb h.1, cell_later hb h.2.1, cell_later hb h.2.2⟩

theorem div_pow {s ee o : Nat} (he : s / 2 ^ ee = o) : (s : Int) / 2 ^ ee = (o : Int) := by
  rw [← he]
  rw [Int.natCast_ediv, Int.natCast_pow]
  rfl
theorem shr_u64 (s ee o : Nat) (he : s / 2 ^ ee = o) (hz : ee ≤ 64) : Op.shift .shr .u64 (s : Int) .i64 (ee : Int) = pure (.int .u64 (o : Int)) := by
  have h := shift_shr_u64 (yk := .i64) (x := (s : Int)) (y := (ee : Int)) (by omega) (by omega)
  rw [Int.toNat_natCast, div_pow he] at h
  exact h
end Go.Proofs.YtlggbihdmabifaaGreatDoor

/- The value of a finite float as a fraction in lowest terms, by the program. Conditions: the library's table and its handle of errors hold what their texts lay. -/
namespace Go.Proofs.YtlggbihdmabifaaGreatDoor
open Go.RowKit
set_option linter.unusedVariables false
set_option maxRecDepth 100000

theorem absI_nat (n : Int) : absI n = (n.natAbs : Int) := by unfold absI; split <;> omega
end Go.Proofs.YtlggbihdmabifaaGreatDoor

/- A fraction times a power of two as a fraction alone, by the program; nothing that was there is written. -/
namespace Go.Proofs.YtlggbihdmabifaaGreatDoor
open Go.RowKit
set_option linter.unusedVariables false
set_option maxRecDepth 100000

theorem pow_16 (P q : Nat) : 65536 ^ P * 2 ^ q = 2 ^ (16 * P + q) := by
  rw [Nat.pow_add, Nat.pow_mul]
theorem natL_small {o : Nat} (h : o < 9007199254740992) : (natL o).length ≤ 4 := by
  have e : (65536 : Nat) ^ 4 = 18446744073709551616 := by decide
  exact natL_len.2 (by omega)
end Go.Proofs.YtlggbihdmabifaaGreatDoor

/- The value of a float as a fraction in lowest terms, by the program: FloatFrac. Conditions: the library's table and its handle of errors hold what their texts lay. -/
namespace Go.Proofs.YtlggbihdmabifaaGreatDoor
open Go.RowKit
set_option linter.unusedVariables false
set_option maxRecDepth 100000

theorem two_bd {k e : Nat} (h : k ≤ e) : 2 ^ k ≤ 2 ^ e := Nat.pow_le_pow_right (by omega) h
theorem p16 (k : Nat) : 65536 ^ k = 2 ^ (16 * k) := by rw [Nat.pow_mul]
theorem vA_lt {o e : Nat} {p : Int} (ho : o < 2 ^ 53) (he : p.toNat + 53 ≤ e) : vA o p < 2 ^ e := by
  refine Nat.lt_of_lt_of_le ?_ (two_bd he)
  unfold vA
  rw [Nat.pow_add]
  have h0 : 0 < 2 ^ p.toNat := Nat.pow_pos (by omega)
  split
  · exact Nat.mul_lt_mul_of_pos_left ho h0
  · exact Nat.lt_of_lt_of_le ho (Nat.le_mul_of_pos_left _ h0)
theorem vB_lt {e : Nat} {p : Int} (he : (-p).toNat < e) : vB p < 2 ^ e := by
  unfold vB
  split
  · exact Nat.one_lt_two_pow (by omega)
  · exact Nat.pow_lt_pow_right (by omega) he
theorem natL_len2 {v k : Nat} (h : v < 2 ^ (16 * k)) : (natL v).length ≤ k := natL_len.2 (by rw [p16]; exact h)
theorem vA_lenk {o k : Nat} {p : Int} (ho : o < 2 ^ 53) (hp : p.toNat + 53 ≤ 16 * k) : (natL (vA o p)).length ≤ k := natL_len2 (vA_lt ho hp)
theorem vB_lenk {k : Nat} {p : Int} (hp : (-p).toNat < 16 * k) : (natL (vB p)).length ≤ k := natL_len2 (vB_lt hp)
theorem vA_len {o : Nat} {p : Int} (ho : o < 9007199254740992) (hp : p ≤ 2000) : (natL (vA o p)).length ≤ 1024 :=
  vA_lenk ho (by omega)
theorem vB_len {p : Int} (hp : -2000 ≤ p) : (natL (vB p)).length ≤ 1024 :=
  vB_lenk (by omega)
end Go.Proofs.YtlggbihdmabifaaGreatDoor

/- The value of a float as the specification has it: above and below a line. Nothing that was there is written. -/
namespace Go.Proofs.YtlggbihdmabifaaGreatDoor
open Go.RowKit
set_option linter.unusedVariables false
set_option maxRecDepth 100000

theorem Cel3.alloc {w : World} {b : Nat} {x y z : Value} (h : Cel3 w b x y z) (o : Obj) : Cel3 (w.alloc o) b x y z := h.old (old_alloc (Below.refl _ _) _)
theorem Cel3.later {w w' : World} {b : Nat} {x y z : Value} (h : Cel3 w b x y z) (g : Below w.heap.size w w') : Cel3 w' b x y z := h.old g
theorem one_oiG (w : World) (t : TypeId) : OI (w.alloc (.cells #[.int .i64 1] t)) w.heap.size (some ⟨w.heap.size, 0, none⟩) 1 [1] := by
  have h := one_oi w t
  rw [natL_one] at h
  exact h
theorem c7a (w : World) (o1 : Obj) (x y z : Value) (t : TypeId) : Cel3 ((w.alloc o1).alloc (.cells #[x, y, z] t)) (w.heap.size + 1) x y z := by
  have h := Cel3.new (w.alloc o1) x y z t
  rw [World.size_alloc] at h
  exact h
theorem one_b (w : World) (o1 : Obj) (t : TypeId) : OI ((w.alloc o1).alloc (.cells #[.int .i64 1] t)) (w.heap.size + 1) (some ⟨w.heap.size + 1, 0, none⟩) 1 [1] := by
  have h := one_oiG (w.alloc o1) t
  rw [World.size_alloc] at h
  exact h
theorem one_d (w : World) (b : Nat) (x y z : Value) (t : TypeId) : OI ((((w.setCell ⟨b, 0, none⟩ x).setCell ⟨b, 1, none⟩ y).setCell ⟨b, 2, none⟩ z).alloc (.cells #[.int .i64 1] t)) w.heap.size (some ⟨w.heap.size, 0, none⟩) 1 [1] := by
  have h := one_oiG (((w.setCell ⟨b, 0, none⟩ x).setCell ⟨b, 1, none⟩ y).setCell ⟨b, 2, none⟩ z) t
  rw [setCell_size, setCell_size, setCell_size] at h
  exact h
theorem three_set {w : World} {p b : Nat} {x y z v0 v1 v2 : Value} (h : w.cell? ⟨p, 0, none⟩ = some x ∧ w.cell? ⟨p, 1, none⟩ = some y ∧ w.cell? ⟨p, 2, none⟩ = some z) (hn : p ≠ b) :
    (((w.setCell ⟨b, 0, none⟩ v0).setCell ⟨b, 1, none⟩ v1).setCell ⟨b, 2, none⟩ v2).cell? ⟨p, 0, none⟩ = some x ∧ (((w.setCell ⟨b, 0, none⟩ v0).setCell ⟨b, 1, none⟩ v1).setCell ⟨b, 2, none⟩ v2).cell? ⟨p, 1, none⟩ = some y ∧ (((w.setCell ⟨b, 0, none⟩ v0).setCell ⟨b, 1, none⟩ v1).setCell ⟨b, 2, none⟩ v2).cell? ⟨p, 2, none⟩ = some z := by
  have o : ∀ (W : World) (i j : Nat) (v : Value), (W.setCell ⟨b, i, none⟩ v).cell? ⟨p, j, none⟩ = W.cell? ⟨p, j, none⟩ := fun W i j v => World.cell?_setCell_other _ _ _ _ (by intro h; injection h with h2 _; omega)
  simp only [o]
  exact h
/-- a list whose numbers lie in no cell of block b -/
def Off (av : Option Addr) (b : Nat) : Prop := ∀ q, av = some q → q.block ≠ b
theorem OI.offLo {w : World} {base cv b : Nat} {av : Option Addr} {xs : List Int} (h : OI w base av cv xs) (hb : b < base) : Off av b := fun q e => by have := h.ge q e; omega
theorem offOne {k b : Nat} (h : k ≠ b) : Off (some ⟨k, 0, none⟩) b := fun q e => by cases e; exact h
theorem OI.offHi {w : World} {base cv b : Nat} {av : Option Addr} {xs : List Int} (h : OI w base av cv xs) (hb : w.heap.size ≤ b) : Off av b := fun q e => by have := h.lt q e; omega
theorem InI.off {w : World} {a : Option Addr} {len cap b i : Nat} {xs : List Int} {v : Value} (h : InI w a len cap xs) (ho : Off a b) : InI (w.setCell ⟨b, i, none⟩ v) a len cap xs := by
  obtain ⟨h1, h2, h3, h4, h5⟩ := h
  refine ⟨h1, h2, h3, h4, ?_⟩
  rcases h5 with h5 | ⟨bb, off, q1, q2, q3⟩
  · exact .inl h5
  · have hn : bb ≠ b := ho _ q1
    refine .inr ⟨bb, off, q1, by simpa [World.setCell] using q2, fun i hi => ?_⟩
    rw [World.cell?_setCell_other _ _ _ _ (by intro h; injection h with h _; exact hn h.symm)]
    exact q3 i hi

theorem pow_lenF {j k : Nat} (h : j < 16 * k) : (natL (2 ^ j)).length ≤ k := natL_len2 (Nat.pow_lt_pow_right (by omega) h)
theorem sPow2N (k : Nat) (hk : k ≤ 1100) (w : World) :
    Calls Tryz.prog 48 #[.int .i64 (k : Int)] w fun e w' => (∃ av cv, e = .returned (.slice av (natL (2 ^ k)).length cv) ∧ OI w' w.heap.size av cv (natL (2 ^ k))) ∧ Below w.heap.size w w' := by
  have h := sPow2 (k / 16) (k % 16) w (by omega) (by omega)
  have e1 : (16 * ((k / 16 : Nat) : Int) + ((k % 16 : Nat) : Int)) = (k : Int) := by omega
  have e2 : 65536 ^ (k / 16) * 2 ^ (k % 16) = 2 ^ k := by rw [pow_16, show 16 * (k / 16) + k % 16 = k by omega]
  rw [e1, e2] at h
  exact h
theorem resL8 {W : World} {b : Nat} {v0 v1 v2 : Value} {tmps : Array Value} (h : Cel3 W b v0 v1 v2) (ht : tmps[4]? = some (.pointer (some ⟨b, 0, none⟩))) : (results Tryz.f29 tmps).run Tryz.prog W = .ok (.agg #[v0, v1, v2]) W := by
  obtain ⟨-, ⟨a0, a1, a2⟩, -⟩ := h
  simp [results, Tryz.results29, go_sem, a0, a1, a2, ht]
set_option maxHeartbeats 4000000 in
theorem l8_cut (wd n p : Int) (s : Nat) (g : Bool) (hs : s < 9007199254740992) (hp : -1100 ≤ p ∧ p ≤ 1100) (w : World)
    (PT : Hid (∀ w, Calls Tryz.prog 46 #[.int .i64 wd, .int .i64 n] w fun e w' => e = .returned (.tuple #[.agg #[.bool g, .int .u64 (s : Int), .int .i64 p], .bool true]) ∧ Below w.heap.size w w')) :
    Calls Tryz.prog 29 #[.int .i64 wd, .int .i64 n] w fun e w' => (∃ av cv bv dv, e = .returned (.agg #[.bool g, .slice av (natL (vA s p)).length cv, .slice bv (natL (vB p)).length dv]) ∧ InI w' av (natL (vA s p)).length cv (natL (vA s p)) ∧ InI w' bv (natL (vB p)).length dv (natL (vB p))) ∧ Below w.heap.size w w' := by
  have NO := hd (sNatOf s (by omega))
  have K := Cel3.new w (.bool false) (.slice none 0 0) (.slice none 0 0) 60
  have hB : Below w.heap.size w (w.alloc (.cells #[.bool false, .slice none 0 0, .slice none 0 0] 60)) := (by repeat (first | exact Below.refl _ _ | refine Below.drew ?_ | refine old_alloc ?_ _ | refine old_trans ?_ (by assumption)))
  go_enter Tryz.func29, Tryz.ntmps29
  go_wp2_with fail
  refine (PT.out _).mono ?_
  rintro e w1 ⟨rfl, hb1⟩
  replace K := K.old hb1
  replace hB := old_trans hB hb1
  clear hb1 PT
  have hlt := K.1
  have P3 := Cel3.new w1 (.bool g) (.int .u64 (s : Int)) (.int .i64 p) 79
  have hS : (w1.alloc (.cells #[.bool g, .int .u64 (s : Int), .int .i64 p] 79)).cell? ⟨w1.heap.size, 0, none⟩ = some (.bool g) ∧ (w1.alloc (.cells #[.bool g, .int .u64 (s : Int), .int .i64 p] 79)).cell? ⟨w1.heap.size, 1, none⟩ = some (.int .u64 (s : Int)) ∧ (w1.alloc (.cells #[.bool g, .int .u64 (s : Int), .int .i64 p] 79)).cell? ⟨w1.heap.size, 2, none⟩ = some (.int .i64 p) := P3.2.1
  have ha : Below w1.heap.size w1 (w1.alloc (.cells #[.bool g, .int .u64 (s : Int), .int .i64 p] 79)) := old_alloc (Below.refl _ _) _
  replace K := K.old ha
  replace hB := old_trans hB ha
  have hpl := P3.1
  clear P3 ha
  go_upto_region 2 with fail
  generalize w1.alloc (.cells #[.bool g, .int .u64 (s : Int), .int .i64 p] 79) = W at *
  generalize w1.heap.size = PB at *
  go_cut [7] (fun v wx => ∃ bk av cv bv dv, v = .pointer (some ⟨bk, 0, none⟩) ∧ Cel3 wx bk (.bool g) (.slice av (natL s).length cv) (.slice bv 1 dv) ∧ (InI wx av (natL s).length cv (natL s) ∧ InI wx bv 1 dv [1]) ∧ ((Off av bk ∧ Off bv bk) ∧ Off av w.heap.size ∧ Off bv w.heap.size) ∧ (wx.cell? ⟨PB, 0, none⟩ = some (.bool g) ∧ wx.cell? ⟨PB, 1, none⟩ = some (.int .u64 (s : Int)) ∧ wx.cell? ⟨PB, 2, none⟩ = some (.int .i64 p)) ∧ (PB ≠ bk ∧ w.heap.size ≠ bk ∧ w.heap.size ≤ bk) ∧ Cel3 wx w.heap.size (.bool false) (.slice none 0 0) (.slice none 0 0) ∧ Below w.heap.size w wx)
  case first =>
    have CN := hd (fun w' (hS : w'.cell? ⟨PB, 0, none⟩ = some (.bool g) ∧ w'.cell? ⟨PB, 1, none⟩ = some (.int .u64 (s : Int)) ∧ w'.cell? ⟨PB, 2, none⟩ = some (.int .i64 p)) => (NO.out w').mono (fun e w'' (k : _ ∧ _) => (⟨k, three_later hS k.2⟩ : (_ ∧ _) ∧ (w''.cell? ⟨PB, 0, none⟩ = some (.bool g) ∧ w''.cell? ⟨PB, 1, none⟩ = some (.int .u64 (s : Int)) ∧ w''.cell? ⟨PB, 2, none⟩ = some (.int .i64 p)))))
    clear NO
    obtain ⟨h0, h1, h2⟩ := id hS
    have z1 := Nat.ne_of_lt hpl
    have z2 := Nat.ne_of_gt hpl
    have z3 := Nat.ne_of_lt K.1
    have z4 := Nat.ne_of_gt K.1
    have wlt := K.1
    have z5 : PB ≠ W.heap.size + 1 := by omega
    have z6 := z5.symm
    have z7 : w.heap.size ≠ W.heap.size + 1 := by have := K.1; omega
    have z8 := z7.symm
    go_wp2_with fail
    go_region_held3 (fun w' => w'.cell? ⟨PB, 0, none⟩ = some (.bool g) ∧ w'.cell? ⟨PB, 1, none⟩ = some (.int .u64 (s : Int)) ∧ w'.cell? ⟨PB, 2, none⟩ = some (.int .i64 p)) (go_keep) (first | (go_at_call 47; refine (CN.out _ (by assumption)).mono ?_; rintro e wx ⟨⟨⟨av, cv, rfl, A⟩, hbx⟩, hcx⟩; have hB := (by first | exact old_trans hB hbx | exact old_trans (Below.drew hB) hbx | exact old_trans (old_alloc hB _) hbx | exact old_trans (Below.drew (old_alloc hB _)) hbx | exact old_trans (old_alloc (old_alloc hB _) _) hbx | exact old_trans (Below.drew (old_alloc (old_alloc hB _) _)) hbx : Below w.heap.size w wx); have K := (by first | exact K.later hbx | exact K.drew.later hbx | exact (K.alloc _).later hbx | exact (K.alloc _).drew.later hbx | exact ((K.alloc _).alloc _).later hbx | exact ((K.alloc _).alloc _).drew.later hbx : Cel3 wx w.heap.size _ _ _); (first | (have Q1 := (by first | exact (one_oiG _ _).later hbx | exact (one_oiG _ _).drew.later hbx | exact ((one_oiG _ _).alloc _).later hbx | exact ((one_oiG _ _).alloc _).drew.later hbx : OI wx _ (some ⟨_, 0, none⟩) 1 [1]); (try simp only [World.size_alloc] at Q1)) | skip); (first | (have Q7 := (by first | exact (Cel3.new _ _ _ _ _).later hbx | exact (Cel3.new _ _ _ _ _).drew.later hbx | exact ((Cel3.new _ _ _ _ _).alloc _).later hbx | exact ((Cel3.new _ _ _ _ _).alloc _).drew.later hbx : Cel3 wx _ (.bool false) (.slice none 0 0) (.slice none 0 0)); (try simp only [World.size_alloc] at Q7); obtain ⟨v1, ⟨v2, v3, v4⟩, v5, v6, v7⟩ := id Q7; have vz := Nat.ne_of_lt v1; have vz' := Nat.ne_of_gt v1) | skip); have wlx := K.1; have kz := Nat.ne_of_lt K.1; have kz' := Nat.ne_of_gt K.1; have pl : PB < wx.heap.size := World.block_lt_of_cell? wx _ hcx.1; have pz := Nat.ne_of_lt pl; have pz' := Nat.ne_of_gt pl; have py : PB ≠ wx.heap.size + 1 := (by omega); have py' := py.symm; have ky : w.heap.size ≠ wx.heap.size + 1 := (by have := K.1; omega); have ky' := ky.symm))
    · go_wp2_with fail
      go_meet
      exact ⟨_, av, cv, some ⟨wx.heap.size, 0, none⟩, 1, rfl, c7a _ _ _ _ _ _, ⟨((A.alloc _).alloc _).inI, ((one_oiG wx _).alloc _).inI⟩, ⟨⟨A.offHi (by omega), offOne (by omega)⟩, A.offLo (by first | exact wlt | (simp; omega)), offOne (by omega)⟩, three_later hcx (old_alloc (old_alloc (Below.refl _ _) _) _), ⟨py, ky, by omega⟩, (K.alloc _).alloc _, old_alloc (old_alloc hB _) _⟩
    · go_wp2_with fail
      go_meet
      exact ⟨_, av, cv, some ⟨wx.heap.size + 1, 0, none⟩, 1, rfl, (Cel3.new wx _ _ _ _).alloc _, ⟨((A.alloc _).alloc _).inI, (one_b wx _ _).inI⟩, ⟨⟨A.offHi (Nat.le_refl _), offOne (by omega)⟩, A.offLo (by first | exact wlt | (simp; omega)), offOne (by omega)⟩, three_later hcx (old_alloc (old_alloc (Below.refl _ _) _) _), ⟨pz, kz, by omega⟩, (K.alloc _).alloc _, old_alloc (old_alloc hB _) _⟩
    · go_wp2_with fail
      go_meet
      exact ⟨_, av, cv, some ⟨W.heap.size, 0, none⟩, 1, rfl, Cel3.new wx _ _ _ _, ⟨(A.alloc _).inI, (Q1.alloc _).inI⟩, ⟨⟨A.offHi (Nat.le_refl _), Q1.offHi (Nat.le_refl _)⟩, A.offLo (by first | exact wlt | (simp; omega)), offOne (by omega)⟩, three_later hcx (old_alloc (Below.refl _ _) _), ⟨pz, kz, by omega⟩, K.alloc _, old_alloc hB _⟩
    · go_wp2_with fail
      go_meet
      have oA : Off av (W.heap.size + 1) := A.offLo (by first | (simp; done) | (simp; omega))
      have oO : Off (some ⟨W.heap.size, 0, none⟩) (W.heap.size + 1) := offOne (by omega)
      have wl : w.heap.size ≤ W.heap.size + 1 := by omega
      exact ⟨_, av, cv, some ⟨W.heap.size, 0, none⟩, 1, rfl, Q7.setAll _ _ _, ⟨((A.inI.off oA).off oA).off oA, ((Q1.inI.off oO).off oO).off oO⟩, ⟨⟨oA, oO⟩, A.offLo (by first | exact wlt | (simp; omega)), offOne (by omega)⟩, three_set hcx z5, ⟨z5, z7, by omega⟩, ((K.far z7).far z7).far z7, below_set (below_set (below_set hB wl _) wl _) wl _⟩
    · go_wp2_with fail
      go_meet
      have oA : Off av W.heap.size := A.offLo (by first | (simp; done) | (simp; omega))
      have wl : w.heap.size ≤ W.heap.size := by omega
      exact ⟨_, av, cv, some ⟨wx.heap.size, 0, none⟩, 1, rfl, (Q7.setAll _ _ _).alloc _, ⟨(((A.inI.off oA).off oA).off oA).old (old_alloc (Below.refl _ _) _), (one_d wx _ _ _ _ _).inI⟩, ⟨⟨oA, offOne (by omega)⟩, A.offLo (by first | exact wlt | (simp; omega)), offOne (by omega)⟩, three_later (three_set hcx z1) (old_alloc (Below.refl _ _) _), ⟨z1, z3, by omega⟩, (((K.far z3).far z3).far z3).alloc _, old_alloc (below_set (below_set (below_set hB wl _) wl _) wl _) _⟩
    · go_wp2_with fail
      go_meet
      have oA : Off av W.heap.size := A.offLo (by first | (simp; done) | (simp; omega))
      have oO : Off (some ⟨W.heap.size + 1, 0, none⟩) W.heap.size := offOne (by omega)
      have wl : w.heap.size ≤ W.heap.size := by omega
      exact ⟨_, av, cv, some ⟨W.heap.size + 1, 0, none⟩, 1, rfl, Q7.setAll _ _ _, ⟨((A.inI.off oA).off oA).off oA, ((Q1.inI.off oO).off oO).off oO⟩, ⟨⟨oA, oO⟩, A.offLo (by first | exact wlt | (simp; omega)), offOne (by omega)⟩, three_set hcx z1, ⟨z1, z3, by omega⟩, ((K.far z3).far z3).far z3, below_set (below_set (below_set hB wl _) wl _) wl _⟩
  case rest =>
    obtain ⟨bk, av, cv, bv, dv, rfl, C, ⟨IA, IB⟩, ⟨⟨oA, oB⟩, oA2, oB2⟩, hS, ⟨nP, nW, hbk0⟩, K, hB⟩ := hcut
    have hcP := hS.2.2
    clear hS NO
    have nP' := nP.symm
    have nW' := nW.symm
    have kl := K.1
    have cl := C.1
    have hbk : w.heap.size ≤ bk := hbk0
    by_cases c : 0 ≤ p
    · have e1 : vA s p = s * 2 ^ p.toNat := by unfold vA; rw [if_pos c, Nat.mul_comm]
      have e2 : vB p = 1 := by unfold vB; rw [if_pos c]
      have PW := fun w => sPow2N p.toNat (by omega) w
      rw [Int.toNat_of_nonneg c] at PW
      have CP := hd (fun w' (hS : w'.cell? ⟨PB, 2, none⟩ = some (.int .i64 p)) => (PW w').mono (fun e w'' (k : _ ∧ _) => (⟨k, cell_later k.2 hS⟩ : (_ ∧ _) ∧ (w''.cell? ⟨PB, 2, none⟩ = some (.int .i64 p)))))
      have e3 : val (natL s) * val (natL (2 ^ p.toNat)) = vA s p := by rw [val_natL, val_natL, e1]
      have hpl : (natL (2 ^ p.toNat)).length ≤ 524288 := Nat.le_trans (pow_lenF (k := 1024) (by omega)) (by omega)
      have MU0 := fun b cb w' (hA : InI w' av (natL s).length cv (natL s)) (hB : InI w' b (natL (2 ^ p.toNat)).length cb (natL (2 ^ p.toNat))) => sMul av b (natL s).length (natL (2 ^ p.toNat)).length cv cb (natL s) (natL (2 ^ p.toNat)) w' hA hB (digs_natL s) (digs_natL _) (Nat.le_trans (natL_small hs) (by omega)) hpl
      rw [e3] at MU0
      have MU := hd (fun b cb w' hA hB (hS : w'.cell? ⟨PB, 2, none⟩ = some (.int .i64 p)) => (MU0 b cb w' hA hB).mono (fun e w'' (k : _ ∧ _) => (⟨k, cell_later k.2 hS⟩ : (_ ∧ _) ∧ (w''.cell? ⟨PB, 2, none⟩ = some (.int .i64 p)))))
      replace e2 := hd e2
      clear e1 e3 MU0 hpl
      clear PW
      obtain ⟨-, ⟨c1, c2, c3⟩, c5, c6, c7⟩ := id C
      go_wp2_with fail
      go_region_with (first | (go_at_call 48; refine (CP.out _ (by assumption)).mono ?_; rintro e wx ⟨⟨⟨pv, pc, rfl, Pw⟩, hbx⟩, hcx⟩; have C := (by first | exact C.old hbx | exact C.drew.old hbx : Cel3 wx bk _ _ _); have K := (by first | exact K.old hbx | exact K.drew.old hbx : Cel3 wx w.heap.size _ _ _); have IA := (by first | exact IA.old hbx | exact InI.old (w := World.drew _) IA hbx : InI wx _ _ _ _); have IB := (by first | exact IB.old hbx | exact InI.old (w := World.drew _) IB hbx : InI wx _ _ _ _); have hB := (by first | exact old_trans hB hbx | exact old_trans (Below.drew hB) hbx : Below w.heap.size w wx); have bl := C.1; have wl := K.1; obtain ⟨-, ⟨c1, c2, c3⟩, c5, c6, c7⟩ := id C) | (go_at_call 44; refine (MU.out _ _ _ (by first | exact IA | exact InI.old (w := World.drew _) IA (Below.refl _ _)) (by first | exact Pw.inI | exact Pw.drew.inI) (by assumption)).mono ?_; rintro e wy ⟨⟨⟨mv, mc, rfl, Mu⟩, hby⟩, hcy⟩; have C := (by first | exact C.old hby | exact C.drew.old hby : Cel3 wy bk _ _ _); have K := (by first | exact K.old hby | exact K.drew.old hby : Cel3 wy w.heap.size _ _ _); have IB := (by first | exact IB.old hby | exact InI.old (w := World.drew _) IB hby : InI wy _ _ _ _); have hB := (by first | exact old_trans hB hby | exact old_trans (Below.drew hB) hby : Below w.heap.size w wy); obtain ⟨-, ⟨c1, c2, c3⟩, c5, c6, c7⟩ := id C))
      all_goals
        have M := C.set1 (.slice mv (natL (vA s p)).length mc)
        have K' := (K.far (c := bk) (i := 1) (v := .slice mv (natL (vA s p)).length mc) nW).setAll (.bool g) (.slice mv (natL (vA s p)).length mc) (.slice bv 1 dv)
        have oM : Off mv bk := Mu.offLo bl
        have oM2 : Off mv w.heap.size := Mu.offLo wl
        have hBF := below_set (below_set (below_set (below_set hB (show w.heap.size ≤ bk from hbk) (i := 1) (.slice mv (natL (vA s p)).length mc)) (Nat.le_refl w.heap.size) (i := 0) (.bool g)) (Nat.le_refl w.heap.size) (i := 1) (.slice mv (natL (vA s p)).length mc)) (Nat.le_refl w.heap.size) (i := 2) (.slice bv 1 dv)
        have JM := (((Mu.inI.off oM (i := 1) (v := .slice mv (natL (vA s p)).length mc)).off oM2 (i := 0) (v := .bool g)).off oM2 (i := 1) (v := .slice mv (natL (vA s p)).length mc)).off oM2 (i := 2) (v := .slice bv 1 dv)
        have JX := (((IB.off oB (i := 1) (v := .slice mv (natL (vA s p)).length mc)).off oB2 (i := 0) (v := .bool g)).off oB2 (i := 1) (v := .slice mv (natL (vA s p)).length mc)).off oB2 (i := 2) (v := .slice bv 1 dv)
        obtain ⟨-, ⟨m1, m2, m3⟩, -⟩ := id M
        obtain ⟨k1, ⟨k2, k3, k4⟩, k5, k6, k7⟩ := id K
        clear Mu IA IB
        go_wp2
        refine bodyPost_ret (resL8 K' rfl) rfl ⟨?_, hBF⟩
        exact ⟨mv, mc, bv, dv, by rw [e2.out, natL_one]; rfl, JM, by rw [e2.out, natL_one]; exact JX⟩
    · have e1 : vA s p = s := by unfold vA; rw [if_neg c]
      have e2 : vB p = 2 ^ (-p).toNat := by unfold vB; rw [if_neg c]
      have PW := fun w => sPow2N (-p).toNat (by omega) w
      rw [Int.toNat_of_nonneg (by omega)] at PW
      replace PW := hd PW
      have c' : p < 0 := by omega
      replace e1 := hd e1
      replace e2 := hd e2
      go_wp2_with fail
      refine (PW.out _).mono ?_
      rintro e wx ⟨⟨mv, mc, rfl, Mu⟩, hbx⟩
      have bl := C.1
      have wl := K.1
      replace C := C.old hbx
      replace K := K.old hbx
      replace IA := IA.old hbx
      replace hB := old_trans hB hbx
      obtain ⟨-, ⟨c1, c2, c3⟩, c5, c6, c7⟩ := id C
      have M := C.set2 (.slice mv (natL (2 ^ (-p).toNat)).length mc)
      have K' := (K.far (c := bk) (i := 2) (v := .slice mv (natL (2 ^ (-p).toNat)).length mc) nW).setAll (.bool g) (.slice av (natL s).length cv) (.slice mv (natL (2 ^ (-p).toNat)).length mc)
      have oM : Off mv bk := Mu.offLo bl
      have oM2 : Off mv w.heap.size := Mu.offLo wl
      have hBF := below_set (below_set (below_set (below_set hB (show w.heap.size ≤ bk from hbk) (i := 2) (.slice mv (natL (2 ^ (-p).toNat)).length mc)) (Nat.le_refl w.heap.size) (i := 0) (.bool g)) (Nat.le_refl w.heap.size) (i := 1) (.slice av (natL s).length cv)) (Nat.le_refl w.heap.size) (i := 2) (.slice mv (natL (2 ^ (-p).toNat)).length mc)
      have JM := (((Mu.inI.off oM (i := 2) (v := .slice mv (natL (2 ^ (-p).toNat)).length mc)).off oM2 (i := 0) (v := .bool g)).off oM2 (i := 1) (v := .slice av (natL s).length cv)).off oM2 (i := 2) (v := .slice mv (natL (2 ^ (-p).toNat)).length mc)
      have JX := (((IA.off oA (i := 2) (v := .slice mv (natL (2 ^ (-p).toNat)).length mc)).off oA2 (i := 0) (v := .bool g)).off oA2 (i := 1) (v := .slice av (natL s).length cv)).off oA2 (i := 2) (v := .slice mv (natL (2 ^ (-p).toNat)).length mc)
      obtain ⟨-, ⟨m1, m2, m3⟩, -⟩ := id M
      obtain ⟨k1, ⟨k2, k3, k4⟩, k5, k6, k7⟩ := id K
      clear Mu IA IB
      go_wp2
      refine bodyPost_ret (resL8 K' rfl) rfl ⟨?_, hBF⟩
      exact ⟨av, cv, mv, mc, by rw [e1.out, e2.out], by rw [e1.out]; exact JX, by rw [e2.out]; exact JM⟩
end Go.Proofs.YtlggbihdmabifaaGreatDoor

/- The value of a float as a fraction in lowest terms, by the specification; both at every number and every width. Conditions, of the program: the library's table and its handle of errors hold what their texts lay. -/
namespace Go.Proofs.YtlggbihdmabifaaGreatDoor
open Go.RowKit
set_option linter.unusedVariables false
set_option maxRecDepth 100000

set_option maxHeartbeats 1000000 in
theorem iValuesOfNo (wd : Int) (g1 : wd ≠ 32) (g2 : wd ≠ 64) (w : World) :
    Calls Tryz.prog 63 #[.int .i64 wd] w fun e w' => e = .returned (.tuple #[.nilIface, .bool false]) ∧ Below w.heap.size w w' := by
  have d1 : (wd == 32) = false := by simpa using g1
  have d2 : (wd == 64) = false := by simpa using g2
  go_enter Tryz.func63, Tryz.ntmps63
  go_wp2
  go_ret2
  exact ⟨rfl, (by repeat (first | exact Below.refl _ _ | refine Below.drew ?_ | refine old_alloc ?_ _ | refine old_trans ?_ (by assumption)))⟩
end Go.Proofs.YtlggbihdmabifaaGreatDoor
