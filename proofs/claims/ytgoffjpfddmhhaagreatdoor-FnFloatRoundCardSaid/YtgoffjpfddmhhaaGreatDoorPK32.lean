/- What is rounded to floats, by the program: the pair around a number. Conditions: the library's table lies as its text lays it; digits, 256 at most. Of what was there only the count is written. -/
import Derived.Test.YtgoffjpfddmhhaaGreatDoorPK30
import Derived.Test.YtgoffjpfddmhhaaGreatDoorPK29
import Derived.Test.YtgoffjpfddmhhaaGreatDoorPK31
import Derived.Test.YtgoffjpfddmhhaaGreatDoorPK17
import Derived.Test.YtgoffjpfddmhhaaGreatDoorPK27
import Derived.Deep.RegionHeld3
import Derived.BigQuiet
namespace Go.Proofs.YtgoffjpfddmhhaaGreatDoor
open Go.RowKit
set_option linter.unusedVariables false
set_option maxRecDepth 100000

theorem ButV.from {vb : Nat} {w W w' : World} (e : Below w.heap.size w W) (h : ButV vb W w') : ButV vb w w' :=
  ⟨h.os.trans e.os, h.tape.trans e.tape, h.output.trans e.output, Nat.le_trans e.size h.size, fun k hk hn => (h.block k (Nat.lt_of_lt_of_le hk e.size) hn).trans (e.block k hk)⟩
theorem ButV.next {vb : Nat} {w W w' : World} (h : ButV vb w W) (e : Below W.heap.size W w') : ButV vb w w' :=
  ⟨e.os.trans h.os, e.tape.trans h.tape, e.output.trans h.output, Nat.le_trans h.size e.size, fun k hk hn => (e.block k (Nat.lt_of_lt_of_le hk h.size)).trans (h.block k hk hn)⟩
theorem ButV.setNew {vb : Nat} {w w' : World} (h : ButV vb w w') {b i : Nat} (hb : w.heap.size ≤ b) (v : Value) : ButV vb w (w'.setCell ⟨b, i, none⟩ v) :=
  ⟨h.os, h.tape, h.output, by simpa [World.setCell] using h.size, fun k hk hn => (Below.heap_setCell _ _ _ _ (by show k ≠ b; omega)).trans (h.block k hk hn)⟩
def arL32 (bl : Bool) (A B : Nat) : Int := if bl then -(if blX32 A B then blO32 A B else blO32 A B + 1) else blO32 A B
def arH32 (bl : Bool) (A B : Nat) : Int := if bl then -(blO32 A B) else (if blX32 A B then blO32 A B else blO32 A B + 1)
theorem blO_bd32 {A B : Nat} (lA : (natL A).length ≤ 256) (lB : (natL B).length ≤ 256) (hB : B ≠ 0) : 0 ≤ blO32 A B ∧ blO32 A B < 2139095040 := by
  have s := pbS_lt (room := 24) (least := -149) lA lB hB
  have e : (2 : Nat) ^ 24 = 16777216 := by decide
  rw [e] at s
  have g := pbW_ge A B 24 (-149)
  have k := pbN32 lA lB hB
  unfold blO32 mkO32
  cases f : mkF32 (pbW A B 24 (-149))
  · simp
  · have f' : pbW A B 24 (-149) - (-149) + 1 < 255 := of_decide_eq_true f
    rw [if_pos rfl, if_pos rfl]
    split <;> omega
set_option maxHeartbeats 4000000 in
theorem iAround32 (vb : Nat) (c : Int) (bl : Bool) (a b : Option Addr) (ca cb A B : Nat) (w : World) (hV : S1c w vb (.int .i64 c)) (c0 : 0 ≤ c) (c1 : c ≤ 1000) (hA : InI w a (natL A).length ca (natL A)) (hB : InI w b (natL B).length cb (natL B)) (lA : (natL A).length ≤ 256) (lB : (natL B).length ≤ 256) (hB0 : B ≠ 0) (hT : Tab w) :
    Calls Tryz.prog 150 #[.pointer (some ⟨vb, 0, none⟩), .agg #[.bool bl, .slice a (natL A).length ca, .slice b (natL B).length cb, .int .i64 0]] w fun e w' => e = .returned (.agg #[.int .i64 (arL32 bl A B), .int .i64 (arH32 bl A B)]) ∧ ButV vb w w' := by
  have hb := blO_bd32 lA lB hB0
  have e0 : Below w.heap.size w ((w.alloc (.cells #[.bool bl, .slice a (natL A).length ca, .slice b (natL B).length cb, .int .i64 0] 86)).alloc (.cells #[.int .i64 0, .int .i64 0] 52)) := (by repeat (first | with_reducible exact Below.refl _ _ | with_reducible refine Below.drew ?_ | with_reducible refine old_alloc ?_ _ | with_reducible refine old_trans ?_ (by with_reducible assumption)))
  have s := pbS_lt (room := 24) (least := -149) lA lB hB0
  have es : (2 : Nat) ^ 24 = 16777216 := by decide
  rw [es] at s
  have H1 := hd (iBelow32 vb c bl a b ca cb A B ((w.alloc (.cells #[.bool bl, .slice a (natL A).length ca, .slice b (natL B).length cb, .int .i64 0] 86)).alloc (.cells #[.int .i64 0, .int .i64 0] 52)) (hV.later e0) c0 c1 (hA.old e0) (hB.old e0) lA lB hB0 (hT.old e0) s (pbW_ge _ _ _ _) (pbW_le lA lB (by omega)) (pbN32 lA lB hB0))
  have hl : Hid (arL32 bl A B = if bl then -(if blX32 A B then blO32 A B else blO32 A B + 1) else blO32 A B) := rfl
  have hh : Hid (arH32 bl A B = if bl then -(blO32 A B) else (if blX32 A B then blO32 A B else blO32 A B + 1)) := rfl
  clear s es hA hB lA lB hB0 hT
  generalize arL32 bl A B = lo at *
  generalize arH32 bl A B = hi at *
  generalize blO32 A B = o at *
  generalize blX32 A B = x at *
  have hvl := hV.lt
  have hv := (hV.later e0).cell
  have k0 : ((w.alloc (.cells #[.bool bl, .slice a (natL A).length ca, .slice b (natL B).length cb, .int .i64 0] 86)).alloc (.cells #[.int .i64 0, .int .i64 0] 52)).cell? ⟨w.heap.size, 0, none⟩ = some (.bool bl) := by simp
  have k1 : ((w.alloc (.cells #[.bool bl, .slice a (natL A).length ca, .slice b (natL B).length cb, .int .i64 0] 86)).alloc (.cells #[.int .i64 0, .int .i64 0] 52)).cell? ⟨w.heap.size, 1, none⟩ = some (.slice a (natL A).length ca) := by simp
  have k2 : ((w.alloc (.cells #[.bool bl, .slice a (natL A).length ca, .slice b (natL B).length cb, .int .i64 0] 86)).alloc (.cells #[.int .i64 0, .int .i64 0] 52)).cell? ⟨w.heap.size, 2, none⟩ = some (.slice b (natL B).length cb) := by simp
  have k3 : ((w.alloc (.cells #[.bool bl, .slice a (natL A).length ca, .slice b (natL B).length cb, .int .i64 0] 86)).alloc (.cells #[.int .i64 0, .int .i64 0] 52)).cell? ⟨w.heap.size, 3, none⟩ = some (.int .i64 0) := by simp
  have k4 : ((w.alloc (.cells #[.bool bl, .slice a (natL A).length ca, .slice b (natL B).length cb, .int .i64 0] 86)).alloc (.cells #[.int .i64 0, .int .i64 0] 52)).cell? ⟨w.heap.size + 1, 0, none⟩ = some (.int .i64 0) := by simp
  have k5 : ((w.alloc (.cells #[.bool bl, .slice a (natL A).length ca, .slice b (natL B).length cb, .int .i64 0] 86)).alloc (.cells #[.int .i64 0, .int .i64 0] 52)).cell? ⟨w.heap.size + 1, 1, none⟩ = some (.int .i64 0) := by simp
  have f4 : ((w.alloc (.cells #[.bool bl, .slice a (natL A).length ca, .slice b (natL B).length cb, .int .i64 0] 86)).alloc (.cells #[.int .i64 0, .int .i64 0] 52)).frozen? ⟨w.heap.size + 1, 0, none⟩ = false := by simp
  have f5 : ((w.alloc (.cells #[.bool bl, .slice a (natL A).length ca, .slice b (natL B).length cb, .int .i64 0] 86)).alloc (.cells #[.int .i64 0, .int .i64 0] 52)).frozen? ⟨w.heap.size + 1, 1, none⟩ = false := by simp
  have hz : w.heap.size < ((w.alloc (.cells #[.bool bl, .slice a (natL A).length ca, .slice b (natL B).length cb, .int .i64 0] 86)).alloc (.cells #[.int .i64 0, .int .i64 0] 52)).heap.size := by simp; omega
  have hz1 : w.heap.size + 1 < ((w.alloc (.cells #[.bool bl, .slice a (natL A).length ca, .slice b (natL B).length cb, .int .i64 0] 86)).alloc (.cells #[.int .i64 0, .int .i64 0] 52)).heap.size := by simp
  go_enter Tryz.func150, Tryz.ntmps150
  go_wp2_with fail
  refine H1.out.mono ?_
  rintro e w1 ⟨rfl, hc, hbv⟩
  have j0 := (hbv.cell (b := w.heap.size) (i := 0) hz (by omega)).trans k0
  have j4 := (hbv.cell (b := w.heap.size + 1) (i := 0) hz1 (by omega)).trans k4
  have j5 := (hbv.cell (b := w.heap.size + 1) (i := 1) hz1 (by omega)).trans k5
  have g4 := (hbv.frozen (b := w.heap.size + 1) (i := 0) hz1 (by omega)).trans f4
  have g5 := (hbv.frozen (b := w.heap.size + 1) (i := 1) hz1 (by omega)).trans f5
  have hc0 := hc.cell
  clear k0 k1 k2 k3 k4 k5 f4 f5 hv H1
  cases x
  · cases bl
    · simp only [Bool.false_eq_true, if_false] at hc0
      go_wp2
      refine bodyPost_ret (v := .agg #[.int .i64 (o), .int .i64 (o + 1)]) ?_ rfl ⟨by rw [hl.out, hh.out]; rfl, ((ButV.from e0 hbv).setNew (by omega) _).setNew (by omega) _⟩
      simp [results, Tryz.results150, go_sem, j4, j5]
    · simp only [Bool.false_eq_true, if_false] at hc0
      go_wp2
      refine bodyPost_ret (v := .agg #[.int .i64 (-(o + 1)), .int .i64 (-o)]) ?_ rfl ⟨by rw [hl.out, hh.out]; rfl, ((ButV.from e0 hbv).setNew (by omega) _).setNew (by omega) _⟩
      simp [results, Tryz.results150, go_sem, j4, j5]
  · cases bl
    · simp only [if_true] at hc0
      go_wp2
      refine bodyPost_ret (v := .agg #[.int .i64 (o), .int .i64 (o)]) ?_ rfl ⟨by rw [hl.out, hh.out]; rfl, ((ButV.from e0 hbv).setNew (by omega) _).setNew (by omega) _⟩
      simp [results, Tryz.results150, go_sem, j4, j5]
    · simp only [if_true] at hc0
      go_wp2
      refine bodyPost_ret (v := .agg #[.int .i64 (-o), .int .i64 (-o)]) ?_ rfl ⟨by rw [hl.out, hh.out]; rfl, ((ButV.from e0 hbv).setNew (by omega) _).setNew (by omega) _⟩
      simp [results, Tryz.results150, go_sem, j4, j5]
end Go.Proofs.YtgoffjpfddmhhaaGreatDoor

/- What is rounded to floats, by the program: the pair around a number. Conditions: the library's table lies as its text lays it; digits, 256 at most. Of what was there only the count is written. -/
namespace Go.Proofs.YtgoffjpfddmhhaaGreatDoor
open Go.RowKit
set_option linter.unusedVariables false
set_option maxRecDepth 100000

def arL64 (bl : Bool) (A B : Nat) : Int := if bl then -(if blX64 A B then blO64 A B else blO64 A B + 1) else blO64 A B
def arH64 (bl : Bool) (A B : Nat) : Int := if bl then -(blO64 A B) else (if blX64 A B then blO64 A B else blO64 A B + 1)
theorem blO_bd64 {A B : Nat} (lA : (natL A).length ≤ 256) (lB : (natL B).length ≤ 256) (hB : B ≠ 0) : 0 ≤ blO64 A B ∧ blO64 A B < 9218868437227405312 := by
  have s := pbS_lt (room := 53) (least := -1074) lA lB hB
  have e : (2 : Nat) ^ 53 = 9007199254740992 := by decide
  rw [e] at s
  have g := pbW_ge A B 53 (-1074)
  have k := pbN64 lA lB hB
  unfold blO64 mkO64
  cases f : mkF64 (pbW A B 53 (-1074))
  · simp
  · have f' : pbW A B 53 (-1074) - (-1074) + 1 < 2047 := of_decide_eq_true f
    rw [if_pos rfl, if_pos rfl]
    split <;> omega
set_option maxHeartbeats 4000000 in
theorem iAround64 (vb : Nat) (c : Int) (bl : Bool) (a b : Option Addr) (ca cb A B : Nat) (w : World) (hV : S1c w vb (.int .i64 c)) (c0 : 0 ≤ c) (c1 : c ≤ 1000) (hA : InI w a (natL A).length ca (natL A)) (hB : InI w b (natL B).length cb (natL B)) (lA : (natL A).length ≤ 256) (lB : (natL B).length ≤ 256) (hB0 : B ≠ 0) (hT : Tab w) :
    Calls Tryz.prog 176 #[.pointer (some ⟨vb, 0, none⟩), .agg #[.bool bl, .slice a (natL A).length ca, .slice b (natL B).length cb, .int .i64 0]] w fun e w' => e = .returned (.agg #[.int .i64 (arL64 bl A B), .int .i64 (arH64 bl A B)]) ∧ ButV vb w w' := by
  have hb := blO_bd64 lA lB hB0
  have e0 : Below w.heap.size w ((w.alloc (.cells #[.bool bl, .slice a (natL A).length ca, .slice b (natL B).length cb, .int .i64 0] 86)).alloc (.cells #[.int .i64 0, .int .i64 0] 52)) := (by repeat (first | with_reducible exact Below.refl _ _ | with_reducible refine Below.drew ?_ | with_reducible refine old_alloc ?_ _ | with_reducible refine old_trans ?_ (by with_reducible assumption)))
  have s := pbS_lt (room := 53) (least := -1074) lA lB hB0
  have es : (2 : Nat) ^ 53 = 9007199254740992 := by decide
  rw [es] at s
  have H1 := hd (iBelow64 vb c bl a b ca cb A B ((w.alloc (.cells #[.bool bl, .slice a (natL A).length ca, .slice b (natL B).length cb, .int .i64 0] 86)).alloc (.cells #[.int .i64 0, .int .i64 0] 52)) (hV.later e0) c0 c1 (hA.old e0) (hB.old e0) lA lB hB0 (hT.old e0) s (pbW_ge _ _ _ _) (pbW_le lA lB (by omega)) (pbN64 lA lB hB0))
  have hl : Hid (arL64 bl A B = if bl then -(if blX64 A B then blO64 A B else blO64 A B + 1) else blO64 A B) := rfl
  have hh : Hid (arH64 bl A B = if bl then -(blO64 A B) else (if blX64 A B then blO64 A B else blO64 A B + 1)) := rfl
  clear s es hA hB lA lB hB0 hT
  generalize arL64 bl A B = lo at *
  generalize arH64 bl A B = hi at *
  generalize blO64 A B = o at *
  generalize blX64 A B = x at *
  have hvl := hV.lt
  have hv := (hV.later e0).cell
  have k0 : ((w.alloc (.cells #[.bool bl, .slice a (natL A).length ca, .slice b (natL B).length cb, .int .i64 0] 86)).alloc (.cells #[.int .i64 0, .int .i64 0] 52)).cell? ⟨w.heap.size, 0, none⟩ = some (.bool bl) := by simp
  have k1 : ((w.alloc (.cells #[.bool bl, .slice a (natL A).length ca, .slice b (natL B).length cb, .int .i64 0] 86)).alloc (.cells #[.int .i64 0, .int .i64 0] 52)).cell? ⟨w.heap.size, 1, none⟩ = some (.slice a (natL A).length ca) := by simp
  have k2 : ((w.alloc (.cells #[.bool bl, .slice a (natL A).length ca, .slice b (natL B).length cb, .int .i64 0] 86)).alloc (.cells #[.int .i64 0, .int .i64 0] 52)).cell? ⟨w.heap.size, 2, none⟩ = some (.slice b (natL B).length cb) := by simp
  have k3 : ((w.alloc (.cells #[.bool bl, .slice a (natL A).length ca, .slice b (natL B).length cb, .int .i64 0] 86)).alloc (.cells #[.int .i64 0, .int .i64 0] 52)).cell? ⟨w.heap.size, 3, none⟩ = some (.int .i64 0) := by simp
  have k4 : ((w.alloc (.cells #[.bool bl, .slice a (natL A).length ca, .slice b (natL B).length cb, .int .i64 0] 86)).alloc (.cells #[.int .i64 0, .int .i64 0] 52)).cell? ⟨w.heap.size + 1, 0, none⟩ = some (.int .i64 0) := by simp
  have k5 : ((w.alloc (.cells #[.bool bl, .slice a (natL A).length ca, .slice b (natL B).length cb, .int .i64 0] 86)).alloc (.cells #[.int .i64 0, .int .i64 0] 52)).cell? ⟨w.heap.size + 1, 1, none⟩ = some (.int .i64 0) := by simp
  have f4 : ((w.alloc (.cells #[.bool bl, .slice a (natL A).length ca, .slice b (natL B).length cb, .int .i64 0] 86)).alloc (.cells #[.int .i64 0, .int .i64 0] 52)).frozen? ⟨w.heap.size + 1, 0, none⟩ = false := by simp
  have f5 : ((w.alloc (.cells #[.bool bl, .slice a (natL A).length ca, .slice b (natL B).length cb, .int .i64 0] 86)).alloc (.cells #[.int .i64 0, .int .i64 0] 52)).frozen? ⟨w.heap.size + 1, 1, none⟩ = false := by simp
  have hz : w.heap.size < ((w.alloc (.cells #[.bool bl, .slice a (natL A).length ca, .slice b (natL B).length cb, .int .i64 0] 86)).alloc (.cells #[.int .i64 0, .int .i64 0] 52)).heap.size := by simp; omega
  have hz1 : w.heap.size + 1 < ((w.alloc (.cells #[.bool bl, .slice a (natL A).length ca, .slice b (natL B).length cb, .int .i64 0] 86)).alloc (.cells #[.int .i64 0, .int .i64 0] 52)).heap.size := by simp
  go_enter Tryz.func176, Tryz.ntmps176
  go_wp2_with fail
  refine H1.out.mono ?_
  rintro e w1 ⟨rfl, hc, hbv⟩
  have j0 := (hbv.cell (b := w.heap.size) (i := 0) hz (by omega)).trans k0
  have j4 := (hbv.cell (b := w.heap.size + 1) (i := 0) hz1 (by omega)).trans k4
  have j5 := (hbv.cell (b := w.heap.size + 1) (i := 1) hz1 (by omega)).trans k5
  have g4 := (hbv.frozen (b := w.heap.size + 1) (i := 0) hz1 (by omega)).trans f4
  have g5 := (hbv.frozen (b := w.heap.size + 1) (i := 1) hz1 (by omega)).trans f5
  have hc0 := hc.cell
  clear k0 k1 k2 k3 k4 k5 f4 f5 hv H1
  cases x
  · cases bl
    · simp only [Bool.false_eq_true, if_false] at hc0
      go_wp2
      refine bodyPost_ret (v := .agg #[.int .i64 (o), .int .i64 (o + 1)]) ?_ rfl ⟨by rw [hl.out, hh.out]; rfl, ((ButV.from e0 hbv).setNew (by omega) _).setNew (by omega) _⟩
      simp [results, Tryz.results176, go_sem, j4, j5]
    · simp only [Bool.false_eq_true, if_false] at hc0
      go_wp2
      refine bodyPost_ret (v := .agg #[.int .i64 (-(o + 1)), .int .i64 (-o)]) ?_ rfl ⟨by rw [hl.out, hh.out]; rfl, ((ButV.from e0 hbv).setNew (by omega) _).setNew (by omega) _⟩
      simp [results, Tryz.results176, go_sem, j4, j5]
  · cases bl
    · simp only [if_true] at hc0
      go_wp2
      refine bodyPost_ret (v := .agg #[.int .i64 (o), .int .i64 (o)]) ?_ rfl ⟨by rw [hl.out, hh.out]; rfl, ((ButV.from e0 hbv).setNew (by omega) _).setNew (by omega) _⟩
      simp [results, Tryz.results176, go_sem, j4, j5]
    · simp only [if_true] at hc0
      go_wp2
      refine bodyPost_ret (v := .agg #[.int .i64 (-o), .int .i64 (-o)]) ?_ rfl ⟨by rw [hl.out, hh.out]; rfl, ((ButV.from e0 hbv).setNew (by omega) _).setNew (by omega) _⟩
      simp [results, Tryz.results176, go_sem, j4, j5]
end Go.Proofs.YtgoffjpfddmhhaaGreatDoor

/- What is rounded to floats, by the program: PairFrac. Conditions: the library's table and its handle of errors lie as their texts lay them. Nothing that was there is written. -/
namespace Go.Proofs.YtgoffjpfddmhhaaGreatDoor
open Go.RowKit
set_option linter.unusedVariables false
set_option maxRecDepth 100000

theorem canon_list {xs : List Int} (h : natOk xs = true) : natL (val xs) = xs := natOk_canon h
theorem meth_around_32 (v : Value) (w : World) : (method 341 121 v "loop.example/pinfold/impl.around").run Tryz.prog w = .ok (150, v) w := by kernel_rfl
theorem iValues32 (w : World) :
    Calls Tryz.prog 37 #[.int .i64 32] w fun e w' => (∃ vb, e = .returned (.tuple #[.iface 121 (.pointer (some ⟨vb, 0, none⟩)), .bool true]) ∧ w.heap.size ≤ vb ∧ S1c w' vb (.int .i64 0)) ∧ Below w.heap.size w w' := by
  go_enter Tryz.func37, Tryz.ntmps37
  go_wp2
  go_ret2
  exact ⟨⟨_, rfl, Nat.le_refl _, S1c.made _ _ rfl _ _⟩, (by repeat (first | with_reducible exact Below.refl _ _ | with_reducible refine Below.drew ?_ | with_reducible refine old_alloc ?_ _ | with_reducible refine old_trans ?_ (by with_reducible assumption)))⟩
set_option maxHeartbeats 2000000 in
theorem iPF1_32 (vb : Nat) (bl : Bool) (a b : Option Addr) (ca cb A B : Nat) (w : World) (hV : S1c w vb (.int .i64 0)) (hA : InI w a (natL A).length ca (natL A)) (hB : InI w b (natL B).length cb (natL B)) (lA : (natL A).length ≤ 256) (lB : (natL B).length ≤ 256) (hB0 : B ≠ 0) (hT : Tab w) :
    Calls Tryz.prog 59 #[.iface 121 (.pointer (some ⟨vb, 0, none⟩)), .agg #[.bool bl, .slice a (natL A).length ca, .slice b (natL B).length cb]] w fun e w' => e = .returned (.agg #[.int .i64 (arL32 bl A B), .int .i64 (arH32 bl A B)]) ∧ ButV vb w w' := by
  have m1 := meth_around_32
  have e0 : Below w.heap.size w ((w.alloc (.cells #[.bool bl, .slice a (natL A).length ca, .slice b (natL B).length cb] 84)).alloc (.cells #[.int .i64 0, .int .i64 0] 52)) := (by repeat (first | with_reducible exact Below.refl _ _ | with_reducible refine Below.drew ?_ | with_reducible refine old_alloc ?_ _ | with_reducible refine old_trans ?_ (by with_reducible assumption)))
  have H1 := hd (iAround32 vb 0 bl a b ca cb A B _ (hV.later e0) (by omega) (by omega) (hA.old e0) (hB.old e0) lA lB hB0 (hT.old e0))
  have hvl := hV.lt
  clear hA hB lA lB hB0 hT
  generalize arL32 bl A B = lo at *
  generalize arH32 bl A B = hi at *
  have k4 : ((w.alloc (.cells #[.bool bl, .slice a (natL A).length ca, .slice b (natL B).length cb] 84)).alloc (.cells #[.int .i64 0, .int .i64 0] 52)).cell? ⟨w.heap.size + 1, 0, none⟩ = some (.int .i64 0) := by simp
  have k5 : ((w.alloc (.cells #[.bool bl, .slice a (natL A).length ca, .slice b (natL B).length cb] 84)).alloc (.cells #[.int .i64 0, .int .i64 0] 52)).cell? ⟨w.heap.size + 1, 1, none⟩ = some (.int .i64 0) := by simp
  have f4 : ((w.alloc (.cells #[.bool bl, .slice a (natL A).length ca, .slice b (natL B).length cb] 84)).alloc (.cells #[.int .i64 0, .int .i64 0] 52)).frozen? ⟨w.heap.size + 1, 0, none⟩ = false := by simp
  have f5 : ((w.alloc (.cells #[.bool bl, .slice a (natL A).length ca, .slice b (natL B).length cb] 84)).alloc (.cells #[.int .i64 0, .int .i64 0] 52)).frozen? ⟨w.heap.size + 1, 1, none⟩ = false := by simp
  have hz1 : w.heap.size + 1 < ((w.alloc (.cells #[.bool bl, .slice a (natL A).length ca, .slice b (natL B).length cb] 84)).alloc (.cells #[.int .i64 0, .int .i64 0] 52)).heap.size := by simp
  go_enter Tryz.func59, Tryz.ntmps59
  go_wp2_with fail
  refine H1.out.mono ?_
  rintro e w1 ⟨rfl, hbv⟩
  have j4 := (hbv.cell (b := w.heap.size + 1) (i := 0) hz1 (by omega)).trans k4
  have j5 := (hbv.cell (b := w.heap.size + 1) (i := 1) hz1 (by omega)).trans k5
  have g4 := (hbv.frozen (b := w.heap.size + 1) (i := 0) hz1 (by omega)).trans f4
  have g5 := (hbv.frozen (b := w.heap.size + 1) (i := 1) hz1 (by omega)).trans f5
  go_wp2
  refine bodyPost_ret (v := .agg #[.int .i64 lo, .int .i64 hi]) ?_ rfl ⟨rfl, ((ButV.from e0 hbv).setNew (by omega) _).setNew (by omega) _⟩
  simp [results, Tryz.results59, go_sem, j4, j5]
set_option maxHeartbeats 4000000 in
theorem iRound32 (bl : Bool) (a b : Option Addr) (ca cb A B : Nat) (w : World) (hA : InI w a (natL A).length ca (natL A)) (hB : InI w b (natL B).length cb (natL B)) (hT : Tab w) (hf : fracOk bl (natL A) (natL B) = true) :
    Calls Tryz.prog 58 #[.int .i64 32, .agg #[.bool bl, .slice a (natL A).length ca, .slice b (natL B).length cb], .func (.func 59) #[] #[]] w fun e w' => e = .returned (.tuple #[.agg #[.int .i64 (arL32 bl A B), .int .i64 (arH32 bl A B)], .bool true]) ∧ Below w.heap.size w w' := by
  have q := fracOk_in hf
  have q1 := (natOk_in q.1).1
  have q2 := (natOk_in q.2.1).1
  have hy0 : B ≠ 0 := fun e => q.2.2.1 (by rw [e, natL_zero]; rfl)
  have e0 : Below w.heap.size w ((w.alloc (.cells #[.bool bl, .slice a (natL A).length ca, .slice b (natL B).length cb] 25)).alloc (.cells #[.int .i64 0, .int .i64 0] 52)) := (by repeat (first | with_reducible exact Below.refl _ _ | with_reducible refine Below.drew ?_ | with_reducible refine old_alloc ?_ _ | with_reducible refine old_trans ?_ (by with_reducible assumption)))
  have VO := hd iValues32
  have RO := hd (fun w' (h : Below w.heap.size w w') => iRatioOf bl a b (natL A).length (natL B).length ca cb (natL A) (natL B) w' (hA.old h) (hB.old h) (hT.old h))
  have F0 := hd iNoFault
  have CL := hd (fun vb w' (h : Below w.heap.size w w') hV => iPF1_32 vb bl a b ca cb A B w' hV (hA.old h) (hB.old h) q1 q2 hy0 (hT.old h))
  have hf' : Hid (fracOk bl (natL A) (natL B) = true) := hf
  clear hA hB hT q q1 q2 hy0 hf
  generalize arL32 bl A B = lo at *
  generalize arH32 bl A B = hi at *
  have N4 : ((w.alloc (.cells #[.bool bl, .slice a (natL A).length ca, .slice b (natL B).length cb] 25)).alloc (.cells #[.int .i64 0, .int .i64 0] 52)).cell? ⟨w.heap.size + 1, 0, none⟩ = some (.int .i64 0) ∧ ((w.alloc (.cells #[.bool bl, .slice a (natL A).length ca, .slice b (natL B).length cb] 25)).alloc (.cells #[.int .i64 0, .int .i64 0] 52)).cell? ⟨w.heap.size + 1, 1, none⟩ = some (.int .i64 0) ∧ ((w.alloc (.cells #[.bool bl, .slice a (natL A).length ca, .slice b (natL B).length cb] 25)).alloc (.cells #[.int .i64 0, .int .i64 0] 52)).frozen? ⟨w.heap.size + 1, 0, none⟩ = false ∧ ((w.alloc (.cells #[.bool bl, .slice a (natL A).length ca, .slice b (natL B).length cb] 25)).alloc (.cells #[.int .i64 0, .int .i64 0] 52)).frozen? ⟨w.heap.size + 1, 1, none⟩ = false := by simp
  have K0 : ((w.alloc (.cells #[.bool bl, .slice a (natL A).length ca, .slice b (natL B).length cb] 25)).alloc (.cells #[.int .i64 0, .int .i64 0] 52)).cell? ⟨w.heap.size, 0, none⟩ = some (.bool bl) ∧ ((w.alloc (.cells #[.bool bl, .slice a (natL A).length ca, .slice b (natL B).length cb] 25)).alloc (.cells #[.int .i64 0, .int .i64 0] 52)).cell? ⟨w.heap.size, 1, none⟩ = some (.slice a (natL A).length ca) ∧ ((w.alloc (.cells #[.bool bl, .slice a (natL A).length ca, .slice b (natL B).length cb] 25)).alloc (.cells #[.int .i64 0, .int .i64 0] 52)).cell? ⟨w.heap.size, 2, none⟩ = some (.slice b (natL B).length cb) := by simp
  have hz1 : w.heap.size + 1 < ((w.alloc (.cells #[.bool bl, .slice a (natL A).length ca, .slice b (natL B).length cb] 25)).alloc (.cells #[.int .i64 0, .int .i64 0] 52)).heap.size := by simp
  go_enter Tryz.func58, Tryz.ntmps58
  go_wp2_with fail
  refine (VO.out _).mono ?_
  rintro e w1 ⟨⟨vb, rfl, hvb, V⟩, hb1⟩
  have hz2 : w.heap.size + 1 < w1.heap.size := Nat.lt_of_lt_of_le hz1 hb1.size
  have hv1 : w.heap.size + 1 < vb := Nat.lt_of_lt_of_le hz1 hvb
  replace N4 : _ ∧ _ ∧ _ ∧ _ := ⟨cell_later hb1 N4.1, cell_later hb1 N4.2.1, (hb1.frozen (p := ⟨w.heap.size + 1, 0, none⟩) hz1).trans N4.2.2.1, (hb1.frozen (p := ⟨w.heap.size + 1, 1, none⟩) hz1).trans N4.2.2.2⟩
  replace K0 : _ ∧ _ ∧ _ := ⟨cell_later hb1 K0.1, cell_later hb1 K0.2.1, cell_later hb1 K0.2.2⟩
  have hB : Below w.heap.size w w1 := old_trans e0 hb1
  clear hb1 hvb hz1 VO e0
  obtain ⟨k0, k1, k2⟩ := id K0
  go_wp2_with fail
  refine (RO.out _ hB).mono ?_
  rintro e w2 ⟨he, hb2⟩
  rcases he with ⟨-, rfl⟩ | ⟨hx, -⟩
  rotate_left
  · exact absurd (hf'.out.symm.trans hx) (by simp)
  have hz3 : w.heap.size + 1 < w2.heap.size := Nat.lt_of_lt_of_le hz2 hb2.size
  replace N4 : _ ∧ _ ∧ _ ∧ _ := ⟨cell_later hb2 N4.1, cell_later hb2 N4.2.1, (hb2.frozen (p := ⟨w.heap.size + 1, 0, none⟩) hz2).trans N4.2.2.1, (hb2.frozen (p := ⟨w.heap.size + 1, 1, none⟩) hz2).trans N4.2.2.2⟩
  replace V := V.later hb2
  replace hB := old_trans hB hb2
  clear hb2 k0 k1 k2 K0 RO hz2
  have ha : Below w2.heap.size w2 (w2.alloc (.cells #[.bool bl, .slice a (natL A).length ca, .slice b (natL B).length cb] 84)) := old_alloc (Below.refl _ _) _
  have K := Cel3.new w2 (.bool bl) (.slice a (natL A).length ca) (.slice b (natL B).length cb) 84
  replace V := V.later ha
  replace N4 : _ ∧ _ ∧ _ ∧ _ := ⟨cell_later ha N4.1, cell_later ha N4.2.1, (ha.frozen (p := ⟨w.heap.size + 1, 0, none⟩) hz3).trans N4.2.2.1, (ha.frozen (p := ⟨w.heap.size + 1, 1, none⟩) hz3).trans N4.2.2.2⟩
  replace hB := old_trans hB ha
  have hz4 : w.heap.size + 1 < (w2.alloc (.cells #[.bool bl, .slice a (natL A).length ca, .slice b (natL B).length cb] 84)).heap.size := Nat.lt_of_lt_of_le hz3 ha.size
  clear ha hz3
  go_wp2_with fail
  refine (F0.out _).mono ?_
  rintro e w3 ⟨rfl, hb3⟩
  replace V := V.later hb3
  replace K := K.old hb3
  replace N4 : _ ∧ _ ∧ _ ∧ _ := ⟨cell_later hb3 N4.1, cell_later hb3 N4.2.1, (hb3.frozen (p := ⟨w.heap.size + 1, 0, none⟩) hz4).trans N4.2.2.1, (hb3.frozen (p := ⟨w.heap.size + 1, 1, none⟩) hz4).trans N4.2.2.2⟩
  replace hB := old_trans hB hb3
  have hz5 : w.heap.size + 1 < w3.heap.size := Nat.lt_of_lt_of_le hz4 hb3.size
  clear hb3 F0 hz4
  obtain ⟨-, ⟨k0, k1, k2⟩, -⟩ := id K
  go_wp2_with fail
  refine (CL.out vb _ hB V).mono ?_
  rintro e w4 ⟨rfl, hbv⟩
  have j4 := (hbv.cell (b := w.heap.size + 1) (i := 0) hz5 (by omega)).trans N4.1
  have j5 := (hbv.cell (b := w.heap.size + 1) (i := 1) hz5 (by omega)).trans N4.2.1
  have g4 := (hbv.frozen (b := w.heap.size + 1) (i := 0) hz5 (by omega)).trans N4.2.2.1
  have g5 := (hbv.frozen (b := w.heap.size + 1) (i := 1) hz5 (by omega)).trans N4.2.2.2
  replace hB := hB.trans (hbv.below (m := w.heap.size) (by omega) V.lt)
  clear k0 k1 k2 K CL
  go_wp2
  refine bodyPost_ret (v := .tuple #[.agg #[.int .i64 lo, .int .i64 hi], .bool true]) ?_ rfl ⟨rfl, below_set (below_set hB (by omega) _) (by omega) _⟩
  simp [results, Tryz.results58, go_sem, j4, j5]
theorem meth_around_64 (v : Value) (w : World) : (method 341 124 v "loop.example/pinfold/impl.around").run Tryz.prog w = .ok (176, v) w := by kernel_rfl
theorem iValues64 (w : World) :
    Calls Tryz.prog 37 #[.int .i64 64] w fun e w' => (∃ vb, e = .returned (.tuple #[.iface 124 (.pointer (some ⟨vb, 0, none⟩)), .bool true]) ∧ w.heap.size ≤ vb ∧ S1c w' vb (.int .i64 0)) ∧ Below w.heap.size w w' := by
  go_enter Tryz.func37, Tryz.ntmps37
  go_wp2
  go_ret2
  exact ⟨⟨_, rfl, Nat.le_refl _, S1c.made _ _ rfl _ _⟩, (by repeat (first | with_reducible exact Below.refl _ _ | with_reducible refine Below.drew ?_ | with_reducible refine old_alloc ?_ _ | with_reducible refine old_trans ?_ (by with_reducible assumption)))⟩
set_option maxHeartbeats 2000000 in
theorem iPF1_64 (vb : Nat) (bl : Bool) (a b : Option Addr) (ca cb A B : Nat) (w : World) (hV : S1c w vb (.int .i64 0)) (hA : InI w a (natL A).length ca (natL A)) (hB : InI w b (natL B).length cb (natL B)) (lA : (natL A).length ≤ 256) (lB : (natL B).length ≤ 256) (hB0 : B ≠ 0) (hT : Tab w) :
    Calls Tryz.prog 59 #[.iface 124 (.pointer (some ⟨vb, 0, none⟩)), .agg #[.bool bl, .slice a (natL A).length ca, .slice b (natL B).length cb]] w fun e w' => e = .returned (.agg #[.int .i64 (arL64 bl A B), .int .i64 (arH64 bl A B)]) ∧ ButV vb w w' := by
  have m1 := meth_around_64
  have e0 : Below w.heap.size w ((w.alloc (.cells #[.bool bl, .slice a (natL A).length ca, .slice b (natL B).length cb] 84)).alloc (.cells #[.int .i64 0, .int .i64 0] 52)) := (by repeat (first | with_reducible exact Below.refl _ _ | with_reducible refine Below.drew ?_ | with_reducible refine old_alloc ?_ _ | with_reducible refine old_trans ?_ (by with_reducible assumption)))
  have H1 := hd (iAround64 vb 0 bl a b ca cb A B _ (hV.later e0) (by omega) (by omega) (hA.old e0) (hB.old e0) lA lB hB0 (hT.old e0))
  have hvl := hV.lt
  clear hA hB lA lB hB0 hT
  generalize arL64 bl A B = lo at *
  generalize arH64 bl A B = hi at *
  have k4 : ((w.alloc (.cells #[.bool bl, .slice a (natL A).length ca, .slice b (natL B).length cb] 84)).alloc (.cells #[.int .i64 0, .int .i64 0] 52)).cell? ⟨w.heap.size + 1, 0, none⟩ = some (.int .i64 0) := by simp
  have k5 : ((w.alloc (.cells #[.bool bl, .slice a (natL A).length ca, .slice b (natL B).length cb] 84)).alloc (.cells #[.int .i64 0, .int .i64 0] 52)).cell? ⟨w.heap.size + 1, 1, none⟩ = some (.int .i64 0) := by simp
  have f4 : ((w.alloc (.cells #[.bool bl, .slice a (natL A).length ca, .slice b (natL B).length cb] 84)).alloc (.cells #[.int .i64 0, .int .i64 0] 52)).frozen? ⟨w.heap.size + 1, 0, none⟩ = false := by simp
  have f5 : ((w.alloc (.cells #[.bool bl, .slice a (natL A).length ca, .slice b (natL B).length cb] 84)).alloc (.cells #[.int .i64 0, .int .i64 0] 52)).frozen? ⟨w.heap.size + 1, 1, none⟩ = false := by simp
  have hz1 : w.heap.size + 1 < ((w.alloc (.cells #[.bool bl, .slice a (natL A).length ca, .slice b (natL B).length cb] 84)).alloc (.cells #[.int .i64 0, .int .i64 0] 52)).heap.size := by simp
  go_enter Tryz.func59, Tryz.ntmps59
  go_wp2_with fail
  refine H1.out.mono ?_
  rintro e w1 ⟨rfl, hbv⟩
  have j4 := (hbv.cell (b := w.heap.size + 1) (i := 0) hz1 (by omega)).trans k4
  have j5 := (hbv.cell (b := w.heap.size + 1) (i := 1) hz1 (by omega)).trans k5
  have g4 := (hbv.frozen (b := w.heap.size + 1) (i := 0) hz1 (by omega)).trans f4
  have g5 := (hbv.frozen (b := w.heap.size + 1) (i := 1) hz1 (by omega)).trans f5
  go_wp2
  refine bodyPost_ret (v := .agg #[.int .i64 lo, .int .i64 hi]) ?_ rfl ⟨rfl, ((ButV.from e0 hbv).setNew (by omega) _).setNew (by omega) _⟩
  simp [results, Tryz.results59, go_sem, j4, j5]
set_option maxHeartbeats 4000000 in
theorem iRound64 (bl : Bool) (a b : Option Addr) (ca cb A B : Nat) (w : World) (hA : InI w a (natL A).length ca (natL A)) (hB : InI w b (natL B).length cb (natL B)) (hT : Tab w) (hf : fracOk bl (natL A) (natL B) = true) :
    Calls Tryz.prog 58 #[.int .i64 64, .agg #[.bool bl, .slice a (natL A).length ca, .slice b (natL B).length cb], .func (.func 59) #[] #[]] w fun e w' => e = .returned (.tuple #[.agg #[.int .i64 (arL64 bl A B), .int .i64 (arH64 bl A B)], .bool true]) ∧ Below w.heap.size w w' := by
  have q := fracOk_in hf
  have q1 := (natOk_in q.1).1
  have q2 := (natOk_in q.2.1).1
  have hy0 : B ≠ 0 := fun e => q.2.2.1 (by rw [e, natL_zero]; rfl)
  have e0 : Below w.heap.size w ((w.alloc (.cells #[.bool bl, .slice a (natL A).length ca, .slice b (natL B).length cb] 25)).alloc (.cells #[.int .i64 0, .int .i64 0] 52)) := (by repeat (first | with_reducible exact Below.refl _ _ | with_reducible refine Below.drew ?_ | with_reducible refine old_alloc ?_ _ | with_reducible refine old_trans ?_ (by with_reducible assumption)))
  have VO := hd iValues64
  have RO := hd (fun w' (h : Below w.heap.size w w') => iRatioOf bl a b (natL A).length (natL B).length ca cb (natL A) (natL B) w' (hA.old h) (hB.old h) (hT.old h))
  have F0 := hd iNoFault
  have CL := hd (fun vb w' (h : Below w.heap.size w w') hV => iPF1_64 vb bl a b ca cb A B w' hV (hA.old h) (hB.old h) q1 q2 hy0 (hT.old h))
  have hf' : Hid (fracOk bl (natL A) (natL B) = true) := hf
  clear hA hB hT q q1 q2 hy0 hf
  generalize arL64 bl A B = lo at *
  generalize arH64 bl A B = hi at *
  have N4 : ((w.alloc (.cells #[.bool bl, .slice a (natL A).length ca, .slice b (natL B).length cb] 25)).alloc (.cells #[.int .i64 0, .int .i64 0] 52)).cell? ⟨w.heap.size + 1, 0, none⟩ = some (.int .i64 0) ∧ ((w.alloc (.cells #[.bool bl, .slice a (natL A).length ca, .slice b (natL B).length cb] 25)).alloc (.cells #[.int .i64 0, .int .i64 0] 52)).cell? ⟨w.heap.size + 1, 1, none⟩ = some (.int .i64 0) ∧ ((w.alloc (.cells #[.bool bl, .slice a (natL A).length ca, .slice b (natL B).length cb] 25)).alloc (.cells #[.int .i64 0, .int .i64 0] 52)).frozen? ⟨w.heap.size + 1, 0, none⟩ = false ∧ ((w.alloc (.cells #[.bool bl, .slice a (natL A).length ca, .slice b (natL B).length cb] 25)).alloc (.cells #[.int .i64 0, .int .i64 0] 52)).frozen? ⟨w.heap.size + 1, 1, none⟩ = false := by simp
  have K0 : ((w.alloc (.cells #[.bool bl, .slice a (natL A).length ca, .slice b (natL B).length cb] 25)).alloc (.cells #[.int .i64 0, .int .i64 0] 52)).cell? ⟨w.heap.size, 0, none⟩ = some (.bool bl) ∧ ((w.alloc (.cells #[.bool bl, .slice a (natL A).length ca, .slice b (natL B).length cb] 25)).alloc (.cells #[.int .i64 0, .int .i64 0] 52)).cell? ⟨w.heap.size, 1, none⟩ = some (.slice a (natL A).length ca) ∧ ((w.alloc (.cells #[.bool bl, .slice a (natL A).length ca, .slice b (natL B).length cb] 25)).alloc (.cells #[.int .i64 0, .int .i64 0] 52)).cell? ⟨w.heap.size, 2, none⟩ = some (.slice b (natL B).length cb) := by simp
  have hz1 : w.heap.size + 1 < ((w.alloc (.cells #[.bool bl, .slice a (natL A).length ca, .slice b (natL B).length cb] 25)).alloc (.cells #[.int .i64 0, .int .i64 0] 52)).heap.size := by simp
  go_enter Tryz.func58, Tryz.ntmps58
  go_wp2_with fail
  refine (VO.out _).mono ?_
  rintro e w1 ⟨⟨vb, rfl, hvb, V⟩, hb1⟩
  have hz2 : w.heap.size + 1 < w1.heap.size := Nat.lt_of_lt_of_le hz1 hb1.size
  have hv1 : w.heap.size + 1 < vb := Nat.lt_of_lt_of_le hz1 hvb
  replace N4 : _ ∧ _ ∧ _ ∧ _ := ⟨cell_later hb1 N4.1, cell_later hb1 N4.2.1, (hb1.frozen (p := ⟨w.heap.size + 1, 0, none⟩) hz1).trans N4.2.2.1, (hb1.frozen (p := ⟨w.heap.size + 1, 1, none⟩) hz1).trans N4.2.2.2⟩
  replace K0 : _ ∧ _ ∧ _ := ⟨cell_later hb1 K0.1, cell_later hb1 K0.2.1, cell_later hb1 K0.2.2⟩
  have hB : Below w.heap.size w w1 := old_trans e0 hb1
  clear hb1 hvb hz1 VO e0
  obtain ⟨k0, k1, k2⟩ := id K0
  go_wp2_with fail
  refine (RO.out _ hB).mono ?_
  rintro e w2 ⟨he, hb2⟩
  rcases he with ⟨-, rfl⟩ | ⟨hx, -⟩
  rotate_left
  · exact absurd (hf'.out.symm.trans hx) (by simp)
  have hz3 : w.heap.size + 1 < w2.heap.size := Nat.lt_of_lt_of_le hz2 hb2.size
  replace N4 : _ ∧ _ ∧ _ ∧ _ := ⟨cell_later hb2 N4.1, cell_later hb2 N4.2.1, (hb2.frozen (p := ⟨w.heap.size + 1, 0, none⟩) hz2).trans N4.2.2.1, (hb2.frozen (p := ⟨w.heap.size + 1, 1, none⟩) hz2).trans N4.2.2.2⟩
  replace V := V.later hb2
  replace hB := old_trans hB hb2
  clear hb2 k0 k1 k2 K0 RO hz2
  have ha : Below w2.heap.size w2 (w2.alloc (.cells #[.bool bl, .slice a (natL A).length ca, .slice b (natL B).length cb] 84)) := old_alloc (Below.refl _ _) _
  have K := Cel3.new w2 (.bool bl) (.slice a (natL A).length ca) (.slice b (natL B).length cb) 84
  replace V := V.later ha
  replace N4 : _ ∧ _ ∧ _ ∧ _ := ⟨cell_later ha N4.1, cell_later ha N4.2.1, (ha.frozen (p := ⟨w.heap.size + 1, 0, none⟩) hz3).trans N4.2.2.1, (ha.frozen (p := ⟨w.heap.size + 1, 1, none⟩) hz3).trans N4.2.2.2⟩
  replace hB := old_trans hB ha
  have hz4 : w.heap.size + 1 < (w2.alloc (.cells #[.bool bl, .slice a (natL A).length ca, .slice b (natL B).length cb] 84)).heap.size := Nat.lt_of_lt_of_le hz3 ha.size
  clear ha hz3
  go_wp2_with fail
  refine (F0.out _).mono ?_
  rintro e w3 ⟨rfl, hb3⟩
  replace V := V.later hb3
  replace K := K.old hb3
  replace N4 : _ ∧ _ ∧ _ ∧ _ := ⟨cell_later hb3 N4.1, cell_later hb3 N4.2.1, (hb3.frozen (p := ⟨w.heap.size + 1, 0, none⟩) hz4).trans N4.2.2.1, (hb3.frozen (p := ⟨w.heap.size + 1, 1, none⟩) hz4).trans N4.2.2.2⟩
  replace hB := old_trans hB hb3
  have hz5 : w.heap.size + 1 < w3.heap.size := Nat.lt_of_lt_of_le hz4 hb3.size
  clear hb3 F0 hz4
  obtain ⟨-, ⟨k0, k1, k2⟩, -⟩ := id K
  go_wp2_with fail
  refine (CL.out vb _ hB V).mono ?_
  rintro e w4 ⟨rfl, hbv⟩
  have j4 := (hbv.cell (b := w.heap.size + 1) (i := 0) hz5 (by omega)).trans N4.1
  have j5 := (hbv.cell (b := w.heap.size + 1) (i := 1) hz5 (by omega)).trans N4.2.1
  have g4 := (hbv.frozen (b := w.heap.size + 1) (i := 0) hz5 (by omega)).trans N4.2.2.1
  have g5 := (hbv.frozen (b := w.heap.size + 1) (i := 1) hz5 (by omega)).trans N4.2.2.2
  replace hB := hB.trans (hbv.below (m := w.heap.size) (by omega) V.lt)
  clear k0 k1 k2 K CL
  go_wp2
  refine bodyPost_ret (v := .tuple #[.agg #[.int .i64 lo, .int .i64 hi], .bool true]) ?_ rfl ⟨rfl, below_set (below_set hB (by omega) _) (by omega) _⟩
  simp [results, Tryz.results58, go_sem, j4, j5]
end Go.Proofs.YtgoffjpfddmhhaaGreatDoor

/- What is rounded to floats, by the specification: a number times a power of two, cut. Conditions: digits, 256 at most. Nothing that was there is written. -/
namespace Go.Proofs.YtgoffjpfddmhhaaGreatDoor
open Go.RowKit
set_option linter.unusedVariables false
set_option maxRecDepth 100000

theorem sPow2M (k : Nat) (hk : k ≤ 5000) (w : World) :
    Calls Tryz.prog 57 #[.int .i64 (k : Int)] w fun e w' => (∃ av cv, e = .returned (.slice av (natL (2 ^ k)).length cv) ∧ OI w' w.heap.size av cv (natL (2 ^ k))) ∧ Below w.heap.size w w' := by
  have h := sPow2 (k / 16) (k % 16) w (by omega) (by omega)
  have e1 : (16 * ((k / 16 : Nat) : Int) + ((k % 16 : Nat) : Int)) = (k : Int) := by omega
  have e2 : 65536 ^ (k / 16) * 2 ^ (k % 16) = 2 ^ k := by rw [pow_16, show 16 * (k / 16) + k % 16 = k by omega]
  rw [e1, e2] at h
  exact h
theorem sMulN (a b : Option Addr) (ca cb M N : Nat) (w : World) (hA : InI w a (natL M).length ca (natL M)) (hB : InI w b (natL N).length cb (natL N)) (hla : (natL M).length ≤ 524288) (hlb : (natL N).length ≤ 524288) :
    Calls Tryz.prog 54 #[.slice a (natL M).length ca, .slice b (natL N).length cb] w fun e w' => (∃ av cv, e = .returned (.slice av (natL (N * M)).length cv) ∧ OI w' w.heap.size av cv (natL (N * M))) ∧ Below w.heap.size w w' := by
  have h := sMul a b _ _ ca cb _ _ w hA hB (digs_natL M) (digs_natL N) hla hlb
  rw [val_natL, val_natL, Nat.mul_comm] at h
  exact h
theorem sDivN (a b : Option Addr) (ca cb M N : Nat) (w : World) (hA : InI w a (natL M).length ca (natL M)) (hB : InI w b (natL N).length cb (natL N)) (hN : N ≠ 0) (hla : (natL M).length ≤ 65536) (hlb : (natL N).length ≤ 65536) :
    Calls Tryz.prog 77 #[.slice a (natL M).length ca, .slice b (natL N).length cb] w fun e w' => (∃ av cv av2 cv2, e = .returned (.tuple #[.slice av (natL (M / N)).length cv, .slice av2 (natL (M % N)).length cv2]) ∧ OI w' w.heap.size av cv (natL (M / N)) ∧ OI w' w.heap.size av2 cv2 (natL (M % N)) ∧ Sep av av2) ∧ Below w.heap.size w w' := by
  have h := sDiv a b _ _ ca cb _ _ w hA hB (digs_natL M) (digs_natL N) (topped_natL M) (topped_natL N) hla hlb (natL_length_pos (by omega))
  rw [val_natL, val_natL] at h
  exact h
theorem len_gt (R : Nat) : decide (0 < (natL R).length) = !decide (R = 0) := by
  have h := len0 R
  by_cases c : R = 0
  · rw [decide_eq_true c]; subst c; rw [natL_zero]; rfl
  · rw [decide_eq_false c]
    have := natL_length_pos (Nat.pos_of_ne_zero c)
    exact decide_eq_true (by omega)
set_option maxHeartbeats 4000000 in
theorem sScaled (bl : Bool) (a b : Option Addr) (ca cb A B : Nat) (s : Int) (w : World) (hA : InI w a (natL A).length ca (natL A)) (hB : InI w b (natL B).length cb (natL B)) (hla : (natL A).length ≤ 256) (hlb : (natL B).length ≤ 256) (hB0 : B ≠ 0) (hs : -5000 ≤ s ∧ s ≤ 5000) :
    Calls Tryz.prog 84 #[.agg #[.bool bl, .slice a (natL A).length ca, .slice b (natL B).length cb], .int .i64 s] w fun e w' => (∃ av cv, e = .returned (.tuple #[.slice av (natL (uN A (-s) / uD B (-s))).length cv, .bool (!decide (uN A (-s) % uD B (-s) = 0))]) ∧ OI w' w.heap.size av cv (natL (uN A (-s) / uD B (-s)))) ∧ Below w.heap.size w w' := by
  have e0 : Below w.heap.size w (w.alloc (.cells #[.bool bl, .slice a (natL A).length ca, .slice b (natL B).length cb] 63)) := (by repeat (first | with_reducible exact Below.refl _ _ | with_reducible refine Below.drew ?_ | with_reducible refine old_alloc ?_ _ | with_reducible refine old_trans ?_ (by with_reducible assumption)))
  have k1 : (w.alloc (.cells #[.bool bl, .slice a (natL A).length ca, .slice b (natL B).length cb] 63)).cell? ⟨w.heap.size, 1, none⟩ = some (.slice a (natL A).length ca) := by simp
  have k2 : (w.alloc (.cells #[.bool bl, .slice a (natL A).length ca, .slice b (natL B).length cb] 63)).cell? ⟨w.heap.size, 2, none⟩ = some (.slice b (natL B).length cb) := by simp
  have L0 := hd len_gt
  have p0 : ∀ (h : InI w a (natL A).length ca (natL A)), True := fun _ => trivial
  by_cases c : 0 ≤ s
  · obtain ⟨k, rfl⟩ : ∃ k : Nat, s = (k : Int) := ⟨s.toNat, by omega⟩
    have eN : uN A (-(k : Int)) = 2 ^ k * A := by
      unfold uN
      by_cases z : k = 0
      · subst z; simp
      · rw [if_pos (by omega), show (-(-(k : Int))).toNat = k by omega]
    have eD : uD B (-(k : Int)) = B := by
      unfold uD
      by_cases z : k = 0
      · subst z; simp
      · rw [if_pos (by omega)]
    have l1 := mulpow_len (j := k) (l := 65536) hla (by omega)
    have l2 := pow_lenF (j := k) (k := 524288) (by omega)
    rw [← eN] at l1
    have P2 := hd (sPow2M k (by omega))
    have M := hd (fun b2 c2 w' (h : Below w.heap.size w w') hb => sMulN a b2 ca c2 A (2 ^ k) w' (hA.old h) hb (by omega) l2)
    rw [← eN] at M
    have D := hd (fun a2 c2 w' (h : Below w.heap.size w w') ha => sDivN a2 b c2 cb (uN A (-(k : Int))) B w' ha (hB.old h) hB0 l1 (by omega))
    rw [eD]
    clear eN eD l1 l2 hla hlb hB0 hA hB p0
    generalize uN A (-(k : Int)) = N at *
    generalize 2 ^ k = pk at *
    have c' : (0 : Int) ≤ (k : Int) := by omega
    have L := L0.out (N % B)
    generalize decide (N % B = 0) = z at *
    generalize natL (N / B) = q at *
    generalize natL (N % B) = rr at *
    go_enter Tryz.func84, Tryz.ntmps84
    go_wp2_with fail
    refine (P2.out _).mono ?_
    rintro e w1 ⟨⟨av, cv, rfl, O1⟩, hb1⟩
    have hB1 := old_trans e0 hb1
    go_wp2_with fail
    refine (M.out _ _ _ hB1 O1.inI).mono ?_
    rintro e w2 ⟨⟨av2, cv2, rfl, O2⟩, hb2⟩
    have hB2 := old_trans hB1 hb2
    go_wp2_with fail
    refine (D.out _ _ _ hB2 O2.inI).mono ?_
    rintro e w3 ⟨⟨av3, cv3, av4, cv4, rfl, O3, O4, -⟩, hb3⟩
    have hlen := O4.inI.len
    generalize rr.length = ln at *
    go_wp2
    go_ret2
    exact ⟨⟨av3, cv3, rfl, O3.mono (by have := hB2.size; omega)⟩, old_trans hB2 hb3⟩
  · obtain ⟨k, rfl⟩ : ∃ k : Nat, s = -(k : Int) := ⟨(-s).toNat, by omega⟩
    have kp : 0 < k := by omega
    have eN : uN A (-(-(k : Int))) = A := by unfold uN; rw [if_neg (by omega)]
    have eD : uD B (-(-(k : Int))) = 2 ^ k * B := by unfold uD; rw [if_neg (by omega), show (-(-(k : Int))).toNat = k by omega]
    have l1 := mulpow_len (j := k) (l := 65536) hlb (by omega)
    have l2 := pow_lenF (j := k) (k := 524288) (by omega)
    rw [← eD] at l1
    have d0 : uD B (-(-(k : Int))) ≠ 0 := by rw [eD]; exact Nat.ne_of_gt (Nat.mul_pos (Nat.two_pow_pos k) (by omega))
    have P2 := hd (sPow2M k (by omega))
    have M := hd (fun b2 c2 w' (h : Below w.heap.size w w') hb => sMulN b b2 cb c2 B (2 ^ k) w' (hB.old h) hb (by omega) l2)
    rw [← eD] at M
    have D := hd (fun a2 c2 w' (h : Below w.heap.size w w') ha => sDivN a a2 ca c2 A (uD B (-(-(k : Int)))) w' (hA.old h) ha d0 (by omega) l1)
    rw [eN]
    clear eN eD l1 l2 hla hlb hB0 hA hB p0 d0
    generalize uD B (-(-(k : Int))) = N at *
    generalize 2 ^ k = pk at *
    have L := L0.out (A % N)
    generalize decide (A % N = 0) = z at *
    generalize natL (A / N) = q at *
    generalize natL (A % N) = rr at *
    go_enter Tryz.func84, Tryz.ntmps84
    go_wp2_with fail
    refine (P2.out _).mono ?_
    rintro e w1 ⟨⟨av, cv, rfl, O1⟩, hb1⟩
    have hB1 := old_trans e0 hb1
    go_wp2_with fail
    refine (M.out _ _ _ hB1 O1.inI).mono ?_
    rintro e w2 ⟨⟨av2, cv2, rfl, O2⟩, hb2⟩
    have hB2 := old_trans hB1 hb2
    go_wp2_with fail
    refine (D.out _ _ _ hB2 O2.inI).mono ?_
    rintro e w3 ⟨⟨av3, cv3, av4, cv4, rfl, O3, O4, -⟩, hb3⟩
    have hlen := O4.inI.len
    generalize rr.length = ln at *
    go_wp2
    go_ret2
    exact ⟨⟨av3, cv3, rfl, O3.mono (by have := hB2.size; omega)⟩, old_trans hB2 hb3⟩
end Go.Proofs.YtgoffjpfddmhhaaGreatDoor

/- What is rounded to floats, by the specification: the size, at one width. Conditions: digits, 256 at most. Nothing that was there is written. -/
namespace Go.Proofs.YtgoffjpfddmhhaaGreatDoor
open Go.RowKit
set_option linter.unusedVariables false
set_option maxRecDepth 100000

theorem sFracW32 (w : World) : Calls Tryz.prog 76 #[.int .i64 32] w fun e w' => e = .returned (.int .i64 23) ∧ w' = w := by
  go_enter Tryz.func76, Tryz.ntmps76
  go_wp2
  go_ret
  exact ⟨rfl, rfl⟩
theorem sLeastW32 (w : World) : Calls Tryz.prog 75 #[.int .i64 32] w fun e w' => e = .returned (.int .i64 (-149)) ∧ w' = w := by
  go_enter Tryz.func75, Tryz.ntmps75
  go_wp2
  go_ret
  exact ⟨rfl, rfl⟩
theorem ret232 {x x' : Int} {p p' : Bool} (h : x = x') (g : p = p') : Ending.returned (.tuple #[.int .i64 x, .bool p]) = .returned (.tuple #[.int .i64 x', .bool p']) := by rw [h, g]
theorem szVal32 {A B : Nat} (lA : (natL A).length ≤ 256) (lB : (natL B).length ≤ 256) (hB : B ≠ 0) :
    (pbS A B 24 (-149) < 8388608 → (if mkF32 (pbW A B 24 (-149)) then mkO32 (pbS A B 24 (-149)) (pbW A B 24 (-149)) else 2139095039) = (pbS A B 24 (-149) : Int) ∧ mkF32 (pbW A B 24 (-149)) = true) ∧
    (8388608 ≤ pbS A B 24 (-149) → mkF32 (pbW A B 24 (-149)) = true → (if mkF32 (pbW A B 24 (-149)) then mkO32 (pbS A B 24 (-149)) (pbW A B 24 (-149)) else 2139095039) = (pbW A B 24 (-149) - (-149)) * 8388608 + (pbS A B 24 (-149) : Int)) := by
  have k := pbN32 lA lB hB
  refine ⟨fun h => ?_, fun h f => ?_⟩
  · rcases k with k | k | k
    · rw [k.2, if_pos rfl, k.1]; exact ⟨rfl, rfl⟩
    · have f : mkF32 (pbW A B 24 (-149)) = true := by rw [k]; decide
      rw [f, if_pos rfl]
      unfold mkO32
      rw [f, if_pos rfl, k]
      refine ⟨?_, rfl⟩
      split <;> omega
    · omega
  · rw [f, if_pos rfl]
    unfold mkO32
    rw [f, if_pos rfl, if_neg (by omega)]
set_option maxHeartbeats 8000000 in
theorem sSize32 (bg : Bool) (a b : Option Addr) (ca cb A B : Nat) (w : World) (hA : InI w a (natL A).length ca (natL A)) (hB : InI w b (natL B).length cb (natL B)) (lA : (natL A).length ≤ 256) (lB : (natL B).length ≤ 256) (hB0 : B ≠ 0) (hA0 : A ≠ 0) :
    Calls Tryz.prog 65 #[.int .i64 32, .agg #[.bool bg, .slice a (natL A).length ca, .slice b (natL B).length cb]] w fun e w' => e = .returned (.tuple #[.int .i64 (if mkF32 (pbW A B 24 (-149)) then mkO32 (pbS A B 24 (-149)) (pbW A B 24 (-149)) else 2139095039), .bool (!(pbX A B 24 (-149) && mkF32 (pbW A B 24 (-149))))]) ∧ Below w.heap.size w w' := by
  have e0 : Below w.heap.size w (w.alloc (.cells #[.bool bg, .slice a (natL A).length ca, .slice b (natL B).length cb] 63)) := (by repeat (first | with_reducible exact Below.refl _ _ | with_reducible refine Below.drew ?_ | with_reducible refine old_alloc ?_ _ | with_reducible refine old_trans ?_ (by with_reducible assumption)))
  have k0 : (w.alloc (.cells #[.bool bg, .slice a (natL A).length ca, .slice b (natL B).length cb] 63)).cell? ⟨w.heap.size, 0, none⟩ = some (.bool bg) := by simp
  have k1 : (w.alloc (.cells #[.bool bg, .slice a (natL A).length ca, .slice b (natL B).length cb] 63)).cell? ⟨w.heap.size, 1, none⟩ = some (.slice a (natL A).length ca) := by simp
  have k2 : (w.alloc (.cells #[.bool bg, .slice a (natL A).length ca, .slice b (natL B).length cb] 63)).cell? ⟨w.heap.size, 2, none⟩ = some (.slice b (natL B).length cb) := by simp
  have z1 : (((natL A).length : Int) == 0) = false := by rw [len0]; exact decide_eq_false hA0
  have FW := hd sFracW32
  have LW := hd sLeastW32
  have TW := hd sBitTop_32
  have BA := hd (fun w' (h : Below w.heap.size w w') => sBits a (natL A).length ca (natL A) w' (hA.old h) (digs_natL A) (by omega))
  have BB := hd (fun w' (h : Below w.heap.size w w') => sBits b (natL B).length cb (natL B) w' (hB.old h) (digs_natL B) (by omega))
  have SC := hd (fun s w' (h : Below w.heap.size w w') (hs : -5000 ≤ s ∧ s ≤ 5000) => sScaled bg a b ca cb A B s w' (hA.old h) (hB.old h) lA lB hB0 hs)
  have bA : 0 ≤ bitsN (natL A) ∧ bitsN (natL A) ≤ 4096 := bl_bd lA
  have bB : 0 ≤ bitsN (natL B) ∧ bitsN (natL B) ≤ 4096 := bl_bd lB
  have hP : Hid (pbP A B 24 (-149) = max (bitsN (natL A) - bitsN (natL B) - 24) (-149)) := rfl
  have pc := hd (pb_case A B 24 (-149) hB0)
  have qlt := hd (pbQ_lt (room := 24) (least := -149) lA lB hB0)
  have slt := hd (pbS_lt (room := 24) (least := -149) lA lB hB0)
  have sv := hd (@szVal32 A B lA lB hB0)
  have hQd : Hid (pbQ A B 24 (-149) = uN A (pbP A B 24 (-149)) / uD B (pbP A B 24 (-149))) := rfl
  have hEd : Hid (pbE A B 24 (-149) = decide (uN A (pbP A B 24 (-149)) % uD B (pbP A B 24 (-149)) = 0)) := rfl
  have hF : Hid (mkF32 (pbW A B 24 (-149)) = decide (pbW A B 24 (-149) - (-149) + 1 < 255)) := rfl
  have sv3 : Hid (mkF32 (pbW A B 24 (-149)) = false → (if mkF32 (pbW A B 24 (-149)) then mkO32 (pbS A B 24 (-149)) (pbW A B 24 (-149)) else 2139095039) = 2139095039) := fun h => by rw [h]; rfl
  have wge := hd (pbW_ge A B 24 (-149))
  have wle := hd (pbW_le (room := 24) (least := -149) lA lB (by omega))
  have e2r0 := trivial
  have e2r : Hid ((2 : Nat) ^ 24 = 16777216) := by show _ = _; decide
  have e2s : Hid ((2 : Nat) ^ (24 + 1) = 33554432) := by show _ = _; decide
  have hbl : Hid (∀ q, q < 18446744073709551616 → bitsN (natL q) = bl q ∧ (natL q).length ≤ 256) := fun q h => ⟨rfl, small_len h⟩
  have hgt : Hid (∀ q r : Nat, (natL q).length ≤ 256 → ((r : Int) < bl q ↔ 2 ^ r ≤ q)) := fun q r h => bl_gt h
  generalize (if mkF32 (pbW A B 24 (-149)) then mkO32 (pbS A B 24 (-149)) (pbW A B 24 (-149)) else 2139095039) = R at *
  generalize mkF32 (pbW A B 24 (-149)) = fi at *
  generalize pbX A B 24 (-149) = X at *
  generalize pbS A B 24 (-149) = S at *
  generalize pbW A B 24 (-149) = W at *
  generalize pbE A B 24 (-149) = Eb at *
  generalize pbQ A B 24 (-149) = Q at *
  generalize pbP A B 24 (-149) = P at *
  clear hA hB lA lB hB0 hA0
  generalize bitsN (natL A) = x at *
  generalize bitsN (natL B) = y at *
  have w0' : IntKind.i64.wrap 24 = 24 := by decide
  have w1' : IntKind.i64.wrap (24 - x) = 24 - x := by simp [IntKind.wrap, IntKind.bits, IntKind.signed]; omega
  have w2' : IntKind.i64.wrap (24 - x + y) = 24 - x + y := by simp [IntKind.wrap, IntKind.bits, IntKind.signed]; omega
  go_enter Tryz.func65, Tryz.ntmps65
  go_wp2_with (first | (go_at_call 76; refine (FW.out _).mono ?_; rintro e w1 ⟨rfl, rfl⟩))
  have hB := e0
  clear e0
  have BAC := hd (fun w' (hS : w'.cell? ⟨w.heap.size, 0, none⟩ = some (.bool bg) ∧ w'.cell? ⟨w.heap.size, 1, none⟩ = some (.slice a (natL A).length ca) ∧ w'.cell? ⟨w.heap.size, 2, none⟩ = some (.slice b (natL B).length cb)) (h : Below w.heap.size w w') => (BA.out w' h).mono (fun e w'' (k : _ ∧ _) => (⟨k, k.2 ▸ hS⟩ : (_ ∧ _) ∧ (w''.cell? ⟨w.heap.size, 0, none⟩ = some (.bool bg) ∧ w''.cell? ⟨w.heap.size, 1, none⟩ = some (.slice a (natL A).length ca) ∧ w''.cell? ⟨w.heap.size, 2, none⟩ = some (.slice b (natL B).length cb)))))
  have BBC := hd (fun w' (hS : w'.cell? ⟨w.heap.size, 0, none⟩ = some (.bool bg) ∧ w'.cell? ⟨w.heap.size, 1, none⟩ = some (.slice a (natL A).length ca) ∧ w'.cell? ⟨w.heap.size, 2, none⟩ = some (.slice b (natL B).length cb)) (h : Below w.heap.size w w') => (BB.out w' h).mono (fun e w'' (k : _ ∧ _) => (⟨k, k.2 ▸ hS⟩ : (_ ∧ _) ∧ (w''.cell? ⟨w.heap.size, 0, none⟩ = some (.bool bg) ∧ w''.cell? ⟨w.heap.size, 1, none⟩ = some (.slice a (natL A).length ca) ∧ w''.cell? ⟨w.heap.size, 2, none⟩ = some (.slice b (natL B).length cb)))))
  clear BA BB
  go_cut [7] (fun s wx => s = .int .i64 (24 - x + y) ∧ (wx.cell? ⟨w.heap.size, 0, none⟩ = some (.bool bg) ∧ wx.cell? ⟨w.heap.size, 1, none⟩ = some (.slice a (natL A).length ca) ∧ wx.cell? ⟨w.heap.size, 2, none⟩ = some (.slice b (natL B).length cb)) ∧ Below w.heap.size w wx)
  case first =>
    go_wp2_with fail
    go_region_held3 (fun w' => w'.cell? ⟨w.heap.size, 0, none⟩ = some (.bool bg) ∧ w'.cell? ⟨w.heap.size, 1, none⟩ = some (.slice a (natL A).length ca) ∧ w'.cell? ⟨w.heap.size, 2, none⟩ = some (.slice b (natL B).length cb)) (go_keep) (first | (go_at_call_of 83 (Value.slice a (natL A).length ca); refine (BAC.out _ (by assumption) (by repeat (first | with_reducible exact hB | with_reducible exact Below.refl _ _ | with_reducible refine Below.drew ?_ | with_reducible refine old_alloc ?_ _ | with_reducible refine old_trans ?_ (by with_reducible assumption)))).mono ?_; rintro e wx ⟨⟨rfl, rfl⟩, hcx⟩) | (go_at_call_of 83 (Value.slice b (natL B).length cb); refine (BBC.out _ (by assumption) (by repeat (first | with_reducible exact hB | with_reducible exact Below.refl _ _ | with_reducible refine Below.drew ?_ | with_reducible refine old_alloc ?_ _ | with_reducible refine old_trans ?_ (by with_reducible assumption)))).mono ?_; rintro e wx ⟨⟨rfl, rfl⟩, hcx⟩))
    all_goals
      go_wp2_with fail
      go_meet
      exact ⟨by first | rfl | rw [w0', w1', w2'], ⟨by assumption, by assumption, by assumption⟩, (by repeat (first | with_reducible exact hB | with_reducible exact Below.refl _ _ | with_reducible refine Below.drew ?_ | ((with_reducible refine Below.setCell ?_ ?_ _); rotate_left; (focus (first | (simp; done) | omega | (simp; omega)))) | with_reducible refine old_alloc ?_ _ | with_reducible refine old_trans ?_ (by with_reducible assumption)))⟩
  case rest =>
    obtain ⟨hs, ⟨k0, k1, k2⟩, hB⟩ := hcut
    subst hs
    clear BAC BBC w1' w2'
    clear w0'
    by_cases c : -(-149) < 24 - x + y
    · have hs : -(-149) = -P := by have := hP.out; omega
      have hsv := trivial
      have eP : -(149) = P := by omega
      have eP1 : -(148) = P + 1 := by omega
      have SC1 := hd (fun w' h => SC.out (149) w' h (by omega))
      have SC2 := hd (fun w' h => SC.out (148) w' h (by omega))
      rw [eP, ← hQd.out, ← hEd.out] at SC1
      rw [eP1] at SC2
      have hS64 : S < 18446744073709551616 := by have := slt.out; have := e2r.out; omega
      have SM := hd (fun av cv w' h => sNatSmall av (natL S).length cv (natL S) w' h)
      rw [small_natL hS64] at SM
      have hl := hbl.out S hS64
      have BS := hd (fun av cv w' h => sBits av (natL S).length cv (natL S) w' h (digs_natL S) (by omega))
      rw [hl.1] at BS
      have gS := hd (hgt.out S 23 hl.2)
      have gS2 := hd (hgt.out S 24 hl.2)
      have bS : 0 ≤ bl S ∧ bl S ≤ 4096 := bl_bd hl.2
      clear hS64 hl SC eP1 hsv
      rcases pc.out with ⟨p1, p2, p3, p4⟩ | ⟨p1, p2, p3, p4⟩
      · subst p2 p4
        have nb : bl S ≤ 24 := by
          have h := gS2.out
          apply Int.not_lt.1
          intro g
          have := h.1 g
          omega
        have hW : W = -(149) := by omega
        have Wl := wge.out
        have g1 := gS.out
        have e2f : (2 : Nat) ^ 23 = 8388608 := by decide
        rw [e2f] at g1
        have sU : S < 16777216 := by have := slt.out; have := e2r.out; omega
        have RR : (bl S ≤ 23 ∧ R = (S : Int) ∧ fi = true) ∨ (23 < bl S ∧ fi = false ∧ R = 2139095039 ∧ 255 ≤ -(149) - (-149) + 1) ∨ (23 < bl S ∧ fi = true ∧ R = (-(149) - (-149)) * 8388608 + (S : Int) ∧ -(149) - (-149) + 1 < 255) := by
          by_cases sm : S < 8388608
          · obtain ⟨h1, h2⟩ := sv.out.1 sm
            refine .inl ⟨?_, h1, h2⟩
            apply Int.not_lt.1
            intro g
            have := g1.1 g
            omega
          · have h0 := g1.2 (by omega)
            cases hfi : fi
            · have h2 := hF.out
              rw [hfi] at h2
              have h3 := of_decide_eq_false h2.symm
              exact .inr (.inl ⟨h0, rfl, sv3.out hfi, by omega⟩)
            · have h2 := hF.out
              rw [hfi] at h2
              have h3 := of_decide_eq_true h2.symm
              refine .inr (.inr ⟨h0, rfl, ?_, by omega⟩)
              rw [sv.out.2 (by omega) hfi, hW]
        have sU' : Hid (S < 16777216) := sU
        clear p1 hP pc hQd hEd qlt SC2 p3 hW eP hs Wl g1 e2f sU sv sv3 hF gS gS2 slt wge wle e2r e2s hbl hgt
        generalize bl S = bS' at *
        have RH := hd RR
        clear RR
        go_wp2_with (first | (go_at_call 75; refine (LW.out _).mono ?_; rintro e w1 ⟨rfl, rfl⟩) | (go_at_call 84; refine (SC1.out _ hB).mono ?_; rintro e w2 ⟨⟨av, cv, rfl, O1⟩, hb2⟩))
        have hB2 := old_trans hB hb2
        refine wp_loop_rounds 1 ?_
        rw [rounds_succ]
        have s0 : (0 : Int) ≤ (S : Int) := by omega
        have s1 : (S : Int) < 16777216 := by have := sU'.out; omega
        clear sU'
        generalize (S : Int) = Si at *
        rcases RH.out with ⟨r1, rfl, rfl⟩ | ⟨r1, rfl, rfl, r2⟩ | ⟨r1, rfl, r3, r2⟩
        · clear RH
          go_wp2_with (first | (go_at_call 83; refine (BS.out _ _ _ O1.inI).mono ?_; rintro e w3 ⟨rfl, rfl⟩) | (go_at_call 85; refine (SM.out _ _ _ O1.inI).mono ?_; rintro e w3 ⟨rfl, rfl⟩) | (go_at_call 75; refine (LW.out _).mono ?_; rintro e w3 ⟨rfl, rfl⟩) | (go_at_call 47; refine (TW.out _).mono ?_; rintro e w3 ⟨rfl, rfl⟩))
          all_goals
            go_ret2
            exact ⟨ret232 rfl (by simp), hB2⟩
        · clear RH
          go_wp2_with (first | (go_at_call 83; refine (BS.out _ _ _ O1.inI).mono ?_; rintro e w3 ⟨rfl, rfl⟩) | (go_at_call 85; refine (SM.out _ _ _ O1.inI).mono ?_; rintro e w3 ⟨rfl, rfl⟩) | (go_at_call 75; refine (LW.out _).mono ?_; rintro e w3 ⟨rfl, rfl⟩) | (go_at_call 47; refine (TW.out _).mono ?_; rintro e w3 ⟨rfl, rfl⟩))
          all_goals
            go_ret2
            exact ⟨ret232 rfl (by simp), hB2⟩
        · clear RH
          replace r3 := hd r3
          go_wp2_with (first | (go_at_call 83; refine (BS.out _ _ _ O1.inI).mono ?_; rintro e w3 ⟨rfl, rfl⟩) | (go_at_call 85; refine (SM.out _ _ _ O1.inI).mono ?_; rintro e w3 ⟨rfl, rfl⟩) | (go_at_call 75; refine (LW.out _).mono ?_; rintro e w3 ⟨rfl, rfl⟩) | (go_at_call 47; refine (TW.out _).mono ?_; rintro e w3 ⟨rfl, rfl⟩))
          all_goals
            go_ret2
            exact ⟨ret232 (by rw [r3.out]; omega) (by simp), hB2⟩
      · rw [← p2, ← p4] at SC2
        have hQ64 : Q < 18446744073709551616 := by have := qlt.out; have := e2s.out; omega
        have hlQ := hbl.out Q hQ64
        have BQ := hd (fun av cv w' h => sBits av (natL Q).length cv (natL Q) w' h (digs_natL Q) (by omega))
        rw [hlQ.1] at BQ
        have gQ : 24 < bl Q := (hgt.out Q 24 hlQ.2).2 p1
        have bQ : 0 ≤ bl Q ∧ bl Q ≤ 4096 := bl_bd hlQ.2
        clear hlQ hQ64 p2 p4
        have nb : bl S ≤ 24 := by
          have h := gS2.out
          apply Int.not_lt.1
          intro g
          have := h.1 g
          have := slt.out
          omega
        have hW : W = -(148) := by omega
        have Wl := wge.out
        have g1 := gS.out
        have e2f : (2 : Nat) ^ 23 = 8388608 := by decide
        rw [e2f] at g1
        have sU : S < 16777216 := by have := slt.out; have := e2r.out; omega
        have RR : (bl S ≤ 23 ∧ R = (S : Int) ∧ fi = true) ∨ (23 < bl S ∧ fi = false ∧ R = 2139095039 ∧ 255 ≤ -(148) - (-149) + 1) ∨ (23 < bl S ∧ fi = true ∧ R = (-(148) - (-149)) * 8388608 + (S : Int) ∧ -(148) - (-149) + 1 < 255) := by
          by_cases sm : S < 8388608
          · obtain ⟨h1, h2⟩ := sv.out.1 sm
            refine .inl ⟨?_, h1, h2⟩
            apply Int.not_lt.1
            intro g
            have := g1.1 g
            omega
          · have h0 := g1.2 (by omega)
            cases hfi : fi
            · have h2 := hF.out
              rw [hfi] at h2
              have h3 := of_decide_eq_false h2.symm
              exact .inr (.inl ⟨h0, rfl, sv3.out hfi, by omega⟩)
            · have h2 := hF.out
              rw [hfi] at h2
              have h3 := of_decide_eq_true h2.symm
              refine .inr (.inr ⟨h0, rfl, ?_, by omega⟩)
              rw [sv.out.2 (by omega) hfi, hW]
        have sU' : Hid (S < 16777216) := sU
        clear p1 hP pc hQd hEd qlt p3 hW eP hs Wl g1 e2f sU sv sv3 hF gS gS2 slt wge wle e2r e2s hbl hgt
        generalize bl S = bS' at *
        have RH := hd RR
        clear RR
        generalize bl Q = bQ' at *
        go_wp2_with (first | (go_at_call 75; refine (LW.out _).mono ?_; rintro e w1 ⟨rfl, rfl⟩) | (go_at_call 84; refine (SC1.out _ hB).mono ?_; rintro e w2 ⟨⟨av, cv, rfl, O1⟩, hb2⟩))
        have hB1 := old_trans hB hb2
        replace k0 := cell_later hb2 k0
        replace k1 := cell_later hb2 k1
        replace k2 := cell_later hb2 k2
        refine wp_loop_rounds 2 ?_
        rw [rounds_succ]
        go_wp2_with (first | (go_at_call 83; refine (BQ.out _ _ _ O1.inI).mono ?_; rintro e w3 ⟨rfl, rfl⟩) | (go_at_call 84; refine (SC2.out _ hB1).mono ?_; rintro e w4 ⟨⟨av2, cv2, rfl, O2⟩, hb4⟩))
        have hB2 := old_trans hB1 hb4
        replace O1 := O2
        clear O2
        rw [rounds_succ]
        have s0 : (0 : Int) ≤ (S : Int) := by omega
        have s1 : (S : Int) < 16777216 := by have := sU'.out; omega
        clear sU'
        generalize (S : Int) = Si at *
        rcases RH.out with ⟨r1, rfl, rfl⟩ | ⟨r1, rfl, rfl, r2⟩ | ⟨r1, rfl, r3, r2⟩
        · clear RH
          go_wp2_with (first | (go_at_call 83; refine (BS.out _ _ _ O1.inI).mono ?_; rintro e w3 ⟨rfl, rfl⟩) | (go_at_call 85; refine (SM.out _ _ _ O1.inI).mono ?_; rintro e w3 ⟨rfl, rfl⟩) | (go_at_call 75; refine (LW.out _).mono ?_; rintro e w3 ⟨rfl, rfl⟩) | (go_at_call 47; refine (TW.out _).mono ?_; rintro e w3 ⟨rfl, rfl⟩))
          all_goals
            go_ret2
            exact ⟨ret232 rfl (by simp), hB2⟩
        · clear RH
          go_wp2_with (first | (go_at_call 83; refine (BS.out _ _ _ O1.inI).mono ?_; rintro e w3 ⟨rfl, rfl⟩) | (go_at_call 85; refine (SM.out _ _ _ O1.inI).mono ?_; rintro e w3 ⟨rfl, rfl⟩) | (go_at_call 75; refine (LW.out _).mono ?_; rintro e w3 ⟨rfl, rfl⟩) | (go_at_call 47; refine (TW.out _).mono ?_; rintro e w3 ⟨rfl, rfl⟩))
          all_goals
            go_ret2
            exact ⟨ret232 rfl (by simp), hB2⟩
        · clear RH
          replace r3 := hd r3
          go_wp2_with (first | (go_at_call 83; refine (BS.out _ _ _ O1.inI).mono ?_; rintro e w3 ⟨rfl, rfl⟩) | (go_at_call 85; refine (SM.out _ _ _ O1.inI).mono ?_; rintro e w3 ⟨rfl, rfl⟩) | (go_at_call 75; refine (LW.out _).mono ?_; rintro e w3 ⟨rfl, rfl⟩) | (go_at_call 47; refine (TW.out _).mono ?_; rintro e w3 ⟨rfl, rfl⟩))
          all_goals
            go_ret2
            exact ⟨ret232 (by rw [r3.out]; omega) (by simp), hB2⟩
    · have hs : 24 - x + y = -P := by have := hP.out; omega
      have hsv := trivial
      have eP : -(24 - x + y) = P := by omega
      have eP1 : -(24 - x + y - 1) = P + 1 := by omega
      have SC1 := hd (fun w' h => SC.out (24 - x + y) w' h (by omega))
      have SC2 := hd (fun w' h => SC.out (24 - x + y - 1) w' h (by omega))
      rw [eP, ← hQd.out, ← hEd.out] at SC1
      rw [eP1] at SC2
      have hS64 : S < 18446744073709551616 := by have := slt.out; have := e2r.out; omega
      have SM := hd (fun av cv w' h => sNatSmall av (natL S).length cv (natL S) w' h)
      rw [small_natL hS64] at SM
      have hl := hbl.out S hS64
      have BS := hd (fun av cv w' h => sBits av (natL S).length cv (natL S) w' h (digs_natL S) (by omega))
      rw [hl.1] at BS
      have gS := hd (hgt.out S 23 hl.2)
      have gS2 := hd (hgt.out S 24 hl.2)
      have bS : 0 ≤ bl S ∧ bl S ≤ 4096 := bl_bd hl.2
      clear hS64 hl SC eP1 hsv
      rcases pc.out with ⟨p1, p2, p3, p4⟩ | ⟨p1, p2, p3, p4⟩
      · subst p2 p4
        have nb : bl S ≤ 24 := by
          have h := gS2.out
          apply Int.not_lt.1
          intro g
          have := h.1 g
          omega
        have hW : W = -(24 - x + y) := by omega
        have Wl := wge.out
        have g1 := gS.out
        have e2f : (2 : Nat) ^ 23 = 8388608 := by decide
        rw [e2f] at g1
        have sU : S < 16777216 := by have := slt.out; have := e2r.out; omega
        have RR : (bl S ≤ 23 ∧ R = (S : Int) ∧ fi = true) ∨ (23 < bl S ∧ fi = false ∧ R = 2139095039 ∧ 255 ≤ -(24 - x + y) - (-149) + 1) ∨ (23 < bl S ∧ fi = true ∧ R = (-(24 - x + y) - (-149)) * 8388608 + (S : Int) ∧ -(24 - x + y) - (-149) + 1 < 255) := by
          by_cases sm : S < 8388608
          · obtain ⟨h1, h2⟩ := sv.out.1 sm
            refine .inl ⟨?_, h1, h2⟩
            apply Int.not_lt.1
            intro g
            have := g1.1 g
            omega
          · have h0 := g1.2 (by omega)
            cases hfi : fi
            · have h2 := hF.out
              rw [hfi] at h2
              have h3 := of_decide_eq_false h2.symm
              exact .inr (.inl ⟨h0, rfl, sv3.out hfi, by omega⟩)
            · have h2 := hF.out
              rw [hfi] at h2
              have h3 := of_decide_eq_true h2.symm
              refine .inr (.inr ⟨h0, rfl, ?_, by omega⟩)
              rw [sv.out.2 (by omega) hfi, hW]
        have sU' : Hid (S < 16777216) := sU
        clear p1 hP pc hQd hEd qlt SC2 p3 hW eP hs Wl g1 e2f sU sv sv3 hF gS gS2 slt wge wle e2r e2s hbl hgt
        generalize bl S = bS' at *
        have RH := hd RR
        clear RR
        go_wp2_with (first | (go_at_call 75; refine (LW.out _).mono ?_; rintro e w1 ⟨rfl, rfl⟩) | (go_at_call 84; refine (SC1.out _ hB).mono ?_; rintro e w2 ⟨⟨av, cv, rfl, O1⟩, hb2⟩))
        have hB2 := old_trans hB hb2
        refine wp_loop_rounds 1 ?_
        rw [rounds_succ]
        have s0 : (0 : Int) ≤ (S : Int) := by omega
        have s1 : (S : Int) < 16777216 := by have := sU'.out; omega
        clear sU'
        generalize (S : Int) = Si at *
        rcases RH.out with ⟨r1, rfl, rfl⟩ | ⟨r1, rfl, rfl, r2⟩ | ⟨r1, rfl, r3, r2⟩
        · clear RH
          go_wp2_with (first | (go_at_call 83; refine (BS.out _ _ _ O1.inI).mono ?_; rintro e w3 ⟨rfl, rfl⟩) | (go_at_call 85; refine (SM.out _ _ _ O1.inI).mono ?_; rintro e w3 ⟨rfl, rfl⟩) | (go_at_call 75; refine (LW.out _).mono ?_; rintro e w3 ⟨rfl, rfl⟩) | (go_at_call 47; refine (TW.out _).mono ?_; rintro e w3 ⟨rfl, rfl⟩))
          all_goals
            go_ret2
            exact ⟨ret232 rfl (by simp), hB2⟩
        · clear RH
          go_wp2_with (first | (go_at_call 83; refine (BS.out _ _ _ O1.inI).mono ?_; rintro e w3 ⟨rfl, rfl⟩) | (go_at_call 85; refine (SM.out _ _ _ O1.inI).mono ?_; rintro e w3 ⟨rfl, rfl⟩) | (go_at_call 75; refine (LW.out _).mono ?_; rintro e w3 ⟨rfl, rfl⟩) | (go_at_call 47; refine (TW.out _).mono ?_; rintro e w3 ⟨rfl, rfl⟩))
          all_goals
            go_ret2
            exact ⟨ret232 rfl (by simp), hB2⟩
        · clear RH
          replace r3 := hd r3
          go_wp2_with (first | (go_at_call 83; refine (BS.out _ _ _ O1.inI).mono ?_; rintro e w3 ⟨rfl, rfl⟩) | (go_at_call 85; refine (SM.out _ _ _ O1.inI).mono ?_; rintro e w3 ⟨rfl, rfl⟩) | (go_at_call 75; refine (LW.out _).mono ?_; rintro e w3 ⟨rfl, rfl⟩) | (go_at_call 47; refine (TW.out _).mono ?_; rintro e w3 ⟨rfl, rfl⟩))
          all_goals
            go_ret2
            exact ⟨ret232 (by rw [r3.out]; omega) (by simp), hB2⟩
      · rw [← p2, ← p4] at SC2
        have hQ64 : Q < 18446744073709551616 := by have := qlt.out; have := e2s.out; omega
        have hlQ := hbl.out Q hQ64
        have BQ := hd (fun av cv w' h => sBits av (natL Q).length cv (natL Q) w' h (digs_natL Q) (by omega))
        rw [hlQ.1] at BQ
        have gQ : 24 < bl Q := (hgt.out Q 24 hlQ.2).2 p1
        have bQ : 0 ≤ bl Q ∧ bl Q ≤ 4096 := bl_bd hlQ.2
        clear hlQ hQ64 p2 p4
        have nb : bl S ≤ 24 := by
          have h := gS2.out
          apply Int.not_lt.1
          intro g
          have := h.1 g
          have := slt.out
          omega
        have hW : W = -(24 - x + y - 1) := by omega
        have Wl := wge.out
        have g1 := gS.out
        have e2f : (2 : Nat) ^ 23 = 8388608 := by decide
        rw [e2f] at g1
        have sU : S < 16777216 := by have := slt.out; have := e2r.out; omega
        have RR : (bl S ≤ 23 ∧ R = (S : Int) ∧ fi = true) ∨ (23 < bl S ∧ fi = false ∧ R = 2139095039 ∧ 255 ≤ -(24 - x + y - 1) - (-149) + 1) ∨ (23 < bl S ∧ fi = true ∧ R = (-(24 - x + y - 1) - (-149)) * 8388608 + (S : Int) ∧ -(24 - x + y - 1) - (-149) + 1 < 255) := by
          by_cases sm : S < 8388608
          · obtain ⟨h1, h2⟩ := sv.out.1 sm
            refine .inl ⟨?_, h1, h2⟩
            apply Int.not_lt.1
            intro g
            have := g1.1 g
            omega
          · have h0 := g1.2 (by omega)
            cases hfi : fi
            · have h2 := hF.out
              rw [hfi] at h2
              have h3 := of_decide_eq_false h2.symm
              exact .inr (.inl ⟨h0, rfl, sv3.out hfi, by omega⟩)
            · have h2 := hF.out
              rw [hfi] at h2
              have h3 := of_decide_eq_true h2.symm
              refine .inr (.inr ⟨h0, rfl, ?_, by omega⟩)
              rw [sv.out.2 (by omega) hfi, hW]
        have sU' : Hid (S < 16777216) := sU
        clear p1 hP pc hQd hEd qlt p3 hW eP hs Wl g1 e2f sU sv sv3 hF gS gS2 slt wge wle e2r e2s hbl hgt
        generalize bl S = bS' at *
        have RH := hd RR
        clear RR
        generalize bl Q = bQ' at *
        go_wp2_with (first | (go_at_call 75; refine (LW.out _).mono ?_; rintro e w1 ⟨rfl, rfl⟩) | (go_at_call 84; refine (SC1.out _ hB).mono ?_; rintro e w2 ⟨⟨av, cv, rfl, O1⟩, hb2⟩))
        have hB1 := old_trans hB hb2
        replace k0 := cell_later hb2 k0
        replace k1 := cell_later hb2 k1
        replace k2 := cell_later hb2 k2
        refine wp_loop_rounds 2 ?_
        rw [rounds_succ]
        go_wp2_with (first | (go_at_call 83; refine (BQ.out _ _ _ O1.inI).mono ?_; rintro e w3 ⟨rfl, rfl⟩) | (go_at_call 84; refine (SC2.out _ hB1).mono ?_; rintro e w4 ⟨⟨av2, cv2, rfl, O2⟩, hb4⟩))
        have hB2 := old_trans hB1 hb4
        replace O1 := O2
        clear O2
        rw [rounds_succ]
        have s0 : (0 : Int) ≤ (S : Int) := by omega
        have s1 : (S : Int) < 16777216 := by have := sU'.out; omega
        clear sU'
        generalize (S : Int) = Si at *
        rcases RH.out with ⟨r1, rfl, rfl⟩ | ⟨r1, rfl, rfl, r2⟩ | ⟨r1, rfl, r3, r2⟩
        · clear RH
          go_wp2_with (first | (go_at_call 83; refine (BS.out _ _ _ O1.inI).mono ?_; rintro e w3 ⟨rfl, rfl⟩) | (go_at_call 85; refine (SM.out _ _ _ O1.inI).mono ?_; rintro e w3 ⟨rfl, rfl⟩) | (go_at_call 75; refine (LW.out _).mono ?_; rintro e w3 ⟨rfl, rfl⟩) | (go_at_call 47; refine (TW.out _).mono ?_; rintro e w3 ⟨rfl, rfl⟩))
          all_goals
            go_ret2
            exact ⟨ret232 rfl (by simp), hB2⟩
        · clear RH
          go_wp2_with (first | (go_at_call 83; refine (BS.out _ _ _ O1.inI).mono ?_; rintro e w3 ⟨rfl, rfl⟩) | (go_at_call 85; refine (SM.out _ _ _ O1.inI).mono ?_; rintro e w3 ⟨rfl, rfl⟩) | (go_at_call 75; refine (LW.out _).mono ?_; rintro e w3 ⟨rfl, rfl⟩) | (go_at_call 47; refine (TW.out _).mono ?_; rintro e w3 ⟨rfl, rfl⟩))
          all_goals
            go_ret2
            exact ⟨ret232 rfl (by simp), hB2⟩
        · clear RH
          replace r3 := hd r3
          go_wp2_with (first | (go_at_call 83; refine (BS.out _ _ _ O1.inI).mono ?_; rintro e w3 ⟨rfl, rfl⟩) | (go_at_call 85; refine (SM.out _ _ _ O1.inI).mono ?_; rintro e w3 ⟨rfl, rfl⟩) | (go_at_call 75; refine (LW.out _).mono ?_; rintro e w3 ⟨rfl, rfl⟩) | (go_at_call 47; refine (TW.out _).mono ?_; rintro e w3 ⟨rfl, rfl⟩))
          all_goals
            go_ret2
            exact ⟨ret232 (by rw [r3.out]; omega) (by simp), hB2⟩
end Go.Proofs.YtgoffjpfddmhhaaGreatDoor

/- What is rounded to floats, by the specification: the size, at one width. Conditions: digits, 256 at most. Nothing that was there is written. -/
namespace Go.Proofs.YtgoffjpfddmhhaaGreatDoor
open Go.RowKit
set_option linter.unusedVariables false
set_option maxRecDepth 100000

theorem sFracW64 (w : World) : Calls Tryz.prog 76 #[.int .i64 64] w fun e w' => e = .returned (.int .i64 52) ∧ w' = w := by
  go_enter Tryz.func76, Tryz.ntmps76
  go_wp2
  go_ret
  exact ⟨rfl, rfl⟩
theorem sLeastW64 (w : World) : Calls Tryz.prog 75 #[.int .i64 64] w fun e w' => e = .returned (.int .i64 (-1074)) ∧ w' = w := by
  go_enter Tryz.func75, Tryz.ntmps75
  go_wp2
  go_ret
  exact ⟨rfl, rfl⟩
theorem ret264 {x x' : Int} {p p' : Bool} (h : x = x') (g : p = p') : Ending.returned (.tuple #[.int .i64 x, .bool p]) = .returned (.tuple #[.int .i64 x', .bool p']) := by rw [h, g]
theorem szVal64 {A B : Nat} (lA : (natL A).length ≤ 256) (lB : (natL B).length ≤ 256) (hB : B ≠ 0) :
    (pbS A B 53 (-1074) < 4503599627370496 → (if mkF64 (pbW A B 53 (-1074)) then mkO64 (pbS A B 53 (-1074)) (pbW A B 53 (-1074)) else 9218868437227405311) = (pbS A B 53 (-1074) : Int) ∧ mkF64 (pbW A B 53 (-1074)) = true) ∧
    (4503599627370496 ≤ pbS A B 53 (-1074) → mkF64 (pbW A B 53 (-1074)) = true → (if mkF64 (pbW A B 53 (-1074)) then mkO64 (pbS A B 53 (-1074)) (pbW A B 53 (-1074)) else 9218868437227405311) = (pbW A B 53 (-1074) - (-1074)) * 4503599627370496 + (pbS A B 53 (-1074) : Int)) := by
  have k := pbN64 lA lB hB
  refine ⟨fun h => ?_, fun h f => ?_⟩
  · rcases k with k | k | k
    · rw [k.2, if_pos rfl, k.1]; exact ⟨rfl, rfl⟩
    · have f : mkF64 (pbW A B 53 (-1074)) = true := by rw [k]; decide
      rw [f, if_pos rfl]
      unfold mkO64
      rw [f, if_pos rfl, k]
      refine ⟨?_, rfl⟩
      split <;> omega
    · omega
  · rw [f, if_pos rfl]
    unfold mkO64
    rw [f, if_pos rfl, if_neg (by omega)]
set_option maxHeartbeats 8000000 in
theorem sSize64 (bg : Bool) (a b : Option Addr) (ca cb A B : Nat) (w : World) (hA : InI w a (natL A).length ca (natL A)) (hB : InI w b (natL B).length cb (natL B)) (lA : (natL A).length ≤ 256) (lB : (natL B).length ≤ 256) (hB0 : B ≠ 0) (hA0 : A ≠ 0) :
    Calls Tryz.prog 65 #[.int .i64 64, .agg #[.bool bg, .slice a (natL A).length ca, .slice b (natL B).length cb]] w fun e w' => e = .returned (.tuple #[.int .i64 (if mkF64 (pbW A B 53 (-1074)) then mkO64 (pbS A B 53 (-1074)) (pbW A B 53 (-1074)) else 9218868437227405311), .bool (!(pbX A B 53 (-1074) && mkF64 (pbW A B 53 (-1074))))]) ∧ Below w.heap.size w w' := by
  have e0 : Below w.heap.size w (w.alloc (.cells #[.bool bg, .slice a (natL A).length ca, .slice b (natL B).length cb] 63)) := (by repeat (first | with_reducible exact Below.refl _ _ | with_reducible refine Below.drew ?_ | with_reducible refine old_alloc ?_ _ | with_reducible refine old_trans ?_ (by with_reducible assumption)))
  have k0 : (w.alloc (.cells #[.bool bg, .slice a (natL A).length ca, .slice b (natL B).length cb] 63)).cell? ⟨w.heap.size, 0, none⟩ = some (.bool bg) := by simp
  have k1 : (w.alloc (.cells #[.bool bg, .slice a (natL A).length ca, .slice b (natL B).length cb] 63)).cell? ⟨w.heap.size, 1, none⟩ = some (.slice a (natL A).length ca) := by simp
  have k2 : (w.alloc (.cells #[.bool bg, .slice a (natL A).length ca, .slice b (natL B).length cb] 63)).cell? ⟨w.heap.size, 2, none⟩ = some (.slice b (natL B).length cb) := by simp
  have z1 : (((natL A).length : Int) == 0) = false := by rw [len0]; exact decide_eq_false hA0
  have FW := hd sFracW64
  have LW := hd sLeastW64
  have TW := hd sBitTop_64
  have BA := hd (fun w' (h : Below w.heap.size w w') => sBits a (natL A).length ca (natL A) w' (hA.old h) (digs_natL A) (by omega))
  have BB := hd (fun w' (h : Below w.heap.size w w') => sBits b (natL B).length cb (natL B) w' (hB.old h) (digs_natL B) (by omega))
  have SC := hd (fun s w' (h : Below w.heap.size w w') (hs : -5000 ≤ s ∧ s ≤ 5000) => sScaled bg a b ca cb A B s w' (hA.old h) (hB.old h) lA lB hB0 hs)
  have bA : 0 ≤ bitsN (natL A) ∧ bitsN (natL A) ≤ 4096 := bl_bd lA
  have bB : 0 ≤ bitsN (natL B) ∧ bitsN (natL B) ≤ 4096 := bl_bd lB
  have hP : Hid (pbP A B 53 (-1074) = max (bitsN (natL A) - bitsN (natL B) - 53) (-1074)) := rfl
  have pc := hd (pb_case A B 53 (-1074) hB0)
  have qlt := hd (pbQ_lt (room := 53) (least := -1074) lA lB hB0)
  have slt := hd (pbS_lt (room := 53) (least := -1074) lA lB hB0)
  have sv := hd (@szVal64 A B lA lB hB0)
  have hQd : Hid (pbQ A B 53 (-1074) = uN A (pbP A B 53 (-1074)) / uD B (pbP A B 53 (-1074))) := rfl
  have hEd : Hid (pbE A B 53 (-1074) = decide (uN A (pbP A B 53 (-1074)) % uD B (pbP A B 53 (-1074)) = 0)) := rfl
  have hF : Hid (mkF64 (pbW A B 53 (-1074)) = decide (pbW A B 53 (-1074) - (-1074) + 1 < 2047)) := rfl
  have sv3 : Hid (mkF64 (pbW A B 53 (-1074)) = false → (if mkF64 (pbW A B 53 (-1074)) then mkO64 (pbS A B 53 (-1074)) (pbW A B 53 (-1074)) else 9218868437227405311) = 9218868437227405311) := fun h => by rw [h]; rfl
  have wge := hd (pbW_ge A B 53 (-1074))
  have wle := hd (pbW_le (room := 53) (least := -1074) lA lB (by omega))
  have e2r0 := trivial
  have e2r : Hid ((2 : Nat) ^ 53 = 9007199254740992) := by show _ = _; decide
  have e2s : Hid ((2 : Nat) ^ (53 + 1) = 18014398509481984) := by show _ = _; decide
  have hbl : Hid (∀ q, q < 18446744073709551616 → bitsN (natL q) = bl q ∧ (natL q).length ≤ 256) := fun q h => ⟨rfl, small_len h⟩
  have hgt : Hid (∀ q r : Nat, (natL q).length ≤ 256 → ((r : Int) < bl q ↔ 2 ^ r ≤ q)) := fun q r h => bl_gt h
  generalize (if mkF64 (pbW A B 53 (-1074)) then mkO64 (pbS A B 53 (-1074)) (pbW A B 53 (-1074)) else 9218868437227405311) = R at *
  generalize mkF64 (pbW A B 53 (-1074)) = fi at *
  generalize pbX A B 53 (-1074) = X at *
  generalize pbS A B 53 (-1074) = S at *
  generalize pbW A B 53 (-1074) = W at *
  generalize pbE A B 53 (-1074) = Eb at *
  generalize pbQ A B 53 (-1074) = Q at *
  generalize pbP A B 53 (-1074) = P at *
  clear hA hB lA lB hB0 hA0
  generalize bitsN (natL A) = x at *
  generalize bitsN (natL B) = y at *
  have w0' : IntKind.i64.wrap 53 = 53 := by decide
  have w1' : IntKind.i64.wrap (53 - x) = 53 - x := by simp [IntKind.wrap, IntKind.bits, IntKind.signed]; omega
  have w2' : IntKind.i64.wrap (53 - x + y) = 53 - x + y := by simp [IntKind.wrap, IntKind.bits, IntKind.signed]; omega
  go_enter Tryz.func65, Tryz.ntmps65
  go_wp2_with (first | (go_at_call 76; refine (FW.out _).mono ?_; rintro e w1 ⟨rfl, rfl⟩))
  have hB := e0
  clear e0
  have BAC := hd (fun w' (hS : w'.cell? ⟨w.heap.size, 0, none⟩ = some (.bool bg) ∧ w'.cell? ⟨w.heap.size, 1, none⟩ = some (.slice a (natL A).length ca) ∧ w'.cell? ⟨w.heap.size, 2, none⟩ = some (.slice b (natL B).length cb)) (h : Below w.heap.size w w') => (BA.out w' h).mono (fun e w'' (k : _ ∧ _) => (⟨k, k.2 ▸ hS⟩ : (_ ∧ _) ∧ (w''.cell? ⟨w.heap.size, 0, none⟩ = some (.bool bg) ∧ w''.cell? ⟨w.heap.size, 1, none⟩ = some (.slice a (natL A).length ca) ∧ w''.cell? ⟨w.heap.size, 2, none⟩ = some (.slice b (natL B).length cb)))))
  have BBC := hd (fun w' (hS : w'.cell? ⟨w.heap.size, 0, none⟩ = some (.bool bg) ∧ w'.cell? ⟨w.heap.size, 1, none⟩ = some (.slice a (natL A).length ca) ∧ w'.cell? ⟨w.heap.size, 2, none⟩ = some (.slice b (natL B).length cb)) (h : Below w.heap.size w w') => (BB.out w' h).mono (fun e w'' (k : _ ∧ _) => (⟨k, k.2 ▸ hS⟩ : (_ ∧ _) ∧ (w''.cell? ⟨w.heap.size, 0, none⟩ = some (.bool bg) ∧ w''.cell? ⟨w.heap.size, 1, none⟩ = some (.slice a (natL A).length ca) ∧ w''.cell? ⟨w.heap.size, 2, none⟩ = some (.slice b (natL B).length cb)))))
  clear BA BB
  go_cut [7] (fun s wx => s = .int .i64 (53 - x + y) ∧ (wx.cell? ⟨w.heap.size, 0, none⟩ = some (.bool bg) ∧ wx.cell? ⟨w.heap.size, 1, none⟩ = some (.slice a (natL A).length ca) ∧ wx.cell? ⟨w.heap.size, 2, none⟩ = some (.slice b (natL B).length cb)) ∧ Below w.heap.size w wx)
  case first =>
    go_wp2_with fail
    go_region_held3 (fun w' => w'.cell? ⟨w.heap.size, 0, none⟩ = some (.bool bg) ∧ w'.cell? ⟨w.heap.size, 1, none⟩ = some (.slice a (natL A).length ca) ∧ w'.cell? ⟨w.heap.size, 2, none⟩ = some (.slice b (natL B).length cb)) (go_keep) (first | (go_at_call_of 83 (Value.slice a (natL A).length ca); refine (BAC.out _ (by assumption) (by repeat (first | with_reducible exact hB | with_reducible exact Below.refl _ _ | with_reducible refine Below.drew ?_ | with_reducible refine old_alloc ?_ _ | with_reducible refine old_trans ?_ (by with_reducible assumption)))).mono ?_; rintro e wx ⟨⟨rfl, rfl⟩, hcx⟩) | (go_at_call_of 83 (Value.slice b (natL B).length cb); refine (BBC.out _ (by assumption) (by repeat (first | with_reducible exact hB | with_reducible exact Below.refl _ _ | with_reducible refine Below.drew ?_ | with_reducible refine old_alloc ?_ _ | with_reducible refine old_trans ?_ (by with_reducible assumption)))).mono ?_; rintro e wx ⟨⟨rfl, rfl⟩, hcx⟩))
    all_goals
      go_wp2_with fail
      go_meet
      exact ⟨by first | rfl | rw [w0', w1', w2'], ⟨by assumption, by assumption, by assumption⟩, (by repeat (first | with_reducible exact hB | with_reducible exact Below.refl _ _ | with_reducible refine Below.drew ?_ | ((with_reducible refine Below.setCell ?_ ?_ _); rotate_left; (focus (first | (simp; done) | omega | (simp; omega)))) | with_reducible refine old_alloc ?_ _ | with_reducible refine old_trans ?_ (by with_reducible assumption)))⟩
  case rest =>
    obtain ⟨hs, ⟨k0, k1, k2⟩, hB⟩ := hcut
    subst hs
    clear BAC BBC w1' w2'
    clear w0'
    by_cases c : -(-1074) < 53 - x + y
    · have hs : -(-1074) = -P := by have := hP.out; omega
      have hsv := trivial
      have eP : -(1074) = P := by omega
      have eP1 : -(1073) = P + 1 := by omega
      have SC1 := hd (fun w' h => SC.out (1074) w' h (by omega))
      have SC2 := hd (fun w' h => SC.out (1073) w' h (by omega))
      rw [eP, ← hQd.out, ← hEd.out] at SC1
      rw [eP1] at SC2
      have hS64 : S < 18446744073709551616 := by have := slt.out; have := e2r.out; omega
      have SM := hd (fun av cv w' h => sNatSmall av (natL S).length cv (natL S) w' h)
      rw [small_natL hS64] at SM
      have hl := hbl.out S hS64
      have BS := hd (fun av cv w' h => sBits av (natL S).length cv (natL S) w' h (digs_natL S) (by omega))
      rw [hl.1] at BS
      have gS := hd (hgt.out S 52 hl.2)
      have gS2 := hd (hgt.out S 53 hl.2)
      have bS : 0 ≤ bl S ∧ bl S ≤ 4096 := bl_bd hl.2
      clear hS64 hl SC eP1 hsv
      rcases pc.out with ⟨p1, p2, p3, p4⟩ | ⟨p1, p2, p3, p4⟩
      · subst p2 p4
        have nb : bl S ≤ 53 := by
          have h := gS2.out
          apply Int.not_lt.1
          intro g
          have := h.1 g
          omega
        have hW : W = -(1074) := by omega
        have Wl := wge.out
        have g1 := gS.out
        have e2f : (2 : Nat) ^ 52 = 4503599627370496 := by decide
        rw [e2f] at g1
        have sU : S < 9007199254740992 := by have := slt.out; have := e2r.out; omega
        have RR : (bl S ≤ 52 ∧ R = (S : Int) ∧ fi = true) ∨ (52 < bl S ∧ fi = false ∧ R = 9218868437227405311 ∧ 2047 ≤ -(1074) - (-1074) + 1) ∨ (52 < bl S ∧ fi = true ∧ R = (-(1074) - (-1074)) * 4503599627370496 + (S : Int) ∧ -(1074) - (-1074) + 1 < 2047) := by
          by_cases sm : S < 4503599627370496
          · obtain ⟨h1, h2⟩ := sv.out.1 sm
            refine .inl ⟨?_, h1, h2⟩
            apply Int.not_lt.1
            intro g
            have := g1.1 g
            omega
          · have h0 := g1.2 (by omega)
            cases hfi : fi
            · have h2 := hF.out
              rw [hfi] at h2
              have h3 := of_decide_eq_false h2.symm
              exact .inr (.inl ⟨h0, rfl, sv3.out hfi, by omega⟩)
            · have h2 := hF.out
              rw [hfi] at h2
              have h3 := of_decide_eq_true h2.symm
              refine .inr (.inr ⟨h0, rfl, ?_, by omega⟩)
              rw [sv.out.2 (by omega) hfi, hW]
        have sU' : Hid (S < 9007199254740992) := sU
        clear p1 hP pc hQd hEd qlt SC2 p3 hW eP hs Wl g1 e2f sU sv sv3 hF gS gS2 slt wge wle e2r e2s hbl hgt
        generalize bl S = bS' at *
        have RH := hd RR
        clear RR
        go_wp2_with (first | (go_at_call 75; refine (LW.out _).mono ?_; rintro e w1 ⟨rfl, rfl⟩) | (go_at_call 84; refine (SC1.out _ hB).mono ?_; rintro e w2 ⟨⟨av, cv, rfl, O1⟩, hb2⟩))
        have hB2 := old_trans hB hb2
        refine wp_loop_rounds 1 ?_
        rw [rounds_succ]
        have s0 : (0 : Int) ≤ (S : Int) := by omega
        have s1 : (S : Int) < 9007199254740992 := by have := sU'.out; omega
        clear sU'
        generalize (S : Int) = Si at *
        rcases RH.out with ⟨r1, rfl, rfl⟩ | ⟨r1, rfl, rfl, r2⟩ | ⟨r1, rfl, r3, r2⟩
        · clear RH
          go_wp2_with (first | (go_at_call 83; refine (BS.out _ _ _ O1.inI).mono ?_; rintro e w3 ⟨rfl, rfl⟩) | (go_at_call 85; refine (SM.out _ _ _ O1.inI).mono ?_; rintro e w3 ⟨rfl, rfl⟩) | (go_at_call 75; refine (LW.out _).mono ?_; rintro e w3 ⟨rfl, rfl⟩) | (go_at_call 47; refine (TW.out _).mono ?_; rintro e w3 ⟨rfl, rfl⟩))
          all_goals
            go_ret2
            exact ⟨ret264 rfl (by simp), hB2⟩
        · clear RH
          go_wp2_with (first | (go_at_call 83; refine (BS.out _ _ _ O1.inI).mono ?_; rintro e w3 ⟨rfl, rfl⟩) | (go_at_call 85; refine (SM.out _ _ _ O1.inI).mono ?_; rintro e w3 ⟨rfl, rfl⟩) | (go_at_call 75; refine (LW.out _).mono ?_; rintro e w3 ⟨rfl, rfl⟩) | (go_at_call 47; refine (TW.out _).mono ?_; rintro e w3 ⟨rfl, rfl⟩))
          all_goals
            go_ret2
            exact ⟨ret264 rfl (by simp), hB2⟩
        · clear RH
          replace r3 := hd r3
          go_wp2_with (first | (go_at_call 83; refine (BS.out _ _ _ O1.inI).mono ?_; rintro e w3 ⟨rfl, rfl⟩) | (go_at_call 85; refine (SM.out _ _ _ O1.inI).mono ?_; rintro e w3 ⟨rfl, rfl⟩) | (go_at_call 75; refine (LW.out _).mono ?_; rintro e w3 ⟨rfl, rfl⟩) | (go_at_call 47; refine (TW.out _).mono ?_; rintro e w3 ⟨rfl, rfl⟩))
          all_goals
            go_ret2
            exact ⟨ret264 (by rw [r3.out]; omega) (by simp), hB2⟩
      · rw [← p2, ← p4] at SC2
        have hQ64 : Q < 18446744073709551616 := by have := qlt.out; have := e2s.out; omega
        have hlQ := hbl.out Q hQ64
        have BQ := hd (fun av cv w' h => sBits av (natL Q).length cv (natL Q) w' h (digs_natL Q) (by omega))
        rw [hlQ.1] at BQ
        have gQ : 53 < bl Q := (hgt.out Q 53 hlQ.2).2 p1
        have bQ : 0 ≤ bl Q ∧ bl Q ≤ 4096 := bl_bd hlQ.2
        clear hlQ hQ64 p2 p4
        have nb : bl S ≤ 53 := by
          have h := gS2.out
          apply Int.not_lt.1
          intro g
          have := h.1 g
          have := slt.out
          omega
        have hW : W = -(1073) := by omega
        have Wl := wge.out
        have g1 := gS.out
        have e2f : (2 : Nat) ^ 52 = 4503599627370496 := by decide
        rw [e2f] at g1
        have sU : S < 9007199254740992 := by have := slt.out; have := e2r.out; omega
        have RR : (bl S ≤ 52 ∧ R = (S : Int) ∧ fi = true) ∨ (52 < bl S ∧ fi = false ∧ R = 9218868437227405311 ∧ 2047 ≤ -(1073) - (-1074) + 1) ∨ (52 < bl S ∧ fi = true ∧ R = (-(1073) - (-1074)) * 4503599627370496 + (S : Int) ∧ -(1073) - (-1074) + 1 < 2047) := by
          by_cases sm : S < 4503599627370496
          · obtain ⟨h1, h2⟩ := sv.out.1 sm
            refine .inl ⟨?_, h1, h2⟩
            apply Int.not_lt.1
            intro g
            have := g1.1 g
            omega
          · have h0 := g1.2 (by omega)
            cases hfi : fi
            · have h2 := hF.out
              rw [hfi] at h2
              have h3 := of_decide_eq_false h2.symm
              exact .inr (.inl ⟨h0, rfl, sv3.out hfi, by omega⟩)
            · have h2 := hF.out
              rw [hfi] at h2
              have h3 := of_decide_eq_true h2.symm
              refine .inr (.inr ⟨h0, rfl, ?_, by omega⟩)
              rw [sv.out.2 (by omega) hfi, hW]
        have sU' : Hid (S < 9007199254740992) := sU
        clear p1 hP pc hQd hEd qlt p3 hW eP hs Wl g1 e2f sU sv sv3 hF gS gS2 slt wge wle e2r e2s hbl hgt
        generalize bl S = bS' at *
        have RH := hd RR
        clear RR
        generalize bl Q = bQ' at *
        go_wp2_with (first | (go_at_call 75; refine (LW.out _).mono ?_; rintro e w1 ⟨rfl, rfl⟩) | (go_at_call 84; refine (SC1.out _ hB).mono ?_; rintro e w2 ⟨⟨av, cv, rfl, O1⟩, hb2⟩))
        have hB1 := old_trans hB hb2
        replace k0 := cell_later hb2 k0
        replace k1 := cell_later hb2 k1
        replace k2 := cell_later hb2 k2
        refine wp_loop_rounds 2 ?_
        rw [rounds_succ]
        go_wp2_with (first | (go_at_call 83; refine (BQ.out _ _ _ O1.inI).mono ?_; rintro e w3 ⟨rfl, rfl⟩) | (go_at_call 84; refine (SC2.out _ hB1).mono ?_; rintro e w4 ⟨⟨av2, cv2, rfl, O2⟩, hb4⟩))
        have hB2 := old_trans hB1 hb4
        replace O1 := O2
        clear O2
        rw [rounds_succ]
        have s0 : (0 : Int) ≤ (S : Int) := by omega
        have s1 : (S : Int) < 9007199254740992 := by have := sU'.out; omega
        clear sU'
        generalize (S : Int) = Si at *
        rcases RH.out with ⟨r1, rfl, rfl⟩ | ⟨r1, rfl, rfl, r2⟩ | ⟨r1, rfl, r3, r2⟩
        · clear RH
          go_wp2_with (first | (go_at_call 83; refine (BS.out _ _ _ O1.inI).mono ?_; rintro e w3 ⟨rfl, rfl⟩) | (go_at_call 85; refine (SM.out _ _ _ O1.inI).mono ?_; rintro e w3 ⟨rfl, rfl⟩) | (go_at_call 75; refine (LW.out _).mono ?_; rintro e w3 ⟨rfl, rfl⟩) | (go_at_call 47; refine (TW.out _).mono ?_; rintro e w3 ⟨rfl, rfl⟩))
          all_goals
            go_ret2
            exact ⟨ret264 rfl (by simp), hB2⟩
        · clear RH
          go_wp2_with (first | (go_at_call 83; refine (BS.out _ _ _ O1.inI).mono ?_; rintro e w3 ⟨rfl, rfl⟩) | (go_at_call 85; refine (SM.out _ _ _ O1.inI).mono ?_; rintro e w3 ⟨rfl, rfl⟩) | (go_at_call 75; refine (LW.out _).mono ?_; rintro e w3 ⟨rfl, rfl⟩) | (go_at_call 47; refine (TW.out _).mono ?_; rintro e w3 ⟨rfl, rfl⟩))
          all_goals
            go_ret2
            exact ⟨ret264 rfl (by simp), hB2⟩
        · clear RH
          replace r3 := hd r3
          go_wp2_with (first | (go_at_call 83; refine (BS.out _ _ _ O1.inI).mono ?_; rintro e w3 ⟨rfl, rfl⟩) | (go_at_call 85; refine (SM.out _ _ _ O1.inI).mono ?_; rintro e w3 ⟨rfl, rfl⟩) | (go_at_call 75; refine (LW.out _).mono ?_; rintro e w3 ⟨rfl, rfl⟩) | (go_at_call 47; refine (TW.out _).mono ?_; rintro e w3 ⟨rfl, rfl⟩))
          all_goals
            go_ret2
            exact ⟨ret264 (by rw [r3.out]; omega) (by simp), hB2⟩
    · have hs : 53 - x + y = -P := by have := hP.out; omega
      have hsv := trivial
      have eP : -(53 - x + y) = P := by omega
      have eP1 : -(53 - x + y - 1) = P + 1 := by omega
      have SC1 := hd (fun w' h => SC.out (53 - x + y) w' h (by omega))
      have SC2 := hd (fun w' h => SC.out (53 - x + y - 1) w' h (by omega))
      rw [eP, ← hQd.out, ← hEd.out] at SC1
      rw [eP1] at SC2
      have hS64 : S < 18446744073709551616 := by have := slt.out; have := e2r.out; omega
      have SM := hd (fun av cv w' h => sNatSmall av (natL S).length cv (natL S) w' h)
      rw [small_natL hS64] at SM
      have hl := hbl.out S hS64
      have BS := hd (fun av cv w' h => sBits av (natL S).length cv (natL S) w' h (digs_natL S) (by omega))
      rw [hl.1] at BS
      have gS := hd (hgt.out S 52 hl.2)
      have gS2 := hd (hgt.out S 53 hl.2)
      have bS : 0 ≤ bl S ∧ bl S ≤ 4096 := bl_bd hl.2
      clear hS64 hl SC eP1 hsv
      rcases pc.out with ⟨p1, p2, p3, p4⟩ | ⟨p1, p2, p3, p4⟩
      · subst p2 p4
        have nb : bl S ≤ 53 := by
          have h := gS2.out
          apply Int.not_lt.1
          intro g
          have := h.1 g
          omega
        have hW : W = -(53 - x + y) := by omega
        have Wl := wge.out
        have g1 := gS.out
        have e2f : (2 : Nat) ^ 52 = 4503599627370496 := by decide
        rw [e2f] at g1
        have sU : S < 9007199254740992 := by have := slt.out; have := e2r.out; omega
        have RR : (bl S ≤ 52 ∧ R = (S : Int) ∧ fi = true) ∨ (52 < bl S ∧ fi = false ∧ R = 9218868437227405311 ∧ 2047 ≤ -(53 - x + y) - (-1074) + 1) ∨ (52 < bl S ∧ fi = true ∧ R = (-(53 - x + y) - (-1074)) * 4503599627370496 + (S : Int) ∧ -(53 - x + y) - (-1074) + 1 < 2047) := by
          by_cases sm : S < 4503599627370496
          · obtain ⟨h1, h2⟩ := sv.out.1 sm
            refine .inl ⟨?_, h1, h2⟩
            apply Int.not_lt.1
            intro g
            have := g1.1 g
            omega
          · have h0 := g1.2 (by omega)
            cases hfi : fi
            · have h2 := hF.out
              rw [hfi] at h2
              have h3 := of_decide_eq_false h2.symm
              exact .inr (.inl ⟨h0, rfl, sv3.out hfi, by omega⟩)
            · have h2 := hF.out
              rw [hfi] at h2
              have h3 := of_decide_eq_true h2.symm
              refine .inr (.inr ⟨h0, rfl, ?_, by omega⟩)
              rw [sv.out.2 (by omega) hfi, hW]
        have sU' : Hid (S < 9007199254740992) := sU
        clear p1 hP pc hQd hEd qlt SC2 p3 hW eP hs Wl g1 e2f sU sv sv3 hF gS gS2 slt wge wle e2r e2s hbl hgt
        generalize bl S = bS' at *
        have RH := hd RR
        clear RR
        go_wp2_with (first | (go_at_call 75; refine (LW.out _).mono ?_; rintro e w1 ⟨rfl, rfl⟩) | (go_at_call 84; refine (SC1.out _ hB).mono ?_; rintro e w2 ⟨⟨av, cv, rfl, O1⟩, hb2⟩))
        have hB2 := old_trans hB hb2
        refine wp_loop_rounds 1 ?_
        rw [rounds_succ]
        have s0 : (0 : Int) ≤ (S : Int) := by omega
        have s1 : (S : Int) < 9007199254740992 := by have := sU'.out; omega
        clear sU'
        generalize (S : Int) = Si at *
        rcases RH.out with ⟨r1, rfl, rfl⟩ | ⟨r1, rfl, rfl, r2⟩ | ⟨r1, rfl, r3, r2⟩
        · clear RH
          go_wp2_with (first | (go_at_call 83; refine (BS.out _ _ _ O1.inI).mono ?_; rintro e w3 ⟨rfl, rfl⟩) | (go_at_call 85; refine (SM.out _ _ _ O1.inI).mono ?_; rintro e w3 ⟨rfl, rfl⟩) | (go_at_call 75; refine (LW.out _).mono ?_; rintro e w3 ⟨rfl, rfl⟩) | (go_at_call 47; refine (TW.out _).mono ?_; rintro e w3 ⟨rfl, rfl⟩))
          all_goals
            go_ret2
            exact ⟨ret264 rfl (by simp), hB2⟩
        · clear RH
          go_wp2_with (first | (go_at_call 83; refine (BS.out _ _ _ O1.inI).mono ?_; rintro e w3 ⟨rfl, rfl⟩) | (go_at_call 85; refine (SM.out _ _ _ O1.inI).mono ?_; rintro e w3 ⟨rfl, rfl⟩) | (go_at_call 75; refine (LW.out _).mono ?_; rintro e w3 ⟨rfl, rfl⟩) | (go_at_call 47; refine (TW.out _).mono ?_; rintro e w3 ⟨rfl, rfl⟩))
          all_goals
            go_ret2
            exact ⟨ret264 rfl (by simp), hB2⟩
        · clear RH
          replace r3 := hd r3
          go_wp2_with (first | (go_at_call 83; refine (BS.out _ _ _ O1.inI).mono ?_; rintro e w3 ⟨rfl, rfl⟩) | (go_at_call 85; refine (SM.out _ _ _ O1.inI).mono ?_; rintro e w3 ⟨rfl, rfl⟩) | (go_at_call 75; refine (LW.out _).mono ?_; rintro e w3 ⟨rfl, rfl⟩) | (go_at_call 47; refine (TW.out _).mono ?_; rintro e w3 ⟨rfl, rfl⟩))
          all_goals
            go_ret2
            exact ⟨ret264 (by rw [r3.out]; omega) (by simp), hB2⟩
      · rw [← p2, ← p4] at SC2
        have hQ64 : Q < 18446744073709551616 := by have := qlt.out; have := e2s.out; omega
        have hlQ := hbl.out Q hQ64
        have BQ := hd (fun av cv w' h => sBits av (natL Q).length cv (natL Q) w' h (digs_natL Q) (by omega))
        rw [hlQ.1] at BQ
        have gQ : 53 < bl Q := (hgt.out Q 53 hlQ.2).2 p1
        have bQ : 0 ≤ bl Q ∧ bl Q ≤ 4096 := bl_bd hlQ.2
        clear hlQ hQ64 p2 p4
        have nb : bl S ≤ 53 := by
          have h := gS2.out
          apply Int.not_lt.1
          intro g
          have := h.1 g
          have := slt.out
          omega
        have hW : W = -(53 - x + y - 1) := by omega
        have Wl := wge.out
        have g1 := gS.out
        have e2f : (2 : Nat) ^ 52 = 4503599627370496 := by decide
        rw [e2f] at g1
        have sU : S < 9007199254740992 := by have := slt.out; have := e2r.out; omega
        have RR : (bl S ≤ 52 ∧ R = (S : Int) ∧ fi = true) ∨ (52 < bl S ∧ fi = false ∧ R = 9218868437227405311 ∧ 2047 ≤ -(53 - x + y - 1) - (-1074) + 1) ∨ (52 < bl S ∧ fi = true ∧ R = (-(53 - x + y - 1) - (-1074)) * 4503599627370496 + (S : Int) ∧ -(53 - x + y - 1) - (-1074) + 1 < 2047) := by
          by_cases sm : S < 4503599627370496
          · obtain ⟨h1, h2⟩ := sv.out.1 sm
            refine .inl ⟨?_, h1, h2⟩
            apply Int.not_lt.1
            intro g
            have := g1.1 g
            omega
          · have h0 := g1.2 (by omega)
            cases hfi : fi
            · have h2 := hF.out
              rw [hfi] at h2
              have h3 := of_decide_eq_false h2.symm
              exact .inr (.inl ⟨h0, rfl, sv3.out hfi, by omega⟩)
            · have h2 := hF.out
              rw [hfi] at h2
              have h3 := of_decide_eq_true h2.symm
              refine .inr (.inr ⟨h0, rfl, ?_, by omega⟩)
              rw [sv.out.2 (by omega) hfi, hW]
        have sU' : Hid (S < 9007199254740992) := sU
        clear p1 hP pc hQd hEd qlt p3 hW eP hs Wl g1 e2f sU sv sv3 hF gS gS2 slt wge wle e2r e2s hbl hgt
        generalize bl S = bS' at *
        have RH := hd RR
        clear RR
        generalize bl Q = bQ' at *
        go_wp2_with (first | (go_at_call 75; refine (LW.out _).mono ?_; rintro e w1 ⟨rfl, rfl⟩) | (go_at_call 84; refine (SC1.out _ hB).mono ?_; rintro e w2 ⟨⟨av, cv, rfl, O1⟩, hb2⟩))
        have hB1 := old_trans hB hb2
        replace k0 := cell_later hb2 k0
        replace k1 := cell_later hb2 k1
        replace k2 := cell_later hb2 k2
        refine wp_loop_rounds 2 ?_
        rw [rounds_succ]
        go_wp2_with (first | (go_at_call 83; refine (BQ.out _ _ _ O1.inI).mono ?_; rintro e w3 ⟨rfl, rfl⟩) | (go_at_call 84; refine (SC2.out _ hB1).mono ?_; rintro e w4 ⟨⟨av2, cv2, rfl, O2⟩, hb4⟩))
        have hB2 := old_trans hB1 hb4
        replace O1 := O2
        clear O2
        rw [rounds_succ]
        have s0 : (0 : Int) ≤ (S : Int) := by omega
        have s1 : (S : Int) < 9007199254740992 := by have := sU'.out; omega
        clear sU'
        generalize (S : Int) = Si at *
        rcases RH.out with ⟨r1, rfl, rfl⟩ | ⟨r1, rfl, rfl, r2⟩ | ⟨r1, rfl, r3, r2⟩
        · clear RH
          go_wp2_with (first | (go_at_call 83; refine (BS.out _ _ _ O1.inI).mono ?_; rintro e w3 ⟨rfl, rfl⟩) | (go_at_call 85; refine (SM.out _ _ _ O1.inI).mono ?_; rintro e w3 ⟨rfl, rfl⟩) | (go_at_call 75; refine (LW.out _).mono ?_; rintro e w3 ⟨rfl, rfl⟩) | (go_at_call 47; refine (TW.out _).mono ?_; rintro e w3 ⟨rfl, rfl⟩))
          all_goals
            go_ret2
            exact ⟨ret264 rfl (by simp), hB2⟩
        · clear RH
          go_wp2_with (first | (go_at_call 83; refine (BS.out _ _ _ O1.inI).mono ?_; rintro e w3 ⟨rfl, rfl⟩) | (go_at_call 85; refine (SM.out _ _ _ O1.inI).mono ?_; rintro e w3 ⟨rfl, rfl⟩) | (go_at_call 75; refine (LW.out _).mono ?_; rintro e w3 ⟨rfl, rfl⟩) | (go_at_call 47; refine (TW.out _).mono ?_; rintro e w3 ⟨rfl, rfl⟩))
          all_goals
            go_ret2
            exact ⟨ret264 rfl (by simp), hB2⟩
        · clear RH
          replace r3 := hd r3
          go_wp2_with (first | (go_at_call 83; refine (BS.out _ _ _ O1.inI).mono ?_; rintro e w3 ⟨rfl, rfl⟩) | (go_at_call 85; refine (SM.out _ _ _ O1.inI).mono ?_; rintro e w3 ⟨rfl, rfl⟩) | (go_at_call 75; refine (LW.out _).mono ?_; rintro e w3 ⟨rfl, rfl⟩) | (go_at_call 47; refine (TW.out _).mono ?_; rintro e w3 ⟨rfl, rfl⟩))
          all_goals
            go_ret2
            exact ⟨ret264 (by rw [r3.out]; omega) (by simp), hB2⟩
end Go.Proofs.YtgoffjpfddmhhaaGreatDoor

/- What is rounded to floats, by the specification: the float next to a number, down and up, and the pair of both. Conditions: digits. Nothing that was there is written. -/
namespace Go.Proofs.YtgoffjpfddmhhaaGreatDoor
open Go.RowKit
set_option linter.unusedVariables false
set_option maxRecDepth 100000

set_option maxHeartbeats 1000000 in
theorem sFracL (bg : Bool) (a b : Option Addr) (la lb ca cb : Nat) (w : World) :
    Calls Tryz.prog 35 #[.agg #[.bool bg, .slice a la ca, .slice b lb cb]] w fun e w' => e = .returned (.agg #[.bool bg, .slice a la ca, .slice b lb cb]) ∧ Below w.heap.size w w' := by
  go_enter Tryz.func35, Tryz.ntmps35
  go_wp2
  refine bodyPost_ret (v := .agg #[.bool bg, .slice a la ca, .slice b lb cb]) ?_ rfl ⟨rfl, (by repeat (first | with_reducible exact Below.refl _ _ | with_reducible refine Below.drew ?_ | ((with_reducible refine Below.setCell ?_ ?_ _); rotate_left; (focus (first | (simp; done) | omega | (simp; omega)))) | with_reducible refine old_alloc ?_ _ | with_reducible refine old_trans ?_ (by with_reducible assumption)))⟩
  simp [results, Tryz.results35, go_sem]
theorem bl0_32 {B : Nat} (lB : (natL B).length ≤ 256) (hB : B ≠ 0) : blO32 0 B = 0 ∧ blX32 0 B = true := by
  obtain ⟨z1, z2, z3⟩ := @pb_zero B 24 (-149)
  have k := @pbN32 0 B (by rw [natL_zero]; exact Nat.zero_le _) lB hB
  have f : mkF32 (pbW 0 B 24 (-149)) = true := by
    rcases k with k | k | k
    · exact k.2
    · rw [k]; decide
    · omega
  unfold blO32 blX32
  rw [f, if_pos rfl, z3, z1]
  exact ⟨if_pos rfl, rfl⟩
set_option maxHeartbeats 1000000 in
theorem sSizeA32 (bg : Bool) (a b : Option Addr) (ca cb A B : Nat) (w : World) (hA : InI w a (natL A).length ca (natL A)) (hB : InI w b (natL B).length cb (natL B)) (lA : (natL A).length ≤ 256) (lB : (natL B).length ≤ 256) (hB0 : B ≠ 0) :
    Calls Tryz.prog 65 #[.int .i64 32, .agg #[.bool bg, .slice a (natL A).length ca, .slice b (natL B).length cb]] w fun e w' => e = .returned (.tuple #[.int .i64 (blO32 A B), .bool (!blX32 A B)]) ∧ Below w.heap.size w w' := by
  by_cases h : A = 0
  · subst h
    obtain ⟨z1, z2⟩ := bl0_32 lB hB0
    rw [z1, z2]
    have z : (((natL 0).length : Int) == 0) = true := by rw [natL_zero]; rfl
    have k1 : (w.alloc (.cells #[.bool bg, .slice a (natL 0).length ca, .slice b (natL B).length cb] 63)).cell? ⟨w.heap.size, 1, none⟩ = some (.slice a (natL 0).length ca) := by simp
    clear hA hB lA lB hB0 z1 z2
    generalize (natL 0).length = ln at *
    go_enter Tryz.func65, Tryz.ntmps65
    go_wp2
    go_ret2
    exact ⟨rfl, (by repeat (first | with_reducible exact Below.refl _ _ | with_reducible refine Below.drew ?_ | with_reducible refine old_alloc ?_ _ | with_reducible refine old_trans ?_ (by with_reducible assumption)))⟩
  · exact sSize32 bg a b ca cb A B w hA hB lA lB hB0 h
def upV32 (up bg : Bool) (A B : Nat) : Int := if up then arH32 bg A B else arL32 bg A B
set_option maxHeartbeats 2000000 in
theorem sRound32 (up : Bool) (bg : Bool) (a b : Option Addr) (ca cb A B : Nat) (w : World) (hA : InI w a (natL A).length ca (natL A)) (hB : InI w b (natL B).length cb (natL B)) (lA : (natL A).length ≤ 256) (lB : (natL B).length ≤ 256) (hB0 : B ≠ 0) :
    Calls Tryz.prog 34 #[.int .i64 32, .agg #[.bool bg, .slice a (natL A).length ca, .slice b (natL B).length cb], .bool up] w fun e w' => e = .returned (.int .i64 (upV32 up bg A B)) ∧ Below w.heap.size w w' := by
  have e0 : Below w.heap.size w (w.alloc (.cells #[.bool bg, .slice a (natL A).length ca, .slice b (natL B).length cb] 63)) := (by repeat (first | with_reducible exact Below.refl _ _ | with_reducible refine Below.drew ?_ | with_reducible refine old_alloc ?_ _ | with_reducible refine old_trans ?_ (by with_reducible assumption)))
  have hb := blO_bd32 lA lB hB0
  have H1 := hd (sSizeA32 bg a b ca cb A B _ (hA.old e0) (hB.old e0) lA lB hB0)
  have hv : Hid (upV32 up bg A B = if up then (if bg then -(blO32 A B) else (if blX32 A B then blO32 A B else blO32 A B + 1)) else (if bg then -(if blX32 A B then blO32 A B else blO32 A B + 1) else blO32 A B)) := rfl
  clear hA hB lA lB hB0
  generalize upV32 up bg A B = v at *
  generalize blO32 A B = o at *
  generalize blX32 A B = x at *
  have k0 : (w.alloc (.cells #[.bool bg, .slice a (natL A).length ca, .slice b (natL B).length cb] 63)).cell? ⟨w.heap.size, 0, none⟩ = some (.bool bg) := by simp
  have k1 : (w.alloc (.cells #[.bool bg, .slice a (natL A).length ca, .slice b (natL B).length cb] 63)).cell? ⟨w.heap.size, 1, none⟩ = some (.slice a (natL A).length ca) := by simp
  have k2 : (w.alloc (.cells #[.bool bg, .slice a (natL A).length ca, .slice b (natL B).length cb] 63)).cell? ⟨w.heap.size, 2, none⟩ = some (.slice b (natL B).length cb) := by simp
  go_enter Tryz.func34, Tryz.ntmps34
  go_wp2_with fail
  refine H1.out.mono ?_
  rintro e w1 ⟨rfl, hb1⟩
  replace k0 := cell_later hb1 k0
  have hB1 := old_trans e0 hb1
  clear k1 k2 hb1 e0 H1
  cases bg <;> cases x <;> cases up <;>
  · go_wp2
    go_ret
    exact ⟨retI (by rw [hv.out]; rfl), hB1⟩
theorem sWid32 (w : World) : Calls Tryz.prog 25 #[.int .i64 32] w fun e w' => e = .returned (.bool true) ∧ w' = w := by
  go_enter Tryz.func25, Tryz.ntmps25
  go_wp2
  go_ret
  exact ⟨rfl, rfl⟩
set_option maxHeartbeats 2000000 in
theorem sFloatDown32 (bg : Bool) (a b : Option Addr) (ca cb A B : Nat) (w : World) (hA : InI w a (natL A).length ca (natL A)) (hB : InI w b (natL B).length cb (natL B)) (hf : fracOk bg (natL A) (natL B) = true) :
    Calls Tryz.prog 10 #[.int .i64 32, .agg #[.bool bg, .slice a (natL A).length ca, .slice b (natL B).length cb]] w fun e w' => e = .returned (.tuple #[.int .i64 (upV32 false bg A B), .bool true]) ∧ Below w.heap.size w w' := by
  have q := fracOk_in hf
  have q1 := (natOk_in q.1).1
  have q2 := (natOk_in q.2.1).1
  have hy0 : B ≠ 0 := fun e => q.2.2.1 (by rw [e, natL_zero]; rfl)
  have e0 : Below w.heap.size w (w.alloc (.cells #[.bool bg, .slice a (natL A).length ca, .slice b (natL B).length cb] 25)) := (by repeat (first | with_reducible exact Below.refl _ _ | with_reducible refine Below.drew ?_ | with_reducible refine old_alloc ?_ _ | with_reducible refine old_trans ?_ (by with_reducible assumption)))
  have WI := hd sWid32
  have OK := hd (fun w' (h : Below w.heap.size w w') => sFracOk bg a b (natL A).length (natL B).length ca cb (natL A) (natL B) w' (hA.old h) (hB.old h))
  rw [hf] at OK
  have FL := hd (sFracL bg a b (natL A).length (natL B).length ca cb)
  have RO := hd (fun w' (h : Below w.heap.size w w') => sRound32 false bg a b ca cb A B w' (hA.old h) (hB.old h) q1 q2 hy0)
  have k0 : (w.alloc (.cells #[.bool bg, .slice a (natL A).length ca, .slice b (natL B).length cb] 25)).cell? ⟨w.heap.size, 0, none⟩ = some (.bool bg) := by simp
  have k1 : (w.alloc (.cells #[.bool bg, .slice a (natL A).length ca, .slice b (natL B).length cb] 25)).cell? ⟨w.heap.size, 1, none⟩ = some (.slice a (natL A).length ca) := by simp
  have k2 : (w.alloc (.cells #[.bool bg, .slice a (natL A).length ca, .slice b (natL B).length cb] 25)).cell? ⟨w.heap.size, 2, none⟩ = some (.slice b (natL B).length cb) := by simp
  clear hA hB q q1 q2 hy0 hf
  generalize upV32 false bg A B = v at *
  go_enter Tryz.func10, Tryz.ntmps10
  go_wp2_with fail
  refine (WI.out _).mono ?_
  rintro e w0 ⟨rfl, rfl⟩
  go_wp2_with fail
  refine (OK.out _ e0).mono ?_
  rintro e w1 ⟨rfl, hb1⟩
  have hB1 := old_trans e0 hb1
  replace k0 := cell_later hb1 k0
  replace k1 := cell_later hb1 k1
  replace k2 := cell_later hb1 k2
  go_wp2_with fail
  refine (FL.out _).mono ?_
  rintro e w2 ⟨rfl, hb2⟩
  have hB2 := old_trans hB1 hb2
  go_wp2_with fail
  refine (RO.out _ hB2).mono ?_
  rintro e w3 ⟨rfl, hb3⟩
  go_wp2
  go_ret2
  exact ⟨rfl, old_trans hB2 hb3⟩
theorem bl0_64 {B : Nat} (lB : (natL B).length ≤ 256) (hB : B ≠ 0) : blO64 0 B = 0 ∧ blX64 0 B = true := by
  obtain ⟨z1, z2, z3⟩ := @pb_zero B 53 (-1074)
  have k := @pbN64 0 B (by rw [natL_zero]; exact Nat.zero_le _) lB hB
  have f : mkF64 (pbW 0 B 53 (-1074)) = true := by
    rcases k with k | k | k
    · exact k.2
    · rw [k]; decide
    · omega
  unfold blO64 blX64
  rw [f, if_pos rfl, z3, z1]
  exact ⟨if_pos rfl, rfl⟩
set_option maxHeartbeats 1000000 in
theorem sSizeA64 (bg : Bool) (a b : Option Addr) (ca cb A B : Nat) (w : World) (hA : InI w a (natL A).length ca (natL A)) (hB : InI w b (natL B).length cb (natL B)) (lA : (natL A).length ≤ 256) (lB : (natL B).length ≤ 256) (hB0 : B ≠ 0) :
    Calls Tryz.prog 65 #[.int .i64 64, .agg #[.bool bg, .slice a (natL A).length ca, .slice b (natL B).length cb]] w fun e w' => e = .returned (.tuple #[.int .i64 (blO64 A B), .bool (!blX64 A B)]) ∧ Below w.heap.size w w' := by
  by_cases h : A = 0
  · subst h
    obtain ⟨z1, z2⟩ := bl0_64 lB hB0
    rw [z1, z2]
    have z : (((natL 0).length : Int) == 0) = true := by rw [natL_zero]; rfl
    have k1 : (w.alloc (.cells #[.bool bg, .slice a (natL 0).length ca, .slice b (natL B).length cb] 63)).cell? ⟨w.heap.size, 1, none⟩ = some (.slice a (natL 0).length ca) := by simp
    clear hA hB lA lB hB0 z1 z2
    generalize (natL 0).length = ln at *
    go_enter Tryz.func65, Tryz.ntmps65
    go_wp2
    go_ret2
    exact ⟨rfl, (by repeat (first | with_reducible exact Below.refl _ _ | with_reducible refine Below.drew ?_ | with_reducible refine old_alloc ?_ _ | with_reducible refine old_trans ?_ (by with_reducible assumption)))⟩
  · exact sSize64 bg a b ca cb A B w hA hB lA lB hB0 h
def upV64 (up bg : Bool) (A B : Nat) : Int := if up then arH64 bg A B else arL64 bg A B
set_option maxHeartbeats 2000000 in
theorem sRound64 (up : Bool) (bg : Bool) (a b : Option Addr) (ca cb A B : Nat) (w : World) (hA : InI w a (natL A).length ca (natL A)) (hB : InI w b (natL B).length cb (natL B)) (lA : (natL A).length ≤ 256) (lB : (natL B).length ≤ 256) (hB0 : B ≠ 0) :
    Calls Tryz.prog 34 #[.int .i64 64, .agg #[.bool bg, .slice a (natL A).length ca, .slice b (natL B).length cb], .bool up] w fun e w' => e = .returned (.int .i64 (upV64 up bg A B)) ∧ Below w.heap.size w w' := by
  have e0 : Below w.heap.size w (w.alloc (.cells #[.bool bg, .slice a (natL A).length ca, .slice b (natL B).length cb] 63)) := (by repeat (first | with_reducible exact Below.refl _ _ | with_reducible refine Below.drew ?_ | with_reducible refine old_alloc ?_ _ | with_reducible refine old_trans ?_ (by with_reducible assumption)))
  have hb := blO_bd64 lA lB hB0
  have H1 := hd (sSizeA64 bg a b ca cb A B _ (hA.old e0) (hB.old e0) lA lB hB0)
  have hv : Hid (upV64 up bg A B = if up then (if bg then -(blO64 A B) else (if blX64 A B then blO64 A B else blO64 A B + 1)) else (if bg then -(if blX64 A B then blO64 A B else blO64 A B + 1) else blO64 A B)) := rfl
  clear hA hB lA lB hB0
  generalize upV64 up bg A B = v at *
  generalize blO64 A B = o at *
  generalize blX64 A B = x at *
  have k0 : (w.alloc (.cells #[.bool bg, .slice a (natL A).length ca, .slice b (natL B).length cb] 63)).cell? ⟨w.heap.size, 0, none⟩ = some (.bool bg) := by simp
  have k1 : (w.alloc (.cells #[.bool bg, .slice a (natL A).length ca, .slice b (natL B).length cb] 63)).cell? ⟨w.heap.size, 1, none⟩ = some (.slice a (natL A).length ca) := by simp
  have k2 : (w.alloc (.cells #[.bool bg, .slice a (natL A).length ca, .slice b (natL B).length cb] 63)).cell? ⟨w.heap.size, 2, none⟩ = some (.slice b (natL B).length cb) := by simp
  go_enter Tryz.func34, Tryz.ntmps34
  go_wp2_with fail
  refine H1.out.mono ?_
  rintro e w1 ⟨rfl, hb1⟩
  replace k0 := cell_later hb1 k0
  have hB1 := old_trans e0 hb1
  clear k1 k2 hb1 e0 H1
  cases bg <;> cases x <;> cases up <;>
  · go_wp2
    go_ret
    exact ⟨retI (by rw [hv.out]; rfl), hB1⟩
theorem sWid64 (w : World) : Calls Tryz.prog 25 #[.int .i64 64] w fun e w' => e = .returned (.bool true) ∧ w' = w := by
  go_enter Tryz.func25, Tryz.ntmps25
  go_wp2
  go_ret
  exact ⟨rfl, rfl⟩
set_option maxHeartbeats 2000000 in
theorem sFloatDown64 (bg : Bool) (a b : Option Addr) (ca cb A B : Nat) (w : World) (hA : InI w a (natL A).length ca (natL A)) (hB : InI w b (natL B).length cb (natL B)) (hf : fracOk bg (natL A) (natL B) = true) :
    Calls Tryz.prog 10 #[.int .i64 64, .agg #[.bool bg, .slice a (natL A).length ca, .slice b (natL B).length cb]] w fun e w' => e = .returned (.tuple #[.int .i64 (upV64 false bg A B), .bool true]) ∧ Below w.heap.size w w' := by
  have q := fracOk_in hf
  have q1 := (natOk_in q.1).1
  have q2 := (natOk_in q.2.1).1
  have hy0 : B ≠ 0 := fun e => q.2.2.1 (by rw [e, natL_zero]; rfl)
  have e0 : Below w.heap.size w (w.alloc (.cells #[.bool bg, .slice a (natL A).length ca, .slice b (natL B).length cb] 25)) := (by repeat (first | with_reducible exact Below.refl _ _ | with_reducible refine Below.drew ?_ | with_reducible refine old_alloc ?_ _ | with_reducible refine old_trans ?_ (by with_reducible assumption)))
  have WI := hd sWid64
  have OK := hd (fun w' (h : Below w.heap.size w w') => sFracOk bg a b (natL A).length (natL B).length ca cb (natL A) (natL B) w' (hA.old h) (hB.old h))
  rw [hf] at OK
  have FL := hd (sFracL bg a b (natL A).length (natL B).length ca cb)
  have RO := hd (fun w' (h : Below w.heap.size w w') => sRound64 false bg a b ca cb A B w' (hA.old h) (hB.old h) q1 q2 hy0)
  have k0 : (w.alloc (.cells #[.bool bg, .slice a (natL A).length ca, .slice b (natL B).length cb] 25)).cell? ⟨w.heap.size, 0, none⟩ = some (.bool bg) := by simp
  have k1 : (w.alloc (.cells #[.bool bg, .slice a (natL A).length ca, .slice b (natL B).length cb] 25)).cell? ⟨w.heap.size, 1, none⟩ = some (.slice a (natL A).length ca) := by simp
  have k2 : (w.alloc (.cells #[.bool bg, .slice a (natL A).length ca, .slice b (natL B).length cb] 25)).cell? ⟨w.heap.size, 2, none⟩ = some (.slice b (natL B).length cb) := by simp
  clear hA hB q q1 q2 hy0 hf
  generalize upV64 false bg A B = v at *
  go_enter Tryz.func10, Tryz.ntmps10
  go_wp2_with fail
  refine (WI.out _).mono ?_
  rintro e w0 ⟨rfl, rfl⟩
  go_wp2_with fail
  refine (OK.out _ e0).mono ?_
  rintro e w1 ⟨rfl, hb1⟩
  have hB1 := old_trans e0 hb1
  replace k0 := cell_later hb1 k0
  replace k1 := cell_later hb1 k1
  replace k2 := cell_later hb1 k2
  go_wp2_with fail
  refine (FL.out _).mono ?_
  rintro e w2 ⟨rfl, hb2⟩
  have hB2 := old_trans hB1 hb2
  go_wp2_with fail
  refine (RO.out _ hB2).mono ?_
  rintro e w3 ⟨rfl, hb3⟩
  go_wp2
  go_ret2
  exact ⟨rfl, old_trans hB2 hb3⟩
end Go.Proofs.YtgoffjpfddmhhaaGreatDoor

/- What is rounded to floats: the pair around a fraction, of the program and of the specification, at every width and whatever fraction. Conditions, of the program: the library's table and its handle of errors lie as their texts lay them. Nothing that was there is written. -/
namespace Go.Proofs.YtgoffjpfddmhhaaGreatDoor
open Go.RowKit
set_option linter.unusedVariables false
set_option maxRecDepth 100000

theorem cells_set2 {W : World} {b : Nat} {x y v v' : Value} {o : Obj} (h0 : W.cell? ⟨b, 0, none⟩ = some x) (h1 : W.cell? ⟨b, 1, none⟩ = some y) (hz : b < W.heap.size) :
    (((W.setCell ⟨b, 0, none⟩ v).setCell ⟨b, 1, none⟩ v').alloc o).cell? ⟨b, 0, none⟩ = some v ∧ (((W.setCell ⟨b, 0, none⟩ v).setCell ⟨b, 1, none⟩ v').alloc o).cell? ⟨b, 1, none⟩ = some v' := by
  have e : Below ((W.setCell ⟨b, 0, none⟩ v).setCell ⟨b, 1, none⟩ v').heap.size ((W.setCell ⟨b, 0, none⟩ v).setCell ⟨b, 1, none⟩ v') (((W.setCell ⟨b, 0, none⟩ v).setCell ⟨b, 1, none⟩ v').alloc o) := old_alloc (Below.refl _ _) _
  have o1 : ∀ (V : World) (u : Value), (V.setCell ⟨b, 1, none⟩ u).cell? ⟨b, 0, none⟩ = V.cell? ⟨b, 0, none⟩ := fun V u => World.cell?_setCell_other _ _ _ _ (by intro h; injection h with _ h2; omega)
  have o2 : ∀ (V : World) (u : Value), (V.setCell ⟨b, 0, none⟩ u).cell? ⟨b, 1, none⟩ = V.cell? ⟨b, 1, none⟩ := fun V u => World.cell?_setCell_other _ _ _ _ (by intro h; injection h with _ h2; omega)
  exact ⟨cell_later e ((o1 _ _).trans (World.cell?_setCell_same _ _ _ h0)), cell_later e (World.cell?_setCell_same _ _ _ ((o2 _ _).trans h1))⟩
set_option maxHeartbeats 2000000 in
theorem iRoundW (wd : Int) (g1 : wd ≠ 32) (g2 : wd ≠ 64) (bg : Bool) (a b : Option Addr) (la lb ca cb : Nat) (xs ys : List Int) (w : World) (hA : InI w a la ca xs) (hB : InI w b lb cb ys) (hT : Tab w) :
    Calls Tryz.prog 58 #[.int .i64 wd, .agg #[.bool bg, .slice a la ca, .slice b lb cb], .func (.func 59) #[] #[]] w fun e w' => e = .returned (.tuple #[.agg #[.int .i64 0, .int .i64 0], .bool false]) ∧ Below w.heap.size w w' := by
  have e0 : Below w.heap.size w ((w.alloc (.cells #[.bool bg, .slice a la ca, .slice b lb cb] 25)).alloc (.cells #[.int .i64 0, .int .i64 0] 52)) := (by repeat (first | with_reducible exact Below.refl _ _ | with_reducible refine Below.drew ?_ | with_reducible refine old_alloc ?_ _ | with_reducible refine old_trans ?_ (by with_reducible assumption)))
  have k0 : ((w.alloc (.cells #[.bool bg, .slice a la ca, .slice b lb cb] 25)).alloc (.cells #[.int .i64 0, .int .i64 0] 52)).cell? ⟨w.heap.size, 0, none⟩ = some (.bool bg) := by simp
  have k1 : ((w.alloc (.cells #[.bool bg, .slice a la ca, .slice b lb cb] 25)).alloc (.cells #[.int .i64 0, .int .i64 0] 52)).cell? ⟨w.heap.size, 1, none⟩ = some (.slice a la ca) := by simp
  have k2 : ((w.alloc (.cells #[.bool bg, .slice a la ca, .slice b lb cb] 25)).alloc (.cells #[.int .i64 0, .int .i64 0] 52)).cell? ⟨w.heap.size, 2, none⟩ = some (.slice b lb cb) := by simp
  have k4 : ((w.alloc (.cells #[.bool bg, .slice a la ca, .slice b lb cb] 25)).alloc (.cells #[.int .i64 0, .int .i64 0] 52)).cell? ⟨w.heap.size + 1, 0, none⟩ = some (.int .i64 0) := by simp
  have k5 : ((w.alloc (.cells #[.bool bg, .slice a la ca, .slice b lb cb] 25)).alloc (.cells #[.int .i64 0, .int .i64 0] 52)).cell? ⟨w.heap.size + 1, 1, none⟩ = some (.int .i64 0) := by simp
  have f4 : ((w.alloc (.cells #[.bool bg, .slice a la ca, .slice b lb cb] 25)).alloc (.cells #[.int .i64 0, .int .i64 0] 52)).frozen? ⟨w.heap.size + 1, 0, none⟩ = false := by simp
  have f5 : ((w.alloc (.cells #[.bool bg, .slice a la ca, .slice b lb cb] 25)).alloc (.cells #[.int .i64 0, .int .i64 0] 52)).frozen? ⟨w.heap.size + 1, 1, none⟩ = false := by simp
  have hz : w.heap.size + 1 < ((w.alloc (.cells #[.bool bg, .slice a la ca, .slice b lb cb] 25)).alloc (.cells #[.int .i64 0, .int .i64 0] 52)).heap.size := by simp
  have VO := hd (iValuesOfNo wd g1 g2)
  have RO := hd (fun w' (h : Below w.heap.size w w') => iRatioOf bg a b la lb ca cb xs ys w' (hA.old h) (hB.old h) (hT.old h))
  clear hA hB hT
  go_enter Tryz.func58, Tryz.ntmps58
  go_wp2_with fail
  refine (VO.out _).mono ?_
  rintro e w1 ⟨rfl, hb1⟩
  have hB1 := old_trans e0 hb1
  replace k0 := cell_later hb1 k0
  replace k1 := cell_later hb1 k1
  replace k2 := cell_later hb1 k2
  replace k4 := cell_later hb1 k4
  replace k5 := cell_later hb1 k5
  replace f4 := (hb1.frozen (p := ⟨w.heap.size + 1, 0, none⟩) hz).trans f4
  replace f5 := (hb1.frozen (p := ⟨w.heap.size + 1, 1, none⟩) hz).trans f5
  replace hz := Nat.lt_of_lt_of_le hz hb1.size
  go_wp2_with fail
  refine (RO.out _ hB1).mono ?_
  rintro e w2 ⟨he, hb2⟩
  have hB2 := old_trans hB1 hb2
  replace k4 := cell_later hb2 k4
  replace k5 := cell_later hb2 k5
  replace f4 := (hb2.frozen (p := ⟨w.heap.size + 1, 0, none⟩) hz).trans f4
  replace f5 := (hb2.frozen (p := ⟨w.heap.size + 1, 1, none⟩) hz).trans f5
  replace hz := Nat.lt_of_lt_of_le hz hb2.size
  clear k0 k1 k2
  have hn1 : w.heap.size + 1 ≠ w2.heap.size := by omega
  have hn2 : w.heap.size ≠ w2.heap.size := by omega
  have hn3 : w.heap.size + 1 ≠ w2.heap.size + 1 := by omega
  rcases he with ⟨-, rfl⟩ | ⟨-, s, rfl⟩
  · have ha : Below w2.heap.size w2 (w2.alloc (.cells #[.bool bg, .slice a la ca, .slice b lb cb] 84)) := old_alloc (Below.refl _ _) _
    have hB3 := old_trans hB2 ha
    replace k4 := cell_later ha k4
    replace k5 := cell_later ha k5
    replace f4 := (ha.frozen (p := ⟨w.heap.size + 1, 0, none⟩) hz).trans f4
    replace f5 := (ha.frozen (p := ⟨w.heap.size + 1, 1, none⟩) hz).trans f5
    replace hz := Nat.lt_of_lt_of_le hz ha.size
    go_upto_region 4 with fail
    generalize w2.alloc (.cells #[.bool bg, .slice a la ca, .slice b lb cb] 84) = w3 at *
    clear ha
    go_wp2
    obtain ⟨c4, c5⟩ := cells_set2 (v := .int .i64 0) (v' := .int .i64 0) (o := (.cells #[.int .i64 0, .int .i64 0] 52)) k4 k5 hz
    refine bodyPost_ret (v := .tuple #[.agg #[.int .i64 0, .int .i64 0], .bool false]) ?_ rfl ⟨rfl, old_alloc (below_set (below_set hB3 (by omega) _) (by omega) _) _⟩
    simp [results, Tryz.results58, go_sem, c4, c5]
  · have ha : Below w2.heap.size w2 (w2.alloc (.cells #[.bool false, .slice none 0 0, .slice none 0 0] 84)) := old_alloc (Below.refl _ _) _
    have hB3 := old_trans hB2 ha
    replace k4 := cell_later ha k4
    replace k5 := cell_later ha k5
    replace f4 := (ha.frozen (p := ⟨w.heap.size + 1, 0, none⟩) hz).trans f4
    replace f5 := (ha.frozen (p := ⟨w.heap.size + 1, 1, none⟩) hz).trans f5
    replace hz := Nat.lt_of_lt_of_le hz ha.size
    go_upto_region 4 with fail
    generalize w2.alloc (.cells #[.bool false, .slice none 0 0, .slice none 0 0] 84) = w3 at *
    clear ha
    go_wp2
    obtain ⟨c4, c5⟩ := cells_set2 (v := .int .i64 0) (v' := .int .i64 0) (o := (.cells #[.int .i64 0, .int .i64 0] 52)) k4 k5 hz
    refine bodyPost_ret (v := .tuple #[.agg #[.int .i64 0, .int .i64 0], .bool false]) ?_ rfl ⟨rfl, old_alloc (below_set (below_set hB3 (by omega) _) (by omega) _) _⟩
    simp [results, Tryz.results58, go_sem, c4, c5]
set_option maxHeartbeats 2000000 in
theorem iRoundF32 (bg : Bool) (a b : Option Addr) (la lb ca cb : Nat) (xs ys : List Int) (w : World) (hA : InI w a la ca xs) (hB : InI w b lb cb ys) (hT : Tab w) (hE : ET w) (hf : fracOk bg xs ys = false) :
    Calls Tryz.prog 58 #[.int .i64 32, .agg #[.bool bg, .slice a la ca, .slice b lb cb], .func (.func 59) #[] #[]] w fun e w' => e = .returned (.tuple #[.agg #[.int .i64 0, .int .i64 0], .bool false]) ∧ Below w.heap.size w w' := by
  have e0 : Below w.heap.size w ((w.alloc (.cells #[.bool bg, .slice a la ca, .slice b lb cb] 25)).alloc (.cells #[.int .i64 0, .int .i64 0] 52)) := (by repeat (first | with_reducible exact Below.refl _ _ | with_reducible refine Below.drew ?_ | with_reducible refine old_alloc ?_ _ | with_reducible refine old_trans ?_ (by with_reducible assumption)))
  have k0 : ((w.alloc (.cells #[.bool bg, .slice a la ca, .slice b lb cb] 25)).alloc (.cells #[.int .i64 0, .int .i64 0] 52)).cell? ⟨w.heap.size, 0, none⟩ = some (.bool bg) := by simp
  have k1 : ((w.alloc (.cells #[.bool bg, .slice a la ca, .slice b lb cb] 25)).alloc (.cells #[.int .i64 0, .int .i64 0] 52)).cell? ⟨w.heap.size, 1, none⟩ = some (.slice a la ca) := by simp
  have k2 : ((w.alloc (.cells #[.bool bg, .slice a la ca, .slice b lb cb] 25)).alloc (.cells #[.int .i64 0, .int .i64 0] 52)).cell? ⟨w.heap.size, 2, none⟩ = some (.slice b lb cb) := by simp
  have k4 : ((w.alloc (.cells #[.bool bg, .slice a la ca, .slice b lb cb] 25)).alloc (.cells #[.int .i64 0, .int .i64 0] 52)).cell? ⟨w.heap.size + 1, 0, none⟩ = some (.int .i64 0) := by simp
  have k5 : ((w.alloc (.cells #[.bool bg, .slice a la ca, .slice b lb cb] 25)).alloc (.cells #[.int .i64 0, .int .i64 0] 52)).cell? ⟨w.heap.size + 1, 1, none⟩ = some (.int .i64 0) := by simp
  have f4 : ((w.alloc (.cells #[.bool bg, .slice a la ca, .slice b lb cb] 25)).alloc (.cells #[.int .i64 0, .int .i64 0] 52)).frozen? ⟨w.heap.size + 1, 0, none⟩ = false := by simp
  have f5 : ((w.alloc (.cells #[.bool bg, .slice a la ca, .slice b lb cb] 25)).alloc (.cells #[.int .i64 0, .int .i64 0] 52)).frozen? ⟨w.heap.size + 1, 1, none⟩ = false := by simp
  have hz : w.heap.size + 1 < ((w.alloc (.cells #[.bool bg, .slice a la ca, .slice b lb cb] 25)).alloc (.cells #[.int .i64 0, .int .i64 0] 52)).heap.size := by simp
  have VO := hd iValues32
  have RO := hd (fun w' (h : Below w.heap.size w w') => iRatioOf bg a b la lb ca cb xs ys w' (hA.old h) (hB.old h) (hT.old h))
  have F1 := hd (fun s w' (h : Below w.heap.size w w') => iFault s w' (hE.old h))
  have hf' : Hid (fracOk bg xs ys = false) := hf
  clear hA hB hT hE hf
  go_enter Tryz.func58, Tryz.ntmps58
  go_wp2_with fail
  refine (VO.out _).mono ?_
  rintro e w1 ⟨⟨vb, rfl, -, -⟩, hb1⟩
  have hB1 := old_trans e0 hb1
  replace k0 := cell_later hb1 k0
  replace k1 := cell_later hb1 k1
  replace k2 := cell_later hb1 k2
  replace k4 := cell_later hb1 k4
  replace k5 := cell_later hb1 k5
  replace f4 := (hb1.frozen (p := ⟨w.heap.size + 1, 0, none⟩) hz).trans f4
  replace f5 := (hb1.frozen (p := ⟨w.heap.size + 1, 1, none⟩) hz).trans f5
  replace hz := Nat.lt_of_lt_of_le hz hb1.size
  go_wp2_with fail
  refine (RO.out _ hB1).mono ?_
  rintro e w2 ⟨he, hb2⟩
  have hB2 := old_trans hB1 hb2
  replace k4 := cell_later hb2 k4
  replace k5 := cell_later hb2 k5
  replace f4 := (hb2.frozen (p := ⟨w.heap.size + 1, 0, none⟩) hz).trans f4
  replace f5 := (hb2.frozen (p := ⟨w.heap.size + 1, 1, none⟩) hz).trans f5
  replace hz := Nat.lt_of_lt_of_le hz hb2.size
  clear k0 k1 k2
  rcases he with ⟨hx, -⟩ | ⟨-, s, rfl⟩
  · exact absurd (hf'.out.symm.trans hx) (by simp)
  have ha : Below w2.heap.size w2 (w2.alloc (.cells #[.bool false, .slice none 0 0, .slice none 0 0] 84)) := old_alloc (Below.refl _ _) _
  have hB3 := old_trans hB2 ha
  replace k4 := cell_later ha k4
  replace k5 := cell_later ha k5
  replace f4 := (ha.frozen (p := ⟨w.heap.size + 1, 0, none⟩) hz).trans f4
  replace f5 := (ha.frozen (p := ⟨w.heap.size + 1, 1, none⟩) hz).trans f5
  replace hz := Nat.lt_of_lt_of_le hz ha.size
  go_wp2_with fail
  refine (F1.out _ _ hB3).mono ?_
  rintro e w3 ⟨rfl, hb3⟩
  have hB4 := old_trans hB3 hb3
  replace k4 := cell_later hb3 k4
  replace k5 := cell_later hb3 k5
  replace f4 := (hb3.frozen (p := ⟨w.heap.size + 1, 0, none⟩) hz).trans f4
  replace f5 := (hb3.frozen (p := ⟨w.heap.size + 1, 1, none⟩) hz).trans f5
  replace hz := Nat.lt_of_lt_of_le hz hb3.size
  go_wp2
  obtain ⟨c4, c5⟩ := cells_set2 (v := .int .i64 0) (v' := .int .i64 0) (o := (.cells #[.int .i64 0, .int .i64 0] 52)) k4 k5 hz
  refine bodyPost_ret (v := .tuple #[.agg #[.int .i64 0, .int .i64 0], .bool false]) ?_ rfl ⟨rfl, old_alloc (below_set (below_set hB4 (by omega) _) (by omega) _) _⟩
  simp [results, Tryz.results58, go_sem, c4, c5]
set_option maxHeartbeats 2000000 in
theorem iRoundF64 (bg : Bool) (a b : Option Addr) (la lb ca cb : Nat) (xs ys : List Int) (w : World) (hA : InI w a la ca xs) (hB : InI w b lb cb ys) (hT : Tab w) (hE : ET w) (hf : fracOk bg xs ys = false) :
    Calls Tryz.prog 58 #[.int .i64 64, .agg #[.bool bg, .slice a la ca, .slice b lb cb], .func (.func 59) #[] #[]] w fun e w' => e = .returned (.tuple #[.agg #[.int .i64 0, .int .i64 0], .bool false]) ∧ Below w.heap.size w w' := by
  have e0 : Below w.heap.size w ((w.alloc (.cells #[.bool bg, .slice a la ca, .slice b lb cb] 25)).alloc (.cells #[.int .i64 0, .int .i64 0] 52)) := (by repeat (first | with_reducible exact Below.refl _ _ | with_reducible refine Below.drew ?_ | with_reducible refine old_alloc ?_ _ | with_reducible refine old_trans ?_ (by with_reducible assumption)))
  have k0 : ((w.alloc (.cells #[.bool bg, .slice a la ca, .slice b lb cb] 25)).alloc (.cells #[.int .i64 0, .int .i64 0] 52)).cell? ⟨w.heap.size, 0, none⟩ = some (.bool bg) := by simp
  have k1 : ((w.alloc (.cells #[.bool bg, .slice a la ca, .slice b lb cb] 25)).alloc (.cells #[.int .i64 0, .int .i64 0] 52)).cell? ⟨w.heap.size, 1, none⟩ = some (.slice a la ca) := by simp
  have k2 : ((w.alloc (.cells #[.bool bg, .slice a la ca, .slice b lb cb] 25)).alloc (.cells #[.int .i64 0, .int .i64 0] 52)).cell? ⟨w.heap.size, 2, none⟩ = some (.slice b lb cb) := by simp
  have k4 : ((w.alloc (.cells #[.bool bg, .slice a la ca, .slice b lb cb] 25)).alloc (.cells #[.int .i64 0, .int .i64 0] 52)).cell? ⟨w.heap.size + 1, 0, none⟩ = some (.int .i64 0) := by simp
  have k5 : ((w.alloc (.cells #[.bool bg, .slice a la ca, .slice b lb cb] 25)).alloc (.cells #[.int .i64 0, .int .i64 0] 52)).cell? ⟨w.heap.size + 1, 1, none⟩ = some (.int .i64 0) := by simp
  have f4 : ((w.alloc (.cells #[.bool bg, .slice a la ca, .slice b lb cb] 25)).alloc (.cells #[.int .i64 0, .int .i64 0] 52)).frozen? ⟨w.heap.size + 1, 0, none⟩ = false := by simp
  have f5 : ((w.alloc (.cells #[.bool bg, .slice a la ca, .slice b lb cb] 25)).alloc (.cells #[.int .i64 0, .int .i64 0] 52)).frozen? ⟨w.heap.size + 1, 1, none⟩ = false := by simp
  have hz : w.heap.size + 1 < ((w.alloc (.cells #[.bool bg, .slice a la ca, .slice b lb cb] 25)).alloc (.cells #[.int .i64 0, .int .i64 0] 52)).heap.size := by simp
  have VO := hd iValues64
  have RO := hd (fun w' (h : Below w.heap.size w w') => iRatioOf bg a b la lb ca cb xs ys w' (hA.old h) (hB.old h) (hT.old h))
  have F1 := hd (fun s w' (h : Below w.heap.size w w') => iFault s w' (hE.old h))
  have hf' : Hid (fracOk bg xs ys = false) := hf
  clear hA hB hT hE hf
  go_enter Tryz.func58, Tryz.ntmps58
  go_wp2_with fail
  refine (VO.out _).mono ?_
  rintro e w1 ⟨⟨vb, rfl, -, -⟩, hb1⟩
  have hB1 := old_trans e0 hb1
  replace k0 := cell_later hb1 k0
  replace k1 := cell_later hb1 k1
  replace k2 := cell_later hb1 k2
  replace k4 := cell_later hb1 k4
  replace k5 := cell_later hb1 k5
  replace f4 := (hb1.frozen (p := ⟨w.heap.size + 1, 0, none⟩) hz).trans f4
  replace f5 := (hb1.frozen (p := ⟨w.heap.size + 1, 1, none⟩) hz).trans f5
  replace hz := Nat.lt_of_lt_of_le hz hb1.size
  go_wp2_with fail
  refine (RO.out _ hB1).mono ?_
  rintro e w2 ⟨he, hb2⟩
  have hB2 := old_trans hB1 hb2
  replace k4 := cell_later hb2 k4
  replace k5 := cell_later hb2 k5
  replace f4 := (hb2.frozen (p := ⟨w.heap.size + 1, 0, none⟩) hz).trans f4
  replace f5 := (hb2.frozen (p := ⟨w.heap.size + 1, 1, none⟩) hz).trans f5
  replace hz := Nat.lt_of_lt_of_le hz hb2.size
  clear k0 k1 k2
  rcases he with ⟨hx, -⟩ | ⟨-, s, rfl⟩
  · exact absurd (hf'.out.symm.trans hx) (by simp)
  have ha : Below w2.heap.size w2 (w2.alloc (.cells #[.bool false, .slice none 0 0, .slice none 0 0] 84)) := old_alloc (Below.refl _ _) _
  have hB3 := old_trans hB2 ha
  replace k4 := cell_later ha k4
  replace k5 := cell_later ha k5
  replace f4 := (ha.frozen (p := ⟨w.heap.size + 1, 0, none⟩) hz).trans f4
  replace f5 := (ha.frozen (p := ⟨w.heap.size + 1, 1, none⟩) hz).trans f5
  replace hz := Nat.lt_of_lt_of_le hz ha.size
  go_wp2_with fail
  refine (F1.out _ _ hB3).mono ?_
  rintro e w3 ⟨rfl, hb3⟩
  have hB4 := old_trans hB3 hb3
  replace k4 := cell_later hb3 k4
  replace k5 := cell_later hb3 k5
  replace f4 := (hb3.frozen (p := ⟨w.heap.size + 1, 0, none⟩) hz).trans f4
  replace f5 := (hb3.frozen (p := ⟨w.heap.size + 1, 1, none⟩) hz).trans f5
  replace hz := Nat.lt_of_lt_of_le hz hb3.size
  go_wp2
  obtain ⟨c4, c5⟩ := cells_set2 (v := .int .i64 0) (v' := .int .i64 0) (o := (.cells #[.int .i64 0, .int .i64 0] 52)) k4 k5 hz
  refine bodyPost_ret (v := .tuple #[.agg #[.int .i64 0, .int .i64 0], .bool false]) ?_ rfl ⟨rfl, old_alloc (below_set (below_set hB4 (by omega) _) (by omega) _) _⟩
  simp [results, Tryz.results58, go_sem, c4, c5]
def pfOk (wd : Int) (bg : Bool) (xs ys : List Int) : Bool := decide (wd = 32 ∨ wd = 64) && fracOk bg xs ys
def pfL (wd : Int) (bg : Bool) (xs ys : List Int) : Int := if pfOk wd bg xs ys then (if wd = 32 then arL32 bg (val xs) (val ys) else arL64 bg (val xs) (val ys)) else 0
def pfH (wd : Int) (bg : Bool) (xs ys : List Int) : Int := if pfOk wd bg xs ys then (if wd = 32 then arH32 bg (val xs) (val ys) else arH64 bg (val xs) (val ys)) else 0
theorem pf_no {wd : Int} {bg : Bool} {xs ys : List Int} (h : pfOk wd bg xs ys = false) : pfL wd bg xs ys = 0 ∧ pfH wd bg xs ys = 0 := by
  unfold pfL pfH; rw [h]; exact ⟨rfl, rfl⟩
theorem iRoundB (wd : Int) (bg : Bool) (a b : Option Addr) (la lb ca cb : Nat) (xs ys : List Int) (w : World) (hA : InI w a la ca xs) (hB : InI w b lb cb ys) (hT : Tab w) (hE : ET w) :
    Calls Tryz.prog 58 #[.int .i64 wd, .agg #[.bool bg, .slice a la ca, .slice b lb cb], .func (.func 59) #[] #[]] w fun e w' => e = .returned (.tuple #[.agg #[.int .i64 (pfL wd bg xs ys), .int .i64 (pfH wd bg xs ys)], .bool (pfOk wd bg xs ys)]) ∧ Below w.heap.size w w' := by
  by_cases hw : wd = 32 ∨ wd = 64
  · cases hf : fracOk bg xs ys
    · have ho : pfOk wd bg xs ys = false := by unfold pfOk; rw [hf, Bool.and_false]
      rw [(pf_no ho).1, (pf_no ho).2, ho]
      rcases hw with rfl | rfl
      · exact iRoundF32 bg a b la lb ca cb xs ys w hA hB hT hE hf
      · exact iRoundF64 bg a b la lb ca cb xs ys w hA hB hT hE hf
    · have q := fracOk_in hf
      have ex := canon_list q.1
      have ey := canon_list q.2.1
      have ho : pfOk wd bg xs ys = true := by unfold pfOk; rw [hf, decide_eq_true hw]; rfl
      unfold pfL pfH
      rw [ho, if_pos rfl, if_pos rfl]
      generalize val xs = A at *
      generalize val ys = B at *
      subst ex ey
      obtain rfl := hA.1
      obtain rfl := hB.1
      rcases hw with rfl | rfl
      · exact iRound32 bg a b ca cb A B w hA hB hT hf
      · exact iRound64 bg a b ca cb A B w hA hB hT hf
  · have ho : pfOk wd bg xs ys = false := by unfold pfOk; rw [decide_eq_false hw]; rfl
    rw [(pf_no ho).1, (pf_no ho).2, ho]
    exact iRoundW wd (fun e => hw (.inl e)) (fun e => hw (.inr e)) bg a b la lb ca cb xs ys w hA hB hT
set_option maxHeartbeats 2000000 in
theorem iPairFrac (wd : Int) (bg : Bool) (a b : Option Addr) (la lb ca cb : Nat) (xs ys : List Int) (w : World) (hA : InI w a la ca xs) (hB : InI w b lb cb ys) (hT : Tab w) (hE : ET w) :
    Calls Tryz.prog 31 #[.int .i64 wd, .agg #[.bool bg, .slice a la ca, .slice b lb cb]] w fun e w' => e = .returned (.tuple #[.agg #[.int .i64 (pfL wd bg xs ys), .int .i64 (pfH wd bg xs ys)], .bool (pfOk wd bg xs ys)]) ∧ Below w.heap.size w w' := by
  have e0 : Below w.heap.size w ((w.alloc (.cells #[.bool bg, .slice a la ca, .slice b lb cb] 25)).alloc (.cells #[.int .i64 0, .int .i64 0] 52)) := (by repeat (first | with_reducible exact Below.refl _ _ | with_reducible refine Below.drew ?_ | with_reducible refine old_alloc ?_ _ | with_reducible refine old_trans ?_ (by with_reducible assumption)))
  have k0 : ((w.alloc (.cells #[.bool bg, .slice a la ca, .slice b lb cb] 25)).alloc (.cells #[.int .i64 0, .int .i64 0] 52)).cell? ⟨w.heap.size, 0, none⟩ = some (.bool bg) := by simp
  have k1 : ((w.alloc (.cells #[.bool bg, .slice a la ca, .slice b lb cb] 25)).alloc (.cells #[.int .i64 0, .int .i64 0] 52)).cell? ⟨w.heap.size, 1, none⟩ = some (.slice a la ca) := by simp
  have k2 : ((w.alloc (.cells #[.bool bg, .slice a la ca, .slice b lb cb] 25)).alloc (.cells #[.int .i64 0, .int .i64 0] 52)).cell? ⟨w.heap.size, 2, none⟩ = some (.slice b lb cb) := by simp
  have k4 : ((w.alloc (.cells #[.bool bg, .slice a la ca, .slice b lb cb] 25)).alloc (.cells #[.int .i64 0, .int .i64 0] 52)).cell? ⟨w.heap.size + 1, 0, none⟩ = some (.int .i64 0) := by simp
  have k5 : ((w.alloc (.cells #[.bool bg, .slice a la ca, .slice b lb cb] 25)).alloc (.cells #[.int .i64 0, .int .i64 0] 52)).cell? ⟨w.heap.size + 1, 1, none⟩ = some (.int .i64 0) := by simp
  have f4 : ((w.alloc (.cells #[.bool bg, .slice a la ca, .slice b lb cb] 25)).alloc (.cells #[.int .i64 0, .int .i64 0] 52)).frozen? ⟨w.heap.size + 1, 0, none⟩ = false := by simp
  have f5 : ((w.alloc (.cells #[.bool bg, .slice a la ca, .slice b lb cb] 25)).alloc (.cells #[.int .i64 0, .int .i64 0] 52)).frozen? ⟨w.heap.size + 1, 1, none⟩ = false := by simp
  have hz : w.heap.size + 1 < ((w.alloc (.cells #[.bool bg, .slice a la ca, .slice b lb cb] 25)).alloc (.cells #[.int .i64 0, .int .i64 0] 52)).heap.size := by simp
  have RO := hd (fun w' (h : Below w.heap.size w w') => iRoundB wd bg a b la lb ca cb xs ys w' (hA.old h) (hB.old h) (hT.old h) (hE.old h))
  clear hA hB hT hE
  generalize pfL wd bg xs ys = lo at *
  generalize pfH wd bg xs ys = hi at *
  generalize pfOk wd bg xs ys = ok at *
  go_enter Tryz.func31, Tryz.ntmps31
  go_wp2_with fail
  refine (RO.out _ e0).mono ?_
  rintro e w1 ⟨rfl, hb1⟩
  have hB1 := old_trans e0 hb1
  replace k4 := cell_later hb1 k4
  replace k5 := cell_later hb1 k5
  replace f4 := (hb1.frozen (p := ⟨w.heap.size + 1, 0, none⟩) hz).trans f4
  replace f5 := (hb1.frozen (p := ⟨w.heap.size + 1, 1, none⟩) hz).trans f5
  replace hz := Nat.lt_of_lt_of_le hz hb1.size
  go_wp2
  refine bodyPost_ret (v := .tuple #[.agg #[.int .i64 lo, .int .i64 hi], .bool ok]) ?_ rfl ⟨rfl, below_set (below_set hB1 (by omega) _) (by omega) _⟩
  simp [results, Tryz.results31, go_sem, k4, k5]
set_option maxHeartbeats 2000000 in
theorem sFloatDownN (wd : Int) (bg : Bool) (a b : Option Addr) (la lb ca cb : Nat) (xs ys : List Int) (w : World) (hA : InI w a la ca xs) (hB : InI w b lb cb ys) (h : pfOk wd bg xs ys = false) :
    Calls Tryz.prog 10 #[.int .i64 wd, .agg #[.bool bg, .slice a la ca, .slice b lb cb]] w fun e w' => e = .returned (.tuple #[.int .i64 0, .bool false]) ∧ Below w.heap.size w w' := by
  have e0 : Below w.heap.size w (w.alloc (.cells #[.bool bg, .slice a la ca, .slice b lb cb] 25)) := (by repeat (first | with_reducible exact Below.refl _ _ | with_reducible refine Below.drew ?_ | with_reducible refine old_alloc ?_ _ | with_reducible refine old_trans ?_ (by with_reducible assumption)))
  have k0 : (w.alloc (.cells #[.bool bg, .slice a la ca, .slice b lb cb] 25)).cell? ⟨w.heap.size, 0, none⟩ = some (.bool bg) := by simp
  have k1 : (w.alloc (.cells #[.bool bg, .slice a la ca, .slice b lb cb] 25)).cell? ⟨w.heap.size, 1, none⟩ = some (.slice a la ca) := by simp
  have k2 : (w.alloc (.cells #[.bool bg, .slice a la ca, .slice b lb cb] 25)).cell? ⟨w.heap.size, 2, none⟩ = some (.slice b lb cb) := by simp
  have OK := hd (fun w' (h : Below w.heap.size w w') => sFracOk bg a b la lb ca cb xs ys w' (hA.old h) (hB.old h))
  by_cases hw : wd = 32 ∨ wd = 64
  · have hf : fracOk bg xs ys = false := by
      cases hf : fracOk bg xs ys
      · rfl
      · unfold pfOk at h; rw [hf, decide_eq_true hw] at h; cases h
    rw [hf] at OK
    have WI : Hid (∀ w, Calls Tryz.prog 25 #[.int .i64 wd] w fun e w' => e = .returned (.bool true) ∧ w' = w) := by
      rcases hw with rfl | rfl
      · exact sWid32
      · exact sWid64
    clear hA hB h hf
    go_enter Tryz.func10, Tryz.ntmps10
    go_wp2_with fail
    refine (WI.out _).mono ?_
    rintro e w0 ⟨rfl, rfl⟩
    go_wp2_with fail
    refine (OK.out _ e0).mono ?_
    rintro e w1 ⟨rfl, hb1⟩
    go_wp2
    go_ret2
    exact ⟨rfl, old_trans e0 hb1⟩
  · have d1 : (wd == 32) = false := by simp; omega
    have d2 : (wd == 64) = false := by simp; omega
    have WI : Hid (∀ w, Calls Tryz.prog 25 #[.int .i64 wd] w fun e w' => e = .returned (.bool false) ∧ w' = w) := by
      show ∀ w, _
      intro w
      go_enter Tryz.func25, Tryz.ntmps25
      go_wp2
      go_ret
      exact ⟨rfl, rfl⟩
    clear hA hB h d1 d2 hw
    go_enter Tryz.func10, Tryz.ntmps10
    go_wp2_with fail
    refine (WI.out _).mono ?_
    rintro e w0 ⟨rfl, rfl⟩
    go_wp2
    go_ret2
    exact ⟨rfl, e0⟩
end Go.Proofs.YtgoffjpfddmhhaaGreatDoor

/- The floats next to a fraction, down and up, of the program and of the specification, at every width and whatever fraction. Conditions, of the program: the library's table and its handle of errors lie as their texts lay them. Nothing that was there is written. -/
namespace Go.Proofs.YtgoffjpfddmhhaaGreatDoor
open Go.RowKit
set_option linter.unusedVariables false
set_option maxRecDepth 100000

set_option maxHeartbeats 2000000 in
theorem iFloatDown (wd : Int) (bg : Bool) (a b : Option Addr) (la lb ca cb : Nat) (xs ys : List Int) (w : World) (hA : InI w a la ca xs) (hB : InI w b lb cb ys) (hT : Tab w) (hE : ET w) :
    Calls Tryz.prog 7 #[.int .i64 wd, .agg #[.bool bg, .slice a la ca, .slice b lb cb]] w fun e w' => e = .returned (.tuple #[.int .i64 (pfL wd bg xs ys), .bool (pfOk wd bg xs ys)]) ∧ Below w.heap.size w w' := by
  have e0 : Below w.heap.size w (w.alloc (.cells #[.bool bg, .slice a la ca, .slice b lb cb] 25)) := (by repeat (first | with_reducible exact Below.refl _ _ | with_reducible refine Below.drew ?_ | with_reducible refine old_alloc ?_ _ | with_reducible refine old_trans ?_ (by with_reducible assumption)))
  have PF := hd (iPairFrac wd bg a b la lb ca cb xs ys _ (hA.old e0) (hB.old e0) (hT.old e0) (hE.old e0))
  clear hA hB hT hE
  generalize pfL wd bg xs ys = lo at *
  generalize pfH wd bg xs ys = hi at *
  generalize pfOk wd bg xs ys = ok at *
  go_enter Tryz.func7, Tryz.ntmps7
  go_wp2_with fail
  refine PF.out.mono ?_
  rintro e w1 ⟨rfl, hb1⟩
  have hB1 := old_trans e0 hb1
  go_wp2
  go_ret2
  exact ⟨rfl, old_alloc hB1 _⟩
theorem sFloatDownA (wd : Int) (bg : Bool) (a b : Option Addr) (la lb ca cb : Nat) (xs ys : List Int) (w : World) (hA : InI w a la ca xs) (hB : InI w b lb cb ys) :
    Calls Tryz.prog 10 #[.int .i64 wd, .agg #[.bool bg, .slice a la ca, .slice b lb cb]] w fun e w' => e = .returned (.tuple #[.int .i64 (pfL wd bg xs ys), .bool (pfOk wd bg xs ys)]) ∧ Below w.heap.size w w' := by
  cases ho : pfOk wd bg xs ys
  · rw [(pf_no ho).1]
    exact sFloatDownN wd bg a b la lb ca cb xs ys w hA hB ho
  · have hw : wd = 32 ∨ wd = 64 := by unfold pfOk at ho; simp only [Bool.and_eq_true, decide_eq_true_eq] at ho; exact ho.1
    have hf : fracOk bg xs ys = true := by unfold pfOk at ho; simp only [Bool.and_eq_true] at ho; exact ho.2
    have q := fracOk_in hf
    have ex := canon_list q.1
    have ey := canon_list q.2.1
    unfold pfL
    rw [ho, if_pos rfl]
    clear ho
    generalize val xs = A at *
    generalize val ys = B at *
    subst ex ey
    obtain rfl := hA.1
    obtain rfl := hB.1
    rcases hw with rfl | rfl
    · exact sFloatDown32 bg a b ca cb A B w hA hB hf
    · exact sFloatDown64 bg a b ca cb A B w hA hB hf
set_option maxHeartbeats 2000000 in
theorem iFloatUp (wd : Int) (bg : Bool) (a b : Option Addr) (la lb ca cb : Nat) (xs ys : List Int) (w : World) (hA : InI w a la ca xs) (hB : InI w b lb cb ys) (hT : Tab w) (hE : ET w) :
    Calls Tryz.prog 8 #[.int .i64 wd, .agg #[.bool bg, .slice a la ca, .slice b lb cb]] w fun e w' => e = .returned (.tuple #[.int .i64 (pfH wd bg xs ys), .bool (pfOk wd bg xs ys)]) ∧ Below w.heap.size w w' := by
  have e0 : Below w.heap.size w (w.alloc (.cells #[.bool bg, .slice a la ca, .slice b lb cb] 25)) := (by repeat (first | with_reducible exact Below.refl _ _ | with_reducible refine Below.drew ?_ | with_reducible refine old_alloc ?_ _ | with_reducible refine old_trans ?_ (by with_reducible assumption)))
  have PF := hd (iPairFrac wd bg a b la lb ca cb xs ys _ (hA.old e0) (hB.old e0) (hT.old e0) (hE.old e0))
  clear hA hB hT hE
  generalize pfL wd bg xs ys = lo at *
  generalize pfH wd bg xs ys = hi at *
  generalize pfOk wd bg xs ys = ok at *
  go_enter Tryz.func8, Tryz.ntmps8
  go_wp2_with fail
  refine PF.out.mono ?_
  rintro e w1 ⟨rfl, hb1⟩
  have hB1 := old_trans e0 hb1
  go_wp2
  go_ret2
  exact ⟨rfl, old_alloc hB1 _⟩
end Go.Proofs.YtgoffjpfddmhhaaGreatDoor
