/- What is rounded to floats, by the program: the pair around a number. Conditions: the library's table lies as its text lays it; digits, 256 at most. Of what was there only the count is written. -/
import Derived.Test.YtcfbdibjjhifpaaGreatDoorPK30
import Derived.Test.YtcfbdibjjhifpaaGreatDoorPK29
import Derived.Test.YtcfbdibjjhifpaaGreatDoorPK31
import Derived.Test.YtcfbdibjjhifpaaGreatDoorPK17
import Derived.Test.YtcfbdibjjhifpaaGreatDoorPK27
import Derived.Deep.RegionHeld3
import Derived.BigQuiet
namespace Go.Proofs.YtcfbdibjjhifpaaGreatDoor
open Go.RowKit
set_option linter.unusedVariables false
set_option maxRecDepth 100000

theorem ButV.from {vb : Nat} {w W w' : World} (e : Below w.heap.size w W) (h : ButV vb W w') : ButV vb w w' :=
  ⟨h.os.trans e.os, h.tape.trans e.tape, h.output.trans e.output, Nat.le_trans e.size h.size, fun k hk hn => (h.block k (Nat.lt_of_lt_of_le hk e.size) hn).trans (e.block k hk)⟩
theorem ButV.next {vb : Nat} {w W w' : World} (h : ButV vb w W) (e : Below W.heap.size W w') : ButV vb w w' :=
  ⟨e.os.trans h.os, e.tape.trans h.tape, e.output.trans h.output, Nat.le_trans h.size e.size, fun k hk hn => (e.block k (Nat.lt_of_lt_of_le hk h.size)).trans (h.block k hk hn)⟩
theorem ButV.setNew {vb : Nat} {w w' : World} (h : ButV vb w w') {b i : Nat} (hb : w.heap.size ≤ b) (v : Value) : ButV vb w (w'.setCell ⟨b, i, none⟩ v) :=
  ⟨h.os, h.tape, h.output, by simpa [World.setCell] using h.size, fun k hk hn => (Below.heap_setCell _ _ _ _ (by show k ≠ b; omega)).trans (h.block k hk hn)⟩
def arL32 (bl : Bool) (A B : Nat) : Int := if bl then -(if blX32 A B then blO32 A B else blO32 A B + 1) else blO32 A B
def arH32 (bl : Bool) (A B : Nat) : Int := if bl then -(blO32 A B) else (if blX32 A B then blO32 A B else blO32 A B + 1)
theorem blO_bd32 {A B : Nat} (lA : (natL A).length ≤ 256) (lB : (natL B).length ≤ 256) (hB : B ≠ 0) : 0 ≤ blO32 A B ∧ blO32 A B < 2139095040 := by
  have s := pbS_lt (room := 24) (least := -149) lA lB hB
  have e : (2 : Nat) ^ 24 = 16777216 := by decide
  rw [e] at s
  have g := pbW_ge A B 24 (-149)
  have k := pbN32 lA lB hB
  unfold blO32 mkO32
  cases f : mkF32 (pbW A B 24 (-149))
  · simp
  · have f' : pbW A B 24 (-149) - (-149) + 1 < 255 := of_decide_eq_true f
    rw [if_pos rfl, if_pos rfl]
    split <;> omega
set_option maxHeartbeats 4000000 in
theorem iAround32 (vb : Nat) (c : Int) (bl : Bool) (a b : Option Addr) (ca cb A B : Nat) (w : World) (hV : S1c w vb (.int .i64 c)) (c0 : 0 ≤ c) (c1 : c ≤ 1000) (hA : InI w a (natL A).length ca (natL A)) (hB : InI w b (natL B).length cb (natL B)) (lA : (natL A).length ≤ 256) (lB : (natL B).length ≤ 256) (hB0 : B ≠ 0) (hT : Tab w) :
    Calls Tryz.prog 150 #[.pointer (some ⟨vb, 0, none⟩), .agg #[.bool bl, .slice a (natL A).length ca, .slice b (natL B).length cb, .int .i64 0]] w fun e w' => e = .returned (.agg #[.int .i64 (arL32 bl A B), .int .i64 (arH32 bl A B)]) ∧ ButV vb w w' := by
  have hb := blO_bd32 lA lB hB0
  have e0 : Below w.heap.size w ((w.alloc (.cells #[.bool bl, .slice a (natL A).length ca, .slice b (natL B).length cb, .int .i64 0] 94)).alloc (.cells #[.int .i64 0, .int .i64 0] 70)) := (by repeat (first | with_reducible exact Below.refl _ _ | with_reducible refine Below.drew ?_ | with_reducible refine old_alloc ?_ _ | with_reducible refine old_trans ?_ (by with_reducible assumption)))
  have s := pbS_lt (room := 24) (least := -149) lA lB hB0
  have es : (2 : Nat) ^ 24 = 16777216 := by decide
  rw [es] at s
  have H1 := hd (iBelow32 vb c bl a b ca cb A B ((w.alloc (.cells #[.bool bl, .slice a (natL A).length ca, .slice b (natL B).length cb, .int .i64 0] 94)).alloc (.cells #[.int .i64 0, .int .i64 0] 70)) (hV.later e0) c0 c1 (hA.old e0) (hB.old e0) lA lB hB0 (hT.old e0) s (pbW_ge _ _ _ _) (pbW_le lA lB (by omega)) (pbN32 lA lB hB0))
  have hl : Hid (arL32 bl A B = if bl then -(if blX32 A B then blO32 A B else blO32 A B + 1) else blO32 A B) := rfl
  have hh : Hid (arH32 bl A B = if bl then -(blO32 A B) else (if blX32 A B then blO32 A B else blO32 A B + 1)) := rfl
  clear s es hA hB lA lB hB0 hT
  generalize arL32 bl A B = lo at *
  generalize arH32 bl A B = hi at *
  generalize blO32 A B = o at *
  generalize blX32 A B = x at *
  have hvl := hV.lt
  have hv := (hV.later e0).cell
  have k0 : ((w.alloc (.cells #[.bool bl, .slice a (natL A).length ca, .slice b (natL B).length cb, .int .i64 0] 94)).alloc (.cells #[.int .i64 0, .int .i64 0] 70)).cell? ⟨w.heap.size, 0, none⟩ = some (.bool bl) := by simp
  have k1 : ((w.alloc (.cells #[.bool bl, .slice a (natL A).length ca, .slice b (natL B).length cb, .int .i64 0] 94)).alloc (.cells #[.int .i64 0, .int .i64 0] 70)).cell? ⟨w.heap.size, 1, none⟩ = some (.slice a (natL A).length ca) := by simp
  have k2 : ((w.alloc (.cells #[.bool bl, .slice a (natL A).length ca, .slice b (natL B).length cb, .int .i64 0] 94)).alloc (.cells #[.int .i64 0, .int .i64 0] 70)).cell? ⟨w.heap.size, 2, none⟩ = some (.slice b (natL B).length cb) := by simp
  have k3 : ((w.alloc (.cells #[.bool bl, .slice a (natL A).length ca, .slice b (natL B).length cb, .int .i64 0] 94)).alloc (.cells #[.int .i64 0, .int .i64 0] 70)).cell? ⟨w.heap.size, 3, none⟩ = some (.int .i64 0) := by simp
  have k4 : ((w.alloc (.cells #[.bool bl, .slice a (natL A).length ca, .slice b (natL B).length cb, .int .i64 0] 94)).alloc (.cells #[.int .i64 0, .int .i64 0] 70)).cell? ⟨w.heap.size + 1, 0, none⟩ = some (.int .i64 0) := by simp
  have k5 : ((w.alloc (.cells #[.bool bl, .slice a (natL A).length ca, .slice b (natL B).length cb, .int .i64 0] 94)).alloc (.cells #[.int .i64 0, .int .i64 0] 70)).cell? ⟨w.heap.size + 1, 1, none⟩ = some (.int .i64 0) := by simp
  have f4 : ((w.alloc (.cells #[.bool bl, .slice a (natL A).length ca, .slice b (natL B).length cb, .int .i64 0] 94)).alloc (.cells #[.int .i64 0, .int .i64 0] 70)).frozen? ⟨w.heap.size + 1, 0, none⟩ = false := by simp
  have f5 : ((w.alloc (.cells #[.bool bl, .slice a (natL A).length ca, .slice b (natL B).length cb, .int .i64 0] 94)).alloc (.cells #[.int .i64 0, .int .i64 0] 70)).frozen? ⟨w.heap.size + 1, 1, none⟩ = false := by simp
  have hz : w.heap.size < ((w.alloc (.cells #[.bool bl, .slice a (natL A).length ca, .slice b (natL B).length cb, .int .i64 0] 94)).alloc (.cells #[.int .i64 0, .int .i64 0] 70)).heap.size := by simp; omega
  have hz1 : w.heap.size + 1 < ((w.alloc (.cells #[.bool bl, .slice a (natL A).length ca, .slice b (natL B).length cb, .int .i64 0] 94)).alloc (.cells #[.int .i64 0, .int .i64 0] 70)).heap.size := by simp
  go_enter Tryz.func150, Tryz.ntmps150
  go_wp2_with fail
  refine H1.out.mono ?_
  rintro e w1 ⟨rfl, hc, hbv⟩
  have j0 := (hbv.cell (b := w.heap.size) (i := 0) hz (by omega)).trans k0
  have j4 := (hbv.cell (b := w.heap.size + 1) (i := 0) hz1 (by omega)).trans k4
  have j5 := (hbv.cell (b := w.heap.size + 1) (i := 1) hz1 (by omega)).trans k5
  have g4 := (hbv.frozen (b := w.heap.size + 1) (i := 0) hz1 (by omega)).trans f4
  have g5 := (hbv.frozen (b := w.heap.size + 1) (i := 1) hz1 (by omega)).trans f5
  have hc0 := hc.cell
  clear k0 k1 k2 k3 k4 k5 f4 f5 hv H1
  cases x
  · cases bl
    · simp only [Bool.false_eq_true, if_false] at hc0
      go_wp2
      refine bodyPost_ret (v := .agg #[.int .i64 (o), .int .i64 (o + 1)]) ?_ rfl ⟨by rw [hl.out, hh.out]; rfl, ((ButV.from e0 hbv).setNew (by omega) _).setNew (by omega) _⟩
      simp [results, Tryz.results150, go_sem, j4, j5]
    · simp only [Bool.false_eq_true, if_false] at hc0
      go_wp2
      refine bodyPost_ret (v := .agg #[.int .i64 (-(o + 1)), .int .i64 (-o)]) ?_ rfl ⟨by rw [hl.out, hh.out]; rfl, ((ButV.from e0 hbv).setNew (by omega) _).setNew (by omega) _⟩
      simp [results, Tryz.results150, go_sem, j4, j5]
  · cases bl
    · simp only [if_true] at hc0
      go_wp2
      refine bodyPost_ret (v := .agg #[.int .i64 (o), .int .i64 (o)]) ?_ rfl ⟨by rw [hl.out, hh.out]; rfl, ((ButV.from e0 hbv).setNew (by omega) _).setNew (by omega) _⟩
      simp [results, Tryz.results150, go_sem, j4, j5]
    · simp only [if_true] at hc0
      go_wp2
      refine bodyPost_ret (v := .agg #[.int .i64 (-o), .int .i64 (-o)]) ?_ rfl ⟨by rw [hl.out, hh.out]; rfl, ((ButV.from e0 hbv).setNew (by omega) _).setNew (by omega) _⟩
      simp [results, Tryz.results150, go_sem, j4, j5]
end Go.Proofs.YtcfbdibjjhifpaaGreatDoor

/- What is rounded to floats, by the program: the pair around a number. Conditions: the library's table lies as its text lays it; digits, 256 at most. Of what was there only the count is written. -/
namespace Go.Proofs.YtcfbdibjjhifpaaGreatDoor
open Go.RowKit
set_option linter.unusedVariables false
set_option maxRecDepth 100000

def arL64 (bl : Bool) (A B : Nat) : Int := if bl then -(if blX64 A B then blO64 A B else blO64 A B + 1) else blO64 A B
def arH64 (bl : Bool) (A B : Nat) : Int := if bl then -(blO64 A B) else (if blX64 A B then blO64 A B else blO64 A B + 1)
theorem blO_bd64 {A B : Nat} (lA : (natL A).length ≤ 256) (lB : (natL B).length ≤ 256) (hB : B ≠ 0) : 0 ≤ blO64 A B ∧ blO64 A B < 9218868437227405312 := by
  have s := pbS_lt (room := 53) (least := -1074) lA lB hB
  have e : (2 : Nat) ^ 53 = 9007199254740992 := by decide
  rw [e] at s
  have g := pbW_ge A B 53 (-1074)
  have k := pbN64 lA lB hB
  unfold blO64 mkO64
  cases f : mkF64 (pbW A B 53 (-1074))
  · simp
  · have f' : pbW A B 53 (-1074) - (-1074) + 1 < 2047 := of_decide_eq_true f
    rw [if_pos rfl, if_pos rfl]
    split <;> omega
set_option maxHeartbeats 4000000 in
theorem iAround64 (vb : Nat) (c : Int) (bl : Bool) (a b : Option Addr) (ca cb A B : Nat) (w : World) (hV : S1c w vb (.int .i64 c)) (c0 : 0 ≤ c) (c1 : c ≤ 1000) (hA : InI w a (natL A).length ca (natL A)) (hB : InI w b (natL B).length cb (natL B)) (lA : (natL A).length ≤ 256) (lB : (natL B).length ≤ 256) (hB0 : B ≠ 0) (hT : Tab w) :
    Calls Tryz.prog 176 #[.pointer (some ⟨vb, 0, none⟩), .agg #[.bool bl, .slice a (natL A).length ca, .slice b (natL B).length cb, .int .i64 0]] w fun e w' => e = .returned (.agg #[.int .i64 (arL64 bl A B), .int .i64 (arH64 bl A B)]) ∧ ButV vb w w' := by
  have hb := blO_bd64 lA lB hB0
  have e0 : Below w.heap.size w ((w.alloc (.cells #[.bool bl, .slice a (natL A).length ca, .slice b (natL B).length cb, .int .i64 0] 94)).alloc (.cells #[.int .i64 0, .int .i64 0] 70)) := (by repeat (first | with_reducible exact Below.refl _ _ | with_reducible refine Below.drew ?_ | with_reducible refine old_alloc ?_ _ | with_reducible refine old_trans ?_ (by with_reducible assumption)))
  have s := pbS_lt (room := 53) (least := -1074) lA lB hB0
  have es : (2 : Nat) ^ 53 = 9007199254740992 := by decide
  rw [es] at s
  have H1 := hd (iBelow64 vb c bl a b ca cb A B ((w.alloc (.cells #[.bool bl, .slice a (natL A).length ca, .slice b (natL B).length cb, .int .i64 0] 94)).alloc (.cells #[.int .i64 0, .int .i64 0] 70)) (hV.later e0) c0 c1 (hA.old e0) (hB.old e0) lA lB hB0 (hT.old e0) s (pbW_ge _ _ _ _) (pbW_le lA lB (by omega)) (pbN64 lA lB hB0))
  have hl : Hid (arL64 bl A B = if bl then -(if blX64 A B then blO64 A B else blO64 A B + 1) else blO64 A B) := rfl
  have hh : Hid (arH64 bl A B = if bl then -(blO64 A B) else (if blX64 A B then blO64 A B else blO64 A B + 1)) := rfl
  clear s es hA hB lA lB hB0 hT
  generalize arL64 bl A B = lo at *
  generalize arH64 bl A B = hi at *
  generalize blO64 A B = o at *
  generalize blX64 A B = x at *
  have hvl := hV.lt
  have hv := (hV.later e0).cell
  have k0 : ((w.alloc (.cells #[.bool bl, .slice a (natL A).length ca, .slice b (natL B).length cb, .int .i64 0] 94)).alloc (.cells #[.int .i64 0, .int .i64 0] 70)).cell? ⟨w.heap.size, 0, none⟩ = some (.bool bl) := by simp
  have k1 : ((w.alloc (.cells #[.bool bl, .slice a (natL A).length ca, .slice b (natL B).length cb, .int .i64 0] 94)).alloc (.cells #[.int .i64 0, .int .i64 0] 70)).cell? ⟨w.heap.size, 1, none⟩ = some (.slice a (natL A).length ca) := by simp
  have k2 : ((w.alloc (.cells #[.bool bl, .slice a (natL A).length ca, .slice b (natL B).length cb, .int .i64 0] 94)).alloc (.cells #[.int .i64 0, .int .i64 0] 70)).cell? ⟨w.heap.size, 2, none⟩ = some (.slice b (natL B).length cb) := by simp
  have k3 : ((w.alloc (.cells #[.bool bl, .slice a (natL A).length ca, .slice b (natL B).length cb, .int .i64 0] 94)).alloc (.cells #[.int .i64 0, .int .i64 0] 70)).cell? ⟨w.heap.size, 3, none⟩ = some (.int .i64 0) := by simp
  have k4 : ((w.alloc (.cells #[.bool bl, .slice a (natL A).length ca, .slice b (natL B).length cb, .int .i64 0] 94)).alloc (.cells #[.int .i64 0, .int .i64 0] 70)).cell? ⟨w.heap.size + 1, 0, none⟩ = some (.int .i64 0) := by simp
  have k5 : ((w.alloc (.cells #[.bool bl, .slice a (natL A).length ca, .slice b (natL B).length cb, .int .i64 0] 94)).alloc (.cells #[.int .i64 0, .int .i64 0] 70)).cell? ⟨w.heap.size + 1, 1, none⟩ = some (.int .i64 0) := by simp
  have f4 : ((w.alloc (.cells #[.bool bl, .slice a (natL A).length ca, .slice b (natL B).length cb, .int .i64 0] 94)).alloc (.cells #[.int .i64 0, .int .i64 0] 70)).frozen? ⟨w.heap.size + 1, 0, none⟩ = false := by simp
  have f5 : ((w.alloc (.cells #[.bool bl, .slice a (natL A).length ca, .slice b (natL B).length cb, .int .i64 0] 94)).alloc (.cells #[.int .i64 0, .int .i64 0] 70)).frozen? ⟨w.heap.size + 1, 1, none⟩ = false := by simp
  have hz : w.heap.size < ((w.alloc (.cells #[.bool bl, .slice a (natL A).length ca, .slice b (natL B).length cb, .int .i64 0] 94)).alloc (.cells #[.int .i64 0, .int .i64 0] 70)).heap.size := by simp; omega
  have hz1 : w.heap.size + 1 < ((w.alloc (.cells #[.bool bl, .slice a (natL A).length ca, .slice b (natL B).length cb, .int .i64 0] 94)).alloc (.cells #[.int .i64 0, .int .i64 0] 70)).heap.size := by simp
  go_enter Tryz.func176, Tryz.ntmps176
  go_wp2_with fail
  refine H1.out.mono ?_
  rintro e w1 ⟨rfl, hc, hbv⟩
  have j0 := (hbv.cell (b := w.heap.size) (i := 0) hz (by omega)).trans k0
  have j4 := (hbv.cell (b := w.heap.size + 1) (i := 0) hz1 (by omega)).trans k4
  have j5 := (hbv.cell (b := w.heap.size + 1) (i := 1) hz1 (by omega)).trans k5
  have g4 := (hbv.frozen (b := w.heap.size + 1) (i := 0) hz1 (by omega)).trans f4
  have g5 := (hbv.frozen (b := w.heap.size + 1) (i := 1) hz1 (by omega)).trans f5
  have hc0 := hc.cell
  clear k0 k1 k2 k3 k4 k5 f4 f5 hv H1
  cases x
  · cases bl
    · simp only [Bool.false_eq_true, if_false] at hc0
      go_wp2
      refine bodyPost_ret (v := .agg #[.int .i64 (o), .int .i64 (o + 1)]) ?_ rfl ⟨by rw [hl.out, hh.out]; rfl, ((ButV.from e0 hbv).setNew (by omega) _).setNew (by omega) _⟩
      simp [results, Tryz.results176, go_sem, j4, j5]
    · simp only [Bool.false_eq_true, if_false] at hc0
      go_wp2
      refine bodyPost_ret (v := .agg #[.int .i64 (-(o + 1)), .int .i64 (-o)]) ?_ rfl ⟨by rw [hl.out, hh.out]; rfl, ((ButV.from e0 hbv).setNew (by omega) _).setNew (by omega) _⟩
      simp [results, Tryz.results176, go_sem, j4, j5]
  · cases bl
    · simp only [if_true] at hc0
      go_wp2
      refine bodyPost_ret (v := .agg #[.int .i64 (o), .int .i64 (o)]) ?_ rfl ⟨by rw [hl.out, hh.out]; rfl, ((ButV.from e0 hbv).setNew (by omega) _).setNew (by omega) _⟩
      simp [results, Tryz.results176, go_sem, j4, j5]
    · simp only [if_true] at hc0
      go_wp2
      refine bodyPost_ret (v := .agg #[.int .i64 (-o), .int .i64 (-o)]) ?_ rfl ⟨by rw [hl.out, hh.out]; rfl, ((ButV.from e0 hbv).setNew (by omega) _).setNew (by omega) _⟩
      simp [results, Tryz.results176, go_sem, j4, j5]
end Go.Proofs.YtcfbdibjjhifpaaGreatDoor

/- What is rounded to floats, by the program: PairFrac. Conditions: the library's table and its handle of errors lie as their texts lay them. Nothing that was there is written. -/
namespace Go.Proofs.YtcfbdibjjhifpaaGreatDoor
open Go.RowKit
set_option linter.unusedVariables false
set_option maxRecDepth 100000

theorem canon_list {xs : List Int} (h : natOk xs = true) : natL (val xs) = xs := natOk_canon h
theorem meth_around_32 (v : Value) (w : World) : (method 341 122 v "loop.example/pinfold/impl.around").run Tryz.prog w = .ok (150, v) w := by kernel_rfl
theorem iValues32 (w : World) :
    Calls Tryz.prog 45 #[.int .i64 32] w fun e w' => (∃ vb, e = .returned (.tuple #[.iface 122 (.pointer (some ⟨vb, 0, none⟩)), .bool true]) ∧ w.heap.size ≤ vb ∧ S1c w' vb (.int .i64 0)) ∧ Below w.heap.size w w' := by
  go_enter Tryz.func45, Tryz.ntmps45
  go_wp2
  go_ret2
  exact ⟨⟨_, rfl, Nat.le_refl _, S1c.made _ _ rfl _ _⟩, (by repeat (first | with_reducible exact Below.refl _ _ | with_reducible refine Below.drew ?_ | with_reducible refine old_alloc ?_ _ | with_reducible refine old_trans ?_ (by with_reducible assumption)))⟩
set_option maxHeartbeats 2000000 in
theorem iPF1_32 (vb : Nat) (bl : Bool) (a b : Option Addr) (ca cb A B : Nat) (w : World) (hV : S1c w vb (.int .i64 0)) (hA : InI w a (natL A).length ca (natL A)) (hB : InI w b (natL B).length cb (natL B)) (lA : (natL A).length ≤ 256) (lB : (natL B).length ≤ 256) (hB0 : B ≠ 0) (hT : Tab w) :
    Calls Tryz.prog 68 #[.iface 122 (.pointer (some ⟨vb, 0, none⟩)), .agg #[.bool bl, .slice a (natL A).length ca, .slice b (natL B).length cb]] w fun e w' => e = .returned (.agg #[.int .i64 (arL32 bl A B), .int .i64 (arH32 bl A B)]) ∧ ButV vb w w' := by
  have m1 := meth_around_32
  have e0 : Below w.heap.size w ((w.alloc (.cells #[.bool bl, .slice a (natL A).length ca, .slice b (natL B).length cb] 92)).alloc (.cells #[.int .i64 0, .int .i64 0] 70)) := (by repeat (first | with_reducible exact Below.refl _ _ | with_reducible refine Below.drew ?_ | with_reducible refine old_alloc ?_ _ | with_reducible refine old_trans ?_ (by with_reducible assumption)))
  have H1 := hd (iAround32 vb 0 bl a b ca cb A B _ (hV.later e0) (by omega) (by omega) (hA.old e0) (hB.old e0) lA lB hB0 (hT.old e0))
  have hvl := hV.lt
  clear hA hB lA lB hB0 hT
  generalize arL32 bl A B = lo at *
  generalize arH32 bl A B = hi at *
  have k4 : ((w.alloc (.cells #[.bool bl, .slice a (natL A).length ca, .slice b (natL B).length cb] 92)).alloc (.cells #[.int .i64 0, .int .i64 0] 70)).cell? ⟨w.heap.size + 1, 0, none⟩ = some (.int .i64 0) := by simp
  have k5 : ((w.alloc (.cells #[.bool bl, .slice a (natL A).length ca, .slice b (natL B).length cb] 92)).alloc (.cells #[.int .i64 0, .int .i64 0] 70)).cell? ⟨w.heap.size + 1, 1, none⟩ = some (.int .i64 0) := by simp
  have f4 : ((w.alloc (.cells #[.bool bl, .slice a (natL A).length ca, .slice b (natL B).length cb] 92)).alloc (.cells #[.int .i64 0, .int .i64 0] 70)).frozen? ⟨w.heap.size + 1, 0, none⟩ = false := by simp
  have f5 : ((w.alloc (.cells #[.bool bl, .slice a (natL A).length ca, .slice b (natL B).length cb] 92)).alloc (.cells #[.int .i64 0, .int .i64 0] 70)).frozen? ⟨w.heap.size + 1, 1, none⟩ = false := by simp
  have hz1 : w.heap.size + 1 < ((w.alloc (.cells #[.bool bl, .slice a (natL A).length ca, .slice b (natL B).length cb] 92)).alloc (.cells #[.int .i64 0, .int .i64 0] 70)).heap.size := by simp
  go_enter Tryz.func68, Tryz.ntmps68
  go_wp2_with fail
  refine H1.out.mono ?_
  rintro e w1 ⟨rfl, hbv⟩
  have j4 := (hbv.cell (b := w.heap.size + 1) (i := 0) hz1 (by omega)).trans k4
  have j5 := (hbv.cell (b := w.heap.size + 1) (i := 1) hz1 (by omega)).trans k5
  have g4 := (hbv.frozen (b := w.heap.size + 1) (i := 0) hz1 (by omega)).trans f4
  have g5 := (hbv.frozen (b := w.heap.size + 1) (i := 1) hz1 (by omega)).trans f5
  go_wp2
  refine bodyPost_ret (v := .agg #[.int .i64 lo, .int .i64 hi]) ?_ rfl ⟨rfl, ((ButV.from e0 hbv).setNew (by omega) _).setNew (by omega) _⟩
  simp [results, Tryz.results68, go_sem, j4, j5]
set_option maxHeartbeats 4000000 in
theorem iRound32 (bl : Bool) (a b : Option Addr) (ca cb A B : Nat) (w : World) (hA : InI w a (natL A).length ca (natL A)) (hB : InI w b (natL B).length cb (natL B)) (hT : Tab w) (hf : fracOk bl (natL A) (natL B) = true) :
    Calls Tryz.prog 67 #[.int .i64 32, .agg #[.bool bl, .slice a (natL A).length ca, .slice b (natL B).length cb], .func (.func 68) #[] #[]] w fun e w' => e = .returned (.tuple #[.agg #[.int .i64 (arL32 bl A B), .int .i64 (arH32 bl A B)], .bool true]) ∧ Below w.heap.size w w' := by
  have q := fracOk_in hf
  have q1 := (natOk_in q.1).1
  have q2 := (natOk_in q.2.1).1
  have hy0 : B ≠ 0 := fun e => q.2.2.1 (by rw [e, natL_zero]; rfl)
  have e0 : Below w.heap.size w ((w.alloc (.cells #[.bool bl, .slice a (natL A).length ca, .slice b (natL B).length cb] 28)).alloc (.cells #[.int .i64 0, .int .i64 0] 70)) := (by repeat (first | with_reducible exact Below.refl _ _ | with_reducible refine Below.drew ?_ | with_reducible refine old_alloc ?_ _ | with_reducible refine old_trans ?_ (by with_reducible assumption)))
  have VO := hd iValues32
  have RO := hd (fun w' (h : Below w.heap.size w w') => iRatioOf bl a b (natL A).length (natL B).length ca cb (natL A) (natL B) w' (hA.old h) (hB.old h) (hT.old h))
  have F0 := hd iNoFault
  have CL := hd (fun vb w' (h : Below w.heap.size w w') hV => iPF1_32 vb bl a b ca cb A B w' hV (hA.old h) (hB.old h) q1 q2 hy0 (hT.old h))
  have hf' : Hid (fracOk bl (natL A) (natL B) = true) := hf
  clear hA hB hT q q1 q2 hy0 hf
  generalize arL32 bl A B = lo at *
  generalize arH32 bl A B = hi at *
  have N4 : ((w.alloc (.cells #[.bool bl, .slice a (natL A).length ca, .slice b (natL B).length cb] 28)).alloc (.cells #[.int .i64 0, .int .i64 0] 70)).cell? ⟨w.heap.size + 1, 0, none⟩ = some (.int .i64 0) ∧ ((w.alloc (.cells #[.bool bl, .slice a (natL A).length ca, .slice b (natL B).length cb] 28)).alloc (.cells #[.int .i64 0, .int .i64 0] 70)).cell? ⟨w.heap.size + 1, 1, none⟩ = some (.int .i64 0) ∧ ((w.alloc (.cells #[.bool bl, .slice a (natL A).length ca, .slice b (natL B).length cb] 28)).alloc (.cells #[.int .i64 0, .int .i64 0] 70)).frozen? ⟨w.heap.size + 1, 0, none⟩ = false ∧ ((w.alloc (.cells #[.bool bl, .slice a (natL A).length ca, .slice b (natL B).length cb] 28)).alloc (.cells #[.int .i64 0, .int .i64 0] 70)).frozen? ⟨w.heap.size + 1, 1, none⟩ = false := by simp
  have K0 : ((w.alloc (.cells #[.bool bl, .slice a (natL A).length ca, .slice b (natL B).length cb] 28)).alloc (.cells #[.int .i64 0, .int .i64 0] 70)).cell? ⟨w.heap.size, 0, none⟩ = some (.bool bl) ∧ ((w.alloc (.cells #[.bool bl, .slice a (natL A).length ca, .slice b (natL B).length cb] 28)).alloc (.cells #[.int .i64 0, .int .i64 0] 70)).cell? ⟨w.heap.size, 1, none⟩ = some (.slice a (natL A).length ca) ∧ ((w.alloc (.cells #[.bool bl, .slice a (natL A).length ca, .slice b (natL B).length cb] 28)).alloc (.cells #[.int .i64 0, .int .i64 0] 70)).cell? ⟨w.heap.size, 2, none⟩ = some (.slice b (natL B).length cb) := by simp
  have hz1 : w.heap.size + 1 < ((w.alloc (.cells #[.bool bl, .slice a (natL A).length ca, .slice b (natL B).length cb] 28)).alloc (.cells #[.int .i64 0, .int .i64 0] 70)).heap.size := by simp
  go_enter Tryz.func67, Tryz.ntmps67
  go_wp2_with fail
  refine (VO.out _).mono ?_
  rintro e w1 ⟨⟨vb, rfl, hvb, V⟩, hb1⟩
  have hz2 : w.heap.size + 1 < w1.heap.size := Nat.lt_of_lt_of_le hz1 hb1.size
  have hv1 : w.heap.size + 1 < vb := Nat.lt_of_lt_of_le hz1 hvb
  replace N4 : _ ∧ _ ∧ _ ∧ _ := ⟨cell_later hb1 N4.1, cell_later hb1 N4.2.1, (hb1.frozen (p := ⟨w.heap.size + 1, 0, none⟩) hz1).trans N4.2.2.1, (hb1.frozen (p := ⟨w.heap.size + 1, 1, none⟩) hz1).trans N4.2.2.2⟩
  replace K0 : _ ∧ _ ∧ _ := ⟨cell_later hb1 K0.1, cell_later hb1 K0.2.1, cell_later hb1 K0.2.2⟩
  have hB : Below w.heap.size w w1 := old_trans e0 hb1
  clear hb1 hvb hz1 VO e0
  obtain ⟨k0, k1, k2⟩ := id K0
  go_wp2_with fail
  refine (RO.out _ hB).mono ?_
  rintro e w2 ⟨he, hb2⟩
  rcases he with ⟨-, rfl⟩ | ⟨hx, -⟩
  rotate_left
  · exact absurd (hf'.out.symm.trans hx) (by simp)
  have hz3 : w.heap.size + 1 < w2.heap.size := Nat.lt_of_lt_of_le hz2 hb2.size
  replace N4 : _ ∧ _ ∧ _ ∧ _ := ⟨cell_later hb2 N4.1, cell_later hb2 N4.2.1, (hb2.frozen (p := ⟨w.heap.size + 1, 0, none⟩) hz2).trans N4.2.2.1, (hb2.frozen (p := ⟨w.heap.size + 1, 1, none⟩) hz2).trans N4.2.2.2⟩
  replace V := V.later hb2
  replace hB := old_trans hB hb2
  clear hb2 k0 k1 k2 K0 RO hz2
  have ha : Below w2.heap.size w2 (w2.alloc (.cells #[.bool bl, .slice a (natL A).length ca, .slice b (natL B).length cb] 92)) := old_alloc (Below.refl _ _) _
  have K := Cel3.new w2 (.bool bl) (.slice a (natL A).length ca) (.slice b (natL B).length cb) 92
  replace V := V.later ha
  replace N4 : _ ∧ _ ∧ _ ∧ _ := ⟨cell_later ha N4.1, cell_later ha N4.2.1, (ha.frozen (p := ⟨w.heap.size + 1, 0, none⟩) hz3).trans N4.2.2.1, (ha.frozen (p := ⟨w.heap.size + 1, 1, none⟩) hz3).trans N4.2.2.2⟩
  replace hB := old_trans hB ha
  have hz4 : w.heap.size + 1 < (w2.alloc (.cells #[.bool bl, .slice a (natL A).length ca, .slice b (natL B).length cb] 92)).heap.size := Nat.lt_of_lt_of_le hz3 ha.size
  clear ha hz3
  go_wp2_with fail
  refine (F0.out _).mono ?_
  rintro e w3 ⟨rfl, hb3⟩
  replace V := V.later hb3
  replace K := K.old hb3
  replace N4 : _ ∧ _ ∧ _ ∧ _ := ⟨cell_later hb3 N4.1, cell_later hb3 N4.2.1, (hb3.frozen (p := ⟨w.heap.size + 1, 0, none⟩) hz4).trans N4.2.2.1, (hb3.frozen (p := ⟨w.heap.size + 1, 1, none⟩) hz4).trans N4.2.2.2⟩
  replace hB := old_trans hB hb3
  have hz5 : w.heap.size + 1 < w3.heap.size := Nat.lt_of_lt_of_le hz4 hb3.size
  clear hb3 F0 hz4
  obtain ⟨-, ⟨k0, k1, k2⟩, -⟩ := id K
  go_wp2_with fail
  refine (CL.out vb _ hB V).mono ?_
  rintro e w4 ⟨rfl, hbv⟩
  have j4 := (hbv.cell (b := w.heap.size + 1) (i := 0) hz5 (by omega)).trans N4.1
  have j5 := (hbv.cell (b := w.heap.size + 1) (i := 1) hz5 (by omega)).trans N4.2.1
  have g4 := (hbv.frozen (b := w.heap.size + 1) (i := 0) hz5 (by omega)).trans N4.2.2.1
  have g5 := (hbv.frozen (b := w.heap.size + 1) (i := 1) hz5 (by omega)).trans N4.2.2.2
  replace hB := hB.trans (hbv.below (m := w.heap.size) (by omega) V.lt)
  clear k0 k1 k2 K CL
  go_wp2
  refine bodyPost_ret (v := .tuple #[.agg #[.int .i64 lo, .int .i64 hi], .bool true]) ?_ rfl ⟨rfl, below_set (below_set hB (by omega) _) (by omega) _⟩
  simp [results, Tryz.results67, go_sem, j4, j5]
theorem meth_around_64 (v : Value) (w : World) : (method 341 125 v "loop.example/pinfold/impl.around").run Tryz.prog w = .ok (176, v) w := by kernel_rfl
theorem iValues64 (w : World) :
    Calls Tryz.prog 45 #[.int .i64 64] w fun e w' => (∃ vb, e = .returned (.tuple #[.iface 125 (.pointer (some ⟨vb, 0, none⟩)), .bool true]) ∧ w.heap.size ≤ vb ∧ S1c w' vb (.int .i64 0)) ∧ Below w.heap.size w w' := by
  go_enter Tryz.func45, Tryz.ntmps45
  go_wp2
  go_ret2
  exact ⟨⟨_, rfl, Nat.le_refl _, S1c.made _ _ rfl _ _⟩, (by repeat (first | with_reducible exact Below.refl _ _ | with_reducible refine Below.drew ?_ | with_reducible refine old_alloc ?_ _ | with_reducible refine old_trans ?_ (by with_reducible assumption)))⟩
set_option maxHeartbeats 2000000 in
theorem iPF1_64 (vb : Nat) (bl : Bool) (a b : Option Addr) (ca cb A B : Nat) (w : World) (hV : S1c w vb (.int .i64 0)) (hA : InI w a (natL A).length ca (natL A)) (hB : InI w b (natL B).length cb (natL B)) (lA : (natL A).length ≤ 256) (lB : (natL B).length ≤ 256) (hB0 : B ≠ 0) (hT : Tab w) :
    Calls Tryz.prog 68 #[.iface 125 (.pointer (some ⟨vb, 0, none⟩)), .agg #[.bool bl, .slice a (natL A).length ca, .slice b (natL B).length cb]] w fun e w' => e = .returned (.agg #[.int .i64 (arL64 bl A B), .int .i64 (arH64 bl A B)]) ∧ ButV vb w w' := by
  have m1 := meth_around_64
  have e0 : Below w.heap.size w ((w.alloc (.cells #[.bool bl, .slice a (natL A).length ca, .slice b (natL B).length cb] 92)).alloc (.cells #[.int .i64 0, .int .i64 0] 70)) := (by repeat (first | with_reducible exact Below.refl _ _ | with_reducible refine Below.drew ?_ | with_reducible refine old_alloc ?_ _ | with_reducible refine old_trans ?_ (by with_reducible assumption)))
  have H1 := hd (iAround64 vb 0 bl a b ca cb A B _ (hV.later e0) (by omega) (by omega) (hA.old e0) (hB.old e0) lA lB hB0 (hT.old e0))
  have hvl := hV.lt
  clear hA hB lA lB hB0 hT
  generalize arL64 bl A B = lo at *
  generalize arH64 bl A B = hi at *
  have k4 : ((w.alloc (.cells #[.bool bl, .slice a (natL A).length ca, .slice b (natL B).length cb] 92)).alloc (.cells #[.int .i64 0, .int .i64 0] 70)).cell? ⟨w.heap.size + 1, 0, none⟩ = some (.int .i64 0) := by simp
  have k5 : ((w.alloc (.cells #[.bool bl, .slice a (natL A).length ca, .slice b (natL B).length cb] 92)).alloc (.cells #[.int .i64 0, .int .i64 0] 70)).cell? ⟨w.heap.size + 1, 1, none⟩ = some (.int .i64 0) := by simp
  have f4 : ((w.alloc (.cells #[.bool bl, .slice a (natL A).length ca, .slice b (natL B).length cb] 92)).alloc (.cells #[.int .i64 0, .int .i64 0] 70)).frozen? ⟨w.heap.size + 1, 0, none⟩ = false := by simp
  have f5 : ((w.alloc (.cells #[.bool bl, .slice a (natL A).length ca, .slice b (natL B).length cb] 92)).alloc (.cells #[.int .i64 0, .int .i64 0] 70)).frozen? ⟨w.heap.size + 1, 1, none⟩ = false := by simp
  have hz1 : w.heap.size + 1 < ((w.alloc (.cells #[.bool bl, .slice a (natL A).length ca, .slice b (natL B).length cb] 92)).alloc (.cells #[.int .i64 0, .int .i64 0] 70)).heap.size := by simp
  go_enter Tryz.func68, Tryz.ntmps68
  go_wp2_with fail
  refine H1.out.mono ?_
  rintro e w1 ⟨rfl, hbv⟩
  have j4 := (hbv.cell (b := w.heap.size + 1) (i := 0) hz1 (by omega)).trans k4
  have j5 := (hbv.cell (b := w.heap.size + 1) (i := 1) hz1 (by omega)).trans k5
  have g4 := (hbv.frozen (b := w.heap.size + 1) (i := 0) hz1 (by omega)).trans f4
  have g5 := (hbv.frozen (b := w.heap.size + 1) (i := 1) hz1 (by omega)).trans f5
  go_wp2
  refine bodyPost_ret (v := .agg #[.int .i64 lo, .int .i64 hi]) ?_ rfl ⟨rfl, ((ButV.from e0 hbv).setNew (by omega) _).setNew (by omega) _⟩
  simp [results, Tryz.results68, go_sem, j4, j5]
set_option maxHeartbeats 4000000 in
theorem iRound64 (bl : Bool) (a b : Option Addr) (ca cb A B : Nat) (w : World) (hA : InI w a (natL A).length ca (natL A)) (hB : InI w b (natL B).length cb (natL B)) (hT : Tab w) (hf : fracOk bl (natL A) (natL B) = true) :
    Calls Tryz.prog 67 #[.int .i64 64, .agg #[.bool bl, .slice a (natL A).length ca, .slice b (natL B).length cb], .func (.func 68) #[] #[]] w fun e w' => e = .returned (.tuple #[.agg #[.int .i64 (arL64 bl A B), .int .i64 (arH64 bl A B)], .bool true]) ∧ Below w.heap.size w w' := by
  have q := fracOk_in hf
  have q1 := (natOk_in q.1).1
  have q2 := (natOk_in q.2.1).1
  have hy0 : B ≠ 0 := fun e => q.2.2.1 (by rw [e, natL_zero]; rfl)
  have e0 : Below w.heap.size w ((w.alloc (.cells #[.bool bl, .slice a (natL A).length ca, .slice b (natL B).length cb] 28)).alloc (.cells #[.int .i64 0, .int .i64 0] 70)) := (by repeat (first | with_reducible exact Below.refl _ _ | with_reducible refine Below.drew ?_ | with_reducible refine old_alloc ?_ _ | with_reducible refine old_trans ?_ (by with_reducible assumption)))
  have VO := hd iValues64
  have RO := hd (fun w' (h : Below w.heap.size w w') => iRatioOf bl a b (natL A).length (natL B).length ca cb (natL A) (natL B) w' (hA.old h) (hB.old h) (hT.old h))
  have F0 := hd iNoFault
  have CL := hd (fun vb w' (h : Below w.heap.size w w') hV => iPF1_64 vb bl a b ca cb A B w' hV (hA.old h) (hB.old h) q1 q2 hy0 (hT.old h))
  have hf' : Hid (fracOk bl (natL A) (natL B) = true) := hf
  clear hA hB hT q q1 q2 hy0 hf
  generalize arL64 bl A B = lo at *
  generalize arH64 bl A B = hi at *
  have N4 : ((w.alloc (.cells #[.bool bl, .slice a (natL A).length ca, .slice b (natL B).length cb] 28)).alloc (.cells #[.int .i64 0, .int .i64 0] 70)).cell? ⟨w.heap.size + 1, 0, none⟩ = some (.int .i64 0) ∧ ((w.alloc (.cells #[.bool bl, .slice a (natL A).length ca, .slice b (natL B).length cb] 28)).alloc (.cells #[.int .i64 0, .int .i64 0] 70)).cell? ⟨w.heap.size + 1, 1, none⟩ = some (.int .i64 0) ∧ ((w.alloc (.cells #[.bool bl, .slice a (natL A).length ca, .slice b (natL B).length cb] 28)).alloc (.cells #[.int .i64 0, .int .i64 0] 70)).frozen? ⟨w.heap.size + 1, 0, none⟩ = false ∧ ((w.alloc (.cells #[.bool bl, .slice a (natL A).length ca, .slice b (natL B).length cb] 28)).alloc (.cells #[.int .i64 0, .int .i64 0] 70)).frozen? ⟨w.heap.size + 1, 1, none⟩ = false := by simp
  have K0 : ((w.alloc (.cells #[.bool bl, .slice a (natL A).length ca, .slice b (natL B).length cb] 28)).alloc (.cells #[.int .i64 0, .int .i64 0] 70)).cell? ⟨w.heap.size, 0, none⟩ = some (.bool bl) ∧ ((w.alloc (.cells #[.bool bl, .slice a (natL A).length ca, .slice b (natL B).length cb] 28)).alloc (.cells #[.int .i64 0, .int .i64 0] 70)).cell? ⟨w.heap.size, 1, none⟩ = some (.slice a (natL A).length ca) ∧ ((w.alloc (.cells #[.bool bl, .slice a (natL A).length ca, .slice b (natL B).length cb] 28)).alloc (.cells #[.int .i64 0, .int .i64 0] 70)).cell? ⟨w.heap.size, 2, none⟩ = some (.slice b (natL B).length cb) := by simp
  have hz1 : w.heap.size + 1 < ((w.alloc (.cells #[.bool bl, .slice a (natL A).length ca, .slice b (natL B).length cb] 28)).alloc (.cells #[.int .i64 0, .int .i64 0] 70)).heap.size := by simp
  go_enter Tryz.func67, Tryz.ntmps67
  go_wp2_with fail
  refine (VO.out _).mono ?_
  rintro e w1 ⟨⟨vb, rfl, hvb, V⟩, hb1⟩
  have hz2 : w.heap.size + 1 < w1.heap.size := Nat.lt_of_lt_of_le hz1 hb1.size
  have hv1 : w.heap.size + 1 < vb := Nat.lt_of_lt_of_le hz1 hvb
  replace N4 : _ ∧ _ ∧ _ ∧ _ := ⟨cell_later hb1 N4.1, cell_later hb1 N4.2.1, (hb1.frozen (p := ⟨w.heap.size + 1, 0, none⟩) hz1).trans N4.2.2.1, (hb1.frozen (p := ⟨w.heap.size + 1, 1, none⟩) hz1).trans N4.2.2.2⟩
  replace K0 : _ ∧ _ ∧ _ := ⟨cell_later hb1 K0.1, cell_later hb1 K0.2.1, cell_later hb1 K0.2.2⟩
  have hB : Below w.heap.size w w1 := old_trans e0 hb1
  clear hb1 hvb hz1 VO e0
  obtain ⟨k0, k1, k2⟩ := id K0
  go_wp2_with fail
  refine (RO.out _ hB).mono ?_
  rintro e w2 ⟨he, hb2⟩
  rcases he with ⟨-, rfl⟩ | ⟨hx, -⟩
  rotate_left
  · exact absurd (hf'.out.symm.trans hx) (by simp)
  have hz3 : w.heap.size + 1 < w2.heap.size := Nat.lt_of_lt_of_le hz2 hb2.size
  replace N4 : _ ∧ _ ∧ _ ∧ _ := ⟨cell_later hb2 N4.1, cell_later hb2 N4.2.1, (hb2.frozen (p := ⟨w.heap.size + 1, 0, none⟩) hz2).trans N4.2.2.1, (hb2.frozen (p := ⟨w.heap.size + 1, 1, none⟩) hz2).trans N4.2.2.2⟩
  replace V := V.later hb2
  replace hB := old_trans hB hb2
  clear hb2 k0 k1 k2 K0 RO hz2
  have ha : Below w2.heap.size w2 (w2.alloc (.cells #[.bool bl, .slice a (natL A).length ca, .slice b (natL B).length cb] 92)) := old_alloc (Below.refl _ _) _
  have K := Cel3.new w2 (.bool bl) (.slice a (natL A).length ca) (.slice b (natL B).length cb) 92
  replace V := V.later ha
  replace N4 : _ ∧ _ ∧ _ ∧ _ := ⟨cell_later ha N4.1, cell_later ha N4.2.1, (ha.frozen (p := ⟨w.heap.size + 1, 0, none⟩) hz3).trans N4.2.2.1, (ha.frozen (p := ⟨w.heap.size + 1, 1, none⟩) hz3).trans N4.2.2.2⟩
  replace hB := old_trans hB ha
  have hz4 : w.heap.size + 1 < (w2.alloc (.cells #[.bool bl, .slice a (natL A).length ca, .slice b (natL B).length cb] 92)).heap.size := Nat.lt_of_lt_of_le hz3 ha.size
  clear ha hz3
  go_wp2_with fail
  refine (F0.out _).mono ?_
  rintro e w3 ⟨rfl, hb3⟩
  replace V := V.later hb3
  replace K := K.old hb3
  replace N4 : _ ∧ _ ∧ _ ∧ _ := ⟨cell_later hb3 N4.1, cell_later hb3 N4.2.1, (hb3.frozen (p := ⟨w.heap.size + 1, 0, none⟩) hz4).trans N4.2.2.1, (hb3.frozen (p := ⟨w.heap.size + 1, 1, none⟩) hz4).trans N4.2.2.2⟩
  replace hB := old_trans hB hb3
  have hz5 : w.heap.size + 1 < w3.heap.size := Nat.lt_of_lt_of_le hz4 hb3.size
  clear hb3 F0 hz4
  obtain ⟨-, ⟨k0, k1, k2⟩, -⟩ := id K
  go_wp2_with fail
  refine (CL.out vb _ hB V).mono ?_
  rintro e w4 ⟨rfl, hbv⟩
  have j4 := (hbv.cell (b := w.heap.size + 1) (i := 0) hz5 (by omega)).trans N4.1
  have j5 := (hbv.cell (b := w.heap.size + 1) (i := 1) hz5 (by omega)).trans N4.2.1
  have g4 := (hbv.frozen (b := w.heap.size + 1) (i := 0) hz5 (by omega)).trans N4.2.2.1
  have g5 := (hbv.frozen (b := w.heap.size + 1) (i := 1) hz5 (by omega)).trans N4.2.2.2
  replace hB := hB.trans (hbv.below (m := w.heap.size) (by omega) V.lt)
  clear k0 k1 k2 K CL
  go_wp2
  refine bodyPost_ret (v := .tuple #[.agg #[.int .i64 lo, .int .i64 hi], .bool true]) ?_ rfl ⟨rfl, below_set (below_set hB (by omega) _) (by omega) _⟩
  simp [results, Tryz.results67, go_sem, j4, j5]
end Go.Proofs.YtcfbdibjjhifpaaGreatDoor

/- What is rounded to floats, by the specification: a number times a power of two, cut. Conditions: digits, 256 at most. Nothing that was there is written. -/
namespace Go.Proofs.YtcfbdibjjhifpaaGreatDoor
open Go.RowKit
set_option linter.unusedVariables false
set_option maxRecDepth 100000

end Go.Proofs.YtcfbdibjjhifpaaGreatDoor

/- What is rounded to floats, by the specification: the size, at one width. Conditions: digits, 256 at most. Nothing that was there is written. -/
namespace Go.Proofs.YtcfbdibjjhifpaaGreatDoor
open Go.RowKit
set_option linter.unusedVariables false
set_option maxRecDepth 100000

end Go.Proofs.YtcfbdibjjhifpaaGreatDoor

/- What is rounded to floats, by the specification: the size, at one width. Conditions: digits, 256 at most. Nothing that was there is written. -/
namespace Go.Proofs.YtcfbdibjjhifpaaGreatDoor
open Go.RowKit
set_option linter.unusedVariables false
set_option maxRecDepth 100000

end Go.Proofs.YtcfbdibjjhifpaaGreatDoor

/- What is rounded to floats, by the specification: the float next to a number, down and up, and the pair of both. Conditions: digits. Nothing that was there is written. -/
namespace Go.Proofs.YtcfbdibjjhifpaaGreatDoor
open Go.RowKit
set_option linter.unusedVariables false
set_option maxRecDepth 100000

end Go.Proofs.YtcfbdibjjhifpaaGreatDoor

/- What is rounded to floats: the pair around a fraction, of the program and of the specification, at every width and whatever fraction. Conditions, of the program: the library's table and its handle of errors lie as their texts lay them. Nothing that was there is written. -/
namespace Go.Proofs.YtcfbdibjjhifpaaGreatDoor
open Go.RowKit
set_option linter.unusedVariables false
set_option maxRecDepth 100000

theorem cells_set2 {W : World} {b : Nat} {x y v v' : Value} {o : Obj} (h0 : W.cell? ⟨b, 0, none⟩ = some x) (h1 : W.cell? ⟨b, 1, none⟩ = some y) (hz : b < W.heap.size) :
    (((W.setCell ⟨b, 0, none⟩ v).setCell ⟨b, 1, none⟩ v').alloc o).cell? ⟨b, 0, none⟩ = some v ∧ (((W.setCell ⟨b, 0, none⟩ v).setCell ⟨b, 1, none⟩ v').alloc o).cell? ⟨b, 1, none⟩ = some v' := by
  have e : Below ((W.setCell ⟨b, 0, none⟩ v).setCell ⟨b, 1, none⟩ v').heap.size ((W.setCell ⟨b, 0, none⟩ v).setCell ⟨b, 1, none⟩ v') (((W.setCell ⟨b, 0, none⟩ v).setCell ⟨b, 1, none⟩ v').alloc o) := old_alloc (Below.refl _ _) _
  have o1 : ∀ (V : World) (u : Value), (V.setCell ⟨b, 1, none⟩ u).cell? ⟨b, 0, none⟩ = V.cell? ⟨b, 0, none⟩ := fun V u => World.cell?_setCell_other _ _ _ _ (by intro h; injection h with _ h2; omega)
  have o2 : ∀ (V : World) (u : Value), (V.setCell ⟨b, 0, none⟩ u).cell? ⟨b, 1, none⟩ = V.cell? ⟨b, 1, none⟩ := fun V u => World.cell?_setCell_other _ _ _ _ (by intro h; injection h with _ h2; omega)
  exact ⟨cell_later e ((o1 _ _).trans (World.cell?_setCell_same _ _ _ h0)), cell_later e (World.cell?_setCell_same _ _ _ ((o2 _ _).trans h1))⟩
set_option maxHeartbeats 2000000 in
theorem iRoundW (wd : Int) (g1 : wd ≠ 32) (g2 : wd ≠ 64) (bg : Bool) (a b : Option Addr) (la lb ca cb : Nat) (xs ys : List Int) (w : World) (hA : InI w a la ca xs) (hB : InI w b lb cb ys) (hT : Tab w) :
    Calls Tryz.prog 67 #[.int .i64 wd, .agg #[.bool bg, .slice a la ca, .slice b lb cb], .func (.func 68) #[] #[]] w fun e w' => e = .returned (.tuple #[.agg #[.int .i64 0, .int .i64 0], .bool false]) ∧ Below w.heap.size w w' := by
  have e0 : Below w.heap.size w ((w.alloc (.cells #[.bool bg, .slice a la ca, .slice b lb cb] 28)).alloc (.cells #[.int .i64 0, .int .i64 0] 70)) := (by repeat (first | with_reducible exact Below.refl _ _ | with_reducible refine Below.drew ?_ | with_reducible refine old_alloc ?_ _ | with_reducible refine old_trans ?_ (by with_reducible assumption)))
  have k0 : ((w.alloc (.cells #[.bool bg, .slice a la ca, .slice b lb cb] 28)).alloc (.cells #[.int .i64 0, .int .i64 0] 70)).cell? ⟨w.heap.size, 0, none⟩ = some (.bool bg) := by simp
  have k1 : ((w.alloc (.cells #[.bool bg, .slice a la ca, .slice b lb cb] 28)).alloc (.cells #[.int .i64 0, .int .i64 0] 70)).cell? ⟨w.heap.size, 1, none⟩ = some (.slice a la ca) := by simp
  have k2 : ((w.alloc (.cells #[.bool bg, .slice a la ca, .slice b lb cb] 28)).alloc (.cells #[.int .i64 0, .int .i64 0] 70)).cell? ⟨w.heap.size, 2, none⟩ = some (.slice b lb cb) := by simp
  have k4 : ((w.alloc (.cells #[.bool bg, .slice a la ca, .slice b lb cb] 28)).alloc (.cells #[.int .i64 0, .int .i64 0] 70)).cell? ⟨w.heap.size + 1, 0, none⟩ = some (.int .i64 0) := by simp
  have k5 : ((w.alloc (.cells #[.bool bg, .slice a la ca, .slice b lb cb] 28)).alloc (.cells #[.int .i64 0, .int .i64 0] 70)).cell? ⟨w.heap.size + 1, 1, none⟩ = some (.int .i64 0) := by simp
  have f4 : ((w.alloc (.cells #[.bool bg, .slice a la ca, .slice b lb cb] 28)).alloc (.cells #[.int .i64 0, .int .i64 0] 70)).frozen? ⟨w.heap.size + 1, 0, none⟩ = false := by simp
  have f5 : ((w.alloc (.cells #[.bool bg, .slice a la ca, .slice b lb cb] 28)).alloc (.cells #[.int .i64 0, .int .i64 0] 70)).frozen? ⟨w.heap.size + 1, 1, none⟩ = false := by simp
  have hz : w.heap.size + 1 < ((w.alloc (.cells #[.bool bg, .slice a la ca, .slice b lb cb] 28)).alloc (.cells #[.int .i64 0, .int .i64 0] 70)).heap.size := by simp
  have VO := hd (iValuesOfNo wd g1 g2)
  have RO := hd (fun w' (h : Below w.heap.size w w') => iRatioOf bg a b la lb ca cb xs ys w' (hA.old h) (hB.old h) (hT.old h))
  clear hA hB hT
  go_enter Tryz.func67, Tryz.ntmps67
  go_wp2_with fail
  refine (VO.out _).mono ?_
  rintro e w1 ⟨rfl, hb1⟩
  have hB1 := old_trans e0 hb1
  replace k0 := cell_later hb1 k0
  replace k1 := cell_later hb1 k1
  replace k2 := cell_later hb1 k2
  replace k4 := cell_later hb1 k4
  replace k5 := cell_later hb1 k5
  replace f4 := (hb1.frozen (p := ⟨w.heap.size + 1, 0, none⟩) hz).trans f4
  replace f5 := (hb1.frozen (p := ⟨w.heap.size + 1, 1, none⟩) hz).trans f5
  replace hz := Nat.lt_of_lt_of_le hz hb1.size
  go_wp2_with fail
  refine (RO.out _ hB1).mono ?_
  rintro e w2 ⟨he, hb2⟩
  have hB2 := old_trans hB1 hb2
  replace k4 := cell_later hb2 k4
  replace k5 := cell_later hb2 k5
  replace f4 := (hb2.frozen (p := ⟨w.heap.size + 1, 0, none⟩) hz).trans f4
  replace f5 := (hb2.frozen (p := ⟨w.heap.size + 1, 1, none⟩) hz).trans f5
  replace hz := Nat.lt_of_lt_of_le hz hb2.size
  clear k0 k1 k2
  have hn1 : w.heap.size + 1 ≠ w2.heap.size := by omega
  have hn2 : w.heap.size ≠ w2.heap.size := by omega
  have hn3 : w.heap.size + 1 ≠ w2.heap.size + 1 := by omega
  rcases he with ⟨-, rfl⟩ | ⟨-, s, rfl⟩
  · have ha : Below w2.heap.size w2 (w2.alloc (.cells #[.bool bg, .slice a la ca, .slice b lb cb] 92)) := old_alloc (Below.refl _ _) _
    have hB3 := old_trans hB2 ha
    replace k4 := cell_later ha k4
    replace k5 := cell_later ha k5
    replace f4 := (ha.frozen (p := ⟨w.heap.size + 1, 0, none⟩) hz).trans f4
    replace f5 := (ha.frozen (p := ⟨w.heap.size + 1, 1, none⟩) hz).trans f5
    replace hz := Nat.lt_of_lt_of_le hz ha.size
    go_upto_region 4 with fail
    generalize w2.alloc (.cells #[.bool bg, .slice a la ca, .slice b lb cb] 92) = w3 at *
    clear ha
    go_wp2
    obtain ⟨c4, c5⟩ := cells_set2 (v := .int .i64 0) (v' := .int .i64 0) (o := (.cells #[.int .i64 0, .int .i64 0] 70)) k4 k5 hz
    refine bodyPost_ret (v := .tuple #[.agg #[.int .i64 0, .int .i64 0], .bool false]) ?_ rfl ⟨rfl, old_alloc (below_set (below_set hB3 (by omega) _) (by omega) _) _⟩
    simp [results, Tryz.results67, go_sem, c4, c5]
  · have ha : Below w2.heap.size w2 (w2.alloc (.cells #[.bool false, .slice none 0 0, .slice none 0 0] 92)) := old_alloc (Below.refl _ _) _
    have hB3 := old_trans hB2 ha
    replace k4 := cell_later ha k4
    replace k5 := cell_later ha k5
    replace f4 := (ha.frozen (p := ⟨w.heap.size + 1, 0, none⟩) hz).trans f4
    replace f5 := (ha.frozen (p := ⟨w.heap.size + 1, 1, none⟩) hz).trans f5
    replace hz := Nat.lt_of_lt_of_le hz ha.size
    go_upto_region 4 with fail
    generalize w2.alloc (.cells #[.bool false, .slice none 0 0, .slice none 0 0] 92) = w3 at *
    clear ha
    go_wp2
    obtain ⟨c4, c5⟩ := cells_set2 (v := .int .i64 0) (v' := .int .i64 0) (o := (.cells #[.int .i64 0, .int .i64 0] 70)) k4 k5 hz
    refine bodyPost_ret (v := .tuple #[.agg #[.int .i64 0, .int .i64 0], .bool false]) ?_ rfl ⟨rfl, old_alloc (below_set (below_set hB3 (by omega) _) (by omega) _) _⟩
    simp [results, Tryz.results67, go_sem, c4, c5]
set_option maxHeartbeats 2000000 in
theorem iRoundF32 (bg : Bool) (a b : Option Addr) (la lb ca cb : Nat) (xs ys : List Int) (w : World) (hA : InI w a la ca xs) (hB : InI w b lb cb ys) (hT : Tab w) (hE : ET w) (hf : fracOk bg xs ys = false) :
    Calls Tryz.prog 67 #[.int .i64 32, .agg #[.bool bg, .slice a la ca, .slice b lb cb], .func (.func 68) #[] #[]] w fun e w' => e = .returned (.tuple #[.agg #[.int .i64 0, .int .i64 0], .bool false]) ∧ Below w.heap.size w w' := by
  have e0 : Below w.heap.size w ((w.alloc (.cells #[.bool bg, .slice a la ca, .slice b lb cb] 28)).alloc (.cells #[.int .i64 0, .int .i64 0] 70)) := (by repeat (first | with_reducible exact Below.refl _ _ | with_reducible refine Below.drew ?_ | with_reducible refine old_alloc ?_ _ | with_reducible refine old_trans ?_ (by with_reducible assumption)))
  have k0 : ((w.alloc (.cells #[.bool bg, .slice a la ca, .slice b lb cb] 28)).alloc (.cells #[.int .i64 0, .int .i64 0] 70)).cell? ⟨w.heap.size, 0, none⟩ = some (.bool bg) := by simp
  have k1 : ((w.alloc (.cells #[.bool bg, .slice a la ca, .slice b lb cb] 28)).alloc (.cells #[.int .i64 0, .int .i64 0] 70)).cell? ⟨w.heap.size, 1, none⟩ = some (.slice a la ca) := by simp
  have k2 : ((w.alloc (.cells #[.bool bg, .slice a la ca, .slice b lb cb] 28)).alloc (.cells #[.int .i64 0, .int .i64 0] 70)).cell? ⟨w.heap.size, 2, none⟩ = some (.slice b lb cb) := by simp
  have k4 : ((w.alloc (.cells #[.bool bg, .slice a la ca, .slice b lb cb] 28)).alloc (.cells #[.int .i64 0, .int .i64 0] 70)).cell? ⟨w.heap.size + 1, 0, none⟩ = some (.int .i64 0) := by simp
  have k5 : ((w.alloc (.cells #[.bool bg, .slice a la ca, .slice b lb cb] 28)).alloc (.cells #[.int .i64 0, .int .i64 0] 70)).cell? ⟨w.heap.size + 1, 1, none⟩ = some (.int .i64 0) := by simp
  have f4 : ((w.alloc (.cells #[.bool bg, .slice a la ca, .slice b lb cb] 28)).alloc (.cells #[.int .i64 0, .int .i64 0] 70)).frozen? ⟨w.heap.size + 1, 0, none⟩ = false := by simp
  have f5 : ((w.alloc (.cells #[.bool bg, .slice a la ca, .slice b lb cb] 28)).alloc (.cells #[.int .i64 0, .int .i64 0] 70)).frozen? ⟨w.heap.size + 1, 1, none⟩ = false := by simp
  have hz : w.heap.size + 1 < ((w.alloc (.cells #[.bool bg, .slice a la ca, .slice b lb cb] 28)).alloc (.cells #[.int .i64 0, .int .i64 0] 70)).heap.size := by simp
  have VO := hd iValues32
  have RO := hd (fun w' (h : Below w.heap.size w w') => iRatioOf bg a b la lb ca cb xs ys w' (hA.old h) (hB.old h) (hT.old h))
  have F1 := hd (fun s w' (h : Below w.heap.size w w') => iFault s w' (hE.old h))
  have hf' : Hid (fracOk bg xs ys = false) := hf
  clear hA hB hT hE hf
  go_enter Tryz.func67, Tryz.ntmps67
  go_wp2_with fail
  refine (VO.out _).mono ?_
  rintro e w1 ⟨⟨vb, rfl, -, -⟩, hb1⟩
  have hB1 := old_trans e0 hb1
  replace k0 := cell_later hb1 k0
  replace k1 := cell_later hb1 k1
  replace k2 := cell_later hb1 k2
  replace k4 := cell_later hb1 k4
  replace k5 := cell_later hb1 k5
  replace f4 := (hb1.frozen (p := ⟨w.heap.size + 1, 0, none⟩) hz).trans f4
  replace f5 := (hb1.frozen (p := ⟨w.heap.size + 1, 1, none⟩) hz).trans f5
  replace hz := Nat.lt_of_lt_of_le hz hb1.size
  go_wp2_with fail
  refine (RO.out _ hB1).mono ?_
  rintro e w2 ⟨he, hb2⟩
  have hB2 := old_trans hB1 hb2
  replace k4 := cell_later hb2 k4
  replace k5 := cell_later hb2 k5
  replace f4 := (hb2.frozen (p := ⟨w.heap.size + 1, 0, none⟩) hz).trans f4
  replace f5 := (hb2.frozen (p := ⟨w.heap.size + 1, 1, none⟩) hz).trans f5
  replace hz := Nat.lt_of_lt_of_le hz hb2.size
  clear k0 k1 k2
  rcases he with ⟨hx, -⟩ | ⟨-, s, rfl⟩
  · exact absurd (hf'.out.symm.trans hx) (by simp)
  have ha : Below w2.heap.size w2 (w2.alloc (.cells #[.bool false, .slice none 0 0, .slice none 0 0] 92)) := old_alloc (Below.refl _ _) _
  have hB3 := old_trans hB2 ha
  replace k4 := cell_later ha k4
  replace k5 := cell_later ha k5
  replace f4 := (ha.frozen (p := ⟨w.heap.size + 1, 0, none⟩) hz).trans f4
  replace f5 := (ha.frozen (p := ⟨w.heap.size + 1, 1, none⟩) hz).trans f5
  replace hz := Nat.lt_of_lt_of_le hz ha.size
  go_wp2_with fail
  refine (F1.out _ _ hB3).mono ?_
  rintro e w3 ⟨rfl, hb3⟩
  have hB4 := old_trans hB3 hb3
  replace k4 := cell_later hb3 k4
  replace k5 := cell_later hb3 k5
  replace f4 := (hb3.frozen (p := ⟨w.heap.size + 1, 0, none⟩) hz).trans f4
  replace f5 := (hb3.frozen (p := ⟨w.heap.size + 1, 1, none⟩) hz).trans f5
  replace hz := Nat.lt_of_lt_of_le hz hb3.size
  go_wp2
  obtain ⟨c4, c5⟩ := cells_set2 (v := .int .i64 0) (v' := .int .i64 0) (o := (.cells #[.int .i64 0, .int .i64 0] 70)) k4 k5 hz
  refine bodyPost_ret (v := .tuple #[.agg #[.int .i64 0, .int .i64 0], .bool false]) ?_ rfl ⟨rfl, old_alloc (below_set (below_set hB4 (by omega) _) (by omega) _) _⟩
  simp [results, Tryz.results67, go_sem, c4, c5]
set_option maxHeartbeats 2000000 in
theorem iRoundF64 (bg : Bool) (a b : Option Addr) (la lb ca cb : Nat) (xs ys : List Int) (w : World) (hA : InI w a la ca xs) (hB : InI w b lb cb ys) (hT : Tab w) (hE : ET w) (hf : fracOk bg xs ys = false) :
    Calls Tryz.prog 67 #[.int .i64 64, .agg #[.bool bg, .slice a la ca, .slice b lb cb], .func (.func 68) #[] #[]] w fun e w' => e = .returned (.tuple #[.agg #[.int .i64 0, .int .i64 0], .bool false]) ∧ Below w.heap.size w w' := by
  have e0 : Below w.heap.size w ((w.alloc (.cells #[.bool bg, .slice a la ca, .slice b lb cb] 28)).alloc (.cells #[.int .i64 0, .int .i64 0] 70)) := (by repeat (first | with_reducible exact Below.refl _ _ | with_reducible refine Below.drew ?_ | with_reducible refine old_alloc ?_ _ | with_reducible refine old_trans ?_ (by with_reducible assumption)))
  have k0 : ((w.alloc (.cells #[.bool bg, .slice a la ca, .slice b lb cb] 28)).alloc (.cells #[.int .i64 0, .int .i64 0] 70)).cell? ⟨w.heap.size, 0, none⟩ = some (.bool bg) := by simp
  have k1 : ((w.alloc (.cells #[.bool bg, .slice a la ca, .slice b lb cb] 28)).alloc (.cells #[.int .i64 0, .int .i64 0] 70)).cell? ⟨w.heap.size, 1, none⟩ = some (.slice a la ca) := by simp
  have k2 : ((w.alloc (.cells #[.bool bg, .slice a la ca, .slice b lb cb] 28)).alloc (.cells #[.int .i64 0, .int .i64 0] 70)).cell? ⟨w.heap.size, 2, none⟩ = some (.slice b lb cb) := by simp
  have k4 : ((w.alloc (.cells #[.bool bg, .slice a la ca, .slice b lb cb] 28)).alloc (.cells #[.int .i64 0, .int .i64 0] 70)).cell? ⟨w.heap.size + 1, 0, none⟩ = some (.int .i64 0) := by simp
  have k5 : ((w.alloc (.cells #[.bool bg, .slice a la ca, .slice b lb cb] 28)).alloc (.cells #[.int .i64 0, .int .i64 0] 70)).cell? ⟨w.heap.size + 1, 1, none⟩ = some (.int .i64 0) := by simp
  have f4 : ((w.alloc (.cells #[.bool bg, .slice a la ca, .slice b lb cb] 28)).alloc (.cells #[.int .i64 0, .int .i64 0] 70)).frozen? ⟨w.heap.size + 1, 0, none⟩ = false := by simp
  have f5 : ((w.alloc (.cells #[.bool bg, .slice a la ca, .slice b lb cb] 28)).alloc (.cells #[.int .i64 0, .int .i64 0] 70)).frozen? ⟨w.heap.size + 1, 1, none⟩ = false := by simp
  have hz : w.heap.size + 1 < ((w.alloc (.cells #[.bool bg, .slice a la ca, .slice b lb cb] 28)).alloc (.cells #[.int .i64 0, .int .i64 0] 70)).heap.size := by simp
  have VO := hd iValues64
  have RO := hd (fun w' (h : Below w.heap.size w w') => iRatioOf bg a b la lb ca cb xs ys w' (hA.old h) (hB.old h) (hT.old h))
  have F1 := hd (fun s w' (h : Below w.heap.size w w') => iFault s w' (hE.old h))
  have hf' : Hid (fracOk bg xs ys = false) := hf
  clear hA hB hT hE hf
  go_enter Tryz.func67, Tryz.ntmps67
  go_wp2_with fail
  refine (VO.out _).mono ?_
  rintro e w1 ⟨⟨vb, rfl, -, -⟩, hb1⟩
  have hB1 := old_trans e0 hb1
  replace k0 := cell_later hb1 k0
  replace k1 := cell_later hb1 k1
  replace k2 := cell_later hb1 k2
  replace k4 := cell_later hb1 k4
  replace k5 := cell_later hb1 k5
  replace f4 := (hb1.frozen (p := ⟨w.heap.size + 1, 0, none⟩) hz).trans f4
  replace f5 := (hb1.frozen (p := ⟨w.heap.size + 1, 1, none⟩) hz).trans f5
  replace hz := Nat.lt_of_lt_of_le hz hb1.size
  go_wp2_with fail
  refine (RO.out _ hB1).mono ?_
  rintro e w2 ⟨he, hb2⟩
  have hB2 := old_trans hB1 hb2
  replace k4 := cell_later hb2 k4
  replace k5 := cell_later hb2 k5
  replace f4 := (hb2.frozen (p := ⟨w.heap.size + 1, 0, none⟩) hz).trans f4
  replace f5 := (hb2.frozen (p := ⟨w.heap.size + 1, 1, none⟩) hz).trans f5
  replace hz := Nat.lt_of_lt_of_le hz hb2.size
  clear k0 k1 k2
  rcases he with ⟨hx, -⟩ | ⟨-, s, rfl⟩
  · exact absurd (hf'.out.symm.trans hx) (by simp)
  have ha : Below w2.heap.size w2 (w2.alloc (.cells #[.bool false, .slice none 0 0, .slice none 0 0] 92)) := old_alloc (Below.refl _ _) _
  have hB3 := old_trans hB2 ha
  replace k4 := cell_later ha k4
  replace k5 := cell_later ha k5
  replace f4 := (ha.frozen (p := ⟨w.heap.size + 1, 0, none⟩) hz).trans f4
  replace f5 := (ha.frozen (p := ⟨w.heap.size + 1, 1, none⟩) hz).trans f5
  replace hz := Nat.lt_of_lt_of_le hz ha.size
  go_wp2_with fail
  refine (F1.out _ _ hB3).mono ?_
  rintro e w3 ⟨rfl, hb3⟩
  have hB4 := old_trans hB3 hb3
  replace k4 := cell_later hb3 k4
  replace k5 := cell_later hb3 k5
  replace f4 := (hb3.frozen (p := ⟨w.heap.size + 1, 0, none⟩) hz).trans f4
  replace f5 := (hb3.frozen (p := ⟨w.heap.size + 1, 1, none⟩) hz).trans f5
  replace hz := Nat.lt_of_lt_of_le hz hb3.size
  go_wp2
  obtain ⟨c4, c5⟩ := cells_set2 (v := .int .i64 0) (v' := .int .i64 0) (o := (.cells #[.int .i64 0, .int .i64 0] 70)) k4 k5 hz
  refine bodyPost_ret (v := .tuple #[.agg #[.int .i64 0, .int .i64 0], .bool false]) ?_ rfl ⟨rfl, old_alloc (below_set (below_set hB4 (by omega) _) (by omega) _) _⟩
  simp [results, Tryz.results67, go_sem, c4, c5]
def pfOk (wd : Int) (bg : Bool) (xs ys : List Int) : Bool := decide (wd = 32 ∨ wd = 64) && fracOk bg xs ys
def pfL (wd : Int) (bg : Bool) (xs ys : List Int) : Int := if pfOk wd bg xs ys then (if wd = 32 then arL32 bg (val xs) (val ys) else arL64 bg (val xs) (val ys)) else 0
def pfH (wd : Int) (bg : Bool) (xs ys : List Int) : Int := if pfOk wd bg xs ys then (if wd = 32 then arH32 bg (val xs) (val ys) else arH64 bg (val xs) (val ys)) else 0
theorem pf_no {wd : Int} {bg : Bool} {xs ys : List Int} (h : pfOk wd bg xs ys = false) : pfL wd bg xs ys = 0 ∧ pfH wd bg xs ys = 0 := by
  unfold pfL pfH; rw [h]; exact ⟨rfl, rfl⟩
theorem iRoundB (wd : Int) (bg : Bool) (a b : Option Addr) (la lb ca cb : Nat) (xs ys : List Int) (w : World) (hA : InI w a la ca xs) (hB : InI w b lb cb ys) (hT : Tab w) (hE : ET w) :
    Calls Tryz.prog 67 #[.int .i64 wd, .agg #[.bool bg, .slice a la ca, .slice b lb cb], .func (.func 68) #[] #[]] w fun e w' => e = .returned (.tuple #[.agg #[.int .i64 (pfL wd bg xs ys), .int .i64 (pfH wd bg xs ys)], .bool (pfOk wd bg xs ys)]) ∧ Below w.heap.size w w' := by
  by_cases hw : wd = 32 ∨ wd = 64
  · cases hf : fracOk bg xs ys
    · have ho : pfOk wd bg xs ys = false := by unfold pfOk; rw [hf, Bool.and_false]
      rw [(pf_no ho).1, (pf_no ho).2, ho]
      rcases hw with rfl | rfl
      · exact iRoundF32 bg a b la lb ca cb xs ys w hA hB hT hE hf
      · exact iRoundF64 bg a b la lb ca cb xs ys w hA hB hT hE hf
    · have q := fracOk_in hf
      have ex := canon_list q.1
      have ey := canon_list q.2.1
      have ho : pfOk wd bg xs ys = true := by unfold pfOk; rw [hf, decide_eq_true hw]; rfl
      unfold pfL pfH
      rw [ho, if_pos rfl, if_pos rfl]
      generalize val xs = A at *
      generalize val ys = B at *
      subst ex ey
      obtain rfl := hA.1
      obtain rfl := hB.1
      rcases hw with rfl | rfl
      · exact iRound32 bg a b ca cb A B w hA hB hT hf
      · exact iRound64 bg a b ca cb A B w hA hB hT hf
  · have ho : pfOk wd bg xs ys = false := by unfold pfOk; rw [decide_eq_false hw]; rfl
    rw [(pf_no ho).1, (pf_no ho).2, ho]
    exact iRoundW wd (fun e => hw (.inl e)) (fun e => hw (.inr e)) bg a b la lb ca cb xs ys w hA hB hT
set_option maxHeartbeats 2000000 in
theorem iPairFrac (wd : Int) (bg : Bool) (a b : Option Addr) (la lb ca cb : Nat) (xs ys : List Int) (w : World) (hA : InI w a la ca xs) (hB : InI w b lb cb ys) (hT : Tab w) (hE : ET w) :
    Calls Tryz.prog 43 #[.int .i64 wd, .agg #[.bool bg, .slice a la ca, .slice b lb cb]] w fun e w' => e = .returned (.tuple #[.agg #[.int .i64 (pfL wd bg xs ys), .int .i64 (pfH wd bg xs ys)], .bool (pfOk wd bg xs ys)]) ∧ Below w.heap.size w w' := by
  have e0 : Below w.heap.size w ((w.alloc (.cells #[.bool bg, .slice a la ca, .slice b lb cb] 28)).alloc (.cells #[.int .i64 0, .int .i64 0] 70)) := (by repeat (first | with_reducible exact Below.refl _ _ | with_reducible refine Below.drew ?_ | with_reducible refine old_alloc ?_ _ | with_reducible refine old_trans ?_ (by with_reducible assumption)))
  have k0 : ((w.alloc (.cells #[.bool bg, .slice a la ca, .slice b lb cb] 28)).alloc (.cells #[.int .i64 0, .int .i64 0] 70)).cell? ⟨w.heap.size, 0, none⟩ = some (.bool bg) := by simp
  have k1 : ((w.alloc (.cells #[.bool bg, .slice a la ca, .slice b lb cb] 28)).alloc (.cells #[.int .i64 0, .int .i64 0] 70)).cell? ⟨w.heap.size, 1, none⟩ = some (.slice a la ca) := by simp
  have k2 : ((w.alloc (.cells #[.bool bg, .slice a la ca, .slice b lb cb] 28)).alloc (.cells #[.int .i64 0, .int .i64 0] 70)).cell? ⟨w.heap.size, 2, none⟩ = some (.slice b lb cb) := by simp
  have k4 : ((w.alloc (.cells #[.bool bg, .slice a la ca, .slice b lb cb] 28)).alloc (.cells #[.int .i64 0, .int .i64 0] 70)).cell? ⟨w.heap.size + 1, 0, none⟩ = some (.int .i64 0) := by simp
  have k5 : ((w.alloc (.cells #[.bool bg, .slice a la ca, .slice b lb cb] 28)).alloc (.cells #[.int .i64 0, .int .i64 0] 70)).cell? ⟨w.heap.size + 1, 1, none⟩ = some (.int .i64 0) := by simp
  have f4 : ((w.alloc (.cells #[.bool bg, .slice a la ca, .slice b lb cb] 28)).alloc (.cells #[.int .i64 0, .int .i64 0] 70)).frozen? ⟨w.heap.size + 1, 0, none⟩ = false := by simp
  have f5 : ((w.alloc (.cells #[.bool bg, .slice a la ca, .slice b lb cb] 28)).alloc (.cells #[.int .i64 0, .int .i64 0] 70)).frozen? ⟨w.heap.size + 1, 1, none⟩ = false := by simp
  have hz : w.heap.size + 1 < ((w.alloc (.cells #[.bool bg, .slice a la ca, .slice b lb cb] 28)).alloc (.cells #[.int .i64 0, .int .i64 0] 70)).heap.size := by simp
  have RO := hd (fun w' (h : Below w.heap.size w w') => iRoundB wd bg a b la lb ca cb xs ys w' (hA.old h) (hB.old h) (hT.old h) (hE.old h))
  clear hA hB hT hE
  generalize pfL wd bg xs ys = lo at *
  generalize pfH wd bg xs ys = hi at *
  generalize pfOk wd bg xs ys = ok at *
  go_enter Tryz.func43, Tryz.ntmps43
  go_wp2_with fail
  refine (RO.out _ e0).mono ?_
  rintro e w1 ⟨rfl, hb1⟩
  have hB1 := old_trans e0 hb1
  replace k4 := cell_later hb1 k4
  replace k5 := cell_later hb1 k5
  replace f4 := (hb1.frozen (p := ⟨w.heap.size + 1, 0, none⟩) hz).trans f4
  replace f5 := (hb1.frozen (p := ⟨w.heap.size + 1, 1, none⟩) hz).trans f5
  replace hz := Nat.lt_of_lt_of_le hz hb1.size
  go_wp2
  refine bodyPost_ret (v := .tuple #[.agg #[.int .i64 lo, .int .i64 hi], .bool ok]) ?_ rfl ⟨rfl, below_set (below_set hB1 (by omega) _) (by omega) _⟩
  simp [results, Tryz.results43, go_sem, k4, k5]
end Go.Proofs.YtcfbdibjjhifpaaGreatDoor

/- The floats next to a fraction, down and up, of the program and of the specification, at every width and whatever fraction. Conditions, of the program: the library's table and its handle of errors lie as their texts lay them. Nothing that was there is written. -/
namespace Go.Proofs.YtcfbdibjjhifpaaGreatDoor
open Go.RowKit
set_option linter.unusedVariables false
set_option maxRecDepth 100000

set_option maxHeartbeats 2000000 in
theorem iFloatDown (wd : Int) (bg : Bool) (a b : Option Addr) (la lb ca cb : Nat) (xs ys : List Int) (w : World) (hA : InI w a la ca xs) (hB : InI w b lb cb ys) (hT : Tab w) (hE : ET w) :
    Calls Tryz.prog 12 #[.int .i64 wd, .agg #[.bool bg, .slice a la ca, .slice b lb cb]] w fun e w' => e = .returned (.tuple #[.int .i64 (pfL wd bg xs ys), .bool (pfOk wd bg xs ys)]) ∧ Below w.heap.size w w' := by
  have e0 : Below w.heap.size w (w.alloc (.cells #[.bool bg, .slice a la ca, .slice b lb cb] 28)) := (by repeat (first | with_reducible exact Below.refl _ _ | with_reducible refine Below.drew ?_ | with_reducible refine old_alloc ?_ _ | with_reducible refine old_trans ?_ (by with_reducible assumption)))
  have PF := hd (iPairFrac wd bg a b la lb ca cb xs ys _ (hA.old e0) (hB.old e0) (hT.old e0) (hE.old e0))
  clear hA hB hT hE
  generalize pfL wd bg xs ys = lo at *
  generalize pfH wd bg xs ys = hi at *
  generalize pfOk wd bg xs ys = ok at *
  go_enter Tryz.func12, Tryz.ntmps12
  go_wp2_with fail
  refine PF.out.mono ?_
  rintro e w1 ⟨rfl, hb1⟩
  have hB1 := old_trans e0 hb1
  go_wp2
  go_ret2
  exact ⟨rfl, old_alloc hB1 _⟩
set_option maxHeartbeats 2000000 in
theorem iFloatUp (wd : Int) (bg : Bool) (a b : Option Addr) (la lb ca cb : Nat) (xs ys : List Int) (w : World) (hA : InI w a la ca xs) (hB : InI w b lb cb ys) (hT : Tab w) (hE : ET w) :
    Calls Tryz.prog 13 #[.int .i64 wd, .agg #[.bool bg, .slice a la ca, .slice b lb cb]] w fun e w' => e = .returned (.tuple #[.int .i64 (pfH wd bg xs ys), .bool (pfOk wd bg xs ys)]) ∧ Below w.heap.size w w' := by
  have e0 : Below w.heap.size w (w.alloc (.cells #[.bool bg, .slice a la ca, .slice b lb cb] 28)) := (by repeat (first | with_reducible exact Below.refl _ _ | with_reducible refine Below.drew ?_ | with_reducible refine old_alloc ?_ _ | with_reducible refine old_trans ?_ (by with_reducible assumption)))
  have PF := hd (iPairFrac wd bg a b la lb ca cb xs ys _ (hA.old e0) (hB.old e0) (hT.old e0) (hE.old e0))
  clear hA hB hT hE
  generalize pfL wd bg xs ys = lo at *
  generalize pfH wd bg xs ys = hi at *
  generalize pfOk wd bg xs ys = ok at *
  go_enter Tryz.func13, Tryz.ntmps13
  go_wp2_with fail
  refine PF.out.mono ?_
  rintro e w1 ⟨rfl, hb1⟩
  have hB1 := old_trans e0 hb1
  go_wp2
  go_ret2
  exact ⟨rfl, old_alloc hB1 _⟩
end Go.Proofs.YtcfbdibjjhifpaaGreatDoor
