/- Texts byte by byte; letters, digits and names, of both sides; nothing is written. No condition. -/
import Derived.Test.YtafpjgojmpjajaaN0
import Derived.Laws.RangeString
import Derived.Laws.RangeAny
import Derived.Laws.DeepStrings4
import Derived.Lib.OthersKept
import Derived.LoopN
import Derived.KernelRfl
namespace Go.Proofs.Ytafpjgojmpjajaa
open Go.RowKit
set_option linter.unusedVariables false
set_option maxRecDepth 100000

/-- the byte at a place -/
def byt (s : ByteArray) (k : Nat) : Int := ((s.data.toList.getD k 0).toNat : Int)
theorem byt_bd (s : ByteArray) (k : Nat) : 0 ≤ byt s k ∧ byt s k ≤ 255 := by
  unfold byt
  have := (s.data.toList.getD k 0).toNat_lt
  omega
theorem byt_at (s : ByteArray) (k : Nat) (h : k < s.size) : ((s[k]'h).toNat : Int) = byt s k := by
  obtain ⟨d⟩ := s
  have hd : k < d.size := h
  have e : d.toList.getD k 0 = d[k] := by simp [List.getD_eq_getElem?_getD, hd]
  show ((d[k]'hd).toNat : Int) = ((d.toList.getD k 0).toNat : Int)
  rw [e]
theorem idxS {t : TypeId} (ht : Try.prog.underlying t = some .string) (s : ByteArray) (k : Nat) (h : k < s.size) (w : World) :
    (Instr.index t (.string s) (.int .i64 (k : Int))).run Try.prog w = .ok (.int .u8 (byt s k)) w := by
  rw [run_index_string (h := ht), dif_pos ⟨by omega, by omega⟩]
  have := byt_at s k h
  simp only [Int.toNat_natCast]
  rw [this]
theorem idxS0 {t : TypeId} (ht : Try.prog.underlying t = some .string) (s : ByteArray) (h : 0 < s.size) (w : World) :
    (Instr.index t (.string s) (.int .i64 0)).run Try.prog w = .ok (.int .u8 (byt s 0)) w := idxS ht s 0 h w
/-- cells of a block that is no one else's -/
structure CS (w : World) (b : Nat) (vs : List Value) : Prop where
  cell : ∀ i v, vs[i]? = some v → w.cell? ⟨b, i, none⟩ = some v
  froz : ∀ i, i < vs.length → w.frozen? ⟨b, i, none⟩ = false
  lt : b < w.heap.size
theorem CS.later {w w1 : World} {b : Nat} {vs : List Value} (h : CS w b vs) (hb : Below w.heap.size w w1) : CS w1 b vs :=
  ⟨fun i v hi => (hb.cell (p := ⟨b, i, none⟩) h.lt).trans (h.cell i v hi), fun i hi => (hb.frozen (p := ⟨b, i, none⟩) h.lt).trans (h.froz i hi), Nat.lt_of_lt_of_le h.lt hb.size⟩
theorem CS.alloc {w : World} {b : Nat} {vs : List Value} (h : CS w b vs) (o : Obj) : CS (w.alloc o) b vs := h.later ((Below.refl _ _).alloc (Nat.le_refl _) o)
theorem CS.drew {w : World} {b : Nat} {vs : List Value} (h : CS w b vs) : CS w.drew b vs := ⟨h.cell, h.froz, h.lt⟩
theorem CS.made (w : World) (b : Nat) (hb : b = w.heap.size) (vs : Array Value) (t : TypeId) : CS (w.alloc (.cells vs t)) b vs.toList := by
  subst hb
  exact ⟨fun i v hi => by simpa using hi, fun i hi => by simp, by simp⟩
theorem CS.far {w : World} {b c i : Nat} {vs : List Value} (h : CS w b vs) (hn : b ≠ c) (v : Value) : CS (w.setCell ⟨c, i, none⟩ v) b vs := by
  have o : ∀ (j : Nat), (w.setCell ⟨c, i, none⟩ v).cell? ⟨b, j, none⟩ = w.cell? ⟨b, j, none⟩ := fun j => World.cell?_setCell_other _ _ _ _ (by intro h; injection h with h2 _; omega)
  exact ⟨fun j u hj => (o j).trans (h.cell j u hj), fun j hj => by simpa using h.froz j hj, by simpa [World.setCell] using h.lt⟩
theorem CS.stored {w : World} {b i : Nat} {vs : List Value} (h : CS w b vs) (v : Value) (hi : i < vs.length) : CS (w.setCell ⟨b, i, none⟩ v) b (vs.set i v) := by
  refine ⟨fun j u hj => ?_, fun j hj => by simpa using h.froz j (by simpa using hj), by simpa [World.setCell] using h.lt⟩
  by_cases e : i = j
  · subst e
    rw [List.getElem?_set_self hi] at hj
    obtain rfl := Option.some.inj hj
    exact World.cell?_setCell_same _ _ _ (h.cell i _ (List.getElem?_eq_getElem hi))
  · rw [List.getElem?_set_ne e] at hj
    exact (World.cell?_setCell_other _ _ _ _ (by intro h; injection h with _ h2; omega)).trans (h.cell j u hj)

def isD (n : Int) : Bool := decide (48 ≤ n) && decide (n ≤ 57)
def isL (n : Int) : Bool := decide (97 ≤ n) && decide (n ≤ 122)
def isW (n : Int) : Bool := isL n || isD n
theorem isW_high {n : Int} (h : 128 ≤ n) : isW n = false := by unfold isW isL isD; simp; omega
theorem iIsLetter (n : Int) (w : World) : Calls Try.prog 50 #[.int .i32 n] w fun e w' => e = .returned (.bool (isL n)) ∧ w' = w := by
  unfold isL
  go_enter Try.func50, Try.ntmps50
  go_wp2
  all_goals go_ret
  all_goals (refine ⟨?_, rfl⟩; first | rfl | (simp; omega) | (simp_all; done) | (simp_all; omega))
theorem iIsDigit (n : Int) (w : World) : Calls Try.prog 62 #[.int .i32 n] w fun e w' => e = .returned (.bool (isD n)) ∧ w' = w := by
  unfold isD
  go_enter Try.func62, Try.ntmps62
  go_wp2
  all_goals go_ret
  all_goals (refine ⟨?_, rfl⟩; first | rfl | (simp; omega) | (simp_all; done) | (simp_all; omega))
theorem sLetter (n : Int) (w : World) : Calls Try.prog 59 #[.int .u8 n] w fun e w' => e = .returned (.bool (isL n)) ∧ w' = w := by
  unfold isL
  go_enter Try.func59, Try.ntmps59
  go_wp2
  all_goals go_ret
  all_goals (refine ⟨?_, rfl⟩; first | rfl | (simp; omega) | (simp_all; done) | (simp_all; omega))
theorem sDigit (n : Int) (w : World) : Calls Try.prog 58 #[.int .u8 n] w fun e w' => e = .returned (.bool (isD n)) ∧ w' = w := by
  unfold isD
  go_enter Try.func58, Try.ntmps58
  go_wp2
  all_goals go_ret
  all_goals (refine ⟨?_, rfl⟩; first | rfl | (simp; omega) | (simp_all; done) | (simp_all; omega))
theorem iBegins (n : Int) (w : World) : Calls Try.prog 51 #[.int .i32 n] w fun e w' => e = .returned (.bool (isW n)) ∧ w' = w := by
  have L := hd (iIsLetter n)
  have D := hd (iIsDigit n)
  unfold isW
  generalize isL n = l at *
  generalize isD n = d at *
  go_enter Try.func51, Try.ntmps51
  go_wp2_with fail
  refine (L.out _).mono ?_
  rintro e w1 ⟨rfl, rfl⟩
  cases l
  · go_wp2_with fail
    refine (D.out _).mono ?_
    rintro e w1 ⟨rfl, rfl⟩
    go_wp2
    go_ret
    exact ⟨rfl, rfl⟩
  · go_wp2
    go_ret
    exact ⟨rfl, rfl⟩
end Go.Proofs.Ytafpjgojmpjajaa
