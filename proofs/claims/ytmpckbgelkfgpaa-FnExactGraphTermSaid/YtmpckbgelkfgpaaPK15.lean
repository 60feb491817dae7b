/- Nodes of graphs as keys of a map. No condition. -/
import Derived.Test.YtmpckbgelkfgpaaPK03
import Derived.Test.YtmpckbgelkfgpaaPK14
import Derived.DeepKeys4
namespace Go.Proofs.Ytmpckbgelkfgpaa
open Go.RowKit
set_option linter.unusedVariables false
set_option maxRecDepth 100000

theorem gnWide : (match Try.prog.underlying 149 with | some (.array _ _) | some (.struct _) => true | _ => false) = true := by kernel_rfl
theorem seatLaid : laidOutB Try.prog = true := by kernel_rfl
theorem gnLaw : WideMaps.KeyLaw Try.prog 149 := deep_law_laid seatLaid (m := 3) (by omega) (of_decide_eq_true (by kernel_rfl)) (by kernel_rfl) gnWide
def gv (x : Gn) : Value := .agg #[.int .i64 x.k, .int .i64 x.u, .int .i64 x.v, .int .i64 x.n, .string x.s]
def gk (x : Gn) : Lit := .string (keyBytes [.int .i64 x.k, .int .i64 x.u, .int .i64 x.v, .int .i64 x.n, .string x.s.data.toList])
theorem seatTypes : Try.prog.types.size = 221 := by kernel_rfl
theorem gnKeyType : Try.prog.keyType 149 = true := by kernel_rfl
theorem gnCells : Try.prog.cellsOf 149 = 5 := by kernel_rfl
theorem intCells : Try.prog.cellsOf 3 = 1 := by kernel_rfl
theorem strCells : Try.prog.cellsOf 9 = 1 := by kernel_rfl
theorem kInt (d : Nat) (n : Int) (h : (Lit.int .i64 n).wf = true) : Try.prog.keyLits (d + 1) 3 [.int .i64 n] = some [.int .i64 n] := by
  unfold Program.keyLits
  simp [Try.underlying3, h]
theorem kStr (d : Nat) (s : ByteArray) (h : s.size ≤ maxLen) : Try.prog.keyLits (d + 1) 9 [.string s] = some [.string s.data.toList] := by
  unfold Program.keyLits
  simp [Try.underlying9, h]
theorem gnKey (x : Gn) (h : x.fit) : keyOf Try.prog 149 (gv x) = some (gk x) := by
  obtain ⟨h0, h1, h2, h3, h4⟩ := h
  have w0 := WalkArith.wf_i64 h0
  have w1 := WalkArith.wf_i64 h1
  have w2 := WalkArith.wf_i64 h2
  have w3 := WalkArith.wf_i64 h3
  unfold keyOf gv gk
  simp only [Try.underlying149]
  rw [if_pos (by simp [gnKeyType, Value.formed, Try.underlying149, gnCells]), seatTypes]
  unfold Program.keyLits
  simp [Try.underlying149, Value.cells, gnCells, intCells, strCells]
  obtain ⟨d, hd⟩ : ∃ d : Nat, 221 = d + 1 := ⟨_, rfl⟩
  rw [hd, kInt _ _ w0, kInt _ _ w1, kInt _ _ w2, kInt _ _ w3, kStr _ _ h4]
  rfl
theorem gk_inj {x y : Gn} (hx : x.fit) (hy : y.fit) (h : gk x = gk y) : x = y := by
  have e := gnLaw.inj (gnKey x hx) ((gnKey y hy).trans (by rw [h]))
  unfold gv at e
  cases x; cases y
  simp at e
  obtain ⟨rfl, rfl, rfl, rfl, rfl⟩ := e
  rfl
end Go.Proofs.Ytmpckbgelkfgpaa
