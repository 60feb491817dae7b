/- Four pairs in memory are there behind what writes nothing old. -/
import Derived.Test.YtdmnfcmngcmleaaR9
import Derived.Deep.RegionHeld3
namespace Go.Proofs.Ytdmnfcmngcmleaa
open Go.RowKit

theorem four_old {w' w'' : World} {B1 B2 B3 B4 : Nat} {x1 y1 x2 y2 x3 y3 x4 y4 : Int} (hS : w'.cell? ⟨B1, 0, none⟩ = some (.int .i64 x1) ∧ w'.cell? ⟨B1, 1, none⟩ = some (.int .i64 y1) ∧ w'.cell? ⟨B2, 0, none⟩ = some (.int .i64 x2) ∧ w'.cell? ⟨B2, 1, none⟩ = some (.int .i64 y2) ∧ w'.cell? ⟨B3, 0, none⟩ = some (.int .i64 x3) ∧ w'.cell? ⟨B3, 1, none⟩ = some (.int .i64 y3) ∧ w'.cell? ⟨B4, 0, none⟩ = some (.int .i64 x4) ∧ w'.cell? ⟨B4, 1, none⟩ = some (.int .i64 y4)) (k : Below w'.heap.size w' w'') : w''.cell? ⟨B1, 0, none⟩ = some (.int .i64 x1) ∧ w''.cell? ⟨B1, 1, none⟩ = some (.int .i64 y1) ∧ w''.cell? ⟨B2, 0, none⟩ = some (.int .i64 x2) ∧ w''.cell? ⟨B2, 1, none⟩ = some (.int .i64 y2) ∧ w''.cell? ⟨B3, 0, none⟩ = some (.int .i64 x3) ∧ w''.cell? ⟨B3, 1, none⟩ = some (.int .i64 y3) ∧ w''.cell? ⟨B4, 0, none⟩ = some (.int .i64 x4) ∧ w''.cell? ⟨B4, 1, none⟩ = some (.int .i64 y4) := by
  obtain ⟨a1, a2, a3, a4, a5, a6, a7, a8⟩ := hS
  exact ⟨(k.cell (p := ⟨B1, 0, none⟩) (World.block_lt_of_cell? _ _ a1)).trans a1, (k.cell (p := ⟨B1, 1, none⟩) (World.block_lt_of_cell? _ _ a2)).trans a2, (k.cell (p := ⟨B2, 0, none⟩) (World.block_lt_of_cell? _ _ a3)).trans a3, (k.cell (p := ⟨B2, 1, none⟩) (World.block_lt_of_cell? _ _ a4)).trans a4, (k.cell (p := ⟨B3, 0, none⟩) (World.block_lt_of_cell? _ _ a5)).trans a5, (k.cell (p := ⟨B3, 1, none⟩) (World.block_lt_of_cell? _ _ a6)).trans a6, (k.cell (p := ⟨B4, 0, none⟩) (World.block_lt_of_cell? _ _ a7)).trans a7, (k.cell (p := ⟨B4, 1, none⟩) (World.block_lt_of_cell? _ _ a8)).trans a8⟩
end Go.Proofs.Ytdmnfcmngcmleaa
