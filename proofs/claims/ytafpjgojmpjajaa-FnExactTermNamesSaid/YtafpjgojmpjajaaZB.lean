/- The language's own words, of both sides; nothing is written. No condition. -/
import Derived.Test.YtafpjgojmpjajaaZA
namespace Go.Proofs.Ytafpjgojmpjajaa
open Go.RowKit
set_option linter.unusedVariables false
set_option maxRecDepth 100000

def ownKind (s : ByteArray) : Option Int := if s.toList = [100, 101, 102] then some 0 else if s.toList = [118, 97, 114] then some 0 else if s.toList = [115, 113, 114, 116] then some 9 else if s.toList = [97, 98, 115] then some 10 else if s.toList = [109, 105, 110] then some 11 else if s.toList = [109, 97, 120] then some 12 else none
def isOwn (s : ByteArray) : Bool := (ownKind s).isSome
theorem of_toList {s : ByteArray} {l : List UInt8} (h : s.toList = l) : s = ⟨l.toArray⟩ := by
  obtain ⟨d⟩ := s
  rw [ByteArray.toList_eq] at h
  subst h
  simp
theorem neL {s : ByteArray} {l : List UInt8} (h : ¬ s.toList = l) : (s.toList == l) = false := by simpa using h
theorem neR {s : ByteArray} {l : List UInt8} (h : ¬ s.toList = l) : (l == s.toList) = false := by simp; exact fun e => h e.symm
theorem own_def : ownKind ⟨#[100, 101, 102]⟩ = some 0 := by unfold ownKind; simp [ByteArray.toList_eq]
theorem own_var : ownKind ⟨#[118, 97, 114]⟩ = some 0 := by unfold ownKind; simp [ByteArray.toList_eq]
theorem own_sqrt : ownKind ⟨#[115, 113, 114, 116]⟩ = some 9 := by unfold ownKind; simp [ByteArray.toList_eq]
theorem own_abs : ownKind ⟨#[97, 98, 115]⟩ = some 10 := by unfold ownKind; simp [ByteArray.toList_eq]
theorem own_min : ownKind ⟨#[109, 105, 110]⟩ = some 11 := by unfold ownKind; simp [ByteArray.toList_eq]
theorem own_max : ownKind ⟨#[109, 97, 120]⟩ = some 12 := by unfold ownKind; simp [ByteArray.toList_eq]
theorem own_no {s : ByteArray} (n0 : ¬ s.toList = [100, 101, 102]) (n1 : ¬ s.toList = [118, 97, 114]) (n2 : ¬ s.toList = [115, 113, 114, 116]) (n3 : ¬ s.toList = [97, 98, 115]) (n4 : ¬ s.toList = [109, 105, 110]) (n5 : ¬ s.toList = [109, 97, 120]) : ownKind s = none := by unfold ownKind; rw [if_neg n0, if_neg n1, if_neg n2, if_neg n3, if_neg n4, if_neg n5]
theorem own_cases (s : ByteArray) : s = ⟨#[100, 101, 102]⟩ ∨ s = ⟨#[118, 97, 114]⟩ ∨ s = ⟨#[115, 113, 114, 116]⟩ ∨ s = ⟨#[97, 98, 115]⟩ ∨ s = ⟨#[109, 105, 110]⟩ ∨ s = ⟨#[109, 97, 120]⟩ ∨ (¬ s.toList = [100, 101, 102] ∧ ¬ s.toList = [118, 97, 114] ∧ ¬ s.toList = [115, 113, 114, 116] ∧ ¬ s.toList = [97, 98, 115] ∧ ¬ s.toList = [109, 105, 110] ∧ ¬ s.toList = [109, 97, 120]) := by
  by_cases n0 : s.toList = [100, 101, 102]
  · exact .inl (of_toList n0)
  by_cases n1 : s.toList = [118, 97, 114]
  · exact .inr (.inl (of_toList n1))
  by_cases n2 : s.toList = [115, 113, 114, 116]
  · exact .inr (.inr (.inl (of_toList n2)))
  by_cases n3 : s.toList = [97, 98, 115]
  · exact .inr (.inr (.inr (.inl (of_toList n3))))
  by_cases n4 : s.toList = [109, 105, 110]
  · exact .inr (.inr (.inr (.inr (.inl (of_toList n4)))))
  by_cases n5 : s.toList = [109, 97, 120]
  · exact .inr (.inr (.inr (.inr (.inr (.inl (of_toList n5))))))
  exact .inr (.inr (.inr (.inr (.inr (.inr (⟨n0, n1, n2, n3, n4, n5⟩))))))
set_option maxHeartbeats 1000000 in
theorem sWord (s : ByteArray) (w : World) : Calls Try.prog 47 #[.string s] w fun e w' => e = .returned (.bool (isOwn s)) ∧ w' = w := by
  unfold isOwn
  rcases own_cases s with rfl | rfl | rfl | rfl | rfl | rfl | ⟨n0, n1, n2, n3, n4, n5⟩
  · rw [own_def]
    go_enter Try.func47, Try.ntmps47
    go_wp2
    go_ret
    exact ⟨rfl, rfl⟩
  · rw [own_var]
    go_enter Try.func47, Try.ntmps47
    go_wp2
    go_ret
    exact ⟨rfl, rfl⟩
  · rw [own_sqrt]
    go_enter Try.func47, Try.ntmps47
    go_wp2
    go_ret
    exact ⟨rfl, rfl⟩
  · rw [own_abs]
    go_enter Try.func47, Try.ntmps47
    go_wp2
    go_ret
    exact ⟨rfl, rfl⟩
  · rw [own_min]
    go_enter Try.func47, Try.ntmps47
    go_wp2
    go_ret
    exact ⟨rfl, rfl⟩
  · rw [own_max]
    go_enter Try.func47, Try.ntmps47
    go_wp2
    go_ret
    exact ⟨rfl, rfl⟩
  · rw [own_no n0 n1 n2 n3 n4 n5]
    have m0 := neL n0
    clear n0
    have m1 := neL n1
    clear n1
    have m2 := neL n2
    clear n2
    have m3 := neL n3
    clear n3
    have m4 := neL n4
    clear n4
    have m5 := neL n5
    clear n5
    go_enter Try.func47, Try.ntmps47
    go_wp2
    go_ret
    exact ⟨rfl, rfl⟩
theorem oidx0 (w : World) : (Instr.index 89 (.agg #[.string ⟨#[100, 101, 102]⟩, .int .i64 0, .string ⟨#[118, 97, 114]⟩, .int .i64 0, .string ⟨#[115, 113, 114, 116]⟩, .int .i64 9, .string ⟨#[97, 98, 115]⟩, .int .i64 10, .string ⟨#[109, 105, 110]⟩, .int .i64 11, .string ⟨#[109, 97, 120]⟩, .int .i64 12]) (.int .i64 0)).run Try.prog w = .ok (.agg #[.string ⟨#[100, 101, 102]⟩, .int .i64 0]) w := by kernel_rfl
theorem oidx1 (w : World) : (Instr.index 89 (.agg #[.string ⟨#[100, 101, 102]⟩, .int .i64 0, .string ⟨#[118, 97, 114]⟩, .int .i64 0, .string ⟨#[115, 113, 114, 116]⟩, .int .i64 9, .string ⟨#[97, 98, 115]⟩, .int .i64 10, .string ⟨#[109, 105, 110]⟩, .int .i64 11, .string ⟨#[109, 97, 120]⟩, .int .i64 12]) (.int .i64 1)).run Try.prog w = .ok (.agg #[.string ⟨#[118, 97, 114]⟩, .int .i64 0]) w := by kernel_rfl
theorem oidx2 (w : World) : (Instr.index 89 (.agg #[.string ⟨#[100, 101, 102]⟩, .int .i64 0, .string ⟨#[118, 97, 114]⟩, .int .i64 0, .string ⟨#[115, 113, 114, 116]⟩, .int .i64 9, .string ⟨#[97, 98, 115]⟩, .int .i64 10, .string ⟨#[109, 105, 110]⟩, .int .i64 11, .string ⟨#[109, 97, 120]⟩, .int .i64 12]) (.int .i64 2)).run Try.prog w = .ok (.agg #[.string ⟨#[115, 113, 114, 116]⟩, .int .i64 9]) w := by kernel_rfl
theorem oidx3 (w : World) : (Instr.index 89 (.agg #[.string ⟨#[100, 101, 102]⟩, .int .i64 0, .string ⟨#[118, 97, 114]⟩, .int .i64 0, .string ⟨#[115, 113, 114, 116]⟩, .int .i64 9, .string ⟨#[97, 98, 115]⟩, .int .i64 10, .string ⟨#[109, 105, 110]⟩, .int .i64 11, .string ⟨#[109, 97, 120]⟩, .int .i64 12]) (.int .i64 3)).run Try.prog w = .ok (.agg #[.string ⟨#[97, 98, 115]⟩, .int .i64 10]) w := by kernel_rfl
theorem oidx4 (w : World) : (Instr.index 89 (.agg #[.string ⟨#[100, 101, 102]⟩, .int .i64 0, .string ⟨#[118, 97, 114]⟩, .int .i64 0, .string ⟨#[115, 113, 114, 116]⟩, .int .i64 9, .string ⟨#[97, 98, 115]⟩, .int .i64 10, .string ⟨#[109, 105, 110]⟩, .int .i64 11, .string ⟨#[109, 97, 120]⟩, .int .i64 12]) (.int .i64 4)).run Try.prog w = .ok (.agg #[.string ⟨#[109, 105, 110]⟩, .int .i64 11]) w := by kernel_rfl
theorem oidx5 (w : World) : (Instr.index 89 (.agg #[.string ⟨#[100, 101, 102]⟩, .int .i64 0, .string ⟨#[118, 97, 114]⟩, .int .i64 0, .string ⟨#[115, 113, 114, 116]⟩, .int .i64 9, .string ⟨#[97, 98, 115]⟩, .int .i64 10, .string ⟨#[109, 105, 110]⟩, .int .i64 11, .string ⟨#[109, 97, 120]⟩, .int .i64 12]) (.int .i64 5)).run Try.prog w = .ok (.agg #[.string ⟨#[109, 97, 120]⟩, .int .i64 12]) w := by kernel_rfl
set_option maxHeartbeats 1000000 in
theorem iOwnWords (w : World) : Calls Try.prog 61 #[] w fun e w' => e = .returned (.agg #[.string ⟨#[100, 101, 102]⟩, .int .i64 0, .string ⟨#[118, 97, 114]⟩, .int .i64 0, .string ⟨#[115, 113, 114, 116]⟩, .int .i64 9, .string ⟨#[97, 98, 115]⟩, .int .i64 10, .string ⟨#[109, 105, 110]⟩, .int .i64 11, .string ⟨#[109, 97, 120]⟩, .int .i64 12]) ∧ Below w.heap.size w w' := by
  go_enter Try.func61, Try.ntmps61
  go_wp2
  refine bodyPost_ret (v := .agg #[.string ⟨#[100, 101, 102]⟩, .int .i64 0, .string ⟨#[118, 97, 114]⟩, .int .i64 0, .string ⟨#[115, 113, 114, 116]⟩, .int .i64 9, .string ⟨#[97, 98, 115]⟩, .int .i64 10, .string ⟨#[109, 105, 110]⟩, .int .i64 11, .string ⟨#[109, 97, 120]⟩, .int .i64 12]) ?_ rfl ⟨rfl, (by repeat (first | with_reducible exact Below.refl _ _ | with_reducible refine Below.drew ?_ | ((with_reducible refine Below.setCell ?_ ?_ _); rotate_left; (focus (first | (simp; done) | omega | (simp; omega)))) | with_reducible refine old_alloc ?_ _ | with_reducible refine old_trans ?_ (by with_reducible assumption)))⟩
  simp [results, Try.results61, go_sem]
theorem resOwn (W : World) (tmps : Array Value) (b : Nat) (x y u : Value) (h : CS W b [x, y]) (hp : tmps.getD 2 undef = .pointer (some ⟨b, 0, none⟩)) (hu : tmps.getD 3 undef = u) :
    (results Try.f49 tmps).run Try.prog W = .ok (.tuple #[.agg #[x, y], u]) W := by
  have c0 := h.cell 0 _ rfl
  have c1 := h.cell 1 _ rfl
  rw [results_cell_tmp (p := 2) (u := 3) (ty := 74) rfl, hp, hu]
  simp [asAddr, go_sem, c0, c1]
set_option maxHeartbeats 2000000 in
theorem iOwn_def (w : World) : Calls Try.prog 49 #[.string ⟨#[100, 101, 102]⟩] w fun e w' => e = .returned (.tuple #[.agg #[.string ⟨#[100, 101, 102]⟩, .int .i64 0], .bool true]) ∧ Below w.heap.size w w' := by
  have i0 := oidx0
  have i1 := oidx1
  have i2 := oidx2
  have i3 := oidx3
  have i4 := oidx4
  have i5 := oidx5
  go_enter Try.func49, Try.ntmps49
  go_wp2_with fail
  refine (iOwnWords _).mono ?_
  rintro e w1 ⟨rfl, hb1⟩
  have K := (CS.made w _ rfl #[.string ⟨#[]⟩, .int .i64 0] 74).later hb1
  have hB : Below w.heap.size w w1 := old_trans (old_alloc (Below.refl _ _) _) hb1
  clear hb1
  have k0 := K.cell 0 _ rfl
  have k1 := K.cell 1 _ rfl
  have z0 := K.froz 0 (by decide)
  have z1 := K.froz 1 (by decide)
  have hlt := K.lt
  have hne : w.heap.size ≠ w1.heap.size := by omega
  go_wp2
  refine wp_loop_rounds 1 ?_
  rw [rounds_succ]
  go_wp2
  have K2 : CS _ _ [_, _] := (K.stored (i := 0) (.string ⟨#[100, 101, 102]⟩) (by decide)).stored (i := 1) (.int .i64 0) (by decide)
  refine bodyPost_ret (v := .tuple #[.agg #[.string ⟨#[100, 101, 102]⟩, .int .i64 0], .bool true]) (resOwn _ _ _ _ _ _ (by first | with_reducible exact K2 | with_reducible exact (K2.alloc _) | with_reducible exact ((K2.alloc _).alloc _) | with_reducible exact (((K2.alloc _).alloc _).alloc _) | with_reducible exact ((((K2.alloc _).alloc _).alloc _).alloc _) | with_reducible exact (((((K2.alloc _).alloc _).alloc _).alloc _).alloc _) | with_reducible exact ((((((K2.alloc _).alloc _).alloc _).alloc _).alloc _).alloc _) | with_reducible exact (((((((K2.alloc _).alloc _).alloc _).alloc _).alloc _).alloc _).alloc _)) rfl rfl) rfl ⟨rfl, (by repeat (first | with_reducible exact hB | with_reducible exact Below.refl _ _ | with_reducible refine Below.drew ?_ | ((with_reducible refine Below.setCell ?_ ?_ _); rotate_left; (focus (first | (simp; done) | omega | (simp; omega)))) | with_reducible refine old_alloc ?_ _ | with_reducible refine old_trans ?_ (by with_reducible assumption)))⟩
set_option maxHeartbeats 2000000 in
theorem iOwn_var (w : World) : Calls Try.prog 49 #[.string ⟨#[118, 97, 114]⟩] w fun e w' => e = .returned (.tuple #[.agg #[.string ⟨#[118, 97, 114]⟩, .int .i64 0], .bool true]) ∧ Below w.heap.size w w' := by
  have i0 := oidx0
  have i1 := oidx1
  have i2 := oidx2
  have i3 := oidx3
  have i4 := oidx4
  have i5 := oidx5
  go_enter Try.func49, Try.ntmps49
  go_wp2_with fail
  refine (iOwnWords _).mono ?_
  rintro e w1 ⟨rfl, hb1⟩
  have K := (CS.made w _ rfl #[.string ⟨#[]⟩, .int .i64 0] 74).later hb1
  have hB : Below w.heap.size w w1 := old_trans (old_alloc (Below.refl _ _) _) hb1
  clear hb1
  have k0 := K.cell 0 _ rfl
  have k1 := K.cell 1 _ rfl
  have z0 := K.froz 0 (by decide)
  have z1 := K.froz 1 (by decide)
  have hlt := K.lt
  have hne : w.heap.size ≠ w1.heap.size := by omega
  go_wp2
  refine wp_loop_rounds 2 ?_
  rw [rounds_succ]
  go_wp2
  clear k0 k1 z0 z1 hlt hne
  have K' := K.alloc (.cells #[.string ⟨#[100, 101, 102]⟩, .int .i64 0] 74)
  have hB' := old_alloc hB (.cells #[.string ⟨#[100, 101, 102]⟩, .int .i64 0] 74)
  clear K hB
  generalize w1.alloc (.cells #[.string ⟨#[100, 101, 102]⟩, .int .i64 0] 74) = w2 at *
  have K := K'
  have hB := hB'
  clear K' hB'
  have k0 := K.cell 0 _ rfl
  have k1 := K.cell 1 _ rfl
  have z0 := K.froz 0 (by decide)
  have z1 := K.froz 1 (by decide)
  have hlt := K.lt
  have hne : w.heap.size ≠ w2.heap.size := by omega
  rw [rounds_succ]
  go_wp2
  have K2 : CS _ _ [_, _] := (K.stored (i := 0) (.string ⟨#[118, 97, 114]⟩) (by decide)).stored (i := 1) (.int .i64 0) (by decide)
  refine bodyPost_ret (v := .tuple #[.agg #[.string ⟨#[118, 97, 114]⟩, .int .i64 0], .bool true]) (resOwn _ _ _ _ _ _ (by first | with_reducible exact K2 | with_reducible exact (K2.alloc _) | with_reducible exact ((K2.alloc _).alloc _) | with_reducible exact (((K2.alloc _).alloc _).alloc _) | with_reducible exact ((((K2.alloc _).alloc _).alloc _).alloc _) | with_reducible exact (((((K2.alloc _).alloc _).alloc _).alloc _).alloc _) | with_reducible exact ((((((K2.alloc _).alloc _).alloc _).alloc _).alloc _).alloc _) | with_reducible exact (((((((K2.alloc _).alloc _).alloc _).alloc _).alloc _).alloc _).alloc _)) rfl rfl) rfl ⟨rfl, (by repeat (first | with_reducible exact hB | with_reducible exact Below.refl _ _ | with_reducible refine Below.drew ?_ | ((with_reducible refine Below.setCell ?_ ?_ _); rotate_left; (focus (first | (simp; done) | omega | (simp; omega)))) | with_reducible refine old_alloc ?_ _ | with_reducible refine old_trans ?_ (by with_reducible assumption)))⟩
set_option maxHeartbeats 2000000 in
theorem iOwn_sqrt (w : World) : Calls Try.prog 49 #[.string ⟨#[115, 113, 114, 116]⟩] w fun e w' => e = .returned (.tuple #[.agg #[.string ⟨#[115, 113, 114, 116]⟩, .int .i64 9], .bool true]) ∧ Below w.heap.size w w' := by
  have i0 := oidx0
  have i1 := oidx1
  have i2 := oidx2
  have i3 := oidx3
  have i4 := oidx4
  have i5 := oidx5
  go_enter Try.func49, Try.ntmps49
  go_wp2_with fail
  refine (iOwnWords _).mono ?_
  rintro e w1 ⟨rfl, hb1⟩
  have K := (CS.made w _ rfl #[.string ⟨#[]⟩, .int .i64 0] 74).later hb1
  have hB : Below w.heap.size w w1 := old_trans (old_alloc (Below.refl _ _) _) hb1
  clear hb1
  have k0 := K.cell 0 _ rfl
  have k1 := K.cell 1 _ rfl
  have z0 := K.froz 0 (by decide)
  have z1 := K.froz 1 (by decide)
  have hlt := K.lt
  have hne : w.heap.size ≠ w1.heap.size := by omega
  go_wp2
  refine wp_loop_rounds 3 ?_
  rw [rounds_succ]
  go_wp2
  clear k0 k1 z0 z1 hlt hne
  have K' := K.alloc (.cells #[.string ⟨#[100, 101, 102]⟩, .int .i64 0] 74)
  have hB' := old_alloc hB (.cells #[.string ⟨#[100, 101, 102]⟩, .int .i64 0] 74)
  clear K hB
  generalize w1.alloc (.cells #[.string ⟨#[100, 101, 102]⟩, .int .i64 0] 74) = w2 at *
  have K := K'
  have hB := hB'
  clear K' hB'
  have k0 := K.cell 0 _ rfl
  have k1 := K.cell 1 _ rfl
  have z0 := K.froz 0 (by decide)
  have z1 := K.froz 1 (by decide)
  have hlt := K.lt
  have hne : w.heap.size ≠ w2.heap.size := by omega
  rw [rounds_succ]
  go_wp2
  clear k0 k1 z0 z1 hlt hne
  have K' := K.alloc (.cells #[.string ⟨#[118, 97, 114]⟩, .int .i64 0] 74)
  have hB' := old_alloc hB (.cells #[.string ⟨#[118, 97, 114]⟩, .int .i64 0] 74)
  clear K hB
  generalize w2.alloc (.cells #[.string ⟨#[118, 97, 114]⟩, .int .i64 0] 74) = w3 at *
  have K := K'
  have hB := hB'
  clear K' hB'
  have k0 := K.cell 0 _ rfl
  have k1 := K.cell 1 _ rfl
  have z0 := K.froz 0 (by decide)
  have z1 := K.froz 1 (by decide)
  have hlt := K.lt
  have hne : w.heap.size ≠ w3.heap.size := by omega
  rw [rounds_succ]
  go_wp2
  have K2 : CS _ _ [_, _] := (K.stored (i := 0) (.string ⟨#[115, 113, 114, 116]⟩) (by decide)).stored (i := 1) (.int .i64 9) (by decide)
  refine bodyPost_ret (v := .tuple #[.agg #[.string ⟨#[115, 113, 114, 116]⟩, .int .i64 9], .bool true]) (resOwn _ _ _ _ _ _ (by first | with_reducible exact K2 | with_reducible exact (K2.alloc _) | with_reducible exact ((K2.alloc _).alloc _) | with_reducible exact (((K2.alloc _).alloc _).alloc _) | with_reducible exact ((((K2.alloc _).alloc _).alloc _).alloc _) | with_reducible exact (((((K2.alloc _).alloc _).alloc _).alloc _).alloc _) | with_reducible exact ((((((K2.alloc _).alloc _).alloc _).alloc _).alloc _).alloc _) | with_reducible exact (((((((K2.alloc _).alloc _).alloc _).alloc _).alloc _).alloc _).alloc _)) rfl rfl) rfl ⟨rfl, (by repeat (first | with_reducible exact hB | with_reducible exact Below.refl _ _ | with_reducible refine Below.drew ?_ | ((with_reducible refine Below.setCell ?_ ?_ _); rotate_left; (focus (first | (simp; done) | omega | (simp; omega)))) | with_reducible refine old_alloc ?_ _ | with_reducible refine old_trans ?_ (by with_reducible assumption)))⟩
set_option maxHeartbeats 2000000 in
theorem iOwn_abs (w : World) : Calls Try.prog 49 #[.string ⟨#[97, 98, 115]⟩] w fun e w' => e = .returned (.tuple #[.agg #[.string ⟨#[97, 98, 115]⟩, .int .i64 10], .bool true]) ∧ Below w.heap.size w w' := by
  have i0 := oidx0
  have i1 := oidx1
  have i2 := oidx2
  have i3 := oidx3
  have i4 := oidx4
  have i5 := oidx5
  go_enter Try.func49, Try.ntmps49
  go_wp2_with fail
  refine (iOwnWords _).mono ?_
  rintro e w1 ⟨rfl, hb1⟩
  have K := (CS.made w _ rfl #[.string ⟨#[]⟩, .int .i64 0] 74).later hb1
  have hB : Below w.heap.size w w1 := old_trans (old_alloc (Below.refl _ _) _) hb1
  clear hb1
  have k0 := K.cell 0 _ rfl
  have k1 := K.cell 1 _ rfl
  have z0 := K.froz 0 (by decide)
  have z1 := K.froz 1 (by decide)
  have hlt := K.lt
  have hne : w.heap.size ≠ w1.heap.size := by omega
  go_wp2
  refine wp_loop_rounds 4 ?_
  rw [rounds_succ]
  go_wp2
  clear k0 k1 z0 z1 hlt hne
  have K' := K.alloc (.cells #[.string ⟨#[100, 101, 102]⟩, .int .i64 0] 74)
  have hB' := old_alloc hB (.cells #[.string ⟨#[100, 101, 102]⟩, .int .i64 0] 74)
  clear K hB
  generalize w1.alloc (.cells #[.string ⟨#[100, 101, 102]⟩, .int .i64 0] 74) = w2 at *
  have K := K'
  have hB := hB'
  clear K' hB'
  have k0 := K.cell 0 _ rfl
  have k1 := K.cell 1 _ rfl
  have z0 := K.froz 0 (by decide)
  have z1 := K.froz 1 (by decide)
  have hlt := K.lt
  have hne : w.heap.size ≠ w2.heap.size := by omega
  rw [rounds_succ]
  go_wp2
  clear k0 k1 z0 z1 hlt hne
  have K' := K.alloc (.cells #[.string ⟨#[118, 97, 114]⟩, .int .i64 0] 74)
  have hB' := old_alloc hB (.cells #[.string ⟨#[118, 97, 114]⟩, .int .i64 0] 74)
  clear K hB
  generalize w2.alloc (.cells #[.string ⟨#[118, 97, 114]⟩, .int .i64 0] 74) = w3 at *
  have K := K'
  have hB := hB'
  clear K' hB'
  have k0 := K.cell 0 _ rfl
  have k1 := K.cell 1 _ rfl
  have z0 := K.froz 0 (by decide)
  have z1 := K.froz 1 (by decide)
  have hlt := K.lt
  have hne : w.heap.size ≠ w3.heap.size := by omega
  rw [rounds_succ]
  go_wp2
  clear k0 k1 z0 z1 hlt hne
  have K' := K.alloc (.cells #[.string ⟨#[115, 113, 114, 116]⟩, .int .i64 9] 74)
  have hB' := old_alloc hB (.cells #[.string ⟨#[115, 113, 114, 116]⟩, .int .i64 9] 74)
  clear K hB
  generalize w3.alloc (.cells #[.string ⟨#[115, 113, 114, 116]⟩, .int .i64 9] 74) = w4 at *
  have K := K'
  have hB := hB'
  clear K' hB'
  have k0 := K.cell 0 _ rfl
  have k1 := K.cell 1 _ rfl
  have z0 := K.froz 0 (by decide)
  have z1 := K.froz 1 (by decide)
  have hlt := K.lt
  have hne : w.heap.size ≠ w4.heap.size := by omega
  rw [rounds_succ]
  go_wp2
  have K2 : CS _ _ [_, _] := (K.stored (i := 0) (.string ⟨#[97, 98, 115]⟩) (by decide)).stored (i := 1) (.int .i64 10) (by decide)
  refine bodyPost_ret (v := .tuple #[.agg #[.string ⟨#[97, 98, 115]⟩, .int .i64 10], .bool true]) (resOwn _ _ _ _ _ _ (by first | with_reducible exact K2 | with_reducible exact (K2.alloc _) | with_reducible exact ((K2.alloc _).alloc _) | with_reducible exact (((K2.alloc _).alloc _).alloc _) | with_reducible exact ((((K2.alloc _).alloc _).alloc _).alloc _) | with_reducible exact (((((K2.alloc _).alloc _).alloc _).alloc _).alloc _) | with_reducible exact ((((((K2.alloc _).alloc _).alloc _).alloc _).alloc _).alloc _) | with_reducible exact (((((((K2.alloc _).alloc _).alloc _).alloc _).alloc _).alloc _).alloc _)) rfl rfl) rfl ⟨rfl, (by repeat (first | with_reducible exact hB | with_reducible exact Below.refl _ _ | with_reducible refine Below.drew ?_ | ((with_reducible refine Below.setCell ?_ ?_ _); rotate_left; (focus (first | (simp; done) | omega | (simp; omega)))) | with_reducible refine old_alloc ?_ _ | with_reducible refine old_trans ?_ (by with_reducible assumption)))⟩
set_option maxHeartbeats 2000000 in
theorem iOwn_min (w : World) : Calls Try.prog 49 #[.string ⟨#[109, 105, 110]⟩] w fun e w' => e = .returned (.tuple #[.agg #[.string ⟨#[109, 105, 110]⟩, .int .i64 11], .bool true]) ∧ Below w.heap.size w w' := by
  have i0 := oidx0
  have i1 := oidx1
  have i2 := oidx2
  have i3 := oidx3
  have i4 := oidx4
  have i5 := oidx5
  go_enter Try.func49, Try.ntmps49
  go_wp2_with fail
  refine (iOwnWords _).mono ?_
  rintro e w1 ⟨rfl, hb1⟩
  have K := (CS.made w _ rfl #[.string ⟨#[]⟩, .int .i64 0] 74).later hb1
  have hB : Below w.heap.size w w1 := old_trans (old_alloc (Below.refl _ _) _) hb1
  clear hb1
  have k0 := K.cell 0 _ rfl
  have k1 := K.cell 1 _ rfl
  have z0 := K.froz 0 (by decide)
  have z1 := K.froz 1 (by decide)
  have hlt := K.lt
  have hne : w.heap.size ≠ w1.heap.size := by omega
  go_wp2
  refine wp_loop_rounds 5 ?_
  rw [rounds_succ]
  go_wp2
  clear k0 k1 z0 z1 hlt hne
  have K' := K.alloc (.cells #[.string ⟨#[100, 101, 102]⟩, .int .i64 0] 74)
  have hB' := old_alloc hB (.cells #[.string ⟨#[100, 101, 102]⟩, .int .i64 0] 74)
  clear K hB
  generalize w1.alloc (.cells #[.string ⟨#[100, 101, 102]⟩, .int .i64 0] 74) = w2 at *
  have K := K'
  have hB := hB'
  clear K' hB'
  have k0 := K.cell 0 _ rfl
  have k1 := K.cell 1 _ rfl
  have z0 := K.froz 0 (by decide)
  have z1 := K.froz 1 (by decide)
  have hlt := K.lt
  have hne : w.heap.size ≠ w2.heap.size := by omega
  rw [rounds_succ]
  go_wp2
  clear k0 k1 z0 z1 hlt hne
  have K' := K.alloc (.cells #[.string ⟨#[118, 97, 114]⟩, .int .i64 0] 74)
  have hB' := old_alloc hB (.cells #[.string ⟨#[118, 97, 114]⟩, .int .i64 0] 74)
  clear K hB
  generalize w2.alloc (.cells #[.string ⟨#[118, 97, 114]⟩, .int .i64 0] 74) = w3 at *
  have K := K'
  have hB := hB'
  clear K' hB'
  have k0 := K.cell 0 _ rfl
  have k1 := K.cell 1 _ rfl
  have z0 := K.froz 0 (by decide)
  have z1 := K.froz 1 (by decide)
  have hlt := K.lt
  have hne : w.heap.size ≠ w3.heap.size := by omega
  rw [rounds_succ]
  go_wp2
  clear k0 k1 z0 z1 hlt hne
  have K' := K.alloc (.cells #[.string ⟨#[115, 113, 114, 116]⟩, .int .i64 9] 74)
  have hB' := old_alloc hB (.cells #[.string ⟨#[115, 113, 114, 116]⟩, .int .i64 9] 74)
  clear K hB
  generalize w3.alloc (.cells #[.string ⟨#[115, 113, 114, 116]⟩, .int .i64 9] 74) = w4 at *
  have K := K'
  have hB := hB'
  clear K' hB'
  have k0 := K.cell 0 _ rfl
  have k1 := K.cell 1 _ rfl
  have z0 := K.froz 0 (by decide)
  have z1 := K.froz 1 (by decide)
  have hlt := K.lt
  have hne : w.heap.size ≠ w4.heap.size := by omega
  rw [rounds_succ]
  go_wp2
  clear k0 k1 z0 z1 hlt hne
  have K' := K.alloc (.cells #[.string ⟨#[97, 98, 115]⟩, .int .i64 10] 74)
  have hB' := old_alloc hB (.cells #[.string ⟨#[97, 98, 115]⟩, .int .i64 10] 74)
  clear K hB
  generalize w4.alloc (.cells #[.string ⟨#[97, 98, 115]⟩, .int .i64 10] 74) = w5 at *
  have K := K'
  have hB := hB'
  clear K' hB'
  have k0 := K.cell 0 _ rfl
  have k1 := K.cell 1 _ rfl
  have z0 := K.froz 0 (by decide)
  have z1 := K.froz 1 (by decide)
  have hlt := K.lt
  have hne : w.heap.size ≠ w5.heap.size := by omega
  rw [rounds_succ]
  go_wp2
  have K2 : CS _ _ [_, _] := (K.stored (i := 0) (.string ⟨#[109, 105, 110]⟩) (by decide)).stored (i := 1) (.int .i64 11) (by decide)
  refine bodyPost_ret (v := .tuple #[.agg #[.string ⟨#[109, 105, 110]⟩, .int .i64 11], .bool true]) (resOwn _ _ _ _ _ _ (by first | with_reducible exact K2 | with_reducible exact (K2.alloc _) | with_reducible exact ((K2.alloc _).alloc _) | with_reducible exact (((K2.alloc _).alloc _).alloc _) | with_reducible exact ((((K2.alloc _).alloc _).alloc _).alloc _) | with_reducible exact (((((K2.alloc _).alloc _).alloc _).alloc _).alloc _) | with_reducible exact ((((((K2.alloc _).alloc _).alloc _).alloc _).alloc _).alloc _) | with_reducible exact (((((((K2.alloc _).alloc _).alloc _).alloc _).alloc _).alloc _).alloc _)) rfl rfl) rfl ⟨rfl, (by repeat (first | with_reducible exact hB | with_reducible exact Below.refl _ _ | with_reducible refine Below.drew ?_ | ((with_reducible refine Below.setCell ?_ ?_ _); rotate_left; (focus (first | (simp; done) | omega | (simp; omega)))) | with_reducible refine old_alloc ?_ _ | with_reducible refine old_trans ?_ (by with_reducible assumption)))⟩
set_option maxHeartbeats 2000000 in
theorem iOwn_max (w : World) : Calls Try.prog 49 #[.string ⟨#[109, 97, 120]⟩] w fun e w' => e = .returned (.tuple #[.agg #[.string ⟨#[109, 97, 120]⟩, .int .i64 12], .bool true]) ∧ Below w.heap.size w w' := by
  have i0 := oidx0
  have i1 := oidx1
  have i2 := oidx2
  have i3 := oidx3
  have i4 := oidx4
  have i5 := oidx5
  go_enter Try.func49, Try.ntmps49
  go_wp2_with fail
  refine (iOwnWords _).mono ?_
  rintro e w1 ⟨rfl, hb1⟩
  have K := (CS.made w _ rfl #[.string ⟨#[]⟩, .int .i64 0] 74).later hb1
  have hB : Below w.heap.size w w1 := old_trans (old_alloc (Below.refl _ _) _) hb1
  clear hb1
  have k0 := K.cell 0 _ rfl
  have k1 := K.cell 1 _ rfl
  have z0 := K.froz 0 (by decide)
  have z1 := K.froz 1 (by decide)
  have hlt := K.lt
  have hne : w.heap.size ≠ w1.heap.size := by omega
  go_wp2
  refine wp_loop_rounds 6 ?_
  rw [rounds_succ]
  go_wp2
  clear k0 k1 z0 z1 hlt hne
  have K' := K.alloc (.cells #[.string ⟨#[100, 101, 102]⟩, .int .i64 0] 74)
  have hB' := old_alloc hB (.cells #[.string ⟨#[100, 101, 102]⟩, .int .i64 0] 74)
  clear K hB
  generalize w1.alloc (.cells #[.string ⟨#[100, 101, 102]⟩, .int .i64 0] 74) = w2 at *
  have K := K'
  have hB := hB'
  clear K' hB'
  have k0 := K.cell 0 _ rfl
  have k1 := K.cell 1 _ rfl
  have z0 := K.froz 0 (by decide)
  have z1 := K.froz 1 (by decide)
  have hlt := K.lt
  have hne : w.heap.size ≠ w2.heap.size := by omega
  rw [rounds_succ]
  go_wp2
  clear k0 k1 z0 z1 hlt hne
  have K' := K.alloc (.cells #[.string ⟨#[118, 97, 114]⟩, .int .i64 0] 74)
  have hB' := old_alloc hB (.cells #[.string ⟨#[118, 97, 114]⟩, .int .i64 0] 74)
  clear K hB
  generalize w2.alloc (.cells #[.string ⟨#[118, 97, 114]⟩, .int .i64 0] 74) = w3 at *
  have K := K'
  have hB := hB'
  clear K' hB'
  have k0 := K.cell 0 _ rfl
  have k1 := K.cell 1 _ rfl
  have z0 := K.froz 0 (by decide)
  have z1 := K.froz 1 (by decide)
  have hlt := K.lt
  have hne : w.heap.size ≠ w3.heap.size := by omega
  rw [rounds_succ]
  go_wp2
  clear k0 k1 z0 z1 hlt hne
  have K' := K.alloc (.cells #[.string ⟨#[115, 113, 114, 116]⟩, .int .i64 9] 74)
  have hB' := old_alloc hB (.cells #[.string ⟨#[115, 113, 114, 116]⟩, .int .i64 9] 74)
  clear K hB
  generalize w3.alloc (.cells #[.string ⟨#[115, 113, 114, 116]⟩, .int .i64 9] 74) = w4 at *
  have K := K'
  have hB := hB'
  clear K' hB'
  have k0 := K.cell 0 _ rfl
  have k1 := K.cell 1 _ rfl
  have z0 := K.froz 0 (by decide)
  have z1 := K.froz 1 (by decide)
  have hlt := K.lt
  have hne : w.heap.size ≠ w4.heap.size := by omega
  rw [rounds_succ]
  go_wp2
  clear k0 k1 z0 z1 hlt hne
  have K' := K.alloc (.cells #[.string ⟨#[97, 98, 115]⟩, .int .i64 10] 74)
  have hB' := old_alloc hB (.cells #[.string ⟨#[97, 98, 115]⟩, .int .i64 10] 74)
  clear K hB
  generalize w4.alloc (.cells #[.string ⟨#[97, 98, 115]⟩, .int .i64 10] 74) = w5 at *
  have K := K'
  have hB := hB'
  clear K' hB'
  have k0 := K.cell 0 _ rfl
  have k1 := K.cell 1 _ rfl
  have z0 := K.froz 0 (by decide)
  have z1 := K.froz 1 (by decide)
  have hlt := K.lt
  have hne : w.heap.size ≠ w5.heap.size := by omega
  rw [rounds_succ]
  go_wp2
  clear k0 k1 z0 z1 hlt hne
  have K' := K.alloc (.cells #[.string ⟨#[109, 105, 110]⟩, .int .i64 11] 74)
  have hB' := old_alloc hB (.cells #[.string ⟨#[109, 105, 110]⟩, .int .i64 11] 74)
  clear K hB
  generalize w5.alloc (.cells #[.string ⟨#[109, 105, 110]⟩, .int .i64 11] 74) = w6 at *
  have K := K'
  have hB := hB'
  clear K' hB'
  have k0 := K.cell 0 _ rfl
  have k1 := K.cell 1 _ rfl
  have z0 := K.froz 0 (by decide)
  have z1 := K.froz 1 (by decide)
  have hlt := K.lt
  have hne : w.heap.size ≠ w6.heap.size := by omega
  rw [rounds_succ]
  go_wp2
  have K2 : CS _ _ [_, _] := (K.stored (i := 0) (.string ⟨#[109, 97, 120]⟩) (by decide)).stored (i := 1) (.int .i64 12) (by decide)
  refine bodyPost_ret (v := .tuple #[.agg #[.string ⟨#[109, 97, 120]⟩, .int .i64 12], .bool true]) (resOwn _ _ _ _ _ _ (by first | with_reducible exact K2 | with_reducible exact (K2.alloc _) | with_reducible exact ((K2.alloc _).alloc _) | with_reducible exact (((K2.alloc _).alloc _).alloc _) | with_reducible exact ((((K2.alloc _).alloc _).alloc _).alloc _) | with_reducible exact (((((K2.alloc _).alloc _).alloc _).alloc _).alloc _) | with_reducible exact ((((((K2.alloc _).alloc _).alloc _).alloc _).alloc _).alloc _) | with_reducible exact (((((((K2.alloc _).alloc _).alloc _).alloc _).alloc _).alloc _).alloc _)) rfl rfl) rfl ⟨rfl, (by repeat (first | with_reducible exact hB | with_reducible exact Below.refl _ _ | with_reducible refine Below.drew ?_ | ((with_reducible refine Below.setCell ?_ ?_ _); rotate_left; (focus (first | (simp; done) | omega | (simp; omega)))) | with_reducible refine old_alloc ?_ _ | with_reducible refine old_trans ?_ (by with_reducible assumption)))⟩
set_option maxHeartbeats 2000000 in
theorem iOwn_no {s : ByteArray} (n0 : ¬ s.toList = [100, 101, 102]) (n1 : ¬ s.toList = [118, 97, 114]) (n2 : ¬ s.toList = [115, 113, 114, 116]) (n3 : ¬ s.toList = [97, 98, 115]) (n4 : ¬ s.toList = [109, 105, 110]) (n5 : ¬ s.toList = [109, 97, 120]) (w : World) : Calls Try.prog 49 #[.string s] w fun e w' => e = .returned (.tuple #[.agg #[.string ⟨#[]⟩, .int .i64 0], .bool false]) ∧ Below w.heap.size w w' := by
  have m0 := neR n0
  clear n0
  have m1 := neR n1
  clear n1
  have m2 := neR n2
  clear n2
  have m3 := neR n3
  clear n3
  have m4 := neR n4
  clear n4
  have m5 := neR n5
  clear n5
  have i0 := oidx0
  have i1 := oidx1
  have i2 := oidx2
  have i3 := oidx3
  have i4 := oidx4
  have i5 := oidx5
  go_enter Try.func49, Try.ntmps49
  go_wp2_with fail
  refine (iOwnWords _).mono ?_
  rintro e w1 ⟨rfl, hb1⟩
  have K := (CS.made w _ rfl #[.string ⟨#[]⟩, .int .i64 0] 74).later hb1
  have hB : Below w.heap.size w w1 := old_trans (old_alloc (Below.refl _ _) _) hb1
  clear hb1
  have k0 := K.cell 0 _ rfl
  have k1 := K.cell 1 _ rfl
  have z0 := K.froz 0 (by decide)
  have z1 := K.froz 1 (by decide)
  have hlt := K.lt
  have hne : w.heap.size ≠ w1.heap.size := by omega
  go_wp2
  refine wp_loop_rounds 7 ?_
  rw [rounds_succ]
  go_wp2
  clear k0 k1 z0 z1 hlt hne
  have K' := K.alloc (.cells #[.string ⟨#[100, 101, 102]⟩, .int .i64 0] 74)
  have hB' := old_alloc hB (.cells #[.string ⟨#[100, 101, 102]⟩, .int .i64 0] 74)
  clear K hB
  generalize w1.alloc (.cells #[.string ⟨#[100, 101, 102]⟩, .int .i64 0] 74) = w2 at *
  have K := K'
  have hB := hB'
  clear K' hB'
  have k0 := K.cell 0 _ rfl
  have k1 := K.cell 1 _ rfl
  have z0 := K.froz 0 (by decide)
  have z1 := K.froz 1 (by decide)
  have hlt := K.lt
  have hne : w.heap.size ≠ w2.heap.size := by omega
  rw [rounds_succ]
  go_wp2
  clear k0 k1 z0 z1 hlt hne
  have K' := K.alloc (.cells #[.string ⟨#[118, 97, 114]⟩, .int .i64 0] 74)
  have hB' := old_alloc hB (.cells #[.string ⟨#[118, 97, 114]⟩, .int .i64 0] 74)
  clear K hB
  generalize w2.alloc (.cells #[.string ⟨#[118, 97, 114]⟩, .int .i64 0] 74) = w3 at *
  have K := K'
  have hB := hB'
  clear K' hB'
  have k0 := K.cell 0 _ rfl
  have k1 := K.cell 1 _ rfl
  have z0 := K.froz 0 (by decide)
  have z1 := K.froz 1 (by decide)
  have hlt := K.lt
  have hne : w.heap.size ≠ w3.heap.size := by omega
  rw [rounds_succ]
  go_wp2
  clear k0 k1 z0 z1 hlt hne
  have K' := K.alloc (.cells #[.string ⟨#[115, 113, 114, 116]⟩, .int .i64 9] 74)
  have hB' := old_alloc hB (.cells #[.string ⟨#[115, 113, 114, 116]⟩, .int .i64 9] 74)
  clear K hB
  generalize w3.alloc (.cells #[.string ⟨#[115, 113, 114, 116]⟩, .int .i64 9] 74) = w4 at *
  have K := K'
  have hB := hB'
  clear K' hB'
  have k0 := K.cell 0 _ rfl
  have k1 := K.cell 1 _ rfl
  have z0 := K.froz 0 (by decide)
  have z1 := K.froz 1 (by decide)
  have hlt := K.lt
  have hne : w.heap.size ≠ w4.heap.size := by omega
  rw [rounds_succ]
  go_wp2
  clear k0 k1 z0 z1 hlt hne
  have K' := K.alloc (.cells #[.string ⟨#[97, 98, 115]⟩, .int .i64 10] 74)
  have hB' := old_alloc hB (.cells #[.string ⟨#[97, 98, 115]⟩, .int .i64 10] 74)
  clear K hB
  generalize w4.alloc (.cells #[.string ⟨#[97, 98, 115]⟩, .int .i64 10] 74) = w5 at *
  have K := K'
  have hB := hB'
  clear K' hB'
  have k0 := K.cell 0 _ rfl
  have k1 := K.cell 1 _ rfl
  have z0 := K.froz 0 (by decide)
  have z1 := K.froz 1 (by decide)
  have hlt := K.lt
  have hne : w.heap.size ≠ w5.heap.size := by omega
  rw [rounds_succ]
  go_wp2
  clear k0 k1 z0 z1 hlt hne
  have K' := K.alloc (.cells #[.string ⟨#[109, 105, 110]⟩, .int .i64 11] 74)
  have hB' := old_alloc hB (.cells #[.string ⟨#[109, 105, 110]⟩, .int .i64 11] 74)
  clear K hB
  generalize w5.alloc (.cells #[.string ⟨#[109, 105, 110]⟩, .int .i64 11] 74) = w6 at *
  have K := K'
  have hB := hB'
  clear K' hB'
  have k0 := K.cell 0 _ rfl
  have k1 := K.cell 1 _ rfl
  have z0 := K.froz 0 (by decide)
  have z1 := K.froz 1 (by decide)
  have hlt := K.lt
  have hne : w.heap.size ≠ w6.heap.size := by omega
  rw [rounds_succ]
  go_wp2
  clear k0 k1 z0 z1 hlt hne
  have K' := K.alloc (.cells #[.string ⟨#[109, 97, 120]⟩, .int .i64 12] 74)
  have hB' := old_alloc hB (.cells #[.string ⟨#[109, 97, 120]⟩, .int .i64 12] 74)
  clear K hB
  generalize w6.alloc (.cells #[.string ⟨#[109, 97, 120]⟩, .int .i64 12] 74) = w7 at *
  have K := K'
  have hB := hB'
  clear K' hB'
  have k0 := K.cell 0 _ rfl
  have k1 := K.cell 1 _ rfl
  have z0 := K.froz 0 (by decide)
  have z1 := K.froz 1 (by decide)
  have hlt := K.lt
  have hne : w.heap.size ≠ w7.heap.size := by omega
  rw [rounds_succ]
  go_wp2
  have K2 : CS _ _ [_, _] := (K.stored (i := 0) (.string ⟨#[]⟩) (by decide)).stored (i := 1) (.int .i64 0) (by decide)
  refine bodyPost_ret (v := .tuple #[.agg #[.string ⟨#[]⟩, .int .i64 0], .bool false]) (resOwn _ _ _ _ _ _ (by first | with_reducible exact K2 | with_reducible exact (K2.alloc _) | with_reducible exact ((K2.alloc _).alloc _) | with_reducible exact (((K2.alloc _).alloc _).alloc _) | with_reducible exact ((((K2.alloc _).alloc _).alloc _).alloc _) | with_reducible exact (((((K2.alloc _).alloc _).alloc _).alloc _).alloc _) | with_reducible exact ((((((K2.alloc _).alloc _).alloc _).alloc _).alloc _).alloc _) | with_reducible exact (((((((K2.alloc _).alloc _).alloc _).alloc _).alloc _).alloc _).alloc _)) rfl rfl) rfl ⟨rfl, (by repeat (first | with_reducible exact hB | with_reducible exact Below.refl _ _ | with_reducible refine Below.drew ?_ | ((with_reducible refine Below.setCell ?_ ?_ _); rotate_left; (focus (first | (simp; done) | omega | (simp; omega)))) | with_reducible refine old_alloc ?_ _ | with_reducible refine old_trans ?_ (by with_reducible assumption)))⟩
def ownV (s : ByteArray) : Value := match ownKind s with | some k => .tuple #[.agg #[.string s, .int .i64 k], .bool true] | none => .tuple #[.agg #[.string ⟨#[]⟩, .int .i64 0], .bool false]
theorem iOwn (s : ByteArray) (w : World) : Calls Try.prog 49 #[.string s] w fun e w' => e = .returned (ownV s) ∧ Below w.heap.size w w' := by
  unfold ownV
  rcases own_cases s with rfl | rfl | rfl | rfl | rfl | rfl | ⟨n0, n1, n2, n3, n4, n5⟩
  · rw [own_def]; exact iOwn_def w
  · rw [own_var]; exact iOwn_var w
  · rw [own_sqrt]; exact iOwn_sqrt w
  · rw [own_abs]; exact iOwn_abs w
  · rw [own_min]; exact iOwn_min w
  · rw [own_max]; exact iOwn_max w
  · rw [own_no n0 n1 n2 n3 n4 n5]; exact iOwn_no n0 n1 n2 n3 n4 n5 w
end Go.Proofs.Ytafpjgojmpjajaa
