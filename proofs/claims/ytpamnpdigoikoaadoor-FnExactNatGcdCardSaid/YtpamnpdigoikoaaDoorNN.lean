/- Products, by the specification. Conditions: digits. -/
import Derived.Test.YtpamnpdigoikoaaDoorNM
namespace Go.Proofs.YtpamnpdigoikoaaDoor
open Go.RowKit
set_option linter.unusedVariables false
set_option maxRecDepth 100000

theorem below_dn {B : Nat} {a w : World} (h : Below B a w) (n : Nat) : Below B a (w.drewN n) := ⟨h.os, h.tape, h.output, h.size, h.block⟩
set_option maxHeartbeats 2000000 in
theorem sMul (a b : Option Addr) (la lb ca cb : Nat) (xs ys : List Int) (w : World) (hA : InI w a la ca xs) (hB : InI w b lb cb ys) (hx : digs xs) (hy : digs ys) (hla : la ≤ 524288) (hlb : lb ≤ 524288) :
    Calls Tryd.prog 45 #[.slice a la ca, .slice b lb cb] w fun e w' => (∃ av cv, e = .returned (.slice av (natL (val xs * val ys)).length cv) ∧ OI w' w.heap.size av cv (natL (val xs * val ys))) ∧ Below w.heap.size w w' := by
  have pa := hA.1
  have pb := hB.1
  have hmk := mkInts w (la + lb) (by omega)
  have hr0 := IRow.made w (la + lb) 3
  have hb0 : Below w.heap.size w (w.alloc (.cells (madeCells #[.int .i64 0] ((la + lb) * 1)) 3)) := (Below.refl _ w).alloc (Nat.le_refl _) _
  rw [Int.natCast_add] at hmk
  generalize w.alloc (.cells (madeCells #[.int .i64 0] ((la + lb) * 1)) 3) = w0 at *
  have hend := hd (fun qs h => MulI.all (la := la) (lb := lb) (xs := xs) (ys := ys) (qs := qs) h pa)
  generalize val xs * val ys = V at *
  go_enter Tryd.func45, Tryd.ntmps45
  go_wp2
  go_loopw [6] (fun i wr => ∃ (k : Nat) (qs : List Int), k ≤ la ∧ i = .int .i64 k ∧ MulI la lb k 0 xs ys qs 0 ∧ IRow wr w.heap.size qs ∧ Below w.heap.size w wr) (fun i _ => la - (intOf i).toNat)
  case atStart => exact ⟨0, _, by omega, rfl, MulI.start, hr0, hb0⟩
  case round =>
    obtain ⟨k, qs, hk, rfl, hM, hr, hbw⟩ := hrel
    by_cases hlt : k < la
    · obtain ⟨b1, o1, x, rfl, hb1, ex, -, c1⟩ := (hA.old hbw).at hlt
      have dx := digs_getD hx k
      go_wp2
      go_loopw [7, 8] (fun c i wr => ∃ (j : Nat) (qs : List Int) (cv : Int), j ≤ lb ∧ c = .int .i64 cv ∧ i = .int .i64 j ∧ MulI la lb k j xs ys qs cv ∧ (0 ≤ cv ∧ cv ≤ 65535) ∧ IRow wr w.heap.size qs ∧ Below w.heap.size w wr) (fun _ i _ => lb - (intOf i).toNat)
      case atStart => exact ⟨0, qs, 0, by omega, rfl, rfl, hM, by omega, hr, hbw⟩
      case round =>
        clear hM hr hbw c1 hb1 hmk hr0 hb0 hend
        obtain ⟨j, qs, c, hj, rfl, rfl, hM, hc, hr, hbw⟩ := hrel
        by_cases hjl : j < lb
        · obtain ⟨b2, o2, y, rfl, -, ey, -, c2⟩ := (hB.old hbw).at hjl
          obtain ⟨b1', o1', x', hea, -, ex', -, c1⟩ := (hA.old hbw).at hlt
          obtain ⟨rfl, rfl⟩ : b1 = b1' ∧ o1 = o1' := by injection hea with hea; injection hea with h1 h2; exact ⟨h1, h2⟩
          obtain rfl : x = x' := ex.symm.trans ex'
          clear hea ex'
          obtain ⟨z, ez, d0, d2⟩ := hr.at (k := k + j) (by rw [hM.len]; omega)
          have dy := digs_getD hy j
          have dz := digs_getD hM.dg (k + j)
          rw [ex] at dx
          rw [ey] at dy
          rw [ez] at dz
          have m1 := mul_bd (F := 65535) dx (f := y) (by unfold dig at dy; omega) (by unfold dig at dy; omega)
          unfold dig at dx dy dz
          have m0 : 0 ≤ x * y := Int.mul_nonneg dx.1 dy.1
          have hst := hM.step hx hy hlt hjl pb (z + x * y + c) ((z + x * y + c) % 65536) ((z + x * y + c) / 65536) (by rw [ez, ex, ey]; omega) (by unfold dig; omega) (by omega)
          have cb2 : 0 ≤ (z + x * y + c) / 65536 ∧ (z + x * y + c) / 65536 ≤ 65535 := by omega
          have hset := hr.set (k + j) (by rw [hM.len]; omega) ((z + x * y + c) % 65536)
          have hst' := hd hst
          clear hM hr hst
          have hcb' := hd cb2
          clear cb2
          go_wp2_with fail
          go_quiet (fail)
          go_wp2
          go_roundw
          case rel => exact ⟨j + 1, _, _, by omega, rfl, by go_num, hst'.out, hcb'.out, hset, (below_dn hbw nq).setCell (p := ⟨w.heap.size, k + j, none⟩) (Nat.le_refl _) _⟩
          case measure => simp [intOf]; omega
        · obtain rfl : j = lb := by omega
          obtain ⟨z, ez, d0, d2⟩ := hr.at (k := k + j) (by rw [hM.len]; omega)
          have hst' := hd (hM.next hx hlt pb (by unfold dig; omega))
          have hset := hr.set (k + j) (by rw [hM.len]; omega) c
          clear hM hr
          go_wp2
          go_roundw
          case rel => exact ⟨k + 1, _, by omega, by go_num, hst'.out, hset, hbw.setCell (p := ⟨w.heap.size, k + j, none⟩) (Nat.le_refl _) _⟩
          case measure => simp [intOf]; omega
    · obtain rfl : k = la := by omega
      have hv := hend.out qs hM
      have hq1 := hM.len
      have O : OI wr w.heap.size (some ⟨w.heap.size, 0, none⟩) (k + lb) qs := ⟨digs_fits hM.dg, by omega, by unfold maxLen; omega, .inr ⟨_, rfl, Nat.le_refl _, hr⟩⟩
      have T := hd (sTrim _ _ _ _ _ O.inI hM.dg (by omega))
      rw [hv, hq1] at T
      have hsz := hbw.size
      clear hM hr hmk O hr0 hb0 hv hA hB hend hq1
      go_wp2_with fail
      refine T.out.mono ?_
      rintro e w1 ⟨⟨av, cv, rfl, hO⟩, hb1⟩
      go_wp2
      go_ret
      exact ⟨⟨_, _, rfl, hO.mono hsz⟩, old_trans hbw hb1⟩
end Go.Proofs.YtpamnpdigoikoaaDoor
