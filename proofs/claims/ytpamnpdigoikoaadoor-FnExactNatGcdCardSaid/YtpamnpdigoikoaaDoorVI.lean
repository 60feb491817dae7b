/- The greatest common divisor, by the specification: by rests. Conditions: numbers, 2^16 digits at most. -/
import Derived.Test.YtpamnpdigoikoaaDoorV2
import Derived.Deep.LoopGhost
namespace Go.Proofs.YtpamnpdigoikoaaDoor
open Go.RowKit
set_option linter.unusedVariables false
set_option maxRecDepth 100000

set_option maxRecDepth 100000 in
set_option maxHeartbeats 4000000 in
theorem sGcd (a b : Option Addr) (la lb ca cb : Nat) (xs ys : List Int) (w : World) (hA : InI w a la ca xs) (hB : InI w b lb cb ys) (hx : digs xs) (hy : digs ys) (hla : la ≤ 65536) (hlb : lb ≤ 65536) :
    Calls Tryd.prog 48 #[.slice a la ca, .slice b lb cb] w fun e w' => (∃ av cv, e = .returned (.slice av (natL (Nat.gcd (val xs) (val ys))).length cv) ∧ OI w' w.heap.size av cv (natL (Nat.gcd (val xs) (val ys)))) ∧ Below w.heap.size w w' := by
  have pa := hA.1
  have pb := hB.1
  have T1 := hd (sTrim a la ca xs w hA hx (by omega))
  have T2 := hd (fun w' (h : Below w.heap.size w w') => sTrim b lb cb ys w' (hB.old h) hy (by omega))
  have l1 : Hid ((natL (val xs)).length ≤ 65536) := by
    have := natL_len.2 (val_lt hx)
    show _ ≤ _
    omega
  have l2 : Hid ((natL (val ys)).length ≤ 65536) := by
    have := natL_len.2 (val_lt hy)
    show _ ≤ _
    omega
  obtain ⟨G, hG⟩ : ∃ G, G = Nat.gcd (val xs) (val ys) := ⟨_, rfl⟩
  rw [← hG]
  have hG' := hd hG
  clear hG hx hy
  go_enter Tryd.func48, Tryd.ntmps48
  go_wp2_with fail
  refine T1.out.mono ?_
  rintro e w1 ⟨⟨av, cv, rfl, hO⟩, hb1⟩
  go_wp2_with fail
  refine (T2.out _ hb1).mono ?_
  rintro e w2 ⟨⟨av2, cv2, rfl, hO2⟩, hb2⟩
  have hO1 := hO.later hb2
  have hO2' := hO2.mono hb1.size
  have hBB := old_trans hb1 hb2
  clear T1 T2 hO hO2 hb1 hb2
  go_wp2_with fail
  go_loopg [5, 6] (val ys) (fun k s t wr => ∃ (u : Nat) (av : Option Addr) (cv : Nat) (av2 : Option Addr) (cv2 : Nat), s = .slice av (natL u).length cv ∧ t = .slice av2 (natL k).length cv2 ∧ OI wr w.heap.size av cv (natL u) ∧ OI wr w.heap.size av2 cv2 (natL k) ∧ Nat.gcd u k = G ∧ (natL u).length ≤ 65536 ∧ (natL k).length ≤ 65536 ∧ Below w.heap.size w wr)
  case atStart => exact ⟨val xs, av, cv, av2, cv2, rfl, rfl, hO1, hO2', hG'.out.symm, l1.out, l2.out, hBB⟩
  case round =>
    clear hO1 hO2' hBB
    obtain ⟨u, av3, cv3, av4, cv4, rfl, rfl, hOu, hOk, hg, lu, lk, hB9⟩ := hrel
    by_cases h0 : gk = 0
    · subst h0
      have hgu : Hid (u = G) := by show _ = _; rw [← hg, Nat.gcd_zero_right]
      have e0 : natL 0 = [] := natL_zero
      rw [e0] at hOk
      rw [e0]
      clear hg lk
      go_wp2
      go_ret
      have h9 : u = G := hgu.out
      subst h9
      exact ⟨⟨_, _, rfl, hOu⟩, hB9⟩
    · have hkp : 0 < (natL gk).length := natL_length_pos (by omega)
      have D := hd (sDiv av3 av4 _ _ cv3 cv4 _ _ wr hOu.inI hOk.inI (digs_natL u) (digs_natL gk) (topped_natL u) (topped_natL gk) lu lk hkp)
      rw [val_natL, val_natL] at D
      have hml := Nat.mod_lt u (show 0 < gk by omega)
      have hl9 := hd (Nat.le_trans (natL_le (Nat.le_of_lt hml)) lk)
      have hg9 : Hid (Nat.gcd gk (u % gk) = G) := by
        show _ = _
        rw [← hg, Nat.gcd_comm u gk, Nat.gcd_rec gk u, Nat.gcd_comm (u % gk) gk]
      have hml' := hd hml
      have lk' := hd lk
      have hpi : (0 : Int) < ((natL gk).length : Int) := by omega
      clear hml hg lu lk h0 hkp
      generalize natL (u / gk) = ql at *
      go_wp2_with fail
      refine D.out.mono ?_
      rintro e w3 ⟨⟨avq, cvq, avr, cvr, rfl, hOq, hOr, -⟩, hb3⟩
      have sB := hB9.size
      go_wp2_with fail
      go_roundg (u % gk)
      case measure => exact hml'.out
      case rel => exact ⟨gk, av4, cv4, avr, cvr, rfl, rfl, hOk.later hb3, hOr.mono sB, hg9.out, lk'.out, hl9.out, old_trans hB9 hb3⟩
end Go.Proofs.YtpamnpdigoikoaaDoor
