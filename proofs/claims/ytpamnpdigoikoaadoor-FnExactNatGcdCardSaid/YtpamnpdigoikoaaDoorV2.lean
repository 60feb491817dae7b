/- The specification's quotient and rest: new lists that share no memory. Conditions: numbers, the second not 0, 2^16 digits at most. -/
import Derived.Test.YtpamnpdigoikoaaDoorV1
namespace Go.Proofs.YtpamnpdigoikoaaDoor
open Go.RowKit
set_option linter.unusedVariables false
set_option maxRecDepth 100000

theorem one_digit {ys : List Int} {d : Int} (h : ys.length = 1) (e : ys.getD 0 0 = d) (hd : dig d) : val ys = d.toNat := by
  match ys, h with
  | [y], _ =>
    simp at e
    subst e
    rw [val_cons, val_nil]; omega
set_option maxRecDepth 100000 in
set_option maxHeartbeats 4000000 in
theorem sDiv (a b : Option Addr) (la lb ca cb : Nat) (xs ys : List Int) (w : World) (hA : InI w a la ca xs) (hB : InI w b lb cb ys) (hx : digs xs) (hy : digs ys) (tx : topped xs) (ty : topped ys) (hla : la ≤ 65536) (hlb : lb ≤ 65536) (h0 : 0 < lb) :
    Calls Tryd.prog 76 #[.slice a la ca, .slice b lb cb] w fun e w' => (∃ av cv av2 cv2, e = .returned (.tuple #[.slice av (natL (val xs / val ys)).length cv, .slice av2 (natL (val xs % val ys)).length cv2]) ∧ OI w' w.heap.size av cv (natL (val xs / val ys)) ∧ OI w' w.heap.size av2 cv2 (natL (val xs % val ys)) ∧ Sep av av2) ∧ Below w.heap.size w w' := by
  have pa := hA.1
  have pb := hB.1
  by_cases hlt : val xs < val ys
  · have C := hd (sCmp a b la lb ca cb xs ys w hA hB hx hy tx ty)
    rw [cmpI_lt hlt] at C
    rw [Nat.div_eq_of_lt hlt, Nat.mod_eq_of_lt hlt, natL_zero]
    have T := hd (fun w' (h : Below w.heap.size w w') => sTrim a la ca xs w' (hA.old h) hx (by omega))
    clear hlt
    generalize natL (val xs) = ql at *
    go_enter Tryd.func76, Tryd.ntmps76
    go_wp2_with fail
    refine C.out.mono ?_
    rintro e w1 ⟨rfl, hb1⟩
    go_wp2_with fail
    refine (T.out _ hb1).mono ?_
    rintro e w2 ⟨⟨av, cv, rfl, hO⟩, hb2⟩
    go_wp2
    go_ret2
    exact ⟨⟨none, 0, av, cv, rfl, OI.none _ _, hO.mono hb1.size, Sep.none _⟩, old_trans hb1 hb2⟩
  by_cases h2 : 2 ≤ lb
  · exact sDivLong a b la lb ca cb xs ys w hA hB hx hy tx ty hla hlb h2 (by omega)
  · obtain rfl : lb = 1 := by omega
    obtain ⟨bb, ob, t, rfl, hbl, ht, -, ct⟩ := hB.at (k := 0) (by omega)
    have dt := digs_getD hy 0
    have ht0 := ty.resolve_left (by omega)
    rw [pb] at ht0
    rw [show 1 - 1 = 0 from rfl] at ht0
    rw [ht] at dt ht0
    have hv := one_digit pb ht dt
    unfold dig at dt
    obtain ⟨d, rfl⟩ := Int.eq_ofNat_of_zero_le dt.1
    rw [Int.toNat_natCast] at hv
    have C := hd (sCmp a (some ⟨bb, ob, none⟩) la 1 ca cb xs ys w hA hB hx hy tx ty)
    have hc0 : ¬ cmpI (val xs) (val ys) < 0 := by unfold cmpI; rw [if_neg (by omega)]; split <;> omega
    rw [hv] at hlt C hc0 ⊢
    have D := hd (fun w' (h : Below w.heap.size w w') => sDivSmall a la ca xs d w' (hA.old h) hx (by omega) (by omega) (by omega))
    have hr : val xs % d < 65536 := by have := Nat.mod_lt (val xs) (show 0 < d by omega); omega
    have E := hd (fun w' => sNatOf (val xs % d) (by omega) w')
    have hwx : IntKind.u64.wrap ((val xs % d : Nat) : Int) = ((val xs % d : Nat) : Int) := by
      generalize val xs % d = rr at *
      simp [IntKind.wrap, IntKind.bits, IntKind.signed]; omega
    generalize val xs % d = rr at *
    generalize val xs / d = qq at *
    have hr' : ((rr : Nat) : Int) < 65536 := by omega
    have hr0 : 0 ≤ ((rr : Nat) : Int) := by omega
    generalize cmpI (val xs) d = cc at *
    clear hlt h2 hr
    generalize ((rr : Nat) : Int) = rI at *
    go_enter Tryd.func76, Tryd.ntmps76
    go_wp2_with fail
    refine C.out.mono ?_
    rintro e w1 ⟨rfl, hb1⟩
    have ct := (hb1.cell (p := ⟨bb, ob + 0, none⟩) hbl).trans ct
    rw [Nat.add_zero] at ct
    go_wp2_with fail
    refine (D.out _ hb1).mono ?_
    rintro e w2 ⟨⟨av, cv, rfl, hO⟩, hb2⟩
    go_wp2_with fail
    refine (E.out _).mono ?_
    rintro e w3 ⟨⟨av3, cv3, rfl, hO3⟩, hb3⟩
    go_wp2
    go_ret2
    have s1 := hb1.size
    have s2 := hb2.size
    exact ⟨⟨av, cv, av3, cv3, rfl, (hO.later hb3).mono s1, hO3.mono (by omega), OI.sepOf hO hO3 (Nat.le_refl _)⟩, old_trans (old_trans hb1 hb2) hb3⟩
end Go.Proofs.YtpamnpdigoikoaaDoor
