/- The value of a literal, by the program. Conditions: the library's tables and its handle of errors are there. Nothing that was there is written. -/
import Derived.Test.YtnjdcaidoffhbaaGreatDoorZX
import Derived.Test.YtnjdcaidoffhbaaGreatDoorZP
import Derived.Test.YtnjdcaidoffhbaaGreatDoorKY
import Derived.Test.YtnjdcaidoffhbaaGreatDoorFU
import Derived.Test.YtnjdcaidoffhbaaGreatDoorFH
import Derived.Test.YtnjdcaidoffhbaaGreatDoorNL
namespace Go.Proofs.YtnjdcaidoffhbaaGreatDoor
open Go.RowKit
set_option linter.unusedVariables false
set_option maxRecDepth 100000

/-- top and bottom of decimals taken times a power of ten -/
def dfA (v : Nat) (E : Int) : Nat := if E < 0 then v else v * 10 ^ E.toNat
def dfB (E : Int) : Nat := if E < 0 then 10 ^ (-E).toNat else 1
theorem dfB_ne (E : Int) : dfB E ≠ 0 := by
  unfold dfB
  split
  · exact Nat.pos_iff_ne_zero.1 (Nat.pow_pos (by decide))
  · decide
theorem tenT {k : Nat} (h : k ≤ 511) : (natL (10 ^ k)).length ≤ 512 := pow_lenT' (by decide) (by omega)
theorem mul_lenT {A B n m : Nat} (hA : (natL A).length ≤ n) (hB : (natL B).length ≤ m) : (natL (A * B)).length ≤ n + m := by
  have h1 := natL_len.1 hA
  have h2 := natL_len.1 hB
  refine natL_len.2 ?_
  rw [Nat.pow_add]
  have hp : 0 < 65536 ^ m := Nat.pow_pos (by omega)
  exact Nat.lt_of_le_of_lt (Nat.mul_le_mul_left A (Nat.le_of_lt h2)) (Nat.mul_lt_mul_of_pos_right h1 hp)
set_option maxHeartbeats 1000000 in
theorem iTenPowT (k : Nat) (hk : k ≤ 511) (w : World) : Calls Tryz.prog 34 #[.int .i64 (k : Int)] w fun e w' => (∃ av cv, e = .returned (.slice av (natL (10 ^ k)).length cv) ∧ OI w' w.heap.size av cv (natL (10 ^ k))) ∧ Below w.heap.size w w' := by
  have e10 : natL 10 = [10] := by rw [natL_pos (by decide), show 10 / 65536 = 0 from rfl, natL_zero]; rfl
  have hal : Below w.heap.size w (w.alloc (.cells #[.int .i64 10] 3)) := old_alloc (Below.refl _ _) _
  have hI : InI (w.alloc (.cells #[.int .i64 10] 3)) (some ⟨w.heap.size, 0, none⟩) 1 1 [10] := ⟨rfl, Nat.le_refl _, by decide, fun x hx => by rw [List.mem_singleton] at hx; subst hx; decide, .inr ⟨w.heap.size, 0, rfl, by simp, fun i hi => by obtain rfl : i = 0 := (by omega); simp⟩⟩
  have hv : val [10] = 10 := by rw [← e10, val_natL]
  have P := hd (iPowerT (some ⟨w.heap.size, 0, none⟩) 1 1 [10] k _ hI (by rw [← e10]; exact natOk_natL (Nat.lt_of_lt_of_le (show 10 < 65536 ^ 1 by decide) (Nat.pow_le_pow_right (by decide) (by decide)))) (by rw [hv]; decide) hk)
  rw [hv] at P
  go_enter Tryz.func34, Tryz.ntmps34
  go_wp2_with fail
  refine P.out.mono ?_
  rintro e w1 ⟨⟨av, cv, rfl, O⟩, hb1⟩
  go_wp2
  go_ret
  exact ⟨⟨_, _, rfl, O.mono (by simp)⟩, old_trans hal hb1⟩
def expI (dn' : Bool) (P m : Nat) : Int := (if dn' then -(P : Int) else (P : Int)) - (m : Int)
set_option maxHeartbeats 1000000 in
theorem iExp (ds : ByteArray) (m P : Nat) (dn' : Bool) (w : World) (hm : m ≤ 60) (hP : P ≤ 400) : Calls Tryz.prog 33 #[.agg #[.string ds, .int .i64 (m : Int), .bool dn', .int .i64 (P : Int)]] w fun e w' => e = .returned (.int .i64 (expI dn' P m)) ∧ Below w.heap.size w w' := by
  have K := CS.made w _ rfl #[.string ds, .int .i64 (m : Int), .bool dn', .int .i64 (P : Int)] 40
  have e0 : Below w.heap.size w (w.alloc (.cells #[.string ds, .int .i64 (m : Int), .bool dn', .int .i64 (P : Int)] 40)) := old_alloc (Below.refl _ _) _
  have k1 := K.cell 1 _ rfl
  have k2 := K.cell 2 _ rfl
  have k3 := K.cell 3 _ rfl
  have hmI : (m : Int) ≤ 60 := by omega
  have hPI : (P : Int) ≤ 400 := by omega
  cases dn'
  · have e : expI false P m = (P : Int) - (m : Int) := rfl
    rw [e]
    go_enter Tryz.func33, Tryz.ntmps33
    go_wp2
    go_ret
    exact ⟨rfl, e0⟩
  · have e : expI true P m = -(P : Int) - (m : Int) := rfl
    rw [e]
    go_enter Tryz.func33, Tryz.ntmps33
    go_wp2
    go_ret
    exact ⟨rfl, e0⟩
theorem resVal {W : World} {b : Nat} {v0 v1 v2 : Value} {tmps : Array Value} (h : Cel3 W b v0 v1 v2) (ht : tmps[2]? = some (.pointer (some ⟨b, 0, none⟩))) : (results Tryz.f19 tmps).run Tryz.prog W = .ok (.agg #[v0, v1, v2]) W := by
  obtain ⟨h1, ⟨a0, a1, a2⟩, -⟩ := h
  simp [results, Tryz.results19, go_sem, a0, a1, a2, ht]
/-- a ratio in new memory -/
def RaR (w : World) (base : Nat) (e : Ending) (A B : Nat) : Prop := ∃ av cv av' cv', e = .returned (.agg #[.bool false, .slice av (natL A).length cv, .slice av' (natL B).length cv']) ∧ OI w base av cv (natL A) ∧ OI w base av' cv' (natL B)
set_option maxRecDepth 100000 in
set_option maxHeartbeats 4000000 in
theorem iValue (ds : ByteArray) (m P : Nat) (dn' : Bool) (w : World) (hds : ds.size ≤ 60) (hdg : ∀ i, i < ds.size → isD (byt ds i) = true) (hm : m ≤ 60) (hP : P ≤ 400) :
    Calls Tryz.prog 19 #[.agg #[.string ds, .int .i64 (m : Int), .bool dn', .int .i64 (P : Int)]] w fun e w' => RaR w' w.heap.size e (dfA (nv ds ds.size) (expI dn' P m)) (dfB (expI dn' P m)) ∧ Below w.heap.size w w' := by
  have K := (CS.made w _ rfl #[.string ds, .int .i64 (m : Int), .bool dn', .int .i64 (P : Int)] 40).alloc (.cells #[.bool false, .slice none 0 0, .slice none 0 0] 51)
  have R := Cel3.new (w.alloc (.cells #[.string ds, .int .i64 (m : Int), .bool dn', .int .i64 (P : Int)] 40)) (.bool false) (.slice none 0 0) (.slice none 0 0) 51
  simp only [World.size_alloc] at R
  have hB : Below w.heap.size w ((w.alloc (.cells #[.string ds, .int .i64 (m : Int), .bool dn', .int .i64 (P : Int)] 40)).alloc (.cells #[.bool false, .slice none 0 0, .slice none 0 0] 51)) := (by repeat (first | exact Below.refl _ _ | refine Below.drew ?_ | refine old_alloc ?_ _ | refine old_trans ?_ (by assumption)))
  have DO := hd (fun w' => iDigitsOf ds (by omega) hdg w')
  have EX := hd (fun w' => iExp ds m P dn' w' hm hP)
  have hv : (natL (nv ds ds.size)).length ≤ 60 := Nat.le_trans (natL_len.2 (nv_lt ds ds.size)) hds
  obtain ⟨E, hE⟩ : ∃ E, expI dn' P m = E := ⟨_, rfl⟩
  have hE1 : -460 ≤ E ∧ E ≤ 400 := by rw [← hE]; unfold expI; cases dn' <;> simp <;> omega
  rw [hE] at EX ⊢
  generalize nv ds ds.size = v at *
  clear hE hdg
  have k0 := K.cell 0 _ rfl
  have k1 := K.cell 1 _ rfl
  have k2 := K.cell 2 _ rfl
  have k3 := K.cell 3 _ rfl
  go_enter Tryz.func19, Tryz.ntmps19
  generalize hW0 : (w.alloc (.cells #[.string ds, .int .i64 (m : Int), .bool dn', .int .i64 (P : Int)] 40)).alloc (.cells #[.bool false, .slice none 0 0, .slice none 0 0] 51) = W0 at *
  go_wp2_with fail
  clear hW0
  refine (DO.out _).mono ?_
  rintro e w1 ⟨⟨avD, cvD, rfl, O⟩, hb1⟩
  have y0 := R.1
  replace K := K.later hb1
  replace R := R.old hb1
  replace hB := old_trans hB hb1
  clear k0 k1 k2 k3 DO hb1
  have k0 := K.cell 0 _ rfl
  have k1 := K.cell 1 _ rfl
  have k2 := K.cell 2 _ rfl
  have k3 := K.cell 3 _ rfl
  go_wp2_with fail
  refine (EX.out _).mono ?_
  rintro e w2 ⟨rfl, hb2⟩
  replace R := R.old hb2
  replace hB := old_trans hB hb2
  replace O := O.later hb2
  clear k0 k1 k2 k3 K EX hb2
  by_cases hneg : E < 0
  · obtain ⟨k, hk, rfl⟩ : ∃ k : Nat, 0 < k ∧ E = -(k : Int) := ⟨(-E).toNat, by omega, by omega⟩
    have eA : dfA v (-(k : Int)) = v := by unfold dfA; rw [if_pos hneg]
    have eB : dfB (-(k : Int)) = 10 ^ k := by unfold dfB; rw [if_pos hneg]; congr 1; omega
    replace eA := hd eA
    replace eB := hd eB
    have TP := hd (fun w' => iTenPowT k (by omega) w')
    have hkI : (k : Int) ≤ 460 := by omega
    have hk0 : (0 : Int) < (k : Int) := by omega
    clear hE1
    go_wp2_with fail
    refine (TP.out _).mono ?_
    rintro e w3 ⟨⟨avT, cvT, rfl, OT⟩, hb3⟩
    have y1 := R.1
    replace R := R.old hb3
    replace hB := old_trans hB hb3
    replace O := O.later hb3
    clear hb3 TP
    obtain ⟨m1, ⟨m2, m3, m4⟩, m5, m6, m7⟩ := id R
    go_wp2
    exact bodyPost_ret (resVal (R.setAll (.bool false) (.slice avD (natL v).length cvD) (.slice avT (natL (10 ^ k)).length cvT)) rfl) rfl ⟨(by rw [eA.out, eB.out]; exact ⟨_, _, _, _, rfl, (oi_set3 O y0).mono (by omega), (oi_set3 OT y1).mono (by omega)⟩), below_set (below_set (below_set hB (by omega) _) (by omega) _) (by omega) _⟩
  · obtain ⟨k, rfl⟩ := Int.eq_ofNat_of_zero_le (show 0 ≤ E by omega)
    have eA : dfA v (k : Int) = v * 10 ^ k := by unfold dfA; rw [if_neg hneg, Int.toNat_natCast]
    have eB : dfB (k : Int) = 1 := by unfold dfB; rw [if_neg hneg]
    replace eA := hd eA
    replace eB := hd eB
    have TP := hd (fun w' => iTenPowT k (by omega) w')
    have TI := hd (fun a c a' c' m m' w' (o : OI w' m a c (natL v)) (o' : OI w' m' a' c' (natL (10 ^ k))) => iTimes a a' _ _ c c' (natL v) (natL (10 ^ k)) w' o.inI o'.inI (digs_natL _) (digs_natL _) (by omega) (by have := tenT (k := k) (by omega); omega))
    simp only [val_natL] at TI
    have hkI : (k : Int) ≤ 400 := by omega
    clear hE1
    go_wp2_with fail
    refine (TP.out _).mono ?_
    rintro e w3 ⟨⟨avT, cvT, rfl, OT⟩, hb3⟩
    replace R := R.old hb3
    replace hB := old_trans hB hb3
    replace O := O.later hb3
    clear hb3 TP
    go_wp2_with fail
    refine (TI.out _ _ _ _ _ _ _ O OT).mono ?_
    rintro e w4 ⟨⟨avM, cvM, rfl, OM⟩, hb4⟩
    have y1 := R.1
    replace R := R.old hb4
    replace hB := old_trans hB hb4
    clear hb4 TI O OT
    go_wp2_with fail
    refine (iWhole false avM (natL (v * 10 ^ k)).length cvM _).mono ?_
    rintro e w5 ⟨⟨avW, cvW, rfl, OW⟩, hb5⟩
    have y2 := R.1
    replace R := R.old hb5
    replace hB := old_trans hB hb5
    replace OM := OM.later hb5
    clear hb5
    obtain ⟨m1, ⟨m2, m3, m4⟩, m5, m6, m7⟩ := id R
    go_wp2
    exact bodyPost_ret (resVal (R.setAll (.bool false) (.slice avM (natL (v * 10 ^ k)).length cvM) (.slice avW (natL 1).length cvW)) rfl) rfl ⟨(by rw [eA.out, eB.out]; exact ⟨_, _, _, _, rfl, (oi_set3 OM (by omega)).mono (by omega), (oi_set3 OW y2).mono (by omega)⟩), below_set (below_set (below_set hB (by omega) _) (by omega) _) (by omega) _⟩
end Go.Proofs.YtnjdcaidoffhbaaGreatDoor
