/- A fraction as decimals with as few places as there can be, by the program. Condition: the library's table of powers is there. Nothing that was there is written. -/
import Derived.Test.YtmcfdkhkagkhbaaGreatDoorKQ
import Derived.Test.YtmcfdkhkagkhbaaGreatDoorBW
import Derived.Test.YtmcfdkhkagkhbaaGreatDoorBG
namespace Go.Proofs.YtmcfdkhkagkhbaaGreatDoor
open Go.RowKit Go.Lib
set_option linter.unusedVariables false
set_option maxRecDepth 100000

/-- the first power of ten, from 10^k on, that B divides -/
def kfrom (B : Nat) : Nat → Nat → Option Nat
  | 0, _ => none
  | n + 1, k => if 10 ^ k % B = 0 then some k else kfrom B n (k + 1)
def kf (B : Nat) : Option Nat := kfrom B 60 0
theorem kfrom_yes {B k : Nat} (hk : k < 60) (h : 10 ^ k % B = 0) : kfrom B (60 - k) k = some k := by
  obtain ⟨n, hn⟩ : ∃ n, 60 - k = n + 1 := ⟨59 - k, by omega⟩
  rw [hn, kfrom, if_pos h]
theorem kfrom_no {B k : Nat} (hk : k < 60) (h : ¬ 10 ^ k % B = 0) : kfrom B (60 - k) k = kfrom B (60 - (k + 1)) (k + 1) := by
  obtain ⟨n, hn⟩ : ∃ n, 60 - k = n + 1 := ⟨59 - k, by omega⟩
  rw [hn, kfrom, if_neg h, show 60 - (k + 1) = n by omega]
def dcL (T B : Nat) : List UInt8 := match kf B with
  | some k => ptL (decDigits (T * (10 ^ k / B))) k
  | none => []
theorem dcL_some {T B k : Nat} (h : kf B = some k) : dcL T B = ptL (decDigits (T * (10 ^ k / B))) k := by unfold dcL; rw [h]
theorem dcL_none {T B : Nat} (h : kf B = none) : dcL T B = [] := by unfold dcL; rw [h]
theorem ten_len {k : Nat} (h : k ≤ 60) : (natL (10 ^ k)).length ≤ 60 := by
  refine natL_len.2 ?_
  have h1 : (10 : Nat) ^ k ≤ 10 ^ 60 := Nat.pow_le_pow_right (by decide) h
  have h2 : (10 : Nat) ^ 60 < 65536 ^ 60 := Nat.pow_lt_pow_left (by decide) (by decide)
  exact Nat.lt_of_le_of_lt h1 h2
theorem mul_lenD {A B n m : Nat} (hA : (natL A).length ≤ n) (hB : (natL B).length ≤ m) : (natL (A * B)).length ≤ n + m := by
  have h1 := natL_len.1 hA
  have h2 := natL_len.1 hB
  refine natL_len.2 ?_
  rw [Nat.pow_add]
  have hp : 0 < 65536 ^ m := Nat.pow_pos (by omega)
  exact Nat.lt_of_le_of_lt (Nat.mul_le_mul_left A (Nat.le_of_lt h2)) (Nat.mul_lt_mul_of_pos_right h1 hp)
/-- decimals of a number of so many digits -/
theorem dec_few {V n : Nat} (h : (natL V).length ≤ n) (hn : 0 < n) : (decDigits V).length ≤ 16 * n := by
  have h1 := natL_len.1 h
  refine dec_lt (16 * n) V (Nat.lt_of_lt_of_le h1 ?_) (by omega)
  rw [Nat.pow_mul]
  exact Nat.pow_le_pow_left (by decide) n
set_option maxRecDepth 100000 in
set_option maxHeartbeats 8000000 in
theorem iDecimal (bl : Bool) (a b : Option Addr) (ca cb T B : Nat) (w : World) (hA : InI w a (natL T).length ca (natL T)) (hB : InI w b (natL B).length cb (natL B)) (hlA : (natL T).length ≤ 256) (hlB : (natL B).length ≤ 256) (hB0 : B ≠ 0) (hP : P10 w) :
    Calls Tryz.prog 19 #[.agg #[.bool bl, .slice a (natL T).length ca, .slice b (natL B).length cb]] w fun e w' => e = .returned (.string (bt (dcL T B))) ∧ Below w.heap.size w w' := by
  have K := CS.made w _ rfl #[.bool bl, .slice a (natL T).length ca, .slice b (natL B).length cb] 45
  have e0 : Below w.heap.size w (w.alloc (.cells #[.bool bl, .slice a (natL T).length ca, .slice b (natL B).length cb] 45)) := (by repeat (first | exact Below.refl _ _ | refine Below.drew ?_ | refine old_alloc ?_ _ | refine old_trans ?_ (by assumption)))
  have lb0 : 0 < (natL B).length := natL_length_pos (by omega)
  have CU := hd (fun k (hk : k ≤ 60) a' c' m w' (h : Below w.heap.size w w') (o : OI w' m a' c' (natL (10 ^ k))) => iCut a' b _ _ c' cb (natL (10 ^ k)) (natL B) w' o.inI (hB.old h) (digs_natL _) (digs_natL _) (topped_natL _) (by have := ten_len hk; omega) (by omega) lb0)
  have TI := hd (fun q (hq : (natL q).length ≤ 60) a' c' m w' (h : Below w.heap.size w w') (o : OI w' m a' c' (natL q)) => iTimes a a' _ _ ca c' (natL T) (natL q) w' (hA.old h) o.inI (digs_natL _) (digs_natL _) (by omega) (by omega))
  have TX := hd (fun q (hq : (natL q).length ≤ 316) a' c' m w' (h : Below w.heap.size w w') (o : OI w' m a' c' (natL q)) => iText a' c' q w' o.inI (by omega) (hP.old h))
  simp only [val_natL] at CU TI
  have hqs := hd (fun k (hk : k ≤ 60) => show (natL (10 ^ k / B)).length ≤ 60 from Nat.le_trans (natL_le (Nat.div_le_self _ _)) (ten_len hk))
  have hms := hd (fun q (hq : (natL q).length ≤ 60) => show (natL (T * q)).length ≤ 316 from by have := mul_lenD hlA hq; omega)
  clear hA hB hP hlA hlB lb0 hB0
  go_enter Tryz.func19, Tryz.ntmps19
  generalize hW0 : w.alloc (.cells #[.bool bl, .slice a (natL T).length ca, .slice b (natL B).length cb] 45) = W0 at *
  go_wp2_with fail
  clear hW0
  go_loopw [6] (fun i wr => ∃ k : Nat, k ≤ 60 ∧ i = .int .i64 (k : Int) ∧ kf B = kfrom B (60 - k) k ∧ Below W0.heap.size W0 wr) (fun i _ => 60 - (Lib.intOf i).toNat)
  case atStart => exact ⟨0, by omega, rfl, rfl, Below.refl _ _⟩
  case round =>
    obtain ⟨k, hk, rfl, hkf, hb⟩ := hrel
    have hB1 := old_trans e0 hb
    have K1 := K.later hb
    by_cases hlt : k < 60
    · have hkI : (k : Int) < 60 := by omega
      have k0 := K1.cell 0 _ rfl
      have k1 := K1.cell 1 _ rfl
      have k2 := K1.cell 2 _ rfl
      have TP := hd (fun w' => iTenPow k (by omega) w')
      have CK := hd (CU.out k (by omega))
      have hq60 := hqs.out k (by omega)
      by_cases hz : 10 ^ k % B = 0
      · have hks := hkf.trans (kfrom_yes hlt hz)
        have hdc := hd (dcL_some (T := T) hks)
        rw [hz] at CK
        have TK := hd (TI.out _ hq60)
        have hm := hms.out _ hq60
        have TXK := hd (TX.out _ hm)
        obtain ⟨q, hq⟩ : ∃ q, 10 ^ k / B = q := ⟨_, rfl⟩
        rw [hq] at CK TK TXK hdc hm
        have PO := hd (fun w' => iPointed (decDigits (T * q)) k (by omega) (by have := dec_few hm (by decide); omega) w')
        have hb' := hd hb
        clear hz hkf hks CU TI TX hqs hms hq hq60 hm
        go_wp2_with fail
        go_region_held3 (fun w' => w'.cell? ⟨w.heap.size, 0, none⟩ = some (.bool bl) ∧ w'.cell? ⟨w.heap.size, 1, none⟩ = some (.slice a (natL T).length ca) ∧ w'.cell? ⟨w.heap.size, 2, none⟩ = some (.slice b (natL B).length cb)) (go_keep) (first | (go_at_call 41; refine (TP.out _).mono ?_; rintro e w2 ⟨⟨avP, cvP, rfl, O⟩, hb2⟩; have K2 := (by with_reducible first | exact K1.later hb2 | exact K1.drew.later hb2 : CS w2 _ _); have hC2 := (by with_reducible first | exact old_trans hB1 hb2 | exact old_trans hB1.drew hb2 : Below w.heap.size w w2); have hD2 := (by with_reducible first | exact old_trans hb hb2 | exact old_trans hb.drew hb2 : Below W0.heap.size W0 w2); have m0 := K2.cell 0 _ rfl; have m1 := K2.cell 1 _ rfl; have m2 := K2.cell 2 _ rfl; have m3 := K2.lt) | (go_at_call 42; (first | refine (CK.out _ _ _ _ hC2 O).mono ?_ | refine (CK.out _ _ _ _ hC2.drew O.drew).mono ?_); rintro e w3 ⟨⟨avQ, cvQ, avR, cvR, rfl, OQ, OR, -⟩, hb3⟩; have K3 := (by with_reducible first | exact K2.later hb3 | exact K2.drew.later hb3 : CS w3 _ _); have hC3 := (by with_reducible first | exact old_trans hC2 hb3 | exact old_trans hC2.drew hb3 : Below w.heap.size w w3); have hD3 := (by with_reducible first | exact old_trans hD2 hb3 | exact old_trans hD2.drew hb3 : Below W0.heap.size W0 w3); have n0 := K3.cell 0 _ rfl; have n1 := K3.cell 1 _ rfl; have n2 := K3.cell 2 _ rfl; have n3 := K3.lt))
        all_goals
          rw [natL_zero, List.length_nil]
          go_wp2_with fail
          refine (TK.out _ _ _ _ hC3 OQ).mono ?_
          rintro e w4 ⟨⟨avM, cvM, rfl, OM⟩, hb4⟩
          have hC4 := old_trans hC3 hb4
          go_wp2_with fail
          refine (TXK.out _ _ _ _ hC4 OM).mono ?_
          rintro e w5 ⟨rfl, hb5⟩
          have hC5 := old_trans hC4 hb5
          go_wp2_with fail
          refine (PO.out _).mono ?_
          rintro e w6 ⟨rfl, hb6⟩
          go_wp2
          go_ret
          exact ⟨by rw [hdc.out]; rfl, old_trans hC5 hb6⟩
      · have hkn := hd (hkf.trans (kfrom_no hlt hz))
        have rl : 0 < (natL (10 ^ k % B)).length := natL_length_pos (by omega)
        obtain ⟨q, hq⟩ : ∃ q, 10 ^ k / B = q := ⟨_, rfl⟩
        obtain ⟨rr, hr⟩ : ∃ rr, 10 ^ k % B = rr := ⟨_, rfl⟩
        rw [hq, hr] at CK
        rw [hr] at rl
        have rlI : ¬ (((natL rr).length : Int) = 0) := by omega
        have rlb : ((((natL rr).length : Nat) : Int) == 0) = false := by rw [beq_eq_false_iff_ne]; exact rlI
        clear hz hkf CU TI TX hqs hms hq hq60 hr
        go_wp2_with fail
        go_region_held3 (fun w' => w'.cell? ⟨w.heap.size, 0, none⟩ = some (.bool bl) ∧ w'.cell? ⟨w.heap.size, 1, none⟩ = some (.slice a (natL T).length ca) ∧ w'.cell? ⟨w.heap.size, 2, none⟩ = some (.slice b (natL B).length cb)) (go_keep) (first | (go_at_call 41; refine (TP.out _).mono ?_; rintro e w2 ⟨⟨avP, cvP, rfl, O⟩, hb2⟩; have K2 := (by with_reducible first | exact K1.later hb2 | exact K1.drew.later hb2 : CS w2 _ _); have hC2 := (by with_reducible first | exact old_trans hB1 hb2 | exact old_trans hB1.drew hb2 : Below w.heap.size w w2); have hD2 := (by with_reducible first | exact old_trans hb hb2 | exact old_trans hb.drew hb2 : Below W0.heap.size W0 w2); have m0 := K2.cell 0 _ rfl; have m1 := K2.cell 1 _ rfl; have m2 := K2.cell 2 _ rfl; have m3 := K2.lt) | (go_at_call 42; (first | refine (CK.out _ _ _ _ hC2 O).mono ?_ | refine (CK.out _ _ _ _ hC2.drew O.drew).mono ?_); rintro e w3 ⟨⟨avQ, cvQ, avR, cvR, rfl, OQ, OR, -⟩, hb3⟩; have K3 := (by with_reducible first | exact K2.later hb3 | exact K2.drew.later hb3 : CS w3 _ _); have hC3 := (by with_reducible first | exact old_trans hC2 hb3 | exact old_trans hC2.drew hb3 : Below w.heap.size w w3); have hD3 := (by with_reducible first | exact old_trans hD2 hb3 | exact old_trans hD2.drew hb3 : Below W0.heap.size W0 w3); have n0 := K3.cell 0 _ rfl; have n1 := K3.cell 1 _ rfl; have n2 := K3.cell 2 _ rfl; have n3 := K3.lt))
        all_goals
          go_wp2
          go_roundw
          case rel => exact ⟨k + 1, by omega, by go_num, hkn.out, hD3⟩
          case measure => simp [Lib.intOf]; omega
    · obtain rfl : k = 60 := by omega
      have hdc := hd (dcL_none (T := T) (hkf.trans rfl))
      clear hkf CU TI TX hqs hms K K1
      go_wp2
      go_ret
      exact ⟨by rw [hdc.out]; rfl, hB1⟩
end Go.Proofs.YtmcfdkhkagkhbaaGreatDoor
