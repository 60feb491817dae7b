/- The value of a literal, by the program. Conditions: the library's tables and its handle of errors are there. Nothing that was there is written. -/
import Derived.Test.YtbecopdoibonkaaGreatDoorPK10
import Derived.Test.YtbecopdoibonkaaGreatDoorPK09
import Derived.Test.YtbecopdoibonkaaGreatDoorPK15
import Derived.Test.YtbecopdoibonkaaGreatDoorPK24
import Derived.Test.YtbecopdoibonkaaGreatDoorPK26
namespace Go.Proofs.YtbecopdoibonkaaGreatDoor
open Go.RowKit
set_option linter.unusedVariables false
set_option maxRecDepth 100000

/-- top and bottom of decimals taken times a power of ten -/
def dfA (v : Nat) (E : Int) : Nat := if E < 0 then v else v * 10 ^ E.toNat
def dfB (E : Int) : Nat := if E < 0 then 10 ^ (-E).toNat else 1
theorem tenT {k : Nat} (h : k ≤ 511) : (natL (10 ^ k)).length ≤ 512 := pow_lenT' (by decide) (by omega)
theorem mul_lenT {A B n m : Nat} (hA : (natL A).length ≤ n) (hB : (natL B).length ≤ m) : (natL (A * B)).length ≤ n + m := by
  have h1 := natL_len.1 hA
  have h2 := natL_len.1 hB
  refine natL_len.2 ?_
  rw [Nat.pow_add]
  have hp : 0 < 65536 ^ m := Nat.pow_pos (by omega)
  exact Nat.lt_of_le_of_lt (Nat.mul_le_mul_left A (Nat.le_of_lt h2)) (Nat.mul_lt_mul_of_pos_right h1 hp)
set_option maxHeartbeats 1000000 in
theorem iTenPowT (k : Nat) (hk : k ≤ 511) (w : World) : Calls Tryz.prog 41 #[.int .i64 (k : Int)] w fun e w' => (∃ av cv, e = .returned (.slice av (natL (10 ^ k)).length cv) ∧ OI w' w.heap.size av cv (natL (10 ^ k))) ∧ Below w.heap.size w w' := by
  have e10 : natL 10 = [10] := by rw [natL_pos (by decide), show 10 / 65536 = 0 from rfl, natL_zero]; rfl
  have hal : Below w.heap.size w (w.alloc (.cells #[.int .i64 10] 3)) := old_alloc (Below.refl _ _) _
  have hI : InI (w.alloc (.cells #[.int .i64 10] 3)) (some ⟨w.heap.size, 0, none⟩) 1 1 [10] := ⟨rfl, Nat.le_refl _, by decide, fun x hx => by rw [List.mem_singleton] at hx; subst hx; decide, .inr ⟨w.heap.size, 0, rfl, by simp, fun i hi => by obtain rfl : i = 0 := (by omega); simp⟩⟩
  have hv : val [10] = 10 := by rw [← e10, val_natL]
  have P := hd (iPowerT (some ⟨w.heap.size, 0, none⟩) 1 1 [10] k _ hI (by rw [← e10]; exact natOk_natL (Nat.lt_of_lt_of_le (show 10 < 65536 ^ 1 by decide) (Nat.pow_le_pow_right (by decide) (by decide)))) (by rw [hv]; decide) hk)
  rw [hv] at P
  go_enter Tryz.func41, Tryz.ntmps41
  go_wp2_with fail
  refine P.out.mono ?_
  rintro e w1 ⟨⟨av, cv, rfl, O⟩, hb1⟩
  go_wp2
  go_ret
  exact ⟨⟨_, _, rfl, O.mono (by simp)⟩, old_trans hal hb1⟩
def expI (dn' : Bool) (P m : Nat) : Int := (if dn' then -(P : Int) else (P : Int)) - (m : Int)
set_option maxHeartbeats 1000000 in
theorem iExp (ds : ByteArray) (m P : Nat) (dn' : Bool) (w : World) (hm : m ≤ 60) (hP : P ≤ 400) : Calls Tryz.prog 40 #[.agg #[.string ds, .int .i64 (m : Int), .bool dn', .int .i64 (P : Int)]] w fun e w' => e = .returned (.int .i64 (expI dn' P m)) ∧ Below w.heap.size w w' := by
  have K := CS.made w _ rfl #[.string ds, .int .i64 (m : Int), .bool dn', .int .i64 (P : Int)] 46
  have e0 : Below w.heap.size w (w.alloc (.cells #[.string ds, .int .i64 (m : Int), .bool dn', .int .i64 (P : Int)] 46)) := old_alloc (Below.refl _ _) _
  have k1 := K.cell 1 _ rfl
  have k2 := K.cell 2 _ rfl
  have k3 := K.cell 3 _ rfl
  have hmI : (m : Int) ≤ 60 := by omega
  have hPI : (P : Int) ≤ 400 := by omega
  cases dn'
  · have e : expI false P m = (P : Int) - (m : Int) := rfl
    rw [e]
    go_enter Tryz.func40, Tryz.ntmps40
    go_wp2
    go_ret
    exact ⟨rfl, e0⟩
  · have e : expI true P m = -(P : Int) - (m : Int) := rfl
    rw [e]
    go_enter Tryz.func40, Tryz.ntmps40
    go_wp2
    go_ret
    exact ⟨rfl, e0⟩
theorem resVal {W : World} {b : Nat} {v0 v1 v2 : Value} {tmps : Array Value} (h : Cel3 W b v0 v1 v2) (ht : tmps[2]? = some (.pointer (some ⟨b, 0, none⟩))) : (results Tryz.f23 tmps).run Tryz.prog W = .ok (.agg #[v0, v1, v2]) W := by
  obtain ⟨h1, ⟨a0, a1, a2⟩, -⟩ := h
  simp [results, Tryz.results23, go_sem, a0, a1, a2, ht]
/-- a ratio in new memory -/
def RaR (w : World) (base : Nat) (e : Ending) (A B : Nat) : Prop := ∃ av cv av' cv', e = .returned (.agg #[.bool false, .slice av (natL A).length cv, .slice av' (natL B).length cv']) ∧ OI w base av cv (natL A) ∧ OI w base av' cv' (natL B)
set_option maxRecDepth 100000 in
set_option maxHeartbeats 4000000 in
theorem iValue (ds : ByteArray) (m P : Nat) (dn' : Bool) (w : World) (hds : ds.size ≤ 60) (hdg : ∀ i, i < ds.size → isD (byt ds i) = true) (hm : m ≤ 60) (hP : P ≤ 400) :
    Calls Tryz.prog 23 #[.agg #[.string ds, .int .i64 (m : Int), .bool dn', .int .i64 (P : Int)]] w fun e w' => RaR w' w.heap.size e (dfA (nv ds ds.size) (expI dn' P m)) (dfB (expI dn' P m)) ∧ Below w.heap.size w w' := by
  have K := (CS.made w _ rfl #[.string ds, .int .i64 (m : Int), .bool dn', .int .i64 (P : Int)] 46).alloc (.cells #[.bool false, .slice none 0 0, .slice none 0 0] 57)
  have R := Cel3.new (w.alloc (.cells #[.string ds, .int .i64 (m : Int), .bool dn', .int .i64 (P : Int)] 46)) (.bool false) (.slice none 0 0) (.slice none 0 0) 57
  simp only [World.size_alloc] at R
  have hB : Below w.heap.size w ((w.alloc (.cells #[.string ds, .int .i64 (m : Int), .bool dn', .int .i64 (P : Int)] 46)).alloc (.cells #[.bool false, .slice none 0 0, .slice none 0 0] 57)) := (by repeat (first | exact Below.refl _ _ | refine Below.drew ?_ | refine old_alloc ?_ _ | refine old_trans ?_ (by assumption)))
  have DO := hd (fun w' => iDigitsOf ds (by omega) hdg w')
  have EX := hd (fun w' => iExp ds m P dn' w' hm hP)
  have hv : (natL (nv ds ds.size)).length ≤ 60 := Nat.le_trans (natL_len.2 (nv_lt ds ds.size)) hds
  obtain ⟨E, hE⟩ : ∃ E, expI dn' P m = E := ⟨_, rfl⟩
  have hE1 : -460 ≤ E ∧ E ≤ 400 := by rw [← hE]; unfold expI; cases dn' <;> simp <;> omega
  rw [hE] at EX ⊢
  generalize nv ds ds.size = v at *
  clear hE hdg
  have k0 := K.cell 0 _ rfl
  have k1 := K.cell 1 _ rfl
  have k2 := K.cell 2 _ rfl
  have k3 := K.cell 3 _ rfl
  go_enter Tryz.func23, Tryz.ntmps23
  generalize hW0 : (w.alloc (.cells #[.string ds, .int .i64 (m : Int), .bool dn', .int .i64 (P : Int)] 46)).alloc (.cells #[.bool false, .slice none 0 0, .slice none 0 0] 57) = W0 at *
  go_wp2_with fail
  clear hW0
  refine (DO.out _).mono ?_
  rintro e w1 ⟨⟨avD, cvD, rfl, O⟩, hb1⟩
  have y0 := R.1
  replace K := K.later hb1
  replace R := R.old hb1
  replace hB := old_trans hB hb1
  clear k0 k1 k2 k3 DO hb1
  have k0 := K.cell 0 _ rfl
  have k1 := K.cell 1 _ rfl
  have k2 := K.cell 2 _ rfl
  have k3 := K.cell 3 _ rfl
  go_wp2_with fail
  refine (EX.out _).mono ?_
  rintro e w2 ⟨rfl, hb2⟩
  replace R := R.old hb2
  replace hB := old_trans hB hb2
  replace O := O.later hb2
  clear k0 k1 k2 k3 K EX hb2
  by_cases hneg : E < 0
  · obtain ⟨k, hk, rfl⟩ : ∃ k : Nat, 0 < k ∧ E = -(k : Int) := ⟨(-E).toNat, by omega, by omega⟩
    have eA : dfA v (-(k : Int)) = v := by unfold dfA; rw [if_pos hneg]
    have eB : dfB (-(k : Int)) = 10 ^ k := by unfold dfB; rw [if_pos hneg]; congr 1; omega
    replace eA := hd eA
    replace eB := hd eB
    have TP := hd (fun w' => iTenPowT k (by omega) w')
    have hkI : (k : Int) ≤ 460 := by omega
    have hk0 : (0 : Int) < (k : Int) := by omega
    clear hE1
    go_wp2_with fail
    refine (TP.out _).mono ?_
    rintro e w3 ⟨⟨avT, cvT, rfl, OT⟩, hb3⟩
    have y1 := R.1
    replace R := R.old hb3
    replace hB := old_trans hB hb3
    replace O := O.later hb3
    clear hb3 TP
    obtain ⟨m1, ⟨m2, m3, m4⟩, m5, m6, m7⟩ := id R
    go_wp2
    exact bodyPost_ret (resVal (R.setAll (.bool false) (.slice avD (natL v).length cvD) (.slice avT (natL (10 ^ k)).length cvT)) rfl) rfl ⟨(by rw [eA.out, eB.out]; exact ⟨_, _, _, _, rfl, (oi_set3 O y0).mono (by omega), (oi_set3 OT y1).mono (by omega)⟩), below_set (below_set (below_set hB (by omega) _) (by omega) _) (by omega) _⟩
  · obtain ⟨k, rfl⟩ := Int.eq_ofNat_of_zero_le (show 0 ≤ E by omega)
    have eA : dfA v (k : Int) = v * 10 ^ k := by unfold dfA; rw [if_neg hneg, Int.toNat_natCast]
    have eB : dfB (k : Int) = 1 := by unfold dfB; rw [if_neg hneg]
    replace eA := hd eA
    replace eB := hd eB
    have TP := hd (fun w' => iTenPowT k (by omega) w')
    have TI := hd (fun a c a' c' m m' w' (o : OI w' m a c (natL v)) (o' : OI w' m' a' c' (natL (10 ^ k))) => iTimes a a' _ _ c c' (natL v) (natL (10 ^ k)) w' o.inI o'.inI (digs_natL _) (digs_natL _) (by omega) (by have := tenT (k := k) (by omega); omega))
    simp only [val_natL] at TI
    have hkI : (k : Int) ≤ 400 := by omega
    clear hE1
    go_wp2_with fail
    refine (TP.out _).mono ?_
    rintro e w3 ⟨⟨avT, cvT, rfl, OT⟩, hb3⟩
    replace R := R.old hb3
    replace hB := old_trans hB hb3
    replace O := O.later hb3
    clear hb3 TP
    go_wp2_with fail
    refine (TI.out _ _ _ _ _ _ _ O OT).mono ?_
    rintro e w4 ⟨⟨avM, cvM, rfl, OM⟩, hb4⟩
    have y1 := R.1
    replace R := R.old hb4
    replace hB := old_trans hB hb4
    clear hb4 TI O OT
    go_wp2_with fail
    refine (iWhole false avM (natL (v * 10 ^ k)).length cvM _).mono ?_
    rintro e w5 ⟨⟨avW, cvW, rfl, OW⟩, hb5⟩
    have y2 := R.1
    replace R := R.old hb5
    replace hB := old_trans hB hb5
    replace OM := OM.later hb5
    clear hb5
    obtain ⟨m1, ⟨m2, m3, m4⟩, m5, m6, m7⟩ := id R
    go_wp2
    exact bodyPost_ret (resVal (R.setAll (.bool false) (.slice avM (natL (v * 10 ^ k)).length cvM) (.slice avW (natL 1).length cvW)) rfl) rfl ⟨(by rw [eA.out, eB.out]; exact ⟨_, _, _, _, rfl, (oi_set3 OM (by omega)).mono (by omega), (oi_set3 OW y2).mono (by omega)⟩), below_set (below_set (below_set hB (by omega) _) (by omega) _) (by omega) _⟩
end Go.Proofs.YtbecopdoibonkaaGreatDoor

/- DecFrac of the program. Conditions: the library's tables and its handle of errors are there. Nothing that was there is written. -/
namespace Go.Proofs.YtbecopdoibonkaaGreatDoor
open Go.RowKit
set_option linter.unusedVariables false
set_option maxRecDepth 100000

/-- the power of ten that a literal's decimals are taken times -/
def decE (s : ByteArray) : Int := decPw s - (nBe s (dn s 0) : Int)
def dcA (s : ByteArray) : Nat := dfA (nv (decDs s) (decDs s).size) (decE s)
def dcB (s : ByteArray) : Nat := dfB (decE s)
def dcOk (s : ByteArray) : Bool := decS s && lowB (dcA s) (dcB s)
theorem txt_len (s : ByteArray) (k n : Nat) : (txt s k n).length ≤ n := by unfold txt; rw [List.length_take]; omega
theorem txt_get {s : ByteArray} {k n i : Nat} (h : i < (txt s k n).length) : ((txt s k n).getD i 0).toNat = (byt s (k + i)).toNat := by
  unfold txt at h ⊢
  rw [List.length_take, List.length_drop] at h
  unfold byt
  rw [Int.toNat_natCast, List.getD_eq_getElem?_getD, List.getElem?_take_of_lt (by omega), List.getElem?_drop, List.getD_eq_getElem?_getD]
theorem txt_dig {s : ByteArray} {k : Nat} (b : UInt8) (h : b ∈ txt s k (dn s k)) : 48 ≤ b.toNat ∧ b.toNat ≤ 57 := by
  obtain ⟨i, hi, rfl⟩ := List.getElem_of_mem h
  have e := txt_get hi
  rw [List.getD_eq_getElem?_getD, List.getElem?_eq_getElem hi] at e
  simp only [Option.getD_some] at e
  have hd := dn_dig s _ k i rfl (Nat.lt_of_lt_of_le hi (txt_len s k _))
  have h2 := hd.2
  omega
theorem ba_byt (l : List UInt8) (i : Nat) : byt (ba l) i = ((l.getD i 0).toNat : Int) := by simp [byt, ba]
theorem decDs_dig (s : ByteArray) : ∀ i, i < (decDs s).size → isD (byt (decDs s) i) = true := by
  intro i hi
  have hi' : i < (txt s 0 (dn s 0) ++ tBe s (dn s 0)).length := hi
  unfold decDs
  rw [ba_byt]
  have hm : (txt s 0 (dn s 0) ++ tBe s (dn s 0)).getD i 0 ∈ txt s 0 (dn s 0) ++ tBe s (dn s 0) := by
    rw [List.getD_eq_getElem?_getD, List.getElem?_eq_getElem hi']; exact List.getElem_mem hi'
  generalize (txt s 0 (dn s 0) ++ tBe s (dn s 0)).getD i 0 = b at *
  have hb : 48 ≤ b.toNat ∧ b.toNat ≤ 57 := by
    rcases List.mem_append.1 hm with h | h
    · exact txt_dig _ h
    · unfold tBe at h
      cases hp : isP s (dn s 0)
      · rw [hp] at h; cases h
      · rw [hp] at h; exact txt_dig _ h
  unfold isD
  rw [Bool.and_eq_true, decide_eq_true_eq, decide_eq_true_eq]
  omega
theorem dn_top (s : ByteArray) (k : Nat) (hk : k ≤ s.size) : k + dn s k ≤ s.size := dn_le s k hk
theorem decDs_len {s : ByteArray} (h : s.size ≤ 60) : (decDs s).size ≤ 60 ∧ nBe s (dn s 0) ≤ 60 := by
  have h0 := dn_top s 0 (by omega)
  have e : (decDs s).size = (txt s 0 (dn s 0)).length + (tBe s (dn s 0)).length := by
    show (txt s 0 (dn s 0) ++ tBe s (dn s 0)).length = _
    rw [List.length_append]
  have h1 := txt_len s 0 (dn s 0)
  unfold nBe tBe at *
  cases hp : isP s (dn s 0)
  · rw [hp] at e
    simp at e ⊢
    omega
  · rw [hp] at e
    have hlt := (of_decide_eq_true hp).1
    have h2 := dn_top s (dn s 0 + 1) (by omega)
    have h3 := txt_len s (dn s 0 + 1) (dn s (dn s 0 + 1))
    simp only [if_true] at e ⊢
    omega
theorem lit_some {s : ByteArray} (h : decS s = true) : s.size ≤ 60 ∧ litR s = some ⟨decDs s, (nBe s (dn s 0) : Int), dnE s (pBe s (dn s 0)), pwE s (pBe s (dn s 0))⟩ ∧ pwE s (pBe s (dn s 0)) ≤ 400 := by
  have h60 : s.size ≤ 60 := by
    by_cases g : 60 < s.size
    · rw [decS_bad (.inl g)] at h; cases h
    · omega
  have ok := (scn_eq (s := s) (by omega)).2 h
  have f := scn_f ok
  refine ⟨h60, ?_, ?_⟩
  · unfold litR
    rw [if_pos h60, scn_bytes, if_pos (show (scn (D s 0) lt0).1 = true ∧ (scn (D s 0) lt0).2.pw ≤ 400 from ok), f]; rfl
  · have := ok.2
    rw [f] at this
    exact this
theorem lit_none {s : ByteArray} (h : decS s = false) : litR s = none := by
  have := dec_eq s
  rw [h] at this
  unfold decI at this
  cases hl : litR s with
  | none => rfl
  | some l => rw [hl] at this; cases this
theorem pwE_nn (s : ByteArray) (k : Nat) : 0 ≤ pwE s k := by
  unfold pwE
  split
  · exact (nm_bd _ (fun i hi => dn_dig s _ _ i rfl hi)).1
  · exact Int.le_refl _
theorem resDF {W : World} {b : Nat} {v0 v1 v2 r : Value} {tmps : Array Value} (h : Cel3 W b v0 v1 v2) (ht : tmps[2]? = some (.pointer (some ⟨b, 0, none⟩))) (h3 : tmps[3]? = some r) : (results Tryz.f9 tmps).run Tryz.prog W = .ok (.tuple #[.agg #[v0, v1, v2], r]) W := by
  obtain ⟨h1, ⟨a0, a1, a2⟩, -⟩ := h
  simp [results, Tryz.results9, go_sem, a0, a1, a2, ht, h3]
set_option maxRecDepth 100000 in
set_option maxHeartbeats 4000000 in
theorem iDecFrac (s : ByteArray) (w : World) (hT : Tab w) (hE : ET w) :
    Calls Tryz.prog 9 #[.string s] w fun e w' => FRes w' w.heap.size e (dcOk s) false (dcA s) (dcB s) ∧ Below w.heap.size w w' := by
  have R := Cel3.new w (.bool false) (.slice none 0 0) (.slice none 0 0) 30
  have hB : Below w.heap.size w (w.alloc (.cells #[.bool false, .slice none 0 0, .slice none 0 0] 30)) := (by repeat (first | exact Below.refl _ _ | refine Below.drew ?_ | refine old_alloc ?_ _ | refine old_trans ?_ (by assumption)))
  have LI := hd (fun w' => iLiteral s w')
  cases hdS : decS s
  · have hno : Hid (dcOk s = false) := by show _ = _; unfold dcOk; rw [hdS]; rfl
    have hl := lit_none hdS
    have hv : litV s = .tuple #[.agg #[.string ⟨#[]⟩, .int .i64 0, .bool false, .int .i64 0], .bool false] := by unfold litV; rw [hl]
    rw [hv] at LI
    clear hl hv hdS
    go_enter Tryz.func9, Tryz.ntmps9
    generalize hW0 : w.alloc (.cells #[.bool false, .slice none 0 0, .slice none 0 0] 30) = W0 at *
    go_wp2_with fail
    clear hW0
    refine (LI.out _).mono ?_
    rintro e w1 ⟨rfl, hb1⟩
    replace R := R.old hb1
    replace hB := old_trans hB hb1
    obtain ⟨m1, ⟨m2, m3, m4⟩, m5, m6, m7⟩ := id R
    go_wp2
    exact bodyPost_ret (resDF ((R.setAll (.bool false) (.slice none 0 0) (.slice none 0 0)).old (old_alloc (Below.refl _ _) (.cells #[.string ⟨#[]⟩, .int .i64 0, .bool false, .int .i64 0] 46))) rfl rfl) rfl ⟨by rw [hno.out]; exact FRes.no _ _ _ _ _, old_alloc (below_set (below_set (below_set hB (Nat.le_refl _) _) (Nat.le_refl _) _) (Nat.le_refl _) _) _⟩
  · obtain ⟨h60, hl, hp400⟩ := lit_some hdS
    have hok : Hid (dcOk s = lowB (dcA s) (dcB s)) := by show _ = _; unfold dcOk; rw [hdS]; rfl
    have hlen := decDs_len h60
    have hdig := decDs_dig s
    have hp0 := pwE_nn s (pBe s (dn s 0))
    obtain ⟨P, hP⟩ := Int.eq_ofNat_of_zero_le hp0
    have hv : litV s = .tuple #[.agg #[.string (decDs s), .int .i64 (nBe s (dn s 0) : Int), .bool (dnE s (pBe s (dn s 0))), .int .i64 (P : Int)], .bool true] := by unfold litV; rw [hl, hP]
    have hEE : expI (dnE s (pBe s (dn s 0))) P (nBe s (dn s 0)) = decE s := by unfold expI decE decPw; rw [hP]
    rw [hP] at hp400
    rw [hv] at LI
    have VA := hd (fun w' => iValue (decDs s) (nBe s (dn s 0)) P (dnE s (pBe s (dn s 0))) w' hlen.1 hdig hlen.2 (by omega))
    rw [hEE] at VA
    have hA0 : dfA (nv (decDs s) (decDs s).size) (decE s) = dcA s := rfl
    have hB0 : dfB (decE s) = dcB s := rfl
    rw [hA0, hB0] at VA
    have hEb : -460 ≤ decE s ∧ decE s ≤ 400 := by
      rw [← hEE]; unfold expI
      cases dnE s (pBe s (dn s 0)) <;> simp <;> omega
    have hlA : (natL (dcA s)).length ≤ 1024 := by
      have h1 : (natL (nv (decDs s) (decDs s).size)).length ≤ 60 := Nat.le_trans (natL_len.2 (nv_lt _ _)) hlen.1
      unfold dcA dfA
      split
      · omega
      · have := mul_lenT h1 (tenT (k := (decE s).toNat) (by omega)); omega
    have hlB : (natL (dcB s)).length ≤ 1024 := by
      unfold dcB dfB
      split
      · have := tenT (k := (-decE s).toNat) (by omega); omega
      · have := tenT (k := 0) (by omega); simpa using Nat.le_trans this (by decide)
    generalize dcA s = A9 at *
    generalize dcB s = B9 at *
    generalize decDs s = ds at *
    generalize nBe s (dn s 0) = m9 at *
    generalize dnE s (pBe s (dn s 0)) = d9 at *
    clear hl hv hEE hA0 hB0 hEb hdig hp0 hP hdS hp400
    go_enter Tryz.func9, Tryz.ntmps9
    generalize hW0 : w.alloc (.cells #[.bool false, .slice none 0 0, .slice none 0 0] 30) = W0 at *
    go_wp2_with fail
    clear hW0
    refine (LI.out _).mono ?_
    rintro e w1 ⟨rfl, hb1⟩
    replace R := R.old hb1
    replace hB := old_trans hB hb1
    clear hb1 LI
    have K := CS.made w1 _ rfl #[.string ds, .int .i64 (m9 : Int), .bool d9, .int .i64 (P : Int)] 46
    have hal : Below w1.heap.size w1 (w1.alloc (.cells #[.string ds, .int .i64 (m9 : Int), .bool d9, .int .i64 (P : Int)] 46)) := old_alloc (Below.refl _ _) _
    replace R := R.old hal
    replace hB := old_trans hB hal
    clear hal
    have k0 := K.cell 0 _ rfl
    have k1 := K.cell 1 _ rfl
    have k2 := K.cell 2 _ rfl
    have k3 := K.cell 3 _ rfl
    go_wp2_with fail
    refine (VA.out _).mono ?_
    rintro e w2 ⟨⟨avA, cvA, avB, cvB, rfl, OA, OB⟩, hb2⟩
    replace R := R.old hb2
    replace hB := old_trans hB hb2
    clear hb2 VA k0 k1 k2 k3 K
    have LO := hd (iLowest false avA avB cvA cvB A9 B9 w2 OA.inI OB.inI hlA hlB (hT.old hB))
    go_wp2_with fail
    refine LO.out.mono ?_
    rintro e w3 ⟨he, hb3⟩
    have y0 := R.1
    replace R := R.old hb3
    replace hB := old_trans hB hb3
    clear hb3 LO OA OB
    rcases he with ⟨hlow, avT, cvT, avU, cvU, rfl, OT, OU, sp⟩ | ⟨hlow, f, rfl⟩
    · have hlow' := hd (hok.out.trans hlow)
      go_wp2_with fail
      refine (iAnsNil (false && decide (A9 ≠ 0)) _ _ ⟨_, _, _, rfl⟩ ⟨_, _, _, rfl⟩ _).mono ?_
      rintro e w4 ⟨rfl, hb4⟩
      replace R := R.old hb4
      replace hB := old_trans hB hb4
      replace OT := OT.later hb4
      replace OU := OU.later hb4
      clear hb4 hlow
      obtain ⟨m1, ⟨m2, m3, m4⟩, m5, m6, m7⟩ := id R
      go_wp2
      exact bodyPost_ret (resDF (R.setAll (.bool (false && decide (A9 ≠ 0))) (.slice avT (lowT A9 B9).length cvT) (.slice avU (lowU A9 B9).length cvU)) rfl rfl) rfl ⟨by rw [hlow'.out]; exact FRes.yes ((oi_set3 OT y0).mono (Nat.le_of_lt y0)) ((oi_set3 OU y0).mono (Nat.le_of_lt y0)) sp, below_set (below_set (below_set hB (Nat.le_refl _) _) (Nat.le_refl _) _) (Nat.le_refl _) _⟩
    · have hlow' := hd (hok.out.trans hlow)
      go_wp2_with fail
      refine (iAnsFault false _ _ ⟨_, _, _, rfl⟩ ⟨_, _, _, rfl⟩ f _ (hE.old hB)).mono ?_
      rintro e w4 ⟨rfl, hb4⟩
      replace R := R.old hb4
      replace hB := old_trans hB hb4
      clear hb4 hlow
      obtain ⟨m1, ⟨m2, m3, m4⟩, m5, m6, m7⟩ := id R
      go_wp2
      exact bodyPost_ret (resDF (R.setAll (.bool false) (.slice none 0 0) (.slice none 0 0)) rfl rfl) rfl ⟨by rw [hlow'.out]; exact FRes.no _ _ _ _ _, below_set (below_set (below_set hB (Nat.le_refl _) _) (Nat.le_refl _) _) (Nat.le_refl _) _⟩
end Go.Proofs.YtbecopdoibonkaaGreatDoor

/- DecFrac of the specification. Nothing that was there is written. No condition but the text's length. -/
namespace Go.Proofs.YtbecopdoibonkaaGreatDoor
open Go.RowKit
set_option linter.unusedVariables false
set_option maxRecDepth 100000

theorem resSF {W : World} {b : Nat} {v0 v1 v2 r : Value} {tmps : Array Value} (h : Cel3 W b v0 v1 v2) (ht : tmps[2]? = some (.pointer (some ⟨b, 0, none⟩))) (h3 : tmps[3]? = some r) : (results Tryz.f7 tmps).run Tryz.prog W = .ok (.tuple #[.agg #[v0, v1, v2], r]) W := by
  obtain ⟨h1, ⟨a0, a1, a2⟩, -⟩ := h
  simp [results, Tryz.results7, go_sem, a0, a1, a2, ht, h3]
set_option maxRecDepth 100000 in
set_option maxHeartbeats 2000000 in
theorem sTensT (k : Nat) (hk : k ≤ 511) (w : World) : Calls Tryz.prog 18 #[.int .i64 (k : Int)] w fun e w' => (∃ av cv, e = .returned (.slice av (natL (10 ^ k)).length cv) ∧ OI w' w.heap.size av cv (natL (10 ^ k))) ∧ Below w.heap.size w w' := by
  have e1 : natL 1 = [1] := by rw [natL_pos (by decide), show 1 / 65536 = 0 from rfl, natL_zero]; rfl
  have hal : Below w.heap.size w (w.alloc (.cells #[.int .i64 1] 3)) := old_alloc (Below.refl _ _) _
  have O0 : OI (w.alloc (.cells #[.int .i64 1] 3)) w.heap.size (some ⟨w.heap.size, 0, none⟩) 1 (natL 1) := by
    rw [e1]
    exact ⟨fun x hx => by rw [List.mem_singleton] at hx; subst hx; decide, Nat.le_refl _, by decide, .inr ⟨w.heap.size, rfl, Nat.le_refl _, by simp, fun i hi => by obtain rfl : i = 0 := (by simp at hi; omega); simp⟩⟩
  have hkI : (k : Int) ≤ 511 := by omega
  have l1 : (natL 1).length = 1 := by rw [e1]; rfl
  go_enter Tryz.func18, Tryz.ntmps18
  go_wp2_with fail
  generalize hW0 : w.alloc (.cells #[.int .i64 1] 3) = W0 at *
  clear hW0
  go_loopw [3, 4] (fun s i wr => ∃ (j : Nat) (av : Option Addr) (cv : Nat), j ≤ k ∧ s = .slice av (natL (10 ^ j)).length cv ∧ i = .int .i64 (j : Int) ∧ OI wr w.heap.size av cv (natL (10 ^ j)) ∧ Below w.heap.size w wr) (fun _ i _ => k - (intOf i).toNat)
  case atStart => exact ⟨0, some ⟨w.heap.size, 0, none⟩, 1, by omega, by rw [Nat.pow_zero, l1], rfl, by rw [Nat.pow_zero]; exact O0, hal⟩
  case round =>
    clear O0 hal
    obtain ⟨j, av, cv, hj, rfl, rfl, O, hB⟩ := hrel
    by_cases hlt : j < k
    · have T := hd (sTimes av _ cv (natL (10 ^ j)) 10 wr O.inI (digs_natL _) (show dig 10 from ⟨by decide, by decide⟩) (by have := tenT (k := j) (by omega); omega))
      have hjI : (j : Int) < (k : Int) := by omega
      rw [val_natL, show (10 : Int).toNat = 10 from rfl, ← Nat.pow_succ] at T
      go_wp2_with fail
      refine T.out.mono ?_
      rintro e w1 ⟨⟨av2, cv2, rfl, O2⟩, hb1⟩
      have hs := hB.size
      go_wp2
      go_roundw
      case rel => exact ⟨j + 1, av2, cv2, by omega, rfl, by go_num, O2.mono hs, old_trans hB hb1⟩
      case measure => simp [intOf]; omega
    · obtain rfl : j = k := by omega
      have hjI : ¬ ((j : Int) < (j : Int)) := by omega
      go_wp2
      go_ret
      exact ⟨⟨_, _, rfl, O⟩, hB⟩
set_option maxRecDepth 100000 in
set_option maxHeartbeats 8000000 in
theorem sDecFrac (s : ByteArray) (hs : s.size ≤ maxLen) (w : World) :
    Calls Tryz.prog 7 #[.string s] w fun e w' => FRes w' w.heap.size e (dcOk s) false (dcA s) (dcB s) ∧ Below w.heap.size w w' := by
  have R := Cel3.new w (.bool false) (.slice none 0 0) (.slice none 0 0) 30
  have e0 : Below w.heap.size w (w.alloc (.cells #[.bool false, .slice none 0 0, .slice none 0 0] 30)) := (by repeat (first | exact Below.refl _ _ | refine Below.drew ?_ | refine old_alloc ?_ _ | refine old_trans ?_ (by assumption)))
  have LP := hd (fun w' => sPartsF s hs w')
  cases hdS : decS s
  · have hno : Hid (dcOk s = false) := by show _ = _; unfold dcOk; rw [hdS]; rfl
    rw [hdS] at LP
    clear hdS
    go_enter Tryz.func7, Tryz.ntmps7
    generalize hW0 : w.alloc (.cells #[.bool false, .slice none 0 0, .slice none 0 0] 30) = W0 at *
    go_wp2_with fail
    clear hW0
    refine (LP.out _).mono ?_
    rintro e w1 ⟨⟨d, b, p, rfl, -⟩, rfl⟩
    obtain ⟨m1, ⟨m2, m3, m4⟩, m5, m6, m7⟩ := id R
    go_wp2
    exact bodyPost_ret (resSF (R.setAll (.bool false) (.slice none 0 0) (.slice none 0 0)) rfl rfl) rfl ⟨by rw [hno.out]; exact FRes.no _ _ _ _ _, below_set (below_set (below_set e0 (Nat.le_refl _) _) (Nat.le_refl _) _) (Nat.le_refl _) _⟩
  · obtain ⟨h60, hl, hp400⟩ := lit_some hdS
    have hok : Hid (dcOk s = lowB (dcA s) (dcB s)) := by show _ = _; unfold dcOk; rw [hdS]; rfl
    have hlen := decDs_len h60
    have hdig := hd (decDs_dig s)
    have hp0 := pwE_nn s (pBe s (dn s 0))
    have hA0 : Hid (dcA s = dfA (nv (decDs s) (decDs s).size) (decE s)) := rfl
    have hB0 : Hid (dcB s = dfB (decE s)) := rfl
    have hpb : -400 ≤ decPw s ∧ decPw s ≤ 400 := by unfold decPw; split <;> omega
    have hEd : decE s = decPw s - (nBe s (dn s 0) : Int) := rfl
    rw [hdS] at LP
    generalize dcA s = A9 at *
    generalize dcB s = B9 at *
    generalize decDs s = ds at *
    generalize decPw s = pp at *
    generalize nBe s (dn s 0) = m9 at *
    obtain ⟨E, hE⟩ : ∃ E, decE s = E := ⟨_, rfl⟩
    rw [hE] at hA0 hB0 hEd
    have hEE : pp - (m9 : Int) = E := hEd.symm
    have hEb : -460 ≤ E ∧ E ≤ 400 := by omega
    clear hl hp400 hp0 hdS hE hEd
    go_enter Tryz.func7, Tryz.ntmps7
    generalize hW0 : w.alloc (.cells #[.bool false, .slice none 0 0, .slice none 0 0] 30) = W0 at *
    go_wp2_with fail
    clear hW0
    refine (LP.out _).mono ?_
    rintro e w1 ⟨⟨d, b, p, rfl, hpt⟩, rfl⟩
    obtain ⟨rfl, rfl, rfl⟩ := hpt (by first | rfl | trivial)
    clear hpt LP
    have hszI : (d.size : Int) ≤ 60 := by omega
    go_wp2_with fail
    go_loopw [8, 9] (fun o i wr => ∃ (k : Nat) (av : Option Addr) (cv : Nat), k ≤ d.size ∧ i = .int .i64 k ∧ o = .slice av (natL (nv d k)).length cv ∧ OI wr w1.heap.size av cv (natL (nv d k)) ∧ Below w1.heap.size w1 wr) (fun _ i _ => d.size - (intOf i).toNat)
    case atStart => exact ⟨0, none, 0, by omega, rfl, by simp [nv, natL_zero], by simp only [nv, natL_zero]; exact OI.none _ _, Below.refl _ _⟩
    case round =>
      obtain ⟨k, av, cv, hk, rfl, rfl, O, hb⟩ := hrel
      by_cases hlt : k < d.size
      · have ik := idxS Tryz.underlying9 d k hlt
        have bk := byt_bd d k
        have hkI : (k : Int) < (d.size : Int) := by omega
        have hd9 := hdig.out k hlt
        have hc := isD_b hd9
        have hl9 := natL_len.2 (nv_lt d k)
        have T := hd (fun w' (h : OI w' w1.heap.size av cv (natL (nv d k))) => sTimes av _ cv (natL (nv d k)) 10 w' h.inI (digs_natL _) (by unfold dig; omega) (by omega))
        have NO := hd (fun w' => sNatOf ((byt d k).toNat - 48) (by omega) w')
        have hn2 : ((((byt d k).toNat - 48 : Nat)) : Int) = byt d k - 48 := by omega
        rw [val_natL, show (10 : Int).toNat = 10 from rfl] at T
        rw [hn2] at NO
        have hl10 : (natL (nv d k * 10)).length ≤ 1400 := Nat.le_trans (natL_len.2 (show nv d k * 10 < 65536 ^ (k + 1) by have := nv_lt d k; rw [Nat.pow_succ]; generalize 65536 ^ k = z at *; omega)) (by omega)
        have hl11 : (natL ((byt d k).toNat - 48)).length ≤ 1 := natL_len.2 (by omega)
        have AD := hd (fun a1 c1 a2 c2 b1 b2 w' (h1 : OI w' b1 a1 c1 (natL (nv d k * 10))) (h2 : OI w' b2 a2 c2 (natL ((byt d k).toNat - 48))) => sAdd a1 a2 _ _ c1 c2 _ _ w' h1.inI h2.inI (digs_natL _) (digs_natL _) (topped_natL _) (topped_natL _) (by omega) (by omega))
        rw [val_natL, val_natL] at AD
        have hl12 : (natL (nv d k * 10 + ((byt d k).toNat - 48))).length ≤ 1400 := Nat.le_trans (natL_len.2 (nv_lt d (k + 1))) (by omega)
        have TR := hd (fun a1 c1 b1 w' (h1 : OI w' b1 a1 c1 (natL (nv d k * 10 + ((byt d k).toNat - 48)))) => sTrim a1 _ c1 _ w' h1.inI (digs_natL _) (by omega))
        rw [val_natL] at TR
        have hst : Hid (nv d (k + 1) = nv d k * 10 + ((byt d k).toNat - 48)) := rfl
        clear hl9 hl10 hl11 hl12 hn2 hd9
        generalize natL (nv d k * 10) = l1 at *
        generalize natL ((byt d k).toNat - 48) = l2 at *
        generalize hl3 : natL (nv d k * 10 + ((byt d k).toNat - 48)) = l3 at *
        generalize natL (nv d k) = l0 at *
        generalize hbt : byt d k = bt at *
        have hl3' := hd hl3
        clear hl3
        have q1 : ¬ bt < 48 := by omega
        have q2 : ¬ bt > 57 := by omega
        have z0 := hb.size
        obtain ⟨hc1, hc2⟩ := hc
        have hw1 : IntKind.u8.wrap (bt - 48) = bt - 48 := by rw [IntKind.wrap_u8]; omega
        have hw2 : IntKind.u64.wrap (bt - 48) = bt - 48 := by rw [IntKind.wrap_u64]; omega
        go_wp2_with fail
        go_region_held3 (fun w' => w1.heap.size ≤ w'.heap.size) (go_keep) (first | (go_at_call 14; refine (T.out _ O.drew).mono ?_; rintro e w1 ⟨⟨a1, c1, rfl, O1⟩, hb1⟩; have z1 := Nat.le_trans z0 hb1.size) | (go_at_call 15; refine (NO.out _).mono ?_; rintro e w2 ⟨⟨a2, c2, rfl, O2⟩, hb2⟩; have z2 := Nat.le_trans z1 hb2.size) | (go_at_call 13; refine (AD.out _ _ _ _ _ _ _ (O1.later hb2) O2).mono ?_; rintro e w3 ⟨⟨a3, c3, rfl, O3⟩, hb3⟩; have z3 := Nat.le_trans z2 hb3.size) | (go_at_call 12; refine (TR.out _ _ _ _ O3).mono ?_; rintro e w4 ⟨⟨a4, c4, rfl, O4⟩, hb4⟩; have z4 := Nat.le_trans z3 hb4.size))
        all_goals
          have hB4 := old_trans (old_trans (old_trans (old_trans (Below.drew hb) hb1) hb2) hb3) hb4
          have s3 := (old_trans (old_trans (old_trans (Below.drew hb) hb1) hb2) hb3).size
          go_wp2
          go_roundw
          case rel => exact ⟨k + 1, a4, c4, by omega, by go_num, by rw [hst.out, hl3'.out], by rw [hst.out, hl3'.out]; exact O4.mono s3, hB4⟩
          case measure => simp [intOf]; omega
      · obtain rfl : k = d.size := by omega
        have hni : ¬ ((d.size : Int) < (d.size : Int)) := by omega
        have hv : (natL (nv d d.size)).length ≤ 60 := Nat.le_trans (natL_len.2 (nv_lt d d.size)) hlen.1
        generalize nv d d.size = v at *
        replace R := R.old hb
        have hB := old_trans e0 hb
        have ys := e0.size
        clear hdig
        by_cases hneg : E < 0
        · obtain ⟨q, hq, rfl⟩ : ∃ q : Nat, 0 < q ∧ E = -(q : Int) := ⟨(-E).toNat, by omega, by omega⟩
          have eA : Hid (A9 = v) := by show _ = _; rw [hA0.out]; unfold dfA; rw [if_pos hneg]
          have eB : Hid (B9 = 10 ^ q) := by show _ = _; rw [hB0.out]; unfold dfB; rw [if_pos hneg]; congr 1; omega
          have TP := hd (fun w' => sTensT q (by omega) w')
          have qI : (q : Int) ≤ 460 := by omega
          have q0 : ¬ (-(q : Int) ≥ 0) := by omega
          have q1 : ¬ ((0 : Int) ≤ -(q : Int)) := by omega
          have q2 : (0 : Int) < (q : Int) := by omega
          have MK := hd (fun a c a' c' m m' w' (o : OI w' m a c (natL v)) (o' : OI w' m' a' c' (natL (10 ^ q))) => sL6Make false a a' c c' v (10 ^ q) w' o.inI o'.inI (by omega) (by have := tenT (k := q) (by omega); omega) (Nat.pos_iff_ne_zero.1 (Nat.pow_pos (by decide))))
          clear hA0 hB0 hEb
          go_wp2_with fail
          refine (TP.out _).mono ?_
          rintro e w3 ⟨⟨avT, cvT, rfl, OT⟩, hb3⟩
          replace R := R.old hb3
          replace hB := old_trans hB hb3
          replace O := O.later hb3
          clear hb3 TP
          go_wp2_with fail
          refine (MK.out _ _ _ _ _ _ _ O OT).mono ?_
          rintro e w4 ⟨⟨av1, cv1, av2, cv2, rfl, Q1, Q2, sp⟩, hb4⟩
          have y1 := R.1
          replace R := R.old hb4
          replace hB := old_trans hB hb4
          clear hb4 MK O OT
          obtain ⟨m1, ⟨m2, m3, m4⟩, m5, m6, m7⟩ := id R
          go_wp2
          exact bodyPost_ret (resSF (R.setAll (.bool (fS (lowB v (10 ^ q)) false v)) (.slice av1 (fT (lowB v (10 ^ q)) v (10 ^ q)).length cv1) (.slice av2 (fU (lowB v (10 ^ q)) v (10 ^ q)).length cv2)) rfl rfl) rfl ⟨by rw [hok.out, eA.out, eB.out]; exact ⟨_, _, _, _, rfl, (oi_set3 Q1 y1).mono (Nat.le_of_lt y1), (oi_set3 Q2 y1).mono (Nat.le_of_lt y1), sp⟩, below_set (below_set (below_set hB (Nat.le_refl _) _) (Nat.le_refl _) _) (Nat.le_refl _) _⟩
        · obtain ⟨q, rfl⟩ := Int.eq_ofNat_of_zero_le (show 0 ≤ E by omega)
          have eA : Hid (A9 = v * 10 ^ q) := by show _ = _; rw [hA0.out]; unfold dfA; rw [if_neg hneg, Int.toNat_natCast]
          have eB : Hid (B9 = 1) := by show _ = _; rw [hB0.out]; unfold dfB; rw [if_neg hneg]
          have TP := hd (fun w' => sTensT q (by omega) w')
          have qI : (q : Int) ≤ 400 := by omega
          have hml : (natL (v * 10 ^ q)).length ≤ 572 := by have := mul_lenT hv (tenT (k := q) (by omega)); omega
          have ML := hd (fun a c a' c' m m' w' (o : OI w' m a c (natL v)) (o' : OI w' m' a' c' (natL (10 ^ q))) => sMul a a' _ _ c c' (natL v) (natL (10 ^ q)) w' o.inI o'.inI (digs_natL _) (digs_natL _) (by omega) (by have := tenT (k := q) (by omega); omega))
          simp only [val_natL] at ML
          have MK := hd (fun a c a' c' m m' w' (o : OI w' m a c (natL (v * 10 ^ q))) (o' : OI w' m' a' c' (natL 1)) => sL6Make false a a' c c' (v * 10 ^ q) 1 w' o.inI o'.inI (by omega) (by have := tenT (k := 0) (by omega); simpa using Nat.le_trans this (by decide)) (by decide))
          have e1 : natL 1 = [1] := by rw [natL_pos (by decide), show 1 / 65536 = 0 from rfl, natL_zero]; rfl
          have l1 : (natL 1).length = 1 := by rw [e1]; rfl
          have mk1 := hd (fun (w' : World) => show OI (w'.alloc (.cells #[.int .i64 1] 3)) w'.heap.size (some ⟨w'.heap.size, 0, none⟩) 1 (natL 1) from by
            rw [e1]
            exact ⟨fun x hx => by rw [List.mem_singleton] at hx; subst hx; decide, Nat.le_refl _, by decide, .inr ⟨w'.heap.size, rfl, Nat.le_refl _, by simp, fun i hi => by obtain rfl : i = 0 := (by simp at hi; omega); simp⟩⟩)
          rw [l1] at MK
          clear hA0 hB0 hEb e1 l1
          go_wp2_with fail
          refine (TP.out _).mono ?_
          rintro e w3 ⟨⟨avT, cvT, rfl, OT⟩, hb3⟩
          replace R := R.old hb3
          replace hB := old_trans hB hb3
          replace O := O.later hb3
          clear hb3 TP
          go_wp2_with fail
          refine (ML.out _ _ _ _ _ _ _ O OT).mono ?_
          rintro e w4 ⟨⟨avM, cvM, rfl, OM⟩, hb4⟩
          replace R := R.old hb4
          replace hB := old_trans hB hb4
          clear hb4 ML O OT
          have O1 := mk1.out w4
          have hal : Below w4.heap.size w4 (w4.alloc (.cells #[.int .i64 1] 3)) := old_alloc (Below.refl _ _) _
          replace R := R.old hal
          replace hB := old_trans hB hal
          replace OM := OM.later hal
          clear hal mk1
          go_wp2_with fail
          refine (MK.out _ _ _ _ _ _ _ OM O1).mono ?_
          rintro e w5 ⟨⟨av1, cv1, av2, cv2, rfl, Q1, Q2, sp⟩, hb5⟩
          have y1 := R.1
          replace R := R.old hb5
          replace hB := old_trans hB hb5
          clear hb5 MK OM O1
          obtain ⟨m1, ⟨m2, m3, m4⟩, m5, m6, m7⟩ := id R
          go_wp2
          exact bodyPost_ret (resSF (R.setAll (.bool (fS (lowB (v * 10 ^ q) 1) false (v * 10 ^ q))) (.slice av1 (fT (lowB (v * 10 ^ q) 1) (v * 10 ^ q) 1).length cv1) (.slice av2 (fU (lowB (v * 10 ^ q) 1) (v * 10 ^ q) 1).length cv2)) rfl rfl) rfl ⟨by rw [hok.out, eA.out, eB.out]; exact ⟨_, _, _, _, rfl, (oi_set3 Q1 y1).mono (Nat.le_of_lt y1), (oi_set3 Q2 y1).mono (Nat.le_of_lt y1), sp⟩, below_set (below_set (below_set hB (Nat.le_refl _) _) (Nat.le_refl _) _) (Nat.le_refl _) _⟩
end Go.Proofs.YtbecopdoibonkaaGreatDoor
