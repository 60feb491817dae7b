/- DecFrac of the program. Conditions: the library's tables and its handle of errors are there. Nothing that was there is written. -/
import Derived.Test.YtnjdcaidoffhbaaGreatDoorZY
namespace Go.Proofs.YtnjdcaidoffhbaaGreatDoor
open Go.RowKit
set_option linter.unusedVariables false
set_option maxRecDepth 100000

/-- the power of ten that a literal's decimals are taken times -/
def decE (s : ByteArray) : Int := decPw s - (nBe s (dn s 0) : Int)
def dcA (s : ByteArray) : Nat := dfA (nv (decDs s) (decDs s).size) (decE s)
def dcB (s : ByteArray) : Nat := dfB (decE s)
def dcOk (s : ByteArray) : Bool := decS s && lowB (dcA s) (dcB s)
theorem txt_len (s : ByteArray) (k n : Nat) : (txt s k n).length ≤ n := by unfold txt; rw [List.length_take]; omega
theorem txt_get {s : ByteArray} {k n i : Nat} (h : i < (txt s k n).length) : ((txt s k n).getD i 0).toNat = (byt s (k + i)).toNat := by
  unfold txt at h ⊢
  rw [List.length_take, List.length_drop] at h
  unfold byt
  rw [Int.toNat_natCast, List.getD_eq_getElem?_getD, List.getElem?_take_of_lt (by omega), List.getElem?_drop, List.getD_eq_getElem?_getD]
theorem txt_dig {s : ByteArray} {k : Nat} (b : UInt8) (h : b ∈ txt s k (dn s k)) : 48 ≤ b.toNat ∧ b.toNat ≤ 57 := by
  obtain ⟨i, hi, rfl⟩ := List.getElem_of_mem h
  have e := txt_get hi
  rw [List.getD_eq_getElem?_getD, List.getElem?_eq_getElem hi] at e
  simp only [Option.getD_some] at e
  have hd := dn_dig s _ k i rfl (Nat.lt_of_lt_of_le hi (txt_len s k _))
  have h2 := hd.2
  omega
theorem ba_byt (l : List UInt8) (i : Nat) : byt (ba l) i = ((l.getD i 0).toNat : Int) := by simp [byt, ba]
theorem decDs_dig (s : ByteArray) : ∀ i, i < (decDs s).size → isD (byt (decDs s) i) = true := by
  intro i hi
  have hi' : i < (txt s 0 (dn s 0) ++ tBe s (dn s 0)).length := hi
  unfold decDs
  rw [ba_byt]
  have hm : (txt s 0 (dn s 0) ++ tBe s (dn s 0)).getD i 0 ∈ txt s 0 (dn s 0) ++ tBe s (dn s 0) := by
    rw [List.getD_eq_getElem?_getD, List.getElem?_eq_getElem hi']; exact List.getElem_mem hi'
  generalize (txt s 0 (dn s 0) ++ tBe s (dn s 0)).getD i 0 = b at *
  have hb : 48 ≤ b.toNat ∧ b.toNat ≤ 57 := by
    rcases List.mem_append.1 hm with h | h
    · exact txt_dig _ h
    · unfold tBe at h
      cases hp : isP s (dn s 0)
      · rw [hp] at h; cases h
      · rw [hp] at h; exact txt_dig _ h
  unfold isD
  rw [Bool.and_eq_true, decide_eq_true_eq, decide_eq_true_eq]
  omega
theorem dn_top (s : ByteArray) (k : Nat) (hk : k ≤ s.size) : k + dn s k ≤ s.size := dn_le s k hk
theorem decDs_len {s : ByteArray} (h : s.size ≤ 60) : (decDs s).size ≤ 60 ∧ nBe s (dn s 0) ≤ 60 := by
  have h0 := dn_top s 0 (by omega)
  have e : (decDs s).size = (txt s 0 (dn s 0)).length + (tBe s (dn s 0)).length := by
    show (txt s 0 (dn s 0) ++ tBe s (dn s 0)).length = _
    rw [List.length_append]
  have h1 := txt_len s 0 (dn s 0)
  unfold nBe tBe at *
  cases hp : isP s (dn s 0)
  · rw [hp] at e
    simp at e ⊢
    omega
  · rw [hp] at e
    have hlt := (of_decide_eq_true hp).1
    have h2 := dn_top s (dn s 0 + 1) (by omega)
    have h3 := txt_len s (dn s 0 + 1) (dn s (dn s 0 + 1))
    simp only [if_true] at e ⊢
    omega
theorem lit_some {s : ByteArray} (h : decS s = true) : s.size ≤ 60 ∧ litR s = some ⟨decDs s, (nBe s (dn s 0) : Int), dnE s (pBe s (dn s 0)), pwE s (pBe s (dn s 0))⟩ ∧ pwE s (pBe s (dn s 0)) ≤ 400 := by
  have h60 : s.size ≤ 60 := by
    by_cases g : 60 < s.size
    · rw [decS_bad (.inl g)] at h; cases h
    · omega
  have ok := (scn_eq (s := s) (by omega)).2 h
  have f := scn_f ok
  refine ⟨h60, ?_, ?_⟩
  · unfold litR
    rw [if_pos h60, scn_bytes, if_pos (show (scn (D s 0) lt0).1 = true ∧ (scn (D s 0) lt0).2.pw ≤ 400 from ok), f]; rfl
  · have := ok.2
    rw [f] at this
    exact this
theorem lit_none {s : ByteArray} (h : decS s = false) : litR s = none := by
  have := dec_eq s
  rw [h] at this
  unfold decI at this
  cases hl : litR s with
  | none => rfl
  | some l => rw [hl] at this; cases this
theorem pwE_nn (s : ByteArray) (k : Nat) : 0 ≤ pwE s k := by
  unfold pwE
  split
  · exact (nm_bd _ (fun i hi => dn_dig s _ _ i rfl hi)).1
  · exact Int.le_refl _
theorem resDF {W : World} {b : Nat} {v0 v1 v2 r : Value} {tmps : Array Value} (h : Cel3 W b v0 v1 v2) (ht : tmps[2]? = some (.pointer (some ⟨b, 0, none⟩))) (h3 : tmps[3]? = some r) : (results Tryz.f5 tmps).run Tryz.prog W = .ok (.tuple #[.agg #[v0, v1, v2], r]) W := by
  obtain ⟨h1, ⟨a0, a1, a2⟩, -⟩ := h
  simp [results, Tryz.results5, go_sem, a0, a1, a2, ht, h3]
theorem fT_ok {A B : Nat} (h : lowB A B = true) : (natL A).length ≤ 1024 → True := fun _ => trivial
set_option maxRecDepth 100000 in
set_option maxHeartbeats 4000000 in
theorem iDecFrac (s : ByteArray) (w : World) (hT : Tab w) (hE : ET w) :
    Calls Tryz.prog 5 #[.string s] w fun e w' => FRes w' w.heap.size e (dcOk s) false (dcA s) (dcB s) ∧ Below w.heap.size w w' := by
  have R := Cel3.new w (.bool false) (.slice none 0 0) (.slice none 0 0) 24
  have hB : Below w.heap.size w (w.alloc (.cells #[.bool false, .slice none 0 0, .slice none 0 0] 24)) := (by repeat (first | exact Below.refl _ _ | refine Below.drew ?_ | refine old_alloc ?_ _ | refine old_trans ?_ (by assumption)))
  have LI := hd (fun w' => iLiteral s w')
  cases hdS : decS s
  · have hno : Hid (dcOk s = false) := by show _ = _; unfold dcOk; rw [hdS]; rfl
    have hl := lit_none hdS
    have hv : litV s = .tuple #[.agg #[.string ⟨#[]⟩, .int .i64 0, .bool false, .int .i64 0], .bool false] := by unfold litV; rw [hl]
    rw [hv] at LI
    clear hl hv hdS
    go_enter Tryz.func5, Tryz.ntmps5
    generalize hW0 : w.alloc (.cells #[.bool false, .slice none 0 0, .slice none 0 0] 24) = W0 at *
    go_wp2_with fail
    clear hW0
    refine (LI.out _).mono ?_
    rintro e w1 ⟨rfl, hb1⟩
    replace R := R.old hb1
    replace hB := old_trans hB hb1
    obtain ⟨m1, ⟨m2, m3, m4⟩, m5, m6, m7⟩ := id R
    go_wp2
    exact bodyPost_ret (resDF ((R.setAll (.bool false) (.slice none 0 0) (.slice none 0 0)).old (old_alloc (Below.refl _ _) (.cells #[.string ⟨#[]⟩, .int .i64 0, .bool false, .int .i64 0] 40))) rfl rfl) rfl ⟨by rw [hno.out]; exact FRes.no _ _ _ _ _, old_alloc (below_set (below_set (below_set hB (Nat.le_refl _) _) (Nat.le_refl _) _) (Nat.le_refl _) _) _⟩
  · obtain ⟨h60, hl, hp400⟩ := lit_some hdS
    have hok : Hid (dcOk s = lowB (dcA s) (dcB s)) := by show _ = _; unfold dcOk; rw [hdS]; rfl
    have hlen := decDs_len h60
    have hdig := decDs_dig s
    have hp0 := pwE_nn s (pBe s (dn s 0))
    obtain ⟨P, hP⟩ := Int.eq_ofNat_of_zero_le hp0
    have hv : litV s = .tuple #[.agg #[.string (decDs s), .int .i64 (nBe s (dn s 0) : Int), .bool (dnE s (pBe s (dn s 0))), .int .i64 (P : Int)], .bool true] := by unfold litV; rw [hl, hP]
    have hEE : expI (dnE s (pBe s (dn s 0))) P (nBe s (dn s 0)) = decE s := by unfold expI decE decPw; rw [hP]
    rw [hP] at hp400
    rw [hv] at LI
    have VA := hd (fun w' => iValue (decDs s) (nBe s (dn s 0)) P (dnE s (pBe s (dn s 0))) w' hlen.1 hdig hlen.2 (by omega))
    rw [hEE] at VA
    have hA0 : dfA (nv (decDs s) (decDs s).size) (decE s) = dcA s := rfl
    have hB0 : dfB (decE s) = dcB s := rfl
    rw [hA0, hB0] at VA
    have hEb : -460 ≤ decE s ∧ decE s ≤ 400 := by
      rw [← hEE]; unfold expI
      cases dnE s (pBe s (dn s 0)) <;> simp <;> omega
    have hlA : (natL (dcA s)).length ≤ 1024 := by
      have h1 : (natL (nv (decDs s) (decDs s).size)).length ≤ 60 := Nat.le_trans (natL_len.2 (nv_lt _ _)) hlen.1
      unfold dcA dfA
      split
      · omega
      · have := mul_lenT h1 (tenT (k := (decE s).toNat) (by omega)); omega
    have hlB : (natL (dcB s)).length ≤ 1024 := by
      unfold dcB dfB
      split
      · have := tenT (k := (-decE s).toNat) (by omega); omega
      · have := tenT (k := 0) (by omega); simpa using Nat.le_trans this (by decide)
    generalize dcA s = A9 at *
    generalize dcB s = B9 at *
    generalize decDs s = ds at *
    generalize nBe s (dn s 0) = m9 at *
    generalize dnE s (pBe s (dn s 0)) = d9 at *
    clear hl hv hEE hA0 hB0 hEb hdig hp0 hP hdS hp400
    go_enter Tryz.func5, Tryz.ntmps5
    generalize hW0 : w.alloc (.cells #[.bool false, .slice none 0 0, .slice none 0 0] 24) = W0 at *
    go_wp2_with fail
    clear hW0
    refine (LI.out _).mono ?_
    rintro e w1 ⟨rfl, hb1⟩
    replace R := R.old hb1
    replace hB := old_trans hB hb1
    clear hb1 LI
    have K := CS.made w1 _ rfl #[.string ds, .int .i64 (m9 : Int), .bool d9, .int .i64 (P : Int)] 40
    have hal : Below w1.heap.size w1 (w1.alloc (.cells #[.string ds, .int .i64 (m9 : Int), .bool d9, .int .i64 (P : Int)] 40)) := old_alloc (Below.refl _ _) _
    replace R := R.old hal
    replace hB := old_trans hB hal
    clear hal
    have k0 := K.cell 0 _ rfl
    have k1 := K.cell 1 _ rfl
    have k2 := K.cell 2 _ rfl
    have k3 := K.cell 3 _ rfl
    go_wp2_with fail
    refine (VA.out _).mono ?_
    rintro e w2 ⟨⟨avA, cvA, avB, cvB, rfl, OA, OB⟩, hb2⟩
    replace R := R.old hb2
    replace hB := old_trans hB hb2
    clear hb2 VA k0 k1 k2 k3 K
    have LO := hd (iLowest false avA avB cvA cvB A9 B9 w2 OA.inI OB.inI hlA hlB (hT.old hB))
    go_wp2_with fail
    refine LO.out.mono ?_
    rintro e w3 ⟨he, hb3⟩
    have y0 := R.1
    replace R := R.old hb3
    replace hB := old_trans hB hb3
    clear hb3 LO OA OB
    rcases he with ⟨hlow, avT, cvT, avU, cvU, rfl, OT, OU, sp⟩ | ⟨hlow, f, rfl⟩
    · have hlow' := hd (hok.out.trans hlow)
      go_wp2_with fail
      refine (iAnsNil (false && decide (A9 ≠ 0)) _ _ ⟨_, _, _, rfl⟩ ⟨_, _, _, rfl⟩ _).mono ?_
      rintro e w4 ⟨rfl, hb4⟩
      replace R := R.old hb4
      replace hB := old_trans hB hb4
      replace OT := OT.later hb4
      replace OU := OU.later hb4
      clear hb4 hlow
      obtain ⟨m1, ⟨m2, m3, m4⟩, m5, m6, m7⟩ := id R
      go_wp2
      exact bodyPost_ret (resDF (R.setAll (.bool (false && decide (A9 ≠ 0))) (.slice avT (lowT A9 B9).length cvT) (.slice avU (lowU A9 B9).length cvU)) rfl rfl) rfl ⟨by rw [hlow'.out]; exact FRes.yes ((oi_set3 OT y0).mono (Nat.le_of_lt y0)) ((oi_set3 OU y0).mono (Nat.le_of_lt y0)) sp, below_set (below_set (below_set hB (Nat.le_refl _) _) (Nat.le_refl _) _) (Nat.le_refl _) _⟩
    · have hlow' := hd (hok.out.trans hlow)
      go_wp2_with fail
      refine (iAnsFault false _ _ ⟨_, _, _, rfl⟩ ⟨_, _, _, rfl⟩ f _ (hE.old hB)).mono ?_
      rintro e w4 ⟨rfl, hb4⟩
      replace R := R.old hb4
      replace hB := old_trans hB hb4
      clear hb4 hlow
      obtain ⟨m1, ⟨m2, m3, m4⟩, m5, m6, m7⟩ := id R
      go_wp2
      exact bodyPost_ret (resDF (R.setAll (.bool false) (.slice none 0 0) (.slice none 0 0)) rfl rfl) rfl ⟨by rw [hlow'.out]; exact FRes.no _ _ _ _ _, below_set (below_set (below_set hB (Nat.le_refl _) _) (Nat.le_refl _) _) (Nat.le_refl _) _⟩
end Go.Proofs.YtnjdcaidoffhbaaGreatDoor
