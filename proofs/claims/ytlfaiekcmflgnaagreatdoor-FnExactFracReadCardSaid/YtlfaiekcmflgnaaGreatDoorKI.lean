/- FracText of the program and of the specification: one text. Conditions, for the program: the library's tables and its handle of errors are there. Nothing that was there is written. -/
import Derived.Test.YtlfaiekcmflgnaaGreatDoorKG
namespace Go.Proofs.YtlfaiekcmflgnaaGreatDoor
open Go.RowKit Go.Lib
set_option linter.unusedVariables false
set_option maxRecDepth 100000

theorem frT_no {bl : Bool} {xs ys : List Int} (h : fracOk bl xs ys = false) : frT bl xs ys = ⟨#[]⟩ := by unfold frT; rw [h]; rfl
theorem frT_yes {bl : Bool} {xs ys : List Int} (h : fracOk bl xs ys = true) : frT bl xs ys = bt (frL bl (val xs) (val ys)) := by unfold frT; rw [h]; rfl
set_option maxRecDepth 100000 in
set_option maxHeartbeats 2000000 in
theorem iFracText (bl : Bool) (a b : Option Addr) (la lb ca cb : Nat) (xs ys : List Int) (w : World) (hA : InI w a la ca xs) (hB : InI w b lb cb ys) (hT : Tab w) (hE : ET w) (hP : P10 w) :
    Calls Tryz.prog 11 #[.agg #[.bool bl, .slice a la ca, .slice b lb cb]] w fun e w' => e = .returned (.string (frT bl xs ys)) ∧ Below w.heap.size w w' := by
  have e0 : Below w.heap.size w (w.alloc (.cells #[.bool bl, .slice a la ca, .slice b lb cb] 24)) := (by repeat (first | exact Below.refl _ _ | refine Below.drew ?_ | refine old_alloc ?_ _ | refine old_trans ?_ (by assumption)))
  have R := hd (iRatioOf bl a b la lb ca cb xs ys _ (hA.old e0) (hB.old e0) (hT.old e0))
  have F1 := hd (fun s w' (h : Below w.heap.size w w') => iFault s w' (hE.old h))
  have F0 := hd iNoFault
  have TX := hd (fun (hf : fracOk bl xs ys = true) w' (h : Below w.heap.size w w') => iRText bl a b la lb ca cb xs ys w' (hA.old h) (hB.old h) (fracOk_in hf).1 (fracOk_in hf).2.1 (hP.old h))
  clear hA hB hT hE hP
  go_enter Tryz.func11, Tryz.ntmps11
  go_wp2_with fail
  refine R.out.mono ?_
  rintro e w1 ⟨he, hb1⟩
  have hB1 := old_trans e0 hb1
  rcases he with ⟨hf, rfl⟩ | ⟨hf, s, rfl⟩
  · have hf' := hd (frT_yes hf)
    have T9 := hd (TX.out hf)
    generalize bt (frL bl (val xs) (val ys)) = tx at *
    have hB2 := old_alloc hB1 (.cells #[.bool bl, .slice a la ca, .slice b lb cb] 51)
    have K := Cel3.new w1 (.bool bl) (.slice a la ca) (.slice b lb cb) 51
    clear hf TX
    go_wp2_with fail
    refine (F0.out _).mono ?_
    rintro e w2 ⟨rfl, hb2⟩
    obtain ⟨k1, ⟨k2, k3, k4⟩, -⟩ := K.old hb2
    have hB3 := old_trans hB2 hb2
    clear hb2
    go_wp2_with fail
    refine (T9.out _ hB3).mono ?_
    rintro e w3 ⟨rfl, hb3⟩
    go_wp2
    go_ret
    exact ⟨retS hf'.out, old_trans hB3 hb3⟩
  · have hf' := hd (frT_no hf)
    have hB2 := old_alloc hB1 (.cells #[.bool false, .slice none 0 0, .slice none 0 0] 51)
    clear hf TX
    go_wp2_with fail
    refine (F1.out _ _ hB2).mono ?_
    rintro e w2 ⟨rfl, hb2⟩
    go_wp2
    go_ret
    exact ⟨retS hf'.out, old_trans hB2 hb2⟩
set_option maxRecDepth 100000 in
set_option maxHeartbeats 2000000 in
theorem sFracText (bl : Bool) (a b : Option Addr) (la lb ca cb : Nat) (xs ys : List Int) (w : World) (hA : InI w a la ca xs) (hB : InI w b lb cb ys) :
    Calls Tryz.prog 31 #[.agg #[.bool bl, .slice a la ca, .slice b lb cb]] w fun e w' => e = .returned (.string (frT bl xs ys)) ∧ Below w.heap.size w w' := by
  have e0 : Below w.heap.size w (w.alloc (.cells #[.bool bl, .slice a la ca, .slice b lb cb] 24)) := (by repeat (first | exact Below.refl _ _ | refine Below.drew ?_ | refine old_alloc ?_ _ | refine old_trans ?_ (by assumption)))
  have R := hd (sFracOk bl a b la lb ca cb xs ys _ (hA.old e0) (hB.old e0))
  have K := Cel3.new w (.bool bl) (.slice a la ca) (.slice b lb cb) 24
  cases hf : fracOk bl xs ys
  · have hf' := hd (frT_no hf)
    rw [hf] at R
    clear hf hA hB K
    go_enter Tryz.func31, Tryz.ntmps31
    go_wp2_with fail
    refine R.out.mono ?_
    rintro e w1 ⟨rfl, hb1⟩
    go_wp2
    go_ret
    exact ⟨retS hf'.out, old_trans e0 hb1⟩
  have hin := fracOk_in hf
  have hx := hin.1
  have hy := hin.2.1
  have T1 := hd (fun w' (h : Below w.heap.size w w') => sNatText a la ca xs w' (hA.old h))
  have T2 := hd (fun w' (h : Below w.heap.size w w') => sNatText b lb cb ys w' (hB.old h))
  have e1 : ntB xs = decDigits (val xs) := by unfold ntB; rw [hx]; rfl
  have e2 : ntB ys = decDigits (val ys) := by unfold ntB; rw [hy]; rfl
  have cy := natOk_canon hy
  have O1 := hd (fun w' (h : Below w.heap.size w w') => sL6One b cb (val ys) w' (by rw [cy, hB.1]; exact hB.old h))
  rw [cy, hB.1] at O1
  rw [e1] at T1
  rw [e2] at T2
  have z1 : (⟨(decDigits (val xs)).toArray⟩ : ByteArray).size ≤ 1250 := big_dec (natOk_lt hx)
  have z2 : (⟨(decDigits (val ys)).toArray⟩ : ByteArray).size ≤ 1250 := big_dec (natOk_lt hy)
  have hf' := hd (frT_yes hf)
  rw [hf] at R
  generalize hs1 : (⟨(decDigits (val xs)).toArray⟩ : ByteArray) = s1 at *
  generalize hs2 : (⟨(decDigits (val ys)).toArray⟩ : ByteArray) = s2 at *
  have hs1' : Hid (bt (decDigits (val xs)) = s1) := hs1
  have hs2' : Hid (bt (decDigits (val ys)) = s2) := hs2
  clear hs1 hs2 e1 e2 cy hin hx hy hf hA hB
  by_cases h1 : val ys = 1
  · have F0 : Hid (bl = false → Ending.returned (.string s1) = .returned (.string (frT bl xs ys))) := fun h => by
      subst h; exact retS (by rw [hf'.out, h1, fr_one, hs1'.out])
    have F1 : Hid (bl = true → Ending.returned (.string (⟨#[45]⟩ ++ s1)) = .returned (.string (frT bl xs ys))) := fun h => by
      subst h; exact retS (by rw [hf'.out, h1, fr_oneM, hs1'.out]; rfl)
    rw [decide_eq_true h1] at O1
    clear h1 hs1' hs2' hf'
    generalize frT bl xs ys = rs at *
    cases bl
    · have Fin := hd (F0.out rfl)
      clear F0 F1
      go_enter Tryz.func31, Tryz.ntmps31
      go_wp2_with fail
      refine R.out.mono ?_
      rintro e w1 ⟨rfl, hb1⟩
      have hB1 := old_trans e0 hb1
      replace K := K.old hb1
      obtain ⟨k1, ⟨k2, k3, k4⟩, -⟩ := id K
      go_wp2_with fail
      refine (T1.out _ hB1).mono ?_
      rintro e w2 ⟨rfl, hb2⟩
      have hB2 := old_trans hB1 hb2
      replace K := K.old hb2
      clear k1 k2 k3 k4
      obtain ⟨k1, ⟨k2, k3, k4⟩, -⟩ := id K
      go_wp2_with fail
      refine (O1.out _ hB2).mono ?_
      rintro e w3 ⟨rfl, rfl⟩
      go_wp2
      go_ret
      exact ⟨Fin.out, hB2⟩
    · have Fin := hd (F1.out rfl)
      clear F0 F1
      go_enter Tryz.func31, Tryz.ntmps31
      go_wp2_with fail
      refine R.out.mono ?_
      rintro e w1 ⟨rfl, hb1⟩
      have hB1 := old_trans e0 hb1
      replace K := K.old hb1
      obtain ⟨k1, ⟨k2, k3, k4⟩, -⟩ := id K
      go_wp2_with fail
      refine (T1.out _ hB1).mono ?_
      rintro e w2 ⟨rfl, hb2⟩
      have hB2 := old_trans hB1 hb2
      replace K := K.old hb2
      clear k1 k2 k3 k4
      obtain ⟨k1, ⟨k2, k3, k4⟩, -⟩ := id K
      go_wp2_with fail
      refine (O1.out _ hB2).mono ?_
      rintro e w3 ⟨rfl, rfl⟩
      go_wp2
      go_ret
      exact ⟨Fin.out, hB2⟩
  · have F0 : Hid (bl = false → Ending.returned (.string ((s1 ++ ⟨#[47]⟩) ++ s2)) = .returned (.string (frT bl xs ys))) := fun h => by
      subst h; exact retS (by rw [hf'.out, fr_two' _ h1, hs1'.out, hs2'.out]; rfl)
    have F1 : Hid (bl = true → Ending.returned (.string (((⟨#[45]⟩ ++ s1) ++ ⟨#[47]⟩) ++ s2)) = .returned (.string (frT bl xs ys))) := fun h => by
      subst h; exact retS (by rw [hf'.out, fr_twoM' _ h1, hs1'.out, hs2'.out]; rfl)
    rw [decide_eq_false h1] at O1
    clear h1 hs1' hs2' hf'
    generalize frT bl xs ys = rs at *
    cases bl
    · have Fin := hd (F0.out rfl)
      clear F0 F1
      go_enter Tryz.func31, Tryz.ntmps31
      go_wp2_with fail
      refine R.out.mono ?_
      rintro e w1 ⟨rfl, hb1⟩
      have hB1 := old_trans e0 hb1
      replace K := K.old hb1
      obtain ⟨k1, ⟨k2, k3, k4⟩, -⟩ := id K
      go_wp2_with fail
      refine (T1.out _ hB1).mono ?_
      rintro e w2 ⟨rfl, hb2⟩
      have hB2 := old_trans hB1 hb2
      replace K := K.old hb2
      clear k1 k2 k3 k4
      obtain ⟨k1, ⟨k2, k3, k4⟩, -⟩ := id K
      go_wp2_with fail
      refine (O1.out _ hB2).mono ?_
      rintro e w3 ⟨rfl, rfl⟩
      go_wp2_with fail
      refine (T2.out _ hB2).mono ?_
      rintro e w4 ⟨rfl, hb4⟩
      go_wp2
      go_ret
      exact ⟨Fin.out, old_trans hB2 hb4⟩
    · have Fin := hd (F1.out rfl)
      clear F0 F1
      go_enter Tryz.func31, Tryz.ntmps31
      go_wp2_with fail
      refine R.out.mono ?_
      rintro e w1 ⟨rfl, hb1⟩
      have hB1 := old_trans e0 hb1
      replace K := K.old hb1
      obtain ⟨k1, ⟨k2, k3, k4⟩, -⟩ := id K
      go_wp2_with fail
      refine (T1.out _ hB1).mono ?_
      rintro e w2 ⟨rfl, hb2⟩
      have hB2 := old_trans hB1 hb2
      replace K := K.old hb2
      clear k1 k2 k3 k4
      obtain ⟨k1, ⟨k2, k3, k4⟩, -⟩ := id K
      go_wp2_with fail
      refine (O1.out _ hB2).mono ?_
      rintro e w3 ⟨rfl, rfl⟩
      go_wp2_with fail
      refine (T2.out _ hB2).mono ?_
      rintro e w4 ⟨rfl, hb4⟩
      go_wp2
      go_ret
      exact ⟨Fin.out, old_trans hB2 hb4⟩
end Go.Proofs.YtlfaiekcmflgnaaGreatDoor
