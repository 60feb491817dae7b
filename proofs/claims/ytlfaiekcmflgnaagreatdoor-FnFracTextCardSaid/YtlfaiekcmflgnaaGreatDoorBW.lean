/- Texts of fractions, by the program and by the specification: one text. Conditions, for the program: the library's tables and its handle of errors are there. Nothing that was there is written. -/
import Derived.Test.YtlfaiekcmflgnaaGreatDoorBZ
import Derived.Test.YtlfaiekcmflgnaaGreatDoorFE
namespace Go.Proofs.YtlfaiekcmflgnaaGreatDoor
open Go.RowKit Go.Lib
set_option linter.unusedVariables false
set_option maxRecDepth 100000

theorem bt_app (l m : List UInt8) : bt l ++ bt m = bt (l ++ m) := by
  apply ByteArray.ext
  rw [ByteArray.data_append]
  simp [bt]
/-- the text of a fraction -/
def frL (bl : Bool) (V U : Nat) : List UInt8 := (if bl then [45] else []) ++ (decDigits V ++ (if U = 1 then [] else 47 :: decDigits U))
def frT (bl : Bool) (xs ys : List Int) : ByteArray := if fracOk bl xs ys then bt (frL bl (val xs) (val ys)) else bt []
theorem cmp_one (U : Nat) : (cmpI U 1 = 0) ↔ U = 1 := by unfold cmpI; split <;> (try split) <;> omega
theorem fr_one (V : Nat) : bt (frL false V 1) = bt (decDigits V) := by simp [frL]
theorem fr_oneM (V : Nat) : bt (frL true V 1) = bt [45] ++ bt (decDigits V) := by rw [bt_app]; simp [frL]
theorem fr_two {U : Nat} (V : Nat) (h : U ≠ 1) : bt (frL false V U) = bt (decDigits V) ++ (bt [47] ++ bt (decDigits U)) := by rw [bt_app, bt_app]; simp [frL, h]
theorem fr_twoM {U : Nat} (V : Nat) (h : U ≠ 1) : bt (frL true V U) = (bt [45] ++ bt (decDigits V)) ++ (bt [47] ++ bt (decDigits U)) := by rw [bt_app, bt_app, bt_app]; simp [frL, h]
theorem fr_two' {U : Nat} (V : Nat) (h : U ≠ 1) : bt (frL false V U) = (bt (decDigits V) ++ bt [47]) ++ bt (decDigits U) := by rw [bt_app, bt_app]; simp [frL, h]
theorem fr_twoM' {U : Nat} (V : Nat) (h : U ≠ 1) : bt (frL true V U) = ((bt [45] ++ bt (decDigits V)) ++ bt [47]) ++ bt (decDigits U) := by rw [bt_app, bt_app, bt_app]; simp [frL, h]
theorem Cel3.drewT {w : World} {b : Nat} {v0 v1 v2 : Value} (h : Cel3 w b v0 v1 v2) : Cel3 w.drew b v0 v1 v2 := h
theorem retS {s t : ByteArray} (h : t = s) : Ending.returned (.string s) = Ending.returned (.string t) := by rw [h]
set_option maxRecDepth 100000 in
set_option maxHeartbeats 4000000 in
theorem iRText (bl : Bool) (a b : Option Addr) (la lb ca cb : Nat) (xs ys : List Int) (w : World) (hA : InI w a la ca xs) (hB : InI w b lb cb ys) (hx : natOk xs = true) (hy : natOk ys = true) (hT : P10 w) :
    Calls Tryz.prog 26 #[.agg #[.bool bl, .slice a la ca, .slice b lb cb]] w fun e w' => e = .returned (.string (bt (frL bl (val xs) (val ys)))) ∧ Below w.heap.size w w' := by
  have cx := natOk_canon hx
  have cy := natOk_canon hy
  have nx := natOk_in hx
  have ny := natOk_in hy
  have T1 := hd (fun w' (h : Below w.heap.size w w') => iText a ca (val xs) w' (by rw [cx, hA.1]; exact hA.old h) (by rw [cx]; omega) (hT.old h))
  have T2 := hd (fun w' (h : Below w.heap.size w w') => iText b cb (val ys) w' (by rw [cy, hB.1]; exact hB.old h) (by rw [cy]; omega) (hT.old h))
  rw [cx, hA.1] at T1
  rw [cy, hB.1] at T2
  have AG := hd (fun a' c' m w' (h : Below w.heap.size w w') (o : OI w' m a' c' (natL 1)) => iAgainst b a' lb _ cb c' ys (natL 1) w' (hB.old h) o.inI ny.2.1 (digs_natL 1) ny.2.2 (topped_natL 1))
  rw [val_natL] at AG
  have hcm := cmp_one (val ys)
  have K := Cel3.new w (.bool bl) (.slice a la ca) (.slice b lb cb) 51
  have e0 : Below w.heap.size w (w.alloc (.cells #[.bool bl, .slice a la ca, .slice b lb cb] 51)) := (by repeat (first | exact Below.refl _ _ | refine Below.drew ?_ | refine old_alloc ?_ _ | refine old_trans ?_ (by assumption)))
  have z1 : (⟨(decDigits (val xs)).toArray⟩ : ByteArray).size ≤ 1250 := big_dec (natOk_lt hx)
  have z2 : (⟨(decDigits (val ys)).toArray⟩ : ByteArray).size ≤ 1250 := big_dec (natOk_lt hy)
  generalize hs1 : (⟨(decDigits (val xs)).toArray⟩ : ByteArray) = s1 at *
  generalize hs2 : (⟨(decDigits (val ys)).toArray⟩ : ByteArray) = s2 at *
  have hs1' : Hid (bt (decDigits (val xs)) = s1) := hs1
  have hs2' : Hid (bt (decDigits (val ys)) = s2) := hs2
  obtain ⟨cm, hcm'⟩ : ∃ cm, cmpI (val ys) 1 = cm := ⟨_, rfl⟩
  rw [hcm'] at hcm AG
  clear hs1 hs2 cx cy nx ny hcm'
  obtain ⟨k1, ⟨k2, k3, k4⟩, -⟩ := id K
  have R1 : Hid (cm = 0 → ∀ W, Below w.heap.size w W → (bl = false → Ending.returned (.string s1) = .returned (.string (bt (frL bl (val xs) (val ys)))) ∧ Below w.heap.size w W) ∧ (bl = true → Ending.returned (.string (⟨#[45]⟩ ++ s1)) = .returned (.string (bt (frL bl (val xs) (val ys)))) ∧ Below w.heap.size w W)) := by
    intro h0 W hW
    rw [hcm.1 h0]
    refine ⟨fun h => ?_, fun h => ?_⟩ <;> subst h
    · exact ⟨retS (by rw [fr_one, hs1'.out]), hW⟩
    · exact ⟨retS (by rw [fr_oneM, hs1'.out]; rfl), hW⟩
  have R2 : Hid (cm ≠ 0 → ∀ W, Below w.heap.size w W → (bl = false → Ending.returned (.string (s1 ++ (⟨#[47]⟩ ++ s2))) = .returned (.string (bt (frL bl (val xs) (val ys)))) ∧ Below w.heap.size w W) ∧ (bl = true → Ending.returned (.string ((⟨#[45]⟩ ++ s1) ++ (⟨#[47]⟩ ++ s2))) = .returned (.string (bt (frL bl (val xs) (val ys)))) ∧ Below w.heap.size w W)) := by
    intro h0 W hW
    have hne : val ys ≠ 1 := fun e => h0 (hcm.2 e)
    refine ⟨fun h => ?_, fun h => ?_⟩ <;> subst h
    · exact ⟨retS (by rw [fr_two _ hne, hs1'.out, hs2'.out]; rfl), hW⟩
    · exact ⟨retS (by rw [fr_twoM _ hne, hs1'.out, hs2'.out]; rfl), hW⟩
  generalize bt (frL bl (val xs) (val ys)) = rs at *
  clear hcm hA hB hx hy hT hs1' hs2'
  go_enter Tryz.func26, Tryz.ntmps26
  generalize hW0 : w.alloc (.cells #[.bool bl, .slice a la ca, .slice b lb cb] 51) = W0 at *
  go_wp2_with fail
  refine (T1.out _ e0).mono ?_
  rintro e w1 ⟨rfl, hb1⟩
  have hB1 := old_trans e0 hb1
  replace K := K.old hb1
  clear k1 k2 k3 k4 T1 hb1
  obtain ⟨k1, ⟨k2, k3, k4⟩, -⟩ := id K
  clear hW0
  cases bl
  · have RA := hd (fun (h0 : cm = 0) W h => ((R1.out h0 W h).1 rfl))
    have RB := hd (fun (h0 : cm ≠ 0) W h => ((R2.out h0 W h).1 rfl))
    clear R1 R2
    go_wp2_with fail
    go_region_held3 (fun w' => w'.cell? ⟨w.heap.size, 0, none⟩ = some (.bool false) ∧ w'.cell? ⟨w.heap.size, 1, none⟩ = some (.slice a la ca) ∧ w'.cell? ⟨w.heap.size, 2, none⟩ = some (.slice b lb cb)) (go_keep) (first | (go_at_call 48; refine (iOne _).mono ?_; rintro e w2 ⟨⟨avO, cvO, rfl, O⟩, hb2⟩; have K2 := (by with_reducible first | exact K.old hb2 | exact K.drewT.old hb2 : Cel3 w2 _ _ _ _); have hC2 := (by with_reducible first | exact old_trans hB1 hb2 | exact old_trans hB1.drew hb2 : Below w.heap.size w w2); obtain ⟨-, ⟨m2, m3, m4⟩, -⟩ := id K2) | (go_at_call 47; (first | refine (AG.out _ _ _ _ hC2 O).mono ?_ | refine (AG.out _ _ _ _ hC2.drew O.drew).mono ?_); rintro e w3 ⟨rfl, hb3⟩; have K3 := (by with_reducible first | exact K2.old hb3 | exact K2.drewT.old hb3 : Cel3 w3 _ _ _ _); have hC3 := (by with_reducible first | exact old_trans hC2 hb3 | exact old_trans hC2.drew hb3 : Below w.heap.size w w3); obtain ⟨-, ⟨n2, n3, n4⟩, -⟩ := id K3))
    all_goals
      have hB3 := hC3
      clear hb2 hb3 K K2 O k1 k2 k3 k4 m2 m3 m4 hC2 hC3
      obtain ⟨q1, -, -⟩ := id K3
      by_cases h0 : cm = 0
      · have R := hd (fun W h => RA.out h0 W h)
        subst h0
        go_wp2
        go_ret
        exact R.out _ hB3
      · have R := hd (fun W h => RB.out h0 W h)
        have h0b : (cm == 0) = false := by simpa using h0
        go_wp2_with fail
        refine (T2.out _ hB3).mono ?_
        rintro e w4 ⟨rfl, hb4⟩
        go_wp2
        go_ret
        exact R.out _ (old_trans hB3 hb4)
  · have RA := hd (fun (h0 : cm = 0) W h => ((R1.out h0 W h).2 rfl))
    have RB := hd (fun (h0 : cm ≠ 0) W h => ((R2.out h0 W h).2 rfl))
    clear R1 R2
    go_wp2_with fail
    go_region_held3 (fun w' => w'.cell? ⟨w.heap.size, 0, none⟩ = some (.bool true) ∧ w'.cell? ⟨w.heap.size, 1, none⟩ = some (.slice a la ca) ∧ w'.cell? ⟨w.heap.size, 2, none⟩ = some (.slice b lb cb)) (go_keep) (first | (go_at_call 48; refine (iOne _).mono ?_; rintro e w2 ⟨⟨avO, cvO, rfl, O⟩, hb2⟩; have K2 := (by with_reducible first | exact K.old hb2 | exact K.drewT.old hb2 : Cel3 w2 _ _ _ _); have hC2 := (by with_reducible first | exact old_trans hB1 hb2 | exact old_trans hB1.drew hb2 : Below w.heap.size w w2); obtain ⟨-, ⟨m2, m3, m4⟩, -⟩ := id K2) | (go_at_call 47; (first | refine (AG.out _ _ _ _ hC2 O).mono ?_ | refine (AG.out _ _ _ _ hC2.drew O.drew).mono ?_); rintro e w3 ⟨rfl, hb3⟩; have K3 := (by with_reducible first | exact K2.old hb3 | exact K2.drewT.old hb3 : Cel3 w3 _ _ _ _); have hC3 := (by with_reducible first | exact old_trans hC2 hb3 | exact old_trans hC2.drew hb3 : Below w.heap.size w w3); obtain ⟨-, ⟨n2, n3, n4⟩, -⟩ := id K3))
    all_goals
      have hB3 := hC3
      clear hb2 hb3 K K2 O k1 k2 k3 k4 m2 m3 m4 hC2 hC3
      obtain ⟨q1, -, -⟩ := id K3
      by_cases h0 : cm = 0
      · have R := hd (fun W h => RA.out h0 W h)
        subst h0
        go_wp2
        go_ret
        exact R.out _ hB3
      · have R := hd (fun W h => RB.out h0 W h)
        have h0b : (cm == 0) = false := by simpa using h0
        go_wp2_with fail
        refine (T2.out _ hB3).mono ?_
        rintro e w4 ⟨rfl, hb4⟩
        go_wp2
        go_ret
        exact R.out _ (old_trans hB3 hb4)
end Go.Proofs.YtlfaiekcmflgnaaGreatDoor

/- FracText of the program and of the specification: one text. Conditions, for the program: the library's tables and its handle of errors are there. Nothing that was there is written. -/
namespace Go.Proofs.YtlfaiekcmflgnaaGreatDoor
open Go.RowKit Go.Lib
set_option linter.unusedVariables false
set_option maxRecDepth 100000

theorem frT_no {bl : Bool} {xs ys : List Int} (h : fracOk bl xs ys = false) : frT bl xs ys = ⟨#[]⟩ := by unfold frT; rw [h]; rfl
theorem frT_yes {bl : Bool} {xs ys : List Int} (h : fracOk bl xs ys = true) : frT bl xs ys = bt (frL bl (val xs) (val ys)) := by unfold frT; rw [h]; rfl
set_option maxRecDepth 100000 in
set_option maxHeartbeats 2000000 in
theorem iFracText (bl : Bool) (a b : Option Addr) (la lb ca cb : Nat) (xs ys : List Int) (w : World) (hA : InI w a la ca xs) (hB : InI w b lb cb ys) (hT : Tab w) (hE : ET w) (hP : P10 w) :
    Calls Tryz.prog 11 #[.agg #[.bool bl, .slice a la ca, .slice b lb cb]] w fun e w' => e = .returned (.string (frT bl xs ys)) ∧ Below w.heap.size w w' := by
  have e0 : Below w.heap.size w (w.alloc (.cells #[.bool bl, .slice a la ca, .slice b lb cb] 24)) := (by repeat (first | exact Below.refl _ _ | refine Below.drew ?_ | refine old_alloc ?_ _ | refine old_trans ?_ (by assumption)))
  have R := hd (iRatioOf bl a b la lb ca cb xs ys _ (hA.old e0) (hB.old e0) (hT.old e0))
  have F1 := hd (fun s w' (h : Below w.heap.size w w') => iFault s w' (hE.old h))
  have F0 := hd iNoFault
  have TX := hd (fun (hf : fracOk bl xs ys = true) w' (h : Below w.heap.size w w') => iRText bl a b la lb ca cb xs ys w' (hA.old h) (hB.old h) (fracOk_in hf).1 (fracOk_in hf).2.1 (hP.old h))
  clear hA hB hT hE hP
  go_enter Tryz.func11, Tryz.ntmps11
  go_wp2_with fail
  refine R.out.mono ?_
  rintro e w1 ⟨he, hb1⟩
  have hB1 := old_trans e0 hb1
  rcases he with ⟨hf, rfl⟩ | ⟨hf, s, rfl⟩
  · have hf' := hd (frT_yes hf)
    have T9 := hd (TX.out hf)
    generalize bt (frL bl (val xs) (val ys)) = tx at *
    have hB2 := old_alloc hB1 (.cells #[.bool bl, .slice a la ca, .slice b lb cb] 51)
    have K := Cel3.new w1 (.bool bl) (.slice a la ca) (.slice b lb cb) 51
    clear hf TX
    go_wp2_with fail
    refine (F0.out _).mono ?_
    rintro e w2 ⟨rfl, hb2⟩
    obtain ⟨k1, ⟨k2, k3, k4⟩, -⟩ := K.old hb2
    have hB3 := old_trans hB2 hb2
    clear hb2
    go_wp2_with fail
    refine (T9.out _ hB3).mono ?_
    rintro e w3 ⟨rfl, hb3⟩
    go_wp2
    go_ret
    exact ⟨retS hf'.out, old_trans hB3 hb3⟩
  · have hf' := hd (frT_no hf)
    have hB2 := old_alloc hB1 (.cells #[.bool false, .slice none 0 0, .slice none 0 0] 51)
    clear hf TX
    go_wp2_with fail
    refine (F1.out _ _ hB2).mono ?_
    rintro e w2 ⟨rfl, hb2⟩
    go_wp2
    go_ret
    exact ⟨retS hf'.out, old_trans hB2 hb2⟩
set_option maxRecDepth 100000 in
set_option maxHeartbeats 2000000 in
theorem sFracText (bl : Bool) (a b : Option Addr) (la lb ca cb : Nat) (xs ys : List Int) (w : World) (hA : InI w a la ca xs) (hB : InI w b lb cb ys) :
    Calls Tryz.prog 31 #[.agg #[.bool bl, .slice a la ca, .slice b lb cb]] w fun e w' => e = .returned (.string (frT bl xs ys)) ∧ Below w.heap.size w w' := by
  have e0 : Below w.heap.size w (w.alloc (.cells #[.bool bl, .slice a la ca, .slice b lb cb] 24)) := (by repeat (first | exact Below.refl _ _ | refine Below.drew ?_ | refine old_alloc ?_ _ | refine old_trans ?_ (by assumption)))
  have R := hd (sFracOk bl a b la lb ca cb xs ys _ (hA.old e0) (hB.old e0))
  have K := Cel3.new w (.bool bl) (.slice a la ca) (.slice b lb cb) 24
  cases hf : fracOk bl xs ys
  · have hf' := hd (frT_no hf)
    rw [hf] at R
    clear hf hA hB K
    go_enter Tryz.func31, Tryz.ntmps31
    go_wp2_with fail
    refine R.out.mono ?_
    rintro e w1 ⟨rfl, hb1⟩
    go_wp2
    go_ret
    exact ⟨retS hf'.out, old_trans e0 hb1⟩
  have hin := fracOk_in hf
  have hx := hin.1
  have hy := hin.2.1
  have T1 := hd (fun w' (h : Below w.heap.size w w') => sNatText a la ca xs w' (hA.old h))
  have T2 := hd (fun w' (h : Below w.heap.size w w') => sNatText b lb cb ys w' (hB.old h))
  have e1 : ntB xs = decDigits (val xs) := by unfold ntB; rw [hx]; rfl
  have e2 : ntB ys = decDigits (val ys) := by unfold ntB; rw [hy]; rfl
  have cy := natOk_canon hy
  have O1 := hd (fun w' (h : Below w.heap.size w w') => sL6One b cb (val ys) w' (by rw [cy, hB.1]; exact hB.old h))
  rw [cy, hB.1] at O1
  rw [e1] at T1
  rw [e2] at T2
  have z1 : (⟨(decDigits (val xs)).toArray⟩ : ByteArray).size ≤ 1250 := big_dec (natOk_lt hx)
  have z2 : (⟨(decDigits (val ys)).toArray⟩ : ByteArray).size ≤ 1250 := big_dec (natOk_lt hy)
  have hf' := hd (frT_yes hf)
  rw [hf] at R
  generalize hs1 : (⟨(decDigits (val xs)).toArray⟩ : ByteArray) = s1 at *
  generalize hs2 : (⟨(decDigits (val ys)).toArray⟩ : ByteArray) = s2 at *
  have hs1' : Hid (bt (decDigits (val xs)) = s1) := hs1
  have hs2' : Hid (bt (decDigits (val ys)) = s2) := hs2
  clear hs1 hs2 e1 e2 cy hin hx hy hf hA hB
  by_cases h1 : val ys = 1
  · have F0 : Hid (bl = false → Ending.returned (.string s1) = .returned (.string (frT bl xs ys))) := fun h => by
      subst h; exact retS (by rw [hf'.out, h1, fr_one, hs1'.out])
    have F1 : Hid (bl = true → Ending.returned (.string (⟨#[45]⟩ ++ s1)) = .returned (.string (frT bl xs ys))) := fun h => by
      subst h; exact retS (by rw [hf'.out, h1, fr_oneM, hs1'.out]; rfl)
    rw [decide_eq_true h1] at O1
    clear h1 hs1' hs2' hf'
    generalize frT bl xs ys = rs at *
    cases bl
    · have Fin := hd (F0.out rfl)
      clear F0 F1
      go_enter Tryz.func31, Tryz.ntmps31
      go_wp2_with fail
      refine R.out.mono ?_
      rintro e w1 ⟨rfl, hb1⟩
      have hB1 := old_trans e0 hb1
      replace K := K.old hb1
      obtain ⟨k1, ⟨k2, k3, k4⟩, -⟩ := id K
      go_wp2_with fail
      refine (T1.out _ hB1).mono ?_
      rintro e w2 ⟨rfl, hb2⟩
      have hB2 := old_trans hB1 hb2
      replace K := K.old hb2
      clear k1 k2 k3 k4
      obtain ⟨k1, ⟨k2, k3, k4⟩, -⟩ := id K
      go_wp2_with fail
      refine (O1.out _ hB2).mono ?_
      rintro e w3 ⟨rfl, rfl⟩
      go_wp2
      go_ret
      exact ⟨Fin.out, hB2⟩
    · have Fin := hd (F1.out rfl)
      clear F0 F1
      go_enter Tryz.func31, Tryz.ntmps31
      go_wp2_with fail
      refine R.out.mono ?_
      rintro e w1 ⟨rfl, hb1⟩
      have hB1 := old_trans e0 hb1
      replace K := K.old hb1
      obtain ⟨k1, ⟨k2, k3, k4⟩, -⟩ := id K
      go_wp2_with fail
      refine (T1.out _ hB1).mono ?_
      rintro e w2 ⟨rfl, hb2⟩
      have hB2 := old_trans hB1 hb2
      replace K := K.old hb2
      clear k1 k2 k3 k4
      obtain ⟨k1, ⟨k2, k3, k4⟩, -⟩ := id K
      go_wp2_with fail
      refine (O1.out _ hB2).mono ?_
      rintro e w3 ⟨rfl, rfl⟩
      go_wp2
      go_ret
      exact ⟨Fin.out, hB2⟩
  · have F0 : Hid (bl = false → Ending.returned (.string ((s1 ++ ⟨#[47]⟩) ++ s2)) = .returned (.string (frT bl xs ys))) := fun h => by
      subst h; exact retS (by rw [hf'.out, fr_two' _ h1, hs1'.out, hs2'.out]; rfl)
    have F1 : Hid (bl = true → Ending.returned (.string (((⟨#[45]⟩ ++ s1) ++ ⟨#[47]⟩) ++ s2)) = .returned (.string (frT bl xs ys))) := fun h => by
      subst h; exact retS (by rw [hf'.out, fr_twoM' _ h1, hs1'.out, hs2'.out]; rfl)
    rw [decide_eq_false h1] at O1
    clear h1 hs1' hs2' hf'
    generalize frT bl xs ys = rs at *
    cases bl
    · have Fin := hd (F0.out rfl)
      clear F0 F1
      go_enter Tryz.func31, Tryz.ntmps31
      go_wp2_with fail
      refine R.out.mono ?_
      rintro e w1 ⟨rfl, hb1⟩
      have hB1 := old_trans e0 hb1
      replace K := K.old hb1
      obtain ⟨k1, ⟨k2, k3, k4⟩, -⟩ := id K
      go_wp2_with fail
      refine (T1.out _ hB1).mono ?_
      rintro e w2 ⟨rfl, hb2⟩
      have hB2 := old_trans hB1 hb2
      replace K := K.old hb2
      clear k1 k2 k3 k4
      obtain ⟨k1, ⟨k2, k3, k4⟩, -⟩ := id K
      go_wp2_with fail
      refine (O1.out _ hB2).mono ?_
      rintro e w3 ⟨rfl, rfl⟩
      go_wp2_with fail
      refine (T2.out _ hB2).mono ?_
      rintro e w4 ⟨rfl, hb4⟩
      go_wp2
      go_ret
      exact ⟨Fin.out, old_trans hB2 hb4⟩
    · have Fin := hd (F1.out rfl)
      clear F0 F1
      go_enter Tryz.func31, Tryz.ntmps31
      go_wp2_with fail
      refine R.out.mono ?_
      rintro e w1 ⟨rfl, hb1⟩
      have hB1 := old_trans e0 hb1
      replace K := K.old hb1
      obtain ⟨k1, ⟨k2, k3, k4⟩, -⟩ := id K
      go_wp2_with fail
      refine (T1.out _ hB1).mono ?_
      rintro e w2 ⟨rfl, hb2⟩
      have hB2 := old_trans hB1 hb2
      replace K := K.old hb2
      clear k1 k2 k3 k4
      obtain ⟨k1, ⟨k2, k3, k4⟩, -⟩ := id K
      go_wp2_with fail
      refine (O1.out _ hB2).mono ?_
      rintro e w3 ⟨rfl, rfl⟩
      go_wp2_with fail
      refine (T2.out _ hB2).mono ?_
      rintro e w4 ⟨rfl, hb4⟩
      go_wp2
      go_ret
      exact ⟨Fin.out, old_trans hB2 hb4⟩
end Go.Proofs.YtlfaiekcmflgnaaGreatDoor
