/- Texts of fractions, by the program and by the specification: one text. Conditions, for the program: the library's tables and its handle of errors are there. Nothing that was there is written. -/
import Derived.Test.YtlfaiekcmflgnaaGreatDoorKE
import Derived.Test.YtlfaiekcmflgnaaGreatDoorKF
import Derived.Test.YtlfaiekcmflgnaaGreatDoorFE
namespace Go.Proofs.YtlfaiekcmflgnaaGreatDoor
open Go.RowKit Go.Lib
set_option linter.unusedVariables false
set_option maxRecDepth 100000

theorem bt_app (l m : List UInt8) : bt l ++ bt m = bt (l ++ m) := by
  apply ByteArray.ext
  rw [ByteArray.data_append]
  simp [bt]
/-- the text of a fraction -/
def frL (bl : Bool) (V U : Nat) : List UInt8 := (if bl then [45] else []) ++ (decDigits V ++ (if U = 1 then [] else 47 :: decDigits U))
def frT (bl : Bool) (xs ys : List Int) : ByteArray := if fracOk bl xs ys then bt (frL bl (val xs) (val ys)) else bt []
theorem cmp_one (U : Nat) : (cmpI U 1 = 0) ↔ U = 1 := by unfold cmpI; split <;> (try split) <;> omega
theorem fr_one (V : Nat) : bt (frL false V 1) = bt (decDigits V) := by simp [frL]
theorem fr_oneM (V : Nat) : bt (frL true V 1) = bt [45] ++ bt (decDigits V) := by rw [bt_app]; simp [frL]
theorem fr_two {U : Nat} (V : Nat) (h : U ≠ 1) : bt (frL false V U) = bt (decDigits V) ++ (bt [47] ++ bt (decDigits U)) := by rw [bt_app, bt_app]; simp [frL, h]
theorem fr_twoM {U : Nat} (V : Nat) (h : U ≠ 1) : bt (frL true V U) = (bt [45] ++ bt (decDigits V)) ++ (bt [47] ++ bt (decDigits U)) := by rw [bt_app, bt_app, bt_app]; simp [frL, h]
theorem fr_two' {U : Nat} (V : Nat) (h : U ≠ 1) : bt (frL false V U) = (bt (decDigits V) ++ bt [47]) ++ bt (decDigits U) := by rw [bt_app, bt_app]; simp [frL, h]
theorem fr_twoM' {U : Nat} (V : Nat) (h : U ≠ 1) : bt (frL true V U) = ((bt [45] ++ bt (decDigits V)) ++ bt [47]) ++ bt (decDigits U) := by rw [bt_app, bt_app, bt_app]; simp [frL, h]
theorem Cel3.drewT {w : World} {b : Nat} {v0 v1 v2 : Value} (h : Cel3 w b v0 v1 v2) : Cel3 w.drew b v0 v1 v2 := h
theorem retS {s t : ByteArray} (h : t = s) : Ending.returned (.string s) = Ending.returned (.string t) := by rw [h]
set_option maxRecDepth 100000 in
set_option maxHeartbeats 4000000 in
theorem iRText (bl : Bool) (a b : Option Addr) (la lb ca cb : Nat) (xs ys : List Int) (w : World) (hA : InI w a la ca xs) (hB : InI w b lb cb ys) (hx : natOk xs = true) (hy : natOk ys = true) (hT : P10 w) :
    Calls Tryz.prog 26 #[.agg #[.bool bl, .slice a la ca, .slice b lb cb]] w fun e w' => e = .returned (.string (bt (frL bl (val xs) (val ys)))) ∧ Below w.heap.size w w' := by
  have cx := natOk_canon hx
  have cy := natOk_canon hy
  have nx := natOk_in hx
  have ny := natOk_in hy
  have T1 := hd (fun w' (h : Below w.heap.size w w') => iText a ca (val xs) w' (by rw [cx, hA.1]; exact hA.old h) (by rw [cx]; omega) (hT.old h))
  have T2 := hd (fun w' (h : Below w.heap.size w w') => iText b cb (val ys) w' (by rw [cy, hB.1]; exact hB.old h) (by rw [cy]; omega) (hT.old h))
  rw [cx, hA.1] at T1
  rw [cy, hB.1] at T2
  have AG := hd (fun a' c' m w' (h : Below w.heap.size w w') (o : OI w' m a' c' (natL 1)) => iAgainst b a' lb _ cb c' ys (natL 1) w' (hB.old h) o.inI ny.2.1 (digs_natL 1) ny.2.2 (topped_natL 1))
  rw [val_natL] at AG
  have hcm := cmp_one (val ys)
  have K := Cel3.new w (.bool bl) (.slice a la ca) (.slice b lb cb) 51
  have e0 : Below w.heap.size w (w.alloc (.cells #[.bool bl, .slice a la ca, .slice b lb cb] 51)) := (by repeat (first | exact Below.refl _ _ | refine Below.drew ?_ | refine old_alloc ?_ _ | refine old_trans ?_ (by assumption)))
  have z1 : (⟨(decDigits (val xs)).toArray⟩ : ByteArray).size ≤ 1250 := big_dec (natOk_lt hx)
  have z2 : (⟨(decDigits (val ys)).toArray⟩ : ByteArray).size ≤ 1250 := big_dec (natOk_lt hy)
  generalize hs1 : (⟨(decDigits (val xs)).toArray⟩ : ByteArray) = s1 at *
  generalize hs2 : (⟨(decDigits (val ys)).toArray⟩ : ByteArray) = s2 at *
  have hs1' : Hid (bt (decDigits (val xs)) = s1) := hs1
  have hs2' : Hid (bt (decDigits (val ys)) = s2) := hs2
  obtain ⟨cm, hcm'⟩ : ∃ cm, cmpI (val ys) 1 = cm := ⟨_, rfl⟩
  rw [hcm'] at hcm AG
  clear hs1 hs2 cx cy nx ny hcm'
  obtain ⟨k1, ⟨k2, k3, k4⟩, -⟩ := id K
  have R1 : Hid (cm = 0 → ∀ W, Below w.heap.size w W → (bl = false → Ending.returned (.string s1) = .returned (.string (bt (frL bl (val xs) (val ys)))) ∧ Below w.heap.size w W) ∧ (bl = true → Ending.returned (.string (⟨#[45]⟩ ++ s1)) = .returned (.string (bt (frL bl (val xs) (val ys)))) ∧ Below w.heap.size w W)) := by
    intro h0 W hW
    rw [hcm.1 h0]
    refine ⟨fun h => ?_, fun h => ?_⟩ <;> subst h
    · exact ⟨retS (by rw [fr_one, hs1'.out]), hW⟩
    · exact ⟨retS (by rw [fr_oneM, hs1'.out]; rfl), hW⟩
  have R2 : Hid (cm ≠ 0 → ∀ W, Below w.heap.size w W → (bl = false → Ending.returned (.string (s1 ++ (⟨#[47]⟩ ++ s2))) = .returned (.string (bt (frL bl (val xs) (val ys)))) ∧ Below w.heap.size w W) ∧ (bl = true → Ending.returned (.string ((⟨#[45]⟩ ++ s1) ++ (⟨#[47]⟩ ++ s2))) = .returned (.string (bt (frL bl (val xs) (val ys)))) ∧ Below w.heap.size w W)) := by
    intro h0 W hW
    have hne : val ys ≠ 1 := fun e => h0 (hcm.2 e)
    refine ⟨fun h => ?_, fun h => ?_⟩ <;> subst h
    · exact ⟨retS (by rw [fr_two _ hne, hs1'.out, hs2'.out]; rfl), hW⟩
    · exact ⟨retS (by rw [fr_twoM _ hne, hs1'.out, hs2'.out]; rfl), hW⟩
  generalize bt (frL bl (val xs) (val ys)) = rs at *
  clear hcm hA hB hx hy hT hs1' hs2'
  go_enter Tryz.func26, Tryz.ntmps26
  generalize hW0 : w.alloc (.cells #[.bool bl, .slice a la ca, .slice b lb cb] 51) = W0 at *
  go_wp2_with fail
  refine (T1.out _ e0).mono ?_
  rintro e w1 ⟨rfl, hb1⟩
  have hB1 := old_trans e0 hb1
  replace K := K.old hb1
  clear k1 k2 k3 k4 T1 hb1
  obtain ⟨k1, ⟨k2, k3, k4⟩, -⟩ := id K
  clear hW0
  cases bl
  · have RA := hd (fun (h0 : cm = 0) W h => ((R1.out h0 W h).1 rfl))
    have RB := hd (fun (h0 : cm ≠ 0) W h => ((R2.out h0 W h).1 rfl))
    clear R1 R2
    go_wp2_with fail
    go_region_held3 (fun w' => w'.cell? ⟨w.heap.size, 0, none⟩ = some (.bool false) ∧ w'.cell? ⟨w.heap.size, 1, none⟩ = some (.slice a la ca) ∧ w'.cell? ⟨w.heap.size, 2, none⟩ = some (.slice b lb cb)) (go_keep) (first | (go_at_call 48; refine (iOne _).mono ?_; rintro e w2 ⟨⟨avO, cvO, rfl, O⟩, hb2⟩; have K2 := (by with_reducible first | exact K.old hb2 | exact K.drewT.old hb2 : Cel3 w2 _ _ _ _); have hC2 := (by with_reducible first | exact old_trans hB1 hb2 | exact old_trans hB1.drew hb2 : Below w.heap.size w w2); obtain ⟨-, ⟨m2, m3, m4⟩, -⟩ := id K2) | (go_at_call 47; (first | refine (AG.out _ _ _ _ hC2 O).mono ?_ | refine (AG.out _ _ _ _ hC2.drew O.drew).mono ?_); rintro e w3 ⟨rfl, hb3⟩; have K3 := (by with_reducible first | exact K2.old hb3 | exact K2.drewT.old hb3 : Cel3 w3 _ _ _ _); have hC3 := (by with_reducible first | exact old_trans hC2 hb3 | exact old_trans hC2.drew hb3 : Below w.heap.size w w3); obtain ⟨-, ⟨n2, n3, n4⟩, -⟩ := id K3))
    all_goals
      have hB3 := hC3
      clear hb2 hb3 K K2 O k1 k2 k3 k4 m2 m3 m4 hC2 hC3
      obtain ⟨q1, -, -⟩ := id K3
      by_cases h0 : cm = 0
      · have R := hd (fun W h => RA.out h0 W h)
        subst h0
        go_wp2
        go_ret
        exact R.out _ hB3
      · have R := hd (fun W h => RB.out h0 W h)
        have h0b : (cm == 0) = false := by simpa using h0
        go_wp2_with fail
        refine (T2.out _ hB3).mono ?_
        rintro e w4 ⟨rfl, hb4⟩
        go_wp2
        go_ret
        exact R.out _ (old_trans hB3 hb4)
  · have RA := hd (fun (h0 : cm = 0) W h => ((R1.out h0 W h).2 rfl))
    have RB := hd (fun (h0 : cm ≠ 0) W h => ((R2.out h0 W h).2 rfl))
    clear R1 R2
    go_wp2_with fail
    go_region_held3 (fun w' => w'.cell? ⟨w.heap.size, 0, none⟩ = some (.bool true) ∧ w'.cell? ⟨w.heap.size, 1, none⟩ = some (.slice a la ca) ∧ w'.cell? ⟨w.heap.size, 2, none⟩ = some (.slice b lb cb)) (go_keep) (first | (go_at_call 48; refine (iOne _).mono ?_; rintro e w2 ⟨⟨avO, cvO, rfl, O⟩, hb2⟩; have K2 := (by with_reducible first | exact K.old hb2 | exact K.drewT.old hb2 : Cel3 w2 _ _ _ _); have hC2 := (by with_reducible first | exact old_trans hB1 hb2 | exact old_trans hB1.drew hb2 : Below w.heap.size w w2); obtain ⟨-, ⟨m2, m3, m4⟩, -⟩ := id K2) | (go_at_call 47; (first | refine (AG.out _ _ _ _ hC2 O).mono ?_ | refine (AG.out _ _ _ _ hC2.drew O.drew).mono ?_); rintro e w3 ⟨rfl, hb3⟩; have K3 := (by with_reducible first | exact K2.old hb3 | exact K2.drewT.old hb3 : Cel3 w3 _ _ _ _); have hC3 := (by with_reducible first | exact old_trans hC2 hb3 | exact old_trans hC2.drew hb3 : Below w.heap.size w w3); obtain ⟨-, ⟨n2, n3, n4⟩, -⟩ := id K3))
    all_goals
      have hB3 := hC3
      clear hb2 hb3 K K2 O k1 k2 k3 k4 m2 m3 m4 hC2 hC3
      obtain ⟨q1, -, -⟩ := id K3
      by_cases h0 : cm = 0
      · have R := hd (fun W h => RA.out h0 W h)
        subst h0
        go_wp2
        go_ret
        exact R.out _ hB3
      · have R := hd (fun W h => RB.out h0 W h)
        have h0b : (cm == 0) = false := by simpa using h0
        go_wp2_with fail
        refine (T2.out _ hB3).mono ?_
        rintro e w4 ⟨rfl, hb4⟩
        go_wp2
        go_ret
        exact R.out _ (old_trans hB3 hb4)
end Go.Proofs.YtlfaiekcmflgnaaGreatDoor
