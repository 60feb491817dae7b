/- For every code of bytes: the program's text of the fraction drawn from it is there just if it is an ok fraction, and is read back as that fraction; of the text drawn from it the program reads a fraction just where the specification does, and writes it again as that text. The law answers true; nothing that was there is written. Condition: the library's variables hold what their texts lay (the card ties them). -/
import Derived.Test.YtlfaiekcmflgnaaGreatDoorRows
import Derived.Test.YtlfaiekcmflgnaaGreatDoorTie
import Derived.Test.YtlfaiekcmflgnaaGreatDoorCards
import Derived.WalkKit
import Derived.ProofKit
import Derived.OpenShut
import Derived.Below
import Derived.Carry
import Derived.Test.YtlfaiekcmflgnaaGreatDoorUM
import Derived.Test.YtlfaiekcmflgnaaGreatDoorLS
import Derived.Test.YtlfaiekcmflgnaaGreatDoorKP
import Derived.Test.YtlfaiekcmflgnaaGreatDoorUV
import Derived.Test.YtlfaiekcmflgnaaGreatDoorFL
import Derived.Test.YtlfaiekcmflgnaaGreatDoorFI
import Derived.Test.YtlfaiekcmflgnaaGreatDoorBJ
namespace Go.Proofs.YtlfaiekcmflgnaaGreatDoor
open Go.ChangeShapes Go.WideShapes Go.ChangeAt Go.RowKit
set_option linter.unusedVariables false
set_option maxRecDepth 100000

set_option maxRecDepth 100000 in
set_option maxHeartbeats 16000000 in
theorem FnFracText_walk (a0 : Option Addr) (len0 cap0 : Nat) (w : World) (wb0 : IsCode w a0 len0 cap0) (hT : Tab w ∧ ET w ∧ P10 w) :
    Calls Tryz.prog 4 #[.slice a0 len0 cap0] w fun e w' => e = .returned (.bool true) ∧ Below w.heap.size w w' := by
  have hlen0 := wb0.2.1
  have hle0 := wb0.1
  by_cases c0 : (len0 : Int) ≤ 1048576
  case neg =>
    have c0' : (1048576 : Int) < (len0 : Int) := by omega
    go_enter Tryz.func4, Tryz.ntmps4
    go_wp2
    go_ret
    exact ⟨rfl, (by repeat (first | exact Below.refl _ _ | refine Below.drew ?_ | refine old_alloc ?_ _ | refine old_trans ?_ (by assumption)))⟩
  have D0 := hd (drawFracText w a0 len0 cap0 wb0)
  have D1 := hd (fun w' (h : Below w.heap.size w w') => drawFracRead w' a0 len0 cap0 (wb0.old h))
  have TT := hd (fun (w' : World) (h : Below w.heap.size w w') => (⟨hT.1.old h, hT.2.1.old h, hT.2.2.old h⟩ : Tab w' ∧ ET w' ∧ P10 w'))
  clear wb0 hlen0 hle0 hT
  go_enter Tryz.func4, Tryz.ntmps4
  go_wp2_with fail
  refine D0.out.mono ?_
  rintro e w0 ⟨⟨bl, avA, cvA, xs, avB, cvB, ys, rfl, A, B, -, -⟩, hB⟩
  clear D0
  have K := Cel3.new w0 (.bool bl) (.slice avA xs.length cvA) (.slice avB ys.length cvB) 24
  have halK : Below w0.heap.size w0 (w0.alloc (.cells #[.bool bl, .slice avA xs.length cvA, .slice avB ys.length cvB] 24)) := old_alloc (Below.refl _ _) _
  replace A := A.later halK
  replace B := B.later halK
  replace hB := old_trans hB halK
  clear halK
  obtain ⟨k1, ⟨k2, k3, k4⟩, -⟩ := id K
  have T1 := TT.out _ hB
  go_wp2_with fail
  refine (iFracText bl avA avB _ _ cvA cvB xs ys _ A.inI B.inI T1.1 T1.2.1 T1.2.2).mono ?_
  rintro e w1 ⟨rfl, hb1⟩
  clear k1 k2 k3 k4 T1
  replace A := A.later hb1
  replace B := B.later hb1
  replace K := K.old hb1
  replace hB := old_trans hB hb1
  clear hb1
  obtain ⟨k1, ⟨k2, k3, k4⟩, -⟩ := id K
  have FO := hd (sFracOk bl avA avB _ _ cvA cvB xs ys w1 A.inI B.inI)
  cases hok : fracOk bl xs ys
  · have e0 := frT_no hok
    rw [e0]
    rw [hok] at FO
    clear e0 hok
    go_wp2_with fail
    refine FO.out.mono ?_
    rintro e w2 ⟨rfl, hb2⟩
    replace hB := old_trans hB hb2
    clear FO hb2 A B K k1 k2 k3 k4
    have D2 := D1.out _ hB
    go_wp2_with fail
    refine D2.mono ?_
    rintro e w5 ⟨⟨t, rfl, ht⟩, hb5⟩
    replace hB := old_trans hB hb5
    clear hb5 D1 D2
    have hle : t.data.toList.length ≤ 1048576 := by
      have : t.data.toList.length = t.size := by simp
      omega
    have T5 := TT.out _ hB
    have IR := hd (iFracRead t.data.toList hle w5 T5.1 T5.2.1 T5.2.2)
    have SR := hd (fun w' => sFracRead t.data.toList hle w')
    rw [bt_list] at IR SR
    have hfr := hd (@okFR_frac t.data.toList)
    have htx := hd (@text_ok t.data.toList)
    rw [bt_list] at htx
    clear T5 ht hle
    generalize bmin t.data.toList = b9 at *
    generalize topFR t.data.toList = V9 at *
    generalize botFR t.data.toList = U9 at *
    cases hrd : okFR t.data.toList
    · rw [hrd] at IR SR
      clear hrd hfr htx
      go_wp2_with fail
      refine IR.out.mono ?_
      rintro e w6 ⟨he, hb6⟩
      obtain ⟨avC, cvC, avC', cvC', rfl⟩ := he.not
      replace hB := old_trans hB hb6
      clear he hb6
      have hal6 := old_alloc hB (.cells #[.bool false, .slice avC 0 cvC, .slice avC' 0 cvC'] 24)
      go_wp2_with fail
      refine (SR.out _).mono ?_
      rintro e w7 ⟨he, hb7⟩
      obtain ⟨avD, cvD, avD', cvD', rfl⟩ := he.not
      have hB7 := old_alloc (old_trans hal6 hb7) (.cells #[.bool false, .slice avD 0 cvD, .slice avD' 0 cvD'] 24)
      clear he hb7
      go_wp2
      go_ret
      exact ⟨rfl, hB7⟩
    · rw [hrd] at IR SR
      have hf := hfr.out hrd
      have hx := hd (htx.out hrd)
      have hf' := hd hf
      clear hrd hfr htx hf
      go_wp2_with fail
      refine IR.out.mono ?_
      rintro e w6 ⟨he, hb6⟩
      obtain ⟨avC, cvC, avC', cvC', rfl, C1, C2⟩ := he.ok hf'.out
      replace hB := old_trans hB hb6
      clear he hb6
      have H := Cel3.new w6 (.bool b9) (.slice avC (natL V9).length cvC) (.slice avC' (natL U9).length cvC') 24
      have halH : Below w6.heap.size w6 (w6.alloc (.cells #[.bool b9, .slice avC (natL V9).length cvC, .slice avC' (natL U9).length cvC'] 24)) := old_alloc (Below.refl _ _) _
      replace C1 := C1.later halH
      replace C2 := C2.later halH
      replace hB := old_trans hB halH
      clear halH
      go_wp2_with fail
      refine (SR.out _).mono ?_
      rintro e w7 ⟨he, hb7⟩
      obtain ⟨avD, cvD, avD', cvD', rfl, -, -⟩ := he.ok hf'.out
      clear he
      replace C1 := C1.later hb7
      replace C2 := C2.later hb7
      replace H := H.old hb7
      replace hB := old_trans hB hb7
      clear hb7
      have hal8 : Below w7.heap.size w7 (w7.alloc (.cells #[.bool b9, .slice avD (natL V9).length cvD, .slice avD' (natL U9).length cvD'] 24)) := old_alloc (Below.refl _ _) _
      replace C1 := C1.later hal8
      replace C2 := C2.later hal8
      replace H := H.old hal8
      replace hB := old_trans hB hal8
      clear hal8
      obtain ⟨q1, ⟨q2, q3, q4⟩, -⟩ := id H
      have T8 := TT.out _ hB
      have X8 := hd (iFracText b9 avC avC' _ _ cvC cvC' (natL V9) (natL U9) _ C1.inI C2.inI T8.1 T8.2.1 T8.2.2)
      rw [hx.out] at X8
      clear T8 hx hf'
      go_wp2_with fail
      refine X8.out.mono ?_
      rintro e w9 ⟨rfl, hb9⟩
      replace hB := old_trans hB hb9
      go_wp2
      go_ret
      exact ⟨rfl, hB⟩
  · have hin := fracOk_in hok
    have cx := natOk_canon hin.1
    have cy := natOk_canon hin.2.1
    have e1 := frT_yes hok
    have hsz := frT_len hok
    have hne : (frT bl xs ys).toList.isEmpty = false := by
      rw [e1, ByteArray.toList_eq, List.isEmpty_eq_false_iff]
      show frL bl (val xs) (val ys) ≠ []
      unfold frL
      have := dec_ne (val xs)
      simp [this]
    rw [e1] at hsz hne
    rw [e1]
    rw [hok] at FO
    generalize val xs = V at *
    generalize val ys = U at *
    subst cx cy
    have RO := read_ok hok
    have hok' := hd hok
    have IR1 := hd (fun w' (h : Tab w' ∧ ET w' ∧ P10 w') => iFracRead (frL bl V U) (by rw [bt_size] at hsz; omega) w' h.1 h.2.1 h.2.2)
    rw [RO.1, RO.2.1, RO.2.2.1, RO.2.2.2] at IR1
    generalize bt (frL bl V U) = s0 at *
    clear hin e1 hok RO hsz
    go_wp2_with fail
    refine FO.out.mono ?_
    rintro e w2 ⟨rfl, hb2⟩
    clear k1 k2 k3 k4
    replace A := A.later hb2
    replace B := B.later hb2
    replace K := K.old hb2
    replace hB := old_trans hB hb2
    clear hb2
    go_wp2_with fail
    refine (IR1.out _ (TT.out _ hB)).mono ?_
    rintro e w3 ⟨he, hb3⟩
    obtain ⟨avG, cvG, avG', cvG', rfl, G, G'⟩ := he.ok hok'.out
    clear he
    replace A := A.later hb3
    replace B := B.later hb3
    replace K := K.old hb3
    replace hB := old_trans hB hb3
    clear hb3
    have J := Cel3.new w3 (.bool bl) (.slice avG (natL V).length cvG) (.slice avG' (natL U).length cvG') 24
    have halJ : Below w3.heap.size w3 (w3.alloc (.cells #[.bool bl, .slice avG (natL V).length cvG, .slice avG' (natL U).length cvG'] 24)) := old_alloc (Below.refl _ _) _
    replace A := A.later halJ
    replace B := B.later halJ
    replace G := G.later halJ
    replace G' := G'.later halJ
    replace K := K.old halJ
    replace hB := old_trans hB halJ
    clear halJ
    obtain ⟨k1, ⟨k2, k3, k4⟩, -⟩ := id K
    obtain ⟨j1, ⟨j2, j3, j4⟩, -⟩ := id J
    go_wp2_with fail
    refine (lPwFrac bl avA avB avG avG' _ _ cvA cvB cvG cvG' (natL V) (natL U) _ A.inI B.inI G.inI G'.inI).mono ?_
    rintro e w4 ⟨rfl, hb4⟩
    replace hB := old_trans hB hb4
    clear hb4 A B G G' K J k1 k2 k3 k4 j1 j2 j3 j4 IR1 FO hok'
    have D2 := D1.out _ hB
    go_wp2_with fail
    refine D2.mono ?_
    rintro e w5 ⟨⟨t, rfl, ht⟩, hb5⟩
    replace hB := old_trans hB hb5
    clear hb5 D1 D2
    have hle : t.data.toList.length ≤ 1048576 := by
      have : t.data.toList.length = t.size := by simp
      omega
    have T5 := TT.out _ hB
    have IR := hd (iFracRead t.data.toList hle w5 T5.1 T5.2.1 T5.2.2)
    have SR := hd (fun w' => sFracRead t.data.toList hle w')
    rw [bt_list] at IR SR
    have hfr := hd (@okFR_frac t.data.toList)
    have htx := hd (@text_ok t.data.toList)
    rw [bt_list] at htx
    clear T5 ht hle
    generalize bmin t.data.toList = b9 at *
    generalize topFR t.data.toList = V9 at *
    generalize botFR t.data.toList = U9 at *
    cases hrd : okFR t.data.toList
    · rw [hrd] at IR SR
      clear hrd hfr htx
      go_wp2_with fail
      refine IR.out.mono ?_
      rintro e w6 ⟨he, hb6⟩
      obtain ⟨avC, cvC, avC', cvC', rfl⟩ := he.not
      replace hB := old_trans hB hb6
      clear he hb6
      have hal6 := old_alloc hB (.cells #[.bool false, .slice avC 0 cvC, .slice avC' 0 cvC'] 24)
      go_wp2_with fail
      refine (SR.out _).mono ?_
      rintro e w7 ⟨he, hb7⟩
      obtain ⟨avD, cvD, avD', cvD', rfl⟩ := he.not
      have hB7 := old_alloc (old_trans hal6 hb7) (.cells #[.bool false, .slice avD 0 cvD, .slice avD' 0 cvD'] 24)
      clear he hb7
      go_wp2
      go_ret
      exact ⟨rfl, hB7⟩
    · rw [hrd] at IR SR
      have hf := hfr.out hrd
      have hx := hd (htx.out hrd)
      have hf' := hd hf
      clear hrd hfr htx hf
      go_wp2_with fail
      refine IR.out.mono ?_
      rintro e w6 ⟨he, hb6⟩
      obtain ⟨avC, cvC, avC', cvC', rfl, C1, C2⟩ := he.ok hf'.out
      replace hB := old_trans hB hb6
      clear he hb6
      have H := Cel3.new w6 (.bool b9) (.slice avC (natL V9).length cvC) (.slice avC' (natL U9).length cvC') 24
      have halH : Below w6.heap.size w6 (w6.alloc (.cells #[.bool b9, .slice avC (natL V9).length cvC, .slice avC' (natL U9).length cvC'] 24)) := old_alloc (Below.refl _ _) _
      replace C1 := C1.later halH
      replace C2 := C2.later halH
      replace hB := old_trans hB halH
      clear halH
      go_wp2_with fail
      refine (SR.out _).mono ?_
      rintro e w7 ⟨he, hb7⟩
      obtain ⟨avD, cvD, avD', cvD', rfl, -, -⟩ := he.ok hf'.out
      clear he
      replace C1 := C1.later hb7
      replace C2 := C2.later hb7
      replace H := H.old hb7
      replace hB := old_trans hB hb7
      clear hb7
      have hal8 : Below w7.heap.size w7 (w7.alloc (.cells #[.bool b9, .slice avD (natL V9).length cvD, .slice avD' (natL U9).length cvD'] 24)) := old_alloc (Below.refl _ _) _
      replace C1 := C1.later hal8
      replace C2 := C2.later hal8
      replace H := H.old hal8
      replace hB := old_trans hB hal8
      clear hal8
      obtain ⟨q1, ⟨q2, q3, q4⟩, -⟩ := id H
      have T8 := TT.out _ hB
      have X8 := hd (iFracText b9 avC avC' _ _ cvC cvC' (natL V9) (natL U9) _ C1.inI C2.inI T8.1 T8.2.1 T8.2.2)
      rw [hx.out] at X8
      clear T8 hx hf'
      go_wp2_with fail
      refine X8.out.mono ?_
      rintro e w9 ⟨rfl, hb9⟩
      replace hB := old_trans hB hb9
      go_wp2
      go_ret
      exact ⟨rfl, hB⟩

set_option maxRecDepth 100000 in
theorem FnFracText_lifted (os : Os) (started : os.Started) (H : Type) (enc : TypeId × Value → H) :
    ReturnsInHanded {} Tryz.checked os 4 .any (fun w args => (Rows.fnFracTextSpec.pre enc Tryz.prog Tryz.f4 [] false w args ∧ laidMetH Tryz.prog LSL w) ∧ sizedMet enc Tryz.prog Tryz.f4 (OpenSpec.ofChange Rows.fnFracTextSpec) false w args)
      (Rows.fnFracTextSpec.post enc Tryz.prog Tryz.f4 false true false false) := by
  refine returnsInHanded_of_change_and (C := Tryz.checked) (X := fun w _ => laidMetH Tryz.prog LSL w) (fun _ _ _ hh h => h.of_heap hh) LS_own started (by kernel_rfl) Tryz.func4
    (ChangeSpec.witness_shaped (enc := enc) (C := Tryz.checked) (os := os) (X := fun w _ => laidMetH Tryz.prog LSL w) false (World.doorLaid Tryz.prog LS_fuel os) #[.slice none 0 0] 8 rfl (LS_shaped os _) (by kernel_rfl) (by kernel_rfl) (by kernel_rfl) (LS_met os _)) ?_
  intro W base args ds gs before hval0 hW _ _ hL _
  have hval : ∀ (j : Nat) t v, Tryz.f4.params[j]? = some t → args[j]? = some v → Value.okWide Tryz.prog W .any base t v := hval0
  have hW' := hW
  obtain ⟨p, q, hA0, hV, rfl, hfz, hnd⟩ := hW
  have hA : DataW.TrodAll enc Tryz.prog W 0 (fun _ => true) true Tryz.f4.params.toList args.toList ds p := hA0
  rw [Tryz.params4] at hA hval
  obtain ⟨v0, vs0, d0, ds0, p0, q0, hargs, rfl, rfl, h0, r0⟩ := trodAll_cons hA
  obtain ⟨rfl, rfl, rfl⟩ := trodAll_nil r0
  obtain rfl : args = #[v0] := by cases args; simp_all
  obtain ⟨rfl, rfl⟩ := trodVars_none hV
  have k0 := h0
  have lt0 : ∀ x ∈ p0, x.block < W.heap.size := by obtain ⟨m, hm⟩ := k0; exact DataW.trod_lt m _ _ _ hm
  obtain ⟨a0, len0, cap0, rfl, wb0⟩ := open_bytes (hval 0 30 v0 rfl rfl) h0
  clear hA0 hval0
  refine (FnFracText_walk a0 len0 cap0 W wb0 (all_of6 hL)).mono fun e W' ⟨he, bel⟩ => ?_
  subst he
  exact ⟨_, rfl, _, _, _, [], _, [], hW', trodAll_mk1 (shut_bool Tryz.underlying4 _), (trodAll_cons_mk (Below.trod jf1 (by kernel_rfl) (of_decide_eq_true (by kernel_rfl)) k0 bel lt0) trodAll_mk0), rfl, bel.frame _, fun h => by cases h⟩

theorem FnFracText_k0 : (Rows.fnFracTextRow.wf (OpenSpec.ofChange Rows.fnFracTextSpec)) = true := by kernel_rfl
theorem FnFracText_k3 : (Tryz.f4.params.all (Tryz.prog.readableRec ·)) = true := by kernel_rfl
theorem FnFracText_k4 : (namedTie Tryz.prog Rows.fnFracTextRow.named Rows.fnFracTextSpec.vars) = true := by kernel_rfl
theorem FnFracText_k5 : ((Rows.fnFracTextRow.stops == [])) = true := by kernel_rfl
theorem FnFracText_k7 : ((Rows.fnFracTextRow.knobs == [])) = true := by kernel_rfl
theorem FnFracText_k9 : ((Rows.fnFracTextRow.inPlace == Tryz.prog.inPlace 4)) = true := by kernel_rfl
theorem FnFracText_k10 : ((Rows.fnFracTextRow.unfollowed == Tryz.prog.unfollowed 4)) = true := by kernel_rfl
theorem FnFracText_k11 : ((Rows.fnFracTextRow.recurses == Tryz.prog.recurses 4)) = true := by kernel_rfl
theorem FnFracText_k12 : ((Rows.fnFracTextRow.named == Tryz.prog.varsNamed 4)) = true := by kernel_rfl
theorem FnFracText_k13 : ((Rows.fnFracTextRow.maps == (Tryz.f4.params.toList ++ Rows.fnFracTextSpec.plain.varTypes Tryz.prog).any (Tryz.prog.mapsRec ·))) = true := by kernel_rfl
theorem FnFracText_k14 : ((Rows.fnFracTextRow.ifaces == (Tryz.f4.params.toList ++ Rows.fnFracTextSpec.plain.varTypes Tryz.prog).any (Tryz.prog.ifacesRec ·))) = true := by kernel_rfl
theorem FnFracText_k15 : ((Rows.fnFracTextRow.mapsOut == Tryz.prog.mapsAmong Tryz.f4.resultTypes.toList)) = true := by kernel_rfl
theorem FnFracText_k16 : ((Rows.fnFracTextRow.loops == (Tryz.f4.params.toList ++ Rows.fnFracTextSpec.plain.varTypes Tryz.prog).any (Tryz.prog.loopsFrom ·))) = true := by kernel_rfl
theorem FnFracText_k17 : ((Rows.fnFracTextRow.wideKeys == (Tryz.f4.params.toList ++ Rows.fnFracTextSpec.plain.varTypes Tryz.prog ++ Tryz.f4.resultTypes.toList).any (Tryz.prog.wideKeysFrom ·))) = true := by kernel_rfl
theorem FnFracText_k18 : (Rows.fnFracTextSpec.vars.all (Tryz.prog.varReadable ·)) = true := by kernel_rfl
theorem FnFracText_k19 : (Tryz.f4.resultTypes.all (fun t => Tryz.prog.readableRec t && decide (t < Tryz.prog.types.size))) = true := by kernel_rfl
theorem FnFracText_k20 : ((Rows.fnFracTextRow.ifacesOut == Tryz.f4.resultTypes.toList.any (Tryz.prog.ifacesRec ·))) = true := by kernel_rfl
theorem FnFracText_k21 : ((Rows.fnFracTextRow.loopsOut == Tryz.f4.resultTypes.toList.any (Tryz.prog.loopsFrom ·))) = true := by kernel_rfl
theorem FnFracText_k23 : (Rows.fnFracTextRow.shortTexts.isNone) = true := by kernel_rfl
theorem FnFracText_k28 : ((Rows.fnFracTextRow.kinds == (if Rows.fnFracTextRow.domain.isEmpty then [] else Tryz.f4.params.toList.map fun t => match Tryz.prog.underlying t with | some (.int k) => some k | _ => none))) = true := by kernel_rfl
theorem FnFracText_k29 : ((Rows.fnFracTextRow.pinned == Rows.fnFracTextRow.pinnedBy)) = true := by kernel_rfl
theorem FnFracText_k30 : ((Rows.fnFracTextRow.veiled == (Tryz.f4.params.toList ++ Rows.fnFracTextSpec.plain.varTypes Tryz.prog ++ Tryz.f4.resultTypes.toList).any (Tryz.prog.veiledRec ·))) = true := by kernel_rfl
theorem FnFracText_k31 : (Rows.fnFracTextRow.veiledFits Tryz.prog Tryz.f4.params.toList (Tryz.f4.params.toList ++ Rows.fnFracTextSpec.plain.varTypes Tryz.prog ++ Tryz.f4.resultTypes.toList)) = true := by kernel_rfl
set_option maxRecDepth 100000 in
theorem FnFracText_closed : joinedFacts Tryz.prog 4 Tryz.f4 Rows.fnFracTextSpec Rows.fnFracTextRow = true := (and2 (and2 (and2 (and2 (and2 (and2 (and2 (and2 (and2 (and2 (and2 (and2 (and2 (and2 (and2 (and2 (and2 (and2 (and2 (and2 (and2 (and2 (and2 (and2 (and2 (and2 (and2 (and2 (and2 (and2 (and2 FnFracText_k0 jf1) jf2) FnFracText_k3) FnFracText_k4) FnFracText_k5) jf6) FnFracText_k7) jf8) FnFracText_k9) FnFracText_k10) FnFracText_k11) FnFracText_k12) FnFracText_k13) FnFracText_k14) FnFracText_k15) FnFracText_k16) FnFracText_k17) FnFracText_k18) FnFracText_k19) FnFracText_k20) FnFracText_k21) jf22) FnFracText_k23) jf24) jf25) jf26) jf27) FnFracText_k28) FnFracText_k29) FnFracText_k30) FnFracText_k31)
theorem FnFracText_row : Rows.FnFracTextSaid :=
  OpenClaim.holds_of_wide 4 Tryz.f4 rfl rfl rfl rfl rfl rfl rfl ⟨rfl, rfl, rfl, rfl, rfl⟩ rfl rfl rfl rfl rfl (by kernel_rfl) Tryz.func4 FnFracText_closed
    (of_decide_eq_true (by kernel_rfl)) (by unfold Func.isWrapper; first | (rw [if_pos (by decide +kernel)]; kernel_rfl) | (rw [if_neg (by decide +kernel)]; exact ⟨rfl, rfl⟩))
    (fun os started H enc _ => FnFracText_lifted os started H enc)

theorem FnFracText_proved : Rows.FnFracTextCardSaid :=
  Claim7.holds_tied_plain_at .later [] [.data, .data, .data, .handle, .sentinel, .sentinel] true (true, "a4b41042cfd07190dd19383c48475f3b238191e449cd02caecdf1a20ae340786") true
    FnFracText_row (fun _ h => by cases h) (by kernel_rfl) (fun _ h => by cases h) fnFracText_row_tie rfl ⟨rfl, rfl⟩ (by kernel_rfl) rfl
    (fun f fn hf hfn => by
      obtain rfl : f = 4 := Option.some.inj ((show Tryz.prog.funcNamed "loop.example/pinfold/laws.FnFracText" = some 4 by kernel_rfl).symm.trans hf) |>.symm
      obtain rfl : fn = Tryz.f4 := (Option.some.inj (Tryz.func4.symm.trans hfn)).symm
      exact ⟨by kernel_rfl, fun j t ht => by
        rw [Tryz.params4] at ht
        have hm : t ∈ [30] := by simpa using Array.mem_of_getElem? ht
        have hall : ([30].all fun u => !Tryz.prog.wantsStandIn u) = true := by kernel_rfl
        exact (show Tryz.prog.wantsStandIn t = false by simpa using List.all_eq_true.1 hall t hm)⟩)
    (by kernel_rfl)
end Go.Proofs.YtlfaiekcmflgnaaGreatDoor
