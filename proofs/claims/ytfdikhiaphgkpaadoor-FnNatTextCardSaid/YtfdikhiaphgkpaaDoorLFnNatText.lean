/- For every code of bytes: the program's text of the list drawn from it is there just if the list is a number, and is read back as that number; of the text drawn from it the program reads a number just where the specification does, and writes it again as that text. The law answers true; nothing that was there is written. Condition: the library's variables hold what their texts lay (the card ties them). -/
import Derived.Test.YtfdikhiaphgkpaaDoorRows
import Derived.Test.YtfdikhiaphgkpaaDoorTie
import Derived.Test.YtfdikhiaphgkpaaDoorCards
import Derived.WalkKit
import Derived.ProofKit
import Derived.OpenShut
import Derived.Below
import Derived.Carry
import Derived.Test.YtfdikhiaphgkpaaDoorUM
import Derived.Test.YtfdikhiaphgkpaaDoorLE
import Derived.Test.YtfdikhiaphgkpaaDoorLQ
import Derived.Test.YtfdikhiaphgkpaaDoorKH
import Derived.Test.YtfdikhiaphgkpaaDoorNL
import Derived.Test.YtfdikhiaphgkpaaDoorUL
import Derived.Test.YtfdikhiaphgkpaaDoorBJ
namespace Go.Proofs.YtfdikhiaphgkpaaDoor
open Go.ChangeShapes Go.WideShapes Go.ChangeAt Go.RowKit
set_option linter.unusedVariables false
set_option maxRecDepth 100000

set_option maxRecDepth 100000 in
set_option maxHeartbeats 4000000 in
theorem FnNatText_walk (a0 : Option Addr) (len0 cap0 : Nat) (w : World) (wb0 : IsCode w a0 len0 cap0) (hT : P10 w) :
    Calls Tryd.prog 3 #[.slice a0 len0 cap0] w fun e w' => e = .returned (.bool true) ∧ Below w.heap.size w w' := by
  have hlen0 := wb0.2.1
  have hle0 := wb0.1
  by_cases c0 : (len0 : Int) ≤ 1048576
  case neg =>
    have c0' : (1048576 : Int) < (len0 : Int) := by omega
    go_enter Tryd.func3, Tryd.ntmps3
    go_wp2
    go_ret
    exact ⟨rfl, (by repeat (first | exact Below.refl _ _ | refine Below.drew ?_ | refine old_alloc ?_ _ | refine old_trans ?_ (by assumption)))⟩
  have D0 := hd (drawNatText w a0 len0 cap0 wb0)
  have D1 := hd (fun w' (h : Below w.heap.size w w') => drawNatRead w' a0 len0 cap0 (wb0.old h))
  have TT := hd (fun (w' : World) (h : Below w.heap.size w w') => hT.old h)
  have PS := hd (fun a a' len cap cap' xs w h h' => lPwSame a a' len cap cap' xs w h h')
  have NT := hd (fun a len cap xs w (h : InI w a len cap xs) t => iNatText a len cap xs w h t)
  have SK := hd (fun a len cap xs w (h : InI w a len cap xs) => sNatOk a len cap xs w h)
  clear wb0 hlen0 hle0 hT
  go_enter Tryd.func3, Tryd.ntmps3
  go_wp2_with fail
  refine D0.out.mono ?_
  rintro e w0 ⟨⟨avA, cvA, xs, rfl, A⟩, hB⟩
  clear D0
  have T1 := TT.out _ hB
  go_wp2_with fail
  refine (NT.out _ _ _ _ _ A.inI T1).mono ?_
  rintro e w1 ⟨rfl, hb1⟩
  replace A := A.later hb1
  replace hB := old_trans hB hb1
  clear hb1 T1
  go_wp2_with fail
  refine (SK.out _ _ _ _ _ A.inI).mono ?_
  rintro e w2 ⟨rfl, rfl⟩
  cases hok : natOk xs
  · have e : ntB xs = [] := by unfold ntB; rw [hok]; rfl
    rw [e, show (⟨([] : List UInt8).toArray⟩ : ByteArray) = ⟨#[]⟩ from rfl]
    clear e hok SK PS
    have D2 := D1.out _ hB
    go_wp2_with fail
    refine D2.mono ?_
    rintro e w5 ⟨⟨t, rfl, ht⟩, hb5⟩
    replace hB := old_trans hB hb5
    clear hb5 D1 D2
    have htm : t.size ≤ maxLen := by unfold maxLen; omega
    have IR := hd (iNatRead t htm w5)
    have SR := hd (fun w' => sNatRead t htm w')
    have hback := hd (@dec_back t)
    have hfit := hd (@rdB_fits t)
    clear ht htm
    cases hrd : rdB t
    · rw [hrd] at IR SR
      clear hrd hback hfit
      go_wp2_with fail
      refine IR.out.mono ?_
      rintro e w6 ⟨⟨avC, cvC, rfl, C⟩, hb6⟩
      replace hB := old_trans hB hb6
      go_wp2_with fail
      refine (SR.out _).mono ?_
      rintro e w7 ⟨⟨avD, cvD, rfl, -⟩, hb7⟩
      replace hB := old_trans hB hb7
      go_wp2
      go_ret
      exact ⟨rfl, hB⟩
    · rw [hrd] at IR SR
      have hb := hback.out hrd
      have hf := hfit.out hrd
      generalize nv t t.size = v at *
      rw [show resN true v = natL v from rfl] at IR SR
      have hnt : ntB (natL v) = Lib.decDigits v := by unfold ntB; rw [natOk_natL hf, val_natL]; rfl
      have hnt' : Hid ((⟨(ntB (natL v)).toArray⟩ : ByteArray) = t) := by show _ = _; rw [hnt]; exact hb
      clear hrd hback hfit hb hf hnt
      go_wp2_with fail
      refine IR.out.mono ?_
      rintro e w6 ⟨⟨avC, cvC, rfl, C⟩, hb6⟩
      replace hB := old_trans hB hb6
      clear hb6
      go_wp2_with fail
      refine (SR.out _).mono ?_
      rintro e w7 ⟨⟨avD, cvD, rfl, -⟩, hb7⟩
      replace hB := old_trans hB hb7
      replace C := C.later hb7
      clear hb7
      have T7 := TT.out _ hB
      have N7 := hd (NT.out _ _ _ _ _ C.inI T7)
      rw [hnt'.out] at N7
      go_wp2_with fail
      refine N7.out.mono ?_
      rintro e w8 ⟨rfl, hb8⟩
      replace hB := old_trans hB hb8
      go_wp2
      go_ret
      exact ⟨rfl, hB⟩
  · have e : ntB xs = Lib.decDigits (val xs) := by unfold ntB; rw [hok]; rfl
    have hc := natOk_canon hok
    have hv := natOk_lt hok
    generalize val xs = V at *
    subst hc
    rw [e]
    have hr1 : rdB (⟨(Lib.decDigits V).toArray⟩ : ByteArray) = true := rdB_dec hv
    have hr2 : nv (⟨(Lib.decDigits V).toArray⟩ : ByteArray) (⟨(Lib.decDigits V).toArray⟩ : ByteArray).size = V := nv_dec V
    have hsz : (⟨(Lib.decDigits V).toArray⟩ : ByteArray).size ≤ maxLen := by
      have := big_dec hv
      show (Lib.decDigits V).length ≤ maxLen
      unfold maxLen; omega
    have hne : (⟨(Lib.decDigits V).toArray⟩ : ByteArray).toList.isEmpty = false := by
      rw [ByteArray.toList_eq, List.isEmpty_eq_false_iff]
      exact dec_ne V
    have IR1 := hd (fun w' => iNatRead ⟨(Lib.decDigits V).toArray⟩ hsz w')
    rw [hr1, hr2, show resN true V = natL V from rfl] at IR1
    clear hr1 hr2 hsz e hok hv SK
    generalize (⟨(Lib.decDigits V).toArray⟩ : ByteArray) = s0 at *
    go_wp2_with fail
    refine (IR1.out _).mono ?_
    rintro e w3 ⟨⟨avB, cvB, rfl, B⟩, hb3⟩
    replace A := A.later hb3
    replace hB := old_trans hB hb3
    clear hb3
    go_wp2_with fail
    refine (PS.out _ _ _ _ _ _ _ A.inI B.inI).mono ?_
    rintro e w4 ⟨rfl, hb4⟩
    replace hB := old_trans hB hb4
    clear hb4 A B IR1 PS
    have D2 := D1.out _ hB
    go_wp2_with fail
    refine D2.mono ?_
    rintro e w5 ⟨⟨t, rfl, ht⟩, hb5⟩
    replace hB := old_trans hB hb5
    clear hb5 D1 D2
    have htm : t.size ≤ maxLen := by unfold maxLen; omega
    have IR := hd (iNatRead t htm w5)
    have SR := hd (fun w' => sNatRead t htm w')
    have hback := hd (@dec_back t)
    have hfit := hd (@rdB_fits t)
    clear ht htm
    cases hrd : rdB t
    · rw [hrd] at IR SR
      clear hrd hback hfit
      go_wp2_with fail
      refine IR.out.mono ?_
      rintro e w6 ⟨⟨avC, cvC, rfl, C⟩, hb6⟩
      replace hB := old_trans hB hb6
      go_wp2_with fail
      refine (SR.out _).mono ?_
      rintro e w7 ⟨⟨avD, cvD, rfl, -⟩, hb7⟩
      replace hB := old_trans hB hb7
      go_wp2
      go_ret
      exact ⟨rfl, hB⟩
    · rw [hrd] at IR SR
      have hb := hback.out hrd
      have hf := hfit.out hrd
      generalize nv t t.size = v at *
      rw [show resN true v = natL v from rfl] at IR SR
      have hnt : ntB (natL v) = Lib.decDigits v := by unfold ntB; rw [natOk_natL hf, val_natL]; rfl
      have hnt' : Hid ((⟨(ntB (natL v)).toArray⟩ : ByteArray) = t) := by show _ = _; rw [hnt]; exact hb
      clear hrd hback hfit hb hf hnt
      go_wp2_with fail
      refine IR.out.mono ?_
      rintro e w6 ⟨⟨avC, cvC, rfl, C⟩, hb6⟩
      replace hB := old_trans hB hb6
      clear hb6
      go_wp2_with fail
      refine (SR.out _).mono ?_
      rintro e w7 ⟨⟨avD, cvD, rfl, -⟩, hb7⟩
      replace hB := old_trans hB hb7
      replace C := C.later hb7
      clear hb7
      have T7 := TT.out _ hB
      have N7 := hd (NT.out _ _ _ _ _ C.inI T7)
      rw [hnt'.out] at N7
      go_wp2_with fail
      refine N7.out.mono ?_
      rintro e w8 ⟨rfl, hb8⟩
      replace hB := old_trans hB hb8
      go_wp2
      go_ret
      exact ⟨rfl, hB⟩

set_option maxRecDepth 100000 in
theorem FnNatText_lifted (os : Os) (started : os.Started) (H : Type) (enc : TypeId × Value → H) :
    ReturnsInHanded {} Tryd.checked os 3 .any (fun w args => (Rows.fnNatTextSpec.pre enc Tryd.prog Tryd.f3 [] false w args ∧ laidMetH Tryd.prog LEL w) ∧ sizedMet enc Tryd.prog Tryd.f3 (OpenSpec.ofChange Rows.fnNatTextSpec) false w args)
      (Rows.fnNatTextSpec.post enc Tryd.prog Tryd.f3 false true false false) := by
  refine returnsInHanded_of_change_and (C := Tryd.checked) (X := fun w _ => laidMetH Tryd.prog LEL w) (fun _ _ _ hh h => h.of_heap hh) LE_own started (by kernel_rfl) Tryd.func3
    (ChangeSpec.witness_shaped (enc := enc) (C := Tryd.checked) (os := os) (X := fun w _ => laidMetH Tryd.prog LEL w) false (World.doorLaid Tryd.prog LE_fuel os) #[.slice none 0 0] 8 rfl (LE_shaped os _) (by kernel_rfl) (by kernel_rfl) (by kernel_rfl) (LE_met os _)) ?_
  intro W base args ds gs before hval0 hW _ _ hL _
  have hval : ∀ (j : Nat) t v, Tryd.f3.params[j]? = some t → args[j]? = some v → Value.okWide Tryd.prog W .any base t v := hval0
  have hW' := hW
  obtain ⟨p, q, hA0, hV, rfl, hfz, hnd⟩ := hW
  have hA : DataW.TrodAll enc Tryd.prog W 0 (fun _ => true) true Tryd.f3.params.toList args.toList ds p := hA0
  rw [Tryd.params3] at hA hval
  obtain ⟨v0, vs0, d0, ds0, p0, q0, hargs, rfl, rfl, h0, r0⟩ := trodAll_cons hA
  obtain ⟨rfl, rfl, rfl⟩ := trodAll_nil r0
  obtain rfl : args = #[v0] := by cases args; simp_all
  obtain ⟨rfl, rfl⟩ := trodVars_none hV
  have k0 := h0
  have lt0 : ∀ x ∈ p0, x.block < W.heap.size := by obtain ⟨m, hm⟩ := k0; exact DataW.trod_lt m _ _ _ hm
  obtain ⟨a0, len0, cap0, rfl, wb0⟩ := open_bytes (hval 0 22 v0 rfl rfl) h0
  clear hA0 hval0
  refine (FnNatText_walk a0 len0 cap0 W wb0 (p10_of5 hL)).mono fun e W' ⟨he, bel⟩ => ?_
  subst he
  exact ⟨_, rfl, _, _, _, [], _, [], hW', trodAll_mk1 (shut_bool Tryd.underlying4 _), (trodAll_cons_mk (Below.trod jf1 (by kernel_rfl) (of_decide_eq_true (by kernel_rfl)) k0 bel lt0) trodAll_mk0), rfl, bel.frame _, fun h => by cases h⟩

theorem FnNatText_k0 : (Rows.fnNatTextRow.wf (OpenSpec.ofChange Rows.fnNatTextSpec)) = true := by kernel_rfl
theorem FnNatText_k3 : (Tryd.f3.params.all (Tryd.prog.readableRec ·)) = true := by kernel_rfl
theorem FnNatText_k4 : (namedTie Tryd.prog Rows.fnNatTextRow.named Rows.fnNatTextSpec.vars) = true := by kernel_rfl
theorem FnNatText_k5 : ((Rows.fnNatTextRow.stops == [])) = true := by kernel_rfl
theorem FnNatText_k7 : ((Rows.fnNatTextRow.knobs == [])) = true := by kernel_rfl
theorem FnNatText_k9 : ((Rows.fnNatTextRow.inPlace == Tryd.prog.inPlace 3)) = true := by kernel_rfl
theorem FnNatText_k10 : ((Rows.fnNatTextRow.unfollowed == Tryd.prog.unfollowed 3)) = true := by kernel_rfl
theorem FnNatText_k11 : ((Rows.fnNatTextRow.recurses == Tryd.prog.recurses 3)) = true := by kernel_rfl
theorem FnNatText_k12 : ((Rows.fnNatTextRow.named == Tryd.prog.varsNamed 3)) = true := by kernel_rfl
theorem FnNatText_k13 : ((Rows.fnNatTextRow.maps == (Tryd.f3.params.toList ++ Rows.fnNatTextSpec.plain.varTypes Tryd.prog).any (Tryd.prog.mapsRec ·))) = true := by kernel_rfl
theorem FnNatText_k14 : ((Rows.fnNatTextRow.ifaces == (Tryd.f3.params.toList ++ Rows.fnNatTextSpec.plain.varTypes Tryd.prog).any (Tryd.prog.ifacesRec ·))) = true := by kernel_rfl
theorem FnNatText_k15 : ((Rows.fnNatTextRow.mapsOut == Tryd.prog.mapsAmong Tryd.f3.resultTypes.toList)) = true := by kernel_rfl
theorem FnNatText_k16 : ((Rows.fnNatTextRow.loops == (Tryd.f3.params.toList ++ Rows.fnNatTextSpec.plain.varTypes Tryd.prog).any (Tryd.prog.loopsFrom ·))) = true := by kernel_rfl
theorem FnNatText_k17 : ((Rows.fnNatTextRow.wideKeys == (Tryd.f3.params.toList ++ Rows.fnNatTextSpec.plain.varTypes Tryd.prog ++ Tryd.f3.resultTypes.toList).any (Tryd.prog.wideKeysFrom ·))) = true := by kernel_rfl
theorem FnNatText_k18 : (Rows.fnNatTextSpec.vars.all (Tryd.prog.varReadable ·)) = true := by kernel_rfl
theorem FnNatText_k19 : (Tryd.f3.resultTypes.all (fun t => Tryd.prog.readableRec t && decide (t < Tryd.prog.types.size))) = true := by kernel_rfl
theorem FnNatText_k20 : ((Rows.fnNatTextRow.ifacesOut == Tryd.f3.resultTypes.toList.any (Tryd.prog.ifacesRec ·))) = true := by kernel_rfl
theorem FnNatText_k21 : ((Rows.fnNatTextRow.loopsOut == Tryd.f3.resultTypes.toList.any (Tryd.prog.loopsFrom ·))) = true := by kernel_rfl
theorem FnNatText_k23 : (Rows.fnNatTextRow.shortTexts.isNone) = true := by kernel_rfl
theorem FnNatText_k28 : ((Rows.fnNatTextRow.kinds == (if Rows.fnNatTextRow.domain.isEmpty then [] else Tryd.f3.params.toList.map fun t => match Tryd.prog.underlying t with | some (.int k) => some k | _ => none))) = true := by kernel_rfl
theorem FnNatText_k29 : ((Rows.fnNatTextRow.pinned == Rows.fnNatTextRow.pinnedBy)) = true := by kernel_rfl
theorem FnNatText_k30 : ((Rows.fnNatTextRow.veiled == (Tryd.f3.params.toList ++ Rows.fnNatTextSpec.plain.varTypes Tryd.prog ++ Tryd.f3.resultTypes.toList).any (Tryd.prog.veiledRec ·))) = true := by kernel_rfl
theorem FnNatText_k31 : (Rows.fnNatTextRow.veiledFits Tryd.prog Tryd.f3.params.toList (Tryd.f3.params.toList ++ Rows.fnNatTextSpec.plain.varTypes Tryd.prog ++ Tryd.f3.resultTypes.toList)) = true := by kernel_rfl
set_option maxRecDepth 100000 in
theorem FnNatText_closed : joinedFacts Tryd.prog 3 Tryd.f3 Rows.fnNatTextSpec Rows.fnNatTextRow = true := (and2 (and2 (and2 (and2 (and2 (and2 (and2 (and2 (and2 (and2 (and2 (and2 (and2 (and2 (and2 (and2 (and2 (and2 (and2 (and2 (and2 (and2 (and2 (and2 (and2 (and2 (and2 (and2 (and2 (and2 (and2 FnNatText_k0 jf1) jf2) FnNatText_k3) FnNatText_k4) FnNatText_k5) jf6) FnNatText_k7) jf8) FnNatText_k9) FnNatText_k10) FnNatText_k11) FnNatText_k12) FnNatText_k13) FnNatText_k14) FnNatText_k15) FnNatText_k16) FnNatText_k17) FnNatText_k18) FnNatText_k19) FnNatText_k20) FnNatText_k21) jf22) FnNatText_k23) jf24) jf25) jf26) jf27) FnNatText_k28) FnNatText_k29) FnNatText_k30) FnNatText_k31)
theorem FnNatText_row : Rows.FnNatTextSaid :=
  OpenClaim.holds_of_wide 3 Tryd.f3 rfl rfl rfl rfl rfl rfl rfl ⟨rfl, rfl, rfl, rfl, rfl⟩ rfl rfl rfl rfl rfl (by kernel_rfl) Tryd.func3 FnNatText_closed
    (of_decide_eq_true (by kernel_rfl)) (by unfold Func.isWrapper; first | (rw [if_pos (by decide +kernel)]; kernel_rfl) | (rw [if_neg (by decide +kernel)]; exact ⟨rfl, rfl⟩))
    (fun os started H enc _ => FnNatText_lifted os started H enc)

theorem FnNatText_proved : Rows.FnNatTextCardSaid :=
  Claim7.holds_tied_plain_at .later [] [.data, .data, .data, .sentinel, .sentinel] true (true, "f2dd60b8a6c4b67e54a9ddfb44b5d655bbe796b59823a105b90038236b0bada4") true
    FnNatText_row (fun _ h => by cases h) (by kernel_rfl) (fun _ h => by cases h) fnNatText_row_tie rfl ⟨rfl, rfl⟩ (by kernel_rfl) rfl
    (fun f fn hf hfn => by
      obtain rfl : f = 3 := Option.some.inj ((show Tryd.prog.funcNamed "loop.example/pinfold/laws.FnNatText" = some 3 by kernel_rfl).symm.trans hf) |>.symm
      obtain rfl : fn = Tryd.f3 := (Option.some.inj (Tryd.func3.symm.trans hfn)).symm
      exact ⟨by kernel_rfl, fun j t ht => by
        rw [Tryd.params3] at ht
        have hm : t ∈ [22] := by simpa using Array.mem_of_getElem? ht
        have hall : ([22].all fun u => !Tryd.prog.wantsStandIn u) = true := by kernel_rfl
        exact (show Tryd.prog.wantsStandIn t = false by simpa using List.all_eq_true.1 hall t hm)⟩)
    (by kernel_rfl)
end Go.Proofs.YtfdikhiaphgkpaaDoor
