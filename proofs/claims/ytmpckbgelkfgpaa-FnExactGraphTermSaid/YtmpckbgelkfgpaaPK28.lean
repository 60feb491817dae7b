/- The term of a node of a graph, by the specification. Nothing that was there is written. Condition: lists of 2^20 at most. -/
import Derived.Test.YtmpckbgelkfgpaaPK27
import Derived.Test.YtmpckbgelkfgpaaPK24
import Derived.Test.YtmpckbgelkfgpaaPK17
import Derived.Deep.RegionHeld3
namespace Go.Proofs.Ytmpckbgelkfgpaa
open Go.RowKit Go.Shelf
set_option linter.unusedVariables false
set_option maxRecDepth 100000

/-- a node of a graph that is one, all variables named -/
def gTP (vs : Int) (xs : List Gn) (ys : List Gr) (t : Int) (names : List ByteArray) : Prop := gOk vs xs ys ∧ (0 ≤ t ∧ t < (xs.length : Int)) ∧ (names.length : Int) = vs ∧ nmsOk names
theorem resGTs {W : World} {b : Nat} {v r : Value} {tmps : Array Value} (h : Cl1 W b v) (ht : tmps[6]? = some (.pointer (some ⟨b, 0, none⟩))) (h3 : tmps[7]? = some r) : (results Try.f32 tmps).run Try.prog W = .ok (.tuple #[.agg #[v], r]) W := by
  simp [results, Try.results32, go_sem, h.1, ht, h3]
set_option maxRecDepth 100000 in
set_option maxHeartbeats 16000000 in
theorem sGraphTerm (vs : Int) (a : Option Addr) (len cap : Nat) (xs : List Gn) (a' : Option Addr) (len' cap' : Nat) (ys : List Gr) (t : Int) (an : Option Addr) (cn : Nat) (names : List ByteArray) (w : World) (hR : InGn w a len cap xs) (hR' : InGr w a' len' cap' ys) (RN : InT w an names.length cn names) (hl : len ≤ 1048576) (hl' : len' ≤ 1048576) (L : List Tn) (ok : Bool) (hG : GTis (gTP vs xs ys t names) (trm names xs t.toNat) L ok) :
    Calls Try.prog 32 #[.agg #[.int .i64 vs, .slice a len cap, .slice a' len' cap'], .int .i64 t, .slice an names.length cn] w fun e w' => (∃ av cv, e = .returned (.tuple #[.agg #[.slice av (List.length L) cv], .bool ok]) ∧ OTn w' w.heap.size av cv L) ∧ Below w.heap.size w w' := by
  have no : Hid (¬ gTP vs xs ys t names → ∀ W : World, Below w.heap.size w W → (∃ av cv, Ending.returned (.tuple #[.agg #[.slice none 0 0], .bool false]) = .returned (.tuple #[.agg #[.slice av (List.length L) cv], .bool ok]) ∧ OTn W w.heap.size av cv L) ∧ Below w.heap.size w W) := fun h W hb => by
    obtain ⟨rfl, rfl⟩ := hG.no (fun q => h q.1)
    exact ⟨⟨none, 0, rfl, OTn.none _ _⟩, hb⟩
  have ln : xs.length = len := hR.1
  have hnl := RN.len
  have e0 : Below w.heap.size w ((w.alloc (.cells #[.int .i64 vs, .slice a len cap, .slice a' len' cap'] 71)).alloc (.cells #[.slice none 0 0] 49)) := (by repeat (first | exact Below.refl _ _ | refine Below.drew ?_ | refine old_alloc ?_ _ | refine old_trans ?_ (by assumption)))
  have K : CS ((w.alloc (.cells #[.int .i64 vs, .slice a len cap, .slice a' len' cap'] 71)).alloc (.cells #[.slice none 0 0] 49)) w.heap.size [.int .i64 vs, .slice a len cap, .slice a' len' cap'] := (CS.made w _ rfl #[_, _, _] _).alloc _
  have V : Cl1 ((w.alloc (.cells #[.int .i64 vs, .slice a len cap, .slice a' len' cap'] 71)).alloc (.cells #[.slice none 0 0] 49)) (w.heap.size + 1) (.slice none 0 0) := Cl1.made _ _ (by simp) _ _
  have GO := hd (fun W (h : Below w.heap.size w W) => sGraphOk vs a len cap xs a' len' cap' ys W (hR.old h) (hR'.old h) hl hl')
  have DI := hd (fun W (h : Below w.heap.size w W) => sDistinct an names.length cn names W (RN.old h))
  have P1 : Hid (gTP vs xs ys t names → gOk vs xs ys) := fun h => h.1
  have P2 : Hid (gTP vs xs ys t names → 0 ≤ t ∧ t < (len : Int)) := fun h => by have := h.2.1; omega
  have P3 : Hid (gTP vs xs ys t names → (names.length : Int) = vs) := fun h => h.2.2.1
  have P4 : Hid (gTP vs xs ys t names → nmsOk names) := fun h => h.2.2.2
  have PY : Hid (gOk vs xs ys → (0 ≤ t ∧ t < (len : Int)) → (names.length : Int) = vs → nmsOk names → gTP vs xs ys t names) := fun h1 h2 h3 h4 => ⟨h1, by omega, h3, h4⟩
  replace hG := hd hG
  replace ln := hd ln
  generalize hP : gTP vs xs ys t names = P at *
  clear hP
  go_enter Try.func32, Try.ntmps32
  go_upto_region 1 with fail
  generalize ((w.alloc (.cells #[.int .i64 vs, .slice a len cap, .slice a' len' cap'] 71)).alloc (.cells #[.slice none 0 0] 49)) = W0 at *
  have k0 := K.cell 0 _ rfl
  have k1 := K.cell 1 _ rfl
  have k2 := K.cell 2 _ rfl
  go_wp2_with fail
  refine (GO.out _ e0).mono ?_
  rintro e w1 ⟨⟨b, rfl, hb1⟩, hb2⟩
  replace hb1 := hd hb1
  replace K := K.later hb2
  replace V := V.later hb2
  have hb := old_trans e0 hb2
  clear e0 hb2 GO k0 k1 k2
  have k0 := K.cell 0 _ rfl
  have k1 := K.cell 1 _ rfl
  have k2 := K.cell 2 _ rfl
  have kl := K.lt
  have nl1 := Nat.ne_of_lt kl
  have nl2 := Nat.ne_of_gt kl
  obtain ⟨V0, V1, V2⟩ := id V
  have lV1 := Nat.ne_of_lt V2
  have lV2 := Nat.ne_of_gt V2
  cases b
  case false =>
    have np : Hid (¬ P) := fun h => by have := hb1.out.2 (P1.out h); cases this
    go_wp2
    exact bodyPost_ret (resGTs (V.set _) rfl rfl) rfl (no.out np.out _ (hb.setCell (p := ⟨w.heap.size + 1, 0, none⟩) (by simp) _))
  replace hb1 := hd (hb1.out.1 rfl)
  by_cases h1 : t < 0
  case pos =>
    have np : Hid (¬ P) := fun h => by have := P2.out h; omega
    have d1 : decide (t < 0) = true := decide_eq_true h1
    go_wp2
    exact bodyPost_ret (resGTs (V.set _) rfl rfl) rfl (no.out np.out _ (hb.setCell (p := ⟨w.heap.size + 1, 0, none⟩) (by simp) _))
  have d1 : decide (t < 0) = false := decide_eq_false h1
  by_cases h2 : (len : Int) ≤ t
  case pos =>
    have np : Hid (¬ P) := fun h => by have := P2.out h; omega
    have d2 : decide ((len : Int) ≤ t) = true := decide_eq_true h2
    go_wp2
    exact bodyPost_ret (resGTs (V.set _) rfl rfl) rfl (no.out np.out _ (hb.setCell (p := ⟨w.heap.size + 1, 0, none⟩) (by simp) _))
  have d2 : decide ((len : Int) ≤ t) = false := decide_eq_false h2
  by_cases h3 : (names.length : Int) = vs
  case neg =>
    have np : Hid (¬ P) := fun h => h3 (P3.out h)
    have d3 : ((names.length : Int) == vs) = false := beq_eq_false_iff_ne.2 h3
    go_wp2
    exact bodyPost_ret (resGTs (V.set _) rfl rfl) rfl (no.out np.out _ (hb.setCell (p := ⟨w.heap.size + 1, 0, none⟩) (by simp) _))
  have d3 : ((names.length : Int) == vs) = true := beq_iff_eq.2 h3
  replace h3 := hd h3
  go_wp2_with fail
  refine (DI.out _ hb).mono ?_
  rintro e w2 ⟨⟨b, rfl, hb3⟩, hb4⟩
  replace hb3 := hd hb3
  replace K := K.later hb4
  replace V := V.later hb4
  replace hb := hb.trans (hb4.mono hb.size)
  clear hb4 DI k0 k1 k2 kl nl1 nl2 V0 V1 V2 lV1 lV2
  have k0 := K.cell 0 _ rfl
  have k1 := K.cell 1 _ rfl
  have k2 := K.cell 2 _ rfl
  have kl := K.lt
  have nl1 := Nat.ne_of_lt kl
  have nl2 := Nat.ne_of_gt kl
  obtain ⟨V0, V1, V2⟩ := id V
  have lV1 := Nat.ne_of_lt V2
  have lV2 := Nat.ne_of_gt V2
  cases b
  case false =>
    have np : Hid (¬ P) := fun h => by have := hb3.out.2 (P4.out h); cases this
    go_wp2
    exact bodyPost_ret (resGTs (V.set _) rfl rfl) rfl (no.out np.out _ (hb.setCell (p := ⟨w.heap.size + 1, 0, none⟩) (by simp) _))
  replace hb3 := hd (hb3.out.1 rfl)
  have yes := hd (PY.out hb1.out ⟨by omega, by omega⟩ h3.out hb3.out)
  obtain ⟨gO, gK, g120⟩ := gOrd_of hb1.out h3.out
  obtain ⟨i, rfl⟩ : ∃ i : Nat, t = (i : Int) := ⟨t.toNat, by omega⟩
  have hi : i < len := by omega
  have RG := hd (hR.old hb)
  have RNn := hd (RN.old hb)
  have lnn := ln.out
  have TM := hd (fun W (h : Below w2.heap.size w2 W) => sTerm15 vs a len cap xs a' len' cap' an cn names w2 RG.out RNn.out (by omega) gO (i + 1) i (by omega) hi none 0 [] W h (TnGrows.nil _ _) (by simp) TnFits.nil)
  have hz := hd (trm_le (names := names) (xs := xs) i)
  replace gO := hd gO
  replace gK := hd gK
  have lw2 := V2
  clear P1 P2 P3 P4 PY RG RNn no
  go_wp2_with fail
  refine (TM.out _ (by first | exact Below.refl _ _ | exact (by repeat (first | exact Below.refl _ _ | refine Below.drew ?_ | refine old_alloc ?_ _ | refine old_trans ?_ (by assumption))))).mono ?_
  rintro e w3 ⟨av, cv, R, rfl, D⟩
  have hb5 : Below w2.heap.size w2 w3 := (Below.refl _ _).grown D.fr (Nat.le_refl _) (fun k e => by simp [Value.ownBlock] at e)
  have hs2 := hb.size
  have OO := OTn.mono (TnGrows.oo D.g D.f) hs2
  have hsep := OTn.ge (TnGrows.oo D.g D.f)
  have hp := hd (sPost.top hz.out D.p)
  have hRl : R.length ≤ 300 := by
    rcases D.le with h | h
    · omega
    · exact Nat.le_trans h (by simp)
  clear D TM
  replace K := K.later hb5
  replace V := V.later hb5
  replace hb := hb.trans (hb5.mono hb.size)
  have e6 : Below w3.heap.size w3 (w3.alloc (.cells #[.slice av R.length cv] 49)) := (by repeat (first | exact Below.refl _ _ | refine Below.drew ?_ | refine old_alloc ?_ _ | refine old_trans ?_ (by assumption)))
  have TT3 : Cl1 (w3.alloc (.cells #[.slice av R.length cv] 49)) w3.heap.size (.slice av R.length cv) := Cl1.made _ _ rfl _ _
  replace K := K.later e6
  replace V := V.later e6
  replace hb := hb.trans (e6.mono hb.size)
  replace OO := OO.later e6
  clear e6 hb5 k0 k1 k2 kl nl1 nl2 V0 V1 V2 lV1 lV2 d1 d2 d3 h1 h2 hi
  obtain ⟨T0, T1, T2⟩ := id TT3
  obtain ⟨V0, V1, V2⟩ := id V
  have lV1 := Nat.ne_of_lt V2
  have lV2 := Nat.ne_of_gt V2
  have sv : w.heap.size + 1 < w2.heap.size := lw2
  have OS : Hid (∀ v, OTn ((w3.alloc (.cells #[.slice av R.length cv] 49)).setCell ⟨w.heap.size + 1, 0, none⟩ v) w.heap.size av cv R) := fun v => OO.kept (grown_cell _ _ _) (fun q e e2 => by have := hsep q e; injection e2 with e2; omega)
  have HS : Hid (∀ v, Below w.heap.size w ((w3.alloc (.cells #[.slice av R.length cv] 49)).setCell ⟨w.heap.size + 1, 0, none⟩ v)) := fun v => hb.setCell (p := ⟨w.heap.size + 1, 0, none⟩) (by simp) v
  clear OO hsep hb sv
  by_cases c : R.length ≤ 100
  · have cz : R = trm names xs i ∧ trm names xs i ≠ [] := by
      rcases hp.out with ⟨-, h, h'⟩ | ⟨h, -⟩
      · exact ⟨h, h'⟩
      · omega
    obtain ⟨eo, eL⟩ := hG.out.is yes.out (by simpa using cz.2)
    have eLR : L = R := by rw [eL, cz.1]; simp
    subst eo eLR
    have ci : ¬ ((100 : Int) < (List.length L : Int)) := by omega
    clear hp cz eL hG
    go_wp2_with fail
    exact bodyPost_ret (resGTs (V.set _) rfl rfl) rfl ⟨⟨av, cv, rfl, OS.out _⟩, HS.out _⟩
  · have cz : trm names xs i = [] := by
      rcases hp.out with ⟨h, -⟩ | ⟨-, h⟩
      · exact absurd h c
      · exact h
    obtain ⟨rfl, rfl⟩ := hG.out.no (fun q => q.2 (by simpa using cz))
    have ci : (100 : Int) < (R.length : Int) := by omega
    clear hp cz
    go_wp2_with fail
    exact bodyPost_ret (resGTs (V.set _) rfl rfl) rfl ⟨⟨none, 0, rfl, OTn.none _ _⟩, HS.out _⟩
end Go.Proofs.Ytmpckbgelkfgpaa

/- The term of a node of a graph, by the program. Nothing that was there is written. Condition: lists of 2^20 at most. -/
namespace Go.Proofs.Ytmpckbgelkfgpaa
open Go.RowKit Go.Shelf
set_option linter.unusedVariables false
set_option maxRecDepth 100000

theorem resGTi {W : World} {b : Nat} {v r : Value} {tmps : Array Value} (h : Cl1 W b v) (ht : tmps[6]? = some (.pointer (some ⟨b, 0, none⟩))) (h3 : tmps[7]? = some r) : (results Try.f34 tmps).run Try.prog W = .ok (.tuple #[.agg #[v], r]) W := by
  simp [results, Try.results34, go_sem, h.1, ht, h3]
theorem OTn.toNil {w : World} {b c : Nat} {a : Option Addr} {xs : List Tn} (h : OTn w b a c xs) (e : xs = []) : OTn w b a c [] := e ▸ h
set_option maxRecDepth 100000 in
set_option maxHeartbeats 16000000 in
theorem iGraphTerm (vs : Int) (a : Option Addr) (len cap : Nat) (xs : List Gn) (a' : Option Addr) (len' cap' : Nat) (ys : List Gr) (t : Int) (an : Option Addr) (cn : Nat) (names : List ByteArray) (w : World) (hR : InGn w a len cap xs) (hR' : InGr w a' len' cap' ys) (RN : InT w an names.length cn names) (hl : len ≤ 1048576) (hl' : len' ≤ 1048576) (L : List Tn) (ok : Bool) (hG : GTis (gTP vs xs ys t names) (trm names xs t.toNat) L ok) :
    Calls Try.prog 34 #[.agg #[.int .i64 vs, .slice a len cap, .slice a' len' cap'], .int .i64 t, .slice an names.length cn] w fun e w' => (∃ av cv, e = .returned (.tuple #[.agg #[.slice av (List.length L) cv], .bool ok]) ∧ OTn w' w.heap.size av cv L) ∧ Below w.heap.size w w' := by
  have no : Hid (¬ gTP vs xs ys t names → ∀ W : World, Below w.heap.size w W → (∃ av cv, Ending.returned (.tuple #[.agg #[.slice none 0 0], .bool false]) = .returned (.tuple #[.agg #[.slice av (List.length L) cv], .bool ok]) ∧ OTn W w.heap.size av cv L) ∧ Below w.heap.size w W) := fun h W hb => by
    obtain ⟨rfl, rfl⟩ := hG.no (fun q => h q.1)
    exact ⟨⟨none, 0, rfl, OTn.none _ _⟩, hb⟩
  have ln : xs.length = len := hR.1
  have hnl := RN.len
  have hb : Below w.heap.size w ((w.alloc (.cells #[.int .i64 vs, .slice a len cap, .slice a' len' cap'] 71)).alloc (.cells #[.slice none 0 0] 49)) := (by repeat (first | exact Below.refl _ _ | refine Below.drew ?_ | refine old_alloc ?_ _ | refine old_trans ?_ (by assumption)))
  have K : CS ((w.alloc (.cells #[.int .i64 vs, .slice a len cap, .slice a' len' cap'] 71)).alloc (.cells #[.slice none 0 0] 49)) w.heap.size [.int .i64 vs, .slice a len cap, .slice a' len' cap'] := (CS.made w _ rfl #[_, _, _] _).alloc _
  have V : Cl1 ((w.alloc (.cells #[.int .i64 vs, .slice a len cap, .slice a' len' cap'] 71)).alloc (.cells #[.slice none 0 0] 49)) (w.heap.size + 1) (.slice none 0 0) := Cl1.made _ _ (by simp) _ _
  have GO := hd (fun W (h : Below w.heap.size w W) => iGraphOk vs a len cap xs a' len' cap' ys W (hR.old h) (hR'.old h) hl hl')
  have CN := hd (fun W (h : Below w.heap.size w W) => iContainsName an names.length cn names W (RN.old h))
  have TW := hd (fun W (h : Below w.heap.size w W) => iTwiceT an names.length cn names W (RN.old h))
  have HS := hd (fun W => iHas vs a len cap xs a' len' cap' ys t W)
  have P1 : Hid (gTP vs xs ys t names → gOk vs xs ys) := fun h => h.1
  have P2 : Hid (gTP vs xs ys t names → 0 ≤ t ∧ t < (len : Int)) := fun h => by have := h.2.1; omega
  have P3 : Hid (gTP vs xs ys t names → (names.length : Int) = vs) := fun h => h.2.2.1
  have P4 : Hid (gTP vs xs ys t names → nmsOk names) := fun h => h.2.2.2
  have PY : Hid (gOk vs xs ys → (0 ≤ t ∧ t < (len : Int)) → (names.length : Int) = vs → nmsOk names → gTP vs xs ys t names) := fun h1 h2 h3 h4 => ⟨h1, by omega, h3, h4⟩
  replace hG := hd hG
  replace ln := hd ln
  generalize hP : gTP vs xs ys t names = P at *
  clear hP
  go_enter Try.func34, Try.ntmps34
  go_upto_region 1 with fail
  generalize ((w.alloc (.cells #[.int .i64 vs, .slice a len cap, .slice a' len' cap'] 71)).alloc (.cells #[.slice none 0 0] 49)) = W0 at *
  have k0 := K.cell 0 _ rfl
  have k1 := K.cell 1 _ rfl
  have k2 := K.cell 2 _ rfl
  have kl := K.lt
  have nl1 := Nat.ne_of_lt kl
  have nl2 := Nat.ne_of_gt kl
  obtain ⟨V0, V1, V2⟩ := id V
  have lV1 := Nat.ne_of_lt V2
  have lV2 := Nat.ne_of_gt V2
  by_cases h3 : (names.length : Int) = vs
  case neg =>
    have np : Hid (¬ P) := fun h => h3 (P3.out h)
    have d3 : ((names.length : Int) == vs) = false := beq_eq_false_iff_ne.2 h3
    go_wp2
    exact bodyPost_ret (resGTi (V.set _) rfl rfl) rfl (no.out np.out _ (hb.setCell (p := ⟨w.heap.size + 1, 0, none⟩) (by simp) _))
  have d3 : ((names.length : Int) == vs) = true := beq_iff_eq.2 h3
  replace h3 := hd h3
  go_wp2_with fail
  refine (CN.out _ hb).mono ?_
  rintro e w1 ⟨⟨b, rfl, hb1⟩, hb2⟩
  replace hb1 := hd hb1
  replace K := K.later hb2
  replace V := V.later hb2
  replace hb := hb.trans (hb2.mono hb.size)
  clear hb2 k0 k1 k2 kl nl1 nl2 V0 V1 V2 lV1 lV2
  have k0 := K.cell 0 _ rfl
  have k1 := K.cell 1 _ rfl
  have k2 := K.cell 2 _ rfl
  have kl := K.lt
  have nl1 := Nat.ne_of_lt kl
  have nl2 := Nat.ne_of_gt kl
  obtain ⟨V0, V1, V2⟩ := id V
  have lV1 := Nat.ne_of_lt V2
  have lV2 := Nat.ne_of_gt V2
  cases b
  case true =>
    have np : Hid (¬ P) := fun h => (hb1.out.1 rfl) (P4.out h).1
    go_wp2
    exact bodyPost_ret (resGTi (V.set _) rfl rfl) rfl (no.out np.out _ (hb.setCell (p := ⟨w.heap.size + 1, 0, none⟩) (by simp) _))
  have nm : Hid (∀ s ∈ names, nameB s = true) := Classical.byContradiction fun q => by have := hb1.out.2 q; cases this
  clear hb1
  go_wp2_with fail
  refine (TW.out _ hb).mono ?_
  rintro e w2 ⟨⟨b, rfl, hb1⟩, hb2⟩
  replace hb1 := hd hb1
  replace K := K.later hb2
  replace V := V.later hb2
  replace hb := hb.trans (hb2.mono hb.size)
  clear hb2 k0 k1 k2 kl nl1 nl2 V0 V1 V2 lV1 lV2
  have k0 := K.cell 0 _ rfl
  have k1 := K.cell 1 _ rfl
  have k2 := K.cell 2 _ rfl
  have kl := K.lt
  have nl1 := Nat.ne_of_lt kl
  have nl2 := Nat.ne_of_gt kl
  obtain ⟨V0, V1, V2⟩ := id V
  have lV1 := Nat.ne_of_lt V2
  have lV2 := Nat.ne_of_gt V2
  cases b
  case true =>
    have np : Hid (¬ P) := fun h => (hb1.out.1 rfl) (P4.out h).2
    go_wp2
    exact bodyPost_ret (resGTi (V.set _) rfl rfl) rfl (no.out np.out _ (hb.setCell (p := ⟨w.heap.size + 1, 0, none⟩) (by simp) _))
  have nm2 : Hid (nmsOk names) := ⟨nm.out, Classical.byContradiction fun q => by have := hb1.out.2 q; cases this⟩
  clear hb1 nm CN TW
  go_wp2_with fail
  refine (HS.out _).mono ?_
  rintro e w3 ⟨rfl, hb2⟩
  replace K := K.later hb2
  replace V := V.later hb2
  replace hb := hb.trans (hb2.mono hb.size)
  clear hb2 HS k0 k1 k2 kl nl1 nl2 V0 V1 V2 lV1 lV2
  have k0 := K.cell 0 _ rfl
  have k1 := K.cell 1 _ rfl
  have k2 := K.cell 2 _ rfl
  have kl := K.lt
  have nl1 := Nat.ne_of_lt kl
  have nl2 := Nat.ne_of_gt kl
  obtain ⟨V0, V1, V2⟩ := id V
  have lV1 := Nat.ne_of_lt V2
  have lV2 := Nat.ne_of_gt V2
  by_cases h2 : 0 ≤ t ∧ t < (len : Int)
  case neg =>
    have np : Hid (¬ P) := fun h => h2 (P2.out h)
    rw [decide_eq_false h2]
    go_wp2
    exact bodyPost_ret (resGTi (V.set _) rfl rfl) rfl (no.out np.out _ (hb.setCell (p := ⟨w.heap.size + 1, 0, none⟩) (by simp) _))
  rw [decide_eq_true h2]
  go_wp2_with fail
  refine (GO.out _ hb).mono ?_
  rintro e w4 ⟨⟨b, rfl, hb1⟩, hb2⟩
  replace hb1 := hd hb1
  replace K := K.later hb2
  replace V := V.later hb2
  replace hb := hb.trans (hb2.mono hb.size)
  clear hb2 k0 k1 k2 kl nl1 nl2 V0 V1 V2 lV1 lV2
  have k0 := K.cell 0 _ rfl
  have k1 := K.cell 1 _ rfl
  have k2 := K.cell 2 _ rfl
  have kl := K.lt
  have nl1 := Nat.ne_of_lt kl
  have nl2 := Nat.ne_of_gt kl
  obtain ⟨V0, V1, V2⟩ := id V
  have lV1 := Nat.ne_of_lt V2
  have lV2 := Nat.ne_of_gt V2
  cases b
  case false =>
    have np : Hid (¬ P) := fun h => by have := hb1.out.2 (P1.out h); cases this
    go_wp2
    exact bodyPost_ret (resGTi (V.set _) rfl rfl) rfl (no.out np.out _ (hb.setCell (p := ⟨w.heap.size + 1, 0, none⟩) (by simp) _))
  replace hb1 := hd (hb1.out.1 rfl)
  have yes := hd (PY.out hb1.out h2 h3.out nm2.out)
  obtain ⟨gO, gK, g120⟩ := gOrd_of hb1.out h3.out
  obtain ⟨i, rfl⟩ : ∃ i : Nat, t = (i : Int) := ⟨t.toNat, by omega⟩
  have hi : i < len := by omega
  have lnn := ln.out
  have TM := hd (iTermsOf vs a len cap xs a' len' cap' an cn names w4 (hR.old hb) (RN.old hb) (by omega) gO gK)
  have hi0 : (0 : Int) ≤ (i : Int) := h2.1
  have hi1 : (i : Int) < (len : Int) := h2.2
  have lw4 := V2
  have hs2 := hb.size
  clear P1 P2 P3 P4 PY no gO gK hb1 nm2 GO
  go_wp2_with fail
  refine TM.out.mono ?_
  rintro e w5 ⟨⟨av, cv, ts, rfl, G, hS, hT⟩, hb2⟩
  have tl : ts.length = len := by
    have := congrArg List.length hS
    rw [List.length_map, trs_len] at this
    exact this
  obtain ⟨g, cap2, e1, hg, hgb, hc⟩ := G.at (i := i) (by omega)
  injection e1 with e1 e2 e3
  subst e1 e3
  have TZ := hT _ (List.getElem_mem (show i < ts.length by omega))
  rw [show ts[i]'(by omega) = ts.getD i te0 by rw [List.getD_eq_getElem?_getD, List.getElem?_eq_getElem (show i < ts.length by omega)]; rfl] at TZ
  have ez : (ts.getD i te0).xs = trm names xs i := by
    have this : (ts.map Te.xs).getD i [] = (trs names xs len).getD i [] := by rw [hS]
    rw [trs_at hi] at this
    rw [← this]
    simp [List.getD_eq_getElem?_getD, show i < ts.length by omega]
  rw [tl]
  generalize hzz : ts.getD i te0 = z at *
  replace K := K.later hb2
  replace V := V.later hb2
  replace hb := hb.trans (hb2.mono hb.size)
  have OO := TZ.otn
  have hsep := OTn.ge OO
  replace OO := OTn.mono OO hs2
  unfold teV at hc
  clear hb2 TM hT hS TZ G hzz k0 k1 k2 kl nl1 nl2 V0 V1 V2 lV1 lV2
  have hgI := Nat.ne_of_lt hg
  have hgJ := Nat.ne_of_gt hg
  have hx1 := Nat.ne_of_lt V.2.2
  have hx2 := Nat.ne_of_gt V.2.2
  have e6 : Below w5.heap.size w5 (w5.alloc (.cells #[.slice z.a z.xs.length z.c] 49)) := (by repeat (first | exact Below.refl _ _ | refine Below.drew ?_ | refine old_alloc ?_ _ | refine old_trans ?_ (by assumption)))
  have TT3 : Cl1 (w5.alloc (.cells #[.slice z.a z.xs.length z.c] 49)) w5.heap.size (.slice z.a z.xs.length z.c) := Cl1.made _ _ rfl _ _
  replace K := K.later e6
  replace V := V.later e6
  replace hb := hb.trans (e6.mono hb.size)
  replace OO := OO.later e6
  obtain ⟨T0, T1, T2⟩ := id TT3
  obtain ⟨V0, V1, V2⟩ := id V
  have lV1 := Nat.ne_of_lt V2
  have lV2 := Nat.ne_of_gt V2
  have zf := hd OO.1
  have zl : z.xs.length ≤ 100 := by rw [ez]; exact trm_le i
  have OS : Hid (∀ n v, OTn (((w5.alloc (.cells #[.slice z.a z.xs.length z.c] 49)).drewN n).setCell ⟨w.heap.size + 1, 0, none⟩ v) w.heap.size z.a z.c z.xs) := fun n v => OTn.kept (OO.later (below_drewN (Below.refl _ _) n)) (grown_cell _ _ _) (fun q e e2 => by have := hsep q e; injection e2 with e2; omega)
  have HS : Hid (∀ n v, Below w.heap.size w (((w5.alloc (.cells #[.slice z.a z.xs.length z.c] 49)).drewN n).setCell ⟨w.heap.size + 1, 0, none⟩ v)) := fun n v => Below.setCell (below_drewN hb n) (p := ⟨w.heap.size + 1, 0, none⟩) (by simp) v
  have FIN : Hid (∀ n v, (∃ av cv, Ending.returned (.tuple #[.agg #[.slice z.a z.xs.length z.c], .bool (decide (0 < z.xs.length))]) = .returned (.tuple #[.agg #[.slice av (List.length L) cv], .bool ok]) ∧ OTn (((w5.alloc (.cells #[.slice z.a z.xs.length z.c] 49)).drewN n).setCell ⟨w.heap.size + 1, 0, none⟩ v) w.heap.size av cv L) ∧ Below w.heap.size w (((w5.alloc (.cells #[.slice z.a z.xs.length z.c] 49)).drewN n).setCell ⟨w.heap.size + 1, 0, none⟩ v)) := fun n v => by
    refine ⟨⟨z.a, z.c, ?_, ?_⟩, HS.out n v⟩
    all_goals
      by_cases hz : z.xs = []
      · obtain ⟨rfl, rfl⟩ := hG.out.no (fun q => q.2 (by rw [← hz, ez]; simp))
        first
          | (rw [hz]; rfl)
          | exact OTn.toNil (OS.out n v) hz
      · obtain ⟨rfl, eL⟩ := hG.out.is yes.out (by rw [ez] at hz; simpa using hz)
        have eL2 : L = z.xs := by rw [eL, ez]; simp
        have hp : 0 < z.xs.length := List.length_pos_iff.2 hz
        first
          | (rw [eL2, decide_eq_true (by omega)])
          | (rw [eL2]; exact OS.out n v)
  clear OS HS OO hsep ez hG yes lw4 hs2 e6 hb
  go_upto_region 5 with fail
  go_region
  all_goals go_wp2
  all_goals first
    | exact bodyPost_ret (resGTi (Cl1.set V _) rfl rfl) rfl (FIN.out 0 _)
    | exact bodyPost_ret (resGTi (Cl1.set (Cl1.drew V) _) rfl rfl) rfl (FIN.out 1 _)
end Go.Proofs.Ytmpckbgelkfgpaa
