/- What a node of a graph comes to over what its parts come to, by the program: in new memory, nothing that was there is written. Conditions: at most two parts, each of 100 nodes at most, all of them there; a variable has a name. -/
import Derived.Test.YtmpckbgelkfgpaaPK24
import Derived.Deep.DeepCutAuto
namespace Go.Proofs.Ytmpckbgelkfgpaa
open Go.RowKit
set_option linter.unusedVariables false
set_option maxRecDepth 100000

theorem resT2 {W : World} {b : Nat} {v : Value} {tmps : Array Value} (h : Cl1 W b v) (ht : tmps[6]? = some (.pointer (some ⟨b, 0, none⟩))) : (results Try.f123 tmps).run Try.prog W = .ok (.agg #[v]) W := by
  simp [results, Try.results123, go_sem, h.1, ht]
theorem gtO_yes {ts : List Te} {x : Tn} (h1 : (flt ts ++ [x]).length ≤ 100) (h2 : ¬ ∃ i, i < ts.length ∧ (ts.getD i te0).xs = []) : gtO (ts.map Te.xs) x = flt ts ++ [x] := by
  unfold gtO
  refine if_pos ⟨h1, fun p hp e => ?_⟩
  obtain ⟨t, ht, rfl⟩ := List.mem_map.1 hp
  obtain ⟨i, hi, rfl⟩ := List.mem_iff_getElem.1 ht
  exact h2 ⟨i, hi, by simpa [List.getD_eq_getElem?_getD, hi] using e⟩
theorem gtO_no1 {ts : List Te} {x : Tn} (h1 : ¬ (flt ts ++ [x]).length ≤ 100) : gtO (ts.map Te.xs) x = [] := by
  unfold gtO
  exact if_neg (fun h => h1 h.1)
theorem gtO_no2 {ts : List Te} {x : Tn} (h2 : ∃ i, i < ts.length ∧ (ts.getD i te0).xs = []) : gtO (ts.map Te.xs) x = [] := by
  unfold gtO
  refine if_neg (fun h => ?_)
  obtain ⟨i, hi, e⟩ := h2
  exact h.2 _ (List.mem_map.2 ⟨_, getD_memTe hi, rfl⟩) e
theorem Cl1.other0 {w : World} {b c : Nat} {v : Value} (h : Cl1 w b v) (hn : b ≠ c) (i : Nat) (u : Value) : Cl1 (w.setCell ⟨c, i, none⟩ u) b v :=
  h.kept (row := some c) ⟨rfl, rfl, rfl, by simp [World.setCell], fun k _ hk => Below.heap_setCell _ _ _ _ (fun e => hk (by rw [e]))⟩ (fun e => hn (by injection e))
set_option maxRecDepth 100000 in
set_option maxHeartbeats 16000000 in
theorem iOver (k u v n : Int) (s : ByteArray) (hf : Gn.fit ⟨k, u, v, n, s⟩) (a : Option Addr) (cap : Nat) (ts : List Te) (b0 pn pi : Nat) (an : Option Addr) (cn : Nat) (names : List ByteArray) (w : World)
    (hR : InTs w a ts.length cap ts) (hT : ∀ i, i < ts.length → TT w b0 (ts.getD i te0)) (h2 : ts.length ≤ 2) (h100 : ∀ i, i < ts.length → (ts.getD i te0).xs.length ≤ 100)
    (Cn : Cl1 w pn (.slice an names.length cn)) (Ci : Cl1 w pi (.func (.func 120) #[] #[])) (RN : InT w an names.length cn names) (hv : k = 2 → 0 ≤ n ∧ n < (names.length : Int)) :
    Calls Try.prog 123 #[.agg #[.int .i64 k, .int .i64 u, .int .i64 v, .int .i64 n, .string s], .slice a ts.length cap, .pointer (some ⟨pn, 0, none⟩), .pointer (some ⟨pi, 0, none⟩)] w fun e w' => (∃ av cv, e = .returned (.agg #[.slice av (gtO (ts.map Te.xs) (gtX names ⟨k, u, v, n, s⟩)).length cv]) ∧ TT w' w.heap.size ⟨av, cv, gtO (ts.map Te.xs) (gtX names ⟨k, u, v, n, s⟩)⟩) ∧ Below w.heap.size w w' := by
  have K : CS ((w.alloc (.cells #[.int .i64 k, .int .i64 u, .int .i64 v, .int .i64 n, .string s] 149)).alloc (.cells #[.slice none 0 0] 49)) w.heap.size [.int .i64 k, .int .i64 u, .int .i64 v, .int .i64 n, .string s] := (CS.made w _ rfl #[_, _, _, _, _] _).alloc _
  have V : Cl1 ((w.alloc (.cells #[.int .i64 k, .int .i64 u, .int .i64 v, .int .i64 n, .string s] 149)).alloc (.cells #[.slice none 0 0] 49)) (w.heap.size + 1) (.slice none 0 0) := Cl1.made _ _ (by simp) _ _
  have hb : Below w.heap.size w ((w.alloc (.cells #[.int .i64 k, .int .i64 u, .int .i64 v, .int .i64 n, .string s] 149)).alloc (.cells #[.slice none 0 0] 49)) := (by repeat (first | exact Below.refl _ _ | refine Below.drew ?_ | refine old_alloc ?_ _ | refine old_trans ?_ (by assumption)))
  have hflt : Hid (TnFits (flt ts)) := fun z hz => by
    obtain ⟨l, hl, hzl⟩ := List.mem_flatten.1 hz
    obtain ⟨t, ht, rfl⟩ := List.mem_map.1 hl
    exact (hR.2.2.2.1 t ht).2.2.2.1 z hzl
  replace hR := hd (fun W (h : Below w.heap.size w W) => hR.old (w' := W) h)
  replace hT := hd (fun W (h : Below w.heap.size w W) i hi => (hT i hi).old (w' := W) h)
  replace RN := hd (fun W (h : Below w.heap.size w W) => RN.old (w' := W) h)
  replace h100 := hd h100
  replace Cn := Cn.later hb
  replace Ci := Ci.later hb
  have hX : Hid (k ≠ 2 → gtX names ⟨k, u, v, n, s⟩ = ⟨k, n, s⟩) := fun h => by unfold gtX; exact if_neg h
  have hY : Hid (k = 2 → gtX names ⟨k, u, v, n, s⟩ = ⟨2, 0, names.getD n.toNat ⟨#[]⟩⟩) := fun h => by unfold gtX; exact if_pos h
  obtain ⟨xx, hxx⟩ : ∃ x, x = gtX names ⟨k, u, v, n, s⟩ := ⟨_, rfl⟩
  rw [← hxx] at hX hY ⊢
  clear hxx
  obtain ⟨Z, hZ⟩ : ∃ Z, Z = gtO (ts.map Te.xs) xx := ⟨_, rfl⟩
  rw [← hZ]
  replace hZ := hd hZ
  have k0 := K.cell 0 _ rfl
  have k1 := K.cell 1 _ rfl
  have k2 := K.cell 2 _ rfl
  have k3 := K.cell 3 _ rfl
  have k4 := K.cell 4 _ rfl
  go_enter Try.func123, Try.ntmps123
  go_wp2_with fail
  refine (iOwnGn k u v n s _).mono ?_
  rintro e w2 ⟨rfl, hb2⟩
  replace K := K.later hb2
  replace V := V.later hb2
  replace Cn := Cn.later hb2
  replace Ci := Ci.later hb2
  replace hb := old_trans hb hb2
  clear k0 k1 k2 k3 k4 hb2
  have e3 : Below w2.heap.size w2 (w2.alloc (.cells #[.int .i64 k, .int .i64 n, .string s] 104)) := old_alloc (Below.refl _ _) _
  have X := CS.made w2 _ rfl #[.int .i64 k, .int .i64 n, .string s] 104
  replace K := K.later e3
  have sp := V.2.2
  have hpi : pi ≠ w2.heap.size := Nat.ne_of_lt Ci.2.2
  replace V := V.later e3
  replace Cn := Cn.later e3
  replace Ci := Ci.later e3
  replace hb := old_trans hb e3
  go_upto_region 2 with fail
  clear e3
  generalize w2.alloc (.cells #[.int .i64 k, .int .i64 n, .string s] 104) = W3 at *
  generalize w2.heap.size = px at *
  by_cases hk : k = 2
  case pos =>
    subst hk
    obtain ⟨hn0, hn1⟩ := hv rfl
    obtain ⟨q, rfl⟩ : ∃ q : Nat, n = (q : Int) := ⟨n.toNat, by omega⟩
    have hq : q < names.length := by omega
    have hex := hY.out rfl
    rw [Int.toNat_natCast] at hex
    obtain ⟨bn, on, nm, rfl, hbn, hnm, hns, cn0⟩ := (RN.out _ hb).at hq
    rw [hnm] at hex
    rw [hex] at hZ
    have hx : Hid (Tn.fit ⟨2, 0, nm⟩) := ⟨⟨by dsimp only; omega, by dsimp only; omega⟩, ⟨by dsimp only; omega, by dsimp only; omega⟩, hns⟩
    clear hnm hns hv hX hY hex
    have lb1 := Nat.ne_of_lt hbn
    have lb2 := Nat.ne_of_gt hbn
    have k0 := K.cell 0 _ rfl
    have k3 := K.cell 3 _ rfl
    have kl := K.lt
    have c0 := Cn.1
    have x0 := X.cell 0 _ rfl
    have x1 := X.cell 1 _ rfl
    have x2 := X.cell 2 _ rfl
    have f0 := X.froz 0 (by simp)
    have f1 := X.froz 1 (by simp)
    have f2 := X.froz 2 (by simp)
    have xl := X.lt
    have hqI : (q : Int) < (names.length : Int) := by omega
    go_upto_region 4 with fail
    have X' : CS (((W3.setCell ⟨px, 0, none⟩ (.int .i64 2)).setCell ⟨px, 1, none⟩ (.int .i64 0)).setCell ⟨px, 2, none⟩ (.string nm)) px [.int .i64 2, .int .i64 0, .string nm] := ((X.stored (i := 0) (.int .i64 2) (by simp)).stored (i := 1) (.int .i64 0) (by simp)).stored (i := 2) (.string nm) (by simp)
    have e4 : Below px W3 (((W3.setCell ⟨px, 0, none⟩ (.int .i64 2)).setCell ⟨px, 1, none⟩ (.int .i64 0)).setCell ⟨px, 2, none⟩ (.string nm)) := (((Below.refl _ _).setCell (p := ⟨px, 0, none⟩) (by simp) _).setCell (p := ⟨px, 1, none⟩) (by simp) _).setCell (p := ⟨px, 2, none⟩) (by simp) _
    have V' := ((V.other0 (c := px) (by omega) 0 (.int .i64 2)).other0 (c := px) (by omega) 1 (.int .i64 0)).other0 (c := px) (by omega) 2 (.string nm)
    have hb' := hb.trans (e4.mono (by omega))
    have Ci' := ((Ci.other0 (c := px) hpi 0 (.int .i64 2)).other0 (c := px) hpi 1 (.int .i64 0)).other0 (c := px) hpi 2 (.string nm)
    clear k0 k3 kl c0 x0 x1 x2 f0 f1 f2 xl lb1 lb2 cn0 hbn K Cn X V Ci hb e4
    generalize ((W3.setCell ⟨px, 0, none⟩ (.int .i64 2)).setCell ⟨px, 1, none⟩ (.int .i64 0)).setCell ⟨px, 2, none⟩ (.string nm) = W4 at *
    have X := X'
    have V := V'
    have hb := hb'
    have Ci := Ci'
    clear X' V' hb' Ci'
    have hsW := hb.size
    have TO := hd (iTermOver (2) (0) nm hx.out a cap ts b0 W4 (hR.out _ hb) (hT.out _ hb) h2 h100.out)
    have hff := hd (TnFits.app (hflt.out) (TnFits.one hx.out))
    have Z1 := hd (gtO_yes (ts := ts) (x := ⟨2, 0, nm⟩))
    have Z2 := hd (gtO_no1 (ts := ts) (x := ⟨2, 0, nm⟩))
    have Z3 := hd (gtO_no2 (ts := ts) (x := ⟨2, 0, nm⟩))
    rw [← hZ.out] at Z1 Z2 Z3
    have hLn : (flt ts ++ [(⟨2, 0, nm⟩ : Tn)]) ≠ [] := by simp
    replace hLn := hd hLn
    generalize flt ts ++ [(⟨2, 0, nm⟩ : Tn)] = L at *
    have hsV := V.2.2
    have x0 := X.cell 0 _ rfl
    have x1 := X.cell 1 _ rfl
    have x2 := X.cell 2 _ rfl
    go_wp2_with fail
    refine TO.out.mono ?_
    rintro e w5 ⟨⟨av, cv, rfl, G⟩, hb5⟩
    replace V := V.later hb5
    replace Ci := Ci.later hb5
    replace hb := old_trans hb hb5
    have G0 := owns_mono G (show w.heap.size ≤ W4.heap.size by omega)
    have hgo : ∀ b, (Value.slice av L.length cv).ownBlock = some b → w.heap.size + 1 < b := fun b e => Nat.lt_of_lt_of_le hsV (World.ownsRow.lt G b e).1
    clear x0 x1 x2 X TO hb5 G
    have e5 : Below w5.heap.size w5 (w5.alloc (.cells #[.slice av L.length cv] 49)) := old_alloc (Below.refl _ _) _
    have M : Cl1 (w5.alloc (.cells #[.slice av L.length cv] 49)) w5.heap.size (.slice av L.length cv) := Cl1.made _ _ rfl _ _
    replace V := V.later e5
    replace Ci := Ci.later e5
    have G : TnGrows (w5.alloc (.cells #[.slice av L.length cv] 49)) w.heap.size (.slice av L.length cv) L := owns_later G0 e5
    replace hb := old_trans hb e5
    go_upto_region 5 with fail
    clear e5 G0
    generalize w5.alloc (.cells #[.slice av L.length cv] 49) = W5 at *
    generalize w5.heap.size = pm at *
    obtain ⟨v0, v1, v2⟩ := id V
    have lv1 := Nat.ne_of_lt v2
    have lv2 := Nat.ne_of_gt v2
    by_cases hlen : L.length ≤ 100
    case neg =>
      rw [decide_eq_false hlen]
      have eZ := hd (Z2.out hlen)
      clear Z1 Z2 Z3 M Ci hlen
      go_wp2
      exact bodyPost_ret (resT2 (V.set _) rfl) rfl ⟨⟨none, 0, by rw [eZ.out]; rfl, by rw [eZ.out]; exact .inl rfl⟩, hb.setCell (p := ⟨w.heap.size + 1, 0, none⟩) (by simp) _⟩
    case pos =>
      rw [decide_eq_true hlen]
      have CF := hd (iContainsNone a cap ts W5 (hR.out _ hb))
      have ci := Ci.1
      replace hlen := hd hlen
      go_wp2_with fail
      refine CF.out.mono ?_
      rintro e w6 ⟨⟨r, rfl, hr⟩, hb6⟩
      replace V := V.later hb6
      replace M := M.later hb6
      replace G : TnGrows w6 w.heap.size (.slice av L.length cv) L := owns_later G hb6
      replace hb := old_trans hb hb6
      clear v0 v1 v2 lv1 lv2 ci CF Ci hb6
      obtain ⟨v0, v1, v2⟩ := id V
      have lv1 := Nat.ne_of_lt v2
      have lv2 := Nat.ne_of_gt v2
      obtain ⟨m0, m1, m2⟩ := id M
      replace hr := hd hr
      cases r
      case true =>
        have eZ := hd (Z3.out (hr.out.1 rfl))
        clear Z1 Z2 Z3 m0 m1 m2 M hlen
        go_wp2
        exact bodyPost_ret (resT2 (V.set _) rfl) rfl ⟨⟨none, 0, by rw [eZ.out]; rfl, by rw [eZ.out]; exact .inl rfl⟩, hb.setCell (p := ⟨w.heap.size + 1, 0, none⟩) (by simp) _⟩
      case false =>
        have eZ := hd (Z1.out hlen.out (fun h => by have := hr.out.2 h; cases this))
        clear Z1 Z2 Z3 hlen
        go_wp2
        refine bodyPost_ret (resT2 (V.set _) rfl) rfl ⟨⟨av, cv, by rw [eZ.out], ?_⟩, hb.setCell (p := ⟨w.heap.size + 1, 0, none⟩) (by simp) _⟩
        rw [eZ.out]
        exact .inr ⟨hLn.out, hff.out, TnGrows.setFar G (fun b e => by have := hgo b e; omega) _⟩
  case neg =>
    have kb : (k == 2) = false := beq_eq_false_iff_ne.2 hk
    have hex := hX.out hk
    rw [hex] at hZ
    have hx : Hid (Tn.fit ⟨k, n, s⟩) := ⟨hf.1, hf.2.2.2.1, hf.2.2.2.2⟩
    clear hv hX hY hex
    have k0 := K.cell 0 _ rfl
    go_upto_region 4 with fail
    clear k0 K Cn
    generalize W3 = W4 at *
    have hsW := hb.size
    have TO := hd (iTermOver (k) (n) s hx.out a cap ts b0 W4 (hR.out _ hb) (hT.out _ hb) h2 h100.out)
    have hff := hd (TnFits.app (hflt.out) (TnFits.one hx.out))
    have Z1 := hd (gtO_yes (ts := ts) (x := ⟨k, n, s⟩))
    have Z2 := hd (gtO_no1 (ts := ts) (x := ⟨k, n, s⟩))
    have Z3 := hd (gtO_no2 (ts := ts) (x := ⟨k, n, s⟩))
    rw [← hZ.out] at Z1 Z2 Z3
    have hLn : (flt ts ++ [(⟨k, n, s⟩ : Tn)]) ≠ [] := by simp
    replace hLn := hd hLn
    generalize flt ts ++ [(⟨k, n, s⟩ : Tn)] = L at *
    have hsV := V.2.2
    have x0 := X.cell 0 _ rfl
    have x1 := X.cell 1 _ rfl
    have x2 := X.cell 2 _ rfl
    go_wp2_with fail
    refine TO.out.mono ?_
    rintro e w5 ⟨⟨av, cv, rfl, G⟩, hb5⟩
    replace V := V.later hb5
    replace Ci := Ci.later hb5
    replace hb := old_trans hb hb5
    have G0 := owns_mono G (show w.heap.size ≤ W4.heap.size by omega)
    have hgo : ∀ b, (Value.slice av L.length cv).ownBlock = some b → w.heap.size + 1 < b := fun b e => Nat.lt_of_lt_of_le hsV (World.ownsRow.lt G b e).1
    clear x0 x1 x2 X TO hb5 G
    have e5 : Below w5.heap.size w5 (w5.alloc (.cells #[.slice av L.length cv] 49)) := old_alloc (Below.refl _ _) _
    have M : Cl1 (w5.alloc (.cells #[.slice av L.length cv] 49)) w5.heap.size (.slice av L.length cv) := Cl1.made _ _ rfl _ _
    replace V := V.later e5
    replace Ci := Ci.later e5
    have G : TnGrows (w5.alloc (.cells #[.slice av L.length cv] 49)) w.heap.size (.slice av L.length cv) L := owns_later G0 e5
    replace hb := old_trans hb e5
    go_upto_region 5 with fail
    clear e5 G0
    generalize w5.alloc (.cells #[.slice av L.length cv] 49) = W5 at *
    generalize w5.heap.size = pm at *
    obtain ⟨v0, v1, v2⟩ := id V
    have lv1 := Nat.ne_of_lt v2
    have lv2 := Nat.ne_of_gt v2
    by_cases hlen : L.length ≤ 100
    case neg =>
      rw [decide_eq_false hlen]
      have eZ := hd (Z2.out hlen)
      clear Z1 Z2 Z3 M Ci hlen
      go_wp2
      exact bodyPost_ret (resT2 (V.set _) rfl) rfl ⟨⟨none, 0, by rw [eZ.out]; rfl, by rw [eZ.out]; exact .inl rfl⟩, hb.setCell (p := ⟨w.heap.size + 1, 0, none⟩) (by simp) _⟩
    case pos =>
      rw [decide_eq_true hlen]
      have CF := hd (iContainsNone a cap ts W5 (hR.out _ hb))
      have ci := Ci.1
      replace hlen := hd hlen
      go_wp2_with fail
      refine CF.out.mono ?_
      rintro e w6 ⟨⟨r, rfl, hr⟩, hb6⟩
      replace V := V.later hb6
      replace M := M.later hb6
      replace G : TnGrows w6 w.heap.size (.slice av L.length cv) L := owns_later G hb6
      replace hb := old_trans hb hb6
      clear v0 v1 v2 lv1 lv2 ci CF Ci hb6
      obtain ⟨v0, v1, v2⟩ := id V
      have lv1 := Nat.ne_of_lt v2
      have lv2 := Nat.ne_of_gt v2
      obtain ⟨m0, m1, m2⟩ := id M
      replace hr := hd hr
      cases r
      case true =>
        have eZ := hd (Z3.out (hr.out.1 rfl))
        clear Z1 Z2 Z3 m0 m1 m2 M hlen
        go_wp2
        exact bodyPost_ret (resT2 (V.set _) rfl) rfl ⟨⟨none, 0, by rw [eZ.out]; rfl, by rw [eZ.out]; exact .inl rfl⟩, hb.setCell (p := ⟨w.heap.size + 1, 0, none⟩) (by simp) _⟩
      case false =>
        have eZ := hd (Z1.out hlen.out (fun h => by have := hr.out.2 h; cases this))
        clear Z1 Z2 Z3 hlen
        go_wp2
        refine bodyPost_ret (resT2 (V.set _) rfl) rfl ⟨⟨av, cv, by rw [eZ.out], ?_⟩, hb.setCell (p := ⟨w.heap.size + 1, 0, none⟩) (by simp) _⟩
        rw [eZ.out]
        exact .inr ⟨hLn.out, hff.out, TnGrows.setFar G (fun b e => by have := hgo b e; omega) _⟩
end Go.Proofs.Ytmpckbgelkfgpaa
