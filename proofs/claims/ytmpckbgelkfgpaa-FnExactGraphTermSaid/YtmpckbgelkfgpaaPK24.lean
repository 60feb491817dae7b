/- The parts of a node of a graph, which terms are nothing, and a node over its parts, by the program. Nothing that was there is written. No condition but that what is named is there, and that there are two parts at most, each of 100 nodes at most. -/
import Derived.Test.YtmpckbgelkfgpaaPK17
import Derived.Test.YtmpckbgelkfgpaaPK23
import Derived.Deep.DeepCutAuto
import Derived.Deep.AppendLies
import Derived.Deep.RegionLaw
import Derived.Deep.RegionHeld3
import Derived.Test.YtmpckbgelkfgpaaPK13
import Derived.Laws.AppendOwnNone
import Derived.Test.YtmpckbgelkfgpaaPK22
import Derived.Deep.RegionWith
namespace Go.Proofs.Ytmpckbgelkfgpaa
open Go.RowKit
set_option linter.unusedVariables false
set_option maxRecDepth 100000

theorem name_nil : nameB ⟨#[]⟩ = false := name_bad (plain_len (.inl (by decide)))
theorem ac2_nil (n : Int) : ac ⟨2, n, ⟨#[]⟩⟩ = -1 := by
  by_cases h : n = 0
  · subst h; exact ac2_f name_nil
  · exact ac2_n h
set_option maxHeartbeats 4000000 in
theorem iPart2N (n : Int) (w : World) : Calls Try.prog 102 #[.agg #[.int .i64 2, .int .i64 n, .string ⟨#[]⟩]] w fun e w' => e = .returned (.tuple #[.int .i64 0, .bool false]) ∧ Below w.heap.size w w' := by
  by_cases h0 : n = 0
  · subst h0
    have P := hd (iNameOk ⟨#[]⟩)
    have hBB : Below w.heap.size w (w.alloc (.cells #[.int .i64 2, .int .i64 0, .string ⟨#[]⟩] 104)) := old_alloc (Below.refl _ _) _
    rw [name_nil] at P
    go_enter Try.func102, Try.ntmps102
    go_wp2_with fail
    refine (P.out _).mono ?_
    rintro e w1 ⟨rfl, hb1⟩
    have hB := old_trans hBB hb1
    have n1 := (CS.made w _ rfl #[.int .i64 2, .int .i64 0, .string ⟨#[]⟩] 104).later hb1
    have m0 := n1.cell 0 _ rfl
    have m1 := n1.cell 1 _ rfl
    have m2 := n1.cell 2 _ rfl
    clear n1 hb1 hBB P
    go_wp2
    all_goals go_ret2
    all_goals exact ⟨rfl, (by repeat (first | with_reducible exact hB | with_reducible exact Below.refl _ _ | with_reducible refine Below.drew ?_ | ((with_reducible refine Below.setCell ?_ ?_ _); rotate_left; (focus (first | (simp; done) | omega | (simp; omega)))) | with_reducible refine old_alloc ?_ _ | with_reducible refine old_trans ?_ (by with_reducible assumption)))⟩
  · have h0' : (n == 0) = false := by simp; exact h0
    have hB := Below.refl w.heap.size w
    go_enter Try.func102, Try.ntmps102
    go_wp2
    all_goals go_ret2
    all_goals exact ⟨rfl, (by repeat (first | with_reducible exact hB | with_reducible exact Below.refl _ _ | with_reducible refine Below.drew ?_ | ((with_reducible refine Below.setCell ?_ ?_ _); rotate_left; (focus (first | (simp; done) | omega | (simp; omega)))) | with_reducible refine old_alloc ?_ _ | with_reducible refine old_trans ?_ (by with_reducible assumption)))⟩
/-- how many parts a node of a graph that is one has -/
def gCnt (k n : Int) (s : ByteArray) (c : Nat) : Prop := (k = 2 ∧ s = ⟨#[]⟩ ∧ c = 0) ∨ (k ≠ 2 ∧ ac ⟨k, n, s⟩ = c)
theorem iCount (k n : Int) (s : ByteArray) (c : Nat) (h : gCnt k n s c) (w : World) : Calls Try.prog 102 #[.agg #[.int .i64 k, .int .i64 n, .string s]] w fun e w' => e = .returned (.tuple #[.int .i64 c, .bool (decide (0 ≤ ac ⟨k, n, s⟩))]) ∧ Below w.heap.size w w' := by
  rcases h with ⟨rfl, rfl, rfl⟩ | ⟨h1, h2⟩
  · rw [ac2_nil]
    exact iPart2N n w
  · refine (iPart k n s w).mono ?_
    rintro e w' ⟨⟨d, rfl, hd⟩, hb⟩
    rw [hd (by omega), h2]
    exact ⟨rfl, hb⟩
set_option maxHeartbeats 2000000 in
theorem iPartsGn (k u v n : Int) (s : ByteArray) (c : Nat) (hc : gCnt k n s c) (hc2 : c ≤ 2) (hu : -9223372036854775808 ≤ u ∧ u ≤ 9223372036854775807) (hv : -9223372036854775808 ≤ v ∧ v ≤ 9223372036854775807) (w : World) :
    Calls Try.prog 143 #[.agg #[.int .i64 k, .int .i64 u, .int .i64 v, .int .i64 n, .string s]] w fun e w' => (∃ b, e = .returned (.slice (some ⟨b, 0, none⟩) c 2) ∧ w'.cell? ⟨b, 0, none⟩ = some (.int .i64 u) ∧ w'.cell? ⟨b, 1, none⟩ = some (.int .i64 v) ∧ b < w'.heap.size) ∧ Below w.heap.size w w' := by
  have K := CS.made w _ rfl #[.int .i64 k, .int .i64 u, .int .i64 v, .int .i64 n, .string s] 149
  have hB0 := old_alloc (Below.refl w.heap.size w) (.cells #[.int .i64 k, .int .i64 u, .int .i64 v, .int .i64 n, .string s] 149)
  have C := hd (fun W => iCount k n s c hc W)
  generalize decide (0 ≤ ac ⟨k, n, s⟩) = ok at *
  have hcI : (c : Int) ≤ 2 := by omega
  have hcJ : (0 : Int) ≤ (c : Int) := by omega
  clear hc hc2
  have m0 := K.cell 0 _ rfl
  have m1 := K.cell 1 _ rfl
  have m2 := K.cell 2 _ rfl
  have m3 := K.cell 3 _ rfl
  have m4 := K.cell 4 _ rfl
  go_enter Try.func143, Try.ntmps143
  go_wp2_with fail
  refine (iOwnGn k u v n s _).mono ?_
  rintro e w1 ⟨rfl, hb1⟩
  replace K := K.later hb1
  replace hB0 := old_trans hB0 hb1
  clear m0 m1 m2 m3 m4 hb1
  go_wp2_with fail
  refine (C.out _).mono ?_
  rintro e w2 ⟨rfl, hb2⟩
  replace K := K.later hb2
  replace hB0 := old_trans hB0 hb2
  clear hb2 C
  have m1 := K.cell 1 _ rfl
  have m2 := K.cell 2 _ rfl
  go_wp2
  go_ret
  exact ⟨⟨_, rfl, by simp, by simp, by simp⟩, old_alloc hB0 _⟩
set_option maxHeartbeats 1000000 in
theorem iNone (a : Option Addr) (len cap : Nat) (w : World) :
    Calls Try.prog 120 #[.agg #[.slice a len cap]] w fun e w' => BoolIs e (len = 0) ∧ Below w.heap.size w w' := by
  by_cases h : len = 0
  · subst h
    go_enter Try.func120, Try.ntmps120
    go_wp2
    go_ret
    exact ⟨BoolIs.yes (by first | rfl | trivial) (by first | rfl | simp), (by repeat (first | exact Below.refl _ _ | refine Below.drew ?_ | refine old_alloc ?_ _ | refine old_trans ?_ (by assumption)))⟩
  · have q : ((len : Int) == 0) = false := beq_eq_false_iff_ne.2 (by omega)
    go_enter Try.func120, Try.ntmps120
    go_wp2
    go_ret
    exact ⟨BoolIs.no h (by first | rfl | simpa using h), (by repeat (first | exact Below.refl _ _ | refine Below.drew ?_ | refine old_alloc ?_ _ | refine old_trans ?_ (by assumption)))⟩
set_option maxHeartbeats 2000000 in
theorem iIndexNone (a : Option Addr) (cap : Nat) (ts : List Te) (w : World) (hR : InTs w a ts.length cap ts) :
    Calls Try.prog 103 #[.slice a ts.length cap, .func (.func 120) #[] #[]] w fun e w' => IntIs e (∃ i, i < ts.length ∧ (ts.getD i te0).xs = []) ∧ Below w.heap.size w w' := by
  have htl : ts.length ≤ 9223372036854775807 := by have := Nat.le_trans hR.2.1 hR.2.2.1; unfold maxLen at this; omega
  go_enter Try.func103, Try.ntmps103
  go_wp2
  go_loopw [8] (fun i wr => ∃ j : Nat, j ≤ ts.length ∧ i = .int .i64 (j : Int) ∧ Hid (∀ q, q < j → ¬ (ts.getD q te0).xs = []) ∧ Below w.heap.size w wr) (fun b _ => ts.length - (intOf b).toNat)
  case atStart => exact ⟨0, by omega, rfl, fun q h => by omega, (by repeat (first | exact Below.refl _ _ | refine Below.drew ?_ | refine old_alloc ?_ _ | refine old_trans ?_ (by assumption)))⟩
  case round =>
    obtain ⟨j, hk, rfl, hne, hb⟩ := hrel
    by_cases hlt : j < ts.length
    · obtain ⟨bl, off, t, rfl, hbl, hx, hf, c0⟩ := (hR.old hb).at hlt
      have H := hd (iNone t.a t.xs.length t.c wr)
      have one : Hid (t.xs.length = 0 ↔ (ts.getD j te0).xs = []) := by show _ ↔ _; rw [hx]; exact List.length_eq_zero_iff
      clear hx hf
      go_wp2_with fail
      refine H.out.mono ?_
      rintro e w1 ⟨⟨b, rfl, hb1⟩, hb2⟩
      replace hb1 := hd hb1
      have hb' := old_trans hb hb2
      cases b
      case true =>
        have yes := hd (one.out.1 (hb1.out.1 rfl))
        have j0 : (0 : Int) ≤ (j : Int) := by omega
        go_wp2
        go_ret
        exact ⟨IntIs.mk ⟨fun _ => ⟨j, hlt, yes.out⟩, fun _ => by omega⟩, hb'⟩
      case false =>
        have no : Hid (¬ (ts.getD j te0).xs = []) := fun q => by have := hb1.out.2 (one.out.2 q); cases this
        go_wp2
        go_roundw
        case rel => exact ⟨j + 1, by omega, by go_num, fun q hq => by
          by_cases e : q = j
          · rw [e]; exact no.out
          · exact hne.out q (by omega), hb'⟩
        case measure => simp [intOf]; omega
    · obtain rfl : j = ts.length := by omega
      go_wp2
      go_ret
      exact ⟨IntIs.mk ⟨fun h => by omega, fun ⟨i, h1, h2⟩ => absurd h2 (hne.out i h1)⟩, hb⟩
set_option maxHeartbeats 1000000 in
theorem iContainsNone (a : Option Addr) (cap : Nat) (ts : List Te) (w : World) (hR : InTs w a ts.length cap ts) :
    Calls Try.prog 65 #[.slice a ts.length cap, .func (.func 120) #[] #[]] w fun e w' => BoolIs e (∃ i, i < ts.length ∧ (ts.getD i te0).xs = []) ∧ Below w.heap.size w w' := by
  have H := hd (iIndexNone a cap ts w hR)
  clear hR
  go_enter Try.func65, Try.ntmps65
  go_wp2_with fail
  refine H.out.mono ?_
  rintro e w1 ⟨⟨z, rfl, hz⟩, hb⟩
  replace hz := hd hz
  go_wp2
  go_ret
  exact ⟨BoolIs.mk (by have := hz.out; simpa using this), hb⟩
end Go.Proofs.Ytmpckbgelkfgpaa

/- A node over its parts, by the program: in new memory, nothing that was there is written. Conditions: at most two parts, each of 100 nodes at most, all of them there. -/
namespace Go.Proofs.Ytmpckbgelkfgpaa
open Go.RowKit
set_option linter.unusedVariables false
set_option maxRecDepth 100000

theorem resTOv {W : World} {b : Nat} {v r : Value} {tmps : Array Value} (h : Cl1 W b v) (ht : tmps[4]? = some (.pointer (some ⟨b, 0, none⟩))) (h3 : tmps[5]? = some r) : (results Try.f125 tmps).run Try.prog W = .ok (.tuple #[.agg #[v], r]) W := by
  simp [results, Try.results125, go_sem, h.1, ht, h3]
set_option maxRecDepth 100000 in
set_option maxHeartbeats 16000000 in
theorem iTermOver (x y : Int) (s : ByteArray) (hf : Tn.fit ⟨x, y, s⟩) (a : Option Addr) (cap : Nat) (ts : List Te) (b0 : Nat) (w : World) (hR : InTs w a ts.length cap ts) (hT : ∀ i, i < ts.length → TT w b0 (ts.getD i te0)) (h2 : ts.length ≤ 2) (h100 : ∀ i, i < ts.length → (ts.getD i te0).xs.length ≤ 100) :
    Calls Try.prog 125 #[.agg #[.int .i64 x, .int .i64 y, .string s], .slice a ts.length cap] w fun e w' => (∃ av cv, e = .returned (.tuple #[.agg #[.slice av (flt ts ++ [(⟨x, y, s⟩ : Tn)]).length cv], .bool (decide ((flt ts ++ [(⟨x, y, s⟩ : Tn)]).length ≤ 100))]) ∧ TnGrows w' w.heap.size (.slice av (flt ts ++ [(⟨x, y, s⟩ : Tn)]).length cv) (flt ts ++ [(⟨x, y, s⟩ : Tn)])) ∧ Below w.heap.size w w' := by
  have htl : ts.length ≤ 9223372036854775807 := by omega
  replace h100 := hd h100
  replace hf := hd hf
  obtain ⟨i0, hi, hz0, hz1, hz2⟩ := info_parts infoNode
  obtain ⟨p, hp⟩ : ∃ p, w.heap.size = p := ⟨_, rfl⟩
  have K : CS (((w.alloc (.cells #[.int .i64 x, .int .i64 y, .string s] 104)).alloc (.cells #[.slice none 0 0] 49)).alloc (.cells #[.slice none 0 0] 49)) p [.int .i64 x, .int .i64 y, .string s] := by
    subst hp; exact ((CS.made w _ rfl #[_, _, _] _).alloc _).alloc _
  have V : Cl1 (((w.alloc (.cells #[.int .i64 x, .int .i64 y, .string s] 104)).alloc (.cells #[.slice none 0 0] 49)).alloc (.cells #[.slice none 0 0] 49)) (p + 1) (.slice none 0 0) := (Cl1.made _ _ (by simp [hp]) _ _).alloc _
  have O : Cl1 (((w.alloc (.cells #[.int .i64 x, .int .i64 y, .string s] 104)).alloc (.cells #[.slice none 0 0] 49)).alloc (.cells #[.slice none 0 0] 49)) (p + 1 + 1) (.slice none 0 0) := Cl1.made _ _ (by simp [hp]) _ _
  have G := TnGrows.nil (((w.alloc (.cells #[.int .i64 x, .int .i64 y, .string s] 104)).alloc (.cells #[.slice none 0 0] 49)).alloc (.cells #[.slice none 0 0] 49)) (p + 3)
  have hb : Below p w (((w.alloc (.cells #[.int .i64 x, .int .i64 y, .string s] 104)).alloc (.cells #[.slice none 0 0] 49)).alloc (.cells #[.slice none 0 0] 49)) := by subst hp; exact (by repeat (first | exact Below.refl _ _ | refine Below.drew ?_ | refine old_alloc ?_ _ | refine old_trans ?_ (by assumption)))
  have hs : p + 3 ≤ (((w.alloc (.cells #[.int .i64 x, .int .i64 y, .string s] 104)).alloc (.cells #[.slice none 0 0] 49)).alloc (.cells #[.slice none 0 0] 49)).heap.size := by simp [hp]
  have hR' := hd (fun W (h : Below p w W) => hR.old (w' := W) (by subst hp; exact h))
  have hT' := hd (fun W (h : Below p w W) i hi => (hT i hi).old (w' := W) (by subst hp; exact h))
  clear hR hT
  go_enter Try.func125, Try.ntmps125
  go_upto_region 2 with fail
  generalize (((w.alloc (.cells #[.int .i64 x, .int .i64 y, .string s] 104)).alloc (.cells #[.slice none 0 0] 49)).alloc (.cells #[.slice none 0 0] 49)) = W0 at *
  replace hp := hd hp
  go_wp2_with fail
  go_loopw [11] (fun i wr => ∃ (j : Nat) (av : Option Addr) (cv : Nat) (L : List Tn), j ≤ ts.length ∧ i = .int .i64 (j : Int) ∧ Hid (flt (ts.take j) = L) ∧ L.length ≤ 100 * j ∧ TnGrows wr (p + 3) (.slice av L.length cv) L ∧ Cl1 wr (p + 1 + 1) (.slice av L.length cv) ∧ CS wr p [.int .i64 x, .int .i64 y, .string s] ∧ Cl1 wr (p + 1) (.slice none 0 0) ∧ p + 3 ≤ wr.heap.size ∧ Below p w wr) (fun b _ => ts.length - (intOf b).toNat)
  case atStart => exact ⟨0, none, 0, [], by omega, rfl, rfl, by simp, G, O, K, V, hs, hb⟩
  case round =>
    clear hb K V O G
    obtain ⟨j, av, cv, L, hj, rfl, eL, hL, G, O, K, V, hs, hb⟩ := hrel
    by_cases hlt : j < ts.length
    · obtain ⟨bl, off, t, ea, hbl, hx, hft, c0⟩ := (hR'.out _ hb).at hlt
      have hTj := hT'.out _ hb j hlt
      have h1 := h100.out j hlt
      have hnx := hd (flt_next hlt)
      rw [hx] at hTj h1
      rw [hx, eL.out] at hnx
      replace hx := hd hx
      have lb1 := Nat.ne_of_lt hbl
      have lb2 := Nat.ne_of_gt hbl
      have hji : (j : Int) < (ts.length : Int) := by omega
      have e5 : Below wr.heap.size wr (wr.alloc (.cells #[.slice t.a t.xs.length t.c] 49)) := (by repeat (first | exact Below.refl _ _ | refine Below.drew ?_ | refine old_alloc ?_ _ | refine old_trans ?_ (by assumption)))
      have M : Cl1 (wr.alloc (.cells #[.slice t.a t.xs.length t.c] 49)) wr.heap.size (.slice t.a t.xs.length t.c) := Cl1.made _ _ rfl _ _
      replace G := G.later e5
      replace O := O.later e5
      replace K := K.later e5
      replace V := V.later e5
      replace hft := hft.old e5
      replace hb := hb.trans (e5.mono (by omega))
      subst ea
      go_upto_region 5 with fail
      have hs5 := e5.size
      have hmp : p + 3 ≤ wr.heap.size := hs
      generalize wr.alloc (.cells #[.slice t.a t.xs.length t.c] 49) = W5 at *
      generalize wr.heap.size = pm at *
      obtain ⟨O0, O1, O2⟩ := id O
      have lO1 := Nat.ne_of_lt O2
      have lO2 := Nat.ne_of_gt O2
      obtain ⟨M0, M1, M2⟩ := id M
      have hsz : p + 3 ≤ W5.heap.size := by omega
      clear hbl c0 lb1 lb2 e5 hs5
      rcases hTj with rfl | ⟨hne, hTf, hTg⟩
      · have eL2 : Hid (flt (ts.take (j + 1)) = L) := by show _ = _; rw [hnx.out]; simp [te0]
        simp only [te0, List.length_nil] at M0
        go_wp2_with (at_builtin; refine wpList_append_own_none rfl _ _ 47 rfl (p + 3) 104 i0 3 Try.underlying47 hi _ _ _ rfl G rfl ?_)
        go_roundw
        case rel => exact ⟨j + 1, av, cv, L, by omega, by go_num, eL2.out, by omega, G.set (by omega) _, O.set _, (by first | exact K.far (by omega) _ | exact K.far (c := p + 1 + 1) (i := 0) (by omega) _), V.other (by omega) _, by simp [World.setCell]; omega, hb.setCell (p := ⟨p + 1 + 1, 0, none⟩) (by simp; omega) _⟩
        case measure => simp [intOf]; omega
      · have h0 : 0 < t.xs.length := List.length_pos_iff.2 hne
        obtain ⟨bz, oz, ez, hbz, news⟩ := InN.news hft h0
        rw [ez] at M0
        have eL2 : Hid (flt (ts.take (j + 1)) = L ++ t.xs) := hnx.out
        clear hnx hft hTg hTf
        go_wp2_with (first | (at_builtin; refine wpList_append_lies _ rfl _ _ 47 rfl (p + 3) 104 i0 _ 3 32 Try.underlying47 hi hz0 hz1 hz2 rfl (by decide) _ _ _ rfl G ⟨bz, oz, none⟩ t.xs.length t.c (tnvs t.xs) rfl (tnvs_len t.xs) news (tnvs_one t.xs) h0 (by unfold maxLen; omega) (by omega) hsz _ rfl ?_; intro g' cap' w5 hown hgrow hat hlt5; have O5 := O.kept hgrow (G.far (by omega)); have o5 := O5.1; have f5 := O5.2.1; have l5 := O5.2.2))
        have G5 : TnGrows w5 (p + 3) (.slice (some ⟨g', 0, none⟩) (L.length + t.xs.length) cap') (L ++ t.xs) := by
          unfold TnGrows
          rw [tnvs_app, List.length_append]
          exact hown
        have K5 := K.keptTn hgrow (G.far (by omega))
        have V5 := V.kept hgrow (G.far (by omega))
        have B5 := hb.grown hgrow (by omega) (fun c e => by have := (World.ownsRow.lt G c e).1; omega)
        have S5 := hgrow.size
        have hl5 : (L ++ t.xs).length = L.length + t.xs.length := List.length_append
        go_roundw
        case rel => exact ⟨j + 1, _, _, _, by omega, by go_num, eL2.out, by rw [hl5]; omega, by rw [hl5]; exact G5.set (by omega) _, by rw [hl5]; exact O5.set _, (by first | exact K5.far (by omega) _ | exact K5.far (c := p + 1 + 1) (i := 0) (by omega) _), V5.other (by omega) _, by simp [World.setCell]; omega, B5.setCell (p := ⟨p + 1 + 1, 0, none⟩) (by simp; omega) _⟩
        case measure => simp [intOf]; omega
    · obtain rfl : j = ts.length := by omega
      have eL2 := eL.out
      rw [flt_all] at eL2
      subst eL2
      have hni : ¬ ((ts.length : Int) < (ts.length : Int)) := by omega
      obtain ⟨O0, O1, O2⟩ := id O
      have lO1 := Nat.ne_of_lt O2
      have lO2 := Nat.ne_of_gt O2
      obtain ⟨V0, V1, V2⟩ := id V
      have lV1 := Nat.ne_of_lt V2
      have lV2 := Nat.ne_of_gt V2
      have k0 := K.cell 0 _ rfl
      have k1 := K.cell 1 _ rfl
      have k2 := K.cell 2 _ rfl
      have kl := K.lt
      have eX : Below wr.heap.size wr (wr.alloc (.cells #[.int .i64 x, .int .i64 y, .string s] 104)) := (by repeat (first | exact Below.refl _ _ | refine Below.drew ?_ | refine old_alloc ?_ _ | refine old_trans ?_ (by assumption)))
      have GA := G.later eX
      have OA := O.later eX
      have VA := V.later eX
      have hbA := hb.trans (eX.mono (by omega))
      have cw : ∀ i z, [Value.int IntKind.i64 x, Value.int IntKind.i64 y, Value.string s][i]? = some z → (wr.alloc (.cells #[.int .i64 x, .int .i64 y, .string s] 104)).cell? ((⟨wr.heap.size, 0, none⟩ : Addr).add i) = some z := cells_three wr wr.heap.size rfl _ _ _ _
      have hsA : p + 3 ≤ (wr.alloc (.cells #[.int .i64 x, .int .i64 y, .string s] 104)).heap.size := by simp; omega
      have hff : TnFits (flt ts) := fun z hz => by
        obtain ⟨l, hl, hzl⟩ := List.mem_flatten.1 hz
        obtain ⟨t, ht, rfl⟩ := List.mem_map.1 hl
        exact ((hR'.out _ hb).2.2.2.1 t ht).2.2.2.1 z hzl
      replace hff := hd hff
      clear eX
      go_wp2_with (first | (at_builtin; refine wpList_append_lies _ rfl _ _ 47 rfl (p + 3) 104 i0 _ 3 32 Try.underlying47 hi hz0 hz1 hz2 rfl (by decide) _ _ _ (by rfl) GA ⟨wr.heap.size, 0, none⟩ 1 1 [.int .i64 x, .int .i64 y, .string s] rfl rfl cw (by simp [Value.oneCell']) (by decide) (by unfold maxLen; omega) (by omega) hsA _ rfl ?_; intro g' cap' w5 hown hgrow hat hlt5; have O5 := OA.kept hgrow (GA.far (by omega)); have o5 := O5.1; have f5 := O5.2.1; have l5 := O5.2.2))
      have hln : (flt ts ++ [(⟨x, y, s⟩ : Tn)]).length = (flt ts).length + 1 := by simp
      have G5 : TnGrows w5 (p + 3) (.slice (some ⟨g', 0, none⟩) ((flt ts).length + 1) cap') (flt ts ++ [⟨x, y, s⟩]) := by
        unfold TnGrows
        rw [tnvs_snoc, List.length_append]
        exact hown
      have V5 := VA.kept hgrow (GA.far (by omega))
      have B5 := hbA.grown hgrow (by omega) (fun c e => by have := (World.ownsRow.lt GA c e).1; omega)
      have O6 := O5.set (.slice (some ⟨g', 0, none⟩) ((flt ts).length + 1) cap')
      have G6 := G5.set (b := p + 1 + 1) (by omega) (.slice (some ⟨g', 0, none⟩) ((flt ts).length + 1) cap')
      have V6 := V5.other (c := p + 1 + 1) (by omega) (.slice (some ⟨g', 0, none⟩) ((flt ts).length + 1) cap')
      have B6 := B5.setCell (p := ⟨p + 1 + 1, 0, none⟩) (by simp; omega) (.slice (some ⟨g', 0, none⟩) ((flt ts).length + 1) cap')
      generalize w5.setCell ⟨p + 1 + 1, 0, none⟩ (.slice (some ⟨g', 0, none⟩) ((flt ts).length + 1) cap') = w6 at *
      have dec : Hid (decide ((flt ts ++ [(⟨x, y, s⟩ : Tn)]).length ≤ 100) = decide (((flt ts).length : Int) + 1 ≤ 100)) := by
        show _ = _
        rw [hln]
        exact decide_eq_decide.2 (by omega)
      have o60 := O6.1
      have v60 := V6.1
      have v61 := V6.2.1
      have v62 := V6.2.2
      have o62 := O6.2.2
      clear O5 o5 f5 l5 OA VA GA V5 G5 B5 hbA hgrow hown hat cw
      go_region
      all_goals
        go_wp2
        refine bodyPost_ret (resTOv (r := .bool (decide (((flt ts).length : Int) + 1 ≤ 100))) ((V6.set _).drew) rfl rfl) rfl ⟨⟨some ⟨g', 0, none⟩, cap', by rw [dec.out, hln], ?_⟩, ?_⟩
        · rw [hln, hp.out]
          exact owns_mono ((G6.set (b := p + 1) (by omega) _).drew) (by omega)
        · rw [hp.out]
          exact Below.drew (B6.setCell (p := ⟨p + 1, 0, none⟩) (by simp) _)
end Go.Proofs.Ytmpckbgelkfgpaa

/- Names that are names, no two alike, and the term of a node of a graph, by the specification. Nothing that was there is written but the list that is handed on. Condition: graphs of 120 nodes at most. -/
namespace Go.Proofs.Ytmpckbgelkfgpaa
open Go.RowKit
set_option linter.unusedVariables false
set_option maxRecDepth 100000

theorem grown_then {w W W' : World} {o o' : Option Nat} (h : w.grownBy W o) (g : W.grownBy W' o') (hs : ∀ k, o' = some k → o = some k ∨ w.heap.size ≤ k) : w.grownBy W' o :=
  ⟨g.os.trans h.os, g.tape.trans h.tape, g.output.trans h.output, Nat.le_trans h.size g.size, fun k hk hne => (g.block k (Nat.lt_of_lt_of_le hk h.size) (fun e => (hs k e.symm).elim (fun e2 => hne e2.symm) (fun e2 => by omega))).trans (h.block k hk hne)⟩
theorem grown_low {w W W' : World} {o : Option Nat} (h : w.grownBy W o) (g : Below w.heap.size W W') : w.grownBy W' o :=
  ⟨g.os.trans h.os, g.tape.trans h.tape, g.output.trans h.output, Nat.le_trans h.size g.size, fun k hk hne => (g.block k hk).trans (h.block k hk hne)⟩
theorem TnGrows.setFar {w : World} {base p : Nat} {v : Value} {ps : List Tn} (h : TnGrows w base v ps) (hn : ∀ b, v.ownBlock = some b → b ≠ p) (u : Value) : TnGrows (w.setCell ⟨p, 0, none⟩ u) base v ps := by
  refine World.ownsRow.kept h (grown_cell w p u) ?_
  cases hv : v.ownBlock with
  | none => exact .inl rfl
  | some k => exact .inr (fun e => hn k hv (by injection e))
theorem ne_own {o : Option Nat} {n p : Nat} (h : ∀ b, o = some b → b < n) (hp : n ≤ p) : some p ≠ o := fun e => by have := h p e.symm; omega
theorem own_is {g n c b : Nat} (h : (Value.slice (some ⟨g, 0, none⟩) n c).ownBlock = some b) : g = b := by simpa [Value.ownBlock] using h
/-- what going down from a node leaves -/
structure Down (w w' : World) (base : Nat) (o : Option Nat) (z t : List Tn) (at' : Nat) (av : Option Addr) (cv : Nat) (R : List Tn) : Prop where
  g : TnGrows w' base (.slice av R.length cv) R
  p : sPost z t R
  le : R.length ≤ 102 + at' ∨ R.length ≤ t.length
  f : TnFits R
  own : ∀ b, (Value.slice av R.length cv).ownBlock = some b → o = some b ∨ w.heap.size ≤ b
  fr : w.grownBy w' o
theorem resL15 {W : World} {b : Nat} {v : Value} {tmps : Array Value} (h : Cl1 W b v) (ht : tmps[8]? = some (.pointer (some ⟨b, 0, none⟩))) : (results Try.f75 tmps).run Try.prog W = .ok (.agg #[v]) W := by
  simp [results, Try.results75, go_sem, h.1, ht]
set_option maxRecDepth 100000 in
set_option maxHeartbeats 16000000 in
theorem sTerm15 (vs : Int) (a : Option Addr) (len cap : Nat) (xs : List Gn) (a' : Option Addr) (len' cap' : Nat) (an : Option Addr) (cn : Nat) (names : List ByteArray) (w0 : World) (R0 : InGn w0 a len cap xs) (RN0 : InT w0 an names.length cn names) (hl : len ≤ 120) (hO : gOrd names.length xs) :
    ∀ (m i : Nat), i < m → i < len → ∀ (av : Option Addr) (cv : Nat) (t : List Tn) (w : World), Below w0.heap.size w0 w → TnGrows w w0.heap.size (.slice av t.length cv) t → t.length ≤ 300 → TnFits t →
    Calls Try.prog 75 #[.agg #[.int .i64 vs, .slice a len cap, .slice a' len' cap'], .int .i64 (i : Int), .slice an names.length cn, .agg #[.slice av t.length cv]] w fun e w' => ∃ av' cv' R, e = .returned (.agg #[.slice av' (List.length R) cv']) ∧ Down w w' w0.heap.size (Value.slice av t.length cv).ownBlock (trm names xs i) t i av' cv' R := by
  intro m
  induction m with
  | zero => intro i hi; omega
  | succ m ih =>
  intro i him hil av cv t w hb0 G ht hft
  obtain ⟨pw, hpw⟩ : ∃ pw, w.heap.size = pw := ⟨_, rfl⟩
  have hs0 := hb0.size
  have e3 : Below w.heap.size w (((w.alloc (.cells #[.int .i64 vs, .slice a len cap, .slice a' len' cap'] 71)).alloc (.cells #[.slice av t.length cv] 49)).alloc (.cells #[.slice none 0 0] 49)) := (by repeat (first | exact Below.refl _ _ | refine Below.drew ?_ | refine old_alloc ?_ _ | refine old_trans ?_ (by assumption)))
  obtain ⟨bl, off, k, u, v, n, s, rfl, hbl, hx, hf, c0, c1, c2, c3, c4⟩ := (R0.old (hb0.trans (e3.mono hs0))).at hil
  clear e3
  have hn := R0.1
  have ho := hO i (by omega)
  have T1v := trm_var (names := names) (xs := xs) (i := i)
  have T1z := trm_zero (names := names) (xs := xs) (i := i)
  have T1o := trm_one (names := names) (xs := xs) (i := i)
  have T1t := trm_two (names := names) (xs := xs) (i := i)
  rw [hx] at ho T1v T1z T1o T1t
  dsimp only at ho T1v T1z T1o T1t
  have heI : (0 : Int) ≤ (i : Int) := by omega
  have heJ : (i : Int) < (len : Int) := by omega
  have hown : ∀ b, (Value.slice av t.length cv).ownBlock = some b → b < w.heap.size := fun b e => (World.ownsRow.lt G b e).2
  have hoge : ∀ b, (Value.slice av t.length cv).ownBlock = some b → w0.heap.size ≤ b := fun b e => (World.ownsRow.lt G b e).1
  obtain ⟨o0, ho0⟩ : ∃ o0, o0 = (Value.slice av t.length cv).ownBlock := ⟨_, rfl⟩
  rw [← ho0] at hown hoge ⊢
  obtain ⟨zt, hzt⟩ : ∃ zt, zt = trm names xs i := ⟨_, rfl⟩
  rw [← hzt] at T1v T1z T1o T1t ⊢
  replace hzt := hd hzt
  replace ho0 := hd ho0
  have cells : Hid (Gn.fit ⟨k, u, v, n, s⟩) := hf
  have lb1 := Nat.ne_of_lt hbl
  have lb2 := Nat.ne_of_gt hbl
  have K : CS ((((w.alloc (.cells #[.int .i64 vs, .slice (some ⟨bl, off, none⟩) len cap, .slice a' len' cap'] 71)).alloc (.cells #[.slice av t.length cv] 49)).alloc (.cells #[.slice none 0 0] 49)).alloc (.cells #[.int .i64 k, .int .i64 u, .int .i64 v, .int .i64 n, .string s] 149)) pw [.int .i64 vs, .slice (some ⟨bl, off, none⟩) len cap, .slice a' len' cap'] := by
    subst hpw; exact (((CS.made w _ rfl #[_, _, _] _).alloc _).alloc _).alloc _
  have T : Cl1 ((((w.alloc (.cells #[.int .i64 vs, .slice (some ⟨bl, off, none⟩) len cap, .slice a' len' cap'] 71)).alloc (.cells #[.slice av t.length cv] 49)).alloc (.cells #[.slice none 0 0] 49)).alloc (.cells #[.int .i64 k, .int .i64 u, .int .i64 v, .int .i64 n, .string s] 149)) (pw + 1) (.slice av t.length cv) := ((Cl1.made _ _ (by simp [hpw]) _ _).alloc _).alloc _
  have Z : Cl1 ((((w.alloc (.cells #[.int .i64 vs, .slice (some ⟨bl, off, none⟩) len cap, .slice a' len' cap'] 71)).alloc (.cells #[.slice av t.length cv] 49)).alloc (.cells #[.slice none 0 0] 49)).alloc (.cells #[.int .i64 k, .int .i64 u, .int .i64 v, .int .i64 n, .string s] 149)) (pw + 1 + 1) (.slice none 0 0) := (Cl1.made _ _ (by simp [hpw]) _ _).alloc _
  have N : CS ((((w.alloc (.cells #[.int .i64 vs, .slice (some ⟨bl, off, none⟩) len cap, .slice a' len' cap'] 71)).alloc (.cells #[.slice av t.length cv] 49)).alloc (.cells #[.slice none 0 0] 49)).alloc (.cells #[.int .i64 k, .int .i64 u, .int .i64 v, .int .i64 n, .string s] 149)) (pw + 1 + 1 + 1) [.int .i64 k, .int .i64 u, .int .i64 v, .int .i64 n, .string s] := CS.made _ _ (by simp [hpw]) #[_, _, _, _, _] _
  have e4 : Below w.heap.size w ((((w.alloc (.cells #[.int .i64 vs, .slice (some ⟨bl, off, none⟩) len cap, .slice a' len' cap'] 71)).alloc (.cells #[.slice av t.length cv] 49)).alloc (.cells #[.slice none 0 0] 49)).alloc (.cells #[.int .i64 k, .int .i64 u, .int .i64 v, .int .i64 n, .string s] 149)) := (by repeat (first | exact Below.refl _ _ | refine Below.drew ?_ | refine old_alloc ?_ _ | refine old_trans ?_ (by assumption)))
  have sz4 : ((((w.alloc (.cells #[.int .i64 vs, .slice (some ⟨bl, off, none⟩) len cap, .slice a' len' cap'] 71)).alloc (.cells #[.slice av t.length cv] 49)).alloc (.cells #[.slice none 0 0] 49)).alloc (.cells #[.int .i64 k, .int .i64 u, .int .i64 v, .int .i64 n, .string s] 149)).heap.size = pw + 4 := by simp [hpw]
  replace G := G.later e4
  have B := hb0.trans (e4.mono hs0)
  have F : w.grownBy ((((w.alloc (.cells #[.int .i64 vs, .slice (some ⟨bl, off, none⟩) len cap, .slice a' len' cap'] 71)).alloc (.cells #[.slice av t.length cv] 49)).alloc (.cells #[.slice none 0 0] 49)).alloc (.cells #[.int .i64 k, .int .i64 u, .int .i64 v, .int .i64 n, .string s] 149)) o0 := grown_low (World.grownBy.refl w o0) e4
  replace hown : ∀ b, o0 = some b → b < pw := fun b e => by have := hown b e; omega
  replace hs0 : w0.heap.size ≤ pw := by omega
  clear hb0 e4
  go_enter Try.func75, Try.ntmps75
  go_upto_region 2 with fail
  generalize ((((w.alloc (.cells #[.int .i64 vs, .slice (some ⟨bl, off, none⟩) len cap, .slice a' len' cap'] 71)).alloc (.cells #[.slice av t.length cv] 49)).alloc (.cells #[.slice none 0 0] 49)).alloc (.cells #[.int .i64 k, .int .i64 u, .int .i64 v, .int .i64 n, .string s] 149)) = W at *
  clear c0 c1 c2 c3 c4 lb1 lb2 hbl hx
  have hpw' : w.heap.size = pw := hpw
  replace hpw := hd hpw
  replace T1v := hd T1v
  replace T1z := hd T1z
  replace T1o := hd T1o
  replace T1t := hd T1t
  by_cases c100 : 100 < t.length
  · have ci : (100 : Int) < (t.length : Int) := by omega
    obtain ⟨T0, T1, T2⟩ := id T
    have lT1 := Nat.ne_of_lt T2
    have lT2 := Nat.ne_of_gt T2
    obtain ⟨Z0, Z1, Z2⟩ := id Z
    have lZ1 := Nat.ne_of_lt Z2
    have lZ2 := Nat.ne_of_gt Z2
    go_wp2
    exact bodyPost_ret (resL15 (Z.set _) rfl) rfl ⟨av, cv, t, rfl, ⟨G.setFar (fun b e => by have := hown b (ho0.out.trans e); omega) _, sPost.over c100, .inr (Nat.le_refl _), hft, fun b e => .inl (ho0.out.trans e), grown_then F (grown_cell W (pw + 1 + 1) _) (fun k e => .inr (by injection e with e; omega))⟩⟩
  have ci : ¬ ((100 : Int) < (t.length : Int)) := by omega
  obtain ⟨i0, hi, hz0, hz1, hz2⟩ := info_parts infoNode
  have hvc : ∀ {R : List Tn}, True := trivial
  clear hvc
  by_cases hk : k = 2
  · subst hk
    obtain ⟨hn0, hn1⟩ : 0 ≤ n ∧ n < (names.length : Int) := by
      rcases ho with ⟨-, h⟩ | ⟨h, -⟩
      · exact h
      · exact absurd rfl h
    obtain ⟨q, rfl⟩ : ∃ q : Nat, n = (q : Int) := ⟨n.toNat, by omega⟩
    have hq : q < names.length := by omega
    have et := T1v.out rfl
    unfold gtX at et
    rw [if_pos rfl] at et
    simp only [Int.toNat_natCast] at et
    obtain ⟨bn, on, nm, rfl, hbn, hnm, hns, cn0⟩ := (RN0.old B).at (show q < names.length by omega)
    rw [hnm] at et
    replace et := hd et
    have fx : Tn.fit ⟨2, 0, nm⟩ := ⟨⟨by dsimp only; omega, by dsimp only; omega⟩, ⟨by dsimp only; omega, by dsimp only; omega⟩, hns⟩
    replace fx := hd fx
    clear hnm ho T1v T1z T1o T1t ih hns
    have lb1 := Nat.ne_of_lt hbn
    have lb2 := Nat.ne_of_gt hbn
    have nx1 : some (pw + 1) ≠ (Value.slice av t.length cv).ownBlock := by rw [← ho0.out]; exact ne_own hown (by omega)
    have nx2 : some (pw + 1 + 1) ≠ (Value.slice av t.length cv).ownBlock := by rw [← ho0.out]; exact ne_own hown (by omega)
    have sz4' : pw + 4 ≤ W.heap.size := by omega
    replace sz4 := hd sz4
    have hqI : (q : Int) < (names.length : Int) := by omega
    have TA := (T.alloc (.cells #[.int .i64 2, .int .i64 0, .string nm] 104)).drew
    have ZA := (Z.alloc (.cells #[.int .i64 2, .int .i64 0, .string nm] 104)).drew
    have GA := (G.alloc (.cells #[.int .i64 2, .int .i64 0, .string nm] 104)).drew
    have FA : w.grownBy (W.alloc (.cells #[.int .i64 2, .int .i64 0, .string nm] 104)).drew o0 := grown_low F (Below.drew (by rw [hpw']; exact (Below.refl _ W).alloc (by omega) _))
    have cw : ∀ i z, [Value.int IntKind.i64 2, Value.int IntKind.i64 0, Value.string nm][i]? = some z → ((W.alloc (.cells #[.int .i64 2, .int .i64 0, .string nm] 104)).drew).cell? ((⟨W.heap.size, 0, none⟩ : Addr).add i) = some z := cells_three W W.heap.size rfl _ _ _ _
    obtain ⟨T0, T1, T2⟩ := id T
    have lT1 := Nat.ne_of_lt T2
    have lT2 := Nat.ne_of_gt T2
    obtain ⟨Z0, Z1, Z2⟩ := id Z
    have lZ1 := Nat.ne_of_lt Z2
    have lZ2 := Nat.ne_of_gt Z2
    have n0 := N.cell 0 _ rfl
    have n1 := N.cell 1 _ rfl
    have n2 := N.cell 2 _ rfl
    have n3 := N.cell 3 _ rfl
    have n4 := N.cell 4 _ rfl
    have nl := N.lt
    go_upto_region 5 with fail
    go_region_law (refine step_append_lies _ (by rfl) _ _ 47 (by rfl) w0.heap.size 104 i0 _ 3 32 Try.underlying47 hi hz0 hz1 hz2 rfl (by decide) _ _ _ (by rfl) GA ⟨W.heap.size, 0, none⟩ 1 1 [.int .i64 2, .int .i64 0, .string nm] (by rfl) rfl cw (by simp [Value.oneCell']) (by decide) (by unfold maxLen; omega) (by omega) (by simp; omega) _ rfl ?_; intro g' cap' w5 hown5 hgrow hat hlt5; have T5 := TA.kept hgrow nx1; have o5 := T5.1; have f5 := T5.2.1; have l5 := T5.2.2)
    all_goals
      have G5 : TnGrows w5 w0.heap.size (.slice (some ⟨g', 0, none⟩) (t.length + 1) cap') (t ++ [⟨2, 0, nm⟩]) := by
        unfold TnGrows
        rw [tnvs_snoc, List.length_append]
        exact hown5
      have Z5 := ZA.kept hgrow nx2
      have F5 := grown_then FA hgrow (fun k e => .inl (ho0.out.trans e))
      have hl5 : (t ++ [(⟨2, 0, nm⟩ : Tn)]).length = t.length + 1 := by simp
      have S5 := hgrow.size
      have hg5 : o0 = some g' ∨ pw ≤ g' := hat.imp (fun h => ho0.out.trans h) (fun h => by rw [h]; simp; omega)
      have hn1 : g' ≠ pw + 1 := by
        rcases hg5 with h | h
        · have := hown g' h; omega
        · rcases hat with h2 | h2
          · have := hown g' (ho0.out.trans h2); omega
          · rw [h2]; simp; omega
      have hn2 : g' ≠ pw + 1 + 1 := by
        rcases hg5 with h | h
        · have := hown g' h; omega
        · rcases hat with h2 | h2
          · have := hown g' (ho0.out.trans h2); omega
          · rw [h2]; simp; omega
      have T6 := T5.set (.slice (some ⟨g', 0, none⟩) (t.length + 1) cap')
      have Z6 := Z5.other (c := pw + 1) (by omega) (.slice (some ⟨g', 0, none⟩) (t.length + 1) cap')
      have G6 := G5.setFar (p := pw + 1) (fun b e => by have := own_is e; omega) (.slice (some ⟨g', 0, none⟩) (t.length + 1) cap')
      have F6 := grown_then F5 (grown_cell w5 (pw + 1) (.slice (some ⟨g', 0, none⟩) (t.length + 1) cap')) (fun k e => .inr (by injection e with e; omega))
      go_upto_region 6 with fail
      generalize w5.setCell ⟨pw + 1, 0, none⟩ (.slice (some ⟨g', 0, none⟩) (t.length + 1) cap') = w6 at *
      obtain ⟨a0, a1, a2⟩ := id T6
      obtain ⟨z0, z1, z2⟩ := id Z6
      have lz1 := Nat.ne_of_lt z2
      have lz2 := Nat.ne_of_gt z2
      go_wp2
      refine bodyPost_ret (resL15 (Z6.set _) rfl) rfl ⟨some ⟨g', 0, none⟩, cap', t ++ [⟨2, 0, nm⟩], by rw [hl5], ⟨?_, (by rw [et.out]; exact sPost.leaf _ (by omega)), .inl (by rw [hl5]; omega), hft.app (TnFits.one fx.out), fun b e => by injection e with e; subst e; rw [hpw']; exact hg5, grown_then F6 (grown_cell w6 (pw + 1 + 1) _) (fun k e => .inr (by injection e with e; omega))⟩⟩
      rw [hl5]
      exact G6.setFar (fun b e => by have := own_is e; omega) _
  have kb : (k == 2) = false := beq_eq_false_iff_ne.2 hk
  have hfit := cells
  have ho := (ho.resolve_left (fun h => hk h.1)).2
  have ex : gtX names ⟨k, u, v, n, s⟩ = ⟨k, n, s⟩ := by unfold gtX; exact if_neg hk
  have AR := hd (sArgs k n s cells.out.2.2.2.2)
  have X : CS (W.alloc (.cells #[.int .i64 k, .int .i64 n, .string s] 104)) (pw + 4) [.int .i64 k, .int .i64 n, .string s] := by rw [← sz4]; exact CS.made W _ rfl #[_, _, _] _
  obtain ⟨T0, T1, T2⟩ := id T
  have lT1 := Nat.ne_of_lt T2
  have lT2 := Nat.ne_of_gt T2
  have n0 := N.cell 0 _ rfl
  have n1 := N.cell 1 _ rfl
  have n2 := N.cell 2 _ rfl
  have n3 := N.cell 3 _ rfl
  have n4 := N.cell 4 _ rfl
  have nl := N.lt
  go_upto_region 8 with fail
  clear T0 T1 T2 lT1 lT2 n0 n1 n2 n3 n4 nl
  have e8 : Below W.heap.size W (W.alloc (.cells #[.int .i64 k, .int .i64 n, .string s] 104)) := old_alloc (Below.refl _ _) _
  replace K := K.later e8
  replace T := T.later e8
  replace Z := Z.later e8
  replace N := N.later e8
  replace G := G.later e8
  replace B := B.trans (e8.mono B.size)
  replace F := grown_low F (e8.mono (by have := F.size; omega))
  have sz8 : (W.alloc (.cells #[.int .i64 k, .int .i64 n, .string s] 104)).heap.size = pw + 5 := by simp [sz4]
  clear e8 sz4
  generalize W.alloc (.cells #[.int .i64 k, .int .i64 n, .string s] 104) = W8 at *
  have hoc : o0 = (Value.slice av t.length cv).ownBlock := ho0.out
  have hlo : ∀ b, o0 = some b → o0 = some b ∨ pw ≤ b := fun b e => .inl e
  have hne0 : some pw ≠ o0 := ne_own hown (by omega)
  have hne1 : some (pw + 1) ≠ o0 := ne_own hown (by omega)
  have hne2 : some (pw + 1 + 1) ≠ o0 := ne_own hown (by omega)
  have hne3 : some (pw + 1 + 1 + 1) ≠ o0 := ne_own hown (by omega)
  have hne4 : some (pw + 4) ≠ o0 := ne_own hown (by omega)
  have o1x := True.intro
  replace hfit := hd hfit.out
  rcases ho with hc | ⟨hc, hu⟩ | ⟨hc, hu, hv⟩
  · rw [hc] at AR
    have et := T1z.out hk hc
    rw [ex] at et
    replace et := hd et
    clear T1v T1z T1o T1t hc ex cells ih
    have x0 := X.cell 0 _ rfl
    have x1 := X.cell 1 _ rfl
    have x2 := X.cell 2 _ rfl
    have xl := X.lt
    go_wp2_with fail
    refine (AR.out _).mono ?_
    rintro e w9 ⟨rfl, hb9⟩
    clear x0 x1 x2 xl
    replace K := K.later hb9
    replace T := T.later hb9
    replace Z := Z.later hb9
    replace N := N.later hb9
    replace X := X.later hb9
    replace G := G.later hb9
    replace B := B.trans (hb9.mono B.size)
    replace F := grown_low F (hb9.mono (by have := F.size; omega))
    clear hb9 AR sz8
    have TA := T.alloc (.cells #[.int .i64 k, .int .i64 n, .string s] 104)
    have ZA := Z.alloc (.cells #[.int .i64 k, .int .i64 n, .string s] 104)
    have XA := X.alloc (.cells #[.int .i64 k, .int .i64 n, .string s] 104)
    have GA := G.alloc (.cells #[.int .i64 k, .int .i64 n, .string s] 104)
    have FA : w.grownBy (w9.alloc (.cells #[.int .i64 k, .int .i64 n, .string s] 104)) o0 := grown_low F (by rw [hpw']; exact (Below.refl _ w9).alloc (by have := F.size; omega) _)
    have cw : ∀ i z, [Value.int IntKind.i64 k, Value.int IntKind.i64 n, Value.string s][i]? = some z → (w9.alloc (.cells #[.int .i64 k, .int .i64 n, .string s] 104)).cell? ((⟨w9.heap.size, 0, none⟩ : Addr).add i) = some z := cells_three w9 w9.heap.size rfl _ _ _ _
    have nx1 : some (pw + 1) ≠ (Value.slice av t.length cv).ownBlock := by rw [← hoc]; exact hne1
    have nx2 : some (pw + 1 + 1) ≠ (Value.slice av t.length cv).ownBlock := by rw [← hoc]; exact hne2
    have szW : pw + 5 ≤ w9.heap.size := by have := X.lt; omega
    obtain ⟨T0, T1, T2⟩ := id T
    have lT1 := Nat.ne_of_lt T2
    have lT2 := Nat.ne_of_gt T2
    obtain ⟨Z0, Z1, Z2⟩ := id Z
    have lZ1 := Nat.ne_of_lt Z2
    have lZ2 := Nat.ne_of_gt Z2
    have x0 := X.cell 0 _ rfl
    have x1 := X.cell 1 _ rfl
    have x2 := X.cell 2 _ rfl
    have xl := X.lt
    go_wp2_with (first | (at_builtin; refine wpList_append_lies _ rfl _ _ 47 rfl w0.heap.size 104 i0 _ 3 32 Try.underlying47 hi hz0 hz1 hz2 rfl (by decide) _ _ _ (by rfl) GA ⟨w9.heap.size, 0, none⟩ 1 1 [.int .i64 k, .int .i64 n, .string s] rfl rfl cw (by simp [Value.oneCell']) (by decide) (by unfold maxLen; omega) (by omega) (by simp; omega) _ rfl ?_; intro g' cap' w5 hown5 hgrow hat hlt5; have T5 := TA.kept hgrow nx1; have o5 := T5.1; have f5 := T5.2.1; have l5 := T5.2.2; have Z5 := ZA.kept hgrow nx2; have z5 := Z5.1; have y5 := Z5.2.1; have x5 := Z5.2.2))
    have hl5 : (t ++ [(⟨k, n, s⟩ : Tn)]).length = t.length + 1 := by simp
    have G5 : TnGrows w5 w0.heap.size (.slice (some ⟨g', 0, none⟩) (t.length + 1) cap') (t ++ [⟨k, n, s⟩]) := by
      unfold TnGrows
      rw [tnvs_snoc, List.length_append]
      exact hown5
    have hg5 : o0 = some g' ∨ pw ≤ g' := by
      rcases hat with h | h
      · exact hlo g' (hoc.trans h)
      · rw [h]; simp; omega
    have hn1 : g' ≠ pw + 1 := by
      rcases hat with h | h
      · intro e; subst e; exact hne1 (hoc.trans h).symm
      · rw [h]; simp; omega
    have hn2 : g' ≠ pw + 1 + 1 := by
      rcases hat with h | h
      · intro e; subst e; exact hne2 (hoc.trans h).symm
      · rw [h]; simp; omega
    have F5 := grown_then FA hgrow (fun k e => (hlo k (hoc.trans e)).imp id (fun h => by rw [hpw']; exact h))
    refine bodyPost_ret (resL15 ((Z5.other (c := pw + 1) (by omega) _).set _) rfl) rfl ⟨some ⟨g', 0, none⟩, cap', t ++ [⟨k, n, s⟩], by rw [hl5], ⟨?_, (by rw [et.out]; exact sPost.leaf _ (by omega)), .inl (by rw [hl5]; omega), hft.app (TnFits.one ⟨hfit.out.1, hfit.out.2.2.2.1, hfit.out.2.2.2.2⟩), fun b e => by injection e with e; subst e; rw [hpw']; exact hg5, grown_then (grown_then F5 (grown_cell w5 (pw + 1) _) (fun k e => .inr (by injection e with e; omega))) (grown_cell _ (pw + 1 + 1) _) (fun k e => .inr (by injection e with e; omega))⟩⟩
    rw [hl5]
    exact (G5.setFar (p := pw + 1) (fun b e => by have := own_is e; omega) _).setFar (p := pw + 1 + 1) (fun b e => by have := own_is e; omega) _
  · rw [hc] at AR
    have et := T1o.out hk hc hu
    rw [ex] at et
    obtain ⟨q, rfl⟩ : ∃ q : Nat, u = (q : Int) := ⟨u.toNat, by omega⟩
    rw [Int.toNat_natCast] at et
    replace et := hd et
    clear T1v T1z T1o T1t hc ex cells
    have x0 := X.cell 0 _ rfl
    have x1 := X.cell 1 _ rfl
    have x2 := X.cell 2 _ rfl
    have xl := X.lt
    go_wp2_with fail
    refine (AR.out _).mono ?_
    rintro e w9 ⟨rfl, hb9⟩
    clear x0 x1 x2 xl
    replace K := K.later hb9
    replace T := T.later hb9
    replace Z := Z.later hb9
    replace N := N.later hb9
    replace X := X.later hb9
    replace G := G.later hb9
    replace B := B.trans (hb9.mono B.size)
    replace F := grown_low F (hb9.mono (by have := F.size; omega))
    clear hb9 AR sz8
    have k0 := K.cell 0 _ rfl
    have k1 := K.cell 1 _ rfl
    have k2 := K.cell 2 _ rfl
    have kl := K.lt
    obtain ⟨T0, T1, T2⟩ := id T
    have lT1 := Nat.ne_of_lt T2
    have lT2 := Nat.ne_of_gt T2
    have n0 := N.cell 0 _ rfl
    have n1 := N.cell 1 _ rfl
    have n2 := N.cell 2 _ rfl
    have n3 := N.cell 3 _ rfl
    have n4 := N.cell 4 _ rfl
    have nl := N.lt
    go_wp2_with fail
    refine (ih q (by omega) (by omega) av cv t w9 B G ht hft).mono ?_
    rintro e w10 ⟨A1, C1, R1, rfl, D1⟩
    rw [← hoc] at D1
    clear k0 k1 k2 kl T0 T1 T2 lT1 lT2 n0 n1 n2 n3 n4 nl
    have sz1 := D1.fr.size
    have szX1 : pw + 5 ≤ w9.heap.size := by have := X.lt; omega
    replace K := K.keptTn D1.fr hne0
    replace T := T.kept D1.fr hne1
    replace Z := Z.kept D1.fr hne2
    replace N := N.keptTn D1.fr hne3
    replace X := X.keptTn D1.fr hne4
    replace F := grown_then F D1.fr (fun k e => (hlo k e).imp id (fun h => by rw [hpw']; exact h))
    replace B := B.grown D1.fr B.size (fun c e => by have := hlo c e; rcases this with h | h; (have := hoge c h; omega); omega)
    have G' := D1.g
    have own1 : ∀ b, (Value.slice A1 R1.length C1).ownBlock = some b → (o0 = some b ∨ pw ≤ b) ∧ b ≠ pw ∧ b ≠ pw + 1 ∧ b ≠ pw + 1 + 1 ∧ b ≠ pw + 1 + 1 + 1 ∧ b ≠ pw + 4 := fun b e => by
      rcases D1.own b e with h | h
      · refine ⟨hlo b h, ?_, ?_, ?_, ?_, ?_⟩
        · rintro rfl; exact hne0 h.symm
        · rintro rfl; exact hne1 h.symm
        · rintro rfl; exact hne2 h.symm
        · rintro rfl; exact hne3 h.symm
        · rintro rfl; exact hne4 h.symm
      · exact ⟨.inr (by omega), by omega, by omega, by omega, by omega, by omega⟩
    clear hoc hlo hne0 hne1 hne2 hne3 hne4 G o1x
    obtain ⟨o1, hoc⟩ : ∃ o, o = (Value.slice A1 R1.length C1).ownBlock := ⟨_, rfl⟩
    have hlo : ∀ b, o1 = some b → o0 = some b ∨ pw ≤ b := fun b e => (own1 b (hoc ▸ e)).1
    have hne0 : some pw ≠ o1 := fun e => (own1 _ (hoc ▸ e.symm)).2.1 rfl
    have hne1 : some (pw + 1) ≠ o1 := fun e => (own1 _ (hoc ▸ e.symm)).2.2.1 rfl
    have hne2 : some (pw + 1 + 1) ≠ o1 := fun e => (own1 _ (hoc ▸ e.symm)).2.2.2.1 rfl
    have hne3 : some (pw + 1 + 1 + 1) ≠ o1 := fun e => (own1 _ (hoc ▸ e.symm)).2.2.2.2.1 rfl
    have hne4 : some (pw + 4) ≠ o1 := fun e => (own1 _ (hoc ▸ e.symm)).2.2.2.2.2 rfl
    have hR1 : R1.length ≤ 300 := by have := D1.le; omega
    have o1x := True.intro
    obtain ⟨t0, t1, t2⟩ := id T
    go_upto_region 11 with fail
    replace G := G'.setFar (p := pw + 1) (fun b e => (own1 b e).2.2.1) (.slice A1 R1.length C1)
    replace T := T.set (.slice A1 R1.length C1)
    replace K := K.far (c := pw + 1) (i := 0) (by omega) (.slice A1 R1.length C1)
    replace Z := Z.other (c := pw + 1) (by omega) (.slice A1 R1.length C1)
    replace N := N.far (c := pw + 1) (i := 0) (by omega) (.slice A1 R1.length C1)
    replace X := X.far (c := pw + 1) (i := 0) (by omega) (.slice A1 R1.length C1)
    replace F := grown_then F (grown_cell w10 (pw + 1) (.slice A1 R1.length C1)) (fun k e => .inr (by injection e with e; omega))
    replace B := B.setCell (p := ⟨pw + 1, 0, none⟩) (by simp; omega) (.slice A1 R1.length C1)
    clear t0 t1 t2 G'
    generalize w10.setCell ⟨pw + 1, 0, none⟩ (.slice A1 R1.length C1) = w10s at *
    have TA := T.alloc (.cells #[.int .i64 k, .int .i64 n, .string s] 104)
    have ZA := Z.alloc (.cells #[.int .i64 k, .int .i64 n, .string s] 104)
    have XA := X.alloc (.cells #[.int .i64 k, .int .i64 n, .string s] 104)
    have GA := G.alloc (.cells #[.int .i64 k, .int .i64 n, .string s] 104)
    have FA : w.grownBy (w10s.alloc (.cells #[.int .i64 k, .int .i64 n, .string s] 104)) o0 := grown_low F (by rw [hpw']; exact (Below.refl _ w10s).alloc (by have := F.size; omega) _)
    have cw : ∀ i z, [Value.int IntKind.i64 k, Value.int IntKind.i64 n, Value.string s][i]? = some z → (w10s.alloc (.cells #[.int .i64 k, .int .i64 n, .string s] 104)).cell? ((⟨w10s.heap.size, 0, none⟩ : Addr).add i) = some z := cells_three w10s w10s.heap.size rfl _ _ _ _
    have nx1 : some (pw + 1) ≠ (Value.slice A1 R1.length C1).ownBlock := by rw [← hoc]; exact hne1
    have nx2 : some (pw + 1 + 1) ≠ (Value.slice A1 R1.length C1).ownBlock := by rw [← hoc]; exact hne2
    have szW : pw + 5 ≤ w10s.heap.size := by have := X.lt; omega
    obtain ⟨T0, T1, T2⟩ := id T
    have lT1 := Nat.ne_of_lt T2
    have lT2 := Nat.ne_of_gt T2
    obtain ⟨Z0, Z1, Z2⟩ := id Z
    have lZ1 := Nat.ne_of_lt Z2
    have lZ2 := Nat.ne_of_gt Z2
    have x0 := X.cell 0 _ rfl
    have x1 := X.cell 1 _ rfl
    have x2 := X.cell 2 _ rfl
    have xl := X.lt
    go_wp2_with (first | (at_builtin; refine wpList_append_lies _ rfl _ _ 47 rfl w0.heap.size 104 i0 _ 3 32 Try.underlying47 hi hz0 hz1 hz2 rfl (by decide) _ _ _ (by rfl) GA ⟨w10s.heap.size, 0, none⟩ 1 1 [.int .i64 k, .int .i64 n, .string s] rfl rfl cw (by simp [Value.oneCell']) (by decide) (by unfold maxLen; omega) (by omega) (by simp; omega) _ rfl ?_; intro g' cap' w5 hown5 hgrow hat hlt5; have T5 := TA.kept hgrow nx1; have o5 := T5.1; have f5 := T5.2.1; have l5 := T5.2.2; have Z5 := ZA.kept hgrow nx2; have z5 := Z5.1; have y5 := Z5.2.1; have x5 := Z5.2.2))
    have hl5 : (R1 ++ [(⟨k, n, s⟩ : Tn)]).length = R1.length + 1 := by simp
    have G5 : TnGrows w5 w0.heap.size (.slice (some ⟨g', 0, none⟩) (R1.length + 1) cap') (R1 ++ [⟨k, n, s⟩]) := by
      unfold TnGrows
      rw [tnvs_snoc, List.length_append]
      exact hown5
    have hg5 : o0 = some g' ∨ pw ≤ g' := by
      rcases hat with h | h
      · exact hlo g' (hoc.trans h)
      · rw [h]; simp; omega
    have hn1 : g' ≠ pw + 1 := by
      rcases hat with h | h
      · intro e; subst e; exact hne1 (hoc.trans h).symm
      · rw [h]; simp; omega
    have hn2 : g' ≠ pw + 1 + 1 := by
      rcases hat with h | h
      · intro e; subst e; exact hne2 (hoc.trans h).symm
      · rw [h]; simp; omega
    have F5 := grown_then FA hgrow (fun k e => (hlo k (hoc.trans e)).imp id (fun h => by rw [hpw']; exact h))
    refine bodyPost_ret (resL15 ((Z5.other (c := pw + 1) (by omega) _).set _) rfl) rfl ⟨some ⟨g', 0, none⟩, cap', R1 ++ [⟨k, n, s⟩], by rw [hl5], ⟨?_, (by rw [et.out]; exact D1.p.one _), .inl (by rw [hl5]; have := D1.le; omega), D1.f.app (TnFits.one ⟨hfit.out.1, hfit.out.2.2.2.1, hfit.out.2.2.2.2⟩), fun b e => by injection e with e; subst e; rw [hpw']; exact hg5, grown_then (grown_then F5 (grown_cell w5 (pw + 1) _) (fun k e => .inr (by injection e with e; omega))) (grown_cell _ (pw + 1 + 1) _) (fun k e => .inr (by injection e with e; omega))⟩⟩
    rw [hl5]
    exact (G5.setFar (p := pw + 1) (fun b e => by have := own_is e; omega) _).setFar (p := pw + 1 + 1) (fun b e => by have := own_is e; omega) _
  · rw [hc] at AR
    have et := T1t.out hk hc hu hv
    rw [ex] at et
    obtain ⟨q, rfl⟩ : ∃ q : Nat, u = (q : Int) := ⟨u.toNat, by omega⟩
    obtain ⟨r, rfl⟩ : ∃ r : Nat, v = (r : Int) := ⟨v.toNat, by omega⟩
    rw [Int.toNat_natCast, Int.toNat_natCast] at et
    replace et := hd et
    clear T1v T1z T1o T1t hc ex cells
    have x0 := X.cell 0 _ rfl
    have x1 := X.cell 1 _ rfl
    have x2 := X.cell 2 _ rfl
    have xl := X.lt
    go_wp2_with fail
    refine (AR.out _).mono ?_
    rintro e w9 ⟨rfl, hb9⟩
    clear x0 x1 x2 xl
    replace K := K.later hb9
    replace T := T.later hb9
    replace Z := Z.later hb9
    replace N := N.later hb9
    replace X := X.later hb9
    replace G := G.later hb9
    replace B := B.trans (hb9.mono B.size)
    replace F := grown_low F (hb9.mono (by have := F.size; omega))
    clear hb9 AR sz8
    have k0 := K.cell 0 _ rfl
    have k1 := K.cell 1 _ rfl
    have k2 := K.cell 2 _ rfl
    have kl := K.lt
    obtain ⟨T0, T1, T2⟩ := id T
    have lT1 := Nat.ne_of_lt T2
    have lT2 := Nat.ne_of_gt T2
    have n0 := N.cell 0 _ rfl
    have n1 := N.cell 1 _ rfl
    have n2 := N.cell 2 _ rfl
    have n3 := N.cell 3 _ rfl
    have n4 := N.cell 4 _ rfl
    have nl := N.lt
    go_wp2_with fail
    refine (ih q (by omega) (by omega) av cv t w9 B G ht hft).mono ?_
    rintro e w10 ⟨A1, C1, R1, rfl, D1⟩
    rw [← hoc] at D1
    clear k0 k1 k2 kl T0 T1 T2 lT1 lT2 n0 n1 n2 n3 n4 nl
    have sz1 := D1.fr.size
    have szX1 : pw + 5 ≤ w9.heap.size := by have := X.lt; omega
    replace K := K.keptTn D1.fr hne0
    replace T := T.kept D1.fr hne1
    replace Z := Z.kept D1.fr hne2
    replace N := N.keptTn D1.fr hne3
    replace X := X.keptTn D1.fr hne4
    replace F := grown_then F D1.fr (fun k e => (hlo k e).imp id (fun h => by rw [hpw']; exact h))
    replace B := B.grown D1.fr B.size (fun c e => by have := hlo c e; rcases this with h | h; (have := hoge c h; omega); omega)
    have G' := D1.g
    have own1 : ∀ b, (Value.slice A1 R1.length C1).ownBlock = some b → (o0 = some b ∨ pw ≤ b) ∧ b ≠ pw ∧ b ≠ pw + 1 ∧ b ≠ pw + 1 + 1 ∧ b ≠ pw + 1 + 1 + 1 ∧ b ≠ pw + 4 := fun b e => by
      rcases D1.own b e with h | h
      · refine ⟨hlo b h, ?_, ?_, ?_, ?_, ?_⟩
        · rintro rfl; exact hne0 h.symm
        · rintro rfl; exact hne1 h.symm
        · rintro rfl; exact hne2 h.symm
        · rintro rfl; exact hne3 h.symm
        · rintro rfl; exact hne4 h.symm
      · exact ⟨.inr (by omega), by omega, by omega, by omega, by omega, by omega⟩
    clear hoc hlo hne0 hne1 hne2 hne3 hne4 G o1x
    obtain ⟨o1, hoc⟩ : ∃ o, o = (Value.slice A1 R1.length C1).ownBlock := ⟨_, rfl⟩
    have hlo : ∀ b, o1 = some b → o0 = some b ∨ pw ≤ b := fun b e => (own1 b (hoc ▸ e)).1
    have hne0 : some pw ≠ o1 := fun e => (own1 _ (hoc ▸ e.symm)).2.1 rfl
    have hne1 : some (pw + 1) ≠ o1 := fun e => (own1 _ (hoc ▸ e.symm)).2.2.1 rfl
    have hne2 : some (pw + 1 + 1) ≠ o1 := fun e => (own1 _ (hoc ▸ e.symm)).2.2.2.1 rfl
    have hne3 : some (pw + 1 + 1 + 1) ≠ o1 := fun e => (own1 _ (hoc ▸ e.symm)).2.2.2.2.1 rfl
    have hne4 : some (pw + 4) ≠ o1 := fun e => (own1 _ (hoc ▸ e.symm)).2.2.2.2.2 rfl
    have hR1 : R1.length ≤ 300 := by have := D1.le; omega
    have o1x := True.intro
    obtain ⟨t0, t1, t2⟩ := id T
    go_upto_region 11 with fail
    replace G := G'.setFar (p := pw + 1) (fun b e => (own1 b e).2.2.1) (.slice A1 R1.length C1)
    replace T := T.set (.slice A1 R1.length C1)
    replace K := K.far (c := pw + 1) (i := 0) (by omega) (.slice A1 R1.length C1)
    replace Z := Z.other (c := pw + 1) (by omega) (.slice A1 R1.length C1)
    replace N := N.far (c := pw + 1) (i := 0) (by omega) (.slice A1 R1.length C1)
    replace X := X.far (c := pw + 1) (i := 0) (by omega) (.slice A1 R1.length C1)
    replace F := grown_then F (grown_cell w10 (pw + 1) (.slice A1 R1.length C1)) (fun k e => .inr (by injection e with e; omega))
    replace B := B.setCell (p := ⟨pw + 1, 0, none⟩) (by simp; omega) (.slice A1 R1.length C1)
    clear t0 t1 t2 G'
    generalize w10.setCell ⟨pw + 1, 0, none⟩ (.slice A1 R1.length C1) = w10s at *
    have k0 := K.cell 0 _ rfl
    have k1 := K.cell 1 _ rfl
    have k2 := K.cell 2 _ rfl
    have kl := K.lt
    obtain ⟨T0, T1, T2⟩ := id T
    have lT1 := Nat.ne_of_lt T2
    have lT2 := Nat.ne_of_gt T2
    have n0 := N.cell 0 _ rfl
    have n1 := N.cell 1 _ rfl
    have n2 := N.cell 2 _ rfl
    have n3 := N.cell 3 _ rfl
    have n4 := N.cell 4 _ rfl
    have nl := N.lt
    go_wp2_with fail
    refine (ih r (by omega) (by omega) A1 C1 R1 w10s B G hR1 D1.f).mono ?_
    rintro e w11 ⟨A2, C2, R2, rfl, D2⟩
    rw [← hoc] at D2
    clear k0 k1 k2 kl T0 T1 T2 lT1 lT2 n0 n1 n2 n3 n4 nl
    have sz2 := D2.fr.size
    have szX2 : pw + 5 ≤ w10s.heap.size := by have := X.lt; omega
    replace K := K.keptTn D2.fr hne0
    replace T := T.kept D2.fr hne1
    replace Z := Z.kept D2.fr hne2
    replace N := N.keptTn D2.fr hne3
    replace X := X.keptTn D2.fr hne4
    replace F := grown_then F D2.fr (fun k e => (hlo k e).imp id (fun h => by rw [hpw']; exact h))
    replace B := B.grown D2.fr B.size (fun c e => by have := hlo c e; rcases this with h | h; (have := hoge c h; omega); omega)
    have G' := D2.g
    have own2 : ∀ b, (Value.slice A2 R2.length C2).ownBlock = some b → (o0 = some b ∨ pw ≤ b) ∧ b ≠ pw ∧ b ≠ pw + 1 ∧ b ≠ pw + 1 + 1 ∧ b ≠ pw + 1 + 1 + 1 ∧ b ≠ pw + 4 := fun b e => by
      rcases D2.own b e with h | h
      · refine ⟨hlo b h, ?_, ?_, ?_, ?_, ?_⟩
        · rintro rfl; exact hne0 h.symm
        · rintro rfl; exact hne1 h.symm
        · rintro rfl; exact hne2 h.symm
        · rintro rfl; exact hne3 h.symm
        · rintro rfl; exact hne4 h.symm
      · exact ⟨.inr (by omega), by omega, by omega, by omega, by omega, by omega⟩
    clear hoc hlo hne0 hne1 hne2 hne3 hne4 G o1x
    obtain ⟨o2, hoc⟩ : ∃ o, o = (Value.slice A2 R2.length C2).ownBlock := ⟨_, rfl⟩
    have hlo : ∀ b, o2 = some b → o0 = some b ∨ pw ≤ b := fun b e => (own2 b (hoc ▸ e)).1
    have hne0 : some pw ≠ o2 := fun e => (own2 _ (hoc ▸ e.symm)).2.1 rfl
    have hne1 : some (pw + 1) ≠ o2 := fun e => (own2 _ (hoc ▸ e.symm)).2.2.1 rfl
    have hne2 : some (pw + 1 + 1) ≠ o2 := fun e => (own2 _ (hoc ▸ e.symm)).2.2.2.1 rfl
    have hne3 : some (pw + 1 + 1 + 1) ≠ o2 := fun e => (own2 _ (hoc ▸ e.symm)).2.2.2.2.1 rfl
    have hne4 : some (pw + 4) ≠ o2 := fun e => (own2 _ (hoc ▸ e.symm)).2.2.2.2.2 rfl
    have hR2 : R2.length ≤ 300 := by have := D2.le; omega
    have o1x := True.intro
    obtain ⟨t0, t1, t2⟩ := id T
    go_upto_region 13 with fail
    replace G := G'.setFar (p := pw + 1) (fun b e => (own2 b e).2.2.1) (.slice A2 R2.length C2)
    replace T := T.set (.slice A2 R2.length C2)
    replace K := K.far (c := pw + 1) (i := 0) (by omega) (.slice A2 R2.length C2)
    replace Z := Z.other (c := pw + 1) (by omega) (.slice A2 R2.length C2)
    replace N := N.far (c := pw + 1) (i := 0) (by omega) (.slice A2 R2.length C2)
    replace X := X.far (c := pw + 1) (i := 0) (by omega) (.slice A2 R2.length C2)
    replace F := grown_then F (grown_cell w11 (pw + 1) (.slice A2 R2.length C2)) (fun k e => .inr (by injection e with e; omega))
    replace B := B.setCell (p := ⟨pw + 1, 0, none⟩) (by simp; omega) (.slice A2 R2.length C2)
    clear t0 t1 t2 G'
    generalize w11.setCell ⟨pw + 1, 0, none⟩ (.slice A2 R2.length C2) = w11s at *
    have TA := T.alloc (.cells #[.int .i64 k, .int .i64 n, .string s] 104)
    have ZA := Z.alloc (.cells #[.int .i64 k, .int .i64 n, .string s] 104)
    have XA := X.alloc (.cells #[.int .i64 k, .int .i64 n, .string s] 104)
    have GA := G.alloc (.cells #[.int .i64 k, .int .i64 n, .string s] 104)
    have FA : w.grownBy (w11s.alloc (.cells #[.int .i64 k, .int .i64 n, .string s] 104)) o0 := grown_low F (by rw [hpw']; exact (Below.refl _ w11s).alloc (by have := F.size; omega) _)
    have cw : ∀ i z, [Value.int IntKind.i64 k, Value.int IntKind.i64 n, Value.string s][i]? = some z → (w11s.alloc (.cells #[.int .i64 k, .int .i64 n, .string s] 104)).cell? ((⟨w11s.heap.size, 0, none⟩ : Addr).add i) = some z := cells_three w11s w11s.heap.size rfl _ _ _ _
    have nx1 : some (pw + 1) ≠ (Value.slice A2 R2.length C2).ownBlock := by rw [← hoc]; exact hne1
    have nx2 : some (pw + 1 + 1) ≠ (Value.slice A2 R2.length C2).ownBlock := by rw [← hoc]; exact hne2
    have szW : pw + 5 ≤ w11s.heap.size := by have := X.lt; omega
    obtain ⟨T0, T1, T2⟩ := id T
    have lT1 := Nat.ne_of_lt T2
    have lT2 := Nat.ne_of_gt T2
    obtain ⟨Z0, Z1, Z2⟩ := id Z
    have lZ1 := Nat.ne_of_lt Z2
    have lZ2 := Nat.ne_of_gt Z2
    have x0 := X.cell 0 _ rfl
    have x1 := X.cell 1 _ rfl
    have x2 := X.cell 2 _ rfl
    have xl := X.lt
    go_wp2_with (first | (at_builtin; refine wpList_append_lies _ rfl _ _ 47 rfl w0.heap.size 104 i0 _ 3 32 Try.underlying47 hi hz0 hz1 hz2 rfl (by decide) _ _ _ (by rfl) GA ⟨w11s.heap.size, 0, none⟩ 1 1 [.int .i64 k, .int .i64 n, .string s] rfl rfl cw (by simp [Value.oneCell']) (by decide) (by unfold maxLen; omega) (by omega) (by simp; omega) _ rfl ?_; intro g' cap' w5 hown5 hgrow hat hlt5; have T5 := TA.kept hgrow nx1; have o5 := T5.1; have f5 := T5.2.1; have l5 := T5.2.2; have Z5 := ZA.kept hgrow nx2; have z5 := Z5.1; have y5 := Z5.2.1; have x5 := Z5.2.2))
    have hl5 : (R2 ++ [(⟨k, n, s⟩ : Tn)]).length = R2.length + 1 := by simp
    have G5 : TnGrows w5 w0.heap.size (.slice (some ⟨g', 0, none⟩) (R2.length + 1) cap') (R2 ++ [⟨k, n, s⟩]) := by
      unfold TnGrows
      rw [tnvs_snoc, List.length_append]
      exact hown5
    have hg5 : o0 = some g' ∨ pw ≤ g' := by
      rcases hat with h | h
      · exact hlo g' (hoc.trans h)
      · rw [h]; simp; omega
    have hn1 : g' ≠ pw + 1 := by
      rcases hat with h | h
      · intro e; subst e; exact hne1 (hoc.trans h).symm
      · rw [h]; simp; omega
    have hn2 : g' ≠ pw + 1 + 1 := by
      rcases hat with h | h
      · intro e; subst e; exact hne2 (hoc.trans h).symm
      · rw [h]; simp; omega
    have F5 := grown_then FA hgrow (fun k e => (hlo k (hoc.trans e)).imp id (fun h => by rw [hpw']; exact h))
    refine bodyPost_ret (resL15 ((Z5.other (c := pw + 1) (by omega) _).set _) rfl) rfl ⟨some ⟨g', 0, none⟩, cap', R2 ++ [⟨k, n, s⟩], by rw [hl5], ⟨?_, (by rw [et.out]; exact D1.p.two _ D2.p), .inl (by rw [hl5]; have := D1.le; have := D2.le; omega), D2.f.app (TnFits.one ⟨hfit.out.1, hfit.out.2.2.2.1, hfit.out.2.2.2.2⟩), fun b e => by injection e with e; subst e; rw [hpw']; exact hg5, grown_then (grown_then F5 (grown_cell w5 (pw + 1) _) (fun k e => .inr (by injection e with e; omega))) (grown_cell _ (pw + 1 + 1) _) (fun k e => .inr (by injection e with e; omega))⟩⟩
    rw [hl5]
    exact (G5.setFar (p := pw + 1) (fun b e => by have := own_is e; omega) _).setFar (p := pw + 1 + 1) (fun b e => by have := own_is e; omega) _
end Go.Proofs.Ytmpckbgelkfgpaa
