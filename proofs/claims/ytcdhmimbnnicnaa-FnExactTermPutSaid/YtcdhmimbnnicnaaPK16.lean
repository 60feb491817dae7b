/- TermPut of the specification at every argument. No condition but that the lists are there. -/
import Derived.Test.YtcdhmimbnnicnaaPK15
import Derived.Deep.AppendLies
import Derived.Deep.RegionLaw
import Derived.Deep.RegionHeld3
import Derived.Test.YtcdhmimbnnicnaaPK02
import Derived.Deep.DeepCutAuto
namespace Go.Proofs.Ytcdhmimbnnicnaa
open Go.RowKit
set_option linter.unusedVariables false
set_option maxRecDepth 100000

theorem cells_three (w : World) (b : Nat) (hb : b = w.heap.size) (x y z : Value) (t : TypeId) : ∀ j u, [x, y, z][j]? = some u → (w.alloc (.cells #[x, y, z] t)).cell? ((⟨b, 0, none⟩ : Addr).add j) = some u := by
  subst hb
  intro j u h
  match j, h with
  | 0, h => simp at h; subst h; simp [Addr.add]
  | 1, h => simp at h; subst h; simp [Addr.add]
  | 2, h => simp at h; subst h; simp [Addr.add]
  | j + 3, h => simp at h
theorem grown_cell (w : World) (b : Nat) (v : Value) : w.grownBy (w.setCell ⟨b, 0, none⟩ v) (some b) := ⟨rfl, rfl, rfl, by simp [World.setCell], fun k _ hk => Below.heap_setCell _ _ _ _ (fun e => hk (by rw [e]))⟩
theorem TnGrows.set {w : World} {base b : Nat} {v : Value} {ps : List Tn} (h : TnGrows w base v ps) (hb : b < base) (u : Value) : TnGrows (w.setCell ⟨b, 0, none⟩ u) base v ps := h.kept (grown_cell w b u) (fun c e => by cases e; exact hb)
theorem Cl1.set {w : World} {b : Nat} {v : Value} (h : Cl1 w b v) (u : Value) : Cl1 (w.setCell ⟨b, 0, none⟩ u) b u := ⟨World.cell?_setCell_same _ _ _ h.1, by simpa using h.2.1, by simpa [World.setCell] using h.2.2⟩
theorem Cl1.other {w : World} {b c : Nat} {v : Value} (h : Cl1 w b v) (hn : b ≠ c) (u : Value) : Cl1 (w.setCell ⟨c, 0, none⟩ u) b v := h.kept (grown_cell w c u) (fun e => hn (by injection e))
theorem resTPs {W : World} {b : Nat} {v r : Value} {tmps : Array Value} (h : Cl1 W b v) (ht : tmps[6]? = some (.pointer (some ⟨b, 0, none⟩))) (h3 : tmps[7]? = some r) : (results Try.f9 tmps).run Try.prog W = .ok (.tuple #[.agg #[v], r]) W := by
  simp [results, Try.results9, go_sem, h.1, ht, h3]
theorem tsx_len (ts : List Te) : (ts.map Te.xs).length = ts.length := by simp
theorem tsx_getD {ts : List Te} {i : Nat} (h : i < ts.length) : (ts.map Te.xs).getD i [] = (ts.getD i te0).xs := by simp [List.getD_eq_getElem?_getD, h]
theorem InTs.fits {w : World} {a : Option Addr} {len cap : Nat} {ts : List Te} (h : InTs w a len cap ts) : ∀ z ∈ ts.map Te.xs, TnFits z := by
  intro z hz
  obtain ⟨t, ht, rfl⟩ := List.mem_map.1 hz
  exact (h.2.2.2.1 t ht).2.2.2.1
set_option maxRecDepth 100000 in
set_option maxHeartbeats 16000000 in
theorem sTermPut (a : Option Addr) (cap : Nat) (xs : List Tn) (an : Option Addr) (cn : Nat) (names : List ByteArray) (aw : Option Addr) (cw' : Nat) (ts : List Te) (w : World) (R : InN w a xs.length cap xs) (RN : InT w an names.length cn names) (RT : InTs w aw ts.length cw' ts) :
    Calls Try.prog 9 #[.agg #[.slice a xs.length cap], .slice an names.length cn, .slice aw ts.length cw'] w fun e w' => (∃ av cv, e = .returned (.tuple #[.agg #[.slice av (tpL names (ts.map Te.xs) xs).length cv], .bool (tpB names (ts.map Te.xs) xs)]) ∧ OTn w' w.heap.size av cv (tpL names (ts.map Te.xs) xs)) ∧ Below w.heap.size w w' := by
  have hzl := tsx_len ts
  have hzi := hd (fun i => tsx_getD (ts := ts) (i := i))
  have hfz := hd RT.fits
  have hfx := hd R.2.2.2.1
  have hnl := RN.len
  have htl : ts.length ≤ 9223372036854775807 := by have := Nat.le_trans RT.2.1 RT.2.2.1; unfold maxLen at this; omega
  generalize ts.map Te.xs = zs at *
  have e0 : Below w.heap.size w ((w.alloc (.cells #[.slice a xs.length cap] 32)).alloc (.cells #[.slice none 0 0] 32)) := (by repeat (first | exact Below.refl _ _ | refine Below.drew ?_ | refine old_alloc ?_ _ | refine old_trans ?_ (by assumption)))
  have K : Cl1 ((w.alloc (.cells #[.slice a xs.length cap] 32)).alloc (.cells #[.slice none 0 0] 32)) w.heap.size (.slice a xs.length cap) := (Cl1.made w _ rfl _ _).alloc _
  have V : Cl1 ((w.alloc (.cells #[.slice a xs.length cap] 32)).alloc (.cells #[.slice none 0 0] 32)) (w.heap.size + 1) (.slice none 0 0) := Cl1.made _ _ (by simp) _ _
  have TO := hd (sTermOk a xs.length cap xs _ (R.old e0))
  have no : ∀ {W : World}, tpB names zs xs = false → Below w.heap.size w W → Cl1 W (w.heap.size + 1) (.slice none 0 0) → Hid ((∃ av cv, Ending.returned (.tuple #[.agg #[.slice none 0 0], .bool false]) = .returned (.tuple #[.agg #[.slice av (tpL names zs xs).length cv], .bool (tpB names zs xs)]) ∧ OTn W w.heap.size av cv (tpL names zs xs)) ∧ Below w.heap.size w W) := fun h hb hv => by
    rw [tp_no h, h]
    exact ⟨⟨none, 0, rfl, OTn.none _ _⟩, hb⟩
  have nos := hd (fun (W : World) h hb hv => no (W := W) h hb hv)
  clear no
  have n1 := hd (tp_n1 (names := names) (zs := zs) (xs := xs))
  have n2 := hd (tp_n2 (names := names) (zs := zs) (xs := xs))
  have n3 := hd (tp_n3 (names := names) (zs := zs) (xs := xs))
  have n4 := hd (fun i => tp_n4 (names := names) (zs := zs) (xs := xs) (i := i))
  have n5 := hd (tp_n5 (names := names) (zs := zs) (xs := xs))
  have yy := hd (tp_y (names := names) (zs := zs) (xs := xs))
  have ye := hd (tp_yes (names := names) (zs := zs) (xs := xs))
  generalize hl1 : tpL names zs xs = rl at *
  generalize hb1 : tpB names zs xs = rb at *
  clear hl1 hb1
  go_enter Try.func9, Try.ntmps9
  go_wp2_with fail
  refine TO.out.mono ?_
  rintro e w1 ⟨rfl, hb1⟩
  replace K := K.later hb1
  replace V := V.later hb1
  have hb := old_trans e0 hb1
  clear e0 hb1 TO
  obtain ⟨K0, K1, K2⟩ := id K
  have lK1 := Nat.ne_of_lt K2
  have lK2 := Nat.ne_of_gt K2
  obtain ⟨V0, V1, V2⟩ := id V
  have lV1 := Nat.ne_of_lt V2
  have lV2 := Nat.ne_of_gt V2
  by_cases hok : okT xs = true
  case neg =>
    have hok' : okT xs = false := by simpa using hok
    rw [hok']
    go_wp2
    exact bodyPost_ret (resTPs (V.set _) rfl rfl) rfl (nos.out _ (n1.out hok') (hb.setCell (p := ⟨w.heap.size + 1, 0, none⟩) (by simp) _) (V.set _)).out
  rw [hok]
  by_cases c2 : names.length = ts.length
  case neg =>
    have c2' : ¬ (names.length : Int) = (ts.length : Int) := by omega
    have nn := hd (n2.out (by rw [hzl]; exact c2))
    go_wp2
    exact bodyPost_ret (resTPs (V.set _) rfl rfl) rfl (nos.out _ (nn.out) (hb.setCell (p := ⟨w.heap.size + 1, 0, none⟩) (by simp) _) (V.set _)).out
  by_cases c3 : names.length ≤ 100
  case neg =>
    have nn := hd (n3.out c3)
    have c3' : (100 : Int) < (names.length : Int) := by omega
    go_wp2
    exact bodyPost_ret (resTPs (V.set _) rfl rfl) rfl (nos.out _ (nn.out) (hb.setCell (p := ⟨w.heap.size + 1, 0, none⟩) (by simp) _) (V.set _)).out
  have hx100 : xs.length ≤ 100 := by
    by_cases g : xs.length ≤ 100
    · exact g
    · rw [okT_long g] at hok; cases hok
  replace hok := hd hok
  replace c2 := hd c2
  have c2' : (names.length : Int) = (ts.length : Int) := by have := c2.out; omega
  clear n1 n2 n3
  go_wp2
  go_loopw [8] (fun i wr => ∃ j : Nat, j ≤ ts.length ∧ i = .int .i64 (j : Int) ∧ Hid (∀ q, q < j → okT (zs.getD q []) = true) ∧ Cl1 wr w.heap.size (.slice a xs.length cap) ∧ Cl1 wr (w.heap.size + 1) (.slice none 0 0) ∧ Below w.heap.size w wr) (fun b _ => ts.length - (intOf b).toNat)
  case atStart => exact ⟨0, by omega, rfl, fun q h => by omega, K, V, hb⟩
  case round =>
    clear hb K V K0 K1 K2 lK1 lK2 V0 V1 V2 lV1 lV2
    obtain ⟨j, hj, rfl, hal, K, V, hb⟩ := hrel
    obtain ⟨K0, K1, K2⟩ := id K
    have lK1 := Nat.ne_of_lt K2
    have lK2 := Nat.ne_of_gt K2
    obtain ⟨V0, V1, V2⟩ := id V
    have lV1 := Nat.ne_of_lt V2
    have lV2 := Nat.ne_of_gt V2
    by_cases hlt : j < ts.length
    · obtain ⟨bl, off, t, rfl, hbl, hx, hf, c0⟩ := (RT.old hb).at hlt
      have TW := hd (sTermOk t.a t.xs.length t.c t.xs wr hf)
      have ez := hzi.out j hlt
      rw [hx] at ez
      replace ez := hd ez
      clear hx hf
      by_cases hw : okT t.xs = true
      case neg =>
        have hw' : okT t.xs = false := by simpa using hw
        rw [hw'] at TW
        have nn := hd (n4.out j (by omega) (by rw [ez.out]; exact hw'))
        clear hw hw' n4 n5 yy ye hal hzi
        go_wp2_with fail
        refine TW.out.mono ?_
        rintro e w2 ⟨rfl, hb2⟩
        replace V := V.later hb2
        replace hb := hb.trans (hb2.mono hb.size)
        clear V0 V1 V2 lV1 lV2
        obtain ⟨V0, V1, V2⟩ := id V
        have lV1 := Nat.ne_of_lt V2
        have lV2 := Nat.ne_of_gt V2
        go_wp2
        exact bodyPost_ret (resTPs (V.set _) rfl rfl) rfl (nos.out _ (nn.out) (hb.setCell (p := ⟨w.heap.size + 1, 0, none⟩) (by simp) _) (V.set _)).out
      rw [hw] at TW
      have hal2 : Hid (∀ q, q < j + 1 → okT (zs.getD q []) = true) := fun q hq => by
        by_cases e : q = j
        · rw [e, ez.out]; exact hw
        · exact hal.out q (by omega)
      clear hal hw ez
      go_wp2_with fail
      refine TW.out.mono ?_
      rintro e w2 ⟨rfl, hb2⟩
      replace K := K.later hb2
      replace V := V.later hb2
      replace hb := hb.trans (hb2.mono hb.size)
      go_wp2
      go_roundw
      case rel => exact ⟨j + 1, by omega, by go_num, hal2.out, K, V, hb⟩
      case measure => simp [intOf]; omega
    · obtain rfl : j = ts.length := by omega
      have hal2 : Hid (∀ i, i < zs.length → okT (zs.getD i []) = true) := fun i h => hal.out i (by rw [hzl] at h; exact h)
      clear hal
      clear n4
      obtain ⟨p9, hp9⟩ : ∃ p, wr.heap.size = p := ⟨_, rfl⟩
      have O : Cl1 (wr.alloc (.cells #[.slice none 0 0] 32)) wr.heap.size (.slice none 0 0) := Cl1.made _ _ rfl _ _
      have G0 := TnGrows.nil (wr.alloc (.cells #[.slice none 0 0] 32)) (p9 + 1)
      replace K := K.alloc (.cells #[.slice none 0 0] 32)
      replace V := V.alloc (.cells #[.slice none 0 0] 32)
      replace hb : Below w.heap.size w (wr.alloc (.cells #[.slice none 0 0] 32)) := hb.alloc hb.size _
      have hsz : p9 + 1 ≤ (wr.alloc (.cells #[.slice none 0 0] 32)).heap.size := by simp; omega
      have hpK : w.heap.size + 1 < p9 := by rw [← hp9]; exact V2
      obtain ⟨i0, hi, hz0, hz1, hz2⟩ := info_parts infoNode
      clear K0 K1 K2 lK1 lK2 V0 V1 V2 lV1 lV2
      go_wp2
      rw [hp9] at O
      (try simp only [hp9])
      generalize wr.alloc (.cells #[.slice none 0 0] 32) = W9 at *
      clear hp9
      go_loopw [10] (fun i wr => ∃ (q : Nat) (av : Option Addr) (cv : Nat) (L : List Tn), q ≤ xs.length ∧ i = .int .i64 (q : Int) ∧ Hid (putL names zs (xs.take q) = L) ∧ L.length ≤ 100 ∧ TnGrows wr (p9 + 1) (.slice av L.length cv) L ∧ Cl1 wr p9 (.slice av L.length cv) ∧ Cl1 wr w.heap.size (.slice a xs.length cap) ∧ Cl1 wr (w.heap.size + 1) (.slice none 0 0) ∧ p9 + 1 ≤ wr.heap.size ∧ Below w.heap.size w wr) (fun b _ => xs.length - (intOf b).toNat)
      case atStart => exact ⟨0, none, 0, [], by omega, rfl, rfl, by simp, G0, O, K, V, hsz, hb⟩
      case round =>
        clear hb K V O G0 hsz
        obtain ⟨q, av, cv, L, hq, rfl, eL0, hL, G, O, K, V, hsz, hb⟩ := hrel
        obtain ⟨K0, K1, K2⟩ := id K
        have lK1 := Nat.ne_of_lt K2
        have lK2 := Nat.ne_of_gt K2
        obtain ⟨V0, V1, V2⟩ := id V
        have lV1 := Nat.ne_of_lt V2
        have lV2 := Nat.ne_of_gt V2
        obtain ⟨O0, O1, O2⟩ := id O
        have lO1 := Nat.ne_of_lt O2
        have lO2 := Nat.ne_of_gt O2
        by_cases hlt : q < xs.length
        · obtain ⟨b, off, x, y, s, rfl, hbl, hxx, hf, c0, c1, c2n⟩ := (R.old hb).at hlt
          have lb1 := Nat.ne_of_lt hbl
          have lb2 := Nat.ne_of_gt hbl
          have hnext := hd (putL_next (names := names) (zs := zs) hlt)
          rw [hxx, eL0.out] at hnext
          replace hxx := hd hxx
          clear hf
          by_cases hk : x = 2
          · subst hk
            have SF := hd (sFind an names.length cn names s wr (RN.old hb))
            by_cases hz : 0 ≤ fndI names s
            · have hkt := fndI_lt hz
              have hpn := hd (putN_hit (names := names) (zs := zs) (x := ⟨2, y, s⟩) rfl hz)
              have hzk : (fndI names s).toNat < ts.length := by omega
              obtain ⟨k, hkk⟩ : ∃ k : Nat, fndI names s = (k : Int) := ⟨_, (Int.toNat_of_nonneg hz).symm⟩
              rw [hkk] at SF
              have ek : (fndI names s).toNat = k := by omega
              rw [ek] at hzk
              have ezk := hd (hzi.out k hzk)
              have epn : Hid (putN names zs ⟨2, y, s⟩ = (ts.getD k te0).xs) := by have := hpn.out; rw [ek] at this; exact this.trans ezk.out
              clear hpn ek hkk hz hkt
              have hi3 : (k : Int) < (ts.length : Int) := by omega
              go_wp2_with fail
              refine SF.out.mono ?_
              rintro e w2 ⟨rfl, hb2⟩
              replace K := K.later hb2
              replace V := V.later hb2
              replace O := O.later hb2
              replace G := G.later hb2
              replace hb := hb.trans (hb2.mono hb.size)
              replace hsz := Nat.le_trans hsz hb2.size
              clear K0 K1 K2 lK1 lK2 V0 V1 V2 lV1 lV2 O0 O1 O2 lO1 lO2 hb2 c0 c1 c2n lb1 lb2 hbl
              obtain ⟨K0, K1, K2⟩ := id K
              have lK1 := Nat.ne_of_lt K2
              have lK2 := Nat.ne_of_gt K2
              obtain ⟨V0, V1, V2⟩ := id V
              have lV1 := Nat.ne_of_lt V2
              have lV2 := Nat.ne_of_gt V2
              obtain ⟨O0, O1, O2⟩ := id O
              have lO1 := Nat.ne_of_lt O2
              have lO2 := Nat.ne_of_gt O2
              clear SF
              obtain ⟨t, ht⟩ : ∃ t, ts.getD k te0 = t := ⟨_, rfl⟩
              have htl100 : t.xs.length ≤ 100 := by
                have h1 := hal2.out k (by omega)
                rw [ezk.out, ht] at h1
                by_cases g : t.xs.length ≤ 100
                · exact g
                · rw [okT_long g] at h1; cases h1
              have hnx : Hid (putL names zs (xs.take (q + 1)) = L ++ t.xs) := by have := hnext.out; rw [epn.out, ht] at this; exact this
              clear hnext epn ezk
              replace ht := hd ht
              go_wp2
              go_loopw [12] (fun i wr => ∃ (j : Nat) (av : Option Addr) (cv : Nat) (M : List Tn), j ≤ t.xs.length ∧ i = .int .i64 (j : Int) ∧ Hid (L ++ t.xs.take j = M) ∧ M.length ≤ 200 ∧ TnGrows wr (p9 + 1) (.slice av M.length cv) M ∧ Cl1 wr p9 (.slice av M.length cv) ∧ Cl1 wr w.heap.size (.slice (some ⟨b, off, none⟩) xs.length cap) ∧ Cl1 wr (w.heap.size + 1) (.slice none 0 0) ∧ p9 + 1 ≤ wr.heap.size ∧ Below w.heap.size w wr) (fun b _ => t.xs.length - (intOf b).toNat)
              case atStart => exact ⟨0, av, cv, L, by omega, rfl, by show _ = _; simp, by omega, G, O, K, V, hsz, hb⟩
              case round =>
                clear hb K V O G hsz K0 K1 K2 lK1 lK2 V0 V1 V2 lV1 lV2 O0 O1 O2 lO1 lO2
                obtain ⟨j, av, cv, M, hj, rfl, eM, hM, G, O, K, V, hsz, hb⟩ := hrel
                obtain ⟨K0, K1, K2⟩ := id K
                have lK1 := Nat.ne_of_lt K2
                have lK2 := Nat.ne_of_gt K2
                obtain ⟨V0, V1, V2⟩ := id V
                have lV1 := Nat.ne_of_lt V2
                have lV2 := Nat.ne_of_gt V2
                obtain ⟨O0, O1, O2⟩ := id O
                have lO1 := Nat.ne_of_lt O2
                have lO2 := Nat.ne_of_gt O2
                obtain ⟨blT, offT, t2, rfl, hblT, hxT, hfT, cT⟩ := (RT.old hb).at hzk
                obtain rfl := ht.out.symm.trans hxT
                have lT1 := Nat.ne_of_lt hblT
                have lT2 := Nat.ne_of_gt hblT
                by_cases hlt3 : j < t.xs.length
                · obtain ⟨b, off, x, y, s, hta, hbl, hx3, hf3, c0, c1, c2n⟩ := InN.at hfT hlt3
                  have lb1 := Nat.ne_of_lt hbl
                  have lb2 := Nat.ne_of_gt hbl
                  rw [hta] at cT
                  have hnx3 : Hid (L ++ t.xs.take (j + 1) = M ++ [⟨x, y, s⟩]) := by
                    show _ = _
                    rw [take_next hlt3, hx3, ← List.append_assoc, eM.out]
                  have hM2 : M.length + 1 ≤ 200 := by
                    have h := congrArg List.length hnx3.out
                    simp only [List.length_append, List.length_take, List.length_cons, List.length_nil] at h
                    omega
                  clear hfT hxT hf3 hx3 hta
                  have O2 := (O.alloc (.cells #[.int .i64 x, .int .i64 y, .string s] 79)).drew
                  have K2 := (K.alloc (.cells #[.int .i64 x, .int .i64 y, .string s] 79)).drew
                  have V2 := (V.alloc (.cells #[.int .i64 x, .int .i64 y, .string s] 79)).drew
                  have G2 := (G.alloc (.cells #[.int .i64 x, .int .i64 y, .string s] 79)).drew
                  have B2 : Below w.heap.size w (wr.alloc (.cells #[.int .i64 x, .int .i64 y, .string s] 79)).drew := Below.drew (hb.alloc hb.size _)
                  have cw : ∀ i z, [Value.int IntKind.i64 x, Value.int IntKind.i64 y, Value.string s][i]? = some z → ((wr.alloc (.cells #[.int .i64 x, .int .i64 y, .string s] 79)).drew).cell? ((⟨wr.heap.size, 0, none⟩ : Addr).add i) = some z := cells_three wr wr.heap.size rfl _ _ _ _
                  go_wp2_with fail
                  go_region_law (refine step_append_lies _ (by rfl) _ _ 30 (by rfl) (p9 + 1) 79 i0 _ 3 32 Try.underlying30 hi hz0 hz1 hz2 rfl (by decide) _ _ _ (by rfl) G2 ⟨wr.heap.size, 0, none⟩ 1 1 [.int .i64 x, .int .i64 y, .string s] (by rfl) rfl cw (by simp [Value.oneCell']) (by decide) (by unfold maxLen; omega) (by omega) (by simp; omega) _ rfl ?_; intro g' cap' w5 hown hgrow hat hlt5; have O5 := O2.kept hgrow (G2.far (by omega)); have o5 := O5.1; have f5 := O5.2.1; have l5 := O5.2.2)
                  all_goals
                    have G5 : TnGrows w5 (p9 + 1) (.slice (some ⟨g', 0, none⟩) (M.length + 1) cap') (M ++ [⟨x, y, s⟩]) := by
                      unfold TnGrows
                      rw [tnvs_snoc, List.length_append]
                      exact hown
                    have K5 := K2.kept hgrow (G2.far (by omega))
                    have V5 := V2.kept hgrow (G2.far (by omega))
                    have B5 := B2.grown hgrow B2.size (fun c e => by have := (World.ownsRow.lt G2 c e).1; omega)
                    have S5 := hgrow.size
                    have hl5 : (M ++ [(⟨x, y, s⟩ : Tn)]).length = M.length + 1 := by simp
                    go_wp2
                    go_roundw
                    case rel => exact ⟨j + 1, _, _, _, by omega, by go_num, hnx3.out, by rw [hl5]; exact hM2, by rw [hl5]; exact G5.set (by omega) _, by rw [hl5]; exact O5.set _, K5.other (by omega) _, V5.other (by omega) _, by simp [World.setCell]; simp at S5; omega, B5.setCell (p := ⟨p9, 0, none⟩) (by simp; omega) _⟩
                    case measure => simp [intOf]; omega
                · obtain rfl : j = t.xs.length := by omega
                  have eM2 : Hid (putL names zs (xs.take (q + 1)) = M) := by have := eM.out; rw [List.take_length] at this; exact hnx.out.trans this
                  clear eM hnx hxT hfT
                  by_cases c5 : M.length ≤ 100
                  · go_wp2
                    go_roundw
                    case rel => exact ⟨q + 1, _, _, _, by omega, by go_num, eM2.out, c5, G, O, K, V, hsz, hb⟩
                    case measure => simp [intOf]; omega
                  · have nn := hd (n5.out (by have := putL_len (names := names) (zs := zs) (xs := xs) (q + 1); rw [eM2.out] at this; omega))
                    go_wp2
                    exact bodyPost_ret (resTPs (V.set _) rfl rfl) rfl (nos.out _ nn.out (hb.setCell (p := ⟨w.heap.size + 1, 0, none⟩) (by simp) _) (V.set _)).out
            · have hpn := putN_miss (names := names) (zs := zs) (x := ⟨2, y, s⟩) (fun h => hz h.2)
              have hnx : Hid (putL names zs (xs.take (q + 1)) = L ++ [⟨2, y, s⟩]) := by have := hnext.out; rw [hpn] at this; exact this
              clear hpn hnext
              have hz' : fndI names s < 0 := by omega
              generalize fndI names s = z at *
              go_wp2_with fail
              refine SF.out.mono ?_
              rintro e w2 ⟨rfl, hb2⟩
              replace K := K.later hb2
              replace V := V.later hb2
              replace O := O.later hb2
              replace G := G.later hb2
              replace hb := hb.trans (hb2.mono hb.size)
              replace hsz := Nat.le_trans hsz hb2.size
              replace c0 := (hb2.cell (p := ⟨b, off + q * 3, none⟩) hbl).trans c0
              replace c1 := (hb2.cell (p := ⟨b, off + q * 3 + 1, none⟩) hbl).trans c1
              replace c2n := (hb2.cell (p := ⟨b, off + q * 3 + 2, none⟩) hbl).trans c2n
              replace hbl := Nat.lt_of_lt_of_le hbl hb2.size
              clear lb1 lb2
              have lb1 := Nat.ne_of_lt hbl
              have lb2 := Nat.ne_of_gt hbl
              clear K0 K1 K2 lK1 lK2 V0 V1 V2 lV1 lV2 O0 O1 O2 lO1 lO2 hb2
              obtain ⟨K0, K1, K2⟩ := id K
              have lK1 := Nat.ne_of_lt K2
              have lK2 := Nat.ne_of_gt K2
              obtain ⟨V0, V1, V2⟩ := id V
              have lV1 := Nat.ne_of_lt V2
              have lV2 := Nat.ne_of_gt V2
              obtain ⟨O0, O1, O2⟩ := id O
              have lO1 := Nat.ne_of_lt O2
              have lO2 := Nat.ne_of_gt O2
              have O2 := (O.alloc (.cells #[.int .i64 2, .int .i64 y, .string s] 79)).drew
              have K2 := (K.alloc (.cells #[.int .i64 2, .int .i64 y, .string s] 79)).drew
              have V2 := (V.alloc (.cells #[.int .i64 2, .int .i64 y, .string s] 79)).drew
              have G2 := (G.alloc (.cells #[.int .i64 2, .int .i64 y, .string s] 79)).drew
              have B2 : Below w.heap.size w (w2.alloc (.cells #[.int .i64 2, .int .i64 y, .string s] 79)).drew := Below.drew (hb.alloc hb.size _)
              have cw : ∀ i z, [Value.int IntKind.i64 2, Value.int IntKind.i64 y, Value.string s][i]? = some z → ((w2.alloc (.cells #[.int .i64 2, .int .i64 y, .string s] 79)).drew).cell? ((⟨w2.heap.size, 0, none⟩ : Addr).add i) = some z := cells_three w2 w2.heap.size rfl _ _ _ _
              go_wp2_with fail
              go_region_law (refine step_append_lies _ (by rfl) _ _ 30 (by rfl) (p9 + 1) 79 i0 _ 3 32 Try.underlying30 hi hz0 hz1 hz2 rfl (by decide) _ _ _ (by rfl) G2 ⟨w2.heap.size, 0, none⟩ 1 1 [.int .i64 2, .int .i64 y, .string s] (by rfl) rfl cw (by simp [Value.oneCell']) (by decide) (by unfold maxLen; omega) (by omega) (by simp; omega) _ rfl ?_; intro g' cap' w5 hown hgrow hat hlt5; have O5 := O2.kept hgrow (G2.far (by omega)); have o5 := O5.1; have f5 := O5.2.1; have l5 := O5.2.2)
              all_goals
                have G5 : TnGrows w5 (p9 + 1) (.slice (some ⟨g', 0, none⟩) (L.length + 1) cap') (L ++ [⟨2, y, s⟩]) := by
                  unfold TnGrows
                  rw [tnvs_snoc, List.length_append]
                  exact hown
                have K5 := K2.kept hgrow (G2.far (by omega))
                have V5 := V2.kept hgrow (G2.far (by omega))
                have B5 := B2.grown hgrow B2.size (fun c e => by have := (World.ownsRow.lt G2 c e).1; omega)
                have S5 := hgrow.size
                have eL : Hid (putL names zs (xs.take (q + 1)) = L ++ [⟨2, y, s⟩]) := hnx
                have hl5 : (L ++ [(⟨2, y, s⟩ : Tn)]).length = L.length + 1 := by simp
                by_cases c5 : L.length + 1 ≤ 100
                · go_wp2
                  go_roundw
                  case rel => exact ⟨q + 1, _, _, _, by omega, by go_num, eL.out, by rw [hl5]; exact c5, by rw [hl5]; exact G5.set (by omega) _, by rw [hl5]; exact O5.set _, K5.other (by omega) _, V5.other (by omega) _, by simp [World.setCell]; simp at S5; omega, B5.setCell (p := ⟨p9, 0, none⟩) (by simp; omega) _⟩
                  case measure => simp [intOf]; omega
                · have nn := hd (n5.out (by have := putL_len (names := names) (zs := zs) (xs := xs) (q + 1); rw [eL.out, hl5] at this; omega))
                  have V6 := V5.other (c := p9) (by omega) (.slice (some ⟨g', 0, none⟩) (L.length + 1) cap')
                  have B6 := B5.setCell (p := ⟨p9, 0, none⟩) (by simp; omega) (.slice (some ⟨g', 0, none⟩) (L.length + 1) cap')
                  obtain ⟨v60, v61, v62⟩ := id V6
                  go_wp2
                  exact bodyPost_ret (resTPs (V6.set _) rfl rfl) rfl (nos.out _ nn.out (B6.setCell (p := ⟨w.heap.size + 1, 0, none⟩) (by simp) _) (V6.set _)).out
          · have hk' : (x == 2) = false := beq_eq_false_iff_ne.2 hk
            have hpn := putN_miss (names := names) (zs := zs) (x := ⟨x, y, s⟩) (fun h => hk h.1)
            have hnx : Hid (putL names zs (xs.take (q + 1)) = L ++ [⟨x, y, s⟩]) := by have := hnext.out; rw [hpn] at this; exact this
            clear hpn hnext hk
            have O2 := (O.alloc (.cells #[.int .i64 x, .int .i64 y, .string s] 79)).drew
            have K2 := (K.alloc (.cells #[.int .i64 x, .int .i64 y, .string s] 79)).drew
            have V2 := (V.alloc (.cells #[.int .i64 x, .int .i64 y, .string s] 79)).drew
            have G2 := (G.alloc (.cells #[.int .i64 x, .int .i64 y, .string s] 79)).drew
            have B2 : Below w.heap.size w (wr.alloc (.cells #[.int .i64 x, .int .i64 y, .string s] 79)).drew := Below.drew (hb.alloc hb.size _)
            have cw : ∀ i z, [Value.int IntKind.i64 x, Value.int IntKind.i64 y, Value.string s][i]? = some z → ((wr.alloc (.cells #[.int .i64 x, .int .i64 y, .string s] 79)).drew).cell? ((⟨wr.heap.size, 0, none⟩ : Addr).add i) = some z := cells_three wr wr.heap.size rfl _ _ _ _
            go_wp2_with fail
            go_region_law (refine step_append_lies _ (by rfl) _ _ 30 (by rfl) (p9 + 1) 79 i0 _ 3 32 Try.underlying30 hi hz0 hz1 hz2 rfl (by decide) _ _ _ (by rfl) G2 ⟨wr.heap.size, 0, none⟩ 1 1 [.int .i64 x, .int .i64 y, .string s] (by rfl) rfl cw (by simp [Value.oneCell']) (by decide) (by unfold maxLen; omega) (by omega) (by simp; omega) _ rfl ?_; intro g' cap' w5 hown hgrow hat hlt5; have O5 := O2.kept hgrow (G2.far (by omega)); have o5 := O5.1; have f5 := O5.2.1; have l5 := O5.2.2)
            all_goals
              have G5 : TnGrows w5 (p9 + 1) (.slice (some ⟨g', 0, none⟩) (L.length + 1) cap') (L ++ [⟨x, y, s⟩]) := by
                unfold TnGrows
                rw [tnvs_snoc, List.length_append]
                exact hown
              have K5 := K2.kept hgrow (G2.far (by omega))
              have V5 := V2.kept hgrow (G2.far (by omega))
              have B5 := B2.grown hgrow B2.size (fun c e => by have := (World.ownsRow.lt G2 c e).1; omega)
              have S5 := hgrow.size
              have eL : Hid (putL names zs (xs.take (q + 1)) = L ++ [⟨x, y, s⟩]) := hnx
              have hl5 : (L ++ [(⟨x, y, s⟩ : Tn)]).length = L.length + 1 := by simp
              by_cases c5 : L.length + 1 ≤ 100
              · go_wp2
                go_roundw
                case rel => exact ⟨q + 1, _, _, _, by omega, by go_num, eL.out, by rw [hl5]; exact c5, by rw [hl5]; exact G5.set (by omega) _, by rw [hl5]; exact O5.set _, K5.other (by omega) _, V5.other (by omega) _, by simp [World.setCell]; simp at S5; omega, B5.setCell (p := ⟨p9, 0, none⟩) (by simp; omega) _⟩
                case measure => simp [intOf]; omega
              · have nn := hd (n5.out (by have := putL_len (names := names) (zs := zs) (xs := xs) (q + 1); rw [eL.out, hl5] at this; omega))
                have V6 := V5.other (c := p9) (by omega) (.slice (some ⟨g', 0, none⟩) (L.length + 1) cap')
                have B6 := B5.setCell (p := ⟨p9, 0, none⟩) (by simp; omega) (.slice (some ⟨g', 0, none⟩) (L.length + 1) cap')
                obtain ⟨v60, v61, v62⟩ := id V6
                go_wp2
                exact bodyPost_ret (resTPs (V6.set _) rfl rfl) rfl (nos.out _ nn.out (B6.setCell (p := ⟨w.heap.size + 1, 0, none⟩) (by simp) _) (V6.set _)).out
        · obtain rfl : q = xs.length := by omega
          have eL1 : putL names zs xs = L := by have := eL0.out; rw [putL_all] at this; exact this
          have e2 := yy.out hok.out (by rw [hzl]; exact c2.out) c3 hal2.out (by rw [eL1]; exact hL)
          have e1 : rl = L := (ye.out e2).trans eL1
          have hfit : TnFits L := by rw [← eL1]; exact putL_fits hfx.out hfz.out
          obtain ⟨av2, cv2, hv, ho⟩ := G.o hfit
          obtain ⟨rfl, rfl⟩ : av = av2 ∧ cv = cv2 := by injection hv with h1 h2 h3; exact ⟨h1, h3⟩
          have ho2 := (ho.kept (grown_cell wr (w.heap.size + 1) (.slice av L.length cv)) (fun q e h => by injection h with h; have := ho.ge q e; omega)).mono (base' := w.heap.size) (by omega)
          replace ho2 := hd ho2
          clear hv ho hfit
          subst e1 e2
          clear eL1 eL0
          go_wp2
          exact bodyPost_ret (resTPs (V.set _) rfl rfl) rfl ⟨⟨av, cv, rfl, ho2.out⟩, hb.setCell (p := ⟨w.heap.size + 1, 0, none⟩) (by simp) _⟩
end Go.Proofs.Ytcdhmimbnnicnaa

/- TermPut of the program: what stands for a node, and which terms are none. No condition but that the lists are there. -/
namespace Go.Proofs.Ytcdhmimbnnicnaa
open Go.RowKit
set_option linter.unusedVariables false
set_option maxRecDepth 100000

theorem addr_add (b o j : Nat) : (⟨b, o, none⟩ : Addr).add j = ⟨b, o + j, none⟩ := by
  by_cases h : j = 0
  · subst h; simp [Addr.add]
  · simp [Addr.add, h]
theorem InN.news {w : World} {a : Option Addr} {len cap : Nat} {xs : List Tn} (h : InN w a len cap xs) (h0 : 0 < len) : ∃ b off : Nat, a = some ⟨b, off, none⟩ ∧ b < w.heap.size ∧ ∀ j u, (tnvs xs)[j]? = some u → w.cell? ((⟨b, off, none⟩ : Addr).add j) = some u := by
  rcases h.2.2.2.2 with g | ⟨b, off, e, hb, hc⟩
  · omega
  · refine ⟨b, off, e, hb, fun j u hj => ?_⟩
    rw [addr_add]
    have hjl : j < (tnvs xs).length := (List.getElem?_eq_some_iff.1 hj).1
    rw [tnvs_len] at hjl
    have hi : j / 3 < xs.length := by omega
    have hf : j % 3 < 3 := by omega
    have hd : j = j / 3 * 3 + j % 3 := by omega
    rw [hd, tnvs_get xs _ _ hi hf] at hj
    obtain ⟨q0, q1, q2⟩ := hc (j / 3) (by have := h.1; omega)
    have h3 : j % 3 = 0 ∨ j % 3 = 1 ∨ j % 3 = 2 := by omega
    rcases h3 with g | g | g
    · rw [g] at hj; obtain rfl := Option.some.inj hj
      rw [show off + j = off + j / 3 * 3 by omega]; exact q0
    · rw [g] at hj; obtain rfl := Option.some.inj hj
      rw [show off + j = off + j / 3 * 3 + 1 by omega]; exact q1
    · rw [g] at hj; obtain rfl := Option.some.inj hj
      rw [show off + j = off + j / 3 * 3 + 2 by omega]; exact q2
set_option maxHeartbeats 2000000 in
theorem iFind (a : Option Addr) (len cap : Nat) (names : List ByteArray) (s : ByteArray) (w : World) (hR : InT w a len cap names) :
    Calls Try.prog 93 #[.slice a len cap, .string s] w fun e w' => e = .returned (.int .i64 (fndI names s)) ∧ Below w.heap.size w w' := by
  have hlen := hR.len
  have hp := hR.1
  have miss := hd (fndI_miss (names := names) (s := s))
  have hit := hd (fun j => fndI_hit (names := names) (s := s) (j := j))
  generalize fndI names s = r at *
  go_enter Try.func93, Try.ntmps93
  go_wp2
  go_loopw [8] (fun i wr => ∃ j : Nat, j ≤ len ∧ i = .int .i64 j ∧ Hid (∀ q, q < j → names.getD q ⟨#[]⟩ ≠ s) ∧ Below w.heap.size w wr) (fun b _ => len - (intOf b).toNat)
  case atStart => exact ⟨0, by omega, rfl, fun q h => by omega, (by repeat (first | exact Below.refl _ _ | refine Below.drew ?_ | refine old_alloc ?_ _ | refine old_trans ?_ (by assumption)))⟩
  case round =>
    obtain ⟨j, hk, rfl, hne, hb⟩ := hrel
    by_cases hlt : j < len
    · obtain ⟨b, off, x, rfl, hbl, hx, -, c0⟩ := (hR.old hb).at hlt
      by_cases e : x = s
      · have er := hd (hit.out j hne.out (by omega) (by rw [hx, e]))
        clear hx hne miss hit
        subst e
        go_wp2
        go_ret
        exact ⟨by rw [er.out]; rfl, hb⟩
      · have ne : Hid (∀ q, q < j + 1 → names.getD q ⟨#[]⟩ ≠ s) := fun q hq => by
          by_cases e2 : q = j
          · rw [e2, hx]; exact e
          · exact hne.out q (by omega)
        have e3 : (s.toList == x.toList) = false := beq_eq_false_iff_ne.2 (fun h => e (bytes_inj h).symm)
        clear hx hne miss hit
        go_wp2
        all_goals go_roundw
        case rel => exact ⟨j + 1, by omega, by go_num, ne.out, hb⟩
        case measure => simp [intOf]; omega
    · obtain rfl : j = len := by omega
      have er := hd (miss.out (fun q hq => hne.out q (by omega)))
      clear hne miss hit
      go_wp2
      go_ret
      exact ⟨by rw [er.out]; rfl, hb⟩
set_option maxHeartbeats 2000000 in
theorem iWrong (a : Option Addr) (len cap : Nat) (xs : List Tn) (w : World) (hR : InN w a len cap xs) :
    Calls Try.prog 41 #[.agg #[.slice a len cap]] w fun e w' => e = .returned (.bool (!okT xs)) ∧ Below w.heap.size w w' := by
  have e0 : Below w.heap.size w (w.alloc (.cells #[.slice a len cap] 32)) := (by repeat (first | exact Below.refl _ _ | refine Below.drew ?_ | refine old_alloc ?_ _ | refine old_trans ?_ (by assumption)))
  have TO := hd (iTermOk a len cap xs _ (hR.old e0))
  clear hR
  generalize okT xs = r at *
  go_enter Try.func41, Try.ntmps41
  go_wp2_with fail
  refine TO.out.mono ?_
  rintro e w1 ⟨rfl, hb1⟩
  go_wp2
  go_ret
  exact ⟨rfl, old_trans e0 hb1⟩
/-- a place where there is one that is none, or below 0 -/
def BadAt (zs : List (List Tn)) (z : Int) : Prop := (0 ≤ z → ∃ i, i < zs.length ∧ okT (zs.getD i []) = false) ∧ (z < 0 → ∀ i, i < zs.length → okT (zs.getD i []) = true)
set_option maxHeartbeats 2000000 in
theorem iIndexTe (a : Option Addr) (cap : Nat) (ts : List Te) (w : World) (hR : InTs w a ts.length cap ts) :
    Calls Try.prog 92 #[.slice a ts.length cap, .func (.func 41) #[] #[]] w fun e w' => (∃ z : Int, e = .returned (.int .i64 z) ∧ BadAt (ts.map Te.xs) z) ∧ Below w.heap.size w w' := by
  have htl : ts.length ≤ 9223372036854775807 := by have := Nat.le_trans hR.2.1 hR.2.2.1; unfold maxLen at this; omega
  have hzl := tsx_len ts
  have hzi := hd (fun i => tsx_getD (ts := ts) (i := i))
  generalize ts.map Te.xs = zs at *
  go_enter Try.func92, Try.ntmps92
  go_wp2
  go_loopw [8] (fun i wr => ∃ j : Nat, j ≤ ts.length ∧ i = .int .i64 (j : Int) ∧ Hid (∀ q, q < j → okT (zs.getD q []) = true) ∧ Below w.heap.size w wr) (fun b _ => ts.length - (intOf b).toNat)
  case atStart => exact ⟨0, by omega, rfl, fun q h => by omega, (by repeat (first | exact Below.refl _ _ | refine Below.drew ?_ | refine old_alloc ?_ _ | refine old_trans ?_ (by assumption)))⟩
  case round =>
    obtain ⟨j, hk, rfl, hal, hb⟩ := hrel
    by_cases hlt : j < ts.length
    · obtain ⟨bl, off, t, rfl, hbl, hx, hf, c0⟩ := (hR.old hb).at hlt
      have TW := hd (iWrong t.a t.xs.length t.c t.xs wr hf)
      have ez := hd ((hzi.out j hlt).trans (by rw [hx]))
      clear hx hf
      by_cases hw : okT t.xs = true
      case neg =>
        have hw' : okT t.xs = false := by simpa using hw
        rw [hw'] at TW
        have yes : Hid (∃ i, i < zs.length ∧ okT (zs.getD i []) = false) := ⟨j, by omega, by rw [ez.out]; exact hw'⟩
        clear hw hw' hal hzi
        go_wp2_with fail
        refine TW.out.mono ?_
        rintro e w2 ⟨rfl, hb2⟩
        have hj0 : (0 : Int) ≤ (j : Int) := by omega
        go_wp2
        go_ret
        exact ⟨⟨_, rfl, ⟨fun _ => yes.out, fun h => by omega⟩⟩, hb.trans (hb2.mono hb.size)⟩
      rw [hw] at TW
      have hal2 : Hid (∀ q, q < j + 1 → okT (zs.getD q []) = true) := fun q hq => by
        by_cases e : q = j
        · rw [e, ez.out]; exact hw
        · exact hal.out q (by omega)
      clear hal hw ez
      go_wp2_with fail
      refine TW.out.mono ?_
      rintro e w2 ⟨rfl, hb2⟩
      go_wp2
      go_roundw
      case rel => exact ⟨j + 1, by omega, by go_num, hal2.out, hb.trans (hb2.mono hb.size)⟩
      case measure => simp [intOf]; omega
    · obtain rfl : j = ts.length := by omega
      have fin : Hid (∀ i, i < zs.length → okT (zs.getD i []) = true) := fun i h => hal.out i (by omega)
      clear hal
      go_wp2
      go_ret
      exact ⟨⟨_, rfl, ⟨fun h => by omega, fun _ => fin.out⟩⟩, hb⟩
set_option maxHeartbeats 1000000 in
theorem iContainsTe (a : Option Addr) (cap : Nat) (ts : List Te) (w : World) (hR : InTs w a ts.length cap ts) :
    Calls Try.prog 43 #[.slice a ts.length cap, .func (.func 41) #[] #[]] w fun e w' => (∃ z : Int, e = .returned (.bool (decide (0 ≤ z))) ∧ BadAt (ts.map Te.xs) z) ∧ Below w.heap.size w w' := by
  have H := hd (iIndexTe a cap ts w hR)
  clear hR
  go_enter Try.func43, Try.ntmps43
  go_wp2_with fail
  refine H.out.mono ?_
  rintro e w1 ⟨⟨z, rfl, hz⟩, hb⟩
  replace hz := hd hz
  go_wp2
  go_ret
  exact ⟨⟨z, rfl, hz.out⟩, hb⟩
end Go.Proofs.Ytcdhmimbnnicnaa

/- nodesFor of the program: what stands for a node. No condition but that the lists are there. -/
namespace Go.Proofs.Ytcdhmimbnnicnaa
open Go.RowKit
set_option linter.unusedVariables false
set_option maxRecDepth 100000

set_option maxHeartbeats 4000000 in
theorem iNodesFor (x y : Int) (s : ByteArray) (hf : Tn.fit ⟨x, y, s⟩) (an : Option Addr) (cn : Nat) (names : List ByteArray) (aw : Option Addr) (cw' : Nat) (ts : List Te) (w : World) (RN : InT w an names.length cn names) (RT : InTs w aw ts.length cw' ts) (hl : names.length = ts.length) :
    Calls Try.prog 44 #[.agg #[.int .i64 x, .int .i64 y, .string s], .slice an names.length cn, .slice aw ts.length cw'] w fun e w' => (∃ av cv, e = .returned (.slice av (putN names (ts.map Te.xs) ⟨x, y, s⟩).length cv) ∧ InN w' av (putN names (ts.map Te.xs) ⟨x, y, s⟩).length cv (putN names (ts.map Te.xs) ⟨x, y, s⟩)) ∧ Below w.heap.size w w' := by
  have e0 : Below w.heap.size w (w.alloc (.cells #[.int .i64 x, .int .i64 y, .string s] 79)) := (by repeat (first | exact Below.refl _ _ | refine Below.drew ?_ | refine old_alloc ?_ _ | refine old_trans ?_ (by assumption)))
  have N := CS.made w _ rfl #[.int .i64 x, .int .i64 y, .string s] 79
  have SF := hd (iFind an names.length cn names s _ (RN.old e0))
  have htl : ts.length ≤ 9223372036854775807 := by have := Nat.le_trans RT.2.1 RT.2.2.1; unfold maxLen at this; omega
  have n0 := N.cell 0 _ rfl
  have n1 := N.cell 1 _ rfl
  have n2 := N.cell 2 _ rfl
  have one : ∀ W : World, InN (W.alloc (.cells #[.int .i64 x, .int .i64 y, .string s] 79)) (some ⟨W.heap.size, 0, none⟩) 1 1 [⟨x, y, s⟩] := fun W => by
    refine ⟨rfl, Nat.le_refl _, by unfold maxLen; omega, fun z hz => by rw [List.mem_singleton.1 hz]; exact hf, .inr ⟨_, 0, rfl, by simp, fun i hi => ?_⟩⟩
    obtain rfl : i = 0 := by omega
    exact ⟨by simp, by simp, by simp⟩
  replace one := hd one
  clear hf
  have hit : Hid (x = 2 → ∀ k : Nat, fndI names s = (k : Int) → k < ts.length → putN names (ts.map Te.xs) ⟨x, y, s⟩ = (ts.getD k te0).xs) := fun hx k hk hlt => by
    have h := putN_hit (names := names) (zs := ts.map Te.xs) (x := ⟨x, y, s⟩) hx (by show 0 ≤ fndI names s; omega)
    rw [show (fndI names s).toNat = k by omega, tsx_getD hlt] at h
    exact h
  have miss : Hid (¬ (x = 2 ∧ 0 ≤ fndI names s) → putN names (ts.map Te.xs) ⟨x, y, s⟩ = [⟨x, y, s⟩]) := fun h => putN_miss h
  have flt : Hid (0 ≤ fndI names s → (fndI names s).toNat < names.length) := fun h => fndI_lt h
  generalize putN names (ts.map Te.xs) ⟨x, y, s⟩ = Z at *
  generalize fndI names s = z at *
  replace hl := hd hl
  go_enter Try.func44, Try.ntmps44
  go_wp2_with fail
  refine SF.out.mono ?_
  rintro e w1 ⟨rfl, hb1⟩
  have hb := old_trans e0 hb1
  replace N := N.later hb1
  clear n0 n1 n2 hb1 SF
  have n0 := N.cell 0 _ rfl
  have n1 := N.cell 1 _ rfl
  have n2 := N.cell 2 _ rfl
  by_cases hx : x = 2
  · by_cases hz : 0 ≤ z
    · have hzk := flt.out hz
      obtain ⟨k, rfl⟩ : ∃ k : Nat, z = (k : Int) := ⟨_, (Int.toNat_of_nonneg hz).symm⟩
      have hkt : k < ts.length := by have := hl.out; omega
      have eZ := hit.out hx k rfl hkt
      subst hx
      obtain ⟨bl, off, t, rfl, hbl, hxt, hft, c0⟩ := (RT.old hb).at hkt
      rw [hxt] at eZ
      subst eZ
      replace hft := hd hft
      clear hit miss flt hzk hz hxt
      have hi3 : (k : Int) < (ts.length : Int) := by omega
      go_wp2
      go_ret
      exact ⟨⟨_, _, rfl, hft.out⟩, hb⟩
    · have eZ := miss.out (fun h => hz h.2)
      subst hx eZ
      have hz' : z < 0 := by omega
      clear hz hit miss flt
      go_wp2
      go_ret
      exact ⟨⟨_, _, rfl, one.out w1⟩, old_alloc hb _⟩
  · have eZ := miss.out (fun h => hx h.1)
    subst eZ
    have hx' : ¬ (x = 2) := hx
    clear hit miss flt hx
    go_wp2
    go_ret
    exact ⟨⟨_, _, rfl, one.out w1⟩, old_alloc hb _⟩
end Go.Proofs.Ytcdhmimbnnicnaa

/- TermPut of the program at every argument. No condition but that the lists are there. -/
namespace Go.Proofs.Ytcdhmimbnnicnaa
open Go.RowKit
set_option linter.unusedVariables false
set_option maxRecDepth 100000

theorem okT_pos {xs : List Tn} (h : okT xs = true) : 0 < xs.length := by
  cases xs with
  | nil => simp [okT, runT] at h
  | cons x xs => simp
theorem resTPi {W : World} {b : Nat} {v r : Value} {tmps : Array Value} (h : Cl1 W b v) (ht : tmps[6]? = some (.pointer (some ⟨b, 0, none⟩))) (h3 : tmps[7]? = some r) : (results Try.f13 tmps).run Try.prog W = .ok (.tuple #[.agg #[v], r]) W := by
  simp [results, Try.results13, go_sem, h.1, ht, h3]
set_option maxRecDepth 100000 in
set_option maxHeartbeats 16000000 in
theorem iTermPut (a : Option Addr) (cap : Nat) (xs : List Tn) (an : Option Addr) (cn : Nat) (names : List ByteArray) (aw : Option Addr) (cw' : Nat) (ts : List Te) (w : World) (R : InN w a xs.length cap xs) (RN : InT w an names.length cn names) (RT : InTs w aw ts.length cw' ts) :
    Calls Try.prog 13 #[.agg #[.slice a xs.length cap], .slice an names.length cn, .slice aw ts.length cw'] w fun e w' => (∃ av cv, e = .returned (.tuple #[.agg #[.slice av (tpL names (ts.map Te.xs) xs).length cv], .bool (tpB names (ts.map Te.xs) xs)]) ∧ OTn w' w.heap.size av cv (tpL names (ts.map Te.xs) xs)) ∧ Below w.heap.size w w' := by
  have hzl := tsx_len ts
  have hzi := hd (fun i => tsx_getD (ts := ts) (i := i))
  have hfz := hd RT.fits
  have hfx := hd R.2.2.2.1
  have hnl := RN.len
  have htl : ts.length ≤ 9223372036854775807 := by have := Nat.le_trans RT.2.1 RT.2.2.1; unfold maxLen at this; omega
  obtain ⟨zs, hzs⟩ : ∃ zs, zs = ts.map Te.xs := ⟨_, rfl⟩
  rw [← hzs] at hzl hfz ⊢
  replace hzi := hd (fun i (h : i < ts.length) => (show zs.getD i [] = (ts.getD i te0).xs by rw [hzs]; exact hzi.out i h))
  have e0 : Below w.heap.size w ((w.alloc (.cells #[.slice a xs.length cap] 32)).alloc (.cells #[.slice none 0 0] 32)) := (by repeat (first | exact Below.refl _ _ | refine Below.drew ?_ | refine old_alloc ?_ _ | refine old_trans ?_ (by assumption)))
  have K : Cl1 ((w.alloc (.cells #[.slice a xs.length cap] 32)).alloc (.cells #[.slice none 0 0] 32)) w.heap.size (.slice a xs.length cap) := (Cl1.made w _ rfl _ _).alloc _
  have V : Cl1 ((w.alloc (.cells #[.slice a xs.length cap] 32)).alloc (.cells #[.slice none 0 0] 32)) (w.heap.size + 1) (.slice none 0 0) := Cl1.made _ _ (by simp) _ _
  have no : ∀ {W : World}, tpB names zs xs = false → Below w.heap.size w W → Cl1 W (w.heap.size + 1) (.slice none 0 0) → Hid ((∃ av cv, Ending.returned (.tuple #[.agg #[.slice none 0 0], .bool false]) = .returned (.tuple #[.agg #[.slice av (tpL names zs xs).length cv], .bool (tpB names zs xs)]) ∧ OTn W w.heap.size av cv (tpL names zs xs)) ∧ Below w.heap.size w W) := fun h hb hv => by
    rw [tp_no h, h]
    exact ⟨⟨none, 0, rfl, OTn.none _ _⟩, hb⟩
  have nos := hd (fun (W : World) h hb hv => no (W := W) h hb hv)
  clear no
  have n1 := hd (tp_n1 (names := names) (zs := zs) (xs := xs))
  have n2 := hd (tp_n2 (names := names) (zs := zs) (xs := xs))
  have n3 := hd (tp_n3 (names := names) (zs := zs) (xs := xs))
  have n4 := hd (fun i => tp_n4 (names := names) (zs := zs) (xs := xs) (i := i))
  have n5 := hd (tp_n5 (names := names) (zs := zs) (xs := xs))
  have yy := hd (tp_y (names := names) (zs := zs) (xs := xs))
  have ye := hd (tp_yes (names := names) (zs := zs) (xs := xs))
  generalize hl1 : tpL names zs xs = rl at *
  generalize hb1 : tpB names zs xs = rb at *
  clear hl1 hb1
  replace hzi := hd hzi.out
  have hnl2 := hd hnl
  go_enter Try.func13, Try.ntmps13
  go_upto_region 1 with fail
  generalize (w.alloc (.cells #[.slice a xs.length cap] 32)).alloc (.cells #[.slice none 0 0] 32) = W0 at *
  obtain ⟨K0, K1, K2⟩ := id K
  have lK1 := Nat.ne_of_lt K2
  have lK2 := Nat.ne_of_gt K2
  obtain ⟨V0, V1, V2⟩ := id V
  have lV1 := Nat.ne_of_lt V2
  have lV2 := Nat.ne_of_gt V2
  by_cases c2 : names.length = ts.length
  case neg =>
    have c2' : ¬ (names.length : Int) = (ts.length : Int) := by omega
    have nn := hd (n2.out (by rw [hzl]; exact c2))
    go_wp2
    exact bodyPost_ret (resTPi (V.set _) rfl rfl) rfl (nos.out _ (nn.out) (e0.setCell (p := ⟨w.heap.size + 1, 0, none⟩) (by simp) _) (V.set _)).out
  by_cases c3 : names.length ≤ 100
  case neg =>
    have nn := hd (n3.out c3)
    have c3' : (100 : Int) < (names.length : Int) := by omega
    have c2' : (names.length : Int) = (ts.length : Int) := by omega
    replace c2 := hd c2
    go_wp2
    exact bodyPost_ret (resTPi (V.set _) rfl rfl) rfl (nos.out _ (nn.out) (e0.setCell (p := ⟨w.heap.size + 1, 0, none⟩) (by simp) _) (V.set _)).out
  have c2' : (names.length : Int) = (ts.length : Int) := by omega
  replace c2 := hd c2
  clear n2 n3
  have TO := hd (iWrong a xs.length cap xs _ (R.old e0))
  go_wp2_with fail
  refine TO.out.mono ?_
  rintro e w1 ⟨rfl, hb1⟩
  replace K := K.later hb1
  replace V := V.later hb1
  have hb := old_trans e0 hb1
  clear e0 hb1 TO K0 K1 K2 lK1 lK2 V0 V1 V2 lV1 lV2
  obtain ⟨K0, K1, K2⟩ := id K
  have lK1 := Nat.ne_of_lt K2
  have lK2 := Nat.ne_of_gt K2
  obtain ⟨V0, V1, V2⟩ := id V
  have lV1 := Nat.ne_of_lt V2
  have lV2 := Nat.ne_of_gt V2
  by_cases hok : okT xs = true
  case neg =>
    have hok' : okT xs = false := by simpa using hok
    rw [hok']
    go_wp2
    exact bodyPost_ret (resTPi (V.set _) rfl rfl) rfl (nos.out _ (n1.out hok') (hb.setCell (p := ⟨w.heap.size + 1, 0, none⟩) (by simp) _) (V.set _)).out
  rw [hok]
  have hx100 : xs.length ≤ 100 := by
    by_cases g : xs.length ≤ 100
    · exact g
    · rw [okT_long g] at hok; cases hok
  replace hok := hd hok
  have CF := hd (iContainsTe aw cw' ts _ (RT.old hb))
  rw [← hzs] at CF
  go_wp2_with fail
  refine CF.out.mono ?_
  rintro e w2 ⟨⟨z, rfl, hz1, hz2⟩, hb2⟩
  replace K := K.later hb2
  replace V := V.later hb2
  replace hb := hb.trans (hb2.mono hb.size)
  clear hb2 CF K0 K1 K2 lK1 lK2 V0 V1 V2 lV1 lV2 n1
  obtain ⟨K0, K1, K2⟩ := id K
  have lK1 := Nat.ne_of_lt K2
  have lK2 := Nat.ne_of_gt K2
  obtain ⟨V0, V1, V2⟩ := id V
  have lV1 := Nat.ne_of_lt V2
  have lV2 := Nat.ne_of_gt V2
  by_cases hz0 : 0 ≤ z
  · rw [decide_eq_true hz0]
    obtain ⟨i, hi, hbad⟩ := hz1 hz0
    have nn := hd (n4.out i hi hbad)
    clear hz1 hz2 hi hbad n4
    go_wp2
    exact bodyPost_ret (resTPi (V.set _) rfl rfl) rfl (nos.out _ (nn.out) (hb.setCell (p := ⟨w.heap.size + 1, 0, none⟩) (by simp) _) (V.set _)).out
  rw [decide_eq_false hz0]
  have hal2 : Hid (∀ i, i < zs.length → okT (zs.getD i []) = true) := hz2 (by omega)
  clear hz1 hz2 n4 hz0
  obtain ⟨p9, hp9⟩ : ∃ p, w2.heap.size = p := ⟨_, rfl⟩
  have O : Cl1 (w2.alloc (.cells #[.slice none 0 0] 32)) w2.heap.size (.slice none 0 0) := Cl1.made _ _ rfl _ _
  have G0 := TnGrows.nil (w2.alloc (.cells #[.slice none 0 0] 32)) (p9 + 1)
  replace K := K.alloc (.cells #[.slice none 0 0] 32)
  have V9 := V.alloc (.cells #[.slice none 0 0] 32)
  replace hb : Below w.heap.size w (w2.alloc (.cells #[.slice none 0 0] 32)) := hb.alloc hb.size _
  have hsz : p9 + 1 ≤ (w2.alloc (.cells #[.slice none 0 0] 32)).heap.size := by simp; omega
  have hpK : w.heap.size + 1 < p9 := by rw [← hp9]; exact V2
  obtain ⟨i0, hi, hz0, hz1, hz2⟩ := info_parts infoNode
  replace V := V9
  clear K0 K1 K2 lK1 lK2 V0 V1 V2 lV1 lV2 V9
  obtain ⟨K0, K1, K2⟩ := id K
  have lK1 := Nat.ne_of_lt K2
  have lK2 := Nat.ne_of_gt K2
  go_wp2
  rw [hp9] at O
  (try simp only [hp9])
  generalize w2.alloc (.cells #[.slice none 0 0] 32) = W9 at *
  clear hp9 K0 K1 K2 lK1 lK2
  go_loopw [35] (fun i wr => ∃ (q : Nat) (av : Option Addr) (cv : Nat) (L : List Tn), q ≤ xs.length ∧ i = .int .i64 (q : Int) ∧ Hid (putL names zs (xs.take q) = L) ∧ L.length ≤ 100 * q ∧ TnGrows wr (p9 + 1) (.slice av L.length cv) L ∧ Cl1 wr p9 (.slice av L.length cv) ∧ Cl1 wr w.heap.size (.slice a xs.length cap) ∧ Cl1 wr (w.heap.size + 1) (.slice none 0 0) ∧ p9 + 1 ≤ wr.heap.size ∧ Below w.heap.size w wr) (fun b _ => xs.length - (intOf b).toNat)
  case atStart => exact ⟨0, none, 0, [], by omega, rfl, rfl, by simp, G0, O, K, V, hsz, hb⟩
  case round =>
    clear hb K V O G0 hsz
    obtain ⟨q, av, cv, L, hq, rfl, eL0, hL, G, O, K, V, hsz, hb⟩ := hrel
    by_cases hlt : q < xs.length
    · obtain ⟨b, off, x, y, s, rfl, hbl, hxx, hf, c0, c1, c2n⟩ := (R.old hb).at hlt
      have lb1 := Nat.ne_of_lt hbl
      have lb2 := Nat.ne_of_gt hbl
      have hnext := hd (putL_next (names := names) (zs := zs) hlt)
      rw [hxx, eL0.out] at hnext
      clear hxx
      have NF := hd (fun W (h : Below w.heap.size w W) => iNodesFor x y s hf an cn names aw cw' ts W (RN.old h) (RT.old h) c2.out)
      rw [← hzs] at NF
      have hzz : Hid (0 < (putN names zs ⟨x, y, s⟩).length ∧ (putN names zs ⟨x, y, s⟩).length ≤ 100) := by
        by_cases g : x = 2 ∧ 0 ≤ fndI names s
        · have e1 := putN_hit (names := names) (zs := zs) (x := ⟨x, y, s⟩) g.1 g.2
          have e2 := fndI_lt g.2
          have e3 := hal2.out (fndI names s).toNat (by have := c2.out; omega)
          show 0 < _ ∧ _
          rw [e1]
          constructor
          · exact okT_pos e3
          · by_cases gg : (zs.getD (fndI names s).toNat []).length ≤ 100
            · exact gg
            · rw [okT_long gg] at e3; cases e3
        · show 0 < _ ∧ _
          rw [putN_miss (names := names) (zs := zs) (x := ⟨x, y, s⟩) g]
          exact ⟨by simp, by simp⟩
      clear hf
      generalize putN names zs ⟨x, y, s⟩ = Z at *
      obtain ⟨hZ0, hZ1⟩ := hzz.out
      have G' := G.alloc (.cells #[.int .i64 x, .int .i64 y, .string s] 79)
      have O' := O.alloc (.cells #[.int .i64 x, .int .i64 y, .string s] 79)
      have K' := K.alloc (.cells #[.int .i64 x, .int .i64 y, .string s] 79)
      have V' := V.alloc (.cells #[.int .i64 x, .int .i64 y, .string s] 79)
      have hb' : Below w.heap.size w (wr.alloc (.cells #[.int .i64 x, .int .i64 y, .string s] 79)) := hb.alloc hb.size _
      have N := CS.made wr _ rfl #[.int .i64 x, .int .i64 y, .string s] 79
      have hpw : p9 < wr.heap.size := by omega
      go_upto_region 10 with fail
      generalize hpn : wr.heap.size = pn at *
      generalize wr.alloc (.cells #[.int .i64 x, .int .i64 y, .string s] 79) = WN at *
      clear c0 c1 c2n hbl lb1 lb2 G O K V hb hsz
      obtain ⟨O'0, O'1, O'2⟩ := id O'
      have lO'1 := Nat.ne_of_lt O'2
      have lO'2 := Nat.ne_of_gt O'2
      obtain ⟨K'0, K'1, K'2⟩ := id K'
      have lK'1 := Nat.ne_of_lt K'2
      have lK'2 := Nat.ne_of_gt K'2
      obtain ⟨V'0, V'1, V'2⟩ := id V'
      have lV'1 := Nat.ne_of_lt V'2
      have lV'2 := Nat.ne_of_gt V'2
      have n0 := N.cell 0 _ rfl
      have n1 := N.cell 1 _ rfl
      have n2 := N.cell 2 _ rfl
      have Gd := G'.drew
      have Od := O'.drew
      have Kd := K'.drew
      have Vd := V'.drew
      have Nd := N.drew
      have Bd : Below w.heap.size w WN.drew := Below.drew hb'
      go_wp2_with fail
      go_region_law (first | (refine step_append_lies _ (by rfl) _ _ 30 (by rfl) (p9 + 1) 79 i0 _ 3 32 Try.underlying30 hi hz0 hz1 hz2 rfl (by decide) _ _ _ (by rfl) G3 ⟨bz, oz, none⟩ Z.length cz (tnvs Z) (by rfl) (tnvs_len Z) news (tnvs_one Z) hZ0 (by unfold maxLen; omega) (by omega) (by omega) _ rfl ?_; intro g' cap' w5 hown hgrow hat hlt5; have O5 := O3.kept hgrow (G3.far (by omega)); have o5 := O5.1; have f5 := O5.2.1; have l5 := O5.2.2) | (go_simp; go_at_call 44; refine (NF.out _ Bd).mono ?_; rintro e wc ⟨⟨az, cz, rfl, hN⟩, hbc⟩; obtain ⟨bz, oz, rfl, hbz, news⟩ := hN.news hZ0; have G3 := Gd.later hbc; have O3 := Od.later hbc; have K3 := Kd.later hbc; have V3 := Vd.later hbc; have B3 := Bd.trans (hbc.mono Bd.size); have o30 := O3.1; have o31 := O3.2.1; have o32 := O3.2.2; have hsc : p9 + 1 ≤ wc.heap.size := by omega))
      all_goals
        have G5 : TnGrows w5 (p9 + 1) (.slice (some ⟨g', 0, none⟩) (L.length + Z.length) cap') (L ++ Z) := by
          unfold TnGrows
          rw [tnvs_app, List.length_append]
          exact hown
        have K5 := K3.kept hgrow (G3.far (by omega))
        have V5 := V3.kept hgrow (G3.far (by omega))
        have B5 := B3.grown hgrow B3.size (fun c e => by have := (World.ownsRow.lt G3 c e).1; omega)
        have S5 := hgrow.size
        have hl5 : (L ++ Z).length = L.length + Z.length := List.length_append
        clear G3 O3 K3 V3 B3 hN news hbc
        go_wp2
        go_roundw
        case rel => exact ⟨q + 1, _, _, _, by omega, by go_num, hnext.out, by rw [hl5]; omega, by rw [hl5]; exact G5.set (by omega) _, by rw [hl5]; exact O5.set _, K5.other (by omega) _, V5.other (by omega) _, by simp [World.setCell]; omega, B5.setCell (p := ⟨p9, 0, none⟩) (by simp; omega) _⟩
        case measure => simp [intOf]; omega
    · obtain rfl : q = xs.length := by omega
      obtain ⟨O0, O1, O2⟩ := id O
      have lO1 := Nat.ne_of_lt O2
      have lO2 := Nat.ne_of_gt O2
      obtain ⟨V0, V1, V2⟩ := id V
      have lV1 := Nat.ne_of_lt V2
      have lV2 := Nat.ne_of_gt V2
      have eL1 : putL names zs xs = L := by have := eL0.out; rw [putL_all] at this; exact this
      by_cases c5 : L.length ≤ 100
      · have e2 := yy.out hok.out (by rw [hzl]; exact c2.out) c3 hal2.out (by rw [eL1]; exact c5)
        have e1 : rl = L := (ye.out e2).trans eL1
        have hfit : TnFits L := by rw [← eL1]; exact putL_fits hfx.out hfz.out
        obtain ⟨av2, cv2, hv, ho⟩ := G.o hfit
        obtain ⟨rfl, rfl⟩ : av = av2 ∧ cv = cv2 := by injection hv with h1 h2 h3; exact ⟨h1, h3⟩
        have ho2 := (ho.kept (grown_cell wr (w.heap.size + 1) (.slice av L.length cv)) (fun q e h => by injection h with h; have := ho.ge q e; omega)).mono (base' := w.heap.size) (by omega)
        replace ho2 := hd ho2
        clear hv ho hfit
        subst e1 e2
        clear eL1 eL0
        go_wp2
        exact bodyPost_ret (resTPi (V.set _) rfl rfl) rfl ⟨⟨av, cv, rfl, ho2.out⟩, hb.setCell (p := ⟨w.heap.size + 1, 0, none⟩) (by simp) _⟩
      · have nn := hd (n5.out (by rw [eL1]; exact c5))
        clear eL1 eL0
        go_wp2
        exact bodyPost_ret (resTPi (V.set _) rfl rfl) rfl (nos.out _ nn.out (hb.setCell (p := ⟨w.heap.size + 1, 0, none⟩) (by simp) _) (V.set _)).out
end Go.Proofs.Ytcdhmimbnnicnaa
