/- The tree of a term, and how deep it is, by the program. Nothing that was there is written. No condition but that the nodes are there. -/
import Derived.Test.YtknibhdnbkmkiaaDoorPK19
import Derived.Deep.AppendLies
import Derived.Deep.RegionHeld3
namespace Go.Proofs.YtknibhdnbkmkiaaDoor
open Go.RowKit
set_option linter.unusedVariables false
set_option maxRecDepth 100000

/-- the trees of the wholes behind so many nodes, the first one first -/
def bst (xs : List Tn) (k : Nat) : List Tr := (tst xs k).reverse
theorem bst_len (xs : List Tn) (k : Nat) : (bst xs k).length = (pst xs k).length := by unfold bst; rw [List.length_reverse, tst_len]
theorem bst_succ {xs : List Tn} {k : Nat} (h : cn xs k ≤ (pst xs k).length) : bst xs (k + 1) = (bst xs k).take ((pst xs k).length - cn xs k) ++ [.mk (xs.getD k tn0) ((bst xs k).drop ((pst xs k).length - cn xs k))] := by
  have hl := tst_len xs k
  unfold bst
  rw [List.take_reverse, List.drop_reverse, hl, show (pst xs k).length - ((pst xs k).length - cn xs k) = cn xs k by omega]
  show (Tr.mk (xs.getD k tn0) ((tst xs k).take (cn xs k)).reverse :: (tst xs k).drop (cn xs k)).reverse = _
  rw [List.reverse_cons]
def SV (w : World) (g : Option Nat) (ts : List Tr) (vs : List Value) : Prop := vs.length = ts.length ∧ ∀ i (hi : i < ts.length), TV w g ts[i] (vs.getD i default)
theorem SV.old {w w' : World} {g : Option Nat} {ts : List Tr} {vs : List Value} (h : SV w g ts vs) (k : Below w.heap.size w w') : SV w' g ts vs := ⟨h.1, fun i hi => (h.2 i hi).old k⟩
theorem SV.next {w w' : World} {g g' : Option Nat} {ts : List Tr} {vs : List Value} {n : Nat} {t : Tr} {v : Value} (h : SV w g ts vs) (hn : n ≤ ts.length) (ht : TV w g t v) (k : w.grownBy w' g) (hg : g' = g ∨ ∃ q, g' = some q ∧ w.heap.size ≤ q) : SV w' g' (ts.take n ++ [t]) (vs.take n ++ [v]) := by
  have h1 := h.1
  refine ⟨by simp; omega, fun i hi => ?_⟩
  rw [List.length_append, List.length_take, List.length_singleton] at hi
  by_cases e : i < n
  · have q := (h.2 i (by omega)).kept k hg
    rw [List.getElem_append_left (by rw [List.length_take]; omega), List.getElem_take]
    have e2 : (vs.take n ++ [v]).getD i default = vs.getD i default := by
      rw [List.getD_eq_getElem?_getD, List.getElem?_append_left (by rw [List.length_take]; omega), List.getElem?_take_of_lt e, List.getD_eq_getElem?_getD]
    rw [e2]; exact q
  · obtain rfl : i = n := by omega
    have q := ht.kept k hg
    rw [List.getElem_append_right (by rw [List.length_take]; omega)]
    have e2 : (vs.take i ++ [v]).getD i default = v := by
      rw [List.getD_eq_getElem?_getD, List.getElem?_append_right (by rw [List.length_take]; omega), List.length_take, Nat.min_eq_left (by omega), Nat.sub_self]; rfl
    rw [e2]
    simpa using q
theorem owns_take {w : World} {base g n cap : Nat} {e : TypeId} {vs : List Value} (h : w.ownsRow base e 1 (.slice (some ⟨g, 0, none⟩) vs.length cap) vs.length vs) (hn : n ≤ vs.length) : w.ownsRow base e 1 (.slice (some ⟨g, 0, none⟩) n cap) n (vs.take n) := by
  rcases h.2 with ⟨h0, _⟩ | ⟨g', cap', cur, hv, hb, hg, h1, h2, h3, h4⟩
  · cases h0
  · injection hv with hv1 hv2 hv3
    injection hv1 with hv1
    injection hv1 with hv1
    subst hv1 hv3
    refine ⟨by simp; omega, .inr ⟨_, _, cur, rfl, hb, hg, by omega, h2, h3, ?_⟩⟩
    rw [← h4, List.take_take, Nat.min_eq_left (by omega), Nat.mul_one]
theorem slA (g vl cp : Nat) (fr : Nat) (h1 : fr ≤ vl) (h2 : vl ≤ cp) (w : World) : (Instr.slice 54 (.slice (some ⟨g, 0, none⟩) vl cp) none (some (.int .i64 (fr : Int))) none).run Tryd.prog w = .ok (.slice (some ⟨g, 0, none⟩) fr cp) w := by
  have e1 : (0 : Int) ≤ (fr : Int) := by omega
  have e2 : (fr : Int) ≤ (cp : Int) := by omega
  simp [go_sem, e1, e2]
theorem slB (g vl cp : Nat) (fr : Nat) (h1 : fr ≤ vl) (h2 : vl ≤ cp) (w : World) : (Instr.slice 54 (.slice (some ⟨g, 0, none⟩) vl cp) (some (.int .i64 (fr : Int))) none none).run Tryd.prog w = .ok (.slice (if cp = fr then some ⟨g, 0, none⟩ else some ⟨g, fr, none⟩) (vl - fr) (cp - fr)) w := by
  have e1 : (0 : Int) ≤ (fr : Int) := by omega
  have e2 : (fr : Int) ≤ (vl : Int) := by omega
  simp [go_sem, e1, e2]
theorem owns_later {w w' : World} {base size n : Nat} {e : TypeId} {v : Value} {vs : List Value} (h : w.ownsRow base e size v n vs) (k : Below w.heap.size w w') : w'.ownsRow base e size v n vs := by
  refine ⟨h.1, ?_⟩
  rcases h.2 with h0 | ⟨g, cap, cur, hv, hb, hg, h1⟩
  · exact .inl h0
  · exact .inr ⟨g, cap, cur, hv, hb, (k.block g (Array.getElem?_eq_some_iff.1 hg).1).trans hg, h1⟩
theorem owns_cells {w : World} {base g cap : Nat} {e : TypeId} {vs : List Value} (h : w.ownsRow base e 1 (.slice (some ⟨g, 0, none⟩) vs.length cap) vs.length vs) : g < w.heap.size ∧ vs.length ≤ cap ∧ cap ≤ maxLen ∧ ∀ i, i < vs.length → w.cell? ⟨g, i, none⟩ = some (vs.getD i default) := by
  have h' := h
  rcases h.2 with ⟨h0, _⟩ | ⟨g', cap', cur, hv, hb, hg, h1, h2, h3, h4⟩
  · cases h0
  · injection hv with hv1 hv2 hv3
    injection hv1 with hv1
    injection hv1 with hv1
    subst hv1 hv3
    refine ⟨(Array.getElem?_eq_some_iff.1 hg).1, h1, h2, fun i hi => ?_⟩
    refine (World.ownsRow.cellAt h' i (by omega)).trans ?_
    rw [List.getD_eq_getElem?_getD, List.getElem?_eq_getElem hi]; rfl
theorem iOver1 (x y : Int) (s : ByteArray) (av : Option Addr) (c cp : Nat) (g : Option Nat) (t : Tr) (w : World)
    (H : Hid (∀ w', Below w.heap.size w w' → Calls Tryd.prog 24 #[.agg #[.int .i64 x, .int .i64 y, .string s], .slice av c cp] w' fun e w'' => (∃ v, e = .returned v ∧ TV w'' g t v) ∧ Below w'.heap.size w' w'')) :
    Calls Tryd.prog 23 #[.agg #[.int .i64 x, .int .i64 y, .string s], .slice av c cp] w fun e w'' => (∃ v, e = .returned (.tuple #[v, .bool true]) ∧ TV w'' g t v) ∧ Below w.heap.size w w'' := by
  have K0 := CS.made w _ rfl #[.int .i64 x, .int .i64 y, .string s] 48
  have hBB : Below w.heap.size w (w.alloc (.cells #[.int .i64 x, .int .i64 y, .string s] 48)) := old_alloc (Below.refl _ _) _
  have m0 := K0.cell 0 _ rfl
  have m1 := K0.cell 1 _ rfl
  have m2 := K0.cell 2 _ rfl
  go_enter Tryd.func23, Tryd.ntmps23
  generalize hW0 : w.alloc (.cells #[.int .i64 x, .int .i64 y, .string s] 48) = W0 at *
  go_wp2_with fail
  refine (H.out _ hBB).mono ?_
  rintro ev w1 ⟨⟨v, rfl, T⟩, hb1⟩
  obtain ⟨ty, u, rfl⟩ := T.iface
  go_wp2
  go_ret2
  exact ⟨⟨_, rfl, T⟩, old_trans hBB hb1⟩
set_option maxRecDepth 100000 in
set_option maxHeartbeats 8000000 in
theorem iFold (a : Option Addr) (len cap : Nat) (xs : List Tn) (w : World) (hR : InN w a len cap xs) (hok : okT xs = true) :
    Calls Tryd.prog 22 #[.agg #[.slice a len cap], .func (.func 23) #[] #[]] w fun e w' => (∃ v g, e = .returned (.tuple #[v, .bool true]) ∧ TV w' g (tr xs (len - 1)) v) ∧ Below w.heap.size w w' := by
  obtain ⟨i0, hi, hz0, hz1, hz2⟩ := info_parts infoTree
  have hp := hR.1
  have hl := (okT_in hok).1
  have hend := hd (okT_tr hok)
  have hat := hd (fun k (hk : k < len) => okT_at hok (k := k) (by omega))
  clear hok
  have K0 := CS.made w _ rfl #[.slice a len cap] 29
  have hB1 : Below w.heap.size w (w.alloc (.cells #[.slice a len cap] 29)) := old_alloc (Below.refl _ _) _
  have m1 := K0.cell 0 _ rfl
  go_enter Tryd.func22, Tryd.ntmps22
  generalize hW0 : w.alloc (.cells #[.slice a len cap] 29) = W1 at *
  go_wp2_with fail
  clear K0 hW0
  go_loopw [6, 18] (fun v i wr => ∃ (k : Nat) (vs : List Value), k ≤ len ∧ i = .int .i64 k ∧ wr.ownsRow W1.heap.size 38 1 v vs.length vs ∧ SV wr v.ownBlock (bst xs k) vs ∧ Below W1.heap.size W1 wr) (fun _ i _ => len - (intOf i).toNat)
  case atStart => exact ⟨0, [], by omega, rfl, World.ownsRow_nil _ _ _ _, ⟨rfl, fun i hi => by simp [bst, tst] at hi⟩, Below.refl _ _⟩
  case round =>
    obtain ⟨k, vs, hk, rfl, OW, SS, hb⟩ := hrel
    have hB := old_trans hB1 hb
    by_cases hlt : k < len
    · obtain ⟨b, off, x, y, s, rfl, hbl, hx, hf, c0, c1, c2⟩ := (hR.old hB).at hlt
      have hc := hat.out k hlt
      have hbs := bst_succ hc.2
      rw [hx] at hc hbs
      have hvl := SS.1
      rw [bst_len] at hvl
      have hple := pst_le xs k
      have P := hd (iPart x y s)
      rw [decide_eq_true (show 0 ≤ ac ⟨x, y, s⟩ by omega), hc.1] at P
      have hacx : Hid (ac ⟨x, y, s⟩ = (cn xs k : Int)) := hc.1
      have hc2 := hc.2
      obtain ⟨fr, hfr⟩ : ∃ fr, fr = (pst xs k).length - cn xs k := ⟨_, rfl⟩
      rw [← hfr] at hbs
      generalize hcn : cn xs k = c at *
      have htl : ((bst xs k).drop fr).length = c := by rw [List.length_drop, bst_len]; omega
      have hfrI : ((vs.length : Int) - (c : Int)) = (fr : Int) := by omega
      have hfv : fr ≤ vs.length := by omega
      have hbl2 : fr ≤ (bst xs k).length := by rw [bst_len]; omega
      have hvc : vs.length ≤ 100 := by omega
      have hcv : c ≤ 100 := by omega
      have hcr : vs.length - fr = c := by omega
      clear hf hx hc hple hvl hfr hcn
      have No := CS.made wr _ rfl #[.int .i64 x, .int .i64 y, .string s] 48
      have hbA : Below wr.heap.size wr (wr.alloc (.cells #[.int .i64 x, .int .i64 y, .string s] 48)) := old_alloc (Below.refl _ _) _
      rcases OW.2 with ⟨rfl, hv0⟩ | ⟨g, cp, cur, rfl, hbg, hgo, hvcap, hcpm, hcs, hct⟩
      · have hv1 : vs = [] := List.length_eq_zero_iff.1 hv0
        subst hv1
        have hfr0 : fr = 0 := by simpa using hfv
        subst hfr0
        have hc00 : c = 0 := by simpa using hcr.symm
        subst hc00
        clear hcr hfrI hvc hcv
        have n0 := No.cell 0 _ rfl
        go_wp2_with fail
        refine (P.out _).mono ?_
        rintro ev w1 ⟨⟨c', rfl, hc'⟩, hb1⟩
        obtain rfl := hc' (by omega)
        clear hc' n0
        have hbA1 := old_trans hbA hb1
        have No1 := No.later hb1
        have n0 := No1.cell 0 _ rfl
        have n1 := No1.cell 1 _ rfl
        have n2 := No1.cell 2 _ rfl
        have nl := No1.lt
        have SS1 := SS.old hbA1
        have TO : Hid (∀ w', Below w1.heap.size w1 w' → Calls Tryd.prog 24 #[.agg #[.int .i64 x, .int .i64 y, .string s], .slice none 0 0] w' fun e w'' => (∃ v, e = .returned v ∧ TV w'' none (.mk ⟨x, y, s⟩ ((bst xs k).drop 0)) v) ∧ Below w'.heap.size w' w'') := fun w' hw' => by
          have h := iTreeOver none ⟨x, y, s⟩ ((bst xs k).drop 0) none 0 (fun i => default) w' (by rw [htl]; exact hacx.out) (by omega) (fun q hq => by cases hq) (.inl htl) (fun i hi => by omega)
          unfold TreeOk at h
          rw [htl] at h
          exact h
        have TP := hd (fun w' (hw' : Below w1.heap.size w1 w') => iOver1 x y s none 0 0 _ _ w' (hd (fun w'' hw'' => TO.out w'' (old_trans hw' hw''))))
        clear hb1 No
        have hs1 := (old_trans hb hbA1).size
        have hgn : some wr.heap.size ≠ Value.ownBlock (.slice none 0 0) := by simp [Value.ownBlock]
        have hs0 := hb.size
        go_wp2_with fail
        go_region_held3 (fun w' => w'.cell? ⟨wr.heap.size, 0, none⟩ = some (.int .i64 x) ∧ w'.cell? ⟨wr.heap.size, 1, none⟩ = some (.int .i64 y) ∧ w'.cell? ⟨wr.heap.size, 2, none⟩ = some (.string s)) (go_keep) (first | (go_at_call 23; refine (TP.out _ (by repeat (first | exact Below.refl _ _ | refine Below.drew ?_ | refine old_alloc ?_ _ | refine old_trans ?_ (by assumption)))).mono ?_; rintro ev w2 ⟨⟨v2, rfl, T2⟩, hb2⟩; obtain ⟨ty2, u2, rfl⟩ := T2.iface; have No2 := (by with_reducible first | exact No1.later hb2 | exact No1.drew.later hb2 : CS w2 _ _); have o0 := No2.cell 0 _ rfl; have o1 := No2.cell 1 _ rfl; have o2 := No2.cell 2 _ rfl; have ol := No2.lt))
        have hw12 : w1.heap.size ≤ w2.heap.size := ((by repeat (first | exact Below.refl _ _ | refine Below.drew ?_ | refine old_alloc ?_ _ | refine old_trans ?_ (by assumption))) : Below w1.heap.size w1 w2).size
        go_wp2_with (at_builtin; refine wpList_append_lies _ (by rfl) _ _ 54 (by rfl) W1.heap.size 38 i0 _ 1 16 Tryd.underlying54 hi hz0 hz1 hz2 rfl (by decide) _ _ _ (by rfl) (World.ownsRow_nil _ _ _ _) ⟨_, 0, none⟩ 1 1 [.iface ty2 u2] (by rfl) rfl (cells_one _ _ rfl _ _) (by simp [Value.oneCell']) (by decide) (by decide) (by omega) (by simp; omega) _ rfl ?_; intro g' cap' w5 hown hgrow hat5 hlt5)
        have TA := T2.old (old_alloc (Below.refl _ _) (.cells #[.iface ty2 u2] 38) : Below w2.heap.size w2 (w2.alloc (.cells #[.iface ty2 u2] 38)))
        have BA : Below w1.heap.size w1 (w2.alloc (.cells #[.iface ty2 u2] 38)) := (by repeat (first | exact Below.refl _ _ | refine Below.drew ?_ | refine old_alloc ?_ _ | refine old_trans ?_ (by assumption)))
        have SA := SS1.old BA
        have BW := old_trans (old_trans hb hbA1) BA
        have SN := SA.next hbl2 TA hgrow (g' := some g') (by rcases hat5 with h | h; exact .inl h.symm; exact .inr ⟨g', rfl, by rw [h]; simp⟩)
        rw [← hbs] at SN
        have B5 : Below W1.heap.size W1 w5 := BW.grown hgrow BW.size (fun q e => by simp only [Value.ownBlock] at e; cases e)
        have OW5 : w5.ownsRow W1.heap.size 38 1 (.slice (some ⟨g', 0, none⟩) (0 + 1) cap') (([] : List Value).take 0 ++ [Value.iface ty2 u2]).length (([] : List Value).take 0 ++ [Value.iface ty2 u2]) := by
          rw [List.length_append, List.length_take, Nat.min_eq_left hfv, List.length_singleton]; exact hown
        go_wp2
        go_roundw
        case rel => exact ⟨k + 1, _, by omega, by go_num, OW5, SN, B5⟩
        case measure => simp [intOf]; omega
      · have oc := owns_cells OW
        have n0 := No.cell 0 _ rfl
        go_wp2_with fail
        refine (P.out _).mono ?_
        rintro ev w1 ⟨⟨c', rfl, hc'⟩, hb1⟩
        obtain rfl := hc' (by omega)
        clear hc' n0
        have hbA1 := old_trans hbA hb1
        have No1 := No.later hb1
        have n0 := No1.cell 0 _ rfl
        have n1 := No1.cell 1 _ rfl
        have n2 := No1.cell 2 _ rfl
        have nl := No1.lt
        have OW1 := owns_later OW hbA1
        have OW2 := owns_take OW1 hfv
        have SS1 := SS.old hbA1
        have hgl : g < w1.heap.size := Nat.lt_of_lt_of_le oc.1 hbA1.size
        obtain ⟨av', hav⟩ : ∃ av', (if cp = fr then some ⟨g, 0, none⟩ else some ⟨g, fr, none⟩ : Option Addr) = av' := ⟨_, rfl⟩
        have sa := slA g vs.length cp fr hfv hvcap
        have sb := slB g vs.length cp fr hfv hvcap
        rw [hav, hcr] at sb
        have TO : Hid (∀ w', Below w1.heap.size w1 w' → Calls Tryd.prog 24 #[.agg #[.int .i64 x, .int .i64 y, .string s], .slice av' c (cp - fr)] w' fun e w'' => (∃ v, e = .returned v ∧ TV w'' (some g) (.mk ⟨x, y, s⟩ ((bst xs k).drop fr)) v) ∧ Below w'.heap.size w' w'') := fun w' hw' => by
          have oc1 := owns_cells OW1
          have h := iTreeOver (some g) ⟨x, y, s⟩ ((bst xs k).drop fr) av' (cp - fr) (fun i => vs.getD (fr + i) default) w' (by rw [htl]; exact hacx.out) (by omega) (fun q hq => by injection hq with hq; have := hw'.size; omega) (if hz : c = 0 then .inl (by omega) else .inr ⟨g, fr, by rw [← hav, if_neg (by omega)], by have := hw'.size; omega, fun i hi => (hw'.cell (p := ⟨g, fr + i, none⟩) hgl).trans (oc1.2.2.2 (fr + i) (by omega))⟩) (fun i hi => by rw [List.getElem_drop]; exact (SS1.2 (fr + i) (by rw [List.length_drop] at hi; omega)).old hw')
          unfold TreeOk at h
          rw [htl] at h
          exact h
        have TP := hd (fun w' (hw' : Below w1.heap.size w1 w') => iOver1 x y s av' c (cp - fr) _ _ w' (hd (fun w'' hw'' => TO.out w'' (old_trans hw' hw''))))
        clear hb1 No
        have hs1 := (old_trans hb hbA1).size
        have hgn : some wr.heap.size ≠ Value.ownBlock (.slice (some ⟨g, 0, none⟩) fr cp) := by simp only [Value.ownBlock]; intro h; injection h with h; have := oc.1; omega
        have hcpf : (fr : Int) ≤ (cp : Int) := by omega
        have hf0 : (0 : Int) ≤ (fr : Int) := by omega
        have hfv2 : (fr : Int) ≤ (vs.length : Int) := by omega
        have hvcp : (vs.length : Int) ≤ (cp : Int) := by omega
        go_wp2_with fail
        go_region_held3 (fun w' => w'.cell? ⟨wr.heap.size, 0, none⟩ = some (.int .i64 x) ∧ w'.cell? ⟨wr.heap.size, 1, none⟩ = some (.int .i64 y) ∧ w'.cell? ⟨wr.heap.size, 2, none⟩ = some (.string s)) (go_keep) (first | (go_at_call 23; refine (TP.out _ (by repeat (first | exact Below.refl _ _ | refine Below.drew ?_ | refine old_alloc ?_ _ | refine old_trans ?_ (by assumption)))).mono ?_; rintro ev w2 ⟨⟨v2, rfl, T2⟩, hb2⟩; obtain ⟨ty2, u2, rfl⟩ := T2.iface; have No2 := (by with_reducible first | exact No1.later hb2 | exact No1.drew.later hb2 : CS w2 _ _); have o0 := No2.cell 0 _ rfl; have o1 := No2.cell 1 _ rfl; have o2 := No2.cell 2 _ rfl; have ol := No2.lt))
        have hw12 : w1.heap.size ≤ w2.heap.size := ((by repeat (first | exact Below.refl _ _ | refine Below.drew ?_ | refine old_alloc ?_ _ | refine old_trans ?_ (by assumption))) : Below w1.heap.size w1 w2).size
        go_wp2_with (at_builtin; refine wpList_append_lies _ (by rfl) _ _ 54 (by rfl) W1.heap.size 38 i0 _ 1 16 Tryd.underlying54 hi hz0 hz1 hz2 rfl (by decide) _ _ _ (by rfl) (owns_later OW2 (by repeat (first | exact Below.refl _ _ | refine Below.drew ?_ | refine old_alloc ?_ _ | refine old_trans ?_ (by assumption)))) ⟨_, 0, none⟩ 1 1 [.iface ty2 u2] (by rfl) rfl (cells_one _ _ rfl _ _) (by simp [Value.oneCell']) (by decide) (by unfold maxLen; omega) (by omega) (by simp; omega) _ rfl ?_; intro g' cap' w5 hown hgrow hat5 hlt5)
        have TA := T2.old (old_alloc (Below.refl _ _) (.cells #[.iface ty2 u2] 38) : Below w2.heap.size w2 (w2.alloc (.cells #[.iface ty2 u2] 38)))
        have BA : Below w1.heap.size w1 (w2.alloc (.cells #[.iface ty2 u2] 38)) := (by repeat (first | exact Below.refl _ _ | refine Below.drew ?_ | refine old_alloc ?_ _ | refine old_trans ?_ (by assumption)))
        have SA := SS1.old BA
        have BW := old_trans (old_trans hb hbA1) BA
        have SN := SA.next hbl2 TA hgrow (g' := some g') (by rcases hat5 with h | h; exact .inl h.symm; exact .inr ⟨g', rfl, by rw [h]; simp⟩)
        rw [← hbs] at SN
        have B5 : Below W1.heap.size W1 w5 := BW.grown hgrow BW.size (fun q e => by simp only [Value.ownBlock] at e; injection e with e; omega)
        have OW5 : w5.ownsRow W1.heap.size 38 1 (.slice (some ⟨g', 0, none⟩) (fr + 1) cap') (vs.take fr ++ [Value.iface ty2 u2]).length (vs.take fr ++ [Value.iface ty2 u2]) := by
          rw [List.length_append, List.length_take, Nat.min_eq_left hfv, List.length_singleton]; exact hown
        go_wp2
        go_roundw
        case rel => exact ⟨k + 1, _, by omega, by go_num, OW5, SN, B5⟩
        case measure => simp [intOf]; omega
    · obtain rfl : k = len := by omega
      have he : bst xs k = [tr xs (k - 1)] := by
        have := hend.out
        rw [hp] at this
        unfold bst
        rw [this]; rfl
      rw [he] at SS
      have hv1 : vs.length = 1 := SS.1
      obtain ⟨g, cp, rfl, -, -⟩ := OW.form (by omega)
      have oc := owns_cells OW
      have c0 := oc.2.2.2 0 (by omega)
      have T0 := SS.2 0 (by simp)
      obtain ⟨ty, u, e⟩ := T0.iface
      rw [e] at c0 T0
      have hni : ¬ ((k : Int) < (k : Int)) := by omega
      rw [hv1]
      have hl1 : (1 : Int) ≤ (cp : Int) := by omega
      clear OW SS oc hv1 e
      go_wp2
      go_ret2
      first | exact ⟨⟨.iface ty u, _, rfl, T0⟩, hB⟩ | exact ⟨⟨_, rfl, _, T0⟩, hB⟩ | exact ⟨⟨_, ⟨_, T0⟩, rfl⟩, hB⟩
theorem iTreeOf (a : Option Addr) (len cap : Nat) (xs : List Tn) (w : World) (hR : InN w a len cap xs) (hok : okT xs = true) :
    Calls Tryd.prog 13 #[.agg #[.slice a len cap]] w fun e w' => (∃ v g, e = .returned (.tuple #[v, .bool true]) ∧ TV w' g (tr xs (len - 1)) v) ∧ Below w.heap.size w w' := by
  have OK := hd (fun w' (h : Below w.heap.size w w') => iTermOk a len cap xs w' (hR.old h))
  rw [hok] at OK
  have FO := hd (fun w' (h : Below w.heap.size w w') => iFold a len cap xs w' (hR.old h) hok)
  clear hok
  have K0 := CS.made w _ rfl #[.slice a len cap] 29
  have hBB : Below w.heap.size w (w.alloc (.cells #[.slice a len cap] 29)) := old_alloc (Below.refl _ _) _
  have m0 := K0.cell 0 _ rfl
  go_enter Tryd.func13, Tryd.ntmps13
  generalize hW0 : w.alloc (.cells #[.slice a len cap] 29) = W0 at *
  go_wp2_with fail
  refine (OK.out _ hBB).mono ?_
  rintro ev W1 ⟨rfl, hb1⟩
  have m1 := (K0.later hb1).cell 0 _ rfl
  have hB1 := old_trans hBB hb1
  clear K0 m0 hb1 hBB hW0 OK
  go_wp2_with fail
  refine (FO.out _ hB1).mono ?_
  rintro ev W2 ⟨⟨v, g, rfl, T⟩, hb2⟩
  obtain ⟨ty, u, rfl⟩ := T.iface
  go_wp2
  go_ret2
  exact ⟨⟨_, _, rfl, T⟩, old_trans hB1 hb2⟩
theorem iTreeNo (a : Option Addr) (len cap : Nat) (xs : List Tn) (w : World) (hR : InN w a len cap xs) (hok : okT xs = false) :
    Calls Tryd.prog 13 #[.agg #[.slice a len cap]] w fun e w' => e = .returned (.tuple #[.nilIface, .bool false]) ∧ Below w.heap.size w w' := by
  have OK := hd (fun w' (h : Below w.heap.size w w') => iTermOk a len cap xs w' (hR.old h))
  rw [hok] at OK
  have K0 := CS.made w _ rfl #[.slice a len cap] 29
  have hBB : Below w.heap.size w (w.alloc (.cells #[.slice a len cap] 29)) := old_alloc (Below.refl _ _) _
  have m0 := K0.cell 0 _ rfl
  go_enter Tryd.func13, Tryd.ntmps13
  generalize hW0 : w.alloc (.cells #[.slice a len cap] 29) = W0 at *
  go_wp2_with fail
  refine (OK.out _ hBB).mono ?_
  rintro ev W1 ⟨rfl, hb1⟩
  go_wp2
  go_ret2
  exact ⟨rfl, old_trans hBB hb1⟩
end Go.Proofs.YtknibhdnbkmkiaaDoor
