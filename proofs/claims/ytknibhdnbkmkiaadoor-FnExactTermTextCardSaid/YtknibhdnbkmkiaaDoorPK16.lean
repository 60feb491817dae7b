/- Trees behind the interface termTree: their text, by the program, powers and calls among them. Nothing that was there is written. Condition: a power is one of those that may stand. -/
import Derived.Test.YtknibhdnbkmkiaaDoorPK14
import Derived.Test.YtknibhdnbkmkiaaDoorPK15
import Derived.Lib.Join
import Derived.Lib.ItoaNum
import Derived.Deep.RegionHeld3
import Derived.Laws.Concat
import Derived.Deep.DeepCutAuto
namespace Go.Proofs.YtknibhdnbkmkiaaDoor
open Go.RowKit
set_option linter.unusedVariables false
set_option maxRecDepth 100000

attribute [local go_sem] ta_leaf_leaf ta_leaf_minus ta_leaf_joint ta_leaf_raised ta_leaf_ownCall ta_leaf_namedCall
attribute [local go_sem] ta_minus_leaf ta_minus_minus ta_minus_joint ta_minus_raised ta_minus_ownCall ta_minus_namedCall
attribute [local go_sem] ta_joint_leaf ta_joint_minus ta_joint_joint ta_joint_raised ta_joint_ownCall ta_joint_namedCall
attribute [local go_sem] ta_raised_leaf ta_raised_minus ta_raised_joint ta_raised_raised ta_raised_ownCall ta_raised_namedCall
attribute [local go_sem] ta_ownCall_leaf ta_ownCall_minus ta_ownCall_joint ta_ownCall_raised ta_ownCall_ownCall ta_ownCall_namedCall
attribute [local go_sem] ta_namedCall_leaf ta_namedCall_minus ta_namedCall_joint ta_namedCall_raised ta_namedCall_ownCall ta_namedCall_namedCall
mutual
/-- each power in a tree may stand there -/
def Tr.pw : Tr → Prop
  | .mk n ps => (n.k = 8 → 0 ≤ n.n ∧ n.n ≤ 8) ∧ pwL ps
def pwL : List Tr → Prop
  | [] => True
  | t :: ts => t.pw ∧ pwL ts
end
theorem pwL_at {l : List Tr} (h : pwL l) {i : Nat} (hi : i < l.length) : l[i].pw := by
  induction l generalizing i with
  | nil => simp at hi
  | cons t l ih =>
    simp only [pwL] at h
    cases i with
    | zero => exact h.1
    | succ i => exact ih h.2 (by simpa using hi)
theorem pwL_iff (l : List Tr) : pwL l ↔ ∀ t ∈ l, t.pw := by
  induction l with
  | nil => simp [pwL]
  | cons t l ih => simp [pwL, ih]
theorem pw_node {n : Tn} (h : 0 ≤ ac n) (hk : n.k = 8) : 0 ≤ n.n ∧ n.n ≤ 8 := by
  unfold ac at h
  rw [if_neg (by omega), if_neg (by omega), if_neg (by omega), if_neg (by omega), if_pos hk] at h
  by_cases d : 0 ≤ n.n ∧ n.n ≤ 8 ∧ n.s.size = 0
  · exact ⟨d.1, d.2.1⟩
  · rw [if_neg d] at h; omega
theorem tst_pw {xs : List Tn} (hok : okT xs = true) : ∀ k, k ≤ xs.length → pwL (tst xs k) := by
  intro k
  induction k with
  | zero => intro _; simp [tst, pwL]
  | succ k ih =>
    intro hk
    have i1 := (pwL_iff _).1 (ih (by omega))
    have a := (okT_at hok (k := k) (by omega)).1
    show pwL (Tr.mk (xs.getD k tn0) ((tst xs k).take (cn xs k)).reverse :: (tst xs k).drop (cn xs k))
    simp only [pwL, Tr.pw]
    refine ⟨⟨pw_node (by omega), (pwL_iff _).2 (fun t ht => i1 t ?_)⟩, (pwL_iff _).2 (fun t ht => i1 t (List.mem_of_mem_drop ht))⟩
    rw [List.mem_reverse] at ht
    exact List.mem_of_mem_take ht
theorem tr_pw {xs : List Tn} (hok : okT xs = true) {e : Nat} (he : e < xs.length) : (tr xs e).pw := by
  have h := tst_pw hok (e + 1) (by omega)
  have h2 : pwL (tr xs e :: (tst xs e).drop (cn xs e)) := h
  simp only [pwL] at h2
  exact h2.1
theorem dg_itoa {i : Nat} (h : i < 10) : (⟨(Lib.decDigits i).toArray⟩ : ByteArray) = dgB (i : Int) := by
  rw [Lib.decDigits, dif_pos h]
  rfl
set_option maxRecDepth 100000 in
set_option maxHeartbeats 4000000 in
theorem iBareRaised0 {w w' : World} (hW : Below w.heap.size w w') (m : Nat) (hm : m ≤ 8) (s1 : ByteArray) (ty : TypeId) (x : Value) (hs : s1.size + 2 ≤ 20000)
    (R1 : Hid (∀ w1, Below w.heap.size w w1 → Calls Tryd.prog 14 #[.int .i64 4, .iface ty x] w1 fun e w2 => e = .returned (.string s1) ∧ Below w1.heap.size w1 w2)) :
    Calls Tryd.prog 25 #[.iface 67 (.agg #[.iface ty x, .int .i64 (m : Int)])] w' fun e w'' => e = .returned (.string ((s1 ++ ⟨#[94]⟩) ++ dgB (m : Int))) ∧ Below w'.heap.size w' w'' := by
  have K0 := CS.made w' _ rfl #[.iface ty x, .int .i64 (m : Int)] 67
  have hB0 : Below w'.heap.size w' (w'.alloc (.cells #[.iface ty x, .int .i64 (m : Int)] 67)) := old_alloc (Below.refl _ _) _
  have hBw := old_alloc hW (.cells #[.iface ty x, .int .i64 (m : Int)] 67)
  have I := hd (fun w1 => (sh_strconv_Itoa_small m (by omega) w1).mono (fun e w2 (k : _ ∧ _) => (⟨k.1.trans (by rw [dg_itoa (by omega)]), by rw [k.2]; exact Below.refl _ _⟩ : e = .returned (.string (dgB (m : Int))) ∧ Below w1.heap.size w1 w2)))
  have hdz : (dgB (m : Int)).size = 1 := rfl
  generalize dgB (m : Int) = d at *
  have z1 : (s1 ++ ⟨#[94]⟩ : ByteArray).size = s1.size + 1 := by rw [ByteArray.size_append]; rfl
  have e1 : (⟨#[94]⟩ : ByteArray).size = 1 := rfl
  have y1 : ∀ W : World, (Op.stringOp .add s1 ⟨#[94]⟩).run Tryd.prog W = .ok (.string (s1 ++ ⟨#[94]⟩)) W := fun W => run_string_add_sum W _ _ (by omega)
  have y2 : ∀ W : World, (Op.stringOp .add (s1 ++ ⟨#[94]⟩) d).run Tryd.prog W = .ok (.string (s1 ++ ⟨#[94]⟩ ++ d)) W := fun W => run_string_add_sum W _ _ (by omega)
  clear z1 e1 hdz
  go_enter Tryd.func25, Tryd.ntmps25
  go_upto_region 13 with fail
  generalize hw0 : w'.alloc (.cells #[.iface ty x, .int .i64 (m : Int)] 67) = w0 at *
  replace R1 : Hid (∀ w1, Below w0.heap.size w0 w1 → _) := hd (fun w1 h => R1.out w1 (old_trans hBw h))
  have hc : Below w0.heap.size w0 w0 := Below.refl _ _
  have k0 := K0.cell 0 _ rfl
  have k1 := K0.cell 1 _ rfl
  clear hBw hW hw0
  go_region_held3 (fun w'' => w''.cell? ⟨w'.heap.size, 0, none⟩ = some (.iface ty x) ∧ w''.cell? ⟨w'.heap.size, 1, none⟩ = some (.int .i64 (m : Int))) (go_keep) (first | (go_at_call 14; refine (R1.out _ (by with_reducible first | exact hc | exact Below.drew hc)).mono ?_; rintro e wx ⟨rfl, hbx⟩; have hc := (by with_reducible first | exact old_trans hc hbx | exact old_trans (Below.drew hc) hbx : Below w0.heap.size w0 wx); have k0 := (K0.later hc).cell 0 _ rfl; have k1 := (K0.later hc).cell 1 _ rfl) | (go_at_call 35; refine (I.out _).mono ?_; rintro e wx ⟨rfl, hbx⟩; have hc := (by with_reducible first | exact old_trans hc hbx | exact old_trans (Below.drew hc) hbx : Below w0.heap.size w0 wx); have k0 := (K0.later hc).cell 0 _ rfl; have k1 := (K0.later hc).cell 1 _ rfl))
  all_goals
    go_wp2
    go_ret
    exact ⟨rfl, old_trans hB0 (by with_reducible first | exact hc | exact Below.drew hc)⟩
theorem iBareRaised {w : World} (n : Tn) (t : Tr) (ty : TypeId) (u : Value) (hk : n.k = 8) (hp : 0 ≤ n.n ∧ n.n ≤ 8) (ih : AtOk Tryd.prog 14 w t (.iface ty u)) : BareOk Tryd.prog 25 w (.mk n [t]) (.iface 67 (.agg #[.iface ty u, .int .i64 n.n])) := by
  intro hs w' hW
  rw [txt_mk, tx_pow hk] at hs ⊢
  change ((atT 4 t.tx ++ ⟨#[94]⟩) ++ dgB n.n).size ≤ 20000 at hs
  show Calls _ _ _ _ (fun e w'' => e = .returned (.string ((atT 4 t.tx ++ ⟨#[94]⟩) ++ dgB n.n)) ∧ _)
  rw [ByteArray.size_append, ByteArray.size_append, dg_size] at hs
  have e1 : (⟨#[94]⟩ : ByteArray).size = 1 := rfl
  have g1 := at_ge 4 t.tx
  have i1 := ih (Nat.le_trans g1 (by omega)) 4
  obtain ⟨m, hm⟩ : ∃ m : Nat, n.n = (m : Int) := ⟨n.n.toNat, by omega⟩
  rw [hm] at hp ⊢
  exact iBareRaised0 hW m (by omega) _ ty u (by omega) i1
theorem infoStr : (Tryd.prog.info? 9).map (fun i => (i.zero, i.size, i.bytes)) = some (some (.string ⟨#[]⟩), 1, 16) := by kernel_rfl
theorem mkStrs (w : World) (n : Nat) (hn : n ≤ 1048577) : (Instr.makeSlice 90 (.int .i64 (n : Int)) (.int .i64 (n : Int))).run Tryd.prog w = .ok (.slice (some ⟨w.heap.size, 0, none⟩) n n) (w.alloc (.cells (madeCells #[.string ⟨#[]⟩] (n * 1)) 9)) := by
  obtain ⟨i, h1, h2, h3, h4⟩ := info_parts infoStr
  have h := run_make (P := Tryd.prog) w 90 9 i _ Tryd.underlying90 h1 h2 .i64 .i64 n n (by omega) (by omega) (by rw [h4]; omega) (by omega)
  rw [h3] at h
  exact h
theorem made_len (m : Nat) : (madeCells #[Value.string ⟨#[]⟩] m).toList.length = m := by simp [madeCells]
/-- the texts that were put, over the library's own words -/
theorem acc_join (f : Nat → ByteArray) (m : Nat) : (accJ f m).data.toList = Lib.join (((List.range m).map f).map (·.data.toList)) [44, 32] := by
  induction m with
  | zero => rfl
  | succ m ih =>
    by_cases h : 0 < m
    · obtain ⟨k, rfl⟩ : ∃ k, m = k + 1 := ⟨m - 1, by omega⟩
      rw [acc_succ f h, ByteArray.data_append, ByteArray.data_append, Array.toList_append, Array.toList_append, ih]
      have e : ∀ j, ((List.range (j + 1)).map f).map (·.data.toList) = (f 0).data.toList :: ((List.range j).map (fun i => (f (i + 1)).data.toList)) := by
        intro j
        rw [List.range_succ_eq_map]
        simp [Function.comp_def]
      rw [e, e, Lib.join_cons, Lib.join_cons, List.range_succ, List.map_append]
      simp [Lib.joinTail, List.append_assoc]
    · obtain rfl : m = 0 := by omega
      show (f 0).data.toList = _
      rw [show (List.range (0 + 1)).map f = [f 0] from rfl]
      exact (Lib.join_one _ _).symm
theorem acc_text (f : Nat → ByteArray) (m : Nat) : (⟨(Lib.join (((List.range m).map f).map (·.data.toList)) [44, 32]).toArray⟩ : ByteArray) = accJ f m := by
  rw [← acc_join]
theorem rangeF_len (f : Nat → ByteArray) (m : Nat) : ((List.range m).map f).length = m := by simp
theorem iJoin (f : Nat → ByteArray) (tb m : Nat) (cs : List Value) (w : World) (h1 : cs.length = m) (h2 : ∀ i, i < m → cs[i]? = some (.string (f i))) (C : CS w tb cs) (hm : m ≤ 6) (hs : (accJ f m).size ≤ 20000) :
    Calls Tryd.prog 43 #[.slice (some ⟨tb, 0, none⟩) m m, .string ⟨#[44, 32]⟩] w fun e w' => e = .returned (.string (accJ f m)) ∧ Below w.heap.size w w' := by
  have hl := rangeF_len f m
  have k := sh_strings_Join tb 0 m ((List.range m).map f) ⟨#[44, 32]⟩ w (fun j x hx => by
    rw [List.getElem?_map] at hx
    obtain ⟨i, hi, rfl⟩ := Option.map_eq_some_iff.1 hx
    rw [List.getElem?_eq_some_iff] at hi
    obtain ⟨hi1, rfl⟩ := hi
    rw [List.length_range] at hi1
    rw [List.getElem_range, Nat.zero_add]
    exact C.cell j _ (h2 j hi1)) C.lt (by rw [hl]; omega) (by rw [hl]; exact Nat.le_refl _) (by
      show (Lib.join (((List.range m).map f).map (·.data.toList)) [44, 32]).length ≤ _
      rw [← acc_join]
      show (accJ f m).data.size ≤ _
      exact Nat.le_trans hs (by decide))
  rw [hl] at k
  refine k.mono ?_
  rintro e w' ⟨rfl, hb⟩
  exact ⟨by rw [show (⟨#[44, 32]⟩ : ByteArray).data.toList = [44, 32] from rfl, acc_text], hb⟩
set_option maxRecDepth 100000 in
set_option maxHeartbeats 4000000 in
theorem iCalled {w w' : World} (hW : Below w.heap.size w w') (wd : ByteArray) (b off cap m : Nat) (vs : Nat → Value) (f : Nat → ByteArray) (hm : m ≤ 6) (hcap : m ≤ cap ∧ cap ≤ maxLen) (hb : b < w.heap.size) (hc : ∀ i, i < m → w.cell? ⟨b, off + i, none⟩ = some (vs i)) (hv : ∀ i, i < m → ∃ ty u, vs i = .iface ty u)
    (R : Hid (∀ i, i < m → ∀ w1, Below w.heap.size w w1 → Calls Tryd.prog 14 #[.int .i64 0, vs i] w1 fun e w2 => e = .returned (.string (f i)) ∧ Below w1.heap.size w1 w2)) (hs : wd.size + 2 + (accJ f m).size ≤ 20000) :
    Calls Tryd.prog 36 #[.agg #[.string wd, .slice (some ⟨b, off, none⟩) m cap]] w' fun e w'' => e = .returned (.string (((wd ++ ⟨#[40]⟩) ++ accJ f m) ++ ⟨#[41]⟩)) ∧ Below w'.heap.size w' w'' := by
  have K0 := CS.made w' _ rfl #[.string wd, .slice (some ⟨b, off, none⟩) m cap] 70
  have hB0 : Below w'.heap.size w' (w'.alloc (.cells #[.string wd, .slice (some ⟨b, off, none⟩) m cap] 70)) := old_alloc (Below.refl _ _) _
  have hBw := old_alloc hW (.cells #[.string wd, .slice (some ⟨b, off, none⟩) m cap] 70)
  have MK := fun W => mkStrs W m (by omega)
  have JN := hd (fun tb cs w1 h1 h2 C => iJoin f tb m cs w1 h1 h2 C hm (by omega))
  have hml := made_len m
  obtain ⟨J, hJ⟩ : ∃ J, accJ f m = J := ⟨_, rfl⟩
  rw [hJ] at JN hs ⊢
  clear hJ
  have z1 : (wd ++ ⟨#[40]⟩ : ByteArray).size = wd.size + 1 := by rw [ByteArray.size_append]; rfl
  have z2 : (wd ++ ⟨#[40]⟩ ++ J : ByteArray).size = wd.size + 1 + J.size := by rw [ByteArray.size_append, z1]
  have e1 : (⟨#[40]⟩ : ByteArray).size = 1 := rfl
  have e2 : (⟨#[41]⟩ : ByteArray).size = 1 := rfl
  have y1 : ∀ W : World, (Op.stringOp .add wd ⟨#[40]⟩).run Tryd.prog W = .ok (.string (wd ++ ⟨#[40]⟩)) W := fun W => run_string_add_sum W _ _ (by omega)
  have y2 : ∀ W : World, (Op.stringOp .add (wd ++ ⟨#[40]⟩) J).run Tryd.prog W = .ok (.string (wd ++ ⟨#[40]⟩ ++ J)) W := fun W => run_string_add_sum W _ _ (by omega)
  have y3 : ∀ W : World, (Op.stringOp .add (wd ++ ⟨#[40]⟩ ++ J) ⟨#[41]⟩).run Tryd.prog W = .ok (.string (wd ++ ⟨#[40]⟩ ++ J ++ ⟨#[41]⟩)) W := fun W => run_string_add_sum W _ _ (by omega)
  clear z1 z2 e1 e2 hs
  have k0 := K0.cell 0 _ rfl
  have k1 := K0.cell 1 _ rfl
  go_enter Tryd.func36, Tryd.ntmps36
  go_wp2_with fail
  have hz : w'.heap.size + 1 = (w'.alloc (.cells #[.string wd, .slice (some ⟨b, off, none⟩) m cap] 70)).heap.size := by simp
  generalize hw0 : w'.alloc (.cells #[.string wd, .slice (some ⟨b, off, none⟩) m cap] 70) = w0 at *
  clear hw0
  have C0 := CS.made w0 (w'.heap.size + 1) hz (madeCells #[Value.string ⟨#[]⟩] m) 9
  replace hz := hd hz
  have hB1 : Below w0.heap.size w0 (w0.alloc (.cells (madeCells #[Value.string ⟨#[]⟩] m) 9)) := old_alloc (Below.refl _ _) _
  generalize (madeCells #[Value.string ⟨#[]⟩] m).toList = cs0 at *
  generalize w0.alloc (.cells (madeCells #[Value.string ⟨#[]⟩] m) 9) = wM at *
  go_loopw [13] (fun i wr => ∃ (j : Nat) (cs : List Value), j ≤ m ∧ i = .int .i64 j ∧ cs.length = m ∧ Hid (∀ i, i < j → cs[i]? = some (.string (f i))) ∧ CS wr (w'.heap.size + 1) cs ∧ Below w0.heap.size w0 wr) (fun i _ => m - (intOf i).toNat)
  case atStart => exact ⟨0, cs0, by omega, rfl, hml, fun i h => by omega, C0, hB1⟩
  case round =>
    obtain ⟨j, cs, hj, rfl, hcl, hcs, C, hbr⟩ := hrel
    have hbr' := hbr
    have Kr := K0.later hbr'
    have hBr := old_trans hBw hbr'
    by_cases hlt : j < m
    · have cq : wr.cell? ⟨b, off + j, none⟩ = some (vs j) := (hBr.cell (p := ⟨b, off + j, none⟩) hb).trans (hc j hlt)
      have Rj := hd (R.out j hlt)
      obtain ⟨ty, u, hu⟩ := hv j hlt
      rw [hu] at cq Rj
      have hjI : (j : Int) < (m : Int) := by omega
      have hjI0 : (0 : Int) ≤ (j : Int) := by omega
      go_wp2_with fail
      refine (Rj.out _ (by with_reducible first | exact hBr | exact Below.drew hBr)).mono ?_
      rintro e w2 ⟨rfl, hb2⟩
      have C2 := C.later hb2
      have c0 := C2.cell j _ (List.getElem?_eq_getElem (by omega))
      have c1 := C2.froz j (by omega)
      go_wp2
      go_roundw
      case rel =>
        refine ⟨j + 1, cs.set j (.string (f j)), by omega, by go_num, by rw [List.length_set]; exact hcl, fun i hi => ?_, C2.stored _ (by omega), ?_⟩
        · by_cases e : j = i
          · subst e; exact List.getElem?_set_self (by omega)
          · rw [List.getElem?_set_ne e]; exact hcs.out i (by omega)
        · exact Below.setCell (p := ⟨w'.heap.size + 1, j, none⟩) (old_trans hbr hb2) (by have := hz.out; show w0.heap.size ≤ w'.heap.size + 1; omega) _
      case measure => simp [intOf]; omega
    · obtain rfl : j = m := by omega
      have hni : ¬ ((j : Int) < (j : Int)) := by omega
      have J1 := hd (fun w1 (h : Below wr.heap.size wr w1) => JN.out (w'.heap.size + 1) cs w1 hcl hcs.out (C.later h))
      have k0 := Kr.cell 0 _ rfl
      have k1 := Kr.cell 1 _ rfl
      go_upto_region 7 with fail
      have hc : Below wr.heap.size wr wr := Below.refl _ _
      clear R JN MK
      go_region_held3 (fun w'' => w''.cell? ⟨w'.heap.size, 0, none⟩ = some (.string wd) ∧ w''.cell? ⟨w'.heap.size, 1, none⟩ = some (.slice (some ⟨b, off, none⟩) j cap)) (go_keep) (first | (go_at_call 43; refine (J1.out _ (by with_reducible first | exact hc | exact Below.drew hc)).mono ?_; rintro e wx ⟨rfl, hbx⟩; have hc := (by with_reducible first | exact old_trans hc hbx | exact old_trans (Below.drew hc) hbx : Below wr.heap.size wr wx); have k0 := (Kr.later hc).cell 0 _ rfl; have k1 := (Kr.later hc).cell 1 _ rfl))
      all_goals
        go_wp2
        go_ret
        exact ⟨rfl, old_trans (old_trans hB0 hbr') (by with_reducible first | exact hc | exact Below.drew hc)⟩
end Go.Proofs.YtknibhdnbkmkiaaDoor
