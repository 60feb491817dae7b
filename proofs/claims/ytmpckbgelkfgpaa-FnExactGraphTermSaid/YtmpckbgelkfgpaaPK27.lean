/- The terms of a graph's nodes, handed out one by one, by the program. Nothing that was there is written but by the rounds. Conditions: a graph of 120 nodes at most, each over such as are ahead. -/
import Derived.Test.YtmpckbgelkfgpaaPK25
import Derived.Test.YtmpckbgelkfgpaaPK26
import Derived.RangeFuncNested
import Derived.RangeFuncBound
import Derived.RangeFuncCalls
import Derived.RangeFuncLeaves
import Derived.Shelf.Abstract
import Derived.OwnWalkIn
import Derived.TacticsInMore
import Derived.LoopNIn
import Derived.LoopIn
import Derived.Maps.OwnIn
import Derived.Test.YtmpckbgelkfgpaaPK16
import Derived.StringKeys
import Derived.Test.YtmpckbgelkfgpaaPK12
import Derived.Deep.DeepCutAuto
import Derived.Deep.RegionWith
import Derived.BigQuiet
namespace Go.Proofs.Ytmpckbgelkfgpaa
open Go.RowKit Go.Shelf
attribute [local go_sem] Oper.semAt_some
set_option linter.unusedVariables false
set_option maxRecDepth 100000

theorem out_grown {w w' : World} {o : Option Nat} (g : w.grownBy w' o) : Out (fun k => o = some k) w w' := ⟨g.os, g.tape, g.output, g.size, fun k hk hn => g.block k hk (fun e => hn e.symm)⟩
theorem parts_of {nn : Nat} {xs : List Gn} (hO : gOrd nn xs) (hE : ∀ i, i < xs.length → (xs.getD i gn0).k = 2 → (xs.getD i gn0).s = ⟨#[]⟩) {i : Nat} (hi : i < xs.length) {k u v n : Int} {s : ByteArray} (hx : xs.getD i gn0 = ⟨k, u, v, n, s⟩) :
    ∃ pls : List Nat, gCnt k n s pls.length ∧ pls.length ≤ 2 ∧ (∀ j, j < pls.length → pls.getD j 0 < i) ∧ (0 < pls.length → u = (pls.getD 0 0 : Nat)) ∧ (1 < pls.length → v = (pls.getD 1 0 : Nat)) ∧ ∀ all, gtP all ⟨k, u, v, n, s⟩ = pls.map (fun q => all.getD q []) := by
  have h := hO i hi
  have e := hE i hi
  rw [hx] at h e
  dsimp only at h e
  unfold gtP gCnt
  rcases h with ⟨h1, -⟩ | ⟨h1, h2 | ⟨h2, h3, h4⟩ | ⟨h2, ⟨h3, h4⟩, h5, h6⟩⟩
  · exact ⟨[], .inl ⟨h1, e h1, rfl⟩, by simp, fun j hj => by simp at hj, fun hj => by simp at hj, fun hj => by simp at hj, fun all => by rw [if_pos h1]; rfl⟩
  · exact ⟨[], .inr ⟨h1, h2⟩, by simp, fun j hj => by simp at hj, fun hj => by simp at hj, fun hj => by simp at hj, fun all => by rw [if_neg h1, h2]; rfl⟩
  · obtain ⟨q, rfl⟩ : ∃ q : Nat, u = (q : Int) := ⟨u.toNat, by omega⟩
    exact ⟨[q], .inr ⟨h1, h2⟩, by simp, fun j hj => by simp at hj; subst hj; simp; omega, fun hj => by simp, fun hj => by simp at hj, fun all => by rw [if_neg h1, h2]; rfl⟩
  · obtain ⟨q, rfl⟩ : ∃ q : Nat, u = (q : Int) := ⟨u.toNat, by omega⟩
    obtain ⟨r, rfl⟩ : ∃ r : Nat, v = (r : Int) := ⟨v.toNat, by omega⟩
    refine ⟨[q, r], .inr ⟨h1, h2⟩, by simp, fun j hj => ?_, fun hj => by simp, fun hj => by simp, fun all => by rw [if_neg h1, h2]; rfl⟩
    have : j = 0 ∨ j = 1 := by simp at hj; omega
    rcases this with rfl | rfl <;> simp <;> omega
/-- which parts of a list are handed on -/
def pick (pre : List Te) (pls : List Nat) : List Te := pls.map (fun q => pre.getD q te0)
theorem pick_len (pre : List Te) (pls : List Nat) : (pick pre pls).length = pls.length := by simp [pick]
theorem pick_at {pre : List Te} {pls : List Nat} {i : Nat} (h : i < pls.length) : (pick pre pls).getD i te0 = pre.getD (pls.getD i 0) te0 := by simp [pick, List.getD_eq_getElem?_getD, h]
theorem pick_next {pre : List Te} {pls : List Nat} {i : Nat} (h : i < pls.length) : (pick pre pls).take (i + 1) = (pick pre pls).take i ++ [pre.getD (pls.getD i 0) te0] := by
  rw [List.take_add_one, List.getElem?_eq_getElem (by rw [pick_len]; exact h)]
  simp [pick, List.getD_eq_getElem?_getD, h]
theorem pick_xs {names : List ByteArray} {xs : List Gn} {pre : List Te} {pls : List Nat} {i : Nat} (hp : pre.map Te.xs = trs names xs i) (hq : ∀ j, j < pls.length → pls.getD j 0 < i) : (pick pre pls).map Te.xs = pls.map (fun q => (trs names xs i).getD q []) := by
  have hl : pre.length = i := by have := congrArg List.length hp; rw [List.length_map, trs_len] at this; exact this
  unfold pick
  rw [List.map_map]
  refine List.map_congr_left fun q hm => ?_
  obtain ⟨j, hj, e⟩ := List.mem_iff_getElem.1 hm
  have := hq j hj
  have e2 : pls.getD j 0 = q := by simp [List.getD_eq_getElem?_getD, hj, e]
  rw [e2] at this
  rw [← hp]
  simp [List.getD_eq_getElem?_getD, show q < pre.length by omega]
set_option maxRecDepth 100000 in
set_option maxHeartbeats 32000000 in
theorem foldSeq (n : Nat) (hn1 : 1 ≤ n) (vs : Int) (a : Option Addr) (len cap : Nat) (xs : List Gn) (a' : Option Addr) (len' cap' : Nat) (an : Option Addr) (cn : Nat) (names : List ByteArray) (pg po pn pi : Nat) (w0 : World)
    (K0 : CS w0 pg [.int .i64 vs, .slice a len cap, .slice a' len' cap']) (O0 : Cl1 w0 po (.func (.func 123) #[] #[.pointer (some ⟨pn, 0, none⟩), .pointer (some ⟨pi, 0, none⟩)])) (N0 : Cl1 w0 pn (.slice an names.length cn)) (I0 : Cl1 w0 pi (.func (.func 120) #[] #[]))
    (R0 : InGn w0 a len cap xs) (RN0 : InT w0 an names.length cn names) (hl : len ≤ 120) (hO : gOrd names.length xs) (hE : ∀ i, i < xs.length → (xs.getD i gn0).k = 2 → (xs.getD i gn0).s = ⟨#[]⟩) :
    SeqB Fence.wide n Try.prog 142 #[.pointer (some ⟨pg, 0, none⟩), .pointer (some ⟨po, 0, none⟩)] (fun t : Te => #[.agg #[.slice t.a t.xs.length t.c]]) (fun _ _ => True)
      (fun ts W => ts.map Te.xs = trs names xs len ∧ ∀ t ∈ ts, TT W w0.heap.size t) (fun _ _ => True) len (fun k => k < w0.heap.size) w0 := by
  intro l J Jx C0 W hOw hJ hJx hC0 hC0l hY h0
  have hro : Fence.wide.round = none := rfl
  have hxl := R0.1
  have hB0 : Below w0.heap.size w0 W := hOw.below (Nat.le_refl _) (fun i h => Nat.le_of_not_lt h)
  have hC0g : ∀ k, C0 k → w0.heap.size ≤ k := fun k h => Nat.le_of_not_lt (hC0 k h)
  have k1 := (K0.later hB0).cell 1 _ rfl
  replace hY := hd hY
  replace hO := hd hO
  replace hE := hd hE
  replace hJ := hd hJ
  refine callsIn_of_wp Try.func142 rfl trivial ?_ hro
  simp only [Try.ntmps142, List.size_toArray, List.length_cons, List.length_nil, Nat.reduceAdd, Nat.reduceSub, Array.replicate_succ, Array.replicate_zero, List.push_toArray, List.append_toArray, List.nil_append, List.cons_append]
  gi_wp2
  gi_loopw [4, 14] (fun al i wr => ∃ (j : Nat) (pre : List Te) (C : Nat → Prop), j ≤ len ∧ i = .int .i64 (j : Int) ∧ Hid (pre.map Te.xs = trs names xs j) ∧ pre.length = j ∧ TeG wr W.heap.size al pre ∧ Hid (∀ t ∈ pre, TT wr W.heap.size t) ∧ Hid (J pre C wr) ∧ Out C0 W wr ∧ GrewB C0 C W.heap.size wr.heap.size ∧ Hid (∀ b, al.ownBlock = some b → ¬ C b) ∧ Hid (∀ t ∈ pre, ∀ b, (teV t).ownBlock = some b → ¬ C b)) (fun _ i _ => len - (intOf i).toNat)
  case atStart => exact ⟨0, [], C0, by omega, rfl, rfl, rfl, TeG.nil _ _, fun t ht => absurd ht (by simp), h0, Out.refl _ _, GrewB.refl _ _ _, fun b e => absurd e (by simp [Value.ownBlock]), fun t ht => absurd ht (by simp)⟩
  case round =>
    clear k1
    obtain ⟨j, pre, C, hj, rfl, hpre, hpl, G, hTT, hJr, hOr, hGr, hoC, htC⟩ := hrel
    by_cases hlt : j < len
    · have hCg : ∀ k, C k → w0.heap.size ≤ k := fun k hk => (hGr k hk).elim (hC0g k) (fun e => Nat.le_trans hB0.size e.1)
      have hCl : ∀ k, C k → k < wr.heap.size := hGr.lt (fun k hk => Nat.lt_of_lt_of_le (hC0l k hk) hOr.size)
      have hB : Below w0.heap.size w0 wr := hB0.trans (hOr.below hB0.size hC0g)
      obtain ⟨bl, off, k, u, v, n', s, rfl, hbl, hx, hf, c0, c1, c2, c3, c4⟩ := (R0.old hB).at hlt
      obtain ⟨pls, hc, hc2, hq, hu, hv, hP⟩ := parts_of hO.out hE.out (show j < xs.length by omega) hx
      have ho := hO.out j (by omega)
      rw [hx] at ho
      dsimp only at ho
      have hvar : k = 2 → 0 ≤ n' ∧ n' < (names.length : Int) := fun h => by
        rcases ho with ⟨-, h1⟩ | ⟨h1, -⟩
        · exact h1
        · exact absurd h h1
      replace hvar := hd hvar
      have htrm : Hid (trm names xs j = gtO ((pick pre pls).map Te.xs) (gtX names ⟨k, u, v, n', s⟩)) := by
        show _ = _
        rw [pick_xs hpre.out hq, ← hP]
        unfold trm
        rw [hx]
      have hjI : (j : Int) < (len : Int) := by omega
      have hj0 : (0 : Int) ≤ (j : Int) := by omega
      have lb1 := Nat.ne_of_lt hbl
      have lb2 := Nat.ne_of_gt hbl
      have N : CS (wr.alloc (.cells #[.int .i64 k, .int .i64 u, .int .i64 v, .int .i64 n', .string s] 149)) wr.heap.size [.int .i64 k, .int .i64 u, .int .i64 v, .int .i64 n', .string s] := CS.made wr _ rfl #[_, _, _, _, _] _
      have e1 : Below wr.heap.size wr (wr.alloc (.cells #[.int .i64 k, .int .i64 u, .int .i64 v, .int .i64 n', .string s] 149)) := old_alloc (Below.refl _ _) _
      replace hc := hd hc
      replace hq := hd hq
      replace hu := hd hu
      replace hv := hd hv
      replace hf := hd hf
      clear ho hx hP
      refine wpIn_wide.2 ?_
      go_upto_region 4 with fail
      generalize wr.alloc (.cells #[.int .i64 k, .int .i64 u, .int .i64 v, .int .i64 n', .string s] 149) = w1 at *
      clear c0 c1 c2 c3 c4 lb1 lb2 hbl
      have n0 := N.cell 0 _ rfl
      have n1 := N.cell 1 _ rfl
      have n2 := N.cell 2 _ rfl
      have n3 := N.cell 3 _ rfl
      have n4 := N.cell 4 _ rfl
      go_wp2_with fail
      refine (iPartsGn k u v n' s pls.length hc.out hc2 hf.out.2.1 hf.out.2.2.1 _).mono ?_
      rintro e w2 ⟨⟨bp, rfl, p0, p1, hbp⟩, hb2⟩
      replace N := N.later hb2
      have e2 := old_trans e1 hb2
      clear n0 n1 n2 n3 n4 e1 hb2
      have hpc : Hid (∀ q, q < pls.length → w2.cell? ⟨bp, q, none⟩ = some (.int .i64 ((pls.getD q 0 : Nat) : Int))) := fun q hq2 => by
        have : q = 0 ∨ q = 1 := by omega
        rcases this with rfl | rfl
        · rw [p0, hu.out (by omega)]
        · rw [p1, hv.out (by omega)]
      clear p0 p1
      obtain ⟨al, cl, rfl⟩ := G.shape
      obtain ⟨i0, hi, hz0, hz1, hz2⟩ := info_parts infoTer
      obtain ⟨pts, hpts⟩ : ∃ pts, pts = pick pre pls := ⟨_, rfl⟩
      have hptl : pts.length = pls.length := by rw [hpts, pick_len]
      have hpta : Hid (∀ q, q < pls.length → pts.getD q te0 = pre.getD (pls.getD q 0) te0) := fun q h => by rw [hpts]; exact pick_at h
      have hptn : Hid (∀ q, q < pls.length → pts.take (q + 1) = pts.take q ++ [pre.getD (pls.getD q 0) te0]) := fun q h => by rw [hpts]; exact pick_next h
      rw [← hpts] at htrm
      replace hpts := hd hpts
      replace hptl := hd hptl
      go_wp2_with fail
      generalize wr = wo at *
      go_loopw [7, 21] (fun pa i wr => ∃ q : Nat, q ≤ pls.length ∧ i = .int .i64 (q : Int) ∧ TeG wr w2.heap.size pa (pts.take q) ∧ Below w2.heap.size w2 wr) (fun _ i _ => pls.length - (intOf i).toNat)
      case atStart => exact ⟨0, by omega, rfl, by simpa using TeG.nil w2 _, Below.refl _ _⟩
      case round =>
        obtain ⟨q, hq2, rfl, GP, hbq⟩ := hrel
        obtain ⟨ap, cp, rfl⟩ := GP.shape
        have htk : (pts.take q).length = q := by rw [List.length_take]; have := hptl.out; omega
        rw [htk]
        by_cases hlq : q < pls.length
        · have cP := (hbq.cell (p := ⟨bp, q, none⟩) hbp).trans (hpc.out q hlq)
          have hin := hq.out q hlq
          have GQ := (G.later e2).later hbq
          obtain ⟨ga, ca, ea, hga, -, cA⟩ := GQ.at (show pls.getD q 0 < pre.length by omega)
          have hnx := hd (hptn.out q hlq)
          generalize pls.getD q 0 = z at *
          generalize pre.getD z te0 = t at *
          injection ea with ea1 ea2 ea3
          subst ea1 ea3
          unfold teV at cA
          have hqI : (q : Int) < (pls.length : Int) := by omega
          have hzI : (z : Int) < (pre.length : Int) := by omega
          have GPo : wr.ownsRow w2.heap.size 49 1 (.slice ap q cp) q ((pts.take q).map teV) := by
            have g := GP
            unfold TeG at g
            rw [htk] at g
            exact g
          have eX : Below wr.heap.size wr (wr.alloc (.cells #[.slice t.a t.xs.length t.c] 49)) := old_alloc (Below.refl _ _) _
          have GPA := owns_later GPo eX
          have hbX := old_trans hbq eX
          have cw : ∀ i z, [Value.slice t.a t.xs.length t.c][i]? = some z → (wr.alloc (.cells #[.slice t.a t.xs.length t.c] 49)).cell? ((⟨wr.heap.size, 0, none⟩ : Addr).add i) = some z := cells_one wr wr.heap.size rfl _ _
          have hsX : w2.heap.size ≤ (wr.alloc (.cells #[.slice t.a t.xs.length t.c] 49)).heap.size := hbX.size
          have ety : Hid ((pts.take (q + 1)).map teV = (pts.take q).map teV ++ [.slice t.a t.xs.length t.c]) := by show _ = _; rw [hnx.out]; simp [teV]
          have etl : Hid ((pts.take (q + 1)).length = q + 1) := by show _ = _; rw [List.length_take]; have := hptl.out; omega
          have lga1 := Nat.ne_of_lt hga
          have lga2 := Nat.ne_of_gt hga
          have lbp1 := Nat.ne_of_lt (Nat.lt_of_lt_of_le hbp hbq.size)
          have lbp2 := Nat.ne_of_gt (Nat.lt_of_lt_of_le hbp hbq.size)
          clear eX GP GQ GPo htk hnx
          go_wp2_with (first | (at_builtin; refine wpList_append_lies _ rfl _ _ 54 rfl w2.heap.size 49 i0 _ 1 24 Try.underlying54 hi hz0 hz1 hz2 rfl (by decide) _ _ _ (by rfl) GPA ⟨wr.heap.size, 0, none⟩ 1 1 [.slice t.a t.xs.length t.c] rfl rfl cw (by simp [Value.oneCell']) (by decide) (by unfold maxLen; omega) (by omega) hsX _ rfl ?_; intro g' cap' w5 hown hgrow hat hlt5))
          have G5 : TeG w5 w2.heap.size (.slice (some ⟨g', 0, none⟩) (q + 1) cap') (pts.take (q + 1)) := by
            unfold TeG
            rw [ety.out, etl.out]
            exact hown
          have B5 := hbX.grown hgrow hbX.size (fun c e => (World.ownsRow.lt GPA c e).1)
          go_roundw
          case rel => exact ⟨q + 1, by omega, by go_num, G5, B5⟩
          case measure => simp [intOf]; omega
        · obtain rfl : q = pls.length := by omega
          have hni : ¬ ((pls.length : Int) < (pls.length : Int)) := by omega
          have etk : pts.take pls.length = pts := by rw [← hptl.out, List.take_length]
          rw [etk] at GP
          have e3 := old_trans e2 hbq
          have Bq := hB.trans (e3.mono hB.size)
          have GP' : TeG wr w2.heap.size (.slice ap pts.length cp) pts := GP
          have hTq : ∀ i, i < pts.length → TT wr W.heap.size (pts.getD i te0) := fun i hi2 => by
            have h1 := hptl.out
            rw [hpta.out i (by omega)]
            exact (hTT.out _ (getD_memTe (by have := hq.out i (by omega); omega))).old e3
          have h100 : ∀ i, i < pts.length → (pts.getD i te0).xs.length ≤ 100 := fun i hi2 => by
            have h1 := hptl.out
            have h2 := hq.out i (by omega)
            rw [hpta.out i (by omega)]
            have h3 : (pre.getD (pls.getD i 0) te0).xs = (pre.map Te.xs).getD (pls.getD i 0) [] := (tsx_getD (by omega)).symm
            rw [h3, hpre.out, trs_at h2]
            exact trm_le _
          have hRq : InTs wr ap pts.length cp pts := GP'.inTs (fun t ht => by
            obtain ⟨i, hi2, rfl⟩ := List.mem_iff_getElem.1 ht
            have := hTq i hi2
            rw [show pts.getD i te0 = pts[i] by simp [List.getD_eq_getElem?_getD, hi2]] at this
            exact this.teIn)
          have IO := hd (iOver k u v n' s hf.out ap cp pts W.heap.size pn pi an cn names wr hRq hTq (by rw [hptl.out]; exact hc2) h100 (N0.later Bq) (I0.later Bq) (RN0.old Bq) hvar.out)
          rw [← htrm.out, hptl.out] at IO
          have hstep : Hid (trs names xs (j + 1) = trs names xs j ++ [trm names xs j]) := trs_succ j
          have O := O0.later Bq
          replace N := N.later hbq
          have o0 := O.1
          have n0 := N.cell 0 _ rfl
          have n1 := N.cell 1 _ rfl
          have n2 := N.cell 2 _ rfl
          have n3 := N.cell 3 _ rfl
          have n4 := N.cell 4 _ rfl
          generalize trm names xs j = Z at *
          clear hTq h100 hRq GP GP' etk htk hpta hptn hpc htrm e2 hbq
          go_wp2_with fail
          refine IO.out.mono ?_
          rintro e w3 ⟨⟨aZ, cZ, rfl, TZ⟩, hb3⟩
          have e4 := old_trans e3 hb3
          have hs3 := hb3.size
          have e5 : Below w3.heap.size w3 (w3.alloc (.cells #[.slice aZ Z.length cZ] 49)) := old_alloc (Below.refl _ _) _
          have M : Cl1 (w3.alloc (.cells #[.slice aZ Z.length cZ] 49)) w3.heap.size (.slice aZ Z.length cZ) := Cl1.made _ _ rfl _ _
          replace TZ := TZ.old e5
          have e6 := old_trans e4 e5
          clear n0 n1 n2 n3 n4 o0 IO hb3 N O
          go_upto_region 11 with fail
          clear e5
          have hs4 := e4.size
          have hs5 := e3.size
          generalize w3.alloc (.cells #[.slice aZ Z.length cZ] 49) = wY at *
          generalize w3.heap.size = pm at *
          clear e3 e4
          have hJY := hJ.out _ _ _ wY hJr.out e6.os e6.tape e6.output e6.size (fun k hk => e6.block k (hCl k hk))
          have OY : Out C0 W wY := hOr.trans (C' := fun _ => False) (Out.of_below e6) (fun i h => h.elim)
          have GY := hGr.wide e6.size
          have m0 := M.1
          obtain ⟨fn, tmps, assign, body, hy, hY2⟩ := hY.out pre ⟨aZ, cZ, Z⟩ C wY hJY OY GY (by omega) trivial
          dsimp only at hy
          replace hJY := hd hJY
          refine (wpIn_wide (n := n)).1 ?_
          gi_wp2
          refine hY2.mono ?_
          rintro e W3 (⟨rfl, C', hJ3, hO3, hG3⟩ | ⟨rfl, C', hJ3, hO3, hG3⟩)
          · gi_wp2_with fail
            have hC3l : ∀ k, C' k → k < W3.heap.size := hG3.lt (fun k hk => Nat.lt_of_lt_of_le (hCl k hk) (Nat.le_trans e6.size hO3.size))
            have hoY : ∀ b, (Value.slice al pre.length cl).ownBlock = some b → b < wo.heap.size := fun b e => (TeG.lt G b e).2
            have own3 : ∀ b, (Value.slice al pre.length cl).ownBlock = some b → ¬ C' b := fun b e h => by
              have h1 := hoY b e
              have h2 := e6.size
              rcases hG3 b h with h3 | h3
              · exact hoC.out b e h3
              · omega
            have M3 := M.out hO3 (fun h => by have := hCl _ h; omega)
            have G3 : TeG W3 W.heap.size (.slice al pre.length cl) pre := (G.later e6).out hO3 (fun b e => hoC.out b e)
            have T3 : Hid (∀ t ∈ pre, TT W3 W.heap.size t) := fun t ht => ((hTT.out t ht).old e6).out hO3 (fun b e => htC.out t ht b e)
            have TZ3 : TT W3 W.heap.size ⟨aZ, cZ, Z⟩ := (TZ.out hO3 (fun b e h => by have h1 := (TZ.lt b e).1; have h2 := hCl b h; omega)).mono (by have := hOr.size; omega)
            have tz3 : Hid (∀ b, (teV ⟨aZ, cZ, Z⟩).ownBlock = some b → ¬ C' b) := fun b e h => by
              have h1 := TZ.lt b e
              rcases hG3 b h with h3 | h3
              · have h2 := hCl b h3; omega
              · omega
            have tt3 : Hid (∀ t ∈ pre, ∀ b, (teV t).ownBlock = some b → ¬ C' b) := fun t ht b e h => by
              have h1 := ((hTT.out t ht).lt b e).2
              have h2 := e6.size
              rcases hG3 b h with h3 | h3
              · exact htC.out t ht b e h3
              · omega
            have O3 : Out C0 W W3 := OY.trans hO3 (fun i h => (hGr i h).imp id (fun e => e.1))
            have g3 := GY.trans hG3 (Nat.le_trans hOr.size e6.size) hO3.size
            have hZx : Hid ((pre ++ [(⟨aZ, cZ, Z⟩ : Te)]).map Te.xs = trs names xs (j + 1)) := by
              show _ = _
              rw [hstep.out, List.map_append, hpre.out]
              rfl
            have hWs : W.heap.size ≤ W3.heap.size := O3.size
            replace hJ3 := hd hJ3
            clear M TZ hJr hJY OY GY hY2 hy m0 e6 hO3 hG3 hOr hGr hoC htC hTT hstep hpre hCl hCg hB Bq
            have eX : Below W3.heap.size W3 (W3.alloc (.cells #[.slice aZ Z.length cZ] 49)) := old_alloc (Below.refl _ _) _
            have GA := G3.later eX
            unfold TeG at GA
            rw [hpl] at GA
            have cw : ∀ i z, [Value.slice aZ Z.length cZ][i]? = some z → (W3.alloc (.cells #[.slice aZ Z.length cZ] 49)).cell? ((⟨W3.heap.size, 0, none⟩ : Addr).add i) = some z := cells_one W3 W3.heap.size rfl _ _
            have hsX : W.heap.size ≤ (W3.alloc (.cells #[.slice aZ Z.length cZ] 49)).heap.size := by simp; omega
            have m0 := M3.1
            rw [hpl] at own3 G3
            go_wp2_with (first | (at_builtin; refine wpList_append_lies _ rfl _ _ 54 rfl W.heap.size 49 i0 _ 1 24 Try.underlying54 hi hz0 hz1 hz2 rfl (by decide) _ _ _ (by rfl) GA ⟨W3.heap.size, 0, none⟩ 1 1 [.slice aZ Z.length cZ] rfl rfl cw (by simp [Value.oneCell']) (by decide) (by unfold maxLen; omega) (by omega) hsX _ rfl ?_; intro g' cap' w5 hown hgrow hat hlt5))
            have GAt := G3.later eX
            have hs5 := hgrow.size
            have hsX5 : W3.heap.size < (W3.alloc (.cells #[.slice aZ Z.length cZ] 49)).heap.size := by simp
            have G5 : TeG w5 W.heap.size (.slice (some ⟨g', 0, none⟩) (j + 1) cap') (pre ++ [⟨aZ, cZ, Z⟩]) := by
              unfold TeG
              rw [map_snoc, List.length_append, hpl]
              exact hown
            have O5 : Out C0 W w5 := (O3.trans (C' := fun _ => False) (Out.of_below eX) (fun i h => h.elim)).trans (out_grown hgrow) (fun i e => .inr (World.ownsRow.lt GA i e).1)
            have T5 : Hid (∀ t ∈ pre ++ [(⟨aZ, cZ, Z⟩ : Te)], TT w5 W.heap.size t) := fun t ht => by
              rcases List.mem_append.1 ht with h | h
              · exact ((T3.out t h).old eX).grow GAt hgrow
              · rw [List.mem_singleton.1 h]
                exact (TZ3.old eX).grow GAt hgrow
            have J5 : Hid (J (pre ++ [⟨aZ, cZ, Z⟩]) C' w5) := hJ.out _ _ _ w5 hJ3.out (hgrow.os.trans eX.os) (hgrow.tape.trans eX.tape) (hgrow.output.trans eX.output) (by omega) (fun k hk => (hgrow.block k (by have := hC3l k hk; omega) (fun e => own3 k e.symm hk)).trans (eX.block k (hC3l k hk)))
            have o5 : Hid (∀ b, (Value.slice (some ⟨g', 0, none⟩) (j + 1) cap').ownBlock = some b → ¬ C' b) := fun b e h => by
              have := own_is e
              subst this
              rcases hat with h2 | h2
              · exact own3 _ h2 h
              · have := hC3l _ h; omega
            have t5 : Hid (∀ t ∈ pre ++ [(⟨aZ, cZ, Z⟩ : Te)], ∀ b, (teV t).ownBlock = some b → ¬ C' b) := fun t ht b e => by
              rcases List.mem_append.1 ht with h | h
              · exact tt3.out t h b e
              · rw [List.mem_singleton.1 h] at e
                exact tz3.out b e
            go_roundw
            case rel => exact ⟨j + 1, pre ++ [⟨aZ, cZ, Z⟩], C', by omega, by go_num, hZx, by simp [hpl], G5, T5, J5, O5, g3.wide (by omega), o5, t5⟩
            case measure => simp [intOf]; omega
          · gi_wp2_with fail
            have O3 : Out C0 W W3 := OY.trans hO3 (fun i h => (hGr i h).imp id (fun e => e.1))
            have g3 := GY.trans hG3 (Nat.le_trans hOr.size e6.size) hO3.size
            go_wp2
            refine bodyPost_ret (results_none rfl _ _ _) rfl ?_
            exact ⟨⟨_, rfl⟩, O3, .inr ⟨_, _, trivial, hJ3, g3⟩⟩
    · obtain rfl : j = len := by omega
      have hni : ¬ ((j : Int) < (j : Int)) := by omega
      have hT9 : ∀ t ∈ pre, TT wr w0.heap.size t := fun t ht => (hTT.out t ht).mono hB0.size
      gi_wp2
      go_end0
      first | exact ⟨⟨_, rfl⟩, hOr, .inl ⟨pre, C, ⟨hpre.out, hT9⟩, hJr.out, hGr⟩⟩ | exact ⟨⟨_, rfl⟩, hOr, .inl ⟨pre, ⟨hpre.out, hT9⟩, C, hJr.out, hGr⟩⟩
end Go.Proofs.Ytmpckbgelkfgpaa

/- The terms of all nodes of a graph, by the program: in new memory; nothing that was there is written. Conditions: a graph of 120 nodes at most, each over such as are ahead. -/
namespace Go.Proofs.Ytmpckbgelkfgpaa
open Go.RowKit Go.Shelf
attribute [local go_sem] Oper.semAt_some
set_option linter.unusedVariables false
set_option maxRecDepth 100000

theorem owns_same {w w' : World} {base : Nat} {v : Value} {e : TypeId} {size n : Nat} {xs : List Value} (h : w.ownsRow base e size v n xs) (hb : ∀ b, v.ownBlock = some b → w'.heap[b]? = w.heap[b]?) : w'.ownsRow base e size v n xs := by
  refine ⟨h.1, ?_⟩
  rcases h.2 with h2 | ⟨g, cap, cur, rfl, h3, h4, rest⟩
  · exact .inl h2
  · exact .inr ⟨g, cap, cur, rfl, h3, (hb g rfl).trans h4, rest⟩
theorem owns_put {w : World} {base : Nat} {v : Value} {e : TypeId} {size n : Nat} {xs : List Value} (h : w.ownsRow base e size v n xs) {l : Nat} {o : Obj} (hl : w.heap[l]? = some o) (ho : o.isCells = false) (o' : Obj) : (w.putObj l o').ownsRow base e size v n xs :=
  owns_same h (fun b hb => by
    obtain ⟨cur, hc⟩ := owns_type h hb
    refine World.putObj_heap_other (fun q => ?_)
    subst q
    rw [hl] at hc
    injection hc with hc
    subst hc
    simp [Obj.isCells] at ho)
theorem TT.put {w : World} {base : Nat} {t : Te} (h : TT w base t) {l : Nat} {o : Obj} (hl : w.heap[l]? = some o) (ho : o.isCells = false) (o' : Obj) : TT (w.putObj l o') base t := h.imp id (fun g => ⟨g.1, g.2.1, owns_put g.2.2 hl ho o'⟩)
theorem Cl1.put {w : World} {b : Nat} {v : Value} (h : Cl1 w b v) {l : Nat} {o : Obj} (hl : w.heap[l]? = some o) (ho : o.isCells = false) (o' : Obj) : Cl1 (w.putObj l o') b v :=
  ⟨cell_kept h.1 (grownBy_putObj' _ l o') (fun r e => by cases e; exact ⟨_, hl, ho⟩), (frozen_kept h.1 (grownBy_putObj' _ l o') (fun r e => by cases e; exact ⟨_, hl, ho⟩)).trans h.2.1, by simpa using h.2.2⟩
/-- what the rounds keep: a list that grows, and the variable that holds it -/
def AppI (p base : Nat) (pre : List Te) (C : Nat → Prop) (W : World) : Prop := ∃ v, Cl1 W p v ∧ TeG W base v pre ∧ C p ∧ ∀ b, v.ownBlock = some b → C b
theorem AppI.stable (p base : Nat) : Stable (AppI p base) := by
  rintro s C A B ⟨v, h1, h2, h3, h4⟩ e1 e2 e3 e4 e5
  have e := e5 p h3
  exact ⟨v, ⟨(World.cell?_of_block (a := ⟨p, 0, none⟩) e).trans h1.1, (World.frozen?_of_block (a := ⟨p, 0, none⟩) e).trans h1.2.1, Nat.lt_of_lt_of_le h1.2.2 e4⟩, owns_same h2 (fun b hb => e5 b (h4 b hb)), h3, h4⟩
set_option maxRecDepth 100000 in
set_option maxHeartbeats 16000000 in
theorem iAppendSeq (pg po N : Nat) (S : List Te → World → Prop) (w0 w : World) (hN : N ≤ 120)
    (hseq : SeqB Fence.wide 2 Try.prog 142 #[.pointer (some ⟨pg, 0, none⟩), .pointer (some ⟨po, 0, none⟩)] (fun t : Te => #[.agg #[.slice t.a t.xs.length t.c]]) (fun _ _ => True) S (fun _ _ => True) N (fun k => k < w0.heap.size) w0)
    (hw : Below w0.heap.size w0 w) (hSb : ∀ ts (W : World) (l : Nat) (o o' : Obj), W.heap[l]? = some o → o.isCells = false → S ts W → S ts (W.putObj l o')) :
    Calls Try.prog 141 #[.slice none 0 0, .func (.func 142) #[] #[.pointer (some ⟨pg, 0, none⟩), .pointer (some ⟨po, 0, none⟩)]] w fun e w' => (∃ av cv ts, e = .returned (.slice av (List.length ts) cv) ∧ TeG w' w.heap.size (.slice av ts.length cv) ts ∧ S ts w') ∧ Below w.heap.size w w' := by
  refine (callsIn_wide (n := 3)).1 ?_
  have hro : Fence.wide.round = none := rfl
  have h1 : 1 ≤ 3 := by omega
  obtain ⟨p, hp⟩ : ∃ p, w.heap.size = p := ⟨_, rfl⟩
  refine callsIn_of_wp_marks Try.func141 rfl trivial ?_ hro
  simp only [Try.ntmps141, List.size_toArray, List.length_cons, List.length_nil, Nat.reduceAdd, Nat.reduceSub, Array.replicate_succ, Array.replicate_zero, List.push_toArray, List.append_toArray, List.nil_append, List.cons_append]
  gi_wp2
  have P0 : Cl1 (w.alloc (.cells #[.slice none 0 0] 54)) p (.slice none 0 0) := by rw [← hp]; exact Cl1.made _ _ rfl _ _
  have B0 : Below w.heap.size w (w.alloc (.cells #[.slice none 0 0] 54)) := old_alloc (Below.refl _ _) _
  have sz0 : (w.alloc (.cells #[.slice none 0 0] 54)).heap.size = p + 1 := by simp [hp]
  generalize w.alloc (.cells #[.slice none 0 0] 54) = W0 at *
  have hws := hw.size
  refine wpIn_rangeFunc_B hro h1 (gf := 142) (lb := #[.pointer (some ⟨pg, 0, none⟩), .pointer (some ⟨po, 0, none⟩)]) rfl trivial (enters_of Try.func142 (by kernel_rfl) rfl)
    hseq (Out.of_below (hw.trans (B0.mono hws))) (fun k hk => by omega) (fun _ => rfl) hSb (fun _ _ _ _ _ _ _ _ => trivial)
    (AppI p (p + 1)) (fun _ _ _ _ => False) (AppI.stable _ _) (fun c s C A B h => h.elim)
    (fun k => k = p) ⟨_, P0, TeG.nil _ _, rfl, fun b e => absurd e (by simp [Value.ownBlock])⟩ (fun k hk => by omega) (fun k hk => by omega)
    (fun t b W => ∃ q, Cl1 W q (.slice t.a t.xs.length t.c) ∧ b = { tmps := #[.slice none 0 0, .func (.func 142) #[] #[.pointer (some ⟨pg, 0, none⟩), .pointer (some ⟨po, 0, none⟩)], .pointer (some ⟨p, 0, none⟩), undef, .slice none 0 0, .pointer (some ⟨q, 0, none⟩), .func (.func 142) #[] #[.pointer (some ⟨pg, 0, none⟩), .pointer (some ⟨po, 0, none⟩)], .agg #[.slice t.a t.xs.length t.c], undef, undef, undef, undef, undef], defers := [] })
    (fun x b W l o o' h1 h2 ⟨q, h3, h4⟩ => ⟨q, h3.put h1 h2 o', h4⟩) ?assign ?body ?done ?stop
  case assign =>
    intro l x W K _ hK
    gi_wp2
    exact hK _ _ ⟨_, Cl1.made _ _ rfl _ _, rfl⟩ (old_alloc (Below.refl _ _) _)
  case body =>
    rintro l pre x C b W ⟨v, P, G, hCp, hvC⟩ hO hG hlen ⟨q, X, rfl⟩
    obtain ⟨al, cl, rfl⟩ := G.shape
    obtain ⟨i0, hi, hz0, hz1, hz2⟩ := info_parts infoTer
    have hsW : p + 1 ≤ W.heap.size := by have := hO.size; omega
    have eX : Below W.heap.size W (W.alloc (.cells #[.slice x.a x.xs.length x.c] 49)) := old_alloc (Below.refl _ _) _
    have GA := G.later eX
    have PA := P.later eX
    unfold TeG at GA
    have cw : ∀ i z, [Value.slice x.a x.xs.length x.c][i]? = some z → (W.alloc (.cells #[.slice x.a x.xs.length x.c] 49)).cell? ((⟨W.heap.size, 0, none⟩ : Addr).add i) = some z := cells_one W W.heap.size rfl _ _
    have hsX : p + 1 ≤ (W.alloc (.cells #[.slice x.a x.xs.length x.c] 49)).heap.size := by simp; omega
    have far : ∀ o, o = (Value.slice al pre.length cl).ownBlock → some p ≠ o := fun o e h => by
      subst e
      have := (World.ownsRow.lt G p h.symm).1
      omega
    have hne := far _ rfl
    obtain ⟨p0, p1, p2⟩ := id P
    have x0 := X.1
    gi_wp2_with (first | (gi_at_builtin; refine wpListIn_append_own_at _ rfl _ _ 54 rfl (p + 1) 49 i0 _ 1 24 Try.underlying54 hi hz0 hz1 hz2 rfl (by decide) _ _ _ (by rfl) GA ⟨W.heap.size, 0, none⟩ 1 1 [.slice x.a x.xs.length x.c] rfl rfl cw (by simp [Value.oneCell']) (by unfold maxLen; omega) (by omega) hsX ?_; intro v' w5 hown hgrow hnil hat; obtain ⟨g', cap', rfl, hgb, hg5⟩ := World.ownsRow.form hown (by omega); have P5 := PA.kept hgrow hne; have y0 := P5.1; have y1 := P5.2.1; have y2 := P5.2.2))
    have hs5 := hgrow.size
    have hsXe : (W.alloc (.cells #[.slice x.a x.xs.length x.c] 49)).heap.size = W.heap.size + 1 := by simp
    have hat' : (Value.slice al pre.length cl).ownBlock = some g' ∨ g' = W.heap.size + 1 := by
      rcases hat with h | h
      · exact .inl h.symm
      · exact .inr (by simpa [Value.ownBlock] using h)
    refine ⟨fun k => C k ∨ (k = g' ∧ W.heap.size ≤ k), ⟨_, P5.set _, ?_, .inl hCp, fun b e => ?_⟩, ?_, ?_⟩
    · unfold TeG
      rw [map_snoc, List.length_append]
      refine World.ownsRow.kept hown (grown_cell w5 p _) (owns_sep hown (fun b e e2 => ?_))
      have := (World.ownsRow.lt hown b e).1
      injection e2 with e2
      omega
    · have := own_is e
      subst this
      rcases hat' with h | h
      · exact .inl (hvC _ h)
      · exact .inr ⟨rfl, by omega⟩
    · refine ((Out.of_below eX : Out C _ _).trans (out_grown hgrow) (fun i e => .inl (hvC i e))).trans (C' := fun k => k = p) ⟨rfl, rfl, rfl, by simp [World.setCell], fun k _ hk => Below.heap_setCell _ _ _ _ (fun e => hk (by rw [e]))⟩ (fun i e => by subst e; exact .inl hCp)
    · intro k hk
      rcases hk with hk | ⟨rfl, hk⟩
      · exact .inl hk
      · exact .inr ⟨hk, by simpa [World.setCell] using hg5⟩
  case done =>
    rintro D ts C W hD hS ⟨v, P, G, hCp, hvC⟩ hO hG hK
    obtain ⟨al, cl, rfl⟩ := G.shape
    have p0 := P.1
    gi_wp2
    refine ⟨by simp, .inl ⟨_, _, rfl, run_takeDeferred hK, ?_⟩⟩
    refine ⟨.slice al ts.length cl, ?_, ⟨al, cl, ts, rfl, owns_mono (owns_put G hK rfl _) (by omega), hSb _ _ _ _ _ hK rfl hS⟩, (B0.trans (hO.below (by omega) (fun i e => by omega))).trans ((Out.put (C := fun k => k = D) W D (.deferred none) rfl).below (by have := hO.size; omega) (fun i e => by omega))⟩
    simp [results, Try.f141, go_sem]
  case stop =>
    rintro D c pre C W hD _ h hO hG hK
    exact h.elim
end Go.Proofs.Ytmpckbgelkfgpaa

/- The terms of all nodes of a graph, and which names are names, by the program. Nothing that was there is written. Conditions: a graph of 120 nodes at most, each over such as are ahead. -/
namespace Go.Proofs.Ytmpckbgelkfgpaa
open Go.RowKit Go.Shelf
set_option linter.unusedVariables false
set_option maxRecDepth 100000

theorem st_funcV (P : Program) (w : World) (a : Addr) (m : Mode) (fn : Fn) (first captured : Array Value) : (store a (.func fn first captured) m).run P w = stored P w a (.func fn first captured) m := run_store P w a _ m rfl
attribute [local go_sem] st_funcV
theorem iFold (vs : Int) (a : Option Addr) (len cap : Nat) (a' : Option Addr) (len' cap' : Nat) (bs : Array Value) (w : World) :
    Calls Try.prog 122 #[.agg #[.int .i64 vs, .slice a len cap, .slice a' len' cap'], .func (.func 123) #[] bs] w fun e w' => e = .returned (.func (.func 142) #[] #[.pointer (some ⟨w.heap.size, 0, none⟩), .pointer (some ⟨w.heap.size + 1, 0, none⟩)]) ∧ w' = (w.alloc (.cells #[.int .i64 vs, .slice a len cap, .slice a' len' cap'] 71)).alloc (.cells #[.func (.func 123) #[] bs] 165) := by
  go_enter Try.func122, Try.ntmps122
  go_wp2
  go_ret
  exact ⟨rfl, rfl⟩
theorem iCollect (pg po N : Nat) (S : List Te → World → Prop) (w0 w : World) (hN : N ≤ 120)
    (hseq : SeqB Fence.wide 2 Try.prog 142 #[.pointer (some ⟨pg, 0, none⟩), .pointer (some ⟨po, 0, none⟩)] (fun t : Te => #[.agg #[.slice t.a t.xs.length t.c]]) (fun _ _ => True) S (fun _ _ => True) N (fun k => k < w0.heap.size) w0)
    (hw : Below w0.heap.size w0 w) (hSb : ∀ ts (W : World) (l : Nat) (o o' : Obj), W.heap[l]? = some o → o.isCells = false → S ts W → S ts (W.putObj l o')) :
    Calls Try.prog 121 #[(.func (.func 142) #[] #[.pointer (some ⟨pg, 0, none⟩), .pointer (some ⟨po, 0, none⟩)])] w fun e w' => (∃ av cv ts, e = .returned (.slice av (List.length ts) cv) ∧ TeG w' w.heap.size (.slice av ts.length cv) ts ∧ S ts w') ∧ Below w.heap.size w w' := by
  have A := hd (iAppendSeq pg po N S w0 w hN hseq hw hSb)
  go_enter Try.func121, Try.ntmps121
  go_wp2_with fail
  refine A.out.mono ?_
  rintro e w1 ⟨⟨av, cv, ts, rfl, G, hS⟩, hb⟩
  replace hS := hd hS
  go_wp2
  go_ret
  exact ⟨⟨av, cv, ts, rfl, G, hS.out⟩, hb⟩
set_option maxRecDepth 100000 in
set_option maxHeartbeats 8000000 in
theorem iTermsOf (vs : Int) (a : Option Addr) (len cap : Nat) (xs : List Gn) (a' : Option Addr) (len' cap' : Nat) (an : Option Addr) (cn : Nat) (names : List ByteArray) (w : World)
    (R : InGn w a len cap xs) (RN : InT w an names.length cn names) (hl : len ≤ 120) (hO : gOrd names.length xs) (hE : ∀ i, i < xs.length → (xs.getD i gn0).k = 2 → (xs.getD i gn0).s = ⟨#[]⟩) :
    Calls Try.prog 83 #[.agg #[.int .i64 vs, .slice a len cap, .slice a' len' cap'], .slice an names.length cn] w fun e w' => (∃ av cv ts, e = .returned (.slice av (List.length ts) cv) ∧ TeG w' w.heap.size (.slice av ts.length cv) ts ∧ ts.map Te.xs = trs names xs len ∧ ∀ t ∈ ts, TT w' w.heap.size t) ∧ Below w.heap.size w w' := by
  have e2 : Below w.heap.size w ((w.alloc (.cells #[.int .i64 vs, .slice a len cap, .slice a' len' cap'] 71)).alloc (.cells #[.slice an names.length cn] 42)) := (by repeat (first | exact Below.refl _ _ | refine Below.drew ?_ | refine old_alloc ?_ _ | refine old_trans ?_ (by assumption)))
  have N0 : Cl1 ((w.alloc (.cells #[.int .i64 vs, .slice a len cap, .slice a' len' cap'] 71)).alloc (.cells #[.slice an names.length cn] 42)) (w.heap.size + 1) (.slice an names.length cn) := Cl1.made _ _ (by simp) _ _
  have K : CS ((w.alloc (.cells #[.int .i64 vs, .slice a len cap, .slice a' len' cap'] 71)).alloc (.cells #[.slice an names.length cn] 42)) w.heap.size [.int .i64 vs, .slice a len cap, .slice a' len' cap'] := (CS.made w _ rfl #[_, _, _] _).alloc _
  have k0 := K.cell 0 _ rfl
  have k1 := K.cell 1 _ rfl
  have k2 := K.cell 2 _ rfl
  replace hO := hd hO
  replace hE := hd hE
  go_enter Try.func83, Try.ntmps83
  go_wp2_with fail
  have I0 : Cl1 ((((w.alloc (.cells #[.int .i64 vs, .slice a len cap, .slice a' len' cap'] 71)).alloc (.cells #[.slice an names.length cn] 42))).alloc (.cells #[.func (.func 120) #[] #[]] 102)) (w.heap.size + 1 + 1) (.func (.func 120) #[] #[]) := Cl1.made _ _ (by simp) _ _
  replace N0 := N0.alloc (.cells #[.func (.func 120) #[] #[]] 102)
  have e3 := old_alloc e2 (.cells #[.func (.func 120) #[] #[]] 102)
  have R3 := R.old e3
  have RN3 := RN.old e3
  clear k0 k1 k2 K e2 R RN
  generalize (((w.alloc (.cells #[.int .i64 vs, .slice a len cap, .slice a' len' cap'] 71)).alloc (.cells #[.slice an names.length cn] 42))).alloc (.cells #[.func (.func 120) #[] #[]] 102) = W3 at *
  refine (iFold vs a len cap a' len' cap' _ _).mono ?_
  rintro e w4 ⟨rfl, rfl⟩
  have e4 : Below W3.heap.size W3 ((W3.alloc (.cells #[.int .i64 vs, .slice a len cap, .slice a' len' cap'] 71)).alloc (.cells #[.func (.func 123) #[] #[.pointer (some ⟨w.heap.size + 1, 0, none⟩), .pointer (some ⟨w.heap.size + 1 + 1, 0, none⟩)]] 165)) := (by repeat (first | exact Below.refl _ _ | refine Below.drew ?_ | refine old_alloc ?_ _ | refine old_trans ?_ (by assumption)))
  have KF : CS ((W3.alloc (.cells #[.int .i64 vs, .slice a len cap, .slice a' len' cap'] 71)).alloc (.cells #[.func (.func 123) #[] #[.pointer (some ⟨w.heap.size + 1, 0, none⟩), .pointer (some ⟨w.heap.size + 1 + 1, 0, none⟩)]] 165)) W3.heap.size [.int .i64 vs, .slice a len cap, .slice a' len' cap'] := (CS.made W3 _ rfl #[_, _, _] _).alloc _
  have OF : Cl1 ((W3.alloc (.cells #[.int .i64 vs, .slice a len cap, .slice a' len' cap'] 71)).alloc (.cells #[.func (.func 123) #[] #[.pointer (some ⟨w.heap.size + 1, 0, none⟩), .pointer (some ⟨w.heap.size + 1 + 1, 0, none⟩)]] 165)) (W3.heap.size + 1) (.func (.func 123) #[] #[.pointer (some ⟨w.heap.size + 1, 0, none⟩), .pointer (some ⟨w.heap.size + 1 + 1, 0, none⟩)]) := Cl1.made _ _ (by simp) _ _
  have hseq := foldSeq 2 (by omega) vs a len cap xs a' len' cap' an cn names W3.heap.size (W3.heap.size + 1) (w.heap.size + 1) (w.heap.size + 1 + 1) _ KF OF (N0.later e4) (I0.later e4) (R3.old e4) (RN3.old e4) hl hO.out hE.out
  have A := hd (iCollect _ _ len _ _ _ hl hseq (Below.refl _ _) (fun ts W l o o' h1 h2 h3 => ⟨h3.1, fun t ht => (h3.2 t ht).put h1 h2 o'⟩))
  have e5 := old_trans e3 e4
  clear hseq KF OF N0 I0 R3 RN3 hO hE e4 e3
  generalize (W3.alloc (.cells #[.int .i64 vs, .slice a len cap, .slice a' len' cap'] 71)).alloc (.cells #[.func (.func 123) #[] #[.pointer (some ⟨w.heap.size + 1, 0, none⟩), .pointer (some ⟨w.heap.size + 1 + 1, 0, none⟩)]] 165) = W5 at *
  go_wp2_with fail
  refine A.out.mono ?_
  rintro e w6 ⟨⟨av, cv, ts, rfl, G, hS⟩, hb⟩
  have hs5 := e5.size
  replace hS := hd hS
  have hB := old_trans e5 hb
  go_wp2
  go_ret
  exact ⟨⟨av, cv, ts, rfl, owns_mono G hs5, hS.out.1, fun t ht => (hS.out.2 t ht).mono hs5⟩, hB⟩
end Go.Proofs.Ytmpckbgelkfgpaa

/- Whether all texts of a list are names, and whether two are one, by the program. Nothing that was there is written. No condition but that the list is there. -/
namespace Go.Proofs.Ytmpckbgelkfgpaa
open Go.RowKit Go.Shelf Go.WideMaps
set_option linter.unusedVariables false
set_option maxRecDepth 100000

theorem sgLaw : WideMaps.KeyLaw Try.prog 9 := string_law Try.underlying9
def sk (s : ByteArray) : Lit := .string s.data.toList
theorem sgKey (s : ByteArray) (h : s.size ≤ maxLen) : keyOf Try.prog 9 (.string s) = some (sk s) := keyOf_string_mk Try.underlying9 h
theorem nodup_sk {xs : List ByteArray} : (xs.map sk).Nodup ↔ xs.Nodup := by
  unfold List.Nodup
  rw [List.pairwise_map]
  constructor
  · exact fun q => q.imp fun hne e => hne (by rw [e])
  · intro q
    refine q.imp fun hne e => hne ?_
    unfold sk at e
    injection e with e
    exact ByteArray.ext (Array.ext' e)
theorem take_map_sk (xs : List ByteArray) (k : Nat) (hk : k < xs.length) : (xs.take (k + 1)).map sk = (xs.take k).map sk ++ [sk (xs.getD k ⟨#[]⟩)] := by
  rw [List.take_add_one, List.getElem?_eq_getElem hk, List.map_append]
  simp [List.getD_eq_getElem?_getD, List.getElem?_eq_getElem hk]
theorem iNoName (s : ByteArray) (w : World) : Calls Try.prog 79 #[.string s] w fun e w' => BoolIs e (nameB s = false) ∧ Below w.heap.size w w' := by
  have H := hd (iNameOk s)
  generalize nameB s = b at *
  go_enter Try.func79, Try.ntmps79
  go_wp2_with fail
  refine (H.out _).mono ?_
  rintro e w1 ⟨rfl, hb⟩
  cases b
  · go_wp2
    go_ret
    exact ⟨BoolIs.yes (by first | trivial | rfl) (by rfl), hb⟩
  · go_wp2
    go_ret
    exact ⟨BoolIs.no (by simp) (by rfl), hb⟩
set_option maxHeartbeats 2000000 in
theorem iIndexName (a : Option Addr) (len cap : Nat) (xs : List ByteArray) (w : World) (hR : InT w a len cap xs) :
    Calls Try.prog 112 #[.slice a len cap, .func (.func 79) #[] #[]] w fun e w' => IntIs e (∃ i, i < len ∧ nameB (xs.getD i ⟨#[]⟩) = false) ∧ Below w.heap.size w w' := by
  have hlen := hR.len
  go_enter Try.func112, Try.ntmps112
  go_wp2
  go_loopw [8] (fun i wr => ∃ k : Nat, k ≤ len ∧ i = .int .i64 k ∧ Hid (∀ q, q < k → ¬ nameB (xs.getD q ⟨#[]⟩) = false) ∧ Below w.heap.size w wr) (fun b _ => len - (intOf b).toNat)
  case atStart => exact ⟨0, by omega, rfl, fun q h => by omega, (by repeat (first | exact Below.refl _ _ | refine Below.drew ?_ | refine old_alloc ?_ _ | refine old_trans ?_ (by assumption)))⟩
  case round =>
    obtain ⟨j, hk, rfl, hne, hb⟩ := hrel
    by_cases hlt : j < len
    · obtain ⟨bl, off, x, rfl, hbl, hx, hf, c0⟩ := (hR.old hb).at hlt
      have H := hd (iNoName x wr)
      replace hx := hd hx
      clear hf hR
      go_wp2_with fail
      refine H.out.mono ?_
      rintro e w1 ⟨⟨b, rfl, hb1⟩, hb2⟩
      replace hb1 := hd hb1
      have hb' := old_trans hb hb2
      cases b
      case true =>
        have yes := hd (hb1.out.1 rfl)
        have j0 : (0 : Int) ≤ (j : Int) := by omega
        go_wp2
        go_ret
        exact ⟨IntIs.mk ⟨fun _ => ⟨j, hlt, by rw [hx.out]; exact yes.out⟩, fun _ => by omega⟩, hb'⟩
      case false =>
        have no : Hid (¬ nameB (xs.getD j ⟨#[]⟩) = false) := fun q => by rw [hx.out] at q; have := hb1.out.2 q; cases this
        go_wp2
        go_roundw
        case rel => exact ⟨j + 1, by omega, by go_num, fun q hq => by
          by_cases e : q = j
          · rw [e]; exact no.out
          · exact hne.out q (by omega), hb'⟩
        case measure => simp [intOf]; omega
    · obtain rfl : j = len := by omega
      go_wp2
      go_ret
      exact ⟨IntIs.mk ⟨fun h => by omega, fun ⟨i, h1, h2⟩ => absurd h2 (hne.out i h1)⟩, hb⟩
set_option maxHeartbeats 1000000 in
theorem iContainsName (a : Option Addr) (len cap : Nat) (xs : List ByteArray) (w : World) (hR : InT w a len cap xs) :
    Calls Try.prog 78 #[.slice a len cap, .func (.func 79) #[] #[]] w fun e w' => BoolIs e (¬ ∀ s ∈ xs, nameB s = true) ∧ Below w.heap.size w w' := by
  have H := hd (iIndexName a len cap xs w hR)
  have hl := hR.1
  have hiff : Hid ((∃ i, i < len ∧ nameB (xs.getD i ⟨#[]⟩) = false) ↔ ¬ ∀ s ∈ xs, nameB s = true) := by
    constructor
    · rintro ⟨i, h1, h2⟩ h
      have := h _ (tgetD_mem (by rw [hl]; exact h1))
      rw [h2] at this
      cases this
    · intro h
      apply Classical.byContradiction
      intro h2
      refine h fun s hs => ?_
      obtain ⟨i, hi, rfl⟩ := List.getElem_of_mem hs
      cases hb : nameB xs[i] with
      | true => rfl
      | false => exact absurd ⟨i, by omega, by rw [List.getD_eq_getElem?_getD, List.getElem?_eq_getElem hi]; exact hb⟩ h2
  go_enter Try.func78, Try.ntmps78
  go_wp2_with fail
  refine H.out.mono ?_
  rintro e w1 ⟨⟨z, rfl, hz⟩, hb⟩
  replace hz := hd hz
  by_cases h : 0 ≤ z
  · have y := hd (hiff.out.1 (hz.out.1 h))
    clear hz hiff
    go_wp2
    go_ret
    exact ⟨BoolIs.yes y.out (by first | (simp; done) | (simp; exact h)), hb⟩
  · have y : Hid (¬ ¬ ∀ s ∈ xs, nameB s = true) := fun q => h (hz.out.2 (hiff.out.2 q))
    clear hz hiff
    go_wp2
    go_ret
    exact ⟨BoolIs.no y.out (by first | (simp; done) | (simp; exact h) | (simp; omega)), hb⟩
set_option maxRecDepth 100000 in
set_option maxHeartbeats 4000000 in
theorem iTwiceT (a : Option Addr) (len cap : Nat) (xs : List ByteArray) (w : World) (hR : InT w a len cap xs) :
    Calls Try.prog 80 #[.slice a len cap] w fun e w' => BoolIs e (¬ xs.Nodup) ∧ Below w.heap.size w w' := by
  have hmm := @run_makeMap Try.prog
  have hlm : len ≤ maxLen := Nat.le_trans hR.2.1 hR.2.2.1
  have hlb := hR.len
  have hlen := hR.1
  have hfin : Hid (∀ D : DataW Unit, Seen D ((xs.take len).map sk) → (Maps.size D ≤ len ∧ (((Maps.size D : Int) < (len : Int)) ↔ ¬ xs.Nodup))) := fun D h => by
    have e : xs.take len = xs := List.take_of_length_le (by omega)
    rw [e] at h
    have h1 := h.le
    have h2 := h.eq
    rw [nodup_sk, List.length_map] at h2
    rw [List.length_map] at h1
    refine ⟨by omega, ?_⟩
    rw [← h2]
    omega
  replace hlen := hd hlen
  replace hlm := hd hlm
  go_enter Try.func80, Try.ntmps80
  go_wp2
  go_loopw [9] (fun i wr => ∃ (k : Nat) (D : DataW Unit), k ≤ len ∧ i = .int .i64 k ∧ wr.ownsMap Try.prog 9 (plainElem Try.prog 3) w.heap.size k D ∧ Hid (Seen D ((xs.take k).map sk)) ∧ Below w.heap.size w wr) (fun i _ => len - (intOf i).toNat)
  case atStart => exact ⟨0, .map [], Nat.zero_le _, rfl, World.ownsMap_made _ _ _ _, hd (by simpa using Seen.none), (Below.refl _ _).alloc (Nat.le_refl _) _⟩
  case round =>
    obtain ⟨k, D, hk, rfl, hown, hseen, hb⟩ := hrel
    by_cases hlt : k < len
    · obtain ⟨bl, off, x, rfl, hbl, hx, hf, c0⟩ := (hR.old hb).at hlt
      have hkey := sgKey x hf
      have hstep := hd ((take_map_sk xs k (by have := hlen.out; omega)).trans (by rw [hx]))
      have hkm : k < maxLen := Nat.lt_of_lt_of_le hlt hlm.out
      obtain ⟨c, L, -, -⟩ := hown.lookup_int (Maps.Keyed.of_law sgLaw) Try.underlying154 Try.underlying3 (zeroInt _) hkey
      obtain ⟨w2, S2, own2, G2⟩ := hown.update (Maps.Keyed.of_law sgLaw) Try.underlying154 hkm hkey (plainElem_int Try.underlying3 (wrap64_wf (c + 1)))
      replace hkey := hd ((Maps.Keyed.of_law sgLaw).key hkey)
      clear hx hf hfin hkm hlm
      have hB := hb.grown G2 hb.size (fun j hj => by cases hj; exact Nat.le_refl _)
      go_wp2_with fail
      all_goals go_roundw
      case rel => exact ⟨k + 1, _, by omega, by go_num, own2, hd (by rw [hstep.out]; exact hseen.out.put hkey.out _), hB⟩
      case measure => simp [intOf]; omega
    · obtain rfl : k = len := by omega
      have hn : ¬ ((k : Int) < (k : Int)) := by omega
      have hq := hd (hfin.out D hseen.out)
      have hln := fun ty => hown.len Try.underlying154 ty
      go_wp2
      go_ret
      exact ⟨BoolIs.mk (by have q := hq.out.2; simpa using q), hb⟩
end Go.Proofs.Ytmpckbgelkfgpaa

/- Names that are names, no two alike, by the specification; that the nodes of a graph that is one stand over such as are ahead. Nothing that was there is written. No condition. -/
namespace Go.Proofs.Ytmpckbgelkfgpaa
open Go.RowKit Go.Shelf
set_option linter.unusedVariables false
set_option maxRecDepth 100000

theorem fnd_lt : ∀ {names : List ByteArray} {s : ByteArray}, fnd names s < names.length → names.getD (fnd names s) ⟨#[]⟩ = s
  | [], s, h => absurd h (by simp)
  | x :: xs, s, h => by
    unfold fnd at h ⊢
    split at h
    · rename_i e; rw [if_pos e]; simpa using e
    · rename_i e
      rw [if_neg e]
      have := fnd_lt (names := xs) (s := s) (by simpa using h)
      simpa using this
theorem fndI_iff {names : List ByteArray} {s : ByteArray} : 0 ≤ fndI names s ↔ ∃ q, q < names.length ∧ names.getD q ⟨#[]⟩ = s := by
  constructor
  · intro h
    unfold fndI at h
    split at h
    · rename_i g; exact ⟨_, g, fnd_lt g⟩
    · omega
  · rintro ⟨q, h1, h2⟩
    by_cases h : 0 ≤ fndI names s
    · exact h
    · exfalso
      have h3 : ¬ fnd names s < names.length := fun g => h (by unfold fndI; rw [if_pos g]; omega)
      have : ∀ m, m ≤ q + 1 → ∀ p, p < m → names.getD p ⟨#[]⟩ ≠ s := by
        intro m
        induction m with
        | zero => intro _ p hp; omega
        | succ m ih =>
          intro hm p hp
          by_cases e : p = m
          · subst e
            intro e2
            have := fndI_hit (ih (by omega)) (by omega) e2
            omega
          · exact ih (by omega) p (by omega)
      exact this (q + 1) (Nat.le_refl _) q (by omega) h2
theorem tget_take {xs : List ByteArray} {q k : Nat} (h : q < k) : (xs.take k).getD q ⟨#[]⟩ = xs.getD q ⟨#[]⟩ := by
  rw [List.getD_eq_getElem?_getD, List.getD_eq_getElem?_getD, List.getElem?_take_of_lt h]
theorem InT.take {w : World} {a : Option Addr} {len cap : Nat} {xs : List ByteArray} (h : InT w a len cap xs) {k : Nat} (hk : k ≤ len) : InT w a k cap (xs.take k) := by
  obtain ⟨h1, h2, h3, h4, h5⟩ := h
  refine ⟨by rw [List.length_take]; omega, by omega, h3, fun x hx => h4 x (List.mem_of_mem_take hx), ?_⟩
  by_cases h0 : k = 0
  · exact .inl h0
  rcases h5 with h5 | ⟨b, off, q1, q2, q3⟩
  · omega
  · exact .inr ⟨b, off, q1, q2, fun i hi => by rw [tget_take hi]; exact q3 i (by omega)⟩
set_option maxHeartbeats 2000000 in
theorem sFindQ (a : Option Addr) (len cap : Nat) (names : List ByteArray) (s : ByteArray) (w : World) (hR : InT w a len cap names) :
    Calls Try.prog 61 #[.slice a len cap, .string s] w fun e w' => e = .returned (.int .i64 (fndI names s)) ∧ w' = w := by
  have hlen := hR.len
  have hp := hR.1
  have miss := hd (fndI_miss (names := names) (s := s))
  have hit := hd (fun j => fndI_hit (names := names) (s := s) (j := j))
  generalize fndI names s = r at *
  go_enter Try.func61, Try.ntmps61
  go_wp2
  go_loopw [5] (fun i wr => ∃ j : Nat, j ≤ len ∧ i = .int .i64 j ∧ Hid (∀ q, q < j → names.getD q ⟨#[]⟩ ≠ s) ∧ wr = w) (fun b _ => len - (intOf b).toNat)
  case atStart => exact ⟨0, by omega, rfl, fun q h => by omega, rfl⟩
  case round =>
    obtain ⟨j, hk, rfl, hne, rfl⟩ := hrel
    by_cases hlt : j < len
    · obtain ⟨b, off, x, rfl, hbl, hx, -, c0⟩ := hR.at hlt
      by_cases e : x = s
      · have er := hd (hit.out j hne.out (by omega) (by rw [hx, e]))
        clear hx hne miss hit
        subst e
        go_wp2
        go_ret
        exact ⟨by rw [er.out]; rfl, rfl⟩
      · have ne : Hid (∀ q, q < j + 1 → names.getD q ⟨#[]⟩ ≠ s) := fun q hq => by
          by_cases e2 : q = j
          · rw [e2, hx]; exact e
          · exact hne.out q (by omega)
        have e3 : (x.toList == s.toList) = false := beq_eq_false_iff_ne.2 (fun h => e (bytes_inj h))
        clear hx hne miss hit
        go_wp2
        all_goals go_roundw
        case rel => exact ⟨j + 1, by omega, by go_num, ne.out, by first | rfl | trivial⟩
        case measure => simp [intOf]; omega
    · obtain rfl : j = len := by omega
      have er := hd (miss.out (fun q hq => hne.out q (by omega)))
      clear hne miss hit
      go_wp2
      go_ret
      exact ⟨by rw [er.out]; rfl, rfl⟩
/-- all names, no two alike -/
def nmsOk (xs : List ByteArray) : Prop := (∀ s ∈ xs, nameB s = true) ∧ xs.Nodup
theorem nmsOk_iff {xs : List ByteArray} {n : Nat} (hn : xs.length = n) : nmsOk xs ↔ ∀ q, q < n → nameB (xs.getD q ⟨#[]⟩) = true ∧ ∀ p, p < q → xs.getD p ⟨#[]⟩ ≠ xs.getD q ⟨#[]⟩ := by
  subst hn
  unfold nmsOk List.Nodup
  rw [List.pairwise_iff_getElem]
  constructor
  · rintro ⟨h1, h2⟩ q hq
    refine ⟨h1 _ (tgetD_mem hq), fun p hp => ?_⟩
    have := h2 p q (by omega) hq hp
    simpa [List.getD_eq_getElem?_getD, List.getElem?_eq_getElem hq, List.getElem?_eq_getElem (show p < xs.length by omega)] using this
  · intro h
    refine ⟨fun s hs => ?_, fun i j hi hj hij => ?_⟩
    · obtain ⟨i, hi, rfl⟩ := List.getElem_of_mem hs
      have := (h i hi).1
      simpa [List.getD_eq_getElem?_getD, List.getElem?_eq_getElem hi] using this
    · have := (h j hj).2 i hij
      simpa [List.getD_eq_getElem?_getD, List.getElem?_eq_getElem hi, List.getElem?_eq_getElem hj] using this
set_option maxRecDepth 100000 in
set_option maxHeartbeats 4000000 in
theorem sDistinct (a : Option Addr) (len cap : Nat) (xs : List ByteArray) (w : World) (hR : InT w a len cap xs) :
    Calls Try.prog 74 #[.slice a len cap] w fun e w' => BoolIs e (nmsOk xs) ∧ Below w.heap.size w w' := by
  have hlen := hR.len
  have hcap : (len : Int) ≤ (cap : Int) := by have := hR.2.1; omega
  have hp := hR.1
  have hiff := hd (nmsOk_iff hp)
  generalize nmsOk xs = P at *
  go_enter Try.func74, Try.ntmps74
  go_wp2
  go_loopw [3] (fun i wr => ∃ k : Nat, k ≤ len ∧ i = .int .i64 k ∧ Hid (∀ q, q < k → nameB (xs.getD q ⟨#[]⟩) = true ∧ ∀ p, p < q → xs.getD p ⟨#[]⟩ ≠ xs.getD q ⟨#[]⟩) ∧ Below w.heap.size w wr) (fun b _ => len - (intOf b).toNat)
  case atStart => exact ⟨0, by omega, rfl, fun q h => by omega, (by repeat (first | exact Below.refl _ _ | refine Below.drew ?_ | refine old_alloc ?_ _ | refine old_trans ?_ (by assumption)))⟩
  case round =>
    obtain ⟨k, hk, rfl, hne, hb⟩ := hrel
    by_cases hlt : k < len
    · have RT := hd (fun W (h : Below w.heap.size w W) => (hR.old h).take hk)
      obtain ⟨bl, off, x, rfl, hbl, hx, hf, c0⟩ := (hR.old hb).at hlt
      have SN := hd (sNameOk x)
      have k0 : (0 : Int) ≤ (k : Int) := by omega
      have k1 : (k : Int) < (len : Int) := by omega
      have k2 : (k : Int) ≤ (cap : Int) := by omega
      by_cases hn : nameB x = true
      case neg =>
        have hn' : nameB x = false := by simpa using hn
        have no : Hid (¬ P) := fun q => by have := ((hiff.out.1 q) k hlt).1; rw [hx, hn'] at this; cases this
        rw [hn'] at SN
        clear hiff hne RT hR hx
        go_upto_region 4 with fail
        go_quiet (first | (go_at_call 109; with_reducible exact Calls.quiet_of_same (SN.out _)))
        go_wp2
        go_ret
        exact ⟨BoolIs.no no.out (by rfl), by first | exact hb | exact below_drewN hb _⟩
      rw [hn] at SN
      have SF := hd (fun n => sFindQ (some ⟨bl, off, none⟩) k cap (xs.take k) x (wr.drewN n) (RT.out _ (below_drewN hb n)))
      have iff2 : Hid (0 ≤ fndI (xs.take k) x ↔ ∃ q, q < k ∧ xs.getD q ⟨#[]⟩ = xs.getD k ⟨#[]⟩) := by
        show _ ↔ _
        rw [fndI_iff, List.length_take, hx]
        constructor
        · rintro ⟨q, h1, h2⟩; exact ⟨q, by omega, by rw [← tget_take (k := k) (by omega)]; exact h2⟩
        · rintro ⟨q, h1, h2⟩; exact ⟨q, by omega, by rw [tget_take (k := k) h1]; exact h2⟩
      generalize fndI (xs.take k) x = z at *
      have hn2 : Hid (nameB (xs.getD k ⟨#[]⟩) = true) := by show _ = _; rw [hx]; exact hn
      by_cases hz : 0 ≤ z
      · have no : Hid (¬ P) := fun q => by
          obtain ⟨p, h1, h2⟩ := iff2.out.1 hz
          exact ((hiff.out.1 q) k hlt).2 p h1 h2
        have dz : decide (0 ≤ z) = true := decide_eq_true hz
        clear hiff hne hR hx iff2 hn hn2 RT
        go_upto_region 4 with fail
        go_quiet (first | (go_at_call 109; with_reducible exact Calls.quiet_of_same (SN.out _)) | (go_at_call 61; with_reducible exact Calls.quiet_of_same (SF.out _)))
        go_wp2
        go_ret
        exact ⟨BoolIs.no no.out (by first | rfl | simp), by first | exact hb | exact below_drewN hb _⟩
      · have ne : Hid (∀ q, q < k + 1 → nameB (xs.getD q ⟨#[]⟩) = true ∧ ∀ p, p < q → xs.getD p ⟨#[]⟩ ≠ xs.getD q ⟨#[]⟩) := fun q hq => by
          by_cases e : q = k
          · subst e
            exact ⟨hn2.out, fun p h1 h2 => hz (iff2.out.2 ⟨p, h1, h2⟩)⟩
          · exact hne.out q (by omega)
        have dz : decide (0 ≤ z) = false := decide_eq_false hz
        clear hiff hne hR hx iff2 hn hn2 RT
        go_upto_region 4 with fail
        go_quiet (first | (go_at_call 109; with_reducible exact Calls.quiet_of_same (SN.out _)) | (go_at_call 61; with_reducible exact Calls.quiet_of_same (SF.out _)))
        go_wp2
        go_roundw
        case rel => exact ⟨k + 1, by omega, by go_num, ne.out, by first | exact hb | exact below_drewN hb _⟩
        case measure => simp [intOf]; omega
    · obtain rfl : k = len := by omega
      have yes := hd (hiff.out.2 hne.out)
      clear hiff hne
      go_wp2
      go_ret
      exact ⟨BoolIs.yes yes.out (by first | rfl | simp), hb⟩
/-- the nodes of a graph that is one stand over such as are ahead -/
theorem gOrd_of {vs : Int} {xs : List Gn} {ys : List Gr} {nn : Nat} (h : gOk vs xs ys) (hv : (nn : Int) = vs) : gOrd nn xs ∧ (∀ i, i < xs.length → (xs.getD i gn0).k = 2 → (xs.getD i gn0).s = ⟨#[]⟩) ∧ xs.length ≤ 120 := by
  obtain ⟨⟨h1, h2, h3, h4, h5, h6⟩, h7, -⟩ := h
  have hpart : ∀ i, i < xs.length → (xs.getD i gn0 = gvar i ∧ (i : Int) < vs) ∨ gnPart (xs.getD i gn0) i := by
    intro i hi
    have := h7 i hi
    unfold gnOk at this
    split at this
    · rename_i g; exact .inl ⟨this, g⟩
    · exact .inr this.1
  refine ⟨fun i hi => ?_, fun i hi hk => ?_, h4⟩
  · rcases hpart i hi with ⟨e, g⟩ | ⟨p1, p2, p3, p4⟩
    · rw [e]
      exact .inl ⟨rfl, by show (0 : Int) ≤ (i : Int); omega, by show (i : Int) < (nn : Int); omega⟩
    · have p5 := ac_le (x := ⟨(xs.getD i gn0).k, (xs.getD i gn0).n, (xs.getD i gn0).s⟩) p3
      exact .inr ⟨p2, by omega⟩
  · rcases hpart i hi with ⟨e, g⟩ | ⟨p1, p2, p3, p4⟩
    · rw [e]; rfl
    · exact absurd hk p2
end Go.Proofs.Ytmpckbgelkfgpaa
