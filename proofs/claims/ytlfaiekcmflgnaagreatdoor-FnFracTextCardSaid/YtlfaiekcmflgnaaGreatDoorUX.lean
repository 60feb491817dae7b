/- Draws of fractions, one in fifteen not ok: two lists and a sign, in new memory; nothing that was there is written but the reader. -/
import Derived.Test.YtlfaiekcmflgnaaGreatDoorUV
import Derived.Laws.AppendOwnNone
namespace Go.Proofs.YtlfaiekcmflgnaaGreatDoor
open Go.RowKit
set_option linter.unusedVariables false
set_option maxRecDepth 100000

/-- some fraction in new memory, ok or not -/
def FA3 (w : World) (base : Nat) (e : Ending) : Prop := ∃ b av cv xs av' cv' ys, e = .returned (.agg #[.bool b, .slice av (List.length xs) cv, .slice av' (List.length ys) cv']) ∧ OI w base av cv xs ∧ OI w base av' cv' ys ∧ List.length xs ≤ 300 ∧ List.length ys ≤ 300
theorem run_append_none_c {P : Program} {w : World} (base : Nat) (t ty e : TypeId) (i : TypeInfo) (size c : Nat) (ht : P.underlying t = some (.slice e)) (hi : P.info? e = some i)
    (v : Value) (n : Nat) (xs : List Value) (hown : w.ownsRow base e size v n xs) :
    (Builtin.append_ #[t, t] ty #[v, .slice none 0 c]).run P w = .ok v w := by
  rcases hown.2 with ⟨rfl, rfl⟩ | ⟨g, cap, cur, rfl, _, _, hnc, _⟩
  · simp [Builtin.append_, run_underlying ht, sizeOf, typeInfo, hi, Builtin.lenOf, Builtin.firstCells]
  · simp [Builtin.append_, run_underlying ht, sizeOf, typeInfo, hi, Builtin.lenOf, Builtin.firstCells, hnc, storeCells]
theorem wpList_append_none_c {P : Program} {w : World} {ops : Array Oper} {rest : List Oper} {o : Oper} {a : Act} {Q : Exit → Act → World → Prop} (hgd : o.guard = none) (s x : Operand) (t : TypeId)
    (ho : o.op = .call { callee := .builtin .append, args := #[s, x], argTypes := #[t, t] })
    (base : Nat) (e : TypeId) (i : TypeInfo) (size c : Nat) (ht : P.underlying t = some (.slice e)) (hi : P.info? e = some i)
    (v : Value) (n : Nat) (xs : List Value) (hs : a.eval s = v) (hown : w.ownsRow base e size v n xs) (hx : a.eval x = .slice none 0 c)
    (h : wpList P ops Q rest (a.put o.dst v) w) : wpList P ops Q (o :: rest) a w := by
  refine wpList_plain hgd fun K hK => ?_
  have hrun := run_append_none_c (P := P) (w := w) base t o.type e i size c ht hi v n xs hown
  unfold Oper.wp
  simp [execOp, ho, resolve, invoke, builtin, hs, hx, hrun, Result.andThen]
  exact hK _ _ h
theorem row_cellsU {w : World} {g : Nat} {xs : List Int} (h : IRow w g xs) : ∀ j u, (ints xs)[j]? = some u → w.cell? ((⟨g, 0, none⟩ : Addr).add j) = some u := by
  intro j u hj
  have hl : j < xs.length := by
    have := (List.getElem?_eq_some_iff.1 hj).1
    simpa [ints] using this
  rw [ints_get hl] at hj
  have e : ((⟨g, 0, none⟩ : Addr).add j) = ⟨g, j, none⟩ := by
    by_cases h0 : j = 0
    · subst h0; simp [Addr.add]
    · simp [Addr.add, h0]
  rw [e, (h.2 j hl).1]
  exact hj
theorem ints_one (xs : List Int) : ∀ u ∈ ints xs, u.oneCell' = true := by
  intro u hu
  simp only [ints, List.mem_map] at hu
  obtain ⟨x, _, rfl⟩ := hu
  rfl
theorem one_grows (w : World) : IGrows (w.alloc (.cells #[.int .i64 0] 3)) w.heap.size (.slice (some ⟨w.heap.size, 0, none⟩) 1 1) [0] :=
  World.ownsRow_lit w #[.int .i64 0] 1 (Nat.le_refl _) (by unfold maxLen; omega) rfl
theorem alloc_set {w : World} {fb i : Nat} {v : Value} (h : fb < w.heap.size) (o : Obj) : (w.alloc o).setCell ⟨fb, i, none⟩ v = (w.setCell ⟨fb, i, none⟩ v).alloc o := World.setCell_alloc_past o fb i v h
theorem grow_cons {w5 : World} {base : Nat} {v5 : Value} {xs : List Int} (f : IFits xs) (hl : List.length xs ≤ 299) (h : w5.ownsRow base 3 1 v5 (List.length [(0 : Int)] + List.length xs) (ints [0] ++ ints xs)) : ∃ av cv zs, v5 = .slice av (List.length zs) cv ∧ OI w5 base av cv zs ∧ List.length zs ≤ 300 := by
  have e : (0 :: xs).length = [(0 : Int)].length + xs.length := by simp; omega
  have h2 : IGrows w5 base v5 (0 :: xs) := by
    unfold IGrows
    rw [e]
    exact h
  obtain ⟨av, cv, h3, h4⟩ := h2.oi (fun y hy => by
    rcases List.mem_cons.1 hy with rfl | hy
    · omega
    · exact f y hy)
  exact ⟨av, cv, 0 :: xs, h3, h4, by simp; omega⟩
theorem one_oi0 (w : World) (t : TypeId) : OI (w.alloc (.cells #[.int .i64 0] t)) w.heap.size (some ⟨w.heap.size, 0, none⟩) 1 [0] := one_list w 0 t ⟨by omega, by omega⟩
theorem But.grownOwn {rb : Nat} {a b c : World} {row : Option Nat} (h : But rb a b) (g : b.grownBy c row) (hr : ∀ k, row = some k → a.heap.size ≤ k) : But rb a c :=
  ⟨g.os.trans h.os, g.tape.trans h.tape, g.output.trans h.output, Nat.le_trans h.size g.size, fun k hk hne => (g.block k (Nat.lt_of_lt_of_le hk h.size) (fun e => by have := hr k e.symm; omega)).trans (h.block k hk hne)⟩
theorem resFracD {W : World} {b : Nat} {v0 v1 v2 : Value} {tmps : Array Value} (h : Cel3 W b v0 v1 v2) (ht : tmps[2]? = some (.pointer (some ⟨b, 0, none⟩))) : (results Tryz.f23 tmps).run Tryz.prog W = .ok (.agg #[v0, v1, v2]) W := by
  obtain ⟨h1, ⟨a0, a1, a2⟩, -⟩ := h
  simp [results, Tryz.results23, go_sem, a0, a1, a2, ht]
theorem oi_far {w : World} {base cv fb i : Nat} {av : Option Addr} {xs : List Int} {v : Value} (h : OI w base av cv xs) (hl : ∀ q, av = some q → q.block < fb) : OI (w.setCell ⟨fb, i, none⟩ v) base av cv xs :=
  h.kept (grown_set (grown_refl w (some fb)) i v) (fun q e1 e2 => by injection e2 with e2; have := hl q e1; omega)
set_option maxHeartbeats 8000000 in
theorem frac_k (rb k : Nat) (w : World) (h : Rk w rb (k + 5000)) :
    Calls Tryz.prog 23 #[.pointer (some ⟨rb, 0, none⟩)] w fun e w' => FA3 w' w.heap.size e ∧ Rk w' rb k ∧ But rb w w' := by
  obtain ⟨i0, hi, hz0, hz1, hz2⟩ := info_parts infoInt
  have hrl := h.lt
  have K2 := Cel3.new w (.bool false) (.slice none 0 0) (.slice none 0 0) 24
  have B0 : But rb w (w.alloc (.cells #[.bool false, .slice none 0 0, .slice none 0 0] 24)) := (But.refl _ _).alloc _
  have R0 := h.alloc (.cells #[.bool false, .slice none 0 0, .slice none 0 0] 24)
  have hs0 : w.heap.size < (w.alloc (.cells #[.bool false, .slice none 0 0, .slice none 0 0] 24)).heap.size := by simp
  clear h
  have hpb : w.heap.size ≠ rb := by omega
  go_enter Tryz.func23, Tryz.ntmps23
  go_wp2_with fail
  refine (good_k rb (k + 2000) _ (R0.mono (by omega))).mono ?_
  rintro e w1 ⟨⟨b, avX, cvX, xs, avY, cvY, ys, rfl, OX, OY, -, hok⟩, R1, B1⟩
  have hs1 := B1.size
  have q := fracOk_in hok
  have lx := (natOk_in q.1).1
  have ly := (natOk_in q.2.1).1
  have ny := q.2.2.1
  clear q hok
  replace OX := OX.mono (show w.heap.size + 1 ≤ _ from hs0)
  replace OY := OY.mono (show w.heap.size + 1 ≤ _ from hs0)
  replace K2 := K2.but B1 hpb
  replace B1 := B0.trans B1
  clear R0 B0
  have hXlt := hd OX.lt
  have hYlt := hd OY.lt
  have KF := Cel3.new w1 (.bool b) (.slice avX xs.length cvX) (.slice avY ys.length cvY) 24
  have hal : Below w1.heap.size w1 (w1.alloc (.cells #[.bool b, .slice avX xs.length cvX, .slice avY ys.length cvY] 24)) := old_alloc (Below.refl _ _) _
  replace OX := OX.later hal
  replace OY := OY.later hal
  replace K2 := K2.old hal
  replace R1 := R1.old hal
  replace B1 := B1.trans (But.of hal)
  have hsf := hal.size
  have hfl := KF.1
  go_wp2_with fail
  generalize w1.alloc (.cells #[.bool b, .slice avX xs.length cvX, .slice avY ys.length cvY] 24) = wz at *
  have hpf : w.heap.size ≠ w1.heap.size := by omega
  have hfp : w1.heap.size ≠ w.heap.size := by omega
  generalize hfb : w1.heap.size = fb at *
  clear hal
  refine (pick_k rb (k + 1999) _ _ R1 (by decide)).mono ?_
  rintro e wp ⟨⟨t, ⟨ta, tb⟩, rfl⟩, R2, B2⟩
  have hrf : fb ≠ rb := by omega
  have hOX : ∀ q, avX = some q → some q.block ≠ some rb := fun q e1 e2 => by injection e2 with e2; have := OX.ge q e1; omega
  have hOY : ∀ q, avY = some q → some q.block ≠ some rb := fun q e1 e2 => by injection e2 with e2; have := OY.ge q e1; omega
  replace OX := OX.kept B2.grown hOX
  replace OY := OY.kept B2.grown hOY
  replace K2 := K2.but B2 hpb
  replace KF := KF.but B2 hrf
  have hs2 := B2.size
  replace B2 := B1.trans B2
  clear R1 B1
  have hrb2 : rb < fb := by omega
  by_cases t1 : t = 0
  · skip
    subst t1
    obtain ⟨m1, ⟨m2, m3, m4⟩, m5, m6, m7⟩ := id K2
    obtain ⟨n1, ⟨n2, n3, n4⟩, n5, n6, n7⟩ := id KF
    have KF' := KF.set0 (.bool (!b))
    have K2' := K2.far (c := fb) (i := 0) (v := .bool (!b)) hpf
    have R2' := R2.far fb 0 hrb2 (.bool (!b))
    have B2' := B2.far (p := ⟨fb, 0, none⟩) (show w.heap.size ≤ fb by omega) (.bool (!b))
    have OX' := oi_far (i := 0) (v := .bool (!b)) OX hXlt.out
    have OY' := oi_far (i := 0) (v := .bool (!b)) OY hYlt.out
    go_upto_region 12 with fail
    clear m1 m2 m3 m4 m5 m6 m7 n1 n2 n3 n4 n5 n6 n7
    clear KF K2 R2 B2 OX OY
    have KF := KF'
    have K2 := K2'
    have R2 := R2'
    have B2 := B2'
    have OX := OX'
    have OY := OY'
    clear KF' K2' R2' B2' OX' OY'
    generalize wp.setCell ⟨fb, 0, none⟩ (.bool (!b)) = wq at *
    generalize (!b) = b' at *
    obtain ⟨m1, ⟨m2, m3, m4⟩, m5, m6, m7⟩ := id K2
    obtain ⟨n1, ⟨n2, n3, n4⟩, -⟩ := id KF
    have q1 := (oi_set3 (v0 := .bool b') (v1 := .slice avX xs.length cvX) (v2 := .slice avY ys.length cvY) OX (show w.heap.size < w.heap.size + 1 by omega)).mono (show w.heap.size ≤ _ by omega)
    have q2 := (oi_set3 (v0 := .bool b') (v1 := .slice avX xs.length cvX) (v2 := .slice avY ys.length cvY) OY (show w.heap.size < w.heap.size + 1 by omega)).mono (show w.heap.size ≤ _ by omega)
    have hF := hd (show FA3 _ w.heap.size (.returned (.agg #[.bool b', .slice avX xs.length cvX, .slice avY ys.length cvY])) from ⟨_, _, _, _, _, _, _, rfl, q1, q2, by omega, by omega⟩)
    have hR := hd (Rk.set3 (v0 := .bool b') (v1 := .slice avX xs.length cvX) (v2 := .slice avY ys.length cvY) (R2.mono (show k ≤ _ by omega)) hrl)
    have hBB := hd (But.set3 (v0 := .bool b') (v1 := .slice avX xs.length cvX) (v2 := .slice avY ys.length cvY) B2 (Nat.le_refl w.heap.size))
    clear q1 q2 OX OY R2 B2
    go_wp2
    exact bodyPost_ret (resFracD (K2.setAll (.bool b') (.slice avX xs.length cvX) (.slice avY ys.length cvY)) rfl) rfl ⟨hF.out, hR.out, hBB.out⟩
  have t1' : (t == 0) = false := by simpa using t1
  by_cases t2 : t = 1
  · skip
    subst t2
    obtain ⟨m1, ⟨m2, m3, m4⟩, m5, m6, m7⟩ := id K2
    obtain ⟨n1, ⟨n2, n3, n4⟩, n5, n6, n7⟩ := id KF
    have KF' := KF.set2 (.slice none 0 0)
    have K2' := K2.far (c := fb) (i := 2) (v := .slice none 0 0) hpf
    have R2' := R2.far fb 2 hrb2 (.slice none 0 0)
    have B2' := B2.far (p := ⟨fb, 2, none⟩) (show w.heap.size ≤ fb by omega) (.slice none 0 0)
    have OX' := oi_far (i := 2) (v := .slice none 0 0) OX hXlt.out
    have OY' := OI.none (wp.setCell ⟨fb, 2, none⟩ (.slice none 0 0)) (w.heap.size + 1)
    go_upto_region 12 with fail
    clear m1 m2 m3 m4 m5 m6 m7 n1 n2 n3 n4 n5 n6 n7
    clear KF K2 R2 B2 OX OY
    have KF := KF'
    have K2 := K2'
    have R2 := R2'
    have B2 := B2'
    have OX := OX'
    have OY := OY'
    clear KF' K2' R2' B2' OX' OY'
    generalize wp.setCell ⟨fb, 2, none⟩ (.slice none 0 0) = wq at *
    obtain ⟨m1, ⟨m2, m3, m4⟩, m5, m6, m7⟩ := id K2
    obtain ⟨n1, ⟨n2, n3, n4⟩, -⟩ := id KF
    have q1 := (oi_set3 (v0 := .bool b) (v1 := .slice avX xs.length cvX) (v2 := .slice none ([] : List Int).length 0) OX (show w.heap.size < w.heap.size + 1 by omega)).mono (show w.heap.size ≤ _ by omega)
    have q2 := (oi_set3 (v0 := .bool b) (v1 := .slice avX xs.length cvX) (v2 := .slice none ([] : List Int).length 0) OY (show w.heap.size < w.heap.size + 1 by omega)).mono (show w.heap.size ≤ _ by omega)
    have hF := hd (show FA3 _ w.heap.size (.returned (.agg #[.bool b, .slice avX xs.length cvX, .slice none ([] : List Int).length 0])) from ⟨_, _, _, _, _, _, _, rfl, q1, q2, by omega, by simp⟩)
    have hR := hd (Rk.set3 (v0 := .bool b) (v1 := .slice avX xs.length cvX) (v2 := .slice none ([] : List Int).length 0) (R2.mono (show k ≤ _ by omega)) hrl)
    have hBB := hd (But.set3 (v0 := .bool b) (v1 := .slice avX xs.length cvX) (v2 := .slice none ([] : List Int).length 0) B2 (Nat.le_refl w.heap.size))
    clear q1 q2 OX OY R2 B2
    go_wp2
    exact bodyPost_ret (resFracD (K2.setAll (.bool b) (.slice avX xs.length cvX) (.slice none ([] : List Int).length 0)) rfl) rfl ⟨hF.out, hR.out, hBB.out⟩
  have t2' : (t == 1) = false := by simpa using t2
  by_cases t3 : t = 2
  · skip
    subst t3
    have hfw : fb < wp.heap.size := by omega
    obtain ⟨hFT, -, -, ⟨rfl, rfl⟩ | ⟨g, rfl, hgb, hrow0⟩⟩ := id OX
    · skip
      clear hFT
      have G := one_grows wp
      have hal2 : Below wp.heap.size wp (wp.alloc (.cells #[.int .i64 0] 3)) := old_alloc (Below.refl _ _) _
      replace KF := KF.old hal2
      replace K2 := K2.old hal2
      replace R2 := R2.old hal2
      have hso := B2.size
      replace B2 := B2.trans (But.of hal2)
      replace OX := OX.later hal2
      replace OY := OY.later hal2
      have hsA : wp.heap.size ≤ (wp.alloc (.cells #[.int .i64 0] 3)).heap.size := hal2.size
      have hneF : some fb ≠ (Value.slice (some ⟨wp.heap.size, 0, none⟩) 1 1).ownBlock := fun e => by have e2 : fb = wp.heap.size := Option.some.inj e; omega
      have hneP : some w.heap.size ≠ (Value.slice (some ⟨wp.heap.size, 0, none⟩) 1 1).ownBlock := fun e => by have e2 : w.heap.size = wp.heap.size := Option.some.inj e; omega
      have hneR : ∀ c, (Value.slice (some ⟨wp.heap.size, 0, none⟩) 1 1).ownBlock = some c → rb < c := fun c e => by have e2 : wp.heap.size = c := Option.some.inj e; omega
      obtain ⟨m1, ⟨m2, m3, m4⟩, m5, m6, m7⟩ := id K2
      obtain ⟨n1, ⟨n2, n3, n4⟩, n5, n6, n7⟩ := id KF
      go_upto_region 9 with (at_builtin; refine wpList_append_none_c rfl _ _ 22 rfl wp.heap.size 3 i0 1 cvX Tryz.underlying22 hi _ _ _ rfl G rfl ?_)
      have O5 := one_oi0 wp 3
      have KF6 := KF.set1 (.slice (some ⟨wp.heap.size, 0, none⟩) 1 1)
      have K26 := K2.far (c := fb) (i := 1) (v := .slice (some ⟨wp.heap.size, 0, none⟩) 1 1) hpf
      have R6 := R2.far fb 1 hrb2 (.slice (some ⟨wp.heap.size, 0, none⟩) 1 1)
      have B6 := B2.far (p := ⟨fb, 1, none⟩) (show w.heap.size ≤ fb by omega) (.slice (some ⟨wp.heap.size, 0, none⟩) 1 1)
      have o6 := (O5.kept (grown_set (grown_refl _ (some fb)) 1 (.slice (some ⟨wp.heap.size, 0, none⟩) 1 1)) (fun q e1 e2 => by have e3 := Option.some.inj e1; subst e3; have e4 : wp.heap.size = fb := Option.some.inj e2; omega)).mono (show w.heap.size + 1 ≤ wp.heap.size by omega)
      have o7 := oi_far (i := 1) (v := .slice (some ⟨wp.heap.size, 0, none⟩) 1 1) OY hYlt.out
      have hXf : ∀ q, some (⟨wp.heap.size, 0, none⟩ : Addr) = some q → q.block ≠ fb := fun q e1 e2 => by have e3 := Option.some.inj e1; subst e3; have e4 : wp.heap.size = fb := e2; omega
      have hszq : (((wp.alloc (.cells #[.int .i64 0] 3))).setCell ⟨fb, 1, none⟩ (.slice (some ⟨wp.heap.size, 0, none⟩) 1 1)).heap.size = wp.heap.size + 1 := by simp [World.setCell]
      clear m1 m2 m3 m4 m5 m6 m7 n1 n2 n3 n4 n5 n6 n7 KF K2 R2 B2 OX OY G hneF hneP hneR hal2 O5 hsA hso
      have KF := KF6
      have K2 := K26
      have R2 := R6
      have B2 := B6
      have OX := o6
      have OY := o7
      clear KF6 K26 R6 B6 o6 o7
      have hcm : ((wp.alloc (.cells #[.int .i64 0] 3))).setCell ⟨fb, 1, none⟩ (.slice (some ⟨wp.heap.size, 0, none⟩) 1 1) = (wp.setCell ⟨fb, 1, none⟩ (.slice (some ⟨wp.heap.size, 0, none⟩) 1 1)).alloc (.cells #[.int .i64 0] 3) := alloc_set hfw _
      rw [hcm] at KF K2 R2 B2 OX OY hszq
      clear hcm
      generalize (wp.setCell ⟨fb, 1, none⟩ (.slice (some ⟨wp.heap.size, 0, none⟩) 1 1)).alloc (.cells #[.int .i64 0] 3) = wq at *
      have hXq : ∀ q, some (⟨wp.heap.size, 0, none⟩ : Addr) = some q → q.block < wq.heap.size := fun q e1 => by have e3 := Option.some.inj e1; subst e3; show wp.heap.size < wq.heap.size; omega
      have hfq2 : fb < wq.heap.size := by omega
      have hwq2 : w.heap.size < wq.heap.size := by omega
      clear hszq
      have G := one_grows wq
      have hal2 : Below wq.heap.size wq (wq.alloc (.cells #[.int .i64 0] 3)) := old_alloc (Below.refl _ _) _
      replace KF := KF.old hal2
      replace K2 := K2.old hal2
      replace R2 := R2.old hal2
      have hso := B2.size
      replace B2 := B2.trans (But.of hal2)
      replace OX := OX.later hal2
      replace OY := OY.later hal2
      have hsA : wq.heap.size ≤ (wq.alloc (.cells #[.int .i64 0] 3)).heap.size := hal2.size
      have hneF : some fb ≠ (Value.slice (some ⟨wq.heap.size, 0, none⟩) 1 1).ownBlock := fun e => by have e2 : fb = wq.heap.size := Option.some.inj e; omega
      have hneP : some w.heap.size ≠ (Value.slice (some ⟨wq.heap.size, 0, none⟩) 1 1).ownBlock := fun e => by have e2 : w.heap.size = wq.heap.size := Option.some.inj e; omega
      have hneR : ∀ c, (Value.slice (some ⟨wq.heap.size, 0, none⟩) 1 1).ownBlock = some c → rb < c := fun c e => by have e2 : wq.heap.size = c := Option.some.inj e; omega
      obtain ⟨m1, ⟨m2, m3, m4⟩, m5, m6, m7⟩ := id K2
      obtain ⟨n1, ⟨n2, n3, n4⟩, n5, n6, n7⟩ := id KF
      obtain ⟨hFT, -, -, ⟨e0, e1⟩ | ⟨g, rfl, hgb, hrow⟩⟩ := id OY
      · exact absurd (by rw [e1]; rfl) ny
      have hOI := hd (fun v5 w5 h => grow_cons (w5 := w5) (v5 := v5) (base := wq.heap.size) (xs := ys) hFT (by omega) h)
      go_upto_region 12 with (at_builtin; go_loud (refine wpList_append_own _ rfl _ _ 22 rfl wq.heap.size 3 i0 _ 1 8 Tryz.underlying22 hi hz0 hz1 hz2 rfl (by decide) _ _ _ rfl G ⟨g, 0, none⟩ ys.length cvY (ints ys) rfl (ints_length ys) (row_cellsU hrow) (ints_one ys) (by unfold maxLen; simp; omega) (by simp; omega) hsA ?_; intro v5 w5 hown hgrow _; have KF5 := KF.kept hgrow hneF; have K25 := K2.kept hgrow hneP; obtain ⟨av5, cv5, zs, rfl, O5, hz5⟩ := hOI.out _ _ hown; obtain ⟨p1, ⟨p2, p3, p4⟩, p5, p6, p7⟩ := id KF5; obtain ⟨s1, ⟨s2, s3, s4⟩, s5, s6, s7⟩ := id K25))
      have hG5 := hgrow
      have hne5 : ∀ q, av5 = some q → some q.block ≠ some fb := fun q e1 e2 => by injection e2 with e2; have := O5.ge q e1; omega
      have hOth : ∀ q, (some (⟨wp.heap.size, 0, none⟩ : Addr)) = some q → some q.block ≠ (Value.slice (some ⟨wq.heap.size, 0, none⟩) 1 1).ownBlock := fun q e1 e2 => by have := hXq q e1; have e3 : q.block = wq.heap.size := Option.some.inj e2; omega
      have o5 := OX.kept hG5 hOth
      have KF6 := KF5.set2 (.slice av5 zs.length cv5)
      have K26 := K25.far (c := fb) (i := 2) (v := .slice av5 zs.length cv5) hpf
      have R6 := (R2.kept hG5 hneR).far fb 2 hrb2 (.slice av5 zs.length cv5)
      have B6 := (B2.grownOwn hG5 (fun c e => by have e2 : wq.heap.size = c := Option.some.inj e; omega)).far (p := ⟨fb, 2, none⟩) (show w.heap.size ≤ fb by omega) (.slice av5 zs.length cv5)
      have o6 : OI (w5.setCell ⟨fb, 2, none⟩ (.slice av5 zs.length cv5)) (w.heap.size + 1) av5 cv5 zs := (O5.kept (grown_set (grown_refl w5 (some fb)) 2 _) hne5).mono (by omega)
      have o7 := o5.kept (grown_set (grown_refl w5 (some fb)) 2 (.slice av5 zs.length cv5)) (fun q e1 e2 => by injection e2 with e2; exact hXf q e1 e2)
      have hs5 := hG5.size
      clear m1 m2 m3 m4 m5 m6 m7 n1 n2 n3 n4 n5 n6 n7 p1 p2 p3 p4 p5 p6 p7 s1 s2 s3 s4 s5 s6 s7 KF5 K25 KF K2 R2 B2 OX OY G hown hgrow hG5 O5 hOI hneF hneP hneR hOth hal2
      have KF := KF6
      have K2 := K26
      have R2 := R6
      have B2 := B6
      clear KF6 K26 R6 B6
      have OX := o7
      have OY := o6
      clear o5 o6 o7
      generalize w5.setCell ⟨fb, 2, none⟩ (.slice av5 zs.length cv5) = wt at *
      obtain ⟨m1, ⟨m2, m3, m4⟩, m5, m6, m7⟩ := id K2
      obtain ⟨n1, ⟨n2, n3, n4⟩, -⟩ := id KF
      have q1 := (oi_set3 (v0 := .bool b) (v1 := .slice (some (⟨wp.heap.size, 0, none⟩ : Addr)) 1 1) (v2 := .slice av5 zs.length cv5) OX (show w.heap.size < w.heap.size + 1 by omega)).mono (show w.heap.size ≤ _ by omega)
      have q2 := (oi_set3 (v0 := .bool b) (v1 := .slice (some (⟨wp.heap.size, 0, none⟩ : Addr)) 1 1) (v2 := .slice av5 zs.length cv5) OY (show w.heap.size < w.heap.size + 1 by omega)).mono (show w.heap.size ≤ _ by omega)
      have hF := hd (show FA3 _ w.heap.size (.returned (.agg #[.bool b, .slice (some (⟨wp.heap.size, 0, none⟩ : Addr)) 1 1, .slice av5 zs.length cv5])) from ⟨_, _, _, [0], _, _, _, rfl, q1, q2, by simp, by omega⟩)
      have hR := hd (Rk.set3 (v0 := .bool b) (v1 := .slice (some (⟨wp.heap.size, 0, none⟩ : Addr)) 1 1) (v2 := .slice av5 zs.length cv5) (R2.mono (show k ≤ _ by omega)) hrl)
      have hBB := hd (But.set3 (v0 := .bool b) (v1 := .slice (some (⟨wp.heap.size, 0, none⟩ : Addr)) 1 1) (v2 := .slice av5 zs.length cv5) B2 (Nat.le_refl w.heap.size))
      clear q1 q2 OX OY R2 B2
      go_wp2
      exact bodyPost_ret (resFracD (K2.setAll (.bool b) (.slice (some (⟨wp.heap.size, 0, none⟩ : Addr)) 1 1) (.slice av5 zs.length cv5)) rfl) rfl ⟨hF.out, hR.out, hBB.out⟩
    have G := one_grows wp
    have hal2 : Below wp.heap.size wp (wp.alloc (.cells #[.int .i64 0] 3)) := old_alloc (Below.refl _ _) _
    replace KF := KF.old hal2
    replace K2 := K2.old hal2
    replace R2 := R2.old hal2
    have hso := B2.size
    replace B2 := B2.trans (But.of hal2)
    replace OX := OX.later hal2
    replace OY := OY.later hal2
    have hsA : wp.heap.size ≤ (wp.alloc (.cells #[.int .i64 0] 3)).heap.size := hal2.size
    have hneF : some fb ≠ (Value.slice (some ⟨wp.heap.size, 0, none⟩) 1 1).ownBlock := fun e => by have e2 : fb = wp.heap.size := Option.some.inj e; omega
    have hneP : some w.heap.size ≠ (Value.slice (some ⟨wp.heap.size, 0, none⟩) 1 1).ownBlock := fun e => by have e2 : w.heap.size = wp.heap.size := Option.some.inj e; omega
    have hneR : ∀ c, (Value.slice (some ⟨wp.heap.size, 0, none⟩) 1 1).ownBlock = some c → rb < c := fun c e => by have e2 : wp.heap.size = c := Option.some.inj e; omega
    obtain ⟨m1, ⟨m2, m3, m4⟩, m5, m6, m7⟩ := id K2
    obtain ⟨n1, ⟨n2, n3, n4⟩, n5, n6, n7⟩ := id KF
    have hrow := hrow0.old hal2
    have hOI := hd (fun v5 w5 h => grow_cons (w5 := w5) (v5 := v5) (base := wp.heap.size) (xs := xs) hFT (by omega) h)
    go_upto_region 9 with (at_builtin; go_loud (refine wpList_append_own _ rfl _ _ 22 rfl wp.heap.size 3 i0 _ 1 8 Tryz.underlying22 hi hz0 hz1 hz2 rfl (by decide) _ _ _ rfl G ⟨g, 0, none⟩ xs.length cvX (ints xs) rfl (ints_length xs) (row_cellsU hrow) (ints_one xs) (by unfold maxLen; simp; omega) (by simp; omega) hsA ?_; intro v5 w5 hown hgrow _; have KF5 := KF.kept hgrow hneF; have K25 := K2.kept hgrow hneP; obtain ⟨av5, cv5, zs, rfl, O5, hz5⟩ := hOI.out _ _ hown; obtain ⟨p1, ⟨p2, p3, p4⟩, p5, p6, p7⟩ := id KF5; obtain ⟨s1, ⟨s2, s3, s4⟩, s5, s6, s7⟩ := id K25))
    have hG5 := hgrow
    have hne5 : ∀ q, av5 = some q → some q.block ≠ some fb := fun q e1 e2 => by injection e2 with e2; have := O5.ge q e1; omega
    have hOth : ∀ q, avY = some q → some q.block ≠ (Value.slice (some ⟨wp.heap.size, 0, none⟩) 1 1).ownBlock := fun q e1 e2 => by have := hYlt.out q e1; have e3 : q.block = wp.heap.size := Option.some.inj e2; omega
    have o5 := OY.kept hG5 hOth
    have KF6 := KF5.set1 (.slice av5 zs.length cv5)
    have K26 := K25.far (c := fb) (i := 1) (v := .slice av5 zs.length cv5) hpf
    have R6 := (R2.kept hG5 hneR).far fb 1 hrb2 (.slice av5 zs.length cv5)
    have B6 := (B2.grownOwn hG5 (fun c e => by have e2 : wp.heap.size = c := Option.some.inj e; omega)).far (p := ⟨fb, 1, none⟩) (show w.heap.size ≤ fb by omega) (.slice av5 zs.length cv5)
    have o6 : OI (w5.setCell ⟨fb, 1, none⟩ (.slice av5 zs.length cv5)) (w.heap.size + 1) av5 cv5 zs := (O5.kept (grown_set (grown_refl w5 (some fb)) 1 _) hne5).mono (by omega)
    have o7 := oi_far (i := 1) (v := .slice av5 zs.length cv5) o5 hYlt.out
    have hs5 := hG5.size
    clear m1 m2 m3 m4 m5 m6 m7 n1 n2 n3 n4 n5 n6 n7 p1 p2 p3 p4 p5 p6 p7 s1 s2 s3 s4 s5 s6 s7 KF5 K25 KF K2 R2 B2 OX OY G hown hgrow hG5 O5 hOI hneF hneP hneR hOth hal2
    have KF := KF6
    have K2 := K26
    have R2 := R6
    have B2 := B6
    clear KF6 K26 R6 B6
    have OX := o6
    have OY := o7
    clear o5 o6 o7 hrow hFT
    have hXf : ∀ q, av5 = some q → q.block ≠ fb := fun q e1 e2 => hne5 q e1 (by rw [e2])
    have hXq5 := OX.lt
    have hsz5 : (w5.setCell ⟨fb, 1, none⟩ (.slice av5 zs.length cv5)).heap.size = w5.heap.size := setCell_size _ _ _
    have hfq : fb < w5.heap.size := by omega
    clear hne5 hsA hso
    generalize w5.setCell ⟨fb, 1, none⟩ (.slice av5 zs.length cv5) = wq at *
    have hXq : ∀ q, av5 = some q → q.block < wq.heap.size := hXq5
    have hfq2 : fb < wq.heap.size := by omega
    have hwq2 : w.heap.size < wq.heap.size := by omega
    clear hsz5
    obtain ⟨avQ, rfl⟩ : ∃ z, z = av5 := ⟨_, rfl⟩
    obtain ⟨cvQ, rfl⟩ : ∃ z, z = cv5 := ⟨_, rfl⟩
    obtain ⟨zq, rfl⟩ : ∃ z, z = zs := ⟨_, rfl⟩
    have G := one_grows wq
    have hal2 : Below wq.heap.size wq (wq.alloc (.cells #[.int .i64 0] 3)) := old_alloc (Below.refl _ _) _
    replace KF := KF.old hal2
    replace K2 := K2.old hal2
    replace R2 := R2.old hal2
    have hso := B2.size
    replace B2 := B2.trans (But.of hal2)
    replace OX := OX.later hal2
    replace OY := OY.later hal2
    have hsA : wq.heap.size ≤ (wq.alloc (.cells #[.int .i64 0] 3)).heap.size := hal2.size
    have hneF : some fb ≠ (Value.slice (some ⟨wq.heap.size, 0, none⟩) 1 1).ownBlock := fun e => by have e2 : fb = wq.heap.size := Option.some.inj e; omega
    have hneP : some w.heap.size ≠ (Value.slice (some ⟨wq.heap.size, 0, none⟩) 1 1).ownBlock := fun e => by have e2 : w.heap.size = wq.heap.size := Option.some.inj e; omega
    have hneR : ∀ c, (Value.slice (some ⟨wq.heap.size, 0, none⟩) 1 1).ownBlock = some c → rb < c := fun c e => by have e2 : wq.heap.size = c := Option.some.inj e; omega
    obtain ⟨m1, ⟨m2, m3, m4⟩, m5, m6, m7⟩ := id K2
    obtain ⟨n1, ⟨n2, n3, n4⟩, n5, n6, n7⟩ := id KF
    obtain ⟨hFT, -, -, ⟨e0, e1⟩ | ⟨g, rfl, hgb, hrow⟩⟩ := id OY
    · exact absurd (by rw [e1]; rfl) ny
    have hOI := hd (fun v5 w5 h => grow_cons (w5 := w5) (v5 := v5) (base := wq.heap.size) (xs := ys) hFT (by omega) h)
    go_upto_region 12 with (at_builtin; go_loud (refine wpList_append_own _ rfl _ _ 22 rfl wq.heap.size 3 i0 _ 1 8 Tryz.underlying22 hi hz0 hz1 hz2 rfl (by decide) _ _ _ rfl G ⟨g, 0, none⟩ ys.length cvY (ints ys) rfl (ints_length ys) (row_cellsU hrow) (ints_one ys) (by unfold maxLen; simp; omega) (by simp; omega) hsA ?_; intro v5 w5 hown hgrow _; have KF5 := KF.kept hgrow hneF; have K25 := K2.kept hgrow hneP; obtain ⟨av5, cv5, zs, rfl, O5, hz5⟩ := hOI.out _ _ hown; obtain ⟨p1, ⟨p2, p3, p4⟩, p5, p6, p7⟩ := id KF5; obtain ⟨s1, ⟨s2, s3, s4⟩, s5, s6, s7⟩ := id K25))
    have hG5 := hgrow
    have hne5 : ∀ q, av5 = some q → some q.block ≠ some fb := fun q e1 e2 => by injection e2 with e2; have := O5.ge q e1; omega
    have hOth : ∀ q, avQ = some q → some q.block ≠ (Value.slice (some ⟨wq.heap.size, 0, none⟩) 1 1).ownBlock := fun q e1 e2 => by have := hXq q e1; have e3 : q.block = wq.heap.size := Option.some.inj e2; omega
    have o5 := OX.kept hG5 hOth
    have KF6 := KF5.set2 (.slice av5 zs.length cv5)
    have K26 := K25.far (c := fb) (i := 2) (v := .slice av5 zs.length cv5) hpf
    have R6 := (R2.kept hG5 hneR).far fb 2 hrb2 (.slice av5 zs.length cv5)
    have B6 := (B2.grownOwn hG5 (fun c e => by have e2 : wq.heap.size = c := Option.some.inj e; omega)).far (p := ⟨fb, 2, none⟩) (show w.heap.size ≤ fb by omega) (.slice av5 zs.length cv5)
    have o6 : OI (w5.setCell ⟨fb, 2, none⟩ (.slice av5 zs.length cv5)) (w.heap.size + 1) av5 cv5 zs := (O5.kept (grown_set (grown_refl w5 (some fb)) 2 _) hne5).mono (by omega)
    have o7 := o5.kept (grown_set (grown_refl w5 (some fb)) 2 (.slice av5 zs.length cv5)) (fun q e1 e2 => by injection e2 with e2; exact hXf q e1 e2)
    have hs5 := hG5.size
    clear m1 m2 m3 m4 m5 m6 m7 n1 n2 n3 n4 n5 n6 n7 p1 p2 p3 p4 p5 p6 p7 s1 s2 s3 s4 s5 s6 s7 KF5 K25 KF K2 R2 B2 OX OY G hown hgrow hG5 O5 hOI hneF hneP hneR hOth hal2
    have KF := KF6
    have K2 := K26
    have R2 := R6
    have B2 := B6
    clear KF6 K26 R6 B6
    have OX := o7
    have OY := o6
    clear o5 o6 o7
    generalize w5.setCell ⟨fb, 2, none⟩ (.slice av5 zs.length cv5) = wt at *
    obtain ⟨m1, ⟨m2, m3, m4⟩, m5, m6, m7⟩ := id K2
    obtain ⟨n1, ⟨n2, n3, n4⟩, -⟩ := id KF
    have q1 := (oi_set3 (v0 := .bool b) (v1 := .slice avQ zq.length cvQ) (v2 := .slice av5 zs.length cv5) OX (show w.heap.size < w.heap.size + 1 by omega)).mono (show w.heap.size ≤ _ by omega)
    have q2 := (oi_set3 (v0 := .bool b) (v1 := .slice avQ zq.length cvQ) (v2 := .slice av5 zs.length cv5) OY (show w.heap.size < w.heap.size + 1 by omega)).mono (show w.heap.size ≤ _ by omega)
    have hF := hd (show FA3 _ w.heap.size (.returned (.agg #[.bool b, .slice avQ zq.length cvQ, .slice av5 zs.length cv5])) from ⟨_, _, _, _, _, _, _, rfl, q1, q2, by omega, by omega⟩)
    have hR := hd (Rk.set3 (v0 := .bool b) (v1 := .slice avQ zq.length cvQ) (v2 := .slice av5 zs.length cv5) (R2.mono (show k ≤ _ by omega)) hrl)
    have hBB := hd (But.set3 (v0 := .bool b) (v1 := .slice avQ zq.length cvQ) (v2 := .slice av5 zs.length cv5) B2 (Nat.le_refl w.heap.size))
    clear q1 q2 OX OY R2 B2
    go_wp2
    exact bodyPost_ret (resFracD (K2.setAll (.bool b) (.slice avQ zq.length cvQ) (.slice av5 zs.length cv5)) rfl) rfl ⟨hF.out, hR.out, hBB.out⟩
  have t3' : (t == 2) = false := by simpa using t3
  by_cases t4 : t = 3
  · skip
    subst t4
    go_wp2_with fail
    refine (raw_k rb (k + 1000) _ (R2.mono (by omega))).mono ?_
    rintro e wr ⟨⟨v, ps, rfl, G, F_, hl_⟩, R3, B3⟩
    obtain ⟨avP, cvP, rfl, OP⟩ := G.oi F_
    have hs3 := B3.size
    replace OP := OP.mono (show w.heap.size + 1 ≤ _ by omega)
    replace OY := OY.kept B3.grown hOY
    replace K2 := K2.but B3 hpb
    replace KF := KF.but B3 hrf
    have hPne : ∀ q, avP = some q → some q.block ≠ some fb := fun q e1 e2 => by
      injection e2 with e2
      have h9 := (G.oi F_)
      obtain ⟨a9, c9, he9, O9⟩ := h9
      injection he9 with e91 e92 e93
      subst e91
      have := O9.ge q e1
      omega
    replace B3 := B2.trans B3
    clear R2 B2 G
    have R2 := R3
    have B2 := B3
    clear R3 B3 F_
    obtain ⟨m1, ⟨m2, m3, m4⟩, m5, m6, m7⟩ := id K2
    obtain ⟨n1, ⟨n2, n3, n4⟩, n5, n6, n7⟩ := id KF
    have KF' := KF.set1 (.slice avP ps.length cvP)
    have K2' := K2.far (c := fb) (i := 1) (v := .slice avP ps.length cvP) hpf
    have R2' := R2.far fb 1 hrb2 (.slice avP ps.length cvP)
    have B2' := B2.far (p := ⟨fb, 1, none⟩) (show w.heap.size ≤ fb by omega) (.slice avP ps.length cvP)
    have OX' : OI (wr.setCell ⟨fb, 1, none⟩ (.slice avP ps.length cvP)) (w.heap.size + 1) avP cvP ps := OP.kept (grown_set (grown_refl wr (some fb)) 1 _) hPne
    have OY' := oi_far (i := 1) (v := .slice avP ps.length cvP) OY hYlt.out
    go_upto_region 12 with fail
    clear m1 m2 m3 m4 m5 m6 m7 n1 n2 n3 n4 n5 n6 n7
    clear KF K2 R2 B2 OX OY
    have KF := KF'
    have K2 := K2'
    have R2 := R2'
    have B2 := B2'
    have OX := OX'
    have OY := OY'
    clear KF' K2' R2' B2' OX' OY'
    generalize wr.setCell ⟨fb, 1, none⟩ (.slice avP ps.length cvP) = wq at *
    obtain ⟨m1, ⟨m2, m3, m4⟩, m5, m6, m7⟩ := id K2
    obtain ⟨n1, ⟨n2, n3, n4⟩, -⟩ := id KF
    have q1 := (oi_set3 (v0 := .bool b) (v1 := .slice avP ps.length cvP) (v2 := .slice avY ys.length cvY) OX (show w.heap.size < w.heap.size + 1 by omega)).mono (show w.heap.size ≤ _ by omega)
    have q2 := (oi_set3 (v0 := .bool b) (v1 := .slice avP ps.length cvP) (v2 := .slice avY ys.length cvY) OY (show w.heap.size < w.heap.size + 1 by omega)).mono (show w.heap.size ≤ _ by omega)
    have hF := hd (show FA3 _ w.heap.size (.returned (.agg #[.bool b, .slice avP ps.length cvP, .slice avY ys.length cvY])) from ⟨_, _, _, _, _, _, _, rfl, q1, q2, by omega, by omega⟩)
    have hR := hd (Rk.set3 (v0 := .bool b) (v1 := .slice avP ps.length cvP) (v2 := .slice avY ys.length cvY) (R2.mono (show k ≤ _ by omega)) hrl)
    have hBB := hd (But.set3 (v0 := .bool b) (v1 := .slice avP ps.length cvP) (v2 := .slice avY ys.length cvY) B2 (Nat.le_refl w.heap.size))
    clear q1 q2 OX OY R2 B2
    go_wp2
    exact bodyPost_ret (resFracD (K2.setAll (.bool b) (.slice avP ps.length cvP) (.slice avY ys.length cvY)) rfl) rfl ⟨hF.out, hR.out, hBB.out⟩
  have t4' : (t == 3) = false := by simpa using t4
  go_upto_region 12 with fail
  obtain ⟨m1, ⟨m2, m3, m4⟩, m5, m6, m7⟩ := id K2
  obtain ⟨n1, ⟨n2, n3, n4⟩, -⟩ := id KF
  have q1 := (oi_set3 (v0 := .bool b) (v1 := .slice avX xs.length cvX) (v2 := .slice avY ys.length cvY) OX (show w.heap.size < w.heap.size + 1 by omega)).mono (show w.heap.size ≤ _ by omega)
  have q2 := (oi_set3 (v0 := .bool b) (v1 := .slice avX xs.length cvX) (v2 := .slice avY ys.length cvY) OY (show w.heap.size < w.heap.size + 1 by omega)).mono (show w.heap.size ≤ _ by omega)
  have hF := hd (show FA3 _ w.heap.size (.returned (.agg #[.bool b, .slice avX xs.length cvX, .slice avY ys.length cvY])) from ⟨_, _, _, _, _, _, _, rfl, q1, q2, by omega, by omega⟩)
  have hR := hd (Rk.set3 (v0 := .bool b) (v1 := .slice avX xs.length cvX) (v2 := .slice avY ys.length cvY) (R2.mono (show k ≤ _ by omega)) hrl)
  have hBB := hd (But.set3 (v0 := .bool b) (v1 := .slice avX xs.length cvX) (v2 := .slice avY ys.length cvY) B2 (Nat.le_refl w.heap.size))
  clear q1 q2 OX OY R2 B2
  go_wp2
  exact bodyPost_ret (resFracD (K2.setAll (.bool b) (.slice avX xs.length cvX) (.slice avY ys.length cvY)) rfl) rfl ⟨hF.out, hR.out, hBB.out⟩
end Go.Proofs.YtlfaiekcmflgnaaGreatDoor
