/- Draws of fractions off a code of floats: what there is, in new memory. Nothing that was there is written but the reader. -/
import Derived.Test.YtgoffjpfddmhhaaGreatDoorPK36
import Derived.Test.YtgoffjpfddmhhaaGreatDoorPK18
import Derived.Test.YtgoffjpfddmhhaaGreatDoorPK19
import Derived.Test.YtgoffjpfddmhhaaGreatDoorPK17
import Derived.Test.YtgoffjpfddmhhaaGreatDoorPK32
import Derived.Test.YtgoffjpfddmhhaaGreatDoorPK26
import Derived.Test.YtgoffjpfddmhhaaGreatDoorPK20
namespace Go.Proofs.YtgoffjpfddmhhaaGreatDoor
open Go.RowKit
set_option linter.unusedVariables false
set_option maxRecDepth 100000

theorem But.grown {rb : Nat} {w w' : World} (h : But rb w w') : w.grownBy w' (some rb) := ⟨h.os, h.tape, h.output, h.size, fun k hk hne => h.block k hk (fun e => hne (by rw [e]))⟩
theorem OI.but {rb : Nat} {w w' : World} {base cv : Nat} {av : Option Addr} {xs : List Int} (h : OI w base av cv xs) (k : But rb w w') (hr : rb < base) : OI w' base av cv xs := h.kept k.grown (fun q e e2 => by injection e2 with e2; have := h.ge q e; omega)
theorem Cel3.but {rb : Nat} {w w' : World} {b : Nat} {v0 v1 v2 : Value} (h : Cel3 w b v0 v1 v2) (k : But rb w w') (hr : b ≠ rb) : Cel3 w' b v0 v1 v2 := h.kept k.grown (fun e => hr (by injection e))
theorem FRes.fr {w : World} {base : Nat} {e : Ending} {ok s : Bool} {A B : Nat} (h : FRes w base e ok s A B) : ∃ s' av cv xs av' cv' ys, e = .returned (.tuple #[.agg #[.bool s', .slice av (List.length xs) cv, .slice av' (List.length ys) cv'], .bool ok]) ∧ OI w base av cv xs ∧ OI w base av' cv' ys := by
  obtain ⟨av, cv, av', cv', he, h1, h2, -⟩ := h
  exact ⟨_, _, _, _, _, _, _, he, h1, h2⟩
theorem FRes.fr2 {w : World} {base : Nat} {e : Ending} {ok s : Bool} {A B : Nat} (h : FRes w base e ok s A B) : ∃ ok2 s' av cv xs av' cv' ys, e = .returned (.tuple #[.agg #[.bool s', .slice av (List.length xs) cv, .slice av' (List.length ys) cv'], .bool ok2]) ∧ OI w base av cv xs ∧ OI w base av' cv' ys := ⟨ok, h.fr⟩
theorem cells_old {w w' : World} {b : Nat} {x y z : Value} (h : w.cell? ⟨b, 0, none⟩ = some x ∧ w.cell? ⟨b, 1, none⟩ = some y ∧ w.cell? ⟨b, 2, none⟩ = some z) (k : Below w.heap.size w w') : w'.cell? ⟨b, 0, none⟩ = some x ∧ w'.cell? ⟨b, 1, none⟩ = some y ∧ w'.cell? ⟨b, 2, none⟩ = some z := by
  have e := k.block b (cell_lt h.1)
  exact ⟨(World.cell?_of_block (a := ⟨b, 0, none⟩) e).trans h.1, (World.cell?_of_block (a := ⟨b, 1, none⟩) e).trans h.2.1, (World.cell?_of_block (a := ⟨b, 2, none⟩) e).trans h.2.2⟩
theorem cells_but {w w' : World} {b rb : Nat} {x y z : Value} (h : w.cell? ⟨b, 0, none⟩ = some x ∧ w.cell? ⟨b, 1, none⟩ = some y ∧ w.cell? ⟨b, 2, none⟩ = some z) (k : But rb w w') (hb : b ≠ rb) : w'.cell? ⟨b, 0, none⟩ = some x ∧ w'.cell? ⟨b, 1, none⟩ = some y ∧ w'.cell? ⟨b, 2, none⟩ = some z := by
  have e := k.block b (cell_lt h.1) hb
  exact ⟨(World.cell?_of_block (a := ⟨b, 0, none⟩) e).trans h.1, (World.cell?_of_block (a := ⟨b, 1, none⟩) e).trans h.2.1, (World.cell?_of_block (a := ⟨b, 2, none⟩) e).trans h.2.2⟩
theorem Rk.dr {w : World} {rb k : Nat} (h : Rk w rb k) : Rk w.drew rb k := h.old (Below.drew (Below.refl _ _))
theorem cel3_alloc {w : World} {b : Nat} {v0 v1 v2 : Value} (h : Cel3 w b v0 v1 v2) (o : Obj) : Cel3 (w.alloc o) b v0 v1 v2 := h.old (old_alloc (Below.refl _ _) _)
theorem oneI (W : World) (v : Int) (h : -9223372036854775808 ≤ v ∧ v ≤ 9223372036854775807) : InI (W.alloc (.cells #[.int .i64 v] 3)) (some ⟨W.heap.size, 0, none⟩) 1 1 [v] := by
  refine ⟨rfl, Nat.le_refl _, by unfold maxLen; omega, fun x hx => by rw [List.mem_singleton.1 hx]; exact h, .inr ⟨_, 0, rfl, by simp, fun i hi => ?_⟩⟩
  obtain rfl : i = 0 := by omega
  simp
theorem nes {a b : Nat} (h : a < b) : a ≠ b ∧ b ≠ a ∧ a ≠ b + 1 ∧ b + 1 ≠ a := ⟨by omega, by omega, by omega, by omega⟩
theorem sFF_any (wd n : Int) : ∃ ok : Bool, ∀ w, Calls Tryz.prog 16 #[.int .i64 wd, .int .i64 n] w fun e w' => (∃ s' av cv xs av' cv' ys, e = .returned (.tuple #[.agg #[.bool s', .slice av (List.length xs) cv, .slice av' (List.length ys) cv'], .bool ok]) ∧ OI w' w.heap.size av cv xs ∧ OI w' w.heap.size av' cv' ys) ∧ Below w.heap.size w w' := by
  obtain ⟨ok, s, A, B, -, S, -⟩ := ffBoth wd n
  exact ⟨ok, fun w => (S w).mono fun e w' h => ⟨h.1.fr, h.2⟩⟩
theorem resFr {W : World} {b : Nat} {v0 v1 v2 : Value} {tmps : Array Value} (h : Cel3 W b v0 v1 v2) (ht : tmps[2]? = some (.pointer (some ⟨b, 0, none⟩))) : (results Tryz.f30 tmps).run Tryz.prog W = .ok (.agg #[v0, v1, v2]) W := by
  obtain ⟨h1, ⟨a0, a1, a2⟩, -⟩ := h
  simp [results, Tryz.results30, go_sem, a0, a1, a2, ht]
theorem oneO (w : World) (x : Int) (t : TypeId) (hx : -9223372036854775808 ≤ x ∧ x ≤ 9223372036854775807) : OI (w.alloc (.cells #[.int .i64 x] t)) w.heap.size (some ⟨w.heap.size, 0, none⟩) 1 [x] := by
  have hr : IRow (w.alloc (.cells #[.int .i64 x] t)) w.heap.size [x] := ⟨by simp, fun i hi => by
    obtain rfl : i = 0 := by simp at hi; omega
    simp⟩
  exact ⟨fun y hy => by simp at hy; subst hy; exact hx, Nat.le_refl _, by unfold maxLen; simp, .inr ⟨_, rfl, Nat.le_refl _, hr⟩⟩
/-- a list in memory of its own, which is not the reader's -/
def OE (rb : Nat) (w : World) (av : Option Addr) (cv : Nat) (xs : List Int) : Prop := ∃ base, rb < base ∧ OI w base av cv xs
theorem OE.inI {rb : Nat} {w : World} {cv : Nat} {av : Option Addr} {xs : List Int} (h : OE rb w av cv xs) : InI w av xs.length cv xs := by
  obtain ⟨b, -, h⟩ := h
  exact h.inI
theorem OE.drew {rb : Nat} {w : World} {cv : Nat} {av : Option Addr} {xs : List Int} (h : OE rb w av cv xs) : OE rb w.drew av cv xs := by
  obtain ⟨b, k, h⟩ := h
  exact ⟨b, k, h.drew⟩
theorem OE.alloc {rb : Nat} {w : World} {cv : Nat} {av : Option Addr} {xs : List Int} (h : OE rb w av cv xs) (o : Obj) : OE rb (w.alloc o) av cv xs := by
  obtain ⟨b, k, h⟩ := h
  exact ⟨b, k, h.alloc o⟩
theorem OE.later {rb : Nat} {w w' : World} {cv : Nat} {av : Option Addr} {xs : List Int} (h : OE rb w av cv xs) (q : Below w.heap.size w w') : OE rb w' av cv xs := by
  obtain ⟨b, k, h⟩ := h
  exact ⟨b, k, h.later q⟩
theorem OE.but {rb : Nat} {w w' : World} {cv : Nat} {av : Option Addr} {xs : List Int} (h : OE rb w av cv xs) (q : But rb w w') : OE rb w' av cv xs := by
  obtain ⟨b, k, h⟩ := h
  exact ⟨b, k, h.but q k⟩
theorem OE.of {rb base : Nat} {w : World} {cv : Nat} {av : Option Addr} {xs : List Int} (h : OI w base av cv xs) (k : rb < base) : OE rb w av cv xs := ⟨base, k, h⟩
theorem oneE {rb : Nat} (w : World) (v : Int) (t : TypeId) (hv : -9223372036854775808 ≤ v ∧ v ≤ 9223372036854775807) (h : rb < w.heap.size) : OE rb (w.alloc (.cells #[.int .i64 v] t)) (some ⟨w.heap.size, 0, none⟩) 1 [v] := ⟨_, h, oneO w v t hv⟩
theorem oneEb {rb : Nat} (w : World) (v : Int) (t : TypeId) (b : Nat) (hb : w.heap.size = b) (hv : -9223372036854775808 ≤ v ∧ v ≤ 9223372036854775807) (h : rb < w.heap.size) : OE rb (w.alloc (.cells #[.int .i64 v] t)) (some ⟨b, 0, none⟩) 1 [v] := by
  subst hb
  exact oneE w v t hv h
theorem But.oldB {rb : Nat} {a b c : World} (h : But rb a b) (k : Below b.heap.size b c) : But rb a c := h.trans (But.of k)
theorem OI.other {w : World} {base cv c : Nat} {av : Option Addr} {xs : List Int} (h : OI w base av cv xs) (hl : ∀ q, av = some q → q.block ≠ c) (i : Nat) (v : Value) : OI (w.setCell ⟨c, i, Option.none⟩ v) base av cv xs :=
  h.kept (grown_set (grown_refl w (some c)) i v) (fun q e1 e2 => by injection e2 with e2; exact hl q e1 e2)
set_option maxHeartbeats 8000000 in
theorem frac_k (rb k : Nat) (w : World) (h : Rk w rb (k + 30)) :
    Calls Tryz.prog 30 #[.pointer (some ⟨rb, 0, none⟩)] w fun e w' => (∃ s av cv xs av' cv' ys, e = .returned (.agg #[.bool s, .slice av (List.length xs) cv, .slice av' (List.length ys) cv']) ∧ OI w' w.heap.size av cv xs ∧ OI w' w.heap.size av' cv' ys) ∧ Rk w' rb k ∧ But rb w w' := by
  have SP := hd (fun (m : Nat) (hm : m ≤ 5000) w => sPow2M m hm w)
  have SN := hd (fun (m : Nat) (hm : m < 2000) w => sNatOf m (by omega) w)
  have hrb := h.lt
  have R := h.alloc (.cells #[.bool false, .slice none 0 0, .slice none 0 0] 25)
  have B : But rb w (w.alloc (.cells #[.bool false, .slice none 0 0, .slice none 0 0] 25)) := (But.refl _ _).alloc _
  have Z := Cel3.new w (.bool false) (.slice none 0 0) (.slice none 0 0) 25
  clear h
  go_enter Tryz.func30, Tryz.ntmps30
  obtain ⟨Za, ⟨Zb, Zc, Zd⟩, Zx, Zy, Zz⟩ := id Z
  have Zl1 := Nat.ne_of_lt Za
  have Zl2 := Nat.ne_of_gt Za
  go_wp2_with fail
  refine (pick_k rb (k + 29) _ _ R (by decide)).mono ?_
  rintro e w1 ⟨⟨n, ⟨n1, n2⟩, rfl⟩, R', hB'⟩
  clear Za Zb Zc Zd Zx Zy Zz Zl1 Zl2
  replace Z := Z.but hB' (by omega)
  replace R := R'
  replace B := B.trans hB'
  clear hB' 
  obtain ⟨Za, ⟨Zb, Zc, Zd⟩, Zx, Zy, Zz⟩ := id Z
  have Zl1 := Nat.ne_of_lt Za
  have Zl2 := Nat.ne_of_gt Za
  go_wp2_with fail
  refine (pick_k rb (k + 28) _ _ R (by decide)).mono ?_
  rintro e w2 ⟨⟨q, ⟨q1, q2⟩, rfl⟩, R', hB'⟩
  clear Za Zb Zc Zd Zx Zy Zz Zl1 Zl2
  replace Z := Z.but hB' (by omega)
  replace R := R'
  replace B := B.trans hB'
  clear hB' 
  obtain ⟨Za, ⟨Zb, Zc, Zd⟩, Zx, Zy, Zz⟩ := id Z
  have Zl1 := Nat.ne_of_lt Za
  have Zl2 := Nat.ne_of_gt Za
  go_wp2_with fail
  refine (pick_k rb (k + 27) _ _ R (by decide)).mono ?_
  rintro e w3 ⟨⟨b, ⟨b1, b2⟩, rfl⟩, R', hB'⟩
  clear Za Zb Zc Zd Zx Zy Zz Zl1 Zl2
  replace Z := Z.but hB' (by omega)
  replace R := R'
  replace B := B.trans hB'
  clear hB' 
  obtain ⟨Za, ⟨Zb, Zc, Zd⟩, Zx, Zy, Zz⟩ := id Z
  have Zl1 := Nat.ne_of_lt Za
  have Zl2 := Nat.ne_of_gt Za
  obtain ⟨m, rfl⟩ : ∃ m : Nat, n = (m : Int) := ⟨n.toNat, by omega⟩
  have hm : m < 2000 := by omega
  have hmw : IntKind.u64.wrap (m : Int) = (m : Int) := by rw [IntKind.wrap_u64]; omega
  clear n1 n2
  go_wp2_with fail
  refine (SN.out m hm _).mono ?_
  rintro e w4 ⟨⟨avN, cvN, rfl, N⟩, hb4⟩
  clear Za Zb Zc Zd Zx Zy Zz Zl1 Zl2
  have sz := Nat.lt_of_lt_of_le Z.1 (Nat.le_refl _)
  replace R := R.old hb4
  replace B := B.trans (But.of hb4)
  replace Z := Z.old hb4
  replace N := N.mono (base' := w.heap.size + 1) (by first | exact sz | (simp at sz; omega) | omega)
  clear sz
  clear hb4
  obtain ⟨Za, ⟨Zb, Zc, Zd⟩, Zx, Zy, Zz⟩ := id Z
  have Zl1 := Nat.ne_of_lt Za
  have Zl2 := Nat.ne_of_gt Za
  go_wp2_with fail
  refine (pick_k rb (k + 26) _ _ R (by decide)).mono ?_
  rintro e w5 ⟨⟨c, ⟨c1, c2⟩, rfl⟩, R', hB'⟩
  clear Za Zb Zc Zd Zx Zy Zz Zl1 Zl2
  replace Z := Z.but hB' (by omega)
  replace N := N.but hB' (by omega)
  replace R := R'
  replace B := B.trans hB'
  clear hB' 
  obtain ⟨Za, ⟨Zb, Zc, Zd⟩, Zx, Zy, Zz⟩ := id Z
  have Zl1 := Nat.ne_of_lt Za
  have Zl2 := Nat.ne_of_gt Za
  clear Za Zb Zc Zd Zx Zy Zz Zl1 Zl2
  have C1 := oneI w5 (1 + c) (by omega)
  have alC1 : Below w5.heap.size w5 (w5.alloc (.cells #[.int .i64 (1 + c)] 3)) := old_alloc (Below.refl _ _) _
  replace R := R.old alC1
  replace B := B.trans (But.of alC1)
  replace Z := Z.old alC1
  replace N := N.later alC1
  clear alC1
  obtain ⟨Za, ⟨Zb, Zc, Zd⟩, Zx, Zy, Zz⟩ := id Z
  have Zl1 := Nat.ne_of_lt Za
  have Zl2 := Nat.ne_of_gt Za
  go_wp2_with fail
  refine ((sFracOf _ _ _ _ _ _ _ _ _ _ N.inI C1).mono fun e w' h => (⟨h.1.fr, h.2⟩ : _ ∧ _)).mono ?_
  rintro e w6 ⟨⟨s, avX, cvX, xs, avX', cvX', ys, rfl, X, X'⟩, hb6⟩
  clear Za Zb Zc Zd Zx Zy Zz Zl1 Zl2
  have sz := Nat.lt_of_lt_of_le Z.1 (Nat.le_refl _)
  replace R := R.old hb6
  replace B := B.trans (But.of hb6)
  replace Z := Z.old hb6
  replace N := N.later hb6
  replace X := X.mono (base' := w.heap.size + 1) (by first | exact sz | (simp at sz; omega) | omega)
  replace X' := X'.mono (base' := w.heap.size + 1) (by first | exact sz | (simp at sz; omega) | omega)
  clear sz
  clear hb6
  obtain ⟨Za, ⟨Zb, Zc, Zd⟩, Zx, Zy, Zz⟩ := id Z
  have Zl1 := Nat.ne_of_lt Za
  have Zl2 := Nat.ne_of_gt Za
  clear N C1
  have Xl := X.lt
  have X'l := X'.lt
  have hpF := Z.1
  clear Za Zb Zc Zd Zx Zy Zz Zl1 Zl2
  have alF : Below w6.heap.size w6 (w6.alloc (.cells #[.bool s, .slice avX xs.length cvX, .slice avX' ys.length cvX'] 25)) := old_alloc (Below.refl _ _) _
  have F_ := Cel3.new w6 (.bool s) (.slice avX xs.length cvX) (.slice avX' ys.length cvX') 25
  have Fg := B.size
  replace R := R.old alF
  replace B := B.trans (But.of alF)
  replace Z := Z.old alF
  replace X := X.later alF
  replace X' := X'.later alF
  have F := F_
  clear F_ alF
  clear Fg
  obtain ⟨Za, ⟨Zb, Zc, Zd⟩, Zx, Zy, Zz⟩ := id Z
  have Zl1 := Nat.ne_of_lt Za
  have Zl2 := Nat.ne_of_gt Za
  obtain ⟨Fa, ⟨Fb, Fc, Fd⟩, Fx, Fy, Fz⟩ := id F
  have Fl1 := Nat.ne_of_lt Fa
  have Fl2 := Nat.ne_of_gt Fa
  go_upto_region 4 with fail
  clear Za Zb Zc Zd Zx Zy Zz Zl1 Zl2 Fa Fb Fc Fd Fx Fy Fz Fl1 Fl2
  generalize (w6.alloc (.cells #[.bool s, .slice avX xs.length cvX, .slice avX' ys.length cvX'] 25)) = W3 at *
  generalize w6.heap.size = pF at *
  have hPW : pF ≠ w.heap.size := Nat.ne_of_gt hpF
  have hWP : w.heap.size ≠ pF := Nat.ne_of_lt hpF
  have Xs : ∀ q, avX = some q → q.block ≠ pF := fun q e => by have := Xl q e; omega
  have X's : ∀ q, avX' = some q → q.block ≠ pF := fun q e => by have := X'l q e; omega
  clear Xl X'l
  by_cases hq0 : q = 0
  · subst hq0
    obtain ⟨Za, ⟨Zb, Zc, Zd⟩, Zx, Zy, Zz⟩ := id Z
    have Zl1 := Nat.ne_of_lt Za
    have Zl2 := Nat.ne_of_gt Za
    obtain ⟨Fa, ⟨Fb, Fc, Fd⟩, Fx, Fy, Fz⟩ := id F
    have Fl1 := Nat.ne_of_lt Fa
    have Fl2 := Nat.ne_of_gt Fa
    go_wp2_with fail
    refine (ord_32 rb (k + 5) _ (R.mono (by omega))).mono ?_
    rintro e w7 ⟨⟨v, hv, rfl⟩, R', hB'⟩
    clear Za Zb Zc Zd Zx Zy Zz Zl1 Zl2 Fa Fb Fc Fd Fx Fy Fz Fl1 Fl2
    replace Z := Z.but hB' (by omega)
    replace F := F.but hB' (by omega)
    replace X := X.but hB' (by omega)
    replace X' := X'.but hB' (by omega)
    replace R := R'
    replace B := B.trans hB'
    clear hB' 
    obtain ⟨Za, ⟨Zb, Zc, Zd⟩, Zx, Zy, Zz⟩ := id Z
    have Zl1 := Nat.ne_of_lt Za
    have Zl2 := Nat.ne_of_gt Za
    obtain ⟨Fa, ⟨Fb, Fc, Fd⟩, Fx, Fy, Fz⟩ := id F
    have Fl1 := Nat.ne_of_lt Fa
    have Fl2 := Nat.ne_of_gt Fa
    obtain ⟨ok, SFF⟩ := sFF_any 32 v
    replace SFF := hd SFF
    go_wp2_with fail
    refine (SFF.out _).mono ?_
    rintro e w8 ⟨⟨s2, avG, cvG, gs, avG', cvG', hs, rfl, G, G'⟩, hb8⟩
    clear Za Zb Zc Zd Zx Zy Zz Zl1 Zl2 Fa Fb Fc Fd Fx Fy Fz Fl1 Fl2
    have sz := Nat.lt_of_lt_of_le Z.1 (Nat.le_refl _)
    have sF := F.1
    have Gs : ∀ q, avG = some q → q.block ≠ pF := fun q e => by have := G.ge q e; omega
    have G's : ∀ q, avG' = some q → q.block ≠ pF := fun q e => by have := G'.ge q e; omega
    clear sF
    replace R := R.old hb8
    replace B := B.trans (But.of hb8)
    replace Z := Z.old hb8
    replace F := F.old hb8
    replace X := X.later hb8
    replace X' := X'.later hb8
    replace G := G.mono (base' := w.heap.size + 1) (by first | exact sz | (simp at sz; omega) | omega)
    replace G' := G'.mono (base' := w.heap.size + 1) (by first | exact sz | (simp at sz; omega) | omega)
    clear sz
    clear hb8
    obtain ⟨Za, ⟨Zb, Zc, Zd⟩, Zx, Zy, Zz⟩ := id Z
    have Zl1 := Nat.ne_of_lt Za
    have Zl2 := Nat.ne_of_gt Za
    obtain ⟨Fa, ⟨Fb, Fc, Fd⟩, Fx, Fy, Fz⟩ := id F
    have Fl1 := Nat.ne_of_lt Fa
    have Fl2 := Nat.ne_of_gt Fa
    clear SFF hv
    clear Za Zb Zc Zd Zx Zy Zz Zl1 Zl2 Fa Fb Fc Fd Fx Fy Fz Fl1 Fl2
    have alT7 : Below w8.heap.size w8 (w8.alloc (.cells #[.bool s2, .slice avG gs.length cvG, .slice avG' hs.length cvG'] 25)) := old_alloc (Below.refl _ _) _
    have T7_ := Cel3.new w8 (.bool s2) (.slice avG gs.length cvG) (.slice avG' hs.length cvG') 25
    have T7g := B.size
    replace R := R.old alT7
    replace B := B.trans (But.of alT7)
    replace Z := Z.old alT7
    replace F := F.old alT7
    replace X := X.later alT7
    replace X' := X'.later alT7
    replace G := G.later alT7
    replace G' := G'.later alT7
    have T7 := T7_
    clear T7_ alT7
    obtain ⟨Za, ⟨Zb, Zc, Zd⟩, Zx, Zy, Zz⟩ := id Z
    have Zl1 := Nat.ne_of_lt Za
    have Zl2 := Nat.ne_of_gt Za
    obtain ⟨Fa, ⟨Fb, Fc, Fd⟩, Fx, Fy, Fz⟩ := id F
    have Fl1 := Nat.ne_of_lt Fa
    have Fl2 := Nat.ne_of_gt Fa
    obtain ⟨T7a, ⟨T7b, T7c, T7d⟩, T7x, T7y, T7z⟩ := id T7
    have T7l1 := Nat.ne_of_lt T7a
    have T7l2 := Nat.ne_of_gt T7a
    go_upto_region 7 with fail
    clear Za Zb Zc Zd Zx Zy Zz Zl1 Zl2 Fa Fb Fc Fd Fx Fy Fz Fl1 Fl2 T7a T7b T7c T7d T7x T7y T7z T7l1 T7l2
    generalize (w8.alloc (.cells #[.bool s2, .slice avG gs.length cvG, .slice avG' hs.length cvG'] 25)) = U8 at *
    cases ok
    · skip
      obtain ⟨Za, ⟨Zb, Zc, Zd⟩, Zx, Zy, Zz⟩ := id Z
      have Zl1 := Nat.ne_of_lt Za
      have Zl2 := Nat.ne_of_gt Za
      obtain ⟨Fa, ⟨Fb, Fc, Fd⟩, Fx, Fy, Fz⟩ := id F
      have Fl1 := Nat.ne_of_lt Fa
      have Fl2 := Nat.ne_of_gt Fa
      obtain ⟨T7a, ⟨T7b, T7c, T7d⟩, T7x, T7y, T7z⟩ := id T7
      have T7l1 := Nat.ne_of_lt T7a
      have T7l2 := Nat.ne_of_gt T7a
      go_wp2_with fail
      refine (pick_k rb k _ _ (R.mono (by omega)) (by decide)).mono ?_
      rintro e w9 ⟨⟨u, ⟨u1, u2⟩, rfl⟩, R', hB'⟩
      clear Za Zb Zc Zd Zx Zy Zz Zl1 Zl2 Fa Fb Fc Fd Fx Fy Fz Fl1 Fl2 T7a T7b T7c T7d T7x T7y T7z T7l1 T7l2
      replace Z := Z.but hB' (by omega)
      replace F := F.but hB' (by omega)
      replace T7 := T7.but hB' (by omega)
      replace X := X.but hB' (by omega)
      replace X' := X'.but hB' (by omega)
      replace G := G.but hB' (by omega)
      replace G' := G'.but hB' (by omega)
      replace R := R'
      replace B := B.trans hB'
      clear hB' 
      obtain ⟨Za, ⟨Zb, Zc, Zd⟩, Zx, Zy, Zz⟩ := id Z
      have Zl1 := Nat.ne_of_lt Za
      have Zl2 := Nat.ne_of_gt Za
      obtain ⟨Fa, ⟨Fb, Fc, Fd⟩, Fx, Fy, Fz⟩ := id F
      have Fl1 := Nat.ne_of_lt Fa
      have Fl2 := Nat.ne_of_gt Fa
      obtain ⟨T7a, ⟨T7b, T7c, T7d⟩, T7x, T7y, T7z⟩ := id T7
      have T7l1 := Nat.ne_of_lt T7a
      have T7l2 := Nat.ne_of_gt T7a
      have nF := hpF
      by_cases hu : u = 0
      · subst hu
        have F2 := F.set2 (.slice none 0 0)
        have Z2 : Cel3 (w9.setCell ⟨pF, 2, none⟩ (.slice none 0 0)) w.heap.size (.bool false) (.slice none 0 0) (.slice none 0 0) := Z.far (Nat.ne_of_lt nF)
        have R2 : Rk (w9.setCell ⟨pF, 2, none⟩ (.slice none 0 0)) rb k := R.far pF 2 (by omega) _
        have B2 : But rb w (w9.setCell ⟨pF, 2, none⟩ (.slice none 0 0)) := B.far (p := ⟨pF, 2, none⟩) (by simp; omega) _
        have X2 : OI (w9.setCell ⟨pF, 2, none⟩ (.slice none 0 0)) (w.heap.size + 1) avX cvX xs := X.other (c := pF) Xs 2 _
        have sx : ∀ q, avX = some q → q.block ≠ w.heap.size := fun q e => by have := X2.ge q e; omega
        go_wp2
        exact bodyPost_ret (resFr (Z2.setAll (.bool s) (.slice avX xs.length cvX) (.slice none 0 0)) rfl) rfl ⟨⟨s, avX, cvX, xs, none, 0, [], rfl, (((X2.other (c := w.heap.size) sx 0 _).other (c := w.heap.size) sx 1 _).other (c := w.heap.size) sx 2 _).mono (by omega), OI.none _ _⟩, ((R2.far _ 0 hrb _).far _ 1 hrb _).far _ 2 hrb _, ((B2.far (p := ⟨w.heap.size, 0, none⟩) (by simp) _).far (p := ⟨w.heap.size, 1, none⟩) (by simp) _).far (p := ⟨w.heap.size, 2, none⟩) (by simp) _⟩
      · have hu' : (u == 0) = false := beq_eq_false_iff_ne.2 hu
        have F2 := F
        have Z2 : Cel3 w9 w.heap.size (.bool false) (.slice none 0 0) (.slice none 0 0) := Z
        have R2 : Rk w9 rb k := R
        have B2 : But rb w w9 := B
        have X2 : OI w9 (w.heap.size + 1) avX cvX xs := X
        have Y2 : OI w9 (w.heap.size + 1) avX' cvX' ys := X'
        have sx : ∀ q, avX = some q → q.block ≠ w.heap.size := fun q e => by have := X2.ge q e; omega
        have sy : ∀ q, avX' = some q → q.block ≠ w.heap.size := fun q e => by have := Y2.ge q e; omega
        go_wp2
        exact bodyPost_ret (resFr (Z2.setAll (.bool s) (.slice avX xs.length cvX) (.slice avX' ys.length cvX')) rfl) rfl ⟨⟨s, avX, cvX, xs, avX', cvX', ys, rfl, (((X2.other (c := w.heap.size) sx 0 _).other (c := w.heap.size) sx 1 _).other (c := w.heap.size) sx 2 _).mono (by omega), (((Y2.other (c := w.heap.size) sy 0 _).other (c := w.heap.size) sy 1 _).other (c := w.heap.size) sy 2 _).mono (by omega)⟩, ((R2.far _ 0 hrb _).far _ 1 hrb _).far _ 2 hrb _, ((B2.far (p := ⟨w.heap.size, 0, none⟩) (by simp) _).far (p := ⟨w.heap.size, 1, none⟩) (by simp) _).far (p := ⟨w.heap.size, 2, none⟩) (by simp) _⟩
    · skip
      have sF := F.1
      have nF : w.heap.size < pF := hpF
      obtain ⟨Za, ⟨Zb, Zc, Zd⟩, Zx, Zy, Zz⟩ := id Z
      have Zl1 := Nat.ne_of_lt Za
      have Zl2 := Nat.ne_of_gt Za
      obtain ⟨Fa, ⟨Fb, Fc, Fd⟩, Fx, Fy, Fz⟩ := id F
      have Fl1 := Nat.ne_of_lt Fa
      have Fl2 := Nat.ne_of_gt Fa
      obtain ⟨T7a, ⟨T7b, T7c, T7d⟩, T7x, T7y, T7z⟩ := id T7
      have T7l1 := Nat.ne_of_lt T7a
      have T7l2 := Nat.ne_of_gt T7a
      go_upto_region 24 with fail
      clear Za Zb Zc Zd Zx Zy Zz Zl1 Zl2 Fa Fb Fc Fd Fx Fy Fz Fl1 Fl2 T7a T7b T7c T7d T7x T7y T7z T7l1 T7l2
      have R2 := ((R.far pF 0 (by omega) (.bool s2)).far pF 1 (by omega) (.slice avG gs.length cvG)).far pF 2 (by omega) (.slice avG' hs.length cvG')
      have B2 := ((B.far (p := ⟨pF, 0, none⟩) (by simp; omega) (.bool s2)).far (p := ⟨pF, 1, none⟩) (by simp; omega) (.slice avG gs.length cvG)).far (p := ⟨pF, 2, none⟩) (by simp; omega) (.slice avG' hs.length cvG')
      have F2 := F.setAll (.bool s2) (.slice avG gs.length cvG) (.slice avG' hs.length cvG')
      have Z2 : Cel3 (((U8.setCell ⟨pF, 0, none⟩ (.bool s2)).setCell ⟨pF, 1, none⟩ (.slice avG gs.length cvG)).setCell ⟨pF, 2, none⟩ (.slice avG' hs.length cvG')) w.heap.size (.bool false) (.slice none 0 0) (.slice none 0 0) := (((Z.far (i := 0) (v := .bool s2) (Nat.ne_of_lt nF)).far (i := 1) (v := .slice avG gs.length cvG) (Nat.ne_of_lt nF)).far (i := 2) (v := .slice avG' hs.length cvG') (Nat.ne_of_lt nF))
      have G2 := ((G.other (c := pF) Gs 0 (.bool s2)).other (c := pF) Gs 1 (.slice avG gs.length cvG)).other (c := pF) Gs 2 (.slice avG' hs.length cvG')
      have G'2 := ((G'.other (c := pF) G's 0 (.bool s2)).other (c := pF) G's 1 (.slice avG gs.length cvG)).other (c := pF) G's 2 (.slice avG' hs.length cvG')
      clear R B F Z G G'
      generalize (((U8.setCell ⟨pF, 0, none⟩ (.bool s2)).setCell ⟨pF, 1, none⟩ (.slice avG gs.length cvG)).setCell ⟨pF, 2, none⟩ (.slice avG' hs.length cvG')) = Wf at *
      have R := R2
      clear R2
      have B := B2
      clear B2
      have F := F2
      clear F2
      have Z := Z2
      clear Z2
      have G := G2
      clear G2
      have G' := G'2
      clear G'2
      obtain ⟨Za, ⟨Zb, Zc, Zd⟩, Zx, Zy, Zz⟩ := id Z
      have Zl1 := Nat.ne_of_lt Za
      have Zl2 := Nat.ne_of_gt Za
      obtain ⟨Fa, ⟨Fb, Fc, Fd⟩, Fx, Fy, Fz⟩ := id F
      have Fl1 := Nat.ne_of_lt Fa
      have Fl2 := Nat.ne_of_gt Fa
      go_wp2_with fail
      refine (pick_k rb k _ _ (R.mono (by omega)) (by decide)).mono ?_
      rintro e w9 ⟨⟨u, ⟨u1, u2⟩, rfl⟩, R', hB'⟩
      clear Za Zb Zc Zd Zx Zy Zz Zl1 Zl2 Fa Fb Fc Fd Fx Fy Fz Fl1 Fl2
      replace Z := Z.but hB' (by omega)
      replace F := F.but hB' (by omega)
      replace G := G.but hB' (by omega)
      replace G' := G'.but hB' (by omega)
      replace R := R'
      replace B := B.trans hB'
      clear hB' 
      obtain ⟨Za, ⟨Zb, Zc, Zd⟩, Zx, Zy, Zz⟩ := id Z
      have Zl1 := Nat.ne_of_lt Za
      have Zl2 := Nat.ne_of_gt Za
      obtain ⟨Fa, ⟨Fb, Fc, Fd⟩, Fx, Fy, Fz⟩ := id F
      have Fl1 := Nat.ne_of_lt Fa
      have Fl2 := Nat.ne_of_gt Fa
      have nF := hpF
      by_cases hu : u = 0
      · subst hu
        have F2 := F.set2 (.slice none 0 0)
        have Z2 : Cel3 (w9.setCell ⟨pF, 2, none⟩ (.slice none 0 0)) w.heap.size (.bool false) (.slice none 0 0) (.slice none 0 0) := Z.far (Nat.ne_of_lt nF)
        have R2 : Rk (w9.setCell ⟨pF, 2, none⟩ (.slice none 0 0)) rb k := R.far pF 2 (by omega) _
        have B2 : But rb w (w9.setCell ⟨pF, 2, none⟩ (.slice none 0 0)) := B.far (p := ⟨pF, 2, none⟩) (by simp; omega) _
        have X2 : OI (w9.setCell ⟨pF, 2, none⟩ (.slice none 0 0)) (w.heap.size + 1) avG cvG gs := G.other (c := pF) Gs 2 _
        have sx : ∀ q, avG = some q → q.block ≠ w.heap.size := fun q e => by have := X2.ge q e; omega
        go_wp2
        exact bodyPost_ret (resFr (Z2.setAll (.bool s2) (.slice avG gs.length cvG) (.slice none 0 0)) rfl) rfl ⟨⟨s2, avG, cvG, gs, none, 0, [], rfl, (((X2.other (c := w.heap.size) sx 0 _).other (c := w.heap.size) sx 1 _).other (c := w.heap.size) sx 2 _).mono (by omega), OI.none _ _⟩, ((R2.far _ 0 hrb _).far _ 1 hrb _).far _ 2 hrb _, ((B2.far (p := ⟨w.heap.size, 0, none⟩) (by simp) _).far (p := ⟨w.heap.size, 1, none⟩) (by simp) _).far (p := ⟨w.heap.size, 2, none⟩) (by simp) _⟩
      · have hu' : (u == 0) = false := beq_eq_false_iff_ne.2 hu
        have F2 := F
        have Z2 : Cel3 w9 w.heap.size (.bool false) (.slice none 0 0) (.slice none 0 0) := Z
        have R2 : Rk w9 rb k := R
        have B2 : But rb w w9 := B
        have X2 : OI w9 (w.heap.size + 1) avG cvG gs := G
        have Y2 : OI w9 (w.heap.size + 1) avG' cvG' hs := G'
        have sx : ∀ q, avG = some q → q.block ≠ w.heap.size := fun q e => by have := X2.ge q e; omega
        have sy : ∀ q, avG' = some q → q.block ≠ w.heap.size := fun q e => by have := Y2.ge q e; omega
        go_wp2
        exact bodyPost_ret (resFr (Z2.setAll (.bool s2) (.slice avG gs.length cvG) (.slice avG' hs.length cvG')) rfl) rfl ⟨⟨s2, avG, cvG, gs, avG', cvG', hs, rfl, (((X2.other (c := w.heap.size) sx 0 _).other (c := w.heap.size) sx 1 _).other (c := w.heap.size) sx 2 _).mono (by omega), (((Y2.other (c := w.heap.size) sy 0 _).other (c := w.heap.size) sy 1 _).other (c := w.heap.size) sy 2 _).mono (by omega)⟩, ((R2.far _ 0 hrb _).far _ 1 hrb _).far _ 2 hrb _, ((B2.far (p := ⟨w.heap.size, 0, none⟩) (by simp) _).far (p := ⟨w.heap.size, 1, none⟩) (by simp) _).far (p := ⟨w.heap.size, 2, none⟩) (by simp) _⟩
  have hq0' : (q == 0) = false := beq_eq_false_iff_ne.2 hq0
  by_cases hq1 : q = 1
  · subst hq1
    obtain ⟨Za, ⟨Zb, Zc, Zd⟩, Zx, Zy, Zz⟩ := id Z
    have Zl1 := Nat.ne_of_lt Za
    have Zl2 := Nat.ne_of_gt Za
    obtain ⟨Fa, ⟨Fb, Fc, Fd⟩, Fx, Fy, Fz⟩ := id F
    have Fl1 := Nat.ne_of_lt Fa
    have Fl2 := Nat.ne_of_gt Fa
    go_wp2_with fail
    refine (ord_64 rb (k + 5) _ (R.mono (by omega))).mono ?_
    rintro e w7 ⟨⟨v, hv, rfl⟩, R', hB'⟩
    clear Za Zb Zc Zd Zx Zy Zz Zl1 Zl2 Fa Fb Fc Fd Fx Fy Fz Fl1 Fl2
    replace Z := Z.but hB' (by omega)
    replace F := F.but hB' (by omega)
    replace X := X.but hB' (by omega)
    replace X' := X'.but hB' (by omega)
    replace R := R'
    replace B := B.trans hB'
    clear hB' 
    obtain ⟨Za, ⟨Zb, Zc, Zd⟩, Zx, Zy, Zz⟩ := id Z
    have Zl1 := Nat.ne_of_lt Za
    have Zl2 := Nat.ne_of_gt Za
    obtain ⟨Fa, ⟨Fb, Fc, Fd⟩, Fx, Fy, Fz⟩ := id F
    have Fl1 := Nat.ne_of_lt Fa
    have Fl2 := Nat.ne_of_gt Fa
    obtain ⟨ok, SFF⟩ := sFF_any 64 v
    replace SFF := hd SFF
    go_wp2_with fail
    refine (SFF.out _).mono ?_
    rintro e w8 ⟨⟨s2, avG, cvG, gs, avG', cvG', hs, rfl, G, G'⟩, hb8⟩
    clear Za Zb Zc Zd Zx Zy Zz Zl1 Zl2 Fa Fb Fc Fd Fx Fy Fz Fl1 Fl2
    have sz := Nat.lt_of_lt_of_le Z.1 (Nat.le_refl _)
    have sF := F.1
    have Gs : ∀ q, avG = some q → q.block ≠ pF := fun q e => by have := G.ge q e; omega
    have G's : ∀ q, avG' = some q → q.block ≠ pF := fun q e => by have := G'.ge q e; omega
    clear sF
    replace R := R.old hb8
    replace B := B.trans (But.of hb8)
    replace Z := Z.old hb8
    replace F := F.old hb8
    replace X := X.later hb8
    replace X' := X'.later hb8
    replace G := G.mono (base' := w.heap.size + 1) (by first | exact sz | (simp at sz; omega) | omega)
    replace G' := G'.mono (base' := w.heap.size + 1) (by first | exact sz | (simp at sz; omega) | omega)
    clear sz
    clear hb8
    obtain ⟨Za, ⟨Zb, Zc, Zd⟩, Zx, Zy, Zz⟩ := id Z
    have Zl1 := Nat.ne_of_lt Za
    have Zl2 := Nat.ne_of_gt Za
    obtain ⟨Fa, ⟨Fb, Fc, Fd⟩, Fx, Fy, Fz⟩ := id F
    have Fl1 := Nat.ne_of_lt Fa
    have Fl2 := Nat.ne_of_gt Fa
    clear SFF hv
    clear Za Zb Zc Zd Zx Zy Zz Zl1 Zl2 Fa Fb Fc Fd Fx Fy Fz Fl1 Fl2
    have alT9 : Below w8.heap.size w8 (w8.alloc (.cells #[.bool s2, .slice avG gs.length cvG, .slice avG' hs.length cvG'] 25)) := old_alloc (Below.refl _ _) _
    have T9_ := Cel3.new w8 (.bool s2) (.slice avG gs.length cvG) (.slice avG' hs.length cvG') 25
    have T9g := B.size
    replace R := R.old alT9
    replace B := B.trans (But.of alT9)
    replace Z := Z.old alT9
    replace F := F.old alT9
    replace X := X.later alT9
    replace X' := X'.later alT9
    replace G := G.later alT9
    replace G' := G'.later alT9
    have T9 := T9_
    clear T9_ alT9
    obtain ⟨Za, ⟨Zb, Zc, Zd⟩, Zx, Zy, Zz⟩ := id Z
    have Zl1 := Nat.ne_of_lt Za
    have Zl2 := Nat.ne_of_gt Za
    obtain ⟨Fa, ⟨Fb, Fc, Fd⟩, Fx, Fy, Fz⟩ := id F
    have Fl1 := Nat.ne_of_lt Fa
    have Fl2 := Nat.ne_of_gt Fa
    obtain ⟨T9a, ⟨T9b, T9c, T9d⟩, T9x, T9y, T9z⟩ := id T9
    have T9l1 := Nat.ne_of_lt T9a
    have T9l2 := Nat.ne_of_gt T9a
    go_upto_region 11 with fail
    clear Za Zb Zc Zd Zx Zy Zz Zl1 Zl2 Fa Fb Fc Fd Fx Fy Fz Fl1 Fl2 T9a T9b T9c T9d T9x T9y T9z T9l1 T9l2
    generalize (w8.alloc (.cells #[.bool s2, .slice avG gs.length cvG, .slice avG' hs.length cvG'] 25)) = U8 at *
    cases ok
    · skip
      obtain ⟨Za, ⟨Zb, Zc, Zd⟩, Zx, Zy, Zz⟩ := id Z
      have Zl1 := Nat.ne_of_lt Za
      have Zl2 := Nat.ne_of_gt Za
      obtain ⟨Fa, ⟨Fb, Fc, Fd⟩, Fx, Fy, Fz⟩ := id F
      have Fl1 := Nat.ne_of_lt Fa
      have Fl2 := Nat.ne_of_gt Fa
      obtain ⟨T9a, ⟨T9b, T9c, T9d⟩, T9x, T9y, T9z⟩ := id T9
      have T9l1 := Nat.ne_of_lt T9a
      have T9l2 := Nat.ne_of_gt T9a
      go_wp2_with fail
      refine (pick_k rb k _ _ (R.mono (by omega)) (by decide)).mono ?_
      rintro e w9 ⟨⟨u, ⟨u1, u2⟩, rfl⟩, R', hB'⟩
      clear Za Zb Zc Zd Zx Zy Zz Zl1 Zl2 Fa Fb Fc Fd Fx Fy Fz Fl1 Fl2 T9a T9b T9c T9d T9x T9y T9z T9l1 T9l2
      replace Z := Z.but hB' (by omega)
      replace F := F.but hB' (by omega)
      replace T9 := T9.but hB' (by omega)
      replace X := X.but hB' (by omega)
      replace X' := X'.but hB' (by omega)
      replace G := G.but hB' (by omega)
      replace G' := G'.but hB' (by omega)
      replace R := R'
      replace B := B.trans hB'
      clear hB' 
      obtain ⟨Za, ⟨Zb, Zc, Zd⟩, Zx, Zy, Zz⟩ := id Z
      have Zl1 := Nat.ne_of_lt Za
      have Zl2 := Nat.ne_of_gt Za
      obtain ⟨Fa, ⟨Fb, Fc, Fd⟩, Fx, Fy, Fz⟩ := id F
      have Fl1 := Nat.ne_of_lt Fa
      have Fl2 := Nat.ne_of_gt Fa
      obtain ⟨T9a, ⟨T9b, T9c, T9d⟩, T9x, T9y, T9z⟩ := id T9
      have T9l1 := Nat.ne_of_lt T9a
      have T9l2 := Nat.ne_of_gt T9a
      have nF := hpF
      by_cases hu : u = 0
      · subst hu
        have F2 := F.set2 (.slice none 0 0)
        have Z2 : Cel3 (w9.setCell ⟨pF, 2, none⟩ (.slice none 0 0)) w.heap.size (.bool false) (.slice none 0 0) (.slice none 0 0) := Z.far (Nat.ne_of_lt nF)
        have R2 : Rk (w9.setCell ⟨pF, 2, none⟩ (.slice none 0 0)) rb k := R.far pF 2 (by omega) _
        have B2 : But rb w (w9.setCell ⟨pF, 2, none⟩ (.slice none 0 0)) := B.far (p := ⟨pF, 2, none⟩) (by simp; omega) _
        have X2 : OI (w9.setCell ⟨pF, 2, none⟩ (.slice none 0 0)) (w.heap.size + 1) avX cvX xs := X.other (c := pF) Xs 2 _
        have sx : ∀ q, avX = some q → q.block ≠ w.heap.size := fun q e => by have := X2.ge q e; omega
        go_wp2
        exact bodyPost_ret (resFr (Z2.setAll (.bool s) (.slice avX xs.length cvX) (.slice none 0 0)) rfl) rfl ⟨⟨s, avX, cvX, xs, none, 0, [], rfl, (((X2.other (c := w.heap.size) sx 0 _).other (c := w.heap.size) sx 1 _).other (c := w.heap.size) sx 2 _).mono (by omega), OI.none _ _⟩, ((R2.far _ 0 hrb _).far _ 1 hrb _).far _ 2 hrb _, ((B2.far (p := ⟨w.heap.size, 0, none⟩) (by simp) _).far (p := ⟨w.heap.size, 1, none⟩) (by simp) _).far (p := ⟨w.heap.size, 2, none⟩) (by simp) _⟩
      · have hu' : (u == 0) = false := beq_eq_false_iff_ne.2 hu
        have F2 := F
        have Z2 : Cel3 w9 w.heap.size (.bool false) (.slice none 0 0) (.slice none 0 0) := Z
        have R2 : Rk w9 rb k := R
        have B2 : But rb w w9 := B
        have X2 : OI w9 (w.heap.size + 1) avX cvX xs := X
        have Y2 : OI w9 (w.heap.size + 1) avX' cvX' ys := X'
        have sx : ∀ q, avX = some q → q.block ≠ w.heap.size := fun q e => by have := X2.ge q e; omega
        have sy : ∀ q, avX' = some q → q.block ≠ w.heap.size := fun q e => by have := Y2.ge q e; omega
        go_wp2
        exact bodyPost_ret (resFr (Z2.setAll (.bool s) (.slice avX xs.length cvX) (.slice avX' ys.length cvX')) rfl) rfl ⟨⟨s, avX, cvX, xs, avX', cvX', ys, rfl, (((X2.other (c := w.heap.size) sx 0 _).other (c := w.heap.size) sx 1 _).other (c := w.heap.size) sx 2 _).mono (by omega), (((Y2.other (c := w.heap.size) sy 0 _).other (c := w.heap.size) sy 1 _).other (c := w.heap.size) sy 2 _).mono (by omega)⟩, ((R2.far _ 0 hrb _).far _ 1 hrb _).far _ 2 hrb _, ((B2.far (p := ⟨w.heap.size, 0, none⟩) (by simp) _).far (p := ⟨w.heap.size, 1, none⟩) (by simp) _).far (p := ⟨w.heap.size, 2, none⟩) (by simp) _⟩
    · skip
      have sF := F.1
      have nF : w.heap.size < pF := hpF
      obtain ⟨Za, ⟨Zb, Zc, Zd⟩, Zx, Zy, Zz⟩ := id Z
      have Zl1 := Nat.ne_of_lt Za
      have Zl2 := Nat.ne_of_gt Za
      obtain ⟨Fa, ⟨Fb, Fc, Fd⟩, Fx, Fy, Fz⟩ := id F
      have Fl1 := Nat.ne_of_lt Fa
      have Fl2 := Nat.ne_of_gt Fa
      obtain ⟨T9a, ⟨T9b, T9c, T9d⟩, T9x, T9y, T9z⟩ := id T9
      have T9l1 := Nat.ne_of_lt T9a
      have T9l2 := Nat.ne_of_gt T9a
      go_upto_region 24 with fail
      clear Za Zb Zc Zd Zx Zy Zz Zl1 Zl2 Fa Fb Fc Fd Fx Fy Fz Fl1 Fl2 T9a T9b T9c T9d T9x T9y T9z T9l1 T9l2
      have R2 := ((R.far pF 0 (by omega) (.bool s2)).far pF 1 (by omega) (.slice avG gs.length cvG)).far pF 2 (by omega) (.slice avG' hs.length cvG')
      have B2 := ((B.far (p := ⟨pF, 0, none⟩) (by simp; omega) (.bool s2)).far (p := ⟨pF, 1, none⟩) (by simp; omega) (.slice avG gs.length cvG)).far (p := ⟨pF, 2, none⟩) (by simp; omega) (.slice avG' hs.length cvG')
      have F2 := F.setAll (.bool s2) (.slice avG gs.length cvG) (.slice avG' hs.length cvG')
      have Z2 : Cel3 (((U8.setCell ⟨pF, 0, none⟩ (.bool s2)).setCell ⟨pF, 1, none⟩ (.slice avG gs.length cvG)).setCell ⟨pF, 2, none⟩ (.slice avG' hs.length cvG')) w.heap.size (.bool false) (.slice none 0 0) (.slice none 0 0) := (((Z.far (i := 0) (v := .bool s2) (Nat.ne_of_lt nF)).far (i := 1) (v := .slice avG gs.length cvG) (Nat.ne_of_lt nF)).far (i := 2) (v := .slice avG' hs.length cvG') (Nat.ne_of_lt nF))
      have G2 := ((G.other (c := pF) Gs 0 (.bool s2)).other (c := pF) Gs 1 (.slice avG gs.length cvG)).other (c := pF) Gs 2 (.slice avG' hs.length cvG')
      have G'2 := ((G'.other (c := pF) G's 0 (.bool s2)).other (c := pF) G's 1 (.slice avG gs.length cvG)).other (c := pF) G's 2 (.slice avG' hs.length cvG')
      clear R B F Z G G'
      generalize (((U8.setCell ⟨pF, 0, none⟩ (.bool s2)).setCell ⟨pF, 1, none⟩ (.slice avG gs.length cvG)).setCell ⟨pF, 2, none⟩ (.slice avG' hs.length cvG')) = Wf at *
      have R := R2
      clear R2
      have B := B2
      clear B2
      have F := F2
      clear F2
      have Z := Z2
      clear Z2
      have G := G2
      clear G2
      have G' := G'2
      clear G'2
      obtain ⟨Za, ⟨Zb, Zc, Zd⟩, Zx, Zy, Zz⟩ := id Z
      have Zl1 := Nat.ne_of_lt Za
      have Zl2 := Nat.ne_of_gt Za
      obtain ⟨Fa, ⟨Fb, Fc, Fd⟩, Fx, Fy, Fz⟩ := id F
      have Fl1 := Nat.ne_of_lt Fa
      have Fl2 := Nat.ne_of_gt Fa
      go_wp2_with fail
      refine (pick_k rb k _ _ (R.mono (by omega)) (by decide)).mono ?_
      rintro e w9 ⟨⟨u, ⟨u1, u2⟩, rfl⟩, R', hB'⟩
      clear Za Zb Zc Zd Zx Zy Zz Zl1 Zl2 Fa Fb Fc Fd Fx Fy Fz Fl1 Fl2
      replace Z := Z.but hB' (by omega)
      replace F := F.but hB' (by omega)
      replace G := G.but hB' (by omega)
      replace G' := G'.but hB' (by omega)
      replace R := R'
      replace B := B.trans hB'
      clear hB' 
      obtain ⟨Za, ⟨Zb, Zc, Zd⟩, Zx, Zy, Zz⟩ := id Z
      have Zl1 := Nat.ne_of_lt Za
      have Zl2 := Nat.ne_of_gt Za
      obtain ⟨Fa, ⟨Fb, Fc, Fd⟩, Fx, Fy, Fz⟩ := id F
      have Fl1 := Nat.ne_of_lt Fa
      have Fl2 := Nat.ne_of_gt Fa
      have nF := hpF
      by_cases hu : u = 0
      · subst hu
        have F2 := F.set2 (.slice none 0 0)
        have Z2 : Cel3 (w9.setCell ⟨pF, 2, none⟩ (.slice none 0 0)) w.heap.size (.bool false) (.slice none 0 0) (.slice none 0 0) := Z.far (Nat.ne_of_lt nF)
        have R2 : Rk (w9.setCell ⟨pF, 2, none⟩ (.slice none 0 0)) rb k := R.far pF 2 (by omega) _
        have B2 : But rb w (w9.setCell ⟨pF, 2, none⟩ (.slice none 0 0)) := B.far (p := ⟨pF, 2, none⟩) (by simp; omega) _
        have X2 : OI (w9.setCell ⟨pF, 2, none⟩ (.slice none 0 0)) (w.heap.size + 1) avG cvG gs := G.other (c := pF) Gs 2 _
        have sx : ∀ q, avG = some q → q.block ≠ w.heap.size := fun q e => by have := X2.ge q e; omega
        go_wp2
        exact bodyPost_ret (resFr (Z2.setAll (.bool s2) (.slice avG gs.length cvG) (.slice none 0 0)) rfl) rfl ⟨⟨s2, avG, cvG, gs, none, 0, [], rfl, (((X2.other (c := w.heap.size) sx 0 _).other (c := w.heap.size) sx 1 _).other (c := w.heap.size) sx 2 _).mono (by omega), OI.none _ _⟩, ((R2.far _ 0 hrb _).far _ 1 hrb _).far _ 2 hrb _, ((B2.far (p := ⟨w.heap.size, 0, none⟩) (by simp) _).far (p := ⟨w.heap.size, 1, none⟩) (by simp) _).far (p := ⟨w.heap.size, 2, none⟩) (by simp) _⟩
      · have hu' : (u == 0) = false := beq_eq_false_iff_ne.2 hu
        have F2 := F
        have Z2 : Cel3 w9 w.heap.size (.bool false) (.slice none 0 0) (.slice none 0 0) := Z
        have R2 : Rk w9 rb k := R
        have B2 : But rb w w9 := B
        have X2 : OI w9 (w.heap.size + 1) avG cvG gs := G
        have Y2 : OI w9 (w.heap.size + 1) avG' cvG' hs := G'
        have sx : ∀ q, avG = some q → q.block ≠ w.heap.size := fun q e => by have := X2.ge q e; omega
        have sy : ∀ q, avG' = some q → q.block ≠ w.heap.size := fun q e => by have := Y2.ge q e; omega
        go_wp2
        exact bodyPost_ret (resFr (Z2.setAll (.bool s2) (.slice avG gs.length cvG) (.slice avG' hs.length cvG')) rfl) rfl ⟨⟨s2, avG, cvG, gs, avG', cvG', hs, rfl, (((X2.other (c := w.heap.size) sx 0 _).other (c := w.heap.size) sx 1 _).other (c := w.heap.size) sx 2 _).mono (by omega), (((Y2.other (c := w.heap.size) sy 0 _).other (c := w.heap.size) sy 1 _).other (c := w.heap.size) sy 2 _).mono (by omega)⟩, ((R2.far _ 0 hrb _).far _ 1 hrb _).far _ 2 hrb _, ((B2.far (p := ⟨w.heap.size, 0, none⟩) (by simp) _).far (p := ⟨w.heap.size, 1, none⟩) (by simp) _).far (p := ⟨w.heap.size, 2, none⟩) (by simp) _⟩
  have hq1' : (q == 1) = false := beq_eq_false_iff_ne.2 hq1
  by_cases hq2 : q = 2
  · subst hq2
    obtain ⟨Za, ⟨Zb, Zc, Zd⟩, Zx, Zy, Zz⟩ := id Z
    have Zl1 := Nat.ne_of_lt Za
    have Zl2 := Nat.ne_of_gt Za
    obtain ⟨Fa, ⟨Fb, Fc, Fd⟩, Fx, Fy, Fz⟩ := id F
    have Fl1 := Nat.ne_of_lt Fa
    have Fl2 := Nat.ne_of_gt Fa
    go_wp2_with fail
    refine (ord_32 rb (k + 5) _ (R.mono (by omega))).mono ?_
    rintro e w7 ⟨⟨v, hv, rfl⟩, R', hB'⟩
    clear Za Zb Zc Zd Zx Zy Zz Zl1 Zl2 Fa Fb Fc Fd Fx Fy Fz Fl1 Fl2
    replace Z := Z.but hB' (by omega)
    replace F := F.but hB' (by omega)
    replace X := X.but hB' (by omega)
    replace X' := X'.but hB' (by omega)
    replace R := R'
    replace B := B.trans hB'
    clear hB' 
    obtain ⟨Za, ⟨Zb, Zc, Zd⟩, Zx, Zy, Zz⟩ := id Z
    have Zl1 := Nat.ne_of_lt Za
    have Zl2 := Nat.ne_of_gt Za
    obtain ⟨Fa, ⟨Fb, Fc, Fd⟩, Fx, Fy, Fz⟩ := id F
    have Fl1 := Nat.ne_of_lt Fa
    have Fl2 := Nat.ne_of_gt Fa
    obtain ⟨ok, SFF⟩ := sFF_any 32 v
    replace SFF := hd SFF
    go_wp2_with fail
    refine (SFF.out _).mono ?_
    rintro e w8 ⟨⟨s2, avG, cvG, gs, avG', cvG', hs, rfl, G, G'⟩, hb8⟩
    clear Za Zb Zc Zd Zx Zy Zz Zl1 Zl2 Fa Fb Fc Fd Fx Fy Fz Fl1 Fl2
    have sz := Nat.lt_of_lt_of_le Z.1 (Nat.le_refl _)
    have sF := F.1
    have Gs : ∀ q, avG = some q → q.block ≠ pF := fun q e => by have := G.ge q e; omega
    have G's : ∀ q, avG' = some q → q.block ≠ pF := fun q e => by have := G'.ge q e; omega
    clear sF
    replace R := R.old hb8
    replace B := B.trans (But.of hb8)
    replace Z := Z.old hb8
    replace F := F.old hb8
    replace X := X.later hb8
    replace X' := X'.later hb8
    replace G := G.mono (base' := w.heap.size + 1) (by first | exact sz | (simp at sz; omega) | omega)
    replace G' := G'.mono (base' := w.heap.size + 1) (by first | exact sz | (simp at sz; omega) | omega)
    clear sz
    clear hb8
    obtain ⟨Za, ⟨Zb, Zc, Zd⟩, Zx, Zy, Zz⟩ := id Z
    have Zl1 := Nat.ne_of_lt Za
    have Zl2 := Nat.ne_of_gt Za
    obtain ⟨Fa, ⟨Fb, Fc, Fd⟩, Fx, Fy, Fz⟩ := id F
    have Fl1 := Nat.ne_of_lt Fa
    have Fl2 := Nat.ne_of_gt Fa
    clear SFF hv
    clear Za Zb Zc Zd Zx Zy Zz Zl1 Zl2 Fa Fb Fc Fd Fx Fy Fz Fl1 Fl2
    have alT13 : Below w8.heap.size w8 (w8.alloc (.cells #[.bool s2, .slice avG gs.length cvG, .slice avG' hs.length cvG'] 25)) := old_alloc (Below.refl _ _) _
    have T13_ := Cel3.new w8 (.bool s2) (.slice avG gs.length cvG) (.slice avG' hs.length cvG') 25
    have T13g := B.size
    replace R := R.old alT13
    replace B := B.trans (But.of alT13)
    replace Z := Z.old alT13
    replace F := F.old alT13
    replace X := X.later alT13
    replace X' := X'.later alT13
    replace G := G.later alT13
    replace G' := G'.later alT13
    have T13 := T13_
    clear T13_ alT13
    cases ok
    · skip
      obtain ⟨Za, ⟨Zb, Zc, Zd⟩, Zx, Zy, Zz⟩ := id Z
      have Zl1 := Nat.ne_of_lt Za
      have Zl2 := Nat.ne_of_gt Za
      obtain ⟨Fa, ⟨Fb, Fc, Fd⟩, Fx, Fy, Fz⟩ := id F
      have Fl1 := Nat.ne_of_lt Fa
      have Fl2 := Nat.ne_of_gt Fa
      obtain ⟨T13a, ⟨T13b, T13c, T13d⟩, T13x, T13y, T13z⟩ := id T13
      have T13l1 := Nat.ne_of_lt T13a
      have T13l2 := Nat.ne_of_gt T13a
      go_wp2_with fail
      refine (pick_k rb k _ _ (R.mono (by omega)) (by decide)).mono ?_
      rintro e w9 ⟨⟨u, ⟨u1, u2⟩, rfl⟩, R', hB'⟩
      clear Za Zb Zc Zd Zx Zy Zz Zl1 Zl2 Fa Fb Fc Fd Fx Fy Fz Fl1 Fl2 T13a T13b T13c T13d T13x T13y T13z T13l1 T13l2
      replace Z := Z.but hB' (by omega)
      replace F := F.but hB' (by omega)
      replace T13 := T13.but hB' (by omega)
      replace X := X.but hB' (by omega)
      replace X' := X'.but hB' (by omega)
      replace G := G.but hB' (by omega)
      replace G' := G'.but hB' (by omega)
      replace R := R'
      replace B := B.trans hB'
      clear hB' 
      obtain ⟨Za, ⟨Zb, Zc, Zd⟩, Zx, Zy, Zz⟩ := id Z
      have Zl1 := Nat.ne_of_lt Za
      have Zl2 := Nat.ne_of_gt Za
      obtain ⟨Fa, ⟨Fb, Fc, Fd⟩, Fx, Fy, Fz⟩ := id F
      have Fl1 := Nat.ne_of_lt Fa
      have Fl2 := Nat.ne_of_gt Fa
      obtain ⟨T13a, ⟨T13b, T13c, T13d⟩, T13x, T13y, T13z⟩ := id T13
      have T13l1 := Nat.ne_of_lt T13a
      have T13l2 := Nat.ne_of_gt T13a
      have nF := hpF
      by_cases hu : u = 0
      · subst hu
        have F2 := F.set2 (.slice none 0 0)
        have Z2 : Cel3 (w9.setCell ⟨pF, 2, none⟩ (.slice none 0 0)) w.heap.size (.bool false) (.slice none 0 0) (.slice none 0 0) := Z.far (Nat.ne_of_lt nF)
        have R2 : Rk (w9.setCell ⟨pF, 2, none⟩ (.slice none 0 0)) rb k := R.far pF 2 (by omega) _
        have B2 : But rb w (w9.setCell ⟨pF, 2, none⟩ (.slice none 0 0)) := B.far (p := ⟨pF, 2, none⟩) (by simp; omega) _
        have X2 : OI (w9.setCell ⟨pF, 2, none⟩ (.slice none 0 0)) (w.heap.size + 1) avX cvX xs := X.other (c := pF) Xs 2 _
        have sx : ∀ q, avX = some q → q.block ≠ w.heap.size := fun q e => by have := X2.ge q e; omega
        go_wp2
        exact bodyPost_ret (resFr (Z2.setAll (.bool s) (.slice avX xs.length cvX) (.slice none 0 0)) rfl) rfl ⟨⟨s, avX, cvX, xs, none, 0, [], rfl, (((X2.other (c := w.heap.size) sx 0 _).other (c := w.heap.size) sx 1 _).other (c := w.heap.size) sx 2 _).mono (by omega), OI.none _ _⟩, ((R2.far _ 0 hrb _).far _ 1 hrb _).far _ 2 hrb _, ((B2.far (p := ⟨w.heap.size, 0, none⟩) (by simp) _).far (p := ⟨w.heap.size, 1, none⟩) (by simp) _).far (p := ⟨w.heap.size, 2, none⟩) (by simp) _⟩
      · have hu' : (u == 0) = false := beq_eq_false_iff_ne.2 hu
        have F2 := F
        have Z2 : Cel3 w9 w.heap.size (.bool false) (.slice none 0 0) (.slice none 0 0) := Z
        have R2 : Rk w9 rb k := R
        have B2 : But rb w w9 := B
        have X2 : OI w9 (w.heap.size + 1) avX cvX xs := X
        have Y2 : OI w9 (w.heap.size + 1) avX' cvX' ys := X'
        have sx : ∀ q, avX = some q → q.block ≠ w.heap.size := fun q e => by have := X2.ge q e; omega
        have sy : ∀ q, avX' = some q → q.block ≠ w.heap.size := fun q e => by have := Y2.ge q e; omega
        go_wp2
        exact bodyPost_ret (resFr (Z2.setAll (.bool s) (.slice avX xs.length cvX) (.slice avX' ys.length cvX')) rfl) rfl ⟨⟨s, avX, cvX, xs, avX', cvX', ys, rfl, (((X2.other (c := w.heap.size) sx 0 _).other (c := w.heap.size) sx 1 _).other (c := w.heap.size) sx 2 _).mono (by omega), (((Y2.other (c := w.heap.size) sy 0 _).other (c := w.heap.size) sy 1 _).other (c := w.heap.size) sy 2 _).mono (by omega)⟩, ((R2.far _ 0 hrb _).far _ 1 hrb _).far _ 2 hrb _, ((B2.far (p := ⟨w.heap.size, 0, none⟩) (by simp) _).far (p := ⟨w.heap.size, 1, none⟩) (by simp) _).far (p := ⟨w.heap.size, 2, none⟩) (by simp) _⟩
    · skip
      obtain ⟨Za, ⟨Zb, Zc, Zd⟩, Zx, Zy, Zz⟩ := id Z
      have Zl1 := Nat.ne_of_lt Za
      have Zl2 := Nat.ne_of_gt Za
      obtain ⟨Fa, ⟨Fb, Fc, Fd⟩, Fx, Fy, Fz⟩ := id F
      have Fl1 := Nat.ne_of_lt Fa
      have Fl2 := Nat.ne_of_gt Fa
      obtain ⟨T13a, ⟨T13b, T13c, T13d⟩, T13x, T13y, T13z⟩ := id T13
      have T13l1 := Nat.ne_of_lt T13a
      have T13l2 := Nat.ne_of_gt T13a
      go_wp2_with fail
      refine (pick_k rb (k + 4) _ _ (R.mono (by omega)) (by decide)).mono ?_
      rintro e w9 ⟨⟨c2, ⟨c3, c4⟩, rfl⟩, R', hB'⟩
      clear Za Zb Zc Zd Zx Zy Zz Zl1 Zl2 Fa Fb Fc Fd Fx Fy Fz Fl1 Fl2 T13a T13b T13c T13d T13x T13y T13z T13l1 T13l2
      replace Z := Z.but hB' (by omega)
      replace F := F.but hB' (by omega)
      replace T13 := T13.but hB' (by omega)
      replace X := X.but hB' (by omega)
      replace X' := X'.but hB' (by omega)
      replace G := G.but hB' (by omega)
      replace G' := G'.but hB' (by omega)
      replace R := R'
      replace B := B.trans hB'
      clear hB' 
      obtain ⟨Za, ⟨Zb, Zc, Zd⟩, Zx, Zy, Zz⟩ := id Z
      have Zl1 := Nat.ne_of_lt Za
      have Zl2 := Nat.ne_of_gt Za
      obtain ⟨Fa, ⟨Fb, Fc, Fd⟩, Fx, Fy, Fz⟩ := id F
      have Fl1 := Nat.ne_of_lt Fa
      have Fl2 := Nat.ne_of_gt Fa
      obtain ⟨T13a, ⟨T13b, T13c, T13d⟩, T13x, T13y, T13z⟩ := id T13
      have T13l1 := Nat.ne_of_lt T13a
      have T13l2 := Nat.ne_of_gt T13a
      clear Za Zb Zc Zd Zx Zy Zz Zl1 Zl2 Fa Fb Fc Fd Fx Fy Fz Fl1 Fl2 T13a T13b T13c T13d T13x T13y T13z T13l1 T13l2
      have C2 := oneO w9 (1 + 2 * c2) 3 (by omega)
      have alC : Below w9.heap.size w9 (w9.alloc (.cells #[.int .i64 (1 + 2 * c2)] 3)) := old_alloc (Below.refl _ _) _
      have sz := Z.1
      replace R := R.old alC
      replace B := B.trans (But.of alC)
      replace Z := Z.old alC
      replace F := F.old alC
      replace T13 := T13.old alC
      replace X := X.later alC
      replace X' := X'.later alC
      replace G := G.later alC
      replace G' := G'.later alC
      replace C2 := C2.mono (base' := w.heap.size + 1) (by omega)
      clear alC sz
      obtain ⟨Za, ⟨Zb, Zc, Zd⟩, Zx, Zy, Zz⟩ := id Z
      have Zl1 := Nat.ne_of_lt Za
      have Zl2 := Nat.ne_of_gt Za
      obtain ⟨Fa, ⟨Fb, Fc, Fd⟩, Fx, Fy, Fz⟩ := id F
      have Fl1 := Nat.ne_of_lt Fa
      have Fl2 := Nat.ne_of_gt Fa
      obtain ⟨T13a, ⟨T13b, T13c, T13d⟩, T13x, T13y, T13z⟩ := id T13
      have T13l1 := Nat.ne_of_lt T13a
      have T13l2 := Nat.ne_of_gt T13a
      go_wp2_with fail
      refine (pick_k rb (k + 3) _ _ (R.mono (by omega)) (by decide)).mono ?_
      rintro e w10 ⟨⟨p, ⟨p1, p2⟩, rfl⟩, R', hB'⟩
      clear Za Zb Zc Zd Zx Zy Zz Zl1 Zl2 Fa Fb Fc Fd Fx Fy Fz Fl1 Fl2 T13a T13b T13c T13d T13x T13y T13z T13l1 T13l2
      replace Z := Z.but hB' (by omega)
      replace F := F.but hB' (by omega)
      replace T13 := T13.but hB' (by omega)
      replace X := X.but hB' (by omega)
      replace X' := X'.but hB' (by omega)
      replace G := G.but hB' (by omega)
      replace G' := G'.but hB' (by omega)
      replace C2 := C2.but hB' (by omega)
      replace R := R'
      replace B := B.trans hB'
      clear hB' 
      obtain ⟨Za, ⟨Zb, Zc, Zd⟩, Zx, Zy, Zz⟩ := id Z
      have Zl1 := Nat.ne_of_lt Za
      have Zl2 := Nat.ne_of_gt Za
      obtain ⟨Fa, ⟨Fb, Fc, Fd⟩, Fx, Fy, Fz⟩ := id F
      have Fl1 := Nat.ne_of_lt Fa
      have Fl2 := Nat.ne_of_gt Fa
      obtain ⟨T13a, ⟨T13b, T13c, T13d⟩, T13x, T13y, T13z⟩ := id T13
      have T13l1 := Nat.ne_of_lt T13a
      have T13l2 := Nat.ne_of_gt T13a
      obtain ⟨pn, rfl⟩ : ∃ m : Nat, p = (m : Int) := ⟨p.toNat, by omega⟩
      have hpn : pn ≤ 5000 := by omega
      go_wp2_with fail
      refine (SP.out pn hpn _).mono ?_
      rintro e w11 ⟨⟨avP, cvP, rfl, P⟩, hb11⟩
      clear Za Zb Zc Zd Zx Zy Zz Zl1 Zl2 Fa Fb Fc Fd Fx Fy Fz Fl1 Fl2 T13a T13b T13c T13d T13x T13y T13z T13l1 T13l2
      have sz := Nat.lt_of_lt_of_le Z.1 (Nat.le_refl _)
      have sF := F.1
      have Ps : ∀ q, avP = some q → q.block ≠ pF := fun q e => by have := P.ge q e; omega
      clear sF
      replace R := R.old hb11
      replace B := B.trans (But.of hb11)
      replace Z := Z.old hb11
      replace F := F.old hb11
      replace T13 := T13.old hb11
      replace X := X.later hb11
      replace X' := X'.later hb11
      replace G := G.later hb11
      replace G' := G'.later hb11
      replace C2 := C2.later hb11
      replace P := P.mono (base' := w.heap.size + 1) (by first | exact sz | (simp at sz; omega) | omega)
      clear sz
      clear hb11
      obtain ⟨Za, ⟨Zb, Zc, Zd⟩, Zx, Zy, Zz⟩ := id Z
      have Zl1 := Nat.ne_of_lt Za
      have Zl2 := Nat.ne_of_gt Za
      obtain ⟨Fa, ⟨Fb, Fc, Fd⟩, Fx, Fy, Fz⟩ := id F
      have Fl1 := Nat.ne_of_lt Fa
      have Fl2 := Nat.ne_of_gt Fa
      obtain ⟨T13a, ⟨T13b, T13c, T13d⟩, T13x, T13y, T13z⟩ := id T13
      have T13l1 := Nat.ne_of_lt T13a
      have T13l2 := Nat.ne_of_gt T13a
      go_wp2_with fail
      refine ((sFracOf _ _ _ _ _ _ _ _ _ _ C2.inI P.inI).mono fun e w' h => (⟨h.1.fr, h.2⟩ : _ ∧ _)).mono ?_
      rintro e w12 ⟨⟨s3, avA, cvA, ar, avA', cvA', br, rfl, A, A'⟩, hb12⟩
      clear Za Zb Zc Zd Zx Zy Zz Zl1 Zl2 Fa Fb Fc Fd Fx Fy Fz Fl1 Fl2 T13a T13b T13c T13d T13x T13y T13z T13l1 T13l2
      have sz := Nat.lt_of_lt_of_le Z.1 (Nat.le_refl _)
      have sF := F.1
      have As : ∀ q, avA = some q → q.block ≠ pF := fun q e => by have := A.ge q e; omega
      have A's : ∀ q, avA' = some q → q.block ≠ pF := fun q e => by have := A'.ge q e; omega
      clear sF
      replace R := R.old hb12
      replace B := B.trans (But.of hb12)
      replace Z := Z.old hb12
      replace F := F.old hb12
      replace T13 := T13.old hb12
      replace X := X.later hb12
      replace X' := X'.later hb12
      replace G := G.later hb12
      replace G' := G'.later hb12
      replace P := P.later hb12
      replace C2 := C2.later hb12
      replace A := A.mono (base' := w.heap.size + 1) (by first | exact sz | (simp at sz; omega) | omega)
      replace A' := A'.mono (base' := w.heap.size + 1) (by first | exact sz | (simp at sz; omega) | omega)
      clear sz
      clear hb12
      obtain ⟨Za, ⟨Zb, Zc, Zd⟩, Zx, Zy, Zz⟩ := id Z
      have Zl1 := Nat.ne_of_lt Za
      have Zl2 := Nat.ne_of_gt Za
      obtain ⟨Fa, ⟨Fb, Fc, Fd⟩, Fx, Fy, Fz⟩ := id F
      have Fl1 := Nat.ne_of_lt Fa
      have Fl2 := Nat.ne_of_gt Fa
      obtain ⟨T13a, ⟨T13b, T13c, T13d⟩, T13x, T13y, T13z⟩ := id T13
      have T13l1 := Nat.ne_of_lt T13a
      have T13l2 := Nat.ne_of_gt T13a
      clear C2 P
      clear Za Zb Zc Zd Zx Zy Zz Zl1 Zl2 Fa Fb Fc Fd Fx Fy Fz Fl1 Fl2 T13a T13b T13c T13d T13x T13y T13z T13l1 T13l2
      have alT14 : Below w12.heap.size w12 (w12.alloc (.cells #[.bool s3, .slice avA ar.length cvA, .slice avA' br.length cvA'] 25)) := old_alloc (Below.refl _ _) _
      have T14_ := Cel3.new w12 (.bool s3) (.slice avA ar.length cvA) (.slice avA' br.length cvA') 25
      have T14g := B.size
      replace R := R.old alT14
      replace B := B.trans (But.of alT14)
      replace Z := Z.old alT14
      replace F := F.old alT14
      replace T13 := T13.old alT14
      replace X := X.later alT14
      replace X' := X'.later alT14
      replace G := G.later alT14
      replace G' := G'.later alT14
      replace A := A.later alT14
      replace A' := A'.later alT14
      have T14 := T14_
      clear T14_ alT14
      obtain ⟨Za, ⟨Zb, Zc, Zd⟩, Zx, Zy, Zz⟩ := id Z
      have Zl1 := Nat.ne_of_lt Za
      have Zl2 := Nat.ne_of_gt Za
      obtain ⟨Fa, ⟨Fb, Fc, Fd⟩, Fx, Fy, Fz⟩ := id F
      have Fl1 := Nat.ne_of_lt Fa
      have Fl2 := Nat.ne_of_gt Fa
      obtain ⟨T13a, ⟨T13b, T13c, T13d⟩, T13x, T13y, T13z⟩ := id T13
      have T13l1 := Nat.ne_of_lt T13a
      have T13l2 := Nat.ne_of_gt T13a
      obtain ⟨T14a, ⟨T14b, T14c, T14d⟩, T14x, T14y, T14z⟩ := id T14
      have T14l1 := Nat.ne_of_lt T14a
      have T14l2 := Nat.ne_of_gt T14a
      go_wp2_with fail
      refine ((sFracAdd _ _ _ _ _ _ _ _ _ _ _ _ _ _ _ _ _ _ _ G.inI G'.inI A.inI A'.inI).mono fun e w' h => (⟨h.1.fr2, h.2⟩ : _ ∧ _)).mono ?_
      rintro e w13 ⟨⟨ok4, s4, avY, cvY, us, avY', cvY', vs, rfl, Y, Y'⟩, hb13⟩
      clear Za Zb Zc Zd Zx Zy Zz Zl1 Zl2 Fa Fb Fc Fd Fx Fy Fz Fl1 Fl2 T13a T13b T13c T13d T13x T13y T13z T13l1 T13l2 T14a T14b T14c T14d T14x T14y T14z T14l1 T14l2
      have sz := Nat.lt_of_lt_of_le Z.1 (Nat.le_refl _)
      have sF := F.1
      have Ys : ∀ q, avY = some q → q.block ≠ pF := fun q e => by have := Y.ge q e; omega
      have Y's : ∀ q, avY' = some q → q.block ≠ pF := fun q e => by have := Y'.ge q e; omega
      clear sF
      replace R := R.old hb13
      replace B := B.trans (But.of hb13)
      replace Z := Z.old hb13
      replace F := F.old hb13
      replace T13 := T13.old hb13
      replace T14 := T14.old hb13
      replace X := X.later hb13
      replace X' := X'.later hb13
      replace G := G.later hb13
      replace G' := G'.later hb13
      replace A := A.later hb13
      replace A' := A'.later hb13
      replace Y := Y.mono (base' := w.heap.size + 1) (by first | exact sz | (simp at sz; omega) | omega)
      replace Y' := Y'.mono (base' := w.heap.size + 1) (by first | exact sz | (simp at sz; omega) | omega)
      clear sz
      clear hb13
      obtain ⟨Za, ⟨Zb, Zc, Zd⟩, Zx, Zy, Zz⟩ := id Z
      have Zl1 := Nat.ne_of_lt Za
      have Zl2 := Nat.ne_of_gt Za
      obtain ⟨Fa, ⟨Fb, Fc, Fd⟩, Fx, Fy, Fz⟩ := id F
      have Fl1 := Nat.ne_of_lt Fa
      have Fl2 := Nat.ne_of_gt Fa
      obtain ⟨T13a, ⟨T13b, T13c, T13d⟩, T13x, T13y, T13z⟩ := id T13
      have T13l1 := Nat.ne_of_lt T13a
      have T13l2 := Nat.ne_of_gt T13a
      obtain ⟨T14a, ⟨T14b, T14c, T14d⟩, T14x, T14y, T14z⟩ := id T14
      have T14l1 := Nat.ne_of_lt T14a
      have T14l2 := Nat.ne_of_gt T14a
      clear A A' G G'
      clear Za Zb Zc Zd Zx Zy Zz Zl1 Zl2 Fa Fb Fc Fd Fx Fy Fz Fl1 Fl2 T13a T13b T13c T13d T13x T13y T13z T13l1 T13l2 T14a T14b T14c T14d T14x T14y T14z T14l1 T14l2
      have alT15 : Below w13.heap.size w13 (w13.alloc (.cells #[.bool s4, .slice avY us.length cvY, .slice avY' vs.length cvY'] 25)) := old_alloc (Below.refl _ _) _
      have T15_ := Cel3.new w13 (.bool s4) (.slice avY us.length cvY) (.slice avY' vs.length cvY') 25
      have T15g := B.size
      replace R := R.old alT15
      replace B := B.trans (But.of alT15)
      replace Z := Z.old alT15
      replace F := F.old alT15
      replace T13 := T13.old alT15
      replace T14 := T14.old alT15
      replace X := X.later alT15
      replace X' := X'.later alT15
      replace Y := Y.later alT15
      replace Y' := Y'.later alT15
      have T15 := T15_
      clear T15_ alT15
      cases ok4
      · skip
        obtain ⟨Za, ⟨Zb, Zc, Zd⟩, Zx, Zy, Zz⟩ := id Z
        have Zl1 := Nat.ne_of_lt Za
        have Zl2 := Nat.ne_of_gt Za
        obtain ⟨Fa, ⟨Fb, Fc, Fd⟩, Fx, Fy, Fz⟩ := id F
        have Fl1 := Nat.ne_of_lt Fa
        have Fl2 := Nat.ne_of_gt Fa
        obtain ⟨T13a, ⟨T13b, T13c, T13d⟩, T13x, T13y, T13z⟩ := id T13
        have T13l1 := Nat.ne_of_lt T13a
        have T13l2 := Nat.ne_of_gt T13a
        obtain ⟨T14a, ⟨T14b, T14c, T14d⟩, T14x, T14y, T14z⟩ := id T14
        have T14l1 := Nat.ne_of_lt T14a
        have T14l2 := Nat.ne_of_gt T14a
        obtain ⟨T15a, ⟨T15b, T15c, T15d⟩, T15x, T15y, T15z⟩ := id T15
        have T15l1 := Nat.ne_of_lt T15a
        have T15l2 := Nat.ne_of_gt T15a
        go_wp2_with fail
        refine (pick_k rb k _ _ (R.mono (by omega)) (by decide)).mono ?_
        rintro e w14 ⟨⟨u, ⟨u1, u2⟩, rfl⟩, R', hB'⟩
        clear Za Zb Zc Zd Zx Zy Zz Zl1 Zl2 Fa Fb Fc Fd Fx Fy Fz Fl1 Fl2 T13a T13b T13c T13d T13x T13y T13z T13l1 T13l2 T14a T14b T14c T14d T14x T14y T14z T14l1 T14l2 T15a T15b T15c T15d T15x T15y T15z T15l1 T15l2
        replace Z := Z.but hB' (by omega)
        replace F := F.but hB' (by omega)
        replace T13 := T13.but hB' (by omega)
        replace T14 := T14.but hB' (by omega)
        replace T15 := T15.but hB' (by omega)
        replace X := X.but hB' (by omega)
        replace X' := X'.but hB' (by omega)
        replace Y := Y.but hB' (by omega)
        replace Y' := Y'.but hB' (by omega)
        replace R := R'
        replace B := B.trans hB'
        clear hB' 
        obtain ⟨Za, ⟨Zb, Zc, Zd⟩, Zx, Zy, Zz⟩ := id Z
        have Zl1 := Nat.ne_of_lt Za
        have Zl2 := Nat.ne_of_gt Za
        obtain ⟨Fa, ⟨Fb, Fc, Fd⟩, Fx, Fy, Fz⟩ := id F
        have Fl1 := Nat.ne_of_lt Fa
        have Fl2 := Nat.ne_of_gt Fa
        obtain ⟨T13a, ⟨T13b, T13c, T13d⟩, T13x, T13y, T13z⟩ := id T13
        have T13l1 := Nat.ne_of_lt T13a
        have T13l2 := Nat.ne_of_gt T13a
        obtain ⟨T14a, ⟨T14b, T14c, T14d⟩, T14x, T14y, T14z⟩ := id T14
        have T14l1 := Nat.ne_of_lt T14a
        have T14l2 := Nat.ne_of_gt T14a
        obtain ⟨T15a, ⟨T15b, T15c, T15d⟩, T15x, T15y, T15z⟩ := id T15
        have T15l1 := Nat.ne_of_lt T15a
        have T15l2 := Nat.ne_of_gt T15a
        have nF := hpF
        by_cases hu : u = 0
        · subst hu
          have F2 := F.set2 (.slice none 0 0)
          have Z2 : Cel3 (w14.setCell ⟨pF, 2, none⟩ (.slice none 0 0)) w.heap.size (.bool false) (.slice none 0 0) (.slice none 0 0) := Z.far (Nat.ne_of_lt nF)
          have R2 : Rk (w14.setCell ⟨pF, 2, none⟩ (.slice none 0 0)) rb k := R.far pF 2 (by omega) _
          have B2 : But rb w (w14.setCell ⟨pF, 2, none⟩ (.slice none 0 0)) := B.far (p := ⟨pF, 2, none⟩) (by simp; omega) _
          have X2 : OI (w14.setCell ⟨pF, 2, none⟩ (.slice none 0 0)) (w.heap.size + 1) avX cvX xs := X.other (c := pF) Xs 2 _
          have sx : ∀ q, avX = some q → q.block ≠ w.heap.size := fun q e => by have := X2.ge q e; omega
          go_wp2
          exact bodyPost_ret (resFr (Z2.setAll (.bool s) (.slice avX xs.length cvX) (.slice none 0 0)) rfl) rfl ⟨⟨s, avX, cvX, xs, none, 0, [], rfl, (((X2.other (c := w.heap.size) sx 0 _).other (c := w.heap.size) sx 1 _).other (c := w.heap.size) sx 2 _).mono (by omega), OI.none _ _⟩, ((R2.far _ 0 hrb _).far _ 1 hrb _).far _ 2 hrb _, ((B2.far (p := ⟨w.heap.size, 0, none⟩) (by simp) _).far (p := ⟨w.heap.size, 1, none⟩) (by simp) _).far (p := ⟨w.heap.size, 2, none⟩) (by simp) _⟩
        · have hu' : (u == 0) = false := beq_eq_false_iff_ne.2 hu
          have F2 := F
          have Z2 : Cel3 w14 w.heap.size (.bool false) (.slice none 0 0) (.slice none 0 0) := Z
          have R2 : Rk w14 rb k := R
          have B2 : But rb w w14 := B
          have X2 : OI w14 (w.heap.size + 1) avX cvX xs := X
          have Y2 : OI w14 (w.heap.size + 1) avX' cvX' ys := X'
          have sx : ∀ q, avX = some q → q.block ≠ w.heap.size := fun q e => by have := X2.ge q e; omega
          have sy : ∀ q, avX' = some q → q.block ≠ w.heap.size := fun q e => by have := Y2.ge q e; omega
          go_wp2
          exact bodyPost_ret (resFr (Z2.setAll (.bool s) (.slice avX xs.length cvX) (.slice avX' ys.length cvX')) rfl) rfl ⟨⟨s, avX, cvX, xs, avX', cvX', ys, rfl, (((X2.other (c := w.heap.size) sx 0 _).other (c := w.heap.size) sx 1 _).other (c := w.heap.size) sx 2 _).mono (by omega), (((Y2.other (c := w.heap.size) sy 0 _).other (c := w.heap.size) sy 1 _).other (c := w.heap.size) sy 2 _).mono (by omega)⟩, ((R2.far _ 0 hrb _).far _ 1 hrb _).far _ 2 hrb _, ((B2.far (p := ⟨w.heap.size, 0, none⟩) (by simp) _).far (p := ⟨w.heap.size, 1, none⟩) (by simp) _).far (p := ⟨w.heap.size, 2, none⟩) (by simp) _⟩
      · skip
        have sF := F.1
        have nF : w.heap.size < pF := hpF
        obtain ⟨Za, ⟨Zb, Zc, Zd⟩, Zx, Zy, Zz⟩ := id Z
        have Zl1 := Nat.ne_of_lt Za
        have Zl2 := Nat.ne_of_gt Za
        obtain ⟨Fa, ⟨Fb, Fc, Fd⟩, Fx, Fy, Fz⟩ := id F
        have Fl1 := Nat.ne_of_lt Fa
        have Fl2 := Nat.ne_of_gt Fa
        obtain ⟨T13a, ⟨T13b, T13c, T13d⟩, T13x, T13y, T13z⟩ := id T13
        have T13l1 := Nat.ne_of_lt T13a
        have T13l2 := Nat.ne_of_gt T13a
        obtain ⟨T14a, ⟨T14b, T14c, T14d⟩, T14x, T14y, T14z⟩ := id T14
        have T14l1 := Nat.ne_of_lt T14a
        have T14l2 := Nat.ne_of_gt T14a
        obtain ⟨T15a, ⟨T15b, T15c, T15d⟩, T15x, T15y, T15z⟩ := id T15
        have T15l1 := Nat.ne_of_lt T15a
        have T15l2 := Nat.ne_of_gt T15a
        go_upto_region 24 with fail
        clear Za Zb Zc Zd Zx Zy Zz Zl1 Zl2 Fa Fb Fc Fd Fx Fy Fz Fl1 Fl2 T13a T13b T13c T13d T13x T13y T13z T13l1 T13l2 T14a T14b T14c T14d T14x T14y T14z T14l1 T14l2 T15a T15b T15c T15d T15x T15y T15z T15l1 T15l2
        have R2 := ((R.far pF 0 (by omega) (.bool s4)).far pF 1 (by omega) (.slice avY us.length cvY)).far pF 2 (by omega) (.slice avY' vs.length cvY')
        have B2 := ((B.far (p := ⟨pF, 0, none⟩) (by simp; omega) (.bool s4)).far (p := ⟨pF, 1, none⟩) (by simp; omega) (.slice avY us.length cvY)).far (p := ⟨pF, 2, none⟩) (by simp; omega) (.slice avY' vs.length cvY')
        have F2 := F.setAll (.bool s4) (.slice avY us.length cvY) (.slice avY' vs.length cvY')
        have Z2 : Cel3 ((((w13.alloc (.cells #[.bool s4, .slice avY us.length cvY, .slice avY' vs.length cvY'] 25)).setCell ⟨pF, 0, none⟩ (.bool s4)).setCell ⟨pF, 1, none⟩ (.slice avY us.length cvY)).setCell ⟨pF, 2, none⟩ (.slice avY' vs.length cvY')) w.heap.size (.bool false) (.slice none 0 0) (.slice none 0 0) := (((Z.far (i := 0) (v := .bool s4) (Nat.ne_of_lt nF)).far (i := 1) (v := .slice avY us.length cvY) (Nat.ne_of_lt nF)).far (i := 2) (v := .slice avY' vs.length cvY') (Nat.ne_of_lt nF))
        have Y2 := ((Y.other (c := pF) Ys 0 (.bool s4)).other (c := pF) Ys 1 (.slice avY us.length cvY)).other (c := pF) Ys 2 (.slice avY' vs.length cvY')
        have Y'2 := ((Y'.other (c := pF) Y's 0 (.bool s4)).other (c := pF) Y's 1 (.slice avY us.length cvY)).other (c := pF) Y's 2 (.slice avY' vs.length cvY')
        clear R B F Z Y Y'
        generalize ((((w13.alloc (.cells #[.bool s4, .slice avY us.length cvY, .slice avY' vs.length cvY'] 25)).setCell ⟨pF, 0, none⟩ (.bool s4)).setCell ⟨pF, 1, none⟩ (.slice avY us.length cvY)).setCell ⟨pF, 2, none⟩ (.slice avY' vs.length cvY')) = Wf at *
        have R := R2
        clear R2
        have B := B2
        clear B2
        have F := F2
        clear F2
        have Z := Z2
        clear Z2
        have Y := Y2
        clear Y2
        have Y' := Y'2
        clear Y'2
        obtain ⟨Za, ⟨Zb, Zc, Zd⟩, Zx, Zy, Zz⟩ := id Z
        have Zl1 := Nat.ne_of_lt Za
        have Zl2 := Nat.ne_of_gt Za
        obtain ⟨Fa, ⟨Fb, Fc, Fd⟩, Fx, Fy, Fz⟩ := id F
        have Fl1 := Nat.ne_of_lt Fa
        have Fl2 := Nat.ne_of_gt Fa
        go_wp2_with fail
        refine (pick_k rb k _ _ (R.mono (by omega)) (by decide)).mono ?_
        rintro e w14 ⟨⟨u, ⟨u1, u2⟩, rfl⟩, R', hB'⟩
        clear Za Zb Zc Zd Zx Zy Zz Zl1 Zl2 Fa Fb Fc Fd Fx Fy Fz Fl1 Fl2
        replace Z := Z.but hB' (by omega)
        replace F := F.but hB' (by omega)
        replace Y := Y.but hB' (by omega)
        replace Y' := Y'.but hB' (by omega)
        replace R := R'
        replace B := B.trans hB'
        clear hB' 
        obtain ⟨Za, ⟨Zb, Zc, Zd⟩, Zx, Zy, Zz⟩ := id Z
        have Zl1 := Nat.ne_of_lt Za
        have Zl2 := Nat.ne_of_gt Za
        obtain ⟨Fa, ⟨Fb, Fc, Fd⟩, Fx, Fy, Fz⟩ := id F
        have Fl1 := Nat.ne_of_lt Fa
        have Fl2 := Nat.ne_of_gt Fa
        have nF := hpF
        by_cases hu : u = 0
        · subst hu
          have F2 := F.set2 (.slice none 0 0)
          have Z2 : Cel3 (w14.setCell ⟨pF, 2, none⟩ (.slice none 0 0)) w.heap.size (.bool false) (.slice none 0 0) (.slice none 0 0) := Z.far (Nat.ne_of_lt nF)
          have R2 : Rk (w14.setCell ⟨pF, 2, none⟩ (.slice none 0 0)) rb k := R.far pF 2 (by omega) _
          have B2 : But rb w (w14.setCell ⟨pF, 2, none⟩ (.slice none 0 0)) := B.far (p := ⟨pF, 2, none⟩) (by simp; omega) _
          have X2 : OI (w14.setCell ⟨pF, 2, none⟩ (.slice none 0 0)) (w.heap.size + 1) avY cvY us := Y.other (c := pF) Ys 2 _
          have sx : ∀ q, avY = some q → q.block ≠ w.heap.size := fun q e => by have := X2.ge q e; omega
          go_wp2
          exact bodyPost_ret (resFr (Z2.setAll (.bool s4) (.slice avY us.length cvY) (.slice none 0 0)) rfl) rfl ⟨⟨s4, avY, cvY, us, none, 0, [], rfl, (((X2.other (c := w.heap.size) sx 0 _).other (c := w.heap.size) sx 1 _).other (c := w.heap.size) sx 2 _).mono (by omega), OI.none _ _⟩, ((R2.far _ 0 hrb _).far _ 1 hrb _).far _ 2 hrb _, ((B2.far (p := ⟨w.heap.size, 0, none⟩) (by simp) _).far (p := ⟨w.heap.size, 1, none⟩) (by simp) _).far (p := ⟨w.heap.size, 2, none⟩) (by simp) _⟩
        · have hu' : (u == 0) = false := beq_eq_false_iff_ne.2 hu
          have F2 := F
          have Z2 : Cel3 w14 w.heap.size (.bool false) (.slice none 0 0) (.slice none 0 0) := Z
          have R2 : Rk w14 rb k := R
          have B2 : But rb w w14 := B
          have X2 : OI w14 (w.heap.size + 1) avY cvY us := Y
          have Y2 : OI w14 (w.heap.size + 1) avY' cvY' vs := Y'
          have sx : ∀ q, avY = some q → q.block ≠ w.heap.size := fun q e => by have := X2.ge q e; omega
          have sy : ∀ q, avY' = some q → q.block ≠ w.heap.size := fun q e => by have := Y2.ge q e; omega
          go_wp2
          exact bodyPost_ret (resFr (Z2.setAll (.bool s4) (.slice avY us.length cvY) (.slice avY' vs.length cvY')) rfl) rfl ⟨⟨s4, avY, cvY, us, avY', cvY', vs, rfl, (((X2.other (c := w.heap.size) sx 0 _).other (c := w.heap.size) sx 1 _).other (c := w.heap.size) sx 2 _).mono (by omega), (((Y2.other (c := w.heap.size) sy 0 _).other (c := w.heap.size) sy 1 _).other (c := w.heap.size) sy 2 _).mono (by omega)⟩, ((R2.far _ 0 hrb _).far _ 1 hrb _).far _ 2 hrb _, ((B2.far (p := ⟨w.heap.size, 0, none⟩) (by simp) _).far (p := ⟨w.heap.size, 1, none⟩) (by simp) _).far (p := ⟨w.heap.size, 2, none⟩) (by simp) _⟩
  have hq2' : (q == 2) = false := beq_eq_false_iff_ne.2 hq2
  by_cases hq3 : q = 3
  · subst hq3
    obtain ⟨Za, ⟨Zb, Zc, Zd⟩, Zx, Zy, Zz⟩ := id Z
    have Zl1 := Nat.ne_of_lt Za
    have Zl2 := Nat.ne_of_gt Za
    obtain ⟨Fa, ⟨Fb, Fc, Fd⟩, Fx, Fy, Fz⟩ := id F
    have Fl1 := Nat.ne_of_lt Fa
    have Fl2 := Nat.ne_of_gt Fa
    clear Za Zb Zc Zd Zx Zy Zz Zl1 Zl2 Fa Fb Fc Fd Fx Fy Fz Fl1 Fl2
    have hS0 : W3.cell? ⟨pF, 0, none⟩ = some (.bool s) ∧ W3.cell? ⟨pF, 1, none⟩ = some (.slice avX xs.length cvX) ∧ W3.cell? ⟨pF, 2, none⟩ = some (.slice avX' ys.length cvX') := F.2.1
    have lF := F.1
    obtain ⟨u01, u02, u03, u04⟩ := nes lF
    have hRl := R.lt
    have XE := OE.of X (show rb < w.heap.size + 1 by omega)
    have XE' := OE.of X' (show rb < w.heap.size + 1 by omega)
    have rF : pF ≠ rb := by omega
    have PK := hd (fun (w' : World) (hS : w'.cell? ⟨pF, 0, none⟩ = some (.bool s) ∧ w'.cell? ⟨pF, 1, none⟩ = some (.slice avX xs.length cvX) ∧ w'.cell? ⟨pF, 2, none⟩ = some (.slice avX' ys.length cvX')) (hR : Rk w' rb (k + 26)) => (pick_k rb (k + 25) 1200 w' hR (by decide)).mono (fun e w'' h => (⟨h, cells_but hS h.2.2 rF⟩ : (_ ∧ _) ∧ (w''.cell? ⟨pF, 0, none⟩ = some (.bool s) ∧ w''.cell? ⟨pF, 1, none⟩ = some (.slice avX xs.length cvX) ∧ w''.cell? ⟨pF, 2, none⟩ = some (.slice avX' ys.length cvX')))))
    have PW := hd (fun (m : Nat) (hm : m ≤ 5000) (w' : World) (hS : w'.cell? ⟨pF, 0, none⟩ = some (.bool s) ∧ w'.cell? ⟨pF, 1, none⟩ = some (.slice avX xs.length cvX) ∧ w'.cell? ⟨pF, 2, none⟩ = some (.slice avX' ys.length cvX')) => (SP.out m hm w').mono (fun e w'' (h : _ ∧ _) => (⟨h, cells_old hS h.2⟩ : (_ ∧ _) ∧ (w''.cell? ⟨pF, 0, none⟩ = some (.bool s) ∧ w''.cell? ⟨pF, 1, none⟩ = some (.slice avX xs.length cvX) ∧ w''.cell? ⟨pF, 2, none⟩ = some (.slice avX' ys.length cvX')))))
    have FM := hd (fun (p q : Option Addr) (cp cq : Nat) (us vs : List Int) (w' : World) (hS : w'.cell? ⟨pF, 0, none⟩ = some (.bool s) ∧ w'.cell? ⟨pF, 1, none⟩ = some (.slice avX xs.length cvX) ∧ w'.cell? ⟨pF, 2, none⟩ = some (.slice avX' ys.length cvX')) (hX : InI w' avX xs.length cvX xs) (hX' : InI w' avX' ys.length cvX' ys) (h1 : InI w' p us.length cp us) (h2 : InI w' q vs.length cq vs) => (sFracMul s avX avX' _ _ _ _ xs ys false p q _ _ _ _ us vs w' hX hX' h1 h2).mono (fun e w'' (h : _ ∧ _) => (⟨⟨h.1.fr2, h.2⟩, cells_old hS h.2⟩ : (_ ∧ _) ∧ (w''.cell? ⟨pF, 0, none⟩ = some (.bool s) ∧ w''.cell? ⟨pF, 1, none⟩ = some (.slice avX xs.length cvX) ∧ w''.cell? ⟨pF, 2, none⟩ = some (.slice avX' ys.length cvX')))))
    go_upto_region 21 with fail
    go_cut [17, 18] (fun s t wx => ∃ pb r s4 avY cvY us avY' cvY' vs, s = .pointer (some ⟨pb, 0, none⟩) ∧ t = .bool r ∧ Cel3 wx pb (.bool s4) (.slice avY us.length cvY) (.slice avY' vs.length cvY') ∧ OI wx W3.heap.size avY cvY us ∧ OI wx W3.heap.size avY' cvY' vs ∧ Rk wx rb (k + 25) ∧ But rb W3 wx)
    case first =>
      go_wp2_with fail
      go_region_held3 (fun w' => w'.cell? ⟨pF, 0, none⟩ = some (.bool s) ∧ w'.cell? ⟨pF, 1, none⟩ = some (.slice avX xs.length cvX) ∧ w'.cell? ⟨pF, 2, none⟩ = some (.slice avX' ys.length cvX')) (go_keep) (first | (go_at_call 24; refine (PK.out _ (by assumption) (by with_reducible first | exact R | exact R.dr | exact R.alloc _ | exact (R.alloc _).dr | exact (R.alloc _).alloc _ | exact ((R.alloc _).alloc _).dr | exact (R.dr.alloc _).dr | exact (R.dr.alloc _).alloc _ | exact ((R.dr.alloc _).dr.alloc _).dr | exact R.dr.alloc _)).mono ?_; rintro e wx1 ⟨⟨⟨v, ⟨v1, v2⟩, rfl⟩, R1, hb1⟩, hcx⟩; obtain ⟨vn, rfl⟩ : ∃ m : Nat, v = (m : Int) := ⟨v.toNat, by omega⟩; have hvn : vn ≤ 5000 := (by omega); have z1 := hb1.size; (try simp only [World.size_alloc] at z1); obtain ⟨u11, u12, u13, u14⟩ := nes (cell_lt hcx.1); (with_reducible first | (have N := N.but hb1 (Nat.ne_of_gt (Rk.lt (k := k + 26) (by with_reducible first | exact R | exact R.dr | exact R.alloc _ | exact (R.alloc _).dr | exact (R.alloc _).alloc _ | exact ((R.alloc _).alloc _).dr | exact (R.dr.alloc _).dr | exact (R.dr.alloc _).alloc _ | exact ((R.dr.alloc _).dr.alloc _).dr | exact R.dr.alloc _)))) | (have N := N.drew.but hb1 (Nat.ne_of_gt (Rk.lt (k := k + 26) (by with_reducible first | exact R | exact R.dr | exact R.alloc _ | exact (R.alloc _).dr | exact (R.alloc _).alloc _ | exact ((R.alloc _).alloc _).dr | exact (R.dr.alloc _).dr | exact (R.dr.alloc _).alloc _ | exact ((R.dr.alloc _).dr.alloc _).dr | exact R.dr.alloc _)))) | (have N := (cel3_alloc N _).but hb1 (Nat.ne_of_gt (Rk.lt (k := k + 26) (by with_reducible first | exact R | exact R.dr | exact R.alloc _ | exact (R.alloc _).dr | exact (R.alloc _).alloc _ | exact ((R.alloc _).alloc _).dr | exact (R.dr.alloc _).dr | exact (R.dr.alloc _).alloc _ | exact ((R.dr.alloc _).dr.alloc _).dr | exact R.dr.alloc _)))) | (have N := (cel3_alloc N _).drew.but hb1 (Nat.ne_of_gt (Rk.lt (k := k + 26) (by with_reducible first | exact R | exact R.dr | exact R.alloc _ | exact (R.alloc _).dr | exact (R.alloc _).alloc _ | exact ((R.alloc _).alloc _).dr | exact (R.dr.alloc _).dr | exact (R.dr.alloc _).alloc _ | exact ((R.dr.alloc _).dr.alloc _).dr | exact R.dr.alloc _)))) | (have N := (cel3_alloc N.drew _).but hb1 (Nat.ne_of_gt (Rk.lt (k := k + 26) (by with_reducible first | exact R | exact R.dr | exact R.alloc _ | exact (R.alloc _).dr | exact (R.alloc _).alloc _ | exact ((R.alloc _).alloc _).dr | exact (R.dr.alloc _).dr | exact (R.dr.alloc _).alloc _ | exact ((R.dr.alloc _).dr.alloc _).dr | exact R.dr.alloc _)))) | (have N := (cel3_alloc N.drew _).drew.but hb1 (Nat.ne_of_gt (Rk.lt (k := k + 26) (by with_reducible first | exact R | exact R.dr | exact R.alloc _ | exact (R.alloc _).dr | exact (R.alloc _).alloc _ | exact ((R.alloc _).alloc _).dr | exact (R.dr.alloc _).dr | exact (R.dr.alloc _).alloc _ | exact ((R.dr.alloc _).dr.alloc _).dr | exact R.dr.alloc _)))) | (have N := (Cel3.new _ (.bool false) (.slice none 0 0) (.slice none 0 0) _).but hb1 (Nat.ne_of_gt (Rk.lt (k := k + 26) (by with_reducible first | exact R | exact R.dr | exact R.alloc _ | exact (R.alloc _).dr | exact (R.alloc _).alloc _ | exact ((R.alloc _).alloc _).dr | exact (R.dr.alloc _).dr | exact (R.dr.alloc _).alloc _ | exact ((R.dr.alloc _).dr.alloc _).dr | exact R.dr.alloc _)))) | (have N := (Cel3.new _ (.bool false) (.slice none 0 0) (.slice none 0 0) _).drew.but hb1 (Nat.ne_of_gt (Rk.lt (k := k + 26) (by with_reducible first | exact R | exact R.dr | exact R.alloc _ | exact (R.alloc _).dr | exact (R.alloc _).alloc _ | exact ((R.alloc _).alloc _).dr | exact (R.dr.alloc _).dr | exact (R.dr.alloc _).alloc _ | exact ((R.dr.alloc _).dr.alloc _).dr | exact R.dr.alloc _)))) | (have N := (cel3_alloc (Cel3.new _ (.bool false) (.slice none 0 0) (.slice none 0 0) _) _).but hb1 (Nat.ne_of_gt (Rk.lt (k := k + 26) (by with_reducible first | exact R | exact R.dr | exact R.alloc _ | exact (R.alloc _).dr | exact (R.alloc _).alloc _ | exact ((R.alloc _).alloc _).dr | exact (R.dr.alloc _).dr | exact (R.dr.alloc _).alloc _ | exact ((R.dr.alloc _).dr.alloc _).dr | exact R.dr.alloc _)))) | (have N := (cel3_alloc (Cel3.new _ (.bool false) (.slice none 0 0) (.slice none 0 0) _) _).drew.but hb1 (Nat.ne_of_gt (Rk.lt (k := k + 26) (by with_reducible first | exact R | exact R.dr | exact R.alloc _ | exact (R.alloc _).dr | exact (R.alloc _).alloc _ | exact ((R.alloc _).alloc _).dr | exact (R.dr.alloc _).dr | exact (R.dr.alloc _).alloc _ | exact ((R.dr.alloc _).dr.alloc _).dr | exact R.dr.alloc _)))) | (have N := (cel3_alloc (Cel3.new _ (.bool false) (.slice none 0 0) (.slice none 0 0) _).drew _).but hb1 (Nat.ne_of_gt (Rk.lt (k := k + 26) (by with_reducible first | exact R | exact R.dr | exact R.alloc _ | exact (R.alloc _).dr | exact (R.alloc _).alloc _ | exact ((R.alloc _).alloc _).dr | exact (R.dr.alloc _).dr | exact (R.dr.alloc _).alloc _ | exact ((R.dr.alloc _).dr.alloc _).dr | exact R.dr.alloc _)))) | (have N := (cel3_alloc (Cel3.new _ (.bool false) (.slice none 0 0) (.slice none 0 0) _).drew _).drew.but hb1 (Nat.ne_of_gt (Rk.lt (k := k + 26) (by with_reducible first | exact R | exact R.dr | exact R.alloc _ | exact (R.alloc _).dr | exact (R.alloc _).alloc _ | exact ((R.alloc _).alloc _).dr | exact (R.dr.alloc _).dr | exact (R.dr.alloc _).alloc _ | exact ((R.dr.alloc _).dr.alloc _).dr | exact R.dr.alloc _)))) | skip)) | (go_at_call 57; refine (PW.out _ hvn _ (by assumption)).mono ?_; rintro e wx2 ⟨⟨⟨avP, cvP, rfl, P⟩, hb2⟩, hcx⟩; have z2 := hb2.size; (try simp only [World.size_alloc] at z2); have PE := OE.of (rb := rb) P (by first | exact hRl | (have q := R1.lt; first | exact q | omega | (simp; omega)) | (simp; omega)); obtain ⟨u21, u22, u23, u24⟩ := nes (cell_lt hcx.1); (with_reducible first | (have N := N.old hb2) | (have N := N.drew.old hb2) | (have N := (cel3_alloc N _).old hb2) | (have N := (cel3_alloc N _).drew.old hb2) | (have N := (cel3_alloc N.drew _).old hb2) | (have N := (cel3_alloc N.drew _).drew.old hb2) | (have N := (Cel3.new _ (.bool false) (.slice none 0 0) (.slice none 0 0) _).old hb2) | (have N := (Cel3.new _ (.bool false) (.slice none 0 0) (.slice none 0 0) _).drew.old hb2) | (have N := (cel3_alloc (Cel3.new _ (.bool false) (.slice none 0 0) (.slice none 0 0) _) _).old hb2) | (have N := (cel3_alloc (Cel3.new _ (.bool false) (.slice none 0 0) (.slice none 0 0) _) _).drew.old hb2) | (have N := (cel3_alloc (Cel3.new _ (.bool false) (.slice none 0 0) (.slice none 0 0) _).drew _).old hb2) | (have N := (cel3_alloc (Cel3.new _ (.bool false) (.slice none 0 0) (.slice none 0 0) _).drew _).drew.old hb2) | skip)) | (go_at_call 29; refine (FM.out _ _ _ _ _ [1] _ (by assumption) (by refine OE.inI (rb := rb) ?_; (repeat (with_reducible first | exact XE | exact XE' | exact PE | refine OE.drew ?_ | refine OE.alloc ?_ _ | refine OE.later ?_ (by assumption) | refine OE.but ?_ (by assumption)))) (by refine OE.inI (rb := rb) ?_; (repeat (with_reducible first | exact XE | exact XE' | exact PE | refine OE.drew ?_ | refine OE.alloc ?_ _ | refine OE.later ?_ (by assumption) | refine OE.but ?_ (by assumption)))) (by refine OE.inI (rb := rb) ?_; repeat (with_reducible first | exact PE | refine OE.drew ?_ | (refine oneEb _ 1 _ _ (by first | rfl | (simp; done)) (by omega) ?_; exact (by first | exact hRl | (have q := R1.lt; first | exact q | omega | (simp; omega)) | (simp; omega))) | refine OE.alloc ?_ _ | refine OE.later ?_ (by assumption) | refine OE.but ?_ (by assumption))) (by refine OE.inI (rb := rb) ?_; repeat (with_reducible first | exact PE | refine OE.drew ?_ | (refine oneEb _ 1 _ _ (by first | rfl | (simp; done)) (by omega) ?_; exact (by first | exact hRl | (have q := R1.lt; first | exact q | omega | (simp; omega)) | (simp; omega))) | refine OE.alloc ?_ _ | refine OE.later ?_ (by assumption) | refine OE.but ?_ (by assumption)))).mono ?_; rintro e wx3 ⟨⟨⟨ok4, s4, avY, cvY, us, avY', cvY', vs, rfl, Y, Y'⟩, hb3⟩, hcx⟩; have z3 := hb3.size; (try simp only [World.size_alloc] at z3); have q0 := cell_lt hcx.1; have q1 := Nat.ne_of_lt q0; have q2 := Nat.ne_of_gt q0; have q3 := World.new_ne wx3 ⟨pF, 0, none⟩ hcx.1; have q4 := World.new_ne wx3 ⟨pF, 1, none⟩ hcx.2.1; have q5 := World.new_ne wx3 ⟨pF, 2, none⟩ hcx.2.2; (with_reducible first | (have N := N.old hb3) | (have N := N.drew.old hb3) | (have N := (cel3_alloc N _).old hb3) | (have N := (cel3_alloc N _).drew.old hb3) | (have N := (cel3_alloc N.drew _).old hb3) | (have N := (cel3_alloc N.drew _).drew.old hb3) | (have N := (Cel3.new _ (.bool false) (.slice none 0 0) (.slice none 0 0) _).old hb3) | (have N := (Cel3.new _ (.bool false) (.slice none 0 0) (.slice none 0 0) _).drew.old hb3) | (have N := (cel3_alloc (Cel3.new _ (.bool false) (.slice none 0 0) (.slice none 0 0) _) _).old hb3) | (have N := (cel3_alloc (Cel3.new _ (.bool false) (.slice none 0 0) (.slice none 0 0) _) _).drew.old hb3) | (have N := (cel3_alloc (Cel3.new _ (.bool false) (.slice none 0 0) (.slice none 0 0) _).drew _).old hb3) | (have N := (cel3_alloc (Cel3.new _ (.bool false) (.slice none 0 0) (.slice none 0 0) _).drew _).drew.old hb3) | skip); (try simp only [World.size_alloc] at N); (first | (have N0 := N.2.1.1; have N1 := N.2.1.2.1; have N2 := N.2.1.2.2; have N3 := N.2.2.1; have N4 := N.2.2.2.1; have N5 := N.2.2.2.2) | skip)))
      all_goals
        go_wp2_with fail
        go_meet
        (try simp only [World.size_drew] at z1)
        (try simp only [World.size_alloc] at z1)
        (try simp only [World.size_drew] at z1)
        (try simp only [World.size_drew] at z2)
        (try simp only [World.size_alloc] at z2)
        (try simp only [World.size_drew] at z2)
        (try simp only [World.size_drew] at z3)
        (try simp only [World.size_alloc] at z3)
        (try simp only [World.size_drew] at z3)
        have RZ : Rk wx3 rb (k + 25) := (by repeat (with_reducible first | exact R1 | refine Rk.dr ?_ | refine Rk.alloc ?_ _ | refine Rk.old ?_ (by assumption)))
        have BZ : But rb W3 wx3 := (by repeat (with_reducible first | exact But.refl _ _ | refine But.drew ?_ | refine But.alloc ?_ _ | refine But.oldB ?_ (by assumption) | refine But.trans ?_ (by assumption)))
        first | exact ⟨_, ok4, s4, avY, cvY, us, avY', cvY', vs, rfl, rfl, Cel3.new _ _ _ _ _, (Y.alloc _).mono (by first | exact Nat.le_refl _ | omega | (simp; done) | (simp; omega)), (Y'.alloc _).mono (by first | exact Nat.le_refl _ | omega | (simp; done) | (simp; omega)), RZ.alloc _, BZ.alloc _⟩ | exact ⟨_, ok4, s4, avY, cvY, us, avY', cvY', vs, rfl, rfl, N.setAll _ _ _, (((Y.other (fun q e => by have := Y.ge q e; (try simp only [World.size_alloc] at this); (try simp only [World.size_drew] at this); omega) 0 _).other (fun q e => by have := Y.ge q e; (try simp only [World.size_alloc] at this); (try simp only [World.size_drew] at this); omega) 1 _).other (fun q e => by have := Y.ge q e; (try simp only [World.size_alloc] at this); (try simp only [World.size_drew] at this); omega) 2 _).mono (by first | exact Nat.le_refl _ | omega | (simp; done) | (simp; omega)), (((Y'.other (fun q e => by have := Y'.ge q e; (try simp only [World.size_alloc] at this); (try simp only [World.size_drew] at this); omega) 0 _).other (fun q e => by have := Y'.ge q e; (try simp only [World.size_alloc] at this); (try simp only [World.size_drew] at this); omega) 1 _).other (fun q e => by have := Y'.ge q e; (try simp only [World.size_alloc] at this); (try simp only [World.size_drew] at this); omega) 2 _).mono (by first | exact Nat.le_refl _ | omega | (simp; done) | (simp; omega)), ((RZ.far _ 0 (by omega) _).far _ 1 (by omega) _).far _ 2 (by omega) _, ((BZ.far (p := ⟨_, 0, none⟩) (by first | exact Nat.le_refl _ | omega | (simp; done) | (simp; omega)) _).far (p := ⟨_, 1, none⟩) (by first | exact Nat.le_refl _ | omega | (simp; done) | (simp; omega)) _).far (p := ⟨_, 2, none⟩) (by first | exact Nat.le_refl _ | omega | (simp; done) | (simp; omega)) _⟩
    case rest =>
      obtain ⟨w21, hw21⟩ : ∃ x, x = wc := ⟨_, rfl⟩
      subst hw21
      obtain ⟨pbT, r, s4, avY, cvY, us, avY', cvY', vs, rfl, rfl, T15, Y, Y', R', hB'⟩ := hcut
      have sz3 := Z.1
      replace Z := Z.but hB' (by omega)
      replace F := F.but hB' (by omega)
      replace X := X.but hB' (by omega)
      replace X' := X'.but hB' (by omega)
      have Ys : ∀ q, avY = some q → q.block ≠ pF := fun q e => by have := Y.ge q e; omega
      have Y's : ∀ q, avY' = some q → q.block ≠ pF := fun q e => by have := Y'.ge q e; omega
      replace Y := Y.mono (base' := w.heap.size + 1) (by omega)
      replace Y' := Y'.mono (base' := w.heap.size + 1) (by omega)
      clear R
      have R := R'
      replace B := B.trans hB'
      clear R' hB' PK PW FM hS0 lF u01 u02 u03 u04 XE XE' rF sz3 hRl
      cases r
      · skip
        obtain ⟨Za, ⟨Zb, Zc, Zd⟩, Zx, Zy, Zz⟩ := id Z
        have Zl1 := Nat.ne_of_lt Za
        have Zl2 := Nat.ne_of_gt Za
        obtain ⟨Fa, ⟨Fb, Fc, Fd⟩, Fx, Fy, Fz⟩ := id F
        have Fl1 := Nat.ne_of_lt Fa
        have Fl2 := Nat.ne_of_gt Fa
        go_wp2_with fail
        refine (pick_k rb k _ _ (R.mono (by omega)) (by decide)).mono ?_
        rintro e w7 ⟨⟨u, ⟨u1, u2⟩, rfl⟩, R', hB'⟩
        clear Za Zb Zc Zd Zx Zy Zz Zl1 Zl2 Fa Fb Fc Fd Fx Fy Fz Fl1 Fl2
        replace Z := Z.but hB' (by omega)
        replace F := F.but hB' (by omega)
        replace X := X.but hB' (by omega)
        replace X' := X'.but hB' (by omega)
        replace Y := Y.but hB' (by omega)
        replace Y' := Y'.but hB' (by omega)
        replace R := R'
        replace B := B.trans hB'
        clear hB' 
        obtain ⟨Za, ⟨Zb, Zc, Zd⟩, Zx, Zy, Zz⟩ := id Z
        have Zl1 := Nat.ne_of_lt Za
        have Zl2 := Nat.ne_of_gt Za
        obtain ⟨Fa, ⟨Fb, Fc, Fd⟩, Fx, Fy, Fz⟩ := id F
        have Fl1 := Nat.ne_of_lt Fa
        have Fl2 := Nat.ne_of_gt Fa
        have nF := hpF
        by_cases hu : u = 0
        · subst hu
          have F2 := F.set2 (.slice none 0 0)
          have Z2 : Cel3 (w7.setCell ⟨pF, 2, none⟩ (.slice none 0 0)) w.heap.size (.bool false) (.slice none 0 0) (.slice none 0 0) := Z.far (Nat.ne_of_lt nF)
          have R2 : Rk (w7.setCell ⟨pF, 2, none⟩ (.slice none 0 0)) rb k := R.far pF 2 (by omega) _
          have B2 : But rb w (w7.setCell ⟨pF, 2, none⟩ (.slice none 0 0)) := B.far (p := ⟨pF, 2, none⟩) (by simp; omega) _
          have X2 : OI (w7.setCell ⟨pF, 2, none⟩ (.slice none 0 0)) (w.heap.size + 1) avX cvX xs := X.other (c := pF) Xs 2 _
          have sx : ∀ q, avX = some q → q.block ≠ w.heap.size := fun q e => by have := X2.ge q e; omega
          go_wp2
          exact bodyPost_ret (resFr (Z2.setAll (.bool s) (.slice avX xs.length cvX) (.slice none 0 0)) rfl) rfl ⟨⟨s, avX, cvX, xs, none, 0, [], rfl, (((X2.other (c := w.heap.size) sx 0 _).other (c := w.heap.size) sx 1 _).other (c := w.heap.size) sx 2 _).mono (by omega), OI.none _ _⟩, ((R2.far _ 0 hrb _).far _ 1 hrb _).far _ 2 hrb _, ((B2.far (p := ⟨w.heap.size, 0, none⟩) (by simp) _).far (p := ⟨w.heap.size, 1, none⟩) (by simp) _).far (p := ⟨w.heap.size, 2, none⟩) (by simp) _⟩
        · have hu' : (u == 0) = false := beq_eq_false_iff_ne.2 hu
          have F2 := F
          have Z2 : Cel3 w7 w.heap.size (.bool false) (.slice none 0 0) (.slice none 0 0) := Z
          have R2 : Rk w7 rb k := R
          have B2 : But rb w w7 := B
          have X2 : OI w7 (w.heap.size + 1) avX cvX xs := X
          have Y2 : OI w7 (w.heap.size + 1) avX' cvX' ys := X'
          have sx : ∀ q, avX = some q → q.block ≠ w.heap.size := fun q e => by have := X2.ge q e; omega
          have sy : ∀ q, avX' = some q → q.block ≠ w.heap.size := fun q e => by have := Y2.ge q e; omega
          go_wp2
          exact bodyPost_ret (resFr (Z2.setAll (.bool s) (.slice avX xs.length cvX) (.slice avX' ys.length cvX')) rfl) rfl ⟨⟨s, avX, cvX, xs, avX', cvX', ys, rfl, (((X2.other (c := w.heap.size) sx 0 _).other (c := w.heap.size) sx 1 _).other (c := w.heap.size) sx 2 _).mono (by omega), (((Y2.other (c := w.heap.size) sy 0 _).other (c := w.heap.size) sy 1 _).other (c := w.heap.size) sy 2 _).mono (by omega)⟩, ((R2.far _ 0 hrb _).far _ 1 hrb _).far _ 2 hrb _, ((B2.far (p := ⟨w.heap.size, 0, none⟩) (by simp) _).far (p := ⟨w.heap.size, 1, none⟩) (by simp) _).far (p := ⟨w.heap.size, 2, none⟩) (by simp) _⟩
      · skip
        have sF := F.1
        have nF : w.heap.size < pF := hpF
        obtain ⟨Za, ⟨Zb, Zc, Zd⟩, Zx, Zy, Zz⟩ := id Z
        have Zl1 := Nat.ne_of_lt Za
        have Zl2 := Nat.ne_of_gt Za
        obtain ⟨Fa, ⟨Fb, Fc, Fd⟩, Fx, Fy, Fz⟩ := id F
        have Fl1 := Nat.ne_of_lt Fa
        have Fl2 := Nat.ne_of_gt Fa
        obtain ⟨T15a, ⟨T15b, T15c, T15d⟩, T15x, T15y, T15z⟩ := id T15
        have T15l1 := Nat.ne_of_lt T15a
        have T15l2 := Nat.ne_of_gt T15a
        go_upto_region 24 with fail
        clear Za Zb Zc Zd Zx Zy Zz Zl1 Zl2 Fa Fb Fc Fd Fx Fy Fz Fl1 Fl2 T15a T15b T15c T15d T15x T15y T15z T15l1 T15l2
        have R2 := ((R.far pF 0 (by omega) (.bool s4)).far pF 1 (by omega) (.slice avY us.length cvY)).far pF 2 (by omega) (.slice avY' vs.length cvY')
        have B2 := ((B.far (p := ⟨pF, 0, none⟩) (by simp; omega) (.bool s4)).far (p := ⟨pF, 1, none⟩) (by simp; omega) (.slice avY us.length cvY)).far (p := ⟨pF, 2, none⟩) (by simp; omega) (.slice avY' vs.length cvY')
        have F2 := F.setAll (.bool s4) (.slice avY us.length cvY) (.slice avY' vs.length cvY')
        have Z2 : Cel3 (((w21.setCell ⟨pF, 0, none⟩ (.bool s4)).setCell ⟨pF, 1, none⟩ (.slice avY us.length cvY)).setCell ⟨pF, 2, none⟩ (.slice avY' vs.length cvY')) w.heap.size (.bool false) (.slice none 0 0) (.slice none 0 0) := (((Z.far (i := 0) (v := .bool s4) (Nat.ne_of_lt nF)).far (i := 1) (v := .slice avY us.length cvY) (Nat.ne_of_lt nF)).far (i := 2) (v := .slice avY' vs.length cvY') (Nat.ne_of_lt nF))
        have Y2 := ((Y.other (c := pF) Ys 0 (.bool s4)).other (c := pF) Ys 1 (.slice avY us.length cvY)).other (c := pF) Ys 2 (.slice avY' vs.length cvY')
        have Y'2 := ((Y'.other (c := pF) Y's 0 (.bool s4)).other (c := pF) Y's 1 (.slice avY us.length cvY)).other (c := pF) Y's 2 (.slice avY' vs.length cvY')
        clear R B F Z Y Y'
        generalize (((w21.setCell ⟨pF, 0, none⟩ (.bool s4)).setCell ⟨pF, 1, none⟩ (.slice avY us.length cvY)).setCell ⟨pF, 2, none⟩ (.slice avY' vs.length cvY')) = Wf at *
        have R := R2
        clear R2
        have B := B2
        clear B2
        have F := F2
        clear F2
        have Z := Z2
        clear Z2
        have Y := Y2
        clear Y2
        have Y' := Y'2
        clear Y'2
        obtain ⟨Za, ⟨Zb, Zc, Zd⟩, Zx, Zy, Zz⟩ := id Z
        have Zl1 := Nat.ne_of_lt Za
        have Zl2 := Nat.ne_of_gt Za
        obtain ⟨Fa, ⟨Fb, Fc, Fd⟩, Fx, Fy, Fz⟩ := id F
        have Fl1 := Nat.ne_of_lt Fa
        have Fl2 := Nat.ne_of_gt Fa
        go_wp2_with fail
        refine (pick_k rb k _ _ (R.mono (by omega)) (by decide)).mono ?_
        rintro e w7 ⟨⟨u, ⟨u1, u2⟩, rfl⟩, R', hB'⟩
        clear Za Zb Zc Zd Zx Zy Zz Zl1 Zl2 Fa Fb Fc Fd Fx Fy Fz Fl1 Fl2
        replace Z := Z.but hB' (by omega)
        replace F := F.but hB' (by omega)
        replace Y := Y.but hB' (by omega)
        replace Y' := Y'.but hB' (by omega)
        replace R := R'
        replace B := B.trans hB'
        clear hB' 
        obtain ⟨Za, ⟨Zb, Zc, Zd⟩, Zx, Zy, Zz⟩ := id Z
        have Zl1 := Nat.ne_of_lt Za
        have Zl2 := Nat.ne_of_gt Za
        obtain ⟨Fa, ⟨Fb, Fc, Fd⟩, Fx, Fy, Fz⟩ := id F
        have Fl1 := Nat.ne_of_lt Fa
        have Fl2 := Nat.ne_of_gt Fa
        have nF := hpF
        by_cases hu : u = 0
        · subst hu
          have F2 := F.set2 (.slice none 0 0)
          have Z2 : Cel3 (w7.setCell ⟨pF, 2, none⟩ (.slice none 0 0)) w.heap.size (.bool false) (.slice none 0 0) (.slice none 0 0) := Z.far (Nat.ne_of_lt nF)
          have R2 : Rk (w7.setCell ⟨pF, 2, none⟩ (.slice none 0 0)) rb k := R.far pF 2 (by omega) _
          have B2 : But rb w (w7.setCell ⟨pF, 2, none⟩ (.slice none 0 0)) := B.far (p := ⟨pF, 2, none⟩) (by simp; omega) _
          have X2 : OI (w7.setCell ⟨pF, 2, none⟩ (.slice none 0 0)) (w.heap.size + 1) avY cvY us := Y.other (c := pF) Ys 2 _
          have sx : ∀ q, avY = some q → q.block ≠ w.heap.size := fun q e => by have := X2.ge q e; omega
          go_wp2
          exact bodyPost_ret (resFr (Z2.setAll (.bool s4) (.slice avY us.length cvY) (.slice none 0 0)) rfl) rfl ⟨⟨s4, avY, cvY, us, none, 0, [], rfl, (((X2.other (c := w.heap.size) sx 0 _).other (c := w.heap.size) sx 1 _).other (c := w.heap.size) sx 2 _).mono (by omega), OI.none _ _⟩, ((R2.far _ 0 hrb _).far _ 1 hrb _).far _ 2 hrb _, ((B2.far (p := ⟨w.heap.size, 0, none⟩) (by simp) _).far (p := ⟨w.heap.size, 1, none⟩) (by simp) _).far (p := ⟨w.heap.size, 2, none⟩) (by simp) _⟩
        · have hu' : (u == 0) = false := beq_eq_false_iff_ne.2 hu
          have F2 := F
          have Z2 : Cel3 w7 w.heap.size (.bool false) (.slice none 0 0) (.slice none 0 0) := Z
          have R2 : Rk w7 rb k := R
          have B2 : But rb w w7 := B
          have X2 : OI w7 (w.heap.size + 1) avY cvY us := Y
          have Y2 : OI w7 (w.heap.size + 1) avY' cvY' vs := Y'
          have sx : ∀ q, avY = some q → q.block ≠ w.heap.size := fun q e => by have := X2.ge q e; omega
          have sy : ∀ q, avY' = some q → q.block ≠ w.heap.size := fun q e => by have := Y2.ge q e; omega
          go_wp2
          exact bodyPost_ret (resFr (Z2.setAll (.bool s4) (.slice avY us.length cvY) (.slice avY' vs.length cvY')) rfl) rfl ⟨⟨s4, avY, cvY, us, avY', cvY', vs, rfl, (((X2.other (c := w.heap.size) sx 0 _).other (c := w.heap.size) sx 1 _).other (c := w.heap.size) sx 2 _).mono (by omega), (((Y2.other (c := w.heap.size) sy 0 _).other (c := w.heap.size) sy 1 _).other (c := w.heap.size) sy 2 _).mono (by omega)⟩, ((R2.far _ 0 hrb _).far _ 1 hrb _).far _ 2 hrb _, ((B2.far (p := ⟨w.heap.size, 0, none⟩) (by simp) _).far (p := ⟨w.heap.size, 1, none⟩) (by simp) _).far (p := ⟨w.heap.size, 2, none⟩) (by simp) _⟩
  have hq3' : (q == 3) = false := beq_eq_false_iff_ne.2 hq3
  obtain ⟨Za, ⟨Zb, Zc, Zd⟩, Zx, Zy, Zz⟩ := id Z
  have Zl1 := Nat.ne_of_lt Za
  have Zl2 := Nat.ne_of_gt Za
  obtain ⟨Fa, ⟨Fb, Fc, Fd⟩, Fx, Fy, Fz⟩ := id F
  have Fl1 := Nat.ne_of_lt Fa
  have Fl2 := Nat.ne_of_gt Fa
  clear Za Zb Zc Zd Zx Zy Zz Zl1 Zl2 Fa Fb Fc Fd Fx Fy Fz Fl1 Fl2
  obtain ⟨Za, ⟨Zb, Zc, Zd⟩, Zx, Zy, Zz⟩ := id Z
  have Zl1 := Nat.ne_of_lt Za
  have Zl2 := Nat.ne_of_gt Za
  obtain ⟨Fa, ⟨Fb, Fc, Fd⟩, Fx, Fy, Fz⟩ := id F
  have Fl1 := Nat.ne_of_lt Fa
  have Fl2 := Nat.ne_of_gt Fa
  go_wp2_with fail
  refine (pick_k rb k _ _ (R.mono (by omega)) (by decide)).mono ?_
  rintro e w7 ⟨⟨u, ⟨u1, u2⟩, rfl⟩, R', hB'⟩
  clear Za Zb Zc Zd Zx Zy Zz Zl1 Zl2 Fa Fb Fc Fd Fx Fy Fz Fl1 Fl2
  replace Z := Z.but hB' (by omega)
  replace F := F.but hB' (by omega)
  replace X := X.but hB' (by omega)
  replace X' := X'.but hB' (by omega)
  replace R := R'
  replace B := B.trans hB'
  clear hB' 
  obtain ⟨Za, ⟨Zb, Zc, Zd⟩, Zx, Zy, Zz⟩ := id Z
  have Zl1 := Nat.ne_of_lt Za
  have Zl2 := Nat.ne_of_gt Za
  obtain ⟨Fa, ⟨Fb, Fc, Fd⟩, Fx, Fy, Fz⟩ := id F
  have Fl1 := Nat.ne_of_lt Fa
  have Fl2 := Nat.ne_of_gt Fa
  have nF := hpF
  by_cases hu : u = 0
  · subst hu
    have F2 := F.set2 (.slice none 0 0)
    have Z2 : Cel3 (w7.setCell ⟨pF, 2, none⟩ (.slice none 0 0)) w.heap.size (.bool false) (.slice none 0 0) (.slice none 0 0) := Z.far (Nat.ne_of_lt nF)
    have R2 : Rk (w7.setCell ⟨pF, 2, none⟩ (.slice none 0 0)) rb k := R.far pF 2 (by omega) _
    have B2 : But rb w (w7.setCell ⟨pF, 2, none⟩ (.slice none 0 0)) := B.far (p := ⟨pF, 2, none⟩) (by simp; omega) _
    have X2 : OI (w7.setCell ⟨pF, 2, none⟩ (.slice none 0 0)) (w.heap.size + 1) avX cvX xs := X.other (c := pF) Xs 2 _
    have sx : ∀ q, avX = some q → q.block ≠ w.heap.size := fun q e => by have := X2.ge q e; omega
    go_wp2
    exact bodyPost_ret (resFr (Z2.setAll (.bool s) (.slice avX xs.length cvX) (.slice none 0 0)) rfl) rfl ⟨⟨s, avX, cvX, xs, none, 0, [], rfl, (((X2.other (c := w.heap.size) sx 0 _).other (c := w.heap.size) sx 1 _).other (c := w.heap.size) sx 2 _).mono (by omega), OI.none _ _⟩, ((R2.far _ 0 hrb _).far _ 1 hrb _).far _ 2 hrb _, ((B2.far (p := ⟨w.heap.size, 0, none⟩) (by simp) _).far (p := ⟨w.heap.size, 1, none⟩) (by simp) _).far (p := ⟨w.heap.size, 2, none⟩) (by simp) _⟩
  · have hu' : (u == 0) = false := beq_eq_false_iff_ne.2 hu
    have F2 := F
    have Z2 : Cel3 w7 w.heap.size (.bool false) (.slice none 0 0) (.slice none 0 0) := Z
    have R2 : Rk w7 rb k := R
    have B2 : But rb w w7 := B
    have X2 : OI w7 (w.heap.size + 1) avX cvX xs := X
    have Y2 : OI w7 (w.heap.size + 1) avX' cvX' ys := X'
    have sx : ∀ q, avX = some q → q.block ≠ w.heap.size := fun q e => by have := X2.ge q e; omega
    have sy : ∀ q, avX' = some q → q.block ≠ w.heap.size := fun q e => by have := Y2.ge q e; omega
    go_wp2
    exact bodyPost_ret (resFr (Z2.setAll (.bool s) (.slice avX xs.length cvX) (.slice avX' ys.length cvX')) rfl) rfl ⟨⟨s, avX, cvX, xs, avX', cvX', ys, rfl, (((X2.other (c := w.heap.size) sx 0 _).other (c := w.heap.size) sx 1 _).other (c := w.heap.size) sx 2 _).mono (by omega), (((Y2.other (c := w.heap.size) sy 0 _).other (c := w.heap.size) sy 1 _).other (c := w.heap.size) sy 2 _).mono (by omega)⟩, ((R2.far _ 0 hrb _).far _ 1 hrb _).far _ 2 hrb _, ((B2.far (p := ⟨w.heap.size, 0, none⟩) (by simp) _).far (p := ⟨w.heap.size, 1, none⟩) (by simp) _).far (p := ⟨w.heap.size, 2, none⟩) (by simp) _⟩
end Go.Proofs.YtgoffjpfddmhhaaGreatDoor
