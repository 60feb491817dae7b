/- Literals of the program: what a text says, and whether it is one. No condition. Nothing that was there is written. -/
import Derived.Test.YtafpjgojmpjajaaZH
namespace Go.Proofs.Ytafpjgojmpjajaa
open Go.RowKit
set_option linter.unusedVariables false
set_option maxRecDepth 100000

def lt0 : Lt := ⟨⟨#[]⟩, 0, false, 0⟩
def litR (s : ByteArray) : Option Lt := if s.size ≤ 60 then (if (scn (runesL s s.size 0) lt0).1 = true ∧ (scn (runesL s s.size 0) lt0).2.pw ≤ 400 then some (scn (runesL s s.size 0) lt0).2 else none) else none
def decI (s : ByteArray) : Bool := (litR s).isSome
theorem lt0_fits (s : ByteArray) (h : s.size ≤ 60) : lt0.fits (runesL s s.size 0) 0 := ⟨0, by have := runesL_len s s.size 0; omega, ⟨by decide, by decide, by decide, by decide, by decide⟩, by decide⟩
def litV (s : ByteArray) : Value := match litR s with | some l => .tuple #[.agg #[.string l.ds, .int .i64 l.pl, .bool l.dn, .int .i64 l.pw], .bool true] | none => .tuple #[.agg #[.string ⟨#[]⟩, .int .i64 0, .bool false, .int .i64 0], .bool false]
theorem resLit (W : World) (tmps : Array Value) (b : Nat) (x0 x1 x2 x3 u : Value) (h : CS W b [x0, x1, x2, x3]) (hp : tmps.getD 2 undef = .pointer (some ⟨b, 0, none⟩)) (hu : tmps.getD 3 undef = u) :
    (results Try.f60 tmps).run Try.prog W = .ok (.tuple #[.agg #[x0, x1, x2, x3], u]) W := by
  have c0 := h.cell 0 _ rfl
  have c1 := h.cell 1 _ rfl
  have c2 := h.cell 2 _ rfl
  have c3 := h.cell 3 _ rfl
  rw [results_cell_tmp (p := 2) (u := 3) (ty := 86) rfl, hp, hu]
  simp [asAddr, go_sem, c0, c1, c2, c3]
theorem CS.stored4 {w : World} {b : Nat} {x0 x1 x2 x3 : Value} (h : CS w b [x0, x1, x2, x3]) (y0 y1 y2 y3 : Value) :
    CS ((((w.setCell ⟨b, 0, none⟩ y0).setCell ⟨b, 1, none⟩ y1).setCell ⟨b, 2, none⟩ y2).setCell ⟨b, 3, none⟩ y3) b [y0, y1, y2, y3] :=
  (((h.stored (i := 0) y0 (by simp)).stored (i := 1) y1 (by simp)).stored (i := 2) y2 (by simp)).stored (i := 3) y3 (by simp)
set_option maxHeartbeats 4000000 in
theorem iLiteral (s : ByteArray) (w : World) : Calls Try.prog 60 #[.string s] w fun e w' => e = .returned (litV s) ∧ Below w.heap.size w w' := by
  by_cases h60 : 60 < s.size
  · have e : litR s = none := by unfold litR; rw [if_neg (by omega)]
    unfold litV
    rw [e]
    dsimp only
    have h60' : 60 < (s.size : Int) := by omega
    go_enter Try.func60, Try.ntmps60
    go_wp2
    exact bodyPost_ret (resLit _ _ _ _ _ _ _ _ (CS.made _ _ rfl #[_, _, _, _] _) rfl rfl) rfl ⟨rfl, (by repeat (first | with_reducible exact Below.refl _ _ | with_reducible refine Below.drew ?_ | ((with_reducible refine Below.setCell ?_ ?_ _); rotate_left; (focus (first | (simp; done) | omega | (simp; omega)))) | with_reducible refine old_alloc ?_ _ | with_reducible refine old_trans ?_ (by with_reducible assumption)))⟩
  have h60' : ¬ 60 < (s.size : Int) := by omega
  obtain ⟨res, hres⟩ : ∃ r, scn (runesL s s.size 0) lt0 = r := ⟨_, rfl⟩
  have eL : litR s = if res.1 = true ∧ res.2.pw ≤ 400 then some res.2 else none := by unfold litR; rw [if_pos (by omega), hres]
  have SC := hd (fun g w (hC : CS w g lt0.cells) => iScan s g res lt0 w hC (lt0_fits s (by omega)) hres (by omega))
  clear hres
  obtain ⟨ok, ds, pl, dn, pw⟩ := res
  dsimp only at eL SC
  have fin : ∀ (w1 : World) (y0 y1 y2 y3 : Value) (o : Bool), CS w1 w.heap.size [.string ⟨#[]⟩, .int .i64 0, .bool false, .int .i64 0] → True := fun _ _ _ _ _ _ _ => trivial
  clear fin
  have K1 := ((CS.made w _ rfl #[.string ⟨#[]⟩, .int .i64 0, .bool false, .int .i64 0] 86).alloc (.cells #[.string ⟨#[]⟩, .int .i64 0, .bool false, .int .i64 0] 86))
  have K2 := CS.made (w.alloc (.cells #[.string ⟨#[]⟩, .int .i64 0, .bool false, .int .i64 0] 86)) (w.heap.size + 1) (by simp) #[.string ⟨#[]⟩, .int .i64 0, .bool false, .int .i64 0] 86
  have C1 := hd (SC.out _ _ K2)
  clear SC
  unfold takeV Lt.cells at C1
  dsimp only at C1
  unfold litV
  rw [eL]
  clear eL h60
  by_cases hok : ok = true ∧ pw ≤ 400
  · rw [if_pos hok]
    obtain ⟨rfl, hpw⟩ := hok
    dsimp only
    have hpw' : ¬ 400 < pw := by omega
    go_enter Try.func60, Try.ntmps60
    go_wp2_with fail
    refine C1.out.mono ?_
    rintro e w1 ⟨rfl, L1, hb1⟩
    have R1 := K1.bx hb1 (by simp; omega)
    have c0 := L1.cell 0 _ rfl
    have c1 := L1.cell 1 _ rfl
    have c2 := L1.cell 2 _ rfl
    have c3 := L1.cell 3 _ rfl
    have d0 := R1.cell 0 _ rfl
    have d1 := R1.cell 1 _ rfl
    have d2 := R1.cell 2 _ rfl
    have d3 := R1.cell 3 _ rfl
    have f0 := R1.froz 0 (by decide)
    have f1 := R1.froz 1 (by decide)
    have f2 := R1.froz 2 (by decide)
    have f3 := R1.froz 3 (by decide)
    have hB : Below w.heap.size w w1 := (old_alloc (old_alloc (Below.refl _ _) _) _).trans (hb1.below (by intro k hk; rcases hk with rfl | rfl <;> simp <;> omega) (by simp; omega))
    have R2 := R1.stored4 (.string ds) (.int .i64 pl) (.bool dn) (.int .i64 pw)
    clear hb1 L1 R1 K1 K2 C1
    go_wp2
    exact bodyPost_ret (resLit _ _ _ _ _ _ _ _ R2 rfl rfl) rfl ⟨rfl, (by repeat (first | with_reducible exact hB | with_reducible exact Below.refl _ _ | with_reducible refine Below.drew ?_ | ((with_reducible refine Below.setCell ?_ ?_ _); rotate_left; (focus (first | (simp; done) | omega | (simp; omega)))) | with_reducible refine old_alloc ?_ _ | with_reducible refine old_trans ?_ (by with_reducible assumption)))⟩
  · rw [if_neg hok]
    dsimp only
    have hx : ok = false ∨ (ok = true ∧ 400 < pw) := by cases ok <;> simp_all
    go_enter Try.func60, Try.ntmps60
    go_wp2_with fail
    refine C1.out.mono ?_
    rintro e w1 ⟨rfl, L1, hb1⟩
    have R1 := K1.bx hb1 (by simp; omega)
    have c3 := L1.cell 3 _ rfl
    have d0 := R1.cell 0 _ rfl
    have d1 := R1.cell 1 _ rfl
    have d2 := R1.cell 2 _ rfl
    have d3 := R1.cell 3 _ rfl
    have f0 := R1.froz 0 (by decide)
    have f1 := R1.froz 1 (by decide)
    have f2 := R1.froz 2 (by decide)
    have f3 := R1.froz 3 (by decide)
    have hB : Below w.heap.size w w1 := (old_alloc (old_alloc (Below.refl _ _) _) _).trans (hb1.below (by intro k hk; rcases hk with rfl | rfl <;> simp <;> omega) (by simp; omega))
    have R2 := R1.stored4 (.string ⟨#[]⟩) (.int .i64 0) (.bool false) (.int .i64 0)
    clear hb1 L1 R1 K1 K2 C1 hok
    rcases hx with rfl | ⟨rfl, hpw⟩
    · go_wp2
      exact bodyPost_ret (resLit _ _ _ _ _ _ _ _ R2 rfl rfl) rfl ⟨rfl, (by repeat (first | with_reducible exact hB | with_reducible exact Below.refl _ _ | with_reducible refine Below.drew ?_ | ((with_reducible refine Below.setCell ?_ ?_ _); rotate_left; (focus (first | (simp; done) | omega | (simp; omega)))) | with_reducible refine old_alloc ?_ _ | with_reducible refine old_trans ?_ (by with_reducible assumption)))⟩
    · go_wp2
      exact bodyPost_ret (resLit _ _ _ _ _ _ _ _ R2 rfl rfl) rfl ⟨rfl, (by repeat (first | with_reducible exact hB | with_reducible exact Below.refl _ _ | with_reducible refine Below.drew ?_ | ((with_reducible refine Below.setCell ?_ ?_ _); rotate_left; (focus (first | (simp; done) | omega | (simp; omega)))) | with_reducible refine old_alloc ?_ _ | with_reducible refine old_trans ?_ (by with_reducible assumption)))⟩
set_option maxHeartbeats 1000000 in
theorem iDecOk (s : ByteArray) (w : World) : Calls Try.prog 48 #[.string s] w fun e w' => e = .returned (.bool (decI s)) ∧ Below w.heap.size w w' := by
  have L := hd (iLiteral s)
  unfold decI
  unfold litV at L
  cases h : litR s with
  | none =>
    rw [h] at L
    dsimp only at L
    clear h
    go_enter Try.func48, Try.ntmps48
    go_wp2_with fail
    refine (L.out _).mono ?_
    rintro e w1 ⟨rfl, hB⟩
    go_wp2
    go_ret
    exact ⟨rfl, (by repeat (first | with_reducible exact hB | with_reducible exact Below.refl _ _ | with_reducible refine Below.drew ?_ | ((with_reducible refine Below.setCell ?_ ?_ _); rotate_left; (focus (first | (simp; done) | omega | (simp; omega)))) | with_reducible refine old_alloc ?_ _ | with_reducible refine old_trans ?_ (by with_reducible assumption)))⟩
  | some l =>
    rw [h] at L
    dsimp only at L
    clear h
    obtain ⟨ds, pl, dn, pw⟩ := l
    dsimp only at L
    go_enter Try.func48, Try.ntmps48
    go_wp2_with fail
    refine (L.out _).mono ?_
    rintro e w1 ⟨rfl, hB⟩
    go_wp2
    go_ret
    exact ⟨rfl, (by repeat (first | with_reducible exact hB | with_reducible exact Below.refl _ _ | with_reducible refine Below.drew ?_ | ((with_reducible refine Below.setCell ?_ ?_ _); rotate_left; (focus (first | (simp; done) | omega | (simp; omega)))) | with_reducible refine old_alloc ?_ _ | with_reducible refine old_trans ?_ (by with_reducible assumption)))⟩
end Go.Proofs.Ytafpjgojmpjajaa
