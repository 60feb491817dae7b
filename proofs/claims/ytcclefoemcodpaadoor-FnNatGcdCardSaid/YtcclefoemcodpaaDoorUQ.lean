/- Draws of two numbers' digits, with a factor in common now and then: two lists, in new memory. -/
import Derived.Test.YtcclefoemcodpaaDoorUO
namespace Go.Proofs.YtcclefoemcodpaaDoor
open Go.RowKit
set_option linter.unusedVariables false

theorem len_mulL {xs zs : List Int} (h1 : digs xs) (h2 : digs zs) : (natL (val xs * val zs)).length ≤ xs.length + zs.length := len_mul (val_lt h1) (val_lt h2)
set_option maxHeartbeats 4000000 in
theorem drawNatGcd (w : World) (a : Option Addr) (len cap : Nat) (h : IsCode w a len cap) :
    Calls Tryd.prog 4 #[.slice a len cap] w fun e w' => Two2 w' w.heap.size e ∧ Below w.heap.size w w' := by
  have hop := hd (open_kB w a len cap h)
  go_enter Tryd.func4, Tryd.ntmps4
  go_wp2_with fail
  refine hop.out.mono ?_
  rintro e w1 ⟨rfl, o, rfl, hR⟩
  have hsz0 : (w.alloc o).heap.size = w.heap.size + 1 := by simp
  generalize hrb : w.heap.size = rb at *
  clear hop h
  go_wp2_with fail
  refine (raw_k rb 90000 _ (hR.mono (by omega))).mono ?_
  rintro e w2 ⟨⟨v, xs, rfl, G, F_, hl_⟩, R2, B2⟩
  have hl := hd hl_
  have hs2 := B2.size
  obtain ⟨avA, cvA, rfl, OA⟩ := G.oi F_
  clear hR F_ hl_ G
  go_wp2_with fail
  refine (raw_k rb 80000 _ (R2.mono (by omega))).mono ?_
  rintro e w3 ⟨⟨v, ys, rfl, G, F_, hl_⟩, R3, B3⟩
  have hl' := hd hl_
  have hs3 := B3.size
  obtain ⟨avB, cvB, rfl, OB⟩ := G.oi F_
  have hOA : ∀ q, avA = some q → some q.block ≠ some rb := fun q e1 e2 => by injection e2 with e2; have := OA.ge q e1; omega
  replace OA := OA.kept B3.grown hOA
  replace OB := OB.mono (show (w.alloc o).heap.size ≤ _ by omega)
  have hOB : ∀ q, avB = some q → some q.block ≠ some rb := fun q e1 e2 => by injection e2 with e2; have := OB.ge q e1; omega
  replace B3 := B2.trans B3
  clear F_ hl_ G R2 B2
  go_wp2_with fail
  refine (nat_k rb 70000 _ (R3.mono (by omega))).mono ?_
  rintro e w4 ⟨⟨v, zs, rfl, G, F_, hl_⟩, RR, B4⟩
  have hl3 := hd hl_
  have dz := hd F_
  have hs4 := B4.size
  obtain ⟨avC, cvC, rfl, OC⟩ := G.oi (digs_fits F_)
  replace OA := OA.kept B4.grown hOA
  replace OB := OB.kept B4.grown hOB
  replace OC := OC.mono (show (w.alloc o).heap.size ≤ _ by omega)
  have hOC : ∀ q, avC = some q → some q.block ≠ some rb := fun q e1 e2 => by injection e2 with e2; have := OC.ge q e1; omega
  have BB := B3.trans B4
  clear F_ hl_ G R3 B3 B4
  have hE : ∀ W, OI W ((w.alloc o).heap.size) avA cvA xs → OI W ((w.alloc o).heap.size) avB cvB ys → But rb (w.alloc o) W → Two2 W w.heap.size (.returned (.tuple #[.slice avA xs.length cvA, .slice avB ys.length cvB])) ∧ Below w.heap.size w W := fun W h1 h2 h3 => by
    subst hrb
    exact ⟨⟨avA, cvA, xs, avB, cvB, ys, rfl, h1.mono (by omega), h2.mono (by omega), hl.out, hl'.out⟩, h3.below⟩
  have hE := hd hE
  have KA := hd (sNatOk avA _ cvA xs w4 OA.inI)
  have KB := hd (sNatOk avB _ cvB ys w4 OB.inI)
  have z1 := hl.out
  have z2 := hl'.out
  have z3 := hl3.out
  obtain ⟨S1, hS1⟩ : ∃ S, (xs.length : Int) + (zs.length : Int) = S := ⟨_, rfl⟩
  obtain ⟨S2, hS2⟩ : ∃ S, (ys.length : Int) + (zs.length : Int) = S := ⟨_, rfl⟩
  have hwa : IntKind.wrap .i64 S1 = S1 := by rw [IntKind.wrap_i64]; omega
  have hwb : IntKind.wrap .i64 S2 = S2 := by rw [IntKind.wrap_i64]; omega
  have y1 := hd z1
  have y2 := hd z2
  have y3 := hd z3
  clear z1 z2 z3
  cases hx : natOk xs
  · rw [hx] at KA
    go_wp2_with fail
    refine KA.out.mono ?_
    rintro e w9 ⟨rfl, rfl⟩
    clear KA KB hx
    have hz := hd (hE.out _ OA OB BB)
    clear OA OB OC RR BB hE
    go_wp2
    go_ret2
    first | exact hz.out | (rw [hrb] at hz; exact hz.out)
  rw [hx] at KA
  cases hy : natOk ys
  · rw [hy] at KB
    go_wp2_with fail
    refine KA.out.mono ?_
    rintro e w9 ⟨rfl, rfl⟩
    go_wp2_with fail
    refine KB.out.mono ?_
    rintro e w9 ⟨rfl, rfl⟩
    clear KA KB hx hy
    have hz := hd (hE.out _ OA OB BB)
    clear OA OB OC RR BB hE
    go_wp2
    go_ret2
    first | exact hz.out | (rw [hrb] at hz; exact hz.out)
  rw [hy] at KB
  by_cases c1 : xs.length + zs.length < 200
  case neg =>
    have c1' : ¬ (S1 < 200) := by omega
    clear c1
    go_wp2_with fail
    refine KA.out.mono ?_
    rintro e w9 ⟨rfl, rfl⟩
    go_wp2_with fail
    refine KB.out.mono ?_
    rintro e w9 ⟨rfl, rfl⟩
    clear KA KB hx hy
    have hz := hd (hE.out _ OA OB BB)
    clear OA OB OC RR BB hE
    go_wp2
    go_ret2
    first | exact hz.out | (rw [hrb] at hz; exact hz.out)
  have c1' : S1 < 200 := by omega
  clear c1
  by_cases c2 : ys.length + zs.length < 200
  case neg =>
    have c2' : ¬ (S2 < 200) := by omega
    clear c2
    go_wp2_with fail
    refine KA.out.mono ?_
    rintro e w9 ⟨rfl, rfl⟩
    go_wp2_with fail
    refine KB.out.mono ?_
    rintro e w9 ⟨rfl, rfl⟩
    clear KA KB hx hy
    have hz := hd (hE.out _ OA OB BB)
    clear OA OB OC RR BB hE
    go_wp2
    go_ret2
    first | exact hz.out | (rw [hrb] at hz; exact hz.out)
  have c2' : S2 < 200 := by omega
  clear c2
  have dx := hd (natOk_in hx).2.1
  have dy := hd (natOk_in hy).2.1
  clear hx hy
  go_wp2_with fail
  refine KA.out.mono ?_
  rintro e w9 ⟨rfl, rfl⟩
  go_wp2_with fail
  refine KB.out.mono ?_
  rintro e w9 ⟨rfl, rfl⟩
  clear KA KB
  go_wp2_with fail
  refine (pick_k rb 69999 _ _ RR (by decide)).mono ?_
  rintro e w5 ⟨⟨t, ⟨ta, tb⟩, rfl⟩, R5, B5⟩
  replace OA := OA.kept B5.grown hOA
  replace OB := OB.kept B5.grown hOB
  replace OC := OC.kept B5.grown hOC
  have hs5 := B5.size
  replace BB := BB.trans B5
  clear RR B5
  by_cases ht : 0 < t
  case neg =>
    have hz := hd (hE.out _ OA OB BB)
    clear OA OB OC R5 BB hE
    go_wp2
    go_ret2
    first | exact hz.out | (rw [hrb] at hz; exact hz.out)
  clear hE R5
  have L1 := hd (len_mulL dx.out dz.out)
  have z1 := y1.out
  have z2 := y2.out
  have z3 := y3.out
  have L2 := hd (len_mulL dy.out dz.out)
  have M1 := hd (sMul avA avC _ _ cvA cvC xs zs _ OA.inI OC.inI dx.out dz.out (by omega) (by omega))
  have M2 := hd (fun w' (hb : Below w5.heap.size w5 w') => sMul avB avC _ _ cvB cvC ys zs w' (OB.later hb).inI (OC.later hb).inI dy.out dz.out (by omega) (by omega))
  clear OA OB OC
  generalize natL (val xs * val zs) = pl at *
  generalize natL (val ys * val zs) = ql at *
  go_wp2_with fail
  refine M1.out.mono ?_
  rintro e w6 ⟨⟨av6, cv6, rfl, O6⟩, hb6⟩
  have hs6 := hb6.size
  go_wp2_with fail
  refine (M2.out _ hb6).mono ?_
  rintro e w7 ⟨⟨av7, cv7, rfl, O7⟩, hb7⟩
  have hTw : Two2 w7 rb (.returned (.tuple #[.slice av6 pl.length cv6, .slice av7 ql.length cv7])) := ⟨av6, cv6, pl, av7, cv7, ql, rfl, (O6.later hb7).mono (by omega), O7.mono (by omega), by have := L1.out; omega, by have := L2.out; omega⟩
  replace BB := (BB.trans (But.of hb6)).trans (But.of hb7)
  subst hrb
  have hBB := BB.below
  clear O6 O7 BB hb6 hb7 M1 M2
  go_wp2
  go_ret2
  exact ⟨hTw, hBB⟩
end Go.Proofs.YtcclefoemcodpaaDoor
