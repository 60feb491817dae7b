/- Two draws of digits, of which the second may be made of the first: two lists each, in new memory. -/
import Derived.Test.YtglbbhkfodkljaaUJ
import Derived.Test.YtglbbhkfodkljaaBB
namespace Go.Proofs.Ytglbbhkfodkljaa
open Go.RowKit
set_option linter.unusedVariables false

set_option maxHeartbeats 2000000 in
theorem sTrimAny (a : Option Addr) (len cap : Nat) (xs : List Int) (w : World) (hR : InI w a len cap xs) (hl : len ≤ 4194304) :
    Calls Try.prog 43 #[.slice a len cap] w fun e w' => (∃ v qs, e = .returned v ∧ IGrows w' w.heap.size v qs ∧ Hid (IFits qs ∧ qs.length ≤ xs.length)) ∧ Below w.heap.size w w' := by
  obtain ⟨i0, hi, hz0, hz1, hz2⟩ := info_parts infoInt
  have hlen := hR.len
  have hp := hR.1
  go_enter Try.func43, Try.ntmps43
  go_wp2
  go_loopw [3] (fun n wr => ∃ k : Nat, k ≤ len ∧ n = .int .i64 k ∧ (∀ i, k ≤ i → i < len → xs.getD i 0 = 0) ∧ wr = w) (fun n _ => (intOf n).toNat)
  case atStart => exact ⟨len, by omega, rfl, fun i h1 h2 => by omega, rfl⟩
  case round =>
    obtain ⟨k, hk, rfl, hz, hw⟩ := hrel
    obtain rfl : w = wr := hw.symm
    clear hw
    by_cases hgo : 0 < k ∧ xs.getD (k - 1) 0 = 0
    · obtain ⟨b, off, x, rfl, hbl, hx, -, c0⟩ := hR.at (k := k - 1) (by omega)
      have ek : ((k : Int) - 1) = ((k - 1 : Nat) : Int) := by omega
      obtain rfl : x = 0 := by rw [← hx]; exact hgo.2
      have hpos := hgo.1
      clear hgo
      go_wp2
      go_roundw
      case rel =>
        refine ⟨k - 1, by omega, by go_num, fun i h1 h2 => ?_, trivial⟩
        by_cases e : i = k - 1
        · subst e; exact hx
        · exact hz i (by omega) h2
      case measure => simp [intOf]; omega
    · obtain ⟨qs, ht⟩ : ∃ qs, xs.take k = qs := ⟨_, rfl⟩
      have hkl : qs.length = k := by rw [← ht, List.length_take]; omega
      have hkl' := hd hkl
      have ht' := hd ht
      clear ht hkl hz
      have hcase : k = 0 ∨ (0 < k ∧ ∃ x, x ≠ 0 ∧ xs.getD (k - 1) 0 = x) := by
        by_cases h0 : k = 0
        · exact .inl h0
        · exact .inr ⟨by omega, _, fun e => hgo ⟨by omega, e⟩, rfl⟩
      clear hgo
      rcases hcase with rfl | ⟨h0, x, hx0, hx⟩
      · go_wp2
        go_loopw [4, 5] (fun o i wr => o = .slice none 0 0 ∧ i = .int .i64 0 ∧ wr = w) (fun _ _ _ => 0)
        case atStart => exact ⟨rfl, rfl, rfl⟩
        case round =>
          obtain ⟨rfl, rfl, rfl⟩ := hrel
          go_wp2
          go_ret
          have : qs = [] := List.length_eq_zero_iff.1 hkl'.out
          subst this
          exact ⟨⟨_, _, rfl, IGrows.nil _ _, fits_nil, Nat.zero_le _⟩, Below.refl _ _⟩
      · obtain ⟨b, off, x', rfl, hbl, hx2, -, c0⟩ := hR.at (k := k - 1) (by omega)
        obtain rfl : x' = x := by rw [← hx, ← hx2]
        have ek : ((k : Int) - 1) = ((k - 1 : Nat) : Int) := by omega
        have hxb : (x' == 0) = false := by simpa using hx0
        go_wp2
        go_loopw [4, 5] (fun o i wr => ∃ (j : Nat), j ≤ k ∧ i = .int .i64 j ∧ IGrows wr w.heap.size o (xs.take j) ∧ Below w.heap.size w wr) (fun _ i _ => k - (intOf i).toNat)
        case atStart => exact ⟨0, by omega, rfl, IGrows.nil _ _, Below.refl _ _⟩
        case round =>
          obtain ⟨j, hj, rfl, G, hb⟩ := hrel
          clear ek c0 hxb hx0 hx hx2
          by_cases hlt : j < k
          · obtain ⟨b', off', y, he, -, hy, -, c0⟩ := (hR.old hb).at (k := j) (by omega)
            obtain ⟨rfl, rfl⟩ : b = b' ∧ off = off' := by injection he with he; injection he with h1 h2; exact ⟨h1, h2⟩
            clear he
            have hjl : (xs.take j).length = j := by rw [List.length_take]; omega
            have hsn := hd (take_snoc (xs := xs) (k := j) (by omega))
            rw [hy] at hsn
            have G2 := G.alloc (.cells #[.int .i64 y] 3)
            have B2 : Below w.heap.size w (wr.alloc (.cells #[.int .i64 y] 3)) := old_alloc hb _
            have cw := cells_one wr wr.heap.size rfl (.int .i64 y) 3
            have hsz := hb.size
            go_wp2_with (at_builtin; refine wpList_append_own _ rfl _ _ 23 rfl w.heap.size 3 i0 _ 1 8 Try.underlying23 hi hz0 hz1 hz2 rfl (by decide) _ _ _ rfl G2 ⟨wr.heap.size, 0, none⟩ 1 1 [.int .i64 y] rfl rfl cw (by simp [Value.oneCell']) (by rw [hjl]; unfold maxLen; omega) (by rw [hjl]; omega) (by simp; omega) ?_; intro v' w5 hown hgrow _)
            go_roundw
            case rel =>
              refine ⟨j + 1, by omega, by go_num, ?_, ?_⟩
              · rw [hsn.out]
                unfold IGrows
                rw [ints_snoc, List.length_append]
                exact hown
              · exact B2.grown hgrow B2.size (fun c e => by have := (World.ownsRow.lt G2 c e).1; omega)
            case measure => simp [intOf]; omega
          · obtain rfl : j = k := by omega
            rw [ht'.out] at G
            have hf : IFits qs := by rw [← ht'.out]; exact fun x hx => hR.2.2.2.1 x (List.mem_of_mem_take hx)
            have hq : Hid (IFits qs ∧ qs.length ≤ xs.length) := ⟨hf, by have := hkl'.out; omega⟩
            go_wp2
            go_ret
            exact ⟨⟨_, _, rfl, G, hq⟩, hb⟩
theorem IGrows.oiS {w : World} {base : Nat} {v : Value} {xs : List Int} (h : IGrows w base v xs) (f : IFits xs) : ∃ av cv, v = .slice av xs.length cv ∧ OI w base av cv xs := h.oi f
theorem grown_refl' (w : World) (r : Option Nat) : w.grownBy w r := ⟨rfl, rfl, rfl, Nat.le_refl _, fun _ _ _ => rfl⟩
theorem setCell_size' (w : World) (a : Addr) (v : Value) : (w.setCell a v).heap.size = w.heap.size := by simp [World.setCell]
/-- two lists in new memory -/
def Two2 (w : World) (base : Nat) (e : Ending) : Prop := ∃ av cv xs av' cv' ys, e = .returned (.tuple #[.slice av (List.length xs) cv, .slice av' (List.length ys) cv']) ∧ OI w base av cv xs ∧ OI w base av' cv' ys ∧ List.length xs ≤ 257 ∧ List.length ys ≤ 257
set_option maxHeartbeats 4000000 in
theorem two_k (w : World) (a : Option Addr) (len cap : Nat) (h : IsCode w a len cap) :
    Calls Try.prog 22 #[.slice a len cap] w fun e w' => Two2 w' w.heap.size e ∧ Below w.heap.size w w' := by
  have hop := hd (open_kB w a len cap h)
  go_enter Try.func22, Try.ntmps22
  go_wp2_with fail
  refine hop.out.mono ?_
  rintro e w1 ⟨rfl, o, rfl, hR⟩
  have hba : Below w.heap.size w (w.alloc o) := old_alloc (Below.refl _ _) _
  have hsz0 : (w.alloc o).heap.size = w.heap.size + 1 := by simp
  generalize hrb : w.heap.size = rb at *
  clear hop h
  go_wp2_with fail
  refine (raw_k rb 90000 _ (hR.mono (by omega))).mono ?_
  rintro e w2 ⟨⟨v, xs, rfl, G, F_, hl_⟩, R2, B2⟩
  have F := hd F_
  have hl := hd hl_
  clear hR F_ hl_
  go_wp2_with fail
  refine (raw_k rb 80000 _ (R2.mono (by omega))).mono ?_
  rintro e w3 ⟨⟨u, ys, rfl, G', F_, hl_⟩, R3, B3⟩
  have F' := hd F_
  have hl' := hd hl_
  have hs2 := B2.size
  have hs3 := B3.size
  replace G := (G.but B3 (by omega)).base (show rb + 1 ≤ _ by omega)
  replace G' := G'.base (show rb + 1 ≤ _ by omega)
  replace B3 := B2.trans B3
  clear R2 B2 F_ hl_
  go_wp2_with fail
  refine (pick_k rb 79999 _ _ (R3.mono (by omega)) (by decide)).mono ?_
  rintro e w4 ⟨⟨t0, ⟨ta, tb⟩, rfl⟩, R4, B4⟩
  replace G := G.but B4 (by omega)
  replace G' := G'.but B4 (by omega)
  have hs4 := B4.size
  replace B4 := B3.trans B4
  clear B3 R3
  obtain ⟨av, cv, rfl, O⟩ := G.oi F.out
  clear G
  by_cases t1 : t0 = 0
  case neg =>
    have t1' : (t0 == 0) = false := by simpa using t1
    obtain ⟨av', cv', rfl, O'⟩ := (G').oi F'.out
    subst hrb
    have hBB := (B4).below
    have hTw : Two2 w4 w.heap.size (.returned (.tuple #[.slice av xs.length cv, .slice av' _ cv'])) := ⟨av, cv, xs, av', cv', _, rfl, O.mono (by omega), O'.mono (by omega), hl.out, hl'.out⟩
    clear O O' G' R4 B4
    go_wp2
    go_ret2
    exact ⟨hTw, hBB⟩
  subst t1
  have hOlt := hd O.lt
  have T := hd (sTrimAny av _ cv xs w4 O.inI (by have := hl.out; omega))
  go_wp2_with fail
  refine T.out.mono ?_
  rintro e w5 ⟨⟨z, qs, rfl, Gz, hq⟩, hb5⟩
  clear T G' F' hl'
  replace O := O.later hb5
  replace R4 := R4.old hb5
  replace B4 := B4.trans (But.of hb5)
  have hs5 := hb5.size
  have hl' : Hid (qs.length ≤ 257) := by show _ ≤ _; have := hl.out; have := hq.out.2; omega
  by_cases h0 : 0 < qs.length
  case neg =>
    obtain rfl : qs = [] := List.length_eq_zero_iff.1 (by omega)
    obtain ⟨av', cv', rfl, O'⟩ := (Gz).oi fits_nil
    subst hrb
    have hBB := (B4).below
    have hTw : Two2 w5 w.heap.size (.returned (.tuple #[.slice av xs.length cv, .slice av' _ cv'])) := ⟨av, cv, xs, av', cv', _, rfl, O.mono (by omega), O'.mono (by omega), hl.out, hl'.out⟩
    clear O O' Gz R4 B4
    go_wp2
    go_ret2
    exact ⟨hTw, hBB⟩
  obtain ⟨g, cz, rfl, hg1, hg2, hg3, hg4⟩ := Gz.row h0
  obtain ⟨y, hy, hyc, hyf⟩ := hg4.at (k := 0) h0
  have h0' : (0 : Int) < (qs.length : Int) := by omega
  go_wp2_with fail
  refine (pick_k rb 79998 _ _ R4 (by decide)).mono ?_
  rintro e w6 ⟨⟨t2, ⟨tc, td⟩, rfl⟩, R6, B6⟩
  have e6 := B6.block g (World.block_lt_of_cell? _ _ hyc) (by omega)
  replace hyc := (World.cell?_of_block (w := w5) (a := ⟨g, 0, none⟩) e6).trans hyc
  replace hyf := (World.frozen?_of_block (w := w5) (a := ⟨g, 0, none⟩) e6).trans hyf
  replace Gz := Gz.but B6 (by omega)
  replace O := O.kept B6.grown (fun q e1 e2 => by injection e2 with e2; have := O.ge q e1; omega)
  have hs6 := B6.size
  replace B6 := B4.trans B6
  clear B4 R4 e6 hg4
  have hyb := Gz.oi hq.out.1
  by_cases hgo : t2 = 0 ∧ 0 < y
  case neg =>
    have hTw : Two2 w6 rb (.returned (.tuple #[.slice av xs.length cv, .slice (some ⟨g, 0, none⟩) qs.length cz])) := by
      obtain ⟨av', cv', he, O'⟩ := hyb
      injection he with e1 e2 e3
      subst e1
      subst e3
      exact ⟨av, cv, xs, _, _, qs, rfl, O.mono (by omega), O'.mono (by omega), hl.out, hl'.out⟩
    subst hrb
    have hBB := B6.below
    have hcase : (t2 == 0) = false ∨ ((t2 == 0) = true ∧ decide (0 < y) = false) := by
      by_cases c : t2 = 0
      · exact .inr ⟨by simpa using c, by simp; omega⟩
      · exact .inl (by simpa using c)
    clear hgo hyb O Gz R6 B6
    rcases hcase with hc | ⟨hc, hd0⟩
    all_goals
      go_wp2
      go_ret2
      exact ⟨hTw, hBB⟩
  obtain ⟨rfl, hyp⟩ := hgo
  have hyr : y ≤ 9223372036854775807 := (hq.out.1 y (by rw [← hy]; exact getD_mem h0)).2
  have hwy : IntKind.wrap .i64 (y - 1) = y - 1 := by rw [IntKind.wrap_i64]; omega
  have hfy := fits_set hq.out.1 0 (x := y - 1) ⟨by omega, by omega⟩
  have G7 := grows_stored Gz 0 (y - 1)
  have O7 : OI (w6.setCell ⟨g, 0, none⟩ (.int .i64 (y - 1))) (rb + 1) av cv xs := O.kept (grown_set (grown_refl' _ _) 0 _) (fun q e1 e2 => by injection e2 with e2; have := hOlt.out q e1; omega)
  have B7 : But rb (w.alloc o) (w6.setCell ⟨g, 0, none⟩ (.int .i64 (y - 1))) := B6.far (p := ⟨g, 0, none⟩) (show (w.alloc o).heap.size ≤ g by omega) _
  go_wp2_with fail
  have T2 := hd (sTrimAny (some ⟨g, 0, none⟩) qs.length cz (qs.set 0 (y - 1)) _ (by obtain ⟨av', cv', he, O'⟩ := G7.oi hfy; injection he with e1 e2 e3; subst e1; subst e3; have := O'.inI; rw [List.length_set] at this; exact this) (by have := hl'.out; omega))
  generalize hW7 : w6.setCell ⟨g, 0, none⟩ (.int .i64 (y - 1)) = w7 at *
  have hs7 : w7.heap.size = w6.heap.size := by rw [← hW7]; exact setCell_size' _ _ _
  clear hW7 hyb G7 Gz O R6 B6 hyc hyf
  refine T2.out.mono ?_
  rintro e w8 ⟨⟨z, ps, rfl, G8, hq8⟩, hb8⟩
  replace O7 := O7.later hb8
  replace B7 := B7.trans (But.of hb8)
  obtain ⟨av', cv', rfl, O'⟩ := G8.oi hq8.out.1
  have hl8 : Hid (ps.length ≤ 257) := by show _ ≤ _; have := hl'.out; have := hq8.out.2; rw [List.length_set] at this; omega
  have hTw : Two2 w8 rb (.returned (.tuple #[.slice av xs.length cv, .slice av' ps.length cv'])) := ⟨av, cv, xs, av', cv', ps, rfl, O7.mono (by omega), O'.mono (by omega), hl.out, hl8.out⟩
  subst hrb
  have hBB := B7.below
  clear O7 O' G8 B7 T2
  go_wp2
  go_ret2
  exact ⟨hTw, hBB⟩
set_option maxHeartbeats 1000000 in
theorem drawNatDiv (w : World) (a : Option Addr) (len cap : Nat) (h : IsCode w a len cap) :
    Calls Try.prog 6 #[.slice a len cap] w fun e w' => Two2 w' w.heap.size e ∧ Below w.heap.size w w' := by
  have T := hd (two_k w a len cap h)
  go_enter Try.func6, Try.ntmps6
  go_wp2_with fail
  refine T.out.mono ?_
  rintro e w1 ⟨⟨av, cv, xs, av', cv', ys, rfl, h1, h2, h3, h4⟩, hb⟩
  have hTw : Two2 w1 w.heap.size (.returned (.tuple #[.slice av xs.length cv, .slice av' ys.length cv'])) := ⟨av, cv, xs, av', cv', ys, rfl, h1, h2, h3, h4⟩
  clear T h1 h2 h3 h4
  go_wp2
  go_ret2
  exact ⟨hTw, hb⟩
end Go.Proofs.Ytglbbhkfodkljaa
