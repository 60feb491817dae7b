/- The names of a term, by the program: gathered, sorted, compacted. Nothing that was there is written. -/
import Derived.Test.YtafpjgojmpjajaaYZ
namespace Go.Proofs.Ytafpjgojmpjajaa
open Go.RowKit
set_option linter.unusedVariables false
set_option maxRecDepth 100000

def gaStep (o : List ByteArray) (x : Tn) : List ByteArray := if x.k = 2 ∨ x.k = 13 then o ++ [x.s] else o
def gaN (xs : List Tn) (k : Nat) : List ByteArray := (xs.take k).foldl gaStep []
def tnI (xs : List Tn) : List ByteArray := if okT xs then (if (gaN xs xs.length).length = 0 then [] else cmpT (srtT (gaN xs xs.length))) else []
theorem gaN_succ {xs : List Tn} {k : Nat} (h : k < xs.length) : gaN xs (k + 1) = gaStep (gaN xs k) (xs.getD k tn0) := by
  unfold gaN
  rw [List.take_add_one, List.getElem?_eq_getElem h, Option.toList_some, List.foldl_append]
  simp [List.getD_eq_getElem?_getD, List.getElem?_eq_getElem h]
theorem gaN_len {xs : List Tn} : ∀ k, k ≤ xs.length → (gaN xs k).length ≤ k := by
  intro k
  induction k with
  | zero => intro _; simp [gaN]
  | succ k ih =>
    intro h
    rw [gaN_succ (by omega)]
    have h1 := ih (by omega)
    unfold gaStep
    split
    · rw [List.length_append]; simp; omega
    · omega
theorem fits_sub {l m : List ByteArray} (h : TFits l) (hm : ∀ x ∈ m, x ∈ l) : TFits m := fun x hx => h x (hm x hx)
theorem gaN_fits {xs : List Tn} (h : ∀ i, i < xs.length → (xs.getD i tn0).s.size ≤ maxLen) : ∀ k, k ≤ xs.length → TFits (gaN xs k) := by
  intro k
  induction k with
  | zero => intro _; exact fun x hx => absurd hx (by simp [gaN])
  | succ k ih =>
    intro hk
    rw [gaN_succ (by omega)]
    unfold gaStep
    split
    · intro y hy
      rcases List.mem_append.1 hy with g | g
      · exact ih (by omega) y g
      · rw [List.mem_singleton.1 g]; exact h k (by omega)
    · exact ih (by omega)
theorem srtT_mem {l : List ByteArray} {y : ByteArray} : y ∈ srtT l ↔ y ∈ l := by
  unfold srtT srtL
  rw [List.mem_map]
  constructor
  · rintro ⟨z, hz, rfl⟩
    obtain ⟨u, hu, rfl⟩ := List.mem_map.1 (List.mem_mergeSort.1 hz)
    rw [ofl_btl]; exact hu
  · intro h
    exact ⟨btl y, List.mem_mergeSort.2 (List.mem_map.2 ⟨y, h, rfl⟩), ofl_btl y⟩
theorem compact_sub {zs : List (List UInt8)} {x : List UInt8} (h : x ∈ Lib.compact zs) : x ∈ zs := by
  unfold Lib.compact Lib.compactUpTo at h
  obtain ⟨i, hi, rfl⟩ := List.mem_map.1 h
  have hi' := List.mem_range.1 (List.mem_filter.1 hi).1
  rw [getElem!_pos _ _ (by simpa using hi')]
  simp
theorem cmpT_sub {l : List ByteArray} {y : ByteArray} (h : y ∈ cmpT l) : y ∈ l := by
  obtain ⟨z, hz, rfl⟩ := List.mem_map.1 h
  obtain ⟨u, hu, rfl⟩ := List.mem_map.1 (compact_sub hz)
  rw [ofl_btl]; exact hu
set_option maxHeartbeats 8000000 in
theorem iTermNames (a : Option Addr) (cap : Nat) (xs : List Tn) (w : World) (hR : InN w a xs.length cap xs) :
    Calls Try.prog 7 #[.agg #[.slice a xs.length cap]] w fun e w' => (∃ av cv, e = .returned (.slice av (tnI xs).length cv) ∧ OT w' w.heap.size av cv (tnI xs)) ∧ Below w.heap.size w w' := by
  obtain ⟨i0, hi, hz0, hz1, hz2⟩ := info_parts infoStr
  have K0 := CS.made w _ rfl #[.slice a xs.length cap] 30
  have hBB : Below w.heap.size w (w.alloc (.cells #[.slice a xs.length cap] 30)) := old_alloc (Below.refl _ _) _
  have TO := hd (fun W (h : Below w.heap.size w W) => iTermOk a xs.length cap xs W (hR.old h))
  have k0 := K0.cell 0 _ rfl
  cases hok : okT xs
  · have hq : Hid (tnI xs = []) := by show _ = _; unfold tnI; rw [hok]; rfl
    rw [hok] at TO
    clear hok
    go_enter Try.func7, Try.ntmps7
    go_wp2_with fail
    refine (TO.out _ hBB).mono ?_
    rintro e w1 ⟨rfl, hb1⟩
    go_wp2
    go_ret
    rw [hq.out]
    exact ⟨⟨none, 0, rfl, OT.none _ _⟩, old_trans hBB hb1⟩
  have hq : Hid (tnI xs = if (gaN xs xs.length).length = 0 then [] else cmpT (srtT (gaN xs xs.length))) := by show _ = _; unfold tnI; rw [hok]; rfl
  have h100 := okT_len hok
  rw [hok] at TO
  clear hok
  have hsz : ∀ i, i < xs.length → (xs.getD i tn0).s.size ≤ maxLen := fun i hi => by
    obtain ⟨b, off, x, y, s, -, -, hx, hf, -⟩ := hR.at hi
    rw [hx]; exact hf.2.2
  have hfit := hd (gaN_fits hsz xs.length (Nat.le_refl _))
  have hRo := hd (fun W (h : Below w.heap.size w W) => hR.old h)
  clear hR hsz
  go_enter Try.func7, Try.ntmps7
  go_wp2_with fail
  refine (TO.out _ hBB).mono ?_
  rintro e w1 ⟨rfl, hb1⟩
  replace K0 := K0.later hb1
  replace hBB := old_trans hBB hb1
  clear k0 hb1 TO
  have hz := hBB.size
  have k0 := K0.cell 0 _ rfl
  go_wp2
  go_loopw [3, 12] (fun o i wr => ∃ (k : Nat), k ≤ xs.length ∧ i = .int .i64 (k : Int) ∧ TGrows wr w.heap.size o (gaN xs k) ∧ Below w.heap.size w wr) (fun _ i _ => xs.length - (intOf i).toNat)
  case atStart => exact ⟨0, by omega, rfl, TGrows.nil _ _, hBB⟩
  case round =>
    obtain ⟨k, hk, rfl, G, hb⟩ := hrel
    by_cases hlt : k < xs.length
    · obtain ⟨b, off, x, y, s, rfl, hbl, hx, hf, c0, c1, c2⟩ := (hRo.out _ hb).at hlt
      have hst := gaN_succ hlt
      rw [hx] at hst
      have hln := gaN_len k hk
      have hki : (k : Int) < (xs.length : Int) := by omega
      have hrz := hb.size
      clear hx
      have Gn := G.alloc (.cells #[.int .i64 x, .int .i64 y, .string s] 40)
      have Bn : Below w.heap.size w (wr.alloc (.cells #[.int .i64 x, .int .i64 y, .string s] 40)) := old_alloc hb _
      by_cases hn : x = 2 ∨ x = 13
      · have hst' : Hid (gaN xs (k + 1) = gaN xs k ++ [s]) := by show _ = _; rw [hst]; unfold gaStep; rw [if_pos hn]
        clear hst
        generalize gaN xs k = o at *
        have Ga := Gn.alloc (.cells #[.string s] 9)
        have Ba : Below w.heap.size w ((wr.alloc (.cells #[.int .i64 x, .int .i64 y, .string s] 40)).alloc (.cells #[.string s] 9)) := old_alloc Bn _
        have cw := cells_one (wr.alloc (.cells #[.int .i64 x, .int .i64 y, .string s] 40)) (wr.heap.size + 1) (by simp) (.string s) 9
        rcases hn with rfl | rfl
        all_goals
          go_wp2_with (at_builtin; refine wpList_append_own _ rfl _ _ 26 rfl w.heap.size 9 i0 _ 1 16 Try.underlying26 hi hz0 hz1 hz2 rfl (by decide) _ _ _ rfl Ga ⟨wr.heap.size + 1, 0, none⟩ 1 1 [.string s] rfl rfl cw (by simp [Value.oneCell']) (by unfold maxLen; omega) (by omega) (by simp; omega) ?_; intro v5 w5 hown hgrow _)
          have G5 := TGrows.of_own hown
          have B5 : Below w.heap.size w w5 := Ba.grown hgrow Ba.size (fun c e => by have := (World.ownsRow.lt Ga c e).1; omega)
          go_roundw
          case rel => exact ⟨k + 1, by omega, by go_num, by rw [hst'.out]; exact G5, B5⟩
          case measure => simp [intOf]; omega
      · have hst' : Hid (gaN xs (k + 1) = gaN xs k) := by show _ = _; rw [hst]; unfold gaStep; rw [if_neg hn]
        clear hst
        have hn1 : ¬ x = 2 := fun h => hn (.inl h)
        have hn2 : ¬ x = 13 := fun h => hn (.inr h)
        have hb1 : (x == 2) = false := by simpa using hn1
        have hb2 : (x == 13) = false := by simpa using hn2
        generalize gaN xs k = o at *
        go_wp2
        go_roundw
        case rel => exact ⟨k + 1, by omega, by go_num, by rw [hst'.out]; exact Gn, Bn⟩
        case measure => simp [intOf]; omega
    · obtain rfl : k = xs.length := by omega
      have hki : ¬ ((xs.length : Int) < (xs.length : Int)) := by omega
      have hln := gaN_len (xs := xs) xs.length (Nat.le_refl _)
      generalize gaN xs xs.length = l at *
      by_cases h0 : l.length = 0
      · rw [if_pos h0] at hq
        obtain rfl : l = [] := List.length_eq_zero_iff.1 h0
        obtain ⟨av, cv, rfl⟩ := TGrows.none G
        obtain ⟨av', cv', e', O'⟩ := G.ot tfits_nil
        injection e' with e1 e2 e3
        subst e1 e3
        clear e2 h0 hln
        go_wp2_with fail
        refine (sh_slices_Sort_string_none av cv _).mono ?_
        rintro e w2 ⟨rfl, rfl⟩
        go_wp2_with fail
        refine (sh_slices_Compact_string_empty av cv _).mono ?_
        rintro e w3 ⟨rfl, rfl⟩
        go_wp2
        go_ret
        rw [hq.out]
        exact ⟨⟨_, _, rfl, O'⟩, hb⟩
      · rw [if_neg h0] at hq
        obtain ⟨g, cp, rfl, hg1, hg2, hg3, -⟩ := G.row (by omega)
        have SO := hd (sortT G (by omega))
        have hfs : TFits (cmpT (srtT l)) := fits_sub hfit.out (fun x hx => srtT_mem.1 (cmpT_sub hx))
        have hfs' := hd hfs
        clear hfs
        go_wp2_with fail
        refine SO.out.mono ?_
        rintro e w2 ⟨rfl, G2, gr2⟩
        have hsl := srtT_length l
        have CO : Hid (Calls Try.prog 19 #[.slice (some ⟨g, 0, none⟩) l.length cp] w2 fun e w' => e = .returned (.slice (some ⟨g, 0, none⟩) (cmpT (srtT l)).length cp) ∧ TGrows w' w.heap.size (.slice (some ⟨g, 0, none⟩) (cmpT (srtT l)).length cp) (cmpT (srtT l)) ∧ w2.grownBy w' (some g)) := by
          have h9 := compactT (xs := srtT l) (by rw [hsl]; exact G2) (by omega)
          rw [hsl] at h9
          exact h9
        clear hsl
        have B2 : Below w.heap.size w w2 := hb.grown gr2 hb.size (fun c e => by injection e with e; omega)
        go_wp2_with fail
        refine CO.out.mono ?_
        rintro e w3 ⟨rfl, G3, gr3⟩
        have B3 : Below w.heap.size w w3 := B2.grown gr3 B2.size (fun c e => by injection e with e; omega)
        obtain ⟨av', cv', e', O'⟩ := G3.ot hfs'.out
        injection e' with e1 e2 e3
        subst e1 e3
        go_wp2
        go_ret
        rw [hq.out]
        exact ⟨⟨_, _, rfl, O'⟩, B3⟩
end Go.Proofs.Ytafpjgojmpjajaa
