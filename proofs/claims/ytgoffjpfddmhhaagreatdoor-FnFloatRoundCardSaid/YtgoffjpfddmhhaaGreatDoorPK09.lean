/- Differences, by the specification and by the program. Conditions: numbers, the second not above the first. -/
import Derived.Test.YtgoffjpfddmhhaaGreatDoorPK07
import Derived.Test.YtgoffjpfddmhhaaGreatDoorPK08
import Derived.Deep.RegionWith
namespace Go.Proofs.YtgoffjpfddmhhaaGreatDoor
open Go.RowKit
set_option linter.unusedVariables false
set_option maxRecDepth 100000

theorem sub_end {n : Nat} {xs ys o : List Int} {c : Int} (h : MixG n xs ys o 1 (-1) c) (hx : xs.length = n) (hy : ys.length ≤ n) (hd : digs xs) (hle : val ys ≤ val xs) : val o = val xs - val ys := by
  have ha := h.all (by omega) hy
  have hq := val_lt h.2.1
  rw [h.1] at hq
  have hl := val_lt hd
  rw [hx] at hl
  have e := pow_cast n
  have := mix_end (V := ((val xs : Nat) : Int) - ((val ys : Nat) : Int)) (by rw [ha]; omega) hq (by omega) (by omega)
  omega
set_option maxHeartbeats 2000000 in
theorem sSub (a b : Option Addr) (la lb ca cb : Nat) (xs ys : List Int) (w : World) (hA : InI w a la ca xs) (hB : InI w b lb cb ys) (hx : digs xs) (hy : digs ys) (hla : la ≤ 1048576) (hlb : lb ≤ la) (hle : val ys ≤ val xs) :
    Calls Tryz.prog 73 #[.slice a la ca, .slice b lb cb] w fun e w' => (∃ av cv, e = .returned (.slice av (natL (val xs - val ys)).length cv) ∧ OI w' w.heap.size av cv (natL (val xs - val ys))) ∧ Below w.heap.size w w' := by
  obtain ⟨i0, hi, hz0, hz1, hz2⟩ := info_parts infoInt
  have pa := hA.1
  have pb := hB.1
  have hend := hd (fun o c h => sub_end (n := la) (xs := xs) (ys := ys) (o := o) (c := c) h pa (by omega) hx hle)
  obtain ⟨D, hD⟩ : ∃ D, D = val xs - val ys := ⟨_, rfl⟩
  rw [← hD] at hend ⊢
  clear hD hle
  go_enter Tryz.func73, Tryz.ntmps73
  go_wp2
  go_loopw [5, 6, 7] (fun o c i wr => ∃ (k : Nat) (qs : List Int) (br : Int), k ≤ la ∧ c = .int .i64 br ∧ i = .int .i64 k ∧ MixG k xs ys qs 1 (-1) (-br) ∧ (0 ≤ br ∧ br ≤ 1) ∧ IGrows wr w.heap.size o qs ∧ Below w.heap.size w wr) (fun _ _ i _ => la - (intOf i).toNat)
  case atStart => exact ⟨0, [], 0, by omega, rfl, rfl, MixG.zero _ _ _ _, by omega, IGrows.nil _ _, Below.refl _ _⟩
  case round =>
    obtain ⟨k, qs, br, hk, rfl, rfl, hM, hc, G, hb⟩ := hrel
    have hql := hM.1
    have hsz := hb.size
    by_cases hlt : k < la
    · have dx := digs_getD hx k
      have dy := digs_getD hy k
      obtain ⟨b1, o1, x, rfl, hb1, ex, -, c1⟩ := (hA.old hb).at hlt
      have SB := hd (fun w' (h : Below w.heap.size w w') => sAt b lb cb ys k w' (hB.old h))
      have hst := hd (fun d c' h1 h2 => hM.step hx hy (-br + xs.getD k 0 * 1 + ys.getD k 0 * (-1)) d c' rfl h1 h2)
      rw [ex] at hst dx
      generalize ys.getD k 0 = y at *
      unfold dig at dx dy
      clear ex hM hend
      by_cases hneg : x - y - br < 0
      · have h2 := hd (hst.out (x - y - br + 65536) (-1) (by unfold dig; omega) (by omega))
        clear hst
        have hbd : 0 ≤ x - y - br + 65536 := by omega
        have hbd2 : x - y - br + 65536 < 65536 := by omega
        go_wp2_with fail
        go_region_with (go_at_call 93; refine (SB.out _ (by first | exact hb | exact hb.drew)).mono ?_; rintro e w1 ⟨rfl, rfl⟩)
        all_goals
          have G2 := (show IGrows wr.drew w.heap.size u5 qs from G).alloc (.cells #[.int .i64 (x - y - br + 65536)] 3)
          have B2 : Below w.heap.size w (wr.drew.alloc (.cells #[.int .i64 (x - y - br + 65536)] 3)) := old_alloc hb.drew _
          have cw := cells_one wr.drew wr.drew.heap.size rfl (.int .i64 (x - y - br + 65536)) 3
          go_wp2_with (at_builtin; refine wpList_append_own _ rfl _ _ 23 rfl w.heap.size 3 i0 _ 1 8 Tryz.underlying23 hi hz0 hz1 hz2 rfl (by decide) _ _ _ rfl G2 ⟨_, 0, none⟩ 1 1 [.int .i64 (x - y - br + 65536)] rfl rfl cw (by simp [Value.oneCell']) (by rw [hql]; unfold maxLen; omega) (by rw [hql]; omega) (by simp; omega) ?_; intro v' w5 hown hgrow _)
          go_roundw
          case rel =>
            refine ⟨k + 1, _, 1, by omega, rfl, by go_num, h2.out, by omega, ?_, ?_⟩
            · unfold IGrows
              rw [ints_snoc, List.length_append]
              exact hown
            · exact B2.grown hgrow B2.size (fun c e => by have := (World.ownsRow.lt G2 c e).1; omega)
          case measure => simp [intOf]; omega
      · have h2 := hd (hst.out (x - y - br) 0 (by unfold dig; omega) (by omega))
        clear hst
        go_wp2_with fail
        go_region_with (go_at_call 93; refine (SB.out _ (by first | exact hb | exact hb.drew)).mono ?_; rintro e w1 ⟨rfl, rfl⟩)
        all_goals
          have G2 := (show IGrows wr.drew w.heap.size u5 qs from G).alloc (.cells #[.int .i64 (x - y - br)] 3)
          have B2 : Below w.heap.size w (wr.drew.alloc (.cells #[.int .i64 (x - y - br)] 3)) := old_alloc hb.drew _
          have cw := cells_one wr.drew wr.drew.heap.size rfl (.int .i64 (x - y - br)) 3
          go_wp2_with (at_builtin; refine wpList_append_own _ rfl _ _ 23 rfl w.heap.size 3 i0 _ 1 8 Tryz.underlying23 hi hz0 hz1 hz2 rfl (by decide) _ _ _ rfl G2 ⟨_, 0, none⟩ 1 1 [.int .i64 (x - y - br)] rfl rfl cw (by simp [Value.oneCell']) (by rw [hql]; unfold maxLen; omega) (by rw [hql]; omega) (by simp; omega) ?_; intro v' w5 hown hgrow _)
          go_roundw
          case rel =>
            refine ⟨k + 1, _, 0, by omega, rfl, by go_num, h2.out, by omega, ?_, ?_⟩
            · unfold IGrows
              rw [ints_snoc, List.length_append]
              exact hown
            · exact B2.grown hgrow B2.size (fun c e => by have := (World.ownsRow.lt G2 c e).1; omega)
          case measure => simp [intOf]; omega
    · obtain rfl : k = la := by omega
      have he := hend.out qs _ hM
      obtain ⟨av, cv, rfl, ho⟩ := G.oi (digs_fits hM.2.1)
      have T := hd (sTrim av qs.length cv qs wr ho.inI hM.2.1 (by omega))
      rw [he, hql] at T
      have hb' := hd hb
      clear hM hend he ho G
      go_wp2_with fail
      refine T.out.mono ?_
      rintro e w1 ⟨⟨av2, cv2, rfl, hO⟩, hb1⟩
      go_wp2
      go_ret
      exact ⟨⟨_, _, rfl, hO.mono hsz⟩, old_trans hb'.out hb1⟩
set_option maxHeartbeats 1000000 in
theorem iMinus (a b : Option Addr) (la lb ca cb : Nat) (xs ys : List Int) (w : World) (hA : InI w a la ca xs) (hB : InI w b lb cb ys) (hx : digs xs) (hy : digs ys) (hla : la ≤ 1048576) (hlb : lb ≤ 1048576) (hle : val ys ≤ val xs) :
    Calls Tryz.prog 175 #[.slice a la ca, .slice b lb cb] w fun e w' => (∃ av cv, e = .returned (.slice av (natL (val xs - val ys)).length cv) ∧ OI w' w.heap.size av cv (natL (val xs - val ys))) ∧ Below w.heap.size w w' := by
  have hs := sum_lt hx hy hA.1 hB.1
  have M := hd (iMixed a b la lb ca cb xs ys 1 (-1) 1 w hA hB hx hy hla hlb (by omega) (by omega) (by omega) (by omega) ((val xs - val ys : Nat) : Int) (by omega) (by omega) (by omega))
  rw [Int.toNat_natCast] at M
  clear hs hle
  generalize natL (val xs - val ys) = ql at *
  go_enter Tryz.func175, Tryz.ntmps175
  go_wp2_with fail
  refine M.out.mono ?_
  rintro e w1 ⟨⟨av, cv, rfl, hO⟩, hb1⟩
  go_wp2
  go_ret
  exact ⟨⟨_, _, rfl, hO⟩, hb1⟩
end Go.Proofs.YtgoffjpfddmhhaaGreatDoor
