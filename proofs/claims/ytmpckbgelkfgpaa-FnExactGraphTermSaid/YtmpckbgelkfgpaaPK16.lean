/- Whether two nodes of a list are one, by the program: a map counts them. No condition but that the list is there. -/
import Derived.Test.YtmpckbgelkfgpaaPK01
import Derived.Test.YtmpckbgelkfgpaaPK15
import Derived.Deep.RegionHeld3
import Derived.Deep.DeepCutAuto
namespace Go.Proofs.Ytmpckbgelkfgpaa
open Go.RowKit
set_option linter.unusedVariables false
set_option maxRecDepth 100000

theorem zeroInt (w : World) : (zeroValue 3).run Try.prog w = .ok (.int .i64 0) w := by kernel_rfl
theorem take_map_step (xs : List Gn) (k : Nat) (hk : k < xs.length) : (xs.take (k + 1)).map gk = (xs.take k).map gk ++ [gk (xs.getD k gn0)] := by
  rw [List.take_add_one, List.getElem?_eq_getElem hk, List.map_append]
  simp [List.getD_eq_getElem?_getD, List.getElem?_eq_getElem hk]
theorem nodup_gk {xs : List Gn} (h : ∀ x ∈ xs, x.fit) : (xs.map gk).Nodup ↔ xs.Nodup := by
  unfold List.Nodup
  rw [List.pairwise_map]
  constructor
  · exact fun q => q.imp fun hne e => hne (by rw [e])
  · intro q
    refine q.imp_of_mem fun ha hb hne e => hne (gk_inj (h _ ha) (h _ hb) e)
set_option maxRecDepth 100000 in
set_option maxHeartbeats 4000000 in
theorem iTwiceGn (a : Option Addr) (len cap : Nat) (xs : List Gn) (w : World) (hR : InGn w a len cap xs) (hl : len ≤ 1048576) :
    Calls Try.prog 119 #[.slice a len cap] w fun e w' => BoolIs e (¬ xs.Nodup) ∧ Below w.heap.size w w' := by
  have hmm := @run_makeMap Try.prog
  have hfit := hR.2.2.2.1
  have hlen := hR.1
  have hfin : Hid (∀ D : DataW Unit, Seen D ((xs.take len).map gk) → (Maps.size D ≤ len ∧ (((Maps.size D : Int) < (len : Int)) ↔ ¬ xs.Nodup))) := fun D h => by
    have e : xs.take len = xs := List.take_of_length_le (by omega)
    rw [e] at h
    have h1 := h.le
    have h2 := h.eq
    rw [nodup_gk hfit, List.length_map] at h2
    rw [List.length_map] at h1
    refine ⟨by omega, ?_⟩
    rw [← h2]
    omega
  replace hlen := hd hlen
  clear hfit
  go_enter Try.func119, Try.ntmps119
  go_wp2
  go_loopw [9] (fun i wr => ∃ (k : Nat) (D : DataW Unit), k ≤ len ∧ i = .int .i64 k ∧ wr.ownsMap Try.prog 149 (plainElem Try.prog 3) w.heap.size k D ∧ Hid (Seen D ((xs.take k).map gk)) ∧ Below w.heap.size w wr) (fun i _ => len - (intOf i).toNat)
  case atStart => exact ⟨0, .map [], Nat.zero_le _, rfl, World.ownsMap_made _ _ _ _, hd (by simpa using Seen.none), (Below.refl _ _).alloc (Nat.le_refl _) _⟩
  case round =>
    obtain ⟨k, D, hk, rfl, hown, hseen, hb⟩ := hrel
    by_cases hlt : k < len
    · obtain ⟨bl, off, k', u', v', n', s', rfl, hbl, hx, hf, c0, c1, c2, c3, c4⟩ := (hR.old hb).at hlt
      have hkey := gnKey _ hf
      have hstep := hd ((take_map_step xs k (by have := hlen.out; omega)).trans (by rw [hx]))
      obtain ⟨c, d, st, w1, L, M, L1, G1, ST⟩ := count_up (hown.alloc (.cells #[.int .i64 k', .int .i64 u', .int .i64 v', .int .i64 n', .string s'] 149)).drew gnLaw Try.underlying177 Try.underlying3 zeroInt (by unfold maxLen; omega) hkey
      obtain ⟨w2, S2, own2, G2⟩ := ST (wrap64 (c + 1)) (wrap64_wf _)
      obtain ⟨w3, S3, own3, G3⟩ := ST (wrap64 (d + 1)) (wrap64_wf _)
      replace hkey := hd ((Maps.Keyed.of_law gnLaw).key hkey)
      unfold gv at L M L1
      replace S2 : (Instr.entryStore 177 (.map (some w.heap.size)) (.int .i64 st) (.int .i64 (wrap64 (c + 1)))).run Try.prog w1 = .ok () w2 := S2
      replace S3 : (Instr.entryStore 177 (.map (some w.heap.size)) (.int .i64 st) (.int .i64 (wrap64 (d + 1)))).run Try.prog w1 = .ok () w3 := S3
      clear hx hf hfin ST
      go_upto_region 5 with fail
      have K5 := CS.made wr _ rfl #[.int .i64 k', .int .i64 u', .int .i64 v', .int .i64 n', .string s'] 149
      have n0 : (wr.alloc (.cells #[.int .i64 k', .int .i64 u', .int .i64 v', .int .i64 n', .string s'] 149)).drew.cell? ⟨wr.heap.size, 0, none⟩ = _ := K5.cell 0 _ rfl
      have n1 : (wr.alloc (.cells #[.int .i64 k', .int .i64 u', .int .i64 v', .int .i64 n', .string s'] 149)).drew.cell? ⟨wr.heap.size, 1, none⟩ = _ := K5.cell 1 _ rfl
      have n2 : (wr.alloc (.cells #[.int .i64 k', .int .i64 u', .int .i64 v', .int .i64 n', .string s'] 149)).drew.cell? ⟨wr.heap.size, 2, none⟩ = _ := K5.cell 2 _ rfl
      have n3 : (wr.alloc (.cells #[.int .i64 k', .int .i64 u', .int .i64 v', .int .i64 n', .string s'] 149)).drew.cell? ⟨wr.heap.size, 3, none⟩ = _ := K5.cell 3 _ rfl
      have n4 : (wr.alloc (.cells #[.int .i64 k', .int .i64 u', .int .i64 v', .int .i64 n', .string s'] 149)).drew.cell? ⟨wr.heap.size, 4, none⟩ = _ := K5.cell 4 _ rfl
      have hB := old_alloc hb (.cells #[.int .i64 k', .int .i64 u', .int .i64 v', .int .i64 n', .string s'] 149)
      clear K5 c0 c1 c2 c3 c4
      generalize wr.alloc (.cells #[.int .i64 k', .int .i64 u', .int .i64 v', .int .i64 n', .string s'] 149) = W at *
      go_region
      · go_wp2
        go_roundw
        case rel => exact ⟨k + 1, _, by omega, by go_num, own2, hd (by rw [hstep.out]; exact hseen.out.put hkey.out _), hB.drew.grown G2 hB.size (fun j hj => by cases hj; exact Nat.le_refl _)⟩
        case measure => simp [intOf]; omega
      · go_wp2
        go_roundw
        case rel => exact ⟨k + 1, _, by omega, by go_num, own3, hd (by rw [hstep.out]; exact hseen.out.put hkey.out _), hB.drew.grown G3 hB.size (fun j hj => by cases hj; exact Nat.le_refl _)⟩
        case measure => simp [intOf]; omega
    · obtain rfl : k = len := by omega
      have hn : ¬ ((k : Int) < (k : Int)) := by omega
      have hq := hd (hfin.out D hseen.out)
      have hln := fun ty => hown.len Try.underlying177 ty
      go_wp2
      go_ret
      exact ⟨BoolIs.mk (by have q := hq.out.2; simpa using q), hb⟩
end Go.Proofs.Ytmpckbgelkfgpaa
