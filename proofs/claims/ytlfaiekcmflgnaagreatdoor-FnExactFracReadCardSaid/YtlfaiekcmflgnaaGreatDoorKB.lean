/- A number in decimals, by the specification. Nothing that was there is written. No condition but that the list is there. -/
import Derived.Test.YtlfaiekcmflgnaaGreatDoorKA
import Derived.Test.YtlfaiekcmflgnaaGreatDoorBC
import Derived.Deep.LoopGhost
import Derived.Deep.AppendLies
import Derived.Laws.IdiomStrings
namespace Go.Proofs.YtlfaiekcmflgnaaGreatDoor
open Go.RowKit Go.Lib
set_option linter.unusedVariables false
set_option maxRecDepth 100000

/-- the text of a number; none, if the list is no number -/
def ntB (xs : List Int) : List UInt8 := if natOk xs then decDigits (val xs) else []
theorem infoByte : (Tryz.prog.info? 5).map (fun i => (i.zero, i.size, i.bytes)) = some (some (.int .u8 0), 1, 1) := by kernel_rfl
theorem info3 {P : Program} {t : TypeId} {z : Value} {n m : Nat} (h : (P.info? t).map (fun i => (i.zero, i.size, i.bytes)) = some (some z, n, m)) : ∃ i, P.info? t = some i ∧ i.zero = some z ∧ i.size = n ∧ i.bytes = m := by
  cases e : P.info? t with
  | none => rw [e] at h; cases h
  | some i => rw [e] at h; injection h with h; injection h with h1 h2; injection h2 with h2 h3; exact ⟨i, rfl, h1, h2, h3⟩
theorem addr0 (g j : Nat) : (⟨g, 0, none⟩ : Addr).add j = ⟨g, j, none⟩ := by
  cases j with
  | zero => rfl
  | succ j => simp [Addr.add]
theorem bC_snoc (l : List UInt8) (b : UInt8) : byteCells (l ++ [b]) = byteCells l ++ [.int .u8 (b.toNat : Int)] := by simp [byteCells]
theorem bC_len (l : List UInt8) : (byteCells l).length = l.length := by simp [byteCells]
theorem row_cells {w : World} {base g cap n : Nat} {e : TypeId} {vs : List Value} (h : w.ownsRow base e 1 (.slice (some ⟨g, 0, none⟩) n cap) n vs) : g < w.heap.size ∧ n ≤ cap ∧ cap ≤ maxLen ∧ ∀ i v, vs[i]? = some v → w.cell? ⟨g, i, none⟩ = some v := by
  have h' := h
  have hn : vs.length = n := by have := h.1; omega
  rcases h.2 with ⟨h0, _⟩ | ⟨g', cap', cur, hv, hb, hg, h1, h2, h3, h4⟩
  · cases h0
  · injection hv with hv1 hv2 hv3
    injection hv1 with hv1
    injection hv1 with hv1
    subst hv1 hv3
    refine ⟨(Array.getElem?_eq_some_iff.1 hg).1, h1, h2, fun i v hi => ?_⟩
    have hi2 := (List.getElem?_eq_some_iff.1 hi).1
    refine (World.ownsRow.cellAt h' i (by omega)).trans ?_
    exact hi
theorem later_row {w w' : World} {base size n : Nat} {e : TypeId} {v : Value} {vs : List Value} (h : w.ownsRow base e size v n vs) (k : Below w.heap.size w w') : w'.ownsRow base e size v n vs := by
  refine ⟨h.1, ?_⟩
  rcases h.2 with h0 | ⟨g, cap, cur, hv, hb, hg, h1⟩
  · exact .inl h0
  · exact .inr ⟨g, cap, cur, hv, hb, (k.block g (Array.getElem?_eq_some_iff.1 hg).1).trans hg, h1⟩
theorem len_of_pow {V k m : Nat} (h : k * 10 ^ m ≤ V) (hk : k ≠ 0) (hV : V < 65536 ^ 256) : m < 4096 := by
  have h1 : 10 ^ m ≤ V := Nat.le_trans (Nat.le_mul_of_pos_left _ (by omega)) h
  have h2 : 2 ^ m ≤ 10 ^ m := Nat.pow_le_pow_left (by decide) m
  have h3 : ∀ n : Nat, (65536 : Nat) ^ n = 2 ^ (16 * n) := fun n => by rw [show (65536 : Nat) = 2 ^ 16 from rfl, ← Nat.pow_mul]
  rw [h3] at hV
  have h4 : 2 ^ m < 2 ^ (16 * 256) := Nat.lt_of_le_of_lt (Nat.le_trans h2 h1) hV
  exact Nat.lt_of_lt_of_le ((Nat.pow_lt_pow_iff_right (by decide)).1 h4) (by decide)
theorem step_pow {V k m : Nat} (h : k * 10 ^ m ≤ V) : k / 10 * 10 ^ (m + 1) ≤ V := by
  refine Nat.le_trans ?_ h
  rw [Nat.pow_succ, Nat.mul_comm (10 ^ m) 10, ← Nat.mul_assoc]
  exact Nat.mul_le_mul_right _ (Nat.div_mul_le_self k 10)
theorem drop_rev (l : List UInt8) {j : Nat} (hj : j < l.length) : (l.drop j).reverse = (l.drop (j + 1)).reverse ++ [l[j]] := by
  rw [List.drop_eq_getElem_cons hj, List.reverse_cons]
set_option maxRecDepth 100000 in
set_option maxHeartbeats 4000000 in
theorem sText (a : Option Addr) (cap V : Nat) (w : World) (hR : InI w a (natL V).length cap (natL V)) (h0 : V ≠ 0) (hV : V < 65536 ^ 256) :
    Calls Tryz.prog 52 #[.slice a (natL V).length cap] w fun e w' => e = .returned (.string ⟨(decDigits V).toArray⟩) ∧ Below w.heap.size w w' := by
  obtain ⟨i0, hi, hz0, hz1, hz2⟩ := info3 infoByte
  have OK := hd (sNatOk a _ cap (natL V) w hR)
  rw [natOk_natL hV] at OK
  have hlp : 0 < (natL V).length := natL_length_pos (by omega)
  have hl256 : (natL V).length ≤ 256 := natL_len.2 hV
  have hV' := hd hV
  have hfar := hR.far
  have hln : ¬ ((natL V).length : Int) = 0 := by omega
  have hln2 : (((natL V).length : Int) == 0) = false := by rw [beq_eq_false_iff_ne]; exact hln
  clear hV
  go_enter Tryz.func52, Tryz.ntmps52
  go_wp2_with fail
  refine OK.out.mono ?_
  rintro ev w1 ⟨rfl, rfl⟩
  clear OK
  go_wp2_with fail
  go_loopg [3, 4] V (fun k s t wr => ∃ (av : Option Addr) (cv : Nat) (l : List UInt8), t = .slice av (natL k).length cv ∧ InI wr av (natL k).length cv (natL k) ∧ wr.ownsRow w1.heap.size 5 1 s l.length (byteCells l) ∧ dD V = dD k ++ l.reverse ∧ k * 10 ^ l.length ≤ V ∧ l.length ≤ 4096 ∧ (natL k).length ≤ 256 ∧ (0 < (natL k).length → ∀ q, av = some q → some q.block ≠ s.ownBlock) ∧ Below w1.heap.size w1 wr)
  case atStart => exact ⟨a, cap, [], rfl, hR, World.ownsRow_nil _ _ _ _, by simp, by simp, by simp, hl256, fun _ q e => by simp [Value.ownBlock], Below.refl _ _⟩
  case round =>
    obtain ⟨av, cv, l, rfl, hI, OW, hdd, hpw, hll, hlk, hsp, hB⟩ := hrel
    by_cases hk : gk = 0
    · subst hk
      have e0 : natL 0 = [] := natL_zero
      rw [e0, List.length_nil] at hI
      rw [e0, List.length_nil]
      rw [dD_pos h0, dD_zero, List.nil_append] at hdd
      have hdd' := hd hdd
      have hl0 : l ≠ [] := by
        intro e; rw [e] at hdd
        exact dec_ne _ (by simpa using hdd)
      have hl1 : 0 < l.length := by
        cases l with
        | nil => exact absurd rfl hl0
        | cons b t => simp
      obtain ⟨g, cp, rfl, -, -⟩ := OW.form (by omega)
      have rc := row_cells OW
      have hll' : (l.length : Int) ≤ 4096 := by omega
      clear hdd hpw hlk hsp hl0 OW hI e0
      obtain ⟨W2, rfl⟩ : ∃ W2, W2 = wr := ⟨_, rfl⟩
      go_wp2_with fail
      go_loopw [7, 8] (fun v i wr => ∃ (j : Nat), j ≤ l.length ∧ i = .int .i64 ((j : Int) - 1) ∧ wr.ownsRow W2.heap.size 5 1 v (l.length - j) (byteCells (l.drop j).reverse) ∧ Below W2.heap.size W2 wr) (fun _ i _ => (Lib.intOf i + 1).toNat)
      case atStart => exact ⟨l.length, Nat.le_refl _, by go_num, by rw [Nat.sub_self, List.drop_length]; exact World.ownsRow_nil _ _ _ _, Below.refl _ _⟩
      case round =>
        obtain ⟨j, hj, rfl, OW2, hB2⟩ := hrel
        cases j with
        | zero =>
          rw [Nat.sub_zero, List.drop_zero] at OW2
          obtain ⟨g2, cp2, rfl, -, -⟩ := OW2.form (by omega)
          have rc2 := row_cells OW2
          have cv9 : (convert 30 9 (.slice (some ⟨g2, 0, none⟩) l.length cp2)).run Tryz.prog wr = .ok (.string ⟨l.reverse.toArray⟩) wr := by
            have h := run_convert_bytes_back (P := Tryz.prog) wr 30 9 5 ⟨g2, 0, none⟩ cp2 l.reverse Tryz.underlying30 Tryz.underlying5 Tryz.underlying9 (fun j hj => by
              have h1 := rc2.2.2.2 j (.int .u8 ((l.reverse[j]).toNat : Int)) (by unfold byteCells; rw [List.getElem?_map, List.getElem?_eq_getElem hj]; rfl)
              rw [show (⟨g2, 0, none⟩ : Addr).add j = ⟨g2, j, none⟩ from addr0 g2 j]; exact h1)
            rw [List.length_reverse] at h
            exact h
          clear rc rc2 OW2
          go_wp2
          go_ret
          exact ⟨by rw [hdd'.out]; rfl, old_trans hB hB2⟩
        | succ j =>
          have hj1 : j < l.length := by omega
          have e1 : ((j + 1 : Nat) : Int) - 1 = (j : Int) := by omega
          rw [e1]
          have cj := (hB2.cell (p := ⟨g, j, none⟩) rc.1).trans (rc.2.2.2 j (.int .u8 ((l[j]).toNat : Int)) (by unfold byteCells; rw [List.getElem?_map, List.getElem?_eq_getElem hj1]; rfl))
          have hdr := hd (drop_rev l hj1)
          have hB3 : Below W2.heap.size W2 (wr.alloc (.cells #[.int .u8 ((l[j]).toNat : Int)] 5)) := old_alloc hB2 _
          have OW4 := later_row OW2 (old_alloc (Below.refl _ _) (.cells #[.int .u8 ((l[j]).toNat : Int)] 5) : Below wr.heap.size wr (wr.alloc (.cells #[.int .u8 ((l[j]).toNat : Int)] 5)))
          have hsz2 := hB2.size
          have hge : (0 : Int) ≤ (j : Int) := by omega
          have hjl : (j : Int) < (l.length : Int) := by omega
          have hlt2 := OW2.lt
          generalize l[j] = bj at *
          clear rc e1 OW2
          go_wp2_with (at_builtin; refine wpList_append_lies _ (by rfl) _ _ 30 (by rfl) W2.heap.size 5 i0 _ 1 1 Tryz.underlying30 hi hz0 hz1 hz2 rfl (by decide) _ _ _ (by rfl) OW4 ⟨_, 0, none⟩ 1 1 [.int .u8 (bj.toNat : Int)] (by rfl) rfl (cells_one _ _ rfl _ _) (by simp [Value.oneCell']) (by decide) (by unfold maxLen; omega) (by omega) (by simp; omega) _ rfl ?_; intro g' cap' w5 hown hgrow hat5 hlt5)
          go_wp2
          go_roundw
          case rel =>
            refine ⟨j, by omega, by go_num, ?_, hB3.grown hgrow hB3.size (fun q e => by have := hlt2 q e; omega)⟩
            rw [hdr.out, bC_snoc]
            have e9 : l.length - (j + 1) + 1 = l.length - j := by omega
            rw [e9] at hown
            rw [e9]
            exact hown
          case measure => simp [Lib.intOf]
    · have hkp : 0 < (natL gk).length := natL_length_pos (by omega)
      have D := hd (sDivSmall av _ cv (natL gk) 10 wr hI (digs_natL gk) (by decide) (by decide) (by omega))
      rw [val_natL] at D
      have hst := hd (dD_step hk)
      have hq9 : gk / 10 < gk := by omega
      have hsp' := hd (step_pow hpw)
      have hlm := len_of_pow hpw hk hV'.out
      have hlq : (natL (gk / 10)).length ≤ 256 := Nat.le_trans (natL_le (Nat.div_le_self _ _)) hlk
      have hr9 : gk % 10 < 10 := Nat.mod_lt _ (by decide)
      have hpi : (0 : Int) < ((natL gk).length : Int) := by omega
      obtain ⟨r, hr⟩ : ∃ r, gk % 10 = r := ⟨_, rfl⟩
      obtain ⟨q, hq⟩ : ∃ q, gk / 10 = q := ⟨_, rfl⟩
      rw [hr, hq] at D hst
      rw [hr] at hr9
      rw [hq] at hq9 hsp' hlq
      have hq9' := hd hq9
      have hrI : (r : Int) < 10 := by omega
      have hw8 : IntKind.u8.wrap (48 + (r : Int)) = ((UInt8.ofNat (48 + r)).toNat : Int) := by
        have : (UInt8.ofNat (48 + r)).toNat = 48 + r := by simp; omega
        rw [this]
        simp [IntKind.wrap, IntKind.bits, IntKind.signed]; omega
      have hdV : Hid (dD V = dD q ++ (l ++ [UInt8.ofNat (48 + r)]).reverse) := by
        show _ = _
        rw [hdd, hst.out]; simp
      have hge3 := hd (fun av cv w (h : OI w wr.heap.size av cv (natL q)) => h.ge)
      clear hr hq hq9 hpw hlk hk hdd hst
      go_wp2_with fail
      refine D.out.mono ?_
      rintro e w3 ⟨⟨avq, cvq, rfl, hOq⟩, hb3⟩
      have OW3 := later_row (later_row OW hb3) (old_alloc (Below.refl _ _) (.cells #[.int .u8 ((UInt8.ofNat (48 + r)).toNat : Int)] 5) : Below w3.heap.size w3 (w3.alloc (.cells #[.int .u8 ((UInt8.ofNat (48 + r)).toNat : Int)] 5)))
      have hB4 : Below w1.heap.size w1 (w3.alloc (.cells #[.int .u8 ((UInt8.ofNat (48 + r)).toNat : Int)] 5)) := old_alloc (old_trans hB hb3) _
      have hO4 := hOq.alloc (.cells #[.int .u8 ((UInt8.ofNat (48 + r)).toNat : Int)] 5)
      have hlt3 := OW.lt
      have hsz3 := hb3.size
      have hsz1 := hB.size
      generalize UInt8.ofNat (48 + r) = bj at *
      clear OW
      go_wp2_with (at_builtin; refine wpList_append_lies _ (by rfl) _ _ 30 (by rfl) w1.heap.size 5 i0 _ 1 1 Tryz.underlying30 hi hz0 hz1 hz2 rfl (by decide) _ _ _ (by rfl) OW3 ⟨_, 0, none⟩ 1 1 [.int .u8 (bj.toNat : Int)] (by rfl) rfl (cells_one _ _ rfl _ _) (by simp [Value.oneCell']) (by decide) (by unfold maxLen; omega) (by omega) (by simp; omega) _ rfl ?_; intro g' cap' w5 hown hgrow hat5 hlt5)
      go_wp2
      go_roundg q
      case measure => exact hq9'.out
      case rel =>
        refine ⟨avq, cvq, l ++ [bj], rfl, hO4.inI.kept hgrow (fun _ q' e e2 => ?_), ?_, hdV.out, ?_, ?_, hlq, fun _ q' e e2 => ?_, hB4.grown hgrow hB4.size (fun q' e => (hlt3 q' e).1)⟩
        · have h1 := hOq.ge q' e
          have h2 := (hlt3 _ e2.symm).2
          omega
        · rw [bC_snoc, List.length_append, List.length_singleton]; exact hown
        · rw [List.length_append, List.length_singleton]; exact hsp'.out
        · rw [List.length_append, List.length_singleton]; omega
        · have h1 := hOq.ge q' e
          have h3 := hOq.lt q' e
          simp only [Value.ownBlock, Option.some.injEq] at e2
          rcases hat5 with h | h
          · have h2 := (hlt3 _ h).2
            omega
          · rw [World.size_alloc] at h
            omega
end Go.Proofs.YtlfaiekcmflgnaaGreatDoor
