/- TermPut of the specification at every argument. No condition but that the lists are there. -/
import Derived.Test.YtmpckbgelkfgpaaPK22
import Derived.Deep.AppendLies
import Derived.Deep.RegionLaw
import Derived.Deep.RegionHeld3
import Derived.Test.YtmpckbgelkfgpaaPK01
import Derived.Deep.DeepCutAuto
namespace Go.Proofs.Ytmpckbgelkfgpaa
open Go.RowKit
set_option linter.unusedVariables false
set_option maxRecDepth 100000

theorem cells_three (w : World) (b : Nat) (hb : b = w.heap.size) (x y z : Value) (t : TypeId) : ∀ j u, [x, y, z][j]? = some u → (w.alloc (.cells #[x, y, z] t)).cell? ((⟨b, 0, none⟩ : Addr).add j) = some u := by
  subst hb
  intro j u h
  match j, h with
  | 0, h => simp at h; subst h; simp [Addr.add]
  | 1, h => simp at h; subst h; simp [Addr.add]
  | 2, h => simp at h; subst h; simp [Addr.add]
  | j + 3, h => simp at h
theorem grown_cell (w : World) (b : Nat) (v : Value) : w.grownBy (w.setCell ⟨b, 0, none⟩ v) (some b) := ⟨rfl, rfl, rfl, by simp [World.setCell], fun k _ hk => Below.heap_setCell _ _ _ _ (fun e => hk (by rw [e]))⟩
theorem TnGrows.set {w : World} {base b : Nat} {v : Value} {ps : List Tn} (h : TnGrows w base v ps) (hb : b < base) (u : Value) : TnGrows (w.setCell ⟨b, 0, none⟩ u) base v ps := h.kept (grown_cell w b u) (fun c e => by cases e; exact hb)
theorem Cl1.set {w : World} {b : Nat} {v : Value} (h : Cl1 w b v) (u : Value) : Cl1 (w.setCell ⟨b, 0, none⟩ u) b u := ⟨World.cell?_setCell_same _ _ _ h.1, by simpa using h.2.1, by simpa [World.setCell] using h.2.2⟩
theorem Cl1.other {w : World} {b c : Nat} {v : Value} (h : Cl1 w b v) (hn : b ≠ c) (u : Value) : Cl1 (w.setCell ⟨c, 0, none⟩ u) b v := h.kept (grown_cell w c u) (fun e => hn (by injection e))
theorem tsx_getD {ts : List Te} {i : Nat} (h : i < ts.length) : (ts.map Te.xs).getD i [] = (ts.getD i te0).xs := by simp [List.getD_eq_getElem?_getD, h]
theorem InTs.fits {w : World} {a : Option Addr} {len cap : Nat} {ts : List Te} (h : InTs w a len cap ts) : ∀ z ∈ ts.map Te.xs, TnFits z := by
  intro z hz
  obtain ⟨t, ht, rfl⟩ := List.mem_map.1 hz
  exact (h.2.2.2.1 t ht).2.2.2.1
end Go.Proofs.Ytmpckbgelkfgpaa

/- TermPut of the program: what stands for a node, and which terms are none. No condition but that the lists are there. -/
namespace Go.Proofs.Ytmpckbgelkfgpaa
open Go.RowKit
set_option linter.unusedVariables false
set_option maxRecDepth 100000

theorem addr_add (b o j : Nat) : (⟨b, o, none⟩ : Addr).add j = ⟨b, o + j, none⟩ := by
  by_cases h : j = 0
  · subst h; simp [Addr.add]
  · simp [Addr.add, h]
theorem InN.news {w : World} {a : Option Addr} {len cap : Nat} {xs : List Tn} (h : InN w a len cap xs) (h0 : 0 < len) : ∃ b off : Nat, a = some ⟨b, off, none⟩ ∧ b < w.heap.size ∧ ∀ j u, (tnvs xs)[j]? = some u → w.cell? ((⟨b, off, none⟩ : Addr).add j) = some u := by
  rcases h.2.2.2.2 with g | ⟨b, off, e, hb, hc⟩
  · omega
  · refine ⟨b, off, e, hb, fun j u hj => ?_⟩
    rw [addr_add]
    have hjl : j < (tnvs xs).length := (List.getElem?_eq_some_iff.1 hj).1
    rw [tnvs_len] at hjl
    have hi : j / 3 < xs.length := by omega
    have hf : j % 3 < 3 := by omega
    have hd : j = j / 3 * 3 + j % 3 := by omega
    rw [hd, tnvs_get xs _ _ hi hf] at hj
    obtain ⟨q0, q1, q2⟩ := hc (j / 3) (by have := h.1; omega)
    have h3 : j % 3 = 0 ∨ j % 3 = 1 ∨ j % 3 = 2 := by omega
    rcases h3 with g | g | g
    · rw [g] at hj; obtain rfl := Option.some.inj hj
      rw [show off + j = off + j / 3 * 3 by omega]; exact q0
    · rw [g] at hj; obtain rfl := Option.some.inj hj
      rw [show off + j = off + j / 3 * 3 + 1 by omega]; exact q1
    · rw [g] at hj; obtain rfl := Option.some.inj hj
      rw [show off + j = off + j / 3 * 3 + 2 by omega]; exact q2
end Go.Proofs.Ytmpckbgelkfgpaa

/- TermPut over copies that a law makes; its answer, marked and held. Condition: 2^20 nodes at most where they are marked. -/
namespace Go.Proofs.Ytmpckbgelkfgpaa
open Go.RowKit
set_option linter.unusedVariables false
set_option maxRecDepth 100000

set_option maxHeartbeats 2000000 in
theorem lMarkTermG (base : Nat) (av : Option Addr) (cv : Nat) (xs : List Tn) (k : Int) (w : World) (h : OTn w base av cv xs) (hl : xs.length ≤ 1048576) (k0 : 0 ≤ k) (k1 : k ≤ 16777216) :
    Calls Try.prog 27 #[.agg #[.slice av xs.length cv], .int .i64 k] w fun e w' => e = .returned (.int .i64 (k + 3 * xs.length)) ∧ OTn w' base av cv (tnmarks k xs.length) ∧ w.grownBy w' (ownB av) := by
  have hal : Below w.heap.size w (w.alloc (.cells #[.slice av xs.length cv] 49)) := old_alloc (Below.refl _ _) _
  have MN := hd (lMarkTnO base av cv xs k _ (h.later hal) hl k0 k1)
  have hg0 : w.grownBy (w.alloc (.cells #[.slice av xs.length cv] 49)) (ownB av) := ⟨hal.1, hal.2, hal.3, hal.4, fun j hj _ => hal.5 j hj⟩
  clear h
  go_enter Try.func27, Try.ntmps27
  go_wp2_with fail
  refine MN.out.mono ?_
  rintro e w2 ⟨rfl, hr2, hg2⟩
  replace hr2 := hd hr2
  go_wp2
  go_ret
  exact ⟨rfl, hr2.out, hg0.trans hg2⟩
set_option maxHeartbeats 2000000 in
theorem lHeldTermG (base : Nat) (av : Option Addr) (cv n : Nat) (k : Int) (w : World) (h : OTn w base av cv (tnmarks k n)) (hl : n ≤ 1048576) (k0 : 0 ≤ k) (k1 : k ≤ 16777216) :
    Calls Try.prog 30 #[.agg #[.slice av n cv], .int .i64 k] w fun e w' => e = .returned (.int .i64 (k + 3 * n)) ∧ Below w.heap.size w w' := by
  have hal : Below w.heap.size w (w.alloc (.cells #[.slice av n cv] 49)) := old_alloc (Below.refl _ _) _
  have HN := hd (lHeldTnO base av cv n k _ (h.later hal) hl k0 k1)
  have hk : ¬ (k + 3 * (n : Int) < 0) := by omega
  obtain ⟨q, hq⟩ : ∃ q : Int, k + 3 * (n : Int) = q := ⟨_, rfl⟩
  rw [hq] at HN hk ⊢
  clear h hq
  go_enter Try.func30, Try.ntmps30
  go_wp2_with fail
  refine HN.out.mono ?_
  rintro e w2 ⟨rfl, hb2⟩
  go_wp2
  go_ret
  exact ⟨rfl, old_trans hal hb2⟩
theorem ne_lo {av av' : Option Addr} {n m : Nat} (h : ∀ q, av = some q → q.block < n) (h' : ∀ q, av' = some q → m ≤ q.block) (hn : n ≤ m) : ∀ q, av = some q → some q.block ≠ ownB av' := by
  intro q e e2
  cases av' with
  | none => cases e2
  | some p => have := h' p rfl; have := h q e; simp [ownB] at e2; omega
theorem ne_hi {av av' : Option Addr} {n m : Nat} (h : ∀ q, av = some q → m ≤ q.block) (h' : ∀ q, av' = some q → q.block < n) (hn : n ≤ m) : ∀ q, av = some q → some q.block ≠ ownB av' := by
  intro q e e2
  cases av' with
  | none => cases e2
  | some p => have := h' p rfl; have := h q e; simp [ownB] at e2; omega
theorem ne_up {av' : Option Addr} {n c : Nat} (h' : ∀ q, av' = some q → q.block < n) (hn : n ≤ c) : some c ≠ ownB av' := by
  intro e2
  cases av' with
  | none => cases e2
  | some p => have := h' p rfl; simp [ownB] at e2; omega
theorem ne_dn {av' : Option Addr} {n c : Nat} (h' : ∀ q, av' = some q → n ≤ q.block) (hn : c < n) : some c ≠ ownB av' := by
  intro e2
  cases av' with
  | none => cases e2
  | some p => have := h' p rfl; simp [ownB] at e2; omega
theorem ON.out {w w' : World} {C : Nat → Prop} {base b : Nat} {xs : List Tn} (h : ON w base b xs) (k : Out C w w') (hn : ¬ C b) : ON w' base b xs := ⟨h.1, h.2.1, h.2.2.1, h.2.2.2.same (k.same _ h.2.2.2.1 hn) k.size⟩
end Go.Proofs.Ytmpckbgelkfgpaa
