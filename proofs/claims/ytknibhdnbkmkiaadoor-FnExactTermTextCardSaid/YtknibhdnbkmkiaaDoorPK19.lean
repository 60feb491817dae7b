/- A node with the trees of its parts is a tree, by the program, whatever its kind. Nothing that was there is written. -/
import Derived.Test.YtknibhdnbkmkiaaDoorPK18
namespace Go.Proofs.YtknibhdnbkmkiaaDoor
open Go.RowKit
set_option linter.unusedVariables false
set_option maxRecDepth 100000

theorem ac_lo {k n : Int} {s : ByteArray} {m : Nat} (hk : k = 1 ∨ k = 2) (h : ac ⟨k, n, s⟩ = (m : Int)) : m = 0 := by
  unfold ac at h
  rcases hk with rfl | rfl
  · dsimp only at h
    split at h <;> (try split at h) <;> omega
  · dsimp only at h
    rw [if_neg (by decide), if_pos rfl] at h
    split at h <;> omega
theorem ac_ar {k c n : Int} {s : ByteArray} {m : Nat} (hk : arity k c) (h : ac ⟨k, n, s⟩ = (m : Int)) : (m : Int) = c := by
  rw [acE k c n s hk] at h
  split at h <;> omega
theorem ac_8 {n : Int} {s : ByteArray} {m : Nat} (h : ac ⟨8, n, s⟩ = (m : Int)) : m = 1 := by
  by_cases g : 0 ≤ n ∧ n ≤ 8 ∧ s.size = 0
  · obtain ⟨g1, g2, g3⟩ := g
    rw [size_nil g3, ac8_y g1 g2] at h; omega
  · rw [ac8_n g] at h; omega
theorem ac_13 {n : Int} {s : ByteArray} {m : Nat} (h : ac ⟨13, n, s⟩ = (m : Int)) : 0 < m ∧ m ≤ 6 := by
  by_cases g : 1 ≤ n ∧ n ≤ 6
  · cases hs : nameB s
    · rw [ac13_f hs] at h; omega
    · rw [ac13_t g.1 g.2 hs] at h; omega
  · rw [ac13_n g] at h; omega
theorem list1 {α : Type} {l : List α} (h : l.length = 1) : ∃ a, l = [a] := by
  match l, h with
  | [a], _ => exact ⟨a, rfl⟩
theorem list2 {α : Type} {l : List α} (h : l.length = 2) : ∃ a b, l = [a, b] := by
  match l, h with
  | [a, b], _ => exact ⟨a, b, rfl⟩
theorem tree_one {g : Option Nat} {k n : Int} {s : ByteArray} {ts : List Tr} {av : Option Addr} {vs : Nat → Value} {w : World} (hl : ts.length = 1) (hP : PSl w av ts.length vs) (hT : ∀ i (hi : i < ts.length), TV w g ts[i] (vs i)) :
    ∃ (b off : Nat) (t : Tr) (ty : TypeId) (u : Value), ts = [t] ∧ av = some ⟨b, off, none⟩ ∧ b < w.heap.size ∧ w.cell? ⟨b, off, none⟩ = some (.iface ty u) ∧ TV w g t (.iface ty u) := by
  obtain ⟨t, rfl⟩ := list1 hl
  obtain ⟨b, off, h1, h2, h3⟩ := hP.at (i := 0) (by simp)
  have h4 := hT 0 (by simp)
  obtain ⟨ty, u, e⟩ := h4.iface
  rw [e] at h3 h4
  exact ⟨b, off, t, ty, u, rfl, h1, h2, h3, h4⟩
theorem tree_two {g : Option Nat} {k n : Int} {s : ByteArray} {ts : List Tr} {av : Option Addr} {vs : Nat → Value} {w : World} (hl : ts.length = 2) (hP : PSl w av ts.length vs) (hT : ∀ i (hi : i < ts.length), TV w g ts[i] (vs i)) :
    ∃ (b off : Nat) (t t' : Tr) (ty ty' : TypeId) (u u' : Value), ts = [t, t'] ∧ av = some ⟨b, off, none⟩ ∧ b < w.heap.size ∧ w.cell? ⟨b, off, none⟩ = some (.iface ty u) ∧ w.cell? ⟨b, off + 1, none⟩ = some (.iface ty' u') ∧ TV w g t (.iface ty u) ∧ TV w g t' (.iface ty' u') := by
  obtain ⟨t, t', rfl⟩ := list2 hl
  obtain ⟨b, off, h1, h2, h3⟩ := hP.at (i := 0) (by simp)
  obtain ⟨b', off', h1', h2', h3'⟩ := hP.at (i := 1) (by simp)
  obtain ⟨rfl, rfl⟩ : b = b' ∧ off = off' := by rw [h1] at h1'; injection h1' with h; injection h with e1 e2; exact ⟨e1, e2⟩
  have h4 := hT 0 (by simp)
  have h5 := hT 1 (by simp)
  obtain ⟨ty, u, e⟩ := h4.iface
  obtain ⟨ty', u', e'⟩ := h5.iface
  rw [e] at h3 h4
  rw [e'] at h3' h5
  exact ⟨b, off, t, t', ty, ty', u, u', rfl, h1, h2, h3, h3', h4, h5⟩
def TreeOk (P : Program) (f : Nat) (g : Option Nat) (x : Tn) (ts : List Tr) (av : Option Addr) (cap : Nat) (w : World) : Prop :=
  Calls P f #[.agg #[.int .i64 x.k, .int .i64 x.n, .string x.s], .slice av ts.length cap] w fun e w' => (∃ v, e = .returned v ∧ TV w' g (.mk x ts) v) ∧ Below w.heap.size w w'
theorem iTreeOver (g : Option Nat) (x : Tn) (ts : List Tr) (av : Option Addr) (cap : Nat) (vs : Nat → Value) (w : World) (hx : ac x = (ts.length : Int)) (hcap : ts.length ≤ cap) (hg : ∀ q, g = some q → q < w.heap.size) (hP : PSl w av ts.length vs) (hT : ∀ i (hi : i < ts.length), TV w g ts[i] (vs i)) :
    TreeOk Tryd.prog 24 g x ts av cap w := by
  obtain ⟨k, n, s⟩ := x
  unfold TreeOk
  dsimp only
  have far : ∀ q, w.heap.size ≤ q → some q ≠ g := fun q h e => by have := hg q e.symm; omega
  rcases k_cases k with rfl | rfl | rfl | rfl | rfl | rfl | rfl | rfl | rfl | rfl | rfl | rfl | rfl | h
  · have hl := ac_lo (.inl rfl) hx
    obtain rfl := List.length_eq_zero_iff.1 hl
    refine (iTree_1 n s w av cap).mono ?_
    rintro e w' ⟨rfl, hb⟩
    exact ⟨⟨_, rfl, .leaf ⟨1, n, s⟩ (.inl rfl)⟩, hb⟩
  · have hl := ac_lo (.inr rfl) hx
    obtain rfl := List.length_eq_zero_iff.1 hl
    refine (iTree_2 n s w av cap).mono ?_
    rintro e w' ⟨rfl, hb⟩
    exact ⟨⟨_, rfl, .leaf ⟨2, n, s⟩ (.inr rfl)⟩, hb⟩
  · have hl : ts.length = 1 := by have := ac_ar (c := 1) (by decide) hx; omega
    obtain ⟨b, off, t, ty, u, rfl, rfl, hb, hc, hv⟩ := tree_one (k := 3) (n := n) (s := s) hl hP hT
    refine (iTree_3 n s w b off cap ty u hb hc hcap).mono ?_
    rintro e w' ⟨rfl, hbw⟩
    exact ⟨⟨_, rfl, .minus ⟨3, n, s⟩ t _ rfl (hv.old hbw)⟩, hbw⟩
  · have hl : ts.length = 2 := by have := ac_ar (c := 2) (by decide) hx; omega
    obtain ⟨b, off, t, t', ty, ty', u, u', rfl, rfl, hb, hc, hc', hv, hv'⟩ := tree_two (k := 3) (n := n) (s := s) hl hP hT
    refine (iTree_4 n s w b off cap ty u ty' u' hb hc hc' hcap).mono ?_
    rintro e w' ⟨rfl, hbw⟩
    exact ⟨⟨_, rfl, .joint ⟨4, n, s⟩ t t' _ _ _ _ rfl (hv.old hbw) (hv'.old hbw)⟩, hbw⟩
  · have hl : ts.length = 2 := by have := ac_ar (c := 2) (by decide) hx; omega
    obtain ⟨b, off, t, t', ty, ty', u, u', rfl, rfl, hb, hc, hc', hv, hv'⟩ := tree_two (k := 3) (n := n) (s := s) hl hP hT
    refine (iTree_5 n s w b off cap ty u ty' u' hb hc hc' hcap).mono ?_
    rintro e w' ⟨rfl, hbw⟩
    exact ⟨⟨_, rfl, .joint ⟨5, n, s⟩ t t' _ _ _ _ rfl (hv.old hbw) (hv'.old hbw)⟩, hbw⟩
  · have hl : ts.length = 2 := by have := ac_ar (c := 2) (by decide) hx; omega
    obtain ⟨b, off, t, t', ty, ty', u, u', rfl, rfl, hb, hc, hc', hv, hv'⟩ := tree_two (k := 3) (n := n) (s := s) hl hP hT
    refine (iTree_6 n s w b off cap ty u ty' u' hb hc hc' hcap).mono ?_
    rintro e w' ⟨rfl, hbw⟩
    exact ⟨⟨_, rfl, .joint ⟨6, n, s⟩ t t' _ _ _ _ rfl (hv.old hbw) (hv'.old hbw)⟩, hbw⟩
  · have hl : ts.length = 2 := by have := ac_ar (c := 2) (by decide) hx; omega
    obtain ⟨b, off, t, t', ty, ty', u, u', rfl, rfl, hb, hc, hc', hv, hv'⟩ := tree_two (k := 3) (n := n) (s := s) hl hP hT
    refine (iTree_7 n s w b off cap ty u ty' u' hb hc hc' hcap).mono ?_
    rintro e w' ⟨rfl, hbw⟩
    exact ⟨⟨_, rfl, .joint ⟨7, n, s⟩ t t' _ _ _ _ rfl (hv.old hbw) (hv'.old hbw)⟩, hbw⟩
  · have hl : ts.length = 1 := ac_8 hx
    obtain ⟨b, off, t, ty, u, rfl, rfl, hb, hc, hv⟩ := tree_one (k := 3) (n := n) (s := s) hl hP hT
    refine (iTree_8 n s w b off cap ty u hb hc hcap).mono ?_
    rintro e w' ⟨rfl, hbw⟩
    exact ⟨⟨_, rfl, .raised ⟨8, n, s⟩ t _ rfl (hv.old hbw)⟩, hbw⟩
  · have hl2 : ts.length = 1 := by have := ac_ar (c := 1) (by decide) hx; omega
    have hl : 0 < ts.length := by omega
    have hl6 : ts.length ≤ 6 := by omega
    obtain ⟨b, off, rfl, hb, -⟩ := hP.at hl
    have hc : ∀ i, i < ts.length → w.cell? ⟨b, off + i, none⟩ = some (vs i) := fun i hi => by
      obtain ⟨b', off', h1, h2, h3⟩ := hP.at hi
      injection h1 with h; injection h with e1 e2; subst e1 e2; exact h3
    refine (iTree_9 n s w b off ts.length cap vs hl hl6 hcap hb hc (fun i hi => (hT i hi).iface)).mono ?_
    rintro e w' ⟨⟨q, c, rfl, g1, g2, g3, g4, g5⟩, hbw⟩
    exact ⟨⟨_, rfl, .own ⟨9, n, s⟩ ts q 0 c vs _ rfl hl6 ⟨g3, g4⟩ g2 (far q g1) g5 (fun i hi => (hT i hi).old hbw)⟩, hbw⟩
  · have hl2 : ts.length = 1 := by have := ac_ar (c := 1) (by decide) hx; omega
    have hl : 0 < ts.length := by omega
    have hl6 : ts.length ≤ 6 := by omega
    obtain ⟨b, off, rfl, hb, -⟩ := hP.at hl
    have hc : ∀ i, i < ts.length → w.cell? ⟨b, off + i, none⟩ = some (vs i) := fun i hi => by
      obtain ⟨b', off', h1, h2, h3⟩ := hP.at hi
      injection h1 with h; injection h with e1 e2; subst e1 e2; exact h3
    refine (iTree_10 n s w b off ts.length cap vs hl hl6 hcap hb hc (fun i hi => (hT i hi).iface)).mono ?_
    rintro e w' ⟨⟨q, c, rfl, g1, g2, g3, g4, g5⟩, hbw⟩
    exact ⟨⟨_, rfl, .own ⟨10, n, s⟩ ts q 0 c vs _ rfl hl6 ⟨g3, g4⟩ g2 (far q g1) g5 (fun i hi => (hT i hi).old hbw)⟩, hbw⟩
  · have hl2 : ts.length = 2 := by have := ac_ar (c := 2) (by decide) hx; omega
    have hl : 0 < ts.length := by omega
    have hl6 : ts.length ≤ 6 := by omega
    obtain ⟨b, off, rfl, hb, -⟩ := hP.at hl
    have hc : ∀ i, i < ts.length → w.cell? ⟨b, off + i, none⟩ = some (vs i) := fun i hi => by
      obtain ⟨b', off', h1, h2, h3⟩ := hP.at hi
      injection h1 with h; injection h with e1 e2; subst e1 e2; exact h3
    refine (iTree_11 n s w b off ts.length cap vs hl hl6 hcap hb hc (fun i hi => (hT i hi).iface)).mono ?_
    rintro e w' ⟨⟨q, c, rfl, g1, g2, g3, g4, g5⟩, hbw⟩
    exact ⟨⟨_, rfl, .own ⟨11, n, s⟩ ts q 0 c vs _ rfl hl6 ⟨g3, g4⟩ g2 (far q g1) g5 (fun i hi => (hT i hi).old hbw)⟩, hbw⟩
  · have hl2 : ts.length = 2 := by have := ac_ar (c := 2) (by decide) hx; omega
    have hl : 0 < ts.length := by omega
    have hl6 : ts.length ≤ 6 := by omega
    obtain ⟨b, off, rfl, hb, -⟩ := hP.at hl
    have hc : ∀ i, i < ts.length → w.cell? ⟨b, off + i, none⟩ = some (vs i) := fun i hi => by
      obtain ⟨b', off', h1, h2, h3⟩ := hP.at hi
      injection h1 with h; injection h with e1 e2; subst e1 e2; exact h3
    refine (iTree_12 n s w b off ts.length cap vs hl hl6 hcap hb hc (fun i hi => (hT i hi).iface)).mono ?_
    rintro e w' ⟨⟨q, c, rfl, g1, g2, g3, g4, g5⟩, hbw⟩
    exact ⟨⟨_, rfl, .own ⟨12, n, s⟩ ts q 0 c vs _ rfl hl6 ⟨g3, g4⟩ g2 (far q g1) g5 (fun i hi => (hT i hi).old hbw)⟩, hbw⟩
  · obtain ⟨hl, hl6⟩ := ac_13 hx
    obtain ⟨b, off, rfl, hb, -⟩ := hP.at hl
    have hc : ∀ i, i < ts.length → w.cell? ⟨b, off + i, none⟩ = some (vs i) := fun i hi => by
      obtain ⟨b', off', h1, h2, h3⟩ := hP.at hi
      injection h1 with h; injection h with e1 e2; subst e1 e2; exact h3
    refine (iTree_13 n s w b off ts.length cap vs hl hl6 hcap hb hc (fun i hi => (hT i hi).iface)).mono ?_
    rintro e w' ⟨⟨q, c, rfl, g1, g2, g3, g4, g5⟩, hbw⟩
    exact ⟨⟨_, rfl, .named ⟨13, n, s⟩ ts q 0 c vs rfl hl6 ⟨g3, g4⟩ g2 (far q g1) g5 (fun i hi => (hT i hi).old hbw)⟩, hbw⟩
  · have := acO (n := n) (s := s) h
    rw [this] at hx; omega
end Go.Proofs.YtknibhdnbkmkiaaDoor
