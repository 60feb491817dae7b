/- What a scanner of literals gathers. Conditions: few and small numbers. Of what was there only what it gathers in is written. -/
import Derived.Test.YtmpckbgelkfgpaaPK01
import Derived.Deep.RegionHeld3
import Derived.Laws.IdiomStrings
import Derived.ScopeJumps
import Derived.WalkMore
namespace Go.Proofs.Ytmpckbgelkfgpaa
open Go.RowKit
set_option linter.unusedVariables false
set_option maxRecDepth 100000

/-- all that was there, but some blocks, is as it was -/
structure BX (S : Nat → Prop) (w w' : World) : Prop where
  os : w'.os = w.os
  tape : w'.tape = w.tape
  output : w'.output = w.output
  size : w.heap.size ≤ w'.heap.size
  block : ∀ k, k < w.heap.size → ¬ S k → w'.heap[k]? = w.heap[k]?
theorem BX.of {S : Nat → Prop} {w w' : World} (h : Below w.heap.size w w') : BX S w w' := ⟨h.os, h.tape, h.output, h.size, fun k hk _ => h.block k hk⟩
theorem BX.refl (S : Nat → Prop) (w : World) : BX S w w := BX.of (Below.refl _ _)
theorem BX.trans {S : Nat → Prop} {a b c : World} (h : BX S a b) (g : BX S b c) : BX S a c :=
  ⟨g.os.trans h.os, g.tape.trans h.tape, g.output.trans h.output, Nat.le_trans h.size g.size, fun k hk hn => (g.block k (Nat.lt_of_lt_of_le hk h.size) hn).trans (h.block k hk hn)⟩
theorem BX.mono {S T : Nat → Prop} {w w' : World} (h : BX S w w') (hs : ∀ k, k < w.heap.size → S k → T k) : BX T w w' :=
  ⟨h.os, h.tape, h.output, h.size, fun k hk hn => h.block k hk (fun g => hn (hs k hk g))⟩
theorem BX.set {S : Nat → Prop} {w w' : World} (h : BX S w w') (p : Addr) (hp : S p.block ∨ w.heap.size ≤ p.block) (v : Value) : BX S w (w'.setCell p v) :=
  ⟨h.os, h.tape, h.output, by simpa [World.setCell] using h.size, fun k hk hn => (Below.heap_setCell _ _ _ _ (by rintro rfl; exact hp.elim hn (by omega))).trans (h.block k hk hn)⟩
theorem BX.alloc {S : Nat → Prop} {w w' : World} (h : BX S w w') (o : Obj) : BX S w (w'.alloc o) := h.trans (BX.of ((Below.refl _ _).alloc (Nat.le_refl _) o))
theorem BX.drew {S : Nat → Prop} {w w' : World} (h : BX S w w') : BX S w w'.drew := ⟨h.os, h.tape, h.output, h.size, h.block⟩
theorem BX.below {S : Nat → Prop} {m : Nat} {w w' : World} (h : BX S w w') (hm : ∀ k, S k → m ≤ k) (hw : m ≤ w.heap.size) : Below m w w' :=
  ⟨h.os, h.tape, h.output, h.size, fun k hk => h.block k (by omega) (fun g => absurd (hm k g) (by omega))⟩
theorem BX.cell {S : Nat → Prop} {w w' : World} (h : BX S w w') {b i : Nat} (hb : b < w.heap.size) (hn : ¬ S b) : w'.cell? ⟨b, i, none⟩ = w.cell? ⟨b, i, none⟩ := World.cell?_of_block (w := w) (h.block b hb hn)
theorem BX.frozen {S : Nat → Prop} {w w' : World} (h : BX S w w') {b i : Nat} (hb : b < w.heap.size) (hn : ¬ S b) : w'.frozen? ⟨b, i, none⟩ = w.frozen? ⟨b, i, none⟩ := World.frozen?_of_block (w := w) (h.block b hb hn)
theorem CS.bx {S : Nat → Prop} {w w' : World} {b : Nat} {vs : List Value} (h : CS w b vs) (g : BX S w w') (hn : ¬ S b) : CS w' b vs :=
  ⟨fun i v hi => (g.cell h.lt hn).trans (h.cell i v hi), fun i hi => (g.frozen h.lt hn).trans (h.froz i hi), Nat.lt_of_lt_of_le h.lt g.size⟩

structure Lt where
  ds : ByteArray
  pl : Int
  dn : Bool
  pw : Int
def gat (part r : Int) (l : Lt) : Lt :=
  if part = 2 then { l with ds := l.ds ++ Utf8.encode r, pl := l.pl + 1 }
  else if part = 0 then { l with ds := l.ds ++ Utf8.encode r }
  else if part = 3 then { l with dn := true }
  else if part = 4 then { l with pw := 10 * l.pw + (r - 48) }
  else l
def Lt.cells (l : Lt) : List Value := [.string l.ds, .int .i64 l.pl, .bool l.dn, .int .i64 l.pw]
/-- what is gathered is small -/
def Lt.small (l : Lt) (n : Nat) : Prop := l.ds.size ≤ 4 * n ∧ 0 ≤ l.pl ∧ l.pl ≤ n ∧ 0 ≤ l.pw ∧ l.pw ≤ 100000
theorem enc_size (r : Int) : (Utf8.encode r).size ≤ 4 := by
  unfold Utf8.encode
  dsimp only
  generalize (if Utf8.valid r = true then r.toNat else Utf8.runeError) = c
  by_cases h1 : c < 128
  · rw [if_pos h1]; exact (show 1 ≤ 4 by omega)
  rw [if_neg h1]
  by_cases h2 : c < 2048
  · rw [if_pos h2]; exact (show 2 ≤ 4 by omega)
  rw [if_neg h2]
  by_cases h3 : c < 65536
  · rw [if_pos h3]; exact (show 3 ≤ 4 by omega)
  rw [if_neg h3]
  exact (show 4 ≤ 4 by omega)
set_option maxHeartbeats 2000000 in
theorem iGather (g : Nat) (part r : Int) (l : Lt) (n : Nat) (w : World) (hC : CS w g l.cells) (hn : n ≤ 1000) (hs : l.small n) (h1 : 0 ≤ r) (h2 : r ≤ 127) (hp : part = 4 → 48 ≤ r) (hk : 0 ≤ part ∧ part ≤ 4) :
    Calls Try.prog 156 #[.pointer (some ⟨g, 0, none⟩), .int .i64 part, .int .i32 r] w fun e w' => (∃ v, e = .returned v) ∧ CS w' g (gat part r l).cells ∧ BX (· = g) w w' := by
  have c0 := hC.cell 0 _ rfl
  have c1 := hC.cell 1 _ rfl
  have c2 := hC.cell 2 _ rfl
  have c3 := hC.cell 3 _ rfl
  have f0 := hC.froz 0 (by show _ < 4; omega)
  have f1 := hC.froz 1 (by show _ < 4; omega)
  have f2 := hC.froz 2 (by show _ < 4; omega)
  have f3 := hC.froz 3 (by show _ < 4; omega)
  obtain ⟨s1, s2, s3, s4, s5⟩ := hs
  have es := enc_size r
  have hl := hC.lt
  have ed : ¬ 9223372036854775807 < l.ds.size + (Utf8.encode r).size := by omega
  obtain ⟨ds, pl, dn, pw⟩ := l
  dsimp only at *
  obtain rfl | rfl | rfl | rfl | rfl : part = 0 ∨ part = 1 ∨ part = 2 ∨ part = 3 ∨ part = 4 := by omega
  · clear s2 s3 s4 s5 hp hk es s1
    go_enter Try.func156, Try.ntmps156
    go_wp2
    go_end0
    exact ⟨⟨_, rfl⟩, hC.stored (i := 0) _ (by show _ < 4; omega), (BX.refl (· = g) w).set ⟨g, 0, none⟩ (.inl rfl) _⟩
  · clear s2 s3 s4 s5 hp hk es s1 ed
    go_enter Try.func156, Try.ntmps156
    go_wp2
    go_end0
    exact ⟨⟨_, rfl⟩, hC, BX.refl (· = g) w⟩
  · clear s4 s5 hp hk es s1
    go_enter Try.func156, Try.ntmps156
    go_wp2
    go_end0
    exact ⟨⟨_, rfl⟩, (hC.stored (i := 1) _ (by show _ < 4; omega)).stored (i := 0) _ (by show _ < 4; omega), ((BX.refl (· = g) w).set ⟨g, 1, none⟩ (.inl rfl) _).set ⟨g, 0, none⟩ (.inl rfl) _⟩
  · clear s2 s3 s4 s5 hp hk es s1 ed
    go_enter Try.func156, Try.ntmps156
    go_wp2
    go_end0
    exact ⟨⟨_, rfl⟩, hC.stored (i := 2) _ (by show _ < 4; omega), (BX.refl (· = g) w).set ⟨g, 2, none⟩ (.inl rfl) _⟩
  · have hp4 := hp rfl
    clear s2 s3 hp hk es s1 ed
    have e1 : wrap64 (10 * pw) = 10 * pw := by unfold wrap64; omega
    have e2 : wrap32 (r - 48) = r - 48 := by unfold wrap32; omega
    have e3 : wrap64 (10 * pw + (r - 48)) = 10 * pw + (r - 48) := by unfold wrap64; omega
    go_enter Try.func156, Try.ntmps156
    go_wp2
    go_end0
    exact ⟨⟨_, rfl⟩, hC.stored (i := 3) _ (by show _ < 4; omega), (BX.refl (· = g) w).set ⟨g, 3, none⟩ (.inl rfl) _⟩
end Go.Proofs.Ytmpckbgelkfgpaa

/- One step of a scanner of literals. Conditions: few and small numbers. Of what was there only what it gathers in and what is left to it are written. -/
namespace Go.Proofs.Ytmpckbgelkfgpaa
open Go.RowKit
set_option linter.unusedVariables false
set_option maxRecDepth 100000

def takeV (g : Nat) : Value := .func (.func 155) #[] #[.pointer (some ⟨g, 0, none⟩)]
/-- where a scanner stands: what is left to it, and what it has gathered -/
structure Sc (w : World) (lb tb g rb : Nat) (rs : List Int) (l : Lt) : Prop where
  left : ∃ off cap : Nat, CS w lb [.slice (some ⟨rb, off, none⟩) rs.length cap] ∧ rs.length ≤ cap ∧ ∀ i, i < rs.length → w.cell? ⟨rb, off + i, none⟩ = some (.int .i32 (rs.getD i 0))
  take : w.cell? ⟨tb, 0, none⟩ = some (takeV g)
  tlt : tb < w.heap.size
  rlt : rb < w.heap.size
  lit : CS w g l.cells
  ne : lb ≠ g ∧ tb ≠ g ∧ tb ≠ lb ∧ rb ≠ g ∧ rb ≠ lb
set_option maxHeartbeats 1000000 in
theorem iTake (g : Nat) (part r : Int) (l : Lt) (n : Nat) (w : World) (hC : CS w g l.cells) (hn : n ≤ 1000) (hs : l.small n) (h1 : 0 ≤ r) (h2 : r ≤ 127) (hp : part = 4 → 48 ≤ r) (hk : 0 ≤ part ∧ part ≤ 4) :
    Calls Try.prog 155 #[.int .i64 part, .int .i32 r, .pointer (some ⟨g, 0, none⟩)] w fun e w' => (∃ v, e = .returned v) ∧ CS w' g (gat part r l).cells ∧ BX (· = g) w w' := by
  have G := hd (iGather g part r l n w hC hn hs h1 h2 hp hk)
  clear hC hn hs h1 h2 hp hk
  generalize (gat part r l).cells = m at *
  go_enter Try.func155, Try.ntmps155
  go_wp2_with fail
  refine G.out.mono ?_
  rintro e w1 ⟨⟨v, rfl⟩, hm, hb⟩
  go_wp2
  go_end0
  exact ⟨⟨_, rfl⟩, hm, hb⟩
set_option maxHeartbeats 2000000 in
theorem iPassNo (lo hi part : Int) (lb tb g rb : Nat) (rs : List Int) (l : Lt) (w : World) (S : Sc w lb tb g rb rs l) (h : rs = [] ∨ ∃ r t, rs = r :: t ∧ (r < lo ∨ hi < r)) :
    Calls Try.prog 157 #[.int .i32 lo, .int .i32 hi, .int .i64 part, .pointer (some ⟨lb, 0, none⟩), .pointer (some ⟨tb, 0, none⟩)] w fun e w' => e = .returned (.bool false) ∧ w' = w := by
  obtain ⟨off, cap, K, hc, hr⟩ := S.left
  have k0 := K.cell 0 _ rfl
  clear K
  rcases h with rfl | ⟨r, t, rfl, h⟩
  · clear hr S hc
    dsimp only [List.length_nil] at k0
    go_enter Try.func157, Try.ntmps157
    go_wp2
    go_ret
    exact ⟨rfl, rfl⟩
  · have r0 := hr 0 (by simp)
    simp only [Nat.add_zero, List.getD_cons_zero] at r0
    have hl : 0 < (r :: t).length := by simp
    clear hr S
    generalize (r :: t).length = n at *
    have hl' : ¬ (n : Int) = 0 := by omega
    have hl2 : (0 : Int) < (n : Int) := by omega
    rcases h with h | h
    · go_enter Try.func157, Try.ntmps157
      go_wp2
      go_ret
      exact ⟨rfl, rfl⟩
    · by_cases h' : r < lo
      · go_enter Try.func157, Try.ntmps157
        go_wp2
        go_ret
        exact ⟨rfl, rfl⟩
      · go_enter Try.func157, Try.ntmps157
        go_wp2
        go_ret
        exact ⟨rfl, rfl⟩
set_option maxHeartbeats 2000000 in
theorem iPassYes (lo hi part : Int) (lb tb g rb : Nat) (r : Int) (t : List Int) (l : Lt) (n : Nat) (w : World) (S : Sc w lb tb g rb (r :: t) l) (hn : n ≤ 1000) (hs : l.small n) (h1 : lo ≤ r) (h2 : r ≤ hi) (h0 : 0 ≤ lo) (h3 : hi ≤ 127) (hp : part = 4 → 48 ≤ lo) (hk : 0 ≤ part ∧ part ≤ 4) :
    Calls Try.prog 157 #[.int .i32 lo, .int .i32 hi, .int .i64 part, .pointer (some ⟨lb, 0, none⟩), .pointer (some ⟨tb, 0, none⟩)] w fun e w' => e = .returned (.bool true) ∧ Sc w' lb tb g rb t (gat part r l) ∧ BX (fun k => k = g ∨ k = lb) w w' := by
  obtain ⟨off, cap, K, hc, hr⟩ := S.left
  have k0 := K.cell 0 _ rfl
  have T0 := S.take
  have hlit := S.lit
  obtain ⟨n1, n2, n3, n4, n5⟩ := S.ne
  have T := hd (fun w' (h : CS w' g l.cells) => iTake g part r l n w' h hn hs (by omega) (by omega) (fun e => by have := hp e; omega) hk)
  have r0 := hr 0 (by simp)
  simp only [Nat.add_zero, List.getD_cons_zero] at r0
  have hq : ∀ i, i < t.length → w.cell? ⟨rb, off + 1 + i, none⟩ = some (.int .i32 (t.getD i 0)) := fun i hi => by
    have := hr (i + 1) (by simp; omega)
    rw [List.getD_cons_succ] at this
    rw [show off + 1 + i = off + (i + 1) by omega]
    exact this
  have tl := S.tlt
  have rl := S.rlt
  have hN : (r :: t).length = t.length + 1 := rfl
  rw [hN] at *
  clear hr hN hs hn hp hk h0 h3
  have l1 : ¬ ((t.length : Int) + 1 = 0) := by omega
  have l2 : (0 : Int) < (t.length : Int) + 1 := by omega
  have hr1 : ¬ r < lo := by omega
  have hr2 : ¬ hi < r := by omega
  unfold takeV at T0
  have U := hd (fun w' (hB : BX (· = g) w w') (hS : w'.cell? ⟨tb, 0, none⟩ = some (.func (.func 155) #[] #[.pointer (some ⟨g, 0, none⟩)]) ∧ w'.cell? ⟨lb, 0, none⟩ = some (.slice (some ⟨rb, off, none⟩) (t.length + 1) cap) ∧ w'.cell? ⟨rb, off, none⟩ = some (.int .i32 r)) (h : CS w' g l.cells) => (T.out w' h).mono (fun e w'' (k : _ ∧ _ ∧ _) => (⟨k, k.2.2.cell (Nat.lt_of_lt_of_le tl hB.size) n2 |>.trans hS.1, k.2.2.cell (Nat.lt_of_lt_of_le K.lt hB.size) n1 |>.trans hS.2.1, k.2.2.cell (Nat.lt_of_lt_of_le rl hB.size) n4 |>.trans hS.2.2⟩ : (_ ∧ _ ∧ _) ∧ (w''.cell? ⟨tb, 0, none⟩ = some (.func (.func 155) #[] #[.pointer (some ⟨g, 0, none⟩)]) ∧ w''.cell? ⟨lb, 0, none⟩ = some (.slice (some ⟨rb, off, none⟩) (t.length + 1) cap) ∧ w''.cell? ⟨rb, off, none⟩ = some (.int .i32 r)))))
  go_enter Try.func157, Try.ntmps157
  go_wp2_with fail
  go_region_held3 (fun w' => w'.cell? ⟨tb, 0, none⟩ = some (.func (.func 155) #[] #[.pointer (some ⟨g, 0, none⟩)]) ∧ w'.cell? ⟨lb, 0, none⟩ = some (.slice (some ⟨rb, off, none⟩) (t.length + 1) cap) ∧ w'.cell? ⟨rb, off, none⟩ = some (.int .i32 r)) (go_keep) (first | (go_at_call 155; with_reducible refine (U.out _ (BX.refl _ w).drew (by assumption) hlit.drew).mono ?_; rintro e w4 ⟨⟨⟨v4, rfl⟩, h4, hb4⟩, hc4⟩))
  obtain ⟨hc1, hc2, hc3⟩ := hc4
  have hbw : BX (· = g) w w4 := (BX.refl (· = g) w).drew.trans hb4
  have K4 := K.bx hbw n1
  have f4 := K4.froz 0 (by show 0 < 1; omega)
  have hc' : t.length + 1 ≤ cap := hc
  have l3 : (1 : Int) ≤ (t.length : Int) + 1 := by omega
  have l4 : (t.length : Int) + 1 ≤ cap := by omega
  have tk : w4.cell? ⟨tb, 0, none⟩ = some (takeV g) := hc1
  have q4 : ∀ i, i < t.length → w4.cell? ⟨rb, off + 1 + i, none⟩ = some (.int .i32 (t.getD i 0)) := fun i hi => (hbw.cell rl n4).trans (hq i hi)
  have fin : ∀ off' cap' : Nat, t.length ≤ cap' → cap' ≤ cap → (∀ i, i < t.length → w4.cell? ⟨rb, off' + i, none⟩ = some (.int .i32 (t.getD i 0))) → Sc (w4.setCell ⟨lb, 0, none⟩ (.slice (some ⟨rb, off', none⟩) t.length cap')) lb tb g rb t (gat part r l) ∧ BX (fun k => k = g ∨ k = lb) w (w4.setCell ⟨lb, 0, none⟩ (.slice (some ⟨rb, off', none⟩) t.length cap')) := fun off' cap' g1 g2 g3 => by
    have o : ∀ (b j : Nat), b ≠ lb → (w4.setCell ⟨lb, 0, none⟩ (.slice (some ⟨rb, off', none⟩) t.length cap')).cell? ⟨b, j, none⟩ = w4.cell? ⟨b, j, none⟩ := fun b j hb => World.cell?_setCell_other _ _ _ _ (by intro h; injection h with h2 _; omega)
    have sz : (w4.setCell ⟨lb, 0, none⟩ (.slice (some ⟨rb, off', none⟩) t.length cap')).heap.size = w4.heap.size := by simp [World.setCell]
    refine ⟨⟨⟨off', cap', K4.stored (i := 0) _ (by show 0 < 1; omega), g1, fun i hi => (o _ _ n5).trans (g3 i hi)⟩, (o _ _ n3).trans tk, ?_, ?_, h4.far (Ne.symm n1) _, n1, n2, n3, n4, n5⟩, (hbw.mono (fun k _ h => .inl h)).set ⟨lb, 0, none⟩ (.inl (.inr rfl)) _⟩
    · rw [sz]; exact Nat.lt_of_lt_of_le tl hbw.size
    · rw [sz]; exact Nat.lt_of_lt_of_le rl hbw.size
  have fin' := hd fin
  clear T U k0 T0 r0 S hc3 hb4 l1 l2 hr1 hr2 h1 h2 fin K4 K hq h4 hc
  go_wp2
  · go_ret
    exact ⟨rfl, fin'.out off 0 (by omega) (by omega) (fun i hi => absurd hi (by omega))⟩
  · go_ret
    exact ⟨rfl, fin'.out (off + 1) (cap - 1) (by omega) (by omega) q4⟩
end Go.Proofs.Ytmpckbgelkfgpaa

/- A scanner of literals goes over the runes of a text: its machine, and the program's walk. Conditions: 60 runes at most. Of what was there only what it gathers in is written. -/
namespace Go.Proofs.Ytmpckbgelkfgpaa
open Go.RowKit
set_option linter.unusedVariables false
set_option maxRecDepth 100000

/-- As Q; by a goto: J of the label. -/
def xJumps (J : Nat → Act → World → Prop) (Q : Exit → Act → World → Prop) : Exit → Act → World → Prop
  | .goto l', a, w => J l' a w
  | e, a, w => Q e a w
theorem wp_scope_many {P : Program} {a : Act} {w : World} {Q : Exit → Act → World → Prop} {c : Code} (J : Nat → Nat → Act → World → Prop)
    (first : c.wp P (xJumps (fun l a w => ∃ m, J m l a w) Q) a w)
    (pass : ∀ m l a w, J m l a w → ∃ rest, findLabel c l = some rest ∧ rest.wp P (xJumps (fun l' a' w' => ∃ m', m' < m ∧ J m' l' a' w') Q) a w) : (Code.scope c).wp P Q a w := by
  intro b k cs
  have key : ∀ n l a w, J n l a w → ∃ rest, findLabel c l = some rest ∧ ∃ e a' w', Q e a' w' ∧ Arrives P (lone (b.at a (.code rest :: .inScope c :: k)) cs w) b k cs e a' w' := by
    intro n
    induction n using Nat.strongRecOn with
    | _ n ih =>
      intro l a w hJ
      obtain ⟨rest, hf, hp⟩ := pass n l a w hJ
      refine ⟨rest, hf, ?_⟩
      obtain ⟨e, a₁, w₁, hq, harr⟩ := hp b (.inScope c :: k) cs
      cases e with
      | normal => exact ⟨.normal, a₁, w₁, hq, Steps.trans harr (.one step_inScope)⟩
      | exit id => exact ⟨.exit id, a₁, w₁, hq, fun k' hk => harr k' (by simp [exitTo, hk])⟩
      | goto l' =>
        obtain ⟨m', hlt, hJ'⟩ := hq
        obtain ⟨rest', hf', e₂, a₂, w₂, hq₂, harr₂⟩ := ih m' hlt l' a₁ w₁ hJ'
        have hg : gotoIn l' (.inScope c :: k) = some (.code rest' :: .inScope c :: k) := by simp [gotoIn, hf']
        exact ⟨e₂, a₂, w₂, hq₂, .of_steps (harr _ hg) harr₂⟩
      | ret => exact ⟨_, a₁, w₁, hq, harr⟩
      | panic ch => exact ⟨_, a₁, w₁, hq, harr⟩
      | outgrown => exact ⟨_, a₁, w₁, hq, harr⟩
  obtain ⟨e, a₁, w₁, hq, harr⟩ := first b (.inScope c :: k) cs
  cases e with
  | normal => exact ⟨.normal, a₁, w₁, hq, .head step_scope (Steps.trans harr (.one step_inScope))⟩
  | exit id => exact ⟨.exit id, a₁, w₁, hq, fun k' hk => .head step_scope (harr k' (by simp [exitTo, hk]))⟩
  | goto l' =>
    obtain ⟨m', hJ'⟩ := hq
    obtain ⟨rest', hf', e₂, a₂, w₂, hq₂, harr₂⟩ := key m' l' a₁ w₁ hJ'
    have hg : gotoIn l' (.inScope c :: k) = some (.code rest' :: .inScope c :: k) := by simp [gotoIn, hf']
    exact ⟨e₂, a₂, w₂, hq₂, .of_steps (.head step_scope (harr _ hg)) harr₂⟩
  | ret => exact ⟨_, a₁, w₁, hq, .of_steps (.one step_scope) harr⟩
  | panic ch => exact ⟨_, a₁, w₁, hq, .of_steps (.one step_scope) harr⟩
  | outgrown => exact ⟨_, a₁, w₁, hq, .of_steps (.one step_scope) harr⟩

/-- the runes of a text -/
def runesL (s : ByteArray) : Nat → Nat → List Int
  | 0, _ => []
  | b + 1, i => if i < s.size then ((Utf8.decode s i).1 : Int) :: runesL s b (i + (Utf8.decode s i).2) else []
theorem runesFrom_eq (s : ByteArray) : ∀ (b i : Nat) (acc : Array Value), Conv.runesFrom s b i acc = acc ++ ((runesL s b i).map (Value.int .i32)).toArray
  | 0, i, acc => by simp [Conv.runesFrom, runesL]
  | b + 1, i, acc => by
    unfold Conv.runesFrom runesL
    by_cases h : i < s.size
    · rw [if_pos h, if_pos h]
      show Conv.runesFrom s b (i + (Utf8.decode s i).2) (acc.push (Value.int .i32 (Int.ofNat (Utf8.decode s i).1))) = _
      rw [runesFrom_eq s b]
      simp
    · rw [if_neg h, if_neg h]
      simp
theorem runes_size (s : ByteArray) : (Conv.runesFrom s s.size 0 #[]).size = (runesL s s.size 0).length := by rw [runesFrom_eq]; simp
theorem runesL_len (s : ByteArray) : ∀ (b i : Nat), (runesL s b i).length ≤ b
  | 0, _ => by simp [runesL]
  | b + 1, i => by
    unfold runesL
    split
    · simp; exact runesL_len s b _
    · simp
theorem runesLaid (s : ByteArray) (h : s.size ≤ 60) (w : World) : ∃ (cap : Nat) (C : Array Value), (convert 9 202 (.string s)).run Try.prog w = .ok (.slice (some ⟨w.heap.size, 0, none⟩) (runesL s s.size 0).length cap) (w.drew.alloc (.cells C 21)) ∧ (runesL s s.size 0).length ≤ cap ∧ ∀ i, i < (runesL s s.size 0).length → C[i]? = some (.int .i32 ((runesL s s.size 0).getD i 0)) := by
  have hrn := run_runes_of_string (P := Try.prog) w (src := 9) (dst := 202) (e := 21) (s := s) (hs := Try.underlying9) (hd := Try.underlying202) (he := Try.underlying21) (h46 := by have := size_runesFrom s s.size 0 #[]; simp at this; omega)
  have hz := runes_size s
  rw [hz] at hrn
  refine ⟨_, _, hrn, grownCap_ge w _ 0 _, fun i hi => ?_⟩
  rw [Array.getElem?_append_left (by rw [hz]; exact hi), runesFrom_eq]
  simp [List.getD_eq_getElem?_getD, List.getElem?_eq_getElem hi]
def pss (lo hi part : Int) (rs : List Int) (l : Lt) : Option (List Int × Lt) := match rs with | r :: t => if lo ≤ r ∧ r ≤ hi then some (t, gat part r l) else none | [] => none
def fnl (rs : List Int) (l : Lt) : Bool × Lt := (decide (rs.length = 0), l)
def pwr (rs : List Int) (l : Lt) : Bool × Lt :=
  match pss 101 101 1 rs l with
  | none => fnl rs l
  | some x => match pss 48 48 4 x.1 x.2 with
    | some y => fnl y.1 y.2
    | none => match pss 49 57 4 ((pss 45 45 3 x.1 x.2).getD x).1 ((pss 45 45 3 x.1 x.2).getD x).2 with
      | none => (false, ((pss 45 45 3 x.1 x.2).getD x).2)
      | some y => match pss 48 57 4 y.1 y.2 with
        | none => fnl y.1 y.2
        | some z => fnl ((pss 48 57 4 z.1 z.2).getD z).1 ((pss 48 57 4 z.1 z.2).getD z).2
def beh : List Int → Lt → Bool × Lt
  | [], l => pwr [] l
  | r :: t, l => if 48 ≤ r ∧ r ≤ 57 then beh t (gat 2 r l) else pwr (r :: t) l
def pnt (rs : List Int) (l : Lt) : Bool × Lt :=
  match pss 46 46 1 rs l with
  | none => pwr rs l
  | some x => match pss 48 57 2 x.1 x.2 with
    | none => (false, x.2)
    | some y => beh y.1 y.2
def whl : List Int → Lt → Bool × Lt
  | [], l => pnt [] l
  | r :: t, l => if 48 ≤ r ∧ r ≤ 57 then whl t (gat 0 r l) else pnt (r :: t) l
def scn (rs : List Int) (l : Lt) : Bool × Lt :=
  match pss 48 48 0 rs l with
  | some x => pnt x.1 x.2
  | none => match pss 49 57 0 rs l with
    | none => (false, l)
    | some x => whl x.1 x.2
theorem pss_y {lo hi part r : Int} {t : List Int} {l : Lt} (h1 : lo ≤ r) (h2 : r ≤ hi) : pss lo hi part (r :: t) l = some (t, gat part r l) := by unfold pss; dsimp only; rw [if_pos ⟨h1, h2⟩]
theorem pss_n {lo hi part : Int} {rs : List Int} {l : Lt} (h : rs = [] ∨ ∃ r t, rs = r :: t ∧ (r < lo ∨ hi < r)) : pss lo hi part rs l = none := by
  rcases h with rfl | ⟨r, t, rfl, h⟩
  · rfl
  · unfold pss; dsimp only; rw [if_neg (by omega)]
theorem pcase (lo hi : Int) (rs : List Int) : (∃ r t, rs = r :: t ∧ lo ≤ r ∧ r ≤ hi) ∨ (rs = [] ∨ ∃ r t, rs = r :: t ∧ (r < lo ∨ hi < r)) := by
  cases rs with
  | nil => exact .inr (.inl rfl)
  | cons r t =>
    by_cases h : lo ≤ r ∧ r ≤ hi
    · exact .inl ⟨r, t, rfl, h.1, h.2⟩
    · exact .inr (.inr ⟨r, t, rfl, by omega⟩)
theorem beh_n {rs : List Int} {l : Lt} (h : pss 48 57 2 rs l = none) : beh rs l = pwr rs l := by
  cases rs with
  | nil => rfl
  | cons r t =>
    unfold pss at h; dsimp only at h
    by_cases g : 48 ≤ r ∧ r ≤ 57
    · rw [if_pos g] at h; cases h
    · unfold beh; rw [if_neg g]
theorem beh_y {r : Int} {t : List Int} {l : Lt} (h1 : 48 ≤ r) (h2 : r ≤ 57) : beh (r :: t) l = beh t (gat 2 r l) := by rw [beh, if_pos ⟨h1, h2⟩]
theorem whl_n {rs : List Int} {l : Lt} (h : pss 48 57 0 rs l = none) : whl rs l = pnt rs l := by
  cases rs with
  | nil => rfl
  | cons r t =>
    unfold pss at h; dsimp only at h
    by_cases g : 48 ≤ r ∧ r ≤ 57
    · rw [if_pos g] at h; cases h
    · unfold whl; rw [if_neg g]
theorem whl_y {r : Int} {t : List Int} {l : Lt} (h1 : 48 ≤ r) (h2 : r ≤ 57) : whl (r :: t) l = whl t (gat 0 r l) := by rw [whl, if_pos ⟨h1, h2⟩]
/-- small, with what may still come -/
def Lt.fits (l : Lt) (rs : List Int) (p : Int) : Prop := ∃ n, n + rs.length ≤ 60 ∧ l.small n ∧ l.pw ≤ p
theorem fits_gat {part r p : Int} {t : List Int} {l : Lt} (h : l.fits (r :: t) p) (hp : 0 ≤ part ∧ part < 4) : (gat part r l).fits t p := by
  obtain ⟨n, h1, ⟨h2, h3, h4, h5, h6⟩, h7⟩ := h
  rw [List.length_cons] at h1
  have es := enc_size r
  have ea : (l.ds ++ Utf8.encode r).size = l.ds.size + (Utf8.encode r).size := by simp
  refine ⟨n + 1, by omega, ?_⟩
  obtain rfl | rfl | rfl | rfl : part = 0 ∨ part = 1 ∨ part = 2 ∨ part = 3 := by omega
  all_goals (unfold gat Lt.small; simp only [if_true, if_false, Int.reduceEq]; (try rw [ea]); refine ⟨⟨?_, ?_, ?_, ?_, ?_⟩, ?_⟩ <;> first | omega | (push_cast; omega))
theorem fits_gat4 {r p : Int} {t : List Int} {l : Lt} (h : l.fits (r :: t) p) (h1 : 48 ≤ r) (h2 : r ≤ 57) (hp : p ≤ 999) : (gat 4 r l).fits t (10 * p + 9) := by
  obtain ⟨n, g1, ⟨g2, g3, g4, g5, g6⟩, g7⟩ := h
  rw [List.length_cons] at g1
  refine ⟨n, by omega, ?_⟩
  unfold gat Lt.small
  simp only [if_true, if_false, Int.reduceEq]
  refine ⟨⟨?_, ?_, ?_, ?_, ?_⟩, ?_⟩ <;> omega
theorem fits_small {l : Lt} {rs : List Int} {p : Int} (h : l.fits rs p) : ∃ n, n ≤ 1000 ∧ l.small n := by
  obtain ⟨n, h1, h2, _⟩ := h
  exact ⟨n, by omega, h2⟩
theorem iPassYF (lo hi part : Int) (lb tb g rb : Nat) (r : Int) (t : List Int) (l : Lt) (p : Int) (w : World) (S : Sc w lb tb g rb (r :: t) l) (hs : l.fits (r :: t) p) (h1 : lo ≤ r) (h2 : r ≤ hi) (h0 : 0 ≤ lo) (h3 : hi ≤ 127) (hp : part = 4 → 48 ≤ lo) (hk : 0 ≤ part ∧ part ≤ 4) :
    Calls Try.prog 157 #[.int .i32 lo, .int .i32 hi, .int .i64 part, .pointer (some ⟨lb, 0, none⟩), .pointer (some ⟨tb, 0, none⟩)] w fun e w' => e = .returned (.bool true) ∧ Sc w' lb tb g rb t (gat part r l) ∧ BX (fun k => k = g ∨ k = lb) w w' := by
  obtain ⟨n, hn, hs'⟩ := fits_small hs
  exact iPassYes lo hi part lb tb g rb r t l n w S hn hs' h1 h2 h0 h3 hp hk
theorem iPassAny (lo hi part : Int) (lb tb g rb : Nat) (rs : List Int) (l : Lt) (p : Int) (w : World) (S : Sc w lb tb g rb rs l) (hs : l.fits rs p) (h0 : 0 ≤ lo) (h3 : hi ≤ 127) (hp : part = 4 → 48 ≤ lo) (hk : 0 ≤ part ∧ part ≤ 4) :
    Calls Try.prog 157 #[.int .i32 lo, .int .i32 hi, .int .i64 part, .pointer (some ⟨lb, 0, none⟩), .pointer (some ⟨tb, 0, none⟩)] w fun e w' => (∃ b, e = .returned (.bool b)) ∧ Sc w' lb tb g rb ((pss lo hi part rs l).getD (rs, l)).1 ((pss lo hi part rs l).getD (rs, l)).2 ∧ BX (fun k => k = g ∨ k = lb) w w' := by
  rcases pcase lo hi rs with ⟨r, t, rfl, a1, a2⟩ | hn
  · rw [pss_y a1 a2]
    exact (iPassYF lo hi part lb tb g rb r t l p w S hs a1 a2 h0 h3 hp hk).mono (fun e w' h => ⟨⟨_, h.1⟩, h.2⟩)
  · rw [pss_n hn]
    exact (iPassNo lo hi part lb tb g rb rs l w S hn).mono (fun e w' h => by rw [h.2]; exact ⟨⟨_, h.1⟩, S, BX.refl _ _⟩)
theorem fits_any {lo hi part p : Int} {rs : List Int} {l : Lt} (h : l.fits rs p) (hp : 0 ≤ part ∧ part < 4) : ((pss lo hi part rs l).getD (rs, l)).2.fits ((pss lo hi part rs l).getD (rs, l)).1 p := by
  rcases pcase lo hi rs with ⟨r, t, rfl, a1, a2⟩ | hn
  · rw [pss_y a1 a2]; exact fits_gat h hp
  · rw [pss_n hn]; exact h
def Fr (s : ByteArray) (lb tb g : Nat) (a : Act) : Prop := ∃ u7 u8 u9 u10 u11 u12 u13 u14 u15 u16 u17 u18 u19 u20 u21 u22 u23 u24 u25 u26 u27 u28 u29 u30 u31 u32 u33 u34 u35 u36 u37 u38 u39 u40 u41 u42 u43 : Value, a = { tmps := #[.string s, takeV g, undef, .pointer (some ⟨tb, 0, none⟩), .bool false, .pointer (some ⟨lb, 0, none⟩), .func (.func 157) #[] #[.pointer (some ⟨lb, 0, none⟩), .pointer (some ⟨tb, 0, none⟩)], u7, u8, u9, u10, u11, u12, u13, u14, u15, u16, u17, u18, u19, u20, u21, u22, u23, u24, u25, u26, u27, u28, u29, u30, u31, u32, u33, u34, u35, u36, u37, u38, u39, u40, u41, u42, u43], defers := [] }
/-- what holds at a label -/
def Jl (s : ByteArray) (w0 : World) (lb tb g rb : Nat) (res : Bool × Lt) (m lab : Nat) (a : Act) (w : World) : Prop :=
  Fr s lb tb g a ∧ BX (fun k => k = g ∨ k = lb) w0 w ∧ ∃ rs l, Sc w lb tb g rb rs l ∧
    ((lab = 1 ∧ m = 8 * rs.length + 5 ∧ l.fits rs 0 ∧ whl rs l = res) ∨ (lab = 0 ∧ m = 8 * rs.length + 4 ∧ l.fits rs 0 ∧ pnt rs l = res) ∨
     (lab = 3 ∧ m = 8 * rs.length + 3 ∧ l.fits rs 0 ∧ beh rs l = res) ∨ (lab = 2 ∧ m = 8 * rs.length + 2 ∧ l.fits rs 0 ∧ pwr rs l = res) ∨
     (lab = 4 ∧ m = 8 * rs.length + 1 ∧ fnl rs l = res))
end Go.Proofs.Ytmpckbgelkfgpaa
