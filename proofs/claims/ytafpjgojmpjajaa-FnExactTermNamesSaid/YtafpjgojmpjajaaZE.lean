/- What a scanner of literals gathers. Conditions: few and small numbers. Of what was there only what it gathers in is written. -/
import Derived.Test.YtafpjgojmpjajaaZA
import Derived.Deep.RegionHeld3
namespace Go.Proofs.Ytafpjgojmpjajaa
open Go.RowKit
set_option linter.unusedVariables false
set_option maxRecDepth 100000

/-- all that was there, but some blocks, is as it was -/
structure BX (S : Nat → Prop) (w w' : World) : Prop where
  os : w'.os = w.os
  tape : w'.tape = w.tape
  output : w'.output = w.output
  size : w.heap.size ≤ w'.heap.size
  block : ∀ k, k < w.heap.size → ¬ S k → w'.heap[k]? = w.heap[k]?
theorem BX.of {S : Nat → Prop} {w w' : World} (h : Below w.heap.size w w') : BX S w w' := ⟨h.os, h.tape, h.output, h.size, fun k hk _ => h.block k hk⟩
theorem BX.refl (S : Nat → Prop) (w : World) : BX S w w := BX.of (Below.refl _ _)
theorem BX.trans {S : Nat → Prop} {a b c : World} (h : BX S a b) (g : BX S b c) : BX S a c :=
  ⟨g.os.trans h.os, g.tape.trans h.tape, g.output.trans h.output, Nat.le_trans h.size g.size, fun k hk hn => (g.block k (Nat.lt_of_lt_of_le hk h.size) hn).trans (h.block k hk hn)⟩
theorem BX.mono {S T : Nat → Prop} {w w' : World} (h : BX S w w') (hs : ∀ k, k < w.heap.size → S k → T k) : BX T w w' :=
  ⟨h.os, h.tape, h.output, h.size, fun k hk hn => h.block k hk (fun g => hn (hs k hk g))⟩
theorem BX.set {S : Nat → Prop} {w w' : World} (h : BX S w w') (p : Addr) (hp : S p.block ∨ w.heap.size ≤ p.block) (v : Value) : BX S w (w'.setCell p v) :=
  ⟨h.os, h.tape, h.output, by simpa [World.setCell] using h.size, fun k hk hn => (Below.heap_setCell _ _ _ _ (by rintro rfl; exact hp.elim hn (by omega))).trans (h.block k hk hn)⟩
theorem BX.alloc {S : Nat → Prop} {w w' : World} (h : BX S w w') (o : Obj) : BX S w (w'.alloc o) := h.trans (BX.of ((Below.refl _ _).alloc (Nat.le_refl _) o))
theorem BX.drew {S : Nat → Prop} {w w' : World} (h : BX S w w') : BX S w w'.drew := ⟨h.os, h.tape, h.output, h.size, h.block⟩
theorem BX.below {S : Nat → Prop} {m : Nat} {w w' : World} (h : BX S w w') (hm : ∀ k, S k → m ≤ k) (hw : m ≤ w.heap.size) : Below m w w' :=
  ⟨h.os, h.tape, h.output, h.size, fun k hk => h.block k (by omega) (fun g => absurd (hm k g) (by omega))⟩
theorem BX.cell {S : Nat → Prop} {w w' : World} (h : BX S w w') {b i : Nat} (hb : b < w.heap.size) (hn : ¬ S b) : w'.cell? ⟨b, i, none⟩ = w.cell? ⟨b, i, none⟩ := World.cell?_of_block (w := w) (h.block b hb hn)
theorem BX.frozen {S : Nat → Prop} {w w' : World} (h : BX S w w') {b i : Nat} (hb : b < w.heap.size) (hn : ¬ S b) : w'.frozen? ⟨b, i, none⟩ = w.frozen? ⟨b, i, none⟩ := World.frozen?_of_block (w := w) (h.block b hb hn)
theorem CS.bx {S : Nat → Prop} {w w' : World} {b : Nat} {vs : List Value} (h : CS w b vs) (g : BX S w w') (hn : ¬ S b) : CS w' b vs :=
  ⟨fun i v hi => (g.cell h.lt hn).trans (h.cell i v hi), fun i hi => (g.frozen h.lt hn).trans (h.froz i hi), Nat.lt_of_lt_of_le h.lt g.size⟩

structure Lt where
  ds : ByteArray
  pl : Int
  dn : Bool
  pw : Int
def gat (part r : Int) (l : Lt) : Lt :=
  if part = 2 then { l with ds := l.ds ++ Utf8.encode r, pl := l.pl + 1 }
  else if part = 0 then { l with ds := l.ds ++ Utf8.encode r }
  else if part = 3 then { l with dn := true }
  else if part = 4 then { l with pw := 10 * l.pw + (r - 48) }
  else l
def Lt.cells (l : Lt) : List Value := [.string l.ds, .int .i64 l.pl, .bool l.dn, .int .i64 l.pw]
/-- what is gathered is small -/
def Lt.small (l : Lt) (n : Nat) : Prop := l.ds.size ≤ 4 * n ∧ 0 ≤ l.pl ∧ l.pl ≤ n ∧ 0 ≤ l.pw ∧ l.pw ≤ 100000
theorem enc_size (r : Int) : (Utf8.encode r).size ≤ 4 := by
  unfold Utf8.encode
  dsimp only
  generalize (if Utf8.valid r = true then r.toNat else Utf8.runeError) = c
  by_cases h1 : c < 128
  · rw [if_pos h1]; exact (show 1 ≤ 4 by omega)
  rw [if_neg h1]
  by_cases h2 : c < 2048
  · rw [if_pos h2]; exact (show 2 ≤ 4 by omega)
  rw [if_neg h2]
  by_cases h3 : c < 65536
  · rw [if_pos h3]; exact (show 3 ≤ 4 by omega)
  rw [if_neg h3]
  exact (show 4 ≤ 4 by omega)
set_option maxHeartbeats 2000000 in
theorem iGather (g : Nat) (part r : Int) (l : Lt) (n : Nat) (w : World) (hC : CS w g l.cells) (hn : n ≤ 1000) (hs : l.small n) (h1 : 0 ≤ r) (h2 : r ≤ 127) (hp : part = 4 → 48 ≤ r) (hk : 0 ≤ part ∧ part ≤ 4) :
    Calls Try.prog 66 #[.pointer (some ⟨g, 0, none⟩), .int .i64 part, .int .i32 r] w fun e w' => (∃ v, e = .returned v) ∧ CS w' g (gat part r l).cells ∧ BX (· = g) w w' := by
  have c0 := hC.cell 0 _ rfl
  have c1 := hC.cell 1 _ rfl
  have c2 := hC.cell 2 _ rfl
  have c3 := hC.cell 3 _ rfl
  have f0 := hC.froz 0 (by show _ < 4; omega)
  have f1 := hC.froz 1 (by show _ < 4; omega)
  have f2 := hC.froz 2 (by show _ < 4; omega)
  have f3 := hC.froz 3 (by show _ < 4; omega)
  obtain ⟨s1, s2, s3, s4, s5⟩ := hs
  have es := enc_size r
  have hl := hC.lt
  have ed : ¬ 9223372036854775807 < l.ds.size + (Utf8.encode r).size := by omega
  obtain ⟨ds, pl, dn, pw⟩ := l
  dsimp only at *
  obtain rfl | rfl | rfl | rfl | rfl : part = 0 ∨ part = 1 ∨ part = 2 ∨ part = 3 ∨ part = 4 := by omega
  · clear s2 s3 s4 s5 hp hk es s1
    go_enter Try.func66, Try.ntmps66
    go_wp2
    go_end0
    exact ⟨⟨_, rfl⟩, hC.stored (i := 0) _ (by show _ < 4; omega), (BX.refl (· = g) w).set ⟨g, 0, none⟩ (.inl rfl) _⟩
  · clear s2 s3 s4 s5 hp hk es s1 ed
    go_enter Try.func66, Try.ntmps66
    go_wp2
    go_end0
    exact ⟨⟨_, rfl⟩, hC, BX.refl (· = g) w⟩
  · clear s4 s5 hp hk es s1
    go_enter Try.func66, Try.ntmps66
    go_wp2
    go_end0
    exact ⟨⟨_, rfl⟩, (hC.stored (i := 1) _ (by show _ < 4; omega)).stored (i := 0) _ (by show _ < 4; omega), ((BX.refl (· = g) w).set ⟨g, 1, none⟩ (.inl rfl) _).set ⟨g, 0, none⟩ (.inl rfl) _⟩
  · clear s2 s3 s4 s5 hp hk es s1 ed
    go_enter Try.func66, Try.ntmps66
    go_wp2
    go_end0
    exact ⟨⟨_, rfl⟩, hC.stored (i := 2) _ (by show _ < 4; omega), (BX.refl (· = g) w).set ⟨g, 2, none⟩ (.inl rfl) _⟩
  · have hp4 := hp rfl
    clear s2 s3 hp hk es s1 ed
    have e1 : wrap64 (10 * pw) = 10 * pw := by unfold wrap64; omega
    have e2 : wrap32 (r - 48) = r - 48 := by unfold wrap32; omega
    have e3 : wrap64 (10 * pw + (r - 48)) = 10 * pw + (r - 48) := by unfold wrap64; omega
    go_enter Try.func66, Try.ntmps66
    go_wp2
    go_end0
    exact ⟨⟨_, rfl⟩, hC.stored (i := 3) _ (by show _ < 4; omega), (BX.refl (· = g) w).set ⟨g, 3, none⟩ (.inl rfl) _⟩
end Go.Proofs.Ytafpjgojmpjajaa
