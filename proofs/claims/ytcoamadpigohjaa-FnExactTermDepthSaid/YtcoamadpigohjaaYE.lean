/- Trees behind the interface termTree in memory, and how deep they are, by the program. Nothing that was there is written. -/
import Derived.Test.YtcoamadpigohjaaYD
namespace Go.Proofs.Ytcoamadpigohjaa
open Go.RowKit
set_option linter.unusedVariables false

/-- the sign and the level of a joint -/
def rowOf (k : Int) : Option (ByteArray × Int) :=
  if k = 4 then some (⟨#[43]⟩, 0) else if k = 5 then some (⟨#[45]⟩, 0) else if k = 6 then some (⟨#[42]⟩, 1) else if k = 7 then some (⟨#[47]⟩, 1) else none
/-- the word of a call of the language -/
def wordOf (k : Int) : Option ByteArray :=
  if k = 9 then some ⟨#[115, 113, 114, 116]⟩ else if k = 10 then some ⟨#[97, 98, 115]⟩ else if k = 11 then some ⟨#[109, 105, 110]⟩ else if k = 12 then some ⟨#[109, 97, 120]⟩ else none
/-- a value is a tree -/
inductive TV (w : World) (g : Option Nat) : Tr → Value → Prop
  | leaf (n : Tn) (hk : n.k = 1 ∨ n.k = 2) : TV w g (.mk n []) (.iface 83 (.agg #[.int .i64 n.k, .string n.s]))
  | minus (n : Tn) (t : Tr) (v : Value) (hk : n.k = 3) (h : TV w g t v) : TV w g (.mk n [t]) (.iface 61 (.agg #[v]))
  | raised (n : Tn) (t : Tr) (v : Value) (hk : n.k = 8) (h : TV w g t v) : TV w g (.mk n [t]) (.iface 63 (.agg #[v, .int .i64 n.n]))
  | joint (n : Tn) (t u : Tr) (v v' : Value) (sg : ByteArray) (lv : Int) (hk : rowOf n.k = some (sg, lv)) (h : TV w g t v) (h' : TV w g u v') : TV w g (.mk n [t, u]) (.iface 75 (.agg #[.int .i64 n.k, .string sg, .int .i64 lv, v, v']))
  | named (n : Tn) (ps : List Tr) (b off cap : Nat) (vs : Nat → Value) (hk : n.k = 13) (hm : ps.length ≤ 6) (hcap : ps.length ≤ cap ∧ cap ≤ maxLen) (hb : b < w.heap.size) (hq : some b ≠ g) (hc : ∀ i, i < ps.length → w.cell? ⟨b, off + i, none⟩ = some (vs i)) (h : ∀ i (hi : i < ps.length), TV w g ps[i] (vs i)) : TV w g (.mk n ps) (.iface 68 (.agg #[.string n.s, .slice (some ⟨b, off, none⟩) ps.length cap]))
  | own (n : Tn) (ps : List Tr) (b off cap : Nat) (vs : Nat → Value) (wd : ByteArray) (hk : wordOf n.k = some wd) (hm : ps.length ≤ 6) (hcap : ps.length ≤ cap ∧ cap ≤ maxLen) (hb : b < w.heap.size) (hq : some b ≠ g) (hc : ∀ i, i < ps.length → w.cell? ⟨b, off + i, none⟩ = some (vs i)) (h : ∀ i (hi : i < ps.length), TV w g ps[i] (vs i)) : TV w g (.mk n ps) (.iface 81 (.agg #[.string wd, .slice (some ⟨b, off, none⟩) ps.length cap, .int .i64 n.k]))
theorem TV.old {w w' : World} {g : Option Nat} {t : Tr} {v : Value} (h : TV w g t v) (k : Below w.heap.size w w') : TV w' g t v := by
  induction h with
  | leaf n hk => exact .leaf n hk
  | minus n t v hk h ih => exact .minus n t v hk ih
  | raised n t v hk h ih => exact .raised n t v hk ih
  | joint n t u v v' sg lv hk h h' ih ih' => exact .joint n t u v v' sg lv hk ih ih'
  | named n ps b off cap vs hk hm hcap hb hq hc h ih => exact .named n ps b off cap vs hk hm hcap (Nat.lt_of_lt_of_le hb k.size) hq (fun i hi => (k.cell (p := ⟨b, off + i, none⟩) hb).trans (hc i hi)) ih
  | own n ps b off cap vs wd hk hm hcap hb hq hc h ih => exact .own n ps b off cap vs wd hk hm hcap (Nat.lt_of_lt_of_le hb k.size) hq (fun i hi => (k.cell (p := ⟨b, off + i, none⟩) hb).trans (hc i hi)) ih
/-- a tree behind a row that grew -/
theorem TV.kept {w w' : World} {g g' : Option Nat} {t : Tr} {v : Value} (h : TV w g t v) (k : w.grownBy w' g) (hg : g' = g ∨ ∃ q, g' = some q ∧ w.heap.size ≤ q) : TV w' g' t v := by
  have far : ∀ b, b < w.heap.size → some b ≠ g → some b ≠ g' := by
    intro b h1 h2
    rcases hg with rfl | ⟨q, rfl, hq⟩
    · exact h2
    · intro e; injection e with e; omega
  induction h with
  | leaf n hk => exact .leaf n hk
  | minus n t v hk h ih => exact .minus n t v hk ih
  | raised n t v hk h ih => exact .raised n t v hk ih
  | joint n t u v v' sg lv hk h h' ih ih' => exact .joint n t u v v' sg lv hk ih ih'
  | named n ps b off cap vs hk hm hcap hb hq hc h ih => exact .named n ps b off cap vs hk hm hcap (Nat.lt_of_lt_of_le hb k.size) (far b hb hq) (fun i hi => k.cell (hc i hi) hq) ih
  | own n ps b off cap vs wd hk hm hcap hb hq hc h ih => exact .own n ps b off cap vs wd hk hm hcap (Nat.lt_of_lt_of_le hb k.size) (far b hb hq) (fun i hi => k.cell (hc i hi) hq) ih
/-- values stand in a row -/
def PSl (w : World) (av : Option Addr) (m : Nat) (vs : Nat → Value) : Prop := m = 0 ∨ ∃ b off : Nat, av = some ⟨b, off, none⟩ ∧ b < w.heap.size ∧ ∀ i, i < m → w.cell? ⟨b, off + i, none⟩ = some (vs i)
theorem PSl.later {w w' : World} {av : Option Addr} {m : Nat} {vs : Nat → Value} (h : PSl w av m vs) (k : Below w.heap.size w w') : PSl w' av m vs := by
  rcases h with h | ⟨b, off, h1, h2, h3⟩
  · exact .inl h
  · exact .inr ⟨b, off, h1, Nat.lt_of_lt_of_le h2 k.size, fun i hi => (k.cell (p := ⟨b, off + i, none⟩) h2).trans (h3 i hi)⟩
theorem PSl.at {w : World} {av : Option Addr} {m : Nat} {vs : Nat → Value} (h : PSl w av m vs) {i : Nat} (hi : i < m) : ∃ b off : Nat, av = some ⟨b, off, none⟩ ∧ b < w.heap.size ∧ w.cell? ⟨b, off + i, none⟩ = some (vs i) := by
  rcases h with h | ⟨b, off, h1, h2, h3⟩
  · omega
  · exact ⟨b, off, h1, h2, h3 i hi⟩
def oneV (v : Value) : Nat → Value := fun _ => v
def twoV (v u : Value) : Nat → Value := fun i => if i = 0 then v else u
theorem iPartsLeaf (k : Int) (s : ByteArray) (w : World) : Calls Try.prog 75 #[.agg #[.int .i64 k, .string s]] w fun e w' => (∃ av cv, e = .returned (.slice av 0 cv) ∧ PSl w' av 0 (oneV default)) ∧ Below w.heap.size w w' := by
  go_enter Try.func75, Try.ntmps75
  go_wp2
  go_ret
  exact ⟨⟨_, _, rfl, .inl rfl⟩, (by repeat (first | exact Below.refl _ _ | refine Below.drew ?_ | refine old_alloc ?_ _ | refine old_trans ?_ (by assumption)))⟩
theorem TV.iface {w : World} {g : Option Nat} {t : Tr} {v : Value} (h : TV w g t v) : ∃ (ty : TypeId) (u : Value), v = .iface ty u := by cases h <;> exact ⟨_, _, rfl⟩
theorem iPartsMinus (ty : TypeId) (v : Value) (w : World) : Calls Try.prog 65 #[.agg #[.iface ty v]] w fun e w' => (∃ av cv, e = .returned (.slice av 1 cv) ∧ PSl w' av 1 (oneV (.iface ty v))) ∧ Below w.heap.size w w' := by
  go_enter Try.func65, Try.ntmps65
  go_wp2
  go_ret
  refine ⟨⟨_, _, rfl, .inr ⟨_, _, rfl, by simp, fun i hi => ?_⟩⟩, (by repeat (first | exact Below.refl _ _ | refine Below.drew ?_ | refine old_alloc ?_ _ | refine old_trans ?_ (by assumption)))⟩
  obtain rfl : i = 0 := by omega
  simp [oneV]
theorem iPartsRaised (ty : TypeId) (v : Value) (n : Int) (w : World) : Calls Try.prog 67 #[.agg #[.iface ty v, .int .i64 n]] w fun e w' => (∃ av cv, e = .returned (.slice av 1 cv) ∧ PSl w' av 1 (oneV (.iface ty v))) ∧ Below w.heap.size w w' := by
  go_enter Try.func67, Try.ntmps67
  go_wp2
  go_ret
  refine ⟨⟨_, _, rfl, .inr ⟨_, _, rfl, by simp, fun i hi => ?_⟩⟩, (by repeat (first | exact Below.refl _ _ | refine Below.drew ?_ | refine old_alloc ?_ _ | refine old_trans ?_ (by assumption)))⟩
  obtain rfl : i = 0 := by omega
  simp [oneV]
theorem iPartsJoint (k lv : Int) (sg : ByteArray) (ty ty' : TypeId) (v u : Value) (w : World) : Calls Try.prog 72 #[.agg #[.int .i64 k, .string sg, .int .i64 lv, .iface ty v, .iface ty' u]] w fun e w' => (∃ av cv, e = .returned (.slice av 2 cv) ∧ PSl w' av 2 (twoV (.iface ty v) (.iface ty' u))) ∧ Below w.heap.size w w' := by
  go_enter Try.func72, Try.ntmps72
  go_wp2
  go_ret
  refine ⟨⟨_, _, rfl, .inr ⟨_, _, rfl, by simp, fun i hi => ?_⟩⟩, (by repeat (first | exact Below.refl _ _ | refine Below.drew ?_ | refine old_alloc ?_ _ | refine old_trans ?_ (by assumption)))⟩
  obtain rfl | rfl : i = 0 ∨ i = 1 := by omega
  · simp [twoV]
  · simp [twoV]
theorem iPartsCalled (s : ByteArray) (av : Option Addr) (m cap : Nat) (w : World) : Calls Try.prog 68 #[.agg #[.string s, .slice av m cap]] w fun e w' => e = .returned (.slice av m cap) ∧ Below w.heap.size w w' := by
  go_enter Try.func68, Try.ntmps68
  go_wp2
  go_ret
  exact ⟨rfl, (by repeat (first | exact Below.refl _ _ | refine Below.drew ?_ | refine old_alloc ?_ _ | refine old_trans ?_ (by assumption)))⟩
end Go.Proofs.Ytcoamadpigohjaa
