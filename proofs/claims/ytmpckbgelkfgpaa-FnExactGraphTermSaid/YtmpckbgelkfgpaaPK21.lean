/- Iterators that keep memory of their own between two rounds: what one promises, and the law of a range over one. The caller says which blocks are its own (C); the iterator leaves them alone, and the rounds write nothing else. No condition. -/
import Derived.RangeFuncWrites
import Derived.RangeFuncBound
import Derived.RangeFuncNested
import Derived.Shelf.Abstract
import Derived.WalkKit
import Derived.Below
namespace Go.Proofs.Ytmpckbgelkfgpaa
open Go.RowKit Go.Shelf
set_option linter.unusedVariables false
set_option maxRecDepth 100000

/-- nothing that was there is written but what C names -/
structure Out (C : Nat → Prop) (A B : World) : Prop where
  os : B.os = A.os
  tape : B.tape = A.tape
  output : B.output = A.output
  size : A.heap.size ≤ B.heap.size
  same : ∀ k, k < A.heap.size → ¬ C k → B.heap[k]? = A.heap[k]?
theorem Out.refl (C : Nat → Prop) (A : World) : Out C A A := ⟨rfl, rfl, rfl, Nat.le_refl _, fun _ _ _ => rfl⟩
theorem Out.trans {C C' : Nat → Prop} {A B D : World} (h : Out C A B) (k : Out C' B D) (s : ∀ i, C' i → C i ∨ A.heap.size ≤ i) : Out C A D :=
  ⟨k.os.trans h.os, k.tape.trans h.tape, k.output.trans h.output, Nat.le_trans h.size k.size, fun i hi hn => (k.same i (Nat.lt_of_lt_of_le hi h.size) (fun g => (s i g).elim hn (fun e => by omega))).trans (h.same i hi hn)⟩
theorem Out.of_below {C : Nat → Prop} {A B : World} (h : Below A.heap.size A B) : Out C A B := ⟨h.os, h.tape, h.output, h.size, fun i hi _ => h.block i hi⟩
theorem Out.below {C : Nat → Prop} {A B : World} {n : Nat} (h : Out C A B) (hn : n ≤ A.heap.size) (s : ∀ i, C i → n ≤ i) : Below n A B :=
  ⟨h.os, h.tape, h.output, h.size, fun i hi => h.same i (by omega) (fun g => by have := s i g; omega)⟩
theorem Out.put {C : Nat → Prop} (A : World) (l : Nat) (o : Obj) (h : C l) : Out C A (A.putObj l o) :=
  ⟨rfl, rfl, rfl, by simp, fun i hi hn => World.putObj_heap_other (fun e => hn (by subst e; exact h))⟩
/-- what is said holds as long as what C names is as it was -/
def Stable {α : Type} (J : List α → (Nat → Prop) → World → Prop) : Prop :=
  ∀ s C A B, J s C A → B.os = A.os → B.tape = A.tape → B.output = A.output → A.heap.size ≤ B.heap.size → (∀ k, C k → B.heap[k]? = A.heap[k]?) → J s C B
theorem Stable.put {α : Type} {J : List α → (Nat → Prop) → World → Prop} (h : Stable J) {s : List α} {C : Nat → Prop} {A : World} (hj : J s C A) (l : Nat) (o : Obj) (hl : ¬ C l) : J s C (A.putObj l o) :=
  h s C A _ hj rfl rfl rfl (by simp) (fun k hk => World.putObj_heap_other (fun e => hl (by subst e; exact hk)))
/-- the new footprint is the old one and what is new -/
def Grew (C C' : Nat → Prop) (n : Nat) : Prop := ∀ k, C' k → C k ∨ n ≤ k
theorem Grew.refl (C : Nat → Prop) (n : Nat) : Grew C C n := fun _ h => .inl h
theorem Grew.trans {C C' C'' : Nat → Prop} {n m : Nat} (h : Grew C C' n) (k : Grew C' C'' m) (hm : n ≤ m) : Grew C C'' n := fun i hi => (k i hi).elim (h i) (fun e => .inr (Nat.le_trans hm e))

variable {F : Fence} {n : Nat} {P : Program}
end Go.Proofs.Ytmpckbgelkfgpaa

/- Iterators that keep memory of their own between two rounds, and go on making some: what one promises, and the law of a range over one. The caller says which blocks are its own (C), none of them beyond what is there; the iterator leaves them alone, and the rounds write nothing else. No condition. -/
namespace Go.Proofs.Ytmpckbgelkfgpaa
open Go.RowKit Go.Shelf
set_option linter.unusedVariables false
set_option maxRecDepth 100000

/-- the new footprint is the old one and what is new -/
def GrewB (C C' : Nat → Prop) (n m : Nat) : Prop := ∀ k, C' k → C k ∨ (n ≤ k ∧ k < m)
theorem GrewB.refl (C : Nat → Prop) (n m : Nat) : GrewB C C n m := fun _ h => .inl h
theorem GrewB.trans {C C' C'' : Nat → Prop} {n m n' m' : Nat} (h : GrewB C C' n m) (k : GrewB C' C'' n' m') (hn : n ≤ n') (hm : m ≤ m') : GrewB C C'' n m' := fun i hi => (k i hi).elim (fun e => (h i e).imp id (fun e => ⟨e.1, Nat.lt_of_lt_of_le e.2 hm⟩)) (fun e => .inr ⟨Nat.le_trans hn e.1, e.2⟩)
theorem GrewB.wide {C C' : Nat → Prop} {n m m' : Nat} (h : GrewB C C' n m) (hm : m ≤ m') : GrewB C C' n m' := fun i hi => (h i hi).imp id (fun e => ⟨e.1, Nat.lt_of_lt_of_le e.2 hm⟩)
theorem GrewB.low {C C' : Nat → Prop} {n n' m : Nat} (h : GrewB C C' n m) (hn : n' ≤ n) : GrewB C C' n' m := fun i hi => (h i hi).imp id (fun e => ⟨Nat.le_trans hn e.1, e.2⟩)
theorem GrewB.lt {C C' : Nat → Prop} {n m : Nat} (h : GrewB C C' n m) (hC : ∀ k, C k → k < m) : ∀ k, C' k → k < m := fun i hi => (h i hi).elim (hC i) (fun e => e.2)

def SeqB {α : Type} (F : Fence) (n : Nat) (P : Program) (g : Nat) (lb : Array Value) (encs : α → Array Value) (E : α → World → Prop) (S Sp : List α → World → Prop) (N : Nat) (Own : Nat → Prop) (w : World) : Prop :=
  ∀ (l : Nat) (J Jx : List α → (Nat → Prop) → World → Prop) (C0 : Nat → Prop) (W : World), Out (fun k => ¬ Own k) w W → Stable J → Stable Jx → (∀ k, C0 k → ¬ Own k) → (∀ k, C0 k → k < W.heap.size) →
    (∀ pre x C W1, J pre C W1 → Out C0 W W1 → GrewB C0 C W.heap.size W1.heap.size → pre.length < N → E x W1 → YieldAt F (n - 1) P l (encs x) W1 fun e W' =>
      (e = .returned (.bool true) ∧ ∃ C', J (pre ++ [x]) C' W' ∧ Out C W1 W' ∧ GrewB C C' W1.heap.size W'.heap.size) ∨ (e = .returned (.bool false) ∧ ∃ C', Jx (pre ++ [x]) C' W' ∧ Out C W1 W' ∧ GrewB C C' W1.heap.size W'.heap.size)) →
    J [] C0 W →
    CallsIn F n P g (#[.func (.yield l) #[] #[]] ++ lb) W fun e W' => (∃ v, e = .returned v) ∧ Out C0 W W' ∧
      ((∃ xs C', S xs W' ∧ J xs C' W' ∧ GrewB C0 C' W.heap.size W'.heap.size) ∨ (∃ pre C', Sp pre W' ∧ Jx pre C' W' ∧ GrewB C0 C' W.heap.size W'.heap.size))

/-- how the body of a round may be left -/
def postB {α : Type} (I : List α → (Nat → Prop) → World → Prop) (Ix : Code → List α → (Nat → Prop) → World → Prop) (xs : List α) (C : Nat → Prop) (W : World) : Exit → Act → World → Prop
  | .normal, _, W' => ∃ C', I xs C' W' ∧ Out C W W' ∧ GrewB C C' W.heap.size W'.heap.size
  | .ret, _, W' => ∃ C', Ix .ret xs C' W' ∧ Out C W W' ∧ GrewB C C' W.heap.size W'.heap.size
  | .exit id, _, W' => ∃ C', Ix (.exit id) xs C' W' ∧ Out C W W' ∧ GrewB C C' W.heap.size W'.heap.size
  | .goto t, _, W' => ∃ C', Ix (.goto t) xs C' W' ∧ Out C W W' ∧ GrewB C C' W.heap.size W'.heap.size
  | .panic _, _, _ => False
  | .outgrown, _, _ => False

variable {F : Fence} {n : Nat} {P : Program}
set_option maxHeartbeats 1000000 in
theorem wpIn_rangeFunc_B {α : Type} {g : Operand} {ps : Array Tmp} {assign body : Code} {Q : Exit → Act → World → Prop} {a : Act} {w : World}
    (hro : F.round = none) (h1 : 1 ≤ n) {gf : Nat} {lb : Array Value} (hg : a.eval g = .func (.func gf) #[] lb) (hFg : F.fn gf) (eg : ∀ args w, (callFunc gf args).run P w = .ok (.enter gf args) w)
    {encs : α → Array Value} {E : α → World → Prop} {S Sp : List α → World → Prop} {N : Nat} {Own : Nat → Prop} {w0 : World} (hseq : SeqB F (n - 1) P gf lb encs E S Sp N Own w0)
    (hOwn : Out (fun k => ¬ Own k) w0 w) (hOl : ∀ k, Own k → k < w.heap.size) (hps : ∀ x, (encs x).size = ps.size)
    (hSb : ∀ xs (W : World) (l : Nat) (o o' : Obj), W.heap[l]? = some o → o.isCells = false → S xs W → S xs (W.putObj l o'))
    (hSpb : ∀ xs (W : World) (l : Nat) (o o' : Obj), W.heap[l]? = some o → o.isCells = false → Sp xs W → Sp xs (W.putObj l o'))
    (I : List α → (Nat → Prop) → World → Prop) (Ix : Code → List α → (Nat → Prop) → World → Prop) (hI : Stable I) (hIx : ∀ c, Stable (Ix c))
    (C0 : Nat → Prop) (h0 : I [] C0 w) (hC0 : ∀ k, C0 k → ¬ Own k) (hCl : ∀ k, C0 k → k < w.heap.size) (A : α → Act → World → Prop)
    (hAb : ∀ x b (W : World) (l : Nat) (o o' : Obj), W.heap[l]? = some o → o.isCells = false → A x b W → A x b (W.putObj l o'))
    (hassign : ∀ (l : Nat) (x : α) (W : World) (K : Act → World → Prop), E x W → (∀ b W1, A x b W1 → Below W.heap.size W W1 → K b W1) →
      assign.wpIn (F.inRound l) (n - 1 - 1) P (Exit.then K (fun _ _ _ => False)) { tmps := (ps.zip (encs x)).foldl (fun t (p, v) => t.setIfInBounds p v) a.tmps, defers := [] } W)
    (hbody : ∀ (l : Nat) (pre : List α) (x : α) (C : Nat → Prop) (b : Act) (W : World), I pre C W → Out C0 w W → GrewB C0 C w.heap.size W.heap.size → pre.length < N → A x b W → body.wpIn (F.inRound l) (n - 1 - 1) P (postB I Ix (pre ++ [x]) C W) b W)
    (hdone : ∀ (D : Nat) (xs : List α) (C : Nat → Prop) (W : World), w.heap.size ≤ D → S xs W → I xs C W → Out C0 w W → GrewB C0 C w.heap.size W.heap.size → W.heap[D]? = some (.deferred (some [])) → Q .normal { a with defers := { target := .collected D, args := #[] } :: a.defers } W)
    (hstop : ∀ (D : Nat) (c : Code) (pre : List α) (C : Nat → Prop) (W : World), w.heap.size ≤ D → Sp pre W → Ix c pre C W → Out C0 w W → GrewB C0 C w.heap.size W.heap.size → W.heap[D]? = some (.deferred (some [])) → c.wpIn F n P Q { a with defers := { target := .collected D, args := #[] } :: a.defers } W) :
    (Code.rangeFunc g ps assign body).wpIn F n P Q a w := by
  refine wpIn_rangeFunc ?_
  intro fn hfn
  rw [hro]
  obtain ⟨rec, hrec⟩ : ∃ rec : LoopState → Option Code → Loop, rec = fun st pe => { state := st, pending := pe, fn, tmps := a.tmps, params := ps, assign, body, defers := w.heap.size } := ⟨_, rfl⟩
  obtain ⟨W1, hW1⟩ : ∃ W1, (w.alloc (.deferred (some []))).alloc (.loop (rec .ready none)) = W1 := ⟨_, rfl⟩
  have hL1 : W1.heap[w.heap.size + 1]? = some (.loop (rec .ready none)) := by
    rw [← hW1]; have := World.alloc_heap_new (w.alloc (.deferred (some []))) (.loop (rec .ready none)); rwa [World.size_alloc] at this
  have hK1 : W1.heap[w.heap.size]? = some (.deferred (some [])) := by
    rw [← hW1]; exact (Below.heap_alloc _ _ _ (by simp)).trans (World.alloc_heap_new w _)
  have hB1 : Below w.heap.size w W1 := by
    rw [← hW1]; exact ((Below.refl _ w).alloc (Nat.le_refl _) _).alloc (by simp) _
  have hz1 : W1.heap.size = w.heap.size + 2 := by rw [← hW1]; simp
  have hI1 : I [] C0 W1 := hI _ _ _ _ h0 hB1.os hB1.tape hB1.output hB1.size (fun k hk => hB1.block k (hCl k hk))
  have hO1 : Out (fun k => ¬ Own k) w0 W1 := hOwn.trans (C' := fun _ => False) (Out.of_below hB1) (fun i h => h.elim)
  refine ⟨w.heap.size + 1, [{ target := .collected w.heap.size, args := #[] }], W1, { target := .fn (.func gf) lb, args := #[.func (.yield (w.heap.size + 1)) #[] #[]] }, W1, gf,
    #[.func (.yield (w.heap.size + 1)) #[] #[]] ++ lb, W1, ?_, ?_, ?_, ?_, fun _ => h1, ?_⟩
  · rw [← hW1, hrec]; exact run_enterLoop_outer _ _ _ _ _
  · simp only [resolve, hg]
    simp [go_sem]
  · intro f' hf'; simp [Target.leads] at hf'; subst hf'; exact hFg
  · simp [invoke, go_sem, eg]
  · have nO : ∀ k, w.heap.size ≤ k → ¬ Own k := fun k h g => by have := hOl k g; omega
    have n0 : ∀ k, w.heap.size ≤ k → ¬ C0 k := fun k h g => by have := hCl k g; omega
    have back : ∀ {W : World}, Out (fun k => C0 k ∨ k = w.heap.size ∨ k = w.heap.size + 1) W1 W → Out C0 w W := fun h =>
      (Out.of_below hB1).trans h (fun i hi => hi.elim .inl (fun e => .inr (by omega)))
    refine (hseq (w.heap.size + 1)
      (fun pre C W => ∃ Ci : Nat → Prop, (∀ k, C k ↔ (Ci k ∨ k = w.heap.size ∨ k = w.heap.size + 1)) ∧ I pre Ci W ∧ ¬ Ci w.heap.size ∧ ¬ Ci (w.heap.size + 1) ∧ W.heap[w.heap.size + 1]? = some (.loop (rec .ready none)) ∧ W.heap[w.heap.size]? = some (.deferred (some [])))
      (fun pre C W => ∃ (Ci : Nat → Prop) (c : Code), (∀ k, C k ↔ (Ci k ∨ k = w.heap.size ∨ k = w.heap.size + 1)) ∧ Ix c pre Ci W ∧ ¬ Ci w.heap.size ∧ ¬ Ci (w.heap.size + 1) ∧ W.heap[w.heap.size + 1]? = some (.loop (rec .done (some c))) ∧ W.heap[w.heap.size]? = some (.deferred (some [])))
      (fun k => C0 k ∨ k = w.heap.size ∨ k = w.heap.size + 1) W1 hO1
      ?_ ?_ (fun k hk => hk.elim (hC0 k) (fun e => nO k (by omega))) (fun k hk => hk.elim (fun g => by have := hCl k g; omega) (fun e => by omega))
      ?_ ⟨C0, fun _ => Iff.rfl, hI1, n0 _ (Nat.le_refl _), n0 _ (by omega), hL1, hK1⟩).mono ?_
    · rintro s C A B ⟨Ci, hC, hi, m1, m2, hl, hk⟩ e1 e2 e3 e4 e5
      exact ⟨Ci, hC, hI _ _ _ _ hi e1 e2 e3 e4 (fun k hk => e5 k ((hC k).2 (.inl hk))), m1, m2, (e5 _ ((hC _).2 (.inr (.inr rfl)))).trans hl, (e5 _ ((hC _).2 (.inr (.inl rfl)))).trans hk⟩
    · rintro s C A B ⟨Ci, c, hC, hi, m1, m2, hl, hk⟩ e1 e2 e3 e4 e5
      exact ⟨Ci, c, hC, hIx c _ _ _ _ hi e1 e2 e3 e4 (fun k hk => e5 k ((hC k).2 (.inl hk))), m1, m2, (e5 _ ((hC _).2 (.inr (.inr rfl)))).trans hl, (e5 _ ((hC _).2 (.inr (.inl rfl)))).trans hk⟩
    · rintro pre x C Wq ⟨Ci, hC, hi0, m1, m2, hl0, hk0⟩ hO0 hG0 hlen hE
      have hlt0 : w.heap.size + 1 < Wq.heap.size := (Array.getElem?_eq_some_iff.1 hl0).1
      have hy := run_yield (P := P) (args := encs x) hl0 (by rw [hrec]; exact hps x)
      rw [hrec] at hy
      refine ⟨fn, _, assign, body, hy, roundIn_of_wpIn hfn (hassign _ x Wq _ hE ?_)⟩
      intro a1 W hA hBa
      have hCq : ∀ k, C k → k < Wq.heap.size := hG0.lt (fun k hk => Nat.lt_of_lt_of_le (hk.elim (fun g => by have := hCl k g; omega) (fun e => by omega)) hO0.size)
      have hl := (hBa.block _ hlt0).trans hl0
      have hk := (hBa.block w.heap.size (by omega)).trans hk0
      have hi := hI _ _ _ W hi0 hBa.os hBa.tape hBa.output hBa.size (fun k hk => hBa.block k (hCq k ((hC k).2 (.inl hk))))
      have hO := hO0.trans (C' := fun _ => False) (Out.of_below hBa) (fun i h => h.elim)
      have hG := hG0.wide hBa.size
      have hlt : w.heap.size + 1 < W.heap.size := Nat.lt_of_lt_of_le hlt0 hBa.size
      refine ⟨_, run_beginRound hl (by rw [hrec]), ?_⟩
      have hl2 : (W.putObj (w.heap.size + 1) (.loop { rec .ready none with state := .busy })).heap[w.heap.size + 1]? = some (.loop { rec .ready none with state := .busy }) := World.putObj_heap_same hlt
      have hk2 : (W.putObj (w.heap.size + 1) (.loop { rec .ready none with state := .busy })).heap[w.heap.size]? = some (.deferred (some [])) := (World.putObj_heap_other (by omega)).trans hk
      have hs2 : (W.putObj (w.heap.size + 1) (.loop { rec .ready none with state := .busy })).heap.size = W.heap.size := by simp
      have hOb : Out C W (W.putObj (w.heap.size + 1) (.loop { rec .ready none with state := .busy })) := Out.put W _ _ ((hC _).2 (.inr (.inr rfl)))
      have hGi : GrewB C0 Ci w.heap.size W.heap.size := fun k hk => by
        rcases hG k ((hC k).2 (.inl hk)) with g | g
        · rcases g with g | g
          · exact .inl g
          · exact .inr ⟨by omega, by omega⟩
        · exact .inr ⟨by omega, g.2⟩
      have hOw : Out C0 w (W.putObj (w.heap.size + 1) (.loop { rec .ready none with state := .busy })) := (back hO).trans (C' := fun k => k = w.heap.size + 1) (Out.put W _ _ rfl) (fun i e => .inr (by omega))
      refine wpIn_mono (hbody _ pre x Ci _ _ (hI.put hi _ _ m2) hOw (hGi.wide (by rw [hs2]; exact Nat.le_refl _)) hlen (hAb _ _ _ _ _ _ hl rfl hA)) ?_
      have fin : ∀ (jump : Option Code) (W3 : World) (C' : Nat → Prop), Out Ci (W.putObj (w.heap.size + 1) (.loop { rec .ready none with state := .busy })) W3 → GrewB Ci C' (W.putObj (w.heap.size + 1) (.loop { rec .ready none with state := .busy })).heap.size W3.heap.size →
          (Instr.endRound (w.heap.size + 1) jump).run P W3 = .ok (.bool jump.isNone) (W3.putObj (w.heap.size + 1) (.loop (rec (if jump.isNone then .ready else .done) jump))) ∧
          (W3.putObj (w.heap.size + 1) (.loop (rec (if jump.isNone then .ready else .done) jump))).heap[w.heap.size + 1]? = some (.loop (rec (if jump.isNone then .ready else .done) jump)) ∧
          (W3.putObj (w.heap.size + 1) (.loop (rec (if jump.isNone then .ready else .done) jump))).heap[w.heap.size]? = some (.deferred (some [])) ∧
          ¬ C' w.heap.size ∧ ¬ C' (w.heap.size + 1) ∧
          Out C W (W3.putObj (w.heap.size + 1) (.loop (rec (if jump.isNone then .ready else .done) jump))) ∧
          GrewB C (fun k => C' k ∨ k = w.heap.size ∨ k = w.heap.size + 1) W.heap.size (W3.putObj (w.heap.size + 1) (.loop (rec (if jump.isNone then .ready else .done) jump))).heap.size := fun jump W3 C' hO3 hG3 => by
        have hl3 := (hO3.same _ (by rw [hs2]; exact hlt) m2).trans hl2
        have hk3 := (hO3.same _ (by rw [hs2]; omega) m1).trans hk2
        have := run_endRound (P := P) jump hl3
        rw [hrec] at this ⊢
        refine ⟨this, World.putObj_heap_same (Array.getElem?_eq_some_iff.1 hl3).1, (World.putObj_heap_other (by omega)).trans hk3, fun g => (hG3 _ g).elim m1 (fun e => by rw [hs2] at e; omega), fun g => (hG3 _ g).elim m2 (fun e => by rw [hs2] at e; omega), ?_, ?_⟩
        · rw [hrec] at hOb hO3
          exact (hOb.trans hO3 (fun i hi => .inl ((hC i).2 (.inl hi)))).trans (C' := fun k => k = w.heap.size + 1) (Out.put W3 _ _ rfl) (fun i e => .inl ((hC i).2 (.inr (.inr e))))
        · intro k hk
          rcases hk with hk | hk
          · exact (hG3 k hk).imp (fun e => (hC k).2 (.inl e)) (fun e => by rw [hs2] at e; simpa using e)
          · exact .inl ((hC k).2 (.inr hk))
      rintro e a3 W3 hp
      cases e with
      | normal =>
        obtain ⟨C', hi3, hO3, hG3⟩ := hp
        obtain ⟨hr, hl4, hk4, q1, q2, hO4, hG4⟩ := fin none W3 C' hO3 hG3
        exact ⟨_, _, hr, .inl ⟨rfl, _, ⟨C', fun _ => Iff.rfl, hI.put hi3 _ _ q2, q1, q2, hl4, hk4⟩, (Out.of_below hBa).trans hO4 (fun i h => .inl h), hG4.low hBa.size⟩⟩
      | ret =>
        obtain ⟨C', hi3, hO3, hG3⟩ := hp
        obtain ⟨hr, hl4, hk4, q1, q2, hO4, hG4⟩ := fin (some .ret) W3 C' hO3 hG3
        exact ⟨_, _, hr, .inr ⟨rfl, _, ⟨C', .ret, fun _ => Iff.rfl, (hIx _).put hi3 _ _ q2, q1, q2, hl4, hk4⟩, (Out.of_below hBa).trans hO4 (fun i h => .inl h), hG4.low hBa.size⟩⟩
      | exit id =>
        obtain ⟨C', hi3, hO3, hG3⟩ := hp
        obtain ⟨hr, hl4, hk4, q1, q2, hO4, hG4⟩ := fin (some (.exit id)) W3 C' hO3 hG3
        exact ⟨_, _, hr, .inr ⟨rfl, _, ⟨C', .exit id, fun _ => Iff.rfl, (hIx _).put hi3 _ _ q2, q1, q2, hl4, hk4⟩, (Out.of_below hBa).trans hO4 (fun i h => .inl h), hG4.low hBa.size⟩⟩
      | goto t =>
        obtain ⟨C', hi3, hO3, hG3⟩ := hp
        obtain ⟨hr, hl4, hk4, q1, q2, hO4, hG4⟩ := fin (some (.goto t)) W3 C' hO3 hG3
        exact ⟨_, _, hr, .inr ⟨rfl, _, ⟨C', .goto t, fun _ => Iff.rfl, (hIx _).put hi3 _ _ q2, q1, q2, hl4, hk4⟩, (Out.of_below hBa).trans hO4 (fun i h => .inl h), hG4.low hBa.size⟩⟩
      | panic ch => exact hp.elim
      | outgrown => exact hp.elim
    · rintro e W2 ⟨⟨v, rfl⟩, hO, (⟨xs, C, hS, ⟨Ci, hC, hi, m1, m2, hl, hk⟩, hG⟩ | ⟨pre, C, hSp, ⟨Ci, c, hC, hi, m1, m2, hl, hk⟩, hG⟩)⟩
      · have hlt2 : w.heap.size + 1 < W2.heap.size := (Array.getElem?_eq_some_iff.1 hl).1
        have hGi : GrewB C0 Ci w.heap.size W2.heap.size := fun k hk => by
          rcases hG k ((hC k).2 (.inl hk)) with g | g
          · exact g.imp id (fun e => by omega)
          · exact .inr ⟨by omega, g.2⟩
        exact ⟨none, _, by have := run_endLoop (P := P) hl (by rw [hrec]; simp); rw [hrec] at this; exact this, hdone _ xs Ci _ (Nat.le_refl _) (hSb _ _ _ _ _ hl rfl hS) (hI.put hi _ _ m2) ((back hO).trans (C' := fun k => k = w.heap.size + 1) (Out.put W2 _ _ rfl) (fun i e => .inr (by omega))) (hGi.wide (by simp)) ((World.putObj_heap_other (by omega)).trans hk)⟩
      · have hlt2 : w.heap.size + 1 < W2.heap.size := (Array.getElem?_eq_some_iff.1 hl).1
        have hGi : GrewB C0 Ci w.heap.size W2.heap.size := fun k hk => by
          rcases hG k ((hC k).2 (.inl hk)) with g | g
          · exact g.imp id (fun e => by omega)
          · exact .inr ⟨by omega, g.2⟩
        exact ⟨some c, _, by have := run_endLoop (P := P) hl (by rw [hrec]; simp); rw [hrec] at this; exact this, hstop _ c pre Ci _ (Nat.le_refl _) (hSpb _ _ _ _ _ hl rfl hSp) ((hIx c).put hi _ _ m2) ((back hO).trans (C' := fun k => k = w.heap.size + 1) (Out.put W2 _ _ rfl) (fun i e => .inr (by omega))) (hGi.wide (by simp)) ((World.putObj_heap_other (by omega)).trans hk)⟩
end Go.Proofs.Ytmpckbgelkfgpaa
