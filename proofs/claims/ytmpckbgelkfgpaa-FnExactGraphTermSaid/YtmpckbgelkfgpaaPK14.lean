/- Maps that count: what 'm[k]++' does to a map, and how many keys it then has. No condition but that there is room. -/
import Derived.Test.YtmpckbgelkfgpaaPK01
import Derived.Maps.OwnSet
import Derived.WideKeyEntry
namespace Go.Proofs.Ytmpckbgelkfgpaa
open Go.RowKit
set_option linter.unusedVariables false
set_option maxRecDepth 100000

/-- the keys of a map are those of a list; as many as the list is long just if none stands twice -/
structure Seen {H : Type} (D : DataW H) (ls : List Lit) : Prop where
  tidy : Maps.Tidy D
  has : ∀ l, WideAt.IsKeyLit l → (Maps.has D l = true ↔ l ∈ ls)
  le : Maps.size D ≤ ls.length
  eq : Maps.size D = ls.length ↔ ls.Nodup
theorem Seen.none {H : Type} : Seen (.map [] : DataW H) [] := ⟨Maps.tidy_empty, fun l _ => by simp [Maps.has_eq], by simp [Maps.size_eq], by simp [Maps.size_eq]⟩
theorem nodup_snoc {α : Type} {ls : List α} {l : α} : (ls ++ [l]).Nodup ↔ ls.Nodup ∧ l ∉ ls := by
  rw [List.nodup_append]
  constructor
  · rintro ⟨h1, -, h3⟩
    exact ⟨h1, fun hm => h3 l hm l (by simp) rfl⟩
  · rintro ⟨h1, h2⟩
    refine ⟨h1, by simp, fun a ha b hb e => ?_⟩
    rw [List.mem_singleton] at hb
    subst hb
    exact h2 (e ▸ ha)
theorem Seen.put {H : Type} {D : DataW H} {ls : List Lit} (h : Seen D ls) {l : Lit} (hl : WideAt.IsKeyLit l) (d : DataW H) : Seen (D.put l d) (ls ++ [l]) := by
  have le := h.le
  have eq := h.eq
  have hm := h.has l hl
  refine ⟨h.tidy.put hl d, fun l' hl' => ?_, ?_, ?_⟩
  · by_cases e : l' = l
    · subst e
      rw [Maps.has_put_same h.tidy.isMap hl]
      simp
    · rw [Maps.has_put_other e, h.has l' hl']
      simp [e]
  · rw [Maps.size_put h.tidy, List.length_append]
    simp only [List.length_cons, List.length_nil]
    split <;> omega
  · rw [Maps.size_put h.tidy, nodup_snoc, List.length_append]
    simp only [List.length_cons, List.length_nil]
    by_cases hh : Maps.has D l = true
    · rw [if_pos hh]
      exact ⟨fun e => by omega, fun e => absurd (hm.1 hh) e.2⟩
    · rw [if_neg hh, ← eq]
      exact ⟨fun e => ⟨by omega, fun q => hh (hm.2 q)⟩, fun e => by rw [e.1]⟩
/-- 'm[k]++' of a map of numbers, in whatever order its parts come -/
theorem count_up {H : Type} {P : Program} {w : World} {t k e : TypeId} {b n : Nat} {D : DataW H} (h : w.ownsMap P k (plainElem P e) b n D) (K : WideMaps.KeyLaw P k) (ht : P.underlying t = some (.map k e)) (he : P.underlying e = some (.int .i64))
    (hz : ∀ u : World, (zeroValue e).run P u = .ok (.int .i64 0) u) (hn : n < maxLen) {key : Value} {kl : Lit} (hkey : keyOf P k key = some kl) :
    ∃ (c c1 : Int) (st : Nat) (w1 : World), (Instr.lookup t (.map (some b)) key false).run P w = .ok (.int .i64 c) w ∧ (Instr.mapEntry t (.map (some b)) key).run P w = .ok (.tuple #[.int .i64 c, goInt st]) w1 ∧
      (Instr.lookup t (.map (some b)) key false).run P w1 = .ok (.int .i64 c1) w1 ∧ w.grownBy w1 (some b) ∧
      ∀ a : Int, (Lit.int .i64 a).wf = true → ∃ w2, (Instr.entryStore t (.map (some b)) (goInt st) (.int .i64 a)).run P w1 = .ok () w2 ∧ w2.ownsMap P k (plainElem P e) b (n + 1) (D.put kl (.lit (.int .i64 a))) ∧ w.grownBy w2 (some b) := by
  have KK := Maps.Keyed.of_law K
  have h' := h
  obtain ⟨es, clock, hb, F, hs, hD⟩ := h
  obtain ⟨v0, st, es1, clock1, r1, -, r2⟩ := WideElems.entry_then_store K ht hz hb F hkey
  have hb1 : (ChangeMaps.setBlock w b (.map es1 clock1)).heap[b]? = some (.map es1 clock1) := ChangeMaps.heap_setBlock_same hb _
  obtain ⟨c, hl, hat, hwc⟩ := h'.lookup_int KK ht he (hz w) hkey
  have key1 : v0 = .int .i64 c ∧ ∃ n' D1, (ChangeMaps.setBlock w b (.map es1 clock1)).ownsMap P k (plainElem (H := H) P e) b n' D1 := by
    rcases K.find w hkey es.toList F.keys with ⟨h1, h2⟩ | ⟨j, e0, h1, h2, h3⟩
    · have l1 : (Instr.lookup t (.map (some b)) key false).run P w = .ok (.int .i64 0) w := by
        simp [Instr.lookup, run_underlying ht, MapKept.run_getObj_map hb, K.check w _ hkey, h1, hz, Result.andThen]
      have m1 : (Instr.mapEntry t (.map (some b)) key).run P w = .ok (.tuple #[.int .i64 0, goInt clock]) (ChangeMaps.setBlock w b (.map (es.push ⟨key, .int .i64 0, clock⟩) (clock + 1))) := by
        simp [Instr.mapEntry, run_underlying ht, MapKept.run_getObj_map hb, K.check w false hkey, h1, hz, MapKept.run_setObj_map _ hb, Result.andThen, ChangeMaps.setBlock]
      have u1 : (Instr.mapUpdate t (.map (some b)) key (.int .i64 0)).run P w = .ok () (ChangeMaps.setBlock w b (.map (es.push ⟨key, .int .i64 0, clock⟩) (clock + 1))) := by
        simp [Instr.mapUpdate, run_underlying ht, MapKept.run_getObj_map hb, K.check w false hkey, h1, MapKept.run_setObj_map _ hb, Result.andThen, ChangeMaps.setBlock]
      obtain ⟨w', q1, q2, -⟩ := h'.update KK ht hn hkey (plainElem_int (H := H) he (a := 0) (by decide))
      rw [u1] at q1
      rw [l1] at hl
      rw [m1] at r1
      injection hl with e1
      injection r1 with e2 e3
      injection q1 with _ q1
      simp at e2
      exact ⟨e2.1.symm.trans e1, _, _, by rw [← e3, q1]; exact q2⟩
    · have l1 : (Instr.lookup t (.map (some b)) key false).run P w = .ok e0.val w := by
        simp [Instr.lookup, run_underlying ht, MapKept.run_getObj_map hb, K.check w _ hkey, h1, Result.andThen]
      have hj : es[j]? = some e0 := by simpa using h2
      have hsame : es.modify j (fun e => { e with key := key }) = es := by
        apply Array.ext'
        rw [Array.toList_modify, ChangeMaps.modify_eq_set _ _ _ _ h2]
        have : ({ e0 with key := key } : MapEntry) = e0 := by rw [← h3]
        rw [this]
        exact WideElems.set_self _ _ _ h2
      have m1 : (Instr.mapEntry t (.map (some b)) key).run P w = .ok (.tuple #[e0.val, goInt e0.born]) (ChangeMaps.setBlock w b (.map es clock)) := by
        simp [Instr.mapEntry, run_underlying ht, MapKept.run_getObj_map hb, K.check w false hkey, h1, hj, h3, K.stays w hkey, hsame, MapKept.run_setObj_map _ hb, Result.andThen, ChangeMaps.setBlock]
      rw [l1] at hl
      rw [m1] at r1
      injection hl with e1
      injection r1 with e2 e3
      simp at e2
      exact ⟨e2.1.symm.trans e1, _, _, by rw [← e3]; exact ⟨es, clock, ChangeMaps.heap_setBlock_same hb _, F, hs, rfl⟩⟩
  obtain ⟨rfl, n', D1, own1⟩ := key1
  obtain ⟨c1, hl1, -, -⟩ := own1.lookup_int KK ht he (hz _) hkey
  refine ⟨c, c1, st, _, hl, r1, hl1, ⟨rfl, rfl, rfl, by simp [ChangeMaps.setBlock], fun i _ hi => ChangeMaps.heap_setBlock_other hb _ (fun e => hi (by rw [e]))⟩, fun a hwa => ?_⟩
  obtain ⟨es', clock', s1, u1⟩ := r2 _ (.int .i64 a) hb1
  obtain ⟨w', q1, q2, q3⟩ := h'.update KK ht hn hkey (plainElem_int (H := H) he hwa)
  rw [u1] at q1
  injection q1 with _ q1
  subst q1
  exact ⟨_, s1, by simpa [ChangeMaps.setBlock] using q2, by simpa [ChangeMaps.setBlock] using q3⟩
end Go.Proofs.Ytmpckbgelkfgpaa
