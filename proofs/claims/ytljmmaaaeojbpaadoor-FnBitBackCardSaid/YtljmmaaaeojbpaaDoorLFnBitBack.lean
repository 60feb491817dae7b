/- For every two codes of bytes: drawn patterns and order numbers come back from one another, but that the sign alone gives the pattern 0; a drawn float is made of its parts, also of twice the size with one power less: the law answers true; nothing that was there is written. Condition: the library's table of 64 bytes reads as the text lays it, which the card ties to the program's text (over the pruned copy that the seat names). -/
import Derived.Test.YtljmmaaaeojbpaaDoorY2
import Derived.Test.YtljmmaaaeojbpaaDoorJ0
import Derived.Test.YtljmmaaaeojbpaaDoorJ1
import Derived.Test.YtljmmaaaeojbpaaDoorJ2
import Derived.Test.YtljmmaaaeojbpaaDoorJ3
import Derived.Test.YtljmmaaaeojbpaaDoorTie
import Derived.Test.YtljmmaaaeojbpaaDoorCards
import Derived.ProofKit
import Derived.LaidMore
import Derived.OpenShut
import Derived.ShutString
import Derived.Below
import Derived.Stop.Joined
import Derived.Lib.LaidTab
import Derived.Lib.SmallJoins
import Derived.Deep.RegionHeld
import Derived.ChangeOld
import Derived.SevenTiedAt
namespace Go.Proofs.YtljmmaaaeojbpaaDoor
open Go.ChangeShapes Go.WideShapes Go.ChangeAt Go.RowKit Go.Joins
set_option linter.unusedVariables false

theorem own : ownKnob Tryd.prog.godebug = none := by kernel_rfl
theorem laidOut : laidOutB Tryd.prog = true := jf1
def laidL {H : Type} : List (String × DataW H) := [("math/bits.deBruijn64tab", Rows.laid_math_bits_deBruijn64tab)]
theorem gTab : Tryd.prog.globalNamed "math/bits.deBruijn64tab" = some 0 := by kernel_rfl
theorem tTab : (Tryd.prog.globals[0]?).map (·.type) = some 64 := by kernel_rfl
theorem datumTab {H : Type} : (Rows.laid_math_bits_deBruijn64tab : DataW H) = Lib.tabData .u8 tab64 := rfl

theorem door_met (os : Os) (args : Array Value) : laidMetH Tryd.prog laidL ((World.doorLaid Tryd.prog 14 os).forCall (fun _ _ => 0) ⟨#[], args, []⟩).memory :=
  laidMetH_of_parts3 (fuel := 8) (laidMet_of_run' 8 (by kernel_rfl) (by kernel_rfl)) (by kernel_rfl) (by kernel_rfl)

theorem of_laid {W : World} (h : laidMetH Tryd.prog laidL W) : Tab W := by
  rw [MakeChecks.laidMetH_plain _ _ _ (by kernel_rfl)] at h
  unfold laidL at h
  rw [datumTab] at h
  have hi := Lib.tabIs_of_head (n := 64) gTab tTab (by kernel_rfl) Tryd.underlying5 (by kernel_rfl) (by kernel_rfl) h
  have hc : ∀ i, i < 64 → W.cell? ⟨0, i, none⟩ = some (.int .u8 (tab64.getD i 0)) := fun i hi' => hi.cell gTab i hi'
  exact ⟨World.block_lt_of_cell? W _ (hc 0 (by decide)), hc⟩


/-- what the walk is told of a slice of integers that came in: it is nil, or leads to a row of 'cap' numbers that fit their kind -/
def IsRow (k : IntKind) (w : World) (a : Option Addr) (len cap : Nat) (zs : List Int) : Prop :=
  (a = none ∧ len = 0 ∧ cap = 0 ∧ zs = []) ∨
  ∃ x, a = some x ∧ len ≤ cap ∧ cap ≤ maxLen ∧ zs.length = cap ∧ (∀ i, i < zs.length → w.cell? (x.add i) = some (.int k (zs.getD i 0))) ∧ ∀ n ∈ zs, (Lit.int k n).wf = true

theorem row_code {w : World} {a : Option Addr} {len cap : Nat} {zs : List Int} (h : IsRow .u8 w a len cap zs) : IsCode w a len cap := by
  rcases h with ⟨rfl, rfl, rfl, rfl⟩ | ⟨x, rfl, hl, hm, hz, hcell, hwz⟩
  · exact ⟨by omega, by omega, .inl rfl⟩
  · unfold maxLen at hm
    refine ⟨hl, by omega, ?_⟩
    by_cases h0 : len = 0
    · exact .inl h0
    obtain ⟨b, off, spot⟩ := x
    have hc := hcell 0 (by omega)
    have hspot : spot = none := by simpa [Addr.add] using World.cell?_spot hc
    subst hspot
    have hb := World.block_lt_of_cell? w _ hc
    refine .inr ⟨b, off, rfl, by simpa [Addr.add] using hb, fun i hi => ?_⟩
    have hci := hcell i (by omega)
    have hw : (Lit.int .u8 (zs.getD i 0)).wf = true := by
      apply hwz
      rw [List.getD_eq_getElem?_getD, List.getElem?_eq_getElem (by omega)]
      exact List.getElem_mem _
    obtain ⟨z0, z1⟩ := bounds_u8 hw
    have e : (⟨b, off, none⟩ : Addr).add i = ⟨b, off + i, none⟩ := by
      by_cases h : i = 0
      · subst h; simp [Addr.add]
      · simp [Addr.add, h]
    rw [e] at hci
    exact ⟨_, z0, z1, hci⟩


set_option maxRecDepth 100000 in
theorem FnBitBack_lifted (os : Os) (started : os.Started) (H : Type) (enc : TypeId × Value → H) :
    ReturnsInHanded {} Tryd.checked os 3 .any (fun w args => (Rows.fnBitBackSpec.pre enc Tryd.prog Tryd.f3 [] false w args ∧ laidMetH Tryd.prog laidL w) ∧ sizedMet enc Tryd.prog Tryd.f3 (OpenSpec.ofChange Rows.fnBitBackSpec) false w args)
      (Rows.fnBitBackSpec.post enc Tryd.prog Tryd.f3 false true false false) := by
  refine returnsInHanded_of_change_and (C := Tryd.checked) (X := fun w _ => laidMetH Tryd.prog laidL w) (fun _ _ _ hh h => h.of_heap hh) own started (by kernel_rfl) Tryd.func3
    (ChangeSpec.witness_shaped (enc := enc) (C := Tryd.checked) (os := os) (X := fun w _ => laidMetH Tryd.prog laidL w) false (World.doorLaid Tryd.prog 14 os) #[.slice none 0 0, .slice none 0 0] 8 rfl (World.shaped_of_RefB (by kernel_rfl) (by kernel_rfl)) (by kernel_rfl) (by kernel_rfl) (by kernel_rfl) (door_met os _)) ?_
  intro W base args ds gs before hval0 hW _ _ hL _
  have hval : ∀ (j : Nat) t v, Tryd.f3.params[j]? = some t → args[j]? = some v → Value.okWide Tryd.prog W .any base t v := hval0
  have hW' := hW
  obtain ⟨p, q, hA0, hV, rfl, hfz, hnd⟩ := hW
  have hA : DataW.TrodAll enc Tryd.prog W 0 (fun _ => true) true Tryd.f3.params.toList args.toList ds p := hA0
  rw [Tryd.params3] at hA hval
  obtain ⟨v0, vs0, d0, ds0, p0, q0, hargs, rfl, rfl, h0, r0⟩ := trodAll_cons hA
  obtain ⟨v1, vs1, d1, ds1, p1, q1, rfl, rfl, rfl, h1, r1⟩ := trodAll_cons r0
  obtain ⟨rfl, rfl, rfl⟩ := trodAll_nil r1
  obtain rfl : args = #[v0, v1] := by cases args; simp_all
  obtain ⟨rfl, rfl⟩ := trodVars_none hV
  obtain ⟨a0, len0, cap0, rfl⟩ := okWide_slice Tryd.underlying22 (hval 0 22 v0 rfl rfl)
  have k0 := h0
  have lt0 : ∀ x ∈ p0, x.block < W.heap.size := by obtain ⟨m, hm⟩ := k0; exact DataW.trod_lt m _ _ _ hm
  obtain ⟨z0, w0⟩ : ∃ zs, IsRow .u8 W a0 len0 cap0 zs := by
    obtain ⟨fuel, hf⟩ := h0
    rcases open_ints Tryd.underlying22 Tryd.underlying5 (by kernel_rfl) hf with ⟨hcs, _⟩ | ⟨x, l, c, zs, hcs, _, hl, hm, hz, _, hcell, hwz⟩
    · simp [Value.cells] at hcs
      obtain ⟨rfl, rfl, rfl⟩ := hcs
      exact ⟨[], .inl ⟨rfl, rfl, rfl, rfl⟩⟩
    · simp [Value.cells] at hcs
      obtain ⟨rfl, rfl, rfl⟩ := hcs
      exact ⟨zs, .inr ⟨_, rfl, hl, hm, by simpa using hz, hcell, hwz⟩⟩
  obtain ⟨a1, len1, cap1, rfl⟩ := okWide_slice Tryd.underlying22 (hval 1 22 v1 rfl rfl)
  have k1 := h1
  have lt1 : ∀ x ∈ p1, x.block < W.heap.size := by obtain ⟨m, hm⟩ := k1; exact DataW.trod_lt m _ _ _ hm
  obtain ⟨z1, w1⟩ : ∃ zs, IsRow .u8 W a1 len1 cap1 zs := by
    obtain ⟨fuel, hf⟩ := h1
    rcases open_ints Tryd.underlying22 Tryd.underlying5 (by kernel_rfl) hf with ⟨hcs, _⟩ | ⟨x, l, c, zs, hcs, _, hl, hm, hz, _, hcell, hwz⟩
    · simp [Value.cells] at hcs
      obtain ⟨rfl, rfl, rfl⟩ := hcs
      exact ⟨[], .inl ⟨rfl, rfl, rfl, rfl⟩⟩
    · simp [Value.cells] at hcs
      obtain ⟨rfl, rfl, rfl⟩ := hcs
      exact ⟨zs, .inr ⟨_, rfl, hl, hm, by simpa using hz, hcell, hwz⟩⟩
  clear hA0 hval0
  refine (backWalk a0 len0 cap0 a1 len1 cap1 W (row_code w0) (row_code w1) (of_laid hL)).mono fun e W' ⟨he, bel⟩ => ?_
  subst he
  exact ⟨_, rfl, _, _, _, [], _, [], hW', trodAll_mk1 (shut_bool Tryd.underlying4 _), (trodAll_cons_mk (Below.trod laidOut (by kernel_rfl) (of_decide_eq_true (by kernel_rfl)) k0 bel lt0) (trodAll_cons_mk (Below.trod laidOut (by kernel_rfl) (of_decide_eq_true (by kernel_rfl)) k1 bel lt1) trodAll_mk0)), rfl, bel.frame _, fun h => by cases h⟩

theorem FnBitBack_k0 : (Rows.fnBitBackRow.wf (OpenSpec.ofChange Rows.fnBitBackSpec)) = true := by kernel_rfl
theorem FnBitBack_k3 : (Tryd.f3.params.all (Tryd.prog.readableRec ·)) = true := by kernel_rfl
theorem FnBitBack_k4 : (namedTie Tryd.prog Rows.fnBitBackRow.named Rows.fnBitBackSpec.vars) = true := by kernel_rfl
theorem FnBitBack_k5 : ((Rows.fnBitBackRow.stops == [])) = true := by kernel_rfl
theorem FnBitBack_k7 : ((Rows.fnBitBackRow.knobs == [])) = true := by kernel_rfl
theorem FnBitBack_k9 : ((Rows.fnBitBackRow.inPlace == Tryd.prog.inPlace 3)) = true := by kernel_rfl
theorem FnBitBack_k10 : ((Rows.fnBitBackRow.unfollowed == Tryd.prog.unfollowed 3)) = true := by kernel_rfl
theorem FnBitBack_k11 : ((Rows.fnBitBackRow.recurses == Tryd.prog.recurses 3)) = true := by kernel_rfl
theorem FnBitBack_k12 : ((Rows.fnBitBackRow.named == Tryd.prog.varsNamed 3)) = true := by kernel_rfl
theorem FnBitBack_k13 : ((Rows.fnBitBackRow.maps == (Tryd.f3.params.toList ++ Rows.fnBitBackSpec.plain.varTypes Tryd.prog).any (Tryd.prog.mapsRec ·))) = true := by kernel_rfl
theorem FnBitBack_k14 : ((Rows.fnBitBackRow.ifaces == (Tryd.f3.params.toList ++ Rows.fnBitBackSpec.plain.varTypes Tryd.prog).any (Tryd.prog.ifacesRec ·))) = true := by kernel_rfl
theorem FnBitBack_k15 : ((Rows.fnBitBackRow.mapsOut == Tryd.prog.mapsAmong Tryd.f3.resultTypes.toList)) = true := by kernel_rfl
theorem FnBitBack_k16 : ((Rows.fnBitBackRow.loops == (Tryd.f3.params.toList ++ Rows.fnBitBackSpec.plain.varTypes Tryd.prog).any (Tryd.prog.loopsFrom ·))) = true := by kernel_rfl
theorem FnBitBack_k17 : ((Rows.fnBitBackRow.wideKeys == (Tryd.f3.params.toList ++ Rows.fnBitBackSpec.plain.varTypes Tryd.prog ++ Tryd.f3.resultTypes.toList).any (Tryd.prog.wideKeysFrom ·))) = true := by kernel_rfl
theorem FnBitBack_k18 : (Rows.fnBitBackSpec.vars.all (Tryd.prog.varReadable ·)) = true := by kernel_rfl
theorem FnBitBack_k19 : (Tryd.f3.resultTypes.all (fun t => Tryd.prog.readableRec t && decide (t < Tryd.prog.types.size))) = true := by kernel_rfl
theorem FnBitBack_k20 : ((Rows.fnBitBackRow.ifacesOut == Tryd.f3.resultTypes.toList.any (Tryd.prog.ifacesRec ·))) = true := by kernel_rfl
theorem FnBitBack_k21 : ((Rows.fnBitBackRow.loopsOut == Tryd.f3.resultTypes.toList.any (Tryd.prog.loopsFrom ·))) = true := by kernel_rfl
theorem FnBitBack_k23 : (Rows.fnBitBackRow.shortTexts.isNone) = true := by kernel_rfl
theorem FnBitBack_k28 : ((Rows.fnBitBackRow.kinds == (if Rows.fnBitBackRow.domain.isEmpty then [] else Tryd.f3.params.toList.map fun t => match Tryd.prog.underlying t with | some (.int k) => some k | _ => none))) = true := by kernel_rfl
theorem FnBitBack_k29 : ((Rows.fnBitBackRow.pinned == Rows.fnBitBackRow.pinnedBy)) = true := by kernel_rfl
theorem FnBitBack_k30 : ((Rows.fnBitBackRow.veiled == (Tryd.f3.params.toList ++ Rows.fnBitBackSpec.plain.varTypes Tryd.prog ++ Tryd.f3.resultTypes.toList).any (Tryd.prog.veiledRec ·))) = true := by kernel_rfl
theorem FnBitBack_k31 : (Rows.fnBitBackRow.veiledFits Tryd.prog Tryd.f3.params.toList (Tryd.f3.params.toList ++ Rows.fnBitBackSpec.plain.varTypes Tryd.prog ++ Tryd.f3.resultTypes.toList)) = true := by kernel_rfl
theorem FnBitBack_closed : joinedFacts Tryd.prog 3 Tryd.f3 Rows.fnBitBackSpec Rows.fnBitBackRow = true := (and2 (and2 (and2 (and2 (and2 (and2 (and2 (and2 (and2 (and2 (and2 (and2 (and2 (and2 (and2 (and2 (and2 (and2 (and2 (and2 (and2 (and2 (and2 (and2 (and2 (and2 (and2 (and2 (and2 (and2 (and2 FnBitBack_k0 jf1) jf2) FnBitBack_k3) FnBitBack_k4) FnBitBack_k5) jf6) FnBitBack_k7) jf8) FnBitBack_k9) FnBitBack_k10) FnBitBack_k11) FnBitBack_k12) FnBitBack_k13) FnBitBack_k14) FnBitBack_k15) FnBitBack_k16) FnBitBack_k17) FnBitBack_k18) FnBitBack_k19) FnBitBack_k20) FnBitBack_k21) jf22) FnBitBack_k23) jf24) jf25) jf26) jf27) FnBitBack_k28) FnBitBack_k29) FnBitBack_k30) FnBitBack_k31)
theorem FnBitBack_row : Rows.FnBitBackSaid :=
  OpenClaim.holds_of_wide 3 Tryd.f3 rfl rfl rfl rfl rfl rfl rfl ⟨rfl, rfl, rfl, rfl, rfl⟩ rfl rfl rfl rfl rfl (by kernel_rfl) Tryd.func3 FnBitBack_closed
    (of_decide_eq_true (by kernel_rfl)) (by unfold Func.isWrapper; first | (rw [if_pos (by decide +kernel)]; kernel_rfl) | (rw [if_neg (by decide +kernel)]; exact ⟨rfl, rfl⟩))
    (fun os started H enc _ => FnBitBack_lifted os started H enc)

theorem FnBitBack_proved : Rows.FnBitBackCardSaid :=
  Claim7.holds_tied_plain_at .later [] [.data] true (true, "528e6866498addfa3c02532fc2b520a962812da30509803cadca87831e7644fe") false
    FnBitBack_row (fun _ h => by cases h) (by kernel_rfl) (fun _ h => by cases h) fnBitBack_row_tie rfl ⟨rfl, rfl⟩ (by kernel_rfl) rfl
    (fun f fn hf hfn => by
      obtain rfl : f = 3 := Option.some.inj ((show Tryd.prog.funcNamed "loop.example/pinfold/laws.FnBitBack" = some 3 by kernel_rfl).symm.trans hf) |>.symm
      obtain rfl : fn = Tryd.f3 := (Option.some.inj (Tryd.func3.symm.trans hfn)).symm
      exact ⟨by kernel_rfl, fun j t ht => by
        rw [Tryd.params3] at ht
        have hm : t ∈ [22, 22] := by simpa using Array.mem_of_getElem? ht
        have hall : ([22, 22].all fun u => !Tryd.prog.wantsStandIn u) = true := by kernel_rfl
        exact (show Tryd.prog.wantsStandIn t = false by simpa using List.all_eq_true.1 hall t hm)⟩)
    (by kernel_rfl)
end Go.Proofs.YtljmmaaaeojbpaaDoor
