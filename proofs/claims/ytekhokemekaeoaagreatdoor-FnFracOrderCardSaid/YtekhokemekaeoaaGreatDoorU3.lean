/- Order of fractions: what the program and the specification tell of it. Conditions, of the program: the library's table and its handle of errors hold what their texts lay. -/
import Derived.Test.YtekhokemekaeoaaGreatDoorUY
import Derived.Test.YtekhokemekaeoaaGreatDoorU2
import Derived.Test.YtekhokemekaeoaaGreatDoorFX
import Derived.Test.YtekhokemekaeoaaGreatDoorUV
namespace Go.Proofs.YtekhokemekaeoaaGreatDoor
open Go.RowKit
set_option linter.unusedVariables false
set_option maxRecDepth 100000

theorem oCmp {bl bm : Bool} {xs ys us vs : List Int} {m : Int} (h1 : fracOk bl xs ys = true) (h2 : fracOk bm us vs = true) (hm : c3 (pab bl xs ys bm us vs) = m) (a b : Option Addr) (la lb ca cb : Nat) (c d : Option Addr) (lc ld cc cd : Nat) (w : World) (hA : InI w a la ca xs) (hB : InI w b lb cb ys) (hC : InI w c lc cc us) (hD : InI w d ld cd vs) (hT : Tab w ∧ ET w) :
    Calls Tryz.prog 17 #[.agg #[.bool bl, .slice a la ca, .slice b lb cb], .agg #[.bool bm, .slice c lc cc, .slice d ld cd]] w fun e w' => e = .returned (.int .i64 m) ∧ Below w.heap.size w w' := by
  have h := iFracCmp bl a b la lb ca cb xs ys bm c d lc ld cc cd us vs w hA hB hC hD hT.1 hT.2
  rw [h1, h2] at h
  unfold cmpF at h
  rw [pab_c3, hm] at h
  exact h
theorem osCmp {bl bm : Bool} {xs ys us vs : List Int} {m : Int} (h1 : fracOk bl xs ys = true) (h2 : fracOk bm us vs = true) (hm : c3 (pab bl xs ys bm us vs) = m) (a b : Option Addr) (la lb ca cb : Nat) (c d : Option Addr) (lc ld cc cd : Nat) (w : World) (hA : InI w a la ca xs) (hB : InI w b lb cb ys) (hC : InI w c lc cc us) (hD : InI w d ld cd vs) :
    Calls Tryz.prog 18 #[.agg #[.bool bl, .slice a la ca, .slice b lb cb], .agg #[.bool bm, .slice c lc cc, .slice d ld cd]] w fun e w' => e = .returned (.int .i64 m) ∧ Below w.heap.size w w' := by
  have h := sFracCmp bl a b la lb ca cb xs ys bm c d lc ld cc cd us vs w hA hB hC hD
  rw [h1, h2] at h
  unfold cmpF at h
  rw [pab_c3, hm] at h
  exact h
theorem oCmpN {bl bm : Bool} {xs ys us vs : List Int} (hn : (fracOk bl xs ys && fracOk bm us vs) = false) (a b : Option Addr) (la lb ca cb : Nat) (c d : Option Addr) (lc ld cc cd : Nat) (w : World) (hA : InI w a la ca xs) (hB : InI w b lb cb ys) (hC : InI w c lc cc us) (hD : InI w d ld cd vs) (hT : Tab w ∧ ET w) :
    Calls Tryz.prog 17 #[.agg #[.bool bl, .slice a la ca, .slice b lb cb], .agg #[.bool bm, .slice c lc cc, .slice d ld cd]] w fun e w' => e = .returned (.int .i64 2) ∧ Below w.heap.size w w' := by
  have h := iFracCmp bl a b la lb ca cb xs ys bm c d lc ld cc cd us vs w hA hB hC hD hT.1 hT.2
  rw [hn] at h
  exact h
theorem osCmpN {bl bm : Bool} {xs ys us vs : List Int} (hn : (fracOk bl xs ys && fracOk bm us vs) = false) (a b : Option Addr) (la lb ca cb : Nat) (c d : Option Addr) (lc ld cc cd : Nat) (w : World) (hA : InI w a la ca xs) (hB : InI w b lb cb ys) (hC : InI w c lc cc us) (hD : InI w d ld cd vs) :
    Calls Tryz.prog 18 #[.agg #[.bool bl, .slice a la ca, .slice b lb cb], .agg #[.bool bm, .slice c lc cc, .slice d ld cd]] w fun e w' => e = .returned (.int .i64 2) ∧ Below w.heap.size w w' := by
  have h := sFracCmp bl a b la lb ca cb xs ys bm c d lc ld cc cd us vs w hA hB hC hD
  rw [hn] at h
  exact h
theorem oSub {bl bm : Bool} {xs ys us vs : List Int} {m : Int} (h1 : fracOk bl xs ys = true) (h2 : fracOk bm us vs = true) (hm : c3 (pab bl xs ys bm us vs) = m) : ∃ (r sg : Bool) (tl ul : List Int), (r = true → signI (fracOk sg tl ul) sg tl.length = m) ∧
    ∀ (a b : Option Addr) (la lb ca cb : Nat) (c d : Option Addr) (lc ld cc cd : Nat) (w : World), InI w a la ca xs → InI w b lb cb ys → InI w c lc cc us → InI w d ld cd vs → Tab w ∧ ET w →
    Calls Tryz.prog 13 #[.agg #[.bool bl, .slice a la ca, .slice b lb cb], .agg #[.bool bm, .slice c lc cc, .slice d ld cd]] w fun e w' => (∃ av cv av' cv', e = .returned (.tuple #[.agg #[.bool sg, .slice av tl.length cv, .slice av' ul.length cv'], .bool r]) ∧ OI w' w.heap.size av cv tl ∧ OI w' w.heap.size av' cv' ul) ∧ Below w.heap.size w w' := by
  have key := fun (a b : Option Addr) (la lb ca cb : Nat) (c d : Option Addr) (lc ld cc cd : Nat) (w : World) (hA : InI w a la ca xs) (hB : InI w b lb cb ys) (hC : InI w c lc cc us) (hD : InI w d ld cd vs) (hT : Tab w ∧ ET w) => iFracSub bl a b la lb ca cb xs ys bm c d lc ld cc cd us vs w hA hB hC hD hT.1 hT.2
  rw [h1, h2] at key
  simp only [Bool.true_and] at key
  refine ⟨lowB (sumN bl (!bm) (val xs * val vs) (val us * val ys)) (val ys * val vs), fS (lowB (sumN bl (!bm) (val xs * val vs) (val us * val ys)) (val ys * val vs)) (sumS bl (!bm) (val xs * val vs) (val us * val ys)) (sumN bl (!bm) (val xs * val vs) (val us * val ys)), fT (lowB (sumN bl (!bm) (val xs * val vs) (val us * val ys)) (val ys * val vs)) (sumN bl (!bm) (val xs * val vs) (val us * val ys)) (val ys * val vs), fU (lowB (sumN bl (!bm) (val xs * val vs) (val us * val ys)) (val ys * val vs)) (sumN bl (!bm) (val xs * val vs) (val us * val ys)) (val ys * val vs), ?_, fun a b la lb ca cb c d lc ld cc cd w hA hB hC hD hT => (key a b la lb ca cb c d lc ld cc cd w hA hB hC hD hT).mono ?_⟩
  rotate_left
  · rintro e w' ⟨⟨av, cv, av', cv', e1, O1, O2, -⟩, hb⟩
    exact ⟨⟨av, cv, av', cv', e1, O1, O2⟩, hb⟩
  · intro hr
    rw [hr, sign_low hr, pab_c3, hm]
theorem oSign {sg : Bool} {tl ul : List Int} {m : Int} (hm : signI (fracOk sg tl ul) sg tl.length = m) (a b : Option Addr) (ca cb : Nat) (w : World) (hA : InI w a tl.length ca tl) (hB : InI w b ul.length cb ul) (hT : Tab w ∧ ET w) :
    Calls Tryz.prog 14 #[.agg #[.bool sg, .slice a tl.length ca, .slice b ul.length cb]] w fun e w' => e = .returned (.int .i64 m) ∧ Below w.heap.size w w' := by
  have h := iFracSign sg a b _ _ ca cb tl ul w hA hB hT.1 hT.2
  rw [hm] at h
  exact h
theorem oOk {b : Bool} {xs ys : List Int} {k : Bool} (hk : fracOk b xs ys = k) (a a' : Option Addr) (la lb ca cb : Nat) (w : World) (hA : InI w a la ca xs) (hB : InI w a' lb cb ys) :
    Calls Tryz.prog 19 #[.agg #[.bool b, .slice a la ca, .slice a' lb cb]] w fun e w' => e = .returned (.bool k) ∧ Below w.heap.size w w' := by
  have h := sFracOk b a a' la lb ca cb xs ys w hA hB
  rw [hk] at h
  exact h
end Go.Proofs.YtekhokemekaeoaaGreatDoor
