/- For every two codes of bytes, of the three fractions drawn from them: the program's FracCmp answers as the specification's, turned round with both changed round, as the sign of the difference, 0 just of the same fraction, and it is transitive. The law answers true; nothing that was there is written. Condition: the library's tables and its handle of errors hold what their texts lay (the card ties them). -/
import Derived.Test.YtekhokemekaeoaaGreatDoorRows
import Derived.Test.YtekhokemekaeoaaGreatDoorTie
import Derived.Test.YtekhokemekaeoaaGreatDoorCards
import Derived.WalkKit
import Derived.ProofKit
import Derived.OpenShut
import Derived.Below
import Derived.Carry
import Derived.Test.YtekhokemekaeoaaGreatDoorN0
import Derived.Test.YtekhokemekaeoaaGreatDoorLH
import Derived.Test.YtekhokemekaeoaaGreatDoorFL
import Derived.Test.YtekhokemekaeoaaGreatDoorU3
import Derived.Test.YtekhokemekaeoaaGreatDoorBJ
namespace Go.Proofs.YtekhokemekaeoaaGreatDoor
open Go.ChangeShapes Go.WideShapes Go.ChangeAt Go.RowKit
set_option linter.unusedVariables false
set_option maxRecDepth 100000

set_option maxRecDepth 100000 in
set_option maxHeartbeats 16000000 in
theorem FnFracOrder_walk (a0 : Option Addr) (len0 cap0 : Nat) (a1 : Option Addr) (len1 cap1 : Nat) (w : World) (wb0 : IsCode w a0 len0 cap0) (wb1 : IsCode w a1 len1 cap1) (hT : Tab w ∧ ET w) :
    Calls Tryz.prog 4 #[.slice a0 len0 cap0, .slice a1 len1 cap1] w fun e w' => e = .returned (.bool true) ∧ Below w.heap.size w w' := by
  have TT := hd (fun (w' : World) (h : Below w.heap.size w w') => (⟨hT.1.old h, hT.2.old h⟩ : Tab w' ∧ ET w'))
  clear hT
  have hlen0 := wb0.2.1
  have hlen1 := wb1.2.1
  have hle0 := wb0.1
  have hle1 := wb1.1
  by_cases c0 : (len0 : Int) ≤ 1048576
  case neg =>
    have c0' : (1048576 : Int) < (len0 : Int) := by omega
    go_enter Tryz.func4, Tryz.ntmps4
    go_wp2
    go_ret
    exact ⟨rfl, (by repeat (first | exact Below.refl _ _ | refine Below.drew ?_ | refine old_alloc ?_ _ | refine old_trans ?_ (by assumption)))⟩
  by_cases c1 : (len1 : Int) ≤ 1048576
  case neg =>
    have c1' : (1048576 : Int) < (len1 : Int) := by omega
    go_enter Tryz.func4, Tryz.ntmps4
    go_wp2
    go_ret
    exact ⟨rfl, (by repeat (first | exact Below.refl _ _ | refine Below.drew ?_ | refine old_alloc ?_ _ | refine old_trans ?_ (by assumption)))⟩
  have D0 := hd (dFracCmp2 w a0 len0 cap0 wb0)
  have D1 := hd (fun w' (h : Below w.heap.size w w') => goodFrac w' a1 len1 cap1 (wb1.old h))
  clear wb0 wb1 hlen0 hlen1 hle0 hle1
  go_enter Tryz.func4, Tryz.ntmps4
  go_wp2_with fail
  refine D0.out.mono ?_
  rintro e w0 ⟨⟨ba, avX, cvX, xs, avY, cvY, ys, bb, avU, cvU, us, avV, cvV, vs, rfl, ⟨X, Y⟩, U, V⟩, hB⟩
  clear D0 c0 c1
  have KA_ := (Cel3.new w0 (.bool ba) (.slice avX xs.length cvX) (.slice avY ys.length cvY) 25).old (old_alloc (Below.refl _ _) (.cells #[.bool bb, .slice avU us.length cvU, .slice avV vs.length cvV] 25))
  have KB_ := Cel3.new (w0.alloc (.cells #[.bool ba, .slice avX xs.length cvX, .slice avY ys.length cvY] 25)) (.bool bb) (.slice avU us.length cvU) (.slice avV vs.length cvV) 25
  simp only [World.size_alloc] at KB_
  have halKA : Below w0.heap.size w0 ((w0.alloc (.cells #[.bool ba, .slice avX xs.length cvX, .slice avY ys.length cvY] 25)).alloc (.cells #[.bool bb, .slice avU us.length cvU, .slice avV vs.length cvV] 25)) := (by repeat (first | exact Below.refl _ _ | refine Below.drew ?_ | refine old_alloc ?_ _ | refine old_trans ?_ (by assumption)))
  replace X := X.later halKA
  replace Y := Y.later halKA
  replace U := U.later halKA
  replace V := V.later halKA
  replace hB := old_trans hB halKA
  clear halKA
  have KA := KA_
  have KB := KB_
  clear KA_ KB_
  obtain ⟨KAa, ⟨KAb, KAc, KAd⟩, -⟩ := id KA
  obtain ⟨KBa, ⟨KBb, KBc, KBd⟩, -⟩ := id KB
  go_wp2_with fail
  refine (D1.out _ hB).mono ?_
  rintro e w1 ⟨⟨bc, avP, cvP, ps, avQ, cvQ, qs, rfl, P, Q, -, hc⟩, hb1⟩
  clear KAa KAb KAc KAd KBa KBb KBc KBd
  replace X := X.later hb1
  replace Y := Y.later hb1
  replace U := U.later hb1
  replace V := V.later hb1
  replace KA := KA.old hb1
  replace KB := KB.old hb1
  replace hB := old_trans hB hb1
  clear hb1
  obtain ⟨KAa, ⟨KAb, KAc, KAd⟩, -⟩ := id KA
  obtain ⟨KBa, ⟨KBb, KBc, KBd⟩, -⟩ := id KB
  clear KAa KAb KAc KAd KBa KBb KBc KBd
  have KC_ := Cel3.new w1 (.bool bc) (.slice avP ps.length cvP) (.slice avQ qs.length cvQ) 25
  have halKC : Below w1.heap.size w1 (w1.alloc (.cells #[.bool bc, .slice avP ps.length cvP, .slice avQ qs.length cvQ] 25)) := old_alloc (Below.refl _ _) _
  replace X := X.later halKC
  replace Y := Y.later halKC
  replace U := U.later halKC
  replace V := V.later halKC
  replace P := P.later halKC
  replace Q := Q.later halKC
  replace KA := KA.old halKC
  replace KB := KB.old halKC
  replace hB := old_trans hB halKC
  clear halKC
  have KC := KC_
  clear KC_
  obtain ⟨KAa, ⟨KAb, KAc, KAd⟩, -⟩ := id KA
  obtain ⟨KBa, ⟨KBb, KBc, KBd⟩, -⟩ := id KB
  obtain ⟨KCa, ⟨KCb, KCc, KCd⟩, -⟩ := id KC
  have hch := hd hc
  clear hc D1
  cases h1 : fracOk ba xs ys
  · skip
    have hn : (fracOk ba xs ys && fracOk bb us vs) = false := by rw [h1]; rfl
    have CM := hd (fun a b la lb ca cb c d lc ld cc cd w h1 h2 h3 h4 h5 => oCmpN hn a b la lb ca cb c d lc ld cc cd w h1 h2 h3 h4 h5)
    have SM := hd (fun a b la lb ca cb c d lc ld cc cd w h1 h2 h3 h4 => osCmpN hn a b la lb ca cb c d lc ld cc cd w h1 h2 h3 h4)
    have OA := hd (fun a b la lb ca cb w h2 h3 => oOk h1 a b la lb ca cb w h2 h3)
    clear hn h1 hch
    go_wp2_with fail
    refine (CM.out _ _ _ _ _ _ _ _ _ _ _ _ _ X.inI Y.inI U.inI V.inI (TT.out _ hB)).mono ?_
    rintro e w2 ⟨rfl, hb2⟩
    clear KAa KAb KAc KAd KBa KBb KBc KBd KCa KCb KCc KCd
    replace X := X.later hb2
    replace Y := Y.later hb2
    replace U := U.later hb2
    replace V := V.later hb2
    replace P := P.later hb2
    replace Q := Q.later hb2
    replace KA := KA.old hb2
    replace KB := KB.old hb2
    replace KC := KC.old hb2
    replace hB := old_trans hB hb2
    clear hb2
    obtain ⟨KAa, ⟨KAb, KAc, KAd⟩, -⟩ := id KA
    obtain ⟨KBa, ⟨KBb, KBc, KBd⟩, -⟩ := id KB
    obtain ⟨KCa, ⟨KCb, KCc, KCd⟩, -⟩ := id KC
    go_wp2_with fail
    refine (SM.out _ _ _ _ _ _ _ _ _ _ _ _ _ X.inI Y.inI U.inI V.inI).mono ?_
    rintro e w3 ⟨rfl, hb3⟩
    clear KAa KAb KAc KAd KBa KBb KBc KBd KCa KCb KCc KCd
    replace X := X.later hb3
    replace Y := Y.later hb3
    replace U := U.later hb3
    replace V := V.later hb3
    replace P := P.later hb3
    replace Q := Q.later hb3
    replace KA := KA.old hb3
    replace KB := KB.old hb3
    replace KC := KC.old hb3
    replace hB := old_trans hB hb3
    clear hb3
    obtain ⟨KAa, ⟨KAb, KAc, KAd⟩, -⟩ := id KA
    obtain ⟨KBa, ⟨KBb, KBc, KBd⟩, -⟩ := id KB
    obtain ⟨KCa, ⟨KCb, KCc, KCd⟩, -⟩ := id KC
    go_wp2_with fail
    refine (OA.out _ _ _ _ _ _ _ X.inI Y.inI).mono ?_
    rintro e w4 ⟨rfl, hb4⟩
    clear KAa KAb KAc KAd KBa KBb KBc KBd KCa KCb KCc KCd
    replace X := X.later hb4
    replace Y := Y.later hb4
    replace U := U.later hb4
    replace V := V.later hb4
    replace P := P.later hb4
    replace Q := Q.later hb4
    replace KA := KA.old hb4
    replace KB := KB.old hb4
    replace KC := KC.old hb4
    replace hB := old_trans hB hb4
    clear hb4
    obtain ⟨KAa, ⟨KAb, KAc, KAd⟩, -⟩ := id KA
    obtain ⟨KBa, ⟨KBb, KBc, KBd⟩, -⟩ := id KB
    obtain ⟨KCa, ⟨KCb, KCc, KCd⟩, -⟩ := id KC
    go_wp2
    go_ret
    exact ⟨rfl, hB⟩
  cases h2 : fracOk bb us vs
  · skip
    have hn : (fracOk ba xs ys && fracOk bb us vs) = false := by rw [h1, h2]; rfl
    have CM := hd (fun a b la lb ca cb c d lc ld cc cd w h1 h2 h3 h4 h5 => oCmpN hn a b la lb ca cb c d lc ld cc cd w h1 h2 h3 h4 h5)
    have SM := hd (fun a b la lb ca cb c d lc ld cc cd w h1 h2 h3 h4 => osCmpN hn a b la lb ca cb c d lc ld cc cd w h1 h2 h3 h4)
    have OA := hd (fun a b la lb ca cb w h2 h3 => oOk h1 a b la lb ca cb w h2 h3)
    have OB := hd (fun a b la lb ca cb w h3 h4 => oOk h2 a b la lb ca cb w h3 h4)
    clear hn h1 hch h2
    go_wp2_with fail
    refine (CM.out _ _ _ _ _ _ _ _ _ _ _ _ _ X.inI Y.inI U.inI V.inI (TT.out _ hB)).mono ?_
    rintro e w2 ⟨rfl, hb2⟩
    clear KAa KAb KAc KAd KBa KBb KBc KBd KCa KCb KCc KCd
    replace X := X.later hb2
    replace Y := Y.later hb2
    replace U := U.later hb2
    replace V := V.later hb2
    replace P := P.later hb2
    replace Q := Q.later hb2
    replace KA := KA.old hb2
    replace KB := KB.old hb2
    replace KC := KC.old hb2
    replace hB := old_trans hB hb2
    clear hb2
    obtain ⟨KAa, ⟨KAb, KAc, KAd⟩, -⟩ := id KA
    obtain ⟨KBa, ⟨KBb, KBc, KBd⟩, -⟩ := id KB
    obtain ⟨KCa, ⟨KCb, KCc, KCd⟩, -⟩ := id KC
    go_wp2_with fail
    refine (SM.out _ _ _ _ _ _ _ _ _ _ _ _ _ X.inI Y.inI U.inI V.inI).mono ?_
    rintro e w3 ⟨rfl, hb3⟩
    clear KAa KAb KAc KAd KBa KBb KBc KBd KCa KCb KCc KCd
    replace X := X.later hb3
    replace Y := Y.later hb3
    replace U := U.later hb3
    replace V := V.later hb3
    replace P := P.later hb3
    replace Q := Q.later hb3
    replace KA := KA.old hb3
    replace KB := KB.old hb3
    replace KC := KC.old hb3
    replace hB := old_trans hB hb3
    clear hb3
    obtain ⟨KAa, ⟨KAb, KAc, KAd⟩, -⟩ := id KA
    obtain ⟨KBa, ⟨KBb, KBc, KBd⟩, -⟩ := id KB
    obtain ⟨KCa, ⟨KCb, KCc, KCd⟩, -⟩ := id KC
    go_wp2_with fail
    refine (OA.out _ _ _ _ _ _ _ X.inI Y.inI).mono ?_
    rintro e w4 ⟨rfl, hb4⟩
    clear KAa KAb KAc KAd KBa KBb KBc KBd KCa KCb KCc KCd
    replace X := X.later hb4
    replace Y := Y.later hb4
    replace U := U.later hb4
    replace V := V.later hb4
    replace P := P.later hb4
    replace Q := Q.later hb4
    replace KA := KA.old hb4
    replace KB := KB.old hb4
    replace KC := KC.old hb4
    replace hB := old_trans hB hb4
    clear hb4
    obtain ⟨KAa, ⟨KAb, KAc, KAd⟩, -⟩ := id KA
    obtain ⟨KBa, ⟨KBb, KBc, KBd⟩, -⟩ := id KB
    obtain ⟨KCa, ⟨KCb, KCc, KCd⟩, -⟩ := id KC
    go_wp2_with fail
    refine (OB.out _ _ _ _ _ _ _ U.inI V.inI).mono ?_
    rintro e w5 ⟨rfl, hb5⟩
    clear KAa KAb KAc KAd KBa KBb KBc KBd KCa KCb KCc KCd
    replace X := X.later hb5
    replace Y := Y.later hb5
    replace U := U.later hb5
    replace V := V.later hb5
    replace P := P.later hb5
    replace Q := Q.later hb5
    replace KA := KA.old hb5
    replace KB := KB.old hb5
    replace KC := KC.old hb5
    replace hB := old_trans hB hb5
    clear hb5
    obtain ⟨KAa, ⟨KAb, KAc, KAd⟩, -⟩ := id KA
    obtain ⟨KBa, ⟨KBb, KBc, KBd⟩, -⟩ := id KB
    obtain ⟨KCa, ⟨KCb, KCc, KCd⟩, -⟩ := id KC
    go_wp2
    go_ret
    exact ⟨rfl, hB⟩
  obtain ⟨m, hm⟩ : ∃ m, c3 (pab ba xs ys bb us vs) = m := ⟨_, rfl⟩
  obtain ⟨n, hn⟩ : ∃ n, c3 (pab bb us vs bc ps qs) = n := ⟨_, rfl⟩
  have hmr : m = -1 ∨ m = 0 ∨ m = 1 := by rw [← hm]; exact c3_rng _
  have hmb : c3 (pab bb us vs ba xs ys) = -m := by rw [pab_neg, c3_neg, hm]
  have hwm : IntKind.wrap .i64 (-m) = -m := by rw [IntKind.wrap_i64]; omega
  have hm2 : (m == 2) = false := beq_eq_false_iff_ne.2 (by omega)
  have CM := hd (fun a b la lb ca cb c d lc ld cc cd w g1 g2 g3 g4 g5 => oCmp h1 h2 hm a b la lb ca cb c d lc ld cc cd w g1 g2 g3 g4 g5)
  have SM := hd (fun a b la lb ca cb c d lc ld cc cd w g1 g2 g3 g4 => osCmp h1 h2 hm a b la lb ca cb c d lc ld cc cd w g1 g2 g3 g4)
  have CN := hd (fun a b la lb ca cb c d lc ld cc cd w g1 g2 g3 g4 g5 => oCmp h2 h1 hmb a b la lb ca cb c d lc ld cc cd w g1 g2 g3 g4 g5)
  have CP := hd (fun a b la lb ca cb c d lc ld cc cd w g1 g2 g3 g4 g5 => oCmp h2 hch.out hn a b la lb ca cb c d lc ld cc cd w g1 g2 g3 g4 g5)
  obtain ⟨r, sg, tl, ul, hsg, SB_⟩ := oSub h1 h2 hm
  have SB := hd SB_
  have CQ : Hid (m = n → ∀ (a b : Option Addr) (la lb ca cb : Nat) (c d : Option Addr) (lc ld cc cd : Nat) (w : World), InI w a la ca xs → InI w b lb cb ys → InI w c lc cc ps → InI w d ld cd qs → Tab w ∧ ET w → Calls Tryz.prog 17 #[.agg #[.bool ba, .slice a la ca, .slice b lb cb], .agg #[.bool bc, .slice c lc cc, .slice d ld cd]] w fun e w' => e = .returned (.int .i64 m) ∧ Below w.heap.size w w') := fun hmn a b la lb ca cb c d lc ld cc cd w g1 g2 g3 g4 g5 => oCmp h1 hch.out ((pab_trans h1 h2 hch.out (by rw [hm, hn, hmn])).trans hm) a b la lb ca cb c d lc ld cc cd w g1 g2 g3 g4 g5
  have heq : Hid (m = 0 → ba = bb ∧ xs = us ∧ ys = vs) := fun h0 => pab_eq h1 h2 (c3_zero (by rw [hm, h0]))
  have PF := hd (fun bf xs ys a b a' b' la lb ca cb ca' cb' w h1 h2 h3 h4 => lPwFrac bf a b a' b' la lb ca cb ca' cb' xs ys w h1 h2 h3 h4)
  clear SB_ hm hn hmb h1 h2 hch
  cases r
  · clear hsg
    by_cases hz : m = 0
    · obtain ⟨rfl, rfl, rfl⟩ := heq.out hz
      subst hz
      clear heq hmr
      by_cases hmn : 0 = n
      · replace CQ := hd (CQ.out hmn)
        subst hmn
        go_wp2_with fail
        refine (CM.out _ _ _ _ _ _ _ _ _ _ _ _ _ X.inI Y.inI U.inI V.inI (TT.out _ hB)).mono ?_
        rintro e w2 ⟨rfl, hb2⟩
        clear KAa KAb KAc KAd KBa KBb KBc KBd KCa KCb KCc KCd
        replace X := X.later hb2
        replace Y := Y.later hb2
        replace U := U.later hb2
        replace V := V.later hb2
        replace P := P.later hb2
        replace Q := Q.later hb2
        replace KA := KA.old hb2
        replace KB := KB.old hb2
        replace KC := KC.old hb2
        replace hB := old_trans hB hb2
        clear hb2
        obtain ⟨KAa, ⟨KAb, KAc, KAd⟩, -⟩ := id KA
        obtain ⟨KBa, ⟨KBb, KBc, KBd⟩, -⟩ := id KB
        obtain ⟨KCa, ⟨KCb, KCc, KCd⟩, -⟩ := id KC
        go_wp2_with fail
        refine (SM.out _ _ _ _ _ _ _ _ _ _ _ _ _ X.inI Y.inI U.inI V.inI).mono ?_
        rintro e w3 ⟨rfl, hb3⟩
        clear KAa KAb KAc KAd KBa KBb KBc KBd KCa KCb KCc KCd
        replace X := X.later hb3
        replace Y := Y.later hb3
        replace U := U.later hb3
        replace V := V.later hb3
        replace P := P.later hb3
        replace Q := Q.later hb3
        replace KA := KA.old hb3
        replace KB := KB.old hb3
        replace KC := KC.old hb3
        replace hB := old_trans hB hb3
        clear hb3
        obtain ⟨KAa, ⟨KAb, KAc, KAd⟩, -⟩ := id KA
        obtain ⟨KBa, ⟨KBb, KBc, KBd⟩, -⟩ := id KB
        obtain ⟨KCa, ⟨KCb, KCc, KCd⟩, -⟩ := id KC
        go_wp2_with fail
        refine (CN.out _ _ _ _ _ _ _ _ _ _ _ _ _ U.inI V.inI X.inI Y.inI (TT.out _ hB)).mono ?_
        rintro e w4 ⟨rfl, hb4⟩
        clear KAa KAb KAc KAd KBa KBb KBc KBd KCa KCb KCc KCd
        replace X := X.later hb4
        replace Y := Y.later hb4
        replace U := U.later hb4
        replace V := V.later hb4
        replace P := P.later hb4
        replace Q := Q.later hb4
        replace KA := KA.old hb4
        replace KB := KB.old hb4
        replace KC := KC.old hb4
        replace hB := old_trans hB hb4
        clear hb4
        obtain ⟨KAa, ⟨KAb, KAc, KAd⟩, -⟩ := id KA
        obtain ⟨KBa, ⟨KBb, KBc, KBd⟩, -⟩ := id KB
        obtain ⟨KCa, ⟨KCb, KCc, KCd⟩, -⟩ := id KC
        go_wp2_with fail
        refine (SB.out _ _ _ _ _ _ _ _ _ _ _ _ _ X.inI Y.inI U.inI V.inI (TT.out _ hB)).mono ?_
        rintro e w5 ⟨⟨avD, cvD, avE, cvE, rfl, D, E⟩, hb5⟩
        clear KAa KAb KAc KAd KBa KBb KBc KBd KCa KCb KCc KCd
        replace X := X.later hb5
        replace Y := Y.later hb5
        replace U := U.later hb5
        replace V := V.later hb5
        replace P := P.later hb5
        replace Q := Q.later hb5
        replace KA := KA.old hb5
        replace KB := KB.old hb5
        replace KC := KC.old hb5
        replace hB := old_trans hB hb5
        clear hb5
        obtain ⟨KAa, ⟨KAb, KAc, KAd⟩, -⟩ := id KA
        obtain ⟨KBa, ⟨KBb, KBc, KBd⟩, -⟩ := id KB
        obtain ⟨KCa, ⟨KCb, KCc, KCd⟩, -⟩ := id KC
        clear KAa KAb KAc KAd KBa KBb KBc KBd KCa KCb KCc KCd
        have KD_ := Cel3.new w5 (.bool sg) (.slice avD tl.length cvD) (.slice avE ul.length cvE) 25
        have halKD : Below w5.heap.size w5 (w5.alloc (.cells #[.bool sg, .slice avD tl.length cvD, .slice avE ul.length cvE] 25)) := old_alloc (Below.refl _ _) _
        replace X := X.later halKD
        replace Y := Y.later halKD
        replace U := U.later halKD
        replace V := V.later halKD
        replace P := P.later halKD
        replace Q := Q.later halKD
        replace D := D.later halKD
        replace E := E.later halKD
        replace KA := KA.old halKD
        replace KB := KB.old halKD
        replace KC := KC.old halKD
        replace hB := old_trans hB halKD
        clear halKD
        have KD := KD_
        clear KD_
        obtain ⟨KAa, ⟨KAb, KAc, KAd⟩, -⟩ := id KA
        obtain ⟨KBa, ⟨KBb, KBc, KBd⟩, -⟩ := id KB
        obtain ⟨KCa, ⟨KCb, KCc, KCd⟩, -⟩ := id KC
        obtain ⟨KDa, ⟨KDb, KDc, KDd⟩, -⟩ := id KD
        go_wp2_with fail
        refine (PF.out _ _ _ _ _ _ _ _ _ _ _ _ _ _ X.inI Y.inI U.inI V.inI).mono ?_
        rintro e w6 ⟨rfl, hb6⟩
        clear KAa KAb KAc KAd KBa KBb KBc KBd KCa KCb KCc KCd KDa KDb KDc KDd
        replace X := X.later hb6
        replace Y := Y.later hb6
        replace U := U.later hb6
        replace V := V.later hb6
        replace P := P.later hb6
        replace Q := Q.later hb6
        replace D := D.later hb6
        replace E := E.later hb6
        replace KA := KA.old hb6
        replace KB := KB.old hb6
        replace KC := KC.old hb6
        replace KD := KD.old hb6
        replace hB := old_trans hB hb6
        clear hb6
        obtain ⟨KAa, ⟨KAb, KAc, KAd⟩, -⟩ := id KA
        obtain ⟨KBa, ⟨KBb, KBc, KBd⟩, -⟩ := id KB
        obtain ⟨KCa, ⟨KCb, KCc, KCd⟩, -⟩ := id KC
        obtain ⟨KDa, ⟨KDb, KDc, KDd⟩, -⟩ := id KD
        go_wp2_with fail
        refine (CP.out _ _ _ _ _ _ _ _ _ _ _ _ _ U.inI V.inI P.inI Q.inI (TT.out _ hB)).mono ?_
        rintro e w7 ⟨rfl, hb7⟩
        clear KAa KAb KAc KAd KBa KBb KBc KBd KCa KCb KCc KCd KDa KDb KDc KDd
        replace X := X.later hb7
        replace Y := Y.later hb7
        replace U := U.later hb7
        replace V := V.later hb7
        replace P := P.later hb7
        replace Q := Q.later hb7
        replace D := D.later hb7
        replace E := E.later hb7
        replace KA := KA.old hb7
        replace KB := KB.old hb7
        replace KC := KC.old hb7
        replace KD := KD.old hb7
        replace hB := old_trans hB hb7
        clear hb7
        obtain ⟨KAa, ⟨KAb, KAc, KAd⟩, -⟩ := id KA
        obtain ⟨KBa, ⟨KBb, KBc, KBd⟩, -⟩ := id KB
        obtain ⟨KCa, ⟨KCb, KCc, KCd⟩, -⟩ := id KC
        obtain ⟨KDa, ⟨KDb, KDc, KDd⟩, -⟩ := id KD
        go_wp2_with fail
        refine (CQ.out _ _ _ _ _ _ _ _ _ _ _ _ _ X.inI Y.inI P.inI Q.inI (TT.out _ hB)).mono ?_
        rintro e w8 ⟨rfl, hb8⟩
        clear KAa KAb KAc KAd KBa KBb KBc KBd KCa KCb KCc KCd KDa KDb KDc KDd
        replace X := X.later hb8
        replace Y := Y.later hb8
        replace U := U.later hb8
        replace V := V.later hb8
        replace P := P.later hb8
        replace Q := Q.later hb8
        replace D := D.later hb8
        replace E := E.later hb8
        replace KA := KA.old hb8
        replace KB := KB.old hb8
        replace KC := KC.old hb8
        replace KD := KD.old hb8
        replace hB := old_trans hB hb8
        clear hb8
        obtain ⟨KAa, ⟨KAb, KAc, KAd⟩, -⟩ := id KA
        obtain ⟨KBa, ⟨KBb, KBc, KBd⟩, -⟩ := id KB
        obtain ⟨KCa, ⟨KCb, KCc, KCd⟩, -⟩ := id KC
        obtain ⟨KDa, ⟨KDb, KDc, KDd⟩, -⟩ := id KD
        go_wp2
        go_ret
        exact ⟨rfl, hB⟩
      · have hmn' : (0 == n) = false := beq_eq_false_iff_ne.2 hmn
        clear CQ
        go_wp2_with fail
        refine (CM.out _ _ _ _ _ _ _ _ _ _ _ _ _ X.inI Y.inI U.inI V.inI (TT.out _ hB)).mono ?_
        rintro e w2 ⟨rfl, hb2⟩
        clear KAa KAb KAc KAd KBa KBb KBc KBd KCa KCb KCc KCd
        replace X := X.later hb2
        replace Y := Y.later hb2
        replace U := U.later hb2
        replace V := V.later hb2
        replace P := P.later hb2
        replace Q := Q.later hb2
        replace KA := KA.old hb2
        replace KB := KB.old hb2
        replace KC := KC.old hb2
        replace hB := old_trans hB hb2
        clear hb2
        obtain ⟨KAa, ⟨KAb, KAc, KAd⟩, -⟩ := id KA
        obtain ⟨KBa, ⟨KBb, KBc, KBd⟩, -⟩ := id KB
        obtain ⟨KCa, ⟨KCb, KCc, KCd⟩, -⟩ := id KC
        go_wp2_with fail
        refine (SM.out _ _ _ _ _ _ _ _ _ _ _ _ _ X.inI Y.inI U.inI V.inI).mono ?_
        rintro e w3 ⟨rfl, hb3⟩
        clear KAa KAb KAc KAd KBa KBb KBc KBd KCa KCb KCc KCd
        replace X := X.later hb3
        replace Y := Y.later hb3
        replace U := U.later hb3
        replace V := V.later hb3
        replace P := P.later hb3
        replace Q := Q.later hb3
        replace KA := KA.old hb3
        replace KB := KB.old hb3
        replace KC := KC.old hb3
        replace hB := old_trans hB hb3
        clear hb3
        obtain ⟨KAa, ⟨KAb, KAc, KAd⟩, -⟩ := id KA
        obtain ⟨KBa, ⟨KBb, KBc, KBd⟩, -⟩ := id KB
        obtain ⟨KCa, ⟨KCb, KCc, KCd⟩, -⟩ := id KC
        go_wp2_with fail
        refine (CN.out _ _ _ _ _ _ _ _ _ _ _ _ _ U.inI V.inI X.inI Y.inI (TT.out _ hB)).mono ?_
        rintro e w4 ⟨rfl, hb4⟩
        clear KAa KAb KAc KAd KBa KBb KBc KBd KCa KCb KCc KCd
        replace X := X.later hb4
        replace Y := Y.later hb4
        replace U := U.later hb4
        replace V := V.later hb4
        replace P := P.later hb4
        replace Q := Q.later hb4
        replace KA := KA.old hb4
        replace KB := KB.old hb4
        replace KC := KC.old hb4
        replace hB := old_trans hB hb4
        clear hb4
        obtain ⟨KAa, ⟨KAb, KAc, KAd⟩, -⟩ := id KA
        obtain ⟨KBa, ⟨KBb, KBc, KBd⟩, -⟩ := id KB
        obtain ⟨KCa, ⟨KCb, KCc, KCd⟩, -⟩ := id KC
        go_wp2_with fail
        refine (SB.out _ _ _ _ _ _ _ _ _ _ _ _ _ X.inI Y.inI U.inI V.inI (TT.out _ hB)).mono ?_
        rintro e w5 ⟨⟨avD, cvD, avE, cvE, rfl, D, E⟩, hb5⟩
        clear KAa KAb KAc KAd KBa KBb KBc KBd KCa KCb KCc KCd
        replace X := X.later hb5
        replace Y := Y.later hb5
        replace U := U.later hb5
        replace V := V.later hb5
        replace P := P.later hb5
        replace Q := Q.later hb5
        replace KA := KA.old hb5
        replace KB := KB.old hb5
        replace KC := KC.old hb5
        replace hB := old_trans hB hb5
        clear hb5
        obtain ⟨KAa, ⟨KAb, KAc, KAd⟩, -⟩ := id KA
        obtain ⟨KBa, ⟨KBb, KBc, KBd⟩, -⟩ := id KB
        obtain ⟨KCa, ⟨KCb, KCc, KCd⟩, -⟩ := id KC
        clear KAa KAb KAc KAd KBa KBb KBc KBd KCa KCb KCc KCd
        have KD_ := Cel3.new w5 (.bool sg) (.slice avD tl.length cvD) (.slice avE ul.length cvE) 25
        have halKD : Below w5.heap.size w5 (w5.alloc (.cells #[.bool sg, .slice avD tl.length cvD, .slice avE ul.length cvE] 25)) := old_alloc (Below.refl _ _) _
        replace X := X.later halKD
        replace Y := Y.later halKD
        replace U := U.later halKD
        replace V := V.later halKD
        replace P := P.later halKD
        replace Q := Q.later halKD
        replace D := D.later halKD
        replace E := E.later halKD
        replace KA := KA.old halKD
        replace KB := KB.old halKD
        replace KC := KC.old halKD
        replace hB := old_trans hB halKD
        clear halKD
        have KD := KD_
        clear KD_
        obtain ⟨KAa, ⟨KAb, KAc, KAd⟩, -⟩ := id KA
        obtain ⟨KBa, ⟨KBb, KBc, KBd⟩, -⟩ := id KB
        obtain ⟨KCa, ⟨KCb, KCc, KCd⟩, -⟩ := id KC
        obtain ⟨KDa, ⟨KDb, KDc, KDd⟩, -⟩ := id KD
        go_wp2_with fail
        refine (PF.out _ _ _ _ _ _ _ _ _ _ _ _ _ _ X.inI Y.inI U.inI V.inI).mono ?_
        rintro e w6 ⟨rfl, hb6⟩
        clear KAa KAb KAc KAd KBa KBb KBc KBd KCa KCb KCc KCd KDa KDb KDc KDd
        replace X := X.later hb6
        replace Y := Y.later hb6
        replace U := U.later hb6
        replace V := V.later hb6
        replace P := P.later hb6
        replace Q := Q.later hb6
        replace D := D.later hb6
        replace E := E.later hb6
        replace KA := KA.old hb6
        replace KB := KB.old hb6
        replace KC := KC.old hb6
        replace KD := KD.old hb6
        replace hB := old_trans hB hb6
        clear hb6
        obtain ⟨KAa, ⟨KAb, KAc, KAd⟩, -⟩ := id KA
        obtain ⟨KBa, ⟨KBb, KBc, KBd⟩, -⟩ := id KB
        obtain ⟨KCa, ⟨KCb, KCc, KCd⟩, -⟩ := id KC
        obtain ⟨KDa, ⟨KDb, KDc, KDd⟩, -⟩ := id KD
        go_wp2_with fail
        refine (CP.out _ _ _ _ _ _ _ _ _ _ _ _ _ U.inI V.inI P.inI Q.inI (TT.out _ hB)).mono ?_
        rintro e w7 ⟨rfl, hb7⟩
        clear KAa KAb KAc KAd KBa KBb KBc KBd KCa KCb KCc KCd KDa KDb KDc KDd
        replace X := X.later hb7
        replace Y := Y.later hb7
        replace U := U.later hb7
        replace V := V.later hb7
        replace P := P.later hb7
        replace Q := Q.later hb7
        replace D := D.later hb7
        replace E := E.later hb7
        replace KA := KA.old hb7
        replace KB := KB.old hb7
        replace KC := KC.old hb7
        replace KD := KD.old hb7
        replace hB := old_trans hB hb7
        clear hb7
        obtain ⟨KAa, ⟨KAb, KAc, KAd⟩, -⟩ := id KA
        obtain ⟨KBa, ⟨KBb, KBc, KBd⟩, -⟩ := id KB
        obtain ⟨KCa, ⟨KCb, KCc, KCd⟩, -⟩ := id KC
        obtain ⟨KDa, ⟨KDb, KDc, KDd⟩, -⟩ := id KD
        go_wp2
        go_ret
        exact ⟨rfl, hB⟩
    · have hmr' : m = -1 ∨ m = 1 := by omega
      clear heq hmr hz hm2
      rcases hmr' with rfl | rfl
      · by_cases hmn : -1 = n
        · replace CQ := hd (CQ.out hmn)
          subst hmn
          go_wp2_with fail
          refine (CM.out _ _ _ _ _ _ _ _ _ _ _ _ _ X.inI Y.inI U.inI V.inI (TT.out _ hB)).mono ?_
          rintro e w2 ⟨rfl, hb2⟩
          clear KAa KAb KAc KAd KBa KBb KBc KBd KCa KCb KCc KCd
          replace X := X.later hb2
          replace Y := Y.later hb2
          replace U := U.later hb2
          replace V := V.later hb2
          replace P := P.later hb2
          replace Q := Q.later hb2
          replace KA := KA.old hb2
          replace KB := KB.old hb2
          replace KC := KC.old hb2
          replace hB := old_trans hB hb2
          clear hb2
          obtain ⟨KAa, ⟨KAb, KAc, KAd⟩, -⟩ := id KA
          obtain ⟨KBa, ⟨KBb, KBc, KBd⟩, -⟩ := id KB
          obtain ⟨KCa, ⟨KCb, KCc, KCd⟩, -⟩ := id KC
          go_wp2_with fail
          refine (SM.out _ _ _ _ _ _ _ _ _ _ _ _ _ X.inI Y.inI U.inI V.inI).mono ?_
          rintro e w3 ⟨rfl, hb3⟩
          clear KAa KAb KAc KAd KBa KBb KBc KBd KCa KCb KCc KCd
          replace X := X.later hb3
          replace Y := Y.later hb3
          replace U := U.later hb3
          replace V := V.later hb3
          replace P := P.later hb3
          replace Q := Q.later hb3
          replace KA := KA.old hb3
          replace KB := KB.old hb3
          replace KC := KC.old hb3
          replace hB := old_trans hB hb3
          clear hb3
          obtain ⟨KAa, ⟨KAb, KAc, KAd⟩, -⟩ := id KA
          obtain ⟨KBa, ⟨KBb, KBc, KBd⟩, -⟩ := id KB
          obtain ⟨KCa, ⟨KCb, KCc, KCd⟩, -⟩ := id KC
          go_wp2_with fail
          refine (CN.out _ _ _ _ _ _ _ _ _ _ _ _ _ U.inI V.inI X.inI Y.inI (TT.out _ hB)).mono ?_
          rintro e w4 ⟨rfl, hb4⟩
          clear KAa KAb KAc KAd KBa KBb KBc KBd KCa KCb KCc KCd
          replace X := X.later hb4
          replace Y := Y.later hb4
          replace U := U.later hb4
          replace V := V.later hb4
          replace P := P.later hb4
          replace Q := Q.later hb4
          replace KA := KA.old hb4
          replace KB := KB.old hb4
          replace KC := KC.old hb4
          replace hB := old_trans hB hb4
          clear hb4
          obtain ⟨KAa, ⟨KAb, KAc, KAd⟩, -⟩ := id KA
          obtain ⟨KBa, ⟨KBb, KBc, KBd⟩, -⟩ := id KB
          obtain ⟨KCa, ⟨KCb, KCc, KCd⟩, -⟩ := id KC
          go_wp2_with fail
          refine (SB.out _ _ _ _ _ _ _ _ _ _ _ _ _ X.inI Y.inI U.inI V.inI (TT.out _ hB)).mono ?_
          rintro e w5 ⟨⟨avD, cvD, avE, cvE, rfl, D, E⟩, hb5⟩
          clear KAa KAb KAc KAd KBa KBb KBc KBd KCa KCb KCc KCd
          replace X := X.later hb5
          replace Y := Y.later hb5
          replace U := U.later hb5
          replace V := V.later hb5
          replace P := P.later hb5
          replace Q := Q.later hb5
          replace KA := KA.old hb5
          replace KB := KB.old hb5
          replace KC := KC.old hb5
          replace hB := old_trans hB hb5
          clear hb5
          obtain ⟨KAa, ⟨KAb, KAc, KAd⟩, -⟩ := id KA
          obtain ⟨KBa, ⟨KBb, KBc, KBd⟩, -⟩ := id KB
          obtain ⟨KCa, ⟨KCb, KCc, KCd⟩, -⟩ := id KC
          clear KAa KAb KAc KAd KBa KBb KBc KBd KCa KCb KCc KCd
          have KD_ := Cel3.new w5 (.bool sg) (.slice avD tl.length cvD) (.slice avE ul.length cvE) 25
          have halKD : Below w5.heap.size w5 (w5.alloc (.cells #[.bool sg, .slice avD tl.length cvD, .slice avE ul.length cvE] 25)) := old_alloc (Below.refl _ _) _
          replace X := X.later halKD
          replace Y := Y.later halKD
          replace U := U.later halKD
          replace V := V.later halKD
          replace P := P.later halKD
          replace Q := Q.later halKD
          replace D := D.later halKD
          replace E := E.later halKD
          replace KA := KA.old halKD
          replace KB := KB.old halKD
          replace KC := KC.old halKD
          replace hB := old_trans hB halKD
          clear halKD
          have KD := KD_
          clear KD_
          obtain ⟨KAa, ⟨KAb, KAc, KAd⟩, -⟩ := id KA
          obtain ⟨KBa, ⟨KBb, KBc, KBd⟩, -⟩ := id KB
          obtain ⟨KCa, ⟨KCb, KCc, KCd⟩, -⟩ := id KC
          obtain ⟨KDa, ⟨KDb, KDc, KDd⟩, -⟩ := id KD
          go_wp2_with fail
          refine (CP.out _ _ _ _ _ _ _ _ _ _ _ _ _ U.inI V.inI P.inI Q.inI (TT.out _ hB)).mono ?_
          rintro e w6 ⟨rfl, hb6⟩
          clear KAa KAb KAc KAd KBa KBb KBc KBd KCa KCb KCc KCd KDa KDb KDc KDd
          replace X := X.later hb6
          replace Y := Y.later hb6
          replace U := U.later hb6
          replace V := V.later hb6
          replace P := P.later hb6
          replace Q := Q.later hb6
          replace D := D.later hb6
          replace E := E.later hb6
          replace KA := KA.old hb6
          replace KB := KB.old hb6
          replace KC := KC.old hb6
          replace KD := KD.old hb6
          replace hB := old_trans hB hb6
          clear hb6
          obtain ⟨KAa, ⟨KAb, KAc, KAd⟩, -⟩ := id KA
          obtain ⟨KBa, ⟨KBb, KBc, KBd⟩, -⟩ := id KB
          obtain ⟨KCa, ⟨KCb, KCc, KCd⟩, -⟩ := id KC
          obtain ⟨KDa, ⟨KDb, KDc, KDd⟩, -⟩ := id KD
          go_wp2_with fail
          refine (CQ.out _ _ _ _ _ _ _ _ _ _ _ _ _ X.inI Y.inI P.inI Q.inI (TT.out _ hB)).mono ?_
          rintro e w7 ⟨rfl, hb7⟩
          clear KAa KAb KAc KAd KBa KBb KBc KBd KCa KCb KCc KCd KDa KDb KDc KDd
          replace X := X.later hb7
          replace Y := Y.later hb7
          replace U := U.later hb7
          replace V := V.later hb7
          replace P := P.later hb7
          replace Q := Q.later hb7
          replace D := D.later hb7
          replace E := E.later hb7
          replace KA := KA.old hb7
          replace KB := KB.old hb7
          replace KC := KC.old hb7
          replace KD := KD.old hb7
          replace hB := old_trans hB hb7
          clear hb7
          obtain ⟨KAa, ⟨KAb, KAc, KAd⟩, -⟩ := id KA
          obtain ⟨KBa, ⟨KBb, KBc, KBd⟩, -⟩ := id KB
          obtain ⟨KCa, ⟨KCb, KCc, KCd⟩, -⟩ := id KC
          obtain ⟨KDa, ⟨KDb, KDc, KDd⟩, -⟩ := id KD
          go_wp2
          go_ret
          exact ⟨rfl, hB⟩
        · have hmn' : (-1 == n) = false := beq_eq_false_iff_ne.2 hmn
          clear CQ
          go_wp2_with fail
          refine (CM.out _ _ _ _ _ _ _ _ _ _ _ _ _ X.inI Y.inI U.inI V.inI (TT.out _ hB)).mono ?_
          rintro e w2 ⟨rfl, hb2⟩
          clear KAa KAb KAc KAd KBa KBb KBc KBd KCa KCb KCc KCd
          replace X := X.later hb2
          replace Y := Y.later hb2
          replace U := U.later hb2
          replace V := V.later hb2
          replace P := P.later hb2
          replace Q := Q.later hb2
          replace KA := KA.old hb2
          replace KB := KB.old hb2
          replace KC := KC.old hb2
          replace hB := old_trans hB hb2
          clear hb2
          obtain ⟨KAa, ⟨KAb, KAc, KAd⟩, -⟩ := id KA
          obtain ⟨KBa, ⟨KBb, KBc, KBd⟩, -⟩ := id KB
          obtain ⟨KCa, ⟨KCb, KCc, KCd⟩, -⟩ := id KC
          go_wp2_with fail
          refine (SM.out _ _ _ _ _ _ _ _ _ _ _ _ _ X.inI Y.inI U.inI V.inI).mono ?_
          rintro e w3 ⟨rfl, hb3⟩
          clear KAa KAb KAc KAd KBa KBb KBc KBd KCa KCb KCc KCd
          replace X := X.later hb3
          replace Y := Y.later hb3
          replace U := U.later hb3
          replace V := V.later hb3
          replace P := P.later hb3
          replace Q := Q.later hb3
          replace KA := KA.old hb3
          replace KB := KB.old hb3
          replace KC := KC.old hb3
          replace hB := old_trans hB hb3
          clear hb3
          obtain ⟨KAa, ⟨KAb, KAc, KAd⟩, -⟩ := id KA
          obtain ⟨KBa, ⟨KBb, KBc, KBd⟩, -⟩ := id KB
          obtain ⟨KCa, ⟨KCb, KCc, KCd⟩, -⟩ := id KC
          go_wp2_with fail
          refine (CN.out _ _ _ _ _ _ _ _ _ _ _ _ _ U.inI V.inI X.inI Y.inI (TT.out _ hB)).mono ?_
          rintro e w4 ⟨rfl, hb4⟩
          clear KAa KAb KAc KAd KBa KBb KBc KBd KCa KCb KCc KCd
          replace X := X.later hb4
          replace Y := Y.later hb4
          replace U := U.later hb4
          replace V := V.later hb4
          replace P := P.later hb4
          replace Q := Q.later hb4
          replace KA := KA.old hb4
          replace KB := KB.old hb4
          replace KC := KC.old hb4
          replace hB := old_trans hB hb4
          clear hb4
          obtain ⟨KAa, ⟨KAb, KAc, KAd⟩, -⟩ := id KA
          obtain ⟨KBa, ⟨KBb, KBc, KBd⟩, -⟩ := id KB
          obtain ⟨KCa, ⟨KCb, KCc, KCd⟩, -⟩ := id KC
          go_wp2_with fail
          refine (SB.out _ _ _ _ _ _ _ _ _ _ _ _ _ X.inI Y.inI U.inI V.inI (TT.out _ hB)).mono ?_
          rintro e w5 ⟨⟨avD, cvD, avE, cvE, rfl, D, E⟩, hb5⟩
          clear KAa KAb KAc KAd KBa KBb KBc KBd KCa KCb KCc KCd
          replace X := X.later hb5
          replace Y := Y.later hb5
          replace U := U.later hb5
          replace V := V.later hb5
          replace P := P.later hb5
          replace Q := Q.later hb5
          replace KA := KA.old hb5
          replace KB := KB.old hb5
          replace KC := KC.old hb5
          replace hB := old_trans hB hb5
          clear hb5
          obtain ⟨KAa, ⟨KAb, KAc, KAd⟩, -⟩ := id KA
          obtain ⟨KBa, ⟨KBb, KBc, KBd⟩, -⟩ := id KB
          obtain ⟨KCa, ⟨KCb, KCc, KCd⟩, -⟩ := id KC
          clear KAa KAb KAc KAd KBa KBb KBc KBd KCa KCb KCc KCd
          have KD_ := Cel3.new w5 (.bool sg) (.slice avD tl.length cvD) (.slice avE ul.length cvE) 25
          have halKD : Below w5.heap.size w5 (w5.alloc (.cells #[.bool sg, .slice avD tl.length cvD, .slice avE ul.length cvE] 25)) := old_alloc (Below.refl _ _) _
          replace X := X.later halKD
          replace Y := Y.later halKD
          replace U := U.later halKD
          replace V := V.later halKD
          replace P := P.later halKD
          replace Q := Q.later halKD
          replace D := D.later halKD
          replace E := E.later halKD
          replace KA := KA.old halKD
          replace KB := KB.old halKD
          replace KC := KC.old halKD
          replace hB := old_trans hB halKD
          clear halKD
          have KD := KD_
          clear KD_
          obtain ⟨KAa, ⟨KAb, KAc, KAd⟩, -⟩ := id KA
          obtain ⟨KBa, ⟨KBb, KBc, KBd⟩, -⟩ := id KB
          obtain ⟨KCa, ⟨KCb, KCc, KCd⟩, -⟩ := id KC
          obtain ⟨KDa, ⟨KDb, KDc, KDd⟩, -⟩ := id KD
          go_wp2_with fail
          refine (CP.out _ _ _ _ _ _ _ _ _ _ _ _ _ U.inI V.inI P.inI Q.inI (TT.out _ hB)).mono ?_
          rintro e w6 ⟨rfl, hb6⟩
          clear KAa KAb KAc KAd KBa KBb KBc KBd KCa KCb KCc KCd KDa KDb KDc KDd
          replace X := X.later hb6
          replace Y := Y.later hb6
          replace U := U.later hb6
          replace V := V.later hb6
          replace P := P.later hb6
          replace Q := Q.later hb6
          replace D := D.later hb6
          replace E := E.later hb6
          replace KA := KA.old hb6
          replace KB := KB.old hb6
          replace KC := KC.old hb6
          replace KD := KD.old hb6
          replace hB := old_trans hB hb6
          clear hb6
          obtain ⟨KAa, ⟨KAb, KAc, KAd⟩, -⟩ := id KA
          obtain ⟨KBa, ⟨KBb, KBc, KBd⟩, -⟩ := id KB
          obtain ⟨KCa, ⟨KCb, KCc, KCd⟩, -⟩ := id KC
          obtain ⟨KDa, ⟨KDb, KDc, KDd⟩, -⟩ := id KD
          go_wp2
          go_ret
          exact ⟨rfl, hB⟩
      · by_cases hmn : 1 = n
        · replace CQ := hd (CQ.out hmn)
          subst hmn
          go_wp2_with fail
          refine (CM.out _ _ _ _ _ _ _ _ _ _ _ _ _ X.inI Y.inI U.inI V.inI (TT.out _ hB)).mono ?_
          rintro e w2 ⟨rfl, hb2⟩
          clear KAa KAb KAc KAd KBa KBb KBc KBd KCa KCb KCc KCd
          replace X := X.later hb2
          replace Y := Y.later hb2
          replace U := U.later hb2
          replace V := V.later hb2
          replace P := P.later hb2
          replace Q := Q.later hb2
          replace KA := KA.old hb2
          replace KB := KB.old hb2
          replace KC := KC.old hb2
          replace hB := old_trans hB hb2
          clear hb2
          obtain ⟨KAa, ⟨KAb, KAc, KAd⟩, -⟩ := id KA
          obtain ⟨KBa, ⟨KBb, KBc, KBd⟩, -⟩ := id KB
          obtain ⟨KCa, ⟨KCb, KCc, KCd⟩, -⟩ := id KC
          go_wp2_with fail
          refine (SM.out _ _ _ _ _ _ _ _ _ _ _ _ _ X.inI Y.inI U.inI V.inI).mono ?_
          rintro e w3 ⟨rfl, hb3⟩
          clear KAa KAb KAc KAd KBa KBb KBc KBd KCa KCb KCc KCd
          replace X := X.later hb3
          replace Y := Y.later hb3
          replace U := U.later hb3
          replace V := V.later hb3
          replace P := P.later hb3
          replace Q := Q.later hb3
          replace KA := KA.old hb3
          replace KB := KB.old hb3
          replace KC := KC.old hb3
          replace hB := old_trans hB hb3
          clear hb3
          obtain ⟨KAa, ⟨KAb, KAc, KAd⟩, -⟩ := id KA
          obtain ⟨KBa, ⟨KBb, KBc, KBd⟩, -⟩ := id KB
          obtain ⟨KCa, ⟨KCb, KCc, KCd⟩, -⟩ := id KC
          go_wp2_with fail
          refine (CN.out _ _ _ _ _ _ _ _ _ _ _ _ _ U.inI V.inI X.inI Y.inI (TT.out _ hB)).mono ?_
          rintro e w4 ⟨rfl, hb4⟩
          clear KAa KAb KAc KAd KBa KBb KBc KBd KCa KCb KCc KCd
          replace X := X.later hb4
          replace Y := Y.later hb4
          replace U := U.later hb4
          replace V := V.later hb4
          replace P := P.later hb4
          replace Q := Q.later hb4
          replace KA := KA.old hb4
          replace KB := KB.old hb4
          replace KC := KC.old hb4
          replace hB := old_trans hB hb4
          clear hb4
          obtain ⟨KAa, ⟨KAb, KAc, KAd⟩, -⟩ := id KA
          obtain ⟨KBa, ⟨KBb, KBc, KBd⟩, -⟩ := id KB
          obtain ⟨KCa, ⟨KCb, KCc, KCd⟩, -⟩ := id KC
          go_wp2_with fail
          refine (SB.out _ _ _ _ _ _ _ _ _ _ _ _ _ X.inI Y.inI U.inI V.inI (TT.out _ hB)).mono ?_
          rintro e w5 ⟨⟨avD, cvD, avE, cvE, rfl, D, E⟩, hb5⟩
          clear KAa KAb KAc KAd KBa KBb KBc KBd KCa KCb KCc KCd
          replace X := X.later hb5
          replace Y := Y.later hb5
          replace U := U.later hb5
          replace V := V.later hb5
          replace P := P.later hb5
          replace Q := Q.later hb5
          replace KA := KA.old hb5
          replace KB := KB.old hb5
          replace KC := KC.old hb5
          replace hB := old_trans hB hb5
          clear hb5
          obtain ⟨KAa, ⟨KAb, KAc, KAd⟩, -⟩ := id KA
          obtain ⟨KBa, ⟨KBb, KBc, KBd⟩, -⟩ := id KB
          obtain ⟨KCa, ⟨KCb, KCc, KCd⟩, -⟩ := id KC
          clear KAa KAb KAc KAd KBa KBb KBc KBd KCa KCb KCc KCd
          have KD_ := Cel3.new w5 (.bool sg) (.slice avD tl.length cvD) (.slice avE ul.length cvE) 25
          have halKD : Below w5.heap.size w5 (w5.alloc (.cells #[.bool sg, .slice avD tl.length cvD, .slice avE ul.length cvE] 25)) := old_alloc (Below.refl _ _) _
          replace X := X.later halKD
          replace Y := Y.later halKD
          replace U := U.later halKD
          replace V := V.later halKD
          replace P := P.later halKD
          replace Q := Q.later halKD
          replace D := D.later halKD
          replace E := E.later halKD
          replace KA := KA.old halKD
          replace KB := KB.old halKD
          replace KC := KC.old halKD
          replace hB := old_trans hB halKD
          clear halKD
          have KD := KD_
          clear KD_
          obtain ⟨KAa, ⟨KAb, KAc, KAd⟩, -⟩ := id KA
          obtain ⟨KBa, ⟨KBb, KBc, KBd⟩, -⟩ := id KB
          obtain ⟨KCa, ⟨KCb, KCc, KCd⟩, -⟩ := id KC
          obtain ⟨KDa, ⟨KDb, KDc, KDd⟩, -⟩ := id KD
          go_wp2_with fail
          refine (CP.out _ _ _ _ _ _ _ _ _ _ _ _ _ U.inI V.inI P.inI Q.inI (TT.out _ hB)).mono ?_
          rintro e w6 ⟨rfl, hb6⟩
          clear KAa KAb KAc KAd KBa KBb KBc KBd KCa KCb KCc KCd KDa KDb KDc KDd
          replace X := X.later hb6
          replace Y := Y.later hb6
          replace U := U.later hb6
          replace V := V.later hb6
          replace P := P.later hb6
          replace Q := Q.later hb6
          replace D := D.later hb6
          replace E := E.later hb6
          replace KA := KA.old hb6
          replace KB := KB.old hb6
          replace KC := KC.old hb6
          replace KD := KD.old hb6
          replace hB := old_trans hB hb6
          clear hb6
          obtain ⟨KAa, ⟨KAb, KAc, KAd⟩, -⟩ := id KA
          obtain ⟨KBa, ⟨KBb, KBc, KBd⟩, -⟩ := id KB
          obtain ⟨KCa, ⟨KCb, KCc, KCd⟩, -⟩ := id KC
          obtain ⟨KDa, ⟨KDb, KDc, KDd⟩, -⟩ := id KD
          go_wp2_with fail
          refine (CQ.out _ _ _ _ _ _ _ _ _ _ _ _ _ X.inI Y.inI P.inI Q.inI (TT.out _ hB)).mono ?_
          rintro e w7 ⟨rfl, hb7⟩
          clear KAa KAb KAc KAd KBa KBb KBc KBd KCa KCb KCc KCd KDa KDb KDc KDd
          replace X := X.later hb7
          replace Y := Y.later hb7
          replace U := U.later hb7
          replace V := V.later hb7
          replace P := P.later hb7
          replace Q := Q.later hb7
          replace D := D.later hb7
          replace E := E.later hb7
          replace KA := KA.old hb7
          replace KB := KB.old hb7
          replace KC := KC.old hb7
          replace KD := KD.old hb7
          replace hB := old_trans hB hb7
          clear hb7
          obtain ⟨KAa, ⟨KAb, KAc, KAd⟩, -⟩ := id KA
          obtain ⟨KBa, ⟨KBb, KBc, KBd⟩, -⟩ := id KB
          obtain ⟨KCa, ⟨KCb, KCc, KCd⟩, -⟩ := id KC
          obtain ⟨KDa, ⟨KDb, KDc, KDd⟩, -⟩ := id KD
          go_wp2
          go_ret
          exact ⟨rfl, hB⟩
        · have hmn' : (1 == n) = false := beq_eq_false_iff_ne.2 hmn
          clear CQ
          go_wp2_with fail
          refine (CM.out _ _ _ _ _ _ _ _ _ _ _ _ _ X.inI Y.inI U.inI V.inI (TT.out _ hB)).mono ?_
          rintro e w2 ⟨rfl, hb2⟩
          clear KAa KAb KAc KAd KBa KBb KBc KBd KCa KCb KCc KCd
          replace X := X.later hb2
          replace Y := Y.later hb2
          replace U := U.later hb2
          replace V := V.later hb2
          replace P := P.later hb2
          replace Q := Q.later hb2
          replace KA := KA.old hb2
          replace KB := KB.old hb2
          replace KC := KC.old hb2
          replace hB := old_trans hB hb2
          clear hb2
          obtain ⟨KAa, ⟨KAb, KAc, KAd⟩, -⟩ := id KA
          obtain ⟨KBa, ⟨KBb, KBc, KBd⟩, -⟩ := id KB
          obtain ⟨KCa, ⟨KCb, KCc, KCd⟩, -⟩ := id KC
          go_wp2_with fail
          refine (SM.out _ _ _ _ _ _ _ _ _ _ _ _ _ X.inI Y.inI U.inI V.inI).mono ?_
          rintro e w3 ⟨rfl, hb3⟩
          clear KAa KAb KAc KAd KBa KBb KBc KBd KCa KCb KCc KCd
          replace X := X.later hb3
          replace Y := Y.later hb3
          replace U := U.later hb3
          replace V := V.later hb3
          replace P := P.later hb3
          replace Q := Q.later hb3
          replace KA := KA.old hb3
          replace KB := KB.old hb3
          replace KC := KC.old hb3
          replace hB := old_trans hB hb3
          clear hb3
          obtain ⟨KAa, ⟨KAb, KAc, KAd⟩, -⟩ := id KA
          obtain ⟨KBa, ⟨KBb, KBc, KBd⟩, -⟩ := id KB
          obtain ⟨KCa, ⟨KCb, KCc, KCd⟩, -⟩ := id KC
          go_wp2_with fail
          refine (CN.out _ _ _ _ _ _ _ _ _ _ _ _ _ U.inI V.inI X.inI Y.inI (TT.out _ hB)).mono ?_
          rintro e w4 ⟨rfl, hb4⟩
          clear KAa KAb KAc KAd KBa KBb KBc KBd KCa KCb KCc KCd
          replace X := X.later hb4
          replace Y := Y.later hb4
          replace U := U.later hb4
          replace V := V.later hb4
          replace P := P.later hb4
          replace Q := Q.later hb4
          replace KA := KA.old hb4
          replace KB := KB.old hb4
          replace KC := KC.old hb4
          replace hB := old_trans hB hb4
          clear hb4
          obtain ⟨KAa, ⟨KAb, KAc, KAd⟩, -⟩ := id KA
          obtain ⟨KBa, ⟨KBb, KBc, KBd⟩, -⟩ := id KB
          obtain ⟨KCa, ⟨KCb, KCc, KCd⟩, -⟩ := id KC
          go_wp2_with fail
          refine (SB.out _ _ _ _ _ _ _ _ _ _ _ _ _ X.inI Y.inI U.inI V.inI (TT.out _ hB)).mono ?_
          rintro e w5 ⟨⟨avD, cvD, avE, cvE, rfl, D, E⟩, hb5⟩
          clear KAa KAb KAc KAd KBa KBb KBc KBd KCa KCb KCc KCd
          replace X := X.later hb5
          replace Y := Y.later hb5
          replace U := U.later hb5
          replace V := V.later hb5
          replace P := P.later hb5
          replace Q := Q.later hb5
          replace KA := KA.old hb5
          replace KB := KB.old hb5
          replace KC := KC.old hb5
          replace hB := old_trans hB hb5
          clear hb5
          obtain ⟨KAa, ⟨KAb, KAc, KAd⟩, -⟩ := id KA
          obtain ⟨KBa, ⟨KBb, KBc, KBd⟩, -⟩ := id KB
          obtain ⟨KCa, ⟨KCb, KCc, KCd⟩, -⟩ := id KC
          clear KAa KAb KAc KAd KBa KBb KBc KBd KCa KCb KCc KCd
          have KD_ := Cel3.new w5 (.bool sg) (.slice avD tl.length cvD) (.slice avE ul.length cvE) 25
          have halKD : Below w5.heap.size w5 (w5.alloc (.cells #[.bool sg, .slice avD tl.length cvD, .slice avE ul.length cvE] 25)) := old_alloc (Below.refl _ _) _
          replace X := X.later halKD
          replace Y := Y.later halKD
          replace U := U.later halKD
          replace V := V.later halKD
          replace P := P.later halKD
          replace Q := Q.later halKD
          replace D := D.later halKD
          replace E := E.later halKD
          replace KA := KA.old halKD
          replace KB := KB.old halKD
          replace KC := KC.old halKD
          replace hB := old_trans hB halKD
          clear halKD
          have KD := KD_
          clear KD_
          obtain ⟨KAa, ⟨KAb, KAc, KAd⟩, -⟩ := id KA
          obtain ⟨KBa, ⟨KBb, KBc, KBd⟩, -⟩ := id KB
          obtain ⟨KCa, ⟨KCb, KCc, KCd⟩, -⟩ := id KC
          obtain ⟨KDa, ⟨KDb, KDc, KDd⟩, -⟩ := id KD
          go_wp2_with fail
          refine (CP.out _ _ _ _ _ _ _ _ _ _ _ _ _ U.inI V.inI P.inI Q.inI (TT.out _ hB)).mono ?_
          rintro e w6 ⟨rfl, hb6⟩
          clear KAa KAb KAc KAd KBa KBb KBc KBd KCa KCb KCc KCd KDa KDb KDc KDd
          replace X := X.later hb6
          replace Y := Y.later hb6
          replace U := U.later hb6
          replace V := V.later hb6
          replace P := P.later hb6
          replace Q := Q.later hb6
          replace D := D.later hb6
          replace E := E.later hb6
          replace KA := KA.old hb6
          replace KB := KB.old hb6
          replace KC := KC.old hb6
          replace KD := KD.old hb6
          replace hB := old_trans hB hb6
          clear hb6
          obtain ⟨KAa, ⟨KAb, KAc, KAd⟩, -⟩ := id KA
          obtain ⟨KBa, ⟨KBb, KBc, KBd⟩, -⟩ := id KB
          obtain ⟨KCa, ⟨KCb, KCc, KCd⟩, -⟩ := id KC
          obtain ⟨KDa, ⟨KDb, KDc, KDd⟩, -⟩ := id KD
          go_wp2
          go_ret
          exact ⟨rfl, hB⟩
  · have SI := hd (fun a b ca cb w g1 g2 g3 => oSign (hsg rfl) a b ca cb w g1 g2 g3)
    clear hsg
    by_cases hz : m = 0
    · obtain ⟨rfl, rfl, rfl⟩ := heq.out hz
      subst hz
      clear heq hmr
      by_cases hmn : 0 = n
      · replace CQ := hd (CQ.out hmn)
        subst hmn
        go_wp2_with fail
        refine (CM.out _ _ _ _ _ _ _ _ _ _ _ _ _ X.inI Y.inI U.inI V.inI (TT.out _ hB)).mono ?_
        rintro e w2 ⟨rfl, hb2⟩
        clear KAa KAb KAc KAd KBa KBb KBc KBd KCa KCb KCc KCd
        replace X := X.later hb2
        replace Y := Y.later hb2
        replace U := U.later hb2
        replace V := V.later hb2
        replace P := P.later hb2
        replace Q := Q.later hb2
        replace KA := KA.old hb2
        replace KB := KB.old hb2
        replace KC := KC.old hb2
        replace hB := old_trans hB hb2
        clear hb2
        obtain ⟨KAa, ⟨KAb, KAc, KAd⟩, -⟩ := id KA
        obtain ⟨KBa, ⟨KBb, KBc, KBd⟩, -⟩ := id KB
        obtain ⟨KCa, ⟨KCb, KCc, KCd⟩, -⟩ := id KC
        go_wp2_with fail
        refine (SM.out _ _ _ _ _ _ _ _ _ _ _ _ _ X.inI Y.inI U.inI V.inI).mono ?_
        rintro e w3 ⟨rfl, hb3⟩
        clear KAa KAb KAc KAd KBa KBb KBc KBd KCa KCb KCc KCd
        replace X := X.later hb3
        replace Y := Y.later hb3
        replace U := U.later hb3
        replace V := V.later hb3
        replace P := P.later hb3
        replace Q := Q.later hb3
        replace KA := KA.old hb3
        replace KB := KB.old hb3
        replace KC := KC.old hb3
        replace hB := old_trans hB hb3
        clear hb3
        obtain ⟨KAa, ⟨KAb, KAc, KAd⟩, -⟩ := id KA
        obtain ⟨KBa, ⟨KBb, KBc, KBd⟩, -⟩ := id KB
        obtain ⟨KCa, ⟨KCb, KCc, KCd⟩, -⟩ := id KC
        go_wp2_with fail
        refine (CN.out _ _ _ _ _ _ _ _ _ _ _ _ _ U.inI V.inI X.inI Y.inI (TT.out _ hB)).mono ?_
        rintro e w4 ⟨rfl, hb4⟩
        clear KAa KAb KAc KAd KBa KBb KBc KBd KCa KCb KCc KCd
        replace X := X.later hb4
        replace Y := Y.later hb4
        replace U := U.later hb4
        replace V := V.later hb4
        replace P := P.later hb4
        replace Q := Q.later hb4
        replace KA := KA.old hb4
        replace KB := KB.old hb4
        replace KC := KC.old hb4
        replace hB := old_trans hB hb4
        clear hb4
        obtain ⟨KAa, ⟨KAb, KAc, KAd⟩, -⟩ := id KA
        obtain ⟨KBa, ⟨KBb, KBc, KBd⟩, -⟩ := id KB
        obtain ⟨KCa, ⟨KCb, KCc, KCd⟩, -⟩ := id KC
        go_wp2_with fail
        refine (SB.out _ _ _ _ _ _ _ _ _ _ _ _ _ X.inI Y.inI U.inI V.inI (TT.out _ hB)).mono ?_
        rintro e w5 ⟨⟨avD, cvD, avE, cvE, rfl, D, E⟩, hb5⟩
        clear KAa KAb KAc KAd KBa KBb KBc KBd KCa KCb KCc KCd
        replace X := X.later hb5
        replace Y := Y.later hb5
        replace U := U.later hb5
        replace V := V.later hb5
        replace P := P.later hb5
        replace Q := Q.later hb5
        replace KA := KA.old hb5
        replace KB := KB.old hb5
        replace KC := KC.old hb5
        replace hB := old_trans hB hb5
        clear hb5
        obtain ⟨KAa, ⟨KAb, KAc, KAd⟩, -⟩ := id KA
        obtain ⟨KBa, ⟨KBb, KBc, KBd⟩, -⟩ := id KB
        obtain ⟨KCa, ⟨KCb, KCc, KCd⟩, -⟩ := id KC
        clear KAa KAb KAc KAd KBa KBb KBc KBd KCa KCb KCc KCd
        have KD_ := Cel3.new w5 (.bool sg) (.slice avD tl.length cvD) (.slice avE ul.length cvE) 25
        have halKD : Below w5.heap.size w5 (w5.alloc (.cells #[.bool sg, .slice avD tl.length cvD, .slice avE ul.length cvE] 25)) := old_alloc (Below.refl _ _) _
        replace X := X.later halKD
        replace Y := Y.later halKD
        replace U := U.later halKD
        replace V := V.later halKD
        replace P := P.later halKD
        replace Q := Q.later halKD
        replace D := D.later halKD
        replace E := E.later halKD
        replace KA := KA.old halKD
        replace KB := KB.old halKD
        replace KC := KC.old halKD
        replace hB := old_trans hB halKD
        clear halKD
        have KD := KD_
        clear KD_
        obtain ⟨KAa, ⟨KAb, KAc, KAd⟩, -⟩ := id KA
        obtain ⟨KBa, ⟨KBb, KBc, KBd⟩, -⟩ := id KB
        obtain ⟨KCa, ⟨KCb, KCc, KCd⟩, -⟩ := id KC
        obtain ⟨KDa, ⟨KDb, KDc, KDd⟩, -⟩ := id KD
        go_wp2_with fail
        refine (SI.out _ _ _ _ _ D.inI E.inI (TT.out _ hB)).mono ?_
        rintro e w6 ⟨rfl, hb6⟩
        clear KAa KAb KAc KAd KBa KBb KBc KBd KCa KCb KCc KCd KDa KDb KDc KDd
        replace X := X.later hb6
        replace Y := Y.later hb6
        replace U := U.later hb6
        replace V := V.later hb6
        replace P := P.later hb6
        replace Q := Q.later hb6
        replace D := D.later hb6
        replace E := E.later hb6
        replace KA := KA.old hb6
        replace KB := KB.old hb6
        replace KC := KC.old hb6
        replace KD := KD.old hb6
        replace hB := old_trans hB hb6
        clear hb6
        obtain ⟨KAa, ⟨KAb, KAc, KAd⟩, -⟩ := id KA
        obtain ⟨KBa, ⟨KBb, KBc, KBd⟩, -⟩ := id KB
        obtain ⟨KCa, ⟨KCb, KCc, KCd⟩, -⟩ := id KC
        obtain ⟨KDa, ⟨KDb, KDc, KDd⟩, -⟩ := id KD
        go_wp2_with fail
        refine (PF.out _ _ _ _ _ _ _ _ _ _ _ _ _ _ X.inI Y.inI U.inI V.inI).mono ?_
        rintro e w7 ⟨rfl, hb7⟩
        clear KAa KAb KAc KAd KBa KBb KBc KBd KCa KCb KCc KCd KDa KDb KDc KDd
        replace X := X.later hb7
        replace Y := Y.later hb7
        replace U := U.later hb7
        replace V := V.later hb7
        replace P := P.later hb7
        replace Q := Q.later hb7
        replace D := D.later hb7
        replace E := E.later hb7
        replace KA := KA.old hb7
        replace KB := KB.old hb7
        replace KC := KC.old hb7
        replace KD := KD.old hb7
        replace hB := old_trans hB hb7
        clear hb7
        obtain ⟨KAa, ⟨KAb, KAc, KAd⟩, -⟩ := id KA
        obtain ⟨KBa, ⟨KBb, KBc, KBd⟩, -⟩ := id KB
        obtain ⟨KCa, ⟨KCb, KCc, KCd⟩, -⟩ := id KC
        obtain ⟨KDa, ⟨KDb, KDc, KDd⟩, -⟩ := id KD
        go_wp2_with fail
        refine (CP.out _ _ _ _ _ _ _ _ _ _ _ _ _ U.inI V.inI P.inI Q.inI (TT.out _ hB)).mono ?_
        rintro e w8 ⟨rfl, hb8⟩
        clear KAa KAb KAc KAd KBa KBb KBc KBd KCa KCb KCc KCd KDa KDb KDc KDd
        replace X := X.later hb8
        replace Y := Y.later hb8
        replace U := U.later hb8
        replace V := V.later hb8
        replace P := P.later hb8
        replace Q := Q.later hb8
        replace D := D.later hb8
        replace E := E.later hb8
        replace KA := KA.old hb8
        replace KB := KB.old hb8
        replace KC := KC.old hb8
        replace KD := KD.old hb8
        replace hB := old_trans hB hb8
        clear hb8
        obtain ⟨KAa, ⟨KAb, KAc, KAd⟩, -⟩ := id KA
        obtain ⟨KBa, ⟨KBb, KBc, KBd⟩, -⟩ := id KB
        obtain ⟨KCa, ⟨KCb, KCc, KCd⟩, -⟩ := id KC
        obtain ⟨KDa, ⟨KDb, KDc, KDd⟩, -⟩ := id KD
        go_wp2_with fail
        refine (CQ.out _ _ _ _ _ _ _ _ _ _ _ _ _ X.inI Y.inI P.inI Q.inI (TT.out _ hB)).mono ?_
        rintro e w9 ⟨rfl, hb9⟩
        clear KAa KAb KAc KAd KBa KBb KBc KBd KCa KCb KCc KCd KDa KDb KDc KDd
        replace X := X.later hb9
        replace Y := Y.later hb9
        replace U := U.later hb9
        replace V := V.later hb9
        replace P := P.later hb9
        replace Q := Q.later hb9
        replace D := D.later hb9
        replace E := E.later hb9
        replace KA := KA.old hb9
        replace KB := KB.old hb9
        replace KC := KC.old hb9
        replace KD := KD.old hb9
        replace hB := old_trans hB hb9
        clear hb9
        obtain ⟨KAa, ⟨KAb, KAc, KAd⟩, -⟩ := id KA
        obtain ⟨KBa, ⟨KBb, KBc, KBd⟩, -⟩ := id KB
        obtain ⟨KCa, ⟨KCb, KCc, KCd⟩, -⟩ := id KC
        obtain ⟨KDa, ⟨KDb, KDc, KDd⟩, -⟩ := id KD
        go_wp2
        go_ret
        exact ⟨rfl, hB⟩
      · have hmn' : (0 == n) = false := beq_eq_false_iff_ne.2 hmn
        clear CQ
        go_wp2_with fail
        refine (CM.out _ _ _ _ _ _ _ _ _ _ _ _ _ X.inI Y.inI U.inI V.inI (TT.out _ hB)).mono ?_
        rintro e w2 ⟨rfl, hb2⟩
        clear KAa KAb KAc KAd KBa KBb KBc KBd KCa KCb KCc KCd
        replace X := X.later hb2
        replace Y := Y.later hb2
        replace U := U.later hb2
        replace V := V.later hb2
        replace P := P.later hb2
        replace Q := Q.later hb2
        replace KA := KA.old hb2
        replace KB := KB.old hb2
        replace KC := KC.old hb2
        replace hB := old_trans hB hb2
        clear hb2
        obtain ⟨KAa, ⟨KAb, KAc, KAd⟩, -⟩ := id KA
        obtain ⟨KBa, ⟨KBb, KBc, KBd⟩, -⟩ := id KB
        obtain ⟨KCa, ⟨KCb, KCc, KCd⟩, -⟩ := id KC
        go_wp2_with fail
        refine (SM.out _ _ _ _ _ _ _ _ _ _ _ _ _ X.inI Y.inI U.inI V.inI).mono ?_
        rintro e w3 ⟨rfl, hb3⟩
        clear KAa KAb KAc KAd KBa KBb KBc KBd KCa KCb KCc KCd
        replace X := X.later hb3
        replace Y := Y.later hb3
        replace U := U.later hb3
        replace V := V.later hb3
        replace P := P.later hb3
        replace Q := Q.later hb3
        replace KA := KA.old hb3
        replace KB := KB.old hb3
        replace KC := KC.old hb3
        replace hB := old_trans hB hb3
        clear hb3
        obtain ⟨KAa, ⟨KAb, KAc, KAd⟩, -⟩ := id KA
        obtain ⟨KBa, ⟨KBb, KBc, KBd⟩, -⟩ := id KB
        obtain ⟨KCa, ⟨KCb, KCc, KCd⟩, -⟩ := id KC
        go_wp2_with fail
        refine (CN.out _ _ _ _ _ _ _ _ _ _ _ _ _ U.inI V.inI X.inI Y.inI (TT.out _ hB)).mono ?_
        rintro e w4 ⟨rfl, hb4⟩
        clear KAa KAb KAc KAd KBa KBb KBc KBd KCa KCb KCc KCd
        replace X := X.later hb4
        replace Y := Y.later hb4
        replace U := U.later hb4
        replace V := V.later hb4
        replace P := P.later hb4
        replace Q := Q.later hb4
        replace KA := KA.old hb4
        replace KB := KB.old hb4
        replace KC := KC.old hb4
        replace hB := old_trans hB hb4
        clear hb4
        obtain ⟨KAa, ⟨KAb, KAc, KAd⟩, -⟩ := id KA
        obtain ⟨KBa, ⟨KBb, KBc, KBd⟩, -⟩ := id KB
        obtain ⟨KCa, ⟨KCb, KCc, KCd⟩, -⟩ := id KC
        go_wp2_with fail
        refine (SB.out _ _ _ _ _ _ _ _ _ _ _ _ _ X.inI Y.inI U.inI V.inI (TT.out _ hB)).mono ?_
        rintro e w5 ⟨⟨avD, cvD, avE, cvE, rfl, D, E⟩, hb5⟩
        clear KAa KAb KAc KAd KBa KBb KBc KBd KCa KCb KCc KCd
        replace X := X.later hb5
        replace Y := Y.later hb5
        replace U := U.later hb5
        replace V := V.later hb5
        replace P := P.later hb5
        replace Q := Q.later hb5
        replace KA := KA.old hb5
        replace KB := KB.old hb5
        replace KC := KC.old hb5
        replace hB := old_trans hB hb5
        clear hb5
        obtain ⟨KAa, ⟨KAb, KAc, KAd⟩, -⟩ := id KA
        obtain ⟨KBa, ⟨KBb, KBc, KBd⟩, -⟩ := id KB
        obtain ⟨KCa, ⟨KCb, KCc, KCd⟩, -⟩ := id KC
        clear KAa KAb KAc KAd KBa KBb KBc KBd KCa KCb KCc KCd
        have KD_ := Cel3.new w5 (.bool sg) (.slice avD tl.length cvD) (.slice avE ul.length cvE) 25
        have halKD : Below w5.heap.size w5 (w5.alloc (.cells #[.bool sg, .slice avD tl.length cvD, .slice avE ul.length cvE] 25)) := old_alloc (Below.refl _ _) _
        replace X := X.later halKD
        replace Y := Y.later halKD
        replace U := U.later halKD
        replace V := V.later halKD
        replace P := P.later halKD
        replace Q := Q.later halKD
        replace D := D.later halKD
        replace E := E.later halKD
        replace KA := KA.old halKD
        replace KB := KB.old halKD
        replace KC := KC.old halKD
        replace hB := old_trans hB halKD
        clear halKD
        have KD := KD_
        clear KD_
        obtain ⟨KAa, ⟨KAb, KAc, KAd⟩, -⟩ := id KA
        obtain ⟨KBa, ⟨KBb, KBc, KBd⟩, -⟩ := id KB
        obtain ⟨KCa, ⟨KCb, KCc, KCd⟩, -⟩ := id KC
        obtain ⟨KDa, ⟨KDb, KDc, KDd⟩, -⟩ := id KD
        go_wp2_with fail
        refine (SI.out _ _ _ _ _ D.inI E.inI (TT.out _ hB)).mono ?_
        rintro e w6 ⟨rfl, hb6⟩
        clear KAa KAb KAc KAd KBa KBb KBc KBd KCa KCb KCc KCd KDa KDb KDc KDd
        replace X := X.later hb6
        replace Y := Y.later hb6
        replace U := U.later hb6
        replace V := V.later hb6
        replace P := P.later hb6
        replace Q := Q.later hb6
        replace D := D.later hb6
        replace E := E.later hb6
        replace KA := KA.old hb6
        replace KB := KB.old hb6
        replace KC := KC.old hb6
        replace KD := KD.old hb6
        replace hB := old_trans hB hb6
        clear hb6
        obtain ⟨KAa, ⟨KAb, KAc, KAd⟩, -⟩ := id KA
        obtain ⟨KBa, ⟨KBb, KBc, KBd⟩, -⟩ := id KB
        obtain ⟨KCa, ⟨KCb, KCc, KCd⟩, -⟩ := id KC
        obtain ⟨KDa, ⟨KDb, KDc, KDd⟩, -⟩ := id KD
        go_wp2_with fail
        refine (PF.out _ _ _ _ _ _ _ _ _ _ _ _ _ _ X.inI Y.inI U.inI V.inI).mono ?_
        rintro e w7 ⟨rfl, hb7⟩
        clear KAa KAb KAc KAd KBa KBb KBc KBd KCa KCb KCc KCd KDa KDb KDc KDd
        replace X := X.later hb7
        replace Y := Y.later hb7
        replace U := U.later hb7
        replace V := V.later hb7
        replace P := P.later hb7
        replace Q := Q.later hb7
        replace D := D.later hb7
        replace E := E.later hb7
        replace KA := KA.old hb7
        replace KB := KB.old hb7
        replace KC := KC.old hb7
        replace KD := KD.old hb7
        replace hB := old_trans hB hb7
        clear hb7
        obtain ⟨KAa, ⟨KAb, KAc, KAd⟩, -⟩ := id KA
        obtain ⟨KBa, ⟨KBb, KBc, KBd⟩, -⟩ := id KB
        obtain ⟨KCa, ⟨KCb, KCc, KCd⟩, -⟩ := id KC
        obtain ⟨KDa, ⟨KDb, KDc, KDd⟩, -⟩ := id KD
        go_wp2_with fail
        refine (CP.out _ _ _ _ _ _ _ _ _ _ _ _ _ U.inI V.inI P.inI Q.inI (TT.out _ hB)).mono ?_
        rintro e w8 ⟨rfl, hb8⟩
        clear KAa KAb KAc KAd KBa KBb KBc KBd KCa KCb KCc KCd KDa KDb KDc KDd
        replace X := X.later hb8
        replace Y := Y.later hb8
        replace U := U.later hb8
        replace V := V.later hb8
        replace P := P.later hb8
        replace Q := Q.later hb8
        replace D := D.later hb8
        replace E := E.later hb8
        replace KA := KA.old hb8
        replace KB := KB.old hb8
        replace KC := KC.old hb8
        replace KD := KD.old hb8
        replace hB := old_trans hB hb8
        clear hb8
        obtain ⟨KAa, ⟨KAb, KAc, KAd⟩, -⟩ := id KA
        obtain ⟨KBa, ⟨KBb, KBc, KBd⟩, -⟩ := id KB
        obtain ⟨KCa, ⟨KCb, KCc, KCd⟩, -⟩ := id KC
        obtain ⟨KDa, ⟨KDb, KDc, KDd⟩, -⟩ := id KD
        go_wp2
        go_ret
        exact ⟨rfl, hB⟩
    · have hmr' : m = -1 ∨ m = 1 := by omega
      clear heq hmr hz hm2
      rcases hmr' with rfl | rfl
      · by_cases hmn : -1 = n
        · replace CQ := hd (CQ.out hmn)
          subst hmn
          go_wp2_with fail
          refine (CM.out _ _ _ _ _ _ _ _ _ _ _ _ _ X.inI Y.inI U.inI V.inI (TT.out _ hB)).mono ?_
          rintro e w2 ⟨rfl, hb2⟩
          clear KAa KAb KAc KAd KBa KBb KBc KBd KCa KCb KCc KCd
          replace X := X.later hb2
          replace Y := Y.later hb2
          replace U := U.later hb2
          replace V := V.later hb2
          replace P := P.later hb2
          replace Q := Q.later hb2
          replace KA := KA.old hb2
          replace KB := KB.old hb2
          replace KC := KC.old hb2
          replace hB := old_trans hB hb2
          clear hb2
          obtain ⟨KAa, ⟨KAb, KAc, KAd⟩, -⟩ := id KA
          obtain ⟨KBa, ⟨KBb, KBc, KBd⟩, -⟩ := id KB
          obtain ⟨KCa, ⟨KCb, KCc, KCd⟩, -⟩ := id KC
          go_wp2_with fail
          refine (SM.out _ _ _ _ _ _ _ _ _ _ _ _ _ X.inI Y.inI U.inI V.inI).mono ?_
          rintro e w3 ⟨rfl, hb3⟩
          clear KAa KAb KAc KAd KBa KBb KBc KBd KCa KCb KCc KCd
          replace X := X.later hb3
          replace Y := Y.later hb3
          replace U := U.later hb3
          replace V := V.later hb3
          replace P := P.later hb3
          replace Q := Q.later hb3
          replace KA := KA.old hb3
          replace KB := KB.old hb3
          replace KC := KC.old hb3
          replace hB := old_trans hB hb3
          clear hb3
          obtain ⟨KAa, ⟨KAb, KAc, KAd⟩, -⟩ := id KA
          obtain ⟨KBa, ⟨KBb, KBc, KBd⟩, -⟩ := id KB
          obtain ⟨KCa, ⟨KCb, KCc, KCd⟩, -⟩ := id KC
          go_wp2_with fail
          refine (CN.out _ _ _ _ _ _ _ _ _ _ _ _ _ U.inI V.inI X.inI Y.inI (TT.out _ hB)).mono ?_
          rintro e w4 ⟨rfl, hb4⟩
          clear KAa KAb KAc KAd KBa KBb KBc KBd KCa KCb KCc KCd
          replace X := X.later hb4
          replace Y := Y.later hb4
          replace U := U.later hb4
          replace V := V.later hb4
          replace P := P.later hb4
          replace Q := Q.later hb4
          replace KA := KA.old hb4
          replace KB := KB.old hb4
          replace KC := KC.old hb4
          replace hB := old_trans hB hb4
          clear hb4
          obtain ⟨KAa, ⟨KAb, KAc, KAd⟩, -⟩ := id KA
          obtain ⟨KBa, ⟨KBb, KBc, KBd⟩, -⟩ := id KB
          obtain ⟨KCa, ⟨KCb, KCc, KCd⟩, -⟩ := id KC
          go_wp2_with fail
          refine (SB.out _ _ _ _ _ _ _ _ _ _ _ _ _ X.inI Y.inI U.inI V.inI (TT.out _ hB)).mono ?_
          rintro e w5 ⟨⟨avD, cvD, avE, cvE, rfl, D, E⟩, hb5⟩
          clear KAa KAb KAc KAd KBa KBb KBc KBd KCa KCb KCc KCd
          replace X := X.later hb5
          replace Y := Y.later hb5
          replace U := U.later hb5
          replace V := V.later hb5
          replace P := P.later hb5
          replace Q := Q.later hb5
          replace KA := KA.old hb5
          replace KB := KB.old hb5
          replace KC := KC.old hb5
          replace hB := old_trans hB hb5
          clear hb5
          obtain ⟨KAa, ⟨KAb, KAc, KAd⟩, -⟩ := id KA
          obtain ⟨KBa, ⟨KBb, KBc, KBd⟩, -⟩ := id KB
          obtain ⟨KCa, ⟨KCb, KCc, KCd⟩, -⟩ := id KC
          clear KAa KAb KAc KAd KBa KBb KBc KBd KCa KCb KCc KCd
          have KD_ := Cel3.new w5 (.bool sg) (.slice avD tl.length cvD) (.slice avE ul.length cvE) 25
          have halKD : Below w5.heap.size w5 (w5.alloc (.cells #[.bool sg, .slice avD tl.length cvD, .slice avE ul.length cvE] 25)) := old_alloc (Below.refl _ _) _
          replace X := X.later halKD
          replace Y := Y.later halKD
          replace U := U.later halKD
          replace V := V.later halKD
          replace P := P.later halKD
          replace Q := Q.later halKD
          replace D := D.later halKD
          replace E := E.later halKD
          replace KA := KA.old halKD
          replace KB := KB.old halKD
          replace KC := KC.old halKD
          replace hB := old_trans hB halKD
          clear halKD
          have KD := KD_
          clear KD_
          obtain ⟨KAa, ⟨KAb, KAc, KAd⟩, -⟩ := id KA
          obtain ⟨KBa, ⟨KBb, KBc, KBd⟩, -⟩ := id KB
          obtain ⟨KCa, ⟨KCb, KCc, KCd⟩, -⟩ := id KC
          obtain ⟨KDa, ⟨KDb, KDc, KDd⟩, -⟩ := id KD
          go_wp2_with fail
          refine (SI.out _ _ _ _ _ D.inI E.inI (TT.out _ hB)).mono ?_
          rintro e w6 ⟨rfl, hb6⟩
          clear KAa KAb KAc KAd KBa KBb KBc KBd KCa KCb KCc KCd KDa KDb KDc KDd
          replace X := X.later hb6
          replace Y := Y.later hb6
          replace U := U.later hb6
          replace V := V.later hb6
          replace P := P.later hb6
          replace Q := Q.later hb6
          replace D := D.later hb6
          replace E := E.later hb6
          replace KA := KA.old hb6
          replace KB := KB.old hb6
          replace KC := KC.old hb6
          replace KD := KD.old hb6
          replace hB := old_trans hB hb6
          clear hb6
          obtain ⟨KAa, ⟨KAb, KAc, KAd⟩, -⟩ := id KA
          obtain ⟨KBa, ⟨KBb, KBc, KBd⟩, -⟩ := id KB
          obtain ⟨KCa, ⟨KCb, KCc, KCd⟩, -⟩ := id KC
          obtain ⟨KDa, ⟨KDb, KDc, KDd⟩, -⟩ := id KD
          go_wp2_with fail
          refine (CP.out _ _ _ _ _ _ _ _ _ _ _ _ _ U.inI V.inI P.inI Q.inI (TT.out _ hB)).mono ?_
          rintro e w7 ⟨rfl, hb7⟩
          clear KAa KAb KAc KAd KBa KBb KBc KBd KCa KCb KCc KCd KDa KDb KDc KDd
          replace X := X.later hb7
          replace Y := Y.later hb7
          replace U := U.later hb7
          replace V := V.later hb7
          replace P := P.later hb7
          replace Q := Q.later hb7
          replace D := D.later hb7
          replace E := E.later hb7
          replace KA := KA.old hb7
          replace KB := KB.old hb7
          replace KC := KC.old hb7
          replace KD := KD.old hb7
          replace hB := old_trans hB hb7
          clear hb7
          obtain ⟨KAa, ⟨KAb, KAc, KAd⟩, -⟩ := id KA
          obtain ⟨KBa, ⟨KBb, KBc, KBd⟩, -⟩ := id KB
          obtain ⟨KCa, ⟨KCb, KCc, KCd⟩, -⟩ := id KC
          obtain ⟨KDa, ⟨KDb, KDc, KDd⟩, -⟩ := id KD
          go_wp2_with fail
          refine (CQ.out _ _ _ _ _ _ _ _ _ _ _ _ _ X.inI Y.inI P.inI Q.inI (TT.out _ hB)).mono ?_
          rintro e w8 ⟨rfl, hb8⟩
          clear KAa KAb KAc KAd KBa KBb KBc KBd KCa KCb KCc KCd KDa KDb KDc KDd
          replace X := X.later hb8
          replace Y := Y.later hb8
          replace U := U.later hb8
          replace V := V.later hb8
          replace P := P.later hb8
          replace Q := Q.later hb8
          replace D := D.later hb8
          replace E := E.later hb8
          replace KA := KA.old hb8
          replace KB := KB.old hb8
          replace KC := KC.old hb8
          replace KD := KD.old hb8
          replace hB := old_trans hB hb8
          clear hb8
          obtain ⟨KAa, ⟨KAb, KAc, KAd⟩, -⟩ := id KA
          obtain ⟨KBa, ⟨KBb, KBc, KBd⟩, -⟩ := id KB
          obtain ⟨KCa, ⟨KCb, KCc, KCd⟩, -⟩ := id KC
          obtain ⟨KDa, ⟨KDb, KDc, KDd⟩, -⟩ := id KD
          go_wp2
          go_ret
          exact ⟨rfl, hB⟩
        · have hmn' : (-1 == n) = false := beq_eq_false_iff_ne.2 hmn
          clear CQ
          go_wp2_with fail
          refine (CM.out _ _ _ _ _ _ _ _ _ _ _ _ _ X.inI Y.inI U.inI V.inI (TT.out _ hB)).mono ?_
          rintro e w2 ⟨rfl, hb2⟩
          clear KAa KAb KAc KAd KBa KBb KBc KBd KCa KCb KCc KCd
          replace X := X.later hb2
          replace Y := Y.later hb2
          replace U := U.later hb2
          replace V := V.later hb2
          replace P := P.later hb2
          replace Q := Q.later hb2
          replace KA := KA.old hb2
          replace KB := KB.old hb2
          replace KC := KC.old hb2
          replace hB := old_trans hB hb2
          clear hb2
          obtain ⟨KAa, ⟨KAb, KAc, KAd⟩, -⟩ := id KA
          obtain ⟨KBa, ⟨KBb, KBc, KBd⟩, -⟩ := id KB
          obtain ⟨KCa, ⟨KCb, KCc, KCd⟩, -⟩ := id KC
          go_wp2_with fail
          refine (SM.out _ _ _ _ _ _ _ _ _ _ _ _ _ X.inI Y.inI U.inI V.inI).mono ?_
          rintro e w3 ⟨rfl, hb3⟩
          clear KAa KAb KAc KAd KBa KBb KBc KBd KCa KCb KCc KCd
          replace X := X.later hb3
          replace Y := Y.later hb3
          replace U := U.later hb3
          replace V := V.later hb3
          replace P := P.later hb3
          replace Q := Q.later hb3
          replace KA := KA.old hb3
          replace KB := KB.old hb3
          replace KC := KC.old hb3
          replace hB := old_trans hB hb3
          clear hb3
          obtain ⟨KAa, ⟨KAb, KAc, KAd⟩, -⟩ := id KA
          obtain ⟨KBa, ⟨KBb, KBc, KBd⟩, -⟩ := id KB
          obtain ⟨KCa, ⟨KCb, KCc, KCd⟩, -⟩ := id KC
          go_wp2_with fail
          refine (CN.out _ _ _ _ _ _ _ _ _ _ _ _ _ U.inI V.inI X.inI Y.inI (TT.out _ hB)).mono ?_
          rintro e w4 ⟨rfl, hb4⟩
          clear KAa KAb KAc KAd KBa KBb KBc KBd KCa KCb KCc KCd
          replace X := X.later hb4
          replace Y := Y.later hb4
          replace U := U.later hb4
          replace V := V.later hb4
          replace P := P.later hb4
          replace Q := Q.later hb4
          replace KA := KA.old hb4
          replace KB := KB.old hb4
          replace KC := KC.old hb4
          replace hB := old_trans hB hb4
          clear hb4
          obtain ⟨KAa, ⟨KAb, KAc, KAd⟩, -⟩ := id KA
          obtain ⟨KBa, ⟨KBb, KBc, KBd⟩, -⟩ := id KB
          obtain ⟨KCa, ⟨KCb, KCc, KCd⟩, -⟩ := id KC
          go_wp2_with fail
          refine (SB.out _ _ _ _ _ _ _ _ _ _ _ _ _ X.inI Y.inI U.inI V.inI (TT.out _ hB)).mono ?_
          rintro e w5 ⟨⟨avD, cvD, avE, cvE, rfl, D, E⟩, hb5⟩
          clear KAa KAb KAc KAd KBa KBb KBc KBd KCa KCb KCc KCd
          replace X := X.later hb5
          replace Y := Y.later hb5
          replace U := U.later hb5
          replace V := V.later hb5
          replace P := P.later hb5
          replace Q := Q.later hb5
          replace KA := KA.old hb5
          replace KB := KB.old hb5
          replace KC := KC.old hb5
          replace hB := old_trans hB hb5
          clear hb5
          obtain ⟨KAa, ⟨KAb, KAc, KAd⟩, -⟩ := id KA
          obtain ⟨KBa, ⟨KBb, KBc, KBd⟩, -⟩ := id KB
          obtain ⟨KCa, ⟨KCb, KCc, KCd⟩, -⟩ := id KC
          clear KAa KAb KAc KAd KBa KBb KBc KBd KCa KCb KCc KCd
          have KD_ := Cel3.new w5 (.bool sg) (.slice avD tl.length cvD) (.slice avE ul.length cvE) 25
          have halKD : Below w5.heap.size w5 (w5.alloc (.cells #[.bool sg, .slice avD tl.length cvD, .slice avE ul.length cvE] 25)) := old_alloc (Below.refl _ _) _
          replace X := X.later halKD
          replace Y := Y.later halKD
          replace U := U.later halKD
          replace V := V.later halKD
          replace P := P.later halKD
          replace Q := Q.later halKD
          replace D := D.later halKD
          replace E := E.later halKD
          replace KA := KA.old halKD
          replace KB := KB.old halKD
          replace KC := KC.old halKD
          replace hB := old_trans hB halKD
          clear halKD
          have KD := KD_
          clear KD_
          obtain ⟨KAa, ⟨KAb, KAc, KAd⟩, -⟩ := id KA
          obtain ⟨KBa, ⟨KBb, KBc, KBd⟩, -⟩ := id KB
          obtain ⟨KCa, ⟨KCb, KCc, KCd⟩, -⟩ := id KC
          obtain ⟨KDa, ⟨KDb, KDc, KDd⟩, -⟩ := id KD
          go_wp2_with fail
          refine (SI.out _ _ _ _ _ D.inI E.inI (TT.out _ hB)).mono ?_
          rintro e w6 ⟨rfl, hb6⟩
          clear KAa KAb KAc KAd KBa KBb KBc KBd KCa KCb KCc KCd KDa KDb KDc KDd
          replace X := X.later hb6
          replace Y := Y.later hb6
          replace U := U.later hb6
          replace V := V.later hb6
          replace P := P.later hb6
          replace Q := Q.later hb6
          replace D := D.later hb6
          replace E := E.later hb6
          replace KA := KA.old hb6
          replace KB := KB.old hb6
          replace KC := KC.old hb6
          replace KD := KD.old hb6
          replace hB := old_trans hB hb6
          clear hb6
          obtain ⟨KAa, ⟨KAb, KAc, KAd⟩, -⟩ := id KA
          obtain ⟨KBa, ⟨KBb, KBc, KBd⟩, -⟩ := id KB
          obtain ⟨KCa, ⟨KCb, KCc, KCd⟩, -⟩ := id KC
          obtain ⟨KDa, ⟨KDb, KDc, KDd⟩, -⟩ := id KD
          go_wp2_with fail
          refine (CP.out _ _ _ _ _ _ _ _ _ _ _ _ _ U.inI V.inI P.inI Q.inI (TT.out _ hB)).mono ?_
          rintro e w7 ⟨rfl, hb7⟩
          clear KAa KAb KAc KAd KBa KBb KBc KBd KCa KCb KCc KCd KDa KDb KDc KDd
          replace X := X.later hb7
          replace Y := Y.later hb7
          replace U := U.later hb7
          replace V := V.later hb7
          replace P := P.later hb7
          replace Q := Q.later hb7
          replace D := D.later hb7
          replace E := E.later hb7
          replace KA := KA.old hb7
          replace KB := KB.old hb7
          replace KC := KC.old hb7
          replace KD := KD.old hb7
          replace hB := old_trans hB hb7
          clear hb7
          obtain ⟨KAa, ⟨KAb, KAc, KAd⟩, -⟩ := id KA
          obtain ⟨KBa, ⟨KBb, KBc, KBd⟩, -⟩ := id KB
          obtain ⟨KCa, ⟨KCb, KCc, KCd⟩, -⟩ := id KC
          obtain ⟨KDa, ⟨KDb, KDc, KDd⟩, -⟩ := id KD
          go_wp2
          go_ret
          exact ⟨rfl, hB⟩
      · by_cases hmn : 1 = n
        · replace CQ := hd (CQ.out hmn)
          subst hmn
          go_wp2_with fail
          refine (CM.out _ _ _ _ _ _ _ _ _ _ _ _ _ X.inI Y.inI U.inI V.inI (TT.out _ hB)).mono ?_
          rintro e w2 ⟨rfl, hb2⟩
          clear KAa KAb KAc KAd KBa KBb KBc KBd KCa KCb KCc KCd
          replace X := X.later hb2
          replace Y := Y.later hb2
          replace U := U.later hb2
          replace V := V.later hb2
          replace P := P.later hb2
          replace Q := Q.later hb2
          replace KA := KA.old hb2
          replace KB := KB.old hb2
          replace KC := KC.old hb2
          replace hB := old_trans hB hb2
          clear hb2
          obtain ⟨KAa, ⟨KAb, KAc, KAd⟩, -⟩ := id KA
          obtain ⟨KBa, ⟨KBb, KBc, KBd⟩, -⟩ := id KB
          obtain ⟨KCa, ⟨KCb, KCc, KCd⟩, -⟩ := id KC
          go_wp2_with fail
          refine (SM.out _ _ _ _ _ _ _ _ _ _ _ _ _ X.inI Y.inI U.inI V.inI).mono ?_
          rintro e w3 ⟨rfl, hb3⟩
          clear KAa KAb KAc KAd KBa KBb KBc KBd KCa KCb KCc KCd
          replace X := X.later hb3
          replace Y := Y.later hb3
          replace U := U.later hb3
          replace V := V.later hb3
          replace P := P.later hb3
          replace Q := Q.later hb3
          replace KA := KA.old hb3
          replace KB := KB.old hb3
          replace KC := KC.old hb3
          replace hB := old_trans hB hb3
          clear hb3
          obtain ⟨KAa, ⟨KAb, KAc, KAd⟩, -⟩ := id KA
          obtain ⟨KBa, ⟨KBb, KBc, KBd⟩, -⟩ := id KB
          obtain ⟨KCa, ⟨KCb, KCc, KCd⟩, -⟩ := id KC
          go_wp2_with fail
          refine (CN.out _ _ _ _ _ _ _ _ _ _ _ _ _ U.inI V.inI X.inI Y.inI (TT.out _ hB)).mono ?_
          rintro e w4 ⟨rfl, hb4⟩
          clear KAa KAb KAc KAd KBa KBb KBc KBd KCa KCb KCc KCd
          replace X := X.later hb4
          replace Y := Y.later hb4
          replace U := U.later hb4
          replace V := V.later hb4
          replace P := P.later hb4
          replace Q := Q.later hb4
          replace KA := KA.old hb4
          replace KB := KB.old hb4
          replace KC := KC.old hb4
          replace hB := old_trans hB hb4
          clear hb4
          obtain ⟨KAa, ⟨KAb, KAc, KAd⟩, -⟩ := id KA
          obtain ⟨KBa, ⟨KBb, KBc, KBd⟩, -⟩ := id KB
          obtain ⟨KCa, ⟨KCb, KCc, KCd⟩, -⟩ := id KC
          go_wp2_with fail
          refine (SB.out _ _ _ _ _ _ _ _ _ _ _ _ _ X.inI Y.inI U.inI V.inI (TT.out _ hB)).mono ?_
          rintro e w5 ⟨⟨avD, cvD, avE, cvE, rfl, D, E⟩, hb5⟩
          clear KAa KAb KAc KAd KBa KBb KBc KBd KCa KCb KCc KCd
          replace X := X.later hb5
          replace Y := Y.later hb5
          replace U := U.later hb5
          replace V := V.later hb5
          replace P := P.later hb5
          replace Q := Q.later hb5
          replace KA := KA.old hb5
          replace KB := KB.old hb5
          replace KC := KC.old hb5
          replace hB := old_trans hB hb5
          clear hb5
          obtain ⟨KAa, ⟨KAb, KAc, KAd⟩, -⟩ := id KA
          obtain ⟨KBa, ⟨KBb, KBc, KBd⟩, -⟩ := id KB
          obtain ⟨KCa, ⟨KCb, KCc, KCd⟩, -⟩ := id KC
          clear KAa KAb KAc KAd KBa KBb KBc KBd KCa KCb KCc KCd
          have KD_ := Cel3.new w5 (.bool sg) (.slice avD tl.length cvD) (.slice avE ul.length cvE) 25
          have halKD : Below w5.heap.size w5 (w5.alloc (.cells #[.bool sg, .slice avD tl.length cvD, .slice avE ul.length cvE] 25)) := old_alloc (Below.refl _ _) _
          replace X := X.later halKD
          replace Y := Y.later halKD
          replace U := U.later halKD
          replace V := V.later halKD
          replace P := P.later halKD
          replace Q := Q.later halKD
          replace D := D.later halKD
          replace E := E.later halKD
          replace KA := KA.old halKD
          replace KB := KB.old halKD
          replace KC := KC.old halKD
          replace hB := old_trans hB halKD
          clear halKD
          have KD := KD_
          clear KD_
          obtain ⟨KAa, ⟨KAb, KAc, KAd⟩, -⟩ := id KA
          obtain ⟨KBa, ⟨KBb, KBc, KBd⟩, -⟩ := id KB
          obtain ⟨KCa, ⟨KCb, KCc, KCd⟩, -⟩ := id KC
          obtain ⟨KDa, ⟨KDb, KDc, KDd⟩, -⟩ := id KD
          go_wp2_with fail
          refine (SI.out _ _ _ _ _ D.inI E.inI (TT.out _ hB)).mono ?_
          rintro e w6 ⟨rfl, hb6⟩
          clear KAa KAb KAc KAd KBa KBb KBc KBd KCa KCb KCc KCd KDa KDb KDc KDd
          replace X := X.later hb6
          replace Y := Y.later hb6
          replace U := U.later hb6
          replace V := V.later hb6
          replace P := P.later hb6
          replace Q := Q.later hb6
          replace D := D.later hb6
          replace E := E.later hb6
          replace KA := KA.old hb6
          replace KB := KB.old hb6
          replace KC := KC.old hb6
          replace KD := KD.old hb6
          replace hB := old_trans hB hb6
          clear hb6
          obtain ⟨KAa, ⟨KAb, KAc, KAd⟩, -⟩ := id KA
          obtain ⟨KBa, ⟨KBb, KBc, KBd⟩, -⟩ := id KB
          obtain ⟨KCa, ⟨KCb, KCc, KCd⟩, -⟩ := id KC
          obtain ⟨KDa, ⟨KDb, KDc, KDd⟩, -⟩ := id KD
          go_wp2_with fail
          refine (CP.out _ _ _ _ _ _ _ _ _ _ _ _ _ U.inI V.inI P.inI Q.inI (TT.out _ hB)).mono ?_
          rintro e w7 ⟨rfl, hb7⟩
          clear KAa KAb KAc KAd KBa KBb KBc KBd KCa KCb KCc KCd KDa KDb KDc KDd
          replace X := X.later hb7
          replace Y := Y.later hb7
          replace U := U.later hb7
          replace V := V.later hb7
          replace P := P.later hb7
          replace Q := Q.later hb7
          replace D := D.later hb7
          replace E := E.later hb7
          replace KA := KA.old hb7
          replace KB := KB.old hb7
          replace KC := KC.old hb7
          replace KD := KD.old hb7
          replace hB := old_trans hB hb7
          clear hb7
          obtain ⟨KAa, ⟨KAb, KAc, KAd⟩, -⟩ := id KA
          obtain ⟨KBa, ⟨KBb, KBc, KBd⟩, -⟩ := id KB
          obtain ⟨KCa, ⟨KCb, KCc, KCd⟩, -⟩ := id KC
          obtain ⟨KDa, ⟨KDb, KDc, KDd⟩, -⟩ := id KD
          go_wp2_with fail
          refine (CQ.out _ _ _ _ _ _ _ _ _ _ _ _ _ X.inI Y.inI P.inI Q.inI (TT.out _ hB)).mono ?_
          rintro e w8 ⟨rfl, hb8⟩
          clear KAa KAb KAc KAd KBa KBb KBc KBd KCa KCb KCc KCd KDa KDb KDc KDd
          replace X := X.later hb8
          replace Y := Y.later hb8
          replace U := U.later hb8
          replace V := V.later hb8
          replace P := P.later hb8
          replace Q := Q.later hb8
          replace D := D.later hb8
          replace E := E.later hb8
          replace KA := KA.old hb8
          replace KB := KB.old hb8
          replace KC := KC.old hb8
          replace KD := KD.old hb8
          replace hB := old_trans hB hb8
          clear hb8
          obtain ⟨KAa, ⟨KAb, KAc, KAd⟩, -⟩ := id KA
          obtain ⟨KBa, ⟨KBb, KBc, KBd⟩, -⟩ := id KB
          obtain ⟨KCa, ⟨KCb, KCc, KCd⟩, -⟩ := id KC
          obtain ⟨KDa, ⟨KDb, KDc, KDd⟩, -⟩ := id KD
          go_wp2
          go_ret
          exact ⟨rfl, hB⟩
        · have hmn' : (1 == n) = false := beq_eq_false_iff_ne.2 hmn
          clear CQ
          go_wp2_with fail
          refine (CM.out _ _ _ _ _ _ _ _ _ _ _ _ _ X.inI Y.inI U.inI V.inI (TT.out _ hB)).mono ?_
          rintro e w2 ⟨rfl, hb2⟩
          clear KAa KAb KAc KAd KBa KBb KBc KBd KCa KCb KCc KCd
          replace X := X.later hb2
          replace Y := Y.later hb2
          replace U := U.later hb2
          replace V := V.later hb2
          replace P := P.later hb2
          replace Q := Q.later hb2
          replace KA := KA.old hb2
          replace KB := KB.old hb2
          replace KC := KC.old hb2
          replace hB := old_trans hB hb2
          clear hb2
          obtain ⟨KAa, ⟨KAb, KAc, KAd⟩, -⟩ := id KA
          obtain ⟨KBa, ⟨KBb, KBc, KBd⟩, -⟩ := id KB
          obtain ⟨KCa, ⟨KCb, KCc, KCd⟩, -⟩ := id KC
          go_wp2_with fail
          refine (SM.out _ _ _ _ _ _ _ _ _ _ _ _ _ X.inI Y.inI U.inI V.inI).mono ?_
          rintro e w3 ⟨rfl, hb3⟩
          clear KAa KAb KAc KAd KBa KBb KBc KBd KCa KCb KCc KCd
          replace X := X.later hb3
          replace Y := Y.later hb3
          replace U := U.later hb3
          replace V := V.later hb3
          replace P := P.later hb3
          replace Q := Q.later hb3
          replace KA := KA.old hb3
          replace KB := KB.old hb3
          replace KC := KC.old hb3
          replace hB := old_trans hB hb3
          clear hb3
          obtain ⟨KAa, ⟨KAb, KAc, KAd⟩, -⟩ := id KA
          obtain ⟨KBa, ⟨KBb, KBc, KBd⟩, -⟩ := id KB
          obtain ⟨KCa, ⟨KCb, KCc, KCd⟩, -⟩ := id KC
          go_wp2_with fail
          refine (CN.out _ _ _ _ _ _ _ _ _ _ _ _ _ U.inI V.inI X.inI Y.inI (TT.out _ hB)).mono ?_
          rintro e w4 ⟨rfl, hb4⟩
          clear KAa KAb KAc KAd KBa KBb KBc KBd KCa KCb KCc KCd
          replace X := X.later hb4
          replace Y := Y.later hb4
          replace U := U.later hb4
          replace V := V.later hb4
          replace P := P.later hb4
          replace Q := Q.later hb4
          replace KA := KA.old hb4
          replace KB := KB.old hb4
          replace KC := KC.old hb4
          replace hB := old_trans hB hb4
          clear hb4
          obtain ⟨KAa, ⟨KAb, KAc, KAd⟩, -⟩ := id KA
          obtain ⟨KBa, ⟨KBb, KBc, KBd⟩, -⟩ := id KB
          obtain ⟨KCa, ⟨KCb, KCc, KCd⟩, -⟩ := id KC
          go_wp2_with fail
          refine (SB.out _ _ _ _ _ _ _ _ _ _ _ _ _ X.inI Y.inI U.inI V.inI (TT.out _ hB)).mono ?_
          rintro e w5 ⟨⟨avD, cvD, avE, cvE, rfl, D, E⟩, hb5⟩
          clear KAa KAb KAc KAd KBa KBb KBc KBd KCa KCb KCc KCd
          replace X := X.later hb5
          replace Y := Y.later hb5
          replace U := U.later hb5
          replace V := V.later hb5
          replace P := P.later hb5
          replace Q := Q.later hb5
          replace KA := KA.old hb5
          replace KB := KB.old hb5
          replace KC := KC.old hb5
          replace hB := old_trans hB hb5
          clear hb5
          obtain ⟨KAa, ⟨KAb, KAc, KAd⟩, -⟩ := id KA
          obtain ⟨KBa, ⟨KBb, KBc, KBd⟩, -⟩ := id KB
          obtain ⟨KCa, ⟨KCb, KCc, KCd⟩, -⟩ := id KC
          clear KAa KAb KAc KAd KBa KBb KBc KBd KCa KCb KCc KCd
          have KD_ := Cel3.new w5 (.bool sg) (.slice avD tl.length cvD) (.slice avE ul.length cvE) 25
          have halKD : Below w5.heap.size w5 (w5.alloc (.cells #[.bool sg, .slice avD tl.length cvD, .slice avE ul.length cvE] 25)) := old_alloc (Below.refl _ _) _
          replace X := X.later halKD
          replace Y := Y.later halKD
          replace U := U.later halKD
          replace V := V.later halKD
          replace P := P.later halKD
          replace Q := Q.later halKD
          replace D := D.later halKD
          replace E := E.later halKD
          replace KA := KA.old halKD
          replace KB := KB.old halKD
          replace KC := KC.old halKD
          replace hB := old_trans hB halKD
          clear halKD
          have KD := KD_
          clear KD_
          obtain ⟨KAa, ⟨KAb, KAc, KAd⟩, -⟩ := id KA
          obtain ⟨KBa, ⟨KBb, KBc, KBd⟩, -⟩ := id KB
          obtain ⟨KCa, ⟨KCb, KCc, KCd⟩, -⟩ := id KC
          obtain ⟨KDa, ⟨KDb, KDc, KDd⟩, -⟩ := id KD
          go_wp2_with fail
          refine (SI.out _ _ _ _ _ D.inI E.inI (TT.out _ hB)).mono ?_
          rintro e w6 ⟨rfl, hb6⟩
          clear KAa KAb KAc KAd KBa KBb KBc KBd KCa KCb KCc KCd KDa KDb KDc KDd
          replace X := X.later hb6
          replace Y := Y.later hb6
          replace U := U.later hb6
          replace V := V.later hb6
          replace P := P.later hb6
          replace Q := Q.later hb6
          replace D := D.later hb6
          replace E := E.later hb6
          replace KA := KA.old hb6
          replace KB := KB.old hb6
          replace KC := KC.old hb6
          replace KD := KD.old hb6
          replace hB := old_trans hB hb6
          clear hb6
          obtain ⟨KAa, ⟨KAb, KAc, KAd⟩, -⟩ := id KA
          obtain ⟨KBa, ⟨KBb, KBc, KBd⟩, -⟩ := id KB
          obtain ⟨KCa, ⟨KCb, KCc, KCd⟩, -⟩ := id KC
          obtain ⟨KDa, ⟨KDb, KDc, KDd⟩, -⟩ := id KD
          go_wp2_with fail
          refine (CP.out _ _ _ _ _ _ _ _ _ _ _ _ _ U.inI V.inI P.inI Q.inI (TT.out _ hB)).mono ?_
          rintro e w7 ⟨rfl, hb7⟩
          clear KAa KAb KAc KAd KBa KBb KBc KBd KCa KCb KCc KCd KDa KDb KDc KDd
          replace X := X.later hb7
          replace Y := Y.later hb7
          replace U := U.later hb7
          replace V := V.later hb7
          replace P := P.later hb7
          replace Q := Q.later hb7
          replace D := D.later hb7
          replace E := E.later hb7
          replace KA := KA.old hb7
          replace KB := KB.old hb7
          replace KC := KC.old hb7
          replace KD := KD.old hb7
          replace hB := old_trans hB hb7
          clear hb7
          obtain ⟨KAa, ⟨KAb, KAc, KAd⟩, -⟩ := id KA
          obtain ⟨KBa, ⟨KBb, KBc, KBd⟩, -⟩ := id KB
          obtain ⟨KCa, ⟨KCb, KCc, KCd⟩, -⟩ := id KC
          obtain ⟨KDa, ⟨KDb, KDc, KDd⟩, -⟩ := id KD
          go_wp2
          go_ret
          exact ⟨rfl, hB⟩

set_option maxRecDepth 100000 in
theorem FnFracOrder_lifted (os : Os) (started : os.Started) (H : Type) (enc : TypeId × Value → H) :
    ReturnsInHanded {} Tryz.checked os 4 .any (fun w args => (Rows.fnFracOrderSpec.pre enc Tryz.prog Tryz.f4 [] false w args ∧ laidMetH Tryz.prog LHL w) ∧ sizedMet enc Tryz.prog Tryz.f4 (OpenSpec.ofChange Rows.fnFracOrderSpec) false w args)
      (Rows.fnFracOrderSpec.post enc Tryz.prog Tryz.f4 false true false false) := by
  refine returnsInHanded_of_change_and (C := Tryz.checked) (X := fun w _ => laidMetH Tryz.prog LHL w) (fun _ _ _ hh h => h.of_heap hh) LH_own started (by kernel_rfl) Tryz.func4
    (ChangeSpec.witness_shaped (enc := enc) (C := Tryz.checked) (os := os) (X := fun w _ => laidMetH Tryz.prog LHL w) false (World.doorLaid Tryz.prog LH_fuel os) #[.slice none 0 0, .slice none 0 0] 8 rfl (LH_shaped os _) (by kernel_rfl) (by kernel_rfl) (by kernel_rfl) (LH_met os _)) ?_
  intro W base args ds gs before hval0 hW _ _ hL _
  have hval : ∀ (j : Nat) t v, Tryz.f4.params[j]? = some t → args[j]? = some v → Value.okWide Tryz.prog W .any base t v := hval0
  have hW' := hW
  obtain ⟨p, q, hA0, hV, rfl, hfz, hnd⟩ := hW
  have hA : DataW.TrodAll enc Tryz.prog W 0 (fun _ => true) true Tryz.f4.params.toList args.toList ds p := hA0
  rw [Tryz.params4] at hA hval
  obtain ⟨v0, vs0, d0, ds0, p0, q0, hargs, rfl, rfl, h0, r0⟩ := trodAll_cons hA
  obtain ⟨v1, vs1, d1, ds1, p1, q1, rfl, rfl, rfl, h1, r1⟩ := trodAll_cons r0
  obtain ⟨rfl, rfl, rfl⟩ := trodAll_nil r1
  obtain rfl : args = #[v0, v1] := by cases args; simp_all
  obtain ⟨rfl, rfl⟩ := trodVars_none hV
  have k0 := h0
  have lt0 : ∀ x ∈ p0, x.block < W.heap.size := by obtain ⟨m, hm⟩ := k0; exact DataW.trod_lt m _ _ _ hm
  obtain ⟨a0, len0, cap0, rfl, wb0⟩ := open_bytes (hval 0 22 v0 rfl rfl) h0
  have k1 := h1
  have lt1 : ∀ x ∈ p1, x.block < W.heap.size := by obtain ⟨m, hm⟩ := k1; exact DataW.trod_lt m _ _ _ hm
  obtain ⟨a1, len1, cap1, rfl, wb1⟩ := open_bytes (hval 1 22 v1 rfl rfl) h1
  clear hA0 hval0
  refine (FnFracOrder_walk a0 len0 cap0 a1 len1 cap1 W wb0 wb1 (both_of hL)).mono fun e W' ⟨he, bel⟩ => ?_
  subst he
  exact ⟨_, rfl, _, _, _, [], _, [], hW', trodAll_mk1 (shut_bool Tryz.underlying4 _), (trodAll_cons_mk (Below.trod jf1 (by kernel_rfl) (of_decide_eq_true (by kernel_rfl)) k0 bel lt0) (trodAll_cons_mk (Below.trod jf1 (by kernel_rfl) (of_decide_eq_true (by kernel_rfl)) k1 bel lt1) trodAll_mk0)), rfl, bel.frame _, fun h => by cases h⟩

theorem FnFracOrder_k0 : (Rows.fnFracOrderRow.wf (OpenSpec.ofChange Rows.fnFracOrderSpec)) = true := by kernel_rfl
theorem FnFracOrder_k3 : (Tryz.f4.params.all (Tryz.prog.readableRec ·)) = true := by kernel_rfl
theorem FnFracOrder_k4 : (namedTie Tryz.prog Rows.fnFracOrderRow.named Rows.fnFracOrderSpec.vars) = true := by kernel_rfl
theorem FnFracOrder_k5 : ((Rows.fnFracOrderRow.stops == [])) = true := by kernel_rfl
theorem FnFracOrder_k7 : ((Rows.fnFracOrderRow.knobs == [])) = true := by kernel_rfl
theorem FnFracOrder_k9 : ((Rows.fnFracOrderRow.inPlace == Tryz.prog.inPlace 4)) = true := by kernel_rfl
theorem FnFracOrder_k10 : ((Rows.fnFracOrderRow.unfollowed == Tryz.prog.unfollowed 4)) = true := by kernel_rfl
theorem FnFracOrder_k11 : ((Rows.fnFracOrderRow.recurses == Tryz.prog.recurses 4)) = true := by kernel_rfl
theorem FnFracOrder_k12 : ((Rows.fnFracOrderRow.named == Tryz.prog.varsNamed 4)) = true := by kernel_rfl
theorem FnFracOrder_k13 : ((Rows.fnFracOrderRow.maps == (Tryz.f4.params.toList ++ Rows.fnFracOrderSpec.plain.varTypes Tryz.prog).any (Tryz.prog.mapsRec ·))) = true := by kernel_rfl
theorem FnFracOrder_k14 : ((Rows.fnFracOrderRow.ifaces == (Tryz.f4.params.toList ++ Rows.fnFracOrderSpec.plain.varTypes Tryz.prog).any (Tryz.prog.ifacesRec ·))) = true := by kernel_rfl
theorem FnFracOrder_k15 : ((Rows.fnFracOrderRow.mapsOut == Tryz.prog.mapsAmong Tryz.f4.resultTypes.toList)) = true := by kernel_rfl
theorem FnFracOrder_k16 : ((Rows.fnFracOrderRow.loops == (Tryz.f4.params.toList ++ Rows.fnFracOrderSpec.plain.varTypes Tryz.prog).any (Tryz.prog.loopsFrom ·))) = true := by kernel_rfl
theorem FnFracOrder_k17 : ((Rows.fnFracOrderRow.wideKeys == (Tryz.f4.params.toList ++ Rows.fnFracOrderSpec.plain.varTypes Tryz.prog ++ Tryz.f4.resultTypes.toList).any (Tryz.prog.wideKeysFrom ·))) = true := by kernel_rfl
theorem FnFracOrder_k18 : (Rows.fnFracOrderSpec.vars.all (Tryz.prog.varReadable ·)) = true := by kernel_rfl
theorem FnFracOrder_k19 : (Tryz.f4.resultTypes.all (fun t => Tryz.prog.readableRec t && decide (t < Tryz.prog.types.size))) = true := by kernel_rfl
theorem FnFracOrder_k20 : ((Rows.fnFracOrderRow.ifacesOut == Tryz.f4.resultTypes.toList.any (Tryz.prog.ifacesRec ·))) = true := by kernel_rfl
theorem FnFracOrder_k21 : ((Rows.fnFracOrderRow.loopsOut == Tryz.f4.resultTypes.toList.any (Tryz.prog.loopsFrom ·))) = true := by kernel_rfl
theorem FnFracOrder_k23 : (Rows.fnFracOrderRow.shortTexts.isNone) = true := by kernel_rfl
theorem FnFracOrder_k28 : ((Rows.fnFracOrderRow.kinds == (if Rows.fnFracOrderRow.domain.isEmpty then [] else Tryz.f4.params.toList.map fun t => match Tryz.prog.underlying t with | some (.int k) => some k | _ => none))) = true := by kernel_rfl
theorem FnFracOrder_k29 : ((Rows.fnFracOrderRow.pinned == Rows.fnFracOrderRow.pinnedBy)) = true := by kernel_rfl
theorem FnFracOrder_k30 : ((Rows.fnFracOrderRow.veiled == (Tryz.f4.params.toList ++ Rows.fnFracOrderSpec.plain.varTypes Tryz.prog ++ Tryz.f4.resultTypes.toList).any (Tryz.prog.veiledRec ·))) = true := by kernel_rfl
theorem FnFracOrder_k31 : (Rows.fnFracOrderRow.veiledFits Tryz.prog Tryz.f4.params.toList (Tryz.f4.params.toList ++ Rows.fnFracOrderSpec.plain.varTypes Tryz.prog ++ Tryz.f4.resultTypes.toList)) = true := by kernel_rfl
set_option maxRecDepth 100000 in
theorem FnFracOrder_closed : joinedFacts Tryz.prog 4 Tryz.f4 Rows.fnFracOrderSpec Rows.fnFracOrderRow = true := (and2 (and2 (and2 (and2 (and2 (and2 (and2 (and2 (and2 (and2 (and2 (and2 (and2 (and2 (and2 (and2 (and2 (and2 (and2 (and2 (and2 (and2 (and2 (and2 (and2 (and2 (and2 (and2 (and2 (and2 (and2 FnFracOrder_k0 jf1) jf2) FnFracOrder_k3) FnFracOrder_k4) FnFracOrder_k5) jf6) FnFracOrder_k7) jf8) FnFracOrder_k9) FnFracOrder_k10) FnFracOrder_k11) FnFracOrder_k12) FnFracOrder_k13) FnFracOrder_k14) FnFracOrder_k15) FnFracOrder_k16) FnFracOrder_k17) FnFracOrder_k18) FnFracOrder_k19) FnFracOrder_k20) FnFracOrder_k21) jf22) FnFracOrder_k23) jf24) jf25) jf26) jf27) FnFracOrder_k28) FnFracOrder_k29) FnFracOrder_k30) FnFracOrder_k31)
theorem FnFracOrder_row : Rows.FnFracOrderSaid :=
  OpenClaim.holds_of_wide 4 Tryz.f4 rfl rfl rfl rfl rfl rfl rfl ⟨rfl, rfl, rfl, rfl, rfl⟩ rfl rfl rfl rfl rfl (by kernel_rfl) Tryz.func4 FnFracOrder_closed
    (of_decide_eq_true (by kernel_rfl)) (by unfold Func.isWrapper; first | (rw [if_pos (by decide +kernel)]; kernel_rfl) | (rw [if_neg (by decide +kernel)]; exact ⟨rfl, rfl⟩))
    (fun os started H enc _ => FnFracOrder_lifted os started H enc)

theorem FnFracOrder_proved : Rows.FnFracOrderCardSaid :=
  Claim7.holds_tied_plain_at .later [] [.data, .data, .handle] true (true, "91f3bad53399b08fb678b07bb22d6dd5aea13d0dd050997a9d365f189890a175") true
    FnFracOrder_row (fun _ h => by cases h) (by kernel_rfl) (fun _ h => by cases h) fnFracOrder_row_tie rfl ⟨rfl, rfl⟩ (by kernel_rfl) rfl
    (fun f fn hf hfn => by
      obtain rfl : f = 4 := Option.some.inj ((show Tryz.prog.funcNamed "loop.example/pinfold/laws.FnFracOrder" = some 4 by kernel_rfl).symm.trans hf) |>.symm
      obtain rfl : fn = Tryz.f4 := (Option.some.inj (Tryz.func4.symm.trans hfn)).symm
      exact ⟨by kernel_rfl, fun j t ht => by
        rw [Tryz.params4] at ht
        have hm : t ∈ [22, 22] := by simpa using Array.mem_of_getElem? ht
        have hall : ([22, 22].all fun u => !Tryz.prog.wantsStandIn u) = true := by kernel_rfl
        exact (show Tryz.prog.wantsStandIn t = false by simpa using List.all_eq_true.1 hall t hm)⟩)
    (by kernel_rfl)
end Go.Proofs.YtekhokemekaeoaaGreatDoor
