/- A number in decimals, by the program: groups of twelve. Conditions: the library's table of powers is there. Nothing that was there is written. -/
import Derived.Test.YtlfaiekcmflgnaaGreatDoorKC
import Derived.Test.YtlfaiekcmflgnaaGreatDoorKS
import Derived.Test.YtlfaiekcmflgnaaGreatDoorBE
import Derived.Test.YtlfaiekcmflgnaaGreatDoorNE
import Derived.Lib.AppendIntMem
namespace Go.Proofs.YtlfaiekcmflgnaaGreatDoor
open Go.RowKit Go.Lib Go.Shelf
attribute [local go_sem] Oper.semAt_some
set_option linter.unusedVariables false
set_option maxRecDepth 100000

/-- the library's table of powers of ten is there, whatever is laid behind -/
def P10 (w : World) : Prop := Lib.TabBelow Tryz.prog w.heap.size w "internal/strconv.uint64pow10" .u64 Lib.pow10Tab
theorem P10.old {w w' : World} (h : P10 w) (b : Below w.heap.size w w') : P10 w' := fun w'' k => h w'' (b.trans (k.mono b.size))
theorem iItoa (n : Nat) (h1 : n ≤ 9223372036854775807) (w : World) (hT : P10 w) :
    Calls Tryz.prog 73 #[.int .i64 (n : Int)] w fun e w' => e = .returned (.string ⟨(decDigits n).toArray⟩) ∧ Below w.heap.size w w' := by
  refine (sh_strconv_Itoa (n : Int) (by omega) (by omega) w hT.here).mono ?_
  rintro e w' ⟨rfl, k, os, rfl⟩
  refine ⟨?_, below_grow _ _ (Nat.le_refl _) k os⟩
  unfold itoa
  rw [if_neg (by omega), Int.toNat_natCast]
theorem pow_lt {V k m n : Nat} (h : k * 10 ^ m ≤ V) (hk : k ≠ 0) (hV : V < 65536 ^ n) : m < 16 * n := by
  have h1 : 10 ^ m ≤ V := Nat.le_trans (Nat.le_mul_of_pos_left _ (by omega)) h
  have h2 : 2 ^ m ≤ 10 ^ m := Nat.pow_le_pow_left (by decide) m
  rw [show (65536 : Nat) = 2 ^ 16 from rfl, ← Nat.pow_mul] at hV
  exact (Nat.pow_lt_pow_iff_right (by decide)).1 (Nat.lt_of_le_of_lt (Nat.le_trans h2 h1) hV)
theorem nilRowF (w : World) (B : Nat) : w.ownsRowF B 5 1 (.slice none 0 0) 0 [] := ⟨rfl, .inl ⟨rfl, rfl⟩⟩
theorem tenIx (w : World) : (Instr.index 87 tenV (.int .i64 12)).run Tryz.prog w = .ok (.int .i64 1000000000000) w := by kernel_rfl
theorem step12 {V k m : Nat} (h : k * 10 ^ m ≤ V) : k / 1000000000000 * 10 ^ (m + 1) ≤ V := by
  refine Nat.le_trans ?_ h
  rw [Nat.pow_succ, Nat.mul_comm (10 ^ m) 10, ← Nat.mul_assoc]
  refine Nat.mul_le_mul_right _ ?_
  omega
theorem heap_kept {A B : World} {row : Option Nat} {k : Nat} {c : Array Value} {t : TypeId} {fz : Nat × Nat} (h : A.heap[k]? = some (.cells c t fz)) (hg : A.grownBy B row) (hr : ∀ r, row = some r → ∃ o : Obj, A.heap[r]? = some o ∧ o.isCells = false) : B.heap[k]? = some (.cells c t fz) :=
  (hg.block k (Array.getElem?_eq_some_iff.1 h).1 (fun e => by
    obtain ⟨o, ho, hc⟩ := hr k e.symm
    rw [h] at ho
    cases ho
    simp [Obj.isCells] at hc)).trans h
theorem BuilderAtF.turned {T e : TypeId} {B b : Nat} {p : Value} {bs : List Value} {A C : World} {row : Option Nat} (h : Lib.BuilderAtF T e B b p bs A) (hg : A.grownBy C row) (hr : ∀ r, row = some r → ∃ o : Obj, A.heap[r]? = some o ∧ o.isCells = false) : Lib.BuilderAtF T e B b p bs C := by
  obtain ⟨h1, v, h2, h3, h4⟩ := h
  refine ⟨h1, v, heap_kept h2 hg hr, ⟨h3.1, ?_⟩, h4⟩
  rcases h3.2 with h0 | ⟨g, cap, cur, fz, hv, hb, hg2, h5⟩
  · exact .inl h0
  · exact .inr ⟨g, cap, cur, fz, hv, hb, heap_kept hg2 hg hr, h5⟩
theorem others_keep {e : TypeId} {b : Nat} {A B : World} {T : TypeId} {c : Array Value} {fz : Nat × Nat} (h : Lib.OthersKept e (some b) A B) (hs : A.heap.size ≤ B.heap.size) (hb : A.heap[b]? = some (.cells c T fz)) : KeepsOthers A B :=
  ⟨hs, fun k o hk ho => h k o hk (fun e => by
    injection e with e
    subst e
    rw [hb] at hk
    cases hk
    simp [Obj.isCells] at ho) (fun c fz e => by
    subst e
    simp [Obj.isCells] at ho)⟩
theorem sl1 (l : List UInt8) (h : l ≠ []) (w : World) : (Instr.slice 9 (.string ⟨l.toArray⟩) (some (.int .i64 1)) none none).run Tryz.prog w = .ok (.string ⟨l.tail.toArray⟩) w := by
  cases l with
  | nil => exact absurd rfl h
  | cons b t =>
    have hs : (⟨(b :: t).toArray⟩ : ByteArray).size = t.length + 1 := rfl
    have e2 : (⟨(b :: t).toArray⟩ : ByteArray).extract 1 (t.length + 1) = ⟨t.toArray⟩ := by
      apply ByteArray.ext
      rw [ByteArray.data_extract]
      apply Array.ext'
      simp
    have e3 : ¬ ((t.length : Int) + 1 < 1) := by omega
    simp [go_sem, hs, e2, e3]
theorem bC_append (l m : List UInt8) : byteCells (l ++ m) = byteCells l ++ byteCells m := by simp [byteCells]
theorem strC (l : List UInt8) : Lib.strCells ⟨l.toArray⟩ = byteCells l := by simp [Lib.strCells, byteCells]
theorem BuilderAtF.later {T e : TypeId} {B b : Nat} {p : Value} {bs : List Value} {w w' : World} (h : Lib.BuilderAtF T e B b p bs w) (k : Below w.heap.size w w') : Lib.BuilderAtF T e B b p bs w' := by
  obtain ⟨h1, v, h2, h3, h4⟩ := h
  refine ⟨h1, v, (k.block b (Array.getElem?_eq_some_iff.1 h2).1).trans h2, ⟨h3.1, ?_⟩, h4⟩
  rcases h3.2 with h0 | ⟨g, cap, cur, fz, hv, hb, hg, h5⟩
  · exact .inl h0
  · exact .inr ⟨g, cap, cur, fz, hv, hb, (k.block g (Array.getElem?_eq_some_iff.1 hg).1).trans hg, h5⟩
def ic (cs : List Int) : List Value := cs.map (Value.int .i64)
theorem ic_snoc (cs : List Int) (c : Int) : ic (cs ++ [c]) = ic cs ++ [.int .i64 c] := by simp [ic]
set_option maxRecDepth 100000 in
set_option maxHeartbeats 4000000 in
theorem iText (a : Option Addr) (cap V : Nat) (w : World) (hR : InI w a (natL V).length cap (natL V)) (hlen : (natL V).length ≤ 1048576) (hT : P10 w) :
    Calls Tryz.prog 50 #[.slice a (natL V).length cap] w fun e w' => e = .returned (.string ⟨(decDigits V).toArray⟩) ∧ Below w.heap.size w w' := by
  obtain ⟨i0, hi, hz0, hz1, hz2⟩ := info3 infoInt
  have TP := hd (iTenPowers w)
  have C1 := hd (fun w' (h : Below w.heap.size w w') => iCutSmall a _ cap (natL V) 1000000000000 w' (hR.old h) (digs_natL V) (by decide) (by decide) hlen)
  rw [val_natL] at C1
  have hVp := hd (natL_lt_pow V)
  have hT' := hd hT
  clear hT
  refine (callsIn_wide (n := 3)).1 ?_
  have hro : Fence.wide.round = none := rfl
  have h1 : 1 ≤ 3 := by omega
  refine callsIn_of_wp_marks Tryz.func50 rfl trivial ?_ hro
  simp only [Tryz.ntmps50, List.size_toArray, List.length_cons, List.length_nil, Nat.reduceAdd, Nat.reduceSub, Array.replicate_succ, Array.replicate_zero, List.push_toArray, List.append_toArray, List.nil_append, List.cons_append]
  refine wpIn_wide.2 ?_
  go_wp2_with fail
  refine TP.out.mono ?_
  rintro e w1 ⟨rfl, hb1⟩
  have ix := tenIx w1
  have K0 := CS.made w1 _ rfl #[.int .i64 1000000000000] 3
  have hB1 : Below w.heap.size w (w1.alloc (.cells #[.int .i64 1000000000000] 3)) := old_alloc hb1 _
  have hsz1 := hb1.size
  have m0 := K0.cell 0 _ rfl
  have hwc : w1.heap.size < (w1.alloc (.cells #[.int .i64 1000000000000] 3)).heap.size := by simp
  obtain ⟨T0, hT0⟩ : ∃ T0, tenV = T0 := ⟨_, rfl⟩
  rw [hT0] at ix
  rw [hT0]
  clear hT0
  go_wp2_with (generalize hW1 : w1.alloc (.cells #[.int .i64 1000000000000] 3) = W1 at *; fail)
  generalize hW1 : w1.alloc (.cells #[.int .i64 1000000000000] 3) = W1 at *
  refine (C1.out _ hB1).mono ?_
  rintro e w2 ⟨⟨avA, cvA, rfl, hO⟩, hb2⟩
  have hc0 := CutOff.first V
  rw [show (10 : Nat) ^ 12 = 1000000000000 from rfl] at hc0
  obtain ⟨c0, hc0'⟩ : ∃ c0, V % 1000000000000 = c0 := ⟨_, rfl⟩
  have hc1 : V % 1000000000000 < 1000000000000 := Nat.mod_lt _ (by decide)
  rw [hc0'] at hc0 hc1 ⊢
  have hdv : V / 1000000000000 * 10 ^ 1 ≤ V := by omega
  obtain ⟨L0, hL0⟩ : ∃ L0, V / 1000000000000 = L0 := ⟨_, rfl⟩
  have hLn : (natL (V / 1000000000000)).length ≤ 1048576 := Nat.le_trans (natL_le (Nat.div_le_self _ _)) hlen
  rw [hL0] at hc0 hdv hO hLn ⊢
  have m1 := (K0.later hb2).cell 0 _ rfl
  have hsz2 := hb2.size
  have OW0 : (w2.alloc (.cells #[.int .i64 (c0 : Int)] 3)).ownsRow W1.heap.size 3 1 (.slice (some ⟨w2.heap.size, 0, none⟩) 1 1) [(c0 : Int)].length (ic [(c0 : Int)]) := by
    refine ⟨rfl, .inr ⟨w2.heap.size, 1, #[.int .i64 (c0 : Int)], rfl, hb2.size, ?_, Nat.le_refl _, by decide, rfl, rfl⟩⟩
    exact World.alloc_heap_new w2 _
  have hO2 := hO.alloc (.cells #[.int .i64 (c0 : Int)] 3)
  have hB2 : Below W1.heap.size W1 (w2.alloc (.cells #[.int .i64 (c0 : Int)] 3)) := old_alloc hb2 _
  have hsp0 : 0 < (natL L0).length → ∀ q, avA = some q → some q.block ≠ Value.ownBlock (.slice (some ⟨w2.heap.size, 0, none⟩) 1 1) := fun _ q e e2 => by
    have := hO.lt q e
    simp only [Value.ownBlock, Option.some.injEq] at e2
    omega
  clear hO hc0' hL0 hc1 hb2 C1 m0 TP
  go_wp2_with fail
  generalize hW2 : w2.alloc (.cells #[.int .i64 (c0 : Int)] 3) = W2 at *
  go_loopg [4, 6] L0 (fun k s t wr => ∃ (av : Option Addr) (cv : Nat) (cs : List Int), s = .slice av (natL k).length cv ∧ InI wr av (natL k).length cv (natL k) ∧ wr.ownsRow W1.heap.size 3 1 t cs.length (ic cs) ∧ CutOff V k cs ∧ k * 10 ^ cs.length ≤ V ∧ cs.length ≤ 16777217 ∧ (natL k).length ≤ 1048576 ∧ (0 < (natL k).length → ∀ q, av = some q → some q.block ≠ t.ownBlock) ∧ Below W1.heap.size W1 wr)
  case atStart => exact ⟨avA, cvA, [(c0 : Int)], rfl, hO2.inI, OW0, hc0, hdv, by simp, hLn, hsp0, hB2⟩
  case round =>
    clear OW0 hO2 hc0 hdv hLn hsp0 hB2 m1
    obtain ⟨av, cv, cs, rfl, hI, OW, hco, hpw, hcl, hlk, hsp, hB⟩ := hrel
    by_cases hk : gk = 0
    · subst hk
      have e0 : natL 0 = [] := natL_zero
      rw [e0, List.length_nil] at hI
      rw [e0, List.length_nil]
      obtain ⟨cs0, c, rfl, hc, hcs, hdec, -⟩ := hco
      have hdec' := hd (hdec rfl)
      rw [List.length_append, List.length_singleton] at OW hcl
      obtain ⟨g, cp, rfl, -, -⟩ := OW.form (by omega)
      have rc := row_cells OW
      obtain ⟨n0, hn0⟩ : ∃ n0, cs0.length = n0 := ⟨_, rfl⟩
      have hcs' := hd hcs
      have cl := rc.2.2.2 n0 (.int .i64 (c : Int)) (by rw [ic_snoc, ← hn0, show cs0.length = (ic cs0).length by simp [ic], List.getElem?_append_right (Nat.le_refl _), Nat.sub_self]; rfl)
      have IC : Hid (InI wr (some ⟨g, 0, none⟩) n0 cp cs0) := by
        refine ⟨hn0, ?_, rc.2.2.1, fun x hx => ?_, .inr ⟨g, 0, rfl, rc.1, fun i hi => ?_⟩⟩
        · have := rc.2.1; omega
        · obtain ⟨i, hi, rfl⟩ := List.getElem_of_mem hx
          have h9 := hcs i hi
          rw [List.getD_eq_getElem?_getD, List.getElem?_eq_getElem hi] at h9
          simp only [Option.getD_some] at h9
          omega
        · rw [Nat.zero_add]
          refine rc.2.2.2 i _ ?_
          rw [ic_snoc, List.getElem?_append_left (by simp [ic]; omega)]
          unfold ic
          rw [List.getElem?_map, List.getD_eq_getElem?_getD, List.getElem?_eq_getElem (by omega)]; rfl
      rw [hn0] at OW hcl rc
      rw [hn0]
      have hc63 : c ≤ 9223372036854775807 := by omega
      have ncap : n0 + 1 ≤ cp := rc.2.1
      have hnc : (n0 : Int) ≤ (cp : Int) := by omega
      have hn9 : (n0 : Int) ≤ 16777217 := by omega
      have hgl : g < wr.heap.size := rc.1
      have mwr := (K0.later hB).cell 0 _ rfl
      have h1l := (K0.later hB).lt
      clear hdec hcs hpw hlk hsp OW hI e0 rc
      have bw : Below wr.heap.size wr (wr.alloc (.cells #[.pointer none, .slice none 0 0] 114)) := old_alloc (Below.refl _ _) _
      have hBb : Below W1.heap.size W1 (wr.alloc (.cells #[.pointer none, .slice none 0 0] 114)) := old_alloc hB _
      have c3 := (bw.cell (p := ⟨g, n0, none⟩) hgl).trans cl
      have BU0 : Lib.BuilderAtF 114 5 wr.heap.size wr.heap.size (.pointer none) [] (wr.alloc (.cells #[.pointer none, .slice none 0 0] 114)) := ⟨Nat.le_refl _, .slice none 0 0, World.alloc_heap_new wr _, nilRowF _ _, by simp [Value.ownBlock]⟩
      have TB := hT'.out.old (old_trans hB1 hBb)
      generalize hWb : wr.alloc (.cells #[.pointer none, .slice none 0 0] 114) = Wb at *
      have hwb : wr.heap.size + 1 = Wb.heap.size := by rw [← hWb]; simp
      go_wp2_with fail
      refine (iItoa c hc63 _ TB).mono ?_
      rintro e w4 ⟨rfl, hb4⟩
      have BU4 := BuilderAtF.later BU0 hb4
      have hs4 := hb4.size
      have hdl := dec_len hc63
      have W4 := hd (bWrite wr.heap.size wr.heap.size [] ⟨(decDigits c).toArray⟩ w4 (.inl BU4) (by show 0 + (decDigits c).length ≤ _; omega) (by omega))
      rw [List.nil_append, strC] at W4
      go_wp2_with fail
      refine W4.out.mono ?_
      rintro e w5 ⟨rfl, BU5, hb5, ho5⟩
      go_wp2_with fail
      refine (callsIn_wide.1 (top_in Fence.wide 2 trivial hro _ _ _ _)).mono ?_
      rintro e w6 ⟨rfl, rfl⟩
      go_wp2_with fail
      refine (wpIn_wide (n := 3)).1 ?_
      have hs5 := hb5.size
      have B5 : Below wr.heap.size wr w5 := ((old_trans bw hb4)).trans hb5
      have B6 : Below wr.heap.size wr (w5.alloc (.cells #[.slice (some ⟨g, 0, none⟩) n0 cp] 47)) := old_alloc B5 _
      have I6 := hd (IC.out.old B6)
      have H6 : (w5.alloc (.cells #[.slice (some ⟨g, 0, none⟩) n0 cp] 47)).heap[w5.heap.size]? = some (.cells #[.slice (some ⟨g, 0, none⟩) n0 cp] 47 (0, 0)) := World.alloc_heap_new w5 _
      have BU6 := BU5.alloc (.cells #[.slice (some ⟨g, 0, none⟩) n0 cp] 47)
      have hs6 : (w5.alloc (.cells #[.slice (some ⟨g, 0, none⟩) n0 cp] 47)).heap.size = w5.heap.size + 1 := by simp
      have c6 : (w5.alloc (.cells #[.slice (some ⟨g, 0, none⟩) n0 cp] 47)).cell? ⟨w5.heap.size, 0, none⟩ = some (.slice (some ⟨g, 0, none⟩) n0 cp) := by rw [Lib.cell_of_heap H6]; rfl
      generalize hW6 : w5.alloc (.cells #[.slice (some ⟨g, 0, none⟩) n0 cp] 47) = W6 at *
      refine wpIn_rangeFunc_ownF hro h1 (gf := 95) (lb := #[.pointer (some ⟨w5.heap.size, 0, none⟩)]) rfl trivial (enters_of Tryz.func95 (by kernel_rfl) rfl)
        (top_stop Fence.wide (3 - 1) trivial hro (by omega) w5.heap.size n0 cp (KeepP w5.heap.size (some ⟨g, 0, none⟩) n0) (some ⟨g, 0, none⟩) cs0 W6 (by omega) (.inl rfl) c6 I6.out keepP_at) (fun h k => Same.trans h k) (same_b (n := w5.heap.size + 1) (keepP_lt (by omega) (fun h q e => by injection e with e; subst e; show g < _; omega)) (by omega)) (Below.refl _ _) (fun _ => rfl)
        (fun pre W => (W.heap[w5.heap.size]? = some (.cells #[.slice (some ⟨g, 0, none⟩) n0 cp] 47 (0, 0)) ∧ Lib.BuilderAtF 114 5 wr.heap.size wr.heap.size (.pointer (some ⟨wr.heap.size, 0, none⟩)) (byteCells (decDigits c ++ grp cs0 pre)) W) ∧ w5.heap.size + 1 ≤ W.heap.size ∧ Below wr.heap.size wr W)
        (fun c pre W => False)
        (OwnFrom.and (Own.from (fun s A B row hs hg hr => ⟨heap_kept hs.1 hg hr, BuilderAtF.turned hs.2 hg hr⟩) _) (OwnFrom.and (fun s A B row hs hg hr => Nat.le_trans hs hg.size) (ownFrom_below (Nat.le_refl _) (by omega))))
        (fun c s A B row hs hg hr => hs.elim)
        ⟨⟨H6, by rw [show grp cs0 ([] : List (Fin n0)) = [] from rfl, List.append_nil]; exact BU6⟩, by omega, B6⟩
        (fun x => { tmps := #[.slice a (natL V).length cap, undef, .string ⟨#[]⟩, .pointer (some ⟨w1.heap.size, 0, none⟩), .slice av 0 cv, u5, .slice (some ⟨g, 0, none⟩) (n0 + 1) cp, .pointer (some ⟨wr.heap.size, 0, none⟩), .int .i64 (n0 : Int), undef, .int .i64 (cs0.getD x.val 0), T0, .int .i64 1000000000000, .tuple #[.slice avA (natL L0).length cvA, .int .i64 (c0 : Int)], .slice a (natL V).length cap, .int .i64 1000000000000, .tuple #[.slice avA (natL L0).length cvA, .int .i64 (c0 : Int)], .slice avA (natL L0).length cvA, .int .i64 (c0 : Int), .int .i64 (c0 : Int), .slice (some ⟨w2.heap.size, 0, none⟩) 1 1, .slice av 0 cv, .int .i64 0, .bool false, u24, u25, u26, u27, u28, u29, u30, u31, u32, u33, .slice (some ⟨g, 0, none⟩) (n0 + 1) cp, .int .i64 ((n0 : Int) + 1), .int .i64 (n0 : Int), .slice (some ⟨g, 0, none⟩) (n0 + 1) cp, .int .i64 (n0 : Int), .pointer (some ⟨g, n0, none⟩), .int .i64 (c : Int), .string ⟨(decDigits c).toArray⟩, .tuple #[.int .i64 ((decDigits c).length : Int), .nilIface], .slice (some ⟨g, 0, none⟩) (n0 + 1) cp, .int .i64 (n0 : Int), .slice (some ⟨g, 0, none⟩) n0 cp, .func (.func 95) #[] #[.pointer (some ⟨w5.heap.size, 0, none⟩)], .int .i64 (x.val : Int), .int .i64 (cs0.getD x.val 0), undef, undef, undef, undef, undef, undef, undef], defers := [] }) ?assign ?body ?done ?stop
      case assign =>
        intro l x W K hK
        generalize cs0.getD x.val 0 = y at *
        gi_wp2
        exact hK
      case body =>
        rintro l pre x W ⟨⟨hd0, BU⟩, hsW, hBw⟩ hpl
        have hy0 := hcs'.out x.val (by rw [hn0]; exact x.isLt)
        have hgl9 : (grp cs0 pre).length ≤ 21 * pre.length := by subst hn0; exact grp_len hcs'.out pre
        have hsn := hd (grp_snoc cs0 pre x)
        generalize hyy : cs0.getD x.val 0 = y at *
        obtain ⟨r, rfl⟩ := Int.eq_ofNat_of_zero_le hy0.1
        rw [Int.toNat_natCast] at hsn
        have mW := (hBw.cell (p := ⟨w1.heap.size, 0, none⟩) h1l).trans mwr
        have TW := hT'.out.old (old_trans (old_trans hB1 hB) hBw)
        have I9 := hd (iItoa (1000000000000 + r) (by omega) W TW)
        have e9 : ((1000000000000 + r : Nat) : Int) = 1000000000000 + (r : Int) := by omega
        rw [e9] at I9
        have S1 := sl1 (decDigits (1000000000000 + r)) (dec_ne _)
        have hpd : (decDigits (1000000000000 + r)).tail = pad 12 r := rfl
        rw [hpd] at S1
        have hpl12 : (pad 12 r).length ≤ 21 := pad_len (by omega)
        have hrI : (r : Int) < 1000000000000 := by omega
        have hsz9 := hBw.size
        clear hpd e9 hyy TW
        generalize decDigits (1000000000000 + r) = dg1 at *
        gi_wp2_with fail
        refine ⟨trivial, (CallsIn.inRound l (callsIn_wide.2 I9.out)).mono ?_⟩
        rintro e w7 ⟨rfl, hb7⟩
        have BU7 := BuilderAtF.later BU hb7
        have hs7 := hb7.size
        have W8 := hd (bWrite wr.heap.size wr.heap.size _ ⟨(pad 12 r).toArray⟩ w7 (.inr BU7) (by rw [bC_len, List.length_append]; show _ + (pad 12 r).length ≤ _; omega) (by omega))
        rw [strC, ← bC_append, List.append_assoc, ← hsn.out] at W8
        gi_wp2_with fail
        refine ⟨trivial, (CallsIn.inRound l (callsIn_wide.2 W8.out)).mono ?_⟩
        rintro e w8 ⟨rfl, BU8, hb8, ho8⟩
        have hd7 := (hb7.block w5.heap.size (by omega)).trans hd0
        have hd8 := ho8 _ _ hd7 (by intro e; injection e with e; omega) (fun c fz e => by injection e with e1 e2 e3; exact absurd e2 (by decide))
        obtain ⟨-, v7, hb7k, -, -⟩ := BU7
        have hs8 := hb8.size
        have PP : Hid (ownPostK (Same (KeepP w5.heap.size (some ⟨g, 0, none⟩) n0)) (fun (pre : List (Fin n0)) W => (W.heap[w5.heap.size]? = some (.cells #[.slice (some ⟨g, 0, none⟩) n0 cp] 47 (0, 0)) ∧ Lib.BuilderAtF 114 5 wr.heap.size wr.heap.size (.pointer (some ⟨wr.heap.size, 0, none⟩)) (byteCells (decDigits c ++ grp cs0 pre)) W) ∧ w5.heap.size + 1 ≤ W.heap.size ∧ Below wr.heap.size wr W) (fun c pre W => False) (pre ++ [x]) W Exit.normal { tmps := #[], defers := [] } w8) := by
          refine ⟨KeepsOthers.trans (KeepsOthers.of_below hb7 (Nat.le_refl _)) (others_keep ho8 hs8 hb7k), ⟨by omega, fun k hk hl => ?_⟩, ⟨hd8, BU8⟩, by omega, (hBw.trans (hb7.mono (by omega))).trans hb8⟩
          rcases hk with rfl | ⟨_, q, e, rfl⟩
          · exact hd8.trans hd0.symm
          · injection e with e
            subst e
            exact (hb8.block g hgl).trans (hb7.block g (by omega))
        clear BU BU8 hd0 hd7 hd8 hb7k ho8 hb8 hsn W8 I9
        gi_wp2
        exact PP.out
      case done =>
        rintro D ys W hD hys ⟨⟨hd0, BU⟩, hsW, hBw⟩ hK
        have hgy : grp cs0 ys = grps cs0 := by subst hn0; exact grp_all hys
        rw [hgy, ← hdec'.out] at BU
        have hsz9 := hBw.size
        have ST := hd (sh_Builder_String_any_k wr.heap.size wr.heap.size (decDigits V) W (.inr BU) (by omega))
        clear BU hd0 hys hgy
        go_wp2_with fail
        refine ST.out.mono ?_
        rintro e w9 ⟨rfl, -, hb9, ho9⟩
        have hK9 := ho9 D _ hK (by intro e; injection e with e; omega) (fun c fz e => by cases e)
        have hsB := hB.size
        have hsB1 := hB1.size
        clear ST ho9 hK
        go_wp2
        refine ⟨by simp, .inl ⟨_, _, rfl, run_takeDeferred hK9, ?_⟩⟩
        refine ⟨.string ⟨(decDigits V).toArray⟩, ?_, rfl, ?_⟩
        · simp [results, Tryz.f50, go_sem]
        · exact ((old_trans (old_trans hB1 hB) hBw).trans (hb9.mono (by omega))).trans (belowK_b (w := w) (Nat.le_refl _) _ D _ _ (by omega) hK9 rfl rfl)
      case stop =>
        rintro D c pre W hD _ h hK
        exact h.elim
    · have hkp : 0 < (natL gk).length := natL_length_pos (by omega)
      have D := hd (iCutSmall av _ cv (natL gk) 1000000000000 wr hI (digs_natL gk) (by decide) (by decide) hlk)
      rw [val_natL] at D
      have hcn := hd (hco.next hk)
      rw [show (10 : Nat) ^ 12 = 1000000000000 from rfl] at hcn
      have hq9 : gk / 1000000000000 < gk := by omega
      have hsp' := hd (step12 hpw)
      have hlm := pow_lt hpw hk hVp.out
      have hlq : (natL (gk / 1000000000000)).length ≤ 1048576 := Nat.le_trans (natL_le (Nat.div_le_self _ _)) hlk
      have hpi : (0 : Int) < ((natL gk).length : Int) := by omega
      obtain ⟨r, hr⟩ : ∃ r, gk % 1000000000000 = r := ⟨_, rfl⟩
      obtain ⟨q, hq⟩ : ∃ q, gk / 1000000000000 = q := ⟨_, rfl⟩
      rw [hr, hq] at D hcn
      rw [hq] at hq9 hsp' hlq
      have hq9' := hd hq9
      have m9 := (K0.later hB).cell 0 _ rfl
      clear hr hq hq9 hpw hlk hk hco
      go_wp2_with fail
      refine D.out.mono ?_
      rintro e w3 ⟨⟨avq, cvq, rfl, hOq⟩, hb3⟩
      have OW3 := later_row (later_row OW hb3) (old_alloc (Below.refl _ _) (.cells #[.int .i64 (r : Int)] 3) : Below w3.heap.size w3 (w3.alloc (.cells #[.int .i64 (r : Int)] 3)))
      have hB4 : Below W1.heap.size W1 (w3.alloc (.cells #[.int .i64 (r : Int)] 3)) := old_alloc (old_trans hB hb3) _
      have hO4 := hOq.alloc (.cells #[.int .i64 (r : Int)] 3)
      have hlt3 := OW.lt
      have hsz3 := hb3.size
      have hszB := hB.size
      clear OW
      go_wp2_with (at_builtin; refine wpList_append_lies _ (by rfl) _ _ 22 (by rfl) W1.heap.size 3 i0 _ 1 8 Tryz.underlying22 hi hz0 hz1 hz2 rfl (by decide) _ _ _ (by rfl) OW3 ⟨_, 0, none⟩ 1 1 [.int .i64 (r : Int)] (by rfl) rfl (cells_one _ _ rfl _ _) (by simp [Value.oneCell']) (by decide) (by unfold maxLen; omega) (by omega) (by simp; omega) _ rfl ?_; intro g' cap' w5 hown hgrow hat5 hlt5)
      go_wp2
      go_roundg q
      case measure => exact hq9'.out
      case rel =>
        refine ⟨avq, cvq, cs ++ [(r : Int)], rfl, hO4.inI.kept hgrow (fun _ q' e e2 => ?_), ?_, hcn.out, ?_, ?_, hlq, fun _ q' e e2 => ?_, hB4.grown hgrow hB4.size (fun q' e => (hlt3 q' e).1)⟩
        · have h1 := hOq.ge q' e
          have h2 := (hlt3 _ e2.symm).2
          omega
        · rw [ic_snoc, List.length_append, List.length_singleton]; exact hown
        · rw [List.length_append, List.length_singleton]; exact hsp'.out
        · rw [List.length_append, List.length_singleton]; omega
        · have h1 := hOq.ge q' e
          have h3 := hOq.lt q' e
          simp only [Value.ownBlock, Option.some.injEq] at e2
          rcases hat5 with h | h
          · have h2 := (hlt3 _ h).2
            omega
          · rw [World.size_alloc] at h
            omega
end Go.Proofs.YtlfaiekcmflgnaaGreatDoor
