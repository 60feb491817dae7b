/- Spans: what is reckoned is what the table's row says, for each operation of this seat's laws. Nothing that was there is written, if the row writes nothing. -/
import Derived.Test.YtpjagplloljefaaGreatS4
import Derived.Deep.WholeRow
import Derived.Great.Walk
namespace Go.Proofs.YtpjagplloljefaaGreat
open Go.RowKit
set_option linter.unusedVariables false
set_option maxRecDepth 100000

theorem st_func (P : Program) (w : World) (a : Addr) (m : Mode) (fn : Fn) (first captured : Array Value) : (store a (.func fn first captured) m).run P w = stored P w a (.func fn first captured) m := run_store P w a _ m rfl
attribute [local go_sem] st_func
def rkTab (T : TypeId) (v : Value) (t : Int) : Array Value := #[.int .i64 0, .func (.func 65) #[.agg #[.iface T v, .int .i64 t]] #[], .int .i64 1, .func (.func 66) #[.agg #[.iface T v, .int .i64 t]] #[], .int .i64 2, .func (.func 67) #[.agg #[.iface T v, .int .i64 t]] #[], .int .i64 3, .func (.func 68) #[.agg #[.iface T v, .int .i64 t]] #[], .int .i64 4, .func (.func 69) #[.agg #[.iface T v, .int .i64 t]] #[], .int .i64 5, .func (.func 70) #[.agg #[.iface T v, .int .i64 t]] #[], .int .i64 6, .func (.func 71) #[.agg #[.iface T v, .int .i64 t]] #[], .int .i64 7, .func (.func 72) #[.agg #[.iface T v, .int .i64 t]] #[], .int .i64 8, .func (.func 73) #[.agg #[.iface T v, .int .i64 t]] #[], .int .i64 9, .func (.func 74) #[.agg #[.iface T v, .int .i64 t]] #[], .int .i64 10, .func (.func 75) #[.agg #[.iface T v, .int .i64 t]] #[], .int .i64 11, .func (.func 76) #[.agg #[.iface T v, .int .i64 t]] #[]]
def rkZero : Array Value := #[.int .i64 0, .nilFunc, .int .i64 0, .nilFunc, .int .i64 0, .nilFunc, .int .i64 0, .nilFunc, .int .i64 0, .nilFunc, .int .i64 0, .nilFunc, .int .i64 0, .nilFunc, .int .i64 0, .nilFunc, .int .i64 0, .nilFunc, .int .i64 0, .nilFunc, .int .i64 0, .nilFunc, .int .i64 0, .nilFunc]
theorem rk_one (T : TypeId) (v : Value) (t : Int) : ((rkTab T v t).all fun x => x.oneCell') = true := by simp [rkTab, Value.oneCell']
theorem wpList_storeRow {P : Program} {ops : Array Oper} {rest : List Oper} {o : Oper} {a : Act} {w : World} {Q : Exit → Act → World → Prop} (hg : o.guard = none) (hd : o.dst = none) (t : TypeId) (p x : Operand) (ho : o.op = .store t p x)
    (W : World) (c c' : Array Value) (hw : w = W.alloc (.cells c t)) (N : Nat) (hN : W.heap.size = N) (hp : a.eval p = .pointer (some ⟨N, 0, none⟩)) (hx : a.eval x = .agg c') (hi : (P.info? t).map (·.size) = some c'.size) (hs : c.size = c'.size) (h1 : c'.all (·.oneCell') = true)
    (h : wpList P ops Q rest a (W.alloc (.cells c' t))) : wpList P ops Q (o :: rest) a w := by
  subst hw hN
  refine wpList_plain hg fun K hK => ?_
  unfold Oper.wp execOp
  rw [ho]
  show Oper.upon P o a K Q ((Instr.storeAt t (a.eval p) (a.eval x) >>= fun _ => pure Next.skip).run P _)
  rw [hp, hx, Sem.run_bind, run_storeAt_new W t c c' hi hs h1]
  show Oper.upon P o a K Q (.ok Next.skip _)
  have e : a.put o.dst undef = a := by rw [hd]; rfl
  rw [Oper.upon_skip, e]
  exact hK _ _ h
theorem wpList_loadRow {P : Program} {ops : Array Oper} {rest : List Oper} {o : Oper} {a : Act} {w : World} {Q : Exit → Act → World → Prop} (hg : o.guard = none) (dst : Option Tmp) (hd : o.dst = dst) (t : TypeId) (p : Operand) (ho : o.op = .load t p)
    (W : World) (c : Array Value) (hw : w = W.alloc (.cells c t)) (N : Nat) (hN : W.heap.size = N) (hp : a.eval p = .pointer (some ⟨N, 0, none⟩)) (k : Nat) (e : TypeId) (hu : P.underlying t = some (.array k e)) (hi : (P.info? t).map (·.size) = some c.size)
    (h : wpList P ops Q rest (a.put dst (.agg c)) (W.alloc (.cells c t))) : wpList P ops Q (o :: rest) a w := by
  subst hw hN
  refine Go.Great.wpList_runTo hg dst hd (.agg c) _ ?_ h
  unfold execOp
  rw [ho]
  show (Instr.loadAt t (a.eval p) >>= fun _ => _).run P _ = _
  rw [hp, Sem.run_bind, run_loadAt_new W t c k e hu hi]
  rfl
theorem rkIdx0 (T : TypeId) (v : Value) (t : Int) (w : World) : (Instr.index 94 (.agg (rkTab T v t)) (.int .i64 0)).run Tryz.prog w = .ok (.agg #[.int .i64 0, .func (.func 65) #[.agg #[.iface T v, .int .i64 t]] #[]]) w := by kernel_rfl
theorem rkIdx1 (T : TypeId) (v : Value) (t : Int) (w : World) : (Instr.index 94 (.agg (rkTab T v t)) (.int .i64 1)).run Tryz.prog w = .ok (.agg #[.int .i64 1, .func (.func 66) #[.agg #[.iface T v, .int .i64 t]] #[]]) w := by kernel_rfl
theorem rkIdx2 (T : TypeId) (v : Value) (t : Int) (w : World) : (Instr.index 94 (.agg (rkTab T v t)) (.int .i64 2)).run Tryz.prog w = .ok (.agg #[.int .i64 2, .func (.func 67) #[.agg #[.iface T v, .int .i64 t]] #[]]) w := by kernel_rfl
theorem rkIdx3 (T : TypeId) (v : Value) (t : Int) (w : World) : (Instr.index 94 (.agg (rkTab T v t)) (.int .i64 3)).run Tryz.prog w = .ok (.agg #[.int .i64 3, .func (.func 68) #[.agg #[.iface T v, .int .i64 t]] #[]]) w := by kernel_rfl
theorem rkIdx4 (T : TypeId) (v : Value) (t : Int) (w : World) : (Instr.index 94 (.agg (rkTab T v t)) (.int .i64 4)).run Tryz.prog w = .ok (.agg #[.int .i64 4, .func (.func 69) #[.agg #[.iface T v, .int .i64 t]] #[]]) w := by kernel_rfl
set_option maxHeartbeats 4000000 in
theorem iReck0 (T : TypeId) (v : Value) (t a b c d n : Int) (w : World) (Q : Value → World → Prop)
    (H : ∀ w, Calls Tryz.prog 65 #[.agg #[.iface T v, .int .i64 t], .agg #[.int .i64 a, .int .i64 b, .int .i64 c, .int .i64 d, .int .i64 n]] w fun e w' => (∃ x, e = .returned x ∧ Q x w') ∧ Below w.heap.size w w') :
    Calls Tryz.prog 58 #[.agg #[.iface T v, .int .i64 t], .int .i64 0, .agg #[.int .i64 a, .int .i64 b, .int .i64 c, .int .i64 d, .int .i64 n]] w fun e w' => (∃ x, e = .returned x ∧ Q x w') ∧ Below w.heap.size w w' := by
  replace H := hd H
  have hz : ((w.alloc (.cells #[.iface T v, .int .i64 t] 71)).alloc (.cells #[.int .i64 a, .int .i64 b, .int .i64 c, .int .i64 d, .int .i64 n] 76)).heap.size = w.heap.size + 1 + 1 := by simp
  go_enter Tryz.func58, Tryz.ntmps58
  go_upto_region 1 with fail
  go_cut [7] (fun s wx => s = .pointer (some ⟨w.heap.size + 1 + 1, 0, none⟩) ∧ wx = ((w.alloc (.cells #[.iface T v, .int .i64 t] 71)).alloc (.cells #[.int .i64 a, .int .i64 b, .int .i64 c, .int .i64 d, .int .i64 n] 76)).alloc (.cells (rkTab T v t) 94))
  case first =>
    go_wp2_with (refine wpList_storeRow rfl rfl 94 _ _ rfl ((w.alloc (.cells #[.iface T v, .int .i64 t] 71)).alloc (.cells #[.int .i64 a, .int .i64 b, .int .i64 c, .int .i64 d, .int .i64 n] 76)) rkZero (rkTab T v t) rfl (w.heap.size + 1 + 1) hz rfl rfl (by kernel_rfl) (by kernel_rfl) (rk_one T v t) ?_)
    go_meet
    exact ⟨rfl, rfl⟩
  case rest =>
    obtain ⟨rfl, rfl⟩ := hcut
    have i0 := rkIdx0 T v t
    go_wp2_with (refine wpList_loadRow rfl (some 47) rfl 94 _ rfl ((w.alloc (.cells #[.iface T v, .int .i64 t] 71)).alloc (.cells #[.int .i64 a, .int .i64 b, .int .i64 c, .int .i64 d, .int .i64 n] 76)) (rkTab T v t) rfl (w.heap.size + 1 + 1) hz rfl 12 93 (by kernel_rfl) (by kernel_rfl) ?_)
    refine wp_loop_rounds 1 ?_
    rw [rounds_succ]
    go_wp2_with fail
    refine (H.out _).mono ?_
    rintro e w1 ⟨⟨x, rfl, hx⟩, hb1⟩
    go_wp2
    go_ret
    exact ⟨⟨_, rfl, hx⟩, (by repeat (first | exact Below.refl _ _ | refine Below.drew ?_ | refine old_alloc ?_ _ | refine old_trans ?_ (by assumption)))⟩
set_option maxHeartbeats 4000000 in
theorem iReck1 (T : TypeId) (v : Value) (t a b c d n : Int) (w : World) (Q : Value → World → Prop)
    (H : ∀ w, Calls Tryz.prog 66 #[.agg #[.iface T v, .int .i64 t], .agg #[.int .i64 a, .int .i64 b, .int .i64 c, .int .i64 d, .int .i64 n]] w fun e w' => (∃ x, e = .returned x ∧ Q x w') ∧ Below w.heap.size w w') :
    Calls Tryz.prog 58 #[.agg #[.iface T v, .int .i64 t], .int .i64 1, .agg #[.int .i64 a, .int .i64 b, .int .i64 c, .int .i64 d, .int .i64 n]] w fun e w' => (∃ x, e = .returned x ∧ Q x w') ∧ Below w.heap.size w w' := by
  replace H := hd H
  have hz : ((w.alloc (.cells #[.iface T v, .int .i64 t] 71)).alloc (.cells #[.int .i64 a, .int .i64 b, .int .i64 c, .int .i64 d, .int .i64 n] 76)).heap.size = w.heap.size + 1 + 1 := by simp
  go_enter Tryz.func58, Tryz.ntmps58
  go_upto_region 1 with fail
  go_cut [7] (fun s wx => s = .pointer (some ⟨w.heap.size + 1 + 1, 0, none⟩) ∧ wx = ((w.alloc (.cells #[.iface T v, .int .i64 t] 71)).alloc (.cells #[.int .i64 a, .int .i64 b, .int .i64 c, .int .i64 d, .int .i64 n] 76)).alloc (.cells (rkTab T v t) 94))
  case first =>
    go_wp2_with (refine wpList_storeRow rfl rfl 94 _ _ rfl ((w.alloc (.cells #[.iface T v, .int .i64 t] 71)).alloc (.cells #[.int .i64 a, .int .i64 b, .int .i64 c, .int .i64 d, .int .i64 n] 76)) rkZero (rkTab T v t) rfl (w.heap.size + 1 + 1) hz rfl rfl (by kernel_rfl) (by kernel_rfl) (rk_one T v t) ?_)
    go_meet
    exact ⟨rfl, rfl⟩
  case rest =>
    obtain ⟨rfl, rfl⟩ := hcut
    have i0 := rkIdx0 T v t
    have i1 := rkIdx1 T v t
    go_wp2_with (refine wpList_loadRow rfl (some 47) rfl 94 _ rfl ((w.alloc (.cells #[.iface T v, .int .i64 t] 71)).alloc (.cells #[.int .i64 a, .int .i64 b, .int .i64 c, .int .i64 d, .int .i64 n] 76)) (rkTab T v t) rfl (w.heap.size + 1 + 1) hz rfl 12 93 (by kernel_rfl) (by kernel_rfl) ?_)
    refine wp_loop_rounds 2 ?_
    rw [rounds_succ]
    go_wp2_with fail
    rw [rounds_succ]
    go_wp2_with fail
    refine (H.out _).mono ?_
    rintro e w1 ⟨⟨x, rfl, hx⟩, hb1⟩
    go_wp2
    go_ret
    exact ⟨⟨_, rfl, hx⟩, (by repeat (first | exact Below.refl _ _ | refine Below.drew ?_ | refine old_alloc ?_ _ | refine old_trans ?_ (by assumption)))⟩
set_option maxHeartbeats 4000000 in
theorem iReck2 (T : TypeId) (v : Value) (t a b c d n : Int) (w : World) (Q : Value → World → Prop)
    (H : ∀ w, Calls Tryz.prog 67 #[.agg #[.iface T v, .int .i64 t], .agg #[.int .i64 a, .int .i64 b, .int .i64 c, .int .i64 d, .int .i64 n]] w fun e w' => (∃ x, e = .returned x ∧ Q x w') ∧ Below w.heap.size w w') :
    Calls Tryz.prog 58 #[.agg #[.iface T v, .int .i64 t], .int .i64 2, .agg #[.int .i64 a, .int .i64 b, .int .i64 c, .int .i64 d, .int .i64 n]] w fun e w' => (∃ x, e = .returned x ∧ Q x w') ∧ Below w.heap.size w w' := by
  replace H := hd H
  have hz : ((w.alloc (.cells #[.iface T v, .int .i64 t] 71)).alloc (.cells #[.int .i64 a, .int .i64 b, .int .i64 c, .int .i64 d, .int .i64 n] 76)).heap.size = w.heap.size + 1 + 1 := by simp
  go_enter Tryz.func58, Tryz.ntmps58
  go_upto_region 1 with fail
  go_cut [7] (fun s wx => s = .pointer (some ⟨w.heap.size + 1 + 1, 0, none⟩) ∧ wx = ((w.alloc (.cells #[.iface T v, .int .i64 t] 71)).alloc (.cells #[.int .i64 a, .int .i64 b, .int .i64 c, .int .i64 d, .int .i64 n] 76)).alloc (.cells (rkTab T v t) 94))
  case first =>
    go_wp2_with (refine wpList_storeRow rfl rfl 94 _ _ rfl ((w.alloc (.cells #[.iface T v, .int .i64 t] 71)).alloc (.cells #[.int .i64 a, .int .i64 b, .int .i64 c, .int .i64 d, .int .i64 n] 76)) rkZero (rkTab T v t) rfl (w.heap.size + 1 + 1) hz rfl rfl (by kernel_rfl) (by kernel_rfl) (rk_one T v t) ?_)
    go_meet
    exact ⟨rfl, rfl⟩
  case rest =>
    obtain ⟨rfl, rfl⟩ := hcut
    have i0 := rkIdx0 T v t
    have i1 := rkIdx1 T v t
    have i2 := rkIdx2 T v t
    go_wp2_with (refine wpList_loadRow rfl (some 47) rfl 94 _ rfl ((w.alloc (.cells #[.iface T v, .int .i64 t] 71)).alloc (.cells #[.int .i64 a, .int .i64 b, .int .i64 c, .int .i64 d, .int .i64 n] 76)) (rkTab T v t) rfl (w.heap.size + 1 + 1) hz rfl 12 93 (by kernel_rfl) (by kernel_rfl) ?_)
    refine wp_loop_rounds 3 ?_
    rw [rounds_succ]
    go_wp2_with fail
    rw [rounds_succ]
    go_wp2_with fail
    rw [rounds_succ]
    go_wp2_with fail
    refine (H.out _).mono ?_
    rintro e w1 ⟨⟨x, rfl, hx⟩, hb1⟩
    go_wp2
    go_ret
    exact ⟨⟨_, rfl, hx⟩, (by repeat (first | exact Below.refl _ _ | refine Below.drew ?_ | refine old_alloc ?_ _ | refine old_trans ?_ (by assumption)))⟩
set_option maxHeartbeats 4000000 in
theorem iReck3 (T : TypeId) (v : Value) (t a b c d n : Int) (w : World) (Q : Value → World → Prop)
    (H : ∀ w, Calls Tryz.prog 68 #[.agg #[.iface T v, .int .i64 t], .agg #[.int .i64 a, .int .i64 b, .int .i64 c, .int .i64 d, .int .i64 n]] w fun e w' => (∃ x, e = .returned x ∧ Q x w') ∧ Below w.heap.size w w') :
    Calls Tryz.prog 58 #[.agg #[.iface T v, .int .i64 t], .int .i64 3, .agg #[.int .i64 a, .int .i64 b, .int .i64 c, .int .i64 d, .int .i64 n]] w fun e w' => (∃ x, e = .returned x ∧ Q x w') ∧ Below w.heap.size w w' := by
  replace H := hd H
  have hz : ((w.alloc (.cells #[.iface T v, .int .i64 t] 71)).alloc (.cells #[.int .i64 a, .int .i64 b, .int .i64 c, .int .i64 d, .int .i64 n] 76)).heap.size = w.heap.size + 1 + 1 := by simp
  go_enter Tryz.func58, Tryz.ntmps58
  go_upto_region 1 with fail
  go_cut [7] (fun s wx => s = .pointer (some ⟨w.heap.size + 1 + 1, 0, none⟩) ∧ wx = ((w.alloc (.cells #[.iface T v, .int .i64 t] 71)).alloc (.cells #[.int .i64 a, .int .i64 b, .int .i64 c, .int .i64 d, .int .i64 n] 76)).alloc (.cells (rkTab T v t) 94))
  case first =>
    go_wp2_with (refine wpList_storeRow rfl rfl 94 _ _ rfl ((w.alloc (.cells #[.iface T v, .int .i64 t] 71)).alloc (.cells #[.int .i64 a, .int .i64 b, .int .i64 c, .int .i64 d, .int .i64 n] 76)) rkZero (rkTab T v t) rfl (w.heap.size + 1 + 1) hz rfl rfl (by kernel_rfl) (by kernel_rfl) (rk_one T v t) ?_)
    go_meet
    exact ⟨rfl, rfl⟩
  case rest =>
    obtain ⟨rfl, rfl⟩ := hcut
    have i0 := rkIdx0 T v t
    have i1 := rkIdx1 T v t
    have i2 := rkIdx2 T v t
    have i3 := rkIdx3 T v t
    go_wp2_with (refine wpList_loadRow rfl (some 47) rfl 94 _ rfl ((w.alloc (.cells #[.iface T v, .int .i64 t] 71)).alloc (.cells #[.int .i64 a, .int .i64 b, .int .i64 c, .int .i64 d, .int .i64 n] 76)) (rkTab T v t) rfl (w.heap.size + 1 + 1) hz rfl 12 93 (by kernel_rfl) (by kernel_rfl) ?_)
    refine wp_loop_rounds 4 ?_
    rw [rounds_succ]
    go_wp2_with fail
    rw [rounds_succ]
    go_wp2_with fail
    rw [rounds_succ]
    go_wp2_with fail
    rw [rounds_succ]
    go_wp2_with fail
    refine (H.out _).mono ?_
    rintro e w1 ⟨⟨x, rfl, hx⟩, hb1⟩
    go_wp2
    go_ret
    exact ⟨⟨_, rfl, hx⟩, (by repeat (first | exact Below.refl _ _ | refine Below.drew ?_ | refine old_alloc ?_ _ | refine old_trans ?_ (by assumption)))⟩
set_option maxHeartbeats 4000000 in
theorem iReck4 (T : TypeId) (v : Value) (t a b c d n : Int) (w : World) (Q : Value → World → Prop)
    (H : ∀ w, Calls Tryz.prog 69 #[.agg #[.iface T v, .int .i64 t], .agg #[.int .i64 a, .int .i64 b, .int .i64 c, .int .i64 d, .int .i64 n]] w fun e w' => (∃ x, e = .returned x ∧ Q x w') ∧ Below w.heap.size w w') :
    Calls Tryz.prog 58 #[.agg #[.iface T v, .int .i64 t], .int .i64 4, .agg #[.int .i64 a, .int .i64 b, .int .i64 c, .int .i64 d, .int .i64 n]] w fun e w' => (∃ x, e = .returned x ∧ Q x w') ∧ Below w.heap.size w w' := by
  replace H := hd H
  have hz : ((w.alloc (.cells #[.iface T v, .int .i64 t] 71)).alloc (.cells #[.int .i64 a, .int .i64 b, .int .i64 c, .int .i64 d, .int .i64 n] 76)).heap.size = w.heap.size + 1 + 1 := by simp
  go_enter Tryz.func58, Tryz.ntmps58
  go_upto_region 1 with fail
  go_cut [7] (fun s wx => s = .pointer (some ⟨w.heap.size + 1 + 1, 0, none⟩) ∧ wx = ((w.alloc (.cells #[.iface T v, .int .i64 t] 71)).alloc (.cells #[.int .i64 a, .int .i64 b, .int .i64 c, .int .i64 d, .int .i64 n] 76)).alloc (.cells (rkTab T v t) 94))
  case first =>
    go_wp2_with (refine wpList_storeRow rfl rfl 94 _ _ rfl ((w.alloc (.cells #[.iface T v, .int .i64 t] 71)).alloc (.cells #[.int .i64 a, .int .i64 b, .int .i64 c, .int .i64 d, .int .i64 n] 76)) rkZero (rkTab T v t) rfl (w.heap.size + 1 + 1) hz rfl rfl (by kernel_rfl) (by kernel_rfl) (rk_one T v t) ?_)
    go_meet
    exact ⟨rfl, rfl⟩
  case rest =>
    obtain ⟨rfl, rfl⟩ := hcut
    have i0 := rkIdx0 T v t
    have i1 := rkIdx1 T v t
    have i2 := rkIdx2 T v t
    have i3 := rkIdx3 T v t
    have i4 := rkIdx4 T v t
    go_wp2_with (refine wpList_loadRow rfl (some 47) rfl 94 _ rfl ((w.alloc (.cells #[.iface T v, .int .i64 t] 71)).alloc (.cells #[.int .i64 a, .int .i64 b, .int .i64 c, .int .i64 d, .int .i64 n] 76)) (rkTab T v t) rfl (w.heap.size + 1 + 1) hz rfl 12 93 (by kernel_rfl) (by kernel_rfl) ?_)
    refine wp_loop_rounds 5 ?_
    rw [rounds_succ]
    go_wp2_with fail
    rw [rounds_succ]
    go_wp2_with fail
    rw [rounds_succ]
    go_wp2_with fail
    rw [rounds_succ]
    go_wp2_with fail
    rw [rounds_succ]
    go_wp2_with fail
    refine (H.out _).mono ?_
    rintro e w1 ⟨⟨x, rfl, hx⟩, hb1⟩
    go_wp2
    go_ret
    exact ⟨⟨_, rfl, hx⟩, (by repeat (first | exact Below.refl _ _ | refine Below.drew ?_ | refine old_alloc ?_ _ | refine old_trans ?_ (by assumption)))⟩
end Go.Proofs.YtpjagplloljefaaGreat
