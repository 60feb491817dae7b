/- Spans: what is reckoned is what the table's row says, for each operation of this seat's laws. Nothing that was there is written, if the row writes nothing. -/
import Derived.Test.YtpjagplloljefaaS4
import Derived.Deep.WholeRow
import Derived.Great.Walk
namespace Go.Proofs.Ytpjagplloljefaa
open Go.RowKit
set_option linter.unusedVariables false

theorem st_func (P : Program) (w : World) (a : Addr) (m : Mode) (fn : Fn) (first captured : Array Value) : (store a (.func fn first captured) m).run P w = stored P w a (.func fn first captured) m := run_store P w a _ m rfl
attribute [local go_sem] st_func
def rkZero : Array Value := #[.int .i64 0, .nilFunc, .int .i64 0, .nilFunc, .int .i64 0, .nilFunc, .int .i64 0, .nilFunc, .int .i64 0, .nilFunc, .int .i64 0, .nilFunc, .int .i64 0, .nilFunc, .int .i64 0, .nilFunc, .int .i64 0, .nilFunc, .int .i64 0, .nilFunc, .int .i64 0, .nilFunc, .int .i64 0, .nilFunc]
theorem wpList_storeRow {P : Program} {ops : Array Oper} {rest : List Oper} {o : Oper} {a : Act} {w : World} {Q : Exit → Act → World → Prop} (hg : o.guard = none) (hd : o.dst = none) (t : TypeId) (p x : Operand) (ho : o.op = .store t p x)
    (W : World) (c c' : Array Value) (hw : w = W.alloc (.cells c t)) (N : Nat) (hN : W.heap.size = N) (hp : a.eval p = .pointer (some ⟨N, 0, none⟩)) (hx : a.eval x = .agg c') (hi : (P.info? t).map (·.size) = some c'.size) (hs : c.size = c'.size) (h1 : c'.all (·.oneCell') = true)
    (h : wpList P ops Q rest a (W.alloc (.cells c' t))) : wpList P ops Q (o :: rest) a w := by
  subst hw hN
  refine wpList_plain hg fun K hK => ?_
  unfold Oper.wp execOp
  rw [ho]
  show Oper.upon P o a K Q ((Instr.storeAt t (a.eval p) (a.eval x) >>= fun _ => pure Next.skip).run P _)
  rw [hp, hx, Sem.run_bind, run_storeAt_new W t c c' hi hs h1]
  show Oper.upon P o a K Q (.ok Next.skip _)
  have e : a.put o.dst undef = a := by rw [hd]; rfl
  rw [Oper.upon_skip, e]
  exact hK _ _ h
theorem wpList_loadRow {P : Program} {ops : Array Oper} {rest : List Oper} {o : Oper} {a : Act} {w : World} {Q : Exit → Act → World → Prop} (hg : o.guard = none) (dst : Option Tmp) (hd : o.dst = dst) (t : TypeId) (p : Operand) (ho : o.op = .load t p)
    (W : World) (c : Array Value) (hw : w = W.alloc (.cells c t)) (N : Nat) (hN : W.heap.size = N) (hp : a.eval p = .pointer (some ⟨N, 0, none⟩)) (k : Nat) (e : TypeId) (hu : P.underlying t = some (.array k e)) (hi : (P.info? t).map (·.size) = some c.size)
    (h : wpList P ops Q rest (a.put dst (.agg c)) (W.alloc (.cells c t))) : wpList P ops Q (o :: rest) a w := by
  subst hw hN
  refine Go.Great.wpList_runTo hg dst hd (.agg c) _ ?_ h
  unfold execOp
  rw [ho]
  show (Instr.loadAt t (a.eval p) >>= fun _ => _).run P _ = _
  rw [hp, Sem.run_bind, run_loadAt_new W t c k e hu hi]
  rfl
end Go.Proofs.Ytpjagplloljefaa
