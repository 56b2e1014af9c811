/- Own words for regions that draw their order: new memory alone is made; what values stand for. -/
import Derived.Test.YtpoebajpmkcjdaaDoorRely
import Derived.Test.YtpoebajpmkcjdaaDoorApp
import Derived.Test.YtpoebajpmkcjdaaDoorC2
import Derived.BigCall
namespace Go.Proofs.YtpoebajpmkcjdaaDoor
open Go Go.RowKit

/-- A name for a term, the equation hidden. -/
theorem hid_ex {α : Type} (x : α) : ∃ d, Hid (x = d) := ⟨x, Lib.hid rfl⟩
/-- From one world to another one new memory alone was made. -/
def NewT (w w' : World) : Prop := Below w.heap.size w w'
theorem NewT.refl (w : World) : NewT w w := Below.refl _ w
theorem NewT.trans (a b c : World) (h : NewT a b) (k : NewT b c) : NewT a c := Below.trans h (Below.mono k (Below.size h))
theorem NewT.drew (w : World) : NewT w w.drew := (Below.refl _ w).drew
theorem NewT.of {w w' : World} (h : Below w.heap.size w w') : NewT w w' := h
theorem NewT.out {w w' : World} (h : NewT w w') : Below w.heap.size w w' := h
theorem NewT.alloc (w : World) (o : Obj) : NewT w (w.alloc o) := (Below.refl _ w).alloc (Nat.le_refl _) _
theorem NewT.rd {w w' : World} (h : NewT w w') {L : List Nat} {v : Value} {l : List UInt8} (hr : RdV w L v l) : RdV w' L v l := hr.keep (KeepBut.below h)
theorem NewT.parts {w w' : World} (h : NewT w w') {L : List Nat} {v : Value} {ps : List (Value × List UInt8)} (hr : PartsAt w L v ps) : PartsAt w' L v ps := hr.keep (KeepBut.below h)
theorem NewT.row {w w' : World} (h : NewT w w') {b : Nat} {t : TypeId} {n : Nat} {f : Nat → Value} (hr : w.rowIs b t n f) : w'.rowIs b t n f := rowIs_below hr h hr.lt
theorem NewT.tables {w w' : World} (h : NewT w w') (hT : Tables w) : Tables w' := hT.below h

/-- It reads as l. -/
def svRd (l : List UInt8) : SV NewT := ⟨fun v w => RdV w [] v l, fun _ _ _ h hT => hT.rd h⟩
/-- Slices of bytes, one behind the other, that read as ls. -/
def Parts (w : World) (v : Value) (ls : List (List UInt8)) : Prop := ∃ ps, PartsAt w [] v ps ∧ ps.map (·.2) = ls
theorem NewT.partsL {w w' : World} (h : NewT w w') {v : Value} {ls : List (List UInt8)} (hr : Parts w v ls) : Parts w' v ls := by
  obtain ⟨ps, h1, h2⟩ := hr; exact ⟨ps, h.parts h1, h2⟩
def svParts (ls : List (List UInt8)) : SV NewT := ⟨fun v w => Parts w v ls, fun _ _ _ h hT => hT.partsL h⟩

section
variable {P : Program} {a : Act} {w : World} {o : Oper} {K : Act → World → Prop} {Q : Exit → Act → World → Prop} {g : Option (Tmp × Bool)}
theorem relyEnd_nil {T : World → World → Prop} {C : List (SV T)} {l : List Oper} (hl : l = []) (h : Q .normal a w) : relyEnd Q T l C a w := by subst hl; exact ⟨h⟩
theorem rely_wp (hg : relyGuard g a = true) (h : o.wp P a w K Q) : if relyGuard g a then o.wp P a w K Q else K (a.put o.dst undef) w := by rw [if_pos hg]; exact h
theorem rely_skip (hg : relyGuard g a = false) (h : K (a.put o.dst undef) w) : if relyGuard g a then o.wp P a w K Q else K (a.put o.dst undef) w := by rw [hg]; exact h
theorem rely_guard {d : Tmp} {b : Bool} (h : a.tmps.getD d undef = .bool b) : relyGuard (some (d, b)) a = true := by simp only [relyGuard, h]; cases b <;> rfl
theorem rely_guard_no {d : Tmp} {b c : Bool} (h : a.tmps.getD d undef = .bool c) (hb : c ≠ b) : relyGuard (some (d, b)) a = false := by simp only [relyGuard, h]; simpa using hb
theorem rely_guard_undef {d : Tmp} {b : Bool} (h : a.tmps.getD d undef = undef) : relyGuard (some (d, b)) a = false := by simp only [relyGuard, h]; rfl
/-- A value of the frame is moved. -/
theorem opr_move {x : Operand} (ho : o.op = .move x ∨ o.op = .assign x) (h : K (a.put o.dst (a.eval x)) w) : o.wp P a w K Q := by
  obtain ⟨dst, op, type, pos, after, guard⟩ := o
  rcases ho with ho | ho
  all_goals
    simp only at ho
    subst ho
    simpa [Oper.wp, execOp, Oper.upon, Sem.run_pure] using h
theorem opr_pick_true {c x y : Operand} (ho : o.op = .pick c x y) (hc : a.eval c = .bool true) (h : K (a.put o.dst (a.eval x)) w) : o.wp P a w K Q := by
  obtain ⟨dst, op, type, pos, after, guard⟩ := o
  simp only at ho
  subst ho
  simpa [Oper.wp, execOp, hc, asBool, Oper.upon, Sem.run_pure] using h
theorem opr_pick_false {c x y : Operand} (ho : o.op = .pick c x y) (hc : a.eval c = .bool false) (h : K (a.put o.dst (a.eval y)) w) : o.wp P a w K Q := by
  obtain ⟨dst, op, type, pos, after, guard⟩ := o
  simp only at ho
  subst ho
  simpa [Oper.wp, execOp, hc, asBool, Oper.upon, Sem.run_pure] using h
/-- An operation that yields a value. -/
theorem opr_val {s : Sem Value} {v : Value} {w' : World} (ho : execOp a.eval o = (do pure (.value (← s)))) (hr : s.run P w = .ok v w') (h : K (a.put o.dst v) w') : o.wp P a w K Q := by
  simpa [Oper.wp, ho, hr, Oper.upon, Sem.run_pure, Sem.run_bind] using h
theorem opr_unit {s : Sem Unit} {w' : World} (ho : execOp a.eval o = (do s; pure .skip)) (hr : s.run P w = .ok () w') (h : K (a.put o.dst undef) w') : o.wp P a w K Q := by
  simpa [Oper.wp, ho, hr, Oper.upon, Sem.run_pure, Sem.run_bind] using h
theorem run_callFunc_go {f : Nat} {fn : Func} {vs : Array Value} (hf : P.funcs[f]? = some fn) (hn : (fn.name == "runtime.NumGoroutine") = false) (hb : fn.body.isNone = false) : (callFunc f vs).run P w = .ok (.enter f vs) w := by
  unfold callFunc
  rw [Sem.run_bind, run_program]
  simp only [Result.andThen_ok, hf, hn, hb, Bool.false_eq_true, if_false]
  exact Sem.run_pure ..
/-- A Go function is called. -/
theorem opr_call {f : Nat} {fn : Func} {args : Array Operand} {vs : Array Value} {ts : Array TypeId} (ho : o.op = .call { callee := .value (.func f), args := args, argTypes := ts }) (hf : P.funcs[f]? = some fn)
    (hn : (fn.name == "runtime.NumGoroutine") = false) (hb : fn.body.isNone = false) (hv : args.map a.eval = vs)
    (h : Calls P f vs w fun e w' => ∃ v, e = .returned v ∧ K (a.put o.dst v) w') : o.wp P a w K Q := by
  obtain ⟨dst, op, type, pos, after, guard⟩ := o
  simp only at ho
  subst ho
  subst hv
  unfold Oper.wp
  rw [execOp_call_go, show #[] ++ args.map a.eval ++ #[] = args.map a.eval by simp, run_callFunc_go hf hn hb, Oper.upon_enter]
  refine h.mono ?_
  rintro e w' ⟨v, rfl, hk⟩
  exact hk
theorem eval_tmp (t : Tmp) : a.eval (.tmp t) = a.tmps.getD t undef := rfl
end
end Go.Proofs.YtpoebajpmkcjdaaDoor
