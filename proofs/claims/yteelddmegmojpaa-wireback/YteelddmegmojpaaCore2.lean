/- Own words that all layers share, for regions gone through once: new memory alone is made; what values stand for; an operation, a lemma. -/
import Derived.Test.YteelddmegmojpaaRely
import Derived.Test.YteelddmegmojpaaCore1
import Derived.BigCall
namespace Go.Proofs.Yteelddmegmojpaa
open Go Go.RowKit
/-- A name for a term, the equation hidden. -/
theorem hid_ex {α : Type} (x : α) : ∃ d, Hid (x = d) := ⟨x, Lib.hid rfl⟩
/-- From one world to another one new memory alone was made. -/
def NewT (w w' : World) : Prop := Below w.heap.size w w'
theorem NewT.refl (w : World) : NewT w w := Below.refl _ w
theorem NewT.trans (a b c : World) (h : NewT a b) (k : NewT b c) : NewT a c := Below.trans h (Below.mono k (Below.size h))
theorem NewT.drew (w : World) : NewT w w.drew := (Below.refl _ w).drew
theorem NewT.of {w w' : World} (h : Below w.heap.size w w') : NewT w w' := h
theorem NewT.out {w w' : World} (h : NewT w w') : Below w.heap.size w w' := h
theorem NewT.alloc (w : World) (o : Obj) : NewT w (w.alloc o) := (Below.refl _ w).alloc (Nat.le_refl _) _
theorem NewT.rd {w w' : World} (h : NewT w w') {L : List Nat} {v : Value} {l : List UInt8} (hr : RdV w L v l) : RdV w' L v l := hr.keep (KeepBut.below h)
theorem NewT.parts {w w' : World} (h : NewT w w') {L : List Nat} {v : Value} {ps : List (Value × List UInt8)} (hr : PartsAt w L v ps) : PartsAt w' L v ps := hr.keep (KeepBut.below h)
theorem NewT.row {w w' : World} (h : NewT w w') {b : Nat} {t : TypeId} {n : Nat} {f : Nat → Value} (hr : w.rowIs b t n f) : w'.rowIs b t n f := rowIs_below hr h hr.lt
/-- It reads as l. -/
def svRd (l : List UInt8) : SV NewT := ⟨fun v w => RdV w [] v l, fun _ _ _ h hT => hT.rd h⟩
/-- Slices of bytes, one behind the other, that read as ls. -/
def Parts (w : World) (v : Value) (ls : List (List UInt8)) : Prop := ∃ ps, PartsAt w [] v ps ∧ ps.map (·.2) = ls
theorem NewT.partsL {w w' : World} (h : NewT w w') {v : Value} {ls : List (List UInt8)} (hr : Parts w v ls) : Parts w' v ls := by
  obtain ⟨ps, h1, h2⟩ := hr; exact ⟨ps, h.parts h1, h2⟩
def svParts (ls : List (List UInt8)) : SV NewT := ⟨fun v w => Parts w v ls, fun _ _ _ h hT => hT.partsL h⟩

section
variable {P : Program} {a : Act} {w : World} {o : Oper} {K : Act → World → Prop} {Q : Exit → Act → World → Prop} {g : Option (Tmp × Bool)}
theorem relyEnd_nil {T : World → World → Prop} {C : List (SV T)} {l : List Oper} (hl : l = []) (h : Q .normal a w) : relyEnd Q T l C a w := by subst hl; exact ⟨h⟩
theorem rely_wp (hg : relyGuard g a = true) (h : o.wp P a w K Q) : if relyGuard g a then o.wp P a w K Q else K (a.put o.dst undef) w := by rw [if_pos hg]; exact h
theorem rely_skip (hg : relyGuard g a = false) (h : K (a.put o.dst undef) w) : if relyGuard g a then o.wp P a w K Q else K (a.put o.dst undef) w := by rw [hg]; exact h
theorem rely_guard {d : Tmp} {b : Bool} (h : a.tmps.getD d undef = .bool b) : relyGuard (some (d, b)) a = true := by simp only [relyGuard, h]; cases b <;> rfl
theorem rely_guard_no {d : Tmp} {b c : Bool} (h : a.tmps.getD d undef = .bool c) (hb : c ≠ b) : relyGuard (some (d, b)) a = false := by simp only [relyGuard, h]; simpa using hb
theorem rely_guard_undef {d : Tmp} {b : Bool} (h : a.tmps.getD d undef = undef) : relyGuard (some (d, b)) a = false := by simp only [relyGuard, h]; rfl
/-- A value of the frame is moved. -/
theorem opr_move {x : Operand} (ho : o.op = .move x ∨ o.op = .assign x) (h : K (a.put o.dst (a.eval x)) w) : o.wp P a w K Q := by
  obtain ⟨dst, op, type, pos, after, guard⟩ := o
  rcases ho with ho | ho
  all_goals
    simp only at ho
    subst ho
    simpa [Oper.wp, execOp, Oper.upon, Sem.run_pure] using h
theorem opr_pick_true {c x y : Operand} (ho : o.op = .pick c x y) (hc : a.eval c = .bool true) (h : K (a.put o.dst (a.eval x)) w) : o.wp P a w K Q := by
  obtain ⟨dst, op, type, pos, after, guard⟩ := o
  simp only at ho
  subst ho
  simpa [Oper.wp, execOp, hc, asBool, Oper.upon, Sem.run_pure] using h
theorem opr_pick_false {c x y : Operand} (ho : o.op = .pick c x y) (hc : a.eval c = .bool false) (h : K (a.put o.dst (a.eval y)) w) : o.wp P a w K Q := by
  obtain ⟨dst, op, type, pos, after, guard⟩ := o
  simp only at ho
  subst ho
  simpa [Oper.wp, execOp, hc, asBool, Oper.upon, Sem.run_pure] using h
/-- An operation that yields a value. -/
theorem opr_val {s : Sem Value} {v : Value} {w' : World} (ho : execOp a.eval o = (do pure (.value (← s)))) (hr : s.run P w = .ok v w') (h : K (a.put o.dst v) w') : o.wp P a w K Q := by
  simpa [Oper.wp, ho, hr, Oper.upon, Sem.run_pure, Sem.run_bind] using h
theorem opr_unit {s : Sem Unit} {w' : World} (ho : execOp a.eval o = (do s; pure .skip)) (hr : s.run P w = .ok () w') (h : K (a.put o.dst undef) w') : o.wp P a w K Q := by
  simpa [Oper.wp, ho, hr, Oper.upon, Sem.run_pure, Sem.run_bind] using h
theorem run_callFunc_go {f : Nat} {fn : Func} {vs : Array Value} (hf : P.funcs[f]? = some fn) (hn : (fn.name == "runtime.NumGoroutine") = false) (hb : fn.body.isNone = false) : (callFunc f vs).run P w = .ok (.enter f vs) w := by
  unfold callFunc
  rw [Sem.run_bind, run_program]
  simp only [Result.andThen_ok, hf, hn, hb, Bool.false_eq_true, if_false]
  exact Sem.run_pure ..
/-- A Go function is called. -/
theorem opr_call {f : Nat} {fn : Func} {args : Array Operand} {vs : Array Value} {ts : Array TypeId} (ho : o.op = .call { callee := .value (.func f), args := args, argTypes := ts }) (hf : P.funcs[f]? = some fn)
    (hn : (fn.name == "runtime.NumGoroutine") = false) (hb : fn.body.isNone = false) (hv : args.map a.eval = vs)
    (h : Calls P f vs w fun e w' => ∃ v, e = .returned v ∧ K (a.put o.dst v) w') : o.wp P a w K Q := by
  obtain ⟨dst, op, type, pos, after, guard⟩ := o
  simp only at ho
  subst ho
  subst hv
  unfold Oper.wp
  rw [execOp_call_go, show #[] ++ args.map a.eval ++ #[] = args.map a.eval by simp, run_callFunc_go hf hn hb, Oper.upon_enter]
  refine h.mono ?_
  rintro e w' ⟨v, rfl, hk⟩
  exact hk
theorem eval_tmp (t : Tmp) : a.eval (.tmp t) = a.tmps.getD t undef := rfl
end
theorem run_forIn_eqs {P : Program} {w : World} {α σ : Type} (f : α → σ → Sem (ForInStep σ)) (s s' : σ) (p : α → Bool) : ∀ (l : List α), (∀ a ∈ l, (f a s).run P w = .ok (if p a then .yield s else .done s') w) → (forIn l s f).run P w = .ok (if l.all p then s else s') w
  | [], _ => by simp [Sem.run_pure]
  | a :: l, h => by
    rw [List.forIn_cons, Sem.run_bind, h a (by simp)]
    by_cases hp : p a
    · simp only [hp, if_true, Result.andThen_ok, List.all_cons, Bool.true_and]
      exact run_forIn_eqs f s s' p l fun b hb => h b (by simp [hb])
    · simp [hp, Sem.run_pure]
/-- Two arrays by value. -/
theorem equalIn_arr {P : Program} (w : World) (d : Nat) (t e : TypeId) (n : Nat) (k : IntKind) (ht : P.underlying t = some (.array n e)) (he : P.underlying e = some (.int k)) (hs : (P.info? e).map (·.size) = some 1) (f g : Nat → Int) :
    (Op.equalIn (d + 2) t (.agg (rowA n fun i => .int k (f i))) (.agg (rowA n fun i => .int k (g i)))).run P w = .ok ((List.range n).all fun i => f i == g i) w := by
  have hsz : (sizeOf e).run P w = .ok 1 w := by
    cases hq : P.info? e with
    | none => simp [hq] at hs
    | some i => simp [hq] at hs; simp [sizeOf, typeInfo, hq, hs]
  have hagg : (isAgg e).run P w = .ok false w := by
    unfold isAgg
    rw [Sem.run_bind, run_underlying he w]
    rfl
  have hpart : ∀ (f : Nat → Int) i, i < n → (part e (rowA n fun i => .int k (f i)) i).run P w = .ok (.int k (f i)) w := fun f i hi => by
    simp [part, hagg, rowA_at n (fun i => .int k (f i)) i hi]
  rw [Op.equalIn, Sem.run_bind, run_underlying ht w]
  simp only [Result.andThen_ok, Sem.run_bind, hsz, Std.Legacy.Range.forIn_eq_forIn_range', Std.Legacy.Range.size, Nat.sub_zero, Nat.add_one_sub_one, Nat.div_one]
  rw [run_forIn_eqs _ _ ⟨some false, PUnit.unit⟩ (fun i => f i == g i) _ (fun i hi => by
    have hi' : i < n := by simpa [List.mem_range'] using hi
    by_cases hfg : f i = g i
    · simp [hpart f i hi', hpart g i hi', run_equalIn_int w d e k k _ _ he, hfg]
    · simp [hpart f i hi', hpart g i hi', run_equalIn_int w d e k k _ _ he, hfg])]
  rw [← List.range_eq_range']
  by_cases h : (List.range n).all fun i => f i == g i
  · simp [h]
  · simp only [h]; simp [Sem.run_pure]
/-- Are two hashes the same? -/
def eqH (d1 d2 : Nat → UInt8) : Bool := (List.range 32).all fun i => bN (d1 i) == bN (d2 i)
theorem eqH_same (d : Nat → UInt8) : eqH d d = true := by simp [eqH]
theorem eqH_iff (d1 d2 : Nat → UInt8) : eqH d1 d2 = true ↔ ∀ i, i < 32 → d1 i = d2 i := by
  simp only [eqH, List.all_eq_true, List.mem_range, beq_iff_eq]
  exact ⟨fun h i hi => bN_inj (h i hi), fun h i hi => by rw [h i hi]⟩
theorem equalIn_hash (w : World) (d1 d2 : Nat → UInt8) : (Op.equalIn 10000 24 (.agg (rowA 32 (bF d1))) (.agg (rowA 32 (bF d2)))).run Try.prog w = .ok (eqH d1 d2) w :=
  equalIn_arr w 9998 24 5 32 .u8 Try.underlying24 Try.underlying5 info5s (fun i => bN (d1 i)) (fun i => bN (d2 i))
theorem eqType_hash : Try.prog.eqGuardType Try.prog.depth 24 = false := by kernel_rfl

/-- A digest as bytes. -/
def digL (d : Nat → UInt8) : List UInt8 := (List.range 32).map d
theorem digL_length (d : Nat → UInt8) : (digL d).length = 32 := by simp [digL]
/-- A row of bytes, sliced whole, reads as them. -/
theorem rd_row {W : World} {L : List Nat} {g t n : Nat} {f : Nat → UInt8} (h : W.rowIs g t n (bF f)) (hg : g ∉ L) (hn : n ≤ 1000000) : RdV W L (.slice (some ⟨g, 0, none⟩) n n) ((List.range n).map f) := by
  have hl : ((List.range n).map f).length = n := by simp
  refine ⟨some ⟨g, 0, none⟩, n, by rw [hl], by rw [hl]; exact Nat.le_refl _, by unfold maxLen; omega, fun _ => ⟨g, 0, rfl, hg, fun i hi => ?_⟩⟩
  rw [hl] at hi
  rw [Nat.zero_add, h.cell hi, bF_at]
  simp [bAt, hi]

section
variable {a : Act} {w : World} {o : Oper} {K : Act → World → Prop} {Q : Exit → Act → World → Prop}
theorem opr_len {x : Operand} {t e : TypeId} {A : Option Addr} {n c : Nat} (ho : o.op = .call { callee := .builtin .len, args := #[x], argTypes := #[t] }) (ht : Try.prog.underlying t = some (.slice e)) (hx : a.eval x = .slice A n c) (h : K (a.put o.dst (.int .i64 (n : Int))) w) : o.wp Try.prog a w K Q := by
  obtain ⟨dst, op, type, pos, after, guard⟩ := o
  simp only at ho
  subst ho
  refine opr_val (s := Builtin.len_ #[t] type #[a.eval x]) (v := .int .i64 (n : Int)) (by
    show (do let d ← resolve a.eval { callee := .builtin .len, args := #[x], argTypes := #[t] } type; invoke d.target d.args) = _
    simp only [resolve, invoke, pure_bind, BigFrame.builtin_len, List.map_toArray, List.map_cons, List.map_nil]) ?_ h
  rw [hx]
  simp [Builtin.len_, run_underlying ht, goInt]
theorem opr_len_rd {x : Operand} {l : List UInt8} {L : List Nat} (ho : o.op = .call { callee := .builtin .len, args := #[x], argTypes := #[22] }) (hx : RdV w L (a.eval x) l) (h : K (a.put o.dst (.int .i64 (l.length : Int))) w) : o.wp Try.prog a w K Q := by
  obtain ⟨A, c, hv, _⟩ := hx
  exact opr_len ho Try.underlying22 hv h
theorem opr_len_parts {x : Operand} {ls : List (List UInt8)} (ho : o.op = .call { callee := .builtin .len, args := #[x], argTypes := #[48] }) (hx : Parts w (a.eval x) ls) (h : K (a.put o.dst (.int .i64 (ls.length : Int))) w) : o.wp Try.prog a w K Q := by
  obtain ⟨ps, ⟨A, c, hv, _⟩, rfl⟩ := hx
  refine opr_len ho Try.underlying48 hv ?_
  simpa using h
theorem opr_load_hash {x : Operand} {g : Nat} {t : TypeId} {d : Nat → UInt8} (ho : o.op = .load 24 x) (hx : a.eval x = .pointer (some ⟨g, 0, none⟩)) (hr : w.rowIs g t 32 (bF d)) (h : K (a.put o.dst (.agg (rowA 32 (bF d)))) w) : o.wp Try.prog a w K Q := by
  obtain ⟨dst, op, type, pos, after, guard⟩ := o
  simp only at ho
  subst ho
  refine opr_val (s := Instr.loadAt 24 (a.eval x)) rfl ?_ h
  rw [hx]
  have := run_loadAt_mid (P := Try.prog) w g 0 24 (rowA 32 (bF d)).toList _ (rangeAt_row hr) Try.underlying24 rfl (by rw [rowA_toList]; simpa using info31)
  simpa using this
theorem run_sliceAt_hash (w : World) (g : Nat) : (Instr.sliceAt 24 (.pointer (some ⟨g, 0, none⟩)) none none none).run Try.prog w = .ok (.slice (some ⟨g, 0, none⟩) 32 32) w := by
  have hsz : (sizeOf 5).run Try.prog w = .ok 1 w := by
    have hs := info5s
    cases hq : Try.prog.info? 5 with
    | none => simp [hq] at hs
    | some i => simp [hq] at hs; simp [sizeOf, typeInfo, hq, hs]
  simp [Instr.sliceAt, run_underlying Try.underlying24, Instr.sureAddr, Instr.sliceBounds, hsz, Addr.add_zero']
/-- 'h[:]' of a hash. -/
theorem opr_slice_hash {x : Operand} {g : Nat} (ho : o.op = .slice 24 x none none none) (hx : a.eval x = .pointer (some ⟨g, 0, none⟩)) (h : K (a.put o.dst (.slice (some ⟨g, 0, none⟩) 32 32)) w) : o.wp Try.prog a w K Q := by
  obtain ⟨dst, op, type, pos, after, guard⟩ := o
  simp only at ho
  subst ho
  refine opr_val (s := Instr.sliceAt 24 (a.eval x) none none none) rfl ?_ h
  rw [hx]; exact run_sliceAt_hash w g
theorem opr_eql_hash {x y : Operand} {t' : TypeId} {d1 d2 : Nat → UInt8} {b : Bool} (ho : o.op = .binOp .eql 24 x y t') (hx : a.eval x = .agg (rowA 32 (bF d1))) (hy : a.eval y = .agg (rowA 32 (bF d2))) (hb : eqH d1 d2 = b) (h : K (a.put o.dst (.bool b)) w) : o.wp Try.prog a w K Q := by
  obtain ⟨dst, op, type, pos, after, guard⟩ := o
  simp only at ho
  subst ho hb
  refine opr_val (s := do eqGuard .eql 24 x y (a.eval x) (a.eval y); binOp .eql 24 (a.eval x) (a.eval y)) rfl ?_ h
  rw [hx, hy, Sem.run_bind, run_eqGuard_agg _ _ _ _ _ _ _ eqType_hash]
  simp only [Result.andThen_ok]
  rw [run_eql_struct, equalIn_hash]; rfl
theorem opr_neq_hash {x y : Operand} {t' : TypeId} {d1 d2 : Nat → UInt8} {b : Bool} (ho : o.op = .binOp .neq 24 x y t') (hx : a.eval x = .agg (rowA 32 (bF d1))) (hy : a.eval y = .agg (rowA 32 (bF d2))) (hb : (!eqH d1 d2) = b) (h : K (a.put o.dst (.bool b)) w) : o.wp Try.prog a w K Q := by
  obtain ⟨dst, op, type, pos, after, guard⟩ := o
  simp only at ho
  subst ho hb
  refine opr_val (s := do eqGuard .neq 24 x y (a.eval x) (a.eval y); binOp .neq 24 (a.eval x) (a.eval y)) rfl ?_ h
  rw [hx, hy, Sem.run_bind, run_eqGuard_agg _ _ _ _ _ _ _ eqType_hash]
  simp only [Result.andThen_ok]
  rw [run_neq_struct, equalIn_hash]; rfl
theorem run_bs1 (A : Option Addr) (n c : Nat) (w : World) : (Instr.buildSlice 48 1 #[(0, .slice A n c)]).run Try.prog w = .ok (.slice (some ⟨w.heap.size, 0, none⟩) 1 1) (w.alloc (.cells #[.slice A n c] 22)) := by
  simp [go_sem]
theorem run_bs2 (A : Option Addr) (n c : Nat) (A2 : Option Addr) (n2 c2 : Nat) (w : World) : (Instr.buildSlice 48 2 #[(0, .slice A n c), (1, .slice A2 n2 c2)]).run Try.prog w = .ok (.slice (some ⟨w.heap.size, 0, none⟩) 2 2) (w.alloc (.cells #[.slice A n c, .slice A2 n2 c2] 22)) := by
  simp [go_sem]
/-- A new slice of one slice. -/
theorem opr_bs1 {x : Operand} {l : List UInt8} (ho : o.op = .buildSlice 48 1 #[(0, x)]) (hx : RdV w [] (a.eval x) l) (h : ∀ v w', NewT w w' → Parts w' v [l] → K (a.put o.dst v) w') : o.wp Try.prog a w K Q := by
  obtain ⟨dst, op, type, pos, after, guard⟩ := o
  simp only at ho
  subst ho
  have hx0 := hx
  obtain ⟨A, c, hv, _⟩ := hx0
  rw [hv] at hx
  refine opr_val (s := Instr.buildSlice 48 1 #[(0, a.eval x)]) (by simp [execOp]) (by rw [hv]; exact run_bs1 A _ c w) (h _ _ (NewT.alloc _ _) ⟨[(.slice A l.length c, l)], parts_new [(.slice A l.length c, l)] 22 (by simp) (by simp) (by simpa using hx), rfl⟩)
theorem opr_bs2 {x y : Operand} {l m : List UInt8} (ho : o.op = .buildSlice 48 2 #[(0, x), (1, y)]) (hx : RdV w [] (a.eval x) l) (hy : RdV w [] (a.eval y) m) (h : ∀ v w', NewT w w' → Parts w' v [l, m] → K (a.put o.dst v) w') : o.wp Try.prog a w K Q := by
  obtain ⟨dst, op, type, pos, after, guard⟩ := o
  simp only at ho
  subst ho
  have hx0 := hx
  obtain ⟨A, c, hv, _⟩ := hx0
  have hy0 := hy
  obtain ⟨A2, c2, hv2, _⟩ := hy0
  rw [hv] at hx
  rw [hv2] at hy
  refine opr_val (s := Instr.buildSlice 48 2 #[(0, a.eval x), (1, a.eval y)]) (by simp [execOp]) (by rw [hv, hv2]; exact run_bs2 A _ c A2 _ c2 w) (h _ _ (NewT.alloc _ _) ⟨[(.slice A l.length c, l), (.slice A2 m.length c2, m)], parts_new [(.slice A l.length c, l), (.slice A2 m.length c2, m)] 22 (by simp) (by simp) (by simp; exact ⟨hx, hy⟩), rfl⟩)
end
/-- A function value is called: what it caught stands behind the arguments. -/
theorem opr_callv {P : Program} {a : Act} {w : World} {o : Oper} {K : Act → World → Prop} {Q : Exit → Act → World → Prop} {f : Nat} {fn : Func} {x : Operand} {args : Array Operand} {vs cap : Array Value} {ts : Array TypeId} (ho : o.op = .call { callee := .value x, args := args, argTypes := ts }) (hx : a.eval x = .func (.func f) #[] cap) (hf : P.funcs[f]? = some fn)
    (hn : (fn.name == "runtime.NumGoroutine") = false) (hb : fn.body.isNone = false) (hv : args.map a.eval ++ cap = vs)
    (h : Calls P f vs w fun e w' => ∃ v, e = .returned v ∧ K (a.put o.dst v) w') : o.wp P a w K Q := by
  obtain ⟨dst, op, type, pos, after, guard⟩ := o
  simp only at ho
  subst ho
  have e : execOp a.eval { dst, op := .call { callee := .value x, args := args, argTypes := ts }, type, pos, after, guard } = callFunc f vs := by
    show (do let d ← resolve a.eval { callee := .value x, args := args, argTypes := ts } type; invoke d.target d.args) = _
    simp only [resolve, Deferred.ofValue, hx, invoke, pure_bind]
    rw [← hv]; simp
  unfold Oper.wp
  rw [e, run_callFunc_go hf hn hb, Oper.upon_enter]
  refine h.mono ?_
  rintro e w' ⟨v, rfl, hk⟩
  exact hk
/-- A builtin append whose run is known. -/
theorem opr_append {P : Program} {a : Act} {w w' : World} {o : Oper} {K : Act → World → Prop} {Q : Exit → Act → World → Prop} {x y : Operand} {t t' : TypeId} {vx vy v' : Value} (ho : o.op = .call { callee := .builtin .append, args := #[x, y], argTypes := #[t, t'] }) (hx : a.eval x = vx) (hy : a.eval y = vy)
    (hr : (Builtin.append_ #[t, t'] o.type #[vx, vy]).run P w = .ok v' w') (h : K (a.put o.dst v') w') : o.wp P a w K Q := by
  obtain ⟨dst, op, type, pos, after, guard⟩ := o
  simp only at ho hr
  subst ho hx hy
  refine opr_val (s := Builtin.append_ #[t, t'] type #[a.eval x, a.eval y]) ?_ hr h
  show (do let d ← resolve a.eval { callee := .builtin .append, args := #[x, y], argTypes := #[t, t'] } type; invoke d.target d.args) = _
  simp only [resolve, invoke, pure_bind, BigFrame.builtin_append, List.map_toArray, List.map_cons, List.map_nil]
/-- A new row of bytes, all 0, that a region makes. -/
def svNew (W : World) (t : TypeId) (n : Nat) : SV NewT := ⟨fun v w => ∃ g, v = .pointer (some ⟨g, 0, none⟩) ∧ W.heap.size ≤ g ∧ w.rowIs g t n (bF fun _ => 0), fun _ _ _ ⟨g, h1, h2, h3⟩ hT => ⟨g, h1, h2, hT.row h3⟩⟩
theorem svNew_out {W : World} {t n : Nat} {v : Value} {w : World} (h : (svNew W t n).pred v w) : ∃ g, v = .pointer (some ⟨g, 0, none⟩) ∧ W.heap.size ≤ g ∧ w.rowIs g t n (bF fun _ => 0) := h
theorem run_alloc_hash (w : World) : (Instr.alloc 24 true (.tuple #[])).run Try.prog w = .ok (.pointer (some ⟨w.heap.size, 0, none⟩)) (w.alloc (.cells (rowA 32 (bF fun _ => 0)) 24)) := by
  simp [go_sem]; rfl
theorem opr_alloc_hash {a : Act} {w : World} {o : Oper} {K : Act → World → Prop} {Q : Exit → Act → World → Prop} {W : World} (ho : o.op = .alloc 24) (hT : NewT W w) (h : ∀ v w', NewT w w' → (svNew W 24 32).pred v w' → K (a.put o.dst v) w') : o.wp Try.prog a w K Q := by
  obtain ⟨dst, op, type, pos, after, guard⟩ := o
  simp only at ho
  subst ho
  exact opr_val (s := Instr.alloc 24 true (.tuple #[])) rfl (run_alloc_hash w) (h _ _ (NewT.alloc _ _) ⟨w.heap.size, rfl, hT.out.size, rowIs_box w 24 32 _⟩)
/-- A whole array is stored into a row that is new. -/
theorem opr_store_new {B : Nat} {P : Program} {a : Act} {w W : World} {o : Oper} {K : Act → World → Prop} {Q : Exit → Act → World → Prop} {t t' : TypeId} {x y : Operand} {g n : Nat} {f0 : Nat → Value} {D : Nat → UInt8} (hi : (P.info? t).map (·.size) = some n) (ho : o.op = .store t x y) (hx : a.eval x = .pointer (some ⟨g, 0, none⟩)) (hy : a.eval y = .agg (rowA n (bF D)))
    (hr : w.rowIs g t' n f0) (hN : Below B W w) (hg : B ≤ g) (h : ∀ w', Below B W w' → w'.rowIs g t' n (bF D) → K (a.put o.dst undef) w') : o.wp P a w K Q :=
  wp_store_mid t x y ho g 0 (rowA n (bF D)) hx hy (by rw [rowA_size]; exact there_row hr) (by rw [rowA_size]; exact hi) (rowA_one _ _ fun _ => rfl) (h _ (below_setCells g hg _ _ _ hN) (rowIs_setAll hr (bF D)))
/-- A function's contract: new memory alone, and what it returns. -/
def Cv (f : Nat) (vs : Array Value) (w : World) (c : SV NewT) : Prop := Calls Try.prog f vs w fun e w' => ∃ v, e = .returned v ∧ NewT w w' ∧ c.pred v w'
theorem opr_cv {a : Act} {w : World} {o : Oper} {K : Act → World → Prop} {Q : Exit → Act → World → Prop} {f : Nat} {fn : Func} {args : Array Operand} {ts : Array TypeId} {vs : Array Value} {c : SV NewT} (hc : Cv f vs w c)
    (ho : o.op = .call { callee := .value (.func f), args := args, argTypes := ts }) (hf : Try.prog.funcs[f]? = some fn) (hn : (fn.name == "runtime.NumGoroutine") = false) (hb : fn.body.isNone = false) (hv : args.map a.eval = vs)
    (h : ∀ v w', NewT w w' → c.pred v w' → K (a.put o.dst v) w') : o.wp Try.prog a w K Q := by
  refine opr_call ho hf hn hb hv (Calls.mono hc ?_)
  rintro e w' ⟨v, rfl, h1, h2⟩
  exact ⟨v, rfl, h v w' h1 h2⟩
theorem Cv.of_eq {f : Nat} {vs : Array Value} {w : World} {v : Value} (h : Calls Try.prog f vs w fun e w' => e = .returned v ∧ Below w.heap.size w w') : Cv f vs w (.eq v) :=
  Calls.mono h fun _ _ ⟨he, hb⟩ => ⟨v, he, hb, rfl⟩
theorem Cv.eq {f : Nat} {vs : Array Value} {w : World} {v : Value} (h : Cv f vs w (.eq v)) : Calls Try.prog f vs w fun e w' => e = .returned v ∧ Below w.heap.size w w' :=
  Calls.mono h fun _ _ ⟨_, he, hb, hv⟩ => ⟨by rw [he]; exact congrArg _ hv, hb⟩
theorem eval_const {a : Act} (v : Value) : a.eval (.const v) = v := rfl
theorem eval_func {a : Act} (f : Nat) : a.eval (.func f) = .func (.func f) #[] #[] := rfl
/-- It reads as l, in a row that is new since W. -/
def svRdN (W : World) (l : List UInt8) : SV NewT := ⟨fun v w => ∀ L, (∀ k ∈ L, k < W.heap.size) → RdV w L v l, fun _ _ _ h hT L hL => hT.rd (h L hL)⟩
theorem make_bytes (i0 : TypeInfo) (hi : Try.prog.info? 5 = some i0) (hz0 : i0.zero = some (.int .u8 0)) (hz1 : i0.size = 1) (hz2 : i0.bytes = 1) (r : Nat) (hr : r ≤ 64) (W : World) :
    (Instr.makeSlice 22 (.int .i64 (r : Int)) (.int .i64 (r : Int))).run Try.prog W = .ok (.slice (some ⟨W.heap.size, 0, none⟩) r r) (W.alloc (.cells (rowA r (bF fun _ => 0)) 5)) := by
  have := run_make (P := Try.prog) W 22 5 i0 _ Try.underlying22 hi hz0 .i64 .i64 (r : Int) (r : Int) (by omega) (by omega) (by rw [hz2]; omega) (by omega)
  rw [this, hz1, Int.toNat_natCast, Nat.mul_one]
  have e : madeCells (Value.int .u8 0).cells r = rowA r (bF fun _ => 0) := made_row r (.int .u8 0)
  rw [e]
def putTo (f : Nat → UInt8) (k i : Nat) : UInt8 := if i < k then f i else 0
theorem putTo_set (f : Nat → UInt8) (k i : Nat) : (if i = k then Value.int .u8 (bN (f k)) else bF (putTo f k) i) = bF (putTo f (k + 1)) i := by
  simp only [bF, putTo]
  by_cases h : i = k
  · subst h; simp
  · by_cases h2 : i < k
    · rw [if_neg h, if_pos h2, if_pos (by omega)]
    · rw [if_neg h, if_neg h2, if_neg (by omega)]
end Go.Proofs.Yteelddmegmojpaa
