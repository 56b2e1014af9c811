/- Single operations: a pointer that isn't nil, sums, differences, products. -/
import Derived.Test.YtilmeffmdgcblaaMa
import Derived.OrdersIn
import Derived.Sort.CutIn
set_option linter.all false
namespace Go.Proofs.Ytilmeffmdgcblaa
open Go Go.RowKit
set_option maxRecDepth 8000
set_option linter.all false
section
variable {P : Program} {a : Act} {w : World} {o : Oper} {K : Act → World → Prop} {Q : Exit → Act → World → Prop} {x y : Operand}
theorem opr_nilc {A : Addr} (ho : o.op = .nilCheck x) (hx : a.eval x = .pointer (some A)) (h : K (a.put o.dst (.pointer (some A))) w) : o.wp P a w K Q := by
  obtain ⟨dst, op, type, pos, after, guard⟩ := o
  simp only at ho
  subst ho
  simpa [Oper.wp, execOp, hx, Oper.upon, Sem.run_pure] using h
theorem opr_add {t t2 : TypeId} {m n r : Int} (ht : P.underlying t = some (.int .i64)) (hr : wrap64 (m + n) = r) (ho : o.op = .binOp .add t x y t2) (hx : a.eval x = .int .i64 m) (hy : a.eval y = .int .i64 n) (h : K (a.put o.dst (.int .i64 r)) w) : o.wp P a w K Q := by
  obtain ⟨dst, op, type, pos, after, guard⟩ := o
  simp only at ho
  subst ho hr
  refine opr_val (s := do eqGuard .add t x y (a.eval x) (a.eval y); binOp .add t (a.eval x) (a.eval y)) rfl ?_ h
  rw [hx, hy]; simp [go_sem]; rw [IntKind.wrap_i64, wrap64]
theorem opr_sub {t t2 : TypeId} {m n r : Int} (ht : P.underlying t = some (.int .i64)) (hr : wrap64 (m - n) = r) (ho : o.op = .binOp .sub t x y t2) (hx : a.eval x = .int .i64 m) (hy : a.eval y = .int .i64 n) (h : K (a.put o.dst (.int .i64 r)) w) : o.wp P a w K Q := by
  obtain ⟨dst, op, type, pos, after, guard⟩ := o
  simp only at ho
  subst ho hr
  refine opr_val (s := do eqGuard .sub t x y (a.eval x) (a.eval y); binOp .sub t (a.eval x) (a.eval y)) rfl ?_ h
  rw [hx, hy]; simp [go_sem]; rw [IntKind.wrap_i64, wrap64]
theorem opr_mul {t t2 : TypeId} {m n r : Int} (ht : P.underlying t = some (.int .i64)) (hr : wrap64 (m * n) = r) (ho : o.op = .binOp .mul t x y t2) (hx : a.eval x = .int .i64 m) (hy : a.eval y = .int .i64 n) (h : K (a.put o.dst (.int .i64 r)) w) : o.wp P a w K Q := by
  obtain ⟨dst, op, type, pos, after, guard⟩ := o
  simp only at ho
  subst ho hr
  refine opr_val (s := do eqGuard .mul t x y (a.eval x) (a.eval y); binOp .mul t (a.eval x) (a.eval y)) rfl ?_ h
  rw [hx, hy]; simp [go_sem]; rw [IntKind.wrap_i64, wrap64]
end
end Go.Proofs.Ytilmeffmdgcblaa
/- Boxes of one value; what calls hand back together: rows, flags. -/
namespace Go.Proofs.Ytilmeffmdgcblaa
open Go Go.RowKit
set_option maxRecDepth 8000
set_option linter.all false
section
variable {P : Program} {w : World} {fn : Func} {tmps : Array Value}
theorem run_ldV_row {b n : Nat} {t ty : TypeId} {d : TypeDesc} {f : Nat → Value} (h : w.rowIs b t n f) (hu : P.underlying ty = some d) (hd : d.isRow = true) (hi : (P.info? ty).map (·.size) = some n) : (loadVar ty ⟨b, 0, none⟩).run P w = .ok (.agg (rowA n f)) w := by
  simpa using run_loadVar_mid (P := P) w b 0 ty (rowA n f).toList d (rangeAt_row h) hu hd (by rw [hi, rowA_toList]; simp)
theorem run_ldV_one {b : Nat} {t ty : TypeId} {v : Value} {d : TypeDesc} (h : w.rowIs b t 1 (fun _ => v)) (hu : P.underlying ty = some d) (hd : d.isRow = false) : (loadVar ty ⟨b, 0, none⟩).run P w = .ok v w := by
  have ha : (isAgg ty).run P w = .ok false w := by
    unfold isAgg
    rw [Sem.run_bind, run_underlying hu w]
    cases d <;> first | rfl | cases hd
  have hc := h.cell (i := 0) (by omega)
  simp only [loadVar, Sem.run_bind, ha, Result.andThen_ok, Bool.false_eq_true, if_false]
  simp [run_load, hc]
/-- A row, and a value of the frame. -/
theorem results_rt {p u : Tmp} {tp t : TypeId} {d : TypeDesc} {n b : Nat} {f : Nat → Value} {v : Value} (hf : fn.results = #[.cell p tp, .tmp u]) (hp : tmps.getD p undef = .pointer (some ⟨b, 0, none⟩)) (hv : tmps.getD u undef = v)
    (h : w.rowIs b t n f) (hu : P.underlying tp = some d) (hd : d.isRow = true) (hi : (P.info? tp).map (·.size) = some n) : (results fn tmps).run P w = .ok (.tuple #[.agg (rowA n f), v]) w := by
  have e1 := run_ldV_row (P := P) h hu hd hi
  have hp' : tmps[p]?.getD undef = .pointer (some ⟨b, 0, none⟩) := by simpa using hp
  have hv' : tmps[u]?.getD undef = v := by simpa using hv
  simp [results, hf, hp', hv', asAddr, e1]
variable {a : Act} {o : Oper} {K : Act → World → Prop} {Q : Exit → Act → World → Prop}
/-- One of the values that a call hands back together. -/
theorem opr_ext {k : Nat} {x : Operand} {vs : Array Value} {v : Value} (ho : o.op = .extract x k) (hx : a.eval x = .tuple vs) (hv : vs[k]? = some v) (h : K (a.put o.dst v) w) : o.wp P a w K Q := by
  obtain ⟨dst, op, type, pos, after, guard⟩ := o
  simp only at ho
  subst ho
  exact opr_val (s := Instr.extract (a.eval x) k) (by simp [execOp]) (by rw [hx]; simp [Instr.extract, hv]) h
end
end Go.Proofs.Ytilmeffmdgcblaa
/- Package saga's base: sagas in memory as rows, their fields, loads and stores; sets of steps as numbers; what a saga is behind a record, on plain numbers. -/
namespace Go.Proofs.Ytilmeffmdgcblaa
open Go Go.RowKit
set_option maxRecDepth 8000
set_option linter.all false
/-- A saga's numbers. -/
structure Sg where
  ph : Int
  at_ : Int
  tr : Int
  wt : Bool
  bk : Bool
  dn : Int
  un : Int
  so : Int
  sq : Int
def sgF (sv : Value) (g : Sg) : Nat → Value := saF sv g.ph g.at_ g.tr g.wt g.bk g.dn g.un g.so g.sq
def zG : Sg := ⟨0, 0, 0, false, false, 0, 0, 0, 0⟩
/-- How a saga stands, as its numbers. -/
def ofSt (s : St) (sq : Int) : Sg := ⟨s.ph, s.a, s.t, s.w, s.w && s.ph == 1, doneN s, undN s, someN s, sq⟩
theorem sgF_one (sv : Value) (g : Sg) (hs : sv.oneCell' = true) (i : Nat) : (sgF sv g i).oneCell' = true := saF_one _ _ _ _ _ _ _ _ _ _ hs i
section
variable (sv : Value) (g : Sg) (i : Nat) (hi : i < 10)
include hi
theorem gs_ph (z : Int) : sgF sv { g with ph := z } i = if i = 1 then .int .i64 z else sgF sv g i := ss_ph sv _ _ _ _ _ _ _ _ _ z i hi
theorem gs_at (z : Int) : sgF sv { g with at_ := z } i = if i = 2 then .int .i64 z else sgF sv g i := ss_at sv _ _ _ _ _ _ _ _ _ z i hi
theorem gs_tr (z : Int) : sgF sv { g with tr := z } i = if i = 3 then .int .i64 z else sgF sv g i := ss_tr sv _ _ _ _ _ _ _ _ _ z i hi
theorem gs_wt (z : Bool) : sgF sv { g with wt := z } i = if i = 4 then .bool z else sgF sv g i := ss_wt sv _ _ _ _ _ _ _ _ _ z i hi
theorem gs_bk (z : Bool) : sgF sv { g with bk := z } i = if i = 5 then .bool z else sgF sv g i := ss_bk sv _ _ _ _ _ _ _ _ _ z i hi
theorem gs_dn (z : Int) : sgF sv { g with dn := z } i = if i = 6 then .int .i64 z else sgF sv g i := ss_dn sv _ _ _ _ _ _ _ _ _ z i hi
theorem gs_un (z : Int) : sgF sv { g with un := z } i = if i = 7 then .int .i64 z else sgF sv g i := ss_un sv _ _ _ _ _ _ _ _ _ z i hi
theorem gs_so (z : Int) : sgF sv { g with so := z } i = if i = 8 then .int .i64 z else sgF sv g i := ss_so sv _ _ _ _ _ _ _ _ _ z i hi
theorem gs_sq (z : Int) : sgF sv { g with sq := z } i = if i = 9 then .int .i64 z else sgF sv g i := ss_sq sv _ _ _ _ _ _ _ _ _ z i hi
end
theorem put_allN (n : Nat) (F G : Nat → Value) : ∀ i, i < n → F i = if 0 ≤ i ∧ i < 0 + n then F (i - 0) else G i := fun i hi => by
  rw [if_pos (by omega), Nat.sub_zero]
/-- Sets of steps as the program reckons with them. -/
def orI (m n : Int) : Int := bits .or .i64 m n
def andI (m n : Int) : Int := bits .and .i64 m n
def notI (m n : Int) : Int := bits .andNot .i64 m n
def bitI (k : Int) : Int := 2 ^ k.toNat
theorem info_saga : (Try.prog.info? 48).map (·.size) = some 10 := by kernel_rfl
theorem run_alloc_saga (w : World) : (Instr.alloc 48 true (.tuple #[])).run Try.prog w = .ok (.pointer (some ⟨w.heap.size, 0, none⟩)) (w.alloc (.cells (rowA 10 (sgF (.slice none 0 0) zG)) 48)) := by kernel_rfl
theorem build_saga0 (w : World) : (Instr.build 48 #[]).run Try.prog w = .ok (.agg (rowA 10 (sgF (.slice none 0 0) zG))) w := by kernel_rfl
theorem build_saga (A : Option Addr) (n c : Nat) (w : World) : (Instr.build 48 #[(0, .slice A n c), (1, .int .i64 0), (9, .int .i64 1)]).run Try.prog w = .ok (.agg (rowA 10 (sgF (.slice A n c) (ofSt st0 1)))) w := by kernel_rfl
theorem run_zero_rec (w : World) : (zeroValue 46).run Try.prog w = .ok (.agg (rowA 109 (recF zR (.slice none 0 0) (.slice none 0 0)))) w := by kernel_rfl
theorem build_rec0 (w : World) : (Instr.build 46 #[]).run Try.prog w = .ok (.agg (rowA 109 (recF zR (.slice none 0 0) (.slice none 0 0)))) w := by kernel_rfl
theorem build_closed (e : Int) (w : World) : (Instr.build 46 #[(0, .int .i64 5), (7, .int .i64 e)]).run Try.prog w = .ok (.agg (rowA 109 (recF { zR with kind := 5, nd := e } (.slice none 0 0) (.slice none 0 0)))) w := by kernel_rfl
theorem build_intent (k t : Int) (b : Bool) (w : World) : (Instr.build 46 #[(0, .int .i64 2), (3, .int .i64 k), (4, .int .i64 t), (5, .bool b)]).run Try.prog w = .ok (.agg (rowA 109 (recF { zR with kind := 2, step := k, tr := t, back := b } (.slice none 0 0) (.slice none 0 0)))) w := by kernel_rfl
section
variable {a : Act} {w : World} {o : Oper} {K : Act → World → Prop} {Q : Exit → Act → World → Prop} {x y : Operand} {g : Nat} {t' : TypeId} {F : Nat → Value}
theorem opr_fldU0 (ho : o.op = .fieldAddr 48 x 0) (hx : a.eval x = .pointer (some ⟨g, 0, none⟩)) (h : K (a.put o.dst (.pointer (some ⟨g, 0, none⟩))) w) : o.wp Try.prog a w K Q := opr_fld Try.underlying48 rfl info_steps1 ho hx (by rfl) h
theorem opr_fldU1 (ho : o.op = .fieldAddr 48 x 1) (hx : a.eval x = .pointer (some ⟨g, 0, none⟩)) (h : K (a.put o.dst (.pointer (some ⟨g, 1, none⟩))) w) : o.wp Try.prog a w K Q := opr_fld Try.underlying48 rfl info_int ho hx (by rfl) h
theorem opr_fldU2 (ho : o.op = .fieldAddr 48 x 2) (hx : a.eval x = .pointer (some ⟨g, 0, none⟩)) (h : K (a.put o.dst (.pointer (some ⟨g, 2, none⟩))) w) : o.wp Try.prog a w K Q := opr_fld Try.underlying48 rfl info_int ho hx (by rfl) h
theorem opr_fldU3 (ho : o.op = .fieldAddr 48 x 3) (hx : a.eval x = .pointer (some ⟨g, 0, none⟩)) (h : K (a.put o.dst (.pointer (some ⟨g, 3, none⟩))) w) : o.wp Try.prog a w K Q := opr_fld Try.underlying48 rfl info_int ho hx (by rfl) h
theorem opr_fldU4 (ho : o.op = .fieldAddr 48 x 4) (hx : a.eval x = .pointer (some ⟨g, 0, none⟩)) (h : K (a.put o.dst (.pointer (some ⟨g, 4, none⟩))) w) : o.wp Try.prog a w K Q := opr_fld Try.underlying48 rfl info_bool ho hx (by rfl) h
theorem opr_fldU5 (ho : o.op = .fieldAddr 48 x 5) (hx : a.eval x = .pointer (some ⟨g, 0, none⟩)) (h : K (a.put o.dst (.pointer (some ⟨g, 5, none⟩))) w) : o.wp Try.prog a w K Q := opr_fld Try.underlying48 rfl info_bool ho hx (by rfl) h
theorem opr_fldU6 (ho : o.op = .fieldAddr 48 x 6) (hx : a.eval x = .pointer (some ⟨g, 0, none⟩)) (h : K (a.put o.dst (.pointer (some ⟨g, 6, none⟩))) w) : o.wp Try.prog a w K Q := opr_fld Try.underlying48 rfl info_int ho hx (by rfl) h
theorem opr_fldU7 (ho : o.op = .fieldAddr 48 x 7) (hx : a.eval x = .pointer (some ⟨g, 0, none⟩)) (h : K (a.put o.dst (.pointer (some ⟨g, 7, none⟩))) w) : o.wp Try.prog a w K Q := opr_fld Try.underlying48 rfl info_int ho hx (by rfl) h
theorem opr_fldU8 (ho : o.op = .fieldAddr 48 x 8) (hx : a.eval x = .pointer (some ⟨g, 0, none⟩)) (h : K (a.put o.dst (.pointer (some ⟨g, 8, none⟩))) w) : o.wp Try.prog a w K Q := opr_fld Try.underlying48 rfl info_int ho hx (by rfl) h
theorem opr_fldU9 (ho : o.op = .fieldAddr 48 x 9) (hx : a.eval x = .pointer (some ⟨g, 0, none⟩)) (h : K (a.put o.dst (.pointer (some ⟨g, 9, none⟩))) w) : o.wp Try.prog a w K Q := opr_fld Try.underlying48 rfl info_int ho hx (by rfl) h
theorem opr_ldU (hr : w.rowIs g t' 10 F) (ho : o.op = .load 48 x) (hx : a.eval x = .pointer (some ⟨g, 0, none⟩)) (h : K (a.put o.dst (.agg (rowA 10 F))) w) : o.wp Try.prog a w K Q :=
  opr_ldm Try.underlying48 rfl info_saga ho hx hr (by omega) (by rw [rowA_congr (g := F) fun i _ => by rw [Nat.zero_add]]; exact h)
theorem opr_orI {P : Program} {t t2 : TypeId} {m n : Int} (ho : o.op = .binOp .or t x y t2) (hx : a.eval x = .int .i64 m) (hy : a.eval y = .int .i64 n) (h : K (a.put o.dst (.int .i64 (orI m n))) w) : o.wp P a w K Q := by
  obtain ⟨dst, op, type, pos, after, guard⟩ := o
  simp only at ho
  subst ho
  refine opr_val (s := do eqGuard .or t x y (a.eval x) (a.eval y); binOp .or t (a.eval x) (a.eval y)) rfl ?_ h
  rw [hx, hy]; simp [go_sem]; rfl
theorem opr_andI {P : Program} {t t2 : TypeId} {m n : Int} (ho : o.op = .binOp .and t x y t2) (hx : a.eval x = .int .i64 m) (hy : a.eval y = .int .i64 n) (h : K (a.put o.dst (.int .i64 (andI m n))) w) : o.wp P a w K Q := by
  obtain ⟨dst, op, type, pos, after, guard⟩ := o
  simp only at ho
  subst ho
  refine opr_val (s := do eqGuard .and t x y (a.eval x) (a.eval y); binOp .and t (a.eval x) (a.eval y)) rfl ?_ h
  rw [hx, hy]; simp [go_sem]; rfl
theorem opr_notI {P : Program} {t t2 : TypeId} {m n : Int} (ho : o.op = .binOp .andNot t x y t2) (hx : a.eval x = .int .i64 m) (hy : a.eval y = .int .i64 n) (h : K (a.put o.dst (.int .i64 (notI m n))) w) : o.wp P a w K Q := by
  obtain ⟨dst, op, type, pos, after, guard⟩ := o
  simp only at ho
  subst ho
  refine opr_val (s := do eqGuard .andNot t x y (a.eval x) (a.eval y); binOp .andNot t (a.eval x) (a.eval y)) rfl ?_ h
  rw [hx, hy]; simp [go_sem]; rfl
/-- A place where a step lies, where a number lies. -/
def svStp (d : Int × Int) : SV NewT := ⟨fun v w => ∃ b o, v = .pointer (some ⟨b, o, none⟩) ∧ w.cell? ⟨b, o, none⟩ = some (.int .i64 d.1) ∧ w.cell? ⟨b, o + 1, none⟩ = some (.int .i64 d.2),
  fun _ _ _ ⟨b, o, h1, h2, h3⟩ hT => ⟨b, o, h1, (hT.out.cell (World.block_lt_of_cell? _ _ h2)).trans h2, (hT.out.cell (World.block_lt_of_cell? _ _ h3)).trans h3⟩⟩
def svIp (z : Int) : SV NewT := ⟨fun v w => ∃ b o, v = .pointer (some ⟨b, o, none⟩) ∧ w.cell? ⟨b, o, none⟩ = some (.int .i64 z),
  fun _ _ _ ⟨b, o, h1, h2⟩ hT => ⟨b, o, h1, (hT.out.cell (World.block_lt_of_cell? _ _ h2)).trans h2⟩⟩
theorem opr_idxSt {k : Nat} {z : Int} {l : List (Int × Int)} {d : Int × Int} (hd : k < l.length ∧ l.getD k (0, 0) = d) (hz : (k : Int) = z) (ho : o.op = .indexAddr 43 x y) (hx : RdP w (a.eval x) l) (hy : a.eval y = .int .i64 z) (h : ∀ v, (svStp d).pred v w → K (a.put o.dst v) w) : o.wp Try.prog a w K Q := by
  obtain ⟨A, c, hv, _, _, h3⟩ := hx
  obtain ⟨b, o1, rfl, hc⟩ := h3 (by omega)
  have hk := hc k hd.1
  rw [hd.2] at hk
  refine opr_idxS hd.1 ho hv (by rw [hy, hz]) (h _ ⟨b, o1 + 2 * k, rfl, hk⟩)
theorem opr_fldSt0 {d : Int × Int} (ho : o.op = .fieldAddr 58 x 0) (hx : (svStp d).pred (a.eval x) w) (h : ∀ v, (svIp d.1).pred v w → K (a.put o.dst v) w) : o.wp Try.prog a w K Q := by
  obtain ⟨b, o1, hv, h1, _⟩ := hx
  exact opr_fldS (k := 0) (by omega) ho hv (h _ ⟨b, o1 + 0, rfl, h1⟩)
theorem opr_fldSt1 {d : Int × Int} (ho : o.op = .fieldAddr 58 x 1) (hx : (svStp d).pred (a.eval x) w) (h : ∀ v, (svIp d.2).pred v w → K (a.put o.dst v) w) : o.wp Try.prog a w K Q := by
  obtain ⟨b, o1, hv, _, h1⟩ := hx
  exact opr_fldS (k := 1) (by omega) ho hv (h _ ⟨b, o1 + 1, rfl, h1⟩)
theorem opr_ldIp {z : Int} (ho : o.op = .load 3 x) (hx : (svIp z).pred (a.eval x) w) (h : K (a.put o.dst (.int .i64 z)) w) : o.wp Try.prog a w K Q := by
  obtain ⟨b, o1, hv, h1⟩ := hx
  exact opr_ld1 Try.underlying3 rfl ho hv h1 h
theorem opr_ldStp {d : Int × Int} (ho : o.op = .load 58 x) (hx : (svStp d).pred (a.eval x) w) (h : K (a.put o.dst (.agg (rowA 2 (stepF d)))) w) : o.wp Try.prog a w K Q := by
  obtain ⟨b, o1, hv, h1, h2⟩ := hx
  exact opr_ld2 h1 h2 ho hv h
end
end Go.Proofs.Ytilmeffmdgcblaa
/- What is due of a saga, whether a record goes, and the saga behind it: on plain numbers, as the program reckons. No program is named here. -/
namespace Go.Proofs.Ytilmeffmdgcblaa
open Go Go.RowKit
set_option maxRecDepth 8000
set_option linter.all false
def kdL (l : List (Int × Int)) (i : Nat) : Int := (l.getD i (0, 0)).2
/-- The last one, if any is. -/
def lastT (f : Nat → Bool) : Nat → Option Nat
  | 0 => none
  | n + 1 => if f n = true then some n else lastT f n
def opnI (g : Sg) : Int := notI (orI g.dn g.so) g.un
def isTg (l : List (Int × Int)) (op : Int) (i : Nat) : Bool := (kdL l i == 1) && (andI op (bitI i) != 0)
def tgtO (l : List (Int × Int)) (g : Sg) : Option Nat := lastT (isTg l (opnI g)) l.length
def oI : Option Nat → Int
  | some i => i
  | none => 0
def nextI (l : List (Int × Int)) (g : Sg) : Int := if g.ph = 1 then oI (tgtO l g) else if inR g.at_ 0 ((l.length : Int) - 1) = true then g.at_ else 0
def nextB (l : List (Int × Int)) (g : Sg) : Bool := if g.ph = 1 then (tgtO l g).isSome else inR g.at_ 0 ((l.length : Int) - 1)
def overB (p : Int) : Bool := (p == 2 || p == 3) || p == 4
def clR (e : Int) : Rc := { zR with kind := 5, nd := e }
def inG (lim : Int) (g : Sg) : Bool := !((!inR lim 1 9 || g.wt) || overB g.ph)
def dueX (l : List (Int × Int)) (lim : Int) (g : Sg) : Rc :=
  if inG lim g = true then
    (if nextB l g = true then (if g.tr < lim then { zR with kind := 2, step := nextI l g, tr := g.tr + 1, back := g.ph == 1 } else clR 4)
     else if g.ph = 1 then clR 3 else clR 2)
  else zR
def isDueB (l : List (Int × Int)) (lim : Int) (g : Sg) (x : Rc) : Bool :=
  ((((inG lim g && x.kind == (dueX l lim g).kind) && x.step == (dueX l lim g).step) && x.tr == (dueX l lim g).tr) && x.back == (dueX l lim g).back) && x.nd == (dueX l lim g).nd
def isOutB (l : List (Int × Int)) (g : Sg) (x : Rc) : Bool := (((g.wt && nextB l g) && x.step == nextI l g) && x.tr == g.tr) && x.back == g.bk
def fitsB (l : List (Int × Int)) (lim : Int) (g : Sg) (x : Rc) : Bool :=
  if x.kind = 2 ∨ x.kind = 5 then isDueB l lim g x else if x.kind = 3 ∨ x.kind = 4 then isOutB l g x else false
def turnG (g : Sg) : Sg := { g with ph := 1, tr := 0 }
def wellG (g : Sg) (b : Bool) (k : Int) : Sg := if b = true then { g with tr := 0, un := orI g.un (bitI k) } else { g with tr := 0, dn := orI g.dn (bitI k), so := notI g.so (bitI k), at_ := g.at_ + 1 }
def refG (l : List (Int × Int)) (g : Sg) (k : Int) : Sg := if kdL l k.toNat = 3 then g else turnG { g with so := notI g.so (bitI k) }
def lapG (l : List (Int × Int)) (lim : Int) (g : Sg) (b : Bool) (k : Int) : Sg :=
  if b = true then g else if kdL l k.toNat = 1 ∧ g.tr = lim then turnG { g with so := orI g.so (bitI k) } else { g with so := orI g.so (bitI k) }
def begG (g : Sg) (x : Rc) : Sg := { g with sq := g.sq + 1, wt := x.kind == 2, bk := x.kind == 2 && x.back }
def behG (l : List (Int × Int)) (lim : Int) (g : Sg) (x : Rc) : Sg :=
  if x.kind = 2 then { begG g x with tr := x.tr } else if x.kind = 5 then { begG g x with ph := x.nd }
  else if x.kind = 3 then (if x.good = true then wellG (begG g x) x.back x.step else if x.back = false then refG l (begG g x) x.step else lapG l lim (begG g x) x.back x.step)
  else if x.kind = 4 then lapG l lim (begG g x) x.back x.step else begG g x
def goesB (l : List (Int × Int)) (lim : Int) (g : Sg) (x : Rc) : Bool := !((!inR lim 1 9 || x.seq != g.sq) || !fitsB l lim g x)
def wentG (l : List (Int × Int)) (lim : Int) (g : Sg) (x : Rc) : Sg := if goesB l lim g x = true then behG l lim g x else g
/-- Numbers that are small enough. -/
structure OkG (l : List (Int × Int)) (g : Sg) : Prop where
  len : 1 ≤ l.length ∧ l.length ≤ 6
  at_ : 0 ≤ g.at_ ∧ g.at_ ≤ 6
  tr : 0 ≤ g.tr ∧ g.tr ≤ 9
  sq : 0 ≤ g.sq ∧ g.sq ≤ 1000000
end Go.Proofs.Ytilmeffmdgcblaa
/- Whether steps may be a saga's: on lists, step by step, as the program asks and as the document has it; new sagas; sets of steps asked by halving. No program is named here. -/
namespace Go.Proofs.Ytilmeffmdgcblaa
open Go Go.RowKit
set_option maxRecDepth 8000
set_option linter.all false
def ptL (l : List (Int × Int)) (i : Nat) : Int := (l.getD i (0, 0)).1
/-- May a step stand there? -/
def stepMay (l : List (Int × Int)) (i : Nat) : Bool := decide ((0 ≤ ptL l i ∧ ptL l i ≤ 3) ∧ (1 ≤ kdL l i ∧ kdL l i ≤ 3) ∧ (0 < i → kdL l (i - 1) ≤ kdL l i ∧ ¬ (kdL l i = 2 ∧ kdL l (i - 1) = 2)))
def upMay (l : List (Int × Int)) (k : Nat) : Bool := (List.range k).all (stepMay l)
def mayL (l : List (Int × Int)) : Bool := inR (l.length : Int) 1 6 && upMay l l.length
theorem upMay_iff (l : List (Int × Int)) (k : Nat) : upMay l k = true ↔ ∀ i, i < k → stepMay l i = true := by simp [upMay]
theorem upMay_succ (l : List (Int × Int)) (k : Nat) : upMay l (k + 1) = (upMay l k && stepMay l k) := by simp [upMay, List.range_succ]
theorem upMay_no {l : List (Int × Int)} {k n : Nat} (hk : k < n) (h : stepMay l k = false) : upMay l n = false := by
  cases hu : upMay l n with
  | false => rfl
  | true => rw [(upMay_iff l n).1 hu k hk] at h; cases h
def leastN (l : List (Int × Int)) (k : Nat) : Int := if k = 0 then 1 else if kdL l (k - 1) = 2 then 3 else kdL l (k - 1)
theorem step_prog {l : List (Int × Int)} {k : Nat} (h : upMay l k = true) : (!inR (ptL l k) 0 3 || !inR (kdL l k) (leastN l k) 3) = !stepMay l k := by
  have hp : 0 < k → 1 ≤ kdL l (k - 1) ∧ kdL l (k - 1) ≤ 3 := fun hk => by
    have := (upMay_iff l k).1 h (k - 1) (by omega)
    unfold stepMay at this
    have := of_decide_eq_true this
    exact this.2.1
  cases hs : stepMay l k with
  | true =>
    unfold stepMay at hs
    have hs := of_decide_eq_true hs
    have e1 : inR (ptL l k) 0 3 = true := (inR_iff _ _ _).2 hs.1
    have e2 : inR (kdL l k) (leastN l k) 3 = true := (inR_iff _ _ _).2 (by
      refine ⟨?_, hs.2.1.2⟩
      unfold leastN
      split
      · exact hs.2.1.1
      · have := hs.2.2 (by omega)
        have := hp (by omega)
        split <;> omega)
    rw [e1, e2]; rfl
  | false =>
    cases e1 : inR (ptL l k) 0 3 with
    | false => rfl
    | true =>
      cases e2 : inR (kdL l k) (leastN l k) 3 with
      | false => rfl
      | true =>
        exfalso
        have h1 := (inR_iff _ _ _).1 e1
        have h2 := (inR_iff _ _ _).1 e2
        unfold stepMay at hs
        refine of_decide_eq_false hs ⟨h1, ?_, fun hk => ?_⟩
        · unfold leastN at h2
          split at h2
          · exact h2
          · have := hp (by omega)
            split at h2 <;> omega
        · have := hp hk
          unfold leastN at h2
          rw [if_neg (by omega)] at h2
          split at h2 <;> omega
theorem least_next (l : List (Int × Int)) (k : Nat) : leastN l (k + 1) = if kdL l k = 2 then 3 else kdL l k := by
  unfold leastN
  rw [if_neg (by omega), Nat.add_sub_cancel]
theorem may_len {l : List (Int × Int)} (h : mayL l = true) : 1 ≤ l.length ∧ l.length ≤ 6 := by
  unfold mayL at h
  rw [Bool.and_eq_true] at h
  have := (inR_iff _ _ _).1 h.1
  omega
theorem may_step {l : List (Int × Int)} (h : mayL l = true) {i : Nat} (hi : i < l.length) : (0 ≤ ptL l i ∧ ptL l i ≤ 3) ∧ (1 ≤ kdL l i ∧ kdL l i ≤ 3) ∧ (0 < i → kdL l (i - 1) ≤ kdL l i ∧ ¬ (kdL l i = 2 ∧ kdL l (i - 1) = 2)) := by
  unfold mayL at h
  rw [Bool.and_eq_true] at h
  have := (upMay_iff l l.length).1 h.2 i hi
  unfold stepMay at this
  exact of_decide_eq_true this
/-- The kinds of steps that may be. -/
theorem may_kinds {l : List (Int × Int)} (h : mayL l = true) : MayK (l.map (·.2)) := by
  have hl := may_len h
  have e : ∀ i, (l.map (·.2)).getD i 0 = kdL l i := fun i => by
    unfold kdL
    simp only [List.getD, List.getElem?_map]
    cases l[i]? <;> rfl
  refine ⟨by simpa using hl.1, by simpa using hl.2, fun i hi => ?_, fun i hi => ?_⟩
  · rw [e]; exact (may_step h (by simpa using hi)).2.1
  · rw [e, e]
    have := (may_step h (i := i + 1) (by simpa using hi)).2.2 (by omega)
    rw [Nat.add_sub_cancel] at this
    exact ⟨this.1, fun ⟨a, b⟩ => this.2 ⟨b, a⟩⟩
theorem kd_map (l : List (Int × Int)) (i : Nat) : kd (l.map (·.2)) i = kdL l i := by
  unfold kd kdL
  simp only [List.getD, List.getElem?_map]
  cases l[i]? <;> rfl
def newG (l : List (Int × Int)) : Sg := if mayL l = true then ofSt st0 1 else zG
def newL (l : List (Int × Int)) : List (Int × Int) := if mayL l = true then l else []
/-- A value that is a saga, its steps in a block from B on. -/
def SgV (w : World) (v : Value) (l : List (Int × Int)) (g : Sg) : Prop := ∃ sv, v = .agg (rowA 10 (sgF sv g)) ∧ RdP w sv l
theorem NewT.sgV {w w' : World} (h : NewT w w') {v : Value} {l : List (Int × Int)} {g : Sg} (hr : SgV w v l g) : SgV w' v l g := by
  obtain ⟨sv, h1, h2⟩ := hr
  exact ⟨sv, h1, h.pairs h2⟩
def svSg (l : List (Int × Int)) (g : Sg) : SV NewT := ⟨fun v w => SgV w v l g, fun _ _ _ h hT => hT.sgV h⟩
end Go.Proofs.Ytilmeffmdgcblaa
/- Package saga: ranges, bits, ends, whether one is over, what is missing, one that turns back. -/
namespace Go.Proofs.Ytilmeffmdgcblaa
open Go Go.RowKit
set_option maxRecDepth 8000
set_option linter.all false
attribute [local go_sem] run_zero_rec
set_option maxHeartbeats 1000000 in
theorem gWithin_cv (n lo hi : Int) (w : World) : Cv 50 #[.int .i64 n, .int .i64 lo, .int .i64 hi] w (.eq (.bool (inR n lo hi))) := by
  unfold Cv
  go_enter Try.func50, Try.ntmps50
  go_upto_region 1 with fail
  obtain ⟨q1_1, Q1_1⟩ : ∃ bq_, ((decide (lo ≤ n)) && (decide (n ≤ hi))) = bq_ := ⟨_, rfl⟩
  refine wp_region_steps0 NewT [SV.eq (.int .i64 (lo)), SV.eq (.int .i64 (n)), SV.eq (.bool (decide (lo ≤ n))), SV.eq (.bool (decide (lo ≤ n))), svIf (decide (lo ≤ n)) (SV.eq (.int .i64 (n))), svIf (decide (lo ≤ n)) (SV.eq (.int .i64 (hi))), svIf (decide (lo ≤ n)) (SV.eq (.bool (decide (n ≤ hi)))), SV.eq (.bool (q1_1)), SV.eq (.bool (q1_1))] [([(1, none)], none), ([(0, none)], none), ([(7, some 0), (8, some 1)], none), ([(9, some 2)], none), ([(0, none), (10, some 3)], some (10, true)), ([(2, none), (10, some 3)], some (10, true)), ([(11, some 4), (12, some 5), (10, some 3)], some (10, true)), ([(10, some 3), (13, some 6)], none), ([(14, some 7)], none)] 15 9 rfl rfl (by kernel_rfl) NewT.trans (NewT.refl _) (Nat.le_of_ble_eq_true rfl) ⟨?_, ?_, ?_, ?_, ?_, ?_, ?_, ?_, ?_, trivial⟩ ?_
  · exact fun a wx hT hF K hK => rely_wp rfl (opr_move (.inl rfl) (hK _ _ (NewT.refl _) hF.1))
  · exact fun a wx hT hF K hK => rely_wp rfl (opr_move (.inl rfl) (hK _ _ (NewT.refl _) hF.1))
  · exact fun a wx hT hF K hK => rely_wp rfl (opr_cmp (b := decide (lo ≤ n)) (.inr (.inr (.inl ⟨rfl, rfl⟩))) Try.underlying3 rfl hF.1 hF.2.1 (hK _ _ (NewT.refl _) rfl))
  · exact fun a wx hT hF K hK => rely_wp rfl (opr_move (.inl rfl) (hK _ _ (NewT.refl _) hF.1))
  · exact fun a wx hT hF K hK => rely_if (rely_gt hF.2.1) (NewT.refl _) hK fun hE hK => opr_move (.inl rfl) (hK _ _ (NewT.refl _) hF.1)
  · exact fun a wx hT hF K hK => rely_if (rely_gt hF.2.1) (NewT.refl _) hK fun hE hK => opr_move (.inl rfl) (hK _ _ (NewT.refl _) hF.1)
  · exact fun a wx hT hF K hK => rely_if (rely_gt hF.2.2.1) (NewT.refl _) hK fun hE hK => opr_cmp (b := decide (n ≤ hi)) (.inr (.inr (.inl ⟨rfl, rfl⟩))) Try.underlying3 rfl (hF.1 hE) (hF.2.1 hE) (hK _ _ (NewT.refl _) rfl)
  · exact fun a wx hT hF K hK => rely_wp rfl (opr_pick_b rfl hF.1 (fun hb => hK _ _ (NewT.refl _) (pn_and1 Q1_1 (hF.2.1 hb) hb)) (fun hb => hK _ _ (NewT.refl _) (pn_and0 Q1_1 hb)))
  · exact fun a wx hT hF K hK => rely_wp rfl (opr_move (.inr rfl) (hK _ _ (NewT.refl _) hF.1))
  · intro wx hT
    iterate 4 (intro u h; obtain rfl := Eq.symm (h (by simp)); clear h)
    iterate 3 (intro _ _)
    iterate 2 (intro u h; obtain rfl := Eq.symm (h (by simp)); clear h)
    subst Q1_1
    refine relyEnd_nil rfl ?_
    refine wpList_end rfl ?_
    simp only [Act.put, List.setIfInBounds_toArray, List.set_cons_zero, List.set_cons_succ]
    go_simp
    go_wp2
    go_ret
    exact ⟨_, rfl, hT, rfl⟩
set_option maxHeartbeats 1000000 in
theorem gLimit_cv (n : Int) (w : World) : Cv 37 #[.int .i64 n] w (.eq (.bool (inR n 1 9))) := by
  unfold Cv
  go_enter Try.func37, Try.ntmps37
  go_upto_region 1 with fail
  refine wp_region_steps0 NewT [SV.eq (.int .i64 (n)), SV.eq (.bool (inR n 1 9)), SV.eq (.bool (inR n 1 9))] [([(0, none)], none), ([(3, some 0)], none), ([(4, some 1)], none)] 5 3 rfl rfl (by kernel_rfl) NewT.trans (NewT.refl _) (Nat.le_of_ble_eq_true rfl) ⟨?_, ?_, ?_, trivial⟩ ?_
  · exact fun a wx hT hF K hK => rely_wp rfl (opr_move (.inl rfl) (hK _ _ (NewT.refl _) hF.1))
  · exact fun a wx hT hF K hK => rely_wp rfl (opr_cv (gWithin_cv n 1 9 wx) rfl Try.func50 (by kernel_rfl) (by kernel_rfl) (evs3 hF.1 rfl rfl) hK)
  · exact fun a wx hT hF K hK => rely_wp rfl (opr_move (.inr rfl) (hK _ _ (NewT.refl _) hF.1))
  · intro wx hT
    iterate 3 (intro u h; obtain rfl := Eq.symm (h (by simp)); clear h)
    refine relyEnd_nil rfl ?_
    refine wpList_end rfl ?_
    simp only [Act.put, List.setIfInBounds_toArray, List.set_cons_zero, List.set_cons_succ]
    go_simp
    go_wp2
    go_ret
    exact ⟨_, rfl, hT, rfl⟩
set_option maxHeartbeats 1000000 in
theorem gBit_cv (k : Int) (w : World) (hk : 0 ≤ k ∧ k < 6) : Cv 65 #[.int .i64 k] w (.eq (.int .i64 (bitI k))) := by
  unfold Cv
  have h : k = 0 ∨ k = 1 ∨ k = 2 ∨ k = 3 ∨ k = 4 ∨ k = 5 := by omega
  clear hk
  rcases h with rfl | rfl | rfl | rfl | rfl | rfl
  all_goals
    go_enter Try.func65, Try.ntmps65
    go_wp2
    go_ret
    exact ⟨_, rfl, NewT.refl _, rfl⟩
set_option maxHeartbeats 1000000 in
theorem gClosed_cv (n : Int) (w : World) : Cv 75 #[.int .i64 n] w (.eq (.agg (rowA 109 (recF (clR n) (.slice none 0 0) (.slice none 0 0))))) := by
  unfold Cv
  go_enter Try.func75, Try.ntmps75
  go_upto_region 1 with fail
  have r_g1 := rowIs_box w 46 109 (recF zR (.slice none 0 0) (.slice none 0 0))
  have hN : NewT w (w.alloc (.cells (rowA 109 (recF zR (.slice none 0 0) (.slice none 0 0))) 46)) := NewT.alloc _ _
  change Code.wp _ _ _ _ (w.alloc (.cells (rowA 109 (recF zR (.slice none 0 0) (.slice none 0 0))) 46))
  generalize (w.alloc (.cells (rowA 109 (recF zR (.slice none 0 0) (.slice none 0 0))) 46)) = W0 at r_g1 hN ⊢
  obtain ⟨g1, h_g1⟩ : ∃ g_, w.heap.size = g_ := ⟨_, rfl⟩
  have HG : Hid (w.heap.size ≤ g1) := Lib.hid (by omega)
  rw [h_g1] at r_g1
  simp only [h_g1]
  have Rg1 := Lib.hid r_g1
  have HM := Lib.hid hN
  clear r_g1 hN h_g1
  go_upto_region 1 with fail
  refine wp_region_steps0 NewT [SV.eq (.int .i64 (n)), SV.eq ((.agg (rowA 109 (recF (clR n) (.slice none 0 0) (.slice none 0 0)))))] [([(0, none)], none), ([(3, some 0)], none)] 5 2 rfl rfl (by kernel_rfl) NewT.trans (NewT.refl _) (Nat.le_of_ble_eq_true rfl) ⟨?_, ?_, trivial⟩ ?_
  · exact fun a wx hT hF K hK => rely_wp rfl (opr_move (.inl rfl) (hK _ _ (NewT.refl _) hF.1))
  · intro a wx hT hF K hK
    obtain ⟨f3, _⟩ := hF
    have f3 : a.tmps.getD 3 undef = .int .i64 (n) := f3
    refine rely_wp rfl ?_
    exact opr_build (pv := #[(0, .int .i64 5), (7, .int .i64 n)]) rfl (by simp only [List.map_toArray, List.map_cons, List.map_nil, eval_tmp, eval_const, f3]) (build_closed n wx) (hK _ _ (NewT.refl _) rfl)
  · intro w1 k1
    iterate 2 (intro u h; obtain rfl := Eq.symm (h (by simp)); clear h)
    refine relyEnd_nil rfl ?_
    simp only [Act.put, List.setIfInBounds_toArray, List.set_cons_zero, List.set_cons_succ]
    refine wpList_plain rfl (fun K hK => ?_)
    refine opr_putm (g := g1) (o0 := 0) (m := 109) (f := recF (clR n) (.slice none 0 0) (.slice none 0 0)) (F := recF (clR n) (.slice none 0 0) (.slice none 0 0)) rfl rfl rfl (k1.row Rg1.out) (by decide) info_rec (recF_one _ _ _ rfl rfl) (put_allN _ _ _) ?_
    intro W1 hR1 rr1
    refine hK _ _ ?_
    clear hK K
    refine wpList_end rfl ?_
    simp only [Act.put, List.setIfInBounds_toArray, List.set_cons_zero, List.set_cons_succ]
    go_simp
    replace Rg1 := Lib.hid rr1
    replace HM := Lib.hid (NewT.rt (NewT.trans _ _ _ HM.out k1) hR1 (by have h_0 := HG.out; omega))
    clear k1 hR1 rr1
    go_wp2
    exact bodyPost_ret (results_agg rfl _ rfl Rg1.out Try.underlying46 rfl info_rec) rfl ⟨_, rfl, HM.out, rfl⟩
set_option maxHeartbeats 1000000 in
theorem Over_cv (sv : Value) (g : Sg) (w : World) : Cv 74 #[.agg (rowA 10 (sgF sv g))] w (.eq (.bool (overB g.ph))) := by
  unfold Cv
  go_enter Try.func74, Try.ntmps74
  go_upto_region 1 with fail
  have r_g1 := rowIs_box w 48 10 (sgF sv g)
  have hN : NewT w (w.alloc (.cells (rowA 10 (sgF sv g)) 48)) := NewT.alloc _ _
  change Code.wp _ _ _ _ (w.alloc (.cells (rowA 10 (sgF sv g)) 48))
  generalize (w.alloc (.cells (rowA 10 (sgF sv g)) 48)) = W0 at r_g1 hN ⊢
  obtain ⟨g1, h_g1⟩ : ∃ g_, w.heap.size = g_ := ⟨_, rfl⟩
  have HG : Hid (w.heap.size ≤ g1) := Lib.hid (by omega)
  rw [h_g1] at r_g1
  simp only [h_g1]
  have Rg1 := Lib.hid r_g1
  have HM := Lib.hid hN
  clear r_g1 hN h_g1
  have c1 : W0.cell? ⟨g1, 1, none⟩ = some (.int .i64 g.ph) := Rg1.out.cell (i := 1) (by omega)
  cases h2 : (g.ph == 2)
  · cases h3 : (g.ph == 3)
    · cases h4 : (g.ph == 4)
      · go_wp2
        go_ret
        exact ⟨_, rfl, HM.out, by show _ = Value.bool _; unfold overB; simp only [h2, h3, h4]; rfl⟩
      · go_wp2
        go_ret
        exact ⟨_, rfl, HM.out, by show _ = Value.bool _; unfold overB; simp only [h2, h3, h4]; rfl⟩
    · go_wp2
      go_ret
      exact ⟨_, rfl, HM.out, by show _ = Value.bool _; unfold overB; simp only [h2, h3]; rfl⟩
  · go_wp2
    go_ret
    exact ⟨_, rfl, HM.out, by show _ = Value.bool _; unfold overB; simp only [h2]; rfl⟩
def missG (g : Sg) : Int := if (g.ph == 2) = true then 0 else notI g.dn g.un
set_option maxHeartbeats 1000000 in
theorem Missing_cv (sv : Value) (g : Sg) (w : World) : Cv 26 #[.agg (rowA 10 (sgF sv g))] w (.eq (.int .i64 (missG g))) := by
  unfold Cv
  go_enter Try.func26, Try.ntmps26
  go_upto_region 1 with fail
  have r_g1 := rowIs_box w 48 10 (sgF sv g)
  have hN : NewT w (w.alloc (.cells (rowA 10 (sgF sv g)) 48)) := NewT.alloc _ _
  change Code.wp _ _ _ _ (w.alloc (.cells (rowA 10 (sgF sv g)) 48))
  generalize (w.alloc (.cells (rowA 10 (sgF sv g)) 48)) = W0 at r_g1 hN ⊢
  obtain ⟨g1, h_g1⟩ : ∃ g_, w.heap.size = g_ := ⟨_, rfl⟩
  have HG : Hid (w.heap.size ≤ g1) := Lib.hid (by omega)
  rw [h_g1] at r_g1
  simp only [h_g1]
  have Rg1 := Lib.hid r_g1
  have HM := Lib.hid hN
  clear r_g1 hN h_g1
  cases h2 : (g.ph == 2)
  · skip
    have c1 : W0.cell? ⟨g1, 1, none⟩ = some (.int .i64 g.ph) := Rg1.out.cell (i := 1) (by omega)
    go_upto_region 3 with fail
    clear c1
    refine wp_region_steps0 NewT [SV.eq (.pointer (some ⟨g1, 6, none⟩)), SV.eq (.int .i64 (g.dn)), SV.eq (.pointer (some ⟨g1, 7, none⟩)), SV.eq (.int .i64 (g.un)), SV.eq (.int .i64 (notI g.dn g.un)), SV.eq (.int .i64 (notI g.dn g.un))] [([(1, none)], none), ([(6, some 0)], none), ([(1, none)], none), ([(8, some 2)], none), ([(7, some 1), (9, some 3)], none), ([(10, some 4)], none)] 11 6 rfl rfl (by kernel_rfl) NewT.trans (NewT.refl _) (Nat.le_of_ble_eq_true rfl) ⟨?_, ?_, ?_, ?_, ?_, ?_, trivial⟩ ?_
    · exact fun a wx hT hF K hK => rely_wp rfl (opr_fldU6 rfl hF.1 (hK _ _ (NewT.refl _) rfl))
    · exact fun a wx hT hF K hK => rely_wp rfl (opr_ldI (hT.row Rg1.out) (by decide) rfl rfl hF.1 (hK _ _ (NewT.refl _) rfl))
    · exact fun a wx hT hF K hK => rely_wp rfl (opr_fldU7 rfl hF.1 (hK _ _ (NewT.refl _) rfl))
    · exact fun a wx hT hF K hK => rely_wp rfl (opr_ldI (hT.row Rg1.out) (by decide) rfl rfl hF.1 (hK _ _ (NewT.refl _) rfl))
    · exact fun a wx hT hF K hK => rely_wp rfl (opr_notI rfl hF.1 hF.2.1 (hK _ _ (NewT.refl _) rfl))
    · exact fun a wx hT hF K hK => rely_wp rfl (opr_move (.inr rfl) (hK _ _ (NewT.refl _) hF.1))
    · intro w1 k1
      iterate 6 (intro u h; obtain rfl := Eq.symm (h (by simp)); clear h)
      refine relyEnd_nil rfl ?_
      refine wpList_end rfl ?_
      simp only [Act.put, List.setIfInBounds_toArray, List.set_cons_zero, List.set_cons_succ]
      go_simp
      replace Rg1 := Lib.hid (k1.row Rg1.out)
      replace HM := Lib.hid (NewT.trans _ _ _ HM.out k1)
      clear k1
      go_wp2
      go_ret
      exact ⟨_, rfl, HM.out, by show _ = Value.int _ _; unfold missG; rw [h2]; rfl⟩
  · skip
    have c1 : W0.cell? ⟨g1, 1, none⟩ = some (.int .i64 g.ph) := Rg1.out.cell (i := 1) (by omega)
    go_wp2
    go_ret
    exact ⟨_, rfl, HM.out, by show _ = Value.int _ _; unfold missG; rw [h2]; rfl⟩
set_option maxHeartbeats 1000000 in
theorem turned_cv (sv : Value) (g : Sg) (w : World) (hs : sv.oneCell' = true) : Cv 66 #[.agg (rowA 10 (sgF sv g))] w (.eq (.agg (rowA 10 (sgF sv (turnG g))))) := by
  unfold Cv
  go_enter Try.func66, Try.ntmps66
  go_upto_region 1 with fail
  have r_g1 := (rowIs_box w 48 10 (sgF sv g)).alloc (.cells (rowA 10 (sgF (.slice none 0 0) zG)) 48)
  have r_g2 := rowIs_box (w.alloc (.cells (rowA 10 (sgF sv g)) 48)) 48 10 (sgF (.slice none 0 0) zG)
  rw [World.size_alloc] at r_g2
  have hN : NewT w ((w.alloc (.cells (rowA 10 (sgF sv g)) 48)).alloc (.cells (rowA 10 (sgF (.slice none 0 0) zG)) 48)) := (NewT.trans _ _ _ (NewT.alloc _ _) (NewT.alloc _ _))
  change Code.wp _ _ _ _ ((w.alloc (.cells (rowA 10 (sgF sv g)) 48)).alloc (.cells (rowA 10 (sgF (.slice none 0 0) zG)) 48))
  generalize ((w.alloc (.cells (rowA 10 (sgF sv g)) 48)).alloc (.cells (rowA 10 (sgF (.slice none 0 0) zG)) 48)) = W0 at r_g1 r_g2 hN ⊢
  obtain ⟨g1, h_g1⟩ : ∃ g_, w.heap.size = g_ := ⟨_, rfl⟩
  obtain ⟨g2, h_g2⟩ : ∃ g_, w.heap.size + 1 = g_ := ⟨_, rfl⟩
  have HG : Hid (w.heap.size ≤ g1 ∧ g1 < g2) := Lib.hid (by omega)
  rw [h_g1] at r_g1
  rw [h_g2] at r_g2
  try rw [h_g2]
  simp only [h_g1]
  have Rg1 := Lib.hid r_g1
  have Rg2 := Lib.hid r_g2
  have HM := Lib.hid hN
  clear r_g1 r_g2 hN h_g1 h_g2
  refine wp_region_lit ?_
  refine wpList_plain rfl (fun K hK => ?_)
  refine opr_fldU1 rfl rfl (hK _ _ ?_)
  clear hK K
  simp only [Act.put, List.setIfInBounds_toArray, List.set_cons_zero, List.set_cons_succ]
  refine wpList_plain rfl (fun K hK => ?_)
  refine opr_put1 (g := g1) (o0 := 1) (v := .int .i64 1) (F := sgF sv { g with ph := 1 }) rfl rfl rfl Rg1.out (by decide) info_i1 rfl (fun i hi => gs_ph sv g i hi 1) ?_
  intro Wa hRa ra
  refine hK _ _ ?_
  clear hK K
  simp only [Act.put, List.setIfInBounds_toArray, List.set_cons_zero, List.set_cons_succ]
  refine wpList_plain rfl (fun K hK => ?_)
  refine opr_fldU3 rfl rfl (hK _ _ ?_)
  clear hK K
  simp only [Act.put, List.setIfInBounds_toArray, List.set_cons_zero, List.set_cons_succ]
  refine wpList_plain rfl (fun K hK => ?_)
  refine opr_put1 (g := g1) (o0 := 3) (v := .int .i64 0) (F := sgF sv (turnG g)) rfl rfl rfl ra (by decide) info_i1 rfl (fun i hi => gs_tr sv { g with ph := 1 } i hi 0) ?_
  intro Wb hRb rb
  refine hK _ _ ?_
  clear hK K
  refine wpList_end rfl ?_
  simp only [Act.put, List.setIfInBounds_toArray, List.set_cons_zero, List.set_cons_succ]
  go_simp
  have hR := RT.trans _ _ _ hRa hRb
  replace Rg1 := Lib.hid rb
  replace Rg2 := Lib.hid (hR.row (by have h_0 := HG.out; omega) Rg2.out)
  replace HM := Lib.hid (HM.out.rt hR (by have h_0 := HG.out; omega))
  clear hRa hRb ra rb hR
  go_upto_region 2 with fail
  refine wp_region_steps0 NewT [SV.eq (.agg (rowA 10 (sgF sv ((turnG g)))))] [([(1, none)], none)] 6 1 rfl rfl (by kernel_rfl) NewT.trans (NewT.refl _) (Nat.le_of_ble_eq_true rfl) ⟨?_, trivial⟩ ?_
  · exact fun a wx hT hF K hK => rely_wp rfl (opr_ldU (hT.row Rg1.out) rfl hF.1 (hK _ _ (NewT.refl _) rfl))
  · intro w1 k1
    intro u h; obtain rfl := Eq.symm (h (by simp)); clear h
    refine relyEnd_nil rfl ?_
    simp only [Act.put, List.setIfInBounds_toArray, List.set_cons_zero, List.set_cons_succ]
    refine wpList_plain rfl (fun K hK => ?_)
    refine opr_putm (g := g2) (o0 := 0) (m := 10) (f := sgF sv (turnG g)) (F := sgF sv (turnG g)) rfl rfl rfl (k1.row Rg2.out) (by decide) info_saga (sgF_one _ _ hs) (put_allN _ _ _) ?_
    intro W1 hR1 rr1
    refine hK _ _ ?_
    clear hK K
    refine wpList_end rfl ?_
    simp only [Act.put, List.setIfInBounds_toArray, List.set_cons_zero, List.set_cons_succ]
    go_simp
    replace Rg2 := Lib.hid rr1
    replace Rg1 := Lib.hid (hR1.row (by have h_0 := HG.out; omega) (k1.row Rg1.out))
    replace HM := Lib.hid (NewT.rt (NewT.trans _ _ _ HM.out k1) hR1 (by have h_0 := HG.out; omega))
    clear k1 hR1 rr1
    go_wp2
    exact bodyPost_ret (results_agg rfl _ rfl Rg2.out Try.underlying48 rfl info_saga) rfl ⟨_, rfl, HM.out, rfl⟩
end Go.Proofs.Ytilmeffmdgcblaa
/- Package saga: the saga behind a Receipt, behind a Lapse. -/
namespace Go.Proofs.Ytilmeffmdgcblaa
open Go Go.RowKit
set_option maxRecDepth 8000
set_option linter.all false
set_option maxHeartbeats 4000000 in
theorem wentWell_cv (sv : Value) (l : List (Int × Int)) (g : Sg) (x : Rc) (v : Value) (w : World) (hs : RdP w sv l) (hx : RecV w v x) (hk : 0 ≤ x.step ∧ x.step < 6) (ha : 0 ≤ g.at_ ∧ g.at_ ≤ 6) : Cv 53 #[.agg (rowA 10 (sgF sv g)), v] w (.eq (.agg (rowA 10 (sgF sv (wellG g x.back x.step))))) := by
  obtain ⟨su, dv, rfl, hsx, hdx⟩ := hx
  have HX : Hid (RecV w (.agg (rowA 109 (recF x su dv))) x) := Lib.hid ⟨su, dv, rfl, hsx, hdx⟩
  have HSX := Lib.hid hsx
  have HD := Lib.hid hdx
  clear hsx hdx
  unfold Cv
  have HS := Lib.hid hs
  have HK6 := Lib.hid hk
  have HAT := Lib.hid ha
  clear hs hk ha
  go_enter Try.func53, Try.ntmps53
  go_upto_region 1 with fail
  have r_g1 := ((rowIs_box w 48 10 (sgF sv g)).alloc (.cells (rowA 109 (recF x su dv)) 46)).alloc (.cells (rowA 10 (sgF (.slice none 0 0) zG)) 48)
  have r_g2 := (rowIs_box (w.alloc (.cells (rowA 10 (sgF sv g)) 48)) 46 109 (recF x su dv)).alloc (.cells (rowA 10 (sgF (.slice none 0 0) zG)) 48)
  rw [World.size_alloc] at r_g2
  have r_g3 := rowIs_box ((w.alloc (.cells (rowA 10 (sgF sv g)) 48)).alloc (.cells (rowA 109 (recF x su dv)) 46)) 48 10 (sgF (.slice none 0 0) zG)
  rw [World.size_alloc, World.size_alloc] at r_g3
  have hN : NewT w (((w.alloc (.cells (rowA 10 (sgF sv g)) 48)).alloc (.cells (rowA 109 (recF x su dv)) 46)).alloc (.cells (rowA 10 (sgF (.slice none 0 0) zG)) 48)) := (NewT.trans _ _ _ ((NewT.trans _ _ _ (NewT.alloc _ _) (NewT.alloc _ _))) (NewT.alloc _ _))
  change Code.wp _ _ _ _ (((w.alloc (.cells (rowA 10 (sgF sv g)) 48)).alloc (.cells (rowA 109 (recF x su dv)) 46)).alloc (.cells (rowA 10 (sgF (.slice none 0 0) zG)) 48))
  generalize (((w.alloc (.cells (rowA 10 (sgF sv g)) 48)).alloc (.cells (rowA 109 (recF x su dv)) 46)).alloc (.cells (rowA 10 (sgF (.slice none 0 0) zG)) 48)) = W0 at r_g1 r_g2 r_g3 hN ⊢
  obtain ⟨g1, h_g1⟩ : ∃ g_, w.heap.size = g_ := ⟨_, rfl⟩
  obtain ⟨g2, h_g2⟩ : ∃ g_, w.heap.size + 1 = g_ := ⟨_, rfl⟩
  obtain ⟨g3, h_g3⟩ : ∃ g_, w.heap.size + 1 + 1 = g_ := ⟨_, rfl⟩
  have HG : Hid (w.heap.size ≤ g1 ∧ g1 < g2 ∧ g2 < g3) := Lib.hid (by omega)
  rw [h_g1] at r_g1
  rw [h_g2] at r_g2
  rw [h_g3] at r_g3
  try rw [h_g3]
  try rw [h_g2]
  simp only [h_g1]
  have Rg1 := Lib.hid r_g1
  have Rg2 := Lib.hid r_g2
  have Rg3 := Lib.hid r_g3
  have HM := Lib.hid hN
  clear r_g1 r_g2 r_g3 hN h_g1 h_g2 h_g3
  go_upto_region 1 with fail
  refine wp_region_steps0 NewT [SV.eq (.pointer (some ⟨g1, 3, none⟩))] [([(2, none)], none)] 35 1 rfl rfl (by kernel_rfl) NewT.trans (NewT.refl _) (Nat.le_of_ble_eq_true rfl) ⟨?_, trivial⟩ ?_
  · exact fun a wx hT hF K hK => rely_wp rfl (opr_fldU3 rfl hF.1 (hK _ _ (NewT.refl _) rfl))
  · intro w1 k1
    intro u h; obtain rfl := Eq.symm (h (by simp)); clear h
    refine relyEnd_nil rfl ?_
    simp only [Act.put, List.setIfInBounds_toArray, List.set_cons_zero, List.set_cons_succ]
    refine wpList_plain rfl (fun K hK => ?_)
    refine opr_put1 (g := g1) (o0 := 3) (v := .int .i64 0) (F := sgF sv ({ g with tr := 0 })) rfl rfl rfl (k1.row Rg1.out) (by decide) info_i1 rfl (fun i hi => gs_tr sv g i hi 0) ?_
    intro W1 hR1 rr1
    refine hK _ _ ?_
    clear hK K
    refine wpList_end rfl ?_
    simp only [Act.put, List.setIfInBounds_toArray, List.set_cons_zero, List.set_cons_succ]
    go_simp
    replace Rg1 := Lib.hid rr1
    replace Rg2 := Lib.hid (hR1.row (by have h_0 := HG.out; omega) (k1.row Rg2.out))
    replace Rg3 := Lib.hid (hR1.row (by have h_0 := HG.out; omega) (k1.row Rg3.out))
    replace HM := Lib.hid (NewT.rt (NewT.trans _ _ _ HM.out k1) hR1 (by have h_0 := HG.out; omega))
    clear k1 hR1 rr1
    go_upto_region 2 with fail
    refine wp_region_steps0 NewT [SV.eq (.pointer (some ⟨g2, 5, none⟩)), SV.eq (.bool (x.back))] [([(3, none)], none), ([(6, some 0)], none)] 35 2 rfl rfl (by kernel_rfl) NewT.trans (NewT.refl _) (Nat.le_of_ble_eq_true rfl) ⟨?_, ?_, trivial⟩ ?_
    · exact fun a wx hT hF K hK => rely_wp rfl (opr_fldR (by decide) rfl hF.1 (hK _ _ (NewT.refl _) rfl))
    · exact fun a wx hT hF K hK => rely_wp rfl (opr_ldQ (hT.row Rg2.out) (by decide) rfl rfl hF.1 (hK _ _ (NewT.refl _) rfl))
    · intro w2 k2
      iterate 2 (intro u h; obtain rfl := Eq.symm (h (by simp)); clear h)
      refine relyEnd_nil rfl ?_
      refine wpList_end rfl ?_
      simp only [Act.put, List.setIfInBounds_toArray, List.set_cons_zero, List.set_cons_succ]
      go_simp
      replace Rg1 := Lib.hid (k2.row Rg1.out)
      replace Rg2 := Lib.hid (k2.row Rg2.out)
      replace Rg3 := Lib.hid (k2.row Rg3.out)
      replace HM := Lib.hid (NewT.trans _ _ _ HM.out k2)
      clear k2
      cases hb : x.back
      · have HE : Hid (wellG g x.back x.step = { g with tr := 0, dn := orI g.dn (bitI x.step), so := notI g.so (bitI x.step), at_ := g.at_ + 1 }) := Lib.hid (by unfold wellG; rw [hb]; rfl)
        clear hb
        go_upto_region 5 with fail
        refine wp_region_rely (NewT) [SV.eq (.pointer (some ⟨g1, 6, none⟩)), SV.eq (.int .i64 (g.dn)), SV.eq (.pointer (some ⟨g2, 3, none⟩)), SV.eq (.int .i64 (x.step)), SV.eq (.int .i64 (bitI x.step)), SV.eq (.int .i64 (orI g.dn (bitI x.step))), SV.eq (.pointer (some ⟨g1, 6, none⟩))] [([(2, none)], none), ([(16, some 0)], none), ([(3, none)], none), ([(18, some 2)], none), ([(19, some 3)], none), ([(17, some 1), (20, some 4)], none), ([(2, none)], none)] 35 rfl (by kernel_rfl) rfl (by kernel_rfl) (by kernel_rfl) rfl NewT.trans (NewT.drew _) (Nat.le_of_ble_eq_true rfl) ⟨?_, ?_, ?_, ?_, ?_, ?_, ?_, trivial⟩ ?_
        · exact fun a wx hT hF K hK => rely_wp rfl (opr_fldU6 rfl hF.1 (hK _ _ (NewT.refl _) rfl))
        · exact fun a wx hT hF K hK => rely_wp rfl (opr_ldI (hT.row Rg1.out) (by decide) rfl rfl hF.1 (hK _ _ (NewT.refl _) rfl))
        · exact fun a wx hT hF K hK => rely_wp rfl (opr_fldR (by decide) rfl hF.1 (hK _ _ (NewT.refl _) rfl))
        · exact fun a wx hT hF K hK => rely_wp rfl (opr_ldI (hT.row Rg2.out) (by decide) rfl rfl hF.1 (hK _ _ (NewT.refl _) rfl))
        · exact fun a wx hT hF K hK => rely_wp rfl (opr_cv (gBit_cv x.step wx (HK6.out)) rfl Try.func65 (by kernel_rfl) (by kernel_rfl) (evs1 hF.1) hK)
        · exact fun a wx hT hF K hK => rely_wp rfl (opr_orI rfl hF.1 hF.2.1 (hK _ _ (NewT.refl _) rfl))
        · exact fun a wx hT hF K hK => rely_wp rfl (opr_fldU6 rfl hF.1 (hK _ _ (NewT.refl _) rfl))
        · intro w3 k3
          iterate 7 (intro u h; obtain rfl := Eq.symm (h (by simp)); clear h)
          refine relyEnd_nil rfl ?_
          simp only [Act.put, List.setIfInBounds_toArray, List.set_cons_zero, List.set_cons_succ]
          refine opr_put1 (g := g1) (o0 := 6) (v := .int .i64 (orI g.dn (bitI x.step))) (F := sgF sv ({ g with tr := 0, dn := orI g.dn (bitI x.step) })) rfl rfl rfl (k3.row Rg1.out) (by decide) info_i1 rfl (fun i hi => gs_dn sv { g with tr := 0 } i hi _) ?_
          intro W3 hR3 rr3
          go_simp
          replace Rg1 := Lib.hid rr3
          replace Rg2 := Lib.hid (hR3.row (by have h_0 := HG.out; omega) (k3.row Rg2.out))
          replace Rg3 := Lib.hid (hR3.row (by have h_0 := HG.out; omega) (k3.row Rg3.out))
          replace HM := Lib.hid (NewT.rt (NewT.trans _ _ _ HM.out k3) hR3 (by have h_0 := HG.out; omega))
          clear k3 hR3 rr3
          go_upto_region 6 with fail
          refine wp_region_rely (NewT) [SV.eq (.pointer (some ⟨g1, 8, none⟩)), SV.eq (.int .i64 (g.so)), SV.eq (.pointer (some ⟨g2, 3, none⟩)), SV.eq (.int .i64 (x.step)), SV.eq (.int .i64 (bitI x.step)), SV.eq (.int .i64 (notI g.so (bitI x.step))), SV.eq (.pointer (some ⟨g1, 8, none⟩))] [([(2, none)], none), ([(23, some 0)], none), ([(3, none)], none), ([(25, some 2)], none), ([(26, some 3)], none), ([(24, some 1), (27, some 4)], none), ([(2, none)], none)] 35 rfl (by kernel_rfl) rfl (by kernel_rfl) (by kernel_rfl) rfl NewT.trans (NewT.drew _) (Nat.le_of_ble_eq_true rfl) ⟨?_, ?_, ?_, ?_, ?_, ?_, ?_, trivial⟩ ?_
          · exact fun a wx hT hF K hK => rely_wp rfl (opr_fldU8 rfl hF.1 (hK _ _ (NewT.refl _) rfl))
          · exact fun a wx hT hF K hK => rely_wp rfl (opr_ldI (hT.row Rg1.out) (by decide) rfl rfl hF.1 (hK _ _ (NewT.refl _) rfl))
          · exact fun a wx hT hF K hK => rely_wp rfl (opr_fldR (by decide) rfl hF.1 (hK _ _ (NewT.refl _) rfl))
          · exact fun a wx hT hF K hK => rely_wp rfl (opr_ldI (hT.row Rg2.out) (by decide) rfl rfl hF.1 (hK _ _ (NewT.refl _) rfl))
          · exact fun a wx hT hF K hK => rely_wp rfl (opr_cv (gBit_cv x.step wx (HK6.out)) rfl Try.func65 (by kernel_rfl) (by kernel_rfl) (evs1 hF.1) hK)
          · exact fun a wx hT hF K hK => rely_wp rfl (opr_notI rfl hF.1 hF.2.1 (hK _ _ (NewT.refl _) rfl))
          · exact fun a wx hT hF K hK => rely_wp rfl (opr_fldU8 rfl hF.1 (hK _ _ (NewT.refl _) rfl))
          · intro w4 k4
            iterate 7 (intro u h; obtain rfl := Eq.symm (h (by simp)); clear h)
            refine relyEnd_nil rfl ?_
            simp only [Act.put, List.setIfInBounds_toArray, List.set_cons_zero, List.set_cons_succ]
            refine opr_put1 (g := g1) (o0 := 8) (v := .int .i64 (notI g.so (bitI x.step))) (F := sgF sv ({ g with tr := 0, dn := orI g.dn (bitI x.step), so := notI g.so (bitI x.step) })) rfl rfl rfl (k4.row Rg1.out) (by decide) info_i1 rfl (fun i hi => gs_so sv { g with tr := 0, dn := orI g.dn (bitI x.step) } i hi _) ?_
            intro W4 hR4 rr4
            go_simp
            replace Rg1 := Lib.hid rr4
            replace Rg2 := Lib.hid (hR4.row (by have h_0 := HG.out; omega) (k4.row Rg2.out))
            replace Rg3 := Lib.hid (hR4.row (by have h_0 := HG.out; omega) (k4.row Rg3.out))
            replace HM := Lib.hid (NewT.rt (NewT.trans _ _ _ HM.out k4) hR4 (by have h_0 := HG.out; omega))
            clear k4 hR4 rr4
            go_upto_region 7 with fail
            refine wp_region_steps0 NewT [SV.eq (.pointer (some ⟨g1, 2, none⟩)), SV.eq (.int .i64 (g.at_)), SV.eq (.int .i64 (g.at_ + 1)), SV.eq (.pointer (some ⟨g1, 2, none⟩))] [([(2, none)], none), ([(30, some 0)], none), ([(31, some 1)], none), ([(2, none)], none)] 35 4 rfl rfl (by kernel_rfl) NewT.trans (NewT.refl _) (Nat.le_of_ble_eq_true rfl) ⟨?_, ?_, ?_, ?_, trivial⟩ ?_
            · exact fun a wx hT hF K hK => rely_wp rfl (opr_fldU2 rfl hF.1 (hK _ _ (NewT.refl _) rfl))
            · exact fun a wx hT hF K hK => rely_wp rfl (opr_ldI (hT.row Rg1.out) (by decide) rfl rfl hF.1 (hK _ _ (NewT.refl _) rfl))
            · exact fun a wx hT hF K hK => rely_wp rfl (opr_add (r := g.at_ + 1) Try.underlying3 (by have := HAT.out; show wrap64 (g.at_ + 1) = _; unfold wrap64; omega) rfl hF.1 rfl (hK _ _ (NewT.refl _) rfl))
            · exact fun a wx hT hF K hK => rely_wp rfl (opr_fldU2 rfl hF.1 (hK _ _ (NewT.refl _) rfl))
            · intro w5 k5
              iterate 4 (intro u h; obtain rfl := Eq.symm (h (by simp)); clear h)
              refine relyEnd_nil rfl ?_
              simp only [Act.put, List.setIfInBounds_toArray, List.set_cons_zero, List.set_cons_succ]
              refine wpList_plain rfl (fun K hK => ?_)
              refine opr_put1 (g := g1) (o0 := 2) (v := .int .i64 (g.at_ + 1)) (F := sgF sv ({ g with tr := 0, dn := orI g.dn (bitI x.step), so := notI g.so (bitI x.step), at_ := g.at_ + 1 })) rfl rfl rfl (k5.row Rg1.out) (by decide) info_i1 rfl (fun i hi => gs_at sv { g with tr := 0, dn := orI g.dn (bitI x.step), so := notI g.so (bitI x.step) } i hi _) ?_
              intro W5 hR5 rr5
              refine hK _ _ ?_
              clear hK K
              refine wpList_end rfl ?_
              simp only [Act.put, List.setIfInBounds_toArray, List.set_cons_zero, List.set_cons_succ]
              go_simp
              replace Rg1 := Lib.hid rr5
              replace Rg2 := Lib.hid (hR5.row (by have h_0 := HG.out; omega) (k5.row Rg2.out))
              replace Rg3 := Lib.hid (hR5.row (by have h_0 := HG.out; omega) (k5.row Rg3.out))
              replace HM := Lib.hid (NewT.rt (NewT.trans _ _ _ HM.out k5) hR5 (by have h_0 := HG.out; omega))
              clear k5 hR5 rr5
              go_upto_region 8 with fail
              refine wp_region_steps0 NewT [SV.eq (.agg (rowA 10 (sgF sv ({ g with tr := 0, dn := orI g.dn (bitI x.step), so := notI g.so (bitI x.step), at_ := g.at_ + 1 }))))] [([(2, none)], none)] 35 1 rfl rfl (by kernel_rfl) NewT.trans (NewT.refl _) (Nat.le_of_ble_eq_true rfl) ⟨?_, trivial⟩ ?_
              · exact fun a wx hT hF K hK => rely_wp rfl (opr_ldU (hT.row Rg1.out) rfl hF.1 (hK _ _ (NewT.refl _) rfl))
              · intro w6 k6
                intro u h; obtain rfl := Eq.symm (h (by simp)); clear h
                refine relyEnd_nil rfl ?_
                simp only [Act.put, List.setIfInBounds_toArray, List.set_cons_zero, List.set_cons_succ]
                refine wpList_plain rfl (fun K hK => ?_)
                refine opr_putm (g := g3) (o0 := 0) (m := 10) (f := sgF sv ({ g with tr := 0, dn := orI g.dn (bitI x.step), so := notI g.so (bitI x.step), at_ := g.at_ + 1 })) (F := sgF sv ({ g with tr := 0, dn := orI g.dn (bitI x.step), so := notI g.so (bitI x.step), at_ := g.at_ + 1 })) rfl rfl rfl (k6.row Rg3.out) (by decide) info_saga (sgF_one _ _ (oneP HS.out)) (put_allN _ _ _) ?_
                intro W6 hR6 rr6
                refine hK _ _ ?_
                clear hK K
                refine wpList_end rfl ?_
                simp only [Act.put, List.setIfInBounds_toArray, List.set_cons_zero, List.set_cons_succ]
                go_simp
                replace Rg3 := Lib.hid rr6
                replace Rg1 := Lib.hid (hR6.row (by have h_0 := HG.out; omega) (k6.row Rg1.out))
                replace Rg2 := Lib.hid (hR6.row (by have h_0 := HG.out; omega) (k6.row Rg2.out))
                replace HM := Lib.hid (NewT.rt (NewT.trans _ _ _ HM.out k6) hR6 (by have h_0 := HG.out; omega))
                clear k6 hR6 rr6
                go_wp2
                exact bodyPost_ret (results_agg rfl _ rfl Rg3.out Try.underlying48 rfl info_saga) rfl ⟨_, rfl, HM.out, by show _ = Value.agg _; rw [HE.out]⟩
      · have HE : Hid (wellG g x.back x.step = { g with tr := 0, un := orI g.un (bitI x.step) }) := Lib.hid (by unfold wellG; rw [hb]; rfl)
        clear hb
        go_upto_region 3 with fail
        refine wp_region_rely (NewT) [SV.eq (.pointer (some ⟨g1, 7, none⟩)), SV.eq (.int .i64 (g.un)), SV.eq (.pointer (some ⟨g2, 3, none⟩)), SV.eq (.int .i64 (x.step)), SV.eq (.int .i64 (bitI x.step)), SV.eq (.int .i64 (orI g.un (bitI x.step))), SV.eq (.pointer (some ⟨g1, 7, none⟩))] [([(2, none)], none), ([(8, some 0)], none), ([(3, none)], none), ([(10, some 2)], none), ([(11, some 3)], none), ([(9, some 1), (12, some 4)], none), ([(2, none)], none)] 35 rfl (by kernel_rfl) rfl (by kernel_rfl) (by kernel_rfl) rfl NewT.trans (NewT.drew _) (Nat.le_of_ble_eq_true rfl) ⟨?_, ?_, ?_, ?_, ?_, ?_, ?_, trivial⟩ ?_
        · exact fun a wx hT hF K hK => rely_wp rfl (opr_fldU7 rfl hF.1 (hK _ _ (NewT.refl _) rfl))
        · exact fun a wx hT hF K hK => rely_wp rfl (opr_ldI (hT.row Rg1.out) (by decide) rfl rfl hF.1 (hK _ _ (NewT.refl _) rfl))
        · exact fun a wx hT hF K hK => rely_wp rfl (opr_fldR (by decide) rfl hF.1 (hK _ _ (NewT.refl _) rfl))
        · exact fun a wx hT hF K hK => rely_wp rfl (opr_ldI (hT.row Rg2.out) (by decide) rfl rfl hF.1 (hK _ _ (NewT.refl _) rfl))
        · exact fun a wx hT hF K hK => rely_wp rfl (opr_cv (gBit_cv x.step wx (HK6.out)) rfl Try.func65 (by kernel_rfl) (by kernel_rfl) (evs1 hF.1) hK)
        · exact fun a wx hT hF K hK => rely_wp rfl (opr_orI rfl hF.1 hF.2.1 (hK _ _ (NewT.refl _) rfl))
        · exact fun a wx hT hF K hK => rely_wp rfl (opr_fldU7 rfl hF.1 (hK _ _ (NewT.refl _) rfl))
        · intro w7 k7
          iterate 7 (intro u h; obtain rfl := Eq.symm (h (by simp)); clear h)
          refine relyEnd_nil rfl ?_
          simp only [Act.put, List.setIfInBounds_toArray, List.set_cons_zero, List.set_cons_succ]
          refine opr_put1 (g := g1) (o0 := 7) (v := .int .i64 (orI g.un (bitI x.step))) (F := sgF sv ({ g with tr := 0, un := orI g.un (bitI x.step) })) rfl rfl rfl (k7.row Rg1.out) (by decide) info_i1 rfl (fun i hi => gs_un sv { g with tr := 0 } i hi _) ?_
          intro W7 hR7 rr7
          go_simp
          replace Rg1 := Lib.hid rr7
          replace Rg2 := Lib.hid (hR7.row (by have h_0 := HG.out; omega) (k7.row Rg2.out))
          replace Rg3 := Lib.hid (hR7.row (by have h_0 := HG.out; omega) (k7.row Rg3.out))
          replace HM := Lib.hid (NewT.rt (NewT.trans _ _ _ HM.out k7) hR7 (by have h_0 := HG.out; omega))
          clear k7 hR7 rr7
          go_upto_region 4 with fail
          refine wp_region_steps0 NewT [SV.eq (.agg (rowA 10 (sgF sv ({ g with tr := 0, un := orI g.un (bitI x.step) }))))] [([(2, none)], none)] 35 1 rfl rfl (by kernel_rfl) NewT.trans (NewT.refl _) (Nat.le_of_ble_eq_true rfl) ⟨?_, trivial⟩ ?_
          · exact fun a wx hT hF K hK => rely_wp rfl (opr_ldU (hT.row Rg1.out) rfl hF.1 (hK _ _ (NewT.refl _) rfl))
          · intro w8 k8
            intro u h; obtain rfl := Eq.symm (h (by simp)); clear h
            refine relyEnd_nil rfl ?_
            simp only [Act.put, List.setIfInBounds_toArray, List.set_cons_zero, List.set_cons_succ]
            refine wpList_plain rfl (fun K hK => ?_)
            refine opr_putm (g := g3) (o0 := 0) (m := 10) (f := sgF sv ({ g with tr := 0, un := orI g.un (bitI x.step) })) (F := sgF sv ({ g with tr := 0, un := orI g.un (bitI x.step) })) rfl rfl rfl (k8.row Rg3.out) (by decide) info_saga (sgF_one _ _ (oneP HS.out)) (put_allN _ _ _) ?_
            intro W8 hR8 rr8
            refine hK _ _ ?_
            clear hK K
            refine wpList_end rfl ?_
            simp only [Act.put, List.setIfInBounds_toArray, List.set_cons_zero, List.set_cons_succ]
            go_simp
            replace Rg3 := Lib.hid rr8
            replace Rg1 := Lib.hid (hR8.row (by have h_0 := HG.out; omega) (k8.row Rg1.out))
            replace Rg2 := Lib.hid (hR8.row (by have h_0 := HG.out; omega) (k8.row Rg2.out))
            replace HM := Lib.hid (NewT.rt (NewT.trans _ _ _ HM.out k8) hR8 (by have h_0 := HG.out; omega))
            clear k8 hR8 rr8
            go_wp2
            exact bodyPost_ret (results_agg rfl _ rfl Rg3.out Try.underlying48 rfl info_saga) rfl ⟨_, rfl, HM.out, by show _ = Value.agg _; rw [HE.out]⟩
set_option maxHeartbeats 4000000 in
theorem refused_n (sv : Value) (l : List (Int × Int)) (g : Sg) (k : Nat) (w : World) (hs : RdP w sv l) (hl : l.length ≤ 6) (hk : k < l.length) : Cv 54 #[.agg (rowA 10 (sgF sv g)), .int .i64 (k : Int)] w (.eq (.agg (rowA 10 (sgF sv (refG l g k))))) := by
  unfold Cv
  have HS := Lib.hid hs
  have HST := Lib.hid hk
  have HK6 : Hid (0 ≤ (k : Int) ∧ (k : Int) < 6) := Lib.hid (by omega)
  obtain ⟨d, HDD⟩ := hid_ex (l.getD k (0, 0))
  clear hs hl hk
  go_enter Try.func54, Try.ntmps54
  go_upto_region 1 with fail
  have r_g1 := (rowIs_box w 48 10 (sgF sv g)).alloc (.cells (rowA 10 (sgF (.slice none 0 0) zG)) 48)
  have r_g3 := rowIs_box (w.alloc (.cells (rowA 10 (sgF sv g)) 48)) 48 10 (sgF (.slice none 0 0) zG)
  rw [World.size_alloc] at r_g3
  have hN : NewT w ((w.alloc (.cells (rowA 10 (sgF sv g)) 48)).alloc (.cells (rowA 10 (sgF (.slice none 0 0) zG)) 48)) := (NewT.trans _ _ _ (NewT.alloc _ _) (NewT.alloc _ _))
  change Code.wp _ _ _ _ ((w.alloc (.cells (rowA 10 (sgF sv g)) 48)).alloc (.cells (rowA 10 (sgF (.slice none 0 0) zG)) 48))
  generalize ((w.alloc (.cells (rowA 10 (sgF sv g)) 48)).alloc (.cells (rowA 10 (sgF (.slice none 0 0) zG)) 48)) = W0 at r_g1 r_g3 hN ⊢
  obtain ⟨g1, h_g1⟩ : ∃ g_, w.heap.size = g_ := ⟨_, rfl⟩
  obtain ⟨g3, h_g3⟩ : ∃ g_, w.heap.size + 1 = g_ := ⟨_, rfl⟩
  have HG : Hid (w.heap.size ≤ g1 ∧ g1 < g3) := Lib.hid (by omega)
  rw [h_g1] at r_g1
  rw [h_g3] at r_g3
  try rw [h_g3]
  simp only [h_g1]
  have Rg1 := Lib.hid r_g1
  have Rg3 := Lib.hid r_g3
  have HM := Lib.hid hN
  clear r_g1 r_g3 hN h_g1 h_g3
  go_upto_region 1 with fail
  refine wp_region_steps0 NewT [SV.eq (.pointer (some ⟨g1, 0, none⟩)), SV.eq (sv), SV.eq (.int .i64 ((k : Int))), svStp (d), svIp (d).2, SV.eq (.int .i64 ((d).2)), SV.eq (.bool (((d).2) == 3))] [([(2, none)], none), ([(5, some 0)], none), ([(1, none)], none), ([(6, some 1), (7, some 2)], none), ([(8, some 3)], none), ([(9, some 4)], none), ([(10, some 5)], none)] 21 7 rfl rfl (by kernel_rfl) NewT.trans (NewT.refl _) (Nat.le_of_ble_eq_true rfl) ⟨?_, ?_, ?_, ?_, ?_, ?_, ?_, trivial⟩ ?_
  · exact fun a wx hT hF K hK => rely_wp rfl (opr_fldU0 rfl hF.1 (hK _ _ (NewT.refl _) rfl))
  · exact fun a wx hT hF K hK => rely_wp rfl (opr_ldS (hT.row Rg1.out) (by decide) rfl rfl hF.1 (hK _ _ (NewT.refl _) rfl))
  · exact fun a wx hT hF K hK => rely_wp rfl (opr_move (.inl rfl) (hK _ _ (NewT.refl _) hF.1))
  · intro a wx hT hF K hK
    obtain ⟨f6, f7, _⟩ := hF
    have f6 : a.tmps.getD 6 undef = sv := f6
    have f7 : a.tmps.getD 7 undef = .int .i64 ((k : Int)) := f7
    refine rely_wp rfl ?_
    exact opr_idxSt (k := k) (d := d) (⟨HST.out, HDD.out⟩) (rfl) rfl (by rw [eval_tmp, f6]; exact ((NewT.trans _ _ _ HM.out hT).pairs HS.out)) f7 (fun v hv => hK v _ (NewT.refl _) hv)
  · exact fun a wx hT hF K hK => rely_wp rfl (opr_fldSt1 rfl hF.1 (fun u hu => hK u _ (NewT.refl _) hu))
  · exact fun a wx hT hF K hK => rely_wp rfl (opr_ldIp rfl hF.1 (hK _ _ (NewT.refl _) rfl))
  · exact fun a wx hT hF K hK => rely_wp rfl (opr_cmp (b := ((d).2) == 3) (.inl ⟨rfl, rfl⟩) Try.underlying3 rfl hF.1 rfl (hK _ _ (NewT.refl _) rfl))
  · intro w1 k1
    iterate 3 (intro u h; obtain rfl := Eq.symm (h (by simp)); clear h)
    iterate 2 (intro _ _)
    iterate 2 (intro u h; obtain rfl := Eq.symm (h (by simp)); clear h)
    refine relyEnd_nil rfl ?_
    refine wpList_end rfl ?_
    simp only [Act.put, List.setIfInBounds_toArray, List.set_cons_zero, List.set_cons_succ]
    go_simp
    replace Rg1 := Lib.hid (k1.row Rg1.out)
    replace Rg3 := Lib.hid (k1.row Rg3.out)
    replace HM := Lib.hid (NewT.trans _ _ _ HM.out k1)
    clear k1
    cases hb : (d.2 == 3)
    · have HE : Hid (refG l g (k : Int) = turnG { g with so := notI g.so (bitI k) }) := Lib.hid (by unfold refG kdL; rw [Int.toNat_natCast, HDD.out, if_neg (by simpa using hb)])
      clear hb
      go_upto_region 3 with fail
      refine wp_region_rely (NewT) [SV.eq (.pointer (some ⟨g1, 8, none⟩)), SV.eq (.int .i64 (g.so)), SV.eq (.int .i64 ((k : Int))), SV.eq (.int .i64 (bitI ((k : Int)))), SV.eq (.int .i64 (notI g.so (bitI ((k : Int))))), SV.eq (.pointer (some ⟨g1, 8, none⟩))] [([(2, none)], none), ([(13, some 0)], none), ([(1, none)], none), ([(15, some 2)], none), ([(14, some 1), (16, some 3)], none), ([(2, none)], none)] 21 rfl (by kernel_rfl) rfl (by kernel_rfl) (by kernel_rfl) rfl NewT.trans (NewT.drew _) (Nat.le_of_ble_eq_true rfl) ⟨?_, ?_, ?_, ?_, ?_, ?_, trivial⟩ ?_
      · exact fun a wx hT hF K hK => rely_wp rfl (opr_fldU8 rfl hF.1 (hK _ _ (NewT.refl _) rfl))
      · exact fun a wx hT hF K hK => rely_wp rfl (opr_ldI (hT.row Rg1.out) (by decide) rfl rfl hF.1 (hK _ _ (NewT.refl _) rfl))
      · exact fun a wx hT hF K hK => rely_wp rfl (opr_move (.inl rfl) (hK _ _ (NewT.refl _) hF.1))
      · exact fun a wx hT hF K hK => rely_wp rfl (opr_cv (gBit_cv ((k : Int)) wx (HK6.out)) rfl Try.func65 (by kernel_rfl) (by kernel_rfl) (evs1 hF.1) hK)
      · exact fun a wx hT hF K hK => rely_wp rfl (opr_notI rfl hF.1 hF.2.1 (hK _ _ (NewT.refl _) rfl))
      · exact fun a wx hT hF K hK => rely_wp rfl (opr_fldU8 rfl hF.1 (hK _ _ (NewT.refl _) rfl))
      · intro w2 k2
        iterate 6 (intro u h; obtain rfl := Eq.symm (h (by simp)); clear h)
        refine relyEnd_nil rfl ?_
        simp only [Act.put, List.setIfInBounds_toArray, List.set_cons_zero, List.set_cons_succ]
        refine opr_put1 (g := g1) (o0 := 8) (v := .int .i64 (notI g.so (bitI k))) (F := sgF sv ({ g with so := notI g.so (bitI k) })) rfl rfl rfl (k2.row Rg1.out) (by decide) info_i1 rfl (fun i hi => gs_so sv g i hi _) ?_
        intro W2 hR2 rr2
        go_simp
        replace Rg1 := Lib.hid rr2
        replace Rg3 := Lib.hid (hR2.row (by have h_0 := HG.out; omega) (k2.row Rg3.out))
        replace HM := Lib.hid (NewT.rt (NewT.trans _ _ _ HM.out k2) hR2 (by have h_0 := HG.out; omega))
        clear k2 hR2 rr2
        go_upto_region 4 with fail
        refine wp_region_steps0 NewT [SV.eq (.agg (rowA 10 (sgF sv ({ g with so := notI g.so (bitI k) })))), SV.eq ((.agg (rowA 10 (sgF sv (turnG ({ g with so := notI g.so (bitI k) }))))))] [([(2, none)], none), ([(19, some 0)], none)] 21 2 rfl rfl (by kernel_rfl) NewT.trans (NewT.refl _) (Nat.le_of_ble_eq_true rfl) ⟨?_, ?_, trivial⟩ ?_
        · exact fun a wx hT hF K hK => rely_wp rfl (opr_ldU (hT.row Rg1.out) rfl hF.1 (hK _ _ (NewT.refl _) rfl))
        · exact fun a wx hT hF K hK => rely_wp rfl (opr_cv (turned_cv sv ({ g with so := notI g.so (bitI k) }) wx (oneP HS.out)) rfl Try.func66 (by kernel_rfl) (by kernel_rfl) (evs1 hF.1) hK)
        · intro w3 k3
          iterate 2 (intro u h; obtain rfl := Eq.symm (h (by simp)); clear h)
          refine relyEnd_nil rfl ?_
          simp only [Act.put, List.setIfInBounds_toArray, List.set_cons_zero, List.set_cons_succ]
          refine wpList_plain rfl (fun K hK => ?_)
          refine opr_putm (g := g3) (o0 := 0) (m := 10) (f := sgF sv (turnG { g with so := notI g.so (bitI k) })) (F := sgF sv (turnG { g with so := notI g.so (bitI k) })) rfl rfl rfl (k3.row Rg3.out) (by decide) info_saga (sgF_one _ _ (oneP HS.out)) (put_allN _ _ _) ?_
          intro W3 hR3 rr3
          refine hK _ _ ?_
          clear hK K
          refine wpList_end rfl ?_
          simp only [Act.put, List.setIfInBounds_toArray, List.set_cons_zero, List.set_cons_succ]
          go_simp
          replace Rg3 := Lib.hid rr3
          replace Rg1 := Lib.hid (hR3.row (by have h_0 := HG.out; omega) (k3.row Rg1.out))
          replace HM := Lib.hid (NewT.rt (NewT.trans _ _ _ HM.out k3) hR3 (by have h_0 := HG.out; omega))
          clear k3 hR3 rr3
          go_wp2
          exact bodyPost_ret (results_agg rfl _ rfl Rg3.out Try.underlying48 rfl info_saga) rfl ⟨_, rfl, HM.out, by show _ = Value.agg _; rw [HE.out]⟩
    · have HE : Hid (refG l g (k : Int) = g) := Lib.hid (by unfold refG kdL; rw [Int.toNat_natCast, HDD.out, if_pos (by simpa using hb)])
      clear hb
      go_upto_region 2 with fail
      refine wp_region_steps0 NewT [SV.eq (.agg (rowA 10 (sgF sv g)))] [([(2, none)], none)] 21 1 rfl rfl (by kernel_rfl) NewT.trans (NewT.refl _) (Nat.le_of_ble_eq_true rfl) ⟨?_, trivial⟩ ?_
      · exact fun a wx hT hF K hK => rely_wp rfl (opr_ldU (hT.row Rg1.out) rfl hF.1 (hK _ _ (NewT.refl _) rfl))
      · intro w4 k4
        intro u h; obtain rfl := Eq.symm (h (by simp)); clear h
        refine relyEnd_nil rfl ?_
        simp only [Act.put, List.setIfInBounds_toArray, List.set_cons_zero, List.set_cons_succ]
        refine wpList_plain rfl (fun K hK => ?_)
        refine opr_putm (g := g3) (o0 := 0) (m := 10) (f := sgF sv (g)) (F := sgF sv (g)) rfl rfl rfl (k4.row Rg3.out) (by decide) info_saga (sgF_one _ _ (oneP HS.out)) (put_allN _ _ _) ?_
        intro W4 hR4 rr4
        refine hK _ _ ?_
        clear hK K
        refine wpList_end rfl ?_
        simp only [Act.put, List.setIfInBounds_toArray, List.set_cons_zero, List.set_cons_succ]
        go_simp
        replace Rg3 := Lib.hid rr4
        replace Rg1 := Lib.hid (hR4.row (by have h_0 := HG.out; omega) (k4.row Rg1.out))
        replace HM := Lib.hid (NewT.rt (NewT.trans _ _ _ HM.out k4) hR4 (by have h_0 := HG.out; omega))
        clear k4 hR4 rr4
        go_wp2
        exact bodyPost_ret (results_agg rfl _ rfl Rg3.out Try.underlying48 rfl info_saga) rfl ⟨_, rfl, HM.out, by show _ = Value.agg _; rw [HE.out]⟩
theorem refused_cv (sv : Value) (l : List (Int × Int)) (g : Sg) (k : Int) (w : World) (hs : RdP w sv l) (hl : l.length ≤ 6) (hk : 0 ≤ k ∧ k < l.length) : Cv 54 #[.agg (rowA 10 (sgF sv g)), .int .i64 k] w (.eq (.agg (rowA 10 (sgF sv (refG l g k))))) := by
  obtain ⟨n, rfl⟩ : ∃ n : Nat, k = n := ⟨k.toNat, by omega⟩
  exact refused_n sv l g n w hs hl (by omega)
set_option maxHeartbeats 4000000 in
theorem lapsed_cv (sv : Value) (l : List (Int × Int)) (g : Sg) (x : Rc) (v : Value) (lim : Int) (w : World) (hs : RdP w sv l) (hx : RecV w v x) (hl : l.length ≤ 6) (hk : 0 ≤ x.step ∧ x.step < l.length) : Cv 55 #[.agg (rowA 10 (sgF sv g)), v, .int .i64 lim] w (.eq (.agg (rowA 10 (sgF sv (lapG l lim g x.back x.step))))) := by
  obtain ⟨su, dv, rfl, hsx, hdx⟩ := hx
  have HX : Hid (RecV w (.agg (rowA 109 (recF x su dv))) x) := Lib.hid ⟨su, dv, rfl, hsx, hdx⟩
  have HSX := Lib.hid hsx
  have HD := Lib.hid hdx
  clear hsx hdx
  unfold Cv
  have HS := Lib.hid hs
  have HK6 : Hid (0 ≤ x.step ∧ x.step < 6) := Lib.hid (by omega)
  obtain ⟨k, hkx⟩ : ∃ k : Nat, (k : Int) = x.step := ⟨x.step.toNat, by omega⟩
  have HKX := Lib.hid hkx
  obtain ⟨d, HDD⟩ := hid_ex (l.getD k (0, 0))
  have HKL : Hid (k < l.length) := Lib.hid (by omega)
  clear hs hk hl hkx
  go_enter Try.func55, Try.ntmps55
  go_upto_region 1 with fail
  have r_g1 := ((rowIs_box w 48 10 (sgF sv g)).alloc (.cells (rowA 109 (recF x su dv)) 46)).alloc (.cells (rowA 10 (sgF (.slice none 0 0) zG)) 48)
  have r_g2 := (rowIs_box (w.alloc (.cells (rowA 10 (sgF sv g)) 48)) 46 109 (recF x su dv)).alloc (.cells (rowA 10 (sgF (.slice none 0 0) zG)) 48)
  rw [World.size_alloc] at r_g2
  have r_g3 := rowIs_box ((w.alloc (.cells (rowA 10 (sgF sv g)) 48)).alloc (.cells (rowA 109 (recF x su dv)) 46)) 48 10 (sgF (.slice none 0 0) zG)
  rw [World.size_alloc, World.size_alloc] at r_g3
  have hN : NewT w (((w.alloc (.cells (rowA 10 (sgF sv g)) 48)).alloc (.cells (rowA 109 (recF x su dv)) 46)).alloc (.cells (rowA 10 (sgF (.slice none 0 0) zG)) 48)) := (NewT.trans _ _ _ ((NewT.trans _ _ _ (NewT.alloc _ _) (NewT.alloc _ _))) (NewT.alloc _ _))
  change Code.wp _ _ _ _ (((w.alloc (.cells (rowA 10 (sgF sv g)) 48)).alloc (.cells (rowA 109 (recF x su dv)) 46)).alloc (.cells (rowA 10 (sgF (.slice none 0 0) zG)) 48))
  generalize (((w.alloc (.cells (rowA 10 (sgF sv g)) 48)).alloc (.cells (rowA 109 (recF x su dv)) 46)).alloc (.cells (rowA 10 (sgF (.slice none 0 0) zG)) 48)) = W0 at r_g1 r_g2 r_g3 hN ⊢
  obtain ⟨g1, h_g1⟩ : ∃ g_, w.heap.size = g_ := ⟨_, rfl⟩
  obtain ⟨g2, h_g2⟩ : ∃ g_, w.heap.size + 1 = g_ := ⟨_, rfl⟩
  obtain ⟨g3, h_g3⟩ : ∃ g_, w.heap.size + 1 + 1 = g_ := ⟨_, rfl⟩
  have HG : Hid (w.heap.size ≤ g1 ∧ g1 < g2 ∧ g2 < g3) := Lib.hid (by omega)
  rw [h_g1] at r_g1
  rw [h_g2] at r_g2
  rw [h_g3] at r_g3
  try rw [h_g3]
  try rw [h_g2]
  simp only [h_g1]
  have Rg1 := Lib.hid r_g1
  have Rg2 := Lib.hid r_g2
  have Rg3 := Lib.hid r_g3
  have HM := Lib.hid hN
  clear r_g1 r_g2 r_g3 hN h_g1 h_g2 h_g3
  go_upto_region 1 with fail
  refine wp_region_steps0 NewT [SV.eq (.pointer (some ⟨g2, 5, none⟩)), SV.eq (.bool (x.back))] [([(4, none)], none), ([(7, some 0)], none)] 34 2 rfl rfl (by kernel_rfl) NewT.trans (NewT.refl _) (Nat.le_of_ble_eq_true rfl) ⟨?_, ?_, trivial⟩ ?_
  · exact fun a wx hT hF K hK => rely_wp rfl (opr_fldR (by decide) rfl hF.1 (hK _ _ (NewT.refl _) rfl))
  · exact fun a wx hT hF K hK => rely_wp rfl (opr_ldQ (hT.row Rg2.out) (by decide) rfl rfl hF.1 (hK _ _ (NewT.refl _) rfl))
  · intro w1 k1
    iterate 2 (intro u h; obtain rfl := Eq.symm (h (by simp)); clear h)
    refine relyEnd_nil rfl ?_
    refine wpList_end rfl ?_
    simp only [Act.put, List.setIfInBounds_toArray, List.set_cons_zero, List.set_cons_succ]
    go_simp
    replace Rg1 := Lib.hid (k1.row Rg1.out)
    replace Rg2 := Lib.hid (k1.row Rg2.out)
    replace Rg3 := Lib.hid (k1.row Rg3.out)
    replace HM := Lib.hid (NewT.trans _ _ _ HM.out k1)
    clear k1
    cases hb : x.back
    · skip
      go_upto_region 3 with fail
      refine wp_region_rely (NewT) [SV.eq (.pointer (some ⟨g1, 8, none⟩)), SV.eq (.int .i64 (g.so)), SV.eq (.pointer (some ⟨g2, 3, none⟩)), SV.eq (.int .i64 (x.step)), SV.eq (.int .i64 (bitI x.step)), SV.eq (.int .i64 (orI g.so (bitI x.step))), SV.eq (.pointer (some ⟨g1, 8, none⟩))] [([(3, none)], none), ([(10, some 0)], none), ([(4, none)], none), ([(12, some 2)], none), ([(13, some 3)], none), ([(11, some 1), (14, some 4)], none), ([(3, none)], none)] 34 rfl (by kernel_rfl) rfl (by kernel_rfl) (by kernel_rfl) rfl NewT.trans (NewT.drew _) (Nat.le_of_ble_eq_true rfl) ⟨?_, ?_, ?_, ?_, ?_, ?_, ?_, trivial⟩ ?_
      · exact fun a wx hT hF K hK => rely_wp rfl (opr_fldU8 rfl hF.1 (hK _ _ (NewT.refl _) rfl))
      · exact fun a wx hT hF K hK => rely_wp rfl (opr_ldI (hT.row Rg1.out) (by decide) rfl rfl hF.1 (hK _ _ (NewT.refl _) rfl))
      · exact fun a wx hT hF K hK => rely_wp rfl (opr_fldR (by decide) rfl hF.1 (hK _ _ (NewT.refl _) rfl))
      · exact fun a wx hT hF K hK => rely_wp rfl (opr_ldI (hT.row Rg2.out) (by decide) rfl rfl hF.1 (hK _ _ (NewT.refl _) rfl))
      · exact fun a wx hT hF K hK => rely_wp rfl (opr_cv (gBit_cv x.step wx (HK6.out)) rfl Try.func65 (by kernel_rfl) (by kernel_rfl) (evs1 hF.1) hK)
      · exact fun a wx hT hF K hK => rely_wp rfl (opr_orI rfl hF.1 hF.2.1 (hK _ _ (NewT.refl _) rfl))
      · exact fun a wx hT hF K hK => rely_wp rfl (opr_fldU8 rfl hF.1 (hK _ _ (NewT.refl _) rfl))
      · intro w2 k2
        iterate 7 (intro u h; obtain rfl := Eq.symm (h (by simp)); clear h)
        refine relyEnd_nil rfl ?_
        simp only [Act.put, List.setIfInBounds_toArray, List.set_cons_zero, List.set_cons_succ]
        refine opr_put1 (g := g1) (o0 := 8) (v := .int .i64 (orI g.so (bitI x.step))) (F := sgF sv ({ g with so := orI g.so (bitI x.step) })) rfl rfl rfl (k2.row Rg1.out) (by decide) info_i1 rfl (fun i hi => gs_so sv g i hi _) ?_
        intro W2 hR2 rr2
        go_simp
        replace Rg1 := Lib.hid rr2
        replace Rg2 := Lib.hid (hR2.row (by have h_0 := HG.out; omega) (k2.row Rg2.out))
        replace Rg3 := Lib.hid (hR2.row (by have h_0 := HG.out; omega) (k2.row Rg3.out))
        replace HM := Lib.hid (NewT.rt (NewT.trans _ _ _ HM.out k2) hR2 (by have h_0 := HG.out; omega))
        clear k2 hR2 rr2
        go_upto_region 4 with fail
        refine wp_region_steps0 NewT [SV.eq (.pointer (some ⟨g1, 0, none⟩)), SV.eq (sv), SV.eq (.pointer (some ⟨g2, 3, none⟩)), SV.eq (.int .i64 (x.step)), svStp (d), svIp (d).2, SV.eq (.int .i64 ((d).2)), SV.eq (.bool (((d).2) == 1)), SV.eq (.bool (((d).2) == 1)), svIf (((d).2) == 1) (SV.eq (.pointer (some ⟨g1, 3, none⟩))), svIf (((d).2) == 1) (SV.eq (.int .i64 (g.tr))), svIf (((d).2) == 1) (SV.eq (.int .i64 (lim))), svIf (((d).2) == 1) (SV.eq (.bool (g.tr == lim))), SV.eq (.bool ((((d).2) == 1) && (g.tr == lim)))] [([(3, none)], none), ([(17, some 0)], none), ([(4, none)], none), ([(19, some 2)], none), ([(18, some 1), (20, some 3)], none), ([(21, some 4)], none), ([(22, some 5)], none), ([(23, some 6)], none), ([(24, some 7)], none), ([(3, none), (25, some 8)], some (25, true)), ([(26, some 9), (25, some 8)], some (25, true)), ([(2, none), (25, some 8)], some (25, true)), ([(27, some 10), (28, some 11), (25, some 8)], some (25, true)), ([(25, some 8), (29, some 12)], none)] 34 14 rfl rfl (by kernel_rfl) NewT.trans (NewT.refl _) (Nat.le_of_ble_eq_true rfl) ⟨?_, ?_, ?_, ?_, ?_, ?_, ?_, ?_, ?_, ?_, ?_, ?_, ?_, ?_, trivial⟩ ?_
        · exact fun a wx hT hF K hK => rely_wp rfl (opr_fldU0 rfl hF.1 (hK _ _ (NewT.refl _) rfl))
        · exact fun a wx hT hF K hK => rely_wp rfl (opr_ldS (hT.row Rg1.out) (by decide) rfl rfl hF.1 (hK _ _ (NewT.refl _) rfl))
        · exact fun a wx hT hF K hK => rely_wp rfl (opr_fldR (by decide) rfl hF.1 (hK _ _ (NewT.refl _) rfl))
        · exact fun a wx hT hF K hK => rely_wp rfl (opr_ldI (hT.row Rg2.out) (by decide) rfl rfl hF.1 (hK _ _ (NewT.refl _) rfl))
        · intro a wx hT hF K hK
          obtain ⟨f18, f20, _⟩ := hF
          have f18 : a.tmps.getD 18 undef = sv := f18
          have f20 : a.tmps.getD 20 undef = .int .i64 (x.step) := f20
          refine rely_wp rfl ?_
          exact opr_idxSt (k := k) (d := d) (⟨HKL.out, HDD.out⟩) (HKX.out) rfl (by rw [eval_tmp, f18]; exact ((NewT.trans _ _ _ HM.out hT).pairs HS.out)) f20 (fun v hv => hK v _ (NewT.refl _) hv)
        · exact fun a wx hT hF K hK => rely_wp rfl (opr_fldSt1 rfl hF.1 (fun u hu => hK u _ (NewT.refl _) hu))
        · exact fun a wx hT hF K hK => rely_wp rfl (opr_ldIp rfl hF.1 (hK _ _ (NewT.refl _) rfl))
        · exact fun a wx hT hF K hK => rely_wp rfl (opr_cmp (b := ((d).2) == 1) (.inl ⟨rfl, rfl⟩) Try.underlying3 rfl hF.1 rfl (hK _ _ (NewT.refl _) rfl))
        · exact fun a wx hT hF K hK => rely_wp rfl (opr_move (.inl rfl) (hK _ _ (NewT.refl _) hF.1))
        · exact fun a wx hT hF K hK => rely_if (rely_gt hF.2.1) (NewT.refl _) hK fun hE hK => opr_fldU3 rfl hF.1 (hK _ _ (NewT.refl _) rfl)
        · exact fun a wx hT hF K hK => rely_if (rely_gt hF.2.1) (NewT.refl _) hK fun hE hK => opr_ldI (hT.row Rg1.out) (by decide) rfl rfl (hF.1 hE) (hK _ _ (NewT.refl _) rfl)
        · exact fun a wx hT hF K hK => rely_if (rely_gt hF.2.1) (NewT.refl _) hK fun hE hK => opr_move (.inl rfl) (hK _ _ (NewT.refl _) hF.1)
        · exact fun a wx hT hF K hK => rely_if (rely_gt hF.2.2.1) (NewT.refl _) hK fun hE hK => opr_cmp (b := g.tr == lim) (.inl ⟨rfl, rfl⟩) Try.underlying3 rfl (hF.1 hE) (hF.2.1 hE) (hK _ _ (NewT.refl _) rfl)
        · exact fun a wx hT hF K hK => rely_wp rfl (opr_pick_b rfl hF.1 (fun hb => hK _ _ (NewT.refl _) (pk_and1 (hF.2.1 hb) hb)) (fun hb => hK _ _ (NewT.refl _) (pk_and0 hb)))
        · intro w3 k3
          iterate 4 (intro u h; obtain rfl := Eq.symm (h (by simp)); clear h)
          iterate 2 (intro _ _)
          iterate 3 (intro u h; obtain rfl := Eq.symm (h (by simp)); clear h)
          iterate 4 (intro _ _)
          intro u h; obtain rfl := Eq.symm (h (by simp)); clear h
          refine relyEnd_nil rfl ?_
          refine wpList_end rfl ?_
          simp only [Act.put, List.setIfInBounds_toArray, List.set_cons_zero, List.set_cons_succ]
          go_simp
          replace Rg1 := Lib.hid (k3.row Rg1.out)
          replace Rg2 := Lib.hid (k3.row Rg2.out)
          replace Rg3 := Lib.hid (k3.row Rg3.out)
          replace HM := Lib.hid (NewT.trans _ _ _ HM.out k3)
          clear k3
          cases hq : ((((d).2) == 1) && (g.tr == lim))
          · have HE : Hid (lapG l lim g x.back x.step = { g with so := orI g.so (bitI x.step) }) := Lib.hid (by
              unfold lapG kdL
              rw [hb, if_neg (by simp), ← HKX.out, Int.toNat_natCast, HDD.out, if_neg (fun h => by
                rw [Bool.and_eq_false_iff] at hq
                rcases hq with hq | hq
                · simp [h.1] at hq
                · simp [h.2] at hq)])
            clear hb hq
            go_upto_region 6 with fail
            refine wp_region_steps0 NewT [SV.eq (.agg (rowA 10 (sgF sv ({ g with so := orI g.so (bitI x.step) }))))] [([(3, none)], none)] 34 1 rfl rfl (by kernel_rfl) NewT.trans (NewT.refl _) (Nat.le_of_ble_eq_true rfl) ⟨?_, trivial⟩ ?_
            · exact fun a wx hT hF K hK => rely_wp rfl (opr_ldU (hT.row Rg1.out) rfl hF.1 (hK _ _ (NewT.refl _) rfl))
            · intro w4 k4
              intro u h; obtain rfl := Eq.symm (h (by simp)); clear h
              refine relyEnd_nil rfl ?_
              simp only [Act.put, List.setIfInBounds_toArray, List.set_cons_zero, List.set_cons_succ]
              refine wpList_plain rfl (fun K hK => ?_)
              refine opr_putm (g := g3) (o0 := 0) (m := 10) (f := sgF sv ({ g with so := orI g.so (bitI x.step) })) (F := sgF sv ({ g with so := orI g.so (bitI x.step) })) rfl rfl rfl (k4.row Rg3.out) (by decide) info_saga (sgF_one _ _ (oneP HS.out)) (put_allN _ _ _) ?_
              intro W4 hR4 rr4
              refine hK _ _ ?_
              clear hK K
              refine wpList_end rfl ?_
              simp only [Act.put, List.setIfInBounds_toArray, List.set_cons_zero, List.set_cons_succ]
              go_simp
              replace Rg3 := Lib.hid rr4
              replace Rg1 := Lib.hid (hR4.row (by have h_0 := HG.out; omega) (k4.row Rg1.out))
              replace Rg2 := Lib.hid (hR4.row (by have h_0 := HG.out; omega) (k4.row Rg2.out))
              replace HM := Lib.hid (NewT.rt (NewT.trans _ _ _ HM.out k4) hR4 (by have h_0 := HG.out; omega))
              clear k4 hR4 rr4
              go_wp2
              exact bodyPost_ret (results_agg rfl _ rfl Rg3.out Try.underlying48 rfl info_saga) rfl ⟨_, rfl, HM.out, by show _ = Value.agg _; rw [HE.out]⟩
          · have HE : Hid (lapG l lim g x.back x.step = turnG { g with so := orI g.so (bitI x.step) }) := Lib.hid (by
              unfold lapG kdL
              rw [Bool.and_eq_true] at hq
              rw [hb, if_neg (by simp), ← HKX.out, Int.toNat_natCast, HDD.out, if_pos ⟨by simpa using hq.1, by simpa using hq.2⟩])
            clear hb hq
            go_upto_region 5 with fail
            refine wp_region_steps0 NewT [SV.eq (.agg (rowA 10 (sgF sv ({ g with so := orI g.so (bitI x.step) })))), SV.eq ((.agg (rowA 10 (sgF sv (turnG ({ g with so := orI g.so (bitI x.step) }))))))] [([(3, none)], none), ([(31, some 0)], none)] 34 2 rfl rfl (by kernel_rfl) NewT.trans (NewT.refl _) (Nat.le_of_ble_eq_true rfl) ⟨?_, ?_, trivial⟩ ?_
            · exact fun a wx hT hF K hK => rely_wp rfl (opr_ldU (hT.row Rg1.out) rfl hF.1 (hK _ _ (NewT.refl _) rfl))
            · exact fun a wx hT hF K hK => rely_wp rfl (opr_cv (turned_cv sv ({ g with so := orI g.so (bitI x.step) }) wx (oneP HS.out)) rfl Try.func66 (by kernel_rfl) (by kernel_rfl) (evs1 hF.1) hK)
            · intro w5 k5
              iterate 2 (intro u h; obtain rfl := Eq.symm (h (by simp)); clear h)
              refine relyEnd_nil rfl ?_
              simp only [Act.put, List.setIfInBounds_toArray, List.set_cons_zero, List.set_cons_succ]
              refine wpList_plain rfl (fun K hK => ?_)
              refine opr_putm (g := g3) (o0 := 0) (m := 10) (f := sgF sv (turnG { g with so := orI g.so (bitI x.step) })) (F := sgF sv (turnG { g with so := orI g.so (bitI x.step) })) rfl rfl rfl (k5.row Rg3.out) (by decide) info_saga (sgF_one _ _ (oneP HS.out)) (put_allN _ _ _) ?_
              intro W5 hR5 rr5
              refine hK _ _ ?_
              clear hK K
              refine wpList_end rfl ?_
              simp only [Act.put, List.setIfInBounds_toArray, List.set_cons_zero, List.set_cons_succ]
              go_simp
              replace Rg3 := Lib.hid rr5
              replace Rg1 := Lib.hid (hR5.row (by have h_0 := HG.out; omega) (k5.row Rg1.out))
              replace Rg2 := Lib.hid (hR5.row (by have h_0 := HG.out; omega) (k5.row Rg2.out))
              replace HM := Lib.hid (NewT.rt (NewT.trans _ _ _ HM.out k5) hR5 (by have h_0 := HG.out; omega))
              clear k5 hR5 rr5
              go_wp2
              exact bodyPost_ret (results_agg rfl _ rfl Rg3.out Try.underlying48 rfl info_saga) rfl ⟨_, rfl, HM.out, by show _ = Value.agg _; rw [HE.out]⟩
    · have HE : Hid (lapG l lim g x.back x.step = g) := Lib.hid (by unfold lapG; rw [hb, if_pos rfl])
      clear hb
      go_upto_region 2 with fail
      refine wp_region_steps0 NewT [SV.eq (.agg (rowA 10 (sgF sv g)))] [([(3, none)], none)] 34 1 rfl rfl (by kernel_rfl) NewT.trans (NewT.refl _) (Nat.le_of_ble_eq_true rfl) ⟨?_, trivial⟩ ?_
      · exact fun a wx hT hF K hK => rely_wp rfl (opr_ldU (hT.row Rg1.out) rfl hF.1 (hK _ _ (NewT.refl _) rfl))
      · intro w6 k6
        intro u h; obtain rfl := Eq.symm (h (by simp)); clear h
        refine relyEnd_nil rfl ?_
        simp only [Act.put, List.setIfInBounds_toArray, List.set_cons_zero, List.set_cons_succ]
        refine wpList_plain rfl (fun K hK => ?_)
        refine opr_putm (g := g3) (o0 := 0) (m := 10) (f := sgF sv (g)) (F := sgF sv (g)) rfl rfl rfl (k6.row Rg3.out) (by decide) info_saga (sgF_one _ _ (oneP HS.out)) (put_allN _ _ _) ?_
        intro W6 hR6 rr6
        refine hK _ _ ?_
        clear hK K
        refine wpList_end rfl ?_
        simp only [Act.put, List.setIfInBounds_toArray, List.set_cons_zero, List.set_cons_succ]
        go_simp
        replace Rg3 := Lib.hid rr6
        replace Rg1 := Lib.hid (hR6.row (by have h_0 := HG.out; omega) (k6.row Rg1.out))
        replace Rg2 := Lib.hid (hR6.row (by have h_0 := HG.out; omega) (k6.row Rg2.out))
        replace HM := Lib.hid (NewT.rt (NewT.trans _ _ _ HM.out k6) hR6 (by have h_0 := HG.out; omega))
        clear k6 hR6 rr6
        go_wp2
        exact bodyPost_ret (results_agg rfl _ rfl Rg3.out Try.underlying48 rfl info_saga) rfl ⟨_, rfl, HM.out, by show _ = Value.agg _; rw [HE.out]⟩
end Go.Proofs.Ytilmeffmdgcblaa
/- Package saga: the saga behind a record that goes. -/
namespace Go.Proofs.Ytilmeffmdgcblaa
open Go Go.RowKit
set_option maxRecDepth 8000
set_option linter.all false
set_option maxHeartbeats 4000000 in
theorem behind_cv (sv : Value) (l : List (Int × Int)) (g : Sg) (x : Rc) (v : Value) (lim : Int) (w : World) (hs : RdP w sv l) (hx : RecV w v x) (hl : l.length ≤ 6) (hst : 0 ≤ x.step ∧ x.step < l.length) (hkd : x.kind = 2 ∨ x.kind = 5 ∨ x.kind = 3 ∨ x.kind = 4) (ha : 0 ≤ g.at_ ∧ g.at_ ≤ 6) (hq : 0 ≤ g.sq ∧ g.sq ≤ 1000000) : Cv 39 #[.agg (rowA 10 (sgF sv g)), v, .int .i64 lim] w (.eq (.agg (rowA 10 (sgF sv (behG l lim g x))))) := by
  obtain ⟨su, dv, rfl, hsx, hdx⟩ := hx
  have HX : Hid (RecV w (.agg (rowA 109 (recF x su dv))) x) := Lib.hid ⟨su, dv, rfl, hsx, hdx⟩
  have HSX := Lib.hid hsx
  have HD := Lib.hid hdx
  clear hsx hdx
  unfold Cv
  have HS := Lib.hid hs
  have HK6 : Hid (0 ≤ x.step ∧ x.step < 6) := Lib.hid (by omega)
  have HL6 := Lib.hid hl
  have HST := Lib.hid hst
  have HKD := Lib.hid hkd
  have HAT := Lib.hid ha
  have HSQ := Lib.hid hq
  clear hs hl hst hkd ha hq
  go_enter Try.func39, Try.ntmps39
  go_upto_region 1 with fail
  have r_g1 := ((rowIs_box w 48 10 (sgF sv g)).alloc (.cells (rowA 109 (recF x su dv)) 46)).alloc (.cells (rowA 10 (sgF (.slice none 0 0) zG)) 48)
  have r_g2 := (rowIs_box (w.alloc (.cells (rowA 10 (sgF sv g)) 48)) 46 109 (recF x su dv)).alloc (.cells (rowA 10 (sgF (.slice none 0 0) zG)) 48)
  rw [World.size_alloc] at r_g2
  have r_g3 := rowIs_box ((w.alloc (.cells (rowA 10 (sgF sv g)) 48)).alloc (.cells (rowA 109 (recF x su dv)) 46)) 48 10 (sgF (.slice none 0 0) zG)
  rw [World.size_alloc, World.size_alloc] at r_g3
  have hN : NewT w (((w.alloc (.cells (rowA 10 (sgF sv g)) 48)).alloc (.cells (rowA 109 (recF x su dv)) 46)).alloc (.cells (rowA 10 (sgF (.slice none 0 0) zG)) 48)) := (NewT.trans _ _ _ ((NewT.trans _ _ _ (NewT.alloc _ _) (NewT.alloc _ _))) (NewT.alloc _ _))
  change Code.wp _ _ _ _ (((w.alloc (.cells (rowA 10 (sgF sv g)) 48)).alloc (.cells (rowA 109 (recF x su dv)) 46)).alloc (.cells (rowA 10 (sgF (.slice none 0 0) zG)) 48))
  generalize (((w.alloc (.cells (rowA 10 (sgF sv g)) 48)).alloc (.cells (rowA 109 (recF x su dv)) 46)).alloc (.cells (rowA 10 (sgF (.slice none 0 0) zG)) 48)) = W0 at r_g1 r_g2 r_g3 hN ⊢
  obtain ⟨g1, h_g1⟩ : ∃ g_, w.heap.size = g_ := ⟨_, rfl⟩
  obtain ⟨g2, h_g2⟩ : ∃ g_, w.heap.size + 1 = g_ := ⟨_, rfl⟩
  obtain ⟨g3, h_g3⟩ : ∃ g_, w.heap.size + 1 + 1 = g_ := ⟨_, rfl⟩
  have HG : Hid (w.heap.size ≤ g1 ∧ g1 < g2 ∧ g2 < g3) := Lib.hid (by omega)
  rw [h_g1] at r_g1
  rw [h_g2] at r_g2
  rw [h_g3] at r_g3
  try rw [h_g3]
  try rw [h_g2]
  simp only [h_g1]
  have Rg1 := Lib.hid r_g1
  have Rg2 := Lib.hid r_g2
  have Rg3 := Lib.hid r_g3
  have HM := Lib.hid hN
  clear r_g1 r_g2 r_g3 hN h_g1 h_g2 h_g3
  go_upto_region 1 with fail
  refine wp_region_steps0 NewT [SV.eq (.pointer (some ⟨g1, 9, none⟩)), SV.eq (.int .i64 (g.sq)), SV.eq (.int .i64 (g.sq + 1)), SV.eq (.pointer (some ⟨g1, 9, none⟩))] [([(3, none)], none), ([(7, some 0)], none), ([(8, some 1)], none), ([(3, none)], none)] 55 4 rfl rfl (by kernel_rfl) NewT.trans (NewT.refl _) (Nat.le_of_ble_eq_true rfl) ⟨?_, ?_, ?_, ?_, trivial⟩ ?_
  · exact fun a wx hT hF K hK => rely_wp rfl (opr_fldU9 rfl hF.1 (hK _ _ (NewT.refl _) rfl))
  · exact fun a wx hT hF K hK => rely_wp rfl (opr_ldI (hT.row Rg1.out) (by decide) rfl rfl hF.1 (hK _ _ (NewT.refl _) rfl))
  · exact fun a wx hT hF K hK => rely_wp rfl (opr_add (r := g.sq + 1) Try.underlying3 (by have := HSQ.out; unfold wrap64; omega) rfl hF.1 rfl (hK _ _ (NewT.refl _) rfl))
  · exact fun a wx hT hF K hK => rely_wp rfl (opr_fldU9 rfl hF.1 (hK _ _ (NewT.refl _) rfl))
  · intro w1 k1
    iterate 4 (intro u h; obtain rfl := Eq.symm (h (by simp)); clear h)
    refine relyEnd_nil rfl ?_
    simp only [Act.put, List.setIfInBounds_toArray, List.set_cons_zero, List.set_cons_succ]
    refine wpList_plain rfl (fun K hK => ?_)
    refine opr_put1 (g := g1) (o0 := 9) (v := .int .i64 (g.sq + 1)) (F := sgF sv ({ g with sq := g.sq + 1 })) rfl rfl rfl (k1.row Rg1.out) (by decide) info_i1 rfl (fun i hi => gs_sq sv g i hi _) ?_
    intro W1 hR1 rr1
    refine hK _ _ ?_
    clear hK K
    refine wpList_end rfl ?_
    simp only [Act.put, List.setIfInBounds_toArray, List.set_cons_zero, List.set_cons_succ]
    go_simp
    replace Rg1 := Lib.hid rr1
    replace Rg2 := Lib.hid (hR1.row (by have h_0 := HG.out; omega) (k1.row Rg2.out))
    replace Rg3 := Lib.hid (hR1.row (by have h_0 := HG.out; omega) (k1.row Rg3.out))
    replace HM := Lib.hid (NewT.rt (NewT.trans _ _ _ HM.out k1) hR1 (by have h_0 := HG.out; omega))
    clear k1 hR1 rr1
    go_upto_region 2 with fail
    refine wp_region_steps0 NewT [SV.eq (.pointer (some ⟨g2, 0, none⟩)), SV.eq (.int .i64 (x.kind)), SV.eq (.bool (x.kind == 2)), SV.eq (.pointer (some ⟨g1, 4, none⟩))] [([(4, none)], none), ([(11, some 0)], none), ([(12, some 1)], none), ([(3, none)], none)] 55 4 rfl rfl (by kernel_rfl) NewT.trans (NewT.refl _) (Nat.le_of_ble_eq_true rfl) ⟨?_, ?_, ?_, ?_, trivial⟩ ?_
    · exact fun a wx hT hF K hK => rely_wp rfl (opr_fldR (by decide) rfl hF.1 (hK _ _ (NewT.refl _) rfl))
    · exact fun a wx hT hF K hK => rely_wp rfl (opr_ldI (hT.row Rg2.out) (by decide) rfl rfl hF.1 (hK _ _ (NewT.refl _) rfl))
    · exact fun a wx hT hF K hK => rely_wp rfl (opr_cmp (b := x.kind == 2) (.inl ⟨rfl, rfl⟩) Try.underlying3 rfl hF.1 rfl (hK _ _ (NewT.refl _) rfl))
    · exact fun a wx hT hF K hK => rely_wp rfl (opr_fldU4 rfl hF.1 (hK _ _ (NewT.refl _) rfl))
    · intro w2 k2
      iterate 4 (intro u h; obtain rfl := Eq.symm (h (by simp)); clear h)
      refine relyEnd_nil rfl ?_
      simp only [Act.put, List.setIfInBounds_toArray, List.set_cons_zero, List.set_cons_succ]
      refine wpList_plain rfl (fun K hK => ?_)
      refine opr_put1 (g := g1) (o0 := 4) (v := .bool (x.kind == 2)) (F := sgF sv ({ g with sq := g.sq + 1, wt := x.kind == 2 })) rfl rfl rfl (k2.row Rg1.out) (by decide) info_b1 rfl (fun i hi => gs_wt sv { g with sq := g.sq + 1 } i hi _) ?_
      intro W2 hR2 rr2
      refine hK _ _ ?_
      clear hK K
      refine wpList_end rfl ?_
      simp only [Act.put, List.setIfInBounds_toArray, List.set_cons_zero, List.set_cons_succ]
      go_simp
      replace Rg1 := Lib.hid rr2
      replace Rg2 := Lib.hid (hR2.row (by have h_0 := HG.out; omega) (k2.row Rg2.out))
      replace Rg3 := Lib.hid (hR2.row (by have h_0 := HG.out; omega) (k2.row Rg3.out))
      replace HM := Lib.hid (NewT.rt (NewT.trans _ _ _ HM.out k2) hR2 (by have h_0 := HG.out; omega))
      clear k2 hR2 rr2
      go_upto_region 3 with fail
      refine wp_region_steps0 NewT [SV.eq (.pointer (some ⟨g1, 4, none⟩)), SV.eq (.bool (x.kind == 2)), SV.eq (.bool (x.kind == 2)), svIf (x.kind == 2) (SV.eq (.pointer (some ⟨g2, 5, none⟩))), svIf (x.kind == 2) (SV.eq (.bool (x.back))), SV.eq (.bool ((x.kind == 2) && x.back)), SV.eq (.pointer (some ⟨g1, 5, none⟩))] [([(3, none)], none), ([(15, some 0)], none), ([(16, some 1)], none), ([(4, none), (17, some 2)], some (17, true)), ([(18, some 3), (17, some 2)], some (17, true)), ([(17, some 2), (19, some 4)], none), ([(3, none)], none)] 55 7 rfl rfl (by kernel_rfl) NewT.trans (NewT.refl _) (Nat.le_of_ble_eq_true rfl) ⟨?_, ?_, ?_, ?_, ?_, ?_, ?_, trivial⟩ ?_
      · exact fun a wx hT hF K hK => rely_wp rfl (opr_fldU4 rfl hF.1 (hK _ _ (NewT.refl _) rfl))
      · exact fun a wx hT hF K hK => rely_wp rfl (opr_ldQ (hT.row Rg1.out) (by decide) rfl rfl hF.1 (hK _ _ (NewT.refl _) rfl))
      · exact fun a wx hT hF K hK => rely_wp rfl (opr_move (.inl rfl) (hK _ _ (NewT.refl _) hF.1))
      · exact fun a wx hT hF K hK => rely_if (rely_gt hF.2.1) (NewT.refl _) hK fun hE hK => opr_fldR (by decide) rfl hF.1 (hK _ _ (NewT.refl _) rfl)
      · exact fun a wx hT hF K hK => rely_if (rely_gt hF.2.1) (NewT.refl _) hK fun hE hK => opr_ldQ (hT.row Rg2.out) (by decide) rfl rfl (hF.1 hE) (hK _ _ (NewT.refl _) rfl)
      · exact fun a wx hT hF K hK => rely_wp rfl (opr_pick_b rfl hF.1 (fun hb => hK _ _ (NewT.refl _) (pk_and1 (hF.2.1 hb) hb)) (fun hb => hK _ _ (NewT.refl _) (pk_and0 hb)))
      · exact fun a wx hT hF K hK => rely_wp rfl (opr_fldU5 rfl hF.1 (hK _ _ (NewT.refl _) rfl))
      · intro w3 k3
        iterate 3 (intro u h; obtain rfl := Eq.symm (h (by simp)); clear h)
        iterate 2 (intro _ _)
        iterate 2 (intro u h; obtain rfl := Eq.symm (h (by simp)); clear h)
        refine relyEnd_nil rfl ?_
        simp only [Act.put, List.setIfInBounds_toArray, List.set_cons_zero, List.set_cons_succ]
        refine wpList_plain rfl (fun K hK => ?_)
        refine opr_put1 (g := g1) (o0 := 5) (v := .bool (x.kind == 2 && x.back)) (F := sgF sv ({ g with sq := g.sq + 1, wt := x.kind == 2, bk := x.kind == 2 && x.back })) rfl rfl rfl (k3.row Rg1.out) (by decide) info_b1 rfl (fun i hi => gs_bk sv { g with sq := g.sq + 1, wt := x.kind == 2 } i hi _) ?_
        intro W3 hR3 rr3
        refine hK _ _ ?_
        clear hK K
        refine wpList_end rfl ?_
        simp only [Act.put, List.setIfInBounds_toArray, List.set_cons_zero, List.set_cons_succ]
        go_simp
        replace Rg1 := Lib.hid rr3
        replace Rg2 := Lib.hid (hR3.row (by have h_0 := HG.out; omega) (k3.row Rg2.out))
        replace Rg3 := Lib.hid (hR3.row (by have h_0 := HG.out; omega) (k3.row Rg3.out))
        replace HM := Lib.hid (NewT.rt (NewT.trans _ _ _ HM.out k3) hR3 (by have h_0 := HG.out; omega))
        clear k3 hR3 rr3
        obtain ⟨g0, hg0⟩ := hid_ex (begG g x)
        replace Rg1 : Hid (W3.rowIs g1 48 10 (sgF sv g0)) := Lib.hid (by rw [← hg0.out]; exact Rg1.out)
        have HE0 : Hid (behG l lim g x = if x.kind = 2 then { g0 with tr := x.tr } else if x.kind = 5 then { g0 with ph := x.nd } else if x.kind = 3 then (if x.good = true then wellG g0 x.back x.step else if x.back = false then refG l g0 x.step else lapG l lim g0 x.back x.step) else if x.kind = 4 then lapG l lim g0 x.back x.step else g0) := Lib.hid (by rw [← hg0.out]; rfl)
        replace HAT : Hid (0 ≤ g0.at_ ∧ g0.at_ ≤ 6) := Lib.hid (by rw [← hg0.out]; exact HAT.out)
        clear hg0
        have c0 : W3.cell? ⟨g2, 0, none⟩ = some (.int .i64 x.kind) := Rg2.out.cell (i := 0) (by omega)
        by_cases hk : x.kind = 2
        · have HE : Hid (behG l lim g x = { g0 with tr := x.tr }) := Lib.hid (by rw [HE0.out, if_pos hk])
          rw [hk] at c0
          clear hk
          go_upto_region 9 with fail
          clear c0
          refine wp_region_steps0 NewT [SV.eq (.pointer (some ⟨g2, 4, none⟩)), SV.eq (.int .i64 (x.tr)), SV.eq (.pointer (some ⟨g1, 3, none⟩))] [([(4, none)], none), ([(32, some 0)], none), ([(3, none)], none)] 55 3 rfl rfl (by kernel_rfl) NewT.trans (NewT.refl _) (Nat.le_of_ble_eq_true rfl) ⟨?_, ?_, ?_, trivial⟩ ?_
          · exact fun a wx hT hF K hK => rely_wp rfl (opr_fldR (by decide) rfl hF.1 (hK _ _ (NewT.refl _) rfl))
          · exact fun a wx hT hF K hK => rely_wp rfl (opr_ldI (hT.row Rg2.out) (by decide) rfl rfl hF.1 (hK _ _ (NewT.refl _) rfl))
          · exact fun a wx hT hF K hK => rely_wp rfl (opr_fldU3 rfl hF.1 (hK _ _ (NewT.refl _) rfl))
          · intro w4 k4
            iterate 3 (intro u h; obtain rfl := Eq.symm (h (by simp)); clear h)
            refine relyEnd_nil rfl ?_
            simp only [Act.put, List.setIfInBounds_toArray, List.set_cons_zero, List.set_cons_succ]
            refine wpList_plain rfl (fun K hK => ?_)
            refine opr_put1 (g := g1) (o0 := 3) (v := .int .i64 x.tr) (F := sgF sv ({ g0 with tr := x.tr })) rfl rfl rfl (k4.row Rg1.out) (by decide) info_i1 rfl (fun i hi => gs_tr sv g0 i hi _) ?_
            intro W4 hR4 rr4
            refine hK _ _ ?_
            clear hK K
            refine wpList_end rfl ?_
            simp only [Act.put, List.setIfInBounds_toArray, List.set_cons_zero, List.set_cons_succ]
            go_simp
            replace Rg1 := Lib.hid rr4
            replace Rg2 := Lib.hid (hR4.row (by have h_0 := HG.out; omega) (k4.row Rg2.out))
            replace Rg3 := Lib.hid (hR4.row (by have h_0 := HG.out; omega) (k4.row Rg3.out))
            replace HM := Lib.hid (NewT.rt (NewT.trans _ _ _ HM.out k4) hR4 (by have h_0 := HG.out; omega))
            clear k4 hR4 rr4
            go_upto_region 16 with fail
            refine wp_region_steps0 NewT [SV.eq (.agg (rowA 10 (sgF sv ({ g0 with tr := x.tr }))))] [([(3, none)], none)] 55 1 rfl rfl (by kernel_rfl) NewT.trans (NewT.refl _) (Nat.le_of_ble_eq_true rfl) ⟨?_, trivial⟩ ?_
            · exact fun a wx hT hF K hK => rely_wp rfl (opr_ldU (hT.row Rg1.out) rfl hF.1 (hK _ _ (NewT.refl _) rfl))
            · intro w5 k5
              intro u h; obtain rfl := Eq.symm (h (by simp)); clear h
              refine relyEnd_nil rfl ?_
              simp only [Act.put, List.setIfInBounds_toArray, List.set_cons_zero, List.set_cons_succ]
              refine wpList_plain rfl (fun K hK => ?_)
              refine opr_putm (g := g3) (o0 := 0) (m := 10) (f := sgF sv ({ g0 with tr := x.tr })) (F := sgF sv ({ g0 with tr := x.tr })) rfl rfl rfl (k5.row Rg3.out) (by decide) info_saga (sgF_one _ _ (oneP HS.out)) (put_allN _ _ _) ?_
              intro W5 hR5 rr5
              refine hK _ _ ?_
              clear hK K
              refine wpList_end rfl ?_
              simp only [Act.put, List.setIfInBounds_toArray, List.set_cons_zero, List.set_cons_succ]
              go_simp
              replace Rg3 := Lib.hid rr5
              replace Rg1 := Lib.hid (hR5.row (by have h_0 := HG.out; omega) (k5.row Rg1.out))
              replace Rg2 := Lib.hid (hR5.row (by have h_0 := HG.out; omega) (k5.row Rg2.out))
              replace HM := Lib.hid (NewT.rt (NewT.trans _ _ _ HM.out k5) hR5 (by have h_0 := HG.out; omega))
              clear k5 hR5 rr5
              go_wp2
              exact bodyPost_ret (results_agg rfl _ rfl Rg3.out Try.underlying48 rfl info_saga) rfl ⟨_, rfl, HM.out, by show _ = Value.agg _; rw [HE.out]⟩
        have k2 := hk
        clear hk
        by_cases hk : x.kind = 5
        · have HE : Hid (behG l lim g x = { g0 with ph := x.nd }) := Lib.hid (by rw [HE0.out, if_neg k2, if_pos hk])
          rw [hk] at c0
          clear hk k2
          go_upto_region 10 with fail
          clear c0
          refine wp_region_steps0 NewT [SV.eq (.pointer (some ⟨g2, 7, none⟩)), SV.eq (.int .i64 (x.nd)), SV.eq (.pointer (some ⟨g1, 1, none⟩))] [([(4, none)], none), ([(35, some 0)], none), ([(3, none)], none)] 55 3 rfl rfl (by kernel_rfl) NewT.trans (NewT.refl _) (Nat.le_of_ble_eq_true rfl) ⟨?_, ?_, ?_, trivial⟩ ?_
          · exact fun a wx hT hF K hK => rely_wp rfl (opr_fldR (by decide) rfl hF.1 (hK _ _ (NewT.refl _) rfl))
          · exact fun a wx hT hF K hK => rely_wp rfl (opr_ldI (hT.row Rg2.out) (by decide) rfl rfl hF.1 (hK _ _ (NewT.refl _) rfl))
          · exact fun a wx hT hF K hK => rely_wp rfl (opr_fldU1 rfl hF.1 (hK _ _ (NewT.refl _) rfl))
          · intro w6 k6
            iterate 3 (intro u h; obtain rfl := Eq.symm (h (by simp)); clear h)
            refine relyEnd_nil rfl ?_
            simp only [Act.put, List.setIfInBounds_toArray, List.set_cons_zero, List.set_cons_succ]
            refine wpList_plain rfl (fun K hK => ?_)
            refine opr_put1 (g := g1) (o0 := 1) (v := .int .i64 x.nd) (F := sgF sv ({ g0 with ph := x.nd })) rfl rfl rfl (k6.row Rg1.out) (by decide) info_i1 rfl (fun i hi => gs_ph sv g0 i hi _) ?_
            intro W6 hR6 rr6
            refine hK _ _ ?_
            clear hK K
            refine wpList_end rfl ?_
            simp only [Act.put, List.setIfInBounds_toArray, List.set_cons_zero, List.set_cons_succ]
            go_simp
            replace Rg1 := Lib.hid rr6
            replace Rg2 := Lib.hid (hR6.row (by have h_0 := HG.out; omega) (k6.row Rg2.out))
            replace Rg3 := Lib.hid (hR6.row (by have h_0 := HG.out; omega) (k6.row Rg3.out))
            replace HM := Lib.hid (NewT.rt (NewT.trans _ _ _ HM.out k6) hR6 (by have h_0 := HG.out; omega))
            clear k6 hR6 rr6
            go_upto_region 16 with fail
            refine wp_region_steps0 NewT [SV.eq (.agg (rowA 10 (sgF sv ({ g0 with ph := x.nd }))))] [([(3, none)], none)] 55 1 rfl rfl (by kernel_rfl) NewT.trans (NewT.refl _) (Nat.le_of_ble_eq_true rfl) ⟨?_, trivial⟩ ?_
            · exact fun a wx hT hF K hK => rely_wp rfl (opr_ldU (hT.row Rg1.out) rfl hF.1 (hK _ _ (NewT.refl _) rfl))
            · intro w7 k7
              intro u h; obtain rfl := Eq.symm (h (by simp)); clear h
              refine relyEnd_nil rfl ?_
              simp only [Act.put, List.setIfInBounds_toArray, List.set_cons_zero, List.set_cons_succ]
              refine wpList_plain rfl (fun K hK => ?_)
              refine opr_putm (g := g3) (o0 := 0) (m := 10) (f := sgF sv ({ g0 with ph := x.nd })) (F := sgF sv ({ g0 with ph := x.nd })) rfl rfl rfl (k7.row Rg3.out) (by decide) info_saga (sgF_one _ _ (oneP HS.out)) (put_allN _ _ _) ?_
              intro W7 hR7 rr7
              refine hK _ _ ?_
              clear hK K
              refine wpList_end rfl ?_
              simp only [Act.put, List.setIfInBounds_toArray, List.set_cons_zero, List.set_cons_succ]
              go_simp
              replace Rg3 := Lib.hid rr7
              replace Rg1 := Lib.hid (hR7.row (by have h_0 := HG.out; omega) (k7.row Rg1.out))
              replace Rg2 := Lib.hid (hR7.row (by have h_0 := HG.out; omega) (k7.row Rg2.out))
              replace HM := Lib.hid (NewT.rt (NewT.trans _ _ _ HM.out k7) hR7 (by have h_0 := HG.out; omega))
              clear k7 hR7 rr7
              go_wp2
              exact bodyPost_ret (results_agg rfl _ rfl Rg3.out Try.underlying48 rfl info_saga) rfl ⟨_, rfl, HM.out, by show _ = Value.agg _; rw [HE.out]⟩
        have k5 := hk
        clear hk
        by_cases hk : x.kind = 3
        · have HE1 : Hid (behG l lim g x = if x.good = true then wellG g0 x.back x.step else if x.back = false then refG l g0 x.step else lapG l lim g0 x.back x.step) := Lib.hid (by rw [HE0.out, if_neg k2, if_neg k5, if_pos hk])
          rw [hk] at c0
          clear hk k2 k5
          go_upto_region 11 with fail
          clear c0
          refine wp_region_steps0 NewT [SV.eq (.pointer (some ⟨g2, 6, none⟩)), SV.eq (.bool (x.good))] [([(4, none)], none), ([(38, some 0)], none)] 55 2 rfl rfl (by kernel_rfl) NewT.trans (NewT.refl _) (Nat.le_of_ble_eq_true rfl) ⟨?_, ?_, trivial⟩ ?_
          · exact fun a wx hT hF K hK => rely_wp rfl (opr_fldR (by decide) rfl hF.1 (hK _ _ (NewT.refl _) rfl))
          · exact fun a wx hT hF K hK => rely_wp rfl (opr_ldQ (hT.row Rg2.out) (by decide) rfl rfl hF.1 (hK _ _ (NewT.refl _) rfl))
          · intro w8 k8
            iterate 2 (intro u h; obtain rfl := Eq.symm (h (by simp)); clear h)
            refine relyEnd_nil rfl ?_
            refine wpList_end rfl ?_
            simp only [Act.put, List.setIfInBounds_toArray, List.set_cons_zero, List.set_cons_succ]
            go_simp
            replace Rg1 := Lib.hid (k8.row Rg1.out)
            replace Rg2 := Lib.hid (k8.row Rg2.out)
            replace Rg3 := Lib.hid (k8.row Rg3.out)
            replace HM := Lib.hid (NewT.trans _ _ _ HM.out k8)
            clear k8
            cases hb : x.good
            · skip
              go_upto_region 13 with fail
              refine wp_region_steps0 NewT [SV.eq (.pointer (some ⟨g2, 5, none⟩)), SV.eq (.bool (x.back)), SV.eq (.bool (!x.back))] [([(4, none)], none), ([(43, some 0)], none), ([(44, some 1)], none)] 55 3 rfl rfl (by kernel_rfl) NewT.trans (NewT.refl _) (Nat.le_of_ble_eq_true rfl) ⟨?_, ?_, ?_, trivial⟩ ?_
              · exact fun a wx hT hF K hK => rely_wp rfl (opr_fldR (by decide) rfl hF.1 (hK _ _ (NewT.refl _) rfl))
              · exact fun a wx hT hF K hK => rely_wp rfl (opr_ldQ (hT.row Rg2.out) (by decide) rfl rfl hF.1 (hK _ _ (NewT.refl _) rfl))
              · exact fun a wx hT hF K hK => rely_wp rfl (opr_not rfl hF.1 (hK _ _ (NewT.refl _) rfl))
              · intro w9 k9
                iterate 3 (intro u h; obtain rfl := Eq.symm (h (by simp)); clear h)
                refine relyEnd_nil rfl ?_
                refine wpList_end rfl ?_
                simp only [Act.put, List.setIfInBounds_toArray, List.set_cons_zero, List.set_cons_succ]
                go_simp
                replace Rg1 := Lib.hid (k9.row Rg1.out)
                replace Rg2 := Lib.hid (k9.row Rg2.out)
                replace Rg3 := Lib.hid (k9.row Rg3.out)
                replace HM := Lib.hid (NewT.trans _ _ _ HM.out k9)
                clear k9
                cases hq : x.back
                · have HE : Hid (behG l lim g x = refG l g0 x.step) := Lib.hid (by rw [HE1.out, hb, hq, if_neg (by simp), if_pos rfl])
                  clear hb hq
                  go_upto_region 14 with fail
                  refine wp_region_steps0 NewT [SV.eq (.agg (rowA 10 (sgF sv g0))), SV.eq (.pointer (some ⟨g2, 3, none⟩)), SV.eq (.int .i64 (x.step)), SV.eq ((.agg (rowA 10 (sgF sv (refG l g0 x.step)))))] [([(3, none)], none), ([(4, none)], none), ([(47, some 1)], none), ([(46, some 0), (48, some 2)], none)] 55 4 rfl rfl (by kernel_rfl) NewT.trans (NewT.refl _) (Nat.le_of_ble_eq_true rfl) ⟨?_, ?_, ?_, ?_, trivial⟩ ?_
                  · exact fun a wx hT hF K hK => rely_wp rfl (opr_ldU (hT.row Rg1.out) rfl hF.1 (hK _ _ (NewT.refl _) rfl))
                  · exact fun a wx hT hF K hK => rely_wp rfl (opr_fldR (by decide) rfl hF.1 (hK _ _ (NewT.refl _) rfl))
                  · exact fun a wx hT hF K hK => rely_wp rfl (opr_ldI (hT.row Rg2.out) (by decide) rfl rfl hF.1 (hK _ _ (NewT.refl _) rfl))
                  · exact fun a wx hT hF K hK => rely_wp rfl (opr_cv (refused_cv sv l g0 x.step wx ((NewT.trans _ _ _ HM.out hT).pairs HS.out) HL6.out HST.out) rfl Try.func54 (by kernel_rfl) (by kernel_rfl) (evs2 hF.1 hF.2.1) hK)
                  · intro w10 k10
                    iterate 4 (intro u h; obtain rfl := Eq.symm (h (by simp)); clear h)
                    refine relyEnd_nil rfl ?_
                    simp only [Act.put, List.setIfInBounds_toArray, List.set_cons_zero, List.set_cons_succ]
                    refine wpList_plain rfl (fun K hK => ?_)
                    refine opr_putm (g := g3) (o0 := 0) (m := 10) (f := sgF sv (refG l g0 x.step)) (F := sgF sv (refG l g0 x.step)) rfl rfl rfl (k10.row Rg3.out) (by decide) info_saga (sgF_one _ _ (oneP HS.out)) (put_allN _ _ _) ?_
                    intro W10 hR10 rr10
                    refine hK _ _ ?_
                    clear hK K
                    refine wpList_end rfl ?_
                    simp only [Act.put, List.setIfInBounds_toArray, List.set_cons_zero, List.set_cons_succ]
                    go_simp
                    replace Rg3 := Lib.hid rr10
                    replace Rg1 := Lib.hid (hR10.row (by have h_0 := HG.out; omega) (k10.row Rg1.out))
                    replace Rg2 := Lib.hid (hR10.row (by have h_0 := HG.out; omega) (k10.row Rg2.out))
                    replace HM := Lib.hid (NewT.rt (NewT.trans _ _ _ HM.out k10) hR10 (by have h_0 := HG.out; omega))
                    clear k10 hR10 rr10
                    go_wp2
                    exact bodyPost_ret (results_agg rfl _ rfl Rg3.out Try.underlying48 rfl info_saga) rfl ⟨_, rfl, HM.out, by show _ = Value.agg _; rw [HE.out]⟩
                · have HE : Hid (behG l lim g x = lapG l lim g0 x.back x.step) := Lib.hid (by rw [HE1.out, if_neg (by rw [hb]; simp), if_neg (by rw [hq]; simp)])
                  clear hb hq
                  go_upto_region 15 with fail
                  refine wp_region_steps0 NewT [SV.eq (.agg (rowA 10 (sgF sv g0))), SV.eq (.agg (rowA 109 (recF x su dv))), SV.eq (.int .i64 (lim)), SV.eq ((.agg (rowA 10 (sgF sv (lapG l lim g0 x.back x.step)))))] [([(3, none)], none), ([(4, none)], none), ([(2, none)], none), ([(50, some 0), (51, some 1), (52, some 2)], none)] 55 4 rfl rfl (by kernel_rfl) NewT.trans (NewT.refl _) (Nat.le_of_ble_eq_true rfl) ⟨?_, ?_, ?_, ?_, trivial⟩ ?_
                  · exact fun a wx hT hF K hK => rely_wp rfl (opr_ldU (hT.row Rg1.out) rfl hF.1 (hK _ _ (NewT.refl _) rfl))
                  · exact fun a wx hT hF K hK => rely_wp rfl (opr_ldR (hT.row Rg2.out) rfl hF.1 (hK _ _ (NewT.refl _) rfl))
                  · exact fun a wx hT hF K hK => rely_wp rfl (opr_move (.inl rfl) (hK _ _ (NewT.refl _) hF.1))
                  · exact fun a wx hT hF K hK => rely_wp rfl (opr_cv (lapsed_cv sv l g0 x _ lim wx ((NewT.trans _ _ _ HM.out hT).pairs HS.out) ((NewT.trans _ _ _ HM.out hT).recV HX.out) HL6.out HST.out) rfl Try.func55 (by kernel_rfl) (by kernel_rfl) (evs3 hF.1 hF.2.1 hF.2.2.1) hK)
                  · intro w11 k11
                    iterate 4 (intro u h; obtain rfl := Eq.symm (h (by simp)); clear h)
                    refine relyEnd_nil rfl ?_
                    simp only [Act.put, List.setIfInBounds_toArray, List.set_cons_zero, List.set_cons_succ]
                    refine wpList_plain rfl (fun K hK => ?_)
                    refine opr_putm (g := g3) (o0 := 0) (m := 10) (f := sgF sv (lapG l lim g0 x.back x.step)) (F := sgF sv (lapG l lim g0 x.back x.step)) rfl rfl rfl (k11.row Rg3.out) (by decide) info_saga (sgF_one _ _ (oneP HS.out)) (put_allN _ _ _) ?_
                    intro W11 hR11 rr11
                    refine hK _ _ ?_
                    clear hK K
                    refine wpList_end rfl ?_
                    simp only [Act.put, List.setIfInBounds_toArray, List.set_cons_zero, List.set_cons_succ]
                    go_simp
                    replace Rg3 := Lib.hid rr11
                    replace Rg1 := Lib.hid (hR11.row (by have h_0 := HG.out; omega) (k11.row Rg1.out))
                    replace Rg2 := Lib.hid (hR11.row (by have h_0 := HG.out; omega) (k11.row Rg2.out))
                    replace HM := Lib.hid (NewT.rt (NewT.trans _ _ _ HM.out k11) hR11 (by have h_0 := HG.out; omega))
                    clear k11 hR11 rr11
                    go_wp2
                    exact bodyPost_ret (results_agg rfl _ rfl Rg3.out Try.underlying48 rfl info_saga) rfl ⟨_, rfl, HM.out, by show _ = Value.agg _; rw [HE.out]⟩
            · have HE : Hid (behG l lim g x = wellG g0 x.back x.step) := Lib.hid (by rw [HE1.out, if_pos hb])
              clear hb
              go_upto_region 12 with fail
              refine wp_region_steps0 NewT [SV.eq (.agg (rowA 10 (sgF sv g0))), SV.eq (.agg (rowA 109 (recF x su dv))), SV.eq ((.agg (rowA 10 (sgF sv (wellG g0 x.back x.step)))))] [([(3, none)], none), ([(4, none)], none), ([(40, some 0), (41, some 1)], none)] 55 3 rfl rfl (by kernel_rfl) NewT.trans (NewT.refl _) (Nat.le_of_ble_eq_true rfl) ⟨?_, ?_, ?_, trivial⟩ ?_
              · exact fun a wx hT hF K hK => rely_wp rfl (opr_ldU (hT.row Rg1.out) rfl hF.1 (hK _ _ (NewT.refl _) rfl))
              · exact fun a wx hT hF K hK => rely_wp rfl (opr_ldR (hT.row Rg2.out) rfl hF.1 (hK _ _ (NewT.refl _) rfl))
              · exact fun a wx hT hF K hK => rely_wp rfl (opr_cv (wentWell_cv sv l g0 x _ wx ((NewT.trans _ _ _ HM.out hT).pairs HS.out) ((NewT.trans _ _ _ HM.out hT).recV HX.out) HK6.out HAT.out) rfl Try.func53 (by kernel_rfl) (by kernel_rfl) (evs2 hF.1 hF.2.1) hK)
              · intro w12 k12
                iterate 3 (intro u h; obtain rfl := Eq.symm (h (by simp)); clear h)
                refine relyEnd_nil rfl ?_
                simp only [Act.put, List.setIfInBounds_toArray, List.set_cons_zero, List.set_cons_succ]
                refine wpList_plain rfl (fun K hK => ?_)
                refine opr_putm (g := g3) (o0 := 0) (m := 10) (f := sgF sv (wellG g0 x.back x.step)) (F := sgF sv (wellG g0 x.back x.step)) rfl rfl rfl (k12.row Rg3.out) (by decide) info_saga (sgF_one _ _ (oneP HS.out)) (put_allN _ _ _) ?_
                intro W12 hR12 rr12
                refine hK _ _ ?_
                clear hK K
                refine wpList_end rfl ?_
                simp only [Act.put, List.setIfInBounds_toArray, List.set_cons_zero, List.set_cons_succ]
                go_simp
                replace Rg3 := Lib.hid rr12
                replace Rg1 := Lib.hid (hR12.row (by have h_0 := HG.out; omega) (k12.row Rg1.out))
                replace Rg2 := Lib.hid (hR12.row (by have h_0 := HG.out; omega) (k12.row Rg2.out))
                replace HM := Lib.hid (NewT.rt (NewT.trans _ _ _ HM.out k12) hR12 (by have h_0 := HG.out; omega))
                clear k12 hR12 rr12
                go_wp2
                exact bodyPost_ret (results_agg rfl _ rfl Rg3.out Try.underlying48 rfl info_saga) rfl ⟨_, rfl, HM.out, by show _ = Value.agg _; rw [HE.out]⟩
        have k3 := hk
        clear hk
        have hk : x.kind = 4 := by have := HKD.out; omega
        have HE : Hid (behG l lim g x = lapG l lim g0 x.back x.step) := Lib.hid (by rw [HE0.out, if_neg k2, if_neg k5, if_neg k3, if_pos hk])
        rw [hk] at c0
        clear hk k2 k5 k3
        go_upto_region 15 with fail
        clear c0
        refine wp_region_steps0 NewT [SV.eq (.agg (rowA 10 (sgF sv g0))), SV.eq (.agg (rowA 109 (recF x su dv))), SV.eq (.int .i64 (lim)), SV.eq ((.agg (rowA 10 (sgF sv (lapG l lim g0 x.back x.step)))))] [([(3, none)], none), ([(4, none)], none), ([(2, none)], none), ([(50, some 0), (51, some 1), (52, some 2)], none)] 55 4 rfl rfl (by kernel_rfl) NewT.trans (NewT.refl _) (Nat.le_of_ble_eq_true rfl) ⟨?_, ?_, ?_, ?_, trivial⟩ ?_
        · exact fun a wx hT hF K hK => rely_wp rfl (opr_ldU (hT.row Rg1.out) rfl hF.1 (hK _ _ (NewT.refl _) rfl))
        · exact fun a wx hT hF K hK => rely_wp rfl (opr_ldR (hT.row Rg2.out) rfl hF.1 (hK _ _ (NewT.refl _) rfl))
        · exact fun a wx hT hF K hK => rely_wp rfl (opr_move (.inl rfl) (hK _ _ (NewT.refl _) hF.1))
        · exact fun a wx hT hF K hK => rely_wp rfl (opr_cv (lapsed_cv sv l g0 x _ lim wx ((NewT.trans _ _ _ HM.out hT).pairs HS.out) ((NewT.trans _ _ _ HM.out hT).recV HX.out) HL6.out HST.out) rfl Try.func55 (by kernel_rfl) (by kernel_rfl) (evs3 hF.1 hF.2.1 hF.2.2.1) hK)
        · intro w13 k13
          iterate 4 (intro u h; obtain rfl := Eq.symm (h (by simp)); clear h)
          refine relyEnd_nil rfl ?_
          simp only [Act.put, List.setIfInBounds_toArray, List.set_cons_zero, List.set_cons_succ]
          refine wpList_plain rfl (fun K hK => ?_)
          refine opr_putm (g := g3) (o0 := 0) (m := 10) (f := sgF sv (lapG l lim g0 x.back x.step)) (F := sgF sv (lapG l lim g0 x.back x.step)) rfl rfl rfl (k13.row Rg3.out) (by decide) info_saga (sgF_one _ _ (oneP HS.out)) (put_allN _ _ _) ?_
          intro W13 hR13 rr13
          refine hK _ _ ?_
          clear hK K
          refine wpList_end rfl ?_
          simp only [Act.put, List.setIfInBounds_toArray, List.set_cons_zero, List.set_cons_succ]
          go_simp
          replace Rg3 := Lib.hid rr13
          replace Rg1 := Lib.hid (hR13.row (by have h_0 := HG.out; omega) (k13.row Rg1.out))
          replace Rg2 := Lib.hid (hR13.row (by have h_0 := HG.out; omega) (k13.row Rg2.out))
          replace HM := Lib.hid (NewT.rt (NewT.trans _ _ _ HM.out k13) hR13 (by have h_0 := HG.out; omega))
          clear k13 hR13 rr13
          go_wp2
          exact bodyPost_ret (results_agg rfl _ rfl Rg3.out Try.underlying48 rfl info_saga) rfl ⟨_, rfl, HM.out, by show _ = Value.agg _; rw [HE.out]⟩
end Go.Proofs.Ytilmeffmdgcblaa
/- A region that draws its order, within a round of a range over a function: all operations but a forced tail read alone. No program is named here. -/
namespace Go.Proofs.Ytilmeffmdgcblaa
open Go.RowKit
set_option maxRecDepth 8000
set_option linter.all false
variable {P : Program} {ops : Array Oper} {md : Region.Mode} {w : World} {l₀ n : Nat}

def noDefer (ops : Array Oper) : Bool := ops.all fun o => match o.op with | .defer _ => false | _ => true
theorem noDefer_at (h : noDefer ops = true) {i : Nat} {o : Oper} (hi : ops[i]? = some o) : ∀ c, o.op ≠ .defer c := by
  intro c e
  have := Array.all_eq_true_iff_forall_mem.1 h o (Array.mem_of_getElem? hi)
  rw [e] at this
  cases this
end Go.Proofs.Ytilmeffmdgcblaa
/- A region in the text's order, within a round of a range over a function: each operation gone through once. No program is named here. -/
namespace Go.Proofs.Ytilmeffmdgcblaa
open Go
set_option maxRecDepth 8000
set_option linter.all false

theorem rowsIn_w {n : Nat} {P : Program} {row : String} {args : Array Value} {w : World} {R : Value → World → Prop} (h : Rows P row args w R) : RowsIn Fence.wide n P row args w R := fun c cs _ => let ⟨v, w', r, s⟩ := h c cs; ⟨v, w', r, stepsIn_wide.2 s⟩
theorem wpIn_of_wp {P : Program} {o : Oper} {a : Act} {w : World} {K : Act → World → Prop} {Q : Exit → Act → World → Prop} {l₀ nn : Nat} (hnd : ∀ c, o.op ≠ .defer c) (h : o.wp P a w K Q) : o.wpIn (Fence.wide.inRound l₀) nn P a w K Q := by
  refine ⟨fun _ _ => trivial, ?_⟩
  rw [Oper.semAt_eq _ _ _ hnd]
  unfold Oper.wp at h
  generalize (execOp a.eval o).run P w = r at *
  cases r with
  | ok x w' =>
    cases x <;> simp only [Oper.upon] at h <;> simp only [Oper.uponIn]
    case enter f args => exact ⟨fun hd => by simp [Fence.inRound, Fence.wide] at hd, CallsIn.inRound l₀ (callsIn_wide.2 h)⟩
    case row r args => exact ⟨fun hd => by simp [Fence.inRound, Fence.wide] at hd, rowsIn_w h⟩
    all_goals exact h
  | halt x w' =>
    cases x <;> simp only [Oper.upon] at h <;> simp only [Oper.uponIn]
    exact h
section
variable {P : Program} {ops : Array Oper} {Q : Exit → Act → World → Prop} {T : World → World → Prop} {V : List (SV T)} {J : Nat → World → Prop} {a0 : Act} {w0 : World} {n m : Nat} {D : Deps} {init tail : List Oper} {l₀ nn : Nat}
theorem wpListIn_end {a : Act} {w : World} {l : List Oper} (hl : l = []) (h : Q .normal a w) : wpListIn (Fence.wide.inRound l₀) nn P ops Q l a w := by subst hl; exact h
theorem wpListIn_wp {a : Act} {w : World} {o : Oper} {l : List Oper} (hnd : noDefer ops = true) (hm : o ∈ ops) (hg : o.guard = none) (h : ∀ K : Act → World → Prop, (∀ a w, wpListIn (Fence.wide.inRound l₀) nn P ops Q l a w → K a w) → o.wp P a w K Q) : wpListIn (Fence.wide.inRound l₀) nn P ops Q (o :: l) a w :=
  wpListIn_plain hg fun K hK => wpIn_of_wp (fun c e => by
    have := Array.all_eq_true_iff_forall_mem.1 hnd o hm
    rw [e] at this; cases this) (h K hK)
end
end Go.Proofs.Ytilmeffmdgcblaa
/- A region that draws its order, within a round of a range over a function: each operation gone through once. No program is named here. -/
namespace Go.Proofs.Ytilmeffmdgcblaa
open Go
set_option maxRecDepth 8000
set_option linter.all false
section
variable {P : Program} {ops : Array Oper} {Q : Exit → Act → World → Prop} {T : World → World → Prop} {V : List (SV T)} {a0 : Act} {w0 : World} {n : Nat} {D : Deps} {l₀ nn : Nat}
theorem rely_opI (hnd : noDefer ops = true) (hn : a0.tmps.size = n) (ht : ∀ a b c : World, T a b → T b c → T a c) {i : Nat} {o : Oper} {dp : List (Tmp × Option Nat)} {g : Option (Tmp × Bool)} {listed : Array Bool} {a : Act} {w : World}
    (ho : ops[i]? = some o) (h1 : relyOne ops n i o dp g = true) (hstep : relyStep P Q T V a0 w0 o dp g (V.getD i SV.any)) (h0 : listed.getD i true = false)
    (hall : ∀ e ∈ o.after, Region.binds .any e = true → listed.getD e.on false = true) (inv : RelyInv ops T V a0 w0 listed a w) :
    wpOpIn (Fence.wide.inRound l₀) nn P ops Q i (fun a' w' => RelyInv ops T V a0 w0 (listed.setIfInBounds i true) a' w') a w := by
  simp only [relyOne, Bool.and_eq_true] at h1
  obtain ⟨⟨⟨hdst, hafter⟩, hdp⟩, hg⟩ := h1
  have waits : ∀ j, Region.waitsFor .any ops i j = true → listed.getD j false = true := fun j hj => by
    obtain ⟨oi, hoi, e, he, hb, hon⟩ := Region.waitsFor_spec hj
    have : oi = o := Option.some.inj (hoi.symm.trans ho)
    subst this
    rw [← hon]
    exact hall e he hb
  have i0 : listed.getD i false = false := getD_both h0
  have hfacts : relyFacts V a0 a w dp := by
    clear hstep
    induction dp with
    | nil => trivial
    | cons x r ih2 =>
      simp only [List.all_cons, Bool.and_eq_true] at hdp
      obtain ⟨hx, hr⟩ := hdp
      obtain ⟨d, j⟩ := x
      cases j with
      | some j =>
        simp only [Bool.and_eq_true, beq_iff_eq] at hx
        exact ⟨inv.new j d hx.1 (waits j hx.2), ih2 hr⟩
      | none =>
        refine ⟨inv.old d fun j hj => ?_, ih2 hr⟩
        have hjlt : j < ops.size := by
          unfold relyDst at hj
          cases hoj : ops[j]? with
          | none => simp [hoj] at hj
          | some oj => exact (Array.getElem?_eq_some_iff.1 hoj).1
        have h2 := List.all_eq_true.1 hx j (List.mem_range.2 hjlt)
        simp only [hj, bne_self_eq_false, Bool.false_or, Bool.or_eq_true, decide_eq_true_eq] at h2
        rcases h2 with rfl | h2
        · exact i0
        · cases hlj : listed.getD j false with
          | false => rfl
          | true =>
            obtain ⟨oj, hoj, e, he, hb, hon⟩ := Region.waitsFor_spec h2
            have := inv.closed j oj hoj hlj e he hb
            rw [hon, i0] at this
            cases this
  have hguard : Region.wanted o (yielded ops a.tmps) = relyGuard g a := by
    unfold Region.wanted
    cases hgo : o.guard with
    | none =>
      rw [hgo] at hg
      cases g with
      | none => rfl
      | some x => cases hg
    | some kb =>
      obtain ⟨k, b⟩ := kb
      rw [hgo] at hg
      cases g with
      | none => cases hg
      | some x =>
        obtain ⟨d, b'⟩ := x
        simp only [Bool.and_eq_true, beq_iff_eq, decide_eq_true_eq] at hg
        obtain ⟨⟨⟨rfl, hd⟩, _⟩, hlt⟩ := hg
        have hlt' : d < a.tmps.size := by rw [inv.slots, hn]; exact hlt
        have hd' : (ops[k]?).bind (·.dst) = some d := hd
        simp only [yielded, hd', Option.bind_some, relyGuard, Array.getD_eq_getD_getElem?, Array.getElem?_eq_getElem hlt', Option.getD_some]
        cases a.tmps[d] <;> simp
        all_goals (rename_i x; cases x <;> cases b <;> rfl)
  have next : ∀ v w', T w w' → (V.getD i SV.any).pred v w' → RelyInv ops T V a0 w0 (listed.setIfInBounds i true) (a.put o.dst v) w' := fun v w' hT hv => by
    have hilt : i < listed.size := by rw [inv.size]; exact (Array.getElem?_eq_some_iff.1 ho).1
    refine ⟨by simp [inv.size], fun j oj hj hlj e he hb => ?_, ht _ _ _ inv.now hT, by cases o.dst <;> simp [Act.put, inv.slots], by cases o.dst <;> simp [Act.put, inv.defers], fun j d hj hlj => ?_, fun d hno => ?_⟩
    · by_cases hij : i = j
      · subst hij
        have : oj = o := Option.some.inj (hj.symm.trans ho)
        subst this
        exact getD_set_true (hall e he hb)
      · rw [getD_set_ne false hij] at hlj
        exact getD_set_true (inv.closed j oj hj hlj e he hb)
    · by_cases hij : i = j
      · subst hij
        have hd : o.dst = some d := by simpa [relyDst, ho] using hj
        rw [hd] at hdst
        simp only [Bool.and_eq_true, decide_eq_true_eq] at hdst
        have hlt : d < a.tmps.size := by rw [inv.slots, hn]; exact hdst.1
        rw [hd]
        simpa [Act.put, hlt] using hv
      · rw [getD_set_ne false hij] at hlj
        have h3 := (V.getD j SV.any).stable _ _ _ (inv.new j d hj hlj) hT
        cases hod : o.dst with
        | none => exact h3
        | some d0 =>
          rw [hod] at hdst
          simp only [Bool.and_eq_true, decide_eq_true_eq] at hdst
          have hjlt : j < ops.size := by
            unfold relyDst at hj
            cases hoj : ops[j]? with
            | none => simp [hoj] at hj
            | some oj => exact (Array.getElem?_eq_some_iff.1 hoj).1
          have h4 := List.all_eq_true.1 hdst.2 j (List.mem_range.2 hjlt)
          simp only [Bool.or_eq_true, decide_eq_true_eq, bne_iff_ne, ne_eq] at h4
          have hne : d0 ≠ d := fun e => by
            subst e
            rcases h4 with h4 | h4
            · exact hij h4.symm
            · exact h4 hj
          simpa [Act.put, Array.getElem?_setIfInBounds_ne hne] using h3
    · have hni : o.dst ≠ some d := fun hd => by
        have := hno i (by simp [relyDst, ho, hd])
        simp [hilt] at this
      have hold := inv.old d fun j hj => by
        have hij : i ≠ j := fun e => by subst e; exact hni (by simpa [relyDst, ho] using hj)
        have := hno j hj
        rwa [getD_set_ne false hij] at this
      cases hod : o.dst with
      | none => exact hold
      | some d0 =>
        have hne : d0 ≠ d := fun e => hni (by rw [hod, e])
        simpa [Act.put, Array.getElem?_setIfInBounds_ne hne] using hold
  have hs := hstep a w inv.now hfacts _ next
  unfold wpOpIn
  simp only [ho, hguard]
  split
  · rename_i hw; rw [if_pos hw] at hs; exact wpIn_of_wp (noDefer_at hnd ho) hs
  · rename_i hw; rw [if_neg hw] at hs; exact ⟨fun _ _ => trivial, hs⟩

/-- At the end, from the canonical frame. -/
theorem wpAnyIn_done {listed : Array Bool} {a : Act} {w : World} (hr : Region.ready .any ops listed = []) (h : Q .normal a w) : ∀ fuel, wpAnyIn (Fence.wide.inRound l₀) nn P .any ops Q fuel listed a w
  | 0 => ⟨hr, h⟩
  | _ + 1 => ⟨fun _ => h, by rw [hr]; simp⟩
section
variable {init : List Oper} {last : Oper}
theorem last_opI (hnd : noDefer ops = true) (hsplit : ops.toList = init ++ [last]) (hg : last.guard = none) (hl : init.length ≤ V.length) {K : Act → World → Prop} {listed : Array Bool} {a : Act} {w : World}
    (hE : ∀ w, T w0 w → relyEnd (fun _ a w => last.wp P a w (fun a' w' => Q .normal a' w') Q) T init V a0 w)
    (inv : RelyInv ops T V a0 w0 listed a w) (hdone : ∀ j, j < init.length → listed.getD j false = true) (hun : listed.getD init.length true = false) (hK : ∀ a' w', Q .normal a' w' → K a' w') : wpOpIn (Fence.wide.inRound l₀) nn P ops Q init.length K a w := by
  obtain ⟨hlo, hsz, hpre⟩ := last_at hsplit
  have h1 : last.wp P a w (fun a' w' => Q .normal a' w') Q := rely_all (Q' := fun a w => last.wp P a w (fun a' w' => Q .normal a' w') Q) inv
    (fun k o hk => ⟨hpre k o hk, hdone k (List.getElem?_eq_some_iff.1 hk).1⟩) (fun j hj => by
      rcases Nat.lt_or_ge j init.length with h | h
      · exact h
      · rcases Nat.eq_or_lt_of_le h with h | h
        · subst h; rw [getD_both hun] at hj; cases hj
        · have : listed.getD j false = false := by simp [Array.getElem?_eq_none (show listed.size ≤ j by rw [inv.size]; omega)]
          rw [this] at hj; cases hj) hl (hE w inv.now)
  unfold wpOpIn
  simp only [hlo, Region.wanted, hg, if_true]
  exact wpIn_of_wp (noDefer_at hnd hlo) (Oper.wp_mono hK h1)

/-- **A region that draws its order, in the text's own order; the last operation waits for all others, and may do what it likes.** -/
theorem wpAnyIn_rely (hnd : noDefer ops = true) (hsplit : ops.toList = init ++ [last]) (hn : a0.tmps.size = n) (hB : relyB ops n 0 init D = true) (hlast : lastB ops last init.length = true) (hg : last.guard = none) (ht : ∀ a b c : World, T a b → T b c → T a c)
    (hl : init.length ≤ V.length) (hA : relyAll P Q T V a0 w0 init D V) (hE : ∀ w, T w0 w → relyEnd (fun _ a w => last.wp P a w (fun a' w' => Q .normal a' w') Q) T init V a0 w) :
    ∀ (fuel : Nat) (listed : Array Bool) (a : Act) (w : World), (unl ops listed).length = fuel → listed.getD init.length true = false → RelyInv ops T V a0 w0 listed a w → wpAnyIn (Fence.wide.inRound l₀) nn P .any ops Q fuel listed a w := by
  obtain ⟨hlo, hsz, hpre⟩ := last_at hsplit
  simp only [lastB, Bool.and_eq_true] at hlast
  have hat : ∀ i o, init[i]? = some o → ∃ dp g, relyOne ops n i o dp g = true ∧ relyStep P Q T V a0 w0 o dp g (V.getD i SV.any) := fun i o hi => by
    obtain ⟨dp, g, hD, h1⟩ := relyB_at init D 0 i o hB hi
    rw [Nat.zero_add] at h1
    exact ⟨dp, g, h1, relyAll_at _ _ _ i o dp g hA hi hD⟩
  intro fuel
  induction fuel with
  | zero =>
    intro listed a w hu hun inv
    have : init.length ∈ unl ops listed := by
      unfold unl; rw [List.mem_filter]; exact ⟨List.mem_range.2 (by omega), by rw [hun]; rfl⟩
    rw [List.eq_nil_of_length_eq_zero hu] at this
    cases this
  | succ fuel ih =>
    intro listed a w hu hun inv
    refine ⟨fun hr => ?_, fun i hi => ?_⟩
    · exfalso
      have all : ∀ i, i < init.length → listed.getD i false = true := fun i => by
        induction i using Nat.strongRecOn with
        | _ i ih =>
          intro hi
          cases hli : listed.getD i false with
          | true => rfl
          | false =>
            exfalso
            have hmem : i ∈ Region.ready .any ops listed := by
              rw [mem_ready]
              refine ⟨getD_in (by rw [inv.size]; omega) hli, init[i], hpre i _ (List.getElem?_eq_getElem hi), fun e he hb => ?_⟩
              obtain ⟨dp, g, h1, _⟩ := hat i init[i] (List.getElem?_eq_getElem hi)
              simp only [relyOne, Bool.and_eq_true] at h1
              have h2 := (Array.all_eq_true_iff_forall_mem.1 h1.1.1.2) e he
              simp only [hb, Bool.not_true, Bool.false_or, decide_eq_true_eq] at h2
              exact ih e.on h2 (by omega)
            rw [hr] at hmem
            cases hmem
      have hmem : init.length ∈ Region.ready .any ops listed := by
        rw [mem_ready]
        refine ⟨hun, last, hlo, fun e he hb => ?_⟩
        have h2 := (Array.all_eq_true_iff_forall_mem.1 hlast.2) e he
        simp only [hb, Bool.not_true, Bool.false_or, decide_eq_true_eq] at h2
        exact all e.on h2
      rw [hr] at hmem
      cases hmem
    · obtain ⟨h0, o, ho, hall⟩ := mem_ready.1 hi
      have hilt := (Array.getElem?_eq_some_iff.1 ho).1
      by_cases him : i = init.length
      · subst him
        have hol : o = last := Option.some.inj (ho.symm.trans hlo)
        subst hol
        have hdone : ∀ (d j : Nat), init.length - j = d → j < init.length → listed.getD j false = true := fun d => by
          induction d using Nat.strongRecOn with
          | _ d ihd =>
            intro j hd hj
            have h1 := List.all_eq_true.1 hlast.1 j (List.mem_range.2 hj)
            obtain ⟨t, ht1, ht2⟩ := List.any_eq_true.1 h1
            simp only [Bool.and_eq_true, decide_eq_true_eq] at ht2
            obtain ⟨ot, hot, e, he, hb, hon⟩ := Region.waitsFor_spec ht2.2
            have htle : t ≤ init.length := by have := List.mem_range.1 ht1; omega
            rw [← hon]
            by_cases htm : t = init.length
            · subst htm
              have : ot = o := Option.some.inj (hot.symm.trans ho)
              subst this
              exact hall e he hb
            · exact inv.closed t ot hot (ihd (init.length - t) (by omega) t rfl (by omega)) e he hb
        replace hdone : ∀ j, j < init.length → listed.getD j false = true := fun j hj => hdone _ j rfl hj
        refine last_opI hnd hsplit hg hl hE inv hdone hun fun a' w' h => wpAnyIn_done (ready_none fun j hj => ?_) h _
        by_cases hj2 : j = init.length
        · subst hj2; simp [show init.length < listed.size by rw [inv.size]; exact hj]
        · exact getD_set_true (hdone j (by omega))
      · have hi' : i < init.length := by omega
        have hio : init[i]? = some o := by
          have := hpre i init[i] (List.getElem?_eq_getElem hi')
          rw [ho] at this
          rw [List.getElem?_eq_getElem hi', Option.some.inj this]
        obtain ⟨dp, g, h1, hstep⟩ := hat i o hio
        refine wpOpIn_mono (fun a' w' inv' => ih _ a' w' (by have := unl_set inv.size h0; omega) (by rw [getD_set_ne true him]; exact hun) inv') (rely_opI hnd hn ht ho h1 hstep h0 hall inv)

end
section
variable {last : Oper}
/-- **A region that draws its order.** -/
theorem wpIn_region_rely {id : Nat} (T : World → World → Prop) (V : List (SV T)) (D : Deps) (n : Nat) (hnd : noDefer ops = true) (hla : ops.toList.getLast? = some last) (hm : P.follows .mixedOrders = true) (hn : a0.tmps.size = n) (hB : relyB ops n 0 ops.toList.dropLast D = true)
    (hlast : lastB ops last ops.toList.dropLast.length = true) (hg : last.guard = none) (ht : ∀ a b c : World, T a b → T b c → T a c) (hd : T w0 w0.drew) (hl : ops.toList.dropLast.length ≤ V.length)
    (hA : relyAll P Q T V a0 w0 ops.toList.dropLast D V) (hE : ∀ w, T w0 w → relyEnd (fun _ a w => last.wp P a w (fun a' w' => Q .normal a' w') Q) T ops.toList.dropLast V a0 w) : (Code.region id ops true).wpIn (Fence.wide.inRound l₀) nn P Q a0 w0 := by
  have hsplit := split_last hla
  obtain ⟨_, hsz, _⟩ := last_at hsplit
  refine wpIn_region_any hm ?_
  exact wpAnyIn_rely hnd hsplit hn hB hlast hg ht hl hA hE ops.size _ a0 w0.drew unl_start (by
    have hlt : ops.toList.dropLast.length < ops.size := by omega
    generalize ops.toList.dropLast.length = m at hlt
    simp [hlt]) (rely_start hd)
end
end
end Go.Proofs.Ytilmeffmdgcblaa
/- A range over a function whose variables are laid into new memory ahead of the body. No program is named here. -/
namespace Go.Proofs.Ytilmeffmdgcblaa
open Go.RowKit
set_option maxRecDepth 8000
set_option linter.all false

/-- **The statement 'for x := range g { .. }' by an iterator's promise; what is handed on may be laid into new memory ahead of the body.** -/
theorem range_law2 {P : Program} {α : Type} {g : Operand} {ps : Array Tmp} {assign body : Code} {Q : Exit → Act → World → Prop} {a : Act} {w : World} {n : Nat}
    {gf : Nat} {lb : Array Value} (hg : a.eval g = .func (.func gf) #[] lb) (eg : ∀ args w, (callFunc gf args).run P w = .ok (.enter gf args) w)
    {encs : α → Array Value} {Kp : World → World → Prop} {G : List α → α → World → Prop} {S Sp : List α → Prop} {w0 : World} (hseq : SeqG P gf lb encs Kp G S Sp w0) (hb0 : Below w0.heap.size w0 w)
    (hKt : ∀ {A B C : World}, Kp A B → Kp B C → Kp A C) (hKb : ∀ (W : World) (l : Nat) (o o' : Obj), w.heap.size ≤ l → W.heap[l]? = some o → o.isCells = false → Kp W (W.putObj l o'))
    (hGb : ∀ (pre : List α) (x : α) (W : World) (l : Nat) (o o' : Obj), w.heap.size ≤ l → W.heap[l]? = some o → o.isCells = false → G pre x W → G pre x (W.putObj l o'))
    (hps : ∀ x, (encs x).size = ps.size)
    (I : List α → World → Prop) (Ix : Code → List α → World → Prop) (hI : ∀ pre A B, I pre A → Below w.heap.size A B → I pre B) (hIx : ∀ c pre A B, Ix c pre A → Below w.heap.size A B → Ix c pre B) (h0 : I [] w) (As : α → Act → World → Prop)
    (hKn : ∀ A B : World, Below A.heap.size A B → Kp A B) (hGn : ∀ pre x A B, G pre x A → Below A.heap.size A B → G pre x B)
    (hAs : ∀ (x : α) (a1 : Act) (W : World) (l : Nat) (o o' : Obj), w.heap.size ≤ l → W.heap[l]? = some o → o.isCells = false → As x a1 W → As x a1 (W.putObj l o'))
    (hassign : ∀ (l : Nat) (x : α) (W : World) (K : Act → World → Prop), (∀ a1 W', Below W.heap.size W W' → As x a1 W' → K a1 W') →
      assign.wpIn (Fence.wide.inRound l) 0 P (Exit.then K (fun _ _ _ => False)) { tmps := (ps.zip (encs x)).foldl (fun t (p, v) => t.setIfInBounds p v) a.tmps, defers := [] } W)
    (hbody : ∀ (l : Nat) (pre : List α) (x : α) (a1 : Act) (W : World), w.heap.size ≤ l → I pre W → G pre x W → As x a1 W → body.wpIn (Fence.wide.inRound l) 0 P (ownPostG w.heap.size Kp I Ix (pre ++ [x]) W) a1 W)
    (hdone : ∀ (D : Nat) (xs : List α) (W : World), w.heap.size ≤ D → S xs → I xs W → W.heap[D]? = some (.deferred (some [])) → Q .normal { a with defers := { target := .collected D, args := #[] } :: a.defers } W)
    (hstop : ∀ (D : Nat) (c : Code) (pre : List α) (W : World), w.heap.size ≤ D → Sp pre → Ix c pre W → W.heap[D]? = some (.deferred (some [])) → c.wpIn Fence.wide n P Q { a with defers := { target := .collected D, args := #[] } :: a.defers } W) :
    (Code.rangeFunc g ps assign body).wpIn Fence.wide n P Q a w := by
  refine wpIn_rangeFunc ?_
  intro fn hfn
  obtain ⟨rec, hrec⟩ : ∃ rec : LoopState → Option Code → Loop, rec = fun st pe => { state := st, pending := pe, fn, tmps := a.tmps, params := ps, assign, body, defers := w.heap.size } := ⟨_, rfl⟩
  obtain ⟨W1, hW1⟩ : ∃ W1, (w.alloc (.deferred (some []))).alloc (.loop (rec .ready none)) = W1 := ⟨_, rfl⟩
  have hsz : W1.heap.size = w.heap.size + 2 := by rw [← hW1]; simp
  have hL1 : W1.heap[w.heap.size + 1]? = some (.loop (rec .ready none)) := by
    rw [← hW1]; have := World.alloc_heap_new (w.alloc (.deferred (some []))) (.loop (rec .ready none)); rwa [World.size_alloc] at this
  have hK1 : W1.heap[w.heap.size]? = some (.deferred (some [])) := by
    rw [← hW1]; exact (Below.heap_alloc _ _ _ (by simp)).trans (World.alloc_heap_new w _)
  have hbw : Below w.heap.size w W1 := by rw [← hW1]; exact ((Below.refl _ w).alloc (Nat.le_refl _) _).alloc (by simp) _
  have put : ∀ (W : World) (l : Nat) (o o' : Obj), w.heap.size ≤ l → W.heap[l]? = some o → Below w.heap.size W (W.putObj l o') := fun W l o o' hl h =>
    ⟨rfl, rfl, rfl, by simp, fun k hk => World.putObj_heap_other (by omega)⟩
  refine ⟨w.heap.size + 1, [{ target := .collected w.heap.size, args := #[] }], W1, { target := .fn (.func gf) lb, args := #[.func (.yield (w.heap.size + 1)) #[] #[]] }, W1, gf,
    #[.func (.yield (w.heap.size + 1)) #[] #[]] ++ lb, W1, ?_, ?_, fun _ _ => trivial, ?_, fun h => by simp [Fence.wide] at h, ?_⟩
  · rw [← hW1, hrec]; exact run_enterLoop_outer _ _ _ _ _
  · simp only [resolve, hg]
    simp [go_sem]
  · simp [invoke, go_sem, eg]
  · have hcall := hseq (w.heap.size + 1)
      (fun pre W => I pre W ∧ W.heap[w.heap.size + 1]? = some (.loop (rec .ready none)) ∧ W.heap[w.heap.size]? = some (.deferred (some [])))
      (fun pre W => ∃ c, Ix c pre W ∧ W.heap[w.heap.size + 1]? = some (.loop (rec .done (some c))) ∧ W.heap[w.heap.size]? = some (.deferred (some [])))
      W1 (hb0.trans (hbw.mono hb0.size))
      (fun pre A B hs hB => ⟨hI pre A B hs.1 (hB.mono (by omega)), (hB.block _ (by omega)).trans hs.2.1, (hB.block _ (by omega)).trans hs.2.2⟩)
      (fun pre A B hs hB => by
        obtain ⟨c, hc, hl, hk⟩ := hs
        exact ⟨c, hIx c pre A B hc (hB.mono (by omega)), (hB.block _ (by omega)).trans hl, (hB.block _ (by omega)).trans hk⟩)
      ?_ ⟨hI _ _ _ h0 hbw, hL1, hK1⟩
    · have hcall' : CallsIn Fence.wide (n - 1) P gf (#[.func (.yield (w.heap.size + 1)) #[] #[]] ++ lb) W1 _ := callsIn_wide.2 (callsIn_wide.1 hcall)
      refine hcall'.mono ?_
      rintro e W2 ⟨⟨v, rfl⟩, (⟨xs, hS, hi, hl, hk⟩ | ⟨pre, hSp, c, hi, hl, hk⟩)⟩
      · exact ⟨none, _, by have := run_endLoop (P := P) hl (by rw [hrec]; simp); rw [hrec] at this; exact this, hdone _ xs _ (Nat.le_refl _) hS (hI _ _ _ hi (put _ _ _ _ (by omega) hl)) ((World.putObj_heap_other (by omega)).trans hk)⟩
      · exact ⟨some c, _, by have := run_endLoop (P := P) hl (by rw [hrec]; simp); rw [hrec] at this; exact this, hstop _ c pre _ (Nat.le_refl _) hSp (hIx _ _ _ _ hi (put _ _ _ _ (by omega) hl)) ((World.putObj_heap_other (by omega)).trans hk)⟩
    · rintro pre x W0 ⟨hi, hl, hk⟩ hG
      have hlt : w.heap.size + 1 < W0.heap.size := (Array.getElem?_eq_some_iff.1 hl).1
      have hy := run_yield (P := P) (args := encs x) hl (by rw [hrec]; exact hps x)
      rw [hrec] at hy
      refine ⟨fn, _, assign, body, hy, roundIn_of_wpIn hfn (hassign _ x W0 _ ?_)⟩
      clear hy
      intro a1 W hB0 hA
      have kp0 := hKn _ _ hB0
      have kf0 : KeepsFrom W1.heap.size W0 W := (keepsOthers_below hB0).from _
      replace hi := hI _ _ _ hi (hB0.mono (by omega))
      replace hl := (hB0.block _ hlt).trans hl
      replace hk := (hB0.block _ (by omega)).trans hk
      replace hG := hGn _ _ _ _ hG hB0
      replace hlt : w.heap.size + 1 < W.heap.size := Nat.lt_of_lt_of_le hlt hB0.size
      clear hB0
      refine ⟨_, run_beginRound hl (by rw [hrec]), ?_⟩
      have hl2 : (W.putObj (w.heap.size + 1) (.loop { rec .ready none with state := .busy })).heap[w.heap.size + 1]? = some (.loop { rec .ready none with state := .busy }) := World.putObj_heap_same hlt
      have hk2 : (W.putObj (w.heap.size + 1) (.loop { rec .ready none with state := .busy })).heap[w.heap.size]? = some (.deferred (some [])) := (World.putObj_heap_other (by omega)).trans hk
      have hw2 : Kp W (W.putObj (w.heap.size + 1) (.loop { rec .ready none with state := .busy })) := hKb _ _ _ _ (by omega) hl rfl
      refine wpIn_mono (hbody _ pre x a1 _ (by omega) (hI _ _ _ hi (put _ _ _ _ (by omega) hl)) (hGb _ _ _ _ _ _ (by omega) hl rfl hG) (hAs _ _ _ _ _ _ (by omega) hl rfl hA)) ?_
      have fin : ∀ (jump : Option Code) (W3 : World), KeepsFrom w.heap.size (W.putObj (w.heap.size + 1) (.loop { rec .ready none with state := .busy })) W3 →
          (Instr.endRound (w.heap.size + 1) jump).run P W3 = .ok (.bool jump.isNone) (W3.putObj (w.heap.size + 1) (.loop (rec (if jump.isNone then .ready else .done) jump))) ∧
          W3.heap[w.heap.size + 1]? = some (.loop { rec .ready none with state := .busy }) ∧
          (W3.putObj (w.heap.size + 1) (.loop (rec (if jump.isNone then .ready else .done) jump))).heap[w.heap.size + 1]? = some (.loop (rec (if jump.isNone then .ready else .done) jump)) ∧
          (W3.putObj (w.heap.size + 1) (.loop (rec (if jump.isNone then .ready else .done) jump))).heap[w.heap.size]? = some (.deferred (some [])) := fun jump W3 hk3 => by
        have hl3 := hk3.same _ _ (by omega) hl2 rfl
        have := run_endRound (P := P) jump hl3
        rw [hrec] at this ⊢
        exact ⟨this, by rw [hrec] at hl3; exact hl3, World.putObj_heap_same (Array.getElem?_eq_some_iff.1 hl3).1, (World.putObj_heap_other (by omega)).trans (hk3.same _ _ (Nat.le_refl _) hk2 rfl)⟩
      have whole : ∀ (W3 : World) (o : Obj), KeepsFrom w.heap.size (W.putObj (w.heap.size + 1) (.loop { rec .ready none with state := .busy })) W3 → KeepsFrom W1.heap.size W (W3.putObj (w.heap.size + 1) o) := fun W3 o hk3 =>
        ((keepsFrom_low _ (by omega)).trans (keepsFrom_mono hk3 (by omega))).trans (keepsFrom_low _ (by omega))
      rintro e a3 W3 hp
      cases e with
      | normal =>
        obtain ⟨hk3, hkp3, hi3⟩ := hp
        obtain ⟨hr, hl3, hl4, hk4⟩ := fin none W3 hk3
        exact ⟨_, _, hr, .inl ⟨rfl, ⟨hI _ _ _ hi3 (put _ _ _ _ (by omega) hl3), hl4, hk4⟩, hKt kp0 (hKt (hKt hw2 hkp3) (hKb _ _ _ _ (by omega) hl3 rfl)), kf0.trans (whole _ _ hk3)⟩⟩
      | ret =>
        obtain ⟨hk3, hi3⟩ := hp
        obtain ⟨hr, hl3, hl4, hk4⟩ := fin (some .ret) W3 hk3
        exact ⟨_, _, hr, .inr ⟨rfl, ⟨.ret, hIx _ _ _ _ hi3 (put _ _ _ _ (by omega) hl3), hl4, hk4⟩, kf0.trans (whole _ _ hk3)⟩⟩
      | exit id =>
        obtain ⟨hk3, hi3⟩ := hp
        obtain ⟨hr, hl3, hl4, hk4⟩ := fin (some (.exit id)) W3 hk3
        exact ⟨_, _, hr, .inr ⟨rfl, ⟨.exit id, hIx _ _ _ _ hi3 (put _ _ _ _ (by omega) hl3), hl4, hk4⟩, kf0.trans (whole _ _ hk3)⟩⟩
      | goto t =>
        obtain ⟨hk3, hi3⟩ := hp
        obtain ⟨hr, hl3, hl4, hk4⟩ := fin (some (.goto t)) W3 hk3
        exact ⟨_, _, hr, .inr ⟨rfl, ⟨.goto t, hIx _ _ _ _ hi3 (put _ _ _ _ (by omega) hl3), hl4, hk4⟩, kf0.trans (whole _ _ hk3)⟩⟩
      | panic ch => exact hp.elim
      | outgrown => exact hp.elim
end Go.Proofs.Ytilmeffmdgcblaa
/- A law of our own for a range over a function whose rounds make memory that lasts: the iterator turns one variable of its own and makes new memory; rounds may write whatever stood when the iterator went on, but for the iterator's. No program is named here. -/
namespace Go.Proofs.Ytilmeffmdgcblaa
open Go.RowKit
set_option maxRecDepth 8000
set_option linter.all false

/-- An iterator's step: its variable (block g) and new memory alone. -/
structure ItS (g : Nat) (A B : World) : Prop where
  below : Below g A B
  keep : ∀ (k : Nat) (o : Obj), k ≠ g → A.heap[k]? = some o → B.heap[k]? = some o
theorem ItS.refl (g : Nat) (A : World) : ItS g A A := ⟨Below.refl _ _, fun _ _ _ h => h⟩
theorem ItS.trans {g : Nat} {A B C : World} (h : ItS g A B) (k : ItS g B C) : ItS g A C := ⟨h.below.trans k.below, fun i o hi ho => k.keep i o hi (h.keep i o hi ho)⟩
theorem ItS.new {g : Nat} {A B : World} (hg : g ≤ A.heap.size) (h : Below A.heap.size A B) : ItS g A B :=
  ⟨h.mono hg, fun k _ _ ho => (h.block k (Array.getElem?_eq_some_iff.1 ho).1).trans ho⟩
theorem ItS.of {g : Nat} {A B : World} (hb : Below g A B) (h : KeepBut [g] A B) (hk : KeepsOthers A B) : ItS g A B :=
  ⟨hb, fun k o hkg ho => by
    cases hc : o.isCells with
    | true => exact h.2 k o (by simpa using hkg) ho hc
    | false => exact hk.same k o ho hc⟩
/-- What a round may write: blocks that stood when the iterator went on (in A), but for the iterator's variable and the blocks pb. -/
def KpM (pb : List Nat) (ga : Nat) (A W W' : World) : Prop := ∃ M : List Nat, (∀ k ∈ M, k < A.heap.size ∧ k ≠ ga ∧ k ∉ pb) ∧ KeepBut M W W'
theorem KpM.left {pb : List Nat} {ga : Nat} {A W V W' : World} (h : KpM pb ga A V W') (k : KeepBut [] W V) : KpM pb ga A W W' := by
  obtain ⟨M, h1, h2⟩ := h; exact ⟨M, h1, (k.more (by simp)).trans h2⟩
theorem KpM.right {pb : List Nat} {ga : Nat} {A W V W' : World} (h : KpM pb ga A W V) (k : KeepBut [] V W') : KpM pb ga A W W' := by
  obtain ⟨M, h1, h2⟩ := h; exact ⟨M, h1, h2.trans (k.more (by simp))⟩
end Go.Proofs.Ytilmeffmdgcblaa
/- Operations of an iterator's own body, gone through one by one. No program is named here. -/
namespace Go.Proofs.Ytilmeffmdgcblaa
open Go Go.RowKit
set_option maxRecDepth 8000
set_option linter.all false
theorem wpIn_of_wpW {P : Program} {o : Oper} {a : Act} {w : World} {K : Act → World → Prop} {Q : Exit → Act → World → Prop} {nn : Nat} (hnd : ∀ c, o.op ≠ .defer c) (h : o.wp P a w K Q) : o.wpIn Fence.wide nn P a w K Q := by
  refine ⟨fun _ _ => trivial, ?_⟩
  rw [Oper.semAt_eq _ _ _ hnd]
  unfold Oper.wp at h
  generalize (execOp a.eval o).run P w = r at *
  cases r with
  | ok x w' =>
    cases x <;> simp only [Oper.upon] at h <;> simp only [Oper.uponIn]
    case enter f args => exact ⟨fun hd => by simp [Fence.wide] at hd, callsIn_wide.2 h⟩
    case row r args => exact ⟨fun hd => by simp [Fence.wide] at hd, rowsIn_w h⟩
    all_goals exact h
  | halt x w' =>
    cases x <;> simp only [Oper.upon] at h <;> simp only [Oper.uponIn]
    exact h
section
variable {P : Program} {ops : Array Oper} {Q : Exit → Act → World → Prop} {nn : Nat}
theorem wpListIn_wpW {a : Act} {w : World} {o : Oper} {l : List Oper} (hnd : noDefer ops = true) (hm : o ∈ ops) (hg : o.guard = none) (h : ∀ K : Act → World → Prop, (∀ a w, wpListIn Fence.wide nn P ops Q l a w → K a w) → o.wp P a w K Q) : wpListIn Fence.wide nn P ops Q (o :: l) a w :=
  wpListIn_plain hg fun K hK => wpIn_of_wpW (fun c e => by
    have := Array.all_eq_true_iff_forall_mem.1 hnd o hm
    rw [e] at this; cases this) (h K hK)
end
theorem opr_mvV {P : Program} {a : Act} {w : World} {o : Oper} {K : Act → World → Prop} {Q : Exit → Act → World → Prop} {x : Operand} {v : Value} (ho : o.op = .move x ∨ o.op = .assign x) (hv : a.eval x = v) (h : K (a.put o.dst v) w) : o.wp P a w K Q := by
  subst hv; exact opr_move ho h
theorem opr_putmW {P : Program} {a : Act} {w : World} {o : Oper} {K : Act → World → Prop} {Q : Exit → Act → World → Prop} {t t' : TypeId} {x y : Operand} {g o0 n m : Nat} {f f0 F : Nat → Value} (ho : o.op = .store t x y) (hx : a.eval x = .pointer (some ⟨g, o0, none⟩)) (hy : a.eval y = .agg (rowA m f)) (hr : w.rowIs g t' n f0) (hm : o0 + m ≤ n) (hi : (P.info? t).map (·.size) = some m) (hone : ∀ i, (f i).oneCell' = true)
    (hF : ∀ i, i < n → F i = if o0 ≤ i ∧ i < o0 + m then f (i - o0) else f0 i) (h : ∀ w', RT g w w' → KeepsOthers w w' → w'.rowIs g t' n F → K (a.put o.dst undef) w') : o.wp P a w K Q := by
  refine wp_store_mid t x y ho g o0 (rowA m f) hx hy (by rw [rowA_size]; exact fun j hj => ⟨by simp [hr.cell (i := o0 + j) (by omega)], by simpa using hr.frozen (o0 + j)⟩) (by rw [rowA_size]; exact hi) (rowA_one _ _ hone) ?_
  refine h _ (RT.setCells _ _ _) (keepsOthers_setCells _ _ _ _) ((rowIs_setCells_at hr (rowA m f).toList o0).congr fun i hi => ?_)
  rw [hF i hi, rowA_toList]
  simp only [List.length_map, List.length_range]
  by_cases h : o0 ≤ i ∧ i < o0 + m
  · rw [if_pos h, if_pos h]
    simp [show i - o0 < m by omega]
  · rw [if_neg h, if_neg h]
end Go.Proofs.Ytilmeffmdgcblaa
/- Package saga: steps from the last one on; which step is undone next; which one's call is due. -/
namespace Go.Proofs.Ytilmeffmdgcblaa
open Go Go.RowKit Go.Shelf
attribute [local go_sem] Oper.semAt_some
set_option maxRecDepth 8000
set_option linter.all false
theorem lastT_some {f : Nat → Bool} {i : Nat} (hi : f i = true) : ∀ {n : Nat}, i < n → (∀ j, i < j → j < n → f j = false) → lastT f n = some i
  | 0, h, _ => by omega
  | n + 1, h, hn => by
    unfold lastT
    by_cases e : i = n
    · subst e; rw [if_pos hi]
    · rw [if_neg (by rw [hn n (by omega) (by omega)]; simp)]
      exact lastT_some hi (by omega) fun j h1 h2 => hn j h1 (by omega)
theorem lastT_none {f : Nat → Bool} : ∀ {n : Nat}, (∀ j, j < n → f j = false) → lastT f n = none
  | 0, _ => rfl
  | n + 1, h => by
    unfold lastT
    rw [if_neg (by rw [h n (by omega)]; simp)]
    exact lastT_none fun j hj => h j (by omega)
/-- What the iterator hands on: each step with its place, the last one first. -/
def downL (l : List (Int × Int)) (k : Nat) : List (Nat × (Int × Int)) := (List.range k).map fun q => (l.length - 1 - q, l.getD (l.length - 1 - q) (0, 0))
theorem downL_len (l : List (Int × Int)) (k : Nat) : (downL l k).length = k := by simp [downL]
theorem downL_succ (l : List (Int × Int)) (k : Nat) : downL l (k + 1) = downL l k ++ [(l.length - 1 - k, l.getD (l.length - 1 - k) (0, 0))] := by
  unfold downL
  rw [List.range_succ, List.map_append]; rfl
set_option maxHeartbeats 400000 in
theorem fromLast_any (A0 : Option Addr) (n c : Nat) (w : World) : Calls Try.prog 78 #[.slice A0 n c] w fun e w' => e = .returned (.func (.func 79) #[] #[.pointer (some ⟨w.heap.size, 0, none⟩)]) ∧ w.alloc (.cells #[.slice A0 n c] 43) = w' := by
  go_enter Try.func78, Try.ntmps78
  go_wp2
  go_ret
  exact ⟨rfl, rfl⟩
set_option maxHeartbeats 2000000 in
theorem fromLast1_seq (pb : Nat) (sv : Value) (l : List (Int × Int)) (w : World) (hbox : w.cell? ⟨pb, 0, none⟩ = some sv) (hs : RdP w sv l) (hl : l.length ≤ 100000) :
    SeqG Try.prog 79 #[.pointer (some ⟨pb, 0, none⟩)] (fun x : Nat × (Int × Int) => #[.int .i64 (x.1 : Int), .agg (rowA 2 (stepF x.2))]) (KeepBut []) (fun pre x _ => pre = downL l (l.length - 1 - x.1) ∧ l.getD x.1 (0, 0) = x.2 ∧ x.1 < l.length) (fun xs => xs = downL l l.length) (fun _ => True) w := by
  intro lp J Jx W hW hJ hJx hY h0
  have HBX := Lib.hid (KeepBut.cell (KeepBut.below (L := []) hW) (by simp) hbox)
  have hs' := (NewT.of hW).pairs hs
  obtain ⟨A0, c, rfl, h1, h2, h3⟩ := hs'
  have H3 := Lib.hid h3
  have bx0 : W.cell? ⟨pb, 0, none⟩ = some (.slice A0 l.length c) := HBX.out
  have hl1 : l.length ≤ 100000 := hl
  clear hs hbox h3
  refine callsIn_of_wp Try.func79 rfl trivial ?_ rfl
  simp only [Try.ntmps79, List.size_toArray, List.length_cons, List.length_nil, Nat.reduceAdd, Nat.reduceSub, Array.replicate_succ, Array.replicate_zero, List.push_toArray, List.append_toArray, List.nil_append, List.cons_append]
  gi_wp2
  gi_loopw [3] (fun i wr => ∃ k : Nat, k ≤ l.length ∧ i = .int .i64 ((l.length : Int) - 1 - (k : Int)) ∧ J (downL l k) wr ∧ KeepBut [] W wr) (fun i _ => (intOf i + 1).toNat)
  case atStart => exact ⟨0, by omega, by rw [Int.natCast_zero, Int.sub_zero], h0, KeepBut.refl _ _⟩
  case round =>
    clear bx0
    obtain ⟨k, hk, rfl, hJs, hKs⟩ := hrel
    by_cases hlt : k < l.length
    · obtain ⟨j, hj⟩ : ∃ j, l.length - 1 - k = j := ⟨_, rfl⟩
      have hjj : (l.length : Int) - 1 - (k : Int) = (j : Int) := by omega
      have hjl : j < l.length := by omega
      rw [hjj]
      obtain ⟨b, o, rfl, hcell⟩ := H3.out (by omega)
      obtain ⟨d, hd⟩ : ∃ d, l.getD j (0, 0) = d := ⟨_, rfl⟩
      have HD := Lib.hid hd
      have hc := hcell j hjl
      rw [hd] at hc
      have C0 : Hid (wr.cell? ⟨b, o + 2 * j, none⟩ = some (.int .i64 d.1)) := Lib.hid (hKs.cell (a := ⟨b, o + 2 * j, none⟩) (by simp) hc.1)
      have C1 : Hid (wr.cell? ⟨b, o + 2 * j + 1, none⟩ = some (.int .i64 d.2)) := Lib.hid (hKs.cell (a := ⟨b, o + 2 * j + 1, none⟩) (by simp) hc.2)
      have CB : Hid (wr.cell? ⟨pb, 0, none⟩ = some (.slice (some ⟨b, o, none⟩) l.length c)) := Lib.hid (hKs.cell (a := ⟨pb, 0, none⟩) (by simp) HBX.out)
      have it : (0 : Int) ≤ (j : Int) := by omega
      have hy0 := hY (downL l k) (j, d) wr hJs ⟨by rw [show l.length - 1 - (j, d).1 = k by show l.length - 1 - j = k; omega], hd, hjl⟩
      obtain ⟨fn, tmps, assign, body, hy, hR⟩ := hy0
      have HR := Lib.hid hR
      clear hR hcell hc hd
      gi_upto_region 3 with fail
      refine wpIn_region_lit ?_
      refine wpListIn_wpW (by kernel_rfl) (by simp) rfl (fun K hK => ?_)
      refine opr_mvV (.inl rfl) rfl (hK _ _ ?_)
      clear hK K
      simp only [Act.put, List.setIfInBounds_toArray, List.set_cons_zero, List.set_cons_succ]
      refine wpListIn_wpW (by kernel_rfl) (by simp) rfl (fun K hK => ?_)
      refine opr_mvV (.inl rfl) rfl (hK _ _ ?_)
      clear hK K
      simp only [Act.put, List.setIfInBounds_toArray, List.set_cons_zero, List.set_cons_succ]
      refine wpListIn_wpW (by kernel_rfl) (by simp) rfl (fun K hK => ?_)
      refine opr_ld1 Try.underlying43 rfl rfl rfl CB.out (hK _ _ ?_)
      clear hK K
      simp only [Act.put, List.setIfInBounds_toArray, List.set_cons_zero, List.set_cons_succ]
      refine wpListIn_wpW (by kernel_rfl) (by simp) rfl (fun K hK => ?_)
      refine opr_mvV (.inl rfl) rfl (hK _ _ ?_)
      clear hK K
      simp only [Act.put, List.setIfInBounds_toArray, List.set_cons_zero, List.set_cons_succ]
      refine wpListIn_wpW (by kernel_rfl) (by simp) rfl (fun K hK => ?_)
      refine opr_idxS hjl rfl rfl rfl (hK _ _ ?_)
      clear hK K
      simp only [Act.put, List.setIfInBounds_toArray, List.set_cons_zero, List.set_cons_succ]
      refine wpListIn_wpW (by kernel_rfl) (by simp) rfl (fun K hK => ?_)
      refine opr_ld2 (s := d) C0.out C1.out rfl rfl (hK _ _ ?_)
      clear hK K
      simp only [Act.put, List.setIfInBounds_toArray, List.set_cons_zero, List.set_cons_succ]
      gi_wp2
      refine ⟨rfl, HR.out.mono ?_⟩
      rintro e W3 (⟨rfl, hJ3, hk3, _⟩ | ⟨rfl, hJx3, _⟩)
      · gi_wp2
        go_roundw
        case rel => exact ⟨k + 1, by omega, by first | go_num | (congr 1; omega), by rw [downL_succ, hj, HD.out]; exact hJ3, hKs.trans hk3⟩
        case measure => simp [intOf] <;> omega
      · gi_wp2
        refine bodyPost_ret (results_none rfl _ _ _) rfl ?_
        exact ⟨⟨_, rfl⟩, .inr ⟨_, trivial, hJx3⟩⟩
    · obtain rfl : k = l.length := by omega
      have it : ((l.length : Int) - 1 - (l.length : Int)) = -1 := by omega
      rw [it]
      gi_wp2
      refine bodyPost_end (results_none rfl _ _ _) rfl ?_
      exact ⟨⟨_, rfl⟩, .inl ⟨_, rfl, hJs⟩⟩
theorem results_vv {P : Program} {w : World} {fn : Func} {tmps : Array Value} {p q : Tmp} {tp tq t t' : TypeId} {d d' : TypeDesc} {b b' : Nat} {u v : Value} (hf : fn.results = #[.cell p tp, .cell q tq]) (hp : tmps.getD p undef = .pointer (some ⟨b, 0, none⟩)) (hq : tmps.getD q undef = .pointer (some ⟨b', 0, none⟩))
    (h : w.rowIs b t 1 (fun _ => u)) (h' : w.rowIs b' t' 1 (fun _ => v)) (hu : P.underlying tp = some d) (hd : d.isRow = false) (hu' : P.underlying tq = some d') (hd' : d'.isRow = false) : (results fn tmps).run P w = .ok (.tuple #[u, v]) w := by
  have e1 := run_ldV_one (P := P) h hu hd
  have e2 := run_ldV_one (P := P) h' hu' hd'
  have hp' : tmps[p]?.getD undef = .pointer (some ⟨b, 0, none⟩) := by simpa using hp
  have hq' : tmps[q]?.getD undef = .pointer (some ⟨b', 0, none⟩) := by simpa using hq
  simp [results, hf, hp', hq', asAddr, e1, e2]
theorem opr_put1O {P : Program} {a : Act} {w : World} {o : Oper} {K : Act → World → Prop} {Q : Exit → Act → World → Prop} {t t' : TypeId} {x y : Operand} {g o0 n : Nat} {v : Value} {f0 F : Nat → Value} (ho : o.op = .store t x y) (hx : a.eval x = .pointer (some ⟨g, o0, none⟩)) (hy : a.eval y = v) (hr : w.rowIs g t' n f0) (hm : o0 < n) (hi : (P.info? t).map (·.size) = some 1) (hone : v.oneCell' = true)
    (hF : ∀ i, i < n → F i = if i = o0 then v else f0 i) (h : ∀ w', RT g w w' → KeepsOthers w w' → w'.rowIs g t' n F → K (a.put o.dst undef) w') : o.wp P a w K Q := by
  obtain ⟨dst, op, type, pos, after, guard⟩ := o
  simp only at ho
  subst ho
  have hsz : (sizeOf t).run P w = .ok 1 w := by
    cases hq : P.info? t with
    | none => simp [hq] at hi
    | some i => simp [hq] at hi; simp [sizeOf, typeInfo, hq, hi]
  have hc := hr.cell hm
  have hf := hr.frozen o0
  have hcs : v.cells = #[v] := by cases v <;> first | rfl | simp [Value.oneCell'] at hone
  refine opr_unit (s := Instr.storeAt t (a.eval x) (a.eval y)) (w' := w.setCell ⟨g, o0, none⟩ v) rfl ?_ (h _ (RT.setCell w o0 v) (KeepsOthers.setCell w _ v) ((hr.set o0 v).congr fun i hi => by rw [hF i hi]))
  rw [hx, hy]
  simp [Instr.storeAt, Instr.sureAddr, storeVar, hsz, hcs, storeCells, run_store _ _ _ _ _ hone, hc, hf, Addr.add_zero']
theorem wpList_new1 {P : Program} {ops : Array Oper} {rest : List Oper} {a : Act} {w : World} {Q : Exit → Act → World → Prop} {o1 o2 : Oper} {t : TypeId} {d0 : Nat} {y : Operand} {v v0 : Value} (hg1 : o1.guard = none) (hg2 : o2.guard = none) (h1 : o1.op = .alloc t) (hd : o1.dst = some d0) (h2 : o2.op = .store t (.tmp d0) y) (hd2 : o2.dst = none) (hlt : d0 < a.tmps.size)
    (hal : ∀ w : World, (Instr.alloc t true (.tuple #[])).run P w = .ok (.pointer (some ⟨w.heap.size, 0, none⟩)) (w.alloc (.cells (rowA 1 (fun _ => v0)) t))) (hi : (P.info? t).map (·.size) = some 1) (hone : v.oneCell' = true)
    (hy : (a.put (some d0) (.pointer (some ⟨w.heap.size, 0, none⟩))).eval y = v) (h : ∀ w', NewT w w' → w'.rowIs w.heap.size t 1 (fun _ => v) → wpList P ops Q rest (a.put (some d0) (.pointer (some ⟨w.heap.size, 0, none⟩))) w') : wpList P ops Q (o1 :: o2 :: rest) a w := by
  refine wpList_plain hg1 fun K hK => ?_
  obtain ⟨dst, op, type, pos, after, guard⟩ := o1
  simp only at h1 hd
  subst h1 hd
  refine opr_val (s := Instr.alloc t true (.tuple #[])) rfl (hal w) (hK _ _ ?_)
  have hr := rowIs_box w t 1 (fun _ => v0)
  refine wpList_put1 (o0 := 0) (n := 1) (F := fun _ => v) hg2 h2 hd2 (by rw [eval_tmp]; simp [Act.put, hlt]) hy hr (by decide) hi hone (fun i hi => by rw [if_pos (by omega)]) ?_
  intro w' hB hr'
  exact h w' (NewT.of ((NewT.alloc w _).out.trans (hB _ (Nat.le_refl _)))) hr'
theorem row_putO {W : World} {b n l : Nat} {t : TypeId} {f : Nat → Value} (h : W.rowIs b t n f) (hne : b ≠ l) (o : Obj) : (W.putObj l o).rowIs b t n f := h.of_block (World.putObj_heap_other hne)
theorem run_alloc_int (w : World) : (Instr.alloc 3 true (.tuple #[])).run Try.prog w = .ok (.pointer (some ⟨w.heap.size, 0, none⟩)) (w.alloc (.cells (rowA 1 (fun _ => .int .i64 0)) 3)) := by kernel_rfl
def TInv (l : List (Int × Int)) (op : Int) (g2 g3 g4 : Nat) (w : World) (pre : List (Nat × (Int × Int))) (V : World) : Prop :=
  (∀ q, q < pre.length → isTg l op (l.length - 1 - q) = false) ∧ V.rowIs g2 3 1 (fun _ => .int .i64 0) ∧ V.rowIs g3 4 1 (fun _ => .bool false) ∧ V.rowIs g4 3 1 (fun _ => .int .i64 op) ∧ NewT w V
def TStop (l : List (Int × Int)) (op : Int) (g2 g3 : Nat) (w : World) (c : Code) (V : World) : Prop :=
  c = .ret ∧ ∃ i : Nat, lastT (isTg l op) l.length = some i ∧ V.rowIs g2 3 1 (fun _ => .int .i64 (i : Int)) ∧ V.rowIs g3 4 1 (fun _ => .bool true) ∧ NewT w V
set_option maxHeartbeats 4000000 in
theorem target_any (A0 : Option Addr) (c : Nat) (l : List (Int × Int)) (g : Sg) (w : World) (hs : RdP w (.slice A0 l.length c) l) (hl : l.length ≤ 6) : Calls Try.prog 76 #[.agg (rowA 10 (sgF (.slice A0 l.length c) g))] w fun e w' => e = .returned (.tuple #[.int .i64 (oI (tgtO l g)), .bool (tgtO l g).isSome]) ∧ Below w.heap.size w w' := by
  have HS := Lib.hid hs
  have HL6 := Lib.hid hl
  have HL : Hid (l.length ≤ 100000) := Lib.hid (by omega)
  clear hs hl
  refine (callsIn_wide (n := 0)).1 ?_
  refine callsIn_of_wp_marks Try.func76 rfl trivial ?_ rfl
  simp only [Try.ntmps76, List.size_toArray, List.length_cons, List.length_nil, Nat.reduceAdd, Nat.reduceSub, Array.replicate_succ, Array.replicate_zero, List.push_toArray, List.append_toArray, List.nil_append, List.cons_append]
  gi_upto_region 1 with fail
  have r_g1 := ((rowIs_box w 48 10 (sgF (.slice A0 l.length c) g)).alloc (.cells (rowA 1 (fun _ => .int .i64 0)) 3)).alloc (.cells (rowA 1 (fun _ => .bool false)) 4)
  have r_g2 := (rowIs_box (w.alloc (.cells (rowA 10 (sgF (.slice A0 l.length c) g)) 48)) 3 1 (fun _ => .int .i64 0)).alloc (.cells (rowA 1 (fun _ => .bool false)) 4)
  rw [World.size_alloc] at r_g2
  have r_g3 := rowIs_box ((w.alloc (.cells (rowA 10 (sgF (.slice A0 l.length c) g)) 48)).alloc (.cells (rowA 1 (fun _ => .int .i64 0)) 3)) 4 1 (fun _ => .bool false)
  rw [World.size_alloc, World.size_alloc] at r_g3
  have hN : NewT w (((w.alloc (.cells (rowA 10 (sgF (.slice A0 l.length c) g)) 48)).alloc (.cells (rowA 1 (fun _ => .int .i64 0)) 3)).alloc (.cells (rowA 1 (fun _ => .bool false)) 4)) := (NewT.trans _ _ _ ((NewT.trans _ _ _ (NewT.alloc _ _) (NewT.alloc _ _))) (NewT.alloc _ _))
  change Code.wpIn _ _ _ _ _ _ (((w.alloc (.cells (rowA 10 (sgF (.slice A0 l.length c) g)) 48)).alloc (.cells (rowA 1 (fun _ => .int .i64 0)) 3)).alloc (.cells (rowA 1 (fun _ => .bool false)) 4))
  generalize (((w.alloc (.cells (rowA 10 (sgF (.slice A0 l.length c) g)) 48)).alloc (.cells (rowA 1 (fun _ => .int .i64 0)) 3)).alloc (.cells (rowA 1 (fun _ => .bool false)) 4)) = W0 at r_g1 r_g2 r_g3 hN ⊢
  obtain ⟨g1, h_g1⟩ : ∃ g_, w.heap.size = g_ := ⟨_, rfl⟩
  obtain ⟨g2, h_g2⟩ : ∃ g_, w.heap.size + 1 = g_ := ⟨_, rfl⟩
  obtain ⟨g3, h_g3⟩ : ∃ g_, w.heap.size + 1 + 1 = g_ := ⟨_, rfl⟩
  have HG : Hid (w.heap.size ≤ g1 ∧ g1 < g2 ∧ g2 < g3) := Lib.hid (by omega)
  rw [h_g1] at r_g1
  rw [h_g2] at r_g2
  rw [h_g3] at r_g3
  try rw [h_g3]
  try rw [h_g2]
  simp only [h_g1]
  have Rg1 := Lib.hid r_g1
  have Rg2 := Lib.hid r_g2
  have Rg3 := Lib.hid r_g3
  have HM := Lib.hid hN
  clear r_g1 r_g2 r_g3 hN h_g1 h_g2 h_g3
  refine wpIn_wide.2 ?_
  refine wp_region_steps0 NewT [SV.eq (.pointer (some ⟨g1, 6, none⟩)), SV.eq (.int .i64 (g.dn)), SV.eq (.pointer (some ⟨g1, 8, none⟩)), SV.eq (.int .i64 (g.so)), SV.eq (.int .i64 (orI g.dn g.so)), SV.eq (.pointer (some ⟨g1, 7, none⟩)), SV.eq (.int .i64 (g.un)), SV.eq (.int .i64 (notI (orI g.dn g.so) g.un))] [([(1, none)], none), ([(7, some 0)], none), ([(1, none)], none), ([(9, some 2)], none), ([(8, some 1), (10, some 3)], none), ([(1, none)], none), ([(12, some 5)], none), ([(11, some 4), (13, some 6)], none)] 31 8 rfl rfl (by kernel_rfl) NewT.trans (NewT.refl _) (Nat.le_of_ble_eq_true rfl) ⟨?_, ?_, ?_, ?_, ?_, ?_, ?_, ?_, trivial⟩ ?_
  · exact fun a wx hT hF K hK => rely_wp rfl (opr_fldU6 rfl hF.1 (hK _ _ (NewT.refl _) rfl))
  · exact fun a wx hT hF K hK => rely_wp rfl (opr_ldI (hT.row Rg1.out) (by decide) rfl rfl hF.1 (hK _ _ (NewT.refl _) rfl))
  · exact fun a wx hT hF K hK => rely_wp rfl (opr_fldU8 rfl hF.1 (hK _ _ (NewT.refl _) rfl))
  · exact fun a wx hT hF K hK => rely_wp rfl (opr_ldI (hT.row Rg1.out) (by decide) rfl rfl hF.1 (hK _ _ (NewT.refl _) rfl))
  · exact fun a wx hT hF K hK => rely_wp rfl (opr_orI rfl hF.1 hF.2.1 (hK _ _ (NewT.refl _) rfl))
  · exact fun a wx hT hF K hK => rely_wp rfl (opr_fldU7 rfl hF.1 (hK _ _ (NewT.refl _) rfl))
  · exact fun a wx hT hF K hK => rely_wp rfl (opr_ldI (hT.row Rg1.out) (by decide) rfl rfl hF.1 (hK _ _ (NewT.refl _) rfl))
  · exact fun a wx hT hF K hK => rely_wp rfl (opr_notI rfl hF.1 hF.2.1 (hK _ _ (NewT.refl _) rfl))
  · intro w1 k1
    iterate 8 (intro u h; obtain rfl := Eq.symm (h (by simp)); clear h)
    refine relyEnd_nil rfl ?_
    simp only [Act.put, List.setIfInBounds_toArray, List.set_cons_zero, List.set_cons_succ]
    refine wpList_new1 (v := .int .i64 (notI (orI g.dn g.so) g.un)) rfl rfl rfl rfl rfl rfl (by first | (simp; done) | simp [Act.put]) run_alloc_int info_i1 rfl rfl ?_
    intro W1 hn1 rr1
    refine wpList_end rfl ?_
    simp only [Act.put, List.setIfInBounds_toArray, List.set_cons_zero, List.set_cons_succ]
    go_simp
    obtain ⟨g4, h_g4⟩ : ∃ g_, w1.heap.size = g_ := ⟨_, rfl⟩
    rw [h_g4] at rr1
    simp only [h_g4]
    have HGg4 : Hid (g1 < g4 ∧ g2 < g4 ∧ g3 < g4 ∧ w.heap.size ≤ g4) := Lib.hid (by rw [← h_g4]; exact ⟨(k1.row Rg1.out).lt, (k1.row Rg2.out).lt, (k1.row Rg3.out).lt, (NewT.trans _ _ _ HM.out k1).out.size⟩)
    have q1 := NewT.trans _ _ _ k1 hn1
    clear k1 hn1 h_g4
    replace Rg1 := Lib.hid (q1.row Rg1.out)
    replace Rg2 := Lib.hid (q1.row Rg2.out)
    replace Rg3 := Lib.hid (q1.row Rg3.out)
    replace HM := Lib.hid (NewT.trans _ _ _ HM.out q1)
    clear q1
    have Rg4 := Lib.hid rr1
    clear rr1
    have hop : (notI (orI g.dn g.so) g.un) = opnI g := rfl
    rw [hop] at Rg4
    have c0 : W1.cell? ⟨g1, 0, none⟩ = some (.slice A0 l.length c) := Rg1.out.cell (i := 0) (by omega)
    gi_wp2_with fail
    refine ⟨trivial, rfl, (callsIn_wide.2 (fromLast_any A0 l.length c _)).mono ?_⟩
    rintro e W3 ⟨rfl, hW3⟩
    clear c0 hop
    have bC : W3.cell? ⟨W1.heap.size, 0, none⟩ = some (.slice A0 l.length c) := by
      rw [← hW3]
      have := one_cell W1 (.slice A0 l.length c) 43 0 _ rfl
      rw [Addr.add_zero'] at this
      exact this
    have hB3 : NewT W1 W3 := by rw [← hW3]; exact NewT.alloc _ _
    obtain ⟨pb, hpb⟩ : ∃ pb, W1.heap.size = pb := ⟨_, rfl⟩
    rw [hpb] at bC ⊢
    have q2 := hB3.row Rg2.out
    have q3 := hB3.row Rg3.out
    have q4 := hB3.row Rg4.out
    have HM3 := Lib.hid (NewT.trans _ _ _ HM.out hB3)
    have seq := fromLast1_seq pb (.slice A0 l.length c) l W3 bC (HM3.out.pairs HS.out) HL.out
    have hlt2 := q2.lt
    have hlt3 := q3.lt
    have hlt4 := q4.lt
    have HGS : Hid (g2 < W3.heap.size ∧ g3 < W3.heap.size ∧ g4 < W3.heap.size) := Lib.hid ⟨hlt2, hlt3, hlt4⟩
    clear bC hpb hW3
    gi_wp2_with fail
    refine range_law2 (n := 0) (gf := 79) (lb := #[.pointer (some ⟨pb, 0, none⟩)]) rfl (enters_of Try.func79 (by kernel_rfl) rfl) seq (Below.refl _ _) KeepBut.trans (fun V k o o' _ h hc => KeepBut.putObj h hc)
      (fun _ x V k o o' _ h hc hG => hG) (fun _ => rfl)
      (TInv l (opnI g) g2 g3 g4 w) (fun c _ V => TStop l (opnI g) g2 g3 w c V)
      (fun pre A B h hb => ⟨h.1, rowIs_below h.2.1 hb HGS.out.1, rowIs_below h.2.2.1 hb HGS.out.2.1, rowIs_below h.2.2.2.1 hb HGS.out.2.2, NewT.of (h.2.2.2.2.out.trans (hb.mono HM3.out.out.size))⟩)
      (fun c pre A B h hb => by obtain ⟨h1, i, h2, h3, h4, h5⟩ := h; exact ⟨h1, i, h2, rowIs_below h3 hb HGS.out.1, rowIs_below h4 hb HGS.out.2.1, NewT.of (h5.out.trans (hb.mono HM3.out.out.size))⟩)
      ⟨fun q hq => (by cases hq), q2, q3, q4, HM3.out⟩
      (fun x a1 V => ∃ p, a1 = { tmps := #[.agg (rowA 10 (sgF (.slice A0 l.length c) g)), .pointer (some ⟨g1, 0, none⟩), .pointer (some ⟨g2, 0, none⟩), .pointer (some ⟨g3, 0, none⟩), .pointer (some ⟨g4, 0, none⟩), .int .i64 (x.1 : Int), .pointer (some ⟨p, 0, none⟩), .pointer (some ⟨g1, 6, none⟩), .int .i64 g.dn, .pointer (some ⟨g1, 8, none⟩), .int .i64 g.so, .int .i64 (orI g.dn g.so), .pointer (some ⟨g1, 7, none⟩), .int .i64 g.un, .int .i64 (notI (orI g.dn g.so) g.un), .pointer (some ⟨g1, 0, none⟩), .slice A0 l.length c, .func (.func 79) #[] #[.pointer (some ⟨pb, 0, none⟩)], .int .i64 (x.1 : Int), .agg (rowA 2 (stepF x.2)), undef, undef, undef, undef, undef, undef, undef, undef, undef, undef, undef], defers := [] } ∧ V.rowIs p 58 2 (stepF x.2))
      (fun A B h => KeepBut.below h) (fun _ _ _ _ h _ => h) (fun x a1 V k o o' _ h hc hA => by obtain ⟨p, h1, h2⟩ := hA; exact ⟨p, h1, (KeepBut.putObj (L := []) h hc).row (by simp) h2⟩) ?assign ?body ?done ?stop
    case assign =>
      intro l2 x V K hK
      gi_upto_region 4 with fail
      refine wpIn_region_lit ?_
      refine wpListIn_wp (by kernel_rfl) (by simp) rfl (fun K hK => ?_)
      refine opr_val (s := Instr.alloc 58 true (.tuple #[])) rfl (run_alloc_step V) (hK _ _ ?_)
      clear hK K
      refine wpListIn_wp (by kernel_rfl) (by simp) rfl (fun K hK => ?_)
      refine opr_putmW (f := stepF x.2) (F := stepF x.2) rfl rfl rfl (rowIs_box V 58 2 (stepF (0, 0))) (by decide) info_step (stepF_one _) (put_allN _ _ _) ?_
      intro w9 hR9 hK9 r9
      refine hK _ _ ?_
      clear hK K
      refine wpListIn_end rfl ?_
      simp only [Act.put, List.setIfInBounds_toArray, List.set_cons_zero, List.set_cons_succ]
      go_simp
      exact hK _ _ ((NewT.alloc _ _).out.trans (hR9.below.mono (Nat.le_refl _))) ⟨V.heap.size, rfl, r9⟩
    case body =>
      rintro l2 pre ⟨i, d⟩ a1 V hl2 ⟨hno, hV2, hV3, hV4, hNV⟩ ⟨hpre, hd, hlt⟩ ⟨p, rfl, hp⟩
      simp only at hpre hd hlt hp ⊢
      have HNO := Lib.hid hno
      have V2 := Lib.hid hV2
      have V3 := Lib.hid hV3
      have V4 := Lib.hid hV4
      have VP := Lib.hid hp
      have HNV := Lib.hid hNV
      have HPRE := Lib.hid hpre
      have HDD := Lib.hid hd
      have HI6 : Hid (0 ≤ (i : Int) ∧ (i : Int) < 6) := Lib.hid (by have := HL6.out; omega)
      have HIL := Lib.hid hlt
      clear hno hV2 hV3 hV4 hp hNV hpre hd
      gi_upto_region 5 with fail
      refine wpIn_region_rely (NewT) [SV.eq (.pointer (some ⟨p, 0 + 1, none⟩)), SV.eq (.int .i64 (d.2)), SV.eq (.bool (d.2 == 1)), SV.eq (.bool (d.2 == 1)), svIf (d.2 == 1) (SV.eq (.int .i64 (opnI g))), svIf (d.2 == 1) (SV.eq (.int .i64 ((i : Int)))), svIf (d.2 == 1) (SV.eq (.int .i64 (bitI ((i : Int))))), svIf (d.2 == 1) (SV.eq (.int .i64 (andI (opnI g) (bitI ((i : Int)))))), svIf (d.2 == 1) (SV.eq (.bool ((andI (opnI g) (bitI ((i : Int)))) != 0)))] [([(6, none)], none), ([(20, some 0)], none), ([(21, some 1)], none), ([(22, some 2)], none), ([(4, none), (23, some 3)], some (23, true)), ([(5, none), (23, some 3)], some (23, true)), ([(25, some 5), (23, some 3)], some (23, true)), ([(24, some 4), (26, some 6), (23, some 3)], some (23, true)), ([(27, some 7), (23, some 3)], some (23, true))] 31 (by kernel_rfl) rfl (by kernel_rfl) rfl (by kernel_rfl) (by kernel_rfl) rfl NewT.trans (NewT.drew _) (Nat.le_of_ble_eq_true rfl) ⟨?_, ?_, ?_, ?_, ?_, ?_, ?_, ?_, ?_, trivial⟩ ?_
      · intro a wx hT hF K hK
        obtain ⟨f6, _⟩ := hF
        have f6 : a.tmps.getD 6 undef = .pointer (some ⟨p, 0, none⟩) := f6
        refine rely_wp rfl ?_
        exact opr_fldS (by decide) rfl f6 (hK _ _ (NewT.refl _) rfl)
      · intro a wx hT hF K hK
        obtain ⟨f20, _⟩ := hF
        have f20 : a.tmps.getD 20 undef = .pointer (some ⟨p, 0 + 1, none⟩) := f20
        refine rely_wp rfl ?_
        exact opr_ldI (hT.row VP.out) (by decide) rfl rfl f20 (hK _ _ (NewT.refl _) rfl)
      · intro a wx hT hF K hK
        obtain ⟨f21, _⟩ := hF
        have f21 : a.tmps.getD 21 undef = .int .i64 (d.2) := f21
        refine rely_wp rfl ?_
        exact opr_cmp (b := d.2 == 1) (.inl ⟨rfl, rfl⟩) Try.underlying3 rfl f21 rfl (hK _ _ (NewT.refl _) rfl)
      · intro a wx hT hF K hK
        obtain ⟨f22, _⟩ := hF
        have f22 : a.tmps.getD 22 undef = .bool (d.2 == 1) := f22
        refine rely_wp rfl ?_
        exact opr_move (.inl rfl) (hK _ _ (NewT.refl _) f22)
      · intro a wx hT hF K hK
        obtain ⟨f4, f23, _⟩ := hF
        have f4 : a.tmps.getD 4 undef = .pointer (some ⟨g4, 0, none⟩) := f4
        have f23 : a.tmps.getD 23 undef = .bool (d.2 == 1) := f23
        refine rely_if (rely_gt f23) (NewT.refl _) hK (fun hE hK => ?_)
        exact opr_ldI (hT.row V4.out) (by decide) rfl rfl f4 (hK _ _ (NewT.refl _) rfl)
      · intro a wx hT hF K hK
        obtain ⟨f5, f23, _⟩ := hF
        have f5 : a.tmps.getD 5 undef = .int .i64 ((i : Int)) := f5
        have f23 : a.tmps.getD 23 undef = .bool (d.2 == 1) := f23
        refine rely_if (rely_gt f23) (NewT.refl _) hK (fun hE hK => ?_)
        exact opr_move (.inl rfl) (hK _ _ (NewT.refl _) f5)
      · intro a wx hT hF K hK
        obtain ⟨f25, f23, _⟩ := hF
        have f25 : (d.2 == 1) = true → a.tmps.getD 25 undef = .int .i64 ((i : Int)) := f25
        have f23 : a.tmps.getD 23 undef = .bool (d.2 == 1) := f23
        refine rely_if (rely_gt f23) (NewT.refl _) hK (fun hE hK => ?_)
        exact opr_cv (gBit_cv ((i : Int)) wx (HI6.out)) rfl Try.func65 (by kernel_rfl) (by kernel_rfl) (by simp only [List.map_toArray, List.map_cons, List.map_nil, eval_tmp, (f25 hE)]) hK
      · intro a wx hT hF K hK
        obtain ⟨f24, f26, f23, _⟩ := hF
        have f24 : (d.2 == 1) = true → a.tmps.getD 24 undef = .int .i64 (opnI g) := f24
        have f26 : (d.2 == 1) = true → a.tmps.getD 26 undef = .int .i64 (bitI ((i : Int))) := f26
        have f23 : a.tmps.getD 23 undef = .bool (d.2 == 1) := f23
        refine rely_if (rely_gt f23) (NewT.refl _) hK (fun hE hK => ?_)
        exact opr_andI rfl (f24 hE) (f26 hE) (hK _ _ (NewT.refl _) rfl)
      · intro a wx hT hF K hK
        obtain ⟨f27, f23, _⟩ := hF
        have f27 : (d.2 == 1) = true → a.tmps.getD 27 undef = .int .i64 (andI (opnI g) (bitI ((i : Int)))) := f27
        have f23 : a.tmps.getD 23 undef = .bool (d.2 == 1) := f23
        refine rely_if (rely_gt f23) (NewT.refl _) hK (fun hE hK => ?_)
        exact opr_cmp (b := (andI (opnI g) (bitI ((i : Int)))) != 0) (.inr (.inl ⟨rfl, rfl⟩)) Try.underlying3 rfl (f27 hE) rfl (hK _ _ (NewT.refl _) rfl)
      · intro w5 k5
        iterate 4 (intro u h; obtain rfl := Eq.symm (h (by simp)); clear h)
        iterate 4 (intro _ _)
        intro u28 h; have g28 := h (by simp); clear h; replace g28 := show (svIf (d.2 == 1) (SV.eq (.bool ((andI (opnI g) (bitI ((i : Int)))) != 0)))).pred u28 w5 from g28
        refine relyEnd_nil rfl ?_
        simp only [Act.put, List.setIfInBounds_toArray, List.set_cons_zero, List.set_cons_succ]
        refine opr_pick_and (b := d.2 == 1) (e := (andI (opnI g) (bitI ((i : Int)))) != 0) rfl rfl (fun hb => g28 hb) ?_
        go_simp
        have HTG : Hid (isTg l (opnI g) i = ((d.2 == 1) && (andI (opnI g) (bitI (i : Int)) != 0))) := Lib.hid (by unfold isTg kdL; rw [HDD.out])
        replace V2 := Lib.hid (k5.row V2.out)
        replace V3 := Lib.hid (k5.row V3.out)
        replace V4 := Lib.hid (k5.row V4.out)
        replace HNV := Lib.hid (NewT.trans _ _ _ HNV.out k5)
        cases hq : ((d.2 == 1) && (andI (opnI g) (bitI (i : Int)) != 0))
        · gi_wp2
          refine ⟨(keepsOthers_below k5.out).from _, KeepBut.below k5.out, fun q hq2 => ?_, V2.out, V3.out, V4.out, HNV.out⟩
          rw [List.length_append, List.length_singleton] at hq2
          by_cases hqe : q < pre.length
          · exact HNO.out q hqe
          · have e : q = pre.length := by omega
            have e2 := HPRE.out
            have e3 : pre.length = l.length - 1 - i := by rw [e2, downL_len]
            rw [show l.length - 1 - q = i by omega, HTG.out, hq]
        · gi_upto_region 6 with fail
          refine wpIn_region_lit ?_
          refine wpListIn_wp (by kernel_rfl) (by simp) rfl (fun K hK => ?_)
          refine opr_mvV (.inl rfl) rfl (hK _ _ ?_)
          clear hK K
          simp only [Act.put, List.setIfInBounds_toArray, List.set_cons_zero, List.set_cons_succ]
          refine wpListIn_wp (by kernel_rfl) (by simp) rfl (fun K hK => ?_)
          refine opr_put1O (g := g2) (o0 := 0) (v := .int .i64 (i : Int)) (F := fun _ => .int .i64 (i : Int)) rfl rfl rfl V2.out (by decide) info_i1 rfl (fun j hj => by rw [if_pos (by omega)]) ?_
          intro wa hRa hKa ra
          refine hK _ _ ?_
          clear hK K
          simp only [Act.put, List.setIfInBounds_toArray, List.set_cons_zero, List.set_cons_succ]
          refine wpListIn_wp (by kernel_rfl) (by simp) rfl (fun K hK => ?_)
          refine opr_put1O (g := g3) (o0 := 0) (v := .bool true) (F := fun _ => .bool true) rfl rfl rfl (hRa.row (by have h_0 := HG.out; have h_1 := HGg4.out; omega) V3.out) (by decide) info_b1 rfl (fun j hj => by rw [if_pos (by omega)]) ?_
          intro wb hRb hKb rb
          refine hK _ _ ?_
          clear hK K
          refine wpListIn_end rfl ?_
          simp only [Act.put, List.setIfInBounds_toArray, List.set_cons_zero, List.set_cons_succ]
          go_simp
          gi_wp2
          refine ⟨((keepsOthers_below k5.out).trans (hKa.trans hKb)).from _, rfl, i, lastT_some (by rw [HTG.out, hq]) HIL.out (fun j h1 h2 => ?_), hRb.row (by have h_0 := HG.out; have h_1 := HGg4.out; omega) ra, rb, (HNV.out.rt hRa (by have h_0 := HG.out; have h_1 := HGg4.out; omega)).rt hRb (by have h_0 := HG.out; have h_1 := HGg4.out; omega)⟩
          have e3 : pre.length = l.length - 1 - i := by rw [HPRE.out, downL_len]
          have := HNO.out (l.length - 1 - j) (by omega)
          rwa [show l.length - 1 - (l.length - 1 - j) = j by omega] at this
    case done =>
      rintro D xs V hD hS' ⟨hno, hV2, hV3, hV4, hNV⟩ hK
      have HE : Hid (tgtO l g = none) := Lib.hid (lastT_none fun j hj => by
        have e : xs.length = l.length := by rw [hS', downL_len]
        have := hno (l.length - 1 - j) (by omega)
        rwa [show l.length - 1 - (l.length - 1 - j) = j by omega] at this)
      have V2 := Lib.hid hV2
      have V3 := Lib.hid hV3
      have HNV := Lib.hid hNV
      have HKD := Lib.hid hK
      clear hno hV2 hV3 hV4 hNV hK hS'
      gi_upto_region 7 with fail
      refine wpIn_wide.2 ?_
      refine wp_region_lit ?_
      refine wpList_plain rfl (fun K hK => ?_)
      refine opr_put1O (g := g2) (o0 := 0) (v := .int .i64 0) (F := fun _ => .int .i64 0) rfl rfl rfl V2.out (by decide) info_i1 rfl (fun j hj => by rw [if_pos (by omega)]) ?_
      intro wa hRa hKa ra
      refine hK _ _ ?_
      clear hK K
      simp only [Act.put, List.setIfInBounds_toArray, List.set_cons_zero, List.set_cons_succ]
      refine wpList_plain rfl (fun K hK => ?_)
      refine opr_put1O (g := g3) (o0 := 0) (v := .bool false) (F := fun _ => .bool false) rfl rfl rfl (hRa.row (by have h_0 := HG.out; have h_1 := HGg4.out; omega) V3.out) (by decide) info_b1 rfl (fun j hj => by rw [if_pos (by omega)]) ?_
      intro wb hRb hKb rb
      refine hK _ _ ?_
      clear hK K
      refine wpList_end rfl ?_
      simp only [Act.put, List.setIfInBounds_toArray, List.set_cons_zero, List.set_cons_succ]
      go_simp
      gi_wp2
      have hK2 := (hKa.trans hKb).same D _ HKD.out rfl
      refine ⟨by simp, .inl ⟨_, _, rfl, run_takeDeferred hK2, ?_⟩⟩
      have hDs : g2 < D ∧ g3 < D := by have := HGS.out; omega
      refine ⟨_, results_vv rfl rfl rfl (row_putO (hRb.row (by have h_0 := HG.out; have h_1 := HGg4.out; omega) ra) (by omega) _) (row_putO rb (by omega) _) Try.underlying3 rfl Try.underlying4 rfl, ?_, ?_⟩
      · rw [HE.out]; rfl
      · exact ((HNV.out.rt hRa (by have h_0 := HG.out; have h_1 := HGg4.out; omega)).rt hRb (by have h_0 := HG.out; have h_1 := HGg4.out; omega)).out.trans (below_putObj (by have := HM3.out.out.size; omega) _)
    case stop =>
      rintro D c0 pre2 V hD _ ⟨rfl, i, hE, hV2, hV3, hNV⟩ hK
      have HE : Hid (tgtO l g = some i) := Lib.hid hE
      clear hE
      gi_wp2
      refine ⟨by simp, .inl ⟨_, _, rfl, run_takeDeferred hK, ?_⟩⟩
      have hDs : g2 < D ∧ g3 < D := by have := HGS.out; omega
      refine ⟨_, results_vv rfl rfl rfl (row_putO hV2 (by omega) _) (row_putO hV3 (by omega) _) Try.underlying3 rfl Try.underlying4 rfl, ?_, ?_⟩
      · rw [HE.out]; rfl
      · exact hNV.out.trans (below_putObj (by have := HM3.out.out.size; omega) _)
theorem target_cv (sv : Value) (l : List (Int × Int)) (g : Sg) (w : World) (hs : RdP w sv l) (hl : l.length ≤ 6) : Cv 76 #[.agg (rowA 10 (sgF sv g))] w (.eq (.tuple #[.int .i64 (oI (tgtO l g)), .bool (tgtO l g).isSome])) := by
  obtain ⟨A0, c, rfl, h1, h2, h3⟩ := hs
  exact Cv.of_eq (target_any A0 c l g w ⟨A0, c, rfl, h1, h2, h3⟩ hl)
end Go.Proofs.Ytilmeffmdgcblaa
/- Sagas' numbers, as the program reckons, and how they stand: what is due, whether a record goes, and the saga behind it, of a saga that went by records from its beginning. -/
namespace Go.Proofs.Ytilmeffmdgcblaa
open Go Go.RowKit
set_option maxRecDepth 8000
set_option linter.all false
theorem bits_tg : ∀ (a : Fin 7) (p : Bool) (t r : Fin 8) (i : Fin 6), (andI (notI (orI ((2 ^ a.val - 1 : Nat) : Int) ((if p = true then 2 ^ a.val else 0 : Nat) : Int)) ((2 ^ t.val - 2 ^ r.val : Nat) : Int)) (bitI (i.val : Int)) != 0) = ((hasN (2 ^ a.val - 1) i.val || hasN (if p = true then 2 ^ a.val else 0) i.val) && !hasN (2 ^ t.val - 2 ^ r.val) i.val) := by decide +kernel
theorem bits_done : ∀ (a : Fin 6), orI ((2 ^ a.val - 1 : Nat) : Int) (bitI (a.val : Int)) = ((2 ^ (a.val + 1) - 1 : Nat) : Int) := by decide +kernel
theorem bits_out : ∀ (a : Fin 6) (p : Bool), notI ((if p = true then 2 ^ a.val else 0 : Nat) : Int) (bitI (a.val : Int)) = 0 := by decide +kernel
theorem bits_in : ∀ (a : Fin 6) (p : Bool), orI ((if p = true then 2 ^ a.val else 0 : Nat) : Int) (bitI (a.val : Int)) = ((2 ^ a.val : Nat) : Int) := by decide +kernel
theorem bits_und : ∀ (t : Fin 8) (r : Fin 7), r.val < t.val → orI ((2 ^ t.val - 2 ^ (r.val + 1) : Nat) : Int) (bitI (r.val : Int)) = ((2 ^ t.val - 2 ^ r.val : Nat) : Int) := by decide +kernel
theorem Sg.eq_of {g h : Sg} (h1 : g.ph = h.ph) (h2 : g.at_ = h.at_) (h3 : g.tr = h.tr) (h4 : g.wt = h.wt) (h5 : g.bk = h.bk) (h6 : g.dn = h.dn) (h7 : g.un = h.un) (h8 : g.so = h.so) (h9 : g.sq = h.sq) : g = h := by
  cases g; cases h; simp at h1 h2 h3 h4 h5 h6 h7 h8 h9; simp [h1, h2, h3, h4, h5, h6, h7, h8, h9]
def kks (l : List (Int × Int)) : List Int := l.map (·.2)
theorem kks_len (l : List (Int × Int)) : (kks l).length = l.length := by simp [kks]
theorem kks_kd (l : List (Int × Int)) (i : Nat) : kd (kks l) i = kdL l i := kd_map l i
section
variable {l : List (Int × Int)} {s : St} {lim : Nat}
theorem inv_small (hm : mayL l = true) (hi : Inv (kks l) lim s) : s.a ≤ l.length ∧ l.length ≤ 6 ∧ s.top ≤ l.length ∧ s.r ≤ s.top ∧ s.ph ≤ 4 ∧ (s.ph = 1 → s.a < l.length) ∧ (s.w = true → s.ph = 0 → s.a < l.length) ∧ (s.w = true → s.ph < 2) ∧ s.t ≤ lim := by
  have h6 := (may_len hm).2
  have hl := kks_len l
  obtain ⟨ht, hF | hB⟩ := hi
  · have h1 := hF.a
    have h2 := hF.top
    have h3 := hF.r
    have h4 := hF.ph
    exact ⟨by omega, h6, by omega, by omega, by omega, fun h => by omega, fun hw _ => by have := (hF.w hw).2.1; omega, fun hw => by have := (hF.w hw).1; omega, ht⟩
  · have h1 := hB.a
    have h2 := hB.top
    have h3 := hB.r
    have h4 := hB.ph
    have h5 : s.top ≤ s.a + 1 := by split at h2 <;> omega
    exact ⟨by omega, h6, by omega, by omega, by omega, fun _ => by omega, fun _ h => by omega, fun hw => by have := (hB.w hw).1; omega, ht⟩
theorem ok_st (hm : mayL l = true) (hi : Inv (kks l) lim s) (hl : lim ≤ 9) {q : Int} (hq : 0 ≤ q ∧ q ≤ 1000000) : OkG l (ofSt s q) := by
  obtain ⟨h1, h2, _, _, _, _, _, _, h9⟩ := inv_small hm hi
  refine ⟨may_len hm, ?_, ?_, hq⟩
  · show (0 : Int) ≤ (s.a : Int) ∧ (s.a : Int) ≤ 6; omega
  · show (0 : Int) ≤ (s.t : Int) ∧ (s.t : Int) ≤ 9; omega
theorem in_st {q : Int} (h1 : 1 ≤ lim) (h2 : lim ≤ 9) (h4 : s.ph ≤ 4) : inG (lim : Int) (ofSt s q) = (!s.w && decide (s.ph < 2)) := by
  unfold inG
  rw [(inR_iff (lim : Int) 1 9).2 (by omega)]
  show (!((!true || s.w) || overB (s.ph : Int))) = _
  have : overB (s.ph : Int) = decide (2 ≤ s.ph) := by
    unfold overB
    rw [Bool.eq_iff_iff]
    simp only [Bool.or_eq_true, beq_iff_eq, decide_eq_true_eq]
    omega
  rw [this]
  have e : decide (2 ≤ s.ph) = !decide (s.ph < 2) := by
    by_cases h : s.ph < 2
    · rw [decide_eq_true h, decide_eq_false (by omega)]; rfl
    · rw [decide_eq_false h, decide_eq_true (by omega)]; rfl
  rw [e]
  cases s.w <;> simp
/-- The last of the first r. -/
theorem lastT_lt_r {f : Nat → Bool} {r : Nat} : ∀ {n : Nat}, (∀ i, i < n → f i = decide (i < r)) → r ≤ n → lastT f n = if r = 0 then none else some (r - 1) := by
  intro n h hr
  by_cases h0 : r = 0
  · rw [if_pos h0]
    exact lastT_none fun j hj => by rw [h j hj]; exact decide_eq_false (by omega)
  · rw [if_neg h0]
    exact lastT_some (by rw [h _ (by omega)]; exact decide_eq_true (by omega)) (by omega) fun j h1 h2 => by rw [h j h2]; exact decide_eq_false (by omega)
theorem isTg_st (hm : mayL l = true) (hi : Inv (kks l) lim s) {q : Int} {i : Nat} (h : i < l.length) : isTg l (opnI (ofSt s q)) i = undoB (kks l) s i := by
  obtain ⟨h1, h2, h3, h4, _⟩ := inv_small hm hi
  have hb := bits_tg ⟨s.a, by omega⟩ s.p ⟨s.top, by omega⟩ ⟨s.r, by omega⟩ ⟨i, by omega⟩
  unfold isTg undoB
  rw [kks_kd]
  have e : opnI (ofSt s q) = notI (orI ((doneN s : Nat) : Int) ((someN s : Nat) : Int)) ((undN s : Nat) : Int) := rfl
  rw [e]
  unfold doneN someN undN
  rw [hb, Bool.and_assoc]
theorem tgt_st (hm : mayL l = true) (hi : Inv (kks l) lim s) (h1 : s.ph = 1) {q : Int} : tgtO l (ofSt s q) = if s.r = 0 then none else some (s.r - 1) := by
  have hs := inv_small hm hi
  have hk : MayK (kks l) := may_kinds hm
  unfold tgtO
  refine lastT_lt_r (fun i h => ?_) (by omega)
  rw [isTg_st hm hi h]
  obtain ⟨_, hF | hB⟩ := hi
  · have := hF.ph; omega
  · exact undo_bw hk hB (by rw [kks_len]; exact h)
theorem next_st (hm : mayL l = true) (hi : Inv (kks l) lim s) {q : Int} (hp : s.ph < 2) :
    nextB l (ofSt s q) = (if s.ph = 1 then decide (0 < s.r) else decide (s.a < l.length)) ∧ (nextB l (ofSt s q) = true → nextI l (ofSt s q) = tgA s) := by
  have hs := inv_small hm hi
  by_cases h1 : s.ph = 1
  · have e : (ofSt s q).ph = 1 := by show (s.ph : Int) = 1; omega
    unfold nextB nextI tgA
    rw [if_pos e, if_pos e, if_pos h1, if_pos h1, tgt_st hm hi h1]
    by_cases h0 : s.r = 0
    · rw [if_pos h0]; exact ⟨by rw [h0]; rfl, fun h => by cases h⟩
    · rw [if_neg h0]
      exact ⟨by rw [decide_eq_true (by omega)]; rfl, fun _ => by show ((s.r - 1 : Nat) : Int) = _; omega⟩
  · have e : ¬ (ofSt s q).ph = 1 := by show ¬ (s.ph : Int) = 1; omega
    unfold nextB nextI tgA
    rw [if_neg e, if_neg e, if_neg h1, if_neg h1]
    have e2 : inR (ofSt s q).at_ 0 ((l.length : Int) - 1) = decide (s.a < l.length) := by
      rw [Bool.eq_iff_iff, inR_iff, decide_eq_true_eq]
      show (0 : Int) ≤ (s.a : Int) ∧ (s.a : Int) ≤ _ ↔ _
      omega
    refine ⟨e2, fun h => ?_⟩
    rw [if_pos h]; rfl
/-- What is due goes. -/
theorem go_due (hm : mayL l = true) (hi : Inv (kks l) lim s) (h1 : 1 ≤ lim) (h9 : lim ≤ 9) {q : Int} (hw : s.w = false) (hp : s.ph < 2) {x : Rc} (hx : x = { dueX l (lim : Int) (ofSt s q) with seq := q }) :
    goesB l (lim : Int) (ofSt s q) x = true ∧ wentG l (lim : Int) (ofSt s q) x = ofSt (dueA (kks l).length lim s) (q + 1) := by
  have hs := inv_small hm hi
  have hin : inG (lim : Int) (ofSt s q) = true := by rw [in_st h1 h9 hs.2.2.2.2.1, hw]; simpa using hp
  obtain ⟨hb, hn⟩ := next_st hm hi (q := q) hp
  have hfit : fitsB l (lim : Int) (ofSt s q) x = true := by
    unfold fitsB
    have hk : x.kind = 2 ∨ x.kind = 5 := by
      rw [hx]
      show (dueX l (lim : Int) (ofSt s q)).kind = 2 ∨ (dueX l (lim : Int) (ofSt s q)).kind = 5
      unfold dueX
      rw [if_pos hin]
      split
      · split
        · exact .inl rfl
        · exact .inr rfl
      · split <;> exact .inr rfl
    rw [if_pos hk, hx]
    unfold isDueB
    rw [hin]
    simp
  have hg : goesB l (lim : Int) (ofSt s q) x = true := by
    unfold goesB
    rw [hfit, (inR_iff (lim : Int) 1 9).2 (by omega), hx]
    show (!((!true || (q != q)) || !true)) = true
    simp
  refine ⟨hg, ?_⟩
  unfold wentG
  rw [if_pos hg]
  have e1 : (((ofSt s q).ph : Int) = 1) ↔ s.ph = 1 := by show (s.ph : Int) = 1 ↔ _; omega
  have closed : ∀ e : Nat, dueX l (lim : Int) (ofSt s q) = clR (e : Int) → behG l (lim : Int) (ofSt s q) x = ofSt { s with ph := e } (q + 1) := fun e he => by
    rw [hx, he]
    unfold behG
    rw [if_neg (by show ¬ (5 : Int) = 2; omega), if_pos (by show (5 : Int) = 5; rfl)]
    refine Sg.eq_of rfl rfl rfl ?_ ?_ rfl rfl rfl rfl
    · show ((5 : Int) == 2) = s.w; rw [hw]; rfl
    · show (((5 : Int) == 2) && (clR (e : Int)).back) = (s.w && (e == 1)); rw [hw]; rfl
  have intent : dueX l (lim : Int) (ofSt s q) = { zR with kind := 2, step := nextI l (ofSt s q), tr := (ofSt s q).tr + 1, back := (ofSt s q).ph == 1 } → behG l (lim : Int) (ofSt s q) x = ofSt { s with t := s.t + 1, w := true } (q + 1) := fun he => by
    rw [hx, he]
    unfold behG
    rw [if_pos rfl]
    refine Sg.eq_of rfl rfl ?_ rfl ?_ rfl rfl rfl rfl
    · show (s.t : Int) + 1 = ((s.t + 1 : Nat) : Int); omega
    · show (((2 : Int) == 2) && ((s.ph : Int) == 1)) = (true && (s.ph == 1))
      rw [Bool.eq_iff_iff]; simp; omega
  have hd : dueX l (lim : Int) (ofSt s q) = (if nextB l (ofSt s q) = true then (if (ofSt s q).tr < (lim : Int) then { zR with kind := 2, step := nextI l (ofSt s q), tr := (ofSt s q).tr + 1, back := (ofSt s q).ph == 1 } else clR 4) else if (ofSt s q).ph = 1 then clR 3 else clR 2) := by unfold dueX; rw [if_pos hin]
  unfold dueA
  rw [kks_len]
  have htr : ((ofSt s q).tr < (lim : Int)) ↔ s.t < lim := by show (s.t : Int) < _ ↔ _; omega
  by_cases h0 : s.ph = 1
  · rw [if_neg (by omega), if_pos h0]
    rw [if_pos h0] at hb
    by_cases hr : s.r = 0
    · rw [if_pos hr]
      exact closed 3 (by rw [hd, hb, hr, if_neg (by simp), if_pos (e1.2 h0)]; rfl)
    · rw [if_neg hr]
      have hb' : nextB l (ofSt s q) = true := by rw [hb]; simpa using Nat.pos_of_ne_zero hr
      by_cases ht : s.t < lim
      · rw [if_pos ht]
        exact intent (by rw [hd, hb', if_pos rfl, if_pos (htr.2 ht)])
      · rw [if_neg ht]
        exact closed 4 (by rw [hd, hb', if_pos rfl, if_neg (fun h => ht (htr.1 h))]; rfl)
  · have h00 : s.ph = 0 := by omega
    rw [if_pos h00]
    rw [if_neg h0] at hb
    by_cases ha : s.a = l.length
    · rw [if_pos ha]
      exact closed 2 (by rw [hd, hb, ha, if_neg (by simp), if_neg (fun h => h0 (e1.1 h))]; rfl)
    · rw [if_neg ha]
      have hb' : nextB l (ofSt s q) = true := by rw [hb]; exact decide_eq_true (by omega)
      by_cases ht : s.t < lim
      · rw [if_pos ht]
        exact intent (by rw [hd, hb', if_pos rfl, if_pos (htr.2 ht)])
      · rw [if_neg ht]
        exact closed 4 (by rw [hd, hb', if_pos rfl, if_neg (fun h => ht (htr.1 h))]; rfl)
/-- An answer goes. -/
theorem go_ans (hm : mayL l = true) (hi : Inv (kks l) lim s) (h1 : 1 ≤ lim) (h9 : lim ≤ 9) {q : Int} (hw : s.w = true) {x : Rc} {a : Nat} (ha : a < 3) (hk : x.kind = if a = 2 then 4 else 3) (hgd : x.good = (a == 0)) (hst : x.step = tgA s) (htr : x.tr = s.t) (hbk : x.back = (s.ph == 1)) (hsq : x.seq = q) :
    goesB l (lim : Int) (ofSt s q) x = true ∧ wentG l (lim : Int) (ofSt s q) x = ofSt (ansA (kks l) lim a s) (q + 1) := by
  have hs := inv_small hm hi
  have hp : s.ph < 2 := hs.2.2.2.2.2.2.2.1 hw
  obtain ⟨hb, hn⟩ := next_st hm hi (q := q) hp
  have hb' : nextB l (ofSt s q) = true := by
    rw [hb]
    by_cases h0 : s.ph = 1
    · rw [if_pos h0]
      obtain ⟨_, hF | hB⟩ := hi
      · have := hF.ph; omega
      · exact decide_eq_true (hB.w hw).2.1
    · rw [if_neg h0]; exact decide_eq_true (hs.2.2.2.2.2.2.1 hw (by omega))
  have hk34 : x.kind = 3 ∨ x.kind = 4 := by rw [hk]; split <;> simp
  have hfit : fitsB l (lim : Int) (ofSt s q) x = true := by
    unfold fitsB
    rw [if_neg (by omega), if_pos hk34]
    unfold isOutB
    rw [hb', hn hb', hst, htr, hbk]
    show ((((s.w && true) && (tgA s == tgA s)) && ((s.t : Int) == (s.t : Int))) && ((s.ph == 1) == (s.w && s.ph == 1))) = true
    rw [hw]; simp
  have hg : goesB l (lim : Int) (ofSt s q) x = true := by
    unfold goesB
    rw [hfit, (inR_iff (lim : Int) 1 9).2 (by omega), hsq]
    show (!((!true || (q != q)) || !true)) = true
    simp
  refine ⟨hg, ?_⟩
  unfold wentG
  rw [if_pos hg]
  unfold behG ansA
  have nb : (x.kind == 2) = false := by simpa using (show ¬ x.kind = 2 by omega)
  have hbeg : begG (ofSt s q) x = ofSt { s with w := false } (q + 1) := Sg.eq_of rfl rfl rfl (by show (x.kind == 2) = false; exact nb) (by show ((x.kind == 2) && x.back) = (false && (s.ph == 1)); rw [nb]; rfl) rfl rfl rfl rfl
  rw [hbeg, if_neg (by omega), if_neg (by omega)]
  by_cases h0 : s.ph = 0
  · have hal := hs.2.2.2.2.2.2.1 hw h0
    have hb0 : x.back = false := by rw [hbk, h0]; rfl
    have hst0 : x.step = (s.a : Int) := by rw [hst]; unfold tgA; rw [if_neg (by omega)]
    have htn : x.step.toNat = s.a := by rw [hst0]; exact Int.toNat_natCast _
    have hun : undN s = 0 := by
      obtain ⟨_, hF | hB⟩ := hi
      · unfold undN; rw [hF.top, hF.r]
      · have := hB.ph; omega
    have hpz : ((s.ph : Int)) = 0 := by omega
    rw [if_pos h0]
    by_cases a0 : a = 0
    · rw [if_pos a0]
      rw [a0, if_neg (by omega)] at hk
      rw [if_pos hk, if_pos (by rw [hgd, a0]; rfl)]
      unfold wellG
      rw [hb0, if_neg (by simp), hst0]
      refine Sg.eq_of rfl ?_ rfl rfl rfl ?_ rfl ?_ rfl
      · show (s.a : Int) + 1 = ((s.a + 1 : Nat) : Int); omega
      · exact bits_done ⟨s.a, by omega⟩
      · exact bits_out ⟨s.a, by omega⟩ s.p
    rw [if_neg a0]
    have hg0 : ¬ x.good = true := by rw [hgd]; simpa using a0
    by_cases a1 : a = 1
    · rw [if_pos a1]
      rw [a1, if_neg (by omega)] at hk
      rw [if_pos hk, if_neg hg0, if_pos hb0]
      unfold refG
      rw [htn, ← kks_kd]
      have hkr := (may_step hm hal).2.1
      rw [← kks_kd] at hkr
      by_cases k3 : kd (kks l) s.a < 3
      · rw [if_pos k3, if_neg (by omega)]
        unfold turnG
        rw [hst0]
        refine Sg.eq_of rfl rfl rfl rfl rfl rfl ?_ ?_ rfl
        · show ((undN s : Nat) : Int) = ((2 ^ s.a - 2 ^ s.a : Nat) : Int); rw [hun, Nat.sub_self]
        · exact bits_out ⟨s.a, by omega⟩ s.p
      · rw [if_neg k3, if_pos (by omega)]
    rw [if_neg a1]
    have a2 : a = 2 := by omega
    rw [a2, if_pos rfl] at hk
    rw [if_neg (by omega), if_pos hk]
    unfold lapG
    rw [hb0, if_neg (by simp), htn, ← kks_kd, hst0]
    have hin := bits_in ⟨s.a, by omega⟩ s.p
    have htl : ((ofSt { s with w := false } (q + 1)).tr = (lim : Int)) ↔ s.t = lim := by show (s.t : Int) = _ ↔ _; omega
    by_cases k1 : kd (kks l) s.a = 1 ∧ s.t = lim
    · rw [if_pos k1, if_pos ⟨k1.1, htl.2 k1.2⟩]
      unfold turnG
      refine Sg.eq_of rfl rfl rfl rfl rfl rfl ?_ ?_ rfl
      · show ((undN s : Nat) : Int) = ((2 ^ (s.a + 1) - 2 ^ (s.a + 1) : Nat) : Int); rw [hun, Nat.sub_self]
      · exact hin
    · rw [if_neg k1, if_neg (fun h => k1 ⟨h.1, htl.1 h.2⟩)]
      exact Sg.eq_of rfl rfl rfl rfl rfl rfl rfl hin rfl
  · have h11 : s.ph = 1 := by omega
    have hb1 : x.back = true := by rw [hbk, h11]; rfl
    have hr0 : 0 < s.r := by
      obtain ⟨_, hF | hB⟩ := hi
      · have := hF.ph; omega
      · exact (hB.w hw).2.1
    have hst1 : x.step = ((s.r - 1 : Nat) : Int) := by rw [hst]; unfold tgA; rw [if_pos h11]; omega
    rw [if_neg h0]
    by_cases a0 : a = 0
    · rw [if_pos a0]
      rw [a0, if_neg (by omega)] at hk
      rw [if_pos hk, if_pos (by rw [hgd, a0]; rfl)]
      unfold wellG
      rw [hb1, if_pos rfl, hst1]
      refine Sg.eq_of rfl rfl rfl rfl rfl rfl ?_ rfl rfl
      have := bits_und ⟨s.top, by omega⟩ ⟨s.r - 1, by omega⟩ (by show s.r - 1 < s.top; omega)
      show orI ((2 ^ s.top - 2 ^ s.r : Nat) : Int) (bitI ((s.r - 1 : Nat) : Int)) = ((2 ^ s.top - 2 ^ (s.r - 1) : Nat) : Int)
      rw [← this]
      simp only [Nat.sub_add_cancel hr0]
    · rw [if_neg a0]
      have hg0 : ¬ x.good = true := by rw [hgd]; simpa using a0
      have hl : lapG l (lim : Int) (ofSt { s with w := false } (q + 1)) x.back x.step = ofSt { s with w := false } (q + 1) := by unfold lapG; rw [if_pos hb1]
      by_cases a2 : a = 2
      · rw [a2, if_pos rfl] at hk
        rw [if_neg (by omega), if_pos hk, hl]
      · rw [if_neg a2] at hk
        rw [if_pos hk, if_neg hg0, if_neg (by rw [hb1]; simp), hl]
/-- A saga that is over goes by no record. -/
theorem go_over (hm : mayL l = true) (hi : Inv (kks l) lim s) (h1 : 1 ≤ lim) (h9 : lim ≤ 9) {q : Int} (hp : 2 ≤ s.ph) (x : Rc) : goesB l (lim : Int) (ofSt s q) x = false := by
  have hs := inv_small hm hi
  have hw : s.w = false := by
    cases hw : s.w with
    | false => rfl
    | true => have := hs.2.2.2.2.2.2.2.1 hw; omega
  have hf : fitsB l (lim : Int) (ofSt s q) x = false := by
    unfold fitsB
    split
    · unfold isDueB
      rw [in_st h1 h9 hs.2.2.2.2.1, hw, decide_eq_false (by omega)]; rfl
    · split
      · unfold isOutB
        rw [show (ofSt s q).wt = false from hw]; simp
      · rfl
  unfold goesB
  rw [hf, Bool.not_false, Bool.or_true]; rfl
end
end Go.Proofs.Ytilmeffmdgcblaa
