/- What the guards of a region make conditional, and single operations, a lemma each: fields, loads, numbers compared. -/
import Derived.Test.YtilmeffmdgcblaaMa
import Derived.Deep.Cut
import Derived.Lib.SliceRun
set_option linter.all false
namespace Go.Proofs.Ytilmeffmdgcblaa
open Go Go.RowKit
set_option maxRecDepth 8000
set_option linter.all false

theorem evs0 {a : Act} : (#[] : Array Operand).map a.eval = #[] := by simp
theorem evs1 {a : Act} {x : Operand} {v : Value} (h : a.eval x = v) : #[x].map a.eval = #[v] := by simp only [List.map_toArray, List.map_cons, List.map_nil, h]
theorem evs2 {a : Act} {x y : Operand} {v u : Value} (h : a.eval x = v) (k : a.eval y = u) : #[x, y].map a.eval = #[v, u] := by simp only [List.map_toArray, List.map_cons, List.map_nil, h, k]
theorem evs3 {a : Act} {x y z : Operand} {v u t : Value} (h : a.eval x = v) (k : a.eval y = u) (l : a.eval z = t) : #[x, y, z].map a.eval = #[v, u, t] := by simp only [List.map_toArray, List.map_cons, List.map_nil, h, k, l]
theorem evs4 {a : Act} {x y z p : Operand} {v u t s : Value} (h : a.eval x = v) (k : a.eval y = u) (l : a.eval z = t) (m : a.eval p = s) : #[x, y, z, p].map a.eval = #[v, u, t, s] := by simp only [List.map_toArray, List.map_cons, List.map_nil, h, k, l, m]
theorem evs5 {a : Act} {x y z p q : Operand} {v u t s r : Value} (h : a.eval x = v) (k : a.eval y = u) (l : a.eval z = t) (m : a.eval p = s) (n : a.eval q = r) : #[x, y, z, p, q].map a.eval = #[v, u, t, s, r] := by simp only [List.map_toArray, List.map_cons, List.map_nil, h, k, l, m, n]
section
variable {P : Program} {a : Act} {w : World} {o : Oper} {K : Act → World → Prop} {Q : Exit → Act → World → Prop}
/-- A condition that stands where b is so. -/
def svIf {T : World → World → Prop} (b : Bool) (c : SV T) : SV T := ⟨fun v w => b = true → c.pred v w, fun v w w' h hT hb => c.stable v w w' (h hb) hT⟩
/-- A guard's own value, where it may be left out. -/
def gV (b c : Bool) : Value := bif b then .bool c else undef
theorem rely_on {g : Option (Tmp × Bool)} {E : Bool} (hg : relyGuard g a = E) (h1 : E = true → o.wp P a w K Q) (h0 : E = false → K (a.put o.dst undef) w) : if relyGuard g a then o.wp P a w K Q else K (a.put o.dst undef) w := by
  rw [hg]; cases E
  · exact h0 rfl
  · exact h1 rfl
/-- What is done under a guard that isn't known. -/
theorem rely_if {T : World → World → Prop} {g : Option (Tmp × Bool)} {E : Bool} {c : SV T} (hg : relyGuard g a = E) (hr : T w w) (hK : ∀ v w', T w w' → (svIf E c).pred v w' → K (a.put o.dst v) w') (h : E = true → (∀ v w', T w w' → c.pred v w' → K (a.put o.dst v) w') → o.wp P a w K Q) : if relyGuard g a then o.wp P a w K Q else K (a.put o.dst undef) w :=
  rely_on hg (fun hE => h hE fun v w' h1 h2 => hK v w' h1 fun _ => h2) fun hE => hK _ _ hr fun h1 => by rw [hE] at h1; cases h1
theorem rely_ifg {T : World → World → Prop} {g : Option (Tmp × Bool)} {E b : Bool} (hg : relyGuard g a = E) (hr : T w w) (hK : ∀ v w', T w w' → (SV.eq (T := T) (gV E b)).pred v w' → K (a.put o.dst v) w') (h : E = true → (∀ v w', T w w' → v = .bool b → K (a.put o.dst v) w') → o.wp P a w K Q) : if relyGuard g a then o.wp P a w K Q else K (a.put o.dst undef) w :=
  rely_on hg (fun hE => h hE fun v w' h1 h2 => hK v w' h1 (by rw [h2, hE]; rfl)) fun hE => hK _ _ hr (by rw [hE]; rfl)
theorem pn_and1 {b e q : Bool} {v : Value} (hq : (b && e) = q) (h : v = .bool e) (hb : b = true) : v = .bool q := by rw [h, ← hq, hb]; rfl
theorem pn_and0 {b e q : Bool} (hq : (b && e) = q) (hb : b = false) : Value.bool false = .bool q := by rw [← hq, hb]; rfl
theorem pn_or1 {b e q : Bool} (hq : (b || e) = q) (hb : b = true) : Value.bool true = .bool q := by rw [← hq, hb]; rfl
theorem pn_or0 {b e q : Bool} {v : Value} (hq : (b || e) = q) (h : v = .bool e) (hb : b = false) : v = .bool q := by rw [h, ← hq, hb]; rfl
theorem rely_gt {d : Tmp} {b : Bool} (h : a.tmps.getD d undef = .bool b) : relyGuard (some (d, true)) a = b := by simp only [relyGuard, h]; cases b <;> rfl
theorem rely_gf {d : Tmp} {b : Bool} (h : a.tmps.getD d undef = .bool b) : relyGuard (some (d, false)) a = !b := by simp only [relyGuard, h]; cases b <;> rfl
theorem rely_ggt {d : Tmp} {p b : Bool} (h : a.tmps.getD d undef = gV p b) : relyGuard (some (d, true)) a = (p && b) := by simp only [relyGuard, h, gV]; cases p <;> cases b <;> rfl
theorem rely_ggf {d : Tmp} {p b : Bool} (h : a.tmps.getD d undef = gV p b) : relyGuard (some (d, false)) a = (p && !b) := by simp only [relyGuard, h, gV]; cases p <;> cases b <;> rfl
theorem gV_on {p b : Bool} (h : p = true) : gV p b = .bool b := by rw [h]; rfl
theorem gV_off {p b : Bool} (h : p = false) : undef = gV p b := by rw [h]; rfl
theorem svIf_off {T : World → World → Prop} {b : Bool} {c : SV T} {v : Value} {w : World} (h : b = false) : (svIf b c).pred v w := fun h1 => by rw [h] at h1; cases h1
theorem bleft {a b : Bool} (h : (a && b) = true) : a = true := by cases a <;> simp_all
theorem opr_pick_b {c x y : Operand} {b : Bool} (ho : o.op = .pick c x y) (hc : a.eval c = .bool b) (h1 : b = true → K (a.put o.dst (a.eval x)) w) (h0 : b = false → K (a.put o.dst (a.eval y)) w) : o.wp P a w K Q := by
  cases b
  · exact opr_pick_false ho hc (h0 rfl)
  · exact opr_pick_true ho hc (h1 rfl)
theorem opr_pick_or {c y : Operand} {b e : Bool} (ho : o.op = .pick c (.const (.bool true)) y) (hc : a.eval c = .bool b) (hy : b = false → a.eval y = .bool e) (h : K (a.put o.dst (.bool (b || e))) w) : o.wp P a w K Q :=
  opr_pick_b ho hc (fun hb => by subst hb; exact h) (fun hb => by subst hb; rw [hy rfl]; exact h)
theorem opr_pick_and {c x : Operand} {b e : Bool} (ho : o.op = .pick c x (.const (.bool false))) (hc : a.eval c = .bool b) (hx : b = true → a.eval x = .bool e) (h : K (a.put o.dst (.bool (b && e))) w) : o.wp P a w K Q :=
  opr_pick_b ho hc (fun hb => by subst hb; rw [hx rfl]; exact h) (fun hb => by subst hb; exact h)
theorem pk_and1 {b e : Bool} {v : Value} (h : v = .bool e) (hb : b = true) : v = .bool (b && e) := by rw [h, hb]; rfl
theorem pk_and0 {b e : Bool} (hb : b = false) : Value.bool false = .bool (b && e) := by rw [hb]; rfl
theorem pk_or1 {b e : Bool} (hb : b = true) : Value.bool true = .bool (b || e) := by rw [hb]; rfl
theorem pk_or0 {b e : Bool} {v : Value} (h : v = .bool e) (hb : b = false) : v = .bool (b || e) := by rw [h, hb]; rfl
theorem bnot {b : Bool} (h : b = false) : (!b) = true := by rw [h]; rfl
theorem band {a b : Bool} (h : a = true) (k : b = true) : (a && b) = true := by rw [h, k]; rfl
theorem opr_not {t : TypeId} {x : Operand} {b : Bool} (ho : o.op = .unOp .not t x) (hx : a.eval x = .bool b) (h : K (a.put o.dst (.bool !b)) w) : o.wp P a w K Q := by
  obtain ⟨dst, op, type, pos, after, guard⟩ := o
  simp only at ho
  subst ho
  refine opr_val (s := Op.unary .not (a.eval x)) rfl ?_ h
  rw [hx]; simp [go_sem]
/-- A field's place. -/
theorem opr_fld {t : TypeId} {x : Operand} {k g o0 off m : Nat} {fs : Array Field} {f : Field} (hu : P.underlying t = some (.struct fs)) (hk : fs[k]? = some f) (hs : (P.info? f.type).map (·.size) = some (m + 1)) (ho : o.op = .fieldAddr t x k) (hx : a.eval x = .pointer (some ⟨g, o0, none⟩)) (hoff : o0 + f.offset = off) (h : K (a.put o.dst (.pointer (some ⟨g, off, none⟩))) w) : o.wp P a w K Q := by
  subst hoff
  obtain ⟨dst, op, type, pos, after, guard⟩ := o
  simp only at ho
  subst ho
  refine opr_val (s := Instr.fieldAt t (a.eval x) k) rfl ?_ h
  have hsz : (sizeOf f.type).run P w = .ok (m + 1) w := by
    cases hq : P.info? f.type with
    | none => simp [hq] at hs
    | some i => simp [hq] at hs; simp [sizeOf, typeInfo, hq, hs]
  rw [hx]
  simp [Instr.fieldAt, run_underlying hu, hk, Instr.sureAddr, fieldPlace, hsz, Addr.add_mid]
/-- A cell is loaded. -/
theorem opr_ld1 {t : TypeId} {x : Operand} {g o0 : Nat} {d : TypeDesc} {v : Value} (hu : P.underlying t = some d) (hd : d.isRow = false) (ho : o.op = .load t x) (hx : a.eval x = .pointer (some ⟨g, o0, none⟩)) (hc : w.cell? ⟨g, o0, none⟩ = some v) (h : K (a.put o.dst v) w) : o.wp P a w K Q := by
  obtain ⟨dst, op, type, pos, after, guard⟩ := o
  simp only at ho
  subst ho
  refine opr_val (s := Instr.loadAt t (a.eval x)) rfl ?_ h
  have hagg : (isAgg t).run P w = .ok false w := by
    unfold isAgg
    rw [Sem.run_bind, run_underlying hu w]
    cases d <;> simp_all
  rw [hx]
  simp [Instr.loadAt, Instr.sureAddr, loadVar, hagg, hc]
/-- A part of a row is loaded. -/
theorem opr_ldm {t t' : TypeId} {x : Operand} {g o0 n m : Nat} {d : TypeDesc} {f : Nat → Value} (hu : P.underlying t = some d) (hd : d.isRow = true) (hi : (P.info? t).map (·.size) = some m) (ho : o.op = .load t x) (hx : a.eval x = .pointer (some ⟨g, o0, none⟩)) (hr : w.rowIs g t' n f) (hm : o0 + m ≤ n) (h : K (a.put o.dst (.agg (rowA m fun j => f (o0 + j)))) w) : o.wp P a w K Q := by
  obtain ⟨dst, op, type, pos, after, guard⟩ := o
  simp only at ho
  subst ho
  refine opr_val (s := Instr.loadAt t (a.eval x)) rfl ?_ h
  rw [hx]
  have := run_loadAt_mid (P := P) w g o0 t _ d (rangeAt_part hr o0 m hm) hu hd (by rw [rowA_toList]; simpa using hi)
  simpa using this
end
section
variable {a : Act} {w : World} {o : Oper} {K : Act → World → Prop} {Q : Exit → Act → World → Prop} {x : Operand} {g : Nat}
theorem info_int : (Try.prog.info? 3).map (·.size) = some (0 + 1) := by kernel_rfl
theorem info_bool : (Try.prog.info? 4).map (·.size) = some (0 + 1) := by kernel_rfl
theorem info_hash1 : (Try.prog.info? 42).map (·.size) = some (31 + 1) := by kernel_rfl
theorem info_sb1 : (Try.prog.info? 44).map (·.size) = some (0 + 1) := by kernel_rfl
variable {F : Nat → Value} {t' : TypeId} {n : Nat} {o0 : Nat} {v : Value}
theorem opr_ldI (hr : w.rowIs g t' n F) (hn : o0 < n) (hv : F o0 = v) (ho : o.op = .load 3 x) (hx : a.eval x = .pointer (some ⟨g, o0, none⟩)) (h : K (a.put o.dst v) w) : o.wp Try.prog a w K Q :=
  opr_ld1 Try.underlying3 rfl ho hx (by rw [hr.cell hn, hv]) h
theorem opr_ldQ (hr : w.rowIs g t' n F) (hn : o0 < n) (hv : F o0 = v) (ho : o.op = .load 4 x) (hx : a.eval x = .pointer (some ⟨g, o0, none⟩)) (h : K (a.put o.dst v) w) : o.wp Try.prog a w K Q :=
  opr_ld1 Try.underlying4 rfl ho hx (by rw [hr.cell hn, hv]) h
theorem opr_ldB (hr : w.rowIs g t' n F) (hn : o0 < n) (hv : F o0 = v) (ho : o.op = .load 44 x) (hx : a.eval x = .pointer (some ⟨g, o0, none⟩)) (h : K (a.put o.dst v) w) : o.wp Try.prog a w K Q :=
  opr_ld1 Try.underlying44 rfl ho hx (by rw [hr.cell hn, hv]) h
theorem opr_ldH {d : Nat → UInt8} (hr : w.rowIs g t' n F) (hn : o0 + 32 ≤ n) (hv : ∀ j, j < 32 → F (o0 + j) = bF d j) (ho : o.op = .load 42 x) (hx : a.eval x = .pointer (some ⟨g, o0, none⟩)) (h : K (a.put o.dst (.agg (rowA 32 (bF d)))) w) : o.wp Try.prog a w K Q :=
  opr_ldm Try.underlying42 rfl info31 ho hx hr hn (by rw [rowA_congr hv]; exact h)
/-- Numbers are compared. -/
theorem opr_cmp {op : BinOp} {t t2 : TypeId} {x y : Operand} {m n : Int} {b : Bool} (hop : op = .eql ∧ (m == n) = b ∨ op = .neq ∧ (m != n) = b ∨ op = .leq ∧ decide (m ≤ n) = b ∨ op = .lss ∧ decide (m < n) = b ∨ op = .gtr ∧ decide (n < m) = b ∨ op = .geq ∧ decide (n ≤ m) = b) (_ht : Try.prog.underlying t = some (.int .i64)) (ho : o.op = .binOp op t x y t2) (hx : a.eval x = .int .i64 m) (hy : a.eval y = .int .i64 n) (h : K (a.put o.dst (.bool b)) w) : o.wp Try.prog a w K Q := by
  obtain ⟨dst, op', type, pos, after, guard⟩ := o
  simp only at ho
  subst ho
  refine opr_val (s := do eqGuard op t x y (a.eval x) (a.eval y); binOp op t (a.eval x) (a.eval y)) rfl ?_ h
  rw [hx, hy]
  rcases hop with ⟨rfl, rfl⟩ | ⟨rfl, rfl⟩ | ⟨rfl, rfl⟩ | ⟨rfl, rfl⟩ | ⟨rfl, rfl⟩ | ⟨rfl, rfl⟩ <;> simp [go_sem]
end
section
variable {a : Act} {w : World} {o : Oper} {K : Act → World → Prop} {Q : Exit → Act → World → Prop} {x y : Operand} {g : Nat}
theorem opr_eqlQ {p q b : Bool} {t2 : TypeId} (hb : (p == q) = b) (ho : o.op = .binOp .eql 4 x y t2) (hx : a.eval x = .bool p) (hy : a.eval y = .bool q) (h : K (a.put o.dst (.bool b)) w) : o.wp Try.prog a w K Q := by
  obtain ⟨dst, op', type, pos, after, guard⟩ := o
  simp only at ho
  subst ho hb
  refine opr_val (s := do eqGuard .eql 4 x y (a.eval x) (a.eval y); binOp .eql 4 (a.eval x) (a.eval y)) rfl ?_ h
  rw [hx, hy]
  simp [go_sem]
/-- 'h[:]' of a hash that lies in a row. -/
theorem opr_sliceH {o0 : Nat} (ho : o.op = .slice 42 x none none none) (hx : a.eval x = .pointer (some ⟨g, o0, none⟩)) (h : K (a.put o.dst (.slice (some ⟨g, o0, none⟩) 32 32)) w) : o.wp Try.prog a w K Q := by
  obtain ⟨dst, op, type, pos, after, guard⟩ := o
  simp only at ho
  subst ho
  refine opr_val (s := Instr.sliceAt 42 (a.eval x) none none none) rfl ?_ h
  rw [hx]
  have hsz : (sizeOf 5).run Try.prog w = .ok 1 w := by
    have hs := info5s
    cases hq : Try.prog.info? 5 with
    | none => simp [hq] at hs
    | some i => simp [hq] at hs; simp [sizeOf, typeInfo, hq, hs]
  simp [Instr.sliceAt, run_underlying Try.underlying42, Instr.sureAddr, Instr.sliceBounds, hsz, Addr.add_zero']
theorem rd_rowH {t' n o0 : Nat} {F : Nat → Value} {d : Nat → UInt8} (hr : w.rowIs g t' n F) (hn : o0 + 32 ≤ n) (hv : ∀ j, j < 32 → F (o0 + j) = bF d j) : RdV w [] (.slice (some ⟨g, o0, none⟩) 32 32) (digL d) := by
  refine ⟨some ⟨g, o0, none⟩, 32, by rw [digL_length], by rw [digL_length]; exact Nat.le_refl _, by unfold maxLen; omega, fun _ => ⟨g, o0, rfl, by simp, fun i hi => ?_⟩⟩
  rw [digL_length] at hi
  rw [hr.cell (by omega), hv i hi, bF_at]
  simp [bAt, digL, hi]
end
end Go.Proofs.Ytilmeffmdgcblaa
/- Package rec's base: a record that lies in memory, its fields, and what the guards of a region make conditional. -/
namespace Go.Proofs.Ytilmeffmdgcblaa
open Go Go.RowKit
set_option maxRecDepth 8000
set_option linter.all false

/-- A record in memory: block g holds x. -/
def recOff (k : Nat) : Nat := if k < 12 then (if k = 11 then 42 else k) else if k = 12 then 43 else if k = 13 then 44 else if k = 14 then 76 else 77
theorem info_rec : (Try.prog.info? 46).map (·.size) = some 109 := by kernel_rfl
theorem recTy : RecTy Try.prog 46 := by
  refine ⟨_, Try.underlying46, by kernel_rfl, ?_, ?_, ?_, ?_, ?_⟩
  · intro i hi
    simp only [List.mem_cons, List.not_mem_nil, or_false] at hi
    rcases hi with rfl | rfl | rfl | rfl | rfl | rfl | rfl | rfl <;> exact ⟨_, rfl, rfl, Try.underlying3, by kernel_rfl⟩
  · intro i hi
    simp only [List.mem_cons, List.not_mem_nil, or_false] at hi
    rcases hi with rfl | rfl | rfl <;> exact ⟨_, rfl, rfl, Try.underlying4, by kernel_rfl⟩
  · intro i hi
    simp only [List.mem_cons, List.not_mem_nil, or_false] at hi
    rcases hi with rfl | rfl | rfl <;> exact ⟨_, _, rfl, rfl, Try.underlying42, Try.underlying5, by kernel_rfl, by kernel_rfl⟩
  · exact ⟨_, _, _, _, rfl, rfl, Try.underlying43, Try.underlying58, by kernel_rfl, rfl, rfl, by kernel_rfl, by kernel_rfl, Try.underlying3, Try.underlying3, by kernel_rfl⟩
  · exact ⟨_, _, rfl, rfl, Try.underlying44, Try.underlying5, by kernel_rfl, by kernel_rfl⟩
section
variable {a : Act} {w : World} {o : Oper} {K : Act → World → Prop} {Q : Exit → Act → World → Prop} {x : Operand} {g : Nat}
theorem info_steps1 : (Try.prog.info? 43).map (·.size) = some (0 + 1) := by kernel_rfl
/-- The place of a record's field. -/
theorem opr_fldR {k : Nat} (hk : k < 16) (ho : o.op = .fieldAddr 46 x k) (hx : a.eval x = .pointer (some ⟨g, 0, none⟩)) (h : K (a.put o.dst (.pointer (some ⟨g, recOff k, none⟩))) w) : o.wp Try.prog a w K Q := by
  have hk' : k = 0 ∨ k = 1 ∨ k = 2 ∨ k = 3 ∨ k = 4 ∨ k = 5 ∨ k = 6 ∨ k = 7 ∨ k = 8 ∨ k = 9 ∨ k = 10 ∨ k = 11 ∨ k = 12 ∨ k = 13 ∨ k = 14 ∨ k = 15 := by omega
  rcases hk' with rfl | rfl | rfl | rfl | rfl | rfl | rfl | rfl | rfl | rfl | rfl | rfl | rfl | rfl | rfl | rfl
  all_goals
    first
      | exact opr_fld Try.underlying46 rfl info_int ho hx (by rfl) h
      | exact opr_fld Try.underlying46 rfl info_bool ho hx (by rfl) h
      | exact opr_fld Try.underlying46 rfl info_hash1 ho hx (by rfl) h
      | exact opr_fld Try.underlying46 rfl info_steps1 ho hx (by rfl) h
      | exact opr_fld Try.underlying46 rfl info_sb1 ho hx (by rfl) h
theorem opr_fldS {k o0 : Nat} (hk : k < 2) (ho : o.op = .fieldAddr 58 x k) (hx : a.eval x = .pointer (some ⟨g, o0, none⟩)) (h : K (a.put o.dst (.pointer (some ⟨g, o0 + k, none⟩))) w) : o.wp Try.prog a w K Q := by
  have hk' : k = 0 ∨ k = 1 := by omega
  rcases hk' with rfl | rfl
  all_goals exact opr_fld Try.underlying58 rfl info_int ho hx (by rfl) h
variable {F : Nat → Value} {t' : TypeId} {n : Nat} {o0 : Nat} {v : Value}
theorem opr_ldS (hr : w.rowIs g t' n F) (hn : o0 < n) (hv : F o0 = v) (ho : o.op = .load 43 x) (hx : a.eval x = .pointer (some ⟨g, o0, none⟩)) (h : K (a.put o.dst v) w) : o.wp Try.prog a w K Q :=
  opr_ld1 Try.underlying43 rfl ho hx (by rw [hr.cell hn, hv]) h
theorem opr_ldR (hr : w.rowIs g t' 109 F) (ho : o.op = .load 46 x) (hx : a.eval x = .pointer (some ⟨g, 0, none⟩)) (h : K (a.put o.dst (.agg (rowA 109 F))) w) : o.wp Try.prog a w K Q :=
  opr_ldm Try.underlying46 rfl info_rec ho hx hr (by omega) (by rw [rowA_congr (g := F) fun i _ => by rw [Nat.zero_add]]; exact h)
end
section
variable {a : Act} {w : World} {o : Oper} {K : Act → World → Prop} {Q : Exit → Act → World → Prop} {x y : Operand} {g : Nat}
theorem opr_len_pairs {l : List (Int × Int)} (ho : o.op = .call { callee := .builtin .len, args := #[x], argTypes := #[43] }) (hx : RdP w (a.eval x) l) (h : K (a.put o.dst (.int .i64 (l.length : Int))) w) : o.wp Try.prog a w K Q := by
  obtain ⟨A, c, hv, _⟩ := hx
  exact opr_len ho Try.underlying43 hv h
end
end Go.Proofs.Ytilmeffmdgcblaa
/- slices.Clone of bytes; no bytes; bytes in a row that is new. -/
namespace Go.Proofs.Ytilmeffmdgcblaa
open Go Go.RowKit
set_option maxRecDepth 8000
set_option linter.all false
theorem rdV_nil (W : World) (L : List Nat) : RdV W L (.slice none 0 0) [] := ⟨none, 0, rfl, Nat.le_refl _, by unfold maxLen; omega, fun h => absurd h (by simp)⟩
theorem rdN_own {W w : World} {v : Value} {n : Nat} {l : List UInt8} (h : w.ownsRow W.heap.size 5 1 v n (l.map fun b => .int .u8 (bN b))) (hl : l.length = n) : (svRdN W l).pred v w :=
  fun _ hL => rdV_own h hl hL
theorem svRdN_rd {W w : World} {v : Value} {l : List UInt8} (h : (svRdN W l).pred v w) (L : List Nat) (hL : ∀ k ∈ L, k < W.heap.size) : RdV w L v l := h L hL
end Go.Proofs.Ytilmeffmdgcblaa
/- A number's bytes are put: wire.Num. -/
namespace Go.Proofs.Ytilmeffmdgcblaa
open Go Go.RowKit
set_option maxRecDepth 8000
set_option linter.all false

theorem or128 (x : Int) : bits .or .u8 (IntKind.u8.wrap x) 128 = bN (uB ((x % 128).toNat + 128)) := by
  have h : ∀ k : Fin 256, bits .or .u8 (k.val : Int) 128 = ((k.val % 128 + 128 : Nat) : Int) := by decide +kernel
  rw [wrap_u8, bN, toNat_uB]
  have := h ⟨(x % 256).toNat, by omega⟩
  simp only at this
  rw [show (((x % 256).toNat : Nat) : Int) = x % 256 by omega] at this
  rw [this]; omega
theorem and127 (y : Nat) : bits .and .u8 (bN (uB (y % 128 + 128))) 127 = bN (uB (y % 128)) := by
  have h : ∀ k : Fin 256, bits .and .u8 (k.val : Int) 127 = ((k.val % 128 : Nat) : Int) := by decide +kernel
  rw [bN, bN, toNat_uB, toNat_uB]
  have := h ⟨(y % 128 + 128) % 256, by omega⟩
  simp only at this
  rw [this]; omega
/-- The place i, ahead of the last one's mask. -/
def numC (n s i : Nat) : UInt8 := uB (n / 2 ^ (7 * (s - 1 - i)) % 128 + 128)
theorem numC_eq (n s i : Nat) : bits .or .u8 ((n : Int) / 2 ^ (7 * (s - 1 - i)) % 256) 128 = bN (numC n s i) := by
  rw [← wrap_u8, or128, numC]
  have h2 : ((2 : Int) ^ (7 * (s - 1 - i))) = ((2 ^ (7 * (s - 1 - i)) : Nat) : Int) := by simp
  rw [h2, ← Int.natCast_ediv]
  congr 2
theorem sz_test (n k : Nat) (hn : n ≤ 2147483647) (hk : 1 ≤ k) (hk2 : k ≤ sz n) : (0 < (n : Int) / 2 ^ (7 * k)) ↔ k < sz n := by
  have h5 := sz_le n
  have hh : k = 1 ∨ k = 2 ∨ k = 3 ∨ k = 4 ∨ k = 5 := by omega
  unfold sz at *
  rcases hh with rfl | rfl | rfl | rfl | rfl
  all_goals
    simp only [Nat.reduceMul, Int.reducePow]
    split <;> (try split) <;> (try split) <;> (try split) <;> omega
end Go.Proofs.Ytilmeffmdgcblaa
/- A reader: a block of two cells, what is left and the error; what its small calls answer. -/
namespace Go.Proofs.Ytilmeffmdgcblaa
open Go Go.RowKit
set_option maxRecDepth 8000
set_option linter.all false

/-- It reads as l, in a block ahead of R. -/
def Rest (w : World) (R : Nat) (v : Value) (l : List UInt8) : Prop := ∀ L, (∀ k ∈ L, R ≤ k) → RdV w L v l
theorem Rest.rd {w : World} {R : Nat} {v : Value} {l : List UInt8} (h : Rest w R v l) : RdV w [R] v l := h [R] (by simp)
theorem Rest.new {w w' : World} {R : Nat} {v : Value} {l : List UInt8} (h : Rest w R v l) (hN : NewT w w') : Rest w' R v l := fun L hL => hN.rd (h L hL)
theorem Rest.keep {w w' : World} {R : Nat} {v : Value} {l : List UInt8} (h : Rest w R v l) {G : List Nat} (hG : ∀ k ∈ G, R ≤ k) (hK : KeepBut G w w') : Rest w' R v l := fun L hL => by
  have h1 := h (G ++ L) (fun k hk => by rcases List.mem_append.1 hk with hk | hk; exact hG k hk; exact hL k hk)
  obtain ⟨A, cap, hv, h1, h2, h3⟩ := h1.keep (hK.more fun k hk => List.mem_append.2 (.inl hk))
  refine ⟨A, cap, hv, h1, h2, fun h0 => ?_⟩
  obtain ⟨b, o, hA, hb, hc⟩ := h3 h0
  exact ⟨b, o, hA, fun hm => hb (List.mem_append.2 (.inr hm)), hc⟩
theorem NewT.of_eq {w w' : World} (h : w = w') : NewT w w' := h ▸ NewT.refl w
end Go.Proofs.Ytilmeffmdgcblaa
/- What puts: Flag, All, Bytes, Hash; Clone; a new reader. -/
namespace Go.Proofs.Ytilmeffmdgcblaa
open Go Go.RowKit
set_option maxRecDepth 8000
set_option linter.all false

theorem flat_take_succ (ps : List (Value × List UInt8)) (k : Nat) (x : Value × List UInt8) (h : ps[k]? = some x) : flat (ps.take (k + 1)) = flat (ps.take k) ++ x.2 := by
  rw [List.take_add_one, h]; exact flat_snoc _ _
theorem flat_take_le (ps : List (Value × List UInt8)) (k : Nat) : (flat (ps.take k)).length ≤ (flat ps).length := by
  have e : flat ps = flat (ps.take k) ++ flat (ps.drop k) := by
    unfold flat; rw [← List.flatten_append, ← List.map_append, List.take_append_drop]
  rw [e]; simp
end Go.Proofs.Ytilmeffmdgcblaa
/- Clone; Bytes, Hash; a new reader. -/
namespace Go.Proofs.Ytilmeffmdgcblaa
open Go Go.RowKit
set_option maxRecDepth 8000
set_option linter.all false

end Go.Proofs.Ytilmeffmdgcblaa
/- Bytes are read as a number: wire.number. -/
namespace Go.Proofs.Ytilmeffmdgcblaa
open Go Go.RowKit
set_option maxRecDepth 8000
set_option linter.all false

theorem and127b (c : UInt8) : bits .and .u8 (bN c) 127 = ((c.toNat % 128 : Nat) : Int) := by
  have h : ∀ k : Fin 256, bits .and .u8 (k.val : Int) 127 = ((k.val % 128 : Nat) : Int) := by decide +kernel
  have := h ⟨c.toNat, c.toNat_lt⟩
  exact this
theorem and128b (c : UInt8) : bits .and .u8 (bN c) 128 = if 128 ≤ c.toNat then 128 else 0 := by
  have h : ∀ k : Fin 256, bits .and .u8 (k.val : Int) 128 = if 128 ≤ k.val then 128 else 0 := by decide +kernel
  have := h ⟨c.toNat, c.toNat_lt⟩
  exact this
theorem or7 (v m : Nat) (hm : m < 128) (hv : v < 1125899906842624) : bits .or .u64 ((v : Int) * 128) (m : Int) = ((v * 128 + m : Nat) : Int) := by
  show IntKind.u64.wrap (((BitVec.ofInt 64 ((v : Int) * 128) ||| BitVec.ofInt 64 (m : Int)).toNat : Nat) : Int) = _
  have e1 : BitVec.ofInt 64 ((v : Int) * 128) = BitVec.ofNat 64 (v * 128) := by
    rw [show (v : Int) * 128 = ((v * 128 : Nat) : Int) by omega, BitVec.ofInt_natCast]
  rw [e1, BitVec.ofInt_natCast, BitVec.toNat_or, BitVec.toNat_ofNat, BitVec.toNat_ofNat, Nat.mod_eq_of_lt (by omega), Nat.mod_eq_of_lt (by omega)]
  have := Nat.shiftLeft_add_eq_or_of_lt (b := m) (i := 7) (by omega) v
  rw [Nat.shiftLeft_eq] at this
  rw [show v * 128 = v * 2 ^ 7 by omega, ← this]
  simp [IntKind.wrap, IntKind.bits, IntKind.signed]
  omega
theorem drop_bAt (l : List UInt8) (k : Nat) (h : k < l.length) : l.drop k = bAt l k :: l.drop (k + 1) := by
  rw [List.drop_eq_getElem_cons h]; simp [bAt, h]
/-- What is read, as values. -/
def numV (r : Nat × Nat × Nat) : Value := .tuple #[.int .i64 (r.1 : Int), .int .i64 (r.2.1 : Int), .int .i64 (r.2.2 : Int)]
end Go.Proofs.Ytilmeffmdgcblaa
/- A reader reads a number: take[int], Num. -/
namespace Go.Proofs.Ytilmeffmdgcblaa
open Go Go.RowKit
set_option maxRecDepth 8000
set_option linter.all false

/-- What stands behind the first k bytes. -/
theorem rd_from {w : World} {L : List Nat} {b o n cap k : Nat} {l : List UInt8} (h : RdV w L (.slice (some ⟨b, o, none⟩) n cap) l) (hk : k ≤ n) :
    RdV w L (.slice (some (if cap = k then ⟨b, o, none⟩ else (⟨b, o, none⟩ : Addr).add k)) (n - k) (cap - k)) (l.drop k) := by
  obtain ⟨A, c, hv, h1, h2, h3⟩ := h
  cases hv
  refine ⟨some (if cap = k then ⟨b, o, none⟩ else (⟨b, o, none⟩ : Addr).add k), cap - k, by simp, by simp; omega, by omega, fun h0 => ?_⟩
  simp at h0
  obtain ⟨b', o', hA, hb, hc⟩ := h3 (by omega)
  cases hA
  refine ⟨b, o + k, by rw [if_neg (by omega), Addr.add_mid], hb, fun i hi => ?_⟩
  simp at hi
  rw [Nat.add_assoc, hc (k + i) (by omega)]
  simp [bAt]
/-- What a number that is asked for turns a reader that isn't bad to. -/
def outN (l : List UInt8) : Nat × List UInt8 × Nat := if (goN l 0 0).2.2 = 0 then ((goN l 0 0).1, l.drop (goN l 0 0).2.1, 0) else (0, [], (goN l 0 0).2.2)
end Go.Proofs.Ytilmeffmdgcblaa
/- A reader reads a flag: take[bool], Flag. -/
namespace Go.Proofs.Ytilmeffmdgcblaa
open Go Go.RowKit
set_option maxRecDepth 8000
set_option linter.all false

/-- Bytes read as a flag: it, how many bytes it has, the error. -/
def goF : List UInt8 → Bool × Nat × Nat
  | [] => (false, 0, 3)
  | c :: _ => if 1 < c.toNat then (false, 0, 2) else (c.toNat == 1, 1, 0)
theorem goF_bounds (l : List UInt8) : (goF l).2.2 = 0 → (goF l).2.1 = 1 ∧ 1 ≤ l.length := by
  cases l with
  | nil => simp [goF]
  | cons c r => rw [goF]; split <;> simp
theorem goF_err (l : List UInt8) : (goF l).2.2 ≠ 0 → goF l = (false, 0, (goF l).2.2) ∧ ((goF l).2.2 = 2 ∨ (goF l).2.2 = 3) := by
  cases l with
  | nil => simp [goF]
  | cons c r => rw [goF]; split <;> simp
def flagV (r : Bool × Nat × Nat) : Value := .tuple #[.bool r.1, .int .i64 (r.2.1 : Int), .int .i64 (r.2.2 : Int)]
/-- What a flag that is asked for turns a reader that isn't bad to. -/
def outQ (l : List UInt8) : Bool × List UInt8 × Nat := if (goF l).2.2 = 0 then ((goF l).1, l.drop (goF l).2.1, 0) else (false, [], (goF l).2.2)
end Go.Proofs.Ytilmeffmdgcblaa
/- A reader reads bytes: take[[]byte], Bytes. -/
namespace Go.Proofs.Ytilmeffmdgcblaa
open Go Go.RowKit
set_option maxRecDepth 8000
set_option linter.all false

/-- Bytes read as bytes of a limit: these, how many bytes they have with their number, the error. -/
def goB (l : List UInt8) (most : Int) : List UInt8 × Nat × Nat :=
  if (goN l 0 0).2.2 ≠ 0 then ([], 0, (goN l 0 0).2.2) else if most < ((goN l 0 0).1 : Int) then ([], 0, 4) else if l.length < (goN l 0 0).2.1 + (goN l 0 0).1 then ([], 0, 3)
  else ((l.drop (goN l 0 0).2.1).take (goN l 0 0).1, (goN l 0 0).2.1 + (goN l 0 0).1, 0)
theorem goB_bounds (l : List UInt8) (most : Int) : (goB l most).2.2 = 0 → 0 < (goB l most).2.1 ∧ (goB l most).2.1 ≤ l.length := by
  unfold goB
  split
  · simp; omega
  · rename_i h
    have := goN_bounds l 0 0 (by simpa using h)
    split
    · simp
    · split
      · simp
      · simp; omega
theorem goB_err (l : List UInt8) (most : Int) : (goB l most).2.2 ≠ 0 → goB l most = ([], 0, (goB l most).2.2) := by
  unfold goB
  split
  · simp
  · split
    · simp
    · split <;> simp
theorem slice_mid (b o n cap k m : Nat) (h : k + m ≤ cap) (w : World) : (Instr.slice 44 (.slice (some ⟨b, o, none⟩) n cap) (some (.int .i64 (k : Int))) (some (.int .i64 ((k : Int) + (m : Int)))) none).run Try.prog w = .ok (.slice (some (if cap = k then ⟨b, o, none⟩ else (⟨b, o, none⟩ : Addr).add k)) m (cap - k)) w := by
  have hsz : (sizeOf 5).run Try.prog w = .ok 1 w := by
    obtain ⟨i0, hi, _, hz1, _⟩ := info_parts info5
    simp [sizeOf, typeInfo, hi, hz1]
  have h3 : (0 : Int) ≤ (k : Int) + (m : Int) ∧ (k : Int) + (m : Int) ≤ (cap : Int) := by omega
  have h4 : k ≤ ((k : Int) + (m : Int)).toNat := by omega
  have h6 : ((k : Int) + (m : Int)).toNat - k = m := by omega
  by_cases h5 : cap = k
  · simp [Instr.slice, run_underlying Try.underlying44, Instr.sliceBounds, Instr.sliceBound, asIntOf, hsz, h3, h4, h5, h6, Addr.add_zero']
    omega
  · simp [Instr.slice, run_underlying Try.underlying44, Instr.sliceBounds, Instr.sliceBound, asIntOf, hsz, h3, h4, h5, h6]
/-- The m bytes behind the first k. -/
theorem rd_mid {w : World} {L : List Nat} {b o n cap k m : Nat} {l : List UInt8} (h : RdV w L (.slice (some ⟨b, o, none⟩) n cap) l) (hk : k + m ≤ n) :
    RdV w L (.slice (some (if cap = k then ⟨b, o, none⟩ else (⟨b, o, none⟩ : Addr).add k)) m (cap - k)) ((l.drop k).take m) := by
  obtain ⟨A, c, hv, h1, h2, h3⟩ := h
  cases hv
  have hlen : ((l.drop k).take m).length = m := by simp; omega
  refine ⟨some (if cap = k then ⟨b, o, none⟩ else (⟨b, o, none⟩ : Addr).add k), cap - k, by rw [hlen], by rw [hlen]; omega, by omega, fun h0 => ?_⟩
  rw [hlen] at h0
  obtain ⟨b', o', hA, hb, hc⟩ := h3 (by omega)
  cases hA
  refine ⟨b, o + k, by rw [if_neg (by omega), Addr.add_mid], hb, fun i hi => ?_⟩
  rw [hlen] at hi
  rw [Nat.add_assoc, hc (k + i) (by omega)]
  simp [bAt, List.getElem?_take, hi]
theorem svRdN_step {W w w' : World} {R : Nat} {u : Value} {t : List UInt8} (h : (svRdN W t).pred u w) (hT : RT R w w') (hR : R < W.heap.size) : (svRdN W t).pred u w' := fun L hL => by
  have h1 : RdV w (R :: L) u t := h (R :: L) (fun k hk => by rcases List.mem_cons.1 hk with rfl | hk; exact hR; exact hL k hk)
  exact (h1.keep (hT.keep.more fun k hk => by simp at hk; simp [hk])).less fun k hk => by simp [hk]
theorem svRdN_base {W w w' : World} {u : Value} {t : List UInt8} (h : (svRdN W t).pred u w') (hB : w.heap.size ≤ W.heap.size) : (svRdN w t).pred u w' := fun L hL => h L fun k hk => by have := hL k hk; omega
/-- What bytes that are asked for turn a reader that isn't bad to. -/
def outB (l : List UInt8) (most : Int) : List UInt8 × List UInt8 × Nat := if (goB l most).2.2 = 0 then ((goB l most).1, l.drop (goB l most).2.1, 0) else ([], [], (goB l most).2.2)
end Go.Proofs.Ytilmeffmdgcblaa
/- A reader reads a hash: take[api.Hash], Hash. -/
namespace Go.Proofs.Ytilmeffmdgcblaa
open Go Go.RowKit
set_option maxRecDepth 8000
set_option linter.all false

/-- Bytes read as a hash: it, how many bytes it has, the error. -/
def goH (l : List UInt8) : (Nat → UInt8) × Nat × Nat := if l.length < 32 then (fun _ => 0, 0, 3) else (bAt l, 32, 0)
theorem results_row3 {P : Program} {w : World} {b : Nat} {t : TypeId} {n : Nat} {f : Nat → Value} {e : TypeId} {m : Nat} {fn : Func} {p u v : Tmp} {ty : TypeId} (hf : fn.results = #[.cell p ty, .tmp u, .tmp v]) (tmps : Array Value) (hp : tmps.getD p undef = .pointer (some ⟨b, 0, none⟩))
    (h : w.rowIs b t n f) (hu : P.underlying ty = some (.array m e)) (hi : (P.info? ty).map (·.size) = some n) : (results fn tmps).run P w = .ok (.tuple #[.agg (rowA n f), tmps.getD u undef, tmps.getD v undef]) w := by
  have := load_row (P := P) h hu hi
  have hp' : tmps[p]?.getD undef = .pointer (some ⟨b, 0, none⟩) := by simpa using hp
  simp [results, hf, hp', asAddr, this]
theorem rdV_none {W W' : World} {L L' : List Nat} {v : Value} (h : RdV W L v []) : RdV W' L' v [] := by
  obtain ⟨A, c, hv, h1, h2, _⟩ := h
  exact ⟨A, c, hv, h1, h2, fun h => absurd h (by simp)⟩
/-- A whole array is stored into a row. -/
theorem wpList_store_row {P : Program} {ops : Array Oper} {rest : List Oper} {op : Oper} {a : Act} {w : World} {Q : Exit → Act → World → Prop} (hgd : op.guard = none) (ty : TypeId) (x y : Operand) (ho : op.op = .store ty x y)
    (g n : Nat) (D : Nat → UInt8) (hx : a.eval x = .pointer (some ⟨g, 0, none⟩)) (hy : a.eval y = .agg (rowA n (bF D))) {t' : TypeId} {f0 : Nat → Value} (hr : w.rowIs g t' n f0) (hi : (P.info? ty).map (·.size) = some n)
    (h : ∀ w', KeepBut [g] w w' → (∀ B, B ≤ g → Below B w w') → w'.rowIs g t' n (bF D) → wpList P ops Q rest (a.put op.dst undef) w') : wpList P ops Q (op :: rest) a w :=
  wpList_store_mid hgd ty x y ho g 0 (rowA n (bF D)) hx hy (by rw [rowA_size]; exact there_row hr) (by rw [rowA_size]; exact hi) (rowA_one _ _ fun _ => rfl)
    (h _ (KeepBut.setCells (by simp) _ _ _) (fun B hB => below_setCells g hB _ _ _ (Below.refl _ _)) (rowIs_setAll hr (bF D)))
/-- What a hash that is asked for turns a reader that isn't bad to. -/
def outH (l : List UInt8) : (Nat → UInt8) × List UInt8 × Nat := if l.length < 32 then (fun _ => 0, [], 3) else (bAt l, l.drop 32, 0)
/-- Blocks that came behind W are written, and R: to whoever looks from W on, a step that writes R alone. -/
theorem RT.late {R g : Nat} {W w w' : World} (h : RT R W w) (hg : W.heap.size ≤ g) (hR : R < W.heap.size) (hK : KeepBut [g] w w') (hB : ∀ B, B ≤ g → Below B w w') : RT R W w' :=
  ⟨h.below.trans (hB R (by omega)), Nat.le_trans h.keep.1 hK.1, fun k o hk ho hc => hK.2 k o (by have := (Array.getElem?_eq_some_iff.1 ho).1; simp; omega) (h.keep.2 k o hk ho hc) hc⟩
end Go.Proofs.Ytilmeffmdgcblaa
/- Layer 3, words that later layers share: bytes as strings; slices of slices; what is read of what was put; a reader in a region. -/
namespace Go.Proofs.Ytilmeffmdgcblaa
open Go Go.RowKit
set_option maxRecDepth 8000
set_option linter.all false
theorem rdV_form' {W : World} {L : List Nat} {v : Value} {l : List UInt8} (h : RdV W L v l) : ∃ A n cap, v = .slice A n cap ∧ Hid (l.length = n) := by
  obtain ⟨A, cap, hv, _⟩ := h; exact ⟨A, l.length, cap, hv, Lib.hid rfl⟩
/-- A slice of bytes becomes a string. -/
theorem conv_rd {w : World} {L : List Nat} {v : Value} {l : List UInt8} (h : RdV w L v l) : (convert 44 9 v).run Try.prog w = .ok (.string ⟨l.toArray⟩) w := by
  obtain ⟨A, cap, rfl, h1, h2, h3⟩ := h
  by_cases h0 : 0 < l.length
  · obtain ⟨b, o, rfl, _, hc⟩ := h3 h0
    have := run_convert_bytes_arg (P := Try.prog) w 44 5 Try.underlying44 Try.underlying5 b o l.length cap (l.map bN) (by simp) (fun i hi => by
      rw [hc i hi]
      simp [bAt, hi]) 9 Try.underlying9
    rw [this]
    have e : strOfNums (l.map bN) = ⟨l.toArray⟩ := by
      unfold strOfNums
      congr 2
      rw [List.map_map]
      conv => rhs; rw [← List.map_id l]
      exact List.map_congr_left fun b _ => by simp [bN]
    rw [e]
  · have : l = [] := List.eq_nil_of_length_eq_zero (by omega)
    subst this
    simp only [List.length_nil]
    simp [convert, run_underlying Try.underlying44, run_underlying Try.underlying9, run_underlying Try.underlying5, Conv.bytesToString]
    cases A <;> simp [go_sem] <;> rfl
theorem parts4 {W : World} {v1 v2 v3 v4 : Value} {l1 l2 l3 l4 : List UInt8} (h1 : RdV W [] v1 l1) (h2 : RdV W [] v2 l2) (h3 : RdV W [] v3 l3) (h4 : RdV W [] v4 l4) : Parts (W.alloc (.cells #[v1, v2, v3, v4] 44)) (.slice (some ⟨W.heap.size, 0, none⟩) 4 4) [l1, l2, l3, l4] :=
  ⟨[(v1, l1), (v2, l2), (v3, l3), (v4, l4)], parts_new [(v1, l1), (v2, l2), (v3, l3), (v4, l4)] 44 (by simp) (by simp) (by simp; exact ⟨h1, h2, h3, h4⟩), rfl⟩
theorem parts5 {W : World} {v1 v2 v3 v4 v5 : Value} {l1 l2 l3 l4 l5 : List UInt8} (h1 : RdV W [] v1 l1) (h2 : RdV W [] v2 l2) (h3 : RdV W [] v3 l3) (h4 : RdV W [] v4 l4) (h5 : RdV W [] v5 l5) : Parts (W.alloc (.cells #[v1, v2, v3, v4, v5] 44)) (.slice (some ⟨W.heap.size, 0, none⟩) 5 5) [l1, l2, l3, l4, l5] :=
  ⟨[(v1, l1), (v2, l2), (v3, l3), (v4, l4), (v5, l5)], parts_new [(v1, l1), (v2, l2), (v3, l3), (v4, l4), (v5, l5)] 44 (by simp) (by simp) (by simp; exact ⟨h1, h2, h3, h4, h5⟩), rfl⟩
/-- The first m bytes. -/
theorem rd_to {w : World} {L : List Nat} {A : Option Addr} {n cap m : Nat} {l : List UInt8} (h : RdV w L (.slice A n cap) l) (hm : m ≤ n) : RdV w L (.slice A m cap) (l.take m) := by
  obtain ⟨A', c, hv, h1, h2, h3⟩ := h
  cases hv
  have hlen : (l.take m).length = m := by simp; omega
  refine ⟨A, cap, by rw [hlen], by rw [hlen]; omega, h2, fun h0 => ?_⟩
  rw [hlen] at h0
  obtain ⟨b, o, hA, hb, hc⟩ := h3 (by omega)
  refine ⟨b, o, hA, hb, fun i hi => ?_⟩
  rw [hlen] at hi
  rw [hc i (by omega)]
  simp [bAt, hi]
theorem opr_slice_upto {a : Act} {w : World} {o : Oper} {K : Act → World → Prop} {Q : Exit → Act → World → Prop} {x y : Operand} {A : Option Addr} {n cap m : Nat} (ho : o.op = .slice 44 x none (some y) none) (hx : a.eval x = .slice A n cap) (hy : a.eval y = .int .i64 (m : Int)) (hm : m ≤ cap) (h : K (a.put o.dst (.slice A m cap)) w) : o.wp Try.prog a w K Q := by
  obtain ⟨dst, op, type, pos, after, guard⟩ := o
  simp only at ho
  subst ho
  refine opr_val (s := Instr.sliceAt 44 (a.eval x) none (some (a.eval y)) none) rfl ?_ h
  rw [hx, hy]
  have := slice_to A n cap m hm w
  simpa [Instr.sliceAt, run_underlying Try.underlying44] using this
theorem ownsRow_newT {w w' : World} {base : Nat} {e : TypeId} {v : Value} {n : Nat} {xs : List Value} (h : w.ownsRow base e 1 v n xs) (hN : NewT w w') : w'.ownsRow base e 1 v n xs := by
  obtain ⟨h1, h2⟩ := h
  refine ⟨h1, ?_⟩
  rcases h2 with h | ⟨g, cap, cur, hv, hb, hh, r⟩
  · exact .inl h
  · exact .inr ⟨g, cap, cur, hv, hb, (hN.out.block g (Array.getElem?_eq_some_iff.1 hh).1).trans hh, r⟩
theorem outN_put (x : Nat) (hx : x ≤ 2147483647) (r : List UInt8) : outN (numL x ++ r) = (x, r, 0) := by
  unfold outN
  rw [goN_put x hx r]
  simp only [if_true]
  rw [← numL_length x]; simp
/-- It reads as l, whatever a reader R does. -/
def svRdR (R : Nat) (l : List UInt8) : SV (RT R) := ⟨fun v w => RdV w [R] v l, fun _ _ _ h hT => hT.rd h⟩
theorem rd_is {w : World} {L : List Nat} {v : Value} {l : List UInt8} (h : RdV w L v l) : ∃ A n c, v = .slice A n c := by obtain ⟨A, c, hv, _⟩ := h; exact ⟨A, _, c, hv⟩
theorem opr_eql_bool {a : Act} {w : World} {o : Oper} {K : Act → World → Prop} {Q : Exit → Act → World → Prop} {x y : Operand} {t' : TypeId} {q : Bool} (ho : o.op = .binOp .eql 4 x y t') (hx : a.eval x = .bool q) (hy : a.eval y = .bool q) (h : K (a.put o.dst (.bool true)) w) : o.wp Try.prog a w K Q := by
  obtain ⟨dst, op, type, pos, after, guard⟩ := o
  simp only at ho
  subst ho
  refine opr_val (s := do eqGuard .eql 4 x y (a.eval x) (a.eval y); binOp .eql 4 (a.eval x) (a.eval y)) rfl ?_ h
  rw [hx, hy]
  cases q <;> simp [go_sem]
theorem outQ_put (q : Bool) (r : List UInt8) : outQ (cond q 1 0 :: r) = (q, r, 0) := by cases q <;> rfl
theorem outB_put (l r : List UInt8) (hl : l.length ≤ 1000000) : outB (numL l.length ++ l ++ r) (l.length : Int) = (l, r, 0) := by
  have hg := goN_put l.length (by omega) (l ++ r)
  rw [← List.append_assoc] at hg
  have hd : (numL l.length ++ l ++ r).drop (sz l.length) = l ++ r := by
    rw [List.append_assoc, ← numL_length l.length]; simp
  have hB : goB (numL l.length ++ l ++ r) (l.length : Int) = (l, sz l.length + l.length, 0) := by
    unfold goB
    rw [hg]
    simp only
    rw [if_neg (by simp), if_neg (by omega), if_neg (by simp [numL_length]), hd]
    simp
  unfold outB
  rw [hB]
  simp only [if_true]
  rw [← List.drop_drop, hd]
  simp
theorem outH_put (d : Nat → UInt8) (r : List UInt8) : (outH (digL d ++ r)).2 = (r, 0) ∧ rowA 32 (bF (outH (digL d ++ r)).1) = rowA 32 (bF d) := by
  have hl : ¬ (digL d ++ r).length < 32 := by simp [digL_length]
  unfold outH
  rw [if_neg hl]
  refine ⟨?_, rowA_congr fun i hi => ?_⟩
  · have := digL_length d
    simp [← this]
  · rw [bF_at, bF_at]
    congr 2
    have h1 : i < (digL d).length := by rw [digL_length]; exact hi
    show (digL d ++ r).getD i 0 = d i
    rw [List.getD_eq_getElem?_getD, List.getElem?_append_left h1]
    simp [digL, hi]
/-- The last place of a row of the call's own is written. -/
theorem ownsRow_last {w : World} {base g n cap : Nat} {e : TypeId} {xs : List Value} {u : Value} (h : w.ownsRow base e 1 (.slice (some ⟨g, 0, none⟩) (n + 1) cap) (n + 1) (xs ++ [u])) (u' : Value) :
    (w.setCell ⟨g, n, none⟩ u').ownsRow base e 1 (.slice (some ⟨g, 0, none⟩) (n + 1) cap) (n + 1) (xs ++ [u']) := by
  obtain ⟨h1, h2⟩ := h
  have hx : xs.length = n := by simpa using h1
  rcases h2 with ⟨h, _⟩ | ⟨g', cap', cur, hv, hb, hh, hnc, hm, hs, ht⟩
  · cases h
  · cases hv
    refine ⟨by simpa using hx, .inr ⟨g, cap, cur.setIfInBounds n u', rfl, hb, by simp [World.setCell, Array.getElem?_modify, hh], hnc, hm, by simpa using hs, ?_⟩⟩
    have e1 : cur.toList.take n = xs := by
      have := congrArg (List.take n) ht
      rw [List.take_take, Nat.min_eq_left (by omega)] at this
      rw [this, List.take_append_of_le_length (by omega)]
      exact List.take_of_length_le (by omega)
    have hlt : n < cur.toList.length := by simp; omega
    rw [Nat.mul_one, Array.toList_setIfInBounds, List.take_add_one, List.take_set_of_le (Nat.le_refl _), e1]
    simp [show n < cur.size by omega]
theorem frozen_own {w : World} {base g n cap : Nat} {e : TypeId} {xs : List Value} (h : w.ownsRow base e 1 (.slice (some ⟨g, 0, none⟩) n cap) n xs) (i : Nat) : w.frozen? ⟨g, i, none⟩ = false := by
  obtain ⟨_, h2⟩ := h
  rcases h2 with ⟨h, _⟩ | ⟨g', cap', cur, hv, _, hh, _⟩
  · cases h
  · cases hv; simp [World.frozen?, hh]
theorem bN_uB (n : Nat) (h : n < 256) : bN (uB n) = (n : Int) := by rw [bN, toNat_uB]; omega
end Go.Proofs.Ytilmeffmdgcblaa
/- Steps by value, new records and steps in memory, what a call hands back in a cell. -/
namespace Go.Proofs.Ytilmeffmdgcblaa
open Go Go.RowKit
set_option maxRecDepth 8000
set_option linter.all false

/-- The cells of a step. -/
def stepF (s : Int × Int) (i : Nat) : Value := if i = 0 then .int .i64 s.1 else .int .i64 s.2
theorem info_step : (Try.prog.info? 58).map (·.size) = some 2 := by kernel_rfl
theorem run_alloc_rec (w : World) : (Instr.alloc 46 true (.tuple #[])).run Try.prog w = .ok (.pointer (some ⟨w.heap.size, 0, none⟩)) (w.alloc (.cells (rowA 109 (recF zR (.slice none 0 0) (.slice none 0 0))) 46)) := by kernel_rfl
theorem run_alloc_step (w : World) : (Instr.alloc 58 true (.tuple #[])).run Try.prog w = .ok (.pointer (some ⟨w.heap.size, 0, none⟩)) (w.alloc (.cells (rowA 2 (stepF (0, 0))) 58)) := by kernel_rfl
theorem recF_one (x : Rc) (sv dv : Value) (hs : sv.oneCell' = true) (hd : dv.oneCell' = true) (i : Nat) : (recF x sv dv i).oneCell' = true := by
  unfold recF bF
  repeat' split
  all_goals first | rfl | assumption
theorem stepF_one (s : Int × Int) (i : Nat) : (stepF s i).oneCell' = true := by unfold stepF; split <;> rfl
theorem oneP {w : World} {v : Value} {l : List (Int × Int)} (h : RdP w v l) : v.oneCell' = true := by obtain ⟨A, c, rfl, _⟩ := h; rfl
theorem oneR {w : World} {L : List Nat} {v : Value} {l : List UInt8} (h : RdV w L v l) : v.oneCell' = true := by obtain ⟨A, c, rfl, _⟩ := h; rfl
section
variable {a : Act} {w : World} {o : Oper} {K : Act → World → Prop} {Q : Exit → Act → World → Prop} {x y : Operand} {g : Nat}
theorem opr_idxS {b o0 n c k : Nat} (hk : k < n) (ho : o.op = .indexAddr 43 x y) (hx : a.eval x = .slice (some ⟨b, o0, none⟩) n c) (hy : a.eval y = .int .i64 (k : Int)) (h : K (a.put o.dst (.pointer (some ⟨b, o0 + 2 * k, none⟩))) w) : o.wp Try.prog a w K Q := by
  obtain ⟨dst, op, type, pos, after, guard⟩ := o
  simp only at ho
  subst ho
  refine opr_val (s := Instr.indexAt 43 (a.eval x) (a.eval y)) rfl ?_ h
  rw [hx, hy]
  have hsz : (sizeOf 58).run Try.prog w = .ok 2 w := by
    have hs := info_step
    cases hq : Try.prog.info? 58 with
    | none => simp [hq] at hs
    | some i => simp [hq] at hs; simp [sizeOf, typeInfo, hq, hs]
  simp [Instr.indexAt, asIntOf, run_underlying Try.underlying43, hk, Addr.add_mid, Nat.mul_comm]
theorem opr_ld2 {o0 : Nat} {s : Int × Int} (h0 : w.cell? ⟨g, o0, none⟩ = some (.int .i64 s.1)) (h1 : w.cell? ⟨g, o0 + 1, none⟩ = some (.int .i64 s.2)) (ho : o.op = .load 58 x) (hx : a.eval x = .pointer (some ⟨g, o0, none⟩)) (h : K (a.put o.dst (.agg (rowA 2 (stepF s)))) w) : o.wp Try.prog a w K Q := by
  refine wp_load_mid 58 x ho g o0 hx [.int .i64 s.1, .int .i64 s.2] _ (fun j v hv => ?_) Try.underlying58 rfl info_step h
  match j, hv with
  | 0, hv => simp at hv; subst hv; exact h0
  | 1, hv => simp at hv; subst hv; exact h1
theorem opr_ldSt {t' : TypeId} {s : Int × Int} (hr : w.rowIs g t' 2 (stepF s)) (ho : o.op = .load 58 x) (hx : a.eval x = .pointer (some ⟨g, 0, none⟩)) (h : K (a.put o.dst (.agg (rowA 2 (stepF s)))) w) : o.wp Try.prog a w K Q :=
  opr_ldm Try.underlying58 rfl info_step ho hx hr (by omega) (by rw [rowA_congr (g := stepF s) fun i _ => by rw [Nat.zero_add]]; exact h)
theorem eqType_step : Try.prog.eqGuardType Try.prog.depth 58 = false := by kernel_rfl
theorem equalIn_step (w : World) (s t : Int × Int) : (Op.equalIn 10000 58 (.agg (rowA 2 (stepF s))) (.agg (rowA 2 (stepF t)))).run Try.prog w = .ok (decide (s = t)) w := by
  rw [show rowA 2 (stepF s) = #[.int .i64 s.1, .int .i64 s.2] from rfl, show rowA 2 (stepF t) = #[.int .i64 t.1, .int .i64 t.2] from rfl]
  obtain ⟨s1, s2⟩ := s
  obtain ⟨t1, t2⟩ := t
  rw [run_equalIn_agg w 9999 58 _ _ (by kernel_rfl) (by kernel_rfl)]
  by_cases h1 : s1 = t1
  · by_cases h2 : s2 = t2
    · subst h1 h2; simp [go_sem]
    · subst h1; simp [go_sem, h2]
  · simp [go_sem, h1]
theorem opr_neqS {t2 : TypeId} {s t : Int × Int} {b : Bool} (hb : (!decide (s = t)) = b) (ho : o.op = .binOp .neq 58 x y t2) (hx : a.eval x = .agg (rowA 2 (stepF s))) (hy : a.eval y = .agg (rowA 2 (stepF t))) (h : K (a.put o.dst (.bool b)) w) : o.wp Try.prog a w K Q := by
  obtain ⟨dst, op', type, pos, after, guard⟩ := o
  simp only at ho
  subst ho hb
  refine opr_val (s := do eqGuard .neq 58 x y (a.eval x) (a.eval y); binOp .neq 58 (a.eval x) (a.eval y)) rfl ?_ h
  rw [hx, hy, Sem.run_bind, run_eqGuard_agg _ _ _ _ _ _ _ eqType_step]
  simp only [Result.andThen_ok]
  rw [run_neq_struct, equalIn_step]; rfl
end
/-- A pointer into a record that a region made. -/
def svPtr (F : Nat → Value) (off : Nat) : SV NewT := ⟨fun v w => ∃ g, v = .pointer (some ⟨g, off, none⟩) ∧ w.rowIs g 46 109 F, fun _ _ _ ⟨g, h1, h2⟩ hT => ⟨g, h1, hT.row h2⟩⟩
section
variable {a : Act} {w : World} {o : Oper} {K : Act → World → Prop} {Q : Exit → Act → World → Prop} {x : Operand} {F : Nat → Value} {off : Nat} {v : Value}
theorem opr_boxR (_hone : ∀ i, (F i).oneCell' = true) (ho : o.op = .box 46 x) (hx : a.eval x = .agg (rowA 109 F)) (h : ∀ v w', NewT w w' → (svPtr F 0).pred v w' → K (a.put o.dst v) w') : o.wp Try.prog a w K Q := by
  obtain ⟨dst, op, type, pos, after, guard⟩ := o
  simp only at ho
  subst ho
  refine opr_val (s := Instr.box 46 (a.eval x)) (w' := w.alloc (.cells (rowA 109 F) 46)) rfl ?_ (h _ _ (NewT.alloc _ _) ⟨w.heap.size, rfl, rowIs_box w _ 109 F⟩)
  rw [hx]
  simp [go_sem]
theorem opr_fldP {k : Nat} (hk : k < 16) (ho : o.op = .fieldAddr 46 x k) (hx : (svPtr F 0).pred (a.eval x) w) (h : ∀ v, (svPtr F (recOff k)).pred v w → K (a.put o.dst v) w) : o.wp Try.prog a w K Q := by
  obtain ⟨g, hg, hr⟩ := hx
  exact opr_fldR hk ho hg (h _ ⟨g, rfl, hr⟩)
theorem opr_ldIP (hx : (svPtr F off).pred (a.eval x) w) (hn : off < 109) (hv : F off = v) (ho : o.op = .load 3 x) (h : K (a.put o.dst v) w) : o.wp Try.prog a w K Q := by
  obtain ⟨g, hg, hr⟩ := hx
  exact opr_ldI hr hn hv ho hg h
theorem opr_ldQP (hx : (svPtr F off).pred (a.eval x) w) (hn : off < 109) (hv : F off = v) (ho : o.op = .load 4 x) (h : K (a.put o.dst v) w) : o.wp Try.prog a w K Q := by
  obtain ⟨g, hg, hr⟩ := hx
  exact opr_ldQ hr hn hv ho hg h
theorem opr_ldSP (hx : (svPtr F off).pred (a.eval x) w) (hn : off < 109) (hv : F off = v) (ho : o.op = .load 43 x) (h : K (a.put o.dst v) w) : o.wp Try.prog a w K Q := by
  obtain ⟨g, hg, hr⟩ := hx
  exact opr_ldS hr hn hv ho hg h
theorem opr_ldBP (hx : (svPtr F off).pred (a.eval x) w) (hn : off < 109) (hv : F off = v) (ho : o.op = .load 44 x) (h : K (a.put o.dst v) w) : o.wp Try.prog a w K Q := by
  obtain ⟨g, hg, hr⟩ := hx
  exact opr_ldB hr hn hv ho hg h
theorem opr_ldHP {d : Nat → UInt8} (hx : (svPtr F off).pred (a.eval x) w) (hn : off + 32 ≤ 109) (hv : ∀ j, j < 32 → F (off + j) = bF d j) (ho : o.op = .load 42 x) (h : K (a.put o.dst (.agg (rowA 32 (bF d)))) w) : o.wp Try.prog a w K Q := by
  obtain ⟨g, hg, hr⟩ := hx
  exact opr_ldH hr hn hv ho hg h
end
section
variable (x : Rc) (sv dv : Value) (i : Nat)
theorem rs_kind (n : Int) : recF { x with kind := n } sv dv i = if i = 0 then .int .i64 n else recF x sv dv i := by
  unfold recF; by_cases h : i = 0
  · subst h; rfl
  · simp only [h, if_false]
theorem rs_saga (n : Int) : recF { x with saga := n } sv dv i = if i = 1 then .int .i64 n else recF x sv dv i := by
  unfold recF; by_cases h : i = 1
  · subst h; rfl
  · simp only [h, if_false]
theorem rs_seq (n : Int) : recF { x with seq := n } sv dv i = if i = 2 then .int .i64 n else recF x sv dv i := by
  unfold recF; by_cases h : i = 2
  · subst h; rfl
  · simp only [h, if_false]
theorem rs_step (n : Int) : recF { x with step := n } sv dv i = if i = 3 then .int .i64 n else recF x sv dv i := by
  unfold recF; by_cases h : i = 3
  · subst h; rfl
  · simp only [h, if_false]
theorem rs_tr (n : Int) : recF { x with tr := n } sv dv i = if i = 4 then .int .i64 n else recF x sv dv i := by
  unfold recF; by_cases h : i = 4
  · subst h; rfl
  · simp only [h, if_false]
theorem rs_nd (n : Int) : recF { x with nd := n } sv dv i = if i = 7 then .int .i64 n else recF x sv dv i := by
  unfold recF; by_cases h : i = 7
  · subst h; rfl
  · simp only [h, if_false]
theorem rs_part (n : Int) : recF { x with part := n } sv dv i = if i = 8 then .int .i64 n else recF x sv dv i := by
  unfold recF; by_cases h : i = 8
  · subst h; rfl
  · simp only [h, if_false]
theorem rs_epoch (n : Int) : recF { x with epoch := n } sv dv i = if i = 9 then .int .i64 n else recF x sv dv i := by
  by_cases h : i = 9
  · subst h; rfl
  · rw [if_neg h]
    by_cases h10 : i < 10
    · have : i = 0 ∨ i = 1 ∨ i = 2 ∨ i = 3 ∨ i = 4 ∨ i = 5 ∨ i = 6 ∨ i = 7 ∨ i = 8 := by omega
      rcases this with rfl | rfl | rfl | rfl | rfl | rfl | rfl | rfl | rfl <;> rfl
    · unfold recF; simp only [h10, if_false]
theorem rs_back (n : Bool) : recF { x with back := n } sv dv i = if i = 5 then .bool n else recF x sv dv i := by
  unfold recF; by_cases h : i = 5
  · subst h; rfl
  · simp only [h, if_false]
theorem rs_good (n : Bool) : recF { x with good := n } sv dv i = if i = 6 then .bool n else recF x sv dv i := by
  unfold recF; by_cases h : i = 6
  · subst h; rfl
  · simp only [h, if_false]
theorem rs_gone (n : Bool) : recF { x with gone := n } sv dv i = if i = 76 then .bool n else recF x sv dv i := by
  unfold recF; by_cases h : i = 76
  · subst h; rfl
  · simp only [h, if_false]
theorem rs_steps (v : Value) : recF x v dv i = if i = 42 then v else recF x sv dv i := by
  unfold recF; by_cases h : i = 42
  · subst h; rfl
  · simp only [h, if_false]
theorem rs_data (v : Value) : recF x sv v i = if i = 43 then v else recF x sv dv i := by
  unfold recF; by_cases h : i = 43
  · subst h; rfl
  · simp only [h, if_false]
theorem rs_tag (d : Nat → UInt8) (hi : i < 109) : recF { x with tag := d } sv dv i = if 10 ≤ i ∧ i < 10 + 32 then bF d (i - 10) else recF x sv dv i := by
  by_cases h : 10 ≤ i ∧ i < 10 + 32
  · rw [if_pos h]; obtain ⟨j, rfl⟩ := Nat.exists_eq_add_of_le h.1; rw [recF_tag _ _ _ _ (by omega), Nat.add_sub_cancel_left]
  · rw [if_neg h]; unfold recF; by_cases h1 : i < 10
    · simp only [h1, if_true]
    · have h2 : ¬ i < 42 := by omega
      simp only [h1, h2, if_false]
theorem rs_salt (d : Nat → UInt8) (hi : i < 109) : recF { x with salt := d } sv dv i = if 44 ≤ i ∧ i < 44 + 32 then bF d (i - 44) else recF x sv dv i := by
  by_cases h : 44 ≤ i ∧ i < 44 + 32
  · rw [if_pos h]; obtain ⟨j, rfl⟩ := Nat.exists_eq_add_of_le h.1; rw [recF_salt _ _ _ _ (by omega), Nat.add_sub_cancel_left]
  · rw [if_neg h]; unfold recF; by_cases h1 : i < 10
    · simp only [h1, if_true]
    · by_cases h2 : i < 42
      · simp only [h1, h2, if_true, if_false]
      · by_cases h3 : i = 42
        · subst h3; rfl
        · by_cases h4 : i = 43
          · subst h4; rfl
          · have h5 : ¬ i < 76 := by omega
            simp only [h1, h2, h3, h4, h5, if_false]
theorem rs_com (d : Nat → UInt8) (hi : i < 109) : recF { x with com := d } sv dv i = if 77 ≤ i ∧ i < 77 + 32 then bF d (i - 77) else recF x sv dv i := by
  by_cases h : 77 ≤ i ∧ i < 77 + 32
  · rw [if_pos h]; obtain ⟨j, rfl⟩ := Nat.exists_eq_add_of_le h.1; rw [recF_com _ _ _ _ (by omega), Nat.add_sub_cancel_left]
  · rw [if_neg h]; unfold recF; by_cases h1 : i < 10
    · simp only [h1, if_true]
    · by_cases h2 : i < 42
      · simp only [h1, h2, if_true, if_false]
      · by_cases h3 : i = 42
        · subst h3; rfl
        · by_cases h4 : i = 43
          · subst h4; rfl
          · by_cases h5 : i < 76
            · simp only [h1, h2, h3, h4, h5, if_true, if_false]
            · have h6 : i = 76 := by omega
              subst h6; rfl
end
theorem rdP_nil (w : World) : RdP w (.slice none 0 0) [] := ⟨none, 0, rfl, Nat.le_refl _, by unfold maxLen; omega, fun h => absurd h (by simp)⟩
theorem info_i1 : (Try.prog.info? 3).map (·.size) = some 1 := by kernel_rfl
theorem info_b1 : (Try.prog.info? 4).map (·.size) = some 1 := by kernel_rfl
theorem info_s1 : (Try.prog.info? 43).map (·.size) = some 1 := by kernel_rfl
theorem info_d1 : (Try.prog.info? 44).map (·.size) = some 1 := by kernel_rfl
theorem build_kind (k : Int) (w : World) : (Instr.build 46 #[(0, .int .i64 k)]).run Try.prog w = .ok (.agg (rowA 109 (recF { zR with kind := k } (.slice none 0 0) (.slice none 0 0)))) w := by kernel_rfl
theorem opr_build {a : Act} {w : World} {o : Oper} {K : Act → World → Prop} {Q : Exit → Act → World → Prop} {t : TypeId} {parts : Array (Nat × Operand)} {pv : Array (Nat × Value)} {v : Value} (ho : o.op = .build t parts) (hp : parts.map (fun (i, x) => (i, a.eval x)) = pv) (hr : (Instr.build t pv).run Try.prog w = .ok v w) (h : K (a.put o.dst v) w) : o.wp Try.prog a w K Q := by
  obtain ⟨dst, op, type, pos, after, guard⟩ := o
  simp only at ho
  subst ho hp
  exact opr_val (s := Instr.build t (parts.map fun (i, x) => (i, a.eval x))) rfl hr h
end Go.Proofs.Ytilmeffmdgcblaa
/- Steps that write a block that is new. -/
namespace Go.Proofs.Ytilmeffmdgcblaa
open Go Go.RowKit
set_option maxRecDepth 8000
set_option linter.all false
theorem put_all (F G : Nat → Value) : ∀ i, i < 109 → F i = if 0 ≤ i ∧ i < 0 + 109 then F (i - 0) else G i := fun i hi => by
  rw [if_pos (by omega), Nat.sub_zero]
theorem keepRow (R : Nat) (t : TypeId) (n : Nat) (Fs : Nat → Nat → Value) {wx w' : World} (hN : NewT wx w') : ∀ k, wx.rowIs R t n (Fs k) → w'.rowIs R t n (Fs k) := fun _ h => hN.row h
end Go.Proofs.Ytilmeffmdgcblaa
/- Slices of steps that a call makes: rows of pairs, appended to, cloned. -/
namespace Go.Proofs.Ytilmeffmdgcblaa
open Go Go.RowKit
set_option maxRecDepth 8000
set_option linter.all false
/-- The cells of steps, one behind the other. -/
def pc (l : List (Int × Int)) : List Value := l.flatMap fun s => [.int .i64 s.1, .int .i64 s.2]
theorem pc_length (l : List (Int × Int)) : (pc l).length = l.length * 2 := by
  induction l with
  | nil => rfl
  | cons s l ih => simp [pc] at ih ⊢; omega
theorem pc_append (l m : List (Int × Int)) : pc (l ++ m) = pc l ++ pc m := by simp [pc]
theorem pc_get (l : List (Int × Int)) (i : Nat) (hi : i < l.length) : (pc l)[2 * i]? = some (.int .i64 (l.getD i (0, 0)).1) ∧ (pc l)[2 * i + 1]? = some (.int .i64 (l.getD i (0, 0)).2) := by
  induction l generalizing i with
  | nil => simp at hi
  | cons s l ih =>
    cases i with
    | zero => simp [pc]
    | succ i =>
      have := ih i (by simpa using hi)
      have e : pc (s :: l) = .int .i64 s.1 :: .int .i64 s.2 :: pc l := by simp [pc]
      rw [e, show 2 * (i + 1) = 2 * i + 1 + 1 by omega]
      simpa using this
theorem pc_one (l : List (Int × Int)) : ∀ u ∈ pc l, u.oneCell' = true := fun u hu => by
  simp only [pc, List.mem_flatMap] at hu
  obtain ⟨s, _, hs⟩ := hu
  simp at hs
  rcases hs with rfl | rfl <;> rfl
theorem rdP_own {W : World} {base : Nat} {v : Value} {l : List (Int × Int)} (h : W.ownsRow base 58 2 v l.length (pc l)) : RdP W v l := by
  have hc : ∀ g : Nat, v.ownBlock = some g → ∀ j u, (pc l)[j]? = some u → W.cell? ((⟨g, 0, none⟩ : Addr).add j) = some u := fun g hg => h.cells hg
  rcases h.2 with ⟨rfl, h0⟩ | ⟨g, cap, cur, rfl, _, _, hnc, hcm, _, _⟩
  · exact ⟨none, 0, by rw [h0], by omega, by unfold maxLen; omega, fun h => absurd h (by omega)⟩
  · refine ⟨some ⟨g, 0, none⟩, cap, rfl, hnc, hcm, fun _ => ⟨g, 0, rfl, fun i hi => ?_⟩⟩
    have h1 := hc g rfl _ _ (pc_get l i hi).1
    have h2 := hc g rfl _ _ (pc_get l i hi).2
    rw [Addr.add_mid] at h1 h2
    exact ⟨h1, by rw [Nat.add_assoc]; exact h2⟩
theorem info_stp : (Try.prog.info? 58).map (fun i => (i.zero, i.size, i.bytes)) = some (some (.agg #[.int .i64 0, .int .i64 0]), 2, 16) := by kernel_rfl
theorem info_parts2 {e : TypeId} {z : Value} {s b : Nat} (h : (Try.prog.info? e).map (fun i => (i.zero, i.size, i.bytes)) = some (some z, s, b)) : ∃ i0, Try.prog.info? e = some i0 ∧ i0.zero = some z ∧ i0.size = s ∧ i0.bytes = b := by
  cases hq : Try.prog.info? e with
  | none => rw [hq] at h; cases h
  | some i => rw [hq] at h; simp at h; exact ⟨i, rfl, h.1, h.2.1, h.2.2⟩
/-- A slice of steps, put behind a row of the call's own. -/
theorem run_append_steps {W : World} {base : Nat} {v u : Value} {l m : List (Int × Int)} (ho : W.ownsRow base 58 2 v l.length (pc l)) (hu : RdP W u m) (hu0 : ∀ n c, u ≠ .slice none n c) (hn : l.length + m.length ≤ 1000000) (hb : base ≤ W.heap.size) (ty : TypeId) :
    ∃ v' w', (Builtin.append_ #[43, 43] ty #[v, u]).run Try.prog W = .ok v' w' ∧ w'.ownsRow base 58 2 v' (l ++ m).length (pc (l ++ m)) ∧ W.grownBy w' v.ownBlock := by
  obtain ⟨A, c, rfl, h1, h2, h3⟩ := hu
  cases A with
  | none => exact absurd rfl (hu0 _ _)
  | some ad =>
    obtain ⟨i0, hi, hz0, hz1, hz2⟩ := info_parts2 info_stp
    obtain ⟨v', w', hr, ho', hg, _⟩ := run_append_own (P := Try.prog) (w := W) base 43 ty 58 i0 _ 2 16 Try.underlying43 hi hz0 hz1 hz2 rfl (by omega) v l.length (pc l) ho ad m.length c (pc m) (pc_length m) (fun j x hj => by
      have hjl : j < m.length * 2 := by have := (List.getElem?_eq_some_iff.1 hj).1; rwa [pc_length] at this
      obtain ⟨b, o, hA, hcell⟩ := h3 (by omega)
      cases hA
      have hg := pc_get m (j / 2) (by omega)
      obtain ⟨c0, c1⟩ := hcell (j / 2) (by omega)
      rw [Addr.add_mid]
      by_cases he : j % 2 = 0
      · rw [show j = 2 * (j / 2) by omega] at hj ⊢
        rw [hg.1] at hj; cases hj
        exact c0
      · rw [show j = 2 * (j / 2) + 1 by omega] at hj ⊢
        rw [hg.2] at hj; cases hj
        rw [← Nat.add_assoc]
        exact c1) (pc_one m) (by unfold maxLen; omega) (by omega) hb
    exact ⟨v', w', hr, by rw [List.length_append, pc_append]; exact ho', hg⟩
set_option maxHeartbeats 400000 in
theorem CloneS_cv (v : Value) (l : List (Int × Int)) (w : World) (h : RdP w v l) (hl : l.length ≤ 900000) : Cv 36 #[v] w (svPairs l) := by
  unfold Cv
  have hh := h
  obtain ⟨A, cap, rfl, h1, h2, h3⟩ := h
  have hq : ∀ (w : World) (a : Option Addr) (n c n' c' : Nat), (binOp .eql 43 (.slice a n c) (.slice none n' c')).run Try.prog w = .ok (.bool a.isNone) w := fun w a n c n' c' => Lib.run_eql_slice_nil w _ _ a n c n' c' Try.underlying43
  cases A with
  | none =>
    have h0 : l = [] := by
      cases l with
      | nil => rfl
      | cons b l => obtain ⟨_, _, h, _⟩ := h3 (by simp); cases h
    subst h0
    clear h3 hh
    go_enter Try.func36, Try.ntmps36
    go_wp2
    go_ret
    exact ⟨_, rfl, NewT.refl _, ⟨none, 0, rfl, Nat.le_refl _, by unfold maxLen; omega, fun h => absurd h (by simp)⟩⟩
  | some a =>
    have hN := NewT.alloc w (.cells #[] 58)
    have o0 : (w.alloc (.cells #[] 58)).ownsRow w.heap.size 58 2 (.slice (some ⟨w.heap.size, 0, none⟩) 0 0) ([] : List (Int × Int)).length (pc []) :=
      ⟨rfl, .inr ⟨w.heap.size, 0, #[], rfl, Nat.le_refl _, World.alloc_heap_new _ _, Nat.le_refl _, by unfold maxLen; omega, rfl, rfl⟩⟩
    obtain ⟨v', w', hr, ho', hg⟩ := run_append_steps o0 (hN.pairs hh) (fun n c h => by cases h) (by simp; omega) hN.out.size 43
    have hB : Below w.heap.size w w' := hN.out.grown hg hN.out.size (fun k e => by simp [Value.ownBlock] at e; omega)
    have Ho := Lib.hid ho'
    clear h3 hh hN o0 hg ho'
    go_enter Try.func36, Try.ntmps36
    go_upto_region 3 with fail
    refine wp_region_lit ?_
    iterate 2 (refine wpList_plain rfl (fun K hK => ?_); go_simp; refine hK _ _ ?_; clear hK K)
    refine wpList_plain rfl (fun K hK => ?_)
    refine opr_append rfl rfl rfl hr (hK _ _ ?_)
    clear hK K
    refine wpList_plain rfl (fun K hK => ?_)
    refine opr_move (.inr rfl) (hK _ _ ?_)
    clear hK K
    refine wpList_nil ?_
    go_simp
    go_wp2
    go_ret
    exact ⟨_, rfl, hB, rdP_own Ho.out⟩
end Go.Proofs.Ytilmeffmdgcblaa
/- Steps that are cloned lie in memory that is new. -/
namespace Go.Proofs.Ytilmeffmdgcblaa
open Go Go.RowKit
set_option maxRecDepth 8000
set_option linter.all false
/-- Steps, in a block from B on. -/
def RdPB (w : World) (B : Nat) (v : Value) (l : List (Int × Int)) : Prop := RdP w v l ∧ (0 < l.length → ∀ a n c, v = .slice (some a) n c → B ≤ a.block)
/-- Bytes, in a block from B on. -/
def RdVB (w : World) (B : Nat) (v : Value) (l : List UInt8) : Prop := ∀ L, (∀ k ∈ L, k < B) → RdV w L v l
theorem RT.pairs {R : Nat} {w w' : World} (h : RT R w w') {v : Value} {l : List (Int × Int)} (hr : RdP w v l) (hne : 0 < l.length → ∀ a n c, v = .slice (some a) n c → a.block ≠ R) : RdP w' v l := by
  obtain ⟨A, cap, rfl, h1, h2, h3⟩ := hr
  refine ⟨A, cap, rfl, h1, h2, fun h0 => ?_⟩
  obtain ⟨b, o, rfl, hc⟩ := h3 h0
  have hb : b ≠ R := hne h0 ⟨b, o, none⟩ _ _ rfl
  exact ⟨b, o, rfl, fun i hi => ⟨h.keep.cell (a := ⟨b, o + 2 * i, none⟩) (by simpa using hb) (hc i hi).1, h.keep.cell (a := ⟨b, o + 2 * i + 1, none⟩) (by simpa using hb) (hc i hi).2⟩⟩
theorem RdPB.rt {R B : Nat} {w w' : World} {v : Value} {l : List (Int × Int)} (h : RdPB w B v l) (hT : RT R w w') (hR : R < B) : RdPB w' B v l :=
  ⟨hT.pairs h.1 fun h0 a n c e => by have := h.2 h0 a n c e; omega, h.2⟩
theorem RdPB.new {B : Nat} {w w' : World} {v : Value} {l : List (Int × Int)} (h : RdPB w B v l) (hT : NewT w w') : RdPB w' B v l := ⟨hT.pairs h.1, h.2⟩
theorem RdPB.mono {B B' : Nat} {w : World} {v : Value} {l : List (Int × Int)} (h : RdPB w B v l) (hB : B' ≤ B) : RdPB w B' v l := ⟨h.1, fun h0 a n c e => Nat.le_trans hB (h.2 h0 a n c e)⟩
theorem RdVB.rt {R B : Nat} {w w' : World} {v : Value} {l : List UInt8} (h : RdVB w B v l) (hT : RT R w w') (hR : R < B) : RdVB w' B v l := fun L hL =>
  ((h (R :: L) (fun k hk => by rcases List.mem_cons.1 hk with rfl | hk; exact hR; exact hL k hk)).keep (hT.keep.more (by simp))).less (fun k hk => by simp [hk])
theorem RdVB.new {B : Nat} {w w' : World} {v : Value} {l : List UInt8} (h : RdVB w B v l) (hT : NewT w w') : RdVB w' B v l := fun L hL => hT.rd (h L hL)
theorem RdVB.out {B : Nat} {w : World} {v : Value} {l : List UInt8} (h : RdVB w B v l) : RdV w [] v l := h [] (by simp)
theorem RdVB.mono {B B' : Nat} {w : World} {v : Value} {l : List UInt8} (h : RdVB w B v l) (hB : B' ≤ B) : RdVB w B' v l := fun L hL => h L fun k hk => Nat.lt_of_lt_of_le (hL k hk) hB
def svPairsN (B : Nat) (l : List (Int × Int)) : SV NewT := ⟨fun v w => RdPB w B v l, fun _ _ _ h hT => h.new hT⟩
def svPairsB (R : Nat) (l : List (Int × Int)) : SV (RT R) := ⟨fun v w => RdPB w (R + 1) v l, fun _ _ _ h hT => h.rt hT (Nat.lt_succ_self _)⟩
def svRdB (R : Nat) (l : List UInt8) : SV (RT R) := ⟨fun v w => RdVB w (R + 1) v l, fun _ _ _ h hT => h.rt hT (Nat.lt_succ_self _)⟩
set_option maxHeartbeats 400000 in
theorem CloneS_cvN (v : Value) (l : List (Int × Int)) (w : World) (h : RdP w v l) (hl : l.length ≤ 900000) : Cv 36 #[v] w (svPairsN w.heap.size l) := by
  unfold Cv
  have hh := h
  obtain ⟨A, cap, rfl, h1, h2, h3⟩ := h
  have hq : ∀ (w : World) (a : Option Addr) (n c n' c' : Nat), (binOp .eql 43 (.slice a n c) (.slice none n' c')).run Try.prog w = .ok (.bool a.isNone) w := fun w a n c n' c' => Lib.run_eql_slice_nil w _ _ a n c n' c' Try.underlying43
  cases A with
  | none =>
    have h0 : l = [] := by
      cases l with
      | nil => rfl
      | cons b l => obtain ⟨_, _, h, _⟩ := h3 (by simp); cases h
    subst h0
    clear h3 hh
    go_enter Try.func36, Try.ntmps36
    go_wp2
    go_ret
    exact ⟨_, rfl, NewT.refl _, ⟨none, 0, rfl, Nat.le_refl _, by unfold maxLen; omega, fun h => absurd h (by simp)⟩, fun _ a n c h => by cases h⟩
  | some a =>
    have hN := NewT.alloc w (.cells #[] 58)
    have o0 : (w.alloc (.cells #[] 58)).ownsRow w.heap.size 58 2 (.slice (some ⟨w.heap.size, 0, none⟩) 0 0) ([] : List (Int × Int)).length (pc []) :=
      ⟨rfl, .inr ⟨w.heap.size, 0, #[], rfl, Nat.le_refl _, World.alloc_heap_new _ _, Nat.le_refl _, by unfold maxLen; omega, rfl, rfl⟩⟩
    obtain ⟨v', w', hr, ho', hg⟩ := run_append_steps o0 (hN.pairs hh) (fun n c h => by cases h) (by simp; omega) hN.out.size 43
    have hB : Below w.heap.size w w' := hN.out.grown hg hN.out.size (fun k e => by simp [Value.ownBlock] at e; omega)
    have Ho := Lib.hid ho'
    clear h3 hh hN o0 hg ho'
    go_enter Try.func36, Try.ntmps36
    go_upto_region 3 with fail
    refine wp_region_lit ?_
    iterate 2 (refine wpList_plain rfl (fun K hK => ?_); go_simp; refine hK _ _ ?_; clear hK K)
    refine wpList_plain rfl (fun K hK => ?_)
    refine opr_append rfl rfl rfl hr (hK _ _ ?_)
    clear hK K
    refine wpList_plain rfl (fun K hK => ?_)
    refine opr_move (.inr rfl) (hK _ _ ?_)
    clear hK K
    refine wpList_nil ?_
    go_simp
    go_wp2
    go_ret
    refine ⟨_, rfl, hB, rdP_own Ho.out, fun _ a n c e => ?_⟩
    rcases Ho.out.2 with ⟨h, _⟩ | ⟨g, cap, cur, h, hb, _⟩
    · have e' := h.symm.trans e; cases e'
    · have e' := h.symm.trans e; cases e'; exact hb
end Go.Proofs.Ytilmeffmdgcblaa
/- Slices of structs of n cells: they read as lists of rows, and as lists of what the rows say; elements, beginnings, rows of the call's own, appends. No program is named here. -/
namespace Go.Proofs.Ytilmeffmdgcblaa
open Go Go.RowKit
set_option maxRecDepth 8000
set_option linter.all false
/-- The cells of rows, one behind the other. -/
def ecs (n : Nat) (l : List (Nat → Value)) : List Value := l.flatMap fun d => (List.range n).map d
theorem ecs_length (n : Nat) (l : List (Nat → Value)) : (ecs n l).length = l.length * n := by
  induction l with
  | nil => simp [ecs]
  | cons d l ih => rw [ecs, List.flatMap_cons, List.length_append, show (l.flatMap fun d => (List.range n).map d) = ecs n l from rfl, ih]; simp [Nat.succ_mul]; omega
theorem ecs_app (n : Nat) (a b : List (Nat → Value)) : ecs n (a ++ b) = ecs n a ++ ecs n b := by simp [ecs]
theorem ecs_at (n : Nat) (l : List (Nat → Value)) : ∀ (i : Nat) (d : Nat → Value), l[i]? = some d → ∀ j, j < n → (ecs n l)[i * n + j]? = some (d j) := by
  induction l with
  | nil => intro i d h; simp at h
  | cons e l ih =>
    intro i d h j hj
    have hl : ((List.range n).map e).length = n := by simp
    rw [show ecs n (e :: l) = (List.range n).map e ++ ecs n l from rfl]
    cases i with
    | zero => simp at h; subst h; rw [List.getElem?_append_left (by rw [hl]; omega)]; simp [hj]
    | succ i => rw [List.getElem?_append_right (by rw [hl, Nat.succ_mul]; omega), hl, show (i + 1) * n + j - n = i * n + j by rw [Nat.succ_mul]; omega]; exact ih i d (by simpa using h) j hj
/-- Each of the rows' cells is one. -/
def OneE (n : Nat) (l : List (Nat → Value)) : Prop := ∀ f ∈ l, ∀ j, j < n → (f j).oneCell' = true
theorem ecs_one {n : Nat} {l : List (Nat → Value)} (h : OneE n l) : ∀ u ∈ ecs n l, u.oneCell' = true := by
  intro u hu
  obtain ⟨d, hd, h'⟩ := List.mem_flatMap.1 hu
  obtain ⟨j, hj, rfl⟩ := List.mem_map.1 h'
  exact h d hd j (by simpa using hj)
def RdE (n : Nat) (W : World) (v : Value) (l : List (Nat → Value)) : Prop :=
  ∃ A cap, v = .slice A l.length cap ∧ l.length ≤ cap ∧ cap ≤ maxLen ∧ (0 < l.length → ∃ b o, A = some ⟨b, o, none⟩ ∧ ∀ i d, l[i]? = some d → ∀ j, j < n → W.cell? ⟨b, o + i * n + j, none⟩ = some (d j))
theorem RdE.new {n : Nat} {w w' : World} {v : Value} {l : List (Nat → Value)} (h : RdE n w v l) (hN : NewT w w') : RdE n w' v l := by
  obtain ⟨A, c, hv, h1, h2, h3⟩ := h
  refine ⟨A, c, hv, h1, h2, fun h0 => ?_⟩
  obtain ⟨b, o, hA, hc⟩ := h3 h0
  exact ⟨b, o, hA, fun i d hd j hj => (hN.out.cell (World.block_lt_of_cell? _ _ (hc i d hd j hj))).trans (hc i d hd j hj)⟩
theorem rdE_nil (n : Nat) (w : World) : RdE n w (.slice none 0 0) [] := ⟨none, 0, rfl, Nat.le_refl _, by unfold maxLen; omega, fun h => absurd h (by simp)⟩
theorem RdE.news {n : Nat} {w : World} {l : List (Nat → Value)} {b o m c : Nat} (h : RdE n w (.slice (some ⟨b, o, none⟩) m c) l) : ∀ j u, (ecs n l)[j]? = some u → w.cell? ((⟨b, o, none⟩ : Addr).add j) = some u := by
  intro j u hj
  obtain ⟨A, cap, hv, _, _, h3⟩ := h
  have hlt : j < l.length * n := by rw [← ecs_length]; exact (List.getElem?_eq_some_iff.1 hj).1
  have hn : 0 < n := by rcases Nat.eq_zero_or_pos n with e | e; (rw [e] at hlt; omega); exact e
  have hi : j / n < l.length := (Nat.div_lt_iff_lt_mul hn).2 hlt
  obtain ⟨b', o', hA, hc⟩ := h3 (Nat.lt_of_le_of_lt (Nat.zero_le _) hi)
  injection hv with e1 _ _
  rw [hA] at e1
  cases e1
  have hd : l[j / n]? = some l[j / n] := List.getElem?_eq_getElem hi
  have hm := Nat.mod_lt j hn
  have ej : j / n * n + j % n = j := by rw [Nat.mul_comm]; exact Nat.div_add_mod j n
  have h1 := ecs_at n l _ _ hd (j % n) hm
  rw [ej] at h1
  rw [h1] at hj
  cases hj
  have := hc _ _ hd (j % n) hm
  rw [Addr.add_mid, show o + j = o + j / n * n + j % n by omega]
  exact this
/-- What a program says of an element's type. -/
structure ElTy (P : Program) (sT eT : TypeId) (n : Nat) : Prop where
  ul : P.underlying sT = some (.slice eT)
  inf : ∃ i0 z, P.info? eT = some i0 ∧ i0.zero = some z ∧ i0.size = n ∧ i0.bytes ≤ 1000 ∧ z.cells.size = n
  pos : 0 < n
  row : ∃ d, P.underlying eT = some d ∧ d.isRow = true
theorem ElTy.of {P : Program} {sT eT : TypeId} {n b : Nat} {z : Value} {d : TypeDesc} (h1 : P.underlying sT = some (.slice eT)) (h2 : (P.info? eT).map (fun i => (i.zero, i.size, i.bytes)) = some (some z, n, b)) (hb : b ≤ 1000) (hz : z.cells.size = n) (h0 : 0 < n) (h3 : P.underlying eT = some d) (h4 : d.isRow = true) : ElTy P sT eT n := by
  refine ⟨h1, ?_, h0, d, h3, h4⟩
  cases hq : P.info? eT with
  | none => rw [hq] at h2; cases h2
  | some i => rw [hq] at h2; simp at h2; exact ⟨i, z, rfl, h2.1, h2.2.1, by omega, hz⟩
section
variable {P : Program} {sT eT : TypeId} {n : Nat}
theorem ElTy.size (T : ElTy P sT eT n) (w : World) : (sizeOf eT).run P w = .ok n w := by
  obtain ⟨i0, z, h1, _, h2, _⟩ := T.inf
  simp [sizeOf, typeInfo, h1, h2]
theorem ElTy.map (T : ElTy P sT eT n) : (P.info? eT).map (·.size) = some n := by
  obtain ⟨i0, z, h1, _, h2, _⟩ := T.inf
  rw [h1]; simp [h2]
theorem run_idxE (T : ElTy P sT eT n) {b off m c i : Nat} (w : World) (hi : i < m) : (Instr.indexAt sT (.slice (some ⟨b, off, none⟩) m c) (.int .i64 (i : Int))).run P w = .ok (.pointer (some ⟨b, off + i * n, none⟩)) w := by
  have hs := T.size w
  simp [Instr.indexAt, asIntOf, run_underlying T.ul, hi, hs, Addr.add_mid]
theorem run_ldE (T : ElTy P sT eT n) {b off : Nat} {d : Nat → Value} {w : World} (hc : ∀ j, j < n → w.cell? ⟨b, off + j, none⟩ = some (d j)) : (Instr.loadAt eT (.pointer (some ⟨b, off, none⟩))).run P w = .ok (.agg (rowA n d)) w := by
  have hr : w.rangeAt b off (rowA n d).toList := fun j v hv => by
    rw [rowA_toList] at hv
    have hj : j < n := by have := (List.getElem?_eq_some_iff.1 hv).1; simpa using this
    simp [hj] at hv
    subst hv
    exact hc j hj
  obtain ⟨dd, h1, h2⟩ := T.row
  have := run_loadAt_mid (P := P) w b off eT (rowA n d).toList _ hr h1 h2 (by rw [rowA_toList]; simpa using T.map)
  simpa using this
theorem run_toE (T : ElTy P sT eT n) {A : Option Addr} {m c k : Nat} (w : World) (hk : k ≤ m) (hn : m ≤ c) : (Instr.slice sT (.slice A m c) none (some (.int .i64 (k : Int))) none).run P w = .ok (.slice A k c) w := by
  have h1 : k ≤ c := by omega
  have hs := T.size w
  have e : A.map (fun a => a.add 0) = A := by cases A <;> simp [Addr.add_zero']
  by_cases hc0 : c = 0
  · obtain rfl : k = 0 := by omega
    subst hc0; simp [Instr.slice, run_underlying T.ul, Instr.sliceBounds, Instr.sliceBound, asIntOf, hs, h1]
  · simp [Instr.slice, run_underlying T.ul, Instr.sliceBounds, Instr.sliceBound, asIntOf, hs, h1, hc0, e]
theorem run_fromE (T : ElTy P sT eT n) {A : Option Addr} {m c k : Nat} (w : World) (hk : k ≤ m) : (Instr.slice sT (.slice A m c) (some (.int .i64 (k : Int))) none none).run P w = .ok (.slice (if c = k then A else A.map (·.add (k * n))) (m - k) (c - k)) w := by
  have h1 : k ≤ m := hk
  have hs := T.size w
  by_cases hc : c = k
  · simp [Instr.slice, run_underlying T.ul, Instr.sliceBounds, Instr.sliceBound, asIntOf, hs, h1, hc]
  · simp [Instr.slice, run_underlying T.ul, Instr.sliceBounds, Instr.sliceBound, asIntOf, hs, h1, hc]
theorem rdE_take {w : World} {A : Option Addr} {l : List (Nat → Value)} {c k : Nat} (h : RdE n w (.slice A l.length c) l) (hk : k ≤ l.length) : RdE n w (.slice A k c) (l.take k) := by
  obtain ⟨A', c', hv, h1, h2, h3⟩ := h
  cases hv
  have hl : (l.take k).length = k := by rw [List.length_take]; omega
  refine ⟨A, c, by rw [hl], by rw [hl]; omega, h2, fun h0 => ?_⟩
  rw [hl] at h0
  obtain ⟨b, off, hA, hc⟩ := h3 (by omega)
  refine ⟨b, off, hA, fun i d hd j hj => hc i d ?_ j hj⟩
  rw [List.getElem?_take] at hd
  split at hd
  · exact hd
  · cases hd
theorem rdE_drop {w : World} {A : Option Addr} {l : List (Nat → Value)} {c k : Nat} (h : RdE n w (.slice A l.length c) l) (hk : k ≤ l.length) : RdE n w (.slice (if c = k then A else A.map (·.add (k * n))) (l.length - k) (c - k)) (l.drop k) := by
  obtain ⟨A', c', hv, h1, h2, h3⟩ := h
  cases hv
  have hl : (l.drop k).length = l.length - k := by simp
  refine ⟨_, c - k, by rw [hl], by rw [hl]; omega, by omega, fun h0 => ?_⟩
  rw [hl] at h0
  obtain ⟨b, off, rfl, hc⟩ := h3 (by omega)
  refine ⟨b, off + k * n, by rw [if_neg (by omega)]; simp [Addr.add_mid], fun i d hd j hj => ?_⟩
  have := hc (k + i) d (by simpa using hd) j hj
  rw [show off + k * n + i * n + j = off + (k + i) * n + j by rw [Nat.add_mul]; omega]
  exact this
/-- A row of the call's own, in blocks from B on. -/
def OwnE (eT : TypeId) (n : Nat) (W : World) (B : Nat) (v : Value) (l : List (Nat → Value)) : Prop := W.ownsRow B eT n v l.length (ecs n l)
theorem OwnE.rd {W : World} {B : Nat} {v : Value} {l : List (Nat → Value)} (h : OwnE eT n W B v l) : RdE n W v l := by
  have hh := h
  rcases h.2 with ⟨rfl, h0⟩ | ⟨g, cap, cur, rfl, hb, _, hnc, hcm, _, _⟩
  · have : l = [] := List.eq_nil_of_length_eq_zero h0
    subst this
    exact rdE_nil n W
  · refine ⟨some ⟨g, 0, none⟩, cap, rfl, hnc, hcm, fun _ => ⟨g, 0, rfl, fun i d hd j hj => ?_⟩⟩
    have hc := World.ownsRow.cells hh (g := g) rfl (i * n + j) _ (ecs_at n l i d hd j hj)
    rw [Addr.add_mid] at hc
    rw [Nat.add_assoc]; exact hc
theorem ownE_nil (W : World) (B : Nat) : OwnE eT n W B (.slice none 0 0) [] := by
  have := World.ownsRow_nil W B eT n
  simpa [OwnE, ecs] using this
theorem OwnE.lt {W : World} {B : Nat} {v : Value} {l : List (Nat → Value)} (h : OwnE eT n W B v l) : ∀ k, v.ownBlock = some k → B ≤ k ∧ k < W.heap.size := World.ownsRow.lt h
theorem OwnE.keep {W W' : World} {B : Nat} {v : Value} {l : List (Nat → Value)} (h : OwnE eT n W B v l) (hk : ∀ k, v.ownBlock = some k → W'.heap[k]? = W.heap[k]?) : OwnE eT n W' B v l := by
  obtain ⟨h1, h2⟩ := h
  refine ⟨h1, ?_⟩
  rcases h2 with h2 | ⟨g, cap, cur, hv, hb, hg, r⟩
  · exact .inl h2
  · exact .inr ⟨g, cap, cur, hv, hb, (hk g (by rw [hv]; rfl)).trans hg, r⟩
theorem OwnE.new {W W' : World} {B : Nat} {v : Value} {l : List (Nat → Value)} (h : OwnE eT n W B v l) (hN : NewT W W') : OwnE eT n W' B v l := h.keep fun k hk => hN.out.block k (h.lt k hk).2
theorem OwnE.mono {W : World} {B B' : Nat} {v : Value} {l : List (Nat → Value)} (h : OwnE eT n W B v l) (hB : B' ≤ B) : OwnE eT n W B' v l := by
  obtain ⟨h1, h2⟩ := h
  refine ⟨h1, ?_⟩
  rcases h2 with h2 | ⟨g, cap, cur, hv, hb, r⟩
  · exact .inl h2
  · exact .inr ⟨g, cap, cur, hv, Nat.le_trans hB hb, r⟩
theorem OwnE.form {W : World} {B : Nat} {v : Value} {l : List (Nat → Value)} (h : OwnE eT n W B v l) : ∃ A c, v = .slice A l.length c ∧ l.length ≤ c := by
  rcases h.2 with ⟨hv, h0⟩ | ⟨g, cap, cur, hv, _, _, hc, _⟩
  · exact ⟨none, 0, by rw [hv, h0], by omega⟩
  · exact ⟨_, cap, hv, hc⟩
theorem run_appE (T : ElTy P sT eT n) {W : World} {B : Nat} {v u : Value} {l m : List (Nat → Value)} (h : OwnE eT n W B v l) (hr : RdE n W u m) (h1 : OneE n m) (hn : l.length + m.length ≤ 1000000) (hB : B ≤ W.heap.size) (ty : TypeId) :
    ∃ v' w', (Builtin.append_ #[sT, sT] ty #[v, u]).run P W = .ok v' w' ∧ OwnE eT n w' B v' (l ++ m) ∧ W.grownBy w' v.ownBlock := by
  obtain ⟨i0, z, hi, hz0, hz1, hz2, hz3⟩ := T.inf
  have hr0 := hr
  obtain ⟨A, cap, rfl, k1, k2, k3⟩ := hr
  cases A with
  | none =>
    have h0 : m = [] := by
      cases m with
      | nil => rfl
      | cons b l => obtain ⟨_, _, h, _⟩ := k3 (by simp); cases h
    subst h0
    refine ⟨v, W, ?_, by simpa using h, World.grownBy.refl W _⟩
    rcases h.2 with ⟨rfl, h0⟩ | ⟨g, cap', cur, rfl, _, _, hnc, _⟩
    · simp [Builtin.append_, run_underlying T.ul, sizeOf, typeInfo, hi, Builtin.lenOf, Builtin.firstCells]
    · simp [Builtin.append_, run_underlying T.ul, sizeOf, typeInfo, hi, Builtin.lenOf, Builtin.firstCells, hnc, storeCells]
  | some ad =>
    have hcells : ∀ j u, (ecs n m)[j]? = some u → W.cell? (ad.add j) = some u := fun j u hj => by
      have hlt : j < m.length * n := by rw [← ecs_length]; exact (List.getElem?_eq_some_iff.1 hj).1
      have hm : 0 < m.length := by rcases Nat.eq_zero_or_pos m.length with e | e; (rw [e] at hlt; omega); exact e
      obtain ⟨b, o, hA, _⟩ := k3 hm
      cases hA
      exact hr0.news j u hj
    obtain ⟨v', w', hrun, ho, hg, _⟩ := run_append_own (P := P) W B sT ty eT i0 _ n i0.bytes T.ul hi hz0 hz1 rfl hz3 T.pos v l.length (ecs n l) h ad m.length cap (ecs n m) (ecs_length n m) hcells (ecs_one h1) (by unfold maxLen; omega) (Nat.le_trans (Nat.mul_le_mul hn hz2) (by omega)) hB
    refine ⟨v', w', hrun, ?_, hg⟩
    unfold OwnE
    rw [List.length_append, ecs_app]
    exact ho
/-- One row of cells is a slice of one. -/
theorem rdE_one (w : World) (t : TypeId) (d : Nat → Value) : RdE n (w.alloc (.cells (rowA n d) t)) (.slice (some ⟨w.heap.size, 0, none⟩) 1 1) [d] := by
  refine ⟨some ⟨w.heap.size, 0, none⟩, 1, rfl, by simp, by simp [maxLen], fun _ => ⟨w.heap.size, 0, rfl, fun i e he j hj => ?_⟩⟩
  have hi : i < 1 := (List.getElem?_eq_some_iff.1 he).1
  obtain rfl : i = 0 := by omega
  simp at he
  subst he
  rw [show 0 + 0 * n + j = j by simp]
  exact (rowIs_box w t n d).cell hj
/-- 'append(v, x)' in two steps: a slice of one, and the appending. -/
theorem app_oneE (T : ElTy P sT eT n) {W : World} {B : Nat} {v : Value} {l : List (Nat → Value)} {d : Nat → Value} (h : OwnE eT n W B v l) (h1 : ∀ j, j < n → (d j).oneCell' = true) (hn : l.length + 1 ≤ 1000000) (hB : B ≤ W.heap.size) (ty : TypeId) :
    ∃ v' w', (Builtin.append_ #[sT, sT] ty #[v, .slice (some ⟨W.heap.size, 0, none⟩) 1 1]).run P (W.alloc (.cells (rowA n d) eT)) = .ok v' w' ∧ OwnE eT n w' B v' (l ++ [d]) ∧ Below B W w' ∧ ∀ k, k < W.heap.size → some k ≠ v.ownBlock → w'.heap[k]? = W.heap[k]? := by
  have hN := NewT.alloc W (.cells (rowA n d) eT)
  obtain ⟨v', w', h2, h3, h4⟩ := run_appE T (h.new hN) (rdE_one W eT d) (fun f hf j hj => by simp at hf; subst hf; exact h1 j hj) (by simpa using hn) (Nat.le_trans hB hN.out.size) ty
  refine ⟨v', w', h2, h3, (hN.out.mono hB).grown h4 (Nat.le_trans hB hN.out.size) (fun k hk => (h.lt k hk).1), fun k hk hne => ?_⟩
  have := h4.block k (by have := hN.out.size; omega) hne
  exact this.trans (hN.out.block k hk)
end
section
variable {α : Type}
/-- A slice of structs that reads as a list of what they say. -/
def RdL (n : Nat) (E : World → (Nat → Value) → α → Prop) (W : World) (v : Value) (L : List α) : Prop :=
  ∃ fs : List (Nat → Value), RdE n W v fs ∧ fs.length = L.length ∧ ∀ (i : Nat) (p : α), L[i]? = some p → ∃ f : Nat → Value, fs[i]? = some f ∧ E W f p
/-- What is said stands while memory is but made. -/
class StbE (E : World → (Nat → Value) → α → Prop) : Prop where
  new : ∀ {w w' : World} {f : Nat → Value} {p : α}, E w f p → NewT w w' → E w' f p
variable {n : Nat} {E : World → (Nat → Value) → α → Prop}
theorem RdL.new [StbE E] {w w' : World} {v : Value} {L : List α} (h : RdL n E w v L) (hN : NewT w w') : RdL n E w' v L := by
  obtain ⟨fs, h1, h2, h3⟩ := h
  refine ⟨fs, h1.new hN, h2, fun i p hp => ?_⟩
  obtain ⟨f, e1, e2⟩ := h3 i p hp
  exact ⟨f, e1, StbE.new e2 hN⟩
theorem rdL_nil (w : World) : RdL n E w (.slice none 0 0) [] := ⟨[], rdE_nil n w, rfl, fun i p h => by simp at h⟩
theorem RdL.form {w : World} {v : Value} {L : List α} (h : RdL n E w v L) : ∃ A c, v = .slice A L.length c ∧ L.length ≤ c ∧ c ≤ maxLen := by
  obtain ⟨fs, ⟨A, c, hv, h1, h2, _⟩, e, _⟩ := h
  rw [e] at hv h1
  exact ⟨A, c, hv, h1, h2⟩
theorem RdL.one {w : World} {v : Value} {L : List α} (h : RdL n E w v L) : v.oneCell' = true := by
  obtain ⟨A, c, rfl, _⟩ := h.form; rfl
def svL (n : Nat) (E : World → (Nat → Value) → α → Prop) [StbE E] (L : List α) : SV NewT := ⟨fun v w => RdL n E w v L, fun _ _ _ h hT => h.new hT⟩
/-- A place where an element lies. -/
def svEl (n : Nat) (E : World → (Nat → Value) → α → Prop) [StbE E] (p : α) : SV NewT := ⟨fun v w => ∃ b o f, v = .pointer (some ⟨b, o, none⟩) ∧ (0 < n → ∀ j, j < n → w.cell? ⟨b, o + j, none⟩ = some (f j)) ∧ E w f p,
  fun v w w' h hT => by
    obtain ⟨b, o, f, h1, h2, h3⟩ := h
    refine ⟨b, o, f, h1, fun h0 j hj => ?_, StbE.new h3 hT⟩
    have := h2 h0 j hj
    exact (hT.out.cell (p := ⟨b, o + j, none⟩) (World.block_lt_of_cell? _ _ this)).trans this⟩
/-- A row that says something. -/
def svAg (n : Nat) (E : World → (Nat → Value) → α → Prop) [StbE E] (p : α) : SV NewT := ⟨fun v w => ∃ f, v = .agg (rowA n f) ∧ E w f p, fun _ _ _ ⟨f, h1, h2⟩ hT => ⟨f, h1, StbE.new h2 hT⟩⟩
section
variable {P : Program} {sT eT : TypeId} {a : Act} {w : World} {o : Oper} {K : Act → World → Prop} {Q : Exit → Act → World → Prop} {x y : Operand} [StbE E]
theorem opr_lenL {L : List α} (ho : o.op = .call { callee := .builtin .len, args := #[x], argTypes := #[sT] }) (T : ElTy Try.prog sT eT n) (hx : RdL n E w (a.eval x) L) (h : K (a.put o.dst (.int .i64 (L.length : Int))) w) : o.wp Try.prog a w K Q := by
  obtain ⟨A, c, hv, _⟩ := hx.form
  exact opr_len ho T.ul hv h
theorem opr_idxL {L : List α} {i : Nat} {m : Int} {p : α} (T : ElTy P sT eT n) (hd : L[i]? = some p) (hn : m = (i : Int)) (ho : o.op = .indexAddr sT x y) (hx : RdL n E w (a.eval x) L) (hy : a.eval y = .int .i64 m) (h : ∀ v, (svEl n E p).pred v w → K (a.put o.dst v) w) : o.wp P a w K Q := by
  subst hn
  obtain ⟨dst, op, type, pos, after, guard⟩ := o
  simp only at ho
  subst ho
  obtain ⟨fs, ⟨A, c, hv, _, _, h3⟩, e, h4⟩ := hx
  have hi : i < fs.length := by rw [e]; exact (List.getElem?_eq_some_iff.1 hd).1
  obtain ⟨f, hf, hE⟩ := h4 i p hd
  obtain ⟨b, off, rfl, hc⟩ := h3 (by omega)
  exact opr_val (s := Instr.indexAt sT (a.eval x) (a.eval y)) rfl (by rw [hv, hy]; exact run_idxE T w hi) (h _ ⟨b, off + i * n, f, rfl, fun _ j hj => hc i f hf j hj, hE⟩)
theorem opr_ldL {p : α} (T : ElTy P sT eT n) (ho : o.op = .load eT x) (hx : (svEl n E p).pred (a.eval x) w) (h : ∀ v, (svAg n E p).pred v w → K (a.put o.dst v) w) : o.wp P a w K Q := by
  obtain ⟨dst, op, type, pos, after, guard⟩ := o
  simp only at ho
  subst ho
  obtain ⟨b, off, f, hv, hc, hE⟩ := hx
  exact opr_val (s := Instr.loadAt eT (a.eval x)) rfl (by rw [hv]; exact run_ldE T (hc T.pos)) (h _ ⟨f, rfl, hE⟩)
theorem RdL.take {A : Option Addr} {L : List α} {c k : Nat} (h : RdL n E w (.slice A L.length c) L) (hk : k ≤ L.length) : RdL n E w (.slice A k c) (L.take k) := by
  obtain ⟨fs, h1, e, h3⟩ := h
  rw [← e] at h1
  refine ⟨fs.take k, rdE_take h1 (by omega), by rw [List.length_take, List.length_take, e], fun i p hp => ?_⟩
  rw [List.getElem?_take] at hp ⊢
  split at hp
  next hlt => rw [if_pos hlt]; exact h3 i p hp
  next => cases hp
theorem RdL.drop {A : Option Addr} {L : List α} {c k : Nat} (h : RdL n E w (.slice A L.length c) L) (hk : k ≤ L.length) : RdL n E w (.slice (if c = k then A else A.map (·.add (k * n))) (L.length - k) (c - k)) (L.drop k) := by
  obtain ⟨fs, h1, e, h3⟩ := h
  rw [← e] at h1
  refine ⟨fs.drop k, by rw [← e]; exact rdE_drop h1 (by omega), by simp [e], fun i p hp => ?_⟩
  rw [List.getElem?_drop] at hp ⊢
  exact h3 _ p hp
/-- 'l[:k]'. -/
theorem opr_toL {L : List α} {k : Nat} {m : Int} (T : ElTy P sT eT n) (hk : k ≤ L.length) (hn : m = (k : Int)) (ho : o.op = .slice sT x none (some y) none) (hx : RdL n E w (a.eval x) L) (hy : a.eval y = .int .i64 m) (h : ∀ v, (svL n E (L.take k)).pred v w → K (a.put o.dst v) w) : o.wp P a w K Q := by
  subst hn
  obtain ⟨dst, op, type, pos, after, guard⟩ := o
  simp only at ho
  subst ho
  obtain ⟨A, c, hv, hc, _⟩ := hx.form
  rw [hv] at hx
  exact opr_val (s := Instr.sliceAt sT (a.eval x) none (some (a.eval y)) none) (by simp [execOp]) (by rw [hv, hy]; simp [Instr.sliceAt, run_underlying T.ul]; exact run_toE T w hk hc) (h _ (hx.take hk))
/-- 'l[k:]'. -/
theorem opr_fromL {L : List α} {k : Nat} {m : Int} (T : ElTy P sT eT n) (hk : k ≤ L.length) (hn : m = (k : Int)) (ho : o.op = .slice sT x (some y) none none) (hx : RdL n E w (a.eval x) L) (hy : a.eval y = .int .i64 m) (h : ∀ v, (svL n E (L.drop k)).pred v w → K (a.put o.dst v) w) : o.wp P a w K Q := by
  subst hn
  obtain ⟨dst, op, type, pos, after, guard⟩ := o
  simp only at ho
  subst ho
  obtain ⟨A, c, hv, hc, _⟩ := hx.form
  rw [hv] at hx
  exact opr_val (s := Instr.sliceAt sT (a.eval x) (some (a.eval y)) none none) (by simp [execOp]) (by rw [hv, hy]; simp [Instr.sliceAt, run_underlying T.ul]; exact run_fromE T w hk) (h _ (hx.drop hk))
end
/-- A row of the call's own, in blocks from B on, whose elements say the list. -/
def OwnL (eT : TypeId) (n : Nat) (E : World → (Nat → Value) → α → Prop) (W : World) (B : Nat) (v : Value) (L : List α) : Prop :=
  ∃ fs : List (Nat → Value), OwnE eT n W B v fs ∧ fs.length = L.length ∧ ∀ (i : Nat) (p : α), L[i]? = some p → ∃ f : Nat → Value, fs[i]? = some f ∧ E W f p
variable {eT : TypeId}
theorem OwnL.rd {W : World} {B : Nat} {v : Value} {L : List α} (h : OwnL eT n E W B v L) : RdL n E W v L := by
  obtain ⟨fs, h1, h2, h3⟩ := h; exact ⟨fs, h1.rd, h2, h3⟩
theorem ownL_nil (W : World) (B : Nat) : OwnL eT n E W B (.slice none 0 0) [] := ⟨[], ownE_nil W B, rfl, fun i p h => by simp at h⟩
theorem OwnL.lt {W : World} {B : Nat} {v : Value} {L : List α} (h : OwnL eT n E W B v L) : ∀ k, v.ownBlock = some k → B ≤ k ∧ k < W.heap.size := by
  obtain ⟨fs, h1, _⟩ := h; exact h1.lt
theorem OwnL.new [StbE E] {W W' : World} {B : Nat} {v : Value} {L : List α} (h : OwnL eT n E W B v L) (hN : NewT W W') : OwnL eT n E W' B v L := by
  obtain ⟨fs, h1, h2, h3⟩ := h
  refine ⟨fs, h1.new hN, h2, fun i p hp => ?_⟩
  obtain ⟨f, e1, e2⟩ := h3 i p hp
  exact ⟨f, e1, StbE.new e2 hN⟩
theorem OwnL.mono {W : World} {B B' : Nat} {v : Value} {L : List α} (h : OwnL eT n E W B v L) (hB : B' ≤ B) : OwnL eT n E W B' v L := by
  obtain ⟨fs, h1, h2⟩ := h; exact ⟨fs, h1.mono hB, h2⟩
def svOwnL (eT : TypeId) (n : Nat) (E : World → (Nat → Value) → α → Prop) [StbE E] (B : Nat) (L : List α) : SV NewT := ⟨fun v w => OwnL eT n E w B v L, fun _ _ _ h hT => h.new hT⟩
end
end Go.Proofs.Ytilmeffmdgcblaa
/- Sagas, as they go (layer 11), told by few numbers: the step that is next, whether it may have gone well, how many are left to be undone, tries, whether a call is out. That they end, within how many records, and how they stand then. No program is named here. -/
namespace Go.Proofs.Ytilmeffmdgcblaa
set_option maxRecDepth 8000
set_option linter.all false
/-- What steps' kinds must be. -/
structure MayK (ks : List Int) : Prop where
  l1 : 1 ≤ ks.length
  l6 : ks.length ≤ 6
  kind : ∀ i, i < ks.length → 1 ≤ ks.getD i 0 ∧ ks.getD i 0 ≤ 3
  ord : ∀ i, i + 1 < ks.length → ks.getD i 0 ≤ ks.getD (i + 1) 0 ∧ ¬ (ks.getD i 0 = 2 ∧ ks.getD (i + 1) 0 = 2)
def kd (ks : List Int) (i : Nat) : Int := ks.getD i 0
/-- Ahead of a step that isn't retried all can be compensated. -/
theorem MayK.below {ks : List Int} (h : MayK ks) : ∀ j, j < ks.length → kd ks j < 3 → ∀ i, i < j → kd ks i = 1
  | 0, _, _, i, hi => by omega
  | j + 1, hj, hk, i, hi => by
    have h1 := h.ord j hj
    have h2 := h.kind j (by omega)
    unfold kd at hk
    have h3 : kd ks j = 1 := by unfold kd; omega
    rcases Nat.lt_succ_iff_lt_or_eq.1 hi with h4 | rfl
    · exact h.below j (by omega) (by rw [h3]; omega) i h4
    · exact h3
/-- How a saga stands: phase, the step that is next, whether that may have gone well; of what is undone, from which one to which (r, top); tries; whether a call is out. -/
structure St where
  ph : Nat
  a : Nat
  p : Bool
  top : Nat
  r : Nat
  t : Nat
  w : Bool
theorem St.ext' {s u : St} (h1 : s.ph = u.ph) (h2 : s.a = u.a) (h3 : s.p = u.p) (h4 : s.top = u.top) (h5 : s.r = u.r) (h6 : s.t = u.t) (h7 : s.w = u.w) : s = u := by
  cases s; cases u; simp at h1 h2 h3 h4 h5 h6 h7; simp [h1, h2, h3, h4, h5, h6, h7]
def st0 : St := ⟨0, 0, false, 0, 0, 0, false⟩
/-- Behind an answer: 0 good, 1 not good, else none in time. -/
def ansA (ks : List Int) (lim ans : Nat) (s : St) : St :=
  if s.ph = 0 then
    (if ans = 0 then { s with a := s.a + 1, p := false, t := 0, w := false }
     else if ans = 1 then (if kd ks s.a < 3 then { s with p := false, ph := 1, top := s.a, r := s.a, t := 0, w := false } else { s with w := false })
     else (if kd ks s.a = 1 ∧ s.t = lim then { s with p := true, ph := 1, top := s.a + 1, r := s.a + 1, t := 0, w := false } else { s with p := true, w := false }))
  else (if ans = 0 then { s with r := s.r - 1, t := 0, w := false } else { s with w := false })
/-- Behind what is due. -/
def dueA (n lim : Nat) (s : St) : St :=
  if s.ph = 0 then (if s.a = n then { s with ph := 2 } else if s.t < lim then { s with t := s.t + 1, w := true } else { s with ph := 4 })
  else if s.ph = 1 then (if s.r = 0 then { s with ph := 3 } else if s.t < lim then { s with t := s.t + 1, w := true } else { s with ph := 4 })
  else s
/-- Behind a record more. -/
def nextA (ks : List Int) (lim ans : Nat) (s : St) : St := if s.w = true then ansA ks lim ans s else dueA ks.length lim s
/-- On the way forward. -/
structure Fw (ks : List Int) (s : St) : Prop where
  top : s.top = 0
  r : s.r = 0
  ph : s.ph = 0 ∨ s.ph = 2 ∨ s.ph = 4
  a : s.a ≤ ks.length
  p : s.p = true → s.a < ks.length
  w : s.w = true → s.ph = 0 ∧ s.a < ks.length ∧ 1 ≤ s.t
  two : s.ph = 2 → s.a = ks.length
/-- On the way back. -/
structure Bw (ks : List Int) (s : St) : Prop where
  ph : s.ph = 1 ∨ s.ph = 3 ∨ s.ph = 4
  a : s.a < ks.length
  kind : kd ks s.a < 3
  comp : s.p = true → kd ks s.a = 1
  top : s.top = if s.p = true then s.a + 1 else s.a
  r : s.r ≤ s.top
  w : s.w = true → s.ph = 1 ∧ 0 < s.r ∧ 1 ≤ s.t
  three : s.ph = 3 → s.r = 0
structure Inv (ks : List Int) (lim : Nat) (s : St) : Prop where
  t : s.t ≤ lim
  fb : Fw ks s ∨ Bw ks s
theorem inv_st0 {ks : List Int} (lim : Nat) : Inv ks lim st0 :=
  ⟨Nat.zero_le _, .inl ⟨rfl, rfl, .inl rfl, Nat.zero_le _, fun h => (by cases h), fun h => (by cases h), fun h => (by cases h)⟩⟩
/-- How many records more there may be. -/
def phi (n lim : Nat) (s : St) : Nat :=
  if s.ph = 0 then (if s.a < n then 2 * (lim - s.t) + (if s.w = true then 1 else 0) + 2 * lim * (n - 1 - s.a) + 2 * lim * n + 1 else 1)
  else if s.ph = 1 then (if 0 < s.r then 2 * (lim - s.t) + (if s.w = true then 1 else 0) + 2 * lim * (s.r - 1) + 1 else 1)
  else 0
theorem mul_le_of (M a b : Nat) (h : a ≤ b) : M * a ≤ M * b := Nat.mul_le_mul_left M h
/-- Each record keeps what holds, and leaves fewer. -/
theorem next_inv {ks : List Int} {lim ans : Nat} {s : St} (hk : MayK ks) (h : Inv ks lim s) : Inv ks lim (nextA ks lim ans s) := by
  obtain ⟨ht, hF | hB⟩ := h
  · by_cases hw : s.w = true
    · obtain ⟨h0, ha, h1⟩ := hF.w hw
      unfold nextA ansA
      rw [if_pos hw, if_pos h0]
      by_cases a0 : ans = 0
      · rw [if_pos a0]
        exact ⟨Nat.zero_le _, .inl ⟨hF.top, hF.r, .inl h0, ha, fun h => (by cases h), fun h => (by cases h), fun h => (by simp [h0] at h)⟩⟩
      rw [if_neg a0]
      by_cases a1 : ans = 1
      · rw [if_pos a1]
        by_cases k3 : kd ks s.a < 3
        · rw [if_pos k3]
          exact ⟨Nat.zero_le _, .inr ⟨.inl rfl, ha, k3, fun h => (by cases h), rfl, Nat.le_refl _, fun h => (by cases h), fun h => (by cases h)⟩⟩
        · rw [if_neg k3]
          exact ⟨ht, .inl ⟨hF.top, hF.r, hF.ph, hF.a, hF.p, fun h => (by cases h), fun h => (by simp [h0] at h)⟩⟩
      rw [if_neg a1]
      by_cases k1 : kd ks s.a = 1 ∧ s.t = lim
      · rw [if_pos k1]
        exact ⟨Nat.zero_le _, .inr ⟨.inl rfl, ha, by show kd ks s.a < 3; omega, fun _ => k1.1, rfl, Nat.le_refl _, fun h => (by cases h), fun h => (by cases h)⟩⟩
      · rw [if_neg k1]
        exact ⟨ht, .inl ⟨hF.top, hF.r, hF.ph, hF.a, fun _ => ha, fun h => (by cases h), fun h => (by simp [h0] at h)⟩⟩
    · unfold nextA dueA
      rw [if_neg hw]
      have hw' : s.w = false := by simpa using hw
      by_cases h0 : s.ph = 0
      · rw [if_pos h0]
        by_cases ha : s.a = ks.length
        · rw [if_pos ha]
          exact ⟨ht, .inl ⟨hF.top, hF.r, .inr (.inl rfl), hF.a, hF.p, fun h => (by simp [hw'] at h), fun _ => ha⟩⟩
        · rw [if_neg ha]
          have ha2 : s.a < ks.length := by have := hF.a; omega
          by_cases hl : s.t < lim
          · rw [if_pos hl]
            exact ⟨hl, .inl ⟨hF.top, hF.r, .inl h0, hF.a, hF.p, fun _ => ⟨h0, ha2, Nat.le_add_left _ _⟩, fun h => (by simp [h0] at h)⟩⟩
          · rw [if_neg hl]
            exact ⟨ht, .inl ⟨hF.top, hF.r, .inr (.inr rfl), hF.a, hF.p, fun h => (by simp [hw'] at h), fun h => (by cases h)⟩⟩
      · rw [if_neg h0]
        have h1 : s.ph ≠ 1 := by have := hF.ph; omega
        rw [if_neg h1]
        exact ⟨ht, .inl hF⟩
  · by_cases hw : s.w = true
    · obtain ⟨h1, hr, ht1⟩ := hB.w hw
      unfold nextA ansA
      rw [if_pos hw, if_neg (by omega)]
      by_cases a0 : ans = 0
      · rw [if_pos a0]
        exact ⟨Nat.zero_le _, .inr ⟨.inl h1, hB.a, hB.kind, hB.comp, hB.top, by have := hB.r; show s.r - 1 ≤ s.top; omega, fun h => (by cases h), fun h => (by simp [h1] at h)⟩⟩
      · rw [if_neg a0]
        exact ⟨ht, .inr ⟨hB.ph, hB.a, hB.kind, hB.comp, hB.top, hB.r, fun h => (by cases h), fun h => (by simp [h1] at h)⟩⟩
    · unfold nextA dueA
      rw [if_neg hw]
      have hw' : s.w = false := by simpa using hw
      have h0 : s.ph ≠ 0 := by have := hB.ph; omega
      rw [if_neg h0]
      by_cases h1 : s.ph = 1
      · rw [if_pos h1]
        by_cases hr : s.r = 0
        · rw [if_pos hr]
          exact ⟨ht, .inr ⟨.inr (.inl rfl), hB.a, hB.kind, hB.comp, hB.top, hB.r, fun h => (by simp [hw'] at h), fun _ => hr⟩⟩
        · rw [if_neg hr]
          by_cases hl : s.t < lim
          · rw [if_pos hl]
            exact ⟨hl, .inr ⟨.inl h1, hB.a, hB.kind, hB.comp, hB.top, hB.r, fun _ => ⟨h1, Nat.pos_of_ne_zero hr, Nat.le_add_left _ _⟩, fun h => (by simp [h1] at h)⟩⟩
          · rw [if_neg hl]
            exact ⟨ht, .inr ⟨.inr (.inr rfl), hB.a, hB.kind, hB.comp, hB.top, hB.r, fun h => (by simp [hw'] at h), fun h => (by cases h)⟩⟩
      · rw [if_neg h1]
        exact ⟨ht, .inr hB⟩
theorem next_phi {ks : List Int} {lim ans : Nat} {s : St} (h : Inv ks lim s) (ho : s.ph < 2) : phi ks.length lim (nextA ks lim ans s) < phi ks.length lim s := by
  obtain ⟨ht, hF | hB⟩ := h
  · have h0 : s.ph = 0 := by have := hF.ph; omega
    by_cases hw : s.w = true
    · obtain ⟨_, ha, h1⟩ := hF.w hw
      have e0 : phi ks.length lim s = 2 * (lim - s.t) + 1 + 2 * lim * (ks.length - 1 - s.a) + 2 * lim * ks.length + 1 := by unfold phi; rw [if_pos h0, if_pos ha, if_pos hw]
      rw [e0]
      unfold nextA ansA
      rw [if_pos hw, if_pos h0]
      by_cases a0 : ans = 0
      · rw [if_pos a0]
        unfold phi
        rw [if_pos h0]
        show (if s.a + 1 < ks.length then 2 * (lim - 0) + (if false = true then 1 else 0) + 2 * lim * (ks.length - 1 - (s.a + 1)) + 2 * lim * ks.length + 1 else 1) < _
        by_cases h2 : s.a + 1 < ks.length
        · rw [if_pos h2, show ks.length - 1 - s.a = (ks.length - 1 - (s.a + 1)) + 1 by omega, Nat.mul_succ]
          simp
          omega
        · rw [if_neg h2]; omega
      rw [if_neg a0]
      by_cases a1 : ans = 1
      · rw [if_pos a1]
        by_cases k3 : kd ks s.a < 3
        · rw [if_pos k3]
          unfold phi
          rw [if_neg (by show ¬ (1 = 0); omega), if_pos rfl]
          show (if 0 < s.a then 2 * (lim - 0) + (if false = true then 1 else 0) + 2 * lim * (s.a - 1) + 1 else 1) < _
          by_cases h2 : 0 < s.a
          · rw [if_pos h2]
            have h3 := mul_le_of (2 * lim) s.a ks.length (by omega)
            have h4 : 2 * lim * s.a = 2 * lim * (s.a - 1) + 2 * lim := by
              conv => lhs; rw [show s.a = (s.a - 1) + 1 by omega, Nat.mul_succ]
            simp
            omega
          · rw [if_neg h2]; omega
        · rw [if_neg k3]
          unfold phi
          rw [if_pos h0, if_pos ha]
          simp
      rw [if_neg a1]
      by_cases k1 : kd ks s.a = 1 ∧ s.t = lim
      · rw [if_pos k1]
        unfold phi
        rw [if_neg (by show ¬ (1 = 0); omega), if_pos rfl]
        show (if 0 < s.a + 1 then 2 * (lim - 0) + (if false = true then 1 else 0) + 2 * lim * (s.a + 1 - 1) + 1 else 1) < _
        rw [if_pos (by omega), Nat.add_sub_cancel]
        have h3 := mul_le_of (2 * lim) (s.a + 1) ks.length (by omega)
        rw [Nat.mul_succ] at h3
        simp
        omega
      · rw [if_neg k1]
        unfold phi
        rw [if_pos h0, if_pos ha]
        simp
    · have hw' : s.w = false := by simpa using hw
      unfold nextA dueA
      rw [if_neg hw, if_pos h0]
      by_cases ha : s.a = ks.length
      · rw [if_pos ha]
        unfold phi
        rw [if_neg (by show ¬ (2 = 0); omega), if_neg (by show ¬ (2 = 1); omega), if_pos h0, if_neg (by omega)]
        omega
      · rw [if_neg ha]
        have ha2 : s.a < ks.length := by have := hF.a; omega
        have e0 : phi ks.length lim s = 2 * (lim - s.t) + 0 + 2 * lim * (ks.length - 1 - s.a) + 2 * lim * ks.length + 1 := by unfold phi; rw [if_pos h0, if_pos ha2, hw']; rfl
        rw [e0]
        by_cases hl : s.t < lim
        · rw [if_pos hl]
          unfold phi
          rw [if_pos h0, if_pos ha2]
          simp
          omega
        · rw [if_neg hl]
          unfold phi
          rw [if_neg (by show ¬ (4 = 0); omega), if_neg (by show ¬ (4 = 1); omega)]
          omega
  · have h1 : s.ph = 1 := by have := hB.ph; omega
    have h0 : ¬ s.ph = 0 := by omega
    by_cases hw : s.w = true
    · obtain ⟨_, hr, ht1⟩ := hB.w hw
      have e0 : phi ks.length lim s = 2 * (lim - s.t) + 1 + 2 * lim * (s.r - 1) + 1 := by unfold phi; rw [if_neg h0, if_pos h1, if_pos hr, if_pos hw]
      rw [e0]
      unfold nextA ansA
      rw [if_pos hw, if_neg h0]
      by_cases a0 : ans = 0
      · rw [if_pos a0]
        unfold phi
        rw [if_neg h0, if_pos h1]
        show (if 0 < s.r - 1 then 2 * (lim - 0) + (if false = true then 1 else 0) + 2 * lim * (s.r - 1 - 1) + 1 else 1) < _
        by_cases h2 : 0 < s.r - 1
        · rw [if_pos h2]
          have h4 : 2 * lim * (s.r - 1) = 2 * lim * (s.r - 1 - 1) + 2 * lim := by
            conv => lhs; rw [show s.r - 1 = (s.r - 1 - 1) + 1 by omega, Nat.mul_succ]
          simp
          omega
        · rw [if_neg h2]; omega
      · rw [if_neg a0]
        unfold phi
        rw [if_neg h0, if_pos h1, if_pos hr]
        simp
    · have hw' : s.w = false := by simpa using hw
      unfold nextA dueA
      rw [if_neg hw, if_neg h0, if_pos h1]
      by_cases hr : s.r = 0
      · rw [if_pos hr]
        unfold phi
        rw [if_neg (by show ¬ (3 = 0); omega), if_neg (by show ¬ (3 = 1); omega), if_neg h0, if_pos h1, if_neg (by omega)]
        omega
      · rw [if_neg hr]
        have e0 : phi ks.length lim s = 2 * (lim - s.t) + 0 + 2 * lim * (s.r - 1) + 1 := by unfold phi; rw [if_neg h0, if_pos h1, if_pos (by omega), hw']; rfl
        rw [e0]
        by_cases hl : s.t < lim
        · rw [if_pos hl]
          unfold phi
          rw [if_neg h0, if_pos h1, if_pos (Nat.pos_of_ne_zero hr)]
          simp
          omega
        · rw [if_neg hl]
          unfold phi
          rw [if_neg (by show ¬ (4 = 0); omega), if_neg (by show ¬ (4 = 1); omega)]
          omega
/-- How a saga stands behind n records, and how many answers there were: the answers are told by ans. -/
def seqA (ks : List Int) (lim : Nat) (ans : Nat → Nat) : Nat → St × Nat
  | 0 => (st0, 0)
  | n + 1 => (nextA ks lim (ans (seqA ks lim ans n).2) (seqA ks lim ans n).1, if (seqA ks lim ans n).1.w = true then (seqA ks lim ans n).2 + 1 else (seqA ks lim ans n).2)
section
variable {ks : List Int} {lim : Nat} {ans : Nat → Nat}
theorem seq_inv (hk : MayK ks) : ∀ n, Inv ks lim (seqA ks lim ans n).1
  | 0 => inv_st0 lim
  | n + 1 => next_inv hk (seq_inv hk n)
theorem seq_phi (hk : MayK ks) : ∀ n, (∀ m, m < n → (seqA ks lim ans m).1.ph < 2) → phi ks.length lim (seqA ks lim ans n).1 + n ≤ phi ks.length lim st0
  | 0, _ => Nat.le_refl _
  | n + 1, h => by
    have h1 := seq_phi hk n fun m hm => h m (by omega)
    have h2 := next_phi (ans := ans (seqA ks lim ans n).2) (seq_inv (ans := ans) (lim := lim) hk n) (h n (by omega))
    show phi ks.length lim (nextA ks lim (ans (seqA ks lim ans n).2) (seqA ks lim ans n).1) + (n + 1) ≤ _
    omega
theorem phi_st0 (hk : MayK ks) : phi ks.length lim st0 = 4 * lim * ks.length + 1 := by
  have h1 := hk.l1
  unfold phi st0
  rw [if_pos rfl]
  simp only
  rw [if_pos (by omega), if_neg (by simp)]
  obtain ⟨m, hm⟩ : ∃ m, ks.length = m + 1 := ⟨ks.length - 1, by omega⟩
  rw [hm, show m + 1 - 1 - 0 = m by omega, Nat.mul_succ, Nat.mul_succ, show 4 * lim = 2 * lim + 2 * lim by omega, Nat.add_mul]
  omega
/-- It is over behind a first record, and that is soon. -/
theorem seq_ends (hk : MayK ks) : ∃ n, n ≤ 4 * lim * ks.length + 1 ∧ 2 ≤ (seqA ks lim ans n).1.ph ∧ ∀ m, m < n → (seqA ks lim ans m).1.ph < 2 := by
  have hq : ∀ b, (∃ n, n ≤ b ∧ 2 ≤ (seqA ks lim ans n).1.ph ∧ ∀ m, m < n → (seqA ks lim ans m).1.ph < 2) ∨ ∀ m, m ≤ b → (seqA ks lim ans m).1.ph < 2 := by
    intro b
    induction b with
    | zero =>
      by_cases h : (seqA ks lim ans 0).1.ph < 2
      · exact .inr fun m hm => by obtain rfl : m = 0 := by omega
                                  exact h
      · exact .inl ⟨0, Nat.le_refl _, by omega, fun m hm => by omega⟩
    | succ b ih =>
      rcases ih with ⟨n, h1, h2⟩ | h
      · exact .inl ⟨n, by omega, h2⟩
      · by_cases h1 : (seqA ks lim ans (b + 1)).1.ph < 2
        · exact .inr fun m hm => by
            rcases Nat.lt_or_ge m (b + 1) with h2 | h2
            · exact h m (by omega)
            · obtain rfl : m = b + 1 := by omega
              exact h1
        · exact .inl ⟨b + 1, Nat.le_refl _, by omega, fun m hm => h m (by omega)⟩
  rcases hq (4 * lim * ks.length + 1) with h | h
  · exact h
  · have h1 := seq_phi (lim := lim) (ans := ans) hk (4 * lim * ks.length + 1 + 1) fun m hm => h m (by omega)
    rw [phi_st0 hk] at h1
    omega
end
end Go.Proofs.Ytilmeffmdgcblaa
/- Sagas, as they go: what layer 11's laws say of them, told by the numbers of SA: all calls good, one not good, none answered; what goes. No program is named here. -/
namespace Go.Proofs.Ytilmeffmdgcblaa
set_option maxRecDepth 8000
set_option linter.all false
section
variable {ks : List Int} {lim : Nat} {ans : Nat → Nat}
theorem seq_next {n at_ : Nat} {s : St} (h : seqA ks lim ans n = (s, at_)) : seqA ks lim ans (n + 1) = (nextA ks lim (ans at_) s, if s.w = true then at_ + 1 else at_) := by
  rw [seqA, h]
/-- A call goes out on the way forward, and on the way back. -/
theorem out_f {s : St} (hw : s.w = false) (h0 : s.ph = 0) (ha : s.a < ks.length) (ht : s.t < lim) (q : Nat) : nextA ks lim q s = { s with t := s.t + 1, w := true } := by
  unfold nextA dueA
  rw [hw, if_neg (by simp), if_pos h0, if_neg (by omega), if_pos ht]
theorem out_b {s : St} (hw : s.w = false) (h1 : s.ph = 1) (hr : 0 < s.r) (ht : s.t < lim) (q : Nat) : nextA ks lim q s = { s with t := s.t + 1, w := true } := by
  unfold nextA dueA
  rw [hw, if_neg (by simp), if_neg (by omega), if_pos h1, if_neg (by omega), if_pos ht]
/-- All calls go well: as far as there are steps. -/
theorem good_seq {m : Nat} (hl : 1 ≤ lim) (hm : m ≤ ks.length) (ha : ∀ i, i < m → ans i = 0) : ∀ i, i ≤ m → seqA ks lim ans (2 * i) = (⟨0, i, false, 0, 0, 0, false⟩, i)
  | 0, _ => rfl
  | i + 1, hi => by
    have h1 := seq_next (good_seq hl hm ha i (by omega))
    rw [out_f rfl rfl (by show i < ks.length; omega) (by show 0 < lim; omega)] at h1
    replace h1 : seqA ks lim ans (2 * i + 1) = (⟨0, i, false, 0, 0, 1, true⟩, i) := h1
    have h2 := seq_next h1
    rw [show 2 * (i + 1) = 2 * i + 1 + 1 by omega, h2, ha i (by omega)]
    rfl
theorem good_odd {m : Nat} (hl : 1 ≤ lim) (hm : m ≤ ks.length) (ha : ∀ i, i < m → ans i = 0) {i : Nat} (hi : i ≤ m) (hi2 : i < ks.length) : seqA ks lim ans (2 * i + 1) = (⟨0, i, false, 0, 0, 1, true⟩, i) := by
  have h1 := seq_next (good_seq hl hm ha i hi)
  rw [out_f rfl rfl (by show i < ks.length; omega) (by show 0 < lim; omega)] at h1
  rw [h1]; rfl
/-- All go well: Committed behind two records for each step, and one. -/
theorem good_end (hl : 1 ≤ lim) (ha : ∀ i, i < ks.length → ans i = 0) : (seqA ks lim ans (2 * ks.length + 1)).1 = ⟨2, ks.length, false, 0, 0, 0, false⟩ ∧ ∀ m, m < 2 * ks.length + 1 → (seqA ks lim ans m).1.ph < 2 := by
  refine ⟨?_, fun m hm => ?_⟩
  · rw [seq_next (good_seq hl (Nat.le_refl _) ha ks.length (Nat.le_refl _))]
    dsimp only
    unfold nextA dueA
    rw [if_neg (by simp), if_pos rfl, if_pos rfl]
  · have h2 : m = 2 * (m / 2) ∨ m = 2 * (m / 2) + 1 := by omega
    rcases h2 with h | h
    · rw [h, good_seq hl (Nat.le_refl _) ha (m / 2) (by omega)]; simp
    · rw [h, good_odd hl (Nat.le_refl _) ha (i := m / 2) (by omega) (by omega)]; simp
/-- One doesn't, that isn't retried: back. -/
theorem bad_turn {k : Nat} (hl : 1 ≤ lim) (hk : k < ks.length) (hd : kd ks k < 3) (ha : ∀ i, i < k → ans i = 0) (h1 : ans k = 1) : seqA ks lim ans (2 * k + 2) = (⟨1, k, false, k, k, 0, false⟩, k + 1) := by
  rw [seq_next (good_odd hl (by omega : k ≤ ks.length) ha (i := k) (Nat.le_refl _) hk), h1]
  show (nextA ks lim 1 _, _) = _
  unfold nextA ansA
  rw [if_pos rfl, if_pos rfl, if_neg (by omega), if_pos rfl, if_pos hd]
  rfl
theorem bad_seq {k : Nat} (hl : 1 ≤ lim) (hk : k < ks.length) (hd : kd ks k < 3) (ha : ∀ i, i < k → ans i = 0) (h1 : ans k = 1) (h2 : ∀ i, k < i → ans i = 0) : ∀ j, j ≤ k → seqA ks lim ans (2 * k + 2 + 2 * j) = (⟨1, k, false, k, k - j, 0, false⟩, k + 1 + j)
  | 0, _ => bad_turn hl hk hd ha h1
  | j + 1, hj => by
    have e1 := seq_next (bad_seq hl hk hd ha h1 h2 j (by omega))
    rw [out_b rfl rfl (by show 0 < k - j; omega) (by show 0 < lim; omega)] at e1
    replace e1 : seqA ks lim ans (2 * k + 2 + 2 * j + 1) = (⟨1, k, false, k, k - j, 1, true⟩, k + 1 + j) := e1
    have e2 := seq_next e1
    rw [show 2 * k + 2 + 2 * (j + 1) = 2 * k + 2 + 2 * j + 1 + 1 by omega, e2, h2 (k + 1 + j) (by omega)]
    show (nextA ks lim 0 _, _) = _
    unfold nextA ansA
    rw [if_pos rfl, if_neg (by show ¬ (1 = 0); omega), if_pos rfl]
    show ((⟨1, k, false, k, k - j - 1, 0, false⟩ : St), k + 1 + j + 1) = _
    rw [show k - j - 1 = k - (j + 1) by omega, show k + 1 + j + 1 = k + 1 + (j + 1) by omega]
theorem bad_odd {k : Nat} (hl : 1 ≤ lim) (hk : k < ks.length) (hd : kd ks k < 3) (ha : ∀ i, i < k → ans i = 0) (h1 : ans k = 1) (h2 : ∀ i, k < i → ans i = 0) {j : Nat} (hj : j < k) : (seqA ks lim ans (2 * k + 2 + 2 * j + 1)).1.ph = 1 := by
  rw [seq_next (bad_seq hl hk hd ha h1 h2 j (by omega)), out_b rfl rfl (by show 0 < k - j; omega) (by show 0 < lim; omega)]
/-- It is Compensated behind as many records. -/
theorem bad_end {k : Nat} (hl : 1 ≤ lim) (hk : k < ks.length) (hd : kd ks k < 3) (ha : ∀ i, i < k → ans i = 0) (h1 : ans k = 1) (h2 : ∀ i, k < i → ans i = 0) : (seqA ks lim ans (2 * (k + 1) + 2 * k + 1)).1.ph = 3 ∧ ∀ m, m < 2 * (k + 1) + 2 * k + 1 → (seqA ks lim ans m).1.ph < 2 := by
  refine ⟨?_, fun m hm => ?_⟩
  · rw [show 2 * (k + 1) + 2 * k + 1 = 2 * k + 2 + 2 * k + 1 by omega, seq_next (bad_seq hl hk hd ha h1 h2 k (Nat.le_refl _))]
    dsimp only
    unfold nextA dueA
    rw [if_neg (by simp), if_neg (by show ¬ (1 = 0); omega), if_pos rfl, if_pos (by show k - k = 0; omega)]
  · rcases Nat.lt_or_ge m (2 * k + 2) with h3 | h3
    · have h4 : m = 2 * (m / 2) ∨ m = 2 * (m / 2) + 1 := by omega
      rcases h4 with h | h
      · rw [h, good_seq hl (by omega : k ≤ ks.length) ha (m / 2) (by omega)]; simp
      · rw [h, good_odd hl (by omega : k ≤ ks.length) ha (i := m / 2) (by omega) (by omega)]; simp
    · obtain ⟨q, hq⟩ : ∃ q, m = 2 * k + 2 + q := ⟨m - (2 * k + 2), by omega⟩
      have h4 : q = 2 * (q / 2) ∨ q = 2 * (q / 2) + 1 := by omega
      rcases h4 with h | h
      · rw [hq, h, bad_seq hl hk hd ha h1 h2 (q / 2) (by omega)]; simp
      · rw [hq, h, show 2 * k + 2 + (2 * (q / 2) + 1) = 2 * k + 2 + 2 * (q / 2) + 1 by omega, bad_odd hl hk hd ha h1 h2 (j := q / 2) (by omega)]; omega
/-- None is answered: tried as often as may be. -/
theorem try_seq (hn : 1 ≤ ks.length) (ha : ∀ i, i < lim → ans i = 2) : ∀ j, (j < lim ∨ j ≤ lim ∧ kd ks 0 ≠ 1) → seqA ks lim ans (2 * j) = (⟨0, 0, decide (0 < j), 0, 0, j, false⟩, j)
  | 0, _ => rfl
  | j + 1, hj => by
    have h1 := seq_next (try_seq hn ha j (by omega))
    rw [out_f rfl rfl (by show 0 < ks.length; omega) (by show j < lim; omega)] at h1
    replace h1 : seqA ks lim ans (2 * j + 1) = (⟨0, 0, decide (0 < j), 0, 0, j + 1, true⟩, j) := h1
    have h2 := seq_next h1
    rw [show 2 * (j + 1) = 2 * j + 1 + 1 by omega, h2, ha j (by omega)]
    show (nextA ks lim 2 _, _) = _
    unfold nextA ansA
    rw [if_pos rfl, if_pos rfl, if_neg (by omega), if_neg (by omega), if_neg (by show ¬ (kd ks 0 = 1 ∧ j + 1 = lim); omega)]
    simp
theorem try_odd (hn : 1 ≤ ks.length) (ha : ∀ i, i < lim → ans i = 2) {j : Nat} (hj : j < lim) : seqA ks lim ans (2 * j + 1) = (⟨0, 0, decide (0 < j), 0, 0, j + 1, true⟩, j) := by
  rw [seq_next (try_seq hn ha j (.inl hj)), out_f rfl rfl (by show 0 < ks.length; omega) (by show j < lim; omega)]
  rfl
theorem try_end (hn : 1 ≤ ks.length) (ha : ∀ i, i < lim → ans i = 2) (hc : kd ks 0 ≠ 1) : (seqA ks lim ans (2 * lim + 1)).1 = ⟨4, 0, decide (0 < lim), 0, 0, lim, false⟩ ∧ ∀ m, m < 2 * lim + 1 → (seqA ks lim ans m).1.ph < 2 := by
  refine ⟨?_, fun m hm => ?_⟩
  · rw [seq_next (try_seq hn ha lim (.inr ⟨Nat.le_refl _, hc⟩))]
    dsimp only
    unfold nextA dueA
    rw [if_neg (by simp), if_pos rfl, if_neg (by show ¬ (0 = ks.length); omega), if_neg (by show ¬ (lim < lim); omega)]
  · have h2 : m = 2 * (m / 2) ∨ m = 2 * (m / 2) + 1 := by omega
    rcases h2 with h | h
    · rw [h, try_seq hn ha (m / 2) (.inr ⟨by omega, hc⟩)]; simp
    · rw [h, try_odd hn ha (j := m / 2) (by omega)]; simp
theorem comp_turn (hl : 1 ≤ lim) (hn : 1 ≤ ks.length) (ha : ∀ i, i < 2 * lim → ans i = 2) (hc : kd ks 0 = 1) : seqA ks lim ans (2 * lim) = (⟨1, 0, true, 1, 1, 0, false⟩, lim) := by
  obtain ⟨q, rfl⟩ : ∃ q, lim = q + 1 := ⟨lim - 1, by omega⟩
  rw [show 2 * (q + 1) = 2 * q + 1 + 1 by omega, seq_next (try_odd hn (fun i hi => ha i (by omega)) (j := q) (by omega)), ha q (by omega)]
  show (nextA ks (q + 1) 2 _, _) = _
  unfold nextA ansA
  rw [if_pos rfl, if_pos rfl, if_neg (by omega), if_neg (by omega), if_pos ⟨hc, rfl⟩]
  rfl
theorem comp_seq (hl : 1 ≤ lim) (hn : 1 ≤ ks.length) (ha : ∀ i, i < 2 * lim → ans i = 2) (hc : kd ks 0 = 1) : ∀ j, j ≤ lim → seqA ks lim ans (2 * lim + 2 * j) = (⟨1, 0, true, 1, 1, j, false⟩, lim + j)
  | 0, _ => comp_turn hl hn ha hc
  | j + 1, hj => by
    have e1 := seq_next (comp_seq hl hn ha hc j (by omega))
    rw [out_b rfl rfl (by show 0 < 1; omega) (by show j < lim; omega)] at e1
    replace e1 : seqA ks lim ans (2 * lim + 2 * j + 1) = (⟨1, 0, true, 1, 1, j + 1, true⟩, lim + j) := e1
    have e2 := seq_next e1
    rw [show 2 * lim + 2 * (j + 1) = 2 * lim + 2 * j + 1 + 1 by omega, e2, ha (lim + j) (by omega)]
    show (nextA ks lim 2 _, _) = _
    unfold nextA ansA
    rw [if_pos rfl, if_neg (by show ¬ (1 = 0); omega), if_neg (by omega)]
    rfl
theorem comp_end (hl : 1 ≤ lim) (hn : 1 ≤ ks.length) (ha : ∀ i, i < 2 * lim → ans i = 2) (hc : kd ks 0 = 1) : (seqA ks lim ans (4 * lim + 1)).1 = ⟨4, 0, true, 1, 1, lim, false⟩ ∧ ∀ m, m < 4 * lim + 1 → (seqA ks lim ans m).1.ph < 2 := by
  refine ⟨?_, fun m hm => ?_⟩
  · rw [show 4 * lim + 1 = 2 * lim + 2 * lim + 1 by omega, seq_next (comp_seq hl hn ha hc lim (Nat.le_refl _))]
    dsimp only
    unfold nextA dueA
    rw [if_neg (by simp), if_neg (by show ¬ (1 = 0); omega), if_pos rfl, if_neg (by show ¬ (1 = 0); omega), if_neg (by show ¬ (lim < lim); omega)]
  · rcases Nat.lt_or_ge m (2 * lim) with h3 | h3
    · have h2 : m = 2 * (m / 2) ∨ m = 2 * (m / 2) + 1 := by omega
      rcases h2 with h | h
      · rw [h, try_seq hn (fun i hi => ha i (by omega)) (m / 2) (.inl (by omega))]; simp
      · rw [h, try_odd hn (fun i hi => ha i (by omega)) (j := m / 2) (by omega)]; simp
    · obtain ⟨q, hq⟩ : ∃ q, m = 2 * lim + q := ⟨m - 2 * lim, by omega⟩
      have h4 : q = 2 * (q / 2) ∨ q = 2 * (q / 2) + 1 := by omega
      rcases h4 with h | h
      · rw [hq, h, comp_seq hl hn ha hc (q / 2) (by omega)]; simp
      · rw [hq, h, ← Nat.add_assoc, seq_next (comp_seq hl hn ha hc (q / 2) (by omega)), out_b rfl rfl (by show 0 < 1; omega) (by show q / 2 < lim; omega)]; simp
end
/-- What is due: kind, step, try, back, end. -/
def dueK (n lim : Nat) (s : St) : Option (Int × Int × Int × Bool × Int) :=
  if s.w = true ∨ 2 ≤ s.ph then none
  else if s.ph = 0 then (if s.a = n then some (5, 0, 0, false, 2) else if s.t < lim then some (2, s.a, (s.t : Int) + 1, false, 0) else some (5, 0, 0, false, 4))
  else (if s.r = 0 then some (5, 0, 0, false, 3) else if s.t < lim then some (2, (s.r : Int) - 1, (s.t : Int) + 1, true, 0) else some (5, 0, 0, false, 4))
/-- The step whose call is due, or out. -/
def tgA (s : St) : Int := if s.ph = 1 then (s.r : Int) - 1 else s.a
/-- Does a record go, and where to? -/
def goS (ks : List Int) (lim : Nat) (seq : Int) (s : St) (x : Rc) : Option St :=
  if x.seq ≠ seq ∨ 2 ≤ s.ph then none
  else if x.kind = 2 ∨ x.kind = 5 then (if dueK ks.length lim s = some (x.kind, x.step, x.tr, x.back, x.nd) then some (dueA ks.length lim s) else none)
  else if x.kind = 3 ∨ x.kind = 4 then (if s.w = true ∧ x.step = tgA s ∧ x.tr = s.t ∧ x.back = decide (s.ph = 1) then some (ansA ks lim (if x.kind = 4 then 2 else if x.good = true then 0 else 1) s) else none)
  else none
/-- A saga that is over goes by no record; nothing is due. -/
theorem over_goes {ks : List Int} {lim : Nat} {seq : Int} {s : St} {x : Rc} (h : 2 ≤ s.ph) : goS ks lim seq s x = none := by unfold goS; rw [if_pos (.inr h)]
theorem over_due {n lim : Nat} {s : St} (h : 2 ≤ s.ph) : dueK n lim s = none := by unfold dueK; rw [if_pos (.inr h)]
/-- One that waits goes by no Intent and no end. -/
theorem waits_goes {ks : List Int} {lim : Nat} {seq : Int} {s u : St} {x : Rc} (hw : s.w = true) (h : goS ks lim seq s x = some u) : x.kind = 3 ∨ x.kind = 4 := by
  unfold goS at h
  split at h
  · cases h
  · split at h
    · rw [show dueK ks.length lim s = none from by unfold dueK; rw [if_pos (.inl hw)]] at h
      simp at h
    · split at h
      · assumption
      · cases h
end Go.Proofs.Ytilmeffmdgcblaa
/- Sagas' sets of steps, as numbers (bit i: step i): which steps went well, may have, were undone; which one is undone next; how a saga that is over stands. No program is named here. -/
namespace Go.Proofs.Ytilmeffmdgcblaa
set_option maxRecDepth 8000
set_option linter.all false
/-- Is a step in a set? -/
def hasN (x i : Nat) : Bool := x / 2 ^ i % 2 == 1
theorem hasN_bit (x i : Nat) : hasN x i = x.testBit i := by
  rw [Nat.testBit_eq_decide_div_mod_eq, hasN, Bool.eq_iff_iff]; simp
def doneN (s : St) : Nat := 2 ^ s.a - 1
def someN (s : St) : Nat := if s.p = true then 2 ^ s.a else 0
def undN (s : St) : Nat := 2 ^ s.top - 2 ^ s.r
theorem has_done (s : St) (i : Nat) : hasN (doneN s) i = decide (i < s.a) := by
  rw [hasN_bit, doneN, Nat.testBit_two_pow_sub_one]
theorem has_some (s : St) (i : Nat) : hasN (someN s) i = (s.p && decide (i = s.a)) := by
  rw [hasN_bit, someN]
  cases s.p
  · simp
  · rw [if_pos rfl, Nat.testBit_two_pow, Bool.true_and, Bool.eq_iff_iff]
    simp only [decide_eq_true_iff]
    exact ⟨fun h => h.symm, fun h => h.symm⟩
theorem has_und {s : St} (h : s.r ≤ s.top) (i : Nat) : hasN (undN s) i = (decide (s.r ≤ i) && decide (i < s.top)) := by
  rw [hasN_bit, undN]
  obtain ⟨d, hd⟩ : ∃ d, s.top = s.r + d := ⟨s.top - s.r, by omega⟩
  have e : 2 ^ s.top - 2 ^ s.r = 2 ^ s.r * (2 ^ d - 1) := by
    rw [hd, Nat.pow_add, Nat.mul_sub, Nat.mul_one]
  rw [e, Nat.mul_comm, Nat.testBit_mul_two_pow, Nat.testBit_two_pow_sub_one, Bool.eq_iff_iff]
  simp only [Bool.and_eq_true, decide_eq_true_iff]
  omega
theorem put_done (a : Nat) : 2 ^ a - 1 + 2 ^ a = 2 ^ (a + 1) - 1 := by
  have := Nat.two_pow_pos a
  rw [Nat.pow_succ]; omega
theorem put_und {top r : Nat} (h : r ≤ top) (h0 : 0 < r) : 2 ^ top - 2 ^ r + 2 ^ (r - 1) = 2 ^ top - 2 ^ (r - 1) := by
  have h1 : 2 ^ r ≤ 2 ^ top := Nat.pow_le_pow_right (by omega) h
  have h2 : 2 ^ r = 2 ^ (r - 1) + 2 ^ (r - 1) := by
    conv => lhs; rw [show r = (r - 1) + 1 by omega, Nat.pow_succ]
    omega
  generalize 2 ^ top = T at *
  generalize 2 ^ r = R at *
  generalize 2 ^ (r - 1) = Q at *
  omega
/-- May a step be undone next? -/
def undoB (ks : List Int) (s : St) (i : Nat) : Bool := (kd ks i == 1 && (hasN (doneN s) i || hasN (someN s) i)) && !hasN (undN s) i
/-- On the way back these are the first r. -/
theorem undo_bw {ks : List Int} {s : St} (hk : MayK ks) (h : Bw ks s) {i : Nat} (_ : i < ks.length) : undoB ks s i = decide (i < s.r) := by
  unfold undoB
  rw [has_done, has_some, has_und h.r, Bool.eq_iff_iff]
  have ht := h.top
  simp only [Bool.and_eq_true, Bool.or_eq_true, decide_eq_true_iff, Bool.not_eq_true', Bool.and_eq_false_iff, decide_eq_false_iff_not, beq_iff_eq]
  constructor
  · rintro ⟨⟨_, h2⟩, h3⟩
    rcases h3 with h3 | h3
    · omega
    · rcases h2 with h2 | ⟨h2, h4⟩
      · split at ht <;> omega
      · rw [h2, if_pos rfl] at ht; omega
  · intro hi
    have hr := h.r
    refine ⟨⟨?_, ?_⟩, .inl (by omega)⟩
    · rcases Nat.lt_or_ge i s.a with h1 | h1
      · exact hk.below s.a h.a h.kind i h1
      · have hp : s.p = true := by
          cases hp : s.p with
          | true => rfl
          | false => rw [hp, if_neg (by simp)] at ht; omega
        rw [hp, if_pos rfl] at ht
        obtain rfl : i = s.a := by omega
        exact h.comp hp
    · rcases Nat.lt_or_ge i s.a with h1 | h1
      · exact .inl h1
      · cases hp : s.p with
        | true => rw [hp, if_pos rfl] at ht; exact .inr ⟨rfl, by omega⟩
        | false => rw [hp, if_neg (by simp)] at ht; omega
/-- What is missing. -/
def missB (s : St) (i : Nat) : Bool := !(s.ph == 2) && (hasN (doneN s) i && !hasN (undN s) i)
/-- How a saga stands that is over. -/
theorem ends_steps {ks : List Int} {lim : Nat} {s : St} (hk : MayK ks) (h : Inv ks lim s) {i : Nat} (hi : i < ks.length) :
    (s.ph = 2 → hasN (doneN s) i = true ∧ hasN (undN s) i = false) ∧ (s.ph = 3 → ¬ (hasN (doneN s) i = true ∧ hasN (undN s) i = false)) ∧ (hasN (undN s) i = true → kd ks i = 1) ∧ (kd ks i = 2 → hasN (doneN s) i = true → undN s = 0) := by
  obtain ⟨_, hF | hB⟩ := h
  · have hu : undN s = 0 := by unfold undN; rw [hF.top, hF.r]
    have hn : hasN (undN s) i = false := by rw [hu, hasN_bit]; simp
    refine ⟨fun h2 => ⟨?_, hn⟩, fun h3 => ?_, fun h4 => ?_, fun _ _ => hu⟩
    · rw [has_done, hF.two h2]; simpa using hi
    · have := hF.ph; omega
    · rw [hn] at h4; cases h4
  · have hr := hB.r
    have ht := hB.top
    have hle : s.a ≤ s.top := by split at ht <;> omega
    refine ⟨fun h2 => ?_, fun h3 => ?_, fun h4 => ?_, fun h5 h6 => ?_⟩
    · have := hB.ph; omega
    · rintro ⟨h6, h7⟩
      rw [has_done, decide_eq_true_iff] at h6
      rw [has_und hr, hB.three h3] at h7
      simp at h7
      omega
    · rw [has_und hr] at h4
      simp only [Bool.and_eq_true, decide_eq_true_iff] at h4
      rcases Nat.lt_or_ge i s.a with h1 | h1
      · exact hk.below s.a hB.a hB.kind i h1
      · have hp : s.p = true := by
          cases hp : s.p with
          | true => rfl
          | false => rw [hp, if_neg (by simp)] at ht; omega
        rw [hp, if_pos rfl] at ht
        obtain rfl : i = s.a := by omega
        exact hB.comp hp
    · rw [has_done, decide_eq_true_iff] at h6
      have := hk.below s.a hB.a hB.kind i h6
      omega
/-- Nothing is missing of one that is Committed or Compensated. -/
theorem ends_missing {ks : List Int} {lim : Nat} {s : St} (hk : MayK ks) (h : Inv ks lim s) (h2 : s.ph = 2 ∨ s.ph = 3) {i : Nat} (hi : i < ks.length) : missB s i = false := by
  unfold missB
  rcases h2 with h2 | h2
  · rw [h2]; rfl
  · have h3 := (ends_steps hk h hi).2.1 h2
    cases h4 : hasN (doneN s) i with
    | false => simp
    | true =>
      cases h5 : hasN (undN s) i with
      | true => simp
      | false => exact absurd ⟨h4, h5⟩ h3
end Go.Proofs.Ytilmeffmdgcblaa
/- A saga's cells: its steps, phase, next step, tries, whether a call is out, and a compensation, what went well, was undone, may have gone well, how many records. No program is named here. -/
namespace Go.Proofs.Ytilmeffmdgcblaa
open Go Go.RowKit
set_option maxRecDepth 8000
set_option linter.all false
def saF (sv : Value) (ph at_ tr : Int) (wt bk : Bool) (dn un so sq : Int) (i : Nat) : Value := if i = 0 then sv else if i = 1 then .int .i64 ph else if i = 2 then .int .i64 at_ else if i = 3 then .int .i64 tr else if i = 4 then .bool wt else if i = 5 then .bool bk else if i = 6 then .int .i64 dn else if i = 7 then .int .i64 un else if i = 8 then .int .i64 so else .int .i64 sq
theorem saF_one (sv : Value) (ph at_ tr : Int) (wt bk : Bool) (dn un so sq : Int) (hs : sv.oneCell' = true) (i : Nat) : (saF sv ph at_ tr wt bk dn un so sq i).oneCell' = true := by
  unfold saF
  repeat' split
  all_goals first | exact hs | rfl
section
variable (sv : Value) (ph at_ tr : Int) (wt bk : Bool) (dn un so sq : Int)
theorem ss_sv (z : Value) (i : Nat) (hi : i < 10) : saF z ph at_ tr wt bk dn un so sq i = if i = 0 then z else saF sv ph at_ tr wt bk dn un so sq i := by
  unfold saF
  by_cases h : i = 0
  · subst h; rfl
  · simp only [h, if_false]
theorem ss_ph (z : Int) (i : Nat) (hi : i < 10) : saF sv z at_ tr wt bk dn un so sq i = if i = 1 then .int .i64 z else saF sv ph at_ tr wt bk dn un so sq i := by
  unfold saF
  by_cases h : i = 1
  · subst h; rfl
  · simp only [h, if_false]
theorem ss_at (z : Int) (i : Nat) (hi : i < 10) : saF sv ph z tr wt bk dn un so sq i = if i = 2 then .int .i64 z else saF sv ph at_ tr wt bk dn un so sq i := by
  unfold saF
  by_cases h : i = 2
  · subst h; rfl
  · simp only [h, if_false]
theorem ss_tr (z : Int) (i : Nat) (hi : i < 10) : saF sv ph at_ z wt bk dn un so sq i = if i = 3 then .int .i64 z else saF sv ph at_ tr wt bk dn un so sq i := by
  unfold saF
  by_cases h : i = 3
  · subst h; rfl
  · simp only [h, if_false]
theorem ss_wt (z : Bool) (i : Nat) (hi : i < 10) : saF sv ph at_ tr z bk dn un so sq i = if i = 4 then .bool z else saF sv ph at_ tr wt bk dn un so sq i := by
  unfold saF
  by_cases h : i = 4
  · subst h; rfl
  · simp only [h, if_false]
theorem ss_bk (z : Bool) (i : Nat) (hi : i < 10) : saF sv ph at_ tr wt z dn un so sq i = if i = 5 then .bool z else saF sv ph at_ tr wt bk dn un so sq i := by
  unfold saF
  by_cases h : i = 5
  · subst h; rfl
  · simp only [h, if_false]
theorem ss_dn (z : Int) (i : Nat) (hi : i < 10) : saF sv ph at_ tr wt bk z un so sq i = if i = 6 then .int .i64 z else saF sv ph at_ tr wt bk dn un so sq i := by
  unfold saF
  by_cases h : i = 6
  · subst h; rfl
  · simp only [h, if_false]
theorem ss_un (z : Int) (i : Nat) (hi : i < 10) : saF sv ph at_ tr wt bk dn z so sq i = if i = 7 then .int .i64 z else saF sv ph at_ tr wt bk dn un so sq i := by
  unfold saF
  by_cases h : i = 7
  · subst h; rfl
  · simp only [h, if_false]
theorem ss_so (z : Int) (i : Nat) (hi : i < 10) : saF sv ph at_ tr wt bk dn un z sq i = if i = 8 then .int .i64 z else saF sv ph at_ tr wt bk dn un so sq i := by
  unfold saF
  by_cases h : i = 8
  · subst h; rfl
  · simp only [h, if_false]
theorem ss_sq (z : Int) (i : Nat) (hi : i < 10) : saF sv ph at_ tr wt bk dn un so z i = if i = 9 then .int .i64 z else saF sv ph at_ tr wt bk dn un so sq i := by
  unfold saF
  by_cases h : i = 9
  · subst h; rfl
  · rw [if_neg h]
    repeat' split
    all_goals first | rfl | omega
end
/-- The cells of a saga that stands so. -/
def stF (sv : Value) (s : St) (seq : Int) (i : Nat) : Value := saF sv s.ph s.a s.t s.w (s.w && s.ph == 1) (doneN s) (undN s) (someN s) seq i
/-- A value that is a saga: its steps, how it stands, how many records it has. -/
def SagaV (w : World) (v : Value) (l : List (Int × Int)) (s : St) (seq : Int) : Prop := ∃ sv, v = .agg (rowA 10 (stF sv s seq)) ∧ RdP w sv l
theorem NewT.saga {w w' : World} (h : NewT w w') {v : Value} {l : List (Int × Int)} {s : St} {seq : Int} (hr : SagaV w v l s seq) : SagaV w' v l s seq := by
  obtain ⟨sv, h1, h2⟩ := hr
  exact ⟨sv, h1, h.pairs h2⟩
/-- The zero saga. -/
theorem stF_zero (sv : Value) (i : Nat) : stF sv st0 0 i = saF sv 0 0 0 false false 0 0 0 0 i := rfl
end Go.Proofs.Ytilmeffmdgcblaa
/- Single operations: a pointer that isn't nil, sums, differences, products. -/
namespace Go.Proofs.Ytilmeffmdgcblaa
open Go Go.RowKit
set_option maxRecDepth 8000
set_option linter.all false
section
variable {P : Program} {a : Act} {w : World} {o : Oper} {K : Act → World → Prop} {Q : Exit → Act → World → Prop} {x y : Operand}
theorem opr_nilc {A : Addr} (ho : o.op = .nilCheck x) (hx : a.eval x = .pointer (some A)) (h : K (a.put o.dst (.pointer (some A))) w) : o.wp P a w K Q := by
  obtain ⟨dst, op, type, pos, after, guard⟩ := o
  simp only at ho
  subst ho
  simpa [Oper.wp, execOp, hx, Oper.upon, Sem.run_pure] using h
theorem opr_add {t t2 : TypeId} {m n r : Int} (ht : P.underlying t = some (.int .i64)) (hr : wrap64 (m + n) = r) (ho : o.op = .binOp .add t x y t2) (hx : a.eval x = .int .i64 m) (hy : a.eval y = .int .i64 n) (h : K (a.put o.dst (.int .i64 r)) w) : o.wp P a w K Q := by
  obtain ⟨dst, op, type, pos, after, guard⟩ := o
  simp only at ho
  subst ho hr
  refine opr_val (s := do eqGuard .add t x y (a.eval x) (a.eval y); binOp .add t (a.eval x) (a.eval y)) rfl ?_ h
  rw [hx, hy]; simp [go_sem]; rw [IntKind.wrap_i64, wrap64]
theorem opr_sub {t t2 : TypeId} {m n r : Int} (ht : P.underlying t = some (.int .i64)) (hr : wrap64 (m - n) = r) (ho : o.op = .binOp .sub t x y t2) (hx : a.eval x = .int .i64 m) (hy : a.eval y = .int .i64 n) (h : K (a.put o.dst (.int .i64 r)) w) : o.wp P a w K Q := by
  obtain ⟨dst, op, type, pos, after, guard⟩ := o
  simp only at ho
  subst ho hr
  refine opr_val (s := do eqGuard .sub t x y (a.eval x) (a.eval y); binOp .sub t (a.eval x) (a.eval y)) rfl ?_ h
  rw [hx, hy]; simp [go_sem]; rw [IntKind.wrap_i64, wrap64]
theorem opr_mul {t t2 : TypeId} {m n r : Int} (ht : P.underlying t = some (.int .i64)) (hr : wrap64 (m * n) = r) (ho : o.op = .binOp .mul t x y t2) (hx : a.eval x = .int .i64 m) (hy : a.eval y = .int .i64 n) (h : K (a.put o.dst (.int .i64 r)) w) : o.wp P a w K Q := by
  obtain ⟨dst, op, type, pos, after, guard⟩ := o
  simp only at ho
  subst ho hr
  refine opr_val (s := do eqGuard .mul t x y (a.eval x) (a.eval y); binOp .mul t (a.eval x) (a.eval y)) rfl ?_ h
  rw [hx, hy]; simp [go_sem]; rw [IntKind.wrap_i64, wrap64]
end
end Go.Proofs.Ytilmeffmdgcblaa
/- Boxes of one value; what calls hand back together: rows, flags. -/
namespace Go.Proofs.Ytilmeffmdgcblaa
open Go Go.RowKit
set_option maxRecDepth 8000
set_option linter.all false
theorem rowIs_one (w : World) (t : TypeId) (v : Value) : (w.alloc (.cells #[v] t)).rowIs w.heap.size t 1 (fun _ => v) := rowIs_box w t 1 (fun _ => v)
section
variable {P : Program} {w : World} {fn : Func} {tmps : Array Value}
theorem run_ldV_row {b n : Nat} {t ty : TypeId} {d : TypeDesc} {f : Nat → Value} (h : w.rowIs b t n f) (hu : P.underlying ty = some d) (hd : d.isRow = true) (hi : (P.info? ty).map (·.size) = some n) : (loadVar ty ⟨b, 0, none⟩).run P w = .ok (.agg (rowA n f)) w := by
  simpa using run_loadVar_mid (P := P) w b 0 ty (rowA n f).toList d (rangeAt_row h) hu hd (by rw [hi, rowA_toList]; simp)
theorem run_ldV_one {b : Nat} {t ty : TypeId} {v : Value} {d : TypeDesc} (h : w.rowIs b t 1 (fun _ => v)) (hu : P.underlying ty = some d) (hd : d.isRow = false) : (loadVar ty ⟨b, 0, none⟩).run P w = .ok v w := by
  have ha : (isAgg ty).run P w = .ok false w := by
    unfold isAgg
    rw [Sem.run_bind, run_underlying hu w]
    cases d <;> first | rfl | cases hd
  have hc := h.cell (i := 0) (by omega)
  simp only [loadVar, Sem.run_bind, ha, Result.andThen_ok, Bool.false_eq_true, if_false]
  simp [run_load, hc]
/-- A row, and what lies in a variable. -/
theorem results_rv {p q : Tmp} {tp tq t t' : TypeId} {d d' : TypeDesc} {n b b' : Nat} {f : Nat → Value} {v : Value} (hf : fn.results = #[.cell p tp, .cell q tq]) (hp : tmps.getD p undef = .pointer (some ⟨b, 0, none⟩)) (hq : tmps.getD q undef = .pointer (some ⟨b', 0, none⟩))
    (h : w.rowIs b t n f) (h' : w.rowIs b' t' 1 (fun _ => v)) (hu : P.underlying tp = some d) (hd : d.isRow = true) (hi : (P.info? tp).map (·.size) = some n) (hu' : P.underlying tq = some d') (hd' : d'.isRow = false) : (results fn tmps).run P w = .ok (.tuple #[.agg (rowA n f), v]) w := by
  have e1 := run_ldV_row (P := P) h hu hd hi
  have e2 := run_ldV_one (P := P) h' hu' hd'
  have hp' : tmps[p]?.getD undef = .pointer (some ⟨b, 0, none⟩) := by simpa using hp
  have hq' : tmps[q]?.getD undef = .pointer (some ⟨b', 0, none⟩) := by simpa using hq
  simp [results, hf, hp', hq', asAddr, e1, e2]
/-- A row, and a value of the frame. -/
theorem results_rt {p u : Tmp} {tp t : TypeId} {d : TypeDesc} {n b : Nat} {f : Nat → Value} {v : Value} (hf : fn.results = #[.cell p tp, .tmp u]) (hp : tmps.getD p undef = .pointer (some ⟨b, 0, none⟩)) (hv : tmps.getD u undef = v)
    (h : w.rowIs b t n f) (hu : P.underlying tp = some d) (hd : d.isRow = true) (hi : (P.info? tp).map (·.size) = some n) : (results fn tmps).run P w = .ok (.tuple #[.agg (rowA n f), v]) w := by
  have e1 := run_ldV_row (P := P) h hu hd hi
  have hp' : tmps[p]?.getD undef = .pointer (some ⟨b, 0, none⟩) := by simpa using hp
  have hv' : tmps[u]?.getD undef = v := by simpa using hv
  simp [results, hf, hp', hv', asAddr, e1]
/-- Two rows, and a value of the frame. -/
theorem results_rrt {p q u : Tmp} {tp t t' : TypeId} {d : TypeDesc} {n b b' : Nat} {f f' : Nat → Value} {v : Value} (hf : fn.results = #[.cell p tp, .cell q tp, .tmp u]) (hp : tmps.getD p undef = .pointer (some ⟨b, 0, none⟩)) (hq : tmps.getD q undef = .pointer (some ⟨b', 0, none⟩)) (hv : tmps.getD u undef = v)
    (h : w.rowIs b t n f) (h' : w.rowIs b' t' n f') (hu : P.underlying tp = some d) (hd : d.isRow = true) (hi : (P.info? tp).map (·.size) = some n) : (results fn tmps).run P w = .ok (.tuple #[.agg (rowA n f), .agg (rowA n f'), v]) w := by
  have e1 := run_ldV_row (P := P) h hu hd hi
  have e2 := run_ldV_row (P := P) h' hu hd hi
  have hp' : tmps[p]?.getD undef = .pointer (some ⟨b, 0, none⟩) := by simpa using hp
  have hq' : tmps[q]?.getD undef = .pointer (some ⟨b', 0, none⟩) := by simpa using hq
  have hv' : tmps[u]?.getD undef = v := by simpa using hv
  simp [results, hf, hp', hq', hv', asAddr, e1, e2]
variable {a : Act} {o : Oper} {K : Act → World → Prop} {Q : Exit → Act → World → Prop}
/-- A closure is made. -/
theorem opr_mkf {fid : Nat} {xs : Array Operand} {cap : Array Value} (ho : o.op = .makeFunc (.func fid) #[] xs) (hx : xs.map a.eval = cap) (h : K (a.put o.dst (.func (.func fid) #[] cap)) w) : o.wp P a w K Q := by
  obtain ⟨dst, op, type, pos, after, guard⟩ := o
  simp only at ho
  subst ho
  subst hx
  exact opr_val (s := Instr.makeFunc (.func fid) #[] (xs.map a.eval)) (by simp [execOp]) rfl h
/-- One of the values that a call hands back together. -/
theorem opr_ext {k : Nat} {x : Operand} {vs : Array Value} {v : Value} (ho : o.op = .extract x k) (hx : a.eval x = .tuple vs) (hv : vs[k]? = some v) (h : K (a.put o.dst v) w) : o.wp P a w K Q := by
  obtain ⟨dst, op, type, pos, after, guard⟩ := o
  simp only at ho
  subst ho
  exact opr_val (s := Instr.extract (a.eval x) k) (by simp [execOp]) (by rw [hx]; simp [Instr.extract, hv]) h
end
end Go.Proofs.Ytilmeffmdgcblaa
/- Package saga's base: sagas in memory as rows, their fields, loads and stores; sets of steps as numbers; what a saga is behind a record, on plain numbers. -/
namespace Go.Proofs.Ytilmeffmdgcblaa
open Go Go.RowKit
set_option maxRecDepth 8000
set_option linter.all false
/-- A saga's numbers. -/
structure Sg where
  ph : Int
  at_ : Int
  tr : Int
  wt : Bool
  bk : Bool
  dn : Int
  un : Int
  so : Int
  sq : Int
def sgF (sv : Value) (g : Sg) : Nat → Value := saF sv g.ph g.at_ g.tr g.wt g.bk g.dn g.un g.so g.sq
def zG : Sg := ⟨0, 0, 0, false, false, 0, 0, 0, 0⟩
/-- How a saga stands, as its numbers. -/
def ofSt (s : St) (sq : Int) : Sg := ⟨s.ph, s.a, s.t, s.w, s.w && s.ph == 1, doneN s, undN s, someN s, sq⟩
theorem sgF_st (sv : Value) (s : St) (sq : Int) : stF sv s sq = sgF sv (ofSt s sq) := rfl
theorem sgF_one (sv : Value) (g : Sg) (hs : sv.oneCell' = true) (i : Nat) : (sgF sv g i).oneCell' = true := saF_one _ _ _ _ _ _ _ _ _ _ hs i
section
variable (sv : Value) (g : Sg) (i : Nat) (hi : i < 10)
include hi
theorem gs_ph (z : Int) : sgF sv { g with ph := z } i = if i = 1 then .int .i64 z else sgF sv g i := ss_ph sv _ _ _ _ _ _ _ _ _ z i hi
theorem gs_at (z : Int) : sgF sv { g with at_ := z } i = if i = 2 then .int .i64 z else sgF sv g i := ss_at sv _ _ _ _ _ _ _ _ _ z i hi
theorem gs_tr (z : Int) : sgF sv { g with tr := z } i = if i = 3 then .int .i64 z else sgF sv g i := ss_tr sv _ _ _ _ _ _ _ _ _ z i hi
theorem gs_wt (z : Bool) : sgF sv { g with wt := z } i = if i = 4 then .bool z else sgF sv g i := ss_wt sv _ _ _ _ _ _ _ _ _ z i hi
theorem gs_bk (z : Bool) : sgF sv { g with bk := z } i = if i = 5 then .bool z else sgF sv g i := ss_bk sv _ _ _ _ _ _ _ _ _ z i hi
theorem gs_dn (z : Int) : sgF sv { g with dn := z } i = if i = 6 then .int .i64 z else sgF sv g i := ss_dn sv _ _ _ _ _ _ _ _ _ z i hi
theorem gs_un (z : Int) : sgF sv { g with un := z } i = if i = 7 then .int .i64 z else sgF sv g i := ss_un sv _ _ _ _ _ _ _ _ _ z i hi
theorem gs_so (z : Int) : sgF sv { g with so := z } i = if i = 8 then .int .i64 z else sgF sv g i := ss_so sv _ _ _ _ _ _ _ _ _ z i hi
theorem gs_sq (z : Int) : sgF sv { g with sq := z } i = if i = 9 then .int .i64 z else sgF sv g i := ss_sq sv _ _ _ _ _ _ _ _ _ z i hi
end
theorem put_allN (n : Nat) (F G : Nat → Value) : ∀ i, i < n → F i = if 0 ≤ i ∧ i < 0 + n then F (i - 0) else G i := fun i hi => by
  rw [if_pos (by omega), Nat.sub_zero]
/-- Sets of steps as the program reckons with them. -/
def orI (m n : Int) : Int := bits .or .i64 m n
def andI (m n : Int) : Int := bits .and .i64 m n
def notI (m n : Int) : Int := bits .andNot .i64 m n
def bitI (k : Int) : Int := 2 ^ k.toNat
theorem info_saga : (Try.prog.info? 48).map (·.size) = some 10 := by kernel_rfl
theorem run_alloc_saga (w : World) : (Instr.alloc 48 true (.tuple #[])).run Try.prog w = .ok (.pointer (some ⟨w.heap.size, 0, none⟩)) (w.alloc (.cells (rowA 10 (sgF (.slice none 0 0) zG)) 48)) := by kernel_rfl
theorem build_saga0 (w : World) : (Instr.build 48 #[]).run Try.prog w = .ok (.agg (rowA 10 (sgF (.slice none 0 0) zG))) w := by kernel_rfl
theorem build_saga (A : Option Addr) (n c : Nat) (w : World) : (Instr.build 48 #[(0, .slice A n c), (1, .int .i64 0), (9, .int .i64 1)]).run Try.prog w = .ok (.agg (rowA 10 (sgF (.slice A n c) (ofSt st0 1)))) w := by kernel_rfl
theorem build_sagaS (A : Option Addr) (n c : Nat) (w : World) : (Instr.build 48 #[(0, .slice A n c), (9, .int .i64 1)]).run Try.prog w = .ok (.agg (rowA 10 (sgF (.slice A n c) (ofSt st0 1)))) w := by kernel_rfl
theorem run_zero_rec (w : World) : (zeroValue 46).run Try.prog w = .ok (.agg (rowA 109 (recF zR (.slice none 0 0) (.slice none 0 0)))) w := by kernel_rfl
theorem build_rec0 (w : World) : (Instr.build 46 #[]).run Try.prog w = .ok (.agg (rowA 109 (recF zR (.slice none 0 0) (.slice none 0 0)))) w := by kernel_rfl
theorem build_closed (e : Int) (w : World) : (Instr.build 46 #[(0, .int .i64 5), (7, .int .i64 e)]).run Try.prog w = .ok (.agg (rowA 109 (recF { zR with kind := 5, nd := e } (.slice none 0 0) (.slice none 0 0)))) w := by kernel_rfl
theorem build_intent (k t : Int) (b : Bool) (w : World) : (Instr.build 46 #[(0, .int .i64 2), (3, .int .i64 k), (4, .int .i64 t), (5, .bool b)]).run Try.prog w = .ok (.agg (rowA 109 (recF { zR with kind := 2, step := k, tr := t, back := b } (.slice none 0 0) (.slice none 0 0)))) w := by kernel_rfl
theorem build_receipt (k t : Int) (b q : Bool) (w : World) : (Instr.build 46 #[(0, .int .i64 3), (3, .int .i64 k), (4, .int .i64 t), (5, .bool b), (6, .bool q)]).run Try.prog w = .ok (.agg (rowA 109 (recF { zR with kind := 3, step := k, tr := t, back := b, good := q } (.slice none 0 0) (.slice none 0 0)))) w := by kernel_rfl
theorem build_receipt2 (s t : Int) (w : World) : (Instr.build 46 #[(0, .int .i64 3), (2, .int .i64 s), (4, .int .i64 t)]).run Try.prog w = .ok (.agg (rowA 109 (recF { zR with kind := 3, seq := s, tr := t } (.slice none 0 0) (.slice none 0 0)))) w := by kernel_rfl
section
variable {a : Act} {w : World} {o : Oper} {K : Act → World → Prop} {Q : Exit → Act → World → Prop} {x y : Operand} {g : Nat} {t' : TypeId} {F : Nat → Value}
theorem opr_fldU0 (ho : o.op = .fieldAddr 48 x 0) (hx : a.eval x = .pointer (some ⟨g, 0, none⟩)) (h : K (a.put o.dst (.pointer (some ⟨g, 0, none⟩))) w) : o.wp Try.prog a w K Q := opr_fld Try.underlying48 rfl info_steps1 ho hx (by rfl) h
theorem opr_fldU1 (ho : o.op = .fieldAddr 48 x 1) (hx : a.eval x = .pointer (some ⟨g, 0, none⟩)) (h : K (a.put o.dst (.pointer (some ⟨g, 1, none⟩))) w) : o.wp Try.prog a w K Q := opr_fld Try.underlying48 rfl info_int ho hx (by rfl) h
theorem opr_fldU2 (ho : o.op = .fieldAddr 48 x 2) (hx : a.eval x = .pointer (some ⟨g, 0, none⟩)) (h : K (a.put o.dst (.pointer (some ⟨g, 2, none⟩))) w) : o.wp Try.prog a w K Q := opr_fld Try.underlying48 rfl info_int ho hx (by rfl) h
theorem opr_fldU3 (ho : o.op = .fieldAddr 48 x 3) (hx : a.eval x = .pointer (some ⟨g, 0, none⟩)) (h : K (a.put o.dst (.pointer (some ⟨g, 3, none⟩))) w) : o.wp Try.prog a w K Q := opr_fld Try.underlying48 rfl info_int ho hx (by rfl) h
theorem opr_fldU4 (ho : o.op = .fieldAddr 48 x 4) (hx : a.eval x = .pointer (some ⟨g, 0, none⟩)) (h : K (a.put o.dst (.pointer (some ⟨g, 4, none⟩))) w) : o.wp Try.prog a w K Q := opr_fld Try.underlying48 rfl info_bool ho hx (by rfl) h
theorem opr_fldU5 (ho : o.op = .fieldAddr 48 x 5) (hx : a.eval x = .pointer (some ⟨g, 0, none⟩)) (h : K (a.put o.dst (.pointer (some ⟨g, 5, none⟩))) w) : o.wp Try.prog a w K Q := opr_fld Try.underlying48 rfl info_bool ho hx (by rfl) h
theorem opr_fldU6 (ho : o.op = .fieldAddr 48 x 6) (hx : a.eval x = .pointer (some ⟨g, 0, none⟩)) (h : K (a.put o.dst (.pointer (some ⟨g, 6, none⟩))) w) : o.wp Try.prog a w K Q := opr_fld Try.underlying48 rfl info_int ho hx (by rfl) h
theorem opr_fldU7 (ho : o.op = .fieldAddr 48 x 7) (hx : a.eval x = .pointer (some ⟨g, 0, none⟩)) (h : K (a.put o.dst (.pointer (some ⟨g, 7, none⟩))) w) : o.wp Try.prog a w K Q := opr_fld Try.underlying48 rfl info_int ho hx (by rfl) h
theorem opr_fldU8 (ho : o.op = .fieldAddr 48 x 8) (hx : a.eval x = .pointer (some ⟨g, 0, none⟩)) (h : K (a.put o.dst (.pointer (some ⟨g, 8, none⟩))) w) : o.wp Try.prog a w K Q := opr_fld Try.underlying48 rfl info_int ho hx (by rfl) h
theorem opr_fldU9 (ho : o.op = .fieldAddr 48 x 9) (hx : a.eval x = .pointer (some ⟨g, 0, none⟩)) (h : K (a.put o.dst (.pointer (some ⟨g, 9, none⟩))) w) : o.wp Try.prog a w K Q := opr_fld Try.underlying48 rfl info_int ho hx (by rfl) h
theorem opr_ldU (hr : w.rowIs g t' 10 F) (ho : o.op = .load 48 x) (hx : a.eval x = .pointer (some ⟨g, 0, none⟩)) (h : K (a.put o.dst (.agg (rowA 10 F))) w) : o.wp Try.prog a w K Q :=
  opr_ldm Try.underlying48 rfl info_saga ho hx hr (by omega) (by rw [rowA_congr (g := F) fun i _ => by rw [Nat.zero_add]]; exact h)
theorem opr_orI {P : Program} {t t2 : TypeId} {m n : Int} (ho : o.op = .binOp .or t x y t2) (hx : a.eval x = .int .i64 m) (hy : a.eval y = .int .i64 n) (h : K (a.put o.dst (.int .i64 (orI m n))) w) : o.wp P a w K Q := by
  obtain ⟨dst, op, type, pos, after, guard⟩ := o
  simp only at ho
  subst ho
  refine opr_val (s := do eqGuard .or t x y (a.eval x) (a.eval y); binOp .or t (a.eval x) (a.eval y)) rfl ?_ h
  rw [hx, hy]; simp [go_sem]; rfl
theorem opr_andI {P : Program} {t t2 : TypeId} {m n : Int} (ho : o.op = .binOp .and t x y t2) (hx : a.eval x = .int .i64 m) (hy : a.eval y = .int .i64 n) (h : K (a.put o.dst (.int .i64 (andI m n))) w) : o.wp P a w K Q := by
  obtain ⟨dst, op, type, pos, after, guard⟩ := o
  simp only at ho
  subst ho
  refine opr_val (s := do eqGuard .and t x y (a.eval x) (a.eval y); binOp .and t (a.eval x) (a.eval y)) rfl ?_ h
  rw [hx, hy]; simp [go_sem]; rfl
theorem opr_notI {P : Program} {t t2 : TypeId} {m n : Int} (ho : o.op = .binOp .andNot t x y t2) (hx : a.eval x = .int .i64 m) (hy : a.eval y = .int .i64 n) (h : K (a.put o.dst (.int .i64 (notI m n))) w) : o.wp P a w K Q := by
  obtain ⟨dst, op, type, pos, after, guard⟩ := o
  simp only at ho
  subst ho
  refine opr_val (s := do eqGuard .andNot t x y (a.eval x) (a.eval y); binOp .andNot t (a.eval x) (a.eval y)) rfl ?_ h
  rw [hx, hy]; simp [go_sem]; rfl
/-- A place where a step lies, where a number lies. -/
def svStp (d : Int × Int) : SV NewT := ⟨fun v w => ∃ b o, v = .pointer (some ⟨b, o, none⟩) ∧ w.cell? ⟨b, o, none⟩ = some (.int .i64 d.1) ∧ w.cell? ⟨b, o + 1, none⟩ = some (.int .i64 d.2),
  fun _ _ _ ⟨b, o, h1, h2, h3⟩ hT => ⟨b, o, h1, (hT.out.cell (World.block_lt_of_cell? _ _ h2)).trans h2, (hT.out.cell (World.block_lt_of_cell? _ _ h3)).trans h3⟩⟩
def svIp (z : Int) : SV NewT := ⟨fun v w => ∃ b o, v = .pointer (some ⟨b, o, none⟩) ∧ w.cell? ⟨b, o, none⟩ = some (.int .i64 z),
  fun _ _ _ ⟨b, o, h1, h2⟩ hT => ⟨b, o, h1, (hT.out.cell (World.block_lt_of_cell? _ _ h2)).trans h2⟩⟩
theorem opr_idxSt {k : Nat} {z : Int} {l : List (Int × Int)} {d : Int × Int} (hd : k < l.length ∧ l.getD k (0, 0) = d) (hz : (k : Int) = z) (ho : o.op = .indexAddr 43 x y) (hx : RdP w (a.eval x) l) (hy : a.eval y = .int .i64 z) (h : ∀ v, (svStp d).pred v w → K (a.put o.dst v) w) : o.wp Try.prog a w K Q := by
  obtain ⟨A, c, hv, _, _, h3⟩ := hx
  obtain ⟨b, o1, rfl, hc⟩ := h3 (by omega)
  have hk := hc k hd.1
  rw [hd.2] at hk
  refine opr_idxS hd.1 ho hv (by rw [hy, hz]) (h _ ⟨b, o1 + 2 * k, rfl, hk⟩)
theorem opr_fldSt0 {d : Int × Int} (ho : o.op = .fieldAddr 58 x 0) (hx : (svStp d).pred (a.eval x) w) (h : ∀ v, (svIp d.1).pred v w → K (a.put o.dst v) w) : o.wp Try.prog a w K Q := by
  obtain ⟨b, o1, hv, h1, _⟩ := hx
  exact opr_fldS (k := 0) (by omega) ho hv (h _ ⟨b, o1 + 0, rfl, h1⟩)
theorem opr_fldSt1 {d : Int × Int} (ho : o.op = .fieldAddr 58 x 1) (hx : (svStp d).pred (a.eval x) w) (h : ∀ v, (svIp d.2).pred v w → K (a.put o.dst v) w) : o.wp Try.prog a w K Q := by
  obtain ⟨b, o1, hv, _, h1⟩ := hx
  exact opr_fldS (k := 1) (by omega) ho hv (h _ ⟨b, o1 + 1, rfl, h1⟩)
theorem opr_ldIp {z : Int} (ho : o.op = .load 3 x) (hx : (svIp z).pred (a.eval x) w) (h : K (a.put o.dst (.int .i64 z)) w) : o.wp Try.prog a w K Q := by
  obtain ⟨b, o1, hv, h1⟩ := hx
  exact opr_ld1 Try.underlying3 rfl ho hv h1 h
theorem opr_ldStp {d : Int × Int} (ho : o.op = .load 58 x) (hx : (svStp d).pred (a.eval x) w) (h : K (a.put o.dst (.agg (rowA 2 (stepF d)))) w) : o.wp Try.prog a w K Q := by
  obtain ⟨b, o1, hv, h1, h2⟩ := hx
  exact opr_ld2 h1 h2 ho hv h
end
end Go.Proofs.Ytilmeffmdgcblaa
/- What is due of a saga, whether a record goes, and the saga behind it: on plain numbers, as the program reckons. No program is named here. -/
namespace Go.Proofs.Ytilmeffmdgcblaa
open Go Go.RowKit
set_option maxRecDepth 8000
set_option linter.all false
def kdL (l : List (Int × Int)) (i : Nat) : Int := (l.getD i (0, 0)).2
/-- The last one, if any is. -/
def lastT (f : Nat → Bool) : Nat → Option Nat
  | 0 => none
  | n + 1 => if f n = true then some n else lastT f n
def opnI (g : Sg) : Int := notI (orI g.dn g.so) g.un
def isTg (l : List (Int × Int)) (op : Int) (i : Nat) : Bool := (kdL l i == 1) && (andI op (bitI i) != 0)
def tgtO (l : List (Int × Int)) (g : Sg) : Option Nat := lastT (isTg l (opnI g)) l.length
def oI : Option Nat → Int
  | some i => i
  | none => 0
def nextI (l : List (Int × Int)) (g : Sg) : Int := if g.ph = 1 then oI (tgtO l g) else if inR g.at_ 0 ((l.length : Int) - 1) = true then g.at_ else 0
def nextB (l : List (Int × Int)) (g : Sg) : Bool := if g.ph = 1 then (tgtO l g).isSome else inR g.at_ 0 ((l.length : Int) - 1)
def overB (p : Int) : Bool := (p == 2 || p == 3) || p == 4
def clR (e : Int) : Rc := { zR with kind := 5, nd := e }
def inG (lim : Int) (g : Sg) : Bool := !((!inR lim 1 9 || g.wt) || overB g.ph)
def dueX (l : List (Int × Int)) (lim : Int) (g : Sg) : Rc :=
  if inG lim g = true then
    (if nextB l g = true then (if g.tr < lim then { zR with kind := 2, step := nextI l g, tr := g.tr + 1, back := g.ph == 1 } else clR 4)
     else if g.ph = 1 then clR 3 else clR 2)
  else zR
def isDueB (l : List (Int × Int)) (lim : Int) (g : Sg) (x : Rc) : Bool :=
  ((((inG lim g && x.kind == (dueX l lim g).kind) && x.step == (dueX l lim g).step) && x.tr == (dueX l lim g).tr) && x.back == (dueX l lim g).back) && x.nd == (dueX l lim g).nd
def isOutB (l : List (Int × Int)) (g : Sg) (x : Rc) : Bool := (((g.wt && nextB l g) && x.step == nextI l g) && x.tr == g.tr) && x.back == g.bk
def fitsB (l : List (Int × Int)) (lim : Int) (g : Sg) (x : Rc) : Bool :=
  if x.kind = 2 ∨ x.kind = 5 then isDueB l lim g x else if x.kind = 3 ∨ x.kind = 4 then isOutB l g x else false
def turnG (g : Sg) : Sg := { g with ph := 1, tr := 0 }
def wellG (g : Sg) (b : Bool) (k : Int) : Sg := if b = true then { g with tr := 0, un := orI g.un (bitI k) } else { g with tr := 0, dn := orI g.dn (bitI k), so := notI g.so (bitI k), at_ := g.at_ + 1 }
def refG (l : List (Int × Int)) (g : Sg) (k : Int) : Sg := if kdL l k.toNat = 3 then g else turnG { g with so := notI g.so (bitI k) }
def lapG (l : List (Int × Int)) (lim : Int) (g : Sg) (b : Bool) (k : Int) : Sg :=
  if b = true then g else if kdL l k.toNat = 1 ∧ g.tr = lim then turnG { g with so := orI g.so (bitI k) } else { g with so := orI g.so (bitI k) }
def begG (g : Sg) (x : Rc) : Sg := { g with sq := g.sq + 1, wt := x.kind == 2, bk := x.kind == 2 && x.back }
def behG (l : List (Int × Int)) (lim : Int) (g : Sg) (x : Rc) : Sg :=
  if x.kind = 2 then { begG g x with tr := x.tr } else if x.kind = 5 then { begG g x with ph := x.nd }
  else if x.kind = 3 then (if x.good = true then wellG (begG g x) x.back x.step else if x.back = false then refG l (begG g x) x.step else lapG l lim (begG g x) x.back x.step)
  else if x.kind = 4 then lapG l lim (begG g x) x.back x.step else begG g x
def goesB (l : List (Int × Int)) (lim : Int) (g : Sg) (x : Rc) : Bool := !((!inR lim 1 9 || x.seq != g.sq) || !fitsB l lim g x)
def wentG (l : List (Int × Int)) (lim : Int) (g : Sg) (x : Rc) : Sg := if goesB l lim g x = true then behG l lim g x else g
/-- Numbers that are small enough. -/
structure OkG (l : List (Int × Int)) (g : Sg) : Prop where
  len : 1 ≤ l.length ∧ l.length ≤ 6
  at_ : 0 ≤ g.at_ ∧ g.at_ ≤ 6
  tr : 0 ≤ g.tr ∧ g.tr ≤ 9
  sq : 0 ≤ g.sq ∧ g.sq ≤ 1000000
end Go.Proofs.Ytilmeffmdgcblaa
/- Whether steps may be a saga's: on lists, step by step, as the program asks and as the document has it; new sagas; sets of steps asked by halving. No program is named here. -/
namespace Go.Proofs.Ytilmeffmdgcblaa
open Go Go.RowKit
set_option maxRecDepth 8000
set_option linter.all false
def ptL (l : List (Int × Int)) (i : Nat) : Int := (l.getD i (0, 0)).1
/-- May a step stand there? -/
def stepMay (l : List (Int × Int)) (i : Nat) : Bool := decide ((0 ≤ ptL l i ∧ ptL l i ≤ 3) ∧ (1 ≤ kdL l i ∧ kdL l i ≤ 3) ∧ (0 < i → kdL l (i - 1) ≤ kdL l i ∧ ¬ (kdL l i = 2 ∧ kdL l (i - 1) = 2)))
def upMay (l : List (Int × Int)) (k : Nat) : Bool := (List.range k).all (stepMay l)
def mayL (l : List (Int × Int)) : Bool := inR (l.length : Int) 1 6 && upMay l l.length
theorem upMay_iff (l : List (Int × Int)) (k : Nat) : upMay l k = true ↔ ∀ i, i < k → stepMay l i = true := by simp [upMay]
theorem upMay_succ (l : List (Int × Int)) (k : Nat) : upMay l (k + 1) = (upMay l k && stepMay l k) := by simp [upMay, List.range_succ]
theorem upMay_no {l : List (Int × Int)} {k n : Nat} (hk : k < n) (h : stepMay l k = false) : upMay l n = false := by
  cases hu : upMay l n with
  | false => rfl
  | true => rw [(upMay_iff l n).1 hu k hk] at h; cases h
def leastN (l : List (Int × Int)) (k : Nat) : Int := if k = 0 then 1 else if kdL l (k - 1) = 2 then 3 else kdL l (k - 1)
theorem step_prog {l : List (Int × Int)} {k : Nat} (h : upMay l k = true) : (!inR (ptL l k) 0 3 || !inR (kdL l k) (leastN l k) 3) = !stepMay l k := by
  have hp : 0 < k → 1 ≤ kdL l (k - 1) ∧ kdL l (k - 1) ≤ 3 := fun hk => by
    have := (upMay_iff l k).1 h (k - 1) (by omega)
    unfold stepMay at this
    have := of_decide_eq_true this
    exact this.2.1
  cases hs : stepMay l k with
  | true =>
    unfold stepMay at hs
    have hs := of_decide_eq_true hs
    have e1 : inR (ptL l k) 0 3 = true := (inR_iff _ _ _).2 hs.1
    have e2 : inR (kdL l k) (leastN l k) 3 = true := (inR_iff _ _ _).2 (by
      refine ⟨?_, hs.2.1.2⟩
      unfold leastN
      split
      · exact hs.2.1.1
      · have := hs.2.2 (by omega)
        have := hp (by omega)
        split <;> omega)
    rw [e1, e2]; rfl
  | false =>
    cases e1 : inR (ptL l k) 0 3 with
    | false => rfl
    | true =>
      cases e2 : inR (kdL l k) (leastN l k) 3 with
      | false => rfl
      | true =>
        exfalso
        have h1 := (inR_iff _ _ _).1 e1
        have h2 := (inR_iff _ _ _).1 e2
        unfold stepMay at hs
        refine of_decide_eq_false hs ⟨h1, ?_, fun hk => ?_⟩
        · unfold leastN at h2
          split at h2
          · exact h2
          · have := hp (by omega)
            split at h2 <;> omega
        · have := hp hk
          unfold leastN at h2
          rw [if_neg (by omega)] at h2
          split at h2 <;> omega
theorem least_next (l : List (Int × Int)) (k : Nat) : leastN l (k + 1) = if kdL l k = 2 then 3 else kdL l k := by
  unfold leastN
  rw [if_neg (by omega), Nat.add_sub_cancel]
theorem may_len {l : List (Int × Int)} (h : mayL l = true) : 1 ≤ l.length ∧ l.length ≤ 6 := by
  unfold mayL at h
  rw [Bool.and_eq_true] at h
  have := (inR_iff _ _ _).1 h.1
  omega
theorem may_step {l : List (Int × Int)} (h : mayL l = true) {i : Nat} (hi : i < l.length) : (0 ≤ ptL l i ∧ ptL l i ≤ 3) ∧ (1 ≤ kdL l i ∧ kdL l i ≤ 3) ∧ (0 < i → kdL l (i - 1) ≤ kdL l i ∧ ¬ (kdL l i = 2 ∧ kdL l (i - 1) = 2)) := by
  unfold mayL at h
  rw [Bool.and_eq_true] at h
  have := (upMay_iff l l.length).1 h.2 i hi
  unfold stepMay at this
  exact of_decide_eq_true this
/-- The kinds of steps that may be. -/
theorem may_kinds {l : List (Int × Int)} (h : mayL l = true) : MayK (l.map (·.2)) := by
  have hl := may_len h
  have e : ∀ i, (l.map (·.2)).getD i 0 = kdL l i := fun i => by
    unfold kdL
    simp only [List.getD, List.getElem?_map]
    cases l[i]? <;> rfl
  refine ⟨by simpa using hl.1, by simpa using hl.2, fun i hi => ?_, fun i hi => ?_⟩
  · rw [e]; exact (may_step h (by simpa using hi)).2.1
  · rw [e, e]
    have := (may_step h (i := i + 1) (by simpa using hi)).2.2 (by omega)
    rw [Nat.add_sub_cancel] at this
    exact ⟨this.1, fun ⟨a, b⟩ => this.2 ⟨b, a⟩⟩
theorem kd_map (l : List (Int × Int)) (i : Nat) : kd (l.map (·.2)) i = kdL l i := by
  unfold kd kdL
  simp only [List.getD, List.getElem?_map]
  cases l[i]? <;> rfl
def newG (l : List (Int × Int)) : Sg := if mayL l = true then ofSt st0 1 else zG
def newL (l : List (Int × Int)) : List (Int × Int) := if mayL l = true then l else []
/-- A value that is a saga, its steps in a block from B on. -/
def SgV (w : World) (v : Value) (l : List (Int × Int)) (g : Sg) : Prop := ∃ sv, v = .agg (rowA 10 (sgF sv g)) ∧ RdP w sv l
theorem NewT.sgV {w w' : World} (h : NewT w w') {v : Value} {l : List (Int × Int)} {g : Sg} (hr : SgV w v l g) : SgV w' v l g := by
  obtain ⟨sv, h1, h2⟩ := hr
  exact ⟨sv, h1, h.pairs h2⟩
def svSg (l : List (Int × Int)) (g : Sg) : SV NewT := ⟨fun v w => SgV w v l g, fun _ _ _ h hT => hT.sgV h⟩
end Go.Proofs.Ytilmeffmdgcblaa
/- Package saga: ranges, bits, ends, whether one is over, what is missing, one that turns back. -/
namespace Go.Proofs.Ytilmeffmdgcblaa
open Go Go.RowKit
set_option maxRecDepth 8000
set_option linter.all false
attribute [local go_sem] run_zero_rec
set_option maxHeartbeats 1000000 in
theorem gWithin_cv (n lo hi : Int) (w : World) : Cv 50 #[.int .i64 n, .int .i64 lo, .int .i64 hi] w (.eq (.bool (inR n lo hi))) := by
  unfold Cv
  go_enter Try.func50, Try.ntmps50
  go_upto_region 1 with fail
  obtain ⟨q1_1, Q1_1⟩ : ∃ bq_, ((decide (lo ≤ n)) && (decide (n ≤ hi))) = bq_ := ⟨_, rfl⟩
  refine wp_region_steps0 NewT [SV.eq (.int .i64 (lo)), SV.eq (.int .i64 (n)), SV.eq (.bool (decide (lo ≤ n))), SV.eq (.bool (decide (lo ≤ n))), svIf (decide (lo ≤ n)) (SV.eq (.int .i64 (n))), svIf (decide (lo ≤ n)) (SV.eq (.int .i64 (hi))), svIf (decide (lo ≤ n)) (SV.eq (.bool (decide (n ≤ hi)))), SV.eq (.bool (q1_1)), SV.eq (.bool (q1_1))] [([(1, none)], none), ([(0, none)], none), ([(7, some 0), (8, some 1)], none), ([(9, some 2)], none), ([(0, none), (10, some 3)], some (10, true)), ([(2, none), (10, some 3)], some (10, true)), ([(11, some 4), (12, some 5), (10, some 3)], some (10, true)), ([(10, some 3), (13, some 6)], none), ([(14, some 7)], none)] 15 9 rfl rfl (by kernel_rfl) NewT.trans (NewT.refl _) (Nat.le_of_ble_eq_true rfl) ⟨?_, ?_, ?_, ?_, ?_, ?_, ?_, ?_, ?_, trivial⟩ ?_
  · exact fun a wx hT hF K hK => rely_wp rfl (opr_move (.inl rfl) (hK _ _ (NewT.refl _) hF.1))
  · exact fun a wx hT hF K hK => rely_wp rfl (opr_move (.inl rfl) (hK _ _ (NewT.refl _) hF.1))
  · exact fun a wx hT hF K hK => rely_wp rfl (opr_cmp (b := decide (lo ≤ n)) (.inr (.inr (.inl ⟨rfl, rfl⟩))) Try.underlying3 rfl hF.1 hF.2.1 (hK _ _ (NewT.refl _) rfl))
  · exact fun a wx hT hF K hK => rely_wp rfl (opr_move (.inl rfl) (hK _ _ (NewT.refl _) hF.1))
  · exact fun a wx hT hF K hK => rely_if (rely_gt hF.2.1) (NewT.refl _) hK fun hE hK => opr_move (.inl rfl) (hK _ _ (NewT.refl _) hF.1)
  · exact fun a wx hT hF K hK => rely_if (rely_gt hF.2.1) (NewT.refl _) hK fun hE hK => opr_move (.inl rfl) (hK _ _ (NewT.refl _) hF.1)
  · exact fun a wx hT hF K hK => rely_if (rely_gt hF.2.2.1) (NewT.refl _) hK fun hE hK => opr_cmp (b := decide (n ≤ hi)) (.inr (.inr (.inl ⟨rfl, rfl⟩))) Try.underlying3 rfl (hF.1 hE) (hF.2.1 hE) (hK _ _ (NewT.refl _) rfl)
  · exact fun a wx hT hF K hK => rely_wp rfl (opr_pick_b rfl hF.1 (fun hb => hK _ _ (NewT.refl _) (pn_and1 Q1_1 (hF.2.1 hb) hb)) (fun hb => hK _ _ (NewT.refl _) (pn_and0 Q1_1 hb)))
  · exact fun a wx hT hF K hK => rely_wp rfl (opr_move (.inr rfl) (hK _ _ (NewT.refl _) hF.1))
  · intro wx hT
    iterate 4 (intro u h; obtain rfl := Eq.symm (h (by simp)); clear h)
    iterate 3 (intro _ _)
    iterate 2 (intro u h; obtain rfl := Eq.symm (h (by simp)); clear h)
    subst Q1_1
    refine relyEnd_nil rfl ?_
    refine wpList_end rfl ?_
    simp only [Act.put, List.setIfInBounds_toArray, List.set_cons_zero, List.set_cons_succ]
    go_simp
    go_wp2
    go_ret
    exact ⟨_, rfl, hT, rfl⟩
set_option maxHeartbeats 1000000 in
theorem gLimit_cv (n : Int) (w : World) : Cv 37 #[.int .i64 n] w (.eq (.bool (inR n 1 9))) := by
  unfold Cv
  go_enter Try.func37, Try.ntmps37
  go_upto_region 1 with fail
  refine wp_region_steps0 NewT [SV.eq (.int .i64 (n)), SV.eq (.bool (inR n 1 9)), SV.eq (.bool (inR n 1 9))] [([(0, none)], none), ([(3, some 0)], none), ([(4, some 1)], none)] 5 3 rfl rfl (by kernel_rfl) NewT.trans (NewT.refl _) (Nat.le_of_ble_eq_true rfl) ⟨?_, ?_, ?_, trivial⟩ ?_
  · exact fun a wx hT hF K hK => rely_wp rfl (opr_move (.inl rfl) (hK _ _ (NewT.refl _) hF.1))
  · exact fun a wx hT hF K hK => rely_wp rfl (opr_cv (gWithin_cv n 1 9 wx) rfl Try.func50 (by kernel_rfl) (by kernel_rfl) (evs3 hF.1 rfl rfl) hK)
  · exact fun a wx hT hF K hK => rely_wp rfl (opr_move (.inr rfl) (hK _ _ (NewT.refl _) hF.1))
  · intro wx hT
    iterate 3 (intro u h; obtain rfl := Eq.symm (h (by simp)); clear h)
    refine relyEnd_nil rfl ?_
    refine wpList_end rfl ?_
    simp only [Act.put, List.setIfInBounds_toArray, List.set_cons_zero, List.set_cons_succ]
    go_simp
    go_wp2
    go_ret
    exact ⟨_, rfl, hT, rfl⟩
set_option maxHeartbeats 1000000 in
theorem gBit_cv (k : Int) (w : World) (hk : 0 ≤ k ∧ k < 6) : Cv 65 #[.int .i64 k] w (.eq (.int .i64 (bitI k))) := by
  unfold Cv
  have h : k = 0 ∨ k = 1 ∨ k = 2 ∨ k = 3 ∨ k = 4 ∨ k = 5 := by omega
  clear hk
  rcases h with rfl | rfl | rfl | rfl | rfl | rfl
  all_goals
    go_enter Try.func65, Try.ntmps65
    go_wp2
    go_ret
    exact ⟨_, rfl, NewT.refl _, rfl⟩
set_option maxHeartbeats 1000000 in
theorem gClosed_cv (n : Int) (w : World) : Cv 75 #[.int .i64 n] w (.eq (.agg (rowA 109 (recF (clR n) (.slice none 0 0) (.slice none 0 0))))) := by
  unfold Cv
  go_enter Try.func75, Try.ntmps75
  go_upto_region 1 with fail
  have r_g1 := rowIs_box w 46 109 (recF zR (.slice none 0 0) (.slice none 0 0))
  have hN : NewT w (w.alloc (.cells (rowA 109 (recF zR (.slice none 0 0) (.slice none 0 0))) 46)) := NewT.alloc _ _
  change Code.wp _ _ _ _ (w.alloc (.cells (rowA 109 (recF zR (.slice none 0 0) (.slice none 0 0))) 46))
  generalize (w.alloc (.cells (rowA 109 (recF zR (.slice none 0 0) (.slice none 0 0))) 46)) = W0 at r_g1 hN ⊢
  obtain ⟨g1, h_g1⟩ : ∃ g_, w.heap.size = g_ := ⟨_, rfl⟩
  have HG : Hid (w.heap.size ≤ g1) := Lib.hid (by omega)
  rw [h_g1] at r_g1
  simp only [h_g1]
  have Rg1 := Lib.hid r_g1
  have HM := Lib.hid hN
  clear r_g1 hN h_g1
  go_upto_region 1 with fail
  refine wp_region_steps0 NewT [SV.eq (.int .i64 (n)), SV.eq ((.agg (rowA 109 (recF (clR n) (.slice none 0 0) (.slice none 0 0)))))] [([(0, none)], none), ([(3, some 0)], none)] 5 2 rfl rfl (by kernel_rfl) NewT.trans (NewT.refl _) (Nat.le_of_ble_eq_true rfl) ⟨?_, ?_, trivial⟩ ?_
  · exact fun a wx hT hF K hK => rely_wp rfl (opr_move (.inl rfl) (hK _ _ (NewT.refl _) hF.1))
  · intro a wx hT hF K hK
    obtain ⟨f3, _⟩ := hF
    have f3 : a.tmps.getD 3 undef = .int .i64 (n) := f3
    refine rely_wp rfl ?_
    exact opr_build (pv := #[(0, .int .i64 5), (7, .int .i64 n)]) rfl (by simp only [List.map_toArray, List.map_cons, List.map_nil, eval_tmp, eval_const, f3]) (build_closed n wx) (hK _ _ (NewT.refl _) rfl)
  · intro w1 k1
    iterate 2 (intro u h; obtain rfl := Eq.symm (h (by simp)); clear h)
    refine relyEnd_nil rfl ?_
    simp only [Act.put, List.setIfInBounds_toArray, List.set_cons_zero, List.set_cons_succ]
    refine wpList_plain rfl (fun K hK => ?_)
    refine opr_putm (g := g1) (o0 := 0) (m := 109) (f := recF (clR n) (.slice none 0 0) (.slice none 0 0)) (F := recF (clR n) (.slice none 0 0) (.slice none 0 0)) rfl rfl rfl (k1.row Rg1.out) (by decide) info_rec (recF_one _ _ _ rfl rfl) (put_allN _ _ _) ?_
    intro W1 hR1 rr1
    refine hK _ _ ?_
    clear hK K
    refine wpList_end rfl ?_
    simp only [Act.put, List.setIfInBounds_toArray, List.set_cons_zero, List.set_cons_succ]
    go_simp
    replace Rg1 := Lib.hid rr1
    replace HM := Lib.hid (NewT.rt (NewT.trans _ _ _ HM.out k1) hR1 (by have h_0 := HG.out; omega))
    clear k1 hR1 rr1
    go_wp2
    exact bodyPost_ret (results_agg rfl _ rfl Rg1.out Try.underlying46 rfl info_rec) rfl ⟨_, rfl, HM.out, rfl⟩
set_option maxHeartbeats 1000000 in
theorem Over_cv (sv : Value) (g : Sg) (w : World) : Cv 74 #[.agg (rowA 10 (sgF sv g))] w (.eq (.bool (overB g.ph))) := by
  unfold Cv
  go_enter Try.func74, Try.ntmps74
  go_upto_region 1 with fail
  have r_g1 := rowIs_box w 48 10 (sgF sv g)
  have hN : NewT w (w.alloc (.cells (rowA 10 (sgF sv g)) 48)) := NewT.alloc _ _
  change Code.wp _ _ _ _ (w.alloc (.cells (rowA 10 (sgF sv g)) 48))
  generalize (w.alloc (.cells (rowA 10 (sgF sv g)) 48)) = W0 at r_g1 hN ⊢
  obtain ⟨g1, h_g1⟩ : ∃ g_, w.heap.size = g_ := ⟨_, rfl⟩
  have HG : Hid (w.heap.size ≤ g1) := Lib.hid (by omega)
  rw [h_g1] at r_g1
  simp only [h_g1]
  have Rg1 := Lib.hid r_g1
  have HM := Lib.hid hN
  clear r_g1 hN h_g1
  have c1 : W0.cell? ⟨g1, 1, none⟩ = some (.int .i64 g.ph) := Rg1.out.cell (i := 1) (by omega)
  cases h2 : (g.ph == 2)
  · cases h3 : (g.ph == 3)
    · cases h4 : (g.ph == 4)
      · go_wp2
        go_ret
        exact ⟨_, rfl, HM.out, by show _ = Value.bool _; unfold overB; simp only [h2, h3, h4]; rfl⟩
      · go_wp2
        go_ret
        exact ⟨_, rfl, HM.out, by show _ = Value.bool _; unfold overB; simp only [h2, h3, h4]; rfl⟩
    · go_wp2
      go_ret
      exact ⟨_, rfl, HM.out, by show _ = Value.bool _; unfold overB; simp only [h2, h3]; rfl⟩
  · go_wp2
    go_ret
    exact ⟨_, rfl, HM.out, by show _ = Value.bool _; unfold overB; simp only [h2]; rfl⟩
def missG (g : Sg) : Int := if (g.ph == 2) = true then 0 else notI g.dn g.un
set_option maxHeartbeats 1000000 in
theorem Missing_cv (sv : Value) (g : Sg) (w : World) : Cv 26 #[.agg (rowA 10 (sgF sv g))] w (.eq (.int .i64 (missG g))) := by
  unfold Cv
  go_enter Try.func26, Try.ntmps26
  go_upto_region 1 with fail
  have r_g1 := rowIs_box w 48 10 (sgF sv g)
  have hN : NewT w (w.alloc (.cells (rowA 10 (sgF sv g)) 48)) := NewT.alloc _ _
  change Code.wp _ _ _ _ (w.alloc (.cells (rowA 10 (sgF sv g)) 48))
  generalize (w.alloc (.cells (rowA 10 (sgF sv g)) 48)) = W0 at r_g1 hN ⊢
  obtain ⟨g1, h_g1⟩ : ∃ g_, w.heap.size = g_ := ⟨_, rfl⟩
  have HG : Hid (w.heap.size ≤ g1) := Lib.hid (by omega)
  rw [h_g1] at r_g1
  simp only [h_g1]
  have Rg1 := Lib.hid r_g1
  have HM := Lib.hid hN
  clear r_g1 hN h_g1
  cases h2 : (g.ph == 2)
  · skip
    have c1 : W0.cell? ⟨g1, 1, none⟩ = some (.int .i64 g.ph) := Rg1.out.cell (i := 1) (by omega)
    go_upto_region 3 with fail
    clear c1
    refine wp_region_steps0 NewT [SV.eq (.pointer (some ⟨g1, 6, none⟩)), SV.eq (.int .i64 (g.dn)), SV.eq (.pointer (some ⟨g1, 7, none⟩)), SV.eq (.int .i64 (g.un)), SV.eq (.int .i64 (notI g.dn g.un)), SV.eq (.int .i64 (notI g.dn g.un))] [([(1, none)], none), ([(6, some 0)], none), ([(1, none)], none), ([(8, some 2)], none), ([(7, some 1), (9, some 3)], none), ([(10, some 4)], none)] 11 6 rfl rfl (by kernel_rfl) NewT.trans (NewT.refl _) (Nat.le_of_ble_eq_true rfl) ⟨?_, ?_, ?_, ?_, ?_, ?_, trivial⟩ ?_
    · exact fun a wx hT hF K hK => rely_wp rfl (opr_fldU6 rfl hF.1 (hK _ _ (NewT.refl _) rfl))
    · exact fun a wx hT hF K hK => rely_wp rfl (opr_ldI (hT.row Rg1.out) (by decide) rfl rfl hF.1 (hK _ _ (NewT.refl _) rfl))
    · exact fun a wx hT hF K hK => rely_wp rfl (opr_fldU7 rfl hF.1 (hK _ _ (NewT.refl _) rfl))
    · exact fun a wx hT hF K hK => rely_wp rfl (opr_ldI (hT.row Rg1.out) (by decide) rfl rfl hF.1 (hK _ _ (NewT.refl _) rfl))
    · exact fun a wx hT hF K hK => rely_wp rfl (opr_notI rfl hF.1 hF.2.1 (hK _ _ (NewT.refl _) rfl))
    · exact fun a wx hT hF K hK => rely_wp rfl (opr_move (.inr rfl) (hK _ _ (NewT.refl _) hF.1))
    · intro w1 k1
      iterate 6 (intro u h; obtain rfl := Eq.symm (h (by simp)); clear h)
      refine relyEnd_nil rfl ?_
      refine wpList_end rfl ?_
      simp only [Act.put, List.setIfInBounds_toArray, List.set_cons_zero, List.set_cons_succ]
      go_simp
      replace Rg1 := Lib.hid (k1.row Rg1.out)
      replace HM := Lib.hid (NewT.trans _ _ _ HM.out k1)
      clear k1
      go_wp2
      go_ret
      exact ⟨_, rfl, HM.out, by show _ = Value.int _ _; unfold missG; rw [h2]; rfl⟩
  · skip
    have c1 : W0.cell? ⟨g1, 1, none⟩ = some (.int .i64 g.ph) := Rg1.out.cell (i := 1) (by omega)
    go_wp2
    go_ret
    exact ⟨_, rfl, HM.out, by show _ = Value.int _ _; unfold missG; rw [h2]; rfl⟩
set_option maxHeartbeats 1000000 in
theorem turned_cv (sv : Value) (g : Sg) (w : World) (hs : sv.oneCell' = true) : Cv 66 #[.agg (rowA 10 (sgF sv g))] w (.eq (.agg (rowA 10 (sgF sv (turnG g))))) := by
  unfold Cv
  go_enter Try.func66, Try.ntmps66
  go_upto_region 1 with fail
  have r_g1 := (rowIs_box w 48 10 (sgF sv g)).alloc (.cells (rowA 10 (sgF (.slice none 0 0) zG)) 48)
  have r_g2 := rowIs_box (w.alloc (.cells (rowA 10 (sgF sv g)) 48)) 48 10 (sgF (.slice none 0 0) zG)
  rw [World.size_alloc] at r_g2
  have hN : NewT w ((w.alloc (.cells (rowA 10 (sgF sv g)) 48)).alloc (.cells (rowA 10 (sgF (.slice none 0 0) zG)) 48)) := (NewT.trans _ _ _ (NewT.alloc _ _) (NewT.alloc _ _))
  change Code.wp _ _ _ _ ((w.alloc (.cells (rowA 10 (sgF sv g)) 48)).alloc (.cells (rowA 10 (sgF (.slice none 0 0) zG)) 48))
  generalize ((w.alloc (.cells (rowA 10 (sgF sv g)) 48)).alloc (.cells (rowA 10 (sgF (.slice none 0 0) zG)) 48)) = W0 at r_g1 r_g2 hN ⊢
  obtain ⟨g1, h_g1⟩ : ∃ g_, w.heap.size = g_ := ⟨_, rfl⟩
  obtain ⟨g2, h_g2⟩ : ∃ g_, w.heap.size + 1 = g_ := ⟨_, rfl⟩
  have HG : Hid (w.heap.size ≤ g1 ∧ g1 < g2) := Lib.hid (by omega)
  rw [h_g1] at r_g1
  rw [h_g2] at r_g2
  try rw [h_g2]
  simp only [h_g1]
  have Rg1 := Lib.hid r_g1
  have Rg2 := Lib.hid r_g2
  have HM := Lib.hid hN
  clear r_g1 r_g2 hN h_g1 h_g2
  refine wp_region_lit ?_
  refine wpList_plain rfl (fun K hK => ?_)
  refine opr_fldU1 rfl rfl (hK _ _ ?_)
  clear hK K
  simp only [Act.put, List.setIfInBounds_toArray, List.set_cons_zero, List.set_cons_succ]
  refine wpList_plain rfl (fun K hK => ?_)
  refine opr_put1 (g := g1) (o0 := 1) (v := .int .i64 1) (F := sgF sv { g with ph := 1 }) rfl rfl rfl Rg1.out (by decide) info_i1 rfl (fun i hi => gs_ph sv g i hi 1) ?_
  intro Wa hRa ra
  refine hK _ _ ?_
  clear hK K
  simp only [Act.put, List.setIfInBounds_toArray, List.set_cons_zero, List.set_cons_succ]
  refine wpList_plain rfl (fun K hK => ?_)
  refine opr_fldU3 rfl rfl (hK _ _ ?_)
  clear hK K
  simp only [Act.put, List.setIfInBounds_toArray, List.set_cons_zero, List.set_cons_succ]
  refine wpList_plain rfl (fun K hK => ?_)
  refine opr_put1 (g := g1) (o0 := 3) (v := .int .i64 0) (F := sgF sv (turnG g)) rfl rfl rfl ra (by decide) info_i1 rfl (fun i hi => gs_tr sv { g with ph := 1 } i hi 0) ?_
  intro Wb hRb rb
  refine hK _ _ ?_
  clear hK K
  refine wpList_end rfl ?_
  simp only [Act.put, List.setIfInBounds_toArray, List.set_cons_zero, List.set_cons_succ]
  go_simp
  have hR := RT.trans _ _ _ hRa hRb
  replace Rg1 := Lib.hid rb
  replace Rg2 := Lib.hid (hR.row (by have h_0 := HG.out; omega) Rg2.out)
  replace HM := Lib.hid (HM.out.rt hR (by have h_0 := HG.out; omega))
  clear hRa hRb ra rb hR
  go_upto_region 2 with fail
  refine wp_region_steps0 NewT [SV.eq (.agg (rowA 10 (sgF sv ((turnG g)))))] [([(1, none)], none)] 6 1 rfl rfl (by kernel_rfl) NewT.trans (NewT.refl _) (Nat.le_of_ble_eq_true rfl) ⟨?_, trivial⟩ ?_
  · exact fun a wx hT hF K hK => rely_wp rfl (opr_ldU (hT.row Rg1.out) rfl hF.1 (hK _ _ (NewT.refl _) rfl))
  · intro w1 k1
    intro u h; obtain rfl := Eq.symm (h (by simp)); clear h
    refine relyEnd_nil rfl ?_
    simp only [Act.put, List.setIfInBounds_toArray, List.set_cons_zero, List.set_cons_succ]
    refine wpList_plain rfl (fun K hK => ?_)
    refine opr_putm (g := g2) (o0 := 0) (m := 10) (f := sgF sv (turnG g)) (F := sgF sv (turnG g)) rfl rfl rfl (k1.row Rg2.out) (by decide) info_saga (sgF_one _ _ hs) (put_allN _ _ _) ?_
    intro W1 hR1 rr1
    refine hK _ _ ?_
    clear hK K
    refine wpList_end rfl ?_
    simp only [Act.put, List.setIfInBounds_toArray, List.set_cons_zero, List.set_cons_succ]
    go_simp
    replace Rg2 := Lib.hid rr1
    replace Rg1 := Lib.hid (hR1.row (by have h_0 := HG.out; omega) (k1.row Rg1.out))
    replace HM := Lib.hid (NewT.rt (NewT.trans _ _ _ HM.out k1) hR1 (by have h_0 := HG.out; omega))
    clear k1 hR1 rr1
    go_wp2
    exact bodyPost_ret (results_agg rfl _ rfl Rg2.out Try.underlying48 rfl info_saga) rfl ⟨_, rfl, HM.out, rfl⟩
end Go.Proofs.Ytilmeffmdgcblaa
