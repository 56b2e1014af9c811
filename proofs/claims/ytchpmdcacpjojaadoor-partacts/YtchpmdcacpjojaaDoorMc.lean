/- Package mac: the tag of words: what Key returns. -/
import Derived.Test.YtchpmdcacpjojaaDoorMb
import Derived.Test.YtchpmdcacpjojaaDoorMa
import Derived.Maps.RangeRun
import Derived.WideMake
import Derived.Deep.Heap
set_option linter.all false
namespace Go.Proofs.YtchpmdcacpjojaaDoor
open Go Go.RowKit
set_option maxRecDepth 8000
set_option linter.all false
theorem rd_nil (w : World) (L : List Nat) : RdV w L (.slice none 0 0) [] := ⟨none, 0, rfl, Nat.le_refl _, by unfold maxLen; omega, fun h => absurd h (by simp)⟩
/-- The text of words. -/
def wordsL (is : List Int) : List UInt8 := (is.map fun n => hiL (wN n) 8).flatten
theorem wordsL_length (is : List Int) : (wordsL is).length = 8 * is.length := by
  unfold wordsL
  induction is with
  | nil => rfl
  | cons x is ih => simp [hiL_length] at ih ⊢; omega
set_option maxHeartbeats 2000000 in
theorem Key_cv (d : Nat → UInt8) (iv : Value) (is : List Int) (D : Nat → UInt8) (w : World) (hT : Tables w) (hp : RdI w iv is) (hlen : is.length ≤ 10000) (hD : tagL (digL d) (wordsL is) = D) :
    Cv 50 #[.agg (rowA 32 (bF d)), iv] w (.eq (.agg (rowA 32 (bF D)))) := by
  unfold Cv
  have HD := Lib.hid hD
  have HT := Lib.hid hT
  have Hp := Lib.hid hp
  have Hwl := Lib.hid (wordsL_length is)
  clear hT hp hD
  go_enter Tryd.func50, Tryd.ntmps50
  go_upto_region 1 with fail
  have rk := (rowIs_box w 32 32 (bF d)).alloc (.cells (rowA 32 (bF fun _ => 0)) 32)
  have r0 := rowIs_box (w.alloc (.cells (rowA 32 (bF d)) 32)) 32 32 (bF fun _ => 0)
  rw [World.size_alloc] at r0
  have hB0 := NewT.trans _ _ _ (NewT.alloc w (.cells (rowA 32 (bF d)) 32)) (NewT.alloc (w.alloc (.cells (rowA 32 (bF d)) 32)) (.cells (rowA 32 (bF fun _ => 0)) 32))
  change Code.wp _ _ _ _ ((w.alloc (.cells (rowA 32 (bF d)) 32)).alloc (.cells (rowA 32 (bF fun _ => 0)) 32))
  generalize ((w.alloc (.cells (rowA 32 (bF d)) 32)).alloc (.cells (rowA 32 (bF fun _ => 0)) 32)) = W0 at rk r0 hB0 ⊢
  replace HT := Lib.hid (hB0.tables HT.out)
  replace Hp := Lib.hid (hB0.ints Hp.out)
  refine wp_region_rely NewT [svRd (digL d), svInts is, svParts ([] :: is.map fun n => hiL (wN n) 8), SV.eq (.agg (rowA 32 (bF D)))] [([(2, none)], none), ([(1, none)], none), ([(6, some 1)], none), ([(5, some 0), (7, some 2)], none)] 9 rfl (by kernel_rfl) rfl (by kernel_rfl) (by kernel_rfl) rfl NewT.trans (NewT.drew _) (Nat.le_of_ble_eq_true rfl) ⟨?_, ?_, ?_, ?_, trivial⟩ ?_
  · -- 0: Op.slice 32 t2 none none none
    intro a wx hT hF K hK
    obtain ⟨f2, _⟩ := hF
    have f2 : a.tmps.getD 2 undef = .pointer (some ⟨w.heap.size, 0, none⟩) := f2
    refine rely_wp rfl ?_
    exact opr_slice_hash rfl f2 (hK _ _ (NewT.refl _) (rd_row (hT.row rk) (by simp) (by omega)))
  · -- 1: Op.move t1
    intro a wx hT hF K hK
    obtain ⟨f1, _⟩ := hF
    have f1 : a.tmps.getD 1 undef = iv := f1
    refine rely_wp rfl ?_
    exact opr_move (.inl rfl) (hK _ _ (NewT.refl _) (by rw [eval_tmp, f1]; exact hT.ints Hp.out))
  · -- 2: Op.call ( value (Operand.func 64), args := #[const (Value.sl
    intro a wx hT hF K hK
    obtain ⟨f6, _⟩ := hF
    replace f6 := show (svInts is).pred (a.tmps.getD 6 undef) wx from f6
    refine rely_wp rfl ?_
    exact opr_cv (text_words _ _ [] is wx (rd_nil _ _) f6 (by omega)) rfl Tryd.func64 (by kernel_rfl) (by kernel_rfl) (by simp only [List.map_toArray, List.map_cons, List.map_nil, eval_tmp, eval_const, eval_func]) hK
  · -- 3: Op.call ( value (Operand.func 63), args := #[t5, t7], argTyp
    intro a wx hT hF K hK
    obtain ⟨f5, f7, _⟩ := hF
    replace f5 := show (svRd (digL d)).pred (a.tmps.getD 5 undef) wx from f5
    replace f7 := show (svParts ([] :: is.map fun n => hiL (wN n) 8)).pred (a.tmps.getD 7 undef) wx from f7
    refine rely_wp rfl ?_
    exact opr_cv (Tag_cv _ _ (digL d) ([] :: is.map fun n => hiL (wN n) 8) D wx (hT.tables HT.out) f5 (by rw [digL_length]; omega) f7 (by simp; omega) (by show (wordsL is).length ≤ _; have := Hwl.out; omega) (by simpa [wordsL] using HD.out)) rfl Tryd.func63 (by kernel_rfl) (by kernel_rfl) (by simp only [List.map_toArray, List.map_cons, List.map_nil, eval_tmp]) hK
  · intro wx hT
    intro u5 h; have g5 := h (by simp); clear h; replace g5 := show (svRd (digL d)).pred u5 wx from g5
    intro u6 h; have g6 := h (by simp); clear h; replace g6 := show (svInts is).pred u6 wx from g6
    intro u7 h; have g7 := h (by simp); clear h; replace g7 := show (svParts ([] :: is.map fun n => hiL (wN n) 8)).pred u7 wx from g7
    intro u h; obtain rfl := h (by simp); clear h
    refine relyEnd_nil rfl ?_
    simp only [Act.put, List.setIfInBounds_toArray, List.set_cons_zero, List.set_cons_succ]
    refine opr_store_new (B := w.heap.size) (W := w) info31 rfl rfl rfl (hT.row r0) (NewT.trans _ _ _ hB0 hT) (Nat.le_succ _) ?_
    intro w9 hB9 r9
    go_simp
    go_wp2
    exact bodyPost_ret (results_row rfl _ rfl r9 Tryd.underlying32 info31) rfl ⟨_, rfl, hB9, rfl⟩
end Go.Proofs.YtchpmdcacpjojaaDoor
/- Keys, checkpoints and marks in memory: fields, loads, builds; method values; an array of them. -/
namespace Go.Proofs.YtchpmdcacpjojaaDoor
open Go Go.RowKit
set_option maxRecDepth 8000
set_option linter.all false
/-- What tags are: a key's, a mark's; a checkpoint's text. -/
structure KeyH (kf : Hs → List Int → Hs) (tg : Hs → Hs → Hs) (pf : Int → Hs → Hs) : Prop where
  key : ∀ d is, tagL (digL d) (wordsL is) = kf d is
  tag : ∀ s d, tagL (digL s) (3 :: digL d) = tg s d
  pt : ∀ n d, shaL Kc Fc (ofL 6 [numI n, digL d]) = pf n d
theorem keyH_ex : ∃ kf tg pf, KeyH kf tg pf := ⟨_, _, _, ⟨fun _ _ => rfl, fun _ _ => rfl, fun _ _ => rfl⟩⟩
theorem info_hsl : (Tryd.prog.info? 22).map (·.size) = some (0 + 1) := by kernel_rfl
theorem info_due : (Tryd.prog.info? 82).map (·.size) = some 32 := by kernel_rfl
theorem info_ky : (Tryd.prog.info? 24).map (·.size) = some 3 := by kernel_rfl
theorem keyF_one {w : World} {pv wv : Value} {ps ws : List Hs} {need : Int} (hp : RdH w pv ps) (hw : RdH w wv ws) (i : Nat) : (keyF pv wv need i).oneCell' = true := by
  obtain ⟨_, _, rfl, _⟩ := hp
  obtain ⟨_, _, rfl, _⟩ := hw
  unfold keyF
  split <;> try rfl
  split <;> rfl
theorem build_z32 (w : World) : (Instr.build 32 #[]).run Tryd.prog w = .ok (.agg (rowA 32 (bF z32))) w := by kernel_rfl
theorem run_bsI2 (x y : Int) (w : World) : (Instr.buildSlice 86 2 #[(0, .int .i64 x), (1, .int .i64 y)]).run Tryd.prog w = .ok (.slice (some ⟨w.heap.size, 0, none⟩) 2 2) (w.alloc (.cells #[.int .i64 x, .int .i64 y] 3)) := by kernel_rfl
theorem run_bsI5 (x y z p q : Int) (w : World) : (Instr.buildSlice 86 5 #[(0, .int .i64 x), (1, .int .i64 y), (2, .int .i64 z), (3, .int .i64 p), (4, .int .i64 q)]).run Tryd.prog w = .ok (.slice (some ⟨w.heap.size, 0, none⟩) 5 5) (w.alloc (.cells #[.int .i64 x, .int .i64 y, .int .i64 z, .int .i64 p, .int .i64 q] 3)) := by kernel_rfl
theorem rdI_lit (w : World) (l : List Int) (hl : l.length ≤ 1000) : RdI (w.alloc (.cells (l.map fun n => .int .i64 n).toArray 3)) (.slice (some ⟨w.heap.size, 0, none⟩) l.length l.length) l := by
  refine ⟨some ⟨w.heap.size, 0, none⟩, l.length, rfl, Nat.le_refl _, by unfold maxLen; omega, fun _ => ⟨w.heap.size, 0, rfl, fun i hi => ?_⟩⟩
  rw [Nat.zero_add, cell_new_fr _ _ _ _ _ _ rfl]
  simp [hi, List.getD]
section
variable {a : Act} {w : World} {o : Oper} {K : Act → World → Prop} {Q : Exit → Act → World → Prop} {x y z : Operand} {g n o0 : Nat} {t' : TypeId} {F : Nat → Value} {v : Value}
theorem opr_fldY0 (ho : o.op = .fieldAddr 24 x 0) (hx : a.eval x = .pointer (some ⟨g, 0, none⟩)) (h : K (a.put o.dst (.pointer (some ⟨g, 0, none⟩))) w) : o.wp Tryd.prog a w K Q :=
  opr_fld Tryd.underlying24 rfl info_hsl ho hx (by rfl) h
theorem opr_fldY1 (ho : o.op = .fieldAddr 24 x 1) (hx : a.eval x = .pointer (some ⟨g, 0, none⟩)) (h : K (a.put o.dst (.pointer (some ⟨g, 1, none⟩))) w) : o.wp Tryd.prog a w K Q :=
  opr_fld Tryd.underlying24 rfl info_hsl ho hx (by rfl) h
theorem opr_fldY2 (ho : o.op = .fieldAddr 24 x 2) (hx : a.eval x = .pointer (some ⟨g, 0, none⟩)) (h : K (a.put o.dst (.pointer (some ⟨g, 2, none⟩))) w) : o.wp Tryd.prog a w K Q :=
  opr_fld Tryd.underlying24 rfl info_int ho hx (by rfl) h
theorem opr_ldY (hr : w.rowIs g t' 3 F) (ho : o.op = .load 24 x) (hx : a.eval x = .pointer (some ⟨g, 0, none⟩)) (h : K (a.put o.dst (.agg (rowA 3 F))) w) : o.wp Tryd.prog a w K Q := by
  refine opr_ldm Tryd.underlying24 rfl info_ky ho hx hr (by omega) ?_
  simpa using h
theorem opr_ldDue {d : Hs} (hr : w.rowIs g t' 32 (bF d)) (ho : o.op = .load 82 x) (hx : a.eval x = .pointer (some ⟨g, 0, none⟩)) (h : K (a.put o.dst (.agg (rowA 32 (bF d)))) w) : o.wp Tryd.prog a w K Q := by
  refine opr_ldm Tryd.underlying82 rfl info_due ho hx hr (by omega) ?_
  simpa using h
theorem opr_bsI2 {p q : Int} (ho : o.op = .buildSlice 86 2 #[(0, x), (1, y)]) (hx : a.eval x = .int .i64 p) (hy : a.eval y = .int .i64 q) (h : ∀ v w', NewT w w' → RdI w' v [p, q] → K (a.put o.dst v) w') : o.wp Tryd.prog a w K Q := by
  obtain ⟨dst, op, type, pos, after, guard⟩ := o
  simp only at ho
  subst ho
  exact opr_val (s := Instr.buildSlice 86 2 #[(0, a.eval x), (1, a.eval y)]) (by simp [execOp]) (by rw [hx, hy]; exact run_bsI2 p q w) (h _ _ (NewT.alloc _ _) (rdI_lit w [p, q] (by simp)))
theorem opr_bsI5 {x1 x2 x3 x4 x5 : Operand} {p q r s t : Int} (ho : o.op = .buildSlice 86 5 #[(0, x1), (1, x2), (2, x3), (3, x4), (4, x5)]) (h1 : a.eval x1 = .int .i64 p) (h2 : a.eval x2 = .int .i64 q) (h3 : a.eval x3 = .int .i64 r) (h4 : a.eval x4 = .int .i64 s) (h5 : a.eval x5 = .int .i64 t) (h : ∀ v w', NewT w w' → RdI w' v [p, q, r, s, t] → K (a.put o.dst v) w') : o.wp Tryd.prog a w K Q := by
  obtain ⟨dst, op, type, pos, after, guard⟩ := o
  simp only at ho
  subst ho
  exact opr_val (s := Instr.buildSlice 86 5 #[(0, a.eval x1), (1, a.eval x2), (2, a.eval x3), (3, a.eval x4), (4, a.eval x5)]) (by simp [execOp]) (by rw [h1, h2, h3, h4, h5]; exact run_bsI5 p q r s t w) (h _ _ (NewT.alloc _ _) (rdI_lit w [p, q, r, s, t] (by simp)))
/-- A method value: a receiver's value is bound. -/
theorem opr_mkm {P : Program} {fid : Nat} {u : Value} (ho : o.op = .makeFunc (.func fid) #[x] #[]) (hx : a.eval x = u) (h : K (a.put o.dst (.func (.func fid) #[u] #[])) w) : o.wp P a w K Q := by
  obtain ⟨dst, op, type, pos, after, guard⟩ := o
  simp only at ho
  subst ho
  subst hx
  exact opr_val (s := Instr.makeFunc (.func fid) #[a.eval x] #[]) (by simp [execOp]) rfl h
/-- A call of a method value. -/
theorem opr_cvm {f : Nat} {fn : Func} {args : Array Operand} {ts : Array TypeId} {vs : Array Value} {u : Value} {c : SV NewT} (hc : Cv f vs w c)
    (ho : o.op = .call { callee := .value x, args := args, argTypes := ts }) (hx : a.eval x = .func (.func f) #[u] #[]) (hf : Tryd.prog.funcs[f]? = some fn) (hn : (fn.name == "runtime.NumGoroutine") = false) (hb : fn.body.isNone = false) (hv : #[u] ++ args.map a.eval = vs)
    (h : ∀ v w', NewT w w' → c.pred v w' → K (a.put o.dst v) w') : o.wp Tryd.prog a w K Q := by
  obtain ⟨dst, op, type, pos, after, guard⟩ := o
  simp only at ho
  subst ho
  have e : execOp a.eval { dst, op := .call { callee := .value x, args := args, argTypes := ts }, type, pos, after, guard } = callFunc f vs := by
    show (do let d ← resolve a.eval { callee := .value x, args := args, argTypes := ts } type; invoke d.target d.args) = _
    simp only [resolve, Deferred.ofValue, hx, invoke, pure_bind]
    rw [← hv]; simp
  unfold Oper.wp
  rw [e, run_callFunc_go hf hn hb, Oper.upon_enter]
  refine Calls.mono hc ?_
  rintro e w' ⟨v, rfl, h1, h2⟩
  exact h v w' h1 h2
end
end Go.Proofs.YtchpmdcacpjojaaDoor
/- Calls, entries, participants in memory: their cells, fields, loads; equal ones; acts and entries in rows. -/
namespace Go.Proofs.YtchpmdcacpjojaaDoor
open Go Go.RowKit
set_option maxRecDepth 8000
set_option linter.all false
/-- The cells of a call. -/
def clF (c : Cl) (i : Nat) : Value :=
  if i < 9 then (if i = 0 then .int .i64 c.saga else if i = 1 then .int .i64 c.step else if i = 2 then .int .i64 c.tr else if i = 3 then .bool c.back else if i = 4 then .int .i64 c.part else if i = 5 then .int .i64 c.kind else if i = 6 then .bool c.ans else if i = 7 then .bool c.good else .int .i64 c.ep) else bF c.tag (i - 9)
/-- The cells of an entry, of a deed, of what is told of it. -/
def eyF (x : En) (i : Nat) : Value := if i = 0 then .int .i64 x.saga else if i = 1 then .int .i64 x.step else if i = 2 then .bool x.back else .bool x.good
def dyF (s t : Int) (b : Bool) (i : Nat) : Value := if i = 0 then .int .i64 s else if i = 1 then .int .i64 t else .bool b
def tdF (g : Bool) (n : Int) (i : Nat) : Value := if i = 0 then .bool g else .int .i64 n
/-- The cells of a participant. -/
def pyF (n : Int) (pv wv : Value) (need e : Int) (mv : Value) (i : Nat) : Value := if i = 0 then .int .i64 n else if i = 1 then pv else if i = 2 then wv else if i = 3 then .int .i64 need else if i = 4 then .int .i64 e else mv
/-- Something that is done to a participant. -/
structure Ac where
  kind : Int
  c : Cl
  r : Bool
def acF (x : Ac) (i : Nat) : Value := if i = 0 then .int .i64 x.kind else if i < 42 then clF x.c (i - 1) else .bool x.r
theorem clF_one (c : Cl) (i : Nat) : (clF c i).oneCell' = true := by
  unfold clF
  repeat' split
  all_goals rfl
theorem eyF_one (x : En) (i : Nat) : (eyF x i).oneCell' = true := by
  unfold eyF
  repeat' split
  all_goals rfl
theorem dyF_one (s t : Int) (b : Bool) (i : Nat) : (dyF s t b i).oneCell' = true := by
  unfold dyF
  repeat' split
  all_goals rfl
theorem tdF_one (g : Bool) (n : Int) (i : Nat) : (tdF g n i).oneCell' = true := by
  unfold tdF
  repeat' split
  all_goals rfl
theorem clF_tag (c : Cl) (j : Nat) (_ : j < 32) : clF c (9 + j) = bF c.tag j := by unfold clF; rw [if_neg (by omega), show 9 + j - 9 = j by omega]
def zE : En := ⟨0, 0, false, false⟩
theorem info_cl : (Tryd.prog.info? 34).map (·.size) = some 41 := by kernel_rfl
theorem info_cl1 : (Tryd.prog.info? 34).map (·.size) = some (40 + 1) := by kernel_rfl
theorem info_de : (Tryd.prog.info? 71).map (·.size) = some 3 := by kernel_rfl
theorem info_td : (Tryd.prog.info? 73).map (·.size) = some 2 := by kernel_rfl
theorem info_ey : (Tryd.prog.info? 56).map (·.size) = some 4 := by kernel_rfl
theorem info_mp1 : (Tryd.prog.info? 65).map (·.size) = some (0 + 1) := by kernel_rfl
theorem info_es : (Tryd.prog.info? 38).map (·.size) = some 1 := by kernel_rfl
theorem info_es1 : (Tryd.prog.info? 38).map (·.size) = some (0 + 1) := by kernel_rfl
theorem info_ky31 : (Tryd.prog.info? 24).map (·.size) = some (2 + 1) := by kernel_rfl
theorem run_alloc_cl (w : World) : (Instr.alloc 34 true (.tuple #[])).run Tryd.prog w = .ok (.pointer (some ⟨w.heap.size, 0, none⟩)) (w.alloc (.cells (rowA 41 (clF zC)) 34)) := by kernel_rfl
theorem run_alloc_de (w : World) : (Instr.alloc 71 true (.tuple #[])).run Tryd.prog w = .ok (.pointer (some ⟨w.heap.size, 0, none⟩)) (w.alloc (.cells (rowA 3 (dyF 0 0 false)) 71)) := by kernel_rfl
theorem run_alloc_td (w : World) : (Instr.alloc 73 true (.tuple #[])).run Tryd.prog w = .ok (.pointer (some ⟨w.heap.size, 0, none⟩)) (w.alloc (.cells (rowA 2 (tdF false 0)) 73)) := by kernel_rfl
theorem run_alloc_ey (w : World) : (Instr.alloc 56 true (.tuple #[])).run Tryd.prog w = .ok (.pointer (some ⟨w.heap.size, 0, none⟩)) (w.alloc (.cells (rowA 4 (eyF zE)) 56)) := by kernel_rfl
theorem run_alloc_b (w : World) : (Instr.alloc 4 true (.tuple #[])).run Tryd.prog w = .ok (.pointer (some ⟨w.heap.size, 0, none⟩)) (w.alloc (.cells (rowA 1 (fun _ => .bool false)) 4)) := by kernel_rfl
theorem build_cl0 (w : World) : (Instr.build 34 #[]).run Tryd.prog w = .ok (.agg (rowA 41 (clF zC))) w := by kernel_rfl
theorem zero_td (w : World) : (zeroValue 73).run Tryd.prog w = .ok (.agg (rowA 2 (tdF false 0))) w := by kernel_rfl
theorem run_bld_de (a b : Int) (c : Bool) (w : World) : (Instr.build 71 #[(0, .int .i64 a), (1, .int .i64 b), (2, .bool c)]).run Tryd.prog w = .ok (.agg (rowA 3 (dyF a b c))) w := by kernel_rfl
theorem run_bld_td (a : Bool) (b : Int) (w : World) : (Instr.build 73 #[(0, .bool a), (1, .int .i64 b)]).run Tryd.prog w = .ok (.agg (rowA 2 (tdF a b))) w := by kernel_rfl
theorem run_bld_ey (a b : Int) (c d : Bool) (w : World) : (Instr.build 56 #[(0, .int .i64 a), (1, .int .i64 b), (2, .bool c), (3, .bool d)]).run Tryd.prog w = .ok (.agg (rowA 4 (eyF ⟨a, b, c, d⟩))) w := by kernel_rfl
def clE (_ : World) (f : Nat → Value) (p : Cl) : Prop := f = clF p
instance : StbE clE := ⟨fun h _ => h⟩
def eyE (_ : World) (f : Nat → Value) (p : En) : Prop := f = eyF p
instance : StbE eyE := ⟨fun h _ => h⟩
def acE (_ : World) (f : Nat → Value) (p : Ac) : Prop := f = acF p
instance : StbE acE := ⟨fun h _ => h⟩
theorem ElTy.ofD {P : Program} {sT eT : TypeId} {n : Nat} {z : Value} {d : TypeDesc} (h1 : P.underlying sT = some (.slice eT)) (h2 : (P.info? eT).map (fun i => (i.zero, i.size, decide (i.bytes ≤ 1000))) = some (some z, n, true)) (hz : z.cells.size = n) (h0 : 0 < n) (h3 : P.underlying eT = some d) (h4 : d.isRow = true) : ElTy P sT eT n := by
  refine ⟨h1, ?_, h0, d, h3, h4⟩
  cases hq : P.info? eT with
  | none => rw [hq] at h2; cases h2
  | some i => rw [hq] at h2; simp at h2; exact ⟨i, z, rfl, h2.1, h2.2.1, h2.2.2, hz⟩
theorem callEl : ElTy Tryd.prog 59 34 41 := ElTy.ofD (z := .agg (rowA 41 (clF zC))) Tryd.underlying59 (by kernel_rfl) (by rw [show (Value.agg (rowA 41 (clF zC))).cells = rowA 41 (clF zC) from rfl, rowA_size]) (by omega) Tryd.underlying34 rfl
theorem entEl : ElTy Tryd.prog 38 56 4 := ElTy.ofD (z := .agg (rowA 4 (eyF zE))) Tryd.underlying38 (by kernel_rfl) (by rw [show (Value.agg (rowA 4 (eyF zE))).cells = rowA 4 (eyF zE) from rfl, rowA_size]) (by omega) Tryd.underlying56 rfl
theorem actEl : ElTy Tryd.prog 25 44 43 := ElTy.ofD (z := .agg (rowA 43 (acF ⟨0, zC, false⟩))) Tryd.underlying25 (by kernel_rfl) (by rw [show (Value.agg (rowA 43 (acF ⟨0, zC, false⟩))).cells = rowA 43 (acF ⟨0, zC, false⟩) from rfl, rowA_size]) (by omega) Tryd.underlying44 rfl
theorem eqFields_map {P : Program} (w : World) (d : Nat) (xs ys : Array Value) : ∀ (l : List Field) (ts : List (TypeId × Nat × Bool)), l.map (fun f => (f.type, f.offset, f.name == "_")) = ts.map (fun t => (t.1, t.2.1, false)) →
    (∀ t ∈ ts, ∃ x y, (part t.1 xs t.2.1).run P w = .ok x w ∧ (part t.1 ys t.2.1).run P w = .ok y w ∧ (Op.equalIn d t.1 x y).run P w = .ok t.2.2 w) → (Op.eqFields d xs ys l).run P w = .ok (ts.all fun t => t.2.2) w
  | [], [], _, _ => by simp [Op.eqFields]
  | [], _ :: _, h, _ => by simp at h
  | _ :: _, [], h, _ => by simp at h
  | f :: l, t :: ts, h, ht => by
    simp only [List.map_cons, List.cons.injEq, Prod.mk.injEq, beq_eq_false_iff_ne] at h
    obtain ⟨⟨h1, h2, h3⟩, h4⟩ := h
    obtain ⟨x, y, k1, k2, k3⟩ := ht t (by simp)
    have ih := eqFields_map w d xs ys l ts h4 (fun t ht' => ht t (by simp [ht']))
    rw [Op.eqFields, if_pos h3, h1, h2, Sem.run_bind, k1]
    simp only [Result.andThen_ok]
    rw [Sem.run_bind, k2]
    simp only [Result.andThen_ok]
    rw [Sem.run_bind, k3]
    simp only [Result.andThen_ok, List.all_cons]
    cases ht2 : t.2.2
    · simp
    · simpa using ih
theorem part_cell {P : Program} {t : TypeId} {d : TypeDesc} (hu : P.underlying t = some d) (hd : d.isRow = false) (n : Nat) (F : Nat → Value) (k : Nat) (hk : k < n) (w : World) : (part t (rowA n F) k).run P w = .ok (F k) w := by
  have ha := run_isAgg_no (P := P) hu hd w
  simp [part, ha, rowA_at _ _ _ hk]
theorem part_tag (c : Cl) (w : World) : (part 32 (rowA 41 (clF c)) 9).run Tryd.prog w = .ok (.agg (rowA 32 (bF c.tag))) w := by kernel_rfl
def eqC (a b : Cl) : Bool := [a.saga == b.saga, a.step == b.step, a.tr == b.tr, a.back == b.back, a.part == b.part, a.kind == b.kind, a.ans == b.ans, a.good == b.good, a.ep == b.ep, eqH a.tag b.tag].all id
def eqE4 (a b : En) : Bool := [a.saga == b.saga, a.step == b.step, a.back == b.back, a.good == b.good].all id
theorem eqH_self (d : Hs) : eqH d d = true := by unfold eqH; simp
theorem eqC_self (a : Cl) : eqC a a = true := by simp [eqC, eqH_self]
theorem eqE4_iff (a b : En) : eqE4 a b = true ↔ a = b := by
  obtain ⟨a1, a2, a3, a4⟩ := a
  obtain ⟨b1, b2, b3, b4⟩ := b
  simp [eqE4, and_assoc]
theorem equalIn_cl (w : World) (a b : Cl) : (Op.equalIn 10000 34 (.agg (rowA 41 (clF a))) (.agg (rowA 41 (clF b)))).run Tryd.prog w = .ok (eqC a b) w := by
  rw [run_equalIn_struct w 9999 34 _ _ Tryd.underlying34 (by kernel_rfl)]
  refine eqFields_map w 9999 _ _ _ [(3, 0, a.saga == b.saga), (3, 1, a.step == b.step), (3, 2, a.tr == b.tr), (4, 3, a.back == b.back), (3, 4, a.part == b.part), (3, 5, a.kind == b.kind), (4, 6, a.ans == b.ans), (4, 7, a.good == b.good), (3, 8, a.ep == b.ep), (32, 9, eqH a.tag b.tag)] (by kernel_rfl) ?_
  simp only [List.forall_mem_cons]
  refine ⟨?_, ?_, ?_, ?_, ?_, ?_, ?_, ?_, ?_, ?_, fun _ h => by cases h⟩
  · exact ⟨_, _, part_cell Tryd.underlying3 rfl 41 _ 0 (by omega) w, part_cell Tryd.underlying3 rfl 41 _ 0 (by omega) w, run_equalIn_int (P := Tryd.prog) w 9998 3 .i64 .i64 _ _ Tryd.underlying3⟩
  · exact ⟨_, _, part_cell Tryd.underlying3 rfl 41 _ 1 (by omega) w, part_cell Tryd.underlying3 rfl 41 _ 1 (by omega) w, run_equalIn_int (P := Tryd.prog) w 9998 3 .i64 .i64 _ _ Tryd.underlying3⟩
  · exact ⟨_, _, part_cell Tryd.underlying3 rfl 41 _ 2 (by omega) w, part_cell Tryd.underlying3 rfl 41 _ 2 (by omega) w, run_equalIn_int (P := Tryd.prog) w 9998 3 .i64 .i64 _ _ Tryd.underlying3⟩
  · exact ⟨_, _, part_cell Tryd.underlying4 rfl 41 _ 3 (by omega) w, part_cell Tryd.underlying4 rfl 41 _ 3 (by omega) w, run_equalIn_bool (P := Tryd.prog) w 9998 4 _ _ Tryd.underlying4⟩
  · exact ⟨_, _, part_cell Tryd.underlying3 rfl 41 _ 4 (by omega) w, part_cell Tryd.underlying3 rfl 41 _ 4 (by omega) w, run_equalIn_int (P := Tryd.prog) w 9998 3 .i64 .i64 _ _ Tryd.underlying3⟩
  · exact ⟨_, _, part_cell Tryd.underlying3 rfl 41 _ 5 (by omega) w, part_cell Tryd.underlying3 rfl 41 _ 5 (by omega) w, run_equalIn_int (P := Tryd.prog) w 9998 3 .i64 .i64 _ _ Tryd.underlying3⟩
  · exact ⟨_, _, part_cell Tryd.underlying4 rfl 41 _ 6 (by omega) w, part_cell Tryd.underlying4 rfl 41 _ 6 (by omega) w, run_equalIn_bool (P := Tryd.prog) w 9998 4 _ _ Tryd.underlying4⟩
  · exact ⟨_, _, part_cell Tryd.underlying4 rfl 41 _ 7 (by omega) w, part_cell Tryd.underlying4 rfl 41 _ 7 (by omega) w, run_equalIn_bool (P := Tryd.prog) w 9998 4 _ _ Tryd.underlying4⟩
  · exact ⟨_, _, part_cell Tryd.underlying3 rfl 41 _ 8 (by omega) w, part_cell Tryd.underlying3 rfl 41 _ 8 (by omega) w, run_equalIn_int (P := Tryd.prog) w 9998 3 .i64 .i64 _ _ Tryd.underlying3⟩
  · exact ⟨_, _, part_tag _ w, part_tag _ w, equalIn_arr w 9997 32 5 32 .u8 Tryd.underlying32 Tryd.underlying5 info5s (fun i => bN (a.tag i)) (fun i => bN (b.tag i))⟩
theorem equalIn_ey (w : World) (a b : En) : (Op.equalIn 10000 56 (.agg (rowA 4 (eyF a))) (.agg (rowA 4 (eyF b)))).run Tryd.prog w = .ok (eqE4 a b) w := by
  rw [run_equalIn_struct w 9999 56 _ _ Tryd.underlying56 (by kernel_rfl)]
  refine eqFields_map w 9999 _ _ _ [(3, 0, a.saga == b.saga), (3, 1, a.step == b.step), (4, 2, a.back == b.back), (4, 3, a.good == b.good)] (by kernel_rfl) ?_
  simp only [List.forall_mem_cons]
  refine ⟨?_, ?_, ?_, ?_, fun _ h => by cases h⟩
  · exact ⟨_, _, part_cell Tryd.underlying3 rfl 4 _ 0 (by omega) w, part_cell Tryd.underlying3 rfl 4 _ 0 (by omega) w, run_equalIn_int (P := Tryd.prog) w 9998 3 .i64 .i64 _ _ Tryd.underlying3⟩
  · exact ⟨_, _, part_cell Tryd.underlying3 rfl 4 _ 1 (by omega) w, part_cell Tryd.underlying3 rfl 4 _ 1 (by omega) w, run_equalIn_int (P := Tryd.prog) w 9998 3 .i64 .i64 _ _ Tryd.underlying3⟩
  · exact ⟨_, _, part_cell Tryd.underlying4 rfl 4 _ 2 (by omega) w, part_cell Tryd.underlying4 rfl 4 _ 2 (by omega) w, run_equalIn_bool (P := Tryd.prog) w 9998 4 _ _ Tryd.underlying4⟩
  · exact ⟨_, _, part_cell Tryd.underlying4 rfl 4 _ 3 (by omega) w, part_cell Tryd.underlying4 rfl 4 _ 3 (by omega) w, run_equalIn_bool (P := Tryd.prog) w 9998 4 _ _ Tryd.underlying4⟩
theorem equalIn_de (w : World) (a1 a2 b1 b2 : Int) (a3 b3 : Bool) : (Op.equalIn 10000 71 (.agg (rowA 3 (dyF a1 a2 a3))) (.agg (rowA 3 (dyF b1 b2 b3)))).run Tryd.prog w = .ok ([a1 == b1, a2 == b2, a3 == b3].all id) w := by
  rw [run_equalIn_struct w 9999 71 _ _ Tryd.underlying71 (by kernel_rfl)]
  refine eqFields_map w 9999 _ _ _ [(3, 0, a1 == b1), (3, 1, a2 == b2), (4, 2, a3 == b3)] (by kernel_rfl) ?_
  simp only [List.forall_mem_cons]
  refine ⟨?_, ?_, ?_, fun _ h => by cases h⟩
  · exact ⟨_, _, part_cell Tryd.underlying3 rfl 3 _ 0 (by omega) w, part_cell Tryd.underlying3 rfl 3 _ 0 (by omega) w, run_equalIn_int (P := Tryd.prog) w 9998 3 .i64 .i64 _ _ Tryd.underlying3⟩
  · exact ⟨_, _, part_cell Tryd.underlying3 rfl 3 _ 1 (by omega) w, part_cell Tryd.underlying3 rfl 3 _ 1 (by omega) w, run_equalIn_int (P := Tryd.prog) w 9998 3 .i64 .i64 _ _ Tryd.underlying3⟩
  · exact ⟨_, _, part_cell Tryd.underlying4 rfl 3 _ 2 (by omega) w, part_cell Tryd.underlying4 rfl 3 _ 2 (by omega) w, run_equalIn_bool (P := Tryd.prog) w 9998 4 _ _ Tryd.underlying4⟩
end Go.Proofs.YtchpmdcacpjojaaDoor
/- The map of deeds in memory: asked, put into, ranged over; steps that write blocks of a range alone. -/
namespace Go.Proofs.YtchpmdcacpjojaaDoor
open Go Go.RowKit
set_option maxRecDepth 8000
set_option linter.all false
open Go.ChangeMaps (setBlock)
def entM (k : Nat) (x : En) : MapEntry := { key := .agg (rowA 3 (dyF x.saga x.step x.back)), val := .agg (rowA 2 (tdF x.good (k : Int))), born := k }
def entsM : Nat → List En → List MapEntry
  | _, [] => []
  | k, x :: L => entM k x :: entsM (k + 1) L
theorem entsM_length : ∀ (k : Nat) (L : List En), (entsM k L).length = L.length
  | _, [] => rfl
  | k, x :: L => by rw [entsM, List.length_cons, List.length_cons, entsM_length]
theorem entsM_app : ∀ (k : Nat) (L M : List En), entsM k (L ++ M) = entsM k L ++ entsM (k + L.length) M
  | k, [], M => rfl
  | k, x :: L, M => by
    rw [List.cons_append, entsM, entsM, entsM_app (k + 1) L M, List.cons_append, List.length_cons, show k + 1 + L.length = k + (L.length + 1) by omega]
theorem entsM_at : ∀ (k : Nat) (L : List En) (i : Nat) (x : En), L[i]? = some x → (entsM k L)[i]? = some (entM (k + i) x)
  | k, [], i, x, h => by simp at h
  | k, y :: L, 0, x, h => by simp at h; subst h; rfl
  | k, y :: L, i + 1, x, h => by
    rw [entsM, List.getElem?_cons_succ, entsM_at (k + 1) L i x (by simpa using h), show k + 1 + i = k + (i + 1) by omega]
theorem entsM_mem {k : Nat} {L : List En} {e : MapEntry} (h : e ∈ entsM k L) : ∃ i x, L[i]? = some x ∧ e = entM (k + i) x := by
  obtain ⟨i, hi, he⟩ := List.mem_iff_getElem.1 h
  have hl : i < L.length := by rw [← entsM_length k L]; exact hi
  refine ⟨i, L[i], List.getElem?_eq_getElem hl, ?_⟩
  have := entsM_at k L i _ (List.getElem?_eq_getElem hl)
  rw [List.getElem?_eq_getElem hi, he] at this
  exact Option.some.inj this
theorem entsM_born : ∀ (k : Nat) (L : List En), (entsM k L).map (·.born) = List.range' k L.length
  | _, [] => rfl
  | k, x :: L => by rw [entsM, List.map_cons, entsM_born, List.length_cons, List.range'_succ]; rfl
/-- Block m is a map of these entries. -/
def MapAt (w : World) (m : Nat) (L : List En) : Prop := w.heap[m]? = some (.map (entsM 0 L).toArray L.length)
theorem MapAt.lt {w : World} {m : Nat} {L : List En} (h : MapAt w m L) : m < w.heap.size := (Array.getElem?_eq_some_iff.1 h).1
theorem isE_alls (s t : Int) (b : Bool) (x : En) : ([s == x.saga, t == x.step, b == x.back].all id) = isE s t b x := by
  unfold isE
  rw [Bool.eq_iff_iff]
  simp only [List.all_cons, List.all_nil, id, Bool.and_true, Bool.and_eq_true, beq_iff_eq]
  exact ⟨fun ⟨a, b, c⟩ => ⟨⟨a.symm, b.symm⟩, c.symm⟩, fun ⟨⟨a, b⟩, c⟩ => ⟨a.symm, b.symm, c.symm⟩⟩
/-- Where a deed's entry is, and what it tells. -/
def findD (s t : Int) (b : Bool) : Nat → Nat → List En → Option (Nat × Value)
  | _, _, [] => none
  | k, i, x :: L => if isE s t b x = true then some (i, .agg (rowA 2 (tdF x.good (k : Int)))) else findD s t b (k + 1) (i + 1) L
theorem findD_some {s t : Int} {b g : Bool} : ∀ (L : List En) (k i : Nat), hasE L s t b = some g → ∃ j n, findD s t b k i L = some (j, .agg (rowA 2 (tdF g n)))
  | [], _, _, h => by cases h
  | x :: L, k, i, h => by
    unfold findD
    unfold hasE at h
    rw [List.find?_cons] at h
    cases hx : isE s t b x with
    | true => rw [hx] at h; simp at h; subst h; exact ⟨i, _, rfl⟩
    | false => rw [hx] at h; exact findD_some L (k + 1) (i + 1) h
theorem findD_none {s t : Int} {b : Bool} : ∀ (L : List En) (k i : Nat), hasE L s t b = none → findD s t b k i L = none
  | [], _, _, _ => rfl
  | x :: L, k, i, h => by
    unfold findD
    unfold hasE at h
    rw [List.find?_cons] at h
    cases hx : isE s t b x with
    | true => rw [hx] at h; simp at h
    | false => rw [hx] at h; exact findD_none L (k + 1) (i + 1) h
theorem run_askD (w : World) (s t : Int) (b : Bool) : ∀ (L : List En) (k i : Nat), (Instr.findAsking 71 (.agg (rowA 3 (dyF s t b))) (entsM k L) i).run Tryd.prog w = .ok (findD s t b k i L) w
  | [], _, _ => by simp [entsM, Instr.findAsking, findD]
  | x :: L, k, i => by
    rw [entsM, Instr.findAsking, Sem.run_bind, show Op.equal 71 (.agg (rowA 3 (dyF s t b))) (entM k x).key = Op.equalIn 10000 71 (.agg (rowA 3 (dyF s t b))) (.agg (rowA 3 (dyF x.saga x.step x.back))) from rfl, equalIn_de w s t x.saga x.step b x.back, isE_alls]
    simp only [Result.andThen_ok]
    unfold findD
    cases isE s t b x
    · exact run_askD w s t b L (k + 1) (i + 1)
    · rfl
theorem run_findD (w : World) (s t : Int) (b : Bool) (L : List En) : (Instr.findKey 71 (.agg (rowA 3 (dyF s t b))) (entsM 0 L)).run Tryd.prog w = .ok (findD s t b 0 0 L) w := by
  have h1 := run_askD w s t b L 0 0
  cases L with
  | nil => simp [Instr.findKey, run_underlying Tryd.underlying71, entsM, Instr.findNow, findD]
  | cons x L =>
    unfold entsM at h1 ⊢
    simp only [Instr.findKey, Sem.run_bind, run_underlying Tryd.underlying71, Result.andThen_ok, Instr.findNow, Instr.sameNow]
    exact h1
theorem run_checkD (e : Bool) (s t : Int) (b : Bool) (w : World) : (Instr.checkKey e 10000 71 (.agg (rowA 3 (dyF s t b)))).run Tryd.prog w = .ok () w := by kernel_rfl
theorem run_lookD {w : World} {m : Nat} {L : List En} (hm : MapAt w m L) (s t : Int) (b ok : Bool) : ∃ n, (Instr.lookup 65 (.map (some m)) (.agg (rowA 3 (dyF s t b))) ok).run Tryd.prog w = .ok (if ok = true then .tuple #[.agg (rowA 2 (tdF ((hasE L s t b).getD false) n)), .bool (hasE L s t b).isSome] else .agg (rowA 2 (tdF ((hasE L s t b).getD false) n))) w := by
  have hf := run_findD w s t b L
  have hz := zero_td w
  have hc := run_checkD (entsM 0 L).toArray.isEmpty s t b w
  cases hh : hasE L s t b with
  | none =>
    rw [findD_none L 0 0 hh] at hf
    refine ⟨0, ?_⟩
    simp only [Instr.lookup, Sem.run_bind, run_underlying Tryd.underlying65, Result.andThen_ok, MapKept.run_getObj_map hm, Sem.run_pure, hc, hf, hz]
    cases ok <;> rfl
  | some g =>
    obtain ⟨j, n, hj⟩ := findD_some (g := g) L 0 0 hh
    rw [hj] at hf
    refine ⟨n, ?_⟩
    simp only [Instr.lookup, Sem.run_bind, run_underlying Tryd.underlying65, Result.andThen_ok, MapKept.run_getObj_map hm, Sem.run_pure, hc, hf]
    cases ok <;> rfl
theorem run_insD (w : World) {m : Nat} {L : List En} (hm : MapAt w m L) {s t : Int} {b g : Bool} (hn : hasE L s t b = none) :
    (Instr.mapUpdate 65 (.map (some m)) (.agg (rowA 3 (dyF s t b))) (.agg (rowA 2 (tdF g (L.length : Int))))).run Tryd.prog w = .ok () { w with heap := w.heap.setIfInBounds m (.map (entsM 0 (L ++ [⟨s, t, b, g⟩])).toArray (L ++ [(⟨s, t, b, g⟩ : En)]).length) } := by
  have hf := run_findD w s t b L
  rw [findD_none L 0 0 hn] at hf
  have hc := run_checkD false s t b w
  have e : (entsM 0 L).toArray.push { key := .agg (rowA 3 (dyF s t b)), val := .agg (rowA 2 (tdF g (L.length : Int))), born := L.length } = (entsM 0 (L ++ [⟨s, t, b, g⟩])).toArray := by
    rw [entsM_app, Nat.zero_add]; simp [entsM, entM]
  simp only [Instr.mapUpdate, Sem.run_bind, run_underlying Tryd.underlying65, Result.andThen_ok, MapKept.run_getObj_map hm, hc, hf, MapKept.run_setObj_map _ hm]
  rw [e, show (L ++ [(⟨s, t, b, g⟩ : En)]).length = L.length + 1 by simp]
/-- A step that writes blocks from lo to below hi, and new memory, alone. -/
structure PT (lo hi : Nat) (w w' : World) : Prop where
  below : Below lo w w'
  high : ∀ k, k < w.heap.size → hi ≤ k → w'.heap[k]? = w.heap[k]?
theorem PT.refl (lo hi : Nat) (w : World) : PT lo hi w w := ⟨Below.refl _ _, fun _ _ _ => rfl⟩
theorem PT.size {lo hi : Nat} {w w' : World} (h : PT lo hi w w') : w.heap.size ≤ w'.heap.size := h.below.size
theorem PT.trans {lo hi : Nat} (a b c : World) (h : PT lo hi a b) (k : PT lo hi b c) : PT lo hi a c := ⟨h.below.trans k.below, fun i h1 h2 => (k.high i (Nat.lt_of_lt_of_le h1 h.size) h2).trans (h.high i h1 h2)⟩
theorem PT.drew (lo hi : Nat) (w : World) : PT lo hi w w.drew := ⟨(Below.refl _ _).drew, fun _ _ _ => rfl⟩
theorem PT.new {lo hi : Nat} {w w' : World} (h : NewT w w') (hl : lo ≤ w.heap.size) : PT lo hi w w' := ⟨h.out.mono hl, fun k h1 _ => h.out.block k h1⟩
theorem PT.block {lo hi : Nat} {w w' : World} (h : PT lo hi w w') {k : Nat} (hk : k < w.heap.size) (hd : k < lo ∨ hi ≤ k) : w'.heap[k]? = w.heap[k]? := by
  rcases hd with hd | hd
  · exact h.below.block k hd
  · exact h.high k hk hd
theorem cell_lt {w : World} {b o : Nat} {v : Value} (h : w.cell? ⟨b, o, none⟩ = some v) : b < w.heap.size := World.block_lt_of_cell? _ _ h
theorem cell_of {w w' : World} {b o : Nat} (h : w'.heap[b]? = w.heap[b]?) : w'.cell? ⟨b, o, none⟩ = w.cell? ⟨b, o, none⟩ := by simp [World.cell?, h]
theorem PT.cell {lo hi : Nat} {w w' : World} (h : PT lo hi w w') {b o : Nat} {v : Value} (hc : w.cell? ⟨b, o, none⟩ = some v) (hd : b < lo ∨ hi ≤ b) : w'.cell? ⟨b, o, none⟩ = some v := (cell_of (h.block (cell_lt hc) hd)).trans hc
theorem row_of {w w' : World} {b n : Nat} {t : TypeId} {F : Nat → Value} (h : w'.heap[b]? = w.heap[b]?) (hr : w.rowIs b t n F) : w'.rowIs b t n F := by
  unfold World.rowIs at hr ⊢
  rw [h]; exact hr
theorem PT.row {lo hi : Nat} {w w' : World} (h : PT lo hi w w') {b n : Nat} {t : TypeId} {F : Nat → Value} (hr : w.rowIs b t n F) (hd : b < lo ∨ hi ≤ b) : w'.rowIs b t n F := row_of (h.block hr.lt hd) hr
theorem PT.map {lo hi : Nat} {w w' : World} (h : PT lo hi w w') {m : Nat} {L : List En} (hm : MapAt w m L) (hd : m < lo ∨ hi ≤ m) : MapAt w' m L := (h.block hm.lt hd).trans hm
/-- A row of hashes in blocks from lo to below hi. -/
def RdHI (lo hi : Nat) (w : World) (v : Value) (l : List Hs) : Prop := RdH w v l ∧ ∀ k, v.ownBlock = some k → lo ≤ k ∧ k < hi
theorem RdHI.of {lo hi : Nat} {w w' : World} {v : Value} {l : List Hs} (h : RdHI lo hi w v l) (hb : ∀ k, lo ≤ k → k < hi → (∃ o x, w.cell? ⟨k, o, none⟩ = some x) → w'.heap[k]? = w.heap[k]?) : RdHI lo hi w' v l := by
  obtain ⟨⟨A, c, rfl, h1, h2, h3⟩, h4⟩ := h
  refine ⟨⟨A, c, rfl, h1, h2, fun h0 => ?_⟩, h4⟩
  obtain ⟨b, o, rfl, hc⟩ := h3 h0
  have hk := h4 b rfl
  exact ⟨b, o, rfl, fun i d hd j hj => (cell_of (hb b hk.1 hk.2 ⟨_, _, hc i d hd j hj⟩)).trans (hc i d hd j hj)⟩
theorem new_map (W : World) (m : Nat) (o : Obj) : Below m W { W with heap := W.heap.setIfInBounds m o } :=
  ⟨rfl, rfl, rfl, by simp, fun k hk => by simp only [Array.getElem?_setIfInBounds_ne (show m ≠ k by omega)]⟩
section
variable {a : Act} {w : World} {o : Oper} {K : Act → World → Prop} {Q : Exit → Act → World → Prop} {x y z : Operand} {m : Nat} {L : List En}
theorem opr_lookT {s t : Int} {b : Bool} (ho : o.op = .lookup 65 x y true) (hx : a.eval x = .map (some m)) (hy : a.eval y = .agg (rowA 3 (dyF s t b))) (hm : MapAt w m L) (h : ∀ n, K (a.put o.dst (.tuple #[.agg (rowA 2 (tdF ((hasE L s t b).getD false) n)), .bool (hasE L s t b).isSome])) w) : o.wp Tryd.prog a w K Q := by
  obtain ⟨dst, op, type, pos, after, guard⟩ := o
  simp only at ho
  subst ho
  obtain ⟨n, hn⟩ := run_lookD hm s t b true
  exact opr_val (s := Instr.lookup 65 (a.eval x) (a.eval y) true) (by simp [execOp]) (by rw [hx, hy]; exact hn) (h n)
theorem opr_lookF {s t : Int} {b : Bool} (ho : o.op = .lookup 65 x y false) (hx : a.eval x = .map (some m)) (hy : a.eval y = .agg (rowA 3 (dyF s t b))) (hm : MapAt w m L) (h : ∀ n, K (a.put o.dst (.agg (rowA 2 (tdF ((hasE L s t b).getD false) n)))) w) : o.wp Tryd.prog a w K Q := by
  obtain ⟨dst, op, type, pos, after, guard⟩ := o
  simp only at ho
  subst ho
  obtain ⟨n, hn⟩ := run_lookD hm s t b false
  exact opr_val (s := Instr.lookup 65 (a.eval x) (a.eval y) false) (by simp [execOp]) (by rw [hx, hy]; exact hn) (h n)
theorem opr_insD {s t : Int} {b g : Bool} (ho : o.op = .mapUpdate 65 x y z) (hx : a.eval x = .map (some m)) (hy : a.eval y = .agg (rowA 3 (dyF s t b))) (hz : a.eval z = .agg (rowA 2 (tdF g (L.length : Int)))) (hm : MapAt w m L) (hn : hasE L s t b = none)
    (h : ∀ w', Below m w w' → (∀ k, k ≠ m → w'.heap[k]? = w.heap[k]?) → MapAt w' m (L ++ [⟨s, t, b, g⟩]) → K (a.put o.dst undef) w') : o.wp Tryd.prog a w K Q := by
  obtain ⟨dst, op, type, pos, after, guard⟩ := o
  simp only at ho
  subst ho
  have hlt := hm.lt
  refine opr_unit (s := Instr.mapUpdate 65 (a.eval x) (a.eval y) (a.eval z)) rfl ?_ (h _ (new_map w m (.map (entsM 0 (L ++ [⟨s, t, b, g⟩])).toArray (L ++ [(⟨s, t, b, g⟩ : En)]).length)) (fun k hk => by simp only [Array.getElem?_setIfInBounds_ne (Ne.symm hk)]) (by unfold MapAt; simp [hlt]))
  rw [hx, hy, hz]
  exact run_insD w hm hn
theorem opr_lenM {t : TypeId} (ho : o.op = .call { callee := .builtin .len, args := #[x], argTypes := #[65] }) (hx : a.eval x = .map (some m)) (hm : MapAt w m L) (h : K (a.put o.dst (.int .i64 (L.length : Int))) w) : o.wp Tryd.prog a w K Q := by
  obtain ⟨dst, op, type, pos, after, guard⟩ := o
  simp only at ho
  subst ho
  refine opr_val (s := Builtin.len_ #[65] type #[a.eval x]) (v := .int .i64 (L.length : Int)) (by
    show (do let d ← resolve a.eval { callee := .builtin .len, args := #[x], argTypes := #[65] } type; invoke d.target d.args) = _
    simp only [resolve, invoke, pure_bind, BigFrame.builtin_len, List.map_toArray, List.map_cons, List.map_nil]) ?_ h
  rw [hx]
  simp [Builtin.len_, run_underlying Tryd.underlying65, MapKept.run_getObj_map hm, goInt, entsM_length]
theorem opr_mkMapD (ho : o.op = .makeMap 65 none) (h : ∀ w', NewT w w' → MapAt w' w.heap.size [] → K (a.put o.dst (.map (some w.heap.size))) w') : o.wp Tryd.prog a w K Q := by
  obtain ⟨dst, op, type, pos, after, guard⟩ := o
  simp only at ho
  subst ho
  exact opr_val (s := Instr.makeMap 65 none) (by simp [execOp]) (run_makeMap_plain w _) (h _ (NewT.alloc _ _) (World.alloc_heap_new _ _))
end
end Go.Proofs.YtchpmdcacpjojaaDoor
/- A whole row stored. No program is named here. -/
namespace Go.Proofs.YtchpmdcacpjojaaDoor
open Go
set_option maxRecDepth 8000
set_option linter.all false
theorem put_allN (n : Nat) (F G : Nat → Value) : ∀ i, i < n → F i = if 0 ≤ i ∧ i < 0 + n then F (i - 0) else G i := fun i hi => by
  rw [if_pos (by omega), Nat.sub_zero]
end Go.Proofs.YtchpmdcacpjojaaDoor
/- A participant in memory; fields and loads of calls, entries, deeds and participants; calls and entries compared. -/
namespace Go.Proofs.YtchpmdcacpjojaaDoor
open Go Go.RowKit
set_option maxRecDepth 8000
set_option linter.all false
/-- Block g, and others from lo to below hi, are a participant. -/
def PartAt (w : World) (lo hi g : Nat) (n e : Int) (ps ws : List Hs) (need : Int) (L : List En) : Prop :=
  ∃ m pv wv, w.rowIs g 67 6 (pyF n pv wv need e (.map (some m))) ∧ MapAt w m L ∧ RdHI lo g w pv ps ∧ RdHI lo g w wv ws ∧ lo ≤ m ∧ m < g ∧ g < hi ∧ hi ≤ w.heap.size
section
variable {w w' : World} {lo hi g : Nat} {n e : Int} {ps ws : List Hs} {need : Int} {L : List En}
theorem PartAt.lt (h : PartAt w lo hi g n e ps ws need L) : lo ≤ g ∧ g < hi ∧ hi ≤ w.heap.size := by
  obtain ⟨m, pv, wv, _, _, _, _, h1, h2, h3, h4⟩ := h
  omega
theorem PartAt.of (h : PartAt w lo hi g n e ps ws need L) (hs : w.heap.size ≤ w'.heap.size) (hb : ∀ k, lo ≤ k → k < hi → w'.heap[k]? = w.heap[k]?) : PartAt w' lo hi g n e ps ws need L := by
  obtain ⟨m, pv, wv, r1, r2, r3, r4, h1, h2, h3, h4⟩ := h
  exact ⟨m, pv, wv, row_of (hb g (by omega) h3) r1, (hb m h1 (by omega)).trans r2, r3.of fun k a b _ => hb k a (by omega), r4.of fun k a b _ => hb k a (by omega), h1, h2, h3, by omega⟩
theorem PartAt.new (h : PartAt w lo hi g n e ps ws need L) (hN : NewT w w') : PartAt w' lo hi g n e ps ws need L := h.of hN.out.size fun k _ hk => hN.out.block k (by have := h.lt; omega)
theorem PartAt.pt (h : PartAt w lo hi g n e ps ws need L) {lo' hi' : Nat} (hT : PT lo' hi' w w') (hd : hi ≤ lo' ∨ hi' ≤ lo) : PartAt w' lo hi g n e ps ws need L := h.of hT.size fun k h1 h2 => hT.block (by have := h.lt; omega) (by omega)
theorem PartAt.drew (h : PartAt w lo hi g n e ps ws need L) : PartAt w.drew lo hi g n e ps ws need L := h.of (Nat.le_refl _) fun _ _ _ => rfl
/-- One entry more. -/
theorem PartAt.put {m : Nat} {pv wv : Value} (hr : w.rowIs g 67 6 (pyF n pv wv need e (.map (some m)))) (hm : MapAt w m L) (hp : RdHI lo g w pv ps) (hw : RdHI lo g w wv ws) (hl : lo ≤ m ∧ m < g ∧ g < hi ∧ hi ≤ w.heap.size) {x : En} (hs : w.heap.size ≤ w'.heap.size) (hb : ∀ k, k ≠ m → w'.heap[k]? = w.heap[k]?) (hm' : MapAt w' m (L ++ [x])) : PartAt w' lo hi g n e ps ws need (L ++ [x]) := by
  have hc : ∀ k, (∃ o y, w.cell? ⟨k, o, none⟩ = some y) → w'.heap[k]? = w.heap[k]? := fun k ⟨o, y, hy⟩ => hb k fun hk => by
    subst hk
    simp [World.cell?, show w.heap[k]? = _ from hm] at hy
  exact ⟨m, pv, wv, row_of (hb g (by omega)) hr, hm', hp.of fun k _ _ h => hc k h, hw.of fun k _ _ h => hc k h, hl.1, hl.2.1, hl.2.2.1, by omega⟩
end
theorem cl_ans (c : Cl) (z : Bool) (i : Nat) (hi : i < 41) : clF { c with ans := z } i = if i = 6 then .bool z else clF c i := by
  unfold clF
  by_cases h : i = 6
  · subst h; rfl
  · rw [if_neg h]; repeat' split
    all_goals first | rfl | omega
theorem cl_good (c : Cl) (z : Bool) (i : Nat) (hi : i < 41) : clF { c with good := z } i = if i = 7 then .bool z else clF c i := by
  unfold clF
  by_cases h : i = 7
  · subst h; rfl
  · rw [if_neg h]; repeat' split
    all_goals first | rfl | omega
theorem cl_ep (c : Cl) (z : Int) (i : Nat) (hi : i < 41) : clF { c with ep := z } i = if i = 8 then .int .i64 z else clF c i := by
  unfold clF
  by_cases h : i = 8
  · subst h; rfl
  · rw [if_neg h]; repeat' split
    all_goals first | rfl | omega
theorem cl_tag (c : Cl) (d : Hs) (i : Nat) (hi : i < 41) : clF { c with tag := d } i = if 9 ≤ i ∧ i < 9 + 32 then bF d (i - 9) else clF c i := by
  unfold clF
  by_cases h : i < 9
  · rw [if_pos h, if_neg (show ¬ (9 ≤ i ∧ i < 9 + 32) by omega), if_pos h]
  · rw [if_neg h, if_pos (show 9 ≤ i ∧ i < 9 + 32 by omega)]
theorem py_e (n : Int) (pv wv : Value) (need e z : Int) (mv : Value) (i : Nat) (hi : i < 6) : pyF n pv wv need z mv i = if i = 4 then .int .i64 z else pyF n pv wv need e mv i := by
  unfold pyF
  by_cases h : i = 4
  · subst h; rfl
  · rw [if_neg h]
    repeat' split
    all_goals first | rfl | omega
theorem NewT.mapAt {w w' : World} (h : NewT w w') {m : Nat} {L : List En} (hm : MapAt w m L) : MapAt w' m L := (h.out.block m hm.lt).trans hm
theorem PT.rt {lo hi g : Nat} {w w1 w2 : World} (h : PT lo hi w w1) (hR : RT g w1 w2) (hg : w.heap.size ≤ g) (hl : lo ≤ w.heap.size) : PT lo hi w w2 :=
  ⟨h.below.trans (hR.below.mono (by omega)), fun k h1 h2 => (hR.below.block k (by omega)).trans (h.high k h1 h2)⟩
theorem PT.tables {lo hi : Nat} {w w' : World} (h : PT lo hi w w') (hT : Tables w) (hl : 2 ≤ lo) : Tables w' :=
  ⟨Nat.lt_of_lt_of_le hT.size h.size, fun i hi => h.cell (b := 1) (hT.k i hi) (.inl (by omega)), fun i hi => h.cell (b := 0) (hT.f i hi) (.inl (by omega))⟩
theorem PartAt.rt {w w' : World} {lo hi g : Nat} {n e : Int} {ps ws : List Hs} {need : Int} {L : List En} (h : PartAt w lo hi g n e ps ws need L) {b : Nat} (hR : RT b w w') (hb : hi ≤ b) : PartAt w' lo hi g n e ps ws need L := h.of hR.size fun k _ hk => hR.below.block k (by omega)
theorem PartAt.row {w : World} {lo hi g : Nat} {n e : Int} {ps ws : List Hs} {need : Int} {L : List En} (h : PartAt w lo hi g n e ps ws need L) : ∃ m pv wv, w.rowIs g 67 6 (pyF n pv wv need e (.map (some m))) ∧ RdH w pv ps ∧ RdH w wv ws ∧ MapAt w m L := by
  obtain ⟨m, pv, wv, r1, r2, r3, r4, _⟩ := h
  exact ⟨m, pv, wv, r1, r3.1, r4.1, r2⟩
section
variable {a : Act} {w : World} {o : Oper} {K : Act → World → Prop} {Q : Exit → Act → World → Prop} {x y : Operand} {g n o0 : Nat} {t' : TypeId} {F : Nat → Value} {v : Value}
theorem opr_fldCl0 (ho : o.op = .fieldAddr 34 x 0) (hx : a.eval x = .pointer (some ⟨g, 0, none⟩)) (h : K (a.put o.dst (.pointer (some ⟨g, 0, none⟩))) w) : o.wp Tryd.prog a w K Q :=
  opr_fld Tryd.underlying34 rfl info_int ho hx (by rfl) h
theorem opr_fldCl1 (ho : o.op = .fieldAddr 34 x 1) (hx : a.eval x = .pointer (some ⟨g, 0, none⟩)) (h : K (a.put o.dst (.pointer (some ⟨g, 1, none⟩))) w) : o.wp Tryd.prog a w K Q :=
  opr_fld Tryd.underlying34 rfl info_int ho hx (by rfl) h
theorem opr_fldCl2 (ho : o.op = .fieldAddr 34 x 2) (hx : a.eval x = .pointer (some ⟨g, 0, none⟩)) (h : K (a.put o.dst (.pointer (some ⟨g, 2, none⟩))) w) : o.wp Tryd.prog a w K Q :=
  opr_fld Tryd.underlying34 rfl info_int ho hx (by rfl) h
theorem opr_fldCl3 (ho : o.op = .fieldAddr 34 x 3) (hx : a.eval x = .pointer (some ⟨g, 0, none⟩)) (h : K (a.put o.dst (.pointer (some ⟨g, 3, none⟩))) w) : o.wp Tryd.prog a w K Q :=
  opr_fld Tryd.underlying34 rfl info_bool ho hx (by rfl) h
theorem opr_fldCl4 (ho : o.op = .fieldAddr 34 x 4) (hx : a.eval x = .pointer (some ⟨g, 0, none⟩)) (h : K (a.put o.dst (.pointer (some ⟨g, 4, none⟩))) w) : o.wp Tryd.prog a w K Q :=
  opr_fld Tryd.underlying34 rfl info_int ho hx (by rfl) h
theorem opr_fldCl5 (ho : o.op = .fieldAddr 34 x 5) (hx : a.eval x = .pointer (some ⟨g, 0, none⟩)) (h : K (a.put o.dst (.pointer (some ⟨g, 5, none⟩))) w) : o.wp Tryd.prog a w K Q :=
  opr_fld Tryd.underlying34 rfl info_int ho hx (by rfl) h
theorem opr_fldCl6 (ho : o.op = .fieldAddr 34 x 6) (hx : a.eval x = .pointer (some ⟨g, 0, none⟩)) (h : K (a.put o.dst (.pointer (some ⟨g, 6, none⟩))) w) : o.wp Tryd.prog a w K Q :=
  opr_fld Tryd.underlying34 rfl info_bool ho hx (by rfl) h
theorem opr_fldCl7 (ho : o.op = .fieldAddr 34 x 7) (hx : a.eval x = .pointer (some ⟨g, 0, none⟩)) (h : K (a.put o.dst (.pointer (some ⟨g, 7, none⟩))) w) : o.wp Tryd.prog a w K Q :=
  opr_fld Tryd.underlying34 rfl info_bool ho hx (by rfl) h
theorem opr_fldCl8 (ho : o.op = .fieldAddr 34 x 8) (hx : a.eval x = .pointer (some ⟨g, 0, none⟩)) (h : K (a.put o.dst (.pointer (some ⟨g, 8, none⟩))) w) : o.wp Tryd.prog a w K Q :=
  opr_fld Tryd.underlying34 rfl info_int ho hx (by rfl) h
theorem opr_fldCl9 (ho : o.op = .fieldAddr 34 x 9) (hx : a.eval x = .pointer (some ⟨g, 0, none⟩)) (h : K (a.put o.dst (.pointer (some ⟨g, 9, none⟩))) w) : o.wp Tryd.prog a w K Q :=
  opr_fld Tryd.underlying34 rfl info_hash1 ho hx (by rfl) h
theorem opr_fldPy0 (ho : o.op = .fieldAddr 67 x 0) (hx : a.eval x = .pointer (some ⟨g, 0, none⟩)) (h : K (a.put o.dst (.pointer (some ⟨g, 0, none⟩))) w) : o.wp Tryd.prog a w K Q :=
  opr_fld Tryd.underlying67 rfl info_int ho hx (by rfl) h
theorem opr_fldPy1 (ho : o.op = .fieldAddr 67 x 1) (hx : a.eval x = .pointer (some ⟨g, 0, none⟩)) (h : K (a.put o.dst (.pointer (some ⟨g, 1, none⟩))) w) : o.wp Tryd.prog a w K Q :=
  opr_fld Tryd.underlying67 rfl info_ky31 ho hx (by rfl) h
theorem opr_fldPy2 (ho : o.op = .fieldAddr 67 x 2) (hx : a.eval x = .pointer (some ⟨g, 0, none⟩)) (h : K (a.put o.dst (.pointer (some ⟨g, 4, none⟩))) w) : o.wp Tryd.prog a w K Q :=
  opr_fld Tryd.underlying67 rfl info_int ho hx (by rfl) h
theorem opr_fldPy3 (ho : o.op = .fieldAddr 67 x 3) (hx : a.eval x = .pointer (some ⟨g, 0, none⟩)) (h : K (a.put o.dst (.pointer (some ⟨g, 5, none⟩))) w) : o.wp Tryd.prog a w K Q :=
  opr_fld Tryd.underlying67 rfl info_mp1 ho hx (by rfl) h
theorem opr_fldDy0 (ho : o.op = .fieldAddr 71 x 0) (hx : a.eval x = .pointer (some ⟨g, 0, none⟩)) (h : K (a.put o.dst (.pointer (some ⟨g, 0, none⟩))) w) : o.wp Tryd.prog a w K Q :=
  opr_fld Tryd.underlying71 rfl info_int ho hx (by rfl) h
theorem opr_fldDy1 (ho : o.op = .fieldAddr 71 x 1) (hx : a.eval x = .pointer (some ⟨g, 0, none⟩)) (h : K (a.put o.dst (.pointer (some ⟨g, 1, none⟩))) w) : o.wp Tryd.prog a w K Q :=
  opr_fld Tryd.underlying71 rfl info_int ho hx (by rfl) h
theorem opr_fldDy2 (ho : o.op = .fieldAddr 71 x 2) (hx : a.eval x = .pointer (some ⟨g, 0, none⟩)) (h : K (a.put o.dst (.pointer (some ⟨g, 2, none⟩))) w) : o.wp Tryd.prog a w K Q :=
  opr_fld Tryd.underlying71 rfl info_bool ho hx (by rfl) h
theorem opr_fldTd0 (ho : o.op = .fieldAddr 73 x 0) (hx : a.eval x = .pointer (some ⟨g, 0, none⟩)) (h : K (a.put o.dst (.pointer (some ⟨g, 0, none⟩))) w) : o.wp Tryd.prog a w K Q :=
  opr_fld Tryd.underlying73 rfl info_bool ho hx (by rfl) h
theorem opr_fldTd1 (ho : o.op = .fieldAddr 73 x 1) (hx : a.eval x = .pointer (some ⟨g, 0, none⟩)) (h : K (a.put o.dst (.pointer (some ⟨g, 1, none⟩))) w) : o.wp Tryd.prog a w K Q :=
  opr_fld Tryd.underlying73 rfl info_int ho hx (by rfl) h
theorem opr_fldEy0 (ho : o.op = .fieldAddr 56 x 0) (hx : a.eval x = .pointer (some ⟨g, 0, none⟩)) (h : K (a.put o.dst (.pointer (some ⟨g, 0, none⟩))) w) : o.wp Tryd.prog a w K Q :=
  opr_fld Tryd.underlying56 rfl info_int ho hx (by rfl) h
theorem opr_fldEy1 (ho : o.op = .fieldAddr 56 x 1) (hx : a.eval x = .pointer (some ⟨g, 0, none⟩)) (h : K (a.put o.dst (.pointer (some ⟨g, 1, none⟩))) w) : o.wp Tryd.prog a w K Q :=
  opr_fld Tryd.underlying56 rfl info_int ho hx (by rfl) h
theorem opr_fldEy2 (ho : o.op = .fieldAddr 56 x 2) (hx : a.eval x = .pointer (some ⟨g, 0, none⟩)) (h : K (a.put o.dst (.pointer (some ⟨g, 2, none⟩))) w) : o.wp Tryd.prog a w K Q :=
  opr_fld Tryd.underlying56 rfl info_bool ho hx (by rfl) h
theorem opr_fldEy3 (ho : o.op = .fieldAddr 56 x 3) (hx : a.eval x = .pointer (some ⟨g, 0, none⟩)) (h : K (a.put o.dst (.pointer (some ⟨g, 3, none⟩))) w) : o.wp Tryd.prog a w K Q :=
  opr_fld Tryd.underlying56 rfl info_bool ho hx (by rfl) h
theorem opr_fldRp0 (ho : o.op = .fieldAddr 42 x 0) (hx : a.eval x = .pointer (some ⟨g, 0, none⟩)) (h : K (a.put o.dst (.pointer (some ⟨g, 0, none⟩))) w) : o.wp Tryd.prog a w K Q :=
  opr_fld Tryd.underlying42 rfl info_ky31 ho hx (by rfl) h
theorem opr_fldRp1 (ho : o.op = .fieldAddr 42 x 1) (hx : a.eval x = .pointer (some ⟨g, 0, none⟩)) (h : K (a.put o.dst (.pointer (some ⟨g, 3, none⟩))) w) : o.wp Tryd.prog a w K Q :=
  opr_fld Tryd.underlying42 rfl info_int ho hx (by rfl) h
theorem opr_fldRp2 (ho : o.op = .fieldAddr 42 x 2) (hx : a.eval x = .pointer (some ⟨g, 0, none⟩)) (h : K (a.put o.dst (.pointer (some ⟨g, 4, none⟩))) w) : o.wp Tryd.prog a w K Q :=
  opr_fld Tryd.underlying42 rfl info_int ho hx (by rfl) h
theorem opr_fldRp3 (ho : o.op = .fieldAddr 42 x 3) (hx : a.eval x = .pointer (some ⟨g, 0, none⟩)) (h : K (a.put o.dst (.pointer (some ⟨g, 5, none⟩))) w) : o.wp Tryd.prog a w K Q :=
  opr_fld Tryd.underlying42 rfl info_es1 ho hx (by rfl) h
theorem opr_ldCl (hr : w.rowIs g t' 41 F) (ho : o.op = .load 34 x) (hx : a.eval x = .pointer (some ⟨g, 0, none⟩)) (h : K (a.put o.dst (.agg (rowA 41 F))) w) : o.wp Tryd.prog a w K Q := by
  refine opr_ldm Tryd.underlying34 rfl info_cl ho hx hr (by omega) ?_
  simpa using h
theorem opr_ldDe (hr : w.rowIs g t' 3 F) (ho : o.op = .load 71 x) (hx : a.eval x = .pointer (some ⟨g, 0, none⟩)) (h : K (a.put o.dst (.agg (rowA 3 F))) w) : o.wp Tryd.prog a w K Q := by
  refine opr_ldm Tryd.underlying71 rfl info_de ho hx hr (by omega) ?_
  simpa using h
theorem opr_ldMp (hr : w.rowIs g t' n F) (hn : o0 < n) (hv : F o0 = v) (ho : o.op = .load 65 x) (hx : a.eval x = .pointer (some ⟨g, o0, none⟩)) (h : K (a.put o.dst v) w) : o.wp Tryd.prog a w K Q :=
  opr_ld1 Tryd.underlying65 rfl ho hx (by rw [hr.cell hn, hv]) h
theorem opr_ldPp (hr : w.rowIs g t' n F) (hn : o0 < n) (hv : F o0 = v) (ho : o.op = .load 28 x) (hx : a.eval x = .pointer (some ⟨g, o0, none⟩)) (h : K (a.put o.dst v) w) : o.wp Tryd.prog a w K Q :=
  opr_ld1 Tryd.underlying28 rfl ho hx (by rw [hr.cell hn, hv]) h
theorem opr_ldEs (hr : w.rowIs g t' n F) (hn : o0 < n) (hv : F o0 = v) (ho : o.op = .load 38 x) (hx : a.eval x = .pointer (some ⟨g, o0, none⟩)) (h : K (a.put o.dst v) w) : o.wp Tryd.prog a w K Q :=
  opr_ld1 Tryd.underlying38 rfl ho hx (by rw [hr.cell hn, hv]) h
/-- The keys of a participant, loaded. -/
theorem opr_ldKp {nn need e : Int} {pv wv mv : Value} (hr : w.rowIs g t' 6 (pyF nn pv wv need e mv)) (ho : o.op = .load 24 x) (hx : a.eval x = .pointer (some ⟨g, 1, none⟩)) (h : K (a.put o.dst (.agg (rowA 3 (keyF pv wv need)))) w) : o.wp Tryd.prog a w K Q := by
  refine opr_ldm Tryd.underlying24 rfl info_ky ho hx hr (by omega) ?_
  rw [show rowA 3 (fun j => pyF nn pv wv need e mv (1 + j)) = rowA 3 (keyF pv wv need) from rowA_congr fun j hj => by
    rcases (show j = 0 ∨ j = 1 ∨ j = 2 by omega) with rfl | rfl | rfl <;> rfl]
  exact h
theorem eqType_cl : Tryd.prog.eqGuardType Tryd.prog.depth 34 = false := by kernel_rfl
theorem eqType_ey : Tryd.prog.eqGuardType Tryd.prog.depth 56 = false := by kernel_rfl
theorem opr_eqlCl {p q : Cl} {t2 : TypeId} (ho : o.op = .binOp .eql 34 x y t2) (hx : a.eval x = .agg (rowA 41 (clF p))) (hy : a.eval y = .agg (rowA 41 (clF q))) (h : K (a.put o.dst (.bool (eqC p q))) w) : o.wp Tryd.prog a w K Q := by
  obtain ⟨dst, op', type, pos, after, guard⟩ := o
  simp only at ho
  subst ho
  refine opr_val (s := do eqGuard .eql 34 x y (a.eval x) (a.eval y); binOp .eql 34 (a.eval x) (a.eval y)) rfl ?_ h
  rw [hx, hy, Sem.run_bind, run_eqGuard_agg _ _ _ _ _ _ _ eqType_cl]
  simp only [Result.andThen_ok]
  rw [run_eql_struct, equalIn_cl]; rfl
theorem opr_neqCl {p q : Cl} {t2 : TypeId} (ho : o.op = .binOp .neq 34 x y t2) (hx : a.eval x = .agg (rowA 41 (clF p))) (hy : a.eval y = .agg (rowA 41 (clF q))) (h : K (a.put o.dst (.bool (!eqC p q))) w) : o.wp Tryd.prog a w K Q := by
  obtain ⟨dst, op', type, pos, after, guard⟩ := o
  simp only at ho
  subst ho
  refine opr_val (s := do eqGuard .neq 34 x y (a.eval x) (a.eval y); binOp .neq 34 (a.eval x) (a.eval y)) rfl ?_ h
  rw [hx, hy, Sem.run_bind, run_eqGuard_agg _ _ _ _ _ _ _ eqType_cl]
  simp only [Result.andThen_ok]
  rw [run_neq_struct, equalIn_cl]; rfl
theorem opr_neqEy {p q : En} {t2 : TypeId} (ho : o.op = .binOp .neq 56 x y t2) (hx : a.eval x = .agg (rowA 4 (eyF p))) (hy : a.eval y = .agg (rowA 4 (eyF q))) (h : K (a.put o.dst (.bool (!eqE4 p q))) w) : o.wp Tryd.prog a w K Q := by
  obtain ⟨dst, op', type, pos, after, guard⟩ := o
  simp only at ho
  subst ho
  refine opr_val (s := do eqGuard .neq 56 x y (a.eval x) (a.eval y); binOp .neq 56 (a.eval x) (a.eval y)) rfl ?_ h
  rw [hx, hy, Sem.run_bind, run_eqGuard_agg _ _ _ _ _ _ _ eqType_ey]
  simp only [Result.andThen_ok]
  rw [run_neq_struct, equalIn_ey]; rfl
theorem fld_td0 (b : Bool) (n : Int) (w : World) : (Instr.field 73 (.agg (rowA 2 (tdF b n))) 0).run Tryd.prog w = .ok (.bool b) w := by kernel_rfl
/-- Is a participant nil? -/
theorem opr_eqPn {A : Addr} {t2 : TypeId} (ho : o.op = .binOp .eql 28 x (.const (.pointer none)) t2) (hx : a.eval x = .pointer (some A)) (h : K (a.put o.dst (.bool false)) w) : o.wp Tryd.prog a w K Q := by
  obtain ⟨dst, op', type, pos, after, guard⟩ := o
  simp only at ho
  subst ho
  refine opr_val (s := do eqGuard .eql 28 x (.const (.pointer none)) (a.eval x) (a.eval (.const (.pointer none))); binOp .eql 28 (a.eval x) (a.eval (.const (.pointer none)))) rfl ?_ h
  rw [hx]
  simp [eval_const, go_sem, Tryd.underlying28]
theorem opr_eqPz {t2 : TypeId} (ho : o.op = .binOp .eql 28 x (.const (.pointer none)) t2) (hx : a.eval x = .pointer none) (h : K (a.put o.dst (.bool true)) w) : o.wp Tryd.prog a w K Q := by
  obtain ⟨dst, op', type, pos, after, guard⟩ := o
  simp only at ho
  subst ho
  refine opr_val (s := do eqGuard .eql 28 x (.const (.pointer none)) (a.eval x) (a.eval (.const (.pointer none))); binOp .eql 28 (a.eval x) (a.eval (.const (.pointer none)))) rfl ?_ h
  rw [hx]
  simp [eval_const, go_sem, Tryd.underlying28]
theorem opr_put1B {P : Program} {t : TypeId} {f0 : Nat → Value} (ho : o.op = .store t x y) (hx : a.eval x = .pointer (some ⟨g, o0, none⟩)) (hy : a.eval y = v) (hr : w.rowIs g t' n f0) (hm : o0 < n) (hi : (P.info? t).map (·.size) = some 1) (hone : v.oneCell' = true)
    (hF : ∀ i, i < n → F i = if i = o0 then v else f0 i) (h : ∀ w', RT g w w' → (∀ k, k ≠ g → w'.heap[k]? = w.heap[k]?) → w'.rowIs g t' n F → K (a.put o.dst undef) w') : o.wp P a w K Q := by
  obtain ⟨dst, op, type, pos, after, guard⟩ := o
  simp only at ho
  subst ho
  have hsz : (sizeOf t).run P w = .ok 1 w := by
    cases hq : P.info? t with
    | none => simp [hq] at hi
    | some i => simp [hq] at hi; simp [sizeOf, typeInfo, hq, hi]
  have hc := hr.cell hm
  have hf := hr.frozen o0
  have hcs : v.cells = #[v] := by cases v <;> first | rfl | simp [Value.oneCell'] at hone
  refine opr_unit (s := Instr.storeAt t (a.eval x) (a.eval y)) (w' := w.setCell ⟨g, o0, none⟩ v) rfl ?_ (h _ (RT.setCell w o0 v) (fun k hk => Go.Deep.blk_setCell_other w ⟨g, o0, none⟩ v k hk) ((hr.set o0 v).congr fun i hi => by rw [hF i hi]))
  rw [hx, hy]
  simp [Instr.storeAt, Instr.sureAddr, storeVar, hsz, hcs, storeCells, run_store _ _ _ _ _ hone, hc, hf, Addr.add_zero']
theorem opr_boxD {P : Program} {t : TypeId} {F : Nat → Value} (ho : o.op = .box t x) (hx : a.eval x = .agg (rowA n F)) (h : ∀ w', NewT w w' → w'.rowIs w.heap.size t n F → K (a.put o.dst (.pointer (some ⟨w.heap.size, 0, none⟩))) w') : o.wp P a w K Q := by
  obtain ⟨dst, op, type, pos, after, guard⟩ := o
  simp only at ho
  subst ho
  refine opr_val (s := Instr.box t (a.eval x)) rfl ?_ (h _ (NewT.alloc w (.cells (rowA n F) t)) (rowIs_box w t n F))
  rw [hx]; rfl
theorem opr_fieldTd {b : Bool} {n : Int} (ho : o.op = .field 73 x 0) (hx : a.eval x = .agg (rowA 2 (tdF b n))) (h : K (a.put o.dst (.bool b)) w) : o.wp Tryd.prog a w K Q :=
  by
  obtain ⟨dst, op, type, pos, after, guard⟩ := o
  simp only at ho
  subst ho
  exact opr_val (s := Instr.field 73 (a.eval x) 0) rfl (by rw [hx]; exact fld_td0 b n w) h
end
end Go.Proofs.YtchpmdcacpjojaaDoor
/- Package keys: ranges; which keys may be; who has a key. -/
namespace Go.Proofs.YtchpmdcacpjojaaDoor
open Go Go.RowKit
set_option maxRecDepth 8000
set_option linter.all false
set_option maxHeartbeats 400000 in
theorem kWithin_cv (n lo hi : Int) (w : World) : Cv 42 #[.int .i64 n, .int .i64 lo, .int .i64 hi] w (.eq (.bool (inR n lo hi))) := by
  unfold Cv
  go_enter Tryd.func42, Tryd.ntmps42
  go_upto_region 1 with fail
  obtain ⟨q1_1, Q1_1⟩ : ∃ bq_, ((decide (lo ≤ n)) && (decide (n ≤ hi))) = bq_ := ⟨_, rfl⟩
  refine wp_region_steps0 NewT [SV.eq (.int .i64 (lo)), SV.eq (.int .i64 (n)), SV.eq (.bool (decide (lo ≤ n))), SV.eq (.bool (decide (lo ≤ n))), svIf (decide (lo ≤ n)) (SV.eq (.int .i64 (n))), svIf (decide (lo ≤ n)) (SV.eq (.int .i64 (hi))), svIf (decide (lo ≤ n)) (SV.eq (.bool (decide (n ≤ hi)))), SV.eq (.bool (q1_1)), SV.eq (.bool (q1_1))] [([(1, none)], none), ([(0, none)], none), ([(7, some 0), (8, some 1)], none), ([(9, some 2)], none), ([(0, none), (10, some 3)], some (10, true)), ([(2, none), (10, some 3)], some (10, true)), ([(11, some 4), (12, some 5), (10, some 3)], some (10, true)), ([(10, some 3), (13, some 6)], none), ([(14, some 7)], none)] 15 9 rfl rfl (by kernel_rfl) NewT.trans (NewT.refl _) (Nat.le_of_ble_eq_true rfl) ⟨?_, ?_, ?_, ?_, ?_, ?_, ?_, ?_, ?_, trivial⟩ ?_
  · exact fun a wx hT hF K hK => rely_wp rfl (opr_move (.inl rfl) (hK _ _ (NewT.refl _) hF.1))
  · exact fun a wx hT hF K hK => rely_wp rfl (opr_move (.inl rfl) (hK _ _ (NewT.refl _) hF.1))
  · exact fun a wx hT hF K hK => rely_wp rfl (opr_cmp (b := decide (lo ≤ n)) (.inr (.inr (.inl ⟨rfl, rfl⟩))) Tryd.underlying3 rfl hF.1 hF.2.1 (hK _ _ (NewT.refl _) rfl))
  · exact fun a wx hT hF K hK => rely_wp rfl (opr_move (.inl rfl) (hK _ _ (NewT.refl _) hF.1))
  · exact fun a wx hT hF K hK => rely_if (rely_gt hF.2.1) (NewT.refl _) hK fun hE hK => opr_move (.inl rfl) (hK _ _ (NewT.refl _) hF.1)
  · exact fun a wx hT hF K hK => rely_if (rely_gt hF.2.1) (NewT.refl _) hK fun hE hK => opr_move (.inl rfl) (hK _ _ (NewT.refl _) hF.1)
  · exact fun a wx hT hF K hK => rely_if (rely_gt hF.2.2.1) (NewT.refl _) hK fun hE hK => opr_cmp (b := decide (n ≤ hi)) (.inr (.inr (.inl ⟨rfl, rfl⟩))) Tryd.underlying3 rfl (hF.1 hE) (hF.2.1 hE) (hK _ _ (NewT.refl _) rfl)
  · exact fun a wx hT hF K hK => rely_wp rfl (opr_pick_b rfl hF.1 (fun hb => hK _ _ (NewT.refl _) (pn_and1 Q1_1 (hF.2.1 hb) hb)) (fun hb => hK _ _ (NewT.refl _) (pn_and0 Q1_1 hb)))
  · exact fun a wx hT hF K hK => rely_wp rfl (opr_move (.inr rfl) (hK _ _ (NewT.refl _) hF.1))
  · intro wx hT
    iterate 4 (intro u h; obtain rfl := Eq.symm (h (by simp)); clear h)
    iterate 3 (intro _ _)
    iterate 2 (intro u h; obtain rfl := Eq.symm (h (by simp)); clear h)
    subst Q1_1
    refine relyEnd_nil rfl ?_
    refine wpList_end rfl ?_
    simp only [Act.put, List.setIfInBounds_toArray, List.set_cons_zero, List.set_cons_succ]
    go_simp
    go_wp2
    go_ret
    exact ⟨_, rfl, hT, rfl⟩
set_option maxHeartbeats 400000 in
theorem kPlace_cv (n : Int) (v : Value) (l : List Hs) (w : World) (h : RdH w v l) : Cv 49 #[.int .i64 n, v] w (.eq (.bool (inR n 0 ((l.length : Int) - 1)))) := by
  unfold Cv
  have HL := Lib.hid h
  have Hl : Hid (l.length ≤ 9223372036854775807) := Lib.hid (by obtain ⟨_, _, _, h1, h2, _⟩ := h; unfold maxLen at h2; omega)
  clear h
  go_enter Tryd.func49, Tryd.ntmps49
  go_upto_region 1 with fail
  refine wp_region_steps0 NewT [SV.eq (.int .i64 (n)), svH (l), SV.eq (.int .i64 ((List.length (l) : Int))), SV.eq (.int .i64 ((List.length l : Int) - 1)), SV.eq (.bool (inR n 0 ((List.length l : Int) - 1))), SV.eq (.bool (inR n 0 ((List.length l : Int) - 1)))] [([(0, none)], none), ([(1, none)], none), ([(6, some 1)], none), ([(7, some 2)], none), ([(5, some 0), (8, some 3)], none), ([(9, some 4)], none)] 10 6 rfl rfl (by kernel_rfl) NewT.trans (NewT.refl _) (Nat.le_of_ble_eq_true rfl) ⟨?_, ?_, ?_, ?_, ?_, ?_, trivial⟩ ?_
  · exact fun a wx hT hF K hK => rely_wp rfl (opr_move (.inl rfl) (hK _ _ (NewT.refl _) hF.1))
  · intro a wx hT hF K hK
    obtain ⟨f1, _⟩ := hF
    have f1 : a.tmps.getD 1 undef = v := f1
    refine rely_wp rfl ?_
    exact opr_move (.inl rfl) (hK _ _ (NewT.refl _) (by rw [eval_tmp, f1]; exact hT.hs HL.out))
  · exact fun a wx hT hF K hK => rely_wp rfl (opr_len_h rfl hF.1 (hK _ _ (NewT.refl _) rfl))
  · exact fun a wx hT hF K hK => rely_wp rfl (opr_sub (r := (List.length l : Int) - 1) Tryd.underlying3 (by have := Hl.out; unfold wrap64; omega) rfl hF.1 rfl (hK _ _ (NewT.refl _) rfl))
  · exact fun a wx hT hF K hK => rely_wp rfl (opr_cv (kWithin_cv n 0 ((List.length l : Int) - 1) wx) rfl Tryd.func42 (by kernel_rfl) (by kernel_rfl) (evs3 hF.1 rfl hF.2.1) hK)
  · exact fun a wx hT hF K hK => rely_wp rfl (opr_move (.inr rfl) (hK _ _ (NewT.refl _) hF.1))
  · intro wx hT
    intro u h; obtain rfl := Eq.symm (h (by simp)); clear h
    intro _ _
    iterate 4 (intro u h; obtain rfl := Eq.symm (h (by simp)); clear h)
    refine relyEnd_nil rfl ?_
    refine wpList_end rfl ?_
    simp only [Act.put, List.setIfInBounds_toArray, List.set_cons_zero, List.set_cons_succ]
    go_simp
    go_wp2
    go_ret
    exact ⟨_, rfl, hT, rfl⟩
set_option maxHeartbeats 400000 in
theorem kBit_cv (b : Bool) (w : World) : Cv 52 #[.bool b] w (.eq (.int .i64 (bI b))) := by
  unfold Cv
  cases b
  all_goals
    go_enter Tryd.func52, Tryd.ntmps52
    go_wp2
    go_ret
    exact ⟨_, rfl, NewT.refl _, rfl⟩
set_option maxHeartbeats 1000000 in
theorem May_cv (v : Value) (ps ws : List Hs) (need : Int) (w : World) (hk : KeysV w v ps ws need) : Cv 24 #[v] w (.eq (.bool (mayB ps ws need))) := by
  unfold Cv
  obtain ⟨pv, wv, rfl, hpv, hwv⟩ := hk
  go_enter Tryd.func24, Tryd.ntmps24
  go_upto_region 1 with fail
  have rk := rowIs_box w 24 3 (keyF pv wv need)
  have hN := NewT.alloc w (.cells (rowA 3 (keyF pv wv need)) 24)
  change Code.wp _ _ _ _ (w.alloc (.cells (rowA 3 (keyF pv wv need)) 24))
  generalize w.alloc (.cells (rowA 3 (keyF pv wv need)) 24) = W0 at rk hN ⊢
  have RK := Lib.hid rk
  have HN := Lib.hid hN
  have HK : Hid (KeysV W0 (.agg (rowA 3 (keyF pv wv need))) ps ws need) := Lib.hid (hN.keysV ⟨pv, wv, rfl, hpv, hwv⟩)
  have HP := Lib.hid (hN.hs hpv)
  have HW := Lib.hid (hN.hs hwv)
  clear rk hpv hwv hN
  obtain ⟨q1_1, Q1_1⟩ : ∃ bq_, ((inR ((List.length (ps) : Int)) 1 4) && (inR ((List.length (ws) : Int)) 1 4)) = bq_ := ⟨_, rfl⟩
  obtain ⟨q2_1, Q2_1⟩ : ∃ bq_, (q1_1 && (inR need 1 ((List.length (ws) : Int)))) = bq_ := ⟨_, rfl⟩
  refine wp_region_steps0 NewT [SV.eq (.pointer (some ⟨w.heap.size, 0, none⟩)), SV.eq (pv), SV.eq (.int .i64 ((List.length (ps) : Int))), SV.eq (.bool (inR ((List.length (ps) : Int)) 1 4)), SV.eq (.bool (inR ((List.length (ps) : Int)) 1 4)), svIf (inR ((List.length (ps) : Int)) 1 4) (SV.eq (.pointer (some ⟨w.heap.size, 1, none⟩))), svIf (inR ((List.length (ps) : Int)) 1 4) (SV.eq (wv)), svIf (inR ((List.length (ps) : Int)) 1 4) (SV.eq (.int .i64 ((List.length (ws) : Int)))), svIf (inR ((List.length (ps) : Int)) 1 4) (SV.eq (.bool (inR ((List.length (ws) : Int)) 1 4))), SV.eq (.bool (q1_1)), SV.eq (.bool (q1_1)), svIf q1_1 (SV.eq (.pointer (some ⟨w.heap.size, 2, none⟩))), svIf q1_1 (SV.eq (.int .i64 (need))), svIf q1_1 (SV.eq (.pointer (some ⟨w.heap.size, 1, none⟩))), svIf q1_1 (SV.eq (wv)), svIf q1_1 (SV.eq (.int .i64 ((List.length (ws) : Int)))), svIf q1_1 (SV.eq (.bool (inR need 1 ((List.length (ws) : Int))))), SV.eq (.bool (q2_1)), SV.eq (.bool (q2_1))] [([(1, none)], none), ([(3, some 0)], none), ([(4, some 1)], none), ([(5, some 2)], none), ([(6, some 3)], none), ([(1, none), (7, some 4)], some (7, true)), ([(8, some 5), (7, some 4)], some (7, true)), ([(9, some 6), (7, some 4)], some (7, true)), ([(10, some 7), (7, some 4)], some (7, true)), ([(7, some 4), (11, some 8)], none), ([(12, some 9)], none), ([(1, none), (13, some 10)], some (13, true)), ([(14, some 11), (13, some 10)], some (13, true)), ([(1, none), (13, some 10)], some (13, true)), ([(16, some 13), (13, some 10)], some (13, true)), ([(17, some 14), (13, some 10)], some (13, true)), ([(15, some 12), (18, some 15), (13, some 10)], some (13, true)), ([(13, some 10), (19, some 16)], none), ([(20, some 17)], none)] 21 19 rfl rfl (by kernel_rfl) NewT.trans (NewT.refl _) (Nat.le_of_ble_eq_true rfl) ⟨?_, ?_, ?_, ?_, ?_, ?_, ?_, ?_, ?_, ?_, ?_, ?_, ?_, ?_, ?_, ?_, ?_, ?_, ?_, trivial⟩ ?_
  · exact fun a wx hT hF K hK => rely_wp rfl (opr_fldY0 rfl hF.1 (hK _ _ (NewT.refl _) rfl))
  · exact fun a wx hT hF K hK => rely_wp rfl (opr_ldHs (hT.row RK.out) (by decide) rfl rfl hF.1 (hK _ _ (NewT.refl _) rfl))
  · intro a wx hT hF K hK
    obtain ⟨f4, _⟩ := hF
    have f4 : a.tmps.getD 4 undef = pv := f4
    refine rely_wp rfl ?_
    exact opr_len_h rfl (by rw [eval_tmp, f4]; exact (hT.hs HP.out)) (hK _ _ (NewT.refl _) rfl)
  · exact fun a wx hT hF K hK => rely_wp rfl (opr_cv (kWithin_cv ((List.length (ps) : Int)) 1 4 wx) rfl Tryd.func42 (by kernel_rfl) (by kernel_rfl) (evs3 hF.1 rfl rfl) hK)
  · exact fun a wx hT hF K hK => rely_wp rfl (opr_move (.inl rfl) (hK _ _ (NewT.refl _) hF.1))
  · exact fun a wx hT hF K hK => rely_if (rely_gt hF.2.1) (NewT.refl _) hK fun hE hK => opr_fldY1 rfl hF.1 (hK _ _ (NewT.refl _) rfl)
  · exact fun a wx hT hF K hK => rely_if (rely_gt hF.2.1) (NewT.refl _) hK fun hE hK => opr_ldHs (hT.row RK.out) (by decide) rfl rfl (hF.1 hE) (hK _ _ (NewT.refl _) rfl)
  · intro a wx hT hF K hK
    obtain ⟨f9, f7, _⟩ := hF
    have f9 : (inR ((List.length (ps) : Int)) 1 4) = true → a.tmps.getD 9 undef = wv := f9
    have f7 : a.tmps.getD 7 undef = .bool (inR ((List.length (ps) : Int)) 1 4) := f7
    refine rely_if (rely_gt f7) (NewT.refl _) hK (fun hE hK => ?_)
    exact opr_len_h rfl (by rw [eval_tmp, (f9 hE)]; exact (hT.hs HW.out)) (hK _ _ (NewT.refl _) rfl)
  · exact fun a wx hT hF K hK => rely_if (rely_gt hF.2.1) (NewT.refl _) hK fun hE hK => opr_cv (kWithin_cv ((List.length (ws) : Int)) 1 4 wx) rfl Tryd.func42 (by kernel_rfl) (by kernel_rfl) (evs3 (hF.1 hE) rfl rfl) hK
  · exact fun a wx hT hF K hK => rely_wp rfl (opr_pick_b rfl hF.1 (fun hb => hK _ _ (NewT.refl _) (pn_and1 Q1_1 (hF.2.1 hb) hb)) (fun hb => hK _ _ (NewT.refl _) (pn_and0 Q1_1 hb)))
  · exact fun a wx hT hF K hK => rely_wp rfl (opr_move (.inl rfl) (hK _ _ (NewT.refl _) hF.1))
  · exact fun a wx hT hF K hK => rely_if (rely_gt hF.2.1) (NewT.refl _) hK fun hE hK => opr_fldY2 rfl hF.1 (hK _ _ (NewT.refl _) rfl)
  · exact fun a wx hT hF K hK => rely_if (rely_gt hF.2.1) (NewT.refl _) hK fun hE hK => opr_ldI (hT.row RK.out) (by decide) rfl rfl (hF.1 hE) (hK _ _ (NewT.refl _) rfl)
  · exact fun a wx hT hF K hK => rely_if (rely_gt hF.2.1) (NewT.refl _) hK fun hE hK => opr_fldY1 rfl hF.1 (hK _ _ (NewT.refl _) rfl)
  · exact fun a wx hT hF K hK => rely_if (rely_gt hF.2.1) (NewT.refl _) hK fun hE hK => opr_ldHs (hT.row RK.out) (by decide) rfl rfl (hF.1 hE) (hK _ _ (NewT.refl _) rfl)
  · intro a wx hT hF K hK
    obtain ⟨f17, f13, _⟩ := hF
    have f17 : q1_1 = true → a.tmps.getD 17 undef = wv := f17
    have f13 : a.tmps.getD 13 undef = .bool (q1_1) := f13
    refine rely_if (rely_gt f13) (NewT.refl _) hK (fun hE hK => ?_)
    exact opr_len_h rfl (by rw [eval_tmp, (f17 hE)]; exact (hT.hs HW.out)) (hK _ _ (NewT.refl _) rfl)
  · exact fun a wx hT hF K hK => rely_if (rely_gt hF.2.2.1) (NewT.refl _) hK fun hE hK => opr_cv (kWithin_cv need 1 ((List.length (ws) : Int)) wx) rfl Tryd.func42 (by kernel_rfl) (by kernel_rfl) (evs3 (hF.1 hE) rfl (hF.2.1 hE)) hK
  · exact fun a wx hT hF K hK => rely_wp rfl (opr_pick_b rfl hF.1 (fun hb => hK _ _ (NewT.refl _) (pn_and1 Q2_1 (hF.2.1 hb) hb)) (fun hb => hK _ _ (NewT.refl _) (pn_and0 Q2_1 hb)))
  · exact fun a wx hT hF K hK => rely_wp rfl (opr_move (.inr rfl) (hK _ _ (NewT.refl _) hF.1))
  · intro wx hT
    iterate 5 (intro u h; obtain rfl := Eq.symm (h (by simp)); clear h)
    iterate 4 (intro _ _)
    iterate 2 (intro u h; obtain rfl := Eq.symm (h (by simp)); clear h)
    iterate 6 (intro _ _)
    iterate 2 (intro u h; obtain rfl := Eq.symm (h (by simp)); clear h)
    subst Q2_1 Q1_1
    refine relyEnd_nil rfl ?_
    refine wpList_end rfl ?_
    simp only [Act.put, List.setIfInBounds_toArray, List.set_cons_zero, List.set_cons_succ]
    go_simp
    go_wp2
    go_ret
    exact ⟨_, rfl, NewT.trans _ _ _ HN.out hT, rfl⟩
set_option maxHeartbeats 1000000 in
theorem hasKey_cv (v : Value) (ps ws : List Hs) (need part epoch : Int) (w : World) (hk : KeysV w v ps ws need) : Cv 39 #[v, .int .i64 part, .int .i64 epoch] w (.eq (.bool (hasB ps ws need part epoch))) := by
  unfold Cv
  obtain ⟨pv, wv, rfl, hpv, hwv⟩ := hk
  go_enter Tryd.func39, Tryd.ntmps39
  go_upto_region 1 with fail
  have rk := rowIs_box w 24 3 (keyF pv wv need)
  have hN := NewT.alloc w (.cells (rowA 3 (keyF pv wv need)) 24)
  change Code.wp _ _ _ _ (w.alloc (.cells (rowA 3 (keyF pv wv need)) 24))
  generalize w.alloc (.cells (rowA 3 (keyF pv wv need)) 24) = W0 at rk hN ⊢
  have RK := Lib.hid rk
  have HN := Lib.hid hN
  have HK : Hid (KeysV W0 (.agg (rowA 3 (keyF pv wv need))) ps ws need) := Lib.hid (hN.keysV ⟨pv, wv, rfl, hpv, hwv⟩)
  have HP := Lib.hid (hN.hs hpv)
  have HW := Lib.hid (hN.hs hwv)
  clear rk hpv hwv hN
  obtain ⟨q1_1, Q1_1⟩ : ∃ bq_, ((mayB ps ws need) && (inR part 0 ((List.length ps : Int) - 1))) = bq_ := ⟨_, rfl⟩
  refine wp_region_steps0 NewT [SV.eq (.agg (rowA 3 (keyF pv wv need))), SV.eq (.bool (mayB ps ws need)), SV.eq (.bool (mayB ps ws need)), svIf (mayB ps ws need) (SV.eq (.int .i64 (part))), svIf (mayB ps ws need) (SV.eq (.pointer (some ⟨w.heap.size, 0, none⟩))), svIf (mayB ps ws need) (SV.eq (pv)), svIf (mayB ps ws need) (SV.eq (.bool (inR part 0 ((List.length ps : Int) - 1)))), SV.eq (.bool (q1_1)), SV.eq (.bool (q1_1)), svIf q1_1 (SV.eq (.int .i64 (epoch))), svIf q1_1 (SV.eq (.bool (inR epoch 0 400))), SV.eq (.bool (q1_1 && (inR epoch 0 400))), SV.eq (.bool (q1_1 && (inR epoch 0 400)))] [([(3, none)], none), ([(7, some 0)], none), ([(8, some 1)], none), ([(1, none), (9, some 2)], some (9, true)), ([(3, none), (9, some 2)], some (9, true)), ([(11, some 4), (9, some 2)], some (9, true)), ([(10, some 3), (12, some 5), (9, some 2)], some (9, true)), ([(9, some 2), (13, some 6)], none), ([(14, some 7)], none), ([(2, none), (15, some 8)], some (15, true)), ([(16, some 9), (15, some 8)], some (15, true)), ([(15, some 8), (17, some 10)], none), ([(18, some 11)], none)] 19 13 rfl rfl (by kernel_rfl) NewT.trans (NewT.refl _) (Nat.le_of_ble_eq_true rfl) ⟨?_, ?_, ?_, ?_, ?_, ?_, ?_, ?_, ?_, ?_, ?_, ?_, ?_, trivial⟩ ?_
  · exact fun a wx hT hF K hK => rely_wp rfl (opr_ldY (hT.row RK.out) rfl hF.1 (hK _ _ (NewT.refl _) rfl))
  · exact fun a wx hT hF K hK => rely_wp rfl (opr_cv (May_cv _ ps ws need wx (hT.keysV HK.out)) rfl Tryd.func24 (by kernel_rfl) (by kernel_rfl) (evs1 hF.1) hK)
  · exact fun a wx hT hF K hK => rely_wp rfl (opr_move (.inl rfl) (hK _ _ (NewT.refl _) hF.1))
  · exact fun a wx hT hF K hK => rely_if (rely_gt hF.2.1) (NewT.refl _) hK fun hE hK => opr_move (.inl rfl) (hK _ _ (NewT.refl _) hF.1)
  · exact fun a wx hT hF K hK => rely_if (rely_gt hF.2.1) (NewT.refl _) hK fun hE hK => opr_fldY0 rfl hF.1 (hK _ _ (NewT.refl _) rfl)
  · exact fun a wx hT hF K hK => rely_if (rely_gt hF.2.1) (NewT.refl _) hK fun hE hK => opr_ldHs (hT.row RK.out) (by decide) rfl rfl (hF.1 hE) (hK _ _ (NewT.refl _) rfl)
  · exact fun a wx hT hF K hK => rely_if (rely_gt hF.2.2.1) (NewT.refl _) hK fun hE hK => opr_cv (kPlace_cv part _ ps wx (hT.hs HP.out)) rfl Tryd.func49 (by kernel_rfl) (by kernel_rfl) (evs2 (hF.1 hE) (hF.2.1 hE)) hK
  · exact fun a wx hT hF K hK => rely_wp rfl (opr_pick_b rfl hF.1 (fun hb => hK _ _ (NewT.refl _) (pn_and1 Q1_1 (hF.2.1 hb) hb)) (fun hb => hK _ _ (NewT.refl _) (pn_and0 Q1_1 hb)))
  · exact fun a wx hT hF K hK => rely_wp rfl (opr_move (.inl rfl) (hK _ _ (NewT.refl _) hF.1))
  · exact fun a wx hT hF K hK => rely_if (rely_gt hF.2.1) (NewT.refl _) hK fun hE hK => opr_move (.inl rfl) (hK _ _ (NewT.refl _) hF.1)
  · exact fun a wx hT hF K hK => rely_if (rely_gt hF.2.1) (NewT.refl _) hK fun hE hK => opr_cv (kWithin_cv epoch 0 400 wx) rfl Tryd.func42 (by kernel_rfl) (by kernel_rfl) (evs3 (hF.1 hE) rfl rfl) hK
  · exact fun a wx hT hF K hK => rely_wp rfl (opr_pick_b rfl hF.1 (fun hb => hK _ _ (NewT.refl _) (pk_and1 (hF.2.1 hb) hb)) (fun hb => hK _ _ (NewT.refl _) (pk_and0 hb)))
  · exact fun a wx hT hF K hK => rely_wp rfl (opr_move (.inr rfl) (hK _ _ (NewT.refl _) hF.1))
  · intro wx hT
    iterate 3 (intro u h; obtain rfl := Eq.symm (h (by simp)); clear h)
    iterate 4 (intro _ _)
    iterate 2 (intro u h; obtain rfl := Eq.symm (h (by simp)); clear h)
    iterate 2 (intro _ _)
    iterate 2 (intro u h; obtain rfl := Eq.symm (h (by simp)); clear h)
    subst Q1_1
    refine relyEnd_nil rfl ?_
    refine wpList_end rfl ?_
    simp only [Act.put, List.setIfInBounds_toArray, List.set_cons_zero, List.set_cons_succ]
    go_simp
    go_wp2
    go_ret
    exact ⟨_, rfl, NewT.trans _ _ _ HN.out hT, rfl⟩
end Go.Proofs.YtchpmdcacpjojaaDoor
/- Package keys: participants' keys. -/
namespace Go.Proofs.YtchpmdcacpjojaaDoor
open Go Go.RowKit
set_option maxRecDepth 8000
set_option linter.all false
set_option maxHeartbeats 1000000 in
theorem Part_cv {kf : Hs → List Int → Hs} {tg : Hs → Hs → Hs} {pf : Int → Hs → Hs} (hX : KeyH kf tg pf) (v : Value) (ps ws : List Hs) (need part epoch : Int) (w : World) (hT : Tables w) (hk : KeysV w v ps ws need) : Cv 51 #[v, .int .i64 part, .int .i64 epoch] w (.eq (.agg (rowA 32 (bF (partH kf ps ws need part epoch))))) := by
  unfold Cv
  obtain ⟨pv, wv, rfl, hpv, hwv⟩ := hk
  have HT := Lib.hid hT
  clear hT
  go_enter Tryd.func51, Tryd.ntmps51
  go_upto_region 1 with fail
  have rk := (rowIs_box w 24 3 (keyF pv wv need)).alloc (.cells (rowA 32 (bF fun _ => 0)) 32)
  have r0 := rowIs_box (w.alloc (.cells (rowA 3 (keyF pv wv need)) 24)) 32 32 (bF fun _ => 0)
  have hN : NewT w ((w.alloc (.cells (rowA 3 (keyF pv wv need)) 24)).alloc (.cells (rowA 32 (bF fun _ => 0)) 32)) := NewT.trans _ _ _ (NewT.alloc _ _) (NewT.alloc _ _)
  rw [World.size_alloc] at r0
  change Code.wp _ _ _ _ ((w.alloc (.cells (rowA 3 (keyF pv wv need)) 24)).alloc (.cells (rowA 32 (bF fun _ => 0)) 32))
  generalize (w.alloc (.cells (rowA 3 (keyF pv wv need)) 24)).alloc (.cells (rowA 32 (bF fun _ => 0)) 32) = W0 at rk r0 hN ⊢
  have RK := Lib.hid rk
  have R0 := Lib.hid r0
  have HN := Lib.hid hN
  replace HT := Lib.hid (hN.tables HT.out)
  have HK : Hid (KeysV W0 (.agg (rowA 3 (keyF pv wv need))) ps ws need) := Lib.hid (hN.keysV ⟨pv, wv, rfl, hpv, hwv⟩)
  have HP := Lib.hid (hN.hs hpv)
  have HW := Lib.hid (hN.hs hwv)
  clear rk r0 hpv hwv hN
  refine wp_region_steps0 NewT [SV.eq (.agg (rowA 3 (keyF pv wv need))), SV.eq (.int .i64 (part)), SV.eq (.int .i64 (epoch)), SV.eq (.bool (hasB ps ws need part epoch)), SV.eq (.bool (!(hasB ps ws need part epoch)))] [([(3, none)], none), ([(1, none)], none), ([(2, none)], none), ([(7, some 0), (8, some 1), (9, some 2)], none), ([(10, some 3)], none)] 21 5 rfl rfl (by kernel_rfl) NewT.trans (NewT.refl _) (Nat.le_of_ble_eq_true rfl) ⟨?_, ?_, ?_, ?_, ?_, trivial⟩ ?_
  · exact fun a wx hT hF K hK => rely_wp rfl (opr_ldY (hT.row RK.out) rfl hF.1 (hK _ _ (NewT.refl _) rfl))
  · exact fun a wx hT hF K hK => rely_wp rfl (opr_move (.inl rfl) (hK _ _ (NewT.refl _) hF.1))
  · exact fun a wx hT hF K hK => rely_wp rfl (opr_move (.inl rfl) (hK _ _ (NewT.refl _) hF.1))
  · exact fun a wx hT hF K hK => rely_wp rfl (opr_cv (hasKey_cv _ ps ws need part epoch wx (hT.keysV HK.out)) rfl Tryd.func39 (by kernel_rfl) (by kernel_rfl) (evs3 hF.1 hF.2.1 hF.2.2.1) hK)
  · exact fun a wx hT hF K hK => rely_wp rfl (opr_not rfl hF.1 (hK _ _ (NewT.refl _) rfl))
  · intro w1 k1
    iterate 5 (intro u h; obtain rfl := Eq.symm (h (by simp)); clear h)
    refine relyEnd_nil rfl ?_
    refine wpList_end rfl ?_
    simp only [Act.put, List.setIfInBounds_toArray, List.set_cons_zero, List.set_cons_succ]
    go_simp
    replace RK := Lib.hid (k1.row RK.out)
    replace R0 := Lib.hid (k1.row R0.out)
    replace HK := Lib.hid (k1.keysV HK.out)
    replace HP := Lib.hid (k1.hs HP.out)
    replace HW := Lib.hid (k1.hs HW.out)
    replace HT := Lib.hid (k1.tables HT.out)
    replace HN := Lib.hid (NewT.trans _ _ _ HN.out k1)
    clear k1
    cases hb : hasB ps ws need part epoch
    · have HE : Hid (partH kf ps ws need part epoch = z32) := Lib.hid (by unfold partH; rw [hb]; rfl)
      clear hb
      go_upto_region 2 with fail
      refine wp_region_steps0 NewT [SV.eq (.agg (rowA 32 (bF (z32))))] [([], none)] 21 1 rfl rfl (by kernel_rfl) NewT.trans (NewT.refl _) (Nat.le_of_ble_eq_true rfl) ⟨?_, trivial⟩ ?_
      · exact fun a wx hT hF K hK => rely_wp rfl (opr_build (pv := #[]) rfl (by simp) (build_z32 wx) (hK _ _ (NewT.refl _) rfl))
      · intro wx hT
        intro u h; obtain rfl := Eq.symm (h (by simp)); clear h
        refine relyEnd_nil rfl ?_
        simp only [Act.put, List.setIfInBounds_toArray, List.set_cons_zero, List.set_cons_succ]
        refine wpList_plain rfl (fun K hK => ?_)
        refine opr_store_new (B := w.heap.size) (W := w) info31 rfl rfl rfl (hT.row R0.out) (NewT.trans _ _ _ HN.out hT) (Nat.le_succ _) ?_
        intro w9 hB9 r9
        refine hK _ _ ?_
        refine wpList_end rfl ?_
        simp only [Act.put, List.setIfInBounds_toArray, List.set_cons_zero, List.set_cons_succ]
        go_simp
        go_wp2
        exact bodyPost_ret (results_row rfl _ rfl r9 Tryd.underlying32 info31) rfl ⟨_, rfl, hB9, by rw [HE.out]; rfl⟩
    · obtain ⟨i, rfl, _, hd⟩ := hasB_at hb
      obtain ⟨d, hdd⟩ := hid_ex (ps.getD ((i : Int)).toNat z32)
      have HD : Hid (ps[i]? = some d) := Lib.hid (by rw [hd, hdd.out])
      have HE : Hid (partH kf ps ws need (i : Int) epoch = kf d [1, epoch]) := Lib.hid (by unfold partH; rw [hb, if_pos rfl, hdd.out])
      clear hb hd hdd
      go_upto_region 3 with fail
      refine wp_region_steps0 NewT [SV.eq (.pointer (some ⟨w.heap.size, 0, none⟩)), SV.eq (pv), SV.eq (.int .i64 ((i : Int))), svP (d), SV.eq (.agg (rowA 32 (bF (d)))), SV.eq (.int .i64 (epoch)), svInts [1, epoch], SV.eq (.agg (rowA 32 (bF (kf (d) [1, epoch]))))] [([(3, none)], none), ([(13, some 0)], none), ([(1, none)], none), ([(14, some 1), (15, some 2)], none), ([(16, some 3)], none), ([(2, none)], none), ([(18, some 5)], none), ([(17, some 4), (19, some 6)], none)] 21 8 rfl rfl (by kernel_rfl) NewT.trans (NewT.refl _) (Nat.le_of_ble_eq_true rfl) ⟨?_, ?_, ?_, ?_, ?_, ?_, ?_, ?_, trivial⟩ ?_
      · exact fun a wx hT hF K hK => rely_wp rfl (opr_fldY0 rfl hF.1 (hK _ _ (NewT.refl _) rfl))
      · exact fun a wx hT hF K hK => rely_wp rfl (opr_ldHs (hT.row RK.out) (by decide) rfl rfl hF.1 (hK _ _ (NewT.refl _) rfl))
      · exact fun a wx hT hF K hK => rely_wp rfl (opr_move (.inl rfl) (hK _ _ (NewT.refl _) hF.1))
      · intro a wx hT hF K hK
        obtain ⟨f14, f15, _⟩ := hF
        have f14 : a.tmps.getD 14 undef = pv := f14
        have f15 : a.tmps.getD 15 undef = .int .i64 ((i : Int)) := f15
        refine rely_wp rfl ?_
        exact opr_idxH (i := i) (d := d) (HD.out) (rfl) rfl (by rw [eval_tmp, f14]; exact (hT.hs HP.out)) f15 (fun v hv => hK v _ (NewT.refl _) hv)
      · exact fun a wx hT hF K hK => rely_wp rfl (opr_ldP rfl hF.1 (hK _ _ (NewT.refl _) rfl))
      · exact fun a wx hT hF K hK => rely_wp rfl (opr_move (.inl rfl) (hK _ _ (NewT.refl _) hF.1))
      · exact fun a wx hT hF K hK => rely_wp rfl (opr_bsI2 rfl rfl hF.1 hK)
      · exact fun a wx hT hF K hK => rely_wp rfl (opr_cv (Key_cv (d) _ [1, epoch] _ wx (hT.tables HT.out) hF.2.1 (by simp) (hX.key _ _)) rfl Tryd.func50 (by kernel_rfl) (by kernel_rfl) (evs2 hF.1 rfl) hK)
      · intro wx hT
        iterate 3 (intro u h; obtain rfl := Eq.symm (h (by simp)); clear h)
        intro _ _
        iterate 2 (intro u h; obtain rfl := Eq.symm (h (by simp)); clear h)
        intro _ _
        intro u h; obtain rfl := Eq.symm (h (by simp)); clear h
        refine relyEnd_nil rfl ?_
        simp only [Act.put, List.setIfInBounds_toArray, List.set_cons_zero, List.set_cons_succ]
        refine wpList_plain rfl (fun K hK => ?_)
        refine opr_store_new (B := w.heap.size) (W := w) info31 rfl rfl rfl (hT.row R0.out) (NewT.trans _ _ _ HN.out hT) (Nat.le_succ _) ?_
        intro w9 hB9 r9
        refine hK _ _ ?_
        refine wpList_end rfl ?_
        simp only [Act.put, List.setIfInBounds_toArray, List.set_cons_zero, List.set_cons_succ]
        go_simp
        go_wp2
        exact bodyPost_ret (results_row rfl _ rfl r9 Tryd.underlying32 info31) rfl ⟨_, rfl, hB9, by rw [HE.out]; rfl⟩
end Go.Proofs.YtchpmdcacpjojaaDoor
/- Package rec: ranges; steps; slices compared. -/
namespace Go.Proofs.YtchpmdcacpjojaaDoor
open Go Go.RowKit
set_option maxRecDepth 8000
set_option linter.all false
set_option maxHeartbeats 400000 in
theorem within_cv (n lo hi : Int) (w : World) : Cv 59 #[.int .i64 n, .int .i64 lo, .int .i64 hi] w (.eq (.bool (inR n lo hi))) := by
  unfold Cv
  go_enter Tryd.func59, Tryd.ntmps59
  go_upto_region 1 with fail
  obtain ⟨q1_1, Q1_1⟩ : ∃ bq_, ((decide (lo ≤ n)) && (decide (n ≤ hi))) = bq_ := ⟨_, rfl⟩
  refine wp_region_steps0 NewT [SV.eq (.int .i64 (lo)), SV.eq (.int .i64 (n)), SV.eq (.bool (decide (lo ≤ n))), SV.eq (.bool (decide (lo ≤ n))), svIf (decide (lo ≤ n)) (SV.eq (.int .i64 (n))), svIf (decide (lo ≤ n)) (SV.eq (.int .i64 (hi))), svIf (decide (lo ≤ n)) (SV.eq (.bool (decide (n ≤ hi)))), SV.eq (.bool (q1_1)), SV.eq (.bool (q1_1))] [([(1, none)], none), ([(0, none)], none), ([(7, some 0), (8, some 1)], none), ([(9, some 2)], none), ([(0, none), (10, some 3)], some (10, true)), ([(2, none), (10, some 3)], some (10, true)), ([(11, some 4), (12, some 5), (10, some 3)], some (10, true)), ([(10, some 3), (13, some 6)], none), ([(14, some 7)], none)] 15 9 rfl rfl (by kernel_rfl) NewT.trans (NewT.refl _) (Nat.le_of_ble_eq_true rfl) ⟨?_, ?_, ?_, ?_, ?_, ?_, ?_, ?_, ?_, trivial⟩ ?_
  · exact fun a wx hT hF K hK => rely_wp rfl (opr_move (.inl rfl) (hK _ _ (NewT.refl _) hF.1))
  · exact fun a wx hT hF K hK => rely_wp rfl (opr_move (.inl rfl) (hK _ _ (NewT.refl _) hF.1))
  · exact fun a wx hT hF K hK => rely_wp rfl (opr_cmp (b := decide (lo ≤ n)) (.inr (.inr (.inl ⟨rfl, rfl⟩))) Tryd.underlying3 rfl hF.1 hF.2.1 (hK _ _ (NewT.refl _) rfl))
  · exact fun a wx hT hF K hK => rely_wp rfl (opr_move (.inl rfl) (hK _ _ (NewT.refl _) hF.1))
  · exact fun a wx hT hF K hK => rely_if (rely_gt hF.2.1) (NewT.refl _) hK fun hE hK => opr_move (.inl rfl) (hK _ _ (NewT.refl _) hF.1)
  · exact fun a wx hT hF K hK => rely_if (rely_gt hF.2.1) (NewT.refl _) hK fun hE hK => opr_move (.inl rfl) (hK _ _ (NewT.refl _) hF.1)
  · exact fun a wx hT hF K hK => rely_if (rely_gt hF.2.2.1) (NewT.refl _) hK fun hE hK => opr_cmp (b := decide (n ≤ hi)) (.inr (.inr (.inl ⟨rfl, rfl⟩))) Tryd.underlying3 rfl (hF.1 hE) (hF.2.1 hE) (hK _ _ (NewT.refl _) rfl)
  · exact fun a wx hT hF K hK => rely_wp rfl (opr_pick_b rfl hF.1 (fun hb => hK _ _ (NewT.refl _) (pn_and1 Q1_1 (hF.2.1 hb) hb)) (fun hb => hK _ _ (NewT.refl _) (pn_and0 Q1_1 hb)))
  · exact fun a wx hT hF K hK => rely_wp rfl (opr_move (.inr rfl) (hK _ _ (NewT.refl _) hF.1))
  · intro wx hT
    iterate 4 (intro u h; obtain rfl := Eq.symm (h (by simp)); clear h)
    iterate 3 (intro _ _)
    iterate 2 (intro u h; obtain rfl := Eq.symm (h (by simp)); clear h)
    subst Q1_1
    refine relyEnd_nil rfl ?_
    refine wpList_end rfl ?_
    simp only [Act.put, List.setIfInBounds_toArray, List.set_cons_zero, List.set_cons_succ]
    go_simp
    go_wp2
    go_ret
    exact ⟨_, rfl, hT, rfl⟩
set_option maxHeartbeats 400000 in
theorem isSaga_cv (n : Int) (w : World) : Cv 56 #[.int .i64 n] w (.eq (.bool (inR n 0 11))) := by
  unfold Cv
  go_enter Tryd.func56, Tryd.ntmps56
  go_upto_region 1 with fail
  refine wp_region_steps0 NewT [SV.eq (.int .i64 (n)), SV.eq (.bool (inR n 0 11)), SV.eq (.bool (inR n 0 11))] [([(0, none)], none), ([(3, some 0)], none), ([(4, some 1)], none)] 5 3 rfl rfl (by kernel_rfl) NewT.trans (NewT.refl _) (Nat.le_of_ble_eq_true rfl) ⟨?_, ?_, ?_, trivial⟩ ?_
  · exact fun a wx hT hF K hK => rely_wp rfl (opr_move (.inl rfl) (hK _ _ (NewT.refl _) hF.1))
  · exact fun a wx hT hF K hK => rely_wp rfl (opr_cv (within_cv n 0 11 wx) rfl Tryd.func59 (by kernel_rfl) (by kernel_rfl) (evs3 hF.1 rfl rfl) hK)
  · exact fun a wx hT hF K hK => rely_wp rfl (opr_move (.inr rfl) (hK _ _ (NewT.refl _) hF.1))
  · intro wx hT
    iterate 3 (intro u h; obtain rfl := Eq.symm (h (by simp)); clear h)
    refine relyEnd_nil rfl ?_
    refine wpList_end rfl ?_
    simp only [Act.put, List.setIfInBounds_toArray, List.set_cons_zero, List.set_cons_succ]
    go_simp
    go_wp2
    go_ret
    exact ⟨_, rfl, hT, rfl⟩
set_option maxHeartbeats 400000 in
theorem isSeq_cv (n : Int) (w : World) : Cv 60 #[.int .i64 n] w (.eq (.bool (inR n 1 400))) := by
  unfold Cv
  go_enter Tryd.func60, Tryd.ntmps60
  go_upto_region 1 with fail
  refine wp_region_steps0 NewT [SV.eq (.int .i64 (n)), SV.eq (.bool (inR n 1 400)), SV.eq (.bool (inR n 1 400))] [([(0, none)], none), ([(3, some 0)], none), ([(4, some 1)], none)] 5 3 rfl rfl (by kernel_rfl) NewT.trans (NewT.refl _) (Nat.le_of_ble_eq_true rfl) ⟨?_, ?_, ?_, trivial⟩ ?_
  · exact fun a wx hT hF K hK => rely_wp rfl (opr_move (.inl rfl) (hK _ _ (NewT.refl _) hF.1))
  · exact fun a wx hT hF K hK => rely_wp rfl (opr_cv (within_cv n 1 400 wx) rfl Tryd.func59 (by kernel_rfl) (by kernel_rfl) (evs3 hF.1 rfl rfl) hK)
  · exact fun a wx hT hF K hK => rely_wp rfl (opr_move (.inr rfl) (hK _ _ (NewT.refl _) hF.1))
  · intro wx hT
    iterate 3 (intro u h; obtain rfl := Eq.symm (h (by simp)); clear h)
    refine relyEnd_nil rfl ?_
    refine wpList_end rfl ?_
    simp only [Act.put, List.setIfInBounds_toArray, List.set_cons_zero, List.set_cons_succ]
    go_simp
    go_wp2
    go_ret
    exact ⟨_, rfl, hT, rfl⟩
set_option maxHeartbeats 400000 in
theorem isPart_cv (n : Int) (w : World) : Cv 58 #[.int .i64 n] w (.eq (.bool (inR n 0 3))) := by
  unfold Cv
  go_enter Tryd.func58, Tryd.ntmps58
  go_upto_region 1 with fail
  refine wp_region_steps0 NewT [SV.eq (.int .i64 (n)), SV.eq (.bool (inR n 0 3)), SV.eq (.bool (inR n 0 3))] [([(0, none)], none), ([(3, some 0)], none), ([(4, some 1)], none)] 5 3 rfl rfl (by kernel_rfl) NewT.trans (NewT.refl _) (Nat.le_of_ble_eq_true rfl) ⟨?_, ?_, ?_, trivial⟩ ?_
  · exact fun a wx hT hF K hK => rely_wp rfl (opr_move (.inl rfl) (hK _ _ (NewT.refl _) hF.1))
  · exact fun a wx hT hF K hK => rely_wp rfl (opr_cv (within_cv n 0 3 wx) rfl Tryd.func59 (by kernel_rfl) (by kernel_rfl) (evs3 hF.1 rfl rfl) hK)
  · exact fun a wx hT hF K hK => rely_wp rfl (opr_move (.inr rfl) (hK _ _ (NewT.refl _) hF.1))
  · intro wx hT
    iterate 3 (intro u h; obtain rfl := Eq.symm (h (by simp)); clear h)
    refine relyEnd_nil rfl ?_
    refine wpList_end rfl ?_
    simp only [Act.put, List.setIfInBounds_toArray, List.set_cons_zero, List.set_cons_succ]
    go_simp
    go_wp2
    go_ret
    exact ⟨_, rfl, hT, rfl⟩
set_option maxHeartbeats 400000 in
theorem isStep_cv (s : Int × Int) (w : World) : Cv 70 #[.agg (rowA 2 (stepF s))] w (.eq (.bool (stepOk s))) := by
  unfold Cv
  go_enter Tryd.func70, Tryd.ntmps70
  go_upto_region 1 with fail
  have r1 := rowIs_box w 88 2 (stepF s)
  have hN := NewT.alloc w (.cells (rowA 2 (stepF s)) 88)
  change Code.wp _ _ _ _ (w.alloc (.cells (rowA 2 (stepF s)) 88))
  generalize w.alloc (.cells (rowA 2 (stepF s)) 88) = W0 at r1 hN ⊢
  have R1 := Lib.hid r1
  have HN := Lib.hid hN
  clear r1 hN
  refine wp_region_steps0 NewT [SV.eq (.pointer (some ⟨w.heap.size, 0 + 0, none⟩)), SV.eq (.int .i64 (s.1)), SV.eq (.bool (inR s.1 0 3)), SV.eq (.bool (inR s.1 0 3)), svIf (inR s.1 0 3) (SV.eq (.pointer (some ⟨w.heap.size, 0 + 1, none⟩))), svIf (inR s.1 0 3) (SV.eq (.int .i64 (s.2))), svIf (inR s.1 0 3) (SV.eq (.bool (inR s.2 1 3))), SV.eq (.bool ((inR s.1 0 3) && (inR s.2 1 3))), SV.eq (.bool ((inR s.1 0 3) && (inR s.2 1 3)))] [([(1, none)], none), ([(3, some 0)], none), ([(4, some 1)], none), ([(5, some 2)], none), ([(1, none), (6, some 3)], some (6, true)), ([(7, some 4), (6, some 3)], some (6, true)), ([(8, some 5), (6, some 3)], some (6, true)), ([(6, some 3), (9, some 6)], none), ([(10, some 7)], none)] 11 9 rfl rfl (by kernel_rfl) NewT.trans (NewT.refl _) (Nat.le_of_ble_eq_true rfl) ⟨?_, ?_, ?_, ?_, ?_, ?_, ?_, ?_, ?_, trivial⟩ ?_
  · exact fun a wx hT hF K hK => rely_wp rfl (opr_fldS (by decide) rfl hF.1 (hK _ _ (NewT.refl _) rfl))
  · exact fun a wx hT hF K hK => rely_wp rfl (opr_ldI (hT.row R1.out) (by decide) rfl rfl hF.1 (hK _ _ (NewT.refl _) rfl))
  · exact fun a wx hT hF K hK => rely_wp rfl (opr_cv (isPart_cv s.1 wx) rfl Tryd.func58 (by kernel_rfl) (by kernel_rfl) (evs1 hF.1) hK)
  · exact fun a wx hT hF K hK => rely_wp rfl (opr_move (.inl rfl) (hK _ _ (NewT.refl _) hF.1))
  · exact fun a wx hT hF K hK => rely_if (rely_gt hF.2.1) (NewT.refl _) hK fun hE hK => opr_fldS (by decide) rfl hF.1 (hK _ _ (NewT.refl _) rfl)
  · exact fun a wx hT hF K hK => rely_if (rely_gt hF.2.1) (NewT.refl _) hK fun hE hK => opr_ldI (hT.row R1.out) (by decide) rfl rfl (hF.1 hE) (hK _ _ (NewT.refl _) rfl)
  · exact fun a wx hT hF K hK => rely_if (rely_gt hF.2.1) (NewT.refl _) hK fun hE hK => opr_cv (within_cv s.2 1 3 wx) rfl Tryd.func59 (by kernel_rfl) (by kernel_rfl) (evs3 (hF.1 hE) rfl rfl) hK
  · exact fun a wx hT hF K hK => rely_wp rfl (opr_pick_b rfl hF.1 (fun hb => hK _ _ (NewT.refl _) (pk_and1 (hF.2.1 hb) hb)) (fun hb => hK _ _ (NewT.refl _) (pk_and0 hb)))
  · exact fun a wx hT hF K hK => rely_wp rfl (opr_move (.inr rfl) (hK _ _ (NewT.refl _) hF.1))
  · intro wx hT
    iterate 4 (intro u h; obtain rfl := Eq.symm (h (by simp)); clear h)
    iterate 3 (intro _ _)
    iterate 2 (intro u h; obtain rfl := Eq.symm (h (by simp)); clear h)
    refine relyEnd_nil rfl ?_
    refine wpList_end rfl ?_
    simp only [Act.put, List.setIfInBounds_toArray, List.set_cons_zero, List.set_cons_succ]
    go_simp
    go_wp2
    go_ret
    exact ⟨_, rfl, NewT.trans _ _ _ HN.out hT, rfl⟩
theorem all_next (l : List (Int × Int)) (k : Nat) (hk : k < l.length) : (l.take (k + 1)).all stepOk = ((l.take k).all stepOk && stepOk (l.getD k (0, 0))) := by
  have e : l.take (k + 1) = l.take k ++ [l[k]] := by rw [List.take_add_one, List.getElem?_eq_getElem hk]; rfl
  rw [e, List.all_append]
  simp [List.getD, hk]
theorem all_not (l : List (Int × Int)) (k : Nat) (hk : k < l.length) (h : stepOk (l.getD k (0, 0)) = false) : l.all stepOk = false := by
  rw [List.all_eq_false]
  refine ⟨l.getD k (0, 0), ?_, by rw [h]; simp⟩
  simp [List.getD, hk]
set_option maxHeartbeats 1000000 in
theorem areSteps_cv (v : Value) (l : List (Int × Int)) (w : World) (h : RdP w v l) : Cv 57 #[v] w (.eq (.bool (stepsOk l))) := by
  unfold Cv
  obtain ⟨A0, cap, rfl, h1, h2, h3⟩ := h
  have H3 := Lib.hid h3
  unfold maxLen at h2
  unfold stepsOk
  clear h3
  generalize hn : l.length = n at *
  have Hn := Lib.hid hn
  clear hn
  cases hin : inR (n : Int) 1 6
  · go_enter Tryd.func57, Tryd.ntmps57
    go_wp2_with (go_at_call 59; refine (within_cv n 1 6 w).eq.mono ?_; rintro _ w' ⟨rfl, hB⟩; rw [hin])
    go_ret
    exact ⟨_, rfl, hB, by rw [Bool.false_and]; rfl⟩
  rw [Bool.true_and]
  have hr := (inR_iff _ _ _).1 hin
  go_enter Tryd.func57, Tryd.ntmps57
  go_wp2_with (go_at_call 59; refine (within_cv n 1 6 w).eq.mono ?_; rintro _ w' ⟨rfl, hB⟩; rw [hin])
  go_loopw [11] (fun i wr => ∃ k : Nat, k ≤ n ∧ i = .int .i64 k ∧ Hid ((l.take k).all stepOk = true) ∧ Below w.heap.size w wr) (fun i _ => n - (intOf i).toNat)
  case atStart => exact ⟨0, by omega, rfl, Lib.hid (by simp), hB⟩
  case round =>
    clear hB hin
    obtain ⟨k, hk, rfl, Hs, qB⟩ := hrel
    by_cases hlt : k < n
    · obtain ⟨b, o, rfl, hcell⟩ := H3.out (by omega)
      obtain ⟨j0, j1⟩ := hcell k hlt
      have k0 := (qB.cell (p := ⟨b, o + 2 * k, none⟩) (World.block_lt_of_cell? _ _ j0)).trans j0
      have k1 := (qB.cell (p := ⟨b, o + 2 * k + 1, none⟩) (World.block_lt_of_cell? _ _ j1)).trans j1
      have Hal := Lib.hid (all_next l k (by rw [Hn.out]; exact hlt))
      have Hno := Lib.hid (all_not l k (by rw [Hn.out]; exact hlt))
      clear hcell j0 j1
      generalize l.getD k (0, 0) = s at k0 k1 Hal Hno
      have it : (k : Int) < (n : Int) := by omega
      cases hq : stepOk s
      · have Hq := Lib.hid hq
        clear hq
        go_upto_region 5 with fail
        refine wp_region_steps0 NewT [SV.eq (.pointer (some ⟨b, o + 2 * k, none⟩)), SV.eq (.agg (rowA 2 (stepF s)))] [([(9, none), (11, none)], none), ([(13, some 0)], none)] 19 2 rfl rfl (by kernel_rfl) NewT.trans (NewT.refl _) (Nat.le_of_ble_eq_true rfl) ⟨?_, ?_, trivial⟩ ?_
        · exact fun a wx hT hF K hK => rely_wp rfl (opr_idxS hlt rfl hF.1 hF.2.1 (hK _ _ (NewT.refl _) rfl))
        · exact fun a wx hT hF K hK => rely_wp rfl (opr_ld2 ((hT.out.cell (World.block_lt_of_cell? _ _ k0)).trans k0) ((hT.out.cell (World.block_lt_of_cell? _ _ k1)).trans k1) rfl hF.1 (hK _ _ (NewT.refl _) rfl))
        · intro w5 h5
          iterate 2 (intro u h; obtain rfl := Eq.symm (h (by simp)); clear h)
          refine relyEnd_nil rfl ?_
          simp only [Act.put, List.setIfInBounds_toArray, List.set_cons_zero, List.set_cons_succ]
          refine wpList_new (n := 2) rfl rfl rfl rfl rfl rfl (by simp) run_alloc_step info_step (stepF_one s) rfl ?_
          intro wn hNn rn
          refine wpList_end rfl ?_
          simp only [Act.put, List.setIfInBounds_toArray, List.set_cons_zero, List.set_cons_succ]
          go_simp
          clear k0 k1
          go_upto_region 6 with fail
          refine wp_region_steps0 NewT [SV.eq (.agg (rowA 2 (stepF s))), SV.eq (.bool false), SV.eq (.bool true)] [([(4, none)], none), ([(15, some 0)], none), ([(16, some 1)], none)] 19 3 rfl rfl (by kernel_rfl) NewT.trans (NewT.refl _) (Nat.le_of_ble_eq_true rfl) ⟨?_, ?_, ?_, trivial⟩ ?_
          · exact fun a wx hT hF K hK => rely_wp rfl (opr_ldSt (hT.row rn) rfl hF.1 (hK _ _ (NewT.refl _) rfl))
          · exact fun a wx hT hF K hK => rely_wp rfl (opr_cv (Hq.out ▸ isStep_cv s wx) rfl Tryd.func70 (by kernel_rfl) (by kernel_rfl) (evs1 hF.1) hK)
          · exact fun a wx hT hF K hK => rely_wp rfl (opr_not rfl hF.1 (hK _ _ (NewT.refl _) rfl))
          · intro wy hT2
            iterate 3 (intro u h; obtain rfl := Eq.symm (h (by simp)); clear h)
            refine relyEnd_nil rfl ?_
            refine wpList_end rfl ?_
            simp only [Act.put, List.setIfInBounds_toArray, List.set_cons_zero, List.set_cons_succ]
            go_simp
            have hB2 : Below w.heap.size w wy := qB.trans ((h5.out.mono qB.size).trans ((hNn.out.mono (Nat.le_trans qB.size h5.out.size)).trans (hT2.out.mono (Nat.le_trans qB.size (Nat.le_trans h5.out.size hNn.out.size)))))
            go_wp2
            go_ret
            exact ⟨_, rfl, hB2, by rw [Hno.out Hq.out]; rfl⟩
      · have Hq := Lib.hid hq
        clear hq
        go_upto_region 5 with fail
        refine wp_region_steps0 NewT [SV.eq (.pointer (some ⟨b, o + 2 * k, none⟩)), SV.eq (.agg (rowA 2 (stepF s)))] [([(9, none), (11, none)], none), ([(13, some 0)], none)] 19 2 rfl rfl (by kernel_rfl) NewT.trans (NewT.refl _) (Nat.le_of_ble_eq_true rfl) ⟨?_, ?_, trivial⟩ ?_
        · exact fun a wx hT hF K hK => rely_wp rfl (opr_idxS hlt rfl hF.1 hF.2.1 (hK _ _ (NewT.refl _) rfl))
        · exact fun a wx hT hF K hK => rely_wp rfl (opr_ld2 ((hT.out.cell (World.block_lt_of_cell? _ _ k0)).trans k0) ((hT.out.cell (World.block_lt_of_cell? _ _ k1)).trans k1) rfl hF.1 (hK _ _ (NewT.refl _) rfl))
        · intro w5 h5
          iterate 2 (intro u h; obtain rfl := Eq.symm (h (by simp)); clear h)
          refine relyEnd_nil rfl ?_
          simp only [Act.put, List.setIfInBounds_toArray, List.set_cons_zero, List.set_cons_succ]
          refine wpList_new (n := 2) rfl rfl rfl rfl rfl rfl (by simp) run_alloc_step info_step (stepF_one s) rfl ?_
          intro wn hNn rn
          refine wpList_end rfl ?_
          simp only [Act.put, List.setIfInBounds_toArray, List.set_cons_zero, List.set_cons_succ]
          go_simp
          clear k0 k1
          go_upto_region 6 with fail
          refine wp_region_steps0 NewT [SV.eq (.agg (rowA 2 (stepF s))), SV.eq (.bool true), SV.eq (.bool false)] [([(4, none)], none), ([(15, some 0)], none), ([(16, some 1)], none)] 19 3 rfl rfl (by kernel_rfl) NewT.trans (NewT.refl _) (Nat.le_of_ble_eq_true rfl) ⟨?_, ?_, ?_, trivial⟩ ?_
          · exact fun a wx hT hF K hK => rely_wp rfl (opr_ldSt (hT.row rn) rfl hF.1 (hK _ _ (NewT.refl _) rfl))
          · exact fun a wx hT hF K hK => rely_wp rfl (opr_cv (Hq.out ▸ isStep_cv s wx) rfl Tryd.func70 (by kernel_rfl) (by kernel_rfl) (evs1 hF.1) hK)
          · exact fun a wx hT hF K hK => rely_wp rfl (opr_not rfl hF.1 (hK _ _ (NewT.refl _) rfl))
          · intro wy hT2
            iterate 3 (intro u h; obtain rfl := Eq.symm (h (by simp)); clear h)
            refine relyEnd_nil rfl ?_
            refine wpList_end rfl ?_
            simp only [Act.put, List.setIfInBounds_toArray, List.set_cons_zero, List.set_cons_succ]
            go_simp
            have hB2 : Below w.heap.size w wy := qB.trans ((h5.out.mono qB.size).trans ((hNn.out.mono (Nat.le_trans qB.size h5.out.size)).trans (hT2.out.mono (Nat.le_trans qB.size (Nat.le_trans h5.out.size hNn.out.size)))))
            go_wp2
            go_roundw
            case rel => exact ⟨k + 1, by omega, by go_num, Lib.hid (by rw [Hal.out, Hs.out, Hq.out]; rfl), hB2⟩
            case measure => simp [intOf]; omega
    · obtain rfl : k = n := by omega
      go_wp2
      go_ret
      exact ⟨_, rfl, qB, by have := Hs.out; rw [← Hn.out, List.take_length] at this; rw [this]; rfl⟩
end Go.Proofs.YtchpmdcacpjojaaDoor
/- The reference's Bytes, at whatever lists. -/
namespace Go.Proofs.YtchpmdcacpjojaaDoor
open Go Go.RowKit
set_option maxRecDepth 8000
set_option linter.all false
end Go.Proofs.YtchpmdcacpjojaaDoor
/- Slices compared and cloned. -/
namespace Go.Proofs.YtchpmdcacpjojaaDoor
open Go Go.RowKit
set_option maxRecDepth 8000
set_option linter.all false
theorem strEq2 (l m : List UInt8) : (l == m) = decide (l = m) := by
  by_cases h : l = m
  · subst h; simp
  · simp [h]
set_option maxHeartbeats 400000 in
theorem BEqual_cv (v1 v2 : Value) (l m : List UInt8) (w : World) (h1 : RdV w [] v1 l) (h2 : RdV w [] v2 m) : Cv 62 #[v1, v2] w (.eq (.bool (decide (l = m)))) := by
  unfold Cv
  have k1 := conv_rd h1
  have k2 := conv_rd h2
  clear h1 h2
  rw [← strEq2]
  go_enter Tryd.func62, Tryd.ntmps62
  go_wp2
  go_ret
  exact ⟨_, rfl, NewT.refl _, rfl⟩
theorem pairs_ext {l m : List (Int × Int)} {n : Nat} (hl : l.length = n) (hm : m.length = n) (h : ∀ i, i < n → l.getD i (0, 0) = m.getD i (0, 0)) : l = m := by
  apply List.ext_getElem (by omega)
  intro i h1 h2
  have := h i (by omega)
  simpa [List.getD, h1, h2] using this
set_option maxHeartbeats 1000000 in
theorem SlEq_cv (v1 v2 : Value) (l m : List (Int × Int)) (w : World) (h1 : RdP w v1 l) (h2 : RdP w v2 m) : Cv 61 #[v1, v2] w (.eq (.bool (decide (l = m)))) := by
  unfold Cv
  obtain ⟨A1, c1, rfl, p1, p2, p3⟩ := h1
  obtain ⟨A2, c2, rfl, q1, q2, q3⟩ := h2
  unfold maxLen at p2 q2
  by_cases hne : l.length = m.length
  rotate_left
  · have hd : decide (l = m) = false := decide_eq_false fun h => hne (by rw [h])
    have ht : ((l.length : Int) != (m.length : Int)) = true := by simp; omega
    rw [hd]
    clear p3 q3 hd
    generalize l.length = n1 at *
    generalize m.length = n2 at *
    go_enter Tryd.func61, Tryd.ntmps61
    go_wp2
    go_ret
    exact ⟨_, rfl, NewT.refl _, rfl⟩
  have P3 := Lib.hid p3
  have Q3 := Lib.hid q3
  clear p3 q3
  generalize hn : l.length = n at *
  rw [← hne] at q1 Q3 ⊢
  have Hn := Lib.hid hn
  have Hm := Lib.hid hne
  clear hn hne
  go_enter Tryd.func61, Tryd.ntmps61
  go_wp2
  go_loopw [13] (fun i wr => ∃ k : Nat, k ≤ n ∧ i = .int .i64 k ∧ Hid (∀ i, i < k → l.getD i (0, 0) = m.getD i (0, 0)) ∧ Below w.heap.size w wr) (fun i _ => n - (intOf i).toNat)
  case atStart => exact ⟨0, by omega, rfl, Lib.hid (fun i hi => by omega), Below.refl _ _⟩
  case round =>
    obtain ⟨k, hk, rfl, Hs, qB⟩ := hrel
    by_cases hlt : k < n
    · obtain ⟨b1, o1, rfl, hc1⟩ := P3.out (by omega)
      obtain ⟨b2, o2, rfl, hc2⟩ := Q3.out (by omega)
      obtain ⟨j0, j1⟩ := hc1 k hlt
      obtain ⟨i0, i1⟩ := hc2 k hlt
      have k0 := (qB.cell (p := ⟨b1, o1 + 2 * k, none⟩) (World.block_lt_of_cell? _ _ j0)).trans j0
      have k1 := (qB.cell (p := ⟨b1, o1 + 2 * k + 1, none⟩) (World.block_lt_of_cell? _ _ j1)).trans j1
      have e0 := (qB.cell (p := ⟨b2, o2 + 2 * k, none⟩) (World.block_lt_of_cell? _ _ i0)).trans i0
      have e1 := (qB.cell (p := ⟨b2, o2 + 2 * k + 1, none⟩) (World.block_lt_of_cell? _ _ i1)).trans i1
      have Hno : Hid (l.getD k (0, 0) ≠ m.getD k (0, 0) → l ≠ m) := Lib.hid (fun h e => h (by rw [e]))
      have Hnx : Hid (l.getD k (0, 0) = m.getD k (0, 0) → ∀ i, i < k + 1 → l.getD i (0, 0) = m.getD i (0, 0)) := Lib.hid (fun h i hi => by
        rcases Nat.lt_succ_iff_lt_or_eq.1 hi with h1 | rfl
        · exact Hs.out i h1
        · exact h)
      clear hc1 hc2 j0 j1 i0 i1
      generalize l.getD k (0, 0) = s at k0 k1 Hno Hnx
      generalize m.getD k (0, 0) = t at e0 e1 Hno Hnx
      have it : (k : Int) < (n : Int) := by omega
      by_cases hq : s = t
      · go_upto_region 6 with fail
        generalize wr = W6 at *
        refine wp_region_rely (NewT) [SV.eq (.slice (some ⟨b1, o1, none⟩) n c1), SV.eq (.int .i64 ((k : Int))), SV.eq (.pointer (some ⟨b1, o1 + 2 * k, none⟩)), SV.eq (.agg (rowA 2 (stepF s))), SV.eq (.slice (some ⟨b2, o2, none⟩) n c2), SV.eq (.int .i64 ((k : Int))), SV.eq (.pointer (some ⟨b2, o2 + 2 * k, none⟩)), SV.eq (.agg (rowA 2 (stepF t)))] [([(0, none)], none), ([(5, none)], none), ([(16, some 0), (17, some 1)], none), ([(18, some 2)], none), ([(1, none)], none), ([(5, none)], none), ([(20, some 4), (21, some 5)], none), ([(22, some 6)], none)] 26 rfl (by kernel_rfl) rfl (by kernel_rfl) (by kernel_rfl) rfl NewT.trans (NewT.drew _) (Nat.le_of_ble_eq_true rfl) ⟨?_, ?_, ?_, ?_, ?_, ?_, ?_, ?_, trivial⟩ ?_
        · exact fun a wx hT hF K hK => rely_wp rfl (opr_move (.inl rfl) (hK _ _ (NewT.refl _) hF.1))
        · exact fun a wx hT hF K hK => rely_wp rfl (opr_move (.inl rfl) (hK _ _ (NewT.refl _) hF.1))
        · exact fun a wx hT hF K hK => rely_wp rfl (opr_idxS hlt rfl hF.1 hF.2.1 (hK _ _ (NewT.refl _) rfl))
        · exact fun a wx hT hF K hK => rely_wp rfl (opr_ld2 ((hT.out.cell (World.block_lt_of_cell? _ _ k0)).trans k0) ((hT.out.cell (World.block_lt_of_cell? _ _ k1)).trans k1) rfl hF.1 (hK _ _ (NewT.refl _) rfl))
        · exact fun a wx hT hF K hK => rely_wp rfl (opr_move (.inl rfl) (hK _ _ (NewT.refl _) hF.1))
        · exact fun a wx hT hF K hK => rely_wp rfl (opr_move (.inl rfl) (hK _ _ (NewT.refl _) hF.1))
        · exact fun a wx hT hF K hK => rely_wp rfl (opr_idxS hlt rfl hF.1 hF.2.1 (hK _ _ (NewT.refl _) rfl))
        · exact fun a wx hT hF K hK => rely_wp rfl (opr_ld2 ((hT.out.cell (World.block_lt_of_cell? _ _ e0)).trans e0) ((hT.out.cell (World.block_lt_of_cell? _ _ e1)).trans e1) rfl hF.1 (hK _ _ (NewT.refl _) rfl))
        · intro wy hT2
          iterate 8 (intro u h; obtain rfl := Eq.symm (h (by simp)); clear h)
          refine relyEnd_nil rfl ?_
          simp only [Act.put, List.setIfInBounds_toArray, List.set_cons_zero, List.set_cons_succ]
          refine opr_neqS (b := false) (by simp [hq]) rfl rfl rfl ?_
          go_simp
          go_wp2
          go_roundw
          case rel => exact ⟨k + 1, by omega, by go_num, Lib.hid (Hnx.out hq), qB.trans (hT2.out.mono qB.size)⟩
          case measure => simp [intOf]; omega
      · go_upto_region 6 with fail
        generalize wr = W6 at *
        refine wp_region_rely (NewT) [SV.eq (.slice (some ⟨b1, o1, none⟩) n c1), SV.eq (.int .i64 ((k : Int))), SV.eq (.pointer (some ⟨b1, o1 + 2 * k, none⟩)), SV.eq (.agg (rowA 2 (stepF s))), SV.eq (.slice (some ⟨b2, o2, none⟩) n c2), SV.eq (.int .i64 ((k : Int))), SV.eq (.pointer (some ⟨b2, o2 + 2 * k, none⟩)), SV.eq (.agg (rowA 2 (stepF t)))] [([(0, none)], none), ([(5, none)], none), ([(16, some 0), (17, some 1)], none), ([(18, some 2)], none), ([(1, none)], none), ([(5, none)], none), ([(20, some 4), (21, some 5)], none), ([(22, some 6)], none)] 26 rfl (by kernel_rfl) rfl (by kernel_rfl) (by kernel_rfl) rfl NewT.trans (NewT.drew _) (Nat.le_of_ble_eq_true rfl) ⟨?_, ?_, ?_, ?_, ?_, ?_, ?_, ?_, trivial⟩ ?_
        · exact fun a wx hT hF K hK => rely_wp rfl (opr_move (.inl rfl) (hK _ _ (NewT.refl _) hF.1))
        · exact fun a wx hT hF K hK => rely_wp rfl (opr_move (.inl rfl) (hK _ _ (NewT.refl _) hF.1))
        · exact fun a wx hT hF K hK => rely_wp rfl (opr_idxS hlt rfl hF.1 hF.2.1 (hK _ _ (NewT.refl _) rfl))
        · exact fun a wx hT hF K hK => rely_wp rfl (opr_ld2 ((hT.out.cell (World.block_lt_of_cell? _ _ k0)).trans k0) ((hT.out.cell (World.block_lt_of_cell? _ _ k1)).trans k1) rfl hF.1 (hK _ _ (NewT.refl _) rfl))
        · exact fun a wx hT hF K hK => rely_wp rfl (opr_move (.inl rfl) (hK _ _ (NewT.refl _) hF.1))
        · exact fun a wx hT hF K hK => rely_wp rfl (opr_move (.inl rfl) (hK _ _ (NewT.refl _) hF.1))
        · exact fun a wx hT hF K hK => rely_wp rfl (opr_idxS hlt rfl hF.1 hF.2.1 (hK _ _ (NewT.refl _) rfl))
        · exact fun a wx hT hF K hK => rely_wp rfl (opr_ld2 ((hT.out.cell (World.block_lt_of_cell? _ _ e0)).trans e0) ((hT.out.cell (World.block_lt_of_cell? _ _ e1)).trans e1) rfl hF.1 (hK _ _ (NewT.refl _) rfl))
        · intro wy hT2
          iterate 8 (intro u h; obtain rfl := Eq.symm (h (by simp)); clear h)
          refine relyEnd_nil rfl ?_
          simp only [Act.put, List.setIfInBounds_toArray, List.set_cons_zero, List.set_cons_succ]
          refine opr_neqS (b := true) (by simp [hq]) rfl rfl rfl ?_
          go_simp
          go_wp2
          go_ret
          exact ⟨_, rfl, qB.trans (hT2.out.mono qB.size), by rw [decide_eq_false (Hno.out hq)]; rfl⟩
    · obtain rfl : k = n := by omega
      go_wp2
      go_ret
      exact ⟨_, rfl, qB, by rw [decide_eq_true (pairs_ext Hn.out Hm.out.symm Hs.out)]; rfl⟩
end Go.Proofs.YtchpmdcacpjojaaDoor
/- Package rec: Same; the reference's Same. -/
namespace Go.Proofs.YtchpmdcacpjojaaDoor
open Go Go.RowKit
set_option maxRecDepth 8000
set_option linter.all false
set_option maxHeartbeats 2000000 in
theorem Same_cv (v1 v2 : Value) (x y : Rc) (w : World) (h1 : RecV w v1 x) (h2 : RecV w v2 y) : Cv 47 #[v1, v2] w (.eq (.bool (sameB x y))) := by
  obtain ⟨sv, dv, rfl, hs, hd⟩ := h1
  obtain ⟨su, du, rfl, hu, he⟩ := h2
  unfold Cv
  go_enter Tryd.func47, Tryd.ntmps47
  go_upto_region 1 with fail
  have r1 := (rowIs_box w 51 109 (recF x sv dv)).alloc (.cells (rowA 109 (recF y su du)) 51)
  have r2 := rowIs_box (w.alloc (.cells (rowA 109 (recF x sv dv)) 51)) 51 109 (recF y su du)
  have hN : NewT w ((w.alloc (.cells (rowA 109 (recF x sv dv)) 51)).alloc (.cells (rowA 109 (recF y su du)) 51)) := NewT.trans _ _ _ (NewT.alloc _ _) (NewT.alloc _ _)
  rw [World.size_alloc] at r2
  change Code.wp _ _ _ _ ((w.alloc (.cells (rowA 109 (recF x sv dv)) 51)).alloc (.cells (rowA 109 (recF y su du)) 51))
  generalize (w.alloc (.cells (rowA 109 (recF x sv dv)) 51)).alloc (.cells (rowA 109 (recF y su du)) 51) = W0 at r1 r2 hN ⊢
  have HS := Lib.hid (hN.pairs hs)
  have HD := Lib.hid (hN.rd hd)
  have HU := Lib.hid (hN.pairs hu)
  have HE := Lib.hid (hN.rd he)
  have R1 := Lib.hid r1
  have R2 := Lib.hid r2
  have HN := Lib.hid hN
  clear hs hd hu he r1 r2 hN
  obtain ⟨q1_1, Q1_1⟩ : ∃ bq_, ((x.kind == y.kind) && (x.saga == y.saga)) = bq_ := ⟨_, rfl⟩
  obtain ⟨q2_1, Q2_1⟩ : ∃ bq_, ((q1_1 && (x.seq == y.seq)) && (x.step == y.step)) = bq_ := ⟨_, rfl⟩
  obtain ⟨q3_1, Q3_1⟩ : ∃ bq_, ((q2_1 && (x.tr == y.tr)) && (x.back == y.back)) = bq_ := ⟨_, rfl⟩
  obtain ⟨q4_1, Q4_1⟩ : ∃ bq_, ((q3_1 && (x.good == y.good)) && (x.nd == y.nd)) = bq_ := ⟨_, rfl⟩
  obtain ⟨q5_1, Q5_1⟩ : ∃ bq_, ((q4_1 && (x.part == y.part)) && (x.epoch == y.epoch)) = bq_ := ⟨_, rfl⟩
  obtain ⟨q6_1, Q6_1⟩ : ∃ bq_, ((q5_1 && (eqH (x.tag) (y.tag))) && (decide (x.steps = y.steps))) = bq_ := ⟨_, rfl⟩
  obtain ⟨q7_1, Q7_1⟩ : ∃ bq_, (q6_1 && (decide (x.data = y.data))) = bq_ := ⟨_, rfl⟩
  obtain ⟨q8_1, Q8_1⟩ : ∃ bq_, (q7_1 && (eqH (x.salt) (y.salt))) = bq_ := ⟨_, rfl⟩
  obtain ⟨q9_1, Q9_1⟩ : ∃ bq_, ((q8_1 && (x.gone == y.gone)) && (eqH (x.com) (y.com))) = bq_ := ⟨_, rfl⟩
  refine wp_region_steps0 NewT [SV.eq (.pointer (some ⟨w.heap.size, 0, none⟩)), SV.eq (.int .i64 (x.kind)), SV.eq (.pointer (some ⟨w.heap.size + 1, 0, none⟩)), SV.eq (.int .i64 (y.kind)), SV.eq (.bool (x.kind == y.kind)), SV.eq (.bool (x.kind == y.kind)), svIf (x.kind == y.kind) (SV.eq (.pointer (some ⟨w.heap.size, 1, none⟩))), svIf (x.kind == y.kind) (SV.eq (.int .i64 (x.saga))), svIf (x.kind == y.kind) (SV.eq (.pointer (some ⟨w.heap.size + 1, 1, none⟩))), svIf (x.kind == y.kind) (SV.eq (.int .i64 (y.saga))), svIf (x.kind == y.kind) (SV.eq (.bool (x.saga == y.saga))), SV.eq (.bool (q1_1)), SV.eq (.bool (q1_1)), svIf q1_1 (SV.eq (.pointer (some ⟨w.heap.size, 2, none⟩))), svIf q1_1 (SV.eq (.int .i64 (x.seq))), svIf q1_1 (SV.eq (.pointer (some ⟨w.heap.size + 1, 2, none⟩))), svIf q1_1 (SV.eq (.int .i64 (y.seq))), svIf q1_1 (SV.eq (.bool (x.seq == y.seq))), SV.eq (.bool (q1_1 && (x.seq == y.seq))), SV.eq (.bool (q1_1 && (x.seq == y.seq))), svIf (q1_1 && (x.seq == y.seq)) (SV.eq (.pointer (some ⟨w.heap.size, 3, none⟩))), svIf (q1_1 && (x.seq == y.seq)) (SV.eq (.int .i64 (x.step))), svIf (q1_1 && (x.seq == y.seq)) (SV.eq (.pointer (some ⟨w.heap.size + 1, 3, none⟩))), svIf (q1_1 && (x.seq == y.seq)) (SV.eq (.int .i64 (y.step))), svIf (q1_1 && (x.seq == y.seq)) (SV.eq (.bool (x.step == y.step))), SV.eq (.bool (q2_1)), SV.eq (.bool (q2_1)), svIf q2_1 (SV.eq (.pointer (some ⟨w.heap.size, 4, none⟩))), svIf q2_1 (SV.eq (.int .i64 (x.tr))), svIf q2_1 (SV.eq (.pointer (some ⟨w.heap.size + 1, 4, none⟩))), svIf q2_1 (SV.eq (.int .i64 (y.tr))), svIf q2_1 (SV.eq (.bool (x.tr == y.tr))), SV.eq (.bool (q2_1 && (x.tr == y.tr))), SV.eq (.bool (q2_1 && (x.tr == y.tr))), svIf (q2_1 && (x.tr == y.tr)) (SV.eq (.pointer (some ⟨w.heap.size, 5, none⟩))), svIf (q2_1 && (x.tr == y.tr)) (SV.eq (.bool (x.back))), svIf (q2_1 && (x.tr == y.tr)) (SV.eq (.pointer (some ⟨w.heap.size + 1, 5, none⟩))), svIf (q2_1 && (x.tr == y.tr)) (SV.eq (.bool (y.back))), svIf (q2_1 && (x.tr == y.tr)) (SV.eq (.bool (x.back == y.back))), SV.eq (.bool (q3_1)), SV.eq (.bool (q3_1)), svIf q3_1 (SV.eq (.pointer (some ⟨w.heap.size, 6, none⟩))), svIf q3_1 (SV.eq (.bool (x.good))), svIf q3_1 (SV.eq (.pointer (some ⟨w.heap.size + 1, 6, none⟩))), svIf q3_1 (SV.eq (.bool (y.good))), svIf q3_1 (SV.eq (.bool (x.good == y.good))), SV.eq (.bool (q3_1 && (x.good == y.good))), SV.eq (.bool (q3_1 && (x.good == y.good))), svIf (q3_1 && (x.good == y.good)) (SV.eq (.pointer (some ⟨w.heap.size, 7, none⟩))), svIf (q3_1 && (x.good == y.good)) (SV.eq (.int .i64 (x.nd))), svIf (q3_1 && (x.good == y.good)) (SV.eq (.pointer (some ⟨w.heap.size + 1, 7, none⟩))), svIf (q3_1 && (x.good == y.good)) (SV.eq (.int .i64 (y.nd))), svIf (q3_1 && (x.good == y.good)) (SV.eq (.bool (x.nd == y.nd))), SV.eq (.bool (q4_1)), SV.eq (.bool (q4_1)), svIf q4_1 (SV.eq (.pointer (some ⟨w.heap.size, 8, none⟩))), svIf q4_1 (SV.eq (.int .i64 (x.part))), svIf q4_1 (SV.eq (.pointer (some ⟨w.heap.size + 1, 8, none⟩))), svIf q4_1 (SV.eq (.int .i64 (y.part))), svIf q4_1 (SV.eq (.bool (x.part == y.part))), SV.eq (.bool (q4_1 && (x.part == y.part))), SV.eq (.bool (q4_1 && (x.part == y.part))), svIf (q4_1 && (x.part == y.part)) (SV.eq (.pointer (some ⟨w.heap.size, 9, none⟩))), svIf (q4_1 && (x.part == y.part)) (SV.eq (.int .i64 (x.epoch))), svIf (q4_1 && (x.part == y.part)) (SV.eq (.pointer (some ⟨w.heap.size + 1, 9, none⟩))), svIf (q4_1 && (x.part == y.part)) (SV.eq (.int .i64 (y.epoch))), svIf (q4_1 && (x.part == y.part)) (SV.eq (.bool (x.epoch == y.epoch))), SV.eq (.bool (q5_1)), SV.eq (.bool (q5_1)), svIf q5_1 (SV.eq (.pointer (some ⟨w.heap.size, 10, none⟩))), svIf q5_1 (SV.eq (.agg (rowA 32 (bF (x.tag))))), svIf q5_1 (SV.eq (.pointer (some ⟨w.heap.size + 1, 10, none⟩))), svIf q5_1 (SV.eq (.agg (rowA 32 (bF (y.tag))))), svIf q5_1 (SV.eq (.bool (eqH (x.tag) (y.tag)))), SV.eq (.bool (q5_1 && (eqH (x.tag) (y.tag)))), SV.eq (.bool (q5_1 && (eqH (x.tag) (y.tag)))), svIf (q5_1 && (eqH (x.tag) (y.tag))) (SV.eq (.pointer (some ⟨w.heap.size, 42, none⟩))), svIf (q5_1 && (eqH (x.tag) (y.tag))) (SV.eq (sv)), svIf (q5_1 && (eqH (x.tag) (y.tag))) (SV.eq (.pointer (some ⟨w.heap.size + 1, 42, none⟩))), svIf (q5_1 && (eqH (x.tag) (y.tag))) (SV.eq (su)), svIf (q5_1 && (eqH (x.tag) (y.tag))) (SV.eq (.bool (decide (x.steps = y.steps)))), SV.eq (.bool (q6_1)), SV.eq (.bool (q6_1)), svIf q6_1 (SV.eq (.pointer (some ⟨w.heap.size, 43, none⟩))), svIf q6_1 (SV.eq (dv)), svIf q6_1 (SV.eq (.pointer (some ⟨w.heap.size + 1, 43, none⟩))), svIf q6_1 (SV.eq (du)), svIf q6_1 (SV.eq (.bool (decide (x.data = y.data)))), SV.eq (.bool (q7_1)), SV.eq (.bool (q7_1)), svIf q7_1 (SV.eq (.pointer (some ⟨w.heap.size, 44, none⟩))), svIf q7_1 (SV.eq (.agg (rowA 32 (bF (x.salt))))), svIf q7_1 (SV.eq (.pointer (some ⟨w.heap.size + 1, 44, none⟩))), svIf q7_1 (SV.eq (.agg (rowA 32 (bF (y.salt))))), svIf q7_1 (SV.eq (.bool (eqH (x.salt) (y.salt)))), SV.eq (.bool (q8_1)), SV.eq (.bool (q8_1)), svIf q8_1 (SV.eq (.pointer (some ⟨w.heap.size, 76, none⟩))), svIf q8_1 (SV.eq (.bool (x.gone))), svIf q8_1 (SV.eq (.pointer (some ⟨w.heap.size + 1, 76, none⟩))), svIf q8_1 (SV.eq (.bool (y.gone))), svIf q8_1 (SV.eq (.bool (x.gone == y.gone))), SV.eq (.bool (q8_1 && (x.gone == y.gone))), SV.eq (.bool (q8_1 && (x.gone == y.gone))), svIf (q8_1 && (x.gone == y.gone)) (SV.eq (.pointer (some ⟨w.heap.size, 77, none⟩))), svIf (q8_1 && (x.gone == y.gone)) (SV.eq (.agg (rowA 32 (bF (x.com))))), svIf (q8_1 && (x.gone == y.gone)) (SV.eq (.pointer (some ⟨w.heap.size + 1, 77, none⟩))), svIf (q8_1 && (x.gone == y.gone)) (SV.eq (.agg (rowA 32 (bF (y.com))))), svIf (q8_1 && (x.gone == y.gone)) (SV.eq (.bool (eqH (x.com) (y.com)))), SV.eq (.bool (q9_1))] [([(2, none)], none), ([(5, some 0)], none), ([(3, none)], none), ([(7, some 2)], none), ([(6, some 1), (8, some 3)], none), ([(9, some 4)], none), ([(2, none), (10, some 5)], some (10, true)), ([(11, some 6), (10, some 5)], some (10, true)), ([(3, none), (10, some 5)], some (10, true)), ([(13, some 8), (10, some 5)], some (10, true)), ([(12, some 7), (14, some 9), (10, some 5)], some (10, true)), ([(10, some 5), (15, some 10)], none), ([(16, some 11)], none), ([(2, none), (17, some 12)], some (17, true)), ([(18, some 13), (17, some 12)], some (17, true)), ([(3, none), (17, some 12)], some (17, true)), ([(20, some 15), (17, some 12)], some (17, true)), ([(19, some 14), (21, some 16), (17, some 12)], some (17, true)), ([(17, some 12), (22, some 17)], none), ([(23, some 18)], none), ([(2, none), (24, some 19)], some (24, true)), ([(25, some 20), (24, some 19)], some (24, true)), ([(3, none), (24, some 19)], some (24, true)), ([(27, some 22), (24, some 19)], some (24, true)), ([(26, some 21), (28, some 23), (24, some 19)], some (24, true)), ([(24, some 19), (29, some 24)], none), ([(30, some 25)], none), ([(2, none), (31, some 26)], some (31, true)), ([(32, some 27), (31, some 26)], some (31, true)), ([(3, none), (31, some 26)], some (31, true)), ([(34, some 29), (31, some 26)], some (31, true)), ([(33, some 28), (35, some 30), (31, some 26)], some (31, true)), ([(31, some 26), (36, some 31)], none), ([(37, some 32)], none), ([(2, none), (38, some 33)], some (38, true)), ([(39, some 34), (38, some 33)], some (38, true)), ([(3, none), (38, some 33)], some (38, true)), ([(41, some 36), (38, some 33)], some (38, true)), ([(40, some 35), (42, some 37), (38, some 33)], some (38, true)), ([(38, some 33), (43, some 38)], none), ([(44, some 39)], none), ([(2, none), (45, some 40)], some (45, true)), ([(46, some 41), (45, some 40)], some (45, true)), ([(3, none), (45, some 40)], some (45, true)), ([(48, some 43), (45, some 40)], some (45, true)), ([(47, some 42), (49, some 44), (45, some 40)], some (45, true)), ([(45, some 40), (50, some 45)], none), ([(51, some 46)], none), ([(2, none), (52, some 47)], some (52, true)), ([(53, some 48), (52, some 47)], some (52, true)), ([(3, none), (52, some 47)], some (52, true)), ([(55, some 50), (52, some 47)], some (52, true)), ([(54, some 49), (56, some 51), (52, some 47)], some (52, true)), ([(52, some 47), (57, some 52)], none), ([(58, some 53)], none), ([(2, none), (59, some 54)], some (59, true)), ([(60, some 55), (59, some 54)], some (59, true)), ([(3, none), (59, some 54)], some (59, true)), ([(62, some 57), (59, some 54)], some (59, true)), ([(61, some 56), (63, some 58), (59, some 54)], some (59, true)), ([(59, some 54), (64, some 59)], none), ([(65, some 60)], none), ([(2, none), (66, some 61)], some (66, true)), ([(67, some 62), (66, some 61)], some (66, true)), ([(3, none), (66, some 61)], some (66, true)), ([(69, some 64), (66, some 61)], some (66, true)), ([(68, some 63), (70, some 65), (66, some 61)], some (66, true)), ([(66, some 61), (71, some 66)], none), ([(72, some 67)], none), ([(2, none), (73, some 68)], some (73, true)), ([(74, some 69), (73, some 68)], some (73, true)), ([(3, none), (73, some 68)], some (73, true)), ([(76, some 71), (73, some 68)], some (73, true)), ([(75, some 70), (77, some 72), (73, some 68)], some (73, true)), ([(73, some 68), (78, some 73)], none), ([(79, some 74)], none), ([(2, none), (80, some 75)], some (80, true)), ([(81, some 76), (80, some 75)], some (80, true)), ([(3, none), (80, some 75)], some (80, true)), ([(83, some 78), (80, some 75)], some (80, true)), ([(82, some 77), (84, some 79), (80, some 75)], some (80, true)), ([(80, some 75), (85, some 80)], none), ([(86, some 81)], none), ([(2, none), (87, some 82)], some (87, true)), ([(88, some 83), (87, some 82)], some (87, true)), ([(3, none), (87, some 82)], some (87, true)), ([(90, some 85), (87, some 82)], some (87, true)), ([(89, some 84), (91, some 86), (87, some 82)], some (87, true)), ([(87, some 82), (92, some 87)], none), ([(93, some 88)], none), ([(2, none), (94, some 89)], some (94, true)), ([(95, some 90), (94, some 89)], some (94, true)), ([(3, none), (94, some 89)], some (94, true)), ([(97, some 92), (94, some 89)], some (94, true)), ([(96, some 91), (98, some 93), (94, some 89)], some (94, true)), ([(94, some 89), (99, some 94)], none), ([(100, some 95)], none), ([(2, none), (101, some 96)], some (101, true)), ([(102, some 97), (101, some 96)], some (101, true)), ([(3, none), (101, some 96)], some (101, true)), ([(104, some 99), (101, some 96)], some (101, true)), ([(103, some 98), (105, some 100), (101, some 96)], some (101, true)), ([(101, some 96), (106, some 101)], none), ([(107, some 102)], none), ([(2, none), (108, some 103)], some (108, true)), ([(109, some 104), (108, some 103)], some (108, true)), ([(3, none), (108, some 103)], some (108, true)), ([(111, some 106), (108, some 103)], some (108, true)), ([(110, some 105), (112, some 107), (108, some 103)], some (108, true)), ([(108, some 103), (113, some 108)], none)] 115 110 rfl rfl (by kernel_rfl) NewT.trans (NewT.refl _) (Nat.le_of_ble_eq_true rfl) ⟨?_, ?_, ?_, ?_, ?_, ?_, ?_, ?_, ?_, ?_, ?_, ?_, ?_, ?_, ?_, ?_, ?_, ?_, ?_, ?_, ?_, ?_, ?_, ?_, ?_, ?_, ?_, ?_, ?_, ?_, ?_, ?_, ?_, ?_, ?_, ?_, ?_, ?_, ?_, ?_, ?_, ?_, ?_, ?_, ?_, ?_, ?_, ?_, ?_, ?_, ?_, ?_, ?_, ?_, ?_, ?_, ?_, ?_, ?_, ?_, ?_, ?_, ?_, ?_, ?_, ?_, ?_, ?_, ?_, ?_, ?_, ?_, ?_, ?_, ?_, ?_, ?_, ?_, ?_, ?_, ?_, ?_, ?_, ?_, ?_, ?_, ?_, ?_, ?_, ?_, ?_, ?_, ?_, ?_, ?_, ?_, ?_, ?_, ?_, ?_, ?_, ?_, ?_, ?_, ?_, ?_, ?_, ?_, ?_, ?_, trivial⟩ ?_
  · exact fun a wx hT hF K hK => rely_wp rfl (opr_fldR (by decide) rfl hF.1 (hK _ _ (NewT.refl _) rfl))
  · exact fun a wx hT hF K hK => rely_wp rfl (opr_ldI (hT.row R1.out) (by decide) rfl rfl hF.1 (hK _ _ (NewT.refl _) rfl))
  · exact fun a wx hT hF K hK => rely_wp rfl (opr_fldR (by decide) rfl hF.1 (hK _ _ (NewT.refl _) rfl))
  · exact fun a wx hT hF K hK => rely_wp rfl (opr_ldI (hT.row R2.out) (by decide) rfl rfl hF.1 (hK _ _ (NewT.refl _) rfl))
  · exact fun a wx hT hF K hK => rely_wp rfl (opr_cmp (b := x.kind == y.kind) (.inl ⟨rfl, rfl⟩) Tryd.underlying3 rfl hF.1 hF.2.1 (hK _ _ (NewT.refl _) rfl))
  · exact fun a wx hT hF K hK => rely_wp rfl (opr_move (.inl rfl) (hK _ _ (NewT.refl _) hF.1))
  · exact fun a wx hT hF K hK => rely_if (rely_gt hF.2.1) (NewT.refl _) hK fun hE hK => opr_fldR (by decide) rfl hF.1 (hK _ _ (NewT.refl _) rfl)
  · exact fun a wx hT hF K hK => rely_if (rely_gt hF.2.1) (NewT.refl _) hK fun hE hK => opr_ldI (hT.row R1.out) (by decide) rfl rfl (hF.1 hE) (hK _ _ (NewT.refl _) rfl)
  · exact fun a wx hT hF K hK => rely_if (rely_gt hF.2.1) (NewT.refl _) hK fun hE hK => opr_fldR (by decide) rfl hF.1 (hK _ _ (NewT.refl _) rfl)
  · exact fun a wx hT hF K hK => rely_if (rely_gt hF.2.1) (NewT.refl _) hK fun hE hK => opr_ldI (hT.row R2.out) (by decide) rfl rfl (hF.1 hE) (hK _ _ (NewT.refl _) rfl)
  · exact fun a wx hT hF K hK => rely_if (rely_gt hF.2.2.1) (NewT.refl _) hK fun hE hK => opr_cmp (b := x.saga == y.saga) (.inl ⟨rfl, rfl⟩) Tryd.underlying3 rfl (hF.1 hE) (hF.2.1 hE) (hK _ _ (NewT.refl _) rfl)
  · exact fun a wx hT hF K hK => rely_wp rfl (opr_pick_b rfl hF.1 (fun hb => hK _ _ (NewT.refl _) (pn_and1 Q1_1 (hF.2.1 hb) hb)) (fun hb => hK _ _ (NewT.refl _) (pn_and0 Q1_1 hb)))
  · exact fun a wx hT hF K hK => rely_wp rfl (opr_move (.inl rfl) (hK _ _ (NewT.refl _) hF.1))
  · exact fun a wx hT hF K hK => rely_if (rely_gt hF.2.1) (NewT.refl _) hK fun hE hK => opr_fldR (by decide) rfl hF.1 (hK _ _ (NewT.refl _) rfl)
  · exact fun a wx hT hF K hK => rely_if (rely_gt hF.2.1) (NewT.refl _) hK fun hE hK => opr_ldI (hT.row R1.out) (by decide) rfl rfl (hF.1 hE) (hK _ _ (NewT.refl _) rfl)
  · exact fun a wx hT hF K hK => rely_if (rely_gt hF.2.1) (NewT.refl _) hK fun hE hK => opr_fldR (by decide) rfl hF.1 (hK _ _ (NewT.refl _) rfl)
  · exact fun a wx hT hF K hK => rely_if (rely_gt hF.2.1) (NewT.refl _) hK fun hE hK => opr_ldI (hT.row R2.out) (by decide) rfl rfl (hF.1 hE) (hK _ _ (NewT.refl _) rfl)
  · exact fun a wx hT hF K hK => rely_if (rely_gt hF.2.2.1) (NewT.refl _) hK fun hE hK => opr_cmp (b := x.seq == y.seq) (.inl ⟨rfl, rfl⟩) Tryd.underlying3 rfl (hF.1 hE) (hF.2.1 hE) (hK _ _ (NewT.refl _) rfl)
  · exact fun a wx hT hF K hK => rely_wp rfl (opr_pick_b rfl hF.1 (fun hb => hK _ _ (NewT.refl _) (pk_and1 (hF.2.1 hb) hb)) (fun hb => hK _ _ (NewT.refl _) (pk_and0 hb)))
  · exact fun a wx hT hF K hK => rely_wp rfl (opr_move (.inl rfl) (hK _ _ (NewT.refl _) hF.1))
  · exact fun a wx hT hF K hK => rely_if (rely_gt hF.2.1) (NewT.refl _) hK fun hE hK => opr_fldR (by decide) rfl hF.1 (hK _ _ (NewT.refl _) rfl)
  · exact fun a wx hT hF K hK => rely_if (rely_gt hF.2.1) (NewT.refl _) hK fun hE hK => opr_ldI (hT.row R1.out) (by decide) rfl rfl (hF.1 hE) (hK _ _ (NewT.refl _) rfl)
  · exact fun a wx hT hF K hK => rely_if (rely_gt hF.2.1) (NewT.refl _) hK fun hE hK => opr_fldR (by decide) rfl hF.1 (hK _ _ (NewT.refl _) rfl)
  · exact fun a wx hT hF K hK => rely_if (rely_gt hF.2.1) (NewT.refl _) hK fun hE hK => opr_ldI (hT.row R2.out) (by decide) rfl rfl (hF.1 hE) (hK _ _ (NewT.refl _) rfl)
  · exact fun a wx hT hF K hK => rely_if (rely_gt hF.2.2.1) (NewT.refl _) hK fun hE hK => opr_cmp (b := x.step == y.step) (.inl ⟨rfl, rfl⟩) Tryd.underlying3 rfl (hF.1 hE) (hF.2.1 hE) (hK _ _ (NewT.refl _) rfl)
  · exact fun a wx hT hF K hK => rely_wp rfl (opr_pick_b rfl hF.1 (fun hb => hK _ _ (NewT.refl _) (pn_and1 Q2_1 (hF.2.1 hb) hb)) (fun hb => hK _ _ (NewT.refl _) (pn_and0 Q2_1 hb)))
  · exact fun a wx hT hF K hK => rely_wp rfl (opr_move (.inl rfl) (hK _ _ (NewT.refl _) hF.1))
  · exact fun a wx hT hF K hK => rely_if (rely_gt hF.2.1) (NewT.refl _) hK fun hE hK => opr_fldR (by decide) rfl hF.1 (hK _ _ (NewT.refl _) rfl)
  · exact fun a wx hT hF K hK => rely_if (rely_gt hF.2.1) (NewT.refl _) hK fun hE hK => opr_ldI (hT.row R1.out) (by decide) rfl rfl (hF.1 hE) (hK _ _ (NewT.refl _) rfl)
  · exact fun a wx hT hF K hK => rely_if (rely_gt hF.2.1) (NewT.refl _) hK fun hE hK => opr_fldR (by decide) rfl hF.1 (hK _ _ (NewT.refl _) rfl)
  · exact fun a wx hT hF K hK => rely_if (rely_gt hF.2.1) (NewT.refl _) hK fun hE hK => opr_ldI (hT.row R2.out) (by decide) rfl rfl (hF.1 hE) (hK _ _ (NewT.refl _) rfl)
  · exact fun a wx hT hF K hK => rely_if (rely_gt hF.2.2.1) (NewT.refl _) hK fun hE hK => opr_cmp (b := x.tr == y.tr) (.inl ⟨rfl, rfl⟩) Tryd.underlying3 rfl (hF.1 hE) (hF.2.1 hE) (hK _ _ (NewT.refl _) rfl)
  · exact fun a wx hT hF K hK => rely_wp rfl (opr_pick_b rfl hF.1 (fun hb => hK _ _ (NewT.refl _) (pk_and1 (hF.2.1 hb) hb)) (fun hb => hK _ _ (NewT.refl _) (pk_and0 hb)))
  · exact fun a wx hT hF K hK => rely_wp rfl (opr_move (.inl rfl) (hK _ _ (NewT.refl _) hF.1))
  · exact fun a wx hT hF K hK => rely_if (rely_gt hF.2.1) (NewT.refl _) hK fun hE hK => opr_fldR (by decide) rfl hF.1 (hK _ _ (NewT.refl _) rfl)
  · exact fun a wx hT hF K hK => rely_if (rely_gt hF.2.1) (NewT.refl _) hK fun hE hK => opr_ldQ (hT.row R1.out) (by decide) rfl rfl (hF.1 hE) (hK _ _ (NewT.refl _) rfl)
  · exact fun a wx hT hF K hK => rely_if (rely_gt hF.2.1) (NewT.refl _) hK fun hE hK => opr_fldR (by decide) rfl hF.1 (hK _ _ (NewT.refl _) rfl)
  · exact fun a wx hT hF K hK => rely_if (rely_gt hF.2.1) (NewT.refl _) hK fun hE hK => opr_ldQ (hT.row R2.out) (by decide) rfl rfl (hF.1 hE) (hK _ _ (NewT.refl _) rfl)
  · exact fun a wx hT hF K hK => rely_if (rely_gt hF.2.2.1) (NewT.refl _) hK fun hE hK => opr_eqlQ (b := x.back == y.back) (rfl) rfl (hF.1 hE) (hF.2.1 hE) (hK _ _ (NewT.refl _) rfl)
  · exact fun a wx hT hF K hK => rely_wp rfl (opr_pick_b rfl hF.1 (fun hb => hK _ _ (NewT.refl _) (pn_and1 Q3_1 (hF.2.1 hb) hb)) (fun hb => hK _ _ (NewT.refl _) (pn_and0 Q3_1 hb)))
  · exact fun a wx hT hF K hK => rely_wp rfl (opr_move (.inl rfl) (hK _ _ (NewT.refl _) hF.1))
  · exact fun a wx hT hF K hK => rely_if (rely_gt hF.2.1) (NewT.refl _) hK fun hE hK => opr_fldR (by decide) rfl hF.1 (hK _ _ (NewT.refl _) rfl)
  · exact fun a wx hT hF K hK => rely_if (rely_gt hF.2.1) (NewT.refl _) hK fun hE hK => opr_ldQ (hT.row R1.out) (by decide) rfl rfl (hF.1 hE) (hK _ _ (NewT.refl _) rfl)
  · exact fun a wx hT hF K hK => rely_if (rely_gt hF.2.1) (NewT.refl _) hK fun hE hK => opr_fldR (by decide) rfl hF.1 (hK _ _ (NewT.refl _) rfl)
  · exact fun a wx hT hF K hK => rely_if (rely_gt hF.2.1) (NewT.refl _) hK fun hE hK => opr_ldQ (hT.row R2.out) (by decide) rfl rfl (hF.1 hE) (hK _ _ (NewT.refl _) rfl)
  · exact fun a wx hT hF K hK => rely_if (rely_gt hF.2.2.1) (NewT.refl _) hK fun hE hK => opr_eqlQ (b := x.good == y.good) (rfl) rfl (hF.1 hE) (hF.2.1 hE) (hK _ _ (NewT.refl _) rfl)
  · exact fun a wx hT hF K hK => rely_wp rfl (opr_pick_b rfl hF.1 (fun hb => hK _ _ (NewT.refl _) (pk_and1 (hF.2.1 hb) hb)) (fun hb => hK _ _ (NewT.refl _) (pk_and0 hb)))
  · exact fun a wx hT hF K hK => rely_wp rfl (opr_move (.inl rfl) (hK _ _ (NewT.refl _) hF.1))
  · exact fun a wx hT hF K hK => rely_if (rely_gt hF.2.1) (NewT.refl _) hK fun hE hK => opr_fldR (by decide) rfl hF.1 (hK _ _ (NewT.refl _) rfl)
  · exact fun a wx hT hF K hK => rely_if (rely_gt hF.2.1) (NewT.refl _) hK fun hE hK => opr_ldI (hT.row R1.out) (by decide) rfl rfl (hF.1 hE) (hK _ _ (NewT.refl _) rfl)
  · exact fun a wx hT hF K hK => rely_if (rely_gt hF.2.1) (NewT.refl _) hK fun hE hK => opr_fldR (by decide) rfl hF.1 (hK _ _ (NewT.refl _) rfl)
  · exact fun a wx hT hF K hK => rely_if (rely_gt hF.2.1) (NewT.refl _) hK fun hE hK => opr_ldI (hT.row R2.out) (by decide) rfl rfl (hF.1 hE) (hK _ _ (NewT.refl _) rfl)
  · exact fun a wx hT hF K hK => rely_if (rely_gt hF.2.2.1) (NewT.refl _) hK fun hE hK => opr_cmp (b := x.nd == y.nd) (.inl ⟨rfl, rfl⟩) Tryd.underlying3 rfl (hF.1 hE) (hF.2.1 hE) (hK _ _ (NewT.refl _) rfl)
  · exact fun a wx hT hF K hK => rely_wp rfl (opr_pick_b rfl hF.1 (fun hb => hK _ _ (NewT.refl _) (pn_and1 Q4_1 (hF.2.1 hb) hb)) (fun hb => hK _ _ (NewT.refl _) (pn_and0 Q4_1 hb)))
  · exact fun a wx hT hF K hK => rely_wp rfl (opr_move (.inl rfl) (hK _ _ (NewT.refl _) hF.1))
  · exact fun a wx hT hF K hK => rely_if (rely_gt hF.2.1) (NewT.refl _) hK fun hE hK => opr_fldR (by decide) rfl hF.1 (hK _ _ (NewT.refl _) rfl)
  · exact fun a wx hT hF K hK => rely_if (rely_gt hF.2.1) (NewT.refl _) hK fun hE hK => opr_ldI (hT.row R1.out) (by decide) rfl rfl (hF.1 hE) (hK _ _ (NewT.refl _) rfl)
  · exact fun a wx hT hF K hK => rely_if (rely_gt hF.2.1) (NewT.refl _) hK fun hE hK => opr_fldR (by decide) rfl hF.1 (hK _ _ (NewT.refl _) rfl)
  · exact fun a wx hT hF K hK => rely_if (rely_gt hF.2.1) (NewT.refl _) hK fun hE hK => opr_ldI (hT.row R2.out) (by decide) rfl rfl (hF.1 hE) (hK _ _ (NewT.refl _) rfl)
  · exact fun a wx hT hF K hK => rely_if (rely_gt hF.2.2.1) (NewT.refl _) hK fun hE hK => opr_cmp (b := x.part == y.part) (.inl ⟨rfl, rfl⟩) Tryd.underlying3 rfl (hF.1 hE) (hF.2.1 hE) (hK _ _ (NewT.refl _) rfl)
  · exact fun a wx hT hF K hK => rely_wp rfl (opr_pick_b rfl hF.1 (fun hb => hK _ _ (NewT.refl _) (pk_and1 (hF.2.1 hb) hb)) (fun hb => hK _ _ (NewT.refl _) (pk_and0 hb)))
  · exact fun a wx hT hF K hK => rely_wp rfl (opr_move (.inl rfl) (hK _ _ (NewT.refl _) hF.1))
  · exact fun a wx hT hF K hK => rely_if (rely_gt hF.2.1) (NewT.refl _) hK fun hE hK => opr_fldR (by decide) rfl hF.1 (hK _ _ (NewT.refl _) rfl)
  · exact fun a wx hT hF K hK => rely_if (rely_gt hF.2.1) (NewT.refl _) hK fun hE hK => opr_ldI (hT.row R1.out) (by decide) rfl rfl (hF.1 hE) (hK _ _ (NewT.refl _) rfl)
  · exact fun a wx hT hF K hK => rely_if (rely_gt hF.2.1) (NewT.refl _) hK fun hE hK => opr_fldR (by decide) rfl hF.1 (hK _ _ (NewT.refl _) rfl)
  · exact fun a wx hT hF K hK => rely_if (rely_gt hF.2.1) (NewT.refl _) hK fun hE hK => opr_ldI (hT.row R2.out) (by decide) rfl rfl (hF.1 hE) (hK _ _ (NewT.refl _) rfl)
  · exact fun a wx hT hF K hK => rely_if (rely_gt hF.2.2.1) (NewT.refl _) hK fun hE hK => opr_cmp (b := x.epoch == y.epoch) (.inl ⟨rfl, rfl⟩) Tryd.underlying3 rfl (hF.1 hE) (hF.2.1 hE) (hK _ _ (NewT.refl _) rfl)
  · exact fun a wx hT hF K hK => rely_wp rfl (opr_pick_b rfl hF.1 (fun hb => hK _ _ (NewT.refl _) (pn_and1 Q5_1 (hF.2.1 hb) hb)) (fun hb => hK _ _ (NewT.refl _) (pn_and0 Q5_1 hb)))
  · exact fun a wx hT hF K hK => rely_wp rfl (opr_move (.inl rfl) (hK _ _ (NewT.refl _) hF.1))
  · exact fun a wx hT hF K hK => rely_if (rely_gt hF.2.1) (NewT.refl _) hK fun hE hK => opr_fldR (by decide) rfl hF.1 (hK _ _ (NewT.refl _) rfl)
  · exact fun a wx hT hF K hK => rely_if (rely_gt hF.2.1) (NewT.refl _) hK fun hE hK => opr_ldH (hT.row R1.out) (by decide) (recF_tag x _ _) rfl (hF.1 hE) (hK _ _ (NewT.refl _) rfl)
  · exact fun a wx hT hF K hK => rely_if (rely_gt hF.2.1) (NewT.refl _) hK fun hE hK => opr_fldR (by decide) rfl hF.1 (hK _ _ (NewT.refl _) rfl)
  · exact fun a wx hT hF K hK => rely_if (rely_gt hF.2.1) (NewT.refl _) hK fun hE hK => opr_ldH (hT.row R2.out) (by decide) (recF_tag y _ _) rfl (hF.1 hE) (hK _ _ (NewT.refl _) rfl)
  · exact fun a wx hT hF K hK => rely_if (rely_gt hF.2.2.1) (NewT.refl _) hK fun hE hK => opr_eql_hash (b := eqH (x.tag) (y.tag)) rfl (hF.1 hE) (hF.2.1 hE) (rfl) (hK _ _ (NewT.refl _) rfl)
  · exact fun a wx hT hF K hK => rely_wp rfl (opr_pick_b rfl hF.1 (fun hb => hK _ _ (NewT.refl _) (pk_and1 (hF.2.1 hb) hb)) (fun hb => hK _ _ (NewT.refl _) (pk_and0 hb)))
  · exact fun a wx hT hF K hK => rely_wp rfl (opr_move (.inl rfl) (hK _ _ (NewT.refl _) hF.1))
  · exact fun a wx hT hF K hK => rely_if (rely_gt hF.2.1) (NewT.refl _) hK fun hE hK => opr_fldR (by decide) rfl hF.1 (hK _ _ (NewT.refl _) rfl)
  · exact fun a wx hT hF K hK => rely_if (rely_gt hF.2.1) (NewT.refl _) hK fun hE hK => opr_ldS (hT.row R1.out) (by decide) rfl rfl (hF.1 hE) (hK _ _ (NewT.refl _) rfl)
  · exact fun a wx hT hF K hK => rely_if (rely_gt hF.2.1) (NewT.refl _) hK fun hE hK => opr_fldR (by decide) rfl hF.1 (hK _ _ (NewT.refl _) rfl)
  · exact fun a wx hT hF K hK => rely_if (rely_gt hF.2.1) (NewT.refl _) hK fun hE hK => opr_ldS (hT.row R2.out) (by decide) rfl rfl (hF.1 hE) (hK _ _ (NewT.refl _) rfl)
  · exact fun a wx hT hF K hK => rely_if (rely_gt hF.2.2.1) (NewT.refl _) hK fun hE hK => opr_cv (SlEq_cv _ _ x.steps y.steps wx (hT.pairs HS.out) (hT.pairs HU.out)) rfl Tryd.func61 (by kernel_rfl) (by kernel_rfl) (evs2 (hF.1 hE) (hF.2.1 hE)) hK
  · exact fun a wx hT hF K hK => rely_wp rfl (opr_pick_b rfl hF.1 (fun hb => hK _ _ (NewT.refl _) (pn_and1 Q6_1 (hF.2.1 hb) hb)) (fun hb => hK _ _ (NewT.refl _) (pn_and0 Q6_1 hb)))
  · exact fun a wx hT hF K hK => rely_wp rfl (opr_move (.inl rfl) (hK _ _ (NewT.refl _) hF.1))
  · exact fun a wx hT hF K hK => rely_if (rely_gt hF.2.1) (NewT.refl _) hK fun hE hK => opr_fldR (by decide) rfl hF.1 (hK _ _ (NewT.refl _) rfl)
  · exact fun a wx hT hF K hK => rely_if (rely_gt hF.2.1) (NewT.refl _) hK fun hE hK => opr_ldB (hT.row R1.out) (by decide) rfl rfl (hF.1 hE) (hK _ _ (NewT.refl _) rfl)
  · exact fun a wx hT hF K hK => rely_if (rely_gt hF.2.1) (NewT.refl _) hK fun hE hK => opr_fldR (by decide) rfl hF.1 (hK _ _ (NewT.refl _) rfl)
  · exact fun a wx hT hF K hK => rely_if (rely_gt hF.2.1) (NewT.refl _) hK fun hE hK => opr_ldB (hT.row R2.out) (by decide) rfl rfl (hF.1 hE) (hK _ _ (NewT.refl _) rfl)
  · exact fun a wx hT hF K hK => rely_if (rely_gt hF.2.2.1) (NewT.refl _) hK fun hE hK => opr_cv (BEqual_cv _ _ x.data y.data wx (hT.rd HD.out) (hT.rd HE.out)) rfl Tryd.func62 (by kernel_rfl) (by kernel_rfl) (evs2 (hF.1 hE) (hF.2.1 hE)) hK
  · exact fun a wx hT hF K hK => rely_wp rfl (opr_pick_b rfl hF.1 (fun hb => hK _ _ (NewT.refl _) (pn_and1 Q7_1 (hF.2.1 hb) hb)) (fun hb => hK _ _ (NewT.refl _) (pn_and0 Q7_1 hb)))
  · exact fun a wx hT hF K hK => rely_wp rfl (opr_move (.inl rfl) (hK _ _ (NewT.refl _) hF.1))
  · exact fun a wx hT hF K hK => rely_if (rely_gt hF.2.1) (NewT.refl _) hK fun hE hK => opr_fldR (by decide) rfl hF.1 (hK _ _ (NewT.refl _) rfl)
  · exact fun a wx hT hF K hK => rely_if (rely_gt hF.2.1) (NewT.refl _) hK fun hE hK => opr_ldH (hT.row R1.out) (by decide) (recF_salt x _ _) rfl (hF.1 hE) (hK _ _ (NewT.refl _) rfl)
  · exact fun a wx hT hF K hK => rely_if (rely_gt hF.2.1) (NewT.refl _) hK fun hE hK => opr_fldR (by decide) rfl hF.1 (hK _ _ (NewT.refl _) rfl)
  · exact fun a wx hT hF K hK => rely_if (rely_gt hF.2.1) (NewT.refl _) hK fun hE hK => opr_ldH (hT.row R2.out) (by decide) (recF_salt y _ _) rfl (hF.1 hE) (hK _ _ (NewT.refl _) rfl)
  · exact fun a wx hT hF K hK => rely_if (rely_gt hF.2.2.1) (NewT.refl _) hK fun hE hK => opr_eql_hash (b := eqH (x.salt) (y.salt)) rfl (hF.1 hE) (hF.2.1 hE) (rfl) (hK _ _ (NewT.refl _) rfl)
  · exact fun a wx hT hF K hK => rely_wp rfl (opr_pick_b rfl hF.1 (fun hb => hK _ _ (NewT.refl _) (pn_and1 Q8_1 (hF.2.1 hb) hb)) (fun hb => hK _ _ (NewT.refl _) (pn_and0 Q8_1 hb)))
  · exact fun a wx hT hF K hK => rely_wp rfl (opr_move (.inl rfl) (hK _ _ (NewT.refl _) hF.1))
  · exact fun a wx hT hF K hK => rely_if (rely_gt hF.2.1) (NewT.refl _) hK fun hE hK => opr_fldR (by decide) rfl hF.1 (hK _ _ (NewT.refl _) rfl)
  · exact fun a wx hT hF K hK => rely_if (rely_gt hF.2.1) (NewT.refl _) hK fun hE hK => opr_ldQ (hT.row R1.out) (by decide) rfl rfl (hF.1 hE) (hK _ _ (NewT.refl _) rfl)
  · exact fun a wx hT hF K hK => rely_if (rely_gt hF.2.1) (NewT.refl _) hK fun hE hK => opr_fldR (by decide) rfl hF.1 (hK _ _ (NewT.refl _) rfl)
  · exact fun a wx hT hF K hK => rely_if (rely_gt hF.2.1) (NewT.refl _) hK fun hE hK => opr_ldQ (hT.row R2.out) (by decide) rfl rfl (hF.1 hE) (hK _ _ (NewT.refl _) rfl)
  · exact fun a wx hT hF K hK => rely_if (rely_gt hF.2.2.1) (NewT.refl _) hK fun hE hK => opr_eqlQ (b := x.gone == y.gone) (rfl) rfl (hF.1 hE) (hF.2.1 hE) (hK _ _ (NewT.refl _) rfl)
  · exact fun a wx hT hF K hK => rely_wp rfl (opr_pick_b rfl hF.1 (fun hb => hK _ _ (NewT.refl _) (pk_and1 (hF.2.1 hb) hb)) (fun hb => hK _ _ (NewT.refl _) (pk_and0 hb)))
  · exact fun a wx hT hF K hK => rely_wp rfl (opr_move (.inl rfl) (hK _ _ (NewT.refl _) hF.1))
  · exact fun a wx hT hF K hK => rely_if (rely_gt hF.2.1) (NewT.refl _) hK fun hE hK => opr_fldR (by decide) rfl hF.1 (hK _ _ (NewT.refl _) rfl)
  · exact fun a wx hT hF K hK => rely_if (rely_gt hF.2.1) (NewT.refl _) hK fun hE hK => opr_ldH (hT.row R1.out) (by decide) (recF_com x _ _) rfl (hF.1 hE) (hK _ _ (NewT.refl _) rfl)
  · exact fun a wx hT hF K hK => rely_if (rely_gt hF.2.1) (NewT.refl _) hK fun hE hK => opr_fldR (by decide) rfl hF.1 (hK _ _ (NewT.refl _) rfl)
  · exact fun a wx hT hF K hK => rely_if (rely_gt hF.2.1) (NewT.refl _) hK fun hE hK => opr_ldH (hT.row R2.out) (by decide) (recF_com y _ _) rfl (hF.1 hE) (hK _ _ (NewT.refl _) rfl)
  · exact fun a wx hT hF K hK => rely_if (rely_gt hF.2.2.1) (NewT.refl _) hK fun hE hK => opr_eql_hash (b := eqH (x.com) (y.com)) rfl (hF.1 hE) (hF.2.1 hE) (rfl) (hK _ _ (NewT.refl _) rfl)
  · exact fun a wx hT hF K hK => rely_wp rfl (opr_pick_b rfl hF.1 (fun hb => hK _ _ (NewT.refl _) (pn_and1 Q9_1 (hF.2.1 hb) hb)) (fun hb => hK _ _ (NewT.refl _) (pn_and0 Q9_1 hb)))
  · intro wx hT
    iterate 6 (intro u h; obtain rfl := Eq.symm (h (by simp)); clear h)
    iterate 5 (intro _ _)
    iterate 2 (intro u h; obtain rfl := Eq.symm (h (by simp)); clear h)
    iterate 5 (intro _ _)
    iterate 2 (intro u h; obtain rfl := Eq.symm (h (by simp)); clear h)
    iterate 5 (intro _ _)
    iterate 2 (intro u h; obtain rfl := Eq.symm (h (by simp)); clear h)
    iterate 5 (intro _ _)
    iterate 2 (intro u h; obtain rfl := Eq.symm (h (by simp)); clear h)
    iterate 5 (intro _ _)
    iterate 2 (intro u h; obtain rfl := Eq.symm (h (by simp)); clear h)
    iterate 5 (intro _ _)
    iterate 2 (intro u h; obtain rfl := Eq.symm (h (by simp)); clear h)
    iterate 5 (intro _ _)
    iterate 2 (intro u h; obtain rfl := Eq.symm (h (by simp)); clear h)
    iterate 5 (intro _ _)
    iterate 2 (intro u h; obtain rfl := Eq.symm (h (by simp)); clear h)
    iterate 5 (intro _ _)
    iterate 2 (intro u h; obtain rfl := Eq.symm (h (by simp)); clear h)
    iterate 5 (intro _ _)
    iterate 2 (intro u h; obtain rfl := Eq.symm (h (by simp)); clear h)
    iterate 5 (intro _ _)
    iterate 2 (intro u h; obtain rfl := Eq.symm (h (by simp)); clear h)
    iterate 5 (intro _ _)
    iterate 2 (intro u h; obtain rfl := Eq.symm (h (by simp)); clear h)
    iterate 5 (intro _ _)
    iterate 2 (intro u h; obtain rfl := Eq.symm (h (by simp)); clear h)
    iterate 5 (intro _ _)
    iterate 2 (intro u h; obtain rfl := Eq.symm (h (by simp)); clear h)
    iterate 5 (intro _ _)
    intro u h; obtain rfl := Eq.symm (h (by simp)); clear h
    subst Q9_1 Q8_1 Q7_1 Q6_1 Q5_1 Q4_1 Q3_1 Q2_1 Q1_1
    refine relyEnd_nil rfl ?_
    simp only [Act.put, List.setIfInBounds_toArray, List.set_cons_zero, List.set_cons_succ]
    refine wpList_plain rfl (fun K hK => ?_)
    refine opr_move (.inr rfl) (hK _ _ ?_)
    refine wpList_end rfl ?_
    go_simp
    go_wp2
    go_ret
    exact ⟨_, rfl, NewT.trans _ _ _ HN.out hT, rfl⟩
end Go.Proofs.YtchpmdcacpjojaaDoor
/- Package rec: inRange. -/
namespace Go.Proofs.YtchpmdcacpjojaaDoor
open Go Go.RowKit
set_option maxRecDepth 8000
set_option linter.all false
set_option maxHeartbeats 2000000 in
theorem inRange_cv (v : Value) (x : Rc) (w : World) (h : RecV w v x) : Cv 46 #[v] w (.eq (.bool (inRg x))) := by
  obtain ⟨sv, dv, rfl, hs, hd⟩ := h
  unfold Cv
  have HX : Hid (RecV w (.agg (rowA 109 (recF x sv dv))) x) := Lib.hid ⟨sv, dv, rfl, hs, hd⟩
  have HS := Lib.hid hs
  have HD := Lib.hid hd
  clear hs hd
  by_cases hk : x.kind = 1
  · have hI : inRg x = ((inR x.saga 0 11 && stepsOk x.steps) && decide ((x.data.length : Int) ≤ 60)) := by unfold inRg; simp only [hk]; simp
    rw [hI]
    clear hI
    go_enter Tryd.func46, Tryd.ntmps46
    go_upto_region 1 with fail
    have r1 := rowIs_box w 51 109 (recF x sv dv)
    have hN := NewT.alloc w (.cells (rowA 109 (recF x sv dv)) 51)
    change Code.wp _ _ _ _ (w.alloc (.cells (rowA 109 (recF x sv dv)) 51))
    generalize w.alloc (.cells (rowA 109 (recF x sv dv)) 51) = W0 at r1 hN ⊢
    have R1 := Lib.hid r1
    have HN := Lib.hid hN
    replace HX := Lib.hid (hN.recV HX.out)
    replace HS := Lib.hid (hN.pairs HS.out)
    replace HD := Lib.hid (hN.rd HD.out)
    clear r1 hN
    have c0 : W0.cell? ⟨w.heap.size, 0, none⟩ = some (.int .i64 x.kind) := R1.out.cell (by omega)
    rw [hk] at c0
    go_upto_region 8 with fail
    clear c0
    obtain ⟨q1_8, Q1_8⟩ : ∃ bq_, ((inR x.saga 0 11) && (stepsOk x.steps)) = bq_ := ⟨_, rfl⟩
    obtain ⟨q2_8, Q2_8⟩ : ∃ bq_, (q1_8 && (decide (((List.length (x.data) : Int)) ≤ 60))) = bq_ := ⟨_, rfl⟩
    refine wp_region_steps0 NewT [SV.eq (.pointer (some ⟨w.heap.size, 1, none⟩)), SV.eq (.int .i64 (x.saga)), SV.eq (.bool (inR x.saga 0 11)), SV.eq (.bool (inR x.saga 0 11)), svIf (inR x.saga 0 11) (SV.eq (.pointer (some ⟨w.heap.size, 42, none⟩))), svIf (inR x.saga 0 11) (SV.eq (sv)), svIf (inR x.saga 0 11) (SV.eq (.bool (stepsOk x.steps))), SV.eq (.bool (q1_8)), SV.eq (.bool (q1_8)), svIf q1_8 (SV.eq (.pointer (some ⟨w.heap.size, 43, none⟩))), svIf q1_8 (SV.eq (dv)), svIf q1_8 (SV.eq (.int .i64 ((List.length (x.data) : Int)))), svIf q1_8 (SV.eq (.bool (decide (((List.length (x.data) : Int)) ≤ 60)))), SV.eq (.bool (q2_8)), SV.eq (.bool (q2_8))] [([(1, none)], none), ([(16, some 0)], none), ([(17, some 1)], none), ([(18, some 2)], none), ([(1, none), (19, some 3)], some (19, true)), ([(20, some 4), (19, some 3)], some (19, true)), ([(21, some 5), (19, some 3)], some (19, true)), ([(19, some 3), (22, some 6)], none), ([(23, some 7)], none), ([(1, none), (24, some 8)], some (24, true)), ([(25, some 9), (24, some 8)], some (24, true)), ([(26, some 10), (24, some 8)], some (24, true)), ([(27, some 11), (24, some 8)], some (24, true)), ([(24, some 8), (28, some 12)], none), ([(29, some 13)], none)] 79 15 rfl rfl (by kernel_rfl) NewT.trans (NewT.refl _) (Nat.le_of_ble_eq_true rfl) ⟨?_, ?_, ?_, ?_, ?_, ?_, ?_, ?_, ?_, ?_, ?_, ?_, ?_, ?_, ?_, trivial⟩ ?_
    · exact fun a wx hT hF K hK => rely_wp rfl (opr_fldR (by decide) rfl hF.1 (hK _ _ (NewT.refl _) rfl))
    · exact fun a wx hT hF K hK => rely_wp rfl (opr_ldI (hT.row R1.out) (by decide) rfl rfl hF.1 (hK _ _ (NewT.refl _) rfl))
    · exact fun a wx hT hF K hK => rely_wp rfl (opr_cv (isSaga_cv x.saga wx) rfl Tryd.func56 (by kernel_rfl) (by kernel_rfl) (evs1 hF.1) hK)
    · exact fun a wx hT hF K hK => rely_wp rfl (opr_move (.inl rfl) (hK _ _ (NewT.refl _) hF.1))
    · exact fun a wx hT hF K hK => rely_if (rely_gt hF.2.1) (NewT.refl _) hK fun hE hK => opr_fldR (by decide) rfl hF.1 (hK _ _ (NewT.refl _) rfl)
    · exact fun a wx hT hF K hK => rely_if (rely_gt hF.2.1) (NewT.refl _) hK fun hE hK => opr_ldS (hT.row R1.out) (by decide) rfl rfl (hF.1 hE) (hK _ _ (NewT.refl _) rfl)
    · exact fun a wx hT hF K hK => rely_if (rely_gt hF.2.1) (NewT.refl _) hK fun hE hK => opr_cv (areSteps_cv _ x.steps wx (hT.pairs HS.out)) rfl Tryd.func57 (by kernel_rfl) (by kernel_rfl) (evs1 (hF.1 hE)) hK
    · exact fun a wx hT hF K hK => rely_wp rfl (opr_pick_b rfl hF.1 (fun hb => hK _ _ (NewT.refl _) (pn_and1 Q1_8 (hF.2.1 hb) hb)) (fun hb => hK _ _ (NewT.refl _) (pn_and0 Q1_8 hb)))
    · exact fun a wx hT hF K hK => rely_wp rfl (opr_move (.inl rfl) (hK _ _ (NewT.refl _) hF.1))
    · exact fun a wx hT hF K hK => rely_if (rely_gt hF.2.1) (NewT.refl _) hK fun hE hK => opr_fldR (by decide) rfl hF.1 (hK _ _ (NewT.refl _) rfl)
    · exact fun a wx hT hF K hK => rely_if (rely_gt hF.2.1) (NewT.refl _) hK fun hE hK => opr_ldB (hT.row R1.out) (by decide) rfl rfl (hF.1 hE) (hK _ _ (NewT.refl _) rfl)
    · intro a wx hT hF K hK
      obtain ⟨f26, f24, _⟩ := hF
      have f26 : q1_8 = true → a.tmps.getD 26 undef = dv := f26
      have f24 : a.tmps.getD 24 undef = .bool (q1_8) := f24
      refine rely_if (rely_gt f24) (NewT.refl _) hK (fun hE hK => ?_)
      exact opr_len_rd rfl (by rw [eval_tmp, (f26 hE)]; exact (hT.rd HD.out)) (hK _ _ (NewT.refl _) rfl)
    · exact fun a wx hT hF K hK => rely_if (rely_gt hF.2.1) (NewT.refl _) hK fun hE hK => opr_cmp (b := decide (((List.length (x.data) : Int)) ≤ 60)) (.inr (.inr (.inl ⟨rfl, rfl⟩))) Tryd.underlying3 rfl (hF.1 hE) rfl (hK _ _ (NewT.refl _) rfl)
    · exact fun a wx hT hF K hK => rely_wp rfl (opr_pick_b rfl hF.1 (fun hb => hK _ _ (NewT.refl _) (pn_and1 Q2_8 (hF.2.1 hb) hb)) (fun hb => hK _ _ (NewT.refl _) (pn_and0 Q2_8 hb)))
    · exact fun a wx hT hF K hK => rely_wp rfl (opr_move (.inr rfl) (hK _ _ (NewT.refl _) hF.1))
    · intro wx hT
      iterate 4 (intro u h; obtain rfl := Eq.symm (h (by simp)); clear h)
      iterate 3 (intro _ _)
      iterate 2 (intro u h; obtain rfl := Eq.symm (h (by simp)); clear h)
      iterate 4 (intro _ _)
      iterate 2 (intro u h; obtain rfl := Eq.symm (h (by simp)); clear h)
      subst Q2_8 Q1_8
      refine relyEnd_nil rfl ?_
      refine wpList_end rfl ?_
      simp only [Act.put, List.setIfInBounds_toArray, List.set_cons_zero, List.set_cons_succ]
      go_simp
      go_wp2
      go_ret
      exact ⟨_, rfl, NewT.trans _ _ _ HN.out hT, rfl⟩
  have k1 := hk
  clear hk
  by_cases hk : x.kind = 3
  · have hI : inRg x = ((!((!inR x.part 0 3) || !inR x.epoch 0 400)) && (((inR x.saga 0 11 && inR x.seq 1 400) && inR x.step 0 5) && inR x.tr 1 9)) := by unfold inRg; simp only [hk]; simp
    rw [hI]
    clear hI
    go_enter Tryd.func46, Tryd.ntmps46
    go_upto_region 1 with fail
    have r1 := rowIs_box w 51 109 (recF x sv dv)
    have hN := NewT.alloc w (.cells (rowA 109 (recF x sv dv)) 51)
    change Code.wp _ _ _ _ (w.alloc (.cells (rowA 109 (recF x sv dv)) 51))
    generalize w.alloc (.cells (rowA 109 (recF x sv dv)) 51) = W0 at r1 hN ⊢
    have R1 := Lib.hid r1
    have HN := Lib.hid hN
    replace HX := Lib.hid (hN.recV HX.out)
    replace HS := Lib.hid (hN.pairs HS.out)
    replace HD := Lib.hid (hN.rd HD.out)
    clear r1 hN
    have c0 : W0.cell? ⟨w.heap.size, 0, none⟩ = some (.int .i64 x.kind) := R1.out.cell (by omega)
    rw [hk] at c0
    go_upto_region 9 with fail
    clear c0
    obtain ⟨q1_9, Q1_9⟩ : ∃ bq_, ((!(inR x.part 0 3)) || (!(inR x.epoch 0 400))) = bq_ := ⟨_, rfl⟩
    refine wp_region_steps0 NewT [SV.eq (.pointer (some ⟨w.heap.size, 8, none⟩)), SV.eq (.int .i64 (x.part)), SV.eq (.bool (inR x.part 0 3)), SV.eq (.bool (!(inR x.part 0 3))), SV.eq (.bool (!(inR x.part 0 3))), svIf ((!(!(inR x.part 0 3)))) (SV.eq (.pointer (some ⟨w.heap.size, 9, none⟩))), svIf ((!(!(inR x.part 0 3)))) (SV.eq (.int .i64 (x.epoch))), svIf ((!(!(inR x.part 0 3)))) (SV.eq (.bool (inR x.epoch 0 400))), svIf ((!(!(inR x.part 0 3)))) (SV.eq (.bool (!(inR x.epoch 0 400)))), SV.eq (.bool (q1_9))] [([(1, none)], none), ([(30, some 0)], none), ([(31, some 1)], none), ([(32, some 2)], none), ([(33, some 3)], none), ([(1, none), (34, some 4)], some (34, false)), ([(35, some 5), (34, some 4)], some (34, false)), ([(36, some 6), (34, some 4)], some (34, false)), ([(37, some 7), (34, some 4)], some (34, false)), ([(34, some 4), (38, some 8)], none)] 79 10 rfl rfl (by kernel_rfl) NewT.trans (NewT.refl _) (Nat.le_of_ble_eq_true rfl) ⟨?_, ?_, ?_, ?_, ?_, ?_, ?_, ?_, ?_, ?_, trivial⟩ ?_
    · exact fun a wx hT hF K hK => rely_wp rfl (opr_fldR (by decide) rfl hF.1 (hK _ _ (NewT.refl _) rfl))
    · exact fun a wx hT hF K hK => rely_wp rfl (opr_ldI (hT.row R1.out) (by decide) rfl rfl hF.1 (hK _ _ (NewT.refl _) rfl))
    · exact fun a wx hT hF K hK => rely_wp rfl (opr_cv (isPart_cv x.part wx) rfl Tryd.func58 (by kernel_rfl) (by kernel_rfl) (evs1 hF.1) hK)
    · exact fun a wx hT hF K hK => rely_wp rfl (opr_not rfl hF.1 (hK _ _ (NewT.refl _) rfl))
    · exact fun a wx hT hF K hK => rely_wp rfl (opr_move (.inl rfl) (hK _ _ (NewT.refl _) hF.1))
    · exact fun a wx hT hF K hK => rely_if (rely_gf hF.2.1) (NewT.refl _) hK fun hE hK => opr_fldR (by decide) rfl hF.1 (hK _ _ (NewT.refl _) rfl)
    · exact fun a wx hT hF K hK => rely_if (rely_gf hF.2.1) (NewT.refl _) hK fun hE hK => opr_ldI (hT.row R1.out) (by decide) rfl rfl (hF.1 hE) (hK _ _ (NewT.refl _) rfl)
    · exact fun a wx hT hF K hK => rely_if (rely_gf hF.2.1) (NewT.refl _) hK fun hE hK => opr_cv (within_cv x.epoch 0 400 wx) rfl Tryd.func59 (by kernel_rfl) (by kernel_rfl) (evs3 (hF.1 hE) rfl rfl) hK
    · exact fun a wx hT hF K hK => rely_if (rely_gf hF.2.1) (NewT.refl _) hK fun hE hK => opr_not rfl (hF.1 hE) (hK _ _ (NewT.refl _) rfl)
    · exact fun a wx hT hF K hK => rely_wp rfl (opr_pick_b rfl hF.1 (fun hb => hK _ _ (NewT.refl _) (pn_or1 Q1_9 hb)) (fun hb => hK _ _ (NewT.refl _) (pn_or0 Q1_9 (hF.2.1 (bnot hb)) hb)))
    · intro w9 h9
      iterate 5 (intro u h; obtain rfl := Eq.symm (h (by simp)); clear h)
      iterate 4 (intro _ _)
      intro u h; obtain rfl := Eq.symm (h (by simp)); clear h
      subst Q1_9
      refine relyEnd_nil rfl ?_
      refine wpList_end rfl ?_
      simp only [Act.put, List.setIfInBounds_toArray, List.set_cons_zero, List.set_cons_succ]
      go_simp
      cases hb : ((!inR x.part 0 3) || !inR x.epoch 0 400)
      · go_upto_region 11 with fail
        obtain ⟨q1_11, Q1_11⟩ : ∃ bq_, ((inR x.saga 0 11) && (inR x.seq 1 400)) = bq_ := ⟨_, rfl⟩
        obtain ⟨q2_11, Q2_11⟩ : ∃ bq_, ((q1_11 && (inR x.step 0 5)) && (inR x.tr 1 9)) = bq_ := ⟨_, rfl⟩
        refine wp_region_steps0 NewT [SV.eq (.pointer (some ⟨w.heap.size, 1, none⟩)), SV.eq (.int .i64 (x.saga)), SV.eq (.bool (inR x.saga 0 11)), SV.eq (.bool (inR x.saga 0 11)), svIf (inR x.saga 0 11) (SV.eq (.pointer (some ⟨w.heap.size, 2, none⟩))), svIf (inR x.saga 0 11) (SV.eq (.int .i64 (x.seq))), svIf (inR x.saga 0 11) (SV.eq (.bool (inR x.seq 1 400))), SV.eq (.bool (q1_11)), SV.eq (.bool (q1_11)), svIf q1_11 (SV.eq (.pointer (some ⟨w.heap.size, 3, none⟩))), svIf q1_11 (SV.eq (.int .i64 (x.step))), svIf q1_11 (SV.eq (.bool (inR x.step 0 5))), SV.eq (.bool (q1_11 && (inR x.step 0 5))), SV.eq (.bool (q1_11 && (inR x.step 0 5))), svIf (q1_11 && (inR x.step 0 5)) (SV.eq (.pointer (some ⟨w.heap.size, 4, none⟩))), svIf (q1_11 && (inR x.step 0 5)) (SV.eq (.int .i64 (x.tr))), svIf (q1_11 && (inR x.step 0 5)) (SV.eq (.bool (inR x.tr 1 9))), SV.eq (.bool (q2_11)), SV.eq (.bool (q2_11))] [([(1, none)], none), ([(40, some 0)], none), ([(41, some 1)], none), ([(42, some 2)], none), ([(1, none), (43, some 3)], some (43, true)), ([(44, some 4), (43, some 3)], some (43, true)), ([(45, some 5), (43, some 3)], some (43, true)), ([(43, some 3), (46, some 6)], none), ([(47, some 7)], none), ([(1, none), (48, some 8)], some (48, true)), ([(49, some 9), (48, some 8)], some (48, true)), ([(50, some 10), (48, some 8)], some (48, true)), ([(48, some 8), (51, some 11)], none), ([(52, some 12)], none), ([(1, none), (53, some 13)], some (53, true)), ([(54, some 14), (53, some 13)], some (53, true)), ([(55, some 15), (53, some 13)], some (53, true)), ([(53, some 13), (56, some 16)], none), ([(57, some 17)], none)] 79 19 rfl rfl (by kernel_rfl) NewT.trans (NewT.refl _) (Nat.le_of_ble_eq_true rfl) ⟨?_, ?_, ?_, ?_, ?_, ?_, ?_, ?_, ?_, ?_, ?_, ?_, ?_, ?_, ?_, ?_, ?_, ?_, ?_, trivial⟩ ?_
        · exact fun a wx hT hF K hK => rely_wp rfl (opr_fldR (by decide) rfl hF.1 (hK _ _ (NewT.refl _) rfl))
        · exact fun a wx hT hF K hK => rely_wp rfl (opr_ldI (hT.row (NewT.row h9 R1.out)) (by decide) rfl rfl hF.1 (hK _ _ (NewT.refl _) rfl))
        · exact fun a wx hT hF K hK => rely_wp rfl (opr_cv (isSaga_cv x.saga wx) rfl Tryd.func56 (by kernel_rfl) (by kernel_rfl) (evs1 hF.1) hK)
        · exact fun a wx hT hF K hK => rely_wp rfl (opr_move (.inl rfl) (hK _ _ (NewT.refl _) hF.1))
        · exact fun a wx hT hF K hK => rely_if (rely_gt hF.2.1) (NewT.refl _) hK fun hE hK => opr_fldR (by decide) rfl hF.1 (hK _ _ (NewT.refl _) rfl)
        · exact fun a wx hT hF K hK => rely_if (rely_gt hF.2.1) (NewT.refl _) hK fun hE hK => opr_ldI (hT.row (NewT.row h9 R1.out)) (by decide) rfl rfl (hF.1 hE) (hK _ _ (NewT.refl _) rfl)
        · exact fun a wx hT hF K hK => rely_if (rely_gt hF.2.1) (NewT.refl _) hK fun hE hK => opr_cv (isSeq_cv x.seq wx) rfl Tryd.func60 (by kernel_rfl) (by kernel_rfl) (evs1 (hF.1 hE)) hK
        · exact fun a wx hT hF K hK => rely_wp rfl (opr_pick_b rfl hF.1 (fun hb => hK _ _ (NewT.refl _) (pn_and1 Q1_11 (hF.2.1 hb) hb)) (fun hb => hK _ _ (NewT.refl _) (pn_and0 Q1_11 hb)))
        · exact fun a wx hT hF K hK => rely_wp rfl (opr_move (.inl rfl) (hK _ _ (NewT.refl _) hF.1))
        · exact fun a wx hT hF K hK => rely_if (rely_gt hF.2.1) (NewT.refl _) hK fun hE hK => opr_fldR (by decide) rfl hF.1 (hK _ _ (NewT.refl _) rfl)
        · exact fun a wx hT hF K hK => rely_if (rely_gt hF.2.1) (NewT.refl _) hK fun hE hK => opr_ldI (hT.row (NewT.row h9 R1.out)) (by decide) rfl rfl (hF.1 hE) (hK _ _ (NewT.refl _) rfl)
        · exact fun a wx hT hF K hK => rely_if (rely_gt hF.2.1) (NewT.refl _) hK fun hE hK => opr_cv (within_cv x.step 0 5 wx) rfl Tryd.func59 (by kernel_rfl) (by kernel_rfl) (evs3 (hF.1 hE) rfl rfl) hK
        · exact fun a wx hT hF K hK => rely_wp rfl (opr_pick_b rfl hF.1 (fun hb => hK _ _ (NewT.refl _) (pk_and1 (hF.2.1 hb) hb)) (fun hb => hK _ _ (NewT.refl _) (pk_and0 hb)))
        · exact fun a wx hT hF K hK => rely_wp rfl (opr_move (.inl rfl) (hK _ _ (NewT.refl _) hF.1))
        · exact fun a wx hT hF K hK => rely_if (rely_gt hF.2.1) (NewT.refl _) hK fun hE hK => opr_fldR (by decide) rfl hF.1 (hK _ _ (NewT.refl _) rfl)
        · exact fun a wx hT hF K hK => rely_if (rely_gt hF.2.1) (NewT.refl _) hK fun hE hK => opr_ldI (hT.row (NewT.row h9 R1.out)) (by decide) rfl rfl (hF.1 hE) (hK _ _ (NewT.refl _) rfl)
        · exact fun a wx hT hF K hK => rely_if (rely_gt hF.2.1) (NewT.refl _) hK fun hE hK => opr_cv (within_cv x.tr 1 9 wx) rfl Tryd.func59 (by kernel_rfl) (by kernel_rfl) (evs3 (hF.1 hE) rfl rfl) hK
        · exact fun a wx hT hF K hK => rely_wp rfl (opr_pick_b rfl hF.1 (fun hb => hK _ _ (NewT.refl _) (pn_and1 Q2_11 (hF.2.1 hb) hb)) (fun hb => hK _ _ (NewT.refl _) (pn_and0 Q2_11 hb)))
        · exact fun a wx hT hF K hK => rely_wp rfl (opr_move (.inr rfl) (hK _ _ (NewT.refl _) hF.1))
        · intro wx hT
          iterate 4 (intro u h; obtain rfl := Eq.symm (h (by simp)); clear h)
          iterate 3 (intro _ _)
          iterate 2 (intro u h; obtain rfl := Eq.symm (h (by simp)); clear h)
          iterate 3 (intro _ _)
          iterate 2 (intro u h; obtain rfl := Eq.symm (h (by simp)); clear h)
          iterate 3 (intro _ _)
          iterate 2 (intro u h; obtain rfl := Eq.symm (h (by simp)); clear h)
          subst Q2_11 Q1_11
          refine relyEnd_nil rfl ?_
          refine wpList_end rfl ?_
          simp only [Act.put, List.setIfInBounds_toArray, List.set_cons_zero, List.set_cons_succ]
          go_simp
          go_wp2
          go_ret
          exact ⟨_, rfl, NewT.trans _ _ _ HN.out (NewT.trans _ _ _ h9 hT), rfl⟩
      · go_wp2
        go_ret
        exact ⟨_, rfl, NewT.trans _ _ _ HN.out h9, rfl⟩
  have k3 := hk
  clear hk
  by_cases hk : x.kind = 2
  · have hI : inRg x = (((inR x.saga 0 11 && inR x.seq 1 400) && inR x.step 0 5) && inR x.tr 1 9) := by unfold inRg; simp only [hk]; simp
    rw [hI]
    clear hI
    go_enter Tryd.func46, Tryd.ntmps46
    go_upto_region 1 with fail
    have r1 := rowIs_box w 51 109 (recF x sv dv)
    have hN := NewT.alloc w (.cells (rowA 109 (recF x sv dv)) 51)
    change Code.wp _ _ _ _ (w.alloc (.cells (rowA 109 (recF x sv dv)) 51))
    generalize w.alloc (.cells (rowA 109 (recF x sv dv)) 51) = W0 at r1 hN ⊢
    have R1 := Lib.hid r1
    have HN := Lib.hid hN
    replace HX := Lib.hid (hN.recV HX.out)
    replace HS := Lib.hid (hN.pairs HS.out)
    replace HD := Lib.hid (hN.rd HD.out)
    clear r1 hN
    have c0 : W0.cell? ⟨w.heap.size, 0, none⟩ = some (.int .i64 x.kind) := R1.out.cell (by omega)
    rw [hk] at c0
    go_upto_region 11 with fail
    clear c0
    obtain ⟨q1_11, Q1_11⟩ : ∃ bq_, ((inR x.saga 0 11) && (inR x.seq 1 400)) = bq_ := ⟨_, rfl⟩
    obtain ⟨q2_11, Q2_11⟩ : ∃ bq_, ((q1_11 && (inR x.step 0 5)) && (inR x.tr 1 9)) = bq_ := ⟨_, rfl⟩
    refine wp_region_steps0 NewT [SV.eq (.pointer (some ⟨w.heap.size, 1, none⟩)), SV.eq (.int .i64 (x.saga)), SV.eq (.bool (inR x.saga 0 11)), SV.eq (.bool (inR x.saga 0 11)), svIf (inR x.saga 0 11) (SV.eq (.pointer (some ⟨w.heap.size, 2, none⟩))), svIf (inR x.saga 0 11) (SV.eq (.int .i64 (x.seq))), svIf (inR x.saga 0 11) (SV.eq (.bool (inR x.seq 1 400))), SV.eq (.bool (q1_11)), SV.eq (.bool (q1_11)), svIf q1_11 (SV.eq (.pointer (some ⟨w.heap.size, 3, none⟩))), svIf q1_11 (SV.eq (.int .i64 (x.step))), svIf q1_11 (SV.eq (.bool (inR x.step 0 5))), SV.eq (.bool (q1_11 && (inR x.step 0 5))), SV.eq (.bool (q1_11 && (inR x.step 0 5))), svIf (q1_11 && (inR x.step 0 5)) (SV.eq (.pointer (some ⟨w.heap.size, 4, none⟩))), svIf (q1_11 && (inR x.step 0 5)) (SV.eq (.int .i64 (x.tr))), svIf (q1_11 && (inR x.step 0 5)) (SV.eq (.bool (inR x.tr 1 9))), SV.eq (.bool (q2_11)), SV.eq (.bool (q2_11))] [([(1, none)], none), ([(40, some 0)], none), ([(41, some 1)], none), ([(42, some 2)], none), ([(1, none), (43, some 3)], some (43, true)), ([(44, some 4), (43, some 3)], some (43, true)), ([(45, some 5), (43, some 3)], some (43, true)), ([(43, some 3), (46, some 6)], none), ([(47, some 7)], none), ([(1, none), (48, some 8)], some (48, true)), ([(49, some 9), (48, some 8)], some (48, true)), ([(50, some 10), (48, some 8)], some (48, true)), ([(48, some 8), (51, some 11)], none), ([(52, some 12)], none), ([(1, none), (53, some 13)], some (53, true)), ([(54, some 14), (53, some 13)], some (53, true)), ([(55, some 15), (53, some 13)], some (53, true)), ([(53, some 13), (56, some 16)], none), ([(57, some 17)], none)] 79 19 rfl rfl (by kernel_rfl) NewT.trans (NewT.refl _) (Nat.le_of_ble_eq_true rfl) ⟨?_, ?_, ?_, ?_, ?_, ?_, ?_, ?_, ?_, ?_, ?_, ?_, ?_, ?_, ?_, ?_, ?_, ?_, ?_, trivial⟩ ?_
    · exact fun a wx hT hF K hK => rely_wp rfl (opr_fldR (by decide) rfl hF.1 (hK _ _ (NewT.refl _) rfl))
    · exact fun a wx hT hF K hK => rely_wp rfl (opr_ldI (hT.row R1.out) (by decide) rfl rfl hF.1 (hK _ _ (NewT.refl _) rfl))
    · exact fun a wx hT hF K hK => rely_wp rfl (opr_cv (isSaga_cv x.saga wx) rfl Tryd.func56 (by kernel_rfl) (by kernel_rfl) (evs1 hF.1) hK)
    · exact fun a wx hT hF K hK => rely_wp rfl (opr_move (.inl rfl) (hK _ _ (NewT.refl _) hF.1))
    · exact fun a wx hT hF K hK => rely_if (rely_gt hF.2.1) (NewT.refl _) hK fun hE hK => opr_fldR (by decide) rfl hF.1 (hK _ _ (NewT.refl _) rfl)
    · exact fun a wx hT hF K hK => rely_if (rely_gt hF.2.1) (NewT.refl _) hK fun hE hK => opr_ldI (hT.row R1.out) (by decide) rfl rfl (hF.1 hE) (hK _ _ (NewT.refl _) rfl)
    · exact fun a wx hT hF K hK => rely_if (rely_gt hF.2.1) (NewT.refl _) hK fun hE hK => opr_cv (isSeq_cv x.seq wx) rfl Tryd.func60 (by kernel_rfl) (by kernel_rfl) (evs1 (hF.1 hE)) hK
    · exact fun a wx hT hF K hK => rely_wp rfl (opr_pick_b rfl hF.1 (fun hb => hK _ _ (NewT.refl _) (pn_and1 Q1_11 (hF.2.1 hb) hb)) (fun hb => hK _ _ (NewT.refl _) (pn_and0 Q1_11 hb)))
    · exact fun a wx hT hF K hK => rely_wp rfl (opr_move (.inl rfl) (hK _ _ (NewT.refl _) hF.1))
    · exact fun a wx hT hF K hK => rely_if (rely_gt hF.2.1) (NewT.refl _) hK fun hE hK => opr_fldR (by decide) rfl hF.1 (hK _ _ (NewT.refl _) rfl)
    · exact fun a wx hT hF K hK => rely_if (rely_gt hF.2.1) (NewT.refl _) hK fun hE hK => opr_ldI (hT.row R1.out) (by decide) rfl rfl (hF.1 hE) (hK _ _ (NewT.refl _) rfl)
    · exact fun a wx hT hF K hK => rely_if (rely_gt hF.2.1) (NewT.refl _) hK fun hE hK => opr_cv (within_cv x.step 0 5 wx) rfl Tryd.func59 (by kernel_rfl) (by kernel_rfl) (evs3 (hF.1 hE) rfl rfl) hK
    · exact fun a wx hT hF K hK => rely_wp rfl (opr_pick_b rfl hF.1 (fun hb => hK _ _ (NewT.refl _) (pk_and1 (hF.2.1 hb) hb)) (fun hb => hK _ _ (NewT.refl _) (pk_and0 hb)))
    · exact fun a wx hT hF K hK => rely_wp rfl (opr_move (.inl rfl) (hK _ _ (NewT.refl _) hF.1))
    · exact fun a wx hT hF K hK => rely_if (rely_gt hF.2.1) (NewT.refl _) hK fun hE hK => opr_fldR (by decide) rfl hF.1 (hK _ _ (NewT.refl _) rfl)
    · exact fun a wx hT hF K hK => rely_if (rely_gt hF.2.1) (NewT.refl _) hK fun hE hK => opr_ldI (hT.row R1.out) (by decide) rfl rfl (hF.1 hE) (hK _ _ (NewT.refl _) rfl)
    · exact fun a wx hT hF K hK => rely_if (rely_gt hF.2.1) (NewT.refl _) hK fun hE hK => opr_cv (within_cv x.tr 1 9 wx) rfl Tryd.func59 (by kernel_rfl) (by kernel_rfl) (evs3 (hF.1 hE) rfl rfl) hK
    · exact fun a wx hT hF K hK => rely_wp rfl (opr_pick_b rfl hF.1 (fun hb => hK _ _ (NewT.refl _) (pn_and1 Q2_11 (hF.2.1 hb) hb)) (fun hb => hK _ _ (NewT.refl _) (pn_and0 Q2_11 hb)))
    · exact fun a wx hT hF K hK => rely_wp rfl (opr_move (.inr rfl) (hK _ _ (NewT.refl _) hF.1))
    · intro wx hT
      iterate 4 (intro u h; obtain rfl := Eq.symm (h (by simp)); clear h)
      iterate 3 (intro _ _)
      iterate 2 (intro u h; obtain rfl := Eq.symm (h (by simp)); clear h)
      iterate 3 (intro _ _)
      iterate 2 (intro u h; obtain rfl := Eq.symm (h (by simp)); clear h)
      iterate 3 (intro _ _)
      iterate 2 (intro u h; obtain rfl := Eq.symm (h (by simp)); clear h)
      subst Q2_11 Q1_11
      refine relyEnd_nil rfl ?_
      refine wpList_end rfl ?_
      simp only [Act.put, List.setIfInBounds_toArray, List.set_cons_zero, List.set_cons_succ]
      go_simp
      go_wp2
      go_ret
      exact ⟨_, rfl, NewT.trans _ _ _ HN.out hT, rfl⟩
  have k2 := hk
  clear hk
  by_cases hk : x.kind = 4
  · have hI : inRg x = (((inR x.saga 0 11 && inR x.seq 1 400) && inR x.step 0 5) && inR x.tr 1 9) := by unfold inRg; simp only [hk]; simp
    rw [hI]
    clear hI
    go_enter Tryd.func46, Tryd.ntmps46
    go_upto_region 1 with fail
    have r1 := rowIs_box w 51 109 (recF x sv dv)
    have hN := NewT.alloc w (.cells (rowA 109 (recF x sv dv)) 51)
    change Code.wp _ _ _ _ (w.alloc (.cells (rowA 109 (recF x sv dv)) 51))
    generalize w.alloc (.cells (rowA 109 (recF x sv dv)) 51) = W0 at r1 hN ⊢
    have R1 := Lib.hid r1
    have HN := Lib.hid hN
    replace HX := Lib.hid (hN.recV HX.out)
    replace HS := Lib.hid (hN.pairs HS.out)
    replace HD := Lib.hid (hN.rd HD.out)
    clear r1 hN
    have c0 : W0.cell? ⟨w.heap.size, 0, none⟩ = some (.int .i64 x.kind) := R1.out.cell (by omega)
    rw [hk] at c0
    go_upto_region 11 with fail
    clear c0
    obtain ⟨q1_11, Q1_11⟩ : ∃ bq_, ((inR x.saga 0 11) && (inR x.seq 1 400)) = bq_ := ⟨_, rfl⟩
    obtain ⟨q2_11, Q2_11⟩ : ∃ bq_, ((q1_11 && (inR x.step 0 5)) && (inR x.tr 1 9)) = bq_ := ⟨_, rfl⟩
    refine wp_region_steps0 NewT [SV.eq (.pointer (some ⟨w.heap.size, 1, none⟩)), SV.eq (.int .i64 (x.saga)), SV.eq (.bool (inR x.saga 0 11)), SV.eq (.bool (inR x.saga 0 11)), svIf (inR x.saga 0 11) (SV.eq (.pointer (some ⟨w.heap.size, 2, none⟩))), svIf (inR x.saga 0 11) (SV.eq (.int .i64 (x.seq))), svIf (inR x.saga 0 11) (SV.eq (.bool (inR x.seq 1 400))), SV.eq (.bool (q1_11)), SV.eq (.bool (q1_11)), svIf q1_11 (SV.eq (.pointer (some ⟨w.heap.size, 3, none⟩))), svIf q1_11 (SV.eq (.int .i64 (x.step))), svIf q1_11 (SV.eq (.bool (inR x.step 0 5))), SV.eq (.bool (q1_11 && (inR x.step 0 5))), SV.eq (.bool (q1_11 && (inR x.step 0 5))), svIf (q1_11 && (inR x.step 0 5)) (SV.eq (.pointer (some ⟨w.heap.size, 4, none⟩))), svIf (q1_11 && (inR x.step 0 5)) (SV.eq (.int .i64 (x.tr))), svIf (q1_11 && (inR x.step 0 5)) (SV.eq (.bool (inR x.tr 1 9))), SV.eq (.bool (q2_11)), SV.eq (.bool (q2_11))] [([(1, none)], none), ([(40, some 0)], none), ([(41, some 1)], none), ([(42, some 2)], none), ([(1, none), (43, some 3)], some (43, true)), ([(44, some 4), (43, some 3)], some (43, true)), ([(45, some 5), (43, some 3)], some (43, true)), ([(43, some 3), (46, some 6)], none), ([(47, some 7)], none), ([(1, none), (48, some 8)], some (48, true)), ([(49, some 9), (48, some 8)], some (48, true)), ([(50, some 10), (48, some 8)], some (48, true)), ([(48, some 8), (51, some 11)], none), ([(52, some 12)], none), ([(1, none), (53, some 13)], some (53, true)), ([(54, some 14), (53, some 13)], some (53, true)), ([(55, some 15), (53, some 13)], some (53, true)), ([(53, some 13), (56, some 16)], none), ([(57, some 17)], none)] 79 19 rfl rfl (by kernel_rfl) NewT.trans (NewT.refl _) (Nat.le_of_ble_eq_true rfl) ⟨?_, ?_, ?_, ?_, ?_, ?_, ?_, ?_, ?_, ?_, ?_, ?_, ?_, ?_, ?_, ?_, ?_, ?_, ?_, trivial⟩ ?_
    · exact fun a wx hT hF K hK => rely_wp rfl (opr_fldR (by decide) rfl hF.1 (hK _ _ (NewT.refl _) rfl))
    · exact fun a wx hT hF K hK => rely_wp rfl (opr_ldI (hT.row R1.out) (by decide) rfl rfl hF.1 (hK _ _ (NewT.refl _) rfl))
    · exact fun a wx hT hF K hK => rely_wp rfl (opr_cv (isSaga_cv x.saga wx) rfl Tryd.func56 (by kernel_rfl) (by kernel_rfl) (evs1 hF.1) hK)
    · exact fun a wx hT hF K hK => rely_wp rfl (opr_move (.inl rfl) (hK _ _ (NewT.refl _) hF.1))
    · exact fun a wx hT hF K hK => rely_if (rely_gt hF.2.1) (NewT.refl _) hK fun hE hK => opr_fldR (by decide) rfl hF.1 (hK _ _ (NewT.refl _) rfl)
    · exact fun a wx hT hF K hK => rely_if (rely_gt hF.2.1) (NewT.refl _) hK fun hE hK => opr_ldI (hT.row R1.out) (by decide) rfl rfl (hF.1 hE) (hK _ _ (NewT.refl _) rfl)
    · exact fun a wx hT hF K hK => rely_if (rely_gt hF.2.1) (NewT.refl _) hK fun hE hK => opr_cv (isSeq_cv x.seq wx) rfl Tryd.func60 (by kernel_rfl) (by kernel_rfl) (evs1 (hF.1 hE)) hK
    · exact fun a wx hT hF K hK => rely_wp rfl (opr_pick_b rfl hF.1 (fun hb => hK _ _ (NewT.refl _) (pn_and1 Q1_11 (hF.2.1 hb) hb)) (fun hb => hK _ _ (NewT.refl _) (pn_and0 Q1_11 hb)))
    · exact fun a wx hT hF K hK => rely_wp rfl (opr_move (.inl rfl) (hK _ _ (NewT.refl _) hF.1))
    · exact fun a wx hT hF K hK => rely_if (rely_gt hF.2.1) (NewT.refl _) hK fun hE hK => opr_fldR (by decide) rfl hF.1 (hK _ _ (NewT.refl _) rfl)
    · exact fun a wx hT hF K hK => rely_if (rely_gt hF.2.1) (NewT.refl _) hK fun hE hK => opr_ldI (hT.row R1.out) (by decide) rfl rfl (hF.1 hE) (hK _ _ (NewT.refl _) rfl)
    · exact fun a wx hT hF K hK => rely_if (rely_gt hF.2.1) (NewT.refl _) hK fun hE hK => opr_cv (within_cv x.step 0 5 wx) rfl Tryd.func59 (by kernel_rfl) (by kernel_rfl) (evs3 (hF.1 hE) rfl rfl) hK
    · exact fun a wx hT hF K hK => rely_wp rfl (opr_pick_b rfl hF.1 (fun hb => hK _ _ (NewT.refl _) (pk_and1 (hF.2.1 hb) hb)) (fun hb => hK _ _ (NewT.refl _) (pk_and0 hb)))
    · exact fun a wx hT hF K hK => rely_wp rfl (opr_move (.inl rfl) (hK _ _ (NewT.refl _) hF.1))
    · exact fun a wx hT hF K hK => rely_if (rely_gt hF.2.1) (NewT.refl _) hK fun hE hK => opr_fldR (by decide) rfl hF.1 (hK _ _ (NewT.refl _) rfl)
    · exact fun a wx hT hF K hK => rely_if (rely_gt hF.2.1) (NewT.refl _) hK fun hE hK => opr_ldI (hT.row R1.out) (by decide) rfl rfl (hF.1 hE) (hK _ _ (NewT.refl _) rfl)
    · exact fun a wx hT hF K hK => rely_if (rely_gt hF.2.1) (NewT.refl _) hK fun hE hK => opr_cv (within_cv x.tr 1 9 wx) rfl Tryd.func59 (by kernel_rfl) (by kernel_rfl) (evs3 (hF.1 hE) rfl rfl) hK
    · exact fun a wx hT hF K hK => rely_wp rfl (opr_pick_b rfl hF.1 (fun hb => hK _ _ (NewT.refl _) (pn_and1 Q2_11 (hF.2.1 hb) hb)) (fun hb => hK _ _ (NewT.refl _) (pn_and0 Q2_11 hb)))
    · exact fun a wx hT hF K hK => rely_wp rfl (opr_move (.inr rfl) (hK _ _ (NewT.refl _) hF.1))
    · intro wx hT
      iterate 4 (intro u h; obtain rfl := Eq.symm (h (by simp)); clear h)
      iterate 3 (intro _ _)
      iterate 2 (intro u h; obtain rfl := Eq.symm (h (by simp)); clear h)
      iterate 3 (intro _ _)
      iterate 2 (intro u h; obtain rfl := Eq.symm (h (by simp)); clear h)
      iterate 3 (intro _ _)
      iterate 2 (intro u h; obtain rfl := Eq.symm (h (by simp)); clear h)
      subst Q2_11 Q1_11
      refine relyEnd_nil rfl ?_
      refine wpList_end rfl ?_
      simp only [Act.put, List.setIfInBounds_toArray, List.set_cons_zero, List.set_cons_succ]
      go_simp
      go_wp2
      go_ret
      exact ⟨_, rfl, NewT.trans _ _ _ HN.out hT, rfl⟩
  have k4 := hk
  clear hk
  by_cases hk : x.kind = 5
  · have hI : inRg x = ((inR x.saga 0 11 && inR x.seq 1 400) && inR x.nd 2 4) := by unfold inRg; simp only [hk]; simp
    rw [hI]
    clear hI
    go_enter Tryd.func46, Tryd.ntmps46
    go_upto_region 1 with fail
    have r1 := rowIs_box w 51 109 (recF x sv dv)
    have hN := NewT.alloc w (.cells (rowA 109 (recF x sv dv)) 51)
    change Code.wp _ _ _ _ (w.alloc (.cells (rowA 109 (recF x sv dv)) 51))
    generalize w.alloc (.cells (rowA 109 (recF x sv dv)) 51) = W0 at r1 hN ⊢
    have R1 := Lib.hid r1
    have HN := Lib.hid hN
    replace HX := Lib.hid (hN.recV HX.out)
    replace HS := Lib.hid (hN.pairs HS.out)
    replace HD := Lib.hid (hN.rd HD.out)
    clear r1 hN
    have c0 : W0.cell? ⟨w.heap.size, 0, none⟩ = some (.int .i64 x.kind) := R1.out.cell (by omega)
    rw [hk] at c0
    go_upto_region 12 with fail
    clear c0
    obtain ⟨q1_12, Q1_12⟩ : ∃ bq_, ((inR x.saga 0 11) && (inR x.seq 1 400)) = bq_ := ⟨_, rfl⟩
    refine wp_region_steps0 NewT [SV.eq (.pointer (some ⟨w.heap.size, 1, none⟩)), SV.eq (.int .i64 (x.saga)), SV.eq (.bool (inR x.saga 0 11)), SV.eq (.bool (inR x.saga 0 11)), svIf (inR x.saga 0 11) (SV.eq (.pointer (some ⟨w.heap.size, 2, none⟩))), svIf (inR x.saga 0 11) (SV.eq (.int .i64 (x.seq))), svIf (inR x.saga 0 11) (SV.eq (.bool (inR x.seq 1 400))), SV.eq (.bool (q1_12)), SV.eq (.bool (q1_12)), svIf q1_12 (SV.eq (.pointer (some ⟨w.heap.size, 7, none⟩))), svIf q1_12 (SV.eq (.int .i64 (x.nd))), svIf q1_12 (SV.eq (.bool (inR x.nd 2 4))), SV.eq (.bool (q1_12 && (inR x.nd 2 4))), SV.eq (.bool (q1_12 && (inR x.nd 2 4)))] [([(1, none)], none), ([(58, some 0)], none), ([(59, some 1)], none), ([(60, some 2)], none), ([(1, none), (61, some 3)], some (61, true)), ([(62, some 4), (61, some 3)], some (61, true)), ([(63, some 5), (61, some 3)], some (61, true)), ([(61, some 3), (64, some 6)], none), ([(65, some 7)], none), ([(1, none), (66, some 8)], some (66, true)), ([(67, some 9), (66, some 8)], some (66, true)), ([(68, some 10), (66, some 8)], some (66, true)), ([(66, some 8), (69, some 11)], none), ([(70, some 12)], none)] 79 14 rfl rfl (by kernel_rfl) NewT.trans (NewT.refl _) (Nat.le_of_ble_eq_true rfl) ⟨?_, ?_, ?_, ?_, ?_, ?_, ?_, ?_, ?_, ?_, ?_, ?_, ?_, ?_, trivial⟩ ?_
    · exact fun a wx hT hF K hK => rely_wp rfl (opr_fldR (by decide) rfl hF.1 (hK _ _ (NewT.refl _) rfl))
    · exact fun a wx hT hF K hK => rely_wp rfl (opr_ldI (hT.row R1.out) (by decide) rfl rfl hF.1 (hK _ _ (NewT.refl _) rfl))
    · exact fun a wx hT hF K hK => rely_wp rfl (opr_cv (isSaga_cv x.saga wx) rfl Tryd.func56 (by kernel_rfl) (by kernel_rfl) (evs1 hF.1) hK)
    · exact fun a wx hT hF K hK => rely_wp rfl (opr_move (.inl rfl) (hK _ _ (NewT.refl _) hF.1))
    · exact fun a wx hT hF K hK => rely_if (rely_gt hF.2.1) (NewT.refl _) hK fun hE hK => opr_fldR (by decide) rfl hF.1 (hK _ _ (NewT.refl _) rfl)
    · exact fun a wx hT hF K hK => rely_if (rely_gt hF.2.1) (NewT.refl _) hK fun hE hK => opr_ldI (hT.row R1.out) (by decide) rfl rfl (hF.1 hE) (hK _ _ (NewT.refl _) rfl)
    · exact fun a wx hT hF K hK => rely_if (rely_gt hF.2.1) (NewT.refl _) hK fun hE hK => opr_cv (isSeq_cv x.seq wx) rfl Tryd.func60 (by kernel_rfl) (by kernel_rfl) (evs1 (hF.1 hE)) hK
    · exact fun a wx hT hF K hK => rely_wp rfl (opr_pick_b rfl hF.1 (fun hb => hK _ _ (NewT.refl _) (pn_and1 Q1_12 (hF.2.1 hb) hb)) (fun hb => hK _ _ (NewT.refl _) (pn_and0 Q1_12 hb)))
    · exact fun a wx hT hF K hK => rely_wp rfl (opr_move (.inl rfl) (hK _ _ (NewT.refl _) hF.1))
    · exact fun a wx hT hF K hK => rely_if (rely_gt hF.2.1) (NewT.refl _) hK fun hE hK => opr_fldR (by decide) rfl hF.1 (hK _ _ (NewT.refl _) rfl)
    · exact fun a wx hT hF K hK => rely_if (rely_gt hF.2.1) (NewT.refl _) hK fun hE hK => opr_ldI (hT.row R1.out) (by decide) rfl rfl (hF.1 hE) (hK _ _ (NewT.refl _) rfl)
    · exact fun a wx hT hF K hK => rely_if (rely_gt hF.2.1) (NewT.refl _) hK fun hE hK => opr_cv (within_cv x.nd 2 4 wx) rfl Tryd.func59 (by kernel_rfl) (by kernel_rfl) (evs3 (hF.1 hE) rfl rfl) hK
    · exact fun a wx hT hF K hK => rely_wp rfl (opr_pick_b rfl hF.1 (fun hb => hK _ _ (NewT.refl _) (pk_and1 (hF.2.1 hb) hb)) (fun hb => hK _ _ (NewT.refl _) (pk_and0 hb)))
    · exact fun a wx hT hF K hK => rely_wp rfl (opr_move (.inr rfl) (hK _ _ (NewT.refl _) hF.1))
    · intro wx hT
      iterate 4 (intro u h; obtain rfl := Eq.symm (h (by simp)); clear h)
      iterate 3 (intro _ _)
      iterate 2 (intro u h; obtain rfl := Eq.symm (h (by simp)); clear h)
      iterate 3 (intro _ _)
      iterate 2 (intro u h; obtain rfl := Eq.symm (h (by simp)); clear h)
      subst Q1_12
      refine relyEnd_nil rfl ?_
      refine wpList_end rfl ?_
      simp only [Act.put, List.setIfInBounds_toArray, List.set_cons_zero, List.set_cons_succ]
      go_simp
      go_wp2
      go_ret
      exact ⟨_, rfl, NewT.trans _ _ _ HN.out hT, rfl⟩
  have k5 := hk
  clear hk
  by_cases hk : x.kind = 6
  · have hI : inRg x = (inR x.part 0 3 && inR x.epoch 1 400) := by unfold inRg; simp only [hk]; simp
    rw [hI]
    clear hI
    go_enter Tryd.func46, Tryd.ntmps46
    go_upto_region 1 with fail
    have r1 := rowIs_box w 51 109 (recF x sv dv)
    have hN := NewT.alloc w (.cells (rowA 109 (recF x sv dv)) 51)
    change Code.wp _ _ _ _ (w.alloc (.cells (rowA 109 (recF x sv dv)) 51))
    generalize w.alloc (.cells (rowA 109 (recF x sv dv)) 51) = W0 at r1 hN ⊢
    have R1 := Lib.hid r1
    have HN := Lib.hid hN
    replace HX := Lib.hid (hN.recV HX.out)
    replace HS := Lib.hid (hN.pairs HS.out)
    replace HD := Lib.hid (hN.rd HD.out)
    clear r1 hN
    have c0 : W0.cell? ⟨w.heap.size, 0, none⟩ = some (.int .i64 x.kind) := R1.out.cell (by omega)
    rw [hk] at c0
    go_upto_region 13 with fail
    clear c0
    obtain ⟨q1_13, Q1_13⟩ : ∃ bq_, ((inR x.part 0 3) && (inR x.epoch 1 400)) = bq_ := ⟨_, rfl⟩
    refine wp_region_steps0 NewT [SV.eq (.pointer (some ⟨w.heap.size, 8, none⟩)), SV.eq (.int .i64 (x.part)), SV.eq (.bool (inR x.part 0 3)), SV.eq (.bool (inR x.part 0 3)), svIf (inR x.part 0 3) (SV.eq (.pointer (some ⟨w.heap.size, 9, none⟩))), svIf (inR x.part 0 3) (SV.eq (.int .i64 (x.epoch))), svIf (inR x.part 0 3) (SV.eq (.bool (inR x.epoch 1 400))), SV.eq (.bool (q1_13)), SV.eq (.bool (q1_13))] [([(1, none)], none), ([(71, some 0)], none), ([(72, some 1)], none), ([(73, some 2)], none), ([(1, none), (74, some 3)], some (74, true)), ([(75, some 4), (74, some 3)], some (74, true)), ([(76, some 5), (74, some 3)], some (74, true)), ([(74, some 3), (77, some 6)], none), ([(78, some 7)], none)] 79 9 rfl rfl (by kernel_rfl) NewT.trans (NewT.refl _) (Nat.le_of_ble_eq_true rfl) ⟨?_, ?_, ?_, ?_, ?_, ?_, ?_, ?_, ?_, trivial⟩ ?_
    · exact fun a wx hT hF K hK => rely_wp rfl (opr_fldR (by decide) rfl hF.1 (hK _ _ (NewT.refl _) rfl))
    · exact fun a wx hT hF K hK => rely_wp rfl (opr_ldI (hT.row R1.out) (by decide) rfl rfl hF.1 (hK _ _ (NewT.refl _) rfl))
    · exact fun a wx hT hF K hK => rely_wp rfl (opr_cv (isPart_cv x.part wx) rfl Tryd.func58 (by kernel_rfl) (by kernel_rfl) (evs1 hF.1) hK)
    · exact fun a wx hT hF K hK => rely_wp rfl (opr_move (.inl rfl) (hK _ _ (NewT.refl _) hF.1))
    · exact fun a wx hT hF K hK => rely_if (rely_gt hF.2.1) (NewT.refl _) hK fun hE hK => opr_fldR (by decide) rfl hF.1 (hK _ _ (NewT.refl _) rfl)
    · exact fun a wx hT hF K hK => rely_if (rely_gt hF.2.1) (NewT.refl _) hK fun hE hK => opr_ldI (hT.row R1.out) (by decide) rfl rfl (hF.1 hE) (hK _ _ (NewT.refl _) rfl)
    · exact fun a wx hT hF K hK => rely_if (rely_gt hF.2.1) (NewT.refl _) hK fun hE hK => opr_cv (within_cv x.epoch 1 400 wx) rfl Tryd.func59 (by kernel_rfl) (by kernel_rfl) (evs3 (hF.1 hE) rfl rfl) hK
    · exact fun a wx hT hF K hK => rely_wp rfl (opr_pick_b rfl hF.1 (fun hb => hK _ _ (NewT.refl _) (pn_and1 Q1_13 (hF.2.1 hb) hb)) (fun hb => hK _ _ (NewT.refl _) (pn_and0 Q1_13 hb)))
    · exact fun a wx hT hF K hK => rely_wp rfl (opr_move (.inr rfl) (hK _ _ (NewT.refl _) hF.1))
    · intro wx hT
      iterate 4 (intro u h; obtain rfl := Eq.symm (h (by simp)); clear h)
      iterate 3 (intro _ _)
      iterate 2 (intro u h; obtain rfl := Eq.symm (h (by simp)); clear h)
      subst Q1_13
      refine relyEnd_nil rfl ?_
      refine wpList_end rfl ?_
      simp only [Act.put, List.setIfInBounds_toArray, List.set_cons_zero, List.set_cons_succ]
      go_simp
      go_wp2
      go_ret
      exact ⟨_, rfl, NewT.trans _ _ _ HN.out hT, rfl⟩
  have k6 := hk
  clear hk
  have hI : inRg x = false := by unfold inRg; simp [k1, k2, k3, k4, k5, k6]
  rw [hI]
  clear hI
  go_enter Tryd.func46, Tryd.ntmps46
  go_upto_region 1 with fail
  have r1 := rowIs_box w 51 109 (recF x sv dv)
  have hN := NewT.alloc w (.cells (rowA 109 (recF x sv dv)) 51)
  change Code.wp _ _ _ _ (w.alloc (.cells (rowA 109 (recF x sv dv)) 51))
  generalize w.alloc (.cells (rowA 109 (recF x sv dv)) 51) = W0 at r1 hN ⊢
  have R1 := Lib.hid r1
  have HN := Lib.hid hN
  replace HX := Lib.hid (hN.recV HX.out)
  replace HS := Lib.hid (hN.pairs HS.out)
  replace HD := Lib.hid (hN.rd HD.out)
  clear r1 hN
  have c0 : W0.cell? ⟨w.heap.size, 0, none⟩ = some (.int .i64 x.kind) := R1.out.cell (by omega)
  have q1 : (x.kind == 1) = false := by simpa using k1
  have q2 : (x.kind == 2) = false := by simpa using k2
  have q3 : (x.kind == 3) = false := by simpa using k3
  have q4 : (x.kind == 4) = false := by simpa using k4
  have q5 : (x.kind == 5) = false := by simpa using k5
  have q6 : (x.kind == 6) = false := by simpa using k6
  generalize x.kind = kd at c0 q1 q2 q3 q4 q5 q6
  clear k1 k2 k3 k4 k5 k6
  go_wp2
  go_ret
  exact ⟨_, rfl, HN.out, rfl⟩
end Go.Proofs.YtchpmdcacpjojaaDoor
/- A region that draws its order and makes two arrays: beside the conditions of single operations a relation on the frame that each step keeps. -/
namespace Go.Proofs.YtchpmdcacpjojaaDoor
open Go Go.RowKit
set_option maxRecDepth 8000
set_option linter.all false

section
variable {P : Program} {ops : Array Oper} {Q : Exit → Act → World → Prop} {T : World → World → Prop} {V : List (SV T)} {J : Act → World → Prop} {a0 : Act} {w0 : World} {n : Nat} {D : Deps} {init tail : List Oper}
theorem rely_next (hn : a0.tmps.size = n) (ht : ∀ a b c : World, T a b → T b c → T a c) {i : Nat} {o : Oper} {dp : List (Tmp × Option Nat)} {g : Option (Tmp × Bool)} {listed : Array Bool} {a : Act} {w : World}
    (ho : ops[i]? = some o) (h1 : relyOne ops n i o dp g = true) (h0 : listed.getD i true = false)
    (hall : ∀ e ∈ o.after, Region.binds .any e = true → listed.getD e.on false = true) (inv : RelyInv ops T V a0 w0 listed a w) :
    relyFacts V a0 a w dp ∧ Region.wanted o (yielded ops a.tmps) = relyGuard g a ∧ ∀ v w', T w w' → (V.getD i SV.any).pred v w' → RelyInv ops T V a0 w0 (listed.setIfInBounds i true) (a.put o.dst v) w' := by
  simp only [relyOne, Bool.and_eq_true] at h1
  obtain ⟨⟨⟨hdst, hafter⟩, hdp⟩, hg⟩ := h1
  have waits : ∀ j, Region.waitsFor .any ops i j = true → listed.getD j false = true := fun j hj => by
    obtain ⟨oi, hoi, e, he, hb, hon⟩ := Region.waitsFor_spec hj
    have : oi = o := Option.some.inj (hoi.symm.trans ho)
    subst this
    rw [← hon]
    exact hall e he hb
  have i0 : listed.getD i false = false := getD_both h0
  have hfacts : relyFacts V a0 a w dp := by
      induction dp with
    | nil => trivial
    | cons x r ih2 =>
      simp only [List.all_cons, Bool.and_eq_true] at hdp
      obtain ⟨hx, hr⟩ := hdp
      obtain ⟨d, j⟩ := x
      cases j with
      | some j =>
        simp only [Bool.and_eq_true, beq_iff_eq] at hx
        exact ⟨inv.new j d hx.1 (waits j hx.2), ih2 hr⟩
      | none =>
        refine ⟨inv.old d fun j hj => ?_, ih2 hr⟩
        have hjlt : j < ops.size := by
          unfold relyDst at hj
          cases hoj : ops[j]? with
          | none => simp [hoj] at hj
          | some oj => exact (Array.getElem?_eq_some_iff.1 hoj).1
        have h2 := List.all_eq_true.1 hx j (List.mem_range.2 hjlt)
        simp only [hj, bne_self_eq_false, Bool.false_or, Bool.or_eq_true, decide_eq_true_eq] at h2
        rcases h2 with rfl | h2
        · exact i0
        · cases hlj : listed.getD j false with
          | false => rfl
          | true =>
            obtain ⟨oj, hoj, e, he, hb, hon⟩ := Region.waitsFor_spec h2
            have := inv.closed j oj hoj hlj e he hb
            rw [hon, i0] at this
            cases this
  have hguard : Region.wanted o (yielded ops a.tmps) = relyGuard g a := by
    unfold Region.wanted
    cases hgo : o.guard with
    | none =>
      rw [hgo] at hg
      cases g with
      | none => rfl
      | some x => cases hg
    | some kb =>
      obtain ⟨k, b⟩ := kb
      rw [hgo] at hg
      cases g with
      | none => cases hg
      | some x =>
        obtain ⟨d, b'⟩ := x
        simp only [Bool.and_eq_true, beq_iff_eq, decide_eq_true_eq] at hg
        obtain ⟨⟨⟨rfl, hd⟩, _⟩, hlt⟩ := hg
        have hlt' : d < a.tmps.size := by rw [inv.slots, hn]; exact hlt
        have hd' : (ops[k]?).bind (·.dst) = some d := hd
        simp only [yielded, hd', Option.bind_some, relyGuard, Array.getD_eq_getD_getElem?, Array.getElem?_eq_getElem hlt', Option.getD_some]
        cases a.tmps[d] <;> simp
        all_goals (rename_i x; cases x <;> cases b <;> rfl)
  have next : ∀ v w', T w w' → (V.getD i SV.any).pred v w' → RelyInv ops T V a0 w0 (listed.setIfInBounds i true) (a.put o.dst v) w' := fun v w' hT hv => by
    have hilt : i < listed.size := by rw [inv.size]; exact (Array.getElem?_eq_some_iff.1 ho).1
    refine ⟨by simp [inv.size], fun j oj hj hlj e he hb => ?_, ht _ _ _ inv.now hT, by cases o.dst <;> simp [Act.put, inv.slots], by cases o.dst <;> simp [Act.put, inv.defers], fun j d hj hlj => ?_, fun d hno => ?_⟩
    · by_cases hij : i = j
      · subst hij
        have : oj = o := Option.some.inj (hj.symm.trans ho)
        subst this
        exact getD_set_true (hall e he hb)
      · rw [getD_set_ne false hij] at hlj
        exact getD_set_true (inv.closed j oj hj hlj e he hb)
    · by_cases hij : i = j
      · subst hij
        have hd : o.dst = some d := by simpa [relyDst, ho] using hj
        rw [hd] at hdst
        simp only [Bool.and_eq_true, decide_eq_true_eq] at hdst
        have hlt : d < a.tmps.size := by rw [inv.slots, hn]; exact hdst.1
        rw [hd]
        simpa [Act.put, hlt] using hv
      · rw [getD_set_ne false hij] at hlj
        have h3 := (V.getD j SV.any).stable _ _ _ (inv.new j d hj hlj) hT
        cases hod : o.dst with
        | none => exact h3
        | some d0 =>
          rw [hod] at hdst
          simp only [Bool.and_eq_true, decide_eq_true_eq] at hdst
          have hjlt : j < ops.size := by
            unfold relyDst at hj
            cases hoj : ops[j]? with
            | none => simp [hoj] at hj
            | some oj => exact (Array.getElem?_eq_some_iff.1 hoj).1
          have h4 := List.all_eq_true.1 hdst.2 j (List.mem_range.2 hjlt)
          simp only [Bool.or_eq_true, decide_eq_true_eq, bne_iff_ne, ne_eq] at h4
          have hne : d0 ≠ d := fun e => by
            subst e
            rcases h4 with h4 | h4
            · exact hij h4.symm
            · exact h4 hj
          simpa [Act.put, Array.getElem?_setIfInBounds_ne hne] using h3
    · have hni : o.dst ≠ some d := fun hd => by
        have := hno i (by simp [relyDst, ho, hd])
        simp [hilt] at this
      have hold := inv.old d fun j hj => by
        have hij : i ≠ j := fun e => by subst e; exact hni (by simpa [relyDst, ho] using hj)
        have := hno j hj
        rwa [getD_set_ne false hij] at this
      cases hod : o.dst with
      | none => exact hold
      | some d0 =>
        have hne : d0 ≠ d := fun e => hni (by rw [hod, e])
        simpa [Act.put, Array.getElem?_setIfInBounds_ne hne] using hold
  exact ⟨hfacts, hguard, next⟩
end
/-- Two slots hold pointers to different blocks, both there. -/
def TwoPtr (p q : Tmp) (a : Act) (w : World) : Prop :=
  (∀ g, a.tmps.getD p undef = .pointer (some ⟨g, 0, none⟩) → g < w.heap.size) ∧ (∀ g, a.tmps.getD q undef = .pointer (some ⟨g, 0, none⟩) → g < w.heap.size) ∧
    ∀ g g', a.tmps.getD p undef = .pointer (some ⟨g, 0, none⟩) → a.tmps.getD q undef = .pointer (some ⟨g', 0, none⟩) → g ≠ g'
theorem put_other {a : Act} {d : Option Tmp} {p : Tmp} (v : Value) (h : d ≠ some p) : (a.put d v).tmps.getD p undef = a.tmps.getD p undef := by
  cases d with
  | none => rfl
  | some d =>
    have hne : d ≠ p := fun e => h (by rw [e])
    simp [Act.put, Array.getElem?_setIfInBounds_ne hne]
theorem TwoPtr.keep {p q : Tmp} {a : Act} {w w' : World} {d : Option Tmp} {v : Value} (h : TwoPtr p q a w) (hp : d ≠ some p) (hq : d ≠ some q) (hT : NewT w w') : TwoPtr p q (a.put d v) w' := by
  unfold TwoPtr
  rw [put_other v hp, put_other v hq]
  exact ⟨fun g hg => Nat.lt_of_lt_of_le (h.1 g hg) hT.out.size, fun g hg => Nat.lt_of_lt_of_le (h.2.1 g hg) hT.out.size, h.2.2⟩
theorem put_same {a : Act} {p : Tmp} {g g' : Nat} (h : (a.put (some p) (.pointer (some ⟨g, 0, none⟩))).tmps.getD p undef = .pointer (some ⟨g', 0, none⟩)) : g' = g := by
  rcases Nat.lt_or_ge p a.tmps.size with hlt | hge
  · simp [Act.put, hlt] at h; exact h.symm
  · simp [Act.put, undef, Nat.not_lt.2 hge] at h
theorem TwoPtr.first {p q : Tmp} {a : Act} {w : World} {o : Obj} (h : TwoPtr p q a w) (hpq : p ≠ q) : TwoPtr p q (a.put (some p) (.pointer (some ⟨w.heap.size, 0, none⟩))) (w.alloc o) := by
  unfold TwoPtr
  rw [put_other (p := q) (d := some p) _ (by simpa using hpq)]
  refine ⟨fun g hg => by rw [put_same hg]; simp, fun g hg => by have := h.2.1 g hg; simp; omega, fun g g' hg hg' => ?_⟩
  have := h.2.1 g' hg'
  rw [put_same hg]; omega
end Go.Proofs.YtchpmdcacpjojaaDoor
