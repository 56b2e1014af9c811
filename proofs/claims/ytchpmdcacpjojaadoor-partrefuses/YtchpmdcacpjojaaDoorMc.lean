/- Layer 3, words that later layers share: bytes as strings; slices of slices; what is read of what was put; a reader in a region. -/
import Derived.Test.YtchpmdcacpjojaaDoorMb
import Derived.Lib.SliceRun
import Derived.Test.YtchpmdcacpjojaaDoorMa
import Derived.Laws.CopyOwn
import Derived.Laws.IdiomCopy
import Derived.Deep.Slices
set_option linter.all false
namespace Go.Proofs.YtchpmdcacpjojaaDoor
open Go Go.RowKit
set_option maxRecDepth 8000
set_option linter.all false
theorem rdV_form' {W : World} {L : List Nat} {v : Value} {l : List UInt8} (h : RdV W L v l) : ∃ A n cap, v = .slice A n cap ∧ Hid (l.length = n) := by
  obtain ⟨A, cap, hv, _⟩ := h; exact ⟨A, l.length, cap, hv, Lib.hid rfl⟩
/-- A slice of bytes becomes a string. -/
theorem conv_rd {w : World} {L : List Nat} {v : Value} {l : List UInt8} (h : RdV w L v l) : (convert 49 9 v).run Tryd.prog w = .ok (.string ⟨l.toArray⟩) w := by
  obtain ⟨A, cap, rfl, h1, h2, h3⟩ := h
  by_cases h0 : 0 < l.length
  · obtain ⟨b, o, rfl, _, hc⟩ := h3 h0
    have := run_convert_bytes_arg (P := Tryd.prog) w 49 5 Tryd.underlying49 Tryd.underlying5 b o l.length cap (l.map bN) (by simp) (fun i hi => by
      rw [hc i hi]
      simp [bAt, hi]) 9 Tryd.underlying9
    rw [this]
    have e : strOfNums (l.map bN) = ⟨l.toArray⟩ := by
      unfold strOfNums
      congr 2
      rw [List.map_map]
      conv => rhs; rw [← List.map_id l]
      exact List.map_congr_left fun b _ => by simp [bN]
    rw [e]
  · have : l = [] := List.eq_nil_of_length_eq_zero (by omega)
    subst this
    simp only [List.length_nil]
    simp [convert, run_underlying Tryd.underlying49, run_underlying Tryd.underlying9, run_underlying Tryd.underlying5, Conv.bytesToString]
    cases A <;> simp [go_sem] <;> rfl
theorem parts4 {W : World} {v1 v2 v3 v4 : Value} {l1 l2 l3 l4 : List UInt8} (h1 : RdV W [] v1 l1) (h2 : RdV W [] v2 l2) (h3 : RdV W [] v3 l3) (h4 : RdV W [] v4 l4) : Parts (W.alloc (.cells #[v1, v2, v3, v4] 49)) (.slice (some ⟨W.heap.size, 0, none⟩) 4 4) [l1, l2, l3, l4] :=
  ⟨[(v1, l1), (v2, l2), (v3, l3), (v4, l4)], parts_new [(v1, l1), (v2, l2), (v3, l3), (v4, l4)] 49 (by simp) (by simp) (by simp; exact ⟨h1, h2, h3, h4⟩), rfl⟩
theorem parts5 {W : World} {v1 v2 v3 v4 v5 : Value} {l1 l2 l3 l4 l5 : List UInt8} (h1 : RdV W [] v1 l1) (h2 : RdV W [] v2 l2) (h3 : RdV W [] v3 l3) (h4 : RdV W [] v4 l4) (h5 : RdV W [] v5 l5) : Parts (W.alloc (.cells #[v1, v2, v3, v4, v5] 49)) (.slice (some ⟨W.heap.size, 0, none⟩) 5 5) [l1, l2, l3, l4, l5] :=
  ⟨[(v1, l1), (v2, l2), (v3, l3), (v4, l4), (v5, l5)], parts_new [(v1, l1), (v2, l2), (v3, l3), (v4, l4), (v5, l5)] 49 (by simp) (by simp) (by simp; exact ⟨h1, h2, h3, h4, h5⟩), rfl⟩
/-- The first m bytes. -/
theorem rd_to {w : World} {L : List Nat} {A : Option Addr} {n cap m : Nat} {l : List UInt8} (h : RdV w L (.slice A n cap) l) (hm : m ≤ n) : RdV w L (.slice A m cap) (l.take m) := by
  obtain ⟨A', c, hv, h1, h2, h3⟩ := h
  cases hv
  have hlen : (l.take m).length = m := by simp; omega
  refine ⟨A, cap, by rw [hlen], by rw [hlen]; omega, h2, fun h0 => ?_⟩
  rw [hlen] at h0
  obtain ⟨b, o, hA, hb, hc⟩ := h3 (by omega)
  refine ⟨b, o, hA, hb, fun i hi => ?_⟩
  rw [hlen] at hi
  rw [hc i (by omega)]
  simp [bAt, hi]
theorem opr_slice_upto {a : Act} {w : World} {o : Oper} {K : Act → World → Prop} {Q : Exit → Act → World → Prop} {x y : Operand} {A : Option Addr} {n cap m : Nat} (ho : o.op = .slice 49 x none (some y) none) (hx : a.eval x = .slice A n cap) (hy : a.eval y = .int .i64 (m : Int)) (hm : m ≤ cap) (h : K (a.put o.dst (.slice A m cap)) w) : o.wp Tryd.prog a w K Q := by
  obtain ⟨dst, op, type, pos, after, guard⟩ := o
  simp only at ho
  subst ho
  refine opr_val (s := Instr.sliceAt 49 (a.eval x) none (some (a.eval y)) none) rfl ?_ h
  rw [hx, hy]
  have := slice_to A n cap m hm w
  simpa [Instr.sliceAt, run_underlying Tryd.underlying49] using this
theorem ownsRow_newT {w w' : World} {base : Nat} {e : TypeId} {v : Value} {n : Nat} {xs : List Value} (h : w.ownsRow base e 1 v n xs) (hN : NewT w w') : w'.ownsRow base e 1 v n xs := by
  obtain ⟨h1, h2⟩ := h
  refine ⟨h1, ?_⟩
  rcases h2 with h | ⟨g, cap, cur, hv, hb, hh, r⟩
  · exact .inl h
  · exact .inr ⟨g, cap, cur, hv, hb, (hN.out.block g (Array.getElem?_eq_some_iff.1 hh).1).trans hh, r⟩
theorem outN_put (x : Nat) (hx : x ≤ 2147483647) (r : List UInt8) : outN (numL x ++ r) = (x, r, 0) := by
  unfold outN
  rw [goN_put x hx r]
  simp only [if_true]
  rw [← numL_length x]; simp
/-- It reads as l, whatever a reader R does. -/
def svRdR (R : Nat) (l : List UInt8) : SV (RT R) := ⟨fun v w => RdV w [R] v l, fun _ _ _ h hT => hT.rd h⟩
theorem run_bs5 (v1 v2 v3 v4 v5 : Value) (h1 : ∃ A n c, v1 = .slice A n c) (h2 : ∃ A n c, v2 = .slice A n c) (h3 : ∃ A n c, v3 = .slice A n c) (h4 : ∃ A n c, v4 = .slice A n c) (h5 : ∃ A n c, v5 = .slice A n c) (w : World) : (Instr.buildSlice 99 5 #[(0, v1), (1, v2), (2, v3), (3, v4), (4, v5)]).run Tryd.prog w = .ok (.slice (some ⟨w.heap.size, 0, none⟩) 5 5) (w.alloc (.cells #[v1, v2, v3, v4, v5] 49)) := by
  obtain ⟨_, _, _, rfl⟩ := h1
  obtain ⟨_, _, _, rfl⟩ := h2
  obtain ⟨_, _, _, rfl⟩ := h3
  obtain ⟨_, _, _, rfl⟩ := h4
  obtain ⟨_, _, _, rfl⟩ := h5
  simp [go_sem]
theorem rd_is {w : World} {L : List Nat} {v : Value} {l : List UInt8} (h : RdV w L v l) : ∃ A n c, v = .slice A n c := by obtain ⟨A, c, hv, _⟩ := h; exact ⟨A, _, c, hv⟩
theorem opr_bs5 {a : Act} {w : World} {o : Oper} {K : Act → World → Prop} {Q : Exit → Act → World → Prop} {x1 x2 x3 x4 x5 : Operand} {l1 l2 l3 l4 l5 : List UInt8} (ho : o.op = .buildSlice 99 5 #[(0, x1), (1, x2), (2, x3), (3, x4), (4, x5)]) (h1 : RdV w [] (a.eval x1) l1) (h2 : RdV w [] (a.eval x2) l2) (h3 : RdV w [] (a.eval x3) l3) (h4 : RdV w [] (a.eval x4) l4) (h5 : RdV w [] (a.eval x5) l5) (h : ∀ v w', NewT w w' → Parts w' v [l1, l2, l3, l4, l5] → K (a.put o.dst v) w') : o.wp Tryd.prog a w K Q := by
  obtain ⟨dst, op, type, pos, after, guard⟩ := o
  simp only at ho
  subst ho
  exact opr_val (s := Instr.buildSlice 99 5 #[(0, a.eval x1), (1, a.eval x2), (2, a.eval x3), (3, a.eval x4), (4, a.eval x5)]) (by simp [execOp]) (run_bs5 _ _ _ _ _ (rd_is h1) (rd_is h2) (rd_is h3) (rd_is h4) (rd_is h5) w) (h _ _ (NewT.alloc _ _) (parts5 h1 h2 h3 h4 h5))
theorem opr_eql_bool {a : Act} {w : World} {o : Oper} {K : Act → World → Prop} {Q : Exit → Act → World → Prop} {x y : Operand} {t' : TypeId} {q : Bool} (ho : o.op = .binOp .eql 4 x y t') (hx : a.eval x = .bool q) (hy : a.eval y = .bool q) (h : K (a.put o.dst (.bool true)) w) : o.wp Tryd.prog a w K Q := by
  obtain ⟨dst, op, type, pos, after, guard⟩ := o
  simp only at ho
  subst ho
  refine opr_val (s := do eqGuard .eql 4 x y (a.eval x) (a.eval y); binOp .eql 4 (a.eval x) (a.eval y)) rfl ?_ h
  rw [hx, hy]
  cases q <;> simp [go_sem]
theorem outQ_put (q : Bool) (r : List UInt8) : outQ (cond q 1 0 :: r) = (q, r, 0) := by cases q <;> rfl
theorem outB_put (l r : List UInt8) (hl : l.length ≤ 1000000) : outB (numL l.length ++ l ++ r) (l.length : Int) = (l, r, 0) := by
  have hg := goN_put l.length (by omega) (l ++ r)
  rw [← List.append_assoc] at hg
  have hd : (numL l.length ++ l ++ r).drop (sz l.length) = l ++ r := by
    rw [List.append_assoc, ← numL_length l.length]; simp
  have hB : goB (numL l.length ++ l ++ r) (l.length : Int) = (l, sz l.length + l.length, 0) := by
    unfold goB
    rw [hg]
    simp only
    rw [if_neg (by simp), if_neg (by omega), if_neg (by simp [numL_length]), hd]
    simp
  unfold outB
  rw [hB]
  simp only [if_true]
  rw [← List.drop_drop, hd]
  simp
theorem outH_put (d : Nat → UInt8) (r : List UInt8) : (outH (digL d ++ r)).2 = (r, 0) ∧ rowA 32 (bF (outH (digL d ++ r)).1) = rowA 32 (bF d) := by
  have hl : ¬ (digL d ++ r).length < 32 := by simp [digL_length]
  unfold outH
  rw [if_neg hl]
  refine ⟨?_, rowA_congr fun i hi => ?_⟩
  · have := digL_length d
    simp [← this]
  · rw [bF_at, bF_at]
    congr 2
    have h1 : i < (digL d).length := by rw [digL_length]; exact hi
    show (digL d ++ r).getD i 0 = d i
    rw [List.getD_eq_getElem?_getD, List.getElem?_append_left h1]
    simp [digL, hi]
/-- The last place of a row of the call's own is written. -/
theorem ownsRow_last {w : World} {base g n cap : Nat} {e : TypeId} {xs : List Value} {u : Value} (h : w.ownsRow base e 1 (.slice (some ⟨g, 0, none⟩) (n + 1) cap) (n + 1) (xs ++ [u])) (u' : Value) :
    (w.setCell ⟨g, n, none⟩ u').ownsRow base e 1 (.slice (some ⟨g, 0, none⟩) (n + 1) cap) (n + 1) (xs ++ [u']) := by
  obtain ⟨h1, h2⟩ := h
  have hx : xs.length = n := by simpa using h1
  rcases h2 with ⟨h, _⟩ | ⟨g', cap', cur, hv, hb, hh, hnc, hm, hs, ht⟩
  · cases h
  · cases hv
    refine ⟨by simpa using hx, .inr ⟨g, cap, cur.setIfInBounds n u', rfl, hb, by simp [World.setCell, Array.getElem?_modify, hh], hnc, hm, by simpa using hs, ?_⟩⟩
    have e1 : cur.toList.take n = xs := by
      have := congrArg (List.take n) ht
      rw [List.take_take, Nat.min_eq_left (by omega)] at this
      rw [this, List.take_append_of_le_length (by omega)]
      exact List.take_of_length_le (by omega)
    have hlt : n < cur.toList.length := by simp; omega
    rw [Nat.mul_one, Array.toList_setIfInBounds, List.take_add_one, List.take_set_of_le (Nat.le_refl _), e1]
    simp [show n < cur.size by omega]
theorem frozen_own {w : World} {base g n cap : Nat} {e : TypeId} {xs : List Value} (h : w.ownsRow base e 1 (.slice (some ⟨g, 0, none⟩) n cap) n xs) (i : Nat) : w.frozen? ⟨g, i, none⟩ = false := by
  obtain ⟨_, h2⟩ := h
  rcases h2 with ⟨h, _⟩ | ⟨g', cap', cur, hv, _, hh, _⟩
  · cases h
  · cases hv; simp [World.frozen?, hh]
theorem bN_uB (n : Nat) (h : n < 256) : bN (uB n) = (n : Int) := by rw [bN, toNat_uB]; omega
end Go.Proofs.YtchpmdcacpjojaaDoor
/- Steps by value, new records and steps in memory, what a call hands back in a cell. -/
namespace Go.Proofs.YtchpmdcacpjojaaDoor
open Go Go.RowKit
set_option maxRecDepth 8000
set_option linter.all false

/-- The cells of a step. -/
def stepF (s : Int × Int) (i : Nat) : Value := if i = 0 then .int .i64 s.1 else .int .i64 s.2
theorem info_step : (Tryd.prog.info? 88).map (·.size) = some 2 := by kernel_rfl
theorem run_alloc_rec (w : World) : (Instr.alloc 51 true (.tuple #[])).run Tryd.prog w = .ok (.pointer (some ⟨w.heap.size, 0, none⟩)) (w.alloc (.cells (rowA 109 (recF zR (.slice none 0 0) (.slice none 0 0))) 51)) := by kernel_rfl
theorem run_alloc_step (w : World) : (Instr.alloc 88 true (.tuple #[])).run Tryd.prog w = .ok (.pointer (some ⟨w.heap.size, 0, none⟩)) (w.alloc (.cells (rowA 2 (stepF (0, 0))) 88)) := by kernel_rfl
theorem recF_one (x : Rc) (sv dv : Value) (hs : sv.oneCell' = true) (hd : dv.oneCell' = true) (i : Nat) : (recF x sv dv i).oneCell' = true := by
  unfold recF bF
  repeat' split
  all_goals first | rfl | assumption
theorem stepF_one (s : Int × Int) (i : Nat) : (stepF s i).oneCell' = true := by unfold stepF; split <;> rfl
theorem oneP {w : World} {v : Value} {l : List (Int × Int)} (h : RdP w v l) : v.oneCell' = true := by obtain ⟨A, c, rfl, _⟩ := h; rfl
theorem oneR {w : World} {L : List Nat} {v : Value} {l : List UInt8} (h : RdV w L v l) : v.oneCell' = true := by obtain ⟨A, c, rfl, _⟩ := h; rfl
section
variable {a : Act} {w : World} {o : Oper} {K : Act → World → Prop} {Q : Exit → Act → World → Prop} {x y : Operand} {g : Nat}
theorem opr_idxS {b o0 n c k : Nat} (hk : k < n) (ho : o.op = .indexAddr 48 x y) (hx : a.eval x = .slice (some ⟨b, o0, none⟩) n c) (hy : a.eval y = .int .i64 (k : Int)) (h : K (a.put o.dst (.pointer (some ⟨b, o0 + 2 * k, none⟩))) w) : o.wp Tryd.prog a w K Q := by
  obtain ⟨dst, op, type, pos, after, guard⟩ := o
  simp only at ho
  subst ho
  refine opr_val (s := Instr.indexAt 48 (a.eval x) (a.eval y)) rfl ?_ h
  rw [hx, hy]
  have hsz : (sizeOf 88).run Tryd.prog w = .ok 2 w := by
    have hs := info_step
    cases hq : Tryd.prog.info? 88 with
    | none => simp [hq] at hs
    | some i => simp [hq] at hs; simp [sizeOf, typeInfo, hq, hs]
  simp [Instr.indexAt, asIntOf, run_underlying Tryd.underlying48, hk, Addr.add_mid, Nat.mul_comm]
theorem opr_ld2 {o0 : Nat} {s : Int × Int} (h0 : w.cell? ⟨g, o0, none⟩ = some (.int .i64 s.1)) (h1 : w.cell? ⟨g, o0 + 1, none⟩ = some (.int .i64 s.2)) (ho : o.op = .load 88 x) (hx : a.eval x = .pointer (some ⟨g, o0, none⟩)) (h : K (a.put o.dst (.agg (rowA 2 (stepF s)))) w) : o.wp Tryd.prog a w K Q := by
  refine wp_load_mid 88 x ho g o0 hx [.int .i64 s.1, .int .i64 s.2] _ (fun j v hv => ?_) Tryd.underlying88 rfl info_step h
  match j, hv with
  | 0, hv => simp at hv; subst hv; exact h0
  | 1, hv => simp at hv; subst hv; exact h1
theorem opr_ldSt {t' : TypeId} {s : Int × Int} (hr : w.rowIs g t' 2 (stepF s)) (ho : o.op = .load 88 x) (hx : a.eval x = .pointer (some ⟨g, 0, none⟩)) (h : K (a.put o.dst (.agg (rowA 2 (stepF s)))) w) : o.wp Tryd.prog a w K Q :=
  opr_ldm Tryd.underlying88 rfl info_step ho hx hr (by omega) (by rw [rowA_congr (g := stepF s) fun i _ => by rw [Nat.zero_add]]; exact h)
theorem eqType_step : Tryd.prog.eqGuardType Tryd.prog.depth 88 = false := by kernel_rfl
theorem equalIn_step (w : World) (s t : Int × Int) : (Op.equalIn 10000 88 (.agg (rowA 2 (stepF s))) (.agg (rowA 2 (stepF t)))).run Tryd.prog w = .ok (decide (s = t)) w := by
  rw [show rowA 2 (stepF s) = #[.int .i64 s.1, .int .i64 s.2] from rfl, show rowA 2 (stepF t) = #[.int .i64 t.1, .int .i64 t.2] from rfl]
  obtain ⟨s1, s2⟩ := s
  obtain ⟨t1, t2⟩ := t
  rw [run_equalIn_agg w 9999 88 _ _ (by kernel_rfl) (by kernel_rfl)]
  by_cases h1 : s1 = t1
  · by_cases h2 : s2 = t2
    · subst h1 h2; simp [go_sem]
    · subst h1; simp [go_sem, h2]
  · simp [go_sem, h1]
theorem opr_neqS {t2 : TypeId} {s t : Int × Int} {b : Bool} (hb : (!decide (s = t)) = b) (ho : o.op = .binOp .neq 88 x y t2) (hx : a.eval x = .agg (rowA 2 (stepF s))) (hy : a.eval y = .agg (rowA 2 (stepF t))) (h : K (a.put o.dst (.bool b)) w) : o.wp Tryd.prog a w K Q := by
  obtain ⟨dst, op', type, pos, after, guard⟩ := o
  simp only at ho
  subst ho hb
  refine opr_val (s := do eqGuard .neq 88 x y (a.eval x) (a.eval y); binOp .neq 88 (a.eval x) (a.eval y)) rfl ?_ h
  rw [hx, hy, Sem.run_bind, run_eqGuard_agg _ _ _ _ _ _ _ eqType_step]
  simp only [Result.andThen_ok]
  rw [run_neq_struct, equalIn_step]; rfl
end
/-- A pointer into a record that a region made. -/
def svPtr (F : Nat → Value) (off : Nat) : SV NewT := ⟨fun v w => ∃ g, v = .pointer (some ⟨g, off, none⟩) ∧ w.rowIs g 51 109 F, fun _ _ _ ⟨g, h1, h2⟩ hT => ⟨g, h1, hT.row h2⟩⟩
section
variable {a : Act} {w : World} {o : Oper} {K : Act → World → Prop} {Q : Exit → Act → World → Prop} {x : Operand} {F : Nat → Value} {off : Nat} {v : Value}
theorem opr_boxR (_hone : ∀ i, (F i).oneCell' = true) (ho : o.op = .box 51 x) (hx : a.eval x = .agg (rowA 109 F)) (h : ∀ v w', NewT w w' → (svPtr F 0).pred v w' → K (a.put o.dst v) w') : o.wp Tryd.prog a w K Q := by
  obtain ⟨dst, op, type, pos, after, guard⟩ := o
  simp only at ho
  subst ho
  refine opr_val (s := Instr.box 51 (a.eval x)) (w' := w.alloc (.cells (rowA 109 F) 51)) rfl ?_ (h _ _ (NewT.alloc _ _) ⟨w.heap.size, rfl, rowIs_box w _ 109 F⟩)
  rw [hx]
  simp [go_sem]
theorem opr_fldP {k : Nat} (hk : k < 16) (ho : o.op = .fieldAddr 51 x k) (hx : (svPtr F 0).pred (a.eval x) w) (h : ∀ v, (svPtr F (recOff k)).pred v w → K (a.put o.dst v) w) : o.wp Tryd.prog a w K Q := by
  obtain ⟨g, hg, hr⟩ := hx
  exact opr_fldR hk ho hg (h _ ⟨g, rfl, hr⟩)
theorem opr_ldIP (hx : (svPtr F off).pred (a.eval x) w) (hn : off < 109) (hv : F off = v) (ho : o.op = .load 3 x) (h : K (a.put o.dst v) w) : o.wp Tryd.prog a w K Q := by
  obtain ⟨g, hg, hr⟩ := hx
  exact opr_ldI hr hn hv ho hg h
theorem opr_ldQP (hx : (svPtr F off).pred (a.eval x) w) (hn : off < 109) (hv : F off = v) (ho : o.op = .load 4 x) (h : K (a.put o.dst v) w) : o.wp Tryd.prog a w K Q := by
  obtain ⟨g, hg, hr⟩ := hx
  exact opr_ldQ hr hn hv ho hg h
theorem opr_ldSP (hx : (svPtr F off).pred (a.eval x) w) (hn : off < 109) (hv : F off = v) (ho : o.op = .load 48 x) (h : K (a.put o.dst v) w) : o.wp Tryd.prog a w K Q := by
  obtain ⟨g, hg, hr⟩ := hx
  exact opr_ldS hr hn hv ho hg h
theorem opr_ldBP (hx : (svPtr F off).pred (a.eval x) w) (hn : off < 109) (hv : F off = v) (ho : o.op = .load 49 x) (h : K (a.put o.dst v) w) : o.wp Tryd.prog a w K Q := by
  obtain ⟨g, hg, hr⟩ := hx
  exact opr_ldB hr hn hv ho hg h
theorem opr_ldHP {d : Nat → UInt8} (hx : (svPtr F off).pred (a.eval x) w) (hn : off + 32 ≤ 109) (hv : ∀ j, j < 32 → F (off + j) = bF d j) (ho : o.op = .load 32 x) (h : K (a.put o.dst (.agg (rowA 32 (bF d)))) w) : o.wp Tryd.prog a w K Q := by
  obtain ⟨g, hg, hr⟩ := hx
  exact opr_ldH hr hn hv ho hg h
end
section
variable (x : Rc) (sv dv : Value) (i : Nat)
theorem rs_kind (n : Int) : recF { x with kind := n } sv dv i = if i = 0 then .int .i64 n else recF x sv dv i := by
  unfold recF; by_cases h : i = 0
  · subst h; rfl
  · simp only [h, if_false]
theorem rs_saga (n : Int) : recF { x with saga := n } sv dv i = if i = 1 then .int .i64 n else recF x sv dv i := by
  unfold recF; by_cases h : i = 1
  · subst h; rfl
  · simp only [h, if_false]
theorem rs_seq (n : Int) : recF { x with seq := n } sv dv i = if i = 2 then .int .i64 n else recF x sv dv i := by
  unfold recF; by_cases h : i = 2
  · subst h; rfl
  · simp only [h, if_false]
theorem rs_step (n : Int) : recF { x with step := n } sv dv i = if i = 3 then .int .i64 n else recF x sv dv i := by
  unfold recF; by_cases h : i = 3
  · subst h; rfl
  · simp only [h, if_false]
theorem rs_tr (n : Int) : recF { x with tr := n } sv dv i = if i = 4 then .int .i64 n else recF x sv dv i := by
  unfold recF; by_cases h : i = 4
  · subst h; rfl
  · simp only [h, if_false]
theorem rs_nd (n : Int) : recF { x with nd := n } sv dv i = if i = 7 then .int .i64 n else recF x sv dv i := by
  unfold recF; by_cases h : i = 7
  · subst h; rfl
  · simp only [h, if_false]
theorem rs_part (n : Int) : recF { x with part := n } sv dv i = if i = 8 then .int .i64 n else recF x sv dv i := by
  unfold recF; by_cases h : i = 8
  · subst h; rfl
  · simp only [h, if_false]
theorem rs_epoch (n : Int) : recF { x with epoch := n } sv dv i = if i = 9 then .int .i64 n else recF x sv dv i := by
  by_cases h : i = 9
  · subst h; rfl
  · rw [if_neg h]
    by_cases h10 : i < 10
    · have : i = 0 ∨ i = 1 ∨ i = 2 ∨ i = 3 ∨ i = 4 ∨ i = 5 ∨ i = 6 ∨ i = 7 ∨ i = 8 := by omega
      rcases this with rfl | rfl | rfl | rfl | rfl | rfl | rfl | rfl | rfl <;> rfl
    · unfold recF; simp only [h10, if_false]
theorem rs_back (n : Bool) : recF { x with back := n } sv dv i = if i = 5 then .bool n else recF x sv dv i := by
  unfold recF; by_cases h : i = 5
  · subst h; rfl
  · simp only [h, if_false]
theorem rs_good (n : Bool) : recF { x with good := n } sv dv i = if i = 6 then .bool n else recF x sv dv i := by
  unfold recF; by_cases h : i = 6
  · subst h; rfl
  · simp only [h, if_false]
theorem rs_gone (n : Bool) : recF { x with gone := n } sv dv i = if i = 76 then .bool n else recF x sv dv i := by
  unfold recF; by_cases h : i = 76
  · subst h; rfl
  · simp only [h, if_false]
theorem rs_steps (v : Value) : recF x v dv i = if i = 42 then v else recF x sv dv i := by
  unfold recF; by_cases h : i = 42
  · subst h; rfl
  · simp only [h, if_false]
theorem rs_data (v : Value) : recF x sv v i = if i = 43 then v else recF x sv dv i := by
  unfold recF; by_cases h : i = 43
  · subst h; rfl
  · simp only [h, if_false]
theorem rs_tag (d : Nat → UInt8) (hi : i < 109) : recF { x with tag := d } sv dv i = if 10 ≤ i ∧ i < 10 + 32 then bF d (i - 10) else recF x sv dv i := by
  by_cases h : 10 ≤ i ∧ i < 10 + 32
  · rw [if_pos h]; obtain ⟨j, rfl⟩ := Nat.exists_eq_add_of_le h.1; rw [recF_tag _ _ _ _ (by omega), Nat.add_sub_cancel_left]
  · rw [if_neg h]; unfold recF; by_cases h1 : i < 10
    · simp only [h1, if_true]
    · have h2 : ¬ i < 42 := by omega
      simp only [h1, h2, if_false]
theorem rs_salt (d : Nat → UInt8) (hi : i < 109) : recF { x with salt := d } sv dv i = if 44 ≤ i ∧ i < 44 + 32 then bF d (i - 44) else recF x sv dv i := by
  by_cases h : 44 ≤ i ∧ i < 44 + 32
  · rw [if_pos h]; obtain ⟨j, rfl⟩ := Nat.exists_eq_add_of_le h.1; rw [recF_salt _ _ _ _ (by omega), Nat.add_sub_cancel_left]
  · rw [if_neg h]; unfold recF; by_cases h1 : i < 10
    · simp only [h1, if_true]
    · by_cases h2 : i < 42
      · simp only [h1, h2, if_true, if_false]
      · by_cases h3 : i = 42
        · subst h3; rfl
        · by_cases h4 : i = 43
          · subst h4; rfl
          · have h5 : ¬ i < 76 := by omega
            simp only [h1, h2, h3, h4, h5, if_false]
theorem rs_com (d : Nat → UInt8) (hi : i < 109) : recF { x with com := d } sv dv i = if 77 ≤ i ∧ i < 77 + 32 then bF d (i - 77) else recF x sv dv i := by
  by_cases h : 77 ≤ i ∧ i < 77 + 32
  · rw [if_pos h]; obtain ⟨j, rfl⟩ := Nat.exists_eq_add_of_le h.1; rw [recF_com _ _ _ _ (by omega), Nat.add_sub_cancel_left]
  · rw [if_neg h]; unfold recF; by_cases h1 : i < 10
    · simp only [h1, if_true]
    · by_cases h2 : i < 42
      · simp only [h1, h2, if_true, if_false]
      · by_cases h3 : i = 42
        · subst h3; rfl
        · by_cases h4 : i = 43
          · subst h4; rfl
          · by_cases h5 : i < 76
            · simp only [h1, h2, h3, h4, h5, if_true, if_false]
            · have h6 : i = 76 := by omega
              subst h6; rfl
end
theorem rdP_nil (w : World) : RdP w (.slice none 0 0) [] := ⟨none, 0, rfl, Nat.le_refl _, by unfold maxLen; omega, fun h => absurd h (by simp)⟩
theorem info_i1 : (Tryd.prog.info? 3).map (·.size) = some 1 := by kernel_rfl
theorem info_b1 : (Tryd.prog.info? 4).map (·.size) = some 1 := by kernel_rfl
theorem info_s1 : (Tryd.prog.info? 48).map (·.size) = some 1 := by kernel_rfl
theorem info_d1 : (Tryd.prog.info? 49).map (·.size) = some 1 := by kernel_rfl
theorem build_kind (k : Int) (w : World) : (Instr.build 51 #[(0, .int .i64 k)]).run Tryd.prog w = .ok (.agg (rowA 109 (recF { zR with kind := k } (.slice none 0 0) (.slice none 0 0)))) w := by kernel_rfl
theorem opr_build {a : Act} {w : World} {o : Oper} {K : Act → World → Prop} {Q : Exit → Act → World → Prop} {t : TypeId} {parts : Array (Nat × Operand)} {pv : Array (Nat × Value)} {v : Value} (ho : o.op = .build t parts) (hp : parts.map (fun (i, x) => (i, a.eval x)) = pv) (hr : (Instr.build t pv).run Tryd.prog w = .ok v w) (h : K (a.put o.dst v) w) : o.wp Tryd.prog a w K Q := by
  obtain ⟨dst, op, type, pos, after, guard⟩ := o
  simp only at ho
  subst ho hp
  exact opr_val (s := Instr.build t (parts.map fun (i, x) => (i, a.eval x))) rfl hr h
end Go.Proofs.YtchpmdcacpjojaaDoor
/- Steps that write a block that is new. -/
namespace Go.Proofs.YtchpmdcacpjojaaDoor
open Go Go.RowKit
set_option maxRecDepth 8000
set_option linter.all false
theorem put_all (F G : Nat → Value) : ∀ i, i < 109 → F i = if 0 ≤ i ∧ i < 0 + 109 then F (i - 0) else G i := fun i hi => by
  rw [if_pos (by omega), Nat.sub_zero]
theorem keepRow (R : Nat) (t : TypeId) (n : Nat) (Fs : Nat → Nat → Value) {wx w' : World} (hN : NewT wx w') : ∀ k, wx.rowIs R t n (Fs k) → w'.rowIs R t n (Fs k) := fun _ h => hN.row h
end Go.Proofs.YtchpmdcacpjojaaDoor
/- Slices of steps that a call makes: rows of pairs, appended to, cloned. -/
namespace Go.Proofs.YtchpmdcacpjojaaDoor
open Go Go.RowKit
set_option maxRecDepth 8000
set_option linter.all false
/-- The cells of steps, one behind the other. -/
def pc (l : List (Int × Int)) : List Value := l.flatMap fun s => [.int .i64 s.1, .int .i64 s.2]
theorem pc_length (l : List (Int × Int)) : (pc l).length = l.length * 2 := by
  induction l with
  | nil => rfl
  | cons s l ih => simp [pc] at ih ⊢; omega
theorem pc_append (l m : List (Int × Int)) : pc (l ++ m) = pc l ++ pc m := by simp [pc]
theorem pc_get (l : List (Int × Int)) (i : Nat) (hi : i < l.length) : (pc l)[2 * i]? = some (.int .i64 (l.getD i (0, 0)).1) ∧ (pc l)[2 * i + 1]? = some (.int .i64 (l.getD i (0, 0)).2) := by
  induction l generalizing i with
  | nil => simp at hi
  | cons s l ih =>
    cases i with
    | zero => simp [pc]
    | succ i =>
      have := ih i (by simpa using hi)
      have e : pc (s :: l) = .int .i64 s.1 :: .int .i64 s.2 :: pc l := by simp [pc]
      rw [e, show 2 * (i + 1) = 2 * i + 1 + 1 by omega]
      simpa using this
theorem pc_one (l : List (Int × Int)) : ∀ u ∈ pc l, u.oneCell' = true := fun u hu => by
  simp only [pc, List.mem_flatMap] at hu
  obtain ⟨s, _, hs⟩ := hu
  simp at hs
  rcases hs with rfl | rfl <;> rfl
theorem rdP_own {W : World} {base : Nat} {v : Value} {l : List (Int × Int)} (h : W.ownsRow base 88 2 v l.length (pc l)) : RdP W v l := by
  have hc : ∀ g : Nat, v.ownBlock = some g → ∀ j u, (pc l)[j]? = some u → W.cell? ((⟨g, 0, none⟩ : Addr).add j) = some u := fun g hg => h.cells hg
  rcases h.2 with ⟨rfl, h0⟩ | ⟨g, cap, cur, rfl, _, _, hnc, hcm, _, _⟩
  · exact ⟨none, 0, by rw [h0], by omega, by unfold maxLen; omega, fun h => absurd h (by omega)⟩
  · refine ⟨some ⟨g, 0, none⟩, cap, rfl, hnc, hcm, fun _ => ⟨g, 0, rfl, fun i hi => ?_⟩⟩
    have h1 := hc g rfl _ _ (pc_get l i hi).1
    have h2 := hc g rfl _ _ (pc_get l i hi).2
    rw [Addr.add_mid] at h1 h2
    exact ⟨h1, by rw [Nat.add_assoc]; exact h2⟩
theorem info_stp : (Tryd.prog.info? 88).map (fun i => (i.zero, i.size, i.bytes)) = some (some (.agg #[.int .i64 0, .int .i64 0]), 2, 16) := by kernel_rfl
theorem info_parts2 {e : TypeId} {z : Value} {s b : Nat} (h : (Tryd.prog.info? e).map (fun i => (i.zero, i.size, i.bytes)) = some (some z, s, b)) : ∃ i0, Tryd.prog.info? e = some i0 ∧ i0.zero = some z ∧ i0.size = s ∧ i0.bytes = b := by
  cases hq : Tryd.prog.info? e with
  | none => rw [hq] at h; cases h
  | some i => rw [hq] at h; simp at h; exact ⟨i, rfl, h.1, h.2.1, h.2.2⟩
/-- A slice of steps, put behind a row of the call's own. -/
theorem run_append_steps {W : World} {base : Nat} {v u : Value} {l m : List (Int × Int)} (ho : W.ownsRow base 88 2 v l.length (pc l)) (hu : RdP W u m) (hu0 : ∀ n c, u ≠ .slice none n c) (hn : l.length + m.length ≤ 1000000) (hb : base ≤ W.heap.size) (ty : TypeId) :
    ∃ v' w', (Builtin.append_ #[48, 48] ty #[v, u]).run Tryd.prog W = .ok v' w' ∧ w'.ownsRow base 88 2 v' (l ++ m).length (pc (l ++ m)) ∧ W.grownBy w' v.ownBlock := by
  obtain ⟨A, c, rfl, h1, h2, h3⟩ := hu
  cases A with
  | none => exact absurd rfl (hu0 _ _)
  | some ad =>
    obtain ⟨i0, hi, hz0, hz1, hz2⟩ := info_parts2 info_stp
    obtain ⟨v', w', hr, ho', hg, _⟩ := run_append_own (P := Tryd.prog) (w := W) base 48 ty 88 i0 _ 2 16 Tryd.underlying48 hi hz0 hz1 hz2 rfl (by omega) v l.length (pc l) ho ad m.length c (pc m) (pc_length m) (fun j x hj => by
      have hjl : j < m.length * 2 := by have := (List.getElem?_eq_some_iff.1 hj).1; rwa [pc_length] at this
      obtain ⟨b, o, hA, hcell⟩ := h3 (by omega)
      cases hA
      have hg := pc_get m (j / 2) (by omega)
      obtain ⟨c0, c1⟩ := hcell (j / 2) (by omega)
      rw [Addr.add_mid]
      by_cases he : j % 2 = 0
      · rw [show j = 2 * (j / 2) by omega] at hj ⊢
        rw [hg.1] at hj; cases hj
        exact c0
      · rw [show j = 2 * (j / 2) + 1 by omega] at hj ⊢
        rw [hg.2] at hj; cases hj
        rw [← Nat.add_assoc]
        exact c1) (pc_one m) (by unfold maxLen; omega) (by omega) hb
    exact ⟨v', w', hr, by rw [List.length_append, pc_append]; exact ho', hg⟩
end Go.Proofs.YtchpmdcacpjojaaDoor
/- Steps that are cloned lie in memory that is new. -/
namespace Go.Proofs.YtchpmdcacpjojaaDoor
open Go Go.RowKit
set_option maxRecDepth 8000
set_option linter.all false
/-- Steps, in a block from B on. -/
def RdPB (w : World) (B : Nat) (v : Value) (l : List (Int × Int)) : Prop := RdP w v l ∧ (0 < l.length → ∀ a n c, v = .slice (some a) n c → B ≤ a.block)
/-- Bytes, in a block from B on. -/
def RdVB (w : World) (B : Nat) (v : Value) (l : List UInt8) : Prop := ∀ L, (∀ k ∈ L, k < B) → RdV w L v l
theorem RT.pairs {R : Nat} {w w' : World} (h : RT R w w') {v : Value} {l : List (Int × Int)} (hr : RdP w v l) (hne : 0 < l.length → ∀ a n c, v = .slice (some a) n c → a.block ≠ R) : RdP w' v l := by
  obtain ⟨A, cap, rfl, h1, h2, h3⟩ := hr
  refine ⟨A, cap, rfl, h1, h2, fun h0 => ?_⟩
  obtain ⟨b, o, rfl, hc⟩ := h3 h0
  have hb : b ≠ R := hne h0 ⟨b, o, none⟩ _ _ rfl
  exact ⟨b, o, rfl, fun i hi => ⟨h.keep.cell (a := ⟨b, o + 2 * i, none⟩) (by simpa using hb) (hc i hi).1, h.keep.cell (a := ⟨b, o + 2 * i + 1, none⟩) (by simpa using hb) (hc i hi).2⟩⟩
theorem RdPB.rt {R B : Nat} {w w' : World} {v : Value} {l : List (Int × Int)} (h : RdPB w B v l) (hT : RT R w w') (hR : R < B) : RdPB w' B v l :=
  ⟨hT.pairs h.1 fun h0 a n c e => by have := h.2 h0 a n c e; omega, h.2⟩
theorem RdPB.new {B : Nat} {w w' : World} {v : Value} {l : List (Int × Int)} (h : RdPB w B v l) (hT : NewT w w') : RdPB w' B v l := ⟨hT.pairs h.1, h.2⟩
theorem RdPB.mono {B B' : Nat} {w : World} {v : Value} {l : List (Int × Int)} (h : RdPB w B v l) (hB : B' ≤ B) : RdPB w B' v l := ⟨h.1, fun h0 a n c e => Nat.le_trans hB (h.2 h0 a n c e)⟩
theorem RdVB.rt {R B : Nat} {w w' : World} {v : Value} {l : List UInt8} (h : RdVB w B v l) (hT : RT R w w') (hR : R < B) : RdVB w' B v l := fun L hL =>
  ((h (R :: L) (fun k hk => by rcases List.mem_cons.1 hk with rfl | hk; exact hR; exact hL k hk)).keep (hT.keep.more (by simp))).less (fun k hk => by simp [hk])
theorem RdVB.new {B : Nat} {w w' : World} {v : Value} {l : List UInt8} (h : RdVB w B v l) (hT : NewT w w') : RdVB w' B v l := fun L hL => hT.rd (h L hL)
theorem RdVB.out {B : Nat} {w : World} {v : Value} {l : List UInt8} (h : RdVB w B v l) : RdV w [] v l := h [] (by simp)
theorem RdVB.mono {B B' : Nat} {w : World} {v : Value} {l : List UInt8} (h : RdVB w B v l) (hB : B' ≤ B) : RdVB w B' v l := fun L hL => h L fun k hk => Nat.lt_of_lt_of_le (hL k hk) hB
def svPairsN (B : Nat) (l : List (Int × Int)) : SV NewT := ⟨fun v w => RdPB w B v l, fun _ _ _ h hT => h.new hT⟩
def svPairsB (R : Nat) (l : List (Int × Int)) : SV (RT R) := ⟨fun v w => RdPB w (R + 1) v l, fun _ _ _ h hT => h.rt hT (Nat.lt_succ_self _)⟩
def svRdB (R : Nat) (l : List UInt8) : SV (RT R) := ⟨fun v w => RdVB w (R + 1) v l, fun _ _ _ h hT => h.rt hT (Nat.lt_succ_self _)⟩
end Go.Proofs.YtchpmdcacpjojaaDoor
/- Slices of structs of n cells: they read as lists of rows, and as lists of what the rows say; elements, beginnings, rows of the call's own, appends. No program is named here. -/
namespace Go.Proofs.YtchpmdcacpjojaaDoor
open Go Go.RowKit
set_option maxRecDepth 8000
set_option linter.all false
/-- The cells of rows, one behind the other. -/
def ecs (n : Nat) (l : List (Nat → Value)) : List Value := l.flatMap fun d => (List.range n).map d
theorem ecs_length (n : Nat) (l : List (Nat → Value)) : (ecs n l).length = l.length * n := by
  induction l with
  | nil => simp [ecs]
  | cons d l ih => rw [ecs, List.flatMap_cons, List.length_append, show (l.flatMap fun d => (List.range n).map d) = ecs n l from rfl, ih]; simp [Nat.succ_mul]; omega
theorem ecs_app (n : Nat) (a b : List (Nat → Value)) : ecs n (a ++ b) = ecs n a ++ ecs n b := by simp [ecs]
theorem ecs_at (n : Nat) (l : List (Nat → Value)) : ∀ (i : Nat) (d : Nat → Value), l[i]? = some d → ∀ j, j < n → (ecs n l)[i * n + j]? = some (d j) := by
  induction l with
  | nil => intro i d h; simp at h
  | cons e l ih =>
    intro i d h j hj
    have hl : ((List.range n).map e).length = n := by simp
    rw [show ecs n (e :: l) = (List.range n).map e ++ ecs n l from rfl]
    cases i with
    | zero => simp at h; subst h; rw [List.getElem?_append_left (by rw [hl]; omega)]; simp [hj]
    | succ i => rw [List.getElem?_append_right (by rw [hl, Nat.succ_mul]; omega), hl, show (i + 1) * n + j - n = i * n + j by rw [Nat.succ_mul]; omega]; exact ih i d (by simpa using h) j hj
/-- Each of the rows' cells is one. -/
def OneE (n : Nat) (l : List (Nat → Value)) : Prop := ∀ f ∈ l, ∀ j, j < n → (f j).oneCell' = true
theorem ecs_one {n : Nat} {l : List (Nat → Value)} (h : OneE n l) : ∀ u ∈ ecs n l, u.oneCell' = true := by
  intro u hu
  obtain ⟨d, hd, h'⟩ := List.mem_flatMap.1 hu
  obtain ⟨j, hj, rfl⟩ := List.mem_map.1 h'
  exact h d hd j (by simpa using hj)
def RdE (n : Nat) (W : World) (v : Value) (l : List (Nat → Value)) : Prop :=
  ∃ A cap, v = .slice A l.length cap ∧ l.length ≤ cap ∧ cap ≤ maxLen ∧ (0 < l.length → ∃ b o, A = some ⟨b, o, none⟩ ∧ ∀ i d, l[i]? = some d → ∀ j, j < n → W.cell? ⟨b, o + i * n + j, none⟩ = some (d j))
theorem RdE.new {n : Nat} {w w' : World} {v : Value} {l : List (Nat → Value)} (h : RdE n w v l) (hN : NewT w w') : RdE n w' v l := by
  obtain ⟨A, c, hv, h1, h2, h3⟩ := h
  refine ⟨A, c, hv, h1, h2, fun h0 => ?_⟩
  obtain ⟨b, o, hA, hc⟩ := h3 h0
  exact ⟨b, o, hA, fun i d hd j hj => (hN.out.cell (World.block_lt_of_cell? _ _ (hc i d hd j hj))).trans (hc i d hd j hj)⟩
theorem rdE_nil (n : Nat) (w : World) : RdE n w (.slice none 0 0) [] := ⟨none, 0, rfl, Nat.le_refl _, by unfold maxLen; omega, fun h => absurd h (by simp)⟩
theorem RdE.news {n : Nat} {w : World} {l : List (Nat → Value)} {b o m c : Nat} (h : RdE n w (.slice (some ⟨b, o, none⟩) m c) l) : ∀ j u, (ecs n l)[j]? = some u → w.cell? ((⟨b, o, none⟩ : Addr).add j) = some u := by
  intro j u hj
  obtain ⟨A, cap, hv, _, _, h3⟩ := h
  have hlt : j < l.length * n := by rw [← ecs_length]; exact (List.getElem?_eq_some_iff.1 hj).1
  have hn : 0 < n := by rcases Nat.eq_zero_or_pos n with e | e; (rw [e] at hlt; omega); exact e
  have hi : j / n < l.length := (Nat.div_lt_iff_lt_mul hn).2 hlt
  obtain ⟨b', o', hA, hc⟩ := h3 (Nat.lt_of_le_of_lt (Nat.zero_le _) hi)
  injection hv with e1 _ _
  rw [hA] at e1
  cases e1
  have hd : l[j / n]? = some l[j / n] := List.getElem?_eq_getElem hi
  have hm := Nat.mod_lt j hn
  have ej : j / n * n + j % n = j := by rw [Nat.mul_comm]; exact Nat.div_add_mod j n
  have h1 := ecs_at n l _ _ hd (j % n) hm
  rw [ej] at h1
  rw [h1] at hj
  cases hj
  have := hc _ _ hd (j % n) hm
  rw [Addr.add_mid, show o + j = o + j / n * n + j % n by omega]
  exact this
/-- What a program says of an element's type. -/
structure ElTy (P : Program) (sT eT : TypeId) (n : Nat) : Prop where
  ul : P.underlying sT = some (.slice eT)
  inf : ∃ i0 z, P.info? eT = some i0 ∧ i0.zero = some z ∧ i0.size = n ∧ i0.bytes ≤ 1000 ∧ z.cells.size = n
  pos : 0 < n
  row : ∃ d, P.underlying eT = some d ∧ d.isRow = true
theorem ElTy.of {P : Program} {sT eT : TypeId} {n b : Nat} {z : Value} {d : TypeDesc} (h1 : P.underlying sT = some (.slice eT)) (h2 : (P.info? eT).map (fun i => (i.zero, i.size, i.bytes)) = some (some z, n, b)) (hb : b ≤ 1000) (hz : z.cells.size = n) (h0 : 0 < n) (h3 : P.underlying eT = some d) (h4 : d.isRow = true) : ElTy P sT eT n := by
  refine ⟨h1, ?_, h0, d, h3, h4⟩
  cases hq : P.info? eT with
  | none => rw [hq] at h2; cases h2
  | some i => rw [hq] at h2; simp at h2; exact ⟨i, z, rfl, h2.1, h2.2.1, by omega, hz⟩
section
variable {P : Program} {sT eT : TypeId} {n : Nat}
theorem ElTy.size (T : ElTy P sT eT n) (w : World) : (sizeOf eT).run P w = .ok n w := by
  obtain ⟨i0, z, h1, _, h2, _⟩ := T.inf
  simp [sizeOf, typeInfo, h1, h2]
theorem ElTy.map (T : ElTy P sT eT n) : (P.info? eT).map (·.size) = some n := by
  obtain ⟨i0, z, h1, _, h2, _⟩ := T.inf
  rw [h1]; simp [h2]
theorem run_idxE (T : ElTy P sT eT n) {b off m c i : Nat} (w : World) (hi : i < m) : (Instr.indexAt sT (.slice (some ⟨b, off, none⟩) m c) (.int .i64 (i : Int))).run P w = .ok (.pointer (some ⟨b, off + i * n, none⟩)) w := by
  have hs := T.size w
  simp [Instr.indexAt, asIntOf, run_underlying T.ul, hi, hs, Addr.add_mid]
theorem run_ldE (T : ElTy P sT eT n) {b off : Nat} {d : Nat → Value} {w : World} (hc : ∀ j, j < n → w.cell? ⟨b, off + j, none⟩ = some (d j)) : (Instr.loadAt eT (.pointer (some ⟨b, off, none⟩))).run P w = .ok (.agg (rowA n d)) w := by
  have hr : w.rangeAt b off (rowA n d).toList := fun j v hv => by
    rw [rowA_toList] at hv
    have hj : j < n := by have := (List.getElem?_eq_some_iff.1 hv).1; simpa using this
    simp [hj] at hv
    subst hv
    exact hc j hj
  obtain ⟨dd, h1, h2⟩ := T.row
  have := run_loadAt_mid (P := P) w b off eT (rowA n d).toList _ hr h1 h2 (by rw [rowA_toList]; simpa using T.map)
  simpa using this
theorem run_toE (T : ElTy P sT eT n) {A : Option Addr} {m c k : Nat} (w : World) (hk : k ≤ m) (hn : m ≤ c) : (Instr.slice sT (.slice A m c) none (some (.int .i64 (k : Int))) none).run P w = .ok (.slice A k c) w := by
  have h1 : k ≤ c := by omega
  have hs := T.size w
  have e : A.map (fun a => a.add 0) = A := by cases A <;> simp [Addr.add_zero']
  by_cases hc0 : c = 0
  · obtain rfl : k = 0 := by omega
    subst hc0; simp [Instr.slice, run_underlying T.ul, Instr.sliceBounds, Instr.sliceBound, asIntOf, hs, h1]
  · simp [Instr.slice, run_underlying T.ul, Instr.sliceBounds, Instr.sliceBound, asIntOf, hs, h1, hc0, e]
theorem run_fromE (T : ElTy P sT eT n) {A : Option Addr} {m c k : Nat} (w : World) (hk : k ≤ m) : (Instr.slice sT (.slice A m c) (some (.int .i64 (k : Int))) none none).run P w = .ok (.slice (if c = k then A else A.map (·.add (k * n))) (m - k) (c - k)) w := by
  have h1 : k ≤ m := hk
  have hs := T.size w
  by_cases hc : c = k
  · simp [Instr.slice, run_underlying T.ul, Instr.sliceBounds, Instr.sliceBound, asIntOf, hs, h1, hc]
  · simp [Instr.slice, run_underlying T.ul, Instr.sliceBounds, Instr.sliceBound, asIntOf, hs, h1, hc]
theorem rdE_take {w : World} {A : Option Addr} {l : List (Nat → Value)} {c k : Nat} (h : RdE n w (.slice A l.length c) l) (hk : k ≤ l.length) : RdE n w (.slice A k c) (l.take k) := by
  obtain ⟨A', c', hv, h1, h2, h3⟩ := h
  cases hv
  have hl : (l.take k).length = k := by rw [List.length_take]; omega
  refine ⟨A, c, by rw [hl], by rw [hl]; omega, h2, fun h0 => ?_⟩
  rw [hl] at h0
  obtain ⟨b, off, hA, hc⟩ := h3 (by omega)
  refine ⟨b, off, hA, fun i d hd j hj => hc i d ?_ j hj⟩
  rw [List.getElem?_take] at hd
  split at hd
  · exact hd
  · cases hd
theorem rdE_drop {w : World} {A : Option Addr} {l : List (Nat → Value)} {c k : Nat} (h : RdE n w (.slice A l.length c) l) (hk : k ≤ l.length) : RdE n w (.slice (if c = k then A else A.map (·.add (k * n))) (l.length - k) (c - k)) (l.drop k) := by
  obtain ⟨A', c', hv, h1, h2, h3⟩ := h
  cases hv
  have hl : (l.drop k).length = l.length - k := by simp
  refine ⟨_, c - k, by rw [hl], by rw [hl]; omega, by omega, fun h0 => ?_⟩
  rw [hl] at h0
  obtain ⟨b, off, rfl, hc⟩ := h3 (by omega)
  refine ⟨b, off + k * n, by rw [if_neg (by omega)]; simp [Addr.add_mid], fun i d hd j hj => ?_⟩
  have := hc (k + i) d (by simpa using hd) j hj
  rw [show off + k * n + i * n + j = off + (k + i) * n + j by rw [Nat.add_mul]; omega]
  exact this
/-- A row of the call's own, in blocks from B on. -/
def OwnE (eT : TypeId) (n : Nat) (W : World) (B : Nat) (v : Value) (l : List (Nat → Value)) : Prop := W.ownsRow B eT n v l.length (ecs n l)
theorem OwnE.rd {W : World} {B : Nat} {v : Value} {l : List (Nat → Value)} (h : OwnE eT n W B v l) : RdE n W v l := by
  have hh := h
  rcases h.2 with ⟨rfl, h0⟩ | ⟨g, cap, cur, rfl, hb, _, hnc, hcm, _, _⟩
  · have : l = [] := List.eq_nil_of_length_eq_zero h0
    subst this
    exact rdE_nil n W
  · refine ⟨some ⟨g, 0, none⟩, cap, rfl, hnc, hcm, fun _ => ⟨g, 0, rfl, fun i d hd j hj => ?_⟩⟩
    have hc := World.ownsRow.cells hh (g := g) rfl (i * n + j) _ (ecs_at n l i d hd j hj)
    rw [Addr.add_mid] at hc
    rw [Nat.add_assoc]; exact hc
theorem ownE_nil (W : World) (B : Nat) : OwnE eT n W B (.slice none 0 0) [] := by
  have := World.ownsRow_nil W B eT n
  simpa [OwnE, ecs] using this
theorem OwnE.lt {W : World} {B : Nat} {v : Value} {l : List (Nat → Value)} (h : OwnE eT n W B v l) : ∀ k, v.ownBlock = some k → B ≤ k ∧ k < W.heap.size := World.ownsRow.lt h
theorem OwnE.keep {W W' : World} {B : Nat} {v : Value} {l : List (Nat → Value)} (h : OwnE eT n W B v l) (hk : ∀ k, v.ownBlock = some k → W'.heap[k]? = W.heap[k]?) : OwnE eT n W' B v l := by
  obtain ⟨h1, h2⟩ := h
  refine ⟨h1, ?_⟩
  rcases h2 with h2 | ⟨g, cap, cur, hv, hb, hg, r⟩
  · exact .inl h2
  · exact .inr ⟨g, cap, cur, hv, hb, (hk g (by rw [hv]; rfl)).trans hg, r⟩
theorem OwnE.new {W W' : World} {B : Nat} {v : Value} {l : List (Nat → Value)} (h : OwnE eT n W B v l) (hN : NewT W W') : OwnE eT n W' B v l := h.keep fun k hk => hN.out.block k (h.lt k hk).2
theorem OwnE.mono {W : World} {B B' : Nat} {v : Value} {l : List (Nat → Value)} (h : OwnE eT n W B v l) (hB : B' ≤ B) : OwnE eT n W B' v l := by
  obtain ⟨h1, h2⟩ := h
  refine ⟨h1, ?_⟩
  rcases h2 with h2 | ⟨g, cap, cur, hv, hb, r⟩
  · exact .inl h2
  · exact .inr ⟨g, cap, cur, hv, Nat.le_trans hB hb, r⟩
theorem OwnE.form {W : World} {B : Nat} {v : Value} {l : List (Nat → Value)} (h : OwnE eT n W B v l) : ∃ A c, v = .slice A l.length c ∧ l.length ≤ c := by
  rcases h.2 with ⟨hv, h0⟩ | ⟨g, cap, cur, hv, _, _, hc, _⟩
  · exact ⟨none, 0, by rw [hv, h0], by omega⟩
  · exact ⟨_, cap, hv, hc⟩
theorem run_appE (T : ElTy P sT eT n) {W : World} {B : Nat} {v u : Value} {l m : List (Nat → Value)} (h : OwnE eT n W B v l) (hr : RdE n W u m) (h1 : OneE n m) (hn : l.length + m.length ≤ 1000000) (hB : B ≤ W.heap.size) (ty : TypeId) :
    ∃ v' w', (Builtin.append_ #[sT, sT] ty #[v, u]).run P W = .ok v' w' ∧ OwnE eT n w' B v' (l ++ m) ∧ W.grownBy w' v.ownBlock := by
  obtain ⟨i0, z, hi, hz0, hz1, hz2, hz3⟩ := T.inf
  have hr0 := hr
  obtain ⟨A, cap, rfl, k1, k2, k3⟩ := hr
  cases A with
  | none =>
    have h0 : m = [] := by
      cases m with
      | nil => rfl
      | cons b l => obtain ⟨_, _, h, _⟩ := k3 (by simp); cases h
    subst h0
    refine ⟨v, W, ?_, by simpa using h, World.grownBy.refl W _⟩
    rcases h.2 with ⟨rfl, h0⟩ | ⟨g, cap', cur, rfl, _, _, hnc, _⟩
    · simp [Builtin.append_, run_underlying T.ul, sizeOf, typeInfo, hi, Builtin.lenOf, Builtin.firstCells]
    · simp [Builtin.append_, run_underlying T.ul, sizeOf, typeInfo, hi, Builtin.lenOf, Builtin.firstCells, hnc, storeCells]
  | some ad =>
    have hcells : ∀ j u, (ecs n m)[j]? = some u → W.cell? (ad.add j) = some u := fun j u hj => by
      have hlt : j < m.length * n := by rw [← ecs_length]; exact (List.getElem?_eq_some_iff.1 hj).1
      have hm : 0 < m.length := by rcases Nat.eq_zero_or_pos m.length with e | e; (rw [e] at hlt; omega); exact e
      obtain ⟨b, o, hA, _⟩ := k3 hm
      cases hA
      exact hr0.news j u hj
    obtain ⟨v', w', hrun, ho, hg, _⟩ := run_append_own (P := P) W B sT ty eT i0 _ n i0.bytes T.ul hi hz0 hz1 rfl hz3 T.pos v l.length (ecs n l) h ad m.length cap (ecs n m) (ecs_length n m) hcells (ecs_one h1) (by unfold maxLen; omega) (Nat.le_trans (Nat.mul_le_mul hn hz2) (by omega)) hB
    refine ⟨v', w', hrun, ?_, hg⟩
    unfold OwnE
    rw [List.length_append, ecs_app]
    exact ho
/-- One row of cells is a slice of one. -/
theorem rdE_one (w : World) (t : TypeId) (d : Nat → Value) : RdE n (w.alloc (.cells (rowA n d) t)) (.slice (some ⟨w.heap.size, 0, none⟩) 1 1) [d] := by
  refine ⟨some ⟨w.heap.size, 0, none⟩, 1, rfl, by simp, by simp [maxLen], fun _ => ⟨w.heap.size, 0, rfl, fun i e he j hj => ?_⟩⟩
  have hi : i < 1 := (List.getElem?_eq_some_iff.1 he).1
  obtain rfl : i = 0 := by omega
  simp at he
  subst he
  rw [show 0 + 0 * n + j = j by simp]
  exact (rowIs_box w t n d).cell hj
/-- 'append(v, x)' in two steps: a slice of one, and the appending. -/
theorem app_oneE (T : ElTy P sT eT n) {W : World} {B : Nat} {v : Value} {l : List (Nat → Value)} {d : Nat → Value} (h : OwnE eT n W B v l) (h1 : ∀ j, j < n → (d j).oneCell' = true) (hn : l.length + 1 ≤ 1000000) (hB : B ≤ W.heap.size) (ty : TypeId) :
    ∃ v' w', (Builtin.append_ #[sT, sT] ty #[v, .slice (some ⟨W.heap.size, 0, none⟩) 1 1]).run P (W.alloc (.cells (rowA n d) eT)) = .ok v' w' ∧ OwnE eT n w' B v' (l ++ [d]) ∧ Below B W w' ∧ ∀ k, k < W.heap.size → some k ≠ v.ownBlock → w'.heap[k]? = W.heap[k]? := by
  have hN := NewT.alloc W (.cells (rowA n d) eT)
  obtain ⟨v', w', h2, h3, h4⟩ := run_appE T (h.new hN) (rdE_one W eT d) (fun f hf j hj => by simp at hf; subst hf; exact h1 j hj) (by simpa using hn) (Nat.le_trans hB hN.out.size) ty
  refine ⟨v', w', h2, h3, (hN.out.mono hB).grown h4 (Nat.le_trans hB hN.out.size) (fun k hk => (h.lt k hk).1), fun k hk hne => ?_⟩
  have := h4.block k (by have := hN.out.size; omega) hne
  exact this.trans (hN.out.block k hk)
end
section
variable {α : Type}
/-- A slice of structs that reads as a list of what they say. -/
def RdL (n : Nat) (E : World → (Nat → Value) → α → Prop) (W : World) (v : Value) (L : List α) : Prop :=
  ∃ fs : List (Nat → Value), RdE n W v fs ∧ fs.length = L.length ∧ ∀ (i : Nat) (p : α), L[i]? = some p → ∃ f : Nat → Value, fs[i]? = some f ∧ E W f p
/-- What is said stands while memory is but made. -/
class StbE (E : World → (Nat → Value) → α → Prop) : Prop where
  new : ∀ {w w' : World} {f : Nat → Value} {p : α}, E w f p → NewT w w' → E w' f p
variable {n : Nat} {E : World → (Nat → Value) → α → Prop}
theorem RdL.new [StbE E] {w w' : World} {v : Value} {L : List α} (h : RdL n E w v L) (hN : NewT w w') : RdL n E w' v L := by
  obtain ⟨fs, h1, h2, h3⟩ := h
  refine ⟨fs, h1.new hN, h2, fun i p hp => ?_⟩
  obtain ⟨f, e1, e2⟩ := h3 i p hp
  exact ⟨f, e1, StbE.new e2 hN⟩
theorem rdL_nil (w : World) : RdL n E w (.slice none 0 0) [] := ⟨[], rdE_nil n w, rfl, fun i p h => by simp at h⟩
theorem RdL.form {w : World} {v : Value} {L : List α} (h : RdL n E w v L) : ∃ A c, v = .slice A L.length c ∧ L.length ≤ c ∧ c ≤ maxLen := by
  obtain ⟨fs, ⟨A, c, hv, h1, h2, _⟩, e, _⟩ := h
  rw [e] at hv h1
  exact ⟨A, c, hv, h1, h2⟩
theorem RdL.one {w : World} {v : Value} {L : List α} (h : RdL n E w v L) : v.oneCell' = true := by
  obtain ⟨A, c, rfl, _⟩ := h.form; rfl
def svL (n : Nat) (E : World → (Nat → Value) → α → Prop) [StbE E] (L : List α) : SV NewT := ⟨fun v w => RdL n E w v L, fun _ _ _ h hT => h.new hT⟩
/-- A place where an element lies. -/
def svEl (n : Nat) (E : World → (Nat → Value) → α → Prop) [StbE E] (p : α) : SV NewT := ⟨fun v w => ∃ b o f, v = .pointer (some ⟨b, o, none⟩) ∧ (0 < n → ∀ j, j < n → w.cell? ⟨b, o + j, none⟩ = some (f j)) ∧ E w f p,
  fun v w w' h hT => by
    obtain ⟨b, o, f, h1, h2, h3⟩ := h
    refine ⟨b, o, f, h1, fun h0 j hj => ?_, StbE.new h3 hT⟩
    have := h2 h0 j hj
    exact (hT.out.cell (p := ⟨b, o + j, none⟩) (World.block_lt_of_cell? _ _ this)).trans this⟩
/-- A row that says something. -/
def svAg (n : Nat) (E : World → (Nat → Value) → α → Prop) [StbE E] (p : α) : SV NewT := ⟨fun v w => ∃ f, v = .agg (rowA n f) ∧ E w f p, fun _ _ _ ⟨f, h1, h2⟩ hT => ⟨f, h1, StbE.new h2 hT⟩⟩
section
variable {P : Program} {sT eT : TypeId} {a : Act} {w : World} {o : Oper} {K : Act → World → Prop} {Q : Exit → Act → World → Prop} {x y : Operand} [StbE E]
theorem opr_lenL {L : List α} (ho : o.op = .call { callee := .builtin .len, args := #[x], argTypes := #[sT] }) (T : ElTy Tryd.prog sT eT n) (hx : RdL n E w (a.eval x) L) (h : K (a.put o.dst (.int .i64 (L.length : Int))) w) : o.wp Tryd.prog a w K Q := by
  obtain ⟨A, c, hv, _⟩ := hx.form
  exact opr_len ho T.ul hv h
theorem opr_idxL {L : List α} {i : Nat} {m : Int} {p : α} (T : ElTy P sT eT n) (hd : L[i]? = some p) (hn : m = (i : Int)) (ho : o.op = .indexAddr sT x y) (hx : RdL n E w (a.eval x) L) (hy : a.eval y = .int .i64 m) (h : ∀ v, (svEl n E p).pred v w → K (a.put o.dst v) w) : o.wp P a w K Q := by
  subst hn
  obtain ⟨dst, op, type, pos, after, guard⟩ := o
  simp only at ho
  subst ho
  obtain ⟨fs, ⟨A, c, hv, _, _, h3⟩, e, h4⟩ := hx
  have hi : i < fs.length := by rw [e]; exact (List.getElem?_eq_some_iff.1 hd).1
  obtain ⟨f, hf, hE⟩ := h4 i p hd
  obtain ⟨b, off, rfl, hc⟩ := h3 (by omega)
  exact opr_val (s := Instr.indexAt sT (a.eval x) (a.eval y)) rfl (by rw [hv, hy]; exact run_idxE T w hi) (h _ ⟨b, off + i * n, f, rfl, fun _ j hj => hc i f hf j hj, hE⟩)
theorem opr_ldL {p : α} (T : ElTy P sT eT n) (ho : o.op = .load eT x) (hx : (svEl n E p).pred (a.eval x) w) (h : ∀ v, (svAg n E p).pred v w → K (a.put o.dst v) w) : o.wp P a w K Q := by
  obtain ⟨dst, op, type, pos, after, guard⟩ := o
  simp only at ho
  subst ho
  obtain ⟨b, off, f, hv, hc, hE⟩ := hx
  exact opr_val (s := Instr.loadAt eT (a.eval x)) rfl (by rw [hv]; exact run_ldE T (hc T.pos)) (h _ ⟨f, rfl, hE⟩)
theorem RdL.take {A : Option Addr} {L : List α} {c k : Nat} (h : RdL n E w (.slice A L.length c) L) (hk : k ≤ L.length) : RdL n E w (.slice A k c) (L.take k) := by
  obtain ⟨fs, h1, e, h3⟩ := h
  rw [← e] at h1
  refine ⟨fs.take k, rdE_take h1 (by omega), by rw [List.length_take, List.length_take, e], fun i p hp => ?_⟩
  rw [List.getElem?_take] at hp ⊢
  split at hp
  next hlt => rw [if_pos hlt]; exact h3 i p hp
  next => cases hp
theorem RdL.drop {A : Option Addr} {L : List α} {c k : Nat} (h : RdL n E w (.slice A L.length c) L) (hk : k ≤ L.length) : RdL n E w (.slice (if c = k then A else A.map (·.add (k * n))) (L.length - k) (c - k)) (L.drop k) := by
  obtain ⟨fs, h1, e, h3⟩ := h
  rw [← e] at h1
  refine ⟨fs.drop k, by rw [← e]; exact rdE_drop h1 (by omega), by simp [e], fun i p hp => ?_⟩
  rw [List.getElem?_drop] at hp ⊢
  exact h3 _ p hp
/-- 'l[:k]'. -/
theorem opr_toL {L : List α} {k : Nat} {m : Int} (T : ElTy P sT eT n) (hk : k ≤ L.length) (hn : m = (k : Int)) (ho : o.op = .slice sT x none (some y) none) (hx : RdL n E w (a.eval x) L) (hy : a.eval y = .int .i64 m) (h : ∀ v, (svL n E (L.take k)).pred v w → K (a.put o.dst v) w) : o.wp P a w K Q := by
  subst hn
  obtain ⟨dst, op, type, pos, after, guard⟩ := o
  simp only at ho
  subst ho
  obtain ⟨A, c, hv, hc, _⟩ := hx.form
  rw [hv] at hx
  exact opr_val (s := Instr.sliceAt sT (a.eval x) none (some (a.eval y)) none) (by simp [execOp]) (by rw [hv, hy]; simp [Instr.sliceAt, run_underlying T.ul]; exact run_toE T w hk hc) (h _ (hx.take hk))
/-- 'l[k:]'. -/
theorem opr_fromL {L : List α} {k : Nat} {m : Int} (T : ElTy P sT eT n) (hk : k ≤ L.length) (hn : m = (k : Int)) (ho : o.op = .slice sT x (some y) none none) (hx : RdL n E w (a.eval x) L) (hy : a.eval y = .int .i64 m) (h : ∀ v, (svL n E (L.drop k)).pred v w → K (a.put o.dst v) w) : o.wp P a w K Q := by
  subst hn
  obtain ⟨dst, op, type, pos, after, guard⟩ := o
  simp only at ho
  subst ho
  obtain ⟨A, c, hv, hc, _⟩ := hx.form
  rw [hv] at hx
  exact opr_val (s := Instr.sliceAt sT (a.eval x) (some (a.eval y)) none none) (by simp [execOp]) (by rw [hv, hy]; simp [Instr.sliceAt, run_underlying T.ul]; exact run_fromE T w hk) (h _ (hx.drop hk))
end
/-- A row of the call's own, in blocks from B on, whose elements say the list. -/
def OwnL (eT : TypeId) (n : Nat) (E : World → (Nat → Value) → α → Prop) (W : World) (B : Nat) (v : Value) (L : List α) : Prop :=
  ∃ fs : List (Nat → Value), OwnE eT n W B v fs ∧ fs.length = L.length ∧ ∀ (i : Nat) (p : α), L[i]? = some p → ∃ f : Nat → Value, fs[i]? = some f ∧ E W f p
variable {eT : TypeId}
theorem OwnL.rd {W : World} {B : Nat} {v : Value} {L : List α} (h : OwnL eT n E W B v L) : RdL n E W v L := by
  obtain ⟨fs, h1, h2, h3⟩ := h; exact ⟨fs, h1.rd, h2, h3⟩
theorem ownL_nil (W : World) (B : Nat) : OwnL eT n E W B (.slice none 0 0) [] := ⟨[], ownE_nil W B, rfl, fun i p h => by simp at h⟩
theorem OwnL.lt {W : World} {B : Nat} {v : Value} {L : List α} (h : OwnL eT n E W B v L) : ∀ k, v.ownBlock = some k → B ≤ k ∧ k < W.heap.size := by
  obtain ⟨fs, h1, _⟩ := h; exact h1.lt
theorem OwnL.new [StbE E] {W W' : World} {B : Nat} {v : Value} {L : List α} (h : OwnL eT n E W B v L) (hN : NewT W W') : OwnL eT n E W' B v L := by
  obtain ⟨fs, h1, h2, h3⟩ := h
  refine ⟨fs, h1.new hN, h2, fun i p hp => ?_⟩
  obtain ⟨f, e1, e2⟩ := h3 i p hp
  exact ⟨f, e1, StbE.new e2 hN⟩
theorem OwnL.mono {W : World} {B B' : Nat} {v : Value} {L : List α} (h : OwnL eT n E W B v L) (hB : B' ≤ B) : OwnL eT n E W B' v L := by
  obtain ⟨fs, h1, h2⟩ := h; exact ⟨fs, h1.mono hB, h2⟩
def svOwnL (eT : TypeId) (n : Nat) (E : World → (Nat → Value) → α → Prop) [StbE E] (B : Nat) (L : List α) : SV NewT := ⟨fun v w => OwnL eT n E w B v L, fun _ _ _ h hT => h.new hT⟩
end
end Go.Proofs.YtchpmdcacpjojaaDoor
/- New slices of hashes, and appends onto a call's own. -/
namespace Go.Proofs.YtchpmdcacpjojaaDoor
open Go Go.RowKit
set_option maxRecDepth 8000
set_option linter.all false

theorem infoH : (Tryd.prog.info? 32).map (fun i => (i.zero, i.size, i.bytes)) = some (some (.agg (rowA 32 (bF fun _ => 0))), 32, 32) := by kernel_rfl
theorem run_bsH0 (w : World) : (Instr.buildSlice 22 0 #[]).run Tryd.prog w = .ok (.slice (some ⟨w.heap.size, 0, none⟩) 0 0) (w.alloc (.cells #[] 32)) := by kernel_rfl
theorem run_bsH1 (d : Hs) (w : World) : (Instr.buildSlice 22 1 #[(0, .agg (rowA 32 (bF d)))]).run Tryd.prog w = .ok (.slice (some ⟨w.heap.size, 0, none⟩) 1 1) (w.alloc (.cells (rowA 32 (bF d)) 32)) := by kernel_rfl
theorem run_bsH2 (d e : Hs) (w : World) : (Instr.buildSlice 22 2 #[(0, .agg (rowA 32 (bF d))), (1, .agg (rowA 32 (bF e)))]).run Tryd.prog w = .ok (.slice (some ⟨w.heap.size, 0, none⟩) 2 2) (w.alloc (.cells (rowA 64 fun i => bif Nat.blt i 32 then bF d i else bF e (i - 32)) 32)) := by kernel_rfl
/-- A row of hashes of the call's own, in blocks from B on. -/
def OwnH (W : World) (B : Nat) (v : Value) (l : List Hs) : Prop := W.ownsRow B 32 32 v l.length (hcs l)
theorem OwnH.rd {W : World} {B : Nat} {v : Value} {l : List Hs} (h : OwnH W B v l) : RdH W v l := rdH_own h
theorem ownH_nil (W : World) (B : Nat) : OwnH W B (.slice none 0 0) [] := World.ownsRow_nil W B _ _
theorem OwnH.lt {W : World} {B : Nat} {v : Value} {l : List Hs} (h : OwnH W B v l) : ∀ k, v.ownBlock = some k → B ≤ k ∧ k < W.heap.size := World.ownsRow.lt h
theorem OwnH.keep {W W' : World} {B : Nat} {v : Value} {l : List Hs} (h : OwnH W B v l) (hk : ∀ k, v.ownBlock = some k → W'.heap[k]? = W.heap[k]?) : OwnH W' B v l := by
  obtain ⟨h1, h2⟩ := h
  refine ⟨h1, ?_⟩
  rcases h2 with h2 | ⟨g, cap, cur, hv, hb, hg, r⟩
  · exact .inl h2
  · exact .inr ⟨g, cap, cur, hv, hb, (hk g (by rw [hv]; rfl)).trans hg, r⟩
theorem OwnH.new {W W' : World} {B : Nat} {v : Value} {l : List Hs} (h : OwnH W B v l) (hN : NewT W W') : OwnH W' B v l := h.keep fun k hk => hN.out.block k (h.lt k hk).2
theorem OwnH.cap {W : World} {B : Nat} {v : Value} {l : List Hs} (h : OwnH W B v l) : ∃ A c, v = .slice A l.length c ∧ l.length ≤ c := by
  rcases h.2 with ⟨hv, h0⟩ | ⟨g, cap, cur, hv, _, _, hc, _⟩
  · exact ⟨none, 0, by rw [hv, h0], by omega⟩
  · exact ⟨_, cap, hv, hc⟩
/-- The last ones are left off. -/
theorem OwnH.take {W : World} {B : Nat} {A : Option Addr} {n c k : Nat} {l : List Hs} (h : OwnH W B (.slice A n c) l) (hk : k ≤ l.length) (h0 : 0 < l.length) : OwnH W B (.slice A k c) (l.take k) := by
  have hl : (l.take k).length = k := by rw [List.length_take]; omega
  refine ⟨hcs_length _, ?_⟩
  rcases h.2 with ⟨_, h2⟩ | ⟨g, cap, cur, hv, hb, hg, hc, hm, hs, hx⟩
  · omega
  · cases hv
    refine .inr ⟨g, c, cur, by rw [hl], hb, hg, by rw [hl]; omega, hm, hs, ?_⟩
    have e := congrArg (List.take (k * 32)) hx
    rw [List.take_take, hcs_take l k hk, Nat.min_eq_left (Nat.mul_le_mul_right 32 hk)] at e
    rw [hl]; exact e
theorem run_appH {W : World} {B : Nat} {v u : Value} {l m : List Hs} (h : OwnH W B v l) (hr : RdH W u m) (hn : l.length + m.length ≤ 1000000) (hB : B ≤ W.heap.size) (ty : TypeId) :
    ∃ v' w', (Builtin.append_ #[22, 22] ty #[v, u]).run Tryd.prog W = .ok v' w' ∧ OwnH w' B v' (l ++ m) ∧ W.grownBy w' v.ownBlock := by
  obtain ⟨i0, hi, hz0, hz1, hz2⟩ := info_parts infoH
  have hr0 := hr
  obtain ⟨A, cap, rfl, h1, h2, h3⟩ := hr
  cases A with
  | none =>
    have h0 : m = [] := by
      cases m with
      | nil => rfl
      | cons b l => obtain ⟨_, _, h, _⟩ := h3 (by simp); cases h
    subst h0
    refine ⟨v, W, ?_, by simpa using h, World.grownBy.refl W _⟩
    rcases h.2 with ⟨rfl, h0⟩ | ⟨g, cap', cur, rfl, _, _, hnc, _⟩
    · simp [Builtin.append_, run_underlying Tryd.underlying22, sizeOf, typeInfo, hi, Builtin.lenOf, Builtin.firstCells]
    · simp [Builtin.append_, run_underlying Tryd.underlying22, sizeOf, typeInfo, hi, Builtin.lenOf, Builtin.firstCells, hnc, storeCells]
  | some ad =>
    have hcells : ∀ j u, (hcs m)[j]? = some u → W.cell? (ad.add j) = some u := fun j u hj => by
      have hlt : j < m.length * 32 := by rw [← hcs_length]; exact (List.getElem?_eq_some_iff.1 hj).1
      obtain ⟨b, o, hA, _⟩ := h3 (by omega)
      cases hA
      exact hr0.news j u hj
    obtain ⟨v', w', hrun, ho, hg, _⟩ := run_append_own (P := Tryd.prog) W B 22 ty 32 i0 _ 32 32 Tryd.underlying22 hi hz0 hz1 hz2 (by rw [show (Value.agg (rowA 32 (bF fun _ => 0))).cells = rowA 32 (bF fun _ => 0) from rfl, rowA_size]) (by omega) v l.length (hcs l) h ad m.length cap (hcs m) (hcs_length m) hcells (hcs_one_cell m) (by unfold maxLen; omega) (by omega) hB
    refine ⟨v', w', hrun, ?_, hg⟩
    unfold OwnH
    rw [List.length_append, hcs_app]
    exact ho
section
variable {a : Act} {w : World} {o : Oper} {K : Act → World → Prop} {Q : Exit → Act → World → Prop} {x y : Operand}
theorem rdH_one (w : World) (d : Hs) : RdH (w.alloc (.cells (rowA 32 (bF d)) 32)) (.slice (some ⟨w.heap.size, 0, none⟩) 1 1) [d] := by
  refine rdH_row (l := [d]) (rowIs_box w 32 32 (bF d)) (by simp) (by simp [maxLen]) fun i e he j hj => ?_
  have hi : i < 1 := (List.getElem?_eq_some_iff.1 he).1
  obtain rfl : i = 0 := by omega
  simp at he
  subst he
  rw [show 0 * 32 + j = j by omega]
theorem opr_bsH1 {d : Hs} (ho : o.op = .buildSlice 22 1 #[(0, x)]) (hx : a.eval x = .agg (rowA 32 (bF d))) (h : ∀ v w', NewT w w' → RdH w' v [d] → K (a.put o.dst v) w') : o.wp Tryd.prog a w K Q := by
  obtain ⟨dst, op, type, pos, after, guard⟩ := o
  simp only at ho
  subst ho
  exact opr_val (s := Instr.buildSlice 22 1 #[(0, a.eval x)]) (by simp [execOp]) (by rw [hx]; exact run_bsH1 d w) (h _ _ (NewT.alloc _ _) (rdH_one w d))
theorem opr_bsH2 {d e : Hs} (ho : o.op = .buildSlice 22 2 #[(0, x), (1, y)]) (hx : a.eval x = .agg (rowA 32 (bF d))) (hy : a.eval y = .agg (rowA 32 (bF e))) (h : ∀ v w', NewT w w' → RdH w' v [d, e] → K (a.put o.dst v) w') : o.wp Tryd.prog a w K Q := by
  obtain ⟨dst, op, type, pos, after, guard⟩ := o
  simp only at ho
  subst ho
  refine opr_val (s := Instr.buildSlice 22 2 #[(0, a.eval x), (1, a.eval y)]) (by simp [execOp]) (by rw [hx, hy]; exact run_bsH2 d e w) (h _ _ (NewT.alloc _ _) ?_)
  refine rdH_row (l := [d, e]) (rowIs_box w 32 64 _) (by simp) (by simp [maxLen]) fun i f he j hj => ?_
  have hi : i < 2 := (List.getElem?_eq_some_iff.1 he).1
  have hi' : i = 0 ∨ i = 1 := by omega
  rcases hi' with rfl | rfl
  · simp at he; subst he
    have : Nat.blt (0 * 32 + j) 32 = true := by rw [Nat.blt_eq]; omega
    rw [this, show 0 * 32 + j = j by omega]; rfl
  · simp at he; subst he
    have : Nat.blt (1 * 32 + j) 32 = false := by
      cases hb : Nat.blt (1 * 32 + j) 32
      · rfl
      · rw [Nat.blt_eq] at hb; omega
    rw [this, show 1 * 32 + j - 32 = j by omega]; rfl
theorem opr_bsH0 {B : Nat} (ho : o.op = .buildSlice 22 0 #[]) (hB : B ≤ w.heap.size) (h : ∀ v w', NewT w w' → OwnH w' B v [] → K (a.put o.dst v) w') : o.wp Tryd.prog a w K Q := by
  obtain ⟨dst, op, type, pos, after, guard⟩ := o
  simp only at ho
  subst ho
  exact opr_val (s := Instr.buildSlice 22 0 #[]) (by simp [execOp]) (run_bsH0 w) (h _ _ (NewT.alloc _ _) (World.ownsRow_made w #[] 0 hB (by unfold maxLen; omega) (by simp)))
end
end Go.Proofs.YtchpmdcacpjojaaDoor
/- Slices of marks (a witness's number, a tag): they read as lists; elements, new ones, appends. -/
namespace Go.Proofs.YtchpmdcacpjojaaDoor
open Go Go.RowKit
set_option maxRecDepth 8000
set_option linter.all false
def svG (l : List (Int × Hs)) : SV NewT := ⟨fun v w => RdS w v l, fun _ _ _ h hT => hT.sigs h⟩
theorem rdS_form {w : World} {v : Value} {l : List (Int × Hs)} (h : RdS w v l) : ∃ A c, v = .slice A l.length c := by
  obtain ⟨A, c, hv, _⟩ := h; exact ⟨A, c, hv⟩
theorem rdS_nil (w : World) : RdS w (.slice none 0 0) [] := ⟨none, 0, rfl, Nat.le_refl _, by unfold maxLen; omega, fun h => absurd h (by simp)⟩
/-- The cells of marks, one behind the other. -/
def gcs (l : List (Int × Hs)) : List Value := l.flatMap fun d => (List.range 33).map (sigF d)
theorem gcs_length (l : List (Int × Hs)) : (gcs l).length = l.length * 33 := by
  induction l with
  | nil => rfl
  | cons d l ih => rw [gcs, List.flatMap_cons, List.length_append, show (l.flatMap fun d => (List.range 33).map (sigF d)) = gcs l from rfl, ih]; simp; omega
theorem gcs_app (a b : List (Int × Hs)) : gcs (a ++ b) = gcs a ++ gcs b := by simp [gcs]
theorem gcs_one (d : Int × Hs) : gcs [d] = (List.range 33).map (sigF d) := by simp [gcs]
theorem gcs_at (l : List (Int × Hs)) : ∀ (i : Nat) (d : Int × Hs), l[i]? = some d → ∀ j, j < 33 → (gcs l)[i * 33 + j]? = some (sigF d j) := by
  induction l with
  | nil => intro i d h; simp at h
  | cons e l ih =>
    intro i d h j hj
    have hl : ((List.range 33).map (sigF e)).length = 33 := by simp
    rw [show gcs (e :: l) = (List.range 33).map (sigF e) ++ gcs l from rfl]
    cases i with
    | zero => simp at h; subst h; rw [List.getElem?_append_left (by rw [hl]; omega)]; simp [hj]
    | succ i => rw [List.getElem?_append_right (by rw [hl]; omega), hl, show (i + 1) * 33 + j - 33 = i * 33 + j by omega]; exact ih i d (by simpa using h) j hj
theorem gcs_one_cell (l : List (Int × Hs)) : ∀ u ∈ gcs l, u.oneCell' = true := by
  intro u hu
  obtain ⟨d, _, h⟩ := List.mem_flatMap.1 hu
  obtain ⟨j, _, rfl⟩ := List.mem_map.1 h
  unfold sigF; split <;> rfl
theorem gcs_take (l : List (Int × Hs)) (n : Nat) (h : n ≤ l.length) : (gcs l).take (n * 33) = gcs (l.take n) := by
  have e := gcs_app (l.take n) (l.drop n)
  rw [List.take_append_drop] at e
  have hl : (gcs (l.take n)).length = n * 33 := by rw [gcs_length, List.length_take]; congr 1; omega
  rw [e, ← hl, List.take_left]
/-- The cells that a slice of marks reads, as a list. -/
theorem RdS.news {w : World} {l : List (Int × Hs)} {b o n c : Nat} (h : RdS w (.slice (some ⟨b, o, none⟩) n c) l) : ∀ j u, (gcs l)[j]? = some u → w.cell? ((⟨b, o, none⟩ : Addr).add j) = some u := by
  intro j u hj
  obtain ⟨A, cap, hv, _, _, h3⟩ := h
  have hlt : j < l.length * 33 := by rw [← gcs_length]; exact (List.getElem?_eq_some_iff.1 hj).1
  obtain ⟨b', o', hA, hc⟩ := h3 (by omega)
  injection hv with e1 _ _
  rw [hA] at e1
  cases e1
  have hi : j / 33 < l.length := by omega
  have hd : l[j / 33]? = some l[j / 33] := List.getElem?_eq_getElem hi
  have h1 := gcs_at l _ _ hd (j % 33) (by omega)
  rw [show j / 33 * 33 + j % 33 = j by omega] at h1
  rw [h1] at hj
  cases hj
  have := hc _ _ hd (j % 33) (by omega)
  rw [Addr.add_mid, show o + j = o + j / 33 * 33 + j % 33 by omega]
  exact this
/-- A row of cells that holds marks reads as a list. -/
theorem rdS_row {W : World} {g t n : Nat} {f : Nat → Value} {l : List (Int × Hs)} (h : W.rowIs g t n f) (hn : l.length * 33 ≤ n) (hm : l.length ≤ maxLen) (hf : ∀ i d, l[i]? = some d → ∀ j, j < 33 → f (i * 33 + j) = sigF d j) : RdS W (.slice (some ⟨g, 0, none⟩) l.length l.length) l := by
  refine ⟨some ⟨g, 0, none⟩, l.length, rfl, Nat.le_refl _, hm, fun _ => ⟨g, 0, rfl, fun i d hd j hj => ?_⟩⟩
  have hi : i < l.length := (List.getElem?_eq_some_iff.1 hd).1
  rw [show 0 + i * 33 + j = i * 33 + j by omega, h.cell (by omega), hf i d hd j hj]
section
variable {a : Act} {w : World} {o : Oper} {K : Act → World → Prop} {Q : Exit → Act → World → Prop} {x y : Operand}
/-- An element's place: where the hash d lies. -/
def svPG (d : Int × Hs) : SV NewT := ⟨fun v w => ∃ b off, v = .pointer (some ⟨b, off, none⟩) ∧ ∀ j, j < 33 → w.cell? ⟨b, off + j, none⟩ = some (sigF d j), fun _ w w' h hT => by
  obtain ⟨b, off, hv, hc⟩ := h
  exact ⟨b, off, hv, fun j hj => (hT.out.cell (p := ⟨b, off + j, none⟩) (World.block_lt_of_cell? _ _ (hc j hj))).trans (hc j hj)⟩⟩
theorem rdS_take {A : Option Addr} {l : List (Int × Hs)} {c k : Nat} (h : RdS w (.slice A l.length c) l) (hk : k ≤ l.length) : RdS w (.slice A k c) (l.take k) := by
  obtain ⟨A', c', hv, h1, h2, h3⟩ := h
  cases hv
  have hl : (l.take k).length = k := by rw [List.length_take]; omega
  refine ⟨A, c, by rw [hl], by rw [hl]; omega, h2, fun h0 => ?_⟩
  rw [hl] at h0
  obtain ⟨b, off, hA, hc⟩ := h3 (by omega)
  refine ⟨b, off, hA, fun i d hd j hj => hc i d ?_ j hj⟩
  rw [List.getElem?_take] at hd
  split at hd
  · exact hd
  · cases hd
theorem rdS_drop {A : Option Addr} {l : List (Int × Hs)} {c k : Nat} (h : RdS w (.slice A l.length c) l) (hk : k ≤ l.length) : RdS w (.slice (if c = k then A else A.map (·.add (k * 33))) (l.length - k) (c - k)) (l.drop k) := by
  obtain ⟨A', c', hv, h1, h2, h3⟩ := h
  cases hv
  have hl : (l.drop k).length = l.length - k := by simp
  refine ⟨_, c - k, by rw [hl], by rw [hl]; omega, by omega, fun h0 => ?_⟩
  rw [hl] at h0
  obtain ⟨b, off, rfl, hc⟩ := h3 (by omega)
  refine ⟨b, off + k * 33, by rw [if_neg (by omega)]; simp [Addr.add_mid], fun i d hd j hj => ?_⟩
  have := hc (k + i) d (by simpa using hd) j hj
  rw [show off + k * 33 + i * 33 + j = off + (k + i) * 33 + j by omega]
  exact this
end

section
variable {a : Act} {w : World} {o : Oper} {K : Act → World → Prop} {Q : Exit → Act → World → Prop} {x y : Operand}
end
/-- It reads as l, and there is no room behind it. -/
def svGF (l : List (Int × Hs)) : SV NewT := ⟨fun v w => (∃ A, v = .slice A l.length l.length) ∧ RdS w v l, fun _ _ _ ⟨h1, h2⟩ hT => ⟨h1, hT.sigs h2⟩⟩
end Go.Proofs.YtchpmdcacpjojaaDoor
/- Single operations: a pointer that isn't nil, sums, differences, products. -/
namespace Go.Proofs.YtchpmdcacpjojaaDoor
open Go Go.RowKit
set_option maxRecDepth 8000
set_option linter.all false
section
variable {P : Program} {a : Act} {w : World} {o : Oper} {K : Act → World → Prop} {Q : Exit → Act → World → Prop} {x y : Operand}
theorem opr_nilc {A : Addr} (ho : o.op = .nilCheck x) (hx : a.eval x = .pointer (some A)) (h : K (a.put o.dst (.pointer (some A))) w) : o.wp P a w K Q := by
  obtain ⟨dst, op, type, pos, after, guard⟩ := o
  simp only at ho
  subst ho
  simpa [Oper.wp, execOp, hx, Oper.upon, Sem.run_pure] using h
theorem opr_add {t t2 : TypeId} {m n r : Int} (ht : P.underlying t = some (.int .i64)) (hr : wrap64 (m + n) = r) (ho : o.op = .binOp .add t x y t2) (hx : a.eval x = .int .i64 m) (hy : a.eval y = .int .i64 n) (h : K (a.put o.dst (.int .i64 r)) w) : o.wp P a w K Q := by
  obtain ⟨dst, op, type, pos, after, guard⟩ := o
  simp only at ho
  subst ho hr
  refine opr_val (s := do eqGuard .add t x y (a.eval x) (a.eval y); binOp .add t (a.eval x) (a.eval y)) rfl ?_ h
  rw [hx, hy]; simp [go_sem]; rw [IntKind.wrap_i64, wrap64]
theorem opr_sub {t t2 : TypeId} {m n r : Int} (ht : P.underlying t = some (.int .i64)) (hr : wrap64 (m - n) = r) (ho : o.op = .binOp .sub t x y t2) (hx : a.eval x = .int .i64 m) (hy : a.eval y = .int .i64 n) (h : K (a.put o.dst (.int .i64 r)) w) : o.wp P a w K Q := by
  obtain ⟨dst, op, type, pos, after, guard⟩ := o
  simp only at ho
  subst ho hr
  refine opr_val (s := do eqGuard .sub t x y (a.eval x) (a.eval y); binOp .sub t (a.eval x) (a.eval y)) rfl ?_ h
  rw [hx, hy]; simp [go_sem]; rw [IntKind.wrap_i64, wrap64]
theorem opr_mul {t t2 : TypeId} {m n r : Int} (ht : P.underlying t = some (.int .i64)) (hr : wrap64 (m * n) = r) (ho : o.op = .binOp .mul t x y t2) (hx : a.eval x = .int .i64 m) (hy : a.eval y = .int .i64 n) (h : K (a.put o.dst (.int .i64 r)) w) : o.wp P a w K Q := by
  obtain ⟨dst, op, type, pos, after, guard⟩ := o
  simp only at ho
  subst ho hr
  refine opr_val (s := do eqGuard .mul t x y (a.eval x) (a.eval y); binOp .mul t (a.eval x) (a.eval y)) rfl ?_ h
  rw [hx, hy]; simp [go_sem]; rw [IntKind.wrap_i64, wrap64]
end
end Go.Proofs.YtchpmdcacpjojaaDoor
/- Where a list is split: math/bits.Len, Split, and the reference's. -/
namespace Go.Proofs.YtchpmdcacpjojaaDoor
open Go Go.RowKit
set_option maxRecDepth 8000
set_option linter.all false
/-- How many binary digits a number has. -/
def bitLen (x : Nat) : Nat := if x = 0 then 0 else x.log2 + 1
theorem bitLen_div (x s : Nat) (h : 2 ^ s ≤ x) : bitLen x = s + bitLen (x / 2 ^ s) := by
  have hp := Nat.two_pow_pos s
  have h1 : 1 ≤ x / 2 ^ s := (Nat.one_le_div_iff hp).2 h
  unfold bitLen
  rw [if_neg (by omega), if_neg (by omega)]
  have h2 : x.log2 = (x / 2 ^ s).log2 + s := by
    rw [Nat.log2_eq_iff (by omega)]
    have a1 := Nat.log2_self_le (n := x / 2 ^ s) (by omega)
    have a2 := Nat.lt_log2_self (n := x / 2 ^ s)
    have e := Nat.div_add_mod x (2 ^ s)
    have m := Nat.mod_lt x hp
    constructor
    · rw [Nat.pow_add]
      exact Nat.le_trans (Nat.mul_le_mul_right _ a1) (Nat.div_mul_le_self _ _)
    · have b : (x / 2 ^ s + 1) * 2 ^ s ≤ 2 ^ ((x / 2 ^ s).log2 + 1) * 2 ^ s := Nat.mul_le_mul_right _ a2
      rw [← Nat.pow_add, show (x / 2 ^ s).log2 + 1 + s = (x / 2 ^ s).log2 + s + 1 by omega, Nat.add_mul, Nat.mul_comm (x / 2 ^ s)] at b
      omega
  omega
/-- A table of how many digits the numbers below 256 have. -/
def TabOk (T : ByteArray) : Prop := T.size = 256 ∧ ((List.range 256).all fun m => (T.get! m).toNat == bitLen m) = true
theorem tab_at {T : ByteArray} (hT : TabOk T) (y : Nat) (h : y < T.size) : (T[y]'h).toNat = bitLen y := by
  have h1 := List.all_eq_true.1 hT.2 y (List.mem_range.2 (by rw [← hT.1]; exact h))
  have h2 : T.get! y = T[y]'h := by
    show T.data[y]! = T.data[y]'h
    rw [getElem!_pos T.data y h]
  rw [h2] at h1
  simpa using h1
theorem wrap_add0 (q : Nat) (h : q ≤ 8) : wrap64 (wrap64 (q : Int)) = (q : Int) := by unfold wrap64; omega
theorem wrap_add1 (q : Nat) (h : q ≤ 8) (a : Nat) (ha : a ≤ 100) : wrap64 ((a : Int) + wrap64 (q : Int)) = ((a + q : Nat) : Int) := by unfold wrap64; omega
theorem wrap_add2 (q : Nat) (h : q ≤ 8) (a b : Nat) (ha : a + b ≤ 100) : wrap64 (((a + b : Nat) : Int) + wrap64 (q : Int)) = ((a + (b + q) : Nat) : Int) := by unfold wrap64; omega
theorem wrap_add3 (q : Nat) (h : q ≤ 8) (a b c : Nat) (ha : a + b + c ≤ 100) : wrap64 (((a + b + c : Nat) : Int) + wrap64 (q : Int)) = ((a + (b + (c + q)) : Nat) : Int) := by unfold wrap64; omega
def tab8 : ByteArray := ⟨#[0, 1, 2, 2, 3, 3, 3, 3, 4, 4, 4, 4, 4, 4, 4, 4, 5, 5, 5, 5, 5, 5, 5, 5, 5, 5, 5, 5, 5, 5, 5, 5, 6, 6, 6, 6, 6, 6, 6, 6, 6, 6, 6, 6, 6, 6, 6, 6, 6, 6, 6, 6, 6, 6, 6, 6, 6, 6, 6, 6, 6, 6, 6, 6, 7, 7, 7, 7, 7, 7, 7, 7, 7, 7, 7, 7, 7, 7, 7, 7, 7, 7, 7, 7, 7, 7, 7, 7, 7, 7, 7, 7, 7, 7, 7, 7, 7, 7, 7, 7, 7, 7, 7, 7, 7, 7, 7, 7, 7, 7, 7, 7, 7, 7, 7, 7, 7, 7, 7, 7, 7, 7, 7, 7, 7, 7, 7, 7, 8, 8, 8, 8, 8, 8, 8, 8, 8, 8, 8, 8, 8, 8, 8, 8, 8, 8, 8, 8, 8, 8, 8, 8, 8, 8, 8, 8, 8, 8, 8, 8, 8, 8, 8, 8, 8, 8, 8, 8, 8, 8, 8, 8, 8, 8, 8, 8, 8, 8, 8, 8, 8, 8, 8, 8, 8, 8, 8, 8, 8, 8, 8, 8, 8, 8, 8, 8, 8, 8, 8, 8, 8, 8, 8, 8, 8, 8, 8, 8, 8, 8, 8, 8, 8, 8, 8, 8, 8, 8, 8, 8, 8, 8, 8, 8, 8, 8, 8, 8, 8, 8, 8, 8, 8, 8, 8, 8, 8, 8, 8, 8, 8, 8, 8, 8, 8, 8, 8, 8, 8, 8, 8, 8, 8, 8, 8, 8]⟩
theorem tab8_ok : TabOk tab8 := ⟨by decide +kernel, by decide +kernel⟩
theorem bitLen_small (y : Nat) (h : y < 256) : bitLen y ≤ 8 := by
  unfold bitLen
  by_cases h0 : y = 0
  · rw [if_pos h0]; omega
  · rw [if_neg h0]
    have := (Nat.log2_lt (k := 8) h0).2 (by omega)
    omega
theorem wrap64_on {n : Int} (h0 : 0 ≤ n) (h1 : n < 9223372036854775808) : wrap64 n = n := by unfold wrap64; omega
end Go.Proofs.YtchpmdcacpjojaaDoor
/- What a region that makes new memory alone leaves of the tables. -/
namespace Go.Proofs.YtchpmdcacpjojaaDoor
open Go Go.RowKit
set_option maxRecDepth 8000
set_option linter.all false
theorem NewT.tables {w w' : World} (h : NewT w w') (hT : Tables w) : Tables w' := hT.below h
end Go.Proofs.YtchpmdcacpjojaaDoor
/- The contract of Sum. -/
namespace Go.Proofs.YtchpmdcacpjojaaDoor
open Go Go.RowKit
set_option maxRecDepth 8000
set_option linter.all false
/-- The digest of parts. -/
theorem Sum_cv (pv : Value) (ls : List (List UInt8)) (D : Nat → UInt8) (w : World) (hT : Tables w) (hp : Parts w pv ls) (ht : ls.flatten.length ≤ 4611686018427387904) (hD : shaL Kc Fc ls.flatten = D) : Cv 72 #[pv] w (.eq (.agg (rowA 32 (bF D)))) := by
  obtain ⟨ps, hp, rfl⟩ := hp
  have e : (ps.map (·.2)).flatten = flat ps := rfl
  rw [e] at ht hD
  rw [← hD]
  exact Cv.of_eq (Sum_c pv ps w hT hp (by rw [← flat_length]; exact ht))
end Go.Proofs.YtchpmdcacpjojaaDoor
/- A new slice of one byte. -/
namespace Go.Proofs.YtchpmdcacpjojaaDoor
open Go Go.RowKit
set_option maxRecDepth 8000
set_option linter.all false
theorem run_bsb1 (x : Int) (w : World) : (Instr.buildSlice 49 1 #[(0, .int .u8 x)]).run Tryd.prog w = .ok (.slice (some ⟨w.heap.size, 0, none⟩) 1 1) (w.alloc (.cells #[.int .u8 x] 5)) := by
  simp [go_sem]
theorem rd_one (b : UInt8) (w : World) : RdV (w.alloc (.cells #[.int .u8 (bN b)] 5)) [] (.slice (some ⟨w.heap.size, 0, none⟩) 1 1) [b] :=
  rdV_lit (l := [b]) (by simp) (by decide) fun i hi => by
    obtain rfl : i = 0 := by simpa using hi
    rw [cell_new_fr _ _ _ _ _ _ rfl]; rfl
/-- A new slice of one byte. -/
theorem opr_bsb1 {a : Act} {w : World} {o : Oper} {K : Act → World → Prop} {Q : Exit → Act → World → Prop} {x : Operand} {b : UInt8} (ho : o.op = .buildSlice 49 1 #[(0, x)]) (hx : a.eval x = .int .u8 (bN b)) (h : ∀ v w', NewT w w' → RdV w' [] v [b] → K (a.put o.dst v) w') : o.wp Tryd.prog a w K Q := by
  obtain ⟨dst, op, type, pos, after, guard⟩ := o
  simp only at ho
  subst ho
  exact opr_val (s := Instr.buildSlice 49 1 #[(0, a.eval x)]) (by simp [execOp]) (by rw [hx]; exact run_bsb1 _ w) (h _ _ (NewT.alloc _ _) (rd_one b w))
end Go.Proofs.YtchpmdcacpjojaaDoor
/- Nodes and leaves: what a hash of two is; single operations more. -/
namespace Go.Proofs.YtchpmdcacpjojaaDoor
open Go Go.RowKit
set_option maxRecDepth 8000
set_option linter.all false
section
variable {P : Program} {a : Act} {w : World} {o : Oper} {K : Act → World → Prop} {Q : Exit → Act → World → Prop} {x y : Operand}
end
/-- What the hash of two hashes is, and that of none. -/
structure TreeH (node : Hs → Hs → Hs) (z : Hs) : Prop where
  node : ∀ a b, shaL Kc Fc ([1] ++ (digL a ++ (digL b ++ []))) = node a b
  zero : shaL Kc Fc [] = z
theorem tree_ex : ∃ node z, TreeH node z := ⟨_, _, ⟨fun _ _ => rfl, rfl⟩⟩
end Go.Proofs.YtchpmdcacpjojaaDoor
/- Rows of hashes of the own: steps that write them alone, appends. -/
namespace Go.Proofs.YtchpmdcacpjojaaDoor
open Go Go.RowKit
set_option maxRecDepth 8000
set_option linter.all false
/-- A step that writes block g, and blocks from B on, alone. -/
structure FT (g B : Nat) (w w' : World) : Prop where
  below : Below g w w'
  keep : ∀ k o, k < B → k ≠ g → w.heap[k]? = some o → o.isCells = true → w'.heap[k]? = some o
theorem FT.trans {g B : Nat} {a b c : World} (h : FT g B a b) (k : FT g B b c) : FT g B a c := ⟨h.below.trans k.below, fun i o h1 h2 h3 h4 => k.keep i o h1 h2 (h.keep i o h1 h2 h3 h4) h4⟩
theorem FT.of_rt {g B : Nat} {w w' : World} (h : RT g w w') : FT g B w w' := ⟨h.below, fun k o _ hk ho hc => h.keep.2 k o (by simpa using hk) ho hc⟩
theorem FT.new {g B : Nat} {w w' : World} (hg : g < w.heap.size) (h : NewT w w') : FT g B w w' := FT.of_rt (RT.new hg h)
theorem FT.row {g B : Nat} {w w' : World} (h : FT g B w w') {b n : Nat} {t : TypeId} {f : Nat → Value} (hb : b < B) (hne : b ≠ g) (hr : w.rowIs b t n f) : w'.rowIs b t n f := by
  obtain ⟨c, hc, hs, hf⟩ := hr
  exact ⟨c, h.keep _ _ hb hne hc rfl, hs, hf⟩
theorem FT.below_of {g B w0 : Nat} {w w' : World} (h : FT g B w w') (hg : w0 ≤ g) : Below w0 w w' := h.below.mono hg
/-- Blocks that came behind W are written, and R: to whoever looks from W on, a step that writes R alone. -/
theorem RT.late2 {R g : Nat} {W w w' : World} (h : RT R W w) (hg : W.heap.size ≤ g) (hR : R < W.heap.size) (hk : RT g w w') : RT R W w' :=
  ⟨h.below.trans (hk.below.mono (by omega)), Nat.le_trans h.keep.1 hk.keep.1, fun k o hk' ho hc => hk.keep.2 k o (by have := (Array.getElem?_eq_some_iff.1 ho).1; simp; omega) (h.keep.2 k o hk' ho hc) hc⟩
theorem OwnH.one {W : World} {B : Nat} {v : Value} {l : List Hs} (h : OwnH W B v l) : v.oneCell' = true := by obtain ⟨A, c, rfl, _⟩ := h.cap; rfl
theorem OwnH.rt {w w' : World} {g B : Nat} {v : Value} {l : List Hs} (h : OwnH w B v l) (hg : g < B) (hR : RT g w w') : OwnH w' B v l := by
  refine ⟨h.1, ?_⟩
  rcases h.2 with h2 | ⟨b, cap, cur, hv, hb, hh, r⟩
  · exact .inl h2
  · exact .inr ⟨b, cap, cur, hv, hb, hR.keep.2 b _ (by simp; omega) hh rfl, r⟩
theorem RdH.keep {w w' : World} {v : Value} {l : List Hs} (hr : RdH w v l) (hk : ∀ b o, w.heap[b]? = some o → o.isCells = true → (∃ A n c, v = .slice (some A) n c ∧ A.block = b) → w'.heap[b]? = some o) : RdH w' v l := by
  obtain ⟨A, cap, hv, h1, h2, h3⟩ := hr
  refine ⟨A, cap, hv, h1, h2, fun h0 => ?_⟩
  obtain ⟨b, o, hA, hc⟩ := h3 h0
  refine ⟨b, o, hA, fun i d hd j hj => ?_⟩
  have hcell := hc i d hd j hj
  obtain ⟨ob, ho, hic⟩ : ∃ ob, w.heap[b]? = some ob ∧ ob.isCells = true := by
    unfold World.cell? at hcell
    cases ho : w.heap[b]? with
    | none => simp [ho] at hcell
    | some ob => exact ⟨ob, rfl, by cases ob <;> simp_all [Obj.isCells]⟩
  rw [World.cell?_of_block ((hk b ob ho hic ⟨_, _, _, by rw [hv, hA], rfl⟩).trans ho.symm)]
  exact hcell
theorem info_hs : (Tryd.prog.info? 22).map (·.size) = some 1 := by kernel_rfl
theorem info_hs0 : (Tryd.prog.info? 22).map (·.size) = some (0 + 1) := by kernel_rfl
section
variable {a : Act} {w : World} {o : Oper} {K : Act → World → Prop} {Q : Exit → Act → World → Prop} {x y : Operand} {g o0 n : Nat} {t' : TypeId} {F : Nat → Value} {v : Value}
theorem opr_ldHs (hr : w.rowIs g t' n F) (hn : o0 < n) (hv : F o0 = v) (ho : o.op = .load 22 x) (hx : a.eval x = .pointer (some ⟨g, o0, none⟩)) (h : K (a.put o.dst v) w) : o.wp Tryd.prog a w K Q :=
  opr_ld1 Tryd.underlying22 rfl ho hx (by rw [hr.cell hn, hv]) h
theorem opr_toV {A : Option Addr} {n c k : Nat} (hk : k ≤ n) (hn : n ≤ c) (ho : o.op = .slice 22 x none (some y) none) (hx : a.eval x = .slice A n c) (hy : a.eval y = .int .i64 (k : Int)) (h : K (a.put o.dst (.slice A k c)) w) : o.wp Tryd.prog a w K Q := by
  obtain ⟨dst, op, type, pos, after, guard⟩ := o
  simp only at ho
  subst ho
  exact opr_val (s := Instr.sliceAt 22 (a.eval x) none (some (a.eval y)) none) (by simp [execOp]) (by rw [hx, hy]; simp [Instr.sliceAt, run_underlying Tryd.underlying22]; exact run_toH w hk hn) h
end
/-- An append onto an own row either stays in its block or makes a new one alone. -/
theorem run_appH_two {W : World} {B : Nat} {v u : Value} {l m : List Hs} (h : OwnH W B v l) (hr : RdH W u m) (hm : 0 < m.length) (hn : l.length + m.length ≤ 1000000) (hB : B ≤ W.heap.size) (ty : TypeId) :
    ∃ v' w', (Builtin.append_ #[22, 22] ty #[v, u]).run Tryd.prog W = .ok v' w' ∧ OwnH w' B v' (l ++ m) ∧ W.grownBy w' v.ownBlock ∧ (NewT W w' ∨ ∃ g c, v = .slice (some ⟨g, 0, none⟩) l.length c ∧ v' = .slice (some ⟨g, 0, none⟩) (l ++ m).length c) := by
  obtain ⟨v', w', h1, h2, h3⟩ := run_appH h hr hn hB ty
  refine ⟨v', w', h1, h2, h3, ?_⟩
  obtain ⟨i0, hi, hz0, hz1, hz2⟩ := info_parts infoH
  have hr0 := hr
  obtain ⟨A, cap, rfl, k1, k2, k3⟩ := hr
  obtain ⟨b, o, rfl, _⟩ := k3 hm
  have hz3 : (hcs m).length = m.length * i0.size := by rw [hz1]; exact hcs_length m
  rcases h.2 with ⟨rfl, h0⟩ | ⟨g, c, cur, rfl, hb, hg, hnc, hcm, hs, ht⟩
  · have hl : l = [] := List.eq_nil_of_length_eq_zero h0
    subst hl
    have hrun := run_append_nil (P := Tryd.prog) W 22 ty 32 i0 _ Tryd.underlying22 hi hz0 ⟨b, o, none⟩ m.length cap (hcs m) hz3 hr0.news (by omega) (by simp at hn; omega) (by simp at hn; rw [hz2]; omega)
    rw [h1] at hrun
    injection hrun with _ e
    subst e
    exact .inl (NewT.trans _ _ _ (NewT.drew W) (NewT.alloc _ _))
  · by_cases hroom : l.length + m.length ≤ c
    · have hrun := run_append_room (P := Tryd.prog) W 22 ty 32 i0 Tryd.underlying22 hi g l.length c cur hg ⟨b, o, none⟩ m.length cap (hcs m) hz3 hr0.news (hcs_one_cell m) hroom (by rw [hcs_length, hs, hz1]; omega)
      rw [h1] at hrun
      injection hrun with e _
      exact .inr ⟨g, c, rfl, by rw [List.length_append]; exact e⟩
    · have hrun := run_append_grow (P := Tryd.prog) W 22 ty 32 i0 _ Tryd.underlying22 hi hz0 ⟨g, 0, none⟩ l.length c (hcs l) (by rw [hz1]; exact hcs_length l) (h.cells (g := g) rfl) ⟨b, o, none⟩ m.length cap (hcs m) hz3 hr0.news (by omega) (by omega) (growslice_fits (by omega) (by rw [hz2]; omega))
      rw [h1] at hrun
      injection hrun with _ e
      subst e
      exact .inl (NewT.trans _ _ _ (NewT.drew W) (NewT.alloc _ _))
/-- A step of a region that appends onto v, which reads as S, what makes it read as L. -/
structure AT (B : Nat) (v : Value) (S L : List Hs) (w w' : World) : Prop where
  below : Below B w w'
  keep : KeepBut v.ownBlock.toList w w'
  old : OwnH w B v S → OwnH w' B v S
  new : ∀ v', OwnH w B v' L → OwnH w' B v' L
theorem AT.trans {B : Nat} {v : Value} {S L : List Hs} (a b c : World) (h : AT B v S L a b) (k : AT B v S L b c) : AT B v S L a c := ⟨h.below.trans k.below, h.keep.trans k.keep, fun x => k.old (h.old x), fun v' x => k.new v' (h.new v' x)⟩
theorem AT.of_new {B : Nat} {v : Value} {S L : List Hs} {w w' : World} (hB : B ≤ w.heap.size) (h : NewT w w') : AT B v S L w w' := ⟨h.out.mono hB, KeepBut.below h, fun x => x.new h, fun _ x => x.new h⟩
theorem AT.drew {B : Nat} {v : Value} {S L : List Hs} (w : World) : AT B v S L w w.drew := ⟨(Below.refl _ w).drew, KeepBut.drew w, fun x => x.keep fun _ _ => rfl, fun _ x => x.keep fun _ _ => rfl⟩
theorem AT.refl {B : Nat} {v : Value} {S L : List Hs} (w : World) : AT B v S L w w := ⟨Below.refl _ w, KeepBut.refl _ w, fun x => x, fun _ x => x⟩
theorem AT.app {B : Nat} {v v' : Value} {S m : List Hs} {w w' : World} (h : OwnH w B v S) (hm : 0 < m.length) (h' : OwnH w' B v' (S ++ m)) (hg : w.grownBy w' v.ownBlock) (hB : B ≤ w.heap.size) (two : NewT w w' ∨ ∃ g c, v = .slice (some ⟨g, 0, none⟩) S.length c ∧ v' = .slice (some ⟨g, 0, none⟩) (S ++ m).length c) : AT B v S (S ++ m) w w' := by
  have hk : KeepBut v.ownBlock.toList w w' := keepBut_grown hg fun k hk => by simp [hk]
  rcases two with hN | ⟨g, c, hv, hv'⟩
  · exact ⟨hN.out.mono hB, hk, fun x => x.new hN, fun _ x => x.new hN⟩
  · refine ⟨(Below.refl _ w).grown hg hB (fun k e => (h.lt k e).1), hk, fun _ => ?_, fun v'' h'' => ?_⟩
    · rw [hv'] at h'
      have := h'.take (k := S.length) (by simp) (by simp; omega)
      rw [List.take_left] at this
      rw [hv]; exact this
    · by_cases e : v''.ownBlock = some g
      · have e2 : v'' = v' := by
          rcases h''.2 with ⟨rfl, _⟩ | ⟨g2, c2, cur2, rfl, _, hh2, _, _, hs2, _⟩
          · cases e
          · simp [Value.ownBlock] at e
            subst e
            rw [hv] at h
            rcases h.2 with ⟨h3, _⟩ | ⟨g3, c3, cur3, h3, _, hh3, _, _, hs3, _⟩
            · cases h3
            · cases h3
              rw [hh2] at hh3
              cases hh3
              have : c2 = c := by omega
              rw [hv', this]
        rw [e2]; exact h'
      · exact h''.keep fun k hkk => hg.block k (h''.lt k hkk).2 (by rw [hv]; intro e2; simp [Value.ownBlock] at e2; subst e2; exact e hkk)
end Go.Proofs.YtchpmdcacpjojaaDoor
/- Boxes of one value; what calls hand back together: rows, flags. -/
namespace Go.Proofs.YtchpmdcacpjojaaDoor
open Go Go.RowKit
set_option maxRecDepth 8000
set_option linter.all false
theorem rowIs_one (w : World) (t : TypeId) (v : Value) : (w.alloc (.cells #[v] t)).rowIs w.heap.size t 1 (fun _ => v) := rowIs_box w t 1 (fun _ => v)
section
variable {P : Program} {w : World} {fn : Func} {tmps : Array Value}
theorem run_ldV_row {b n : Nat} {t ty : TypeId} {d : TypeDesc} {f : Nat → Value} (h : w.rowIs b t n f) (hu : P.underlying ty = some d) (hd : d.isRow = true) (hi : (P.info? ty).map (·.size) = some n) : (loadVar ty ⟨b, 0, none⟩).run P w = .ok (.agg (rowA n f)) w := by
  simpa using run_loadVar_mid (P := P) w b 0 ty (rowA n f).toList d (rangeAt_row h) hu hd (by rw [hi, rowA_toList]; simp)
theorem run_ldV_one {b : Nat} {t ty : TypeId} {v : Value} {d : TypeDesc} (h : w.rowIs b t 1 (fun _ => v)) (hu : P.underlying ty = some d) (hd : d.isRow = false) : (loadVar ty ⟨b, 0, none⟩).run P w = .ok v w := by
  have ha : (isAgg ty).run P w = .ok false w := by
    unfold isAgg
    rw [Sem.run_bind, run_underlying hu w]
    cases d <;> first | rfl | cases hd
  have hc := h.cell (i := 0) (by omega)
  simp only [loadVar, Sem.run_bind, ha, Result.andThen_ok, Bool.false_eq_true, if_false]
  simp [run_load, hc]
/-- A row, and what lies in a variable. -/
theorem results_rv {p q : Tmp} {tp tq t t' : TypeId} {d d' : TypeDesc} {n b b' : Nat} {f : Nat → Value} {v : Value} (hf : fn.results = #[.cell p tp, .cell q tq]) (hp : tmps.getD p undef = .pointer (some ⟨b, 0, none⟩)) (hq : tmps.getD q undef = .pointer (some ⟨b', 0, none⟩))
    (h : w.rowIs b t n f) (h' : w.rowIs b' t' 1 (fun _ => v)) (hu : P.underlying tp = some d) (hd : d.isRow = true) (hi : (P.info? tp).map (·.size) = some n) (hu' : P.underlying tq = some d') (hd' : d'.isRow = false) : (results fn tmps).run P w = .ok (.tuple #[.agg (rowA n f), v]) w := by
  have e1 := run_ldV_row (P := P) h hu hd hi
  have e2 := run_ldV_one (P := P) h' hu' hd'
  have hp' : tmps[p]?.getD undef = .pointer (some ⟨b, 0, none⟩) := by simpa using hp
  have hq' : tmps[q]?.getD undef = .pointer (some ⟨b', 0, none⟩) := by simpa using hq
  simp [results, hf, hp', hq', asAddr, e1, e2]
/-- A row, and a value of the frame. -/
theorem results_rt {p u : Tmp} {tp t : TypeId} {d : TypeDesc} {n b : Nat} {f : Nat → Value} {v : Value} (hf : fn.results = #[.cell p tp, .tmp u]) (hp : tmps.getD p undef = .pointer (some ⟨b, 0, none⟩)) (hv : tmps.getD u undef = v)
    (h : w.rowIs b t n f) (hu : P.underlying tp = some d) (hd : d.isRow = true) (hi : (P.info? tp).map (·.size) = some n) : (results fn tmps).run P w = .ok (.tuple #[.agg (rowA n f), v]) w := by
  have e1 := run_ldV_row (P := P) h hu hd hi
  have hp' : tmps[p]?.getD undef = .pointer (some ⟨b, 0, none⟩) := by simpa using hp
  have hv' : tmps[u]?.getD undef = v := by simpa using hv
  simp [results, hf, hp', hv', asAddr, e1]
/-- Two rows, and a value of the frame. -/
theorem results_rrt {p q u : Tmp} {tp t t' : TypeId} {d : TypeDesc} {n b b' : Nat} {f f' : Nat → Value} {v : Value} (hf : fn.results = #[.cell p tp, .cell q tp, .tmp u]) (hp : tmps.getD p undef = .pointer (some ⟨b, 0, none⟩)) (hq : tmps.getD q undef = .pointer (some ⟨b', 0, none⟩)) (hv : tmps.getD u undef = v)
    (h : w.rowIs b t n f) (h' : w.rowIs b' t' n f') (hu : P.underlying tp = some d) (hd : d.isRow = true) (hi : (P.info? tp).map (·.size) = some n) : (results fn tmps).run P w = .ok (.tuple #[.agg (rowA n f), .agg (rowA n f'), v]) w := by
  have e1 := run_ldV_row (P := P) h hu hd hi
  have e2 := run_ldV_row (P := P) h' hu hd hi
  have hp' : tmps[p]?.getD undef = .pointer (some ⟨b, 0, none⟩) := by simpa using hp
  have hq' : tmps[q]?.getD undef = .pointer (some ⟨b', 0, none⟩) := by simpa using hq
  have hv' : tmps[u]?.getD undef = v := by simpa using hv
  simp [results, hf, hp', hq', hv', asAddr, e1, e2]
variable {a : Act} {o : Oper} {K : Act → World → Prop} {Q : Exit → Act → World → Prop}
/-- A closure is made. -/
theorem opr_mkf {fid : Nat} {xs : Array Operand} {cap : Array Value} (ho : o.op = .makeFunc (.func fid) #[] xs) (hx : xs.map a.eval = cap) (h : K (a.put o.dst (.func (.func fid) #[] cap)) w) : o.wp P a w K Q := by
  obtain ⟨dst, op, type, pos, after, guard⟩ := o
  simp only at ho
  subst ho
  subst hx
  exact opr_val (s := Instr.makeFunc (.func fid) #[] (xs.map a.eval)) (by simp [execOp]) rfl h
/-- One of the values that a call hands back together. -/
theorem opr_ext {k : Nat} {x : Operand} {vs : Array Value} {v : Value} (ho : o.op = .extract x k) (hx : a.eval x = .tuple vs) (hv : vs[k]? = some v) (h : K (a.put o.dst v) w) : o.wp P a w K Q := by
  obtain ⟨dst, op, type, pos, after, guard⟩ := o
  simp only at ho
  subst ho
  exact opr_val (s := Instr.extract (a.eval x) k) (by simp [execOp]) (by rw [hx]; simp [Instr.extract, hv]) h
end
end Go.Proofs.YtchpmdcacpjojaaDoor
/- Numbers of 64 bits that hold numbers of 32, as the reference computes; and the reference's turns and shifts. -/
namespace Go.Proofs.YtchpmdcacpjojaaDoor
open Go.RowKit
set_option maxRecDepth 8000
set_option linter.all false

theorem wrap_u64 (n : Int) : IntKind.u64.wrap n = n % 18446744073709551616 := by simp [IntKind.wrap, IntKind.bits, IntKind.signed]
theorem wrap64_uN (x : BitVec 32) : IntKind.u64.wrap (uN x) = uN x := by rw [wrap_u64]; have := uN_lt x; omega
theorem wrap64_bN (x : UInt8) : IntKind.u64.wrap (bN x) = bN x := by rw [wrap_u64]; have := bN_lt x; omega
theorem or64 (a b : Nat) (ha : a < 2 ^ 64) (hb : b < 2 ^ 64) : bits .or .u64 (a : Int) (b : Int) = ((a ||| b : Nat) : Int) := by
  show IntKind.u64.wrap (((BitVec.ofInt 64 (a : Int) ||| BitVec.ofInt 64 (b : Int)).toNat : Nat) : Int) = _
  rw [BitVec.ofInt_natCast, BitVec.ofInt_natCast, BitVec.toNat_or, BitVec.toNat_ofNat, BitVec.toNat_ofNat, Nat.mod_eq_of_lt ha, Nat.mod_eq_of_lt hb, wrap_u64]
  have := Nat.or_lt_two_pow ha hb
  omega
theorem xor64 (a b : Nat) (ha : a < 2 ^ 64) (hb : b < 2 ^ 64) : bits .xor .u64 (a : Int) (b : Int) = ((a ^^^ b : Nat) : Int) := by
  show IntKind.u64.wrap (((BitVec.ofInt 64 (a : Int) ^^^ BitVec.ofInt 64 (b : Int)).toNat : Nat) : Int) = _
  rw [BitVec.ofInt_natCast, BitVec.ofInt_natCast, BitVec.toNat_xor, BitVec.toNat_ofNat, BitVec.toNat_ofNat, Nat.mod_eq_of_lt ha, Nat.mod_eq_of_lt hb, wrap_u64]
  have := Nat.xor_lt_two_pow ha hb
  omega
theorem and64 (a b : Nat) (ha : a < 2 ^ 64) (hb : b < 2 ^ 64) : bits .and .u64 (a : Int) (b : Int) = ((a &&& b : Nat) : Int) := by
  show IntKind.u64.wrap (((BitVec.ofInt 64 (a : Int) &&& BitVec.ofInt 64 (b : Int)).toNat : Nat) : Int) = _
  rw [BitVec.ofInt_natCast, BitVec.ofInt_natCast, BitVec.toNat_and, BitVec.toNat_ofNat, BitVec.toNat_ofNat, Nat.mod_eq_of_lt ha, Nat.mod_eq_of_lt hb, wrap_u64]
  have := Nat.and_lt_two_pow a hb
  omega
theorem lt64 (x : BitVec 32) : x.toNat < 2 ^ 64 := by omega
theorem u64_xor (x y : BitVec 32) : bits .xor .u64 (uN x) (uN y) = uN (x ^^^ y) := by
  unfold uN; rw [xor64 _ _ (lt64 x) (lt64 y), BitVec.toNat_xor]
theorem u64_and (x y : BitVec 32) : bits .and .u64 (uN x) (uN y) = uN (x &&& y) := by
  unfold uN; rw [and64 _ _ (lt64 x) (lt64 y), BitVec.toNat_and]
theorem u64_not (x : BitVec 32) : IntKind.u64.wrap ((4294967295 : Int) - uN x) = uN (~~~x) := by
  rw [wrap_u64]; unfold uN; rw [BitVec.toNat_not]; omega
/-- A sum of numbers of 32 bits, not cut. -/
def tN (l : List (BitVec 32)) : Int := ((l.map BitVec.toNat).sum : Nat)
theorem u64_add2 (a b : BitVec 32) : IntKind.u64.wrap (uN a + uN b) = tN [a, b] := by rw [wrap_u64]; simp [uN, tN]; omega
theorem u64_add3 (a b c : BitVec 32) : IntKind.u64.wrap (tN [a, b] + uN c) = tN [a, b, c] := by rw [wrap_u64]; simp [uN, tN]; omega
theorem u64_add4 (a b c d : BitVec 32) : IntKind.u64.wrap (tN [a, b, c] + uN d) = tN [a, b, c, d] := by rw [wrap_u64]; simp [uN, tN]; omega
theorem u64_add5 (a b c d e : BitVec 32) : IntKind.u64.wrap (tN [a, b, c, d] + uN e) = tN [a, b, c, d, e] := by rw [wrap_u64]; simp [uN, tN]; omega
theorem mod_t2 (a b : BitVec 32) : tN [a, b] % (4294967296 : Int) = uN (a + b) := by simp [uN, tN, BitVec.toNat_add]
theorem mod_t4 (a b c d : BitVec 32) : tN [a, b, c, d] % (4294967296 : Int) = uN (a + b + c + d) := by simp [uN, tN, BitVec.toNat_add]; omega
theorem mod_t5 (a b c d e : BitVec 32) : tN [a, b, c, d, e] % (4294967296 : Int) = uN (a + b + c + d + e) := by simp [uN, tN, BitVec.toNat_add]; omega
theorem u64_rot (x : BitVec 32) (m k : Nat) (hm : m < 32) (hk : k = 32 - m) : bits .or .u64 (uN (x >>> m)) (IntKind.u64.wrap (uN x * 2 ^ k)) % (4294967296 : Int) = uN (x.rotateRight m) := by
  have h1 : IntKind.u64.wrap (uN x * 2 ^ k) = ((x.toNat * 2 ^ k % 2 ^ 64 : Nat) : Int) := by rw [wrap_u64]; unfold uN; simp
  rw [h1]
  unfold uN
  rw [or64 _ _ (lt64 _) (Nat.mod_lt _ (by omega)), BitVec.rotateRight_def, Nat.mod_eq_of_lt hm, BitVec.toNat_or, ← hk]
  have h2 : ((x >>> m).toNat ||| x.toNat * 2 ^ k % 2 ^ 64) % 2 ^ 32 = (x >>> m).toNat ||| (x <<< k).toNat := by
    rw [Nat.or_mod_two_pow, Nat.mod_eq_of_lt (x >>> m).isLt, Nat.mod_mod_of_dvd _ (by decide), BitVec.toNat_shiftLeft, Nat.shiftLeft_eq]
  omega
theorem tN_nonneg (l : List (BitVec 32)) : 0 ≤ tN l := by unfold tN; omega
theorem tmod_t2 (a b : BitVec 32) : (tN [a, b]).tmod (4294967296 : Int) = uN (a + b) := by rw [Int.tmod_eq_emod_of_nonneg (tN_nonneg _), mod_t2]
theorem tmod_t4 (a b c d : BitVec 32) : (tN [a, b, c, d]).tmod (4294967296 : Int) = uN (a + b + c + d) := by rw [Int.tmod_eq_emod_of_nonneg (tN_nonneg _), mod_t4]
theorem tmod_t5 (a b c d e : BitVec 32) : (tN [a, b, c, d, e]).tmod (4294967296 : Int) = uN (a + b + c + d + e) := by rw [Int.tmod_eq_emod_of_nonneg (tN_nonneg _), mod_t5]
theorem u64_rott (x : BitVec 32) (m k : Nat) (hm : m < 32) (hk : k = 32 - m) : (bits .or .u64 (uN (x >>> m)) (IntKind.u64.wrap (uN x * 2 ^ k))).tmod (4294967296 : Int) = uN (x.rotateRight m) := by
  have h1 : IntKind.u64.wrap (uN x * 2 ^ k) = ((x.toNat * 2 ^ k % 2 ^ 64 : Nat) : Int) := by rw [wrap_u64]; unfold uN; simp
  have h0 : 0 ≤ bits .or .u64 (uN (x >>> m)) (IntKind.u64.wrap (uN x * 2 ^ k)) := by
    rw [h1]; unfold uN; rw [or64 _ _ (lt64 _) (Nat.mod_lt _ (by omega))]; omega
  rw [Int.tmod_eq_emod_of_nonneg h0, u64_rot x m k hm hk]
attribute [local go_sem] u32_shr wrap64_uN
set_option maxHeartbeats 400000 in
theorem right_any (x : BitVec 32) (n : Int) (hn : 0 < n) (hn2 : n < 32) (w : World) :
    Calls Tryd.prog 82 #[.int .u64 (uN x), .int .i64 n] w fun e w' => e = .returned (.int .u64 (uN (x.rotateRight n.toNat))) ∧ w = w' := by
  obtain ⟨m, rfl⟩ := Int.eq_ofNat_of_zero_le (Int.le_of_lt hn)
  rw [Int.toNat_natCast]
  have e32 : (32 : Int) - (m : Int) = ((32 - m : Nat) : Int) := by omega
  obtain ⟨k, hk⟩ : ∃ k, k = 32 - m := ⟨_, rfl⟩
  rw [← hk] at e32
  have hr := u64_rott x m k (by omega) hk
  have hk1 : k < 32 := by omega
  have Hk := Lib.hid hk
  clear hk
  go_enter Tryd.func82, Tryd.ntmps82
  go_wp2
  go_ret
  exact ⟨rfl, rfl⟩
set_option maxHeartbeats 400000 in
theorem shift_any (x : BitVec 32) (n : Int) (hn : 0 < n) (hn2 : n < 32) (w : World) :
    Calls Tryd.prog 83 #[.int .u64 (uN x), .int .i64 n] w fun e w' => e = .returned (.int .u64 (uN (x >>> n.toNat))) ∧ w = w' := by
  obtain ⟨m, rfl⟩ := Int.eq_ofNat_of_zero_le (Int.le_of_lt hn)
  rw [Int.toNat_natCast]
  go_enter Tryd.func83, Tryd.ntmps83
  go_wp2
  go_ret
  exact ⟨rfl, rfl⟩
end Go.Proofs.YtchpmdcacpjojaaDoor
/- Package mac's small functions: numbers as bytes, the key's block, its masks: what each call returns, and that it makes new memory alone. -/
namespace Go.Proofs.YtchpmdcacpjojaaDoor
open Go Go.RowKit
set_option maxRecDepth 8000
set_option linter.all false

theorem u8_xor (x y : UInt8) : bits .xor .u8 (bN x) (bN y) = bN (x ^^^ y) := by
  have h : ∀ a b : BitVec 8, bits .xor .u8 ((a.toNat : Nat) : Int) ((b.toNat : Nat) : Int) = (((a ^^^ b).toNat : Nat) : Int) := by
    intro a b
    show IntKind.u8.wrap ((BitVec.ofInt 8 ((a.toNat : Nat) : Int) ^^^ BitVec.ofInt 8 ((b.toNat : Nat) : Int)).toNat : Int) = _
    simp only [BitVec.ofInt_natCast, BitVec.ofNat_toNat, BitVec.setWidth_eq]
    rw [wrap_u8]; have := (a ^^^ b).isLt; omega
  exact h x.toBitVec y.toBitVec
/-- The lowest s bytes of a number, the highest first. -/
def hiB (n s i : Nat) : UInt8 := UInt8.ofNat (n / 2 ^ (8 * (s - 1 - i)))
def hiL (n s : Nat) : List UInt8 := (List.range s).map (hiB n s)
theorem hiL_length (n s : Nat) : (hiL n s).length = s := by simp [hiL]
theorem hiB_eq (n s i : Nat) : IntKind.u8.wrap ((n : Int) / 2 ^ (8 * (s - 1 - i))) = bN (hiB n s i) := by
  rw [wrap_u8, hiB, bN, UInt8.toNat_ofNat']
  have h2 : ((2 : Int) ^ (8 * (s - 1 - i))) = ((2 ^ (8 * (s - 1 - i)) : Nat) : Int) := by simp
  rw [h2, ← Int.natCast_ediv]
  omega
set_option maxHeartbeats 1000000 in
theorem hiF_any (n s : Nat) (hs : 1 ≤ s) (hs2 : s ≤ 8) (w : World) :
    Cv 76 #[.int .u64 (n : Int), .int .i64 (s : Int)] w (svRdN w (hiL n s)) := by
  unfold Cv
  obtain ⟨i0, hi, hz0, hz1, hz2⟩ := info_parts info5
  have hmk : ∀ W : World, (Instr.makeSlice 49 (.int .i64 (s : Int)) (.int .i64 (s : Int))).run Tryd.prog W = .ok (.slice (some ⟨W.heap.size, 0, none⟩) s s) (W.alloc (.cells (rowA s (bF fun _ => 0)) 5)) := make_bytes i0 hi hz0 hz1 hz2 s (by omega)
  have HB := Lib.hid (hiB_eq n s)
  clear hi hz0 hz1 hz2
  go_enter Tryd.func76, Tryd.ntmps76
  go_wp2
  have r0 := rowIs_box w 5 s (bF fun _ => 0)
  have hB : Below w.heap.size w (w.alloc (.cells (rowA s (bF fun _ => 0)) 5)) := (Below.refl _ w).alloc (Nat.le_refl _) _
  generalize w.alloc (.cells (rowA s (bF fun _ => 0)) 5) = W0 at r0 hB ⊢
  clear hmk
  go_loopw [11] (fun i wr => ∃ k : Nat, k ≤ s ∧ i = .int .i64 k ∧ wr.rowIs w.heap.size 5 s (bF (putTo (hiB n s) k)) ∧ Below w.heap.size w wr) (fun i _ => s - (intOf i).toNat)
  case atStart => exact ⟨0, by omega, rfl, r0.congr fun i _ => by simp [bF, putTo], hB⟩
  case round =>
    obtain ⟨k, hk, rfl, q0, qB⟩ := hrel
    clear r0 hB
    by_cases hlt : k < s
    · have c0 := q0.cell (i := k) hlt
      have f0 := q0.frozen k
      have e8 : ((8 : Int) * ((s : Int) - 1 - (k : Int))).toNat = 8 * (s - 1 - k) := by omega
      have hb8 := HB.out k
      go_wp2
      go_roundw
      case rel => exact ⟨k + 1, by omega, by go_num, (q0.set k _).congr fun i _ => putTo_set _ k i, qB.setCell (by simp) _⟩
      case measure => simp [intOf]; omega
    · obtain rfl : k = s := by omega
      go_wp2
      go_ret
      refine ⟨_, rfl, qB, fun L hL => ?_⟩
      have := rd_row (L := L) q0 (fun hm => by have := hL _ hm; omega) (by omega)
      have e : (List.range k).map (putTo (hiB n k) k) = hiL n k := List.map_congr_left fun i hi => by simp at hi; simp [putTo, hi]
      rw [e] at this
      exact this
theorem hiF_4 (n : Nat) (w : World) : Cv 76 #[.int .u64 (n : Int), .int .i64 4] w (svRdN w (hiL n 4)) := hiF_any n 4 (by omega) (by omega) w
theorem hiF_8 (n : Nat) (w : World) : Cv 76 #[.int .u64 (n : Int), .int .i64 8] w (svRdN w (hiL n 8)) := hiF_any n 8 (by omega) (by omega) w
end Go.Proofs.YtchpmdcacpjojaaDoor
/- Package sha, more: blocks of a text, one by one. -/
namespace Go.Proofs.YtchpmdcacpjojaaDoor
open Go.RowKit
set_option maxRecDepth 8000
set_option linter.all false
attribute [local go_sem] uF_at
set_option maxHeartbeats 1000000 in
/-- A block that hasn't 64 bytes turns nothing. -/
theorem Turn_no (s : Nat → BitVec 32) (A : Option Addr) (n cap : Nat) (hn : n ≠ 64) (w : World) :
    Calls Tryd.prog 80 #[.agg (rowA 8 (uF s)), .slice A n cap] w fun e w' => e = .returned (.agg (rowA 8 (uF s))) ∧ Below w.heap.size w w' := by
  have hn2 : ((n : Int) == 64) = false := by simp; omega
  have r0 := (rowIs_box w 117 8 (uF s)).alloc (.cells (rowA 8 fun _ => .int .u32 0) 117)
  have r1 := rowIs_box (w.alloc (.cells (rowA 8 (uF s)) 117)) 117 8 fun _ => .int .u32 0
  have hB : Below w.heap.size w ((w.alloc (.cells (rowA 8 (uF s)) 117)).alloc (.cells (rowA 8 fun _ => .int .u32 0) 117)) :=
    ((Below.refl _ w).alloc (Nat.le_refl _) _).alloc (by simp) _
  rw [World.size_alloc] at r1
  have hR := rangeAt_row r0
  go_enter Tryd.func80, Tryd.ntmps80
  go_wp2_with (first
    | (refine wpList_load_mid rfl 117 (.tmp 2) rfl w.heap.size 0 rfl (rowA 8 (uF s)).toList _ hR Tryd.underlying117 rfl (by rw [rowA_toList]; simpa using info23) ?_)
    | (refine wpList_store_mid rfl 117 (.tmp 4) (.tmp 10) rfl (w.heap.size + 1) 0 (rowA 8 (uF s)) rfl rfl (by rw [rowA_size]; exact there_row r1) (by rw [rowA_size]; exact info23) (rowA_one _ _ fun _ => rfl) ?_))
  exact bodyPost_ret (results_row rfl _ rfl (rowIs_setAll r1 (uF s)) Tryd.underlying117 info23) rfl ⟨rfl, below_setCells _ (by omega) _ _ _ hB⟩
theorem word_back (x : BitVec 32) : (((((x >>> 24).setWidth 8).setWidth 32 <<< 24) ||| (((x >>> 16).setWidth 8).setWidth 32 <<< 16)) ||| (((x >>> 8).setWidth 8).setWidth 32 <<< 8)) ||| ((x >>> 0).setWidth 8).setWidth 32 = x := by
  apply BitVec.eq_of_getLsbD_eq
  intro i hi
  simp only [BitVec.getLsbD_or, BitVec.getLsbD_shiftLeft, BitVec.getLsbD_setWidth, BitVec.getLsbD_ushiftRight]
  by_cases h1 : i < 8
  · simp [h1, show i < 16 by omega, show i < 24 by omega, hi]
  · by_cases h2 : i < 16
    · simp [h1, h2, show i < 24 by omega, hi, show i - 8 < 8 by omega, show i - 8 < 32 by omega, show 8 + (i - 8) = i by omega]
    · by_cases h3 : i < 24
      · simp [h1, h2, h3, hi, show i - 16 < 8 by omega, show ¬ i - 8 < 8 by omega, show i - 16 < 32 by omega, show 16 + (i - 16) = i by omega]
      · simp [h1, h2, h3, hi, show i - 24 < 8 by omega, show ¬ i - 8 < 8 by omega, show ¬ i - 16 < 8 by omega, show i - 24 < 32 by omega, show 24 + (i - 24) = i by omega]
theorem dig_word (S : Nat → BitVec 32) (i : Nat) :
    ((((dig S (4 * i)).toBitVec.setWidth 32 <<< 24) ||| ((dig S (4 * i + 1)).toBitVec.setWidth 32 <<< 16)) ||| ((dig S (4 * i + 2)).toBitVec.setWidth 32 <<< 8)) ||| (dig S (4 * i + 3)).toBitVec.setWidth 32 = S i := by
  unfold dig
  rw [show 4 * i / 4 = i by omega, show (4 * i + 1) / 4 = i by omega, show (4 * i + 2) / 4 = i by omega, show (4 * i + 3) / 4 = i by omega,
    show 4 * i % 4 = 0 by omega, show (4 * i + 1) % 4 = 1 by omega, show (4 * i + 2) % 4 = 2 by omega, show (4 * i + 3) % 4 = 3 by omega]
  exact word_back (S i)
theorem slice_blk (b o n cap j : Nat) (h : j + 64 ≤ cap) (w : World) : (Instr.slice 49 (.slice (some ⟨b, o, none⟩) n cap) (some (.int .i64 (j : Int))) (some (.int .i64 ((j : Int) + 64))) none).run Tryd.prog w = .ok (.slice (some ⟨b, o + j, none⟩) 64 (cap - j)) w := by
  have hsz : (sizeOf 5).run Tryd.prog w = .ok 1 w := by
    obtain ⟨i0, hi, _, hz1, _⟩ := info_parts info5
    simp [sizeOf, typeInfo, hi, hz1]
  have h3 : (0 : Int) ≤ (j : Int) + 64 ∧ (j : Int) + 64 ≤ (cap : Int) := by omega
  have h4 : j ≤ ((j : Int) + 64).toNat := by omega
  have h6 : ((j : Int) + 64).toNat - j = 64 := by omega
  have h5 : cap ≠ j := by omega
  simp [Instr.slice, run_underlying Tryd.underlying49, Instr.sliceBounds, Instr.sliceBound, asIntOf, hsz, h3, h4, h5, h6, Addr.add_mid]
/-- A text's block. -/
def blk (c : List UInt8) (i : Nat) : List UInt8 := (c.drop (64 * i)).take 64
/-- The state behind the first blocks. -/
def sB (c : List UInt8) : Nat → Nat → BitVec 32
  | 0 => Fc
  | k + 1 => turnF Kc (sB c k) (blk c k)
theorem bAt_blk (c : List UInt8) (k i : Nat) (h : i < 64) : bAt (blk c k) i = bAt c (64 * k + i) := by
  simp [bAt, blk, h, List.getElem?_drop]
theorem sB_fold (c : List UInt8) (k : Nat) : ((List.range k).map (blk c)).foldl (turnF Kc) Fc = sB c k := by
  induction k with
  | zero => rfl
  | succ k ih => rw [List.range_succ, List.map_append, List.foldl_append, ih]; rfl
theorem sha_blocks (c : List UInt8) (m : Nat) (h : c.length = 64 * m) : shaL Kc Fc c = dig (turnF Kc (sB c m) (fillB c.length)) := by
  have hf : (fillB c.length).length = 64 := by rw [fillB_length, h]; simp
  obtain ⟨_, h2⟩ := rem_full c (fillB c.length) (by rw [hf]; omega)
  have hr : rem c = [] := by unfold rem; rw [show 64 * (c.length / 64) = c.length by omega]; simp
  rw [shaL, h2, hr, List.nil_append, List.foldl_append]
  have : cks c = (List.range m).map (blk c) := by unfold cks; rw [h, show 64 * m / 64 = m by omega]; rfl
  rw [this, sB_fold]; rfl
theorem info22s : (Tryd.prog.info? 116).map (·.size) = some 1 := by kernel_rfl
theorem equal_state (w : World) (d : Nat → BitVec 32) : (Op.equalIn 10000 117 (.agg (rowA 8 (uF d))) (.agg (rowA 8 (uF d)))).run Tryd.prog w = .ok true w :=
  equalIn_same w 9998 117 116 8 .u32 Tryd.underlying117 Tryd.underlying116 info22s (fun i => uN (d i))
theorem equal_state2 (w : World) (d : Nat → BitVec 32) : (Op.equalIn 10000 117 (.agg (rowA 8 (uF d))) (.agg #[.int .u32 (uN (d 0)), .int .u32 (uN (d 1)), .int .u32 (uN (d 2)), .int .u32 (uN (d 3)), .int .u32 (uN (d 4)), .int .u32 (uN (d 5)), .int .u32 (uN (d 6)), .int .u32 (uN (d 7))])).run Tryd.prog w = .ok true w := equal_state w d
theorem u32_mul16m (x : BitVec 32) : IntKind.u32.wrap (uN x * (16777216 : Int)) = uN (x <<< 24) := u32_shl x 24
theorem u32_mul65k (x : BitVec 32) : IntKind.u32.wrap (uN x * (65536 : Int)) = uN (x <<< 16) := u32_shl x 16
theorem Sum_new1 (v : Value) (l : List UInt8) (D : Nat → UInt8) (W : World) (hT : Tables W) (h : RdV W [] v l) (ht : l.length ≤ 4611686018427387904) (hD : shaL Kc Fc l = D) :
    Calls Tryd.prog 72 #[.slice (some ⟨W.heap.size, 0, none⟩) 1 1] (W.alloc (.cells #[v] 49)) fun e w' => e = .returned (.agg (rowA 32 (bF D))) ∧ Below W.heap.size W w' := by
  have hB := (Below.refl _ W).alloc (Nat.le_refl _) (.cells #[v] 49)
  refine (Sum_c _ [(v, l)] _ (hT.below hB) (parts_new [(v, l)] 49 (by simp) (by simp) (by simpa using h)) (by simpa [total] using ht)).mono ?_
  rintro e w' ⟨rfl, hb⟩
  rw [show flat [(v, l)] = l by simp [flat], hD]
  exact ⟨rfl, hB.trans (hb.mono hB.size)⟩
end Go.Proofs.YtchpmdcacpjojaaDoor
/- Package mac: the key's masks, and its block. -/
namespace Go.Proofs.YtchpmdcacpjojaaDoor
open Go Go.RowKit
set_option maxRecDepth 8000
set_option linter.all false
attribute [local go_sem] bF_at u8_xor

def maskTo (b : Nat → UInt8) (m : UInt8) (k i : Nat) : UInt8 := if i < k then b i ^^^ m else b i
theorem maskTo_set (b : Nat → UInt8) (m : UInt8) (k i : Nat) : (if i = k then Value.int .u8 (bN (b k ^^^ m)) else bF (maskTo b m k) i) = bF (maskTo b m (k + 1)) i := by
  simp only [bF, maskTo]
  by_cases h : i = k
  · subst h; simp
  · by_cases h2 : i < k
    · rw [if_neg h, if_pos h2, if_pos (by omega)]
    · rw [if_neg h, if_neg h2, if_neg (by omega)]
/-- A block, each byte put together with m. -/
def maskL (b : Nat → UInt8) (m : UInt8) : List UInt8 := (List.range 64).map fun i => b i ^^^ m
theorem maskL_length (b : Nat → UInt8) (m : UInt8) : (maskL b m).length = 64 := by simp [maskL]
theorem info64 : (Tryd.prog.info? 108).map (·.size) = some 64 := by kernel_rfl
theorem run_sliceAt_64 (w : World) (g : Nat) : (Instr.sliceAt 108 (.pointer (some ⟨g, 0, none⟩)) none none none).run Tryd.prog w = .ok (.slice (some ⟨g, 0, none⟩) 64 64) w := by
  have hsz : (sizeOf 5).run Tryd.prog w = .ok 1 w := by
    have hs := info5s
    cases hq : Tryd.prog.info? 5 with
    | none => simp [hq] at hs
    | some i => simp [hq] at hs; simp [sizeOf, typeInfo, hq, hs]
  simp [Instr.sliceAt, run_underlying Tryd.underlying108, Instr.sureAddr, Instr.sliceBounds, hsz, Addr.add_zero']
attribute [local go_sem] run_sliceAt_64
set_option maxHeartbeats 1000000 in
theorem masked_any (b : Nat → UInt8) (m : UInt8) (w : World) : Cv 74 #[.agg (rowA 64 (bF b)), .int .u8 (bN m)] w (svRd (maskL b m)) := by
  unfold Cv
  go_enter Tryd.func74, Tryd.ntmps74
  go_upto_region 1 with fail
  have r0 := rowIs_box w 108 64 (bF b)
  have hB : Below w.heap.size w (w.alloc (.cells (rowA 64 (bF b)) 108)) := (Below.refl _ w).alloc (Nat.le_refl _) _
  change Code.wp _ _ _ _ (w.alloc (.cells (rowA 64 (bF b)) 108))
  generalize w.alloc (.cells (rowA 64 (bF b)) 108) = W0 at r0 hB ⊢
  go_wp2
  go_loopw [6] (fun i wr => ∃ k : Nat, k ≤ 64 ∧ i = .int .i64 k ∧ wr.rowIs w.heap.size 108 64 (bF (maskTo b m k)) ∧ Below w.heap.size w wr) (fun i _ => 64 - (intOf i).toNat)
  case atStart => exact ⟨0, by omega, rfl, r0.congr fun i _ => by simp [bF, maskTo], hB⟩
  case round =>
    obtain ⟨k, hk, rfl, q0, qB⟩ := hrel
    clear r0 hB
    by_cases hlt : k < 64
    · have c0 := q0.cell (i := k) hlt
      rw [bF_at, show maskTo b m k k = b k by simp [maskTo]] at c0
      have f0 := q0.frozen k
      go_wp2
      go_roundw
      case rel => exact ⟨k + 1, by omega, by go_num, (q0.set k _).congr fun i _ => maskTo_set _ _ k i, qB.setCell (by simp) _⟩
      case measure => simp [intOf]; omega
    · obtain rfl : k = 64 := by omega
      go_wp2
      go_ret
      have := rd_row (L := []) q0 (by simp) (by omega)
      refine ⟨_, rfl, qB, ?_⟩
      have e : (List.range 64).map (maskTo b m 64) = maskL b m := List.map_congr_left fun i hi => by simp at hi; simp [maskTo, hi]
      rw [e] at this
      exact this
/-- A key as HMAC takes it. -/
def keyOf (l : List UInt8) : List UInt8 := if 64 < l.length then digL (shaL Kc Fc l) else l
theorem keyOf_length (l : List UInt8) : (keyOf l).length ≤ 64 := by
  unfold keyOf; split
  · rw [digL_length]; omega
  · omega
def keyB (l : List UInt8) (i : Nat) : UInt8 := bAt (keyOf l) i

/-- Bytes copied into a row that is new. -/
theorem opr_copy {B : Nat} {a : Act} {w W : World} {o : Oper} {K : Act → World → Prop} {Q : Exit → Act → World → Prop} {x y : Operand} {g n c : Nat} {t : TypeId} {f0 : Nat → UInt8} {l : List UInt8} {L : List Nat}
    (ho : o.op = .call { callee := .builtin .copy, args := #[x, y], argTypes := #[49, 49] }) (hx : a.eval x = .slice (some ⟨g, 0, none⟩) n c) (hy : RdV w L (a.eval y) l) (hl : l.length ≤ n) (hr : w.rowIs g t n (bF f0)) (hN : Below B W w) (hg : B ≤ g)
    (h : ∀ v w', Below B W w' → w'.rowIs g t n (bF fun i => if i < l.length then bAt l i else f0 i) → K (a.put o.dst v) w') : o.wp Tryd.prog a w K Q := by
  obtain ⟨dst, op, type, pos, after, guard⟩ := o
  simp only at ho
  subst ho
  obtain ⟨A, cap, hv, _, _, hc⟩ := hy
  have hex : execOp a.eval { dst, op := .call { callee := .builtin .copy, args := #[x, y], argTypes := #[49, 49] }, type, pos, after, guard } = (do pure (.value (← Builtin.copy_ #[49, 49] type #[a.eval x, a.eval y]))) := by
    show (do let d ← resolve a.eval { callee := .builtin .copy, args := #[x, y], argTypes := #[49, 49] } type; invoke d.target d.args) = _
    simp only [resolve, invoke, pure_bind, BigFrame.builtin_copy, List.map_toArray, List.map_cons, List.map_nil]
  by_cases h0 : l.length = 0
  · refine opr_val (s := Builtin.copy_ #[49, 49] type #[a.eval x, a.eval y]) (v := goInt 0) (w' := w) hex ?_ (h _ _ hN (hr.congr fun i _ => by simp [bF, h0]))
    rw [hx, hv]
    exact run_copy_none (P := Tryd.prog) w 49 49 type 5 _ _ _ _ _ _ Tryd.underlying49 info5s (by rw [h0]; exact Nat.zero_min _)
  · obtain ⟨b, o2, rfl, _, hcell⟩ := hc (by omega)
    have hlen : (l.map fun b => Value.int .u8 (bN b)).length = l.length := by simp
    refine opr_val (s := Builtin.copy_ #[49, 49] type #[a.eval x, a.eval y]) (v := goInt (l.map fun b => Value.int .u8 (bN b)).length) (w' := w.setCells g 0 (l.map fun b => Value.int .u8 (bN b))) hex ?_ (h _ _ (below_setCells g hg _ _ _ hN) ((rowIs_setCells_at hr _ 0).congr fun i hi => ?_))
    · rw [hx, hv]
      refine run_copy_cells (P := Tryd.prog) w 49 49 type 5 g 0 n c ⟨b, o2, none⟩ l.length cap _ Tryd.underlying49 info5s (by rw [hlen]; exact (Nat.min_eq_left hl).symm) (fun j v hj => ?_) (fun j hj => ?_) (fun j hj => ?_) (by simp [Value.oneCell'])
      · have hjl : j < l.length := by have := (List.getElem?_eq_some_iff.1 hj).1; simpa using this
        rw [map_at l j hjl] at hj
        rw [Addr.add_mid, hcell j hjl]; exact hj
      · rw [hlen] at hj; rw [Nat.zero_add, hr.cell (by omega)]; rfl
      · rw [Nat.zero_add]; exact hr.frozen j
    · rw [hlen]
      by_cases hil : i < l.length
      · simp [hil, bF, bAt]
      · simp [hil, bF]
theorem run_alloc_64 (w : World) : (Instr.alloc 108 true (.tuple #[])).run Tryd.prog w = .ok (.pointer (some ⟨w.heap.size, 0, none⟩)) (w.alloc (.cells (rowA 64 (bF fun _ => 0)) 108)) := by
  simp [go_sem]; rfl
theorem opr_alloc_64 {a : Act} {w : World} {o : Oper} {K : Act → World → Prop} {Q : Exit → Act → World → Prop} {W : World} (ho : o.op = .alloc 108) (hT : NewT W w) (h : ∀ v w', NewT w w' → (svNew W 108 64).pred v w' → K (a.put o.dst v) w') : o.wp Tryd.prog a w K Q := by
  obtain ⟨dst, op, type, pos, after, guard⟩ := o
  simp only at ho
  subst ho
  exact opr_val (s := Instr.alloc 108 true (.tuple #[])) rfl (run_alloc_64 w) (h _ _ (NewT.alloc _ _) ⟨w.heap.size, rfl, hT.out.size, rowIs_box w 108 64 _⟩)
theorem opr_load_64 {a : Act} {w : World} {o : Oper} {K : Act → World → Prop} {Q : Exit → Act → World → Prop} {x : Operand} {g : Nat} {t : TypeId} {d : Nat → UInt8} (ho : o.op = .load 108 x) (hx : a.eval x = .pointer (some ⟨g, 0, none⟩)) (hr : w.rowIs g t 64 (bF d)) (h : K (a.put o.dst (.agg (rowA 64 (bF d)))) w) : o.wp Tryd.prog a w K Q := by
  obtain ⟨dst, op, type, pos, after, guard⟩ := o
  simp only at ho
  subst ho
  refine opr_val (s := Instr.loadAt 108 (a.eval x)) rfl ?_ h
  rw [hx]
  have := run_loadAt_mid (P := Tryd.prog) w g 0 108 (rowA 64 (bF d)).toList _ (rangeAt_row hr) Tryd.underlying108 rfl (by rw [rowA_toList]; simpa using info64)
  simpa using this
theorem opr_slice_64 {a : Act} {w : World} {o : Oper} {K : Act → World → Prop} {Q : Exit → Act → World → Prop} {x : Operand} {g : Nat} (ho : o.op = .slice 108 x none none none) (hx : a.eval x = .pointer (some ⟨g, 0, none⟩)) (h : K (a.put o.dst (.slice (some ⟨g, 0, none⟩) 64 64)) w) : o.wp Tryd.prog a w K Q := by
  obtain ⟨dst, op, type, pos, after, guard⟩ := o
  simp only at ho
  subst ho
  refine opr_val (s := Instr.sliceAt 108 (a.eval x) none none none) rfl ?_ h
  rw [hx]; exact run_sliceAt_64 w g
end Go.Proofs.YtchpmdcacpjojaaDoor
/- Package mac: the key's block. -/
namespace Go.Proofs.YtchpmdcacpjojaaDoor
open Go Go.RowKit
set_option maxRecDepth 8000
set_option linter.all false
set_option maxHeartbeats 1000000 in
theorem keyBlock_short (A : Option Addr) (n c : Nat) (l : List UInt8) (w : World) (hr : RdV w [] (.slice A n c) l) (hl : l.length ≤ 64) :
    Cv 71 #[.slice A n c] w (.eq (.agg (rowA 64 (bF (keyB l))))) := by
  have hk : keyB l = bAt l := by unfold keyB keyOf; rw [if_neg (by omega)]
  rw [hk]
  unfold Cv
  have hn : l.length = n := by obtain ⟨_, _, hv, _⟩ := hr; cases hv; rfl
  subst hn
  have Hr := Lib.hid hr
  clear hr hk
  have hd : decide ((64 : Int) < (l.length : Int)) = false := by simp; omega
  go_enter Tryd.func71, Tryd.ntmps71
  go_upto_region 2 with fail
  have r0 := (rowIs_box w 108 64 (bF fun _ => 0)).alloc (.cells (rowA 64 (bF fun _ => 0)) 108)
  have r1 := rowIs_box (w.alloc (.cells (rowA 64 (bF fun _ => 0)) 108)) 108 64 (bF fun _ => 0)
  rw [World.size_alloc] at r1
  have hB : Below w.heap.size w ((w.alloc (.cells (rowA 64 (bF fun _ => 0)) 108)).alloc (.cells (rowA 64 (bF fun _ => 0)) 108)) := ((Below.refl _ w).alloc (Nat.le_refl _) _).alloc (by simp) _
  change Code.wp _ _ _ _ ((w.alloc (.cells (rowA 64 (bF fun _ => 0)) 108)).alloc (.cells (rowA 64 (bF fun _ => 0)) 108))
  generalize ((w.alloc (.cells (rowA 64 (bF fun _ => 0)) 108)).alloc (.cells (rowA 64 (bF fun _ => 0)) 108)) = W0 at r0 r1 hB ⊢
  have Hr0 := Lib.hid (Hr.out.keep (KeepBut.below hB))
  go_upto_region 5 with fail
  refine wp_region_seq NewT [SV.eq (.slice (some ⟨w.heap.size + 1, 0, none⟩) 64 64), svRd l] [([(3, none)], none), ([(0, none)], none)] 16 rfl rfl (by kernel_rfl) rfl NewT.trans (NewT.refl _) (Nat.le_of_ble_eq_true rfl) ⟨?_, ?_, trivial⟩ ?_
  · -- 0: Op.slice 108 t3 none none none
    intro a wx hT hF K hK
    obtain ⟨f3, _⟩ := hF
    have f3 : a.tmps.getD 3 undef = .pointer (some ⟨w.heap.size + 1, 0, none⟩) := f3
    refine rely_wp rfl ?_
    exact opr_slice_64 rfl f3 (hK _ _ (NewT.refl _) rfl)
  · -- 1: Op.move t0
    intro a wx hT hF K hK
    obtain ⟨f0, _⟩ := hF
    have f0 : a.tmps.getD 0 undef = .slice A l.length c := f0
    refine rely_wp rfl ?_
    exact opr_move (.inl rfl) (hK _ _ (NewT.refl _) (by rw [eval_tmp, f0]; exact hT.rd Hr0.out))
  · intro wx hT
    intro u h; obtain rfl := h (by simp); clear h
    intro u13 h; have g13 := h (by simp); clear h; replace g13 := show (svRd l).pred u13 wx from g13
    refine relyEnd_nil rfl ?_
    simp only [Act.put, List.setIfInBounds_toArray, List.set_cons_zero, List.set_cons_succ]
    refine opr_copy (B := w.heap.size + 1) (W := W0) rfl rfl g13 hl (hT.row r1) (hT.out.mono (Nat.le_of_lt r1.lt)) (Nat.le_refl _) ?_
    intro v w2 hB2 q1
    replace q1 := q1.congr (g := bF (bAt l)) (fun i _ => by simp only [bF]; by_cases h : i < l.length <;> simp [h, bAt])
    have q0 := rowIs_below r0 hB2 (Nat.lt_succ_self _)
    have hB3 := hB.trans (hB2.mono (Nat.le_succ _))
    clear r0 r1 hB hB2 hT
    go_simp
    go_upto_region 6 with fail
    refine wp_region_seq NewT [SV.eq (.agg (rowA 64 (bF (bAt l))))] [([(3, none)], none)] 16 rfl rfl (by kernel_rfl) rfl NewT.trans (NewT.refl _) (Nat.le_of_ble_eq_true rfl) ⟨?_, trivial⟩ ?_
    · intro a wx hT hF K hK
      obtain ⟨f3, _⟩ := hF
      have f3 : a.tmps.getD 3 undef = .pointer (some ⟨w.heap.size + 1, 0, none⟩) := f3
      refine rely_wp rfl ?_
      exact opr_load_64 rfl f3 (hT.row q1) (hK _ _ (NewT.refl _) rfl)
    · intro wx hT
      intro u h; obtain rfl := h (by simp); clear h
      refine relyEnd_nil rfl ?_
      simp only [Act.put, List.setIfInBounds_toArray, List.set_cons_zero, List.set_cons_succ]
      refine opr_store_new (B := w.heap.size) (W := w) info64 rfl rfl rfl (hT.row q0) (hB3.trans (hT.out.mono hB3.size)) (Nat.le_refl _) ?_
      intro wy hB4 r4
      go_simp
      go_wp2
      exact bodyPost_ret (results_row rfl _ rfl r4 Tryd.underlying108 info64) rfl ⟨_, rfl, hB4, rfl⟩
set_option maxHeartbeats 1000000 in
theorem keyBlock_long (A : Option Addr) (n c : Nat) (l : List UInt8) (w : World) (hT : Tables w) (hr : RdV w [] (.slice A n c) l) (hl : 64 < l.length) (hl2 : l.length ≤ 4611686018427387904) :
    Cv 71 #[.slice A n c] w (.eq (.agg (rowA 64 (bF (keyB l))))) := by
  have hk : keyB l = bAt (digL (shaL Kc Fc l)) := by unfold keyB keyOf; rw [if_pos hl]
  rw [hk]
  obtain ⟨D, HD⟩ := hid_ex (shaL Kc Fc l)
  rw [HD.out]
  have HT := Lib.hid hT
  clear hT
  unfold Cv
  have hn : l.length = n := by obtain ⟨_, _, hv, _⟩ := hr; cases hv; rfl
  subst hn
  have Hr := Lib.hid hr
  clear hr hk
  have hd : decide ((64 : Int) < (l.length : Int)) = true := by simp; omega
  go_enter Tryd.func71, Tryd.ntmps71
  go_upto_region 2 with fail
  have r0 := (rowIs_box w 108 64 (bF fun _ => 0)).alloc (.cells (rowA 64 (bF fun _ => 0)) 108)
  have r1 := rowIs_box (w.alloc (.cells (rowA 64 (bF fun _ => 0)) 108)) 108 64 (bF fun _ => 0)
  rw [World.size_alloc] at r1
  have hB : Below w.heap.size w ((w.alloc (.cells (rowA 64 (bF fun _ => 0)) 108)).alloc (.cells (rowA 64 (bF fun _ => 0)) 108)) := ((Below.refl _ w).alloc (Nat.le_refl _) _).alloc (by simp) _
  change Code.wp _ _ _ _ ((w.alloc (.cells (rowA 64 (bF fun _ => 0)) 108)).alloc (.cells (rowA 64 (bF fun _ => 0)) 108))
  generalize ((w.alloc (.cells (rowA 64 (bF fun _ => 0)) 108)).alloc (.cells (rowA 64 (bF fun _ => 0)) 108)) = W0 at r0 r1 hB ⊢
  have Hr0 := Lib.hid (Hr.out.keep (KeepBut.below hB))
  have HT0 := Lib.hid (HT.out.below hB)
  go_upto_region 3 with fail
  refine wp_region_seq NewT [svRd l, svParts [l], SV.eq (.agg (rowA 32 (bF D))), svNew W0 32 32] [([(0, none)], none), ([(8, some 0)], none), ([(9, some 1)], none), ([], none)] 16 rfl rfl (by kernel_rfl) rfl NewT.trans (NewT.refl _) (Nat.le_of_ble_eq_true rfl) ⟨?_, ?_, ?_, ?_, trivial⟩ ?_
  · -- 0: Op.move t0
    intro a wx hT hF K hK
    obtain ⟨f0, _⟩ := hF
    have f0 : a.tmps.getD 0 undef = .slice A l.length c := f0
    refine rely_wp rfl ?_
    exact opr_move (.inl rfl) (hK _ _ (NewT.refl _) (by rw [eval_tmp, f0]; exact hT.rd Hr0.out))
  · -- 1: Op.buildSlice 99 1 #[(0, t8)]
    intro a wx hT hF K hK
    obtain ⟨f8, _⟩ := hF
    replace f8 := show (svRd l).pred (a.tmps.getD 8 undef) wx from f8
    refine rely_wp rfl ?_
    exact opr_bs1 rfl f8 hK
  · -- 2: Op.call ( value (Operand.func 72), args := #[t9], argTypes :
    intro a wx hT hF K hK
    obtain ⟨f9, _⟩ := hF
    replace f9 := show (svParts [l]).pred (a.tmps.getD 9 undef) wx from f9
    refine rely_wp rfl ?_
    exact opr_cv (Sum_cv _ [l] D wx (hT.tables HT0.out) f9 (by simpa using hl2) (by simp; exact HD.out)) rfl Tryd.func72 (by kernel_rfl) (by kernel_rfl) (by simp only [List.map_toArray, List.map_cons, List.map_nil, eval_tmp]) hK
  · -- 3: Op.alloc 32
    intro a wx hT hF K hK
    refine rely_wp rfl ?_
    exact opr_alloc_hash rfl hT hK
  · intro wx hT
    intro u8 h; have g8 := h (by simp); clear h; replace g8 := show (svRd l).pred u8 wx from g8
    intro u9 h; have g9 := h (by simp); clear h; replace g9 := show (svParts [l]).pred u9 wx from g9
    intro u h; obtain rfl := h (by simp); clear h
    intro u4 h; obtain ⟨p4, hv, hp4, rr4⟩ := svNew_out (h (by simp)); clear h; subst hv
    refine relyEnd_nil rfl ?_
    simp only [Act.put, List.setIfInBounds_toArray, List.set_cons_zero, List.set_cons_succ]
    refine opr_store_new info31 rfl rfl rfl rr4 hT.out hp4 ?_
    clear hT rr4
    intro wy hT rr4
    replace hT := NewT.of hT
    go_simp
    replace r0 := hT.row r0
    replace r1 := hT.row r1
    replace hB := hB.trans (hT.out.mono hB.size)
    have rdD := rd_row (L := []) rr4 (by simp) (by omega)
    change RdV wy [] (.slice (some ⟨p4, 0, none⟩) 32 32) (digL D) at rdD
    have RdD := Lib.hid rdD
    clear rdD rr4 Hr0 HT0 hT g8 g9 hp4
    have rdD := RdD.out
    go_upto_region 5 with fail
    refine wp_region_seq NewT [SV.eq (.slice (some ⟨w.heap.size + 1, 0, none⟩) 64 64), svRd (digL D)] [([(3, none)], none), ([(0, none)], none)] 16 rfl rfl (by kernel_rfl) rfl NewT.trans (NewT.refl _) (Nat.le_of_ble_eq_true rfl) ⟨?_, ?_, trivial⟩ ?_
    · -- 0: Op.slice 108 t3 none none none
      intro a wx hT hF K hK
      obtain ⟨f3, _⟩ := hF
      have f3 : a.tmps.getD 3 undef = .pointer (some ⟨w.heap.size + 1, 0, none⟩) := f3
      refine rely_wp rfl ?_
      exact opr_slice_64 rfl f3 (hK _ _ (NewT.refl _) rfl)
    · -- 1: Op.move t0
      intro a wx hT hF K hK
      obtain ⟨f0, _⟩ := hF
      have f0 : a.tmps.getD 0 undef = .slice (some ⟨p4, 0, none⟩) 32 32 := f0
      refine rely_wp rfl ?_
      exact opr_move (.inl rfl) (hK _ _ (NewT.refl _) (by rw [eval_tmp, f0]; exact hT.rd rdD))
    · intro wx hT
      intro u h; obtain rfl := h (by simp); clear h
      intro u13 h; have g13 := h (by simp); clear h; replace g13 := show (svRd (digL D)).pred u13 wx from g13
      refine relyEnd_nil rfl ?_
      simp only [Act.put, List.setIfInBounds_toArray, List.set_cons_zero, List.set_cons_succ]
      refine opr_copy (B := w.heap.size + 1) (W := wy) rfl rfl g13 (by rw [digL_length]; omega) (hT.row r1) (hT.out.mono (Nat.le_of_lt r1.lt)) (Nat.le_refl _) ?_
      intro v w2 hB2 q1
      replace q1 := q1.congr (g := bF (bAt (digL D))) (fun i _ => by simp only [bF]; by_cases h : i < (digL D).length <;> simp [h, bAt])
      have q0 := rowIs_below r0 hB2 (Nat.lt_succ_self _)
      have hB3 := hB.trans (hB2.mono (Nat.le_succ _))
      clear r0 r1 hB hB2 hT
      go_simp
      go_upto_region 6 with fail
      refine wp_region_seq NewT [SV.eq (.agg (rowA 64 (bF (bAt (digL D)))))] [([(3, none)], none)] 16 rfl rfl (by kernel_rfl) rfl NewT.trans (NewT.refl _) (Nat.le_of_ble_eq_true rfl) ⟨?_, trivial⟩ ?_
      · intro a wx hT hF K hK
        obtain ⟨f3, _⟩ := hF
        have f3 : a.tmps.getD 3 undef = .pointer (some ⟨w.heap.size + 1, 0, none⟩) := f3
        refine rely_wp rfl ?_
        exact opr_load_64 rfl f3 (hT.row q1) (hK _ _ (NewT.refl _) rfl)
      · intro wx hT
        intro u h; obtain rfl := h (by simp); clear h
        refine relyEnd_nil rfl ?_
        simp only [Act.put, List.setIfInBounds_toArray, List.set_cons_zero, List.set_cons_succ]
        refine opr_store_new (B := w.heap.size) (W := w) info64 rfl rfl rfl (hT.row q0) (hB3.trans (hT.out.mono hB3.size)) (Nat.le_refl _) ?_
        intro wy hB4 r4
        go_simp
        go_wp2
        exact bodyPost_ret (results_row rfl _ rfl r4 Tryd.underlying108 info64) rfl ⟨_, rfl, hB4, rfl⟩
theorem keyBlock_cv (v : Value) (l : List UInt8) (w : World) (hT : Tables w) (hr : RdV w [] v l) (hl2 : l.length ≤ 4611686018427387904) : Cv 71 #[v] w (.eq (.agg (rowA 64 (bF (keyB l))))) := by
  have hr0 := hr
  obtain ⟨A, c, rfl, _⟩ := hr0
  by_cases h : l.length ≤ 64
  · exact keyBlock_short A _ c l w hr h
  · exact keyBlock_long A _ c l w hT hr (by omega) hl2
end Go.Proofs.YtchpmdcacpjojaaDoor
/- Package mac: slices of slices that are put together piece by piece: each piece reads as bytes that no append turns. -/
namespace Go.Proofs.YtchpmdcacpjojaaDoor
open Go Go.RowKit
set_option maxRecDepth 8000
set_option linter.all false

/-- Pieces: a row of slices of the call's own (from base on), each of which reads as its bytes outside that row. -/
def Pcs (W : World) (base : Nat) (v : Value) (ls : List (List UInt8)) : Prop :=
  ∃ ps : List (Value × List UInt8), ps.map (·.2) = ls ∧ W.ownsRow base 49 1 v ps.length (ps.map (·.1)) ∧ ∀ x ∈ ps, RdV W v.ownBlock.toList x.1 x.2
theorem Pcs.own_lt {W : World} {base : Nat} {v : Value} {ls : List (List UInt8)} (h : Pcs W base v ls) (k : Nat) (hk : v.ownBlock = some k) : k < W.heap.size ∧ base ≤ k := by
  obtain ⟨ps, _, ho, _⟩ := h
  exact ⟨(ho.lt k hk).2, (ho.lt k hk).1⟩
theorem Pcs.new {W W' : World} {base : Nat} {v : Value} {ls : List (List UInt8)} (h : Pcs W base v ls) (hN : NewT W W') : Pcs W' base v ls := by
  have hlt := h.own_lt
  obtain ⟨ps, h1, h2, h3⟩ := h
  refine ⟨ps, h1, ?_, fun x hx => hN.rd (h3 x hx)⟩
  obtain ⟨a, b⟩ := h2
  refine ⟨a, ?_⟩
  rcases b with b | ⟨g, cap, cur, rfl, hb, hg, r⟩
  · exact .inl b
  · exact .inr ⟨g, cap, cur, rfl, hb, (hN.out.block g (hlt g rfl).1).trans hg, r⟩
theorem Pcs.parts {W : World} {base : Nat} {v : Value} {ls : List (List UInt8)} (h : Pcs W base v ls) : Parts W v ls := by
  obtain ⟨ps, h1, h2, h3⟩ := h
  refine ⟨ps, ?_, h1⟩
  rcases h2.2 with ⟨rfl, h0⟩ | ⟨g, cap, cur, rfl, _, _, hnc, hcm, _, _⟩
  · have : ps = [] := List.eq_nil_of_length_eq_zero h0
    subst this
    exact ⟨none, 0, rfl, Nat.le_refl _, by unfold maxLen; omega, fun h => absurd h (by simp), fun x hx => by simp at hx⟩
  · refine ⟨some ⟨g, 0, none⟩, cap, rfl, hnc, hcm, fun _ => ⟨g, 0, rfl, by simp, fun i x hx => ?_⟩, fun x hx => (h3 x hx).less (by simp)⟩
    have hc := h2.cells (g := g) rfl i x.1 (by rw [List.getElem?_map, hx]; rfl)
    rwa [Addr.add_mid] at hc
theorem info24 : (Tryd.prog.info? 49).map (fun i => (i.zero, i.size, i.bytes)) = some (some (.slice none 0 0), 1, 24) := by kernel_rfl
/-- New pieces are put behind. -/
theorem run_append_pcs {W : World} {base : Nat} {v : Value} {ls : List (List UInt8)} (hp : Pcs W base v ls) (hbase : base ≤ W.heap.size) (us : List (Value × List UInt8)) (hu : ∀ x ∈ us, RdV W v.ownBlock.toList x.1 x.2)
    (s c : Nat) (hs : ∀ j x, us[j]? = some x → W.cell? ⟨s, j, none⟩ = some x.1) (hlen : ls.length + us.length ≤ 1000000) (ty : TypeId) :
    ∃ v' w', (Builtin.append_ #[99, 99] ty #[v, .slice (some ⟨s, 0, none⟩) us.length c]).run Tryd.prog W = .ok v' w' ∧ Pcs w' base v' (ls ++ us.map (·.2)) ∧ W.grownBy w' v.ownBlock := by
  obtain ⟨ps, h1, h2, h3⟩ := hp
  have hpl : ps.length = ls.length := by rw [← h1]; simp
  obtain ⟨i0, hi, hz0, hz1, hz2⟩ := info_parts info24
  obtain ⟨v', w', hrun, hown, hgr, _, hat⟩ := run_append_own_at (P := Tryd.prog) (w := W) base 99 ty 49 i0 _ 1 24 Tryd.underlying99 hi hz0 hz1 hz2 rfl (by omega) v ps.length (ps.map (·.1)) h2
    ⟨s, 0, none⟩ us.length c (us.map (·.1)) (by simp) (fun j u hj => by
      rw [Addr.add_mid, Nat.zero_add]
      rw [List.getElem?_map] at hj
      cases hx : us[j]? with
      | none => rw [hx] at hj; simp at hj
      | some x => rw [hx] at hj; simp at hj; subst hj; exact hs j x hx)
    (fun u hm => by
      obtain ⟨x, hx, rfl⟩ := List.mem_map.1 hm
      obtain ⟨A, cap, hv, _⟩ := hu x hx
      rw [hv]; rfl) (by unfold maxLen; omega) (by omega) hbase
  refine ⟨v', w', hrun, ⟨ps ++ us, by rw [List.map_append, h1], by rw [List.length_append, List.map_append]; exact hown, fun x hx => ?_⟩, hgr⟩
  have hx0 : RdV W v.ownBlock.toList x.1 x.2 := by
    rcases List.mem_append.1 hx with h | h
    · exact h3 x h
    · exact hu x h
  rcases hat with e | e
  · rw [e]; exact hx0.keep (keepBut_grown hgr fun k hk => by simp [hk])
  · rw [e]
    have hx1 : RdV W (W.heap.size :: v.ownBlock.toList) x.1 x.2 := hx0.more fun k hk hn hm => by
      rcases List.mem_cons.1 hm with rfl | h
      · omega
      · exact hn h
    exact (hx1.keep (keepBut_grown hgr fun k hk => by simp [hk])).less (by simp)
theorem Pcs.below {W w' : World} {base : Nat} {v : Value} {ls : List (List UInt8)} (h : Pcs W base v ls) (hg : W.grownBy w' v.ownBlock) (hb : base ≤ W.heap.size) : Below base W w' :=
  (Below.refl base W).grown hg hb (fun k hk => (h.own_lt k hk).2)
end Go.Proofs.YtchpmdcacpjojaaDoor
/- Package mac: parts behind their lengths, words as bytes, and the texts that are put together of them. -/
namespace Go.Proofs.YtchpmdcacpjojaaDoor
open Go Go.RowKit
set_option maxRecDepth 8000
set_option linter.all false

/-- A number of 64 bits, as it lies in memory (two's complement). -/
def wN (n : Int) : Nat := (n % 18446744073709551616).toNat
theorem wN_eq (n : Int) : IntKind.u64.wrap n = (wN n : Int) := by rw [wrap_u64, wN]; omega
theorem wN_nat (n : Nat) (h : n < 18446744073709551616) : wN (n : Int) = n := by unfold wN; omega
end Go.Proofs.YtchpmdcacpjojaaDoor
/- Package mac: texts put together of counted pieces. -/
namespace Go.Proofs.YtchpmdcacpjojaaDoor
open Go Go.RowKit
set_option maxRecDepth 8000
set_option linter.all false
/-- A part behind its length. -/
def cntP (l : List UInt8) : List (List UInt8) := [hiL l.length 4, l]
theorem cnt_length (ls : List (List UInt8)) : (ls.flatMap cntP).length = 2 * ls.length := by
  induction ls with
  | nil => rfl
  | cons x ls ih => simp [cntP] at ih ⊢; omega
theorem pcs_one {w : World} {A : Option Addr} {n c : Nat} {l : List UInt8} (h : RdV w [] (.slice A n c) l) : Pcs (w.alloc (.cells #[.slice A n c] 49)) w.heap.size (.slice (some ⟨w.heap.size, 0, none⟩) 1 1) [l] := by
  refine ⟨[(.slice A n c, l)], rfl, ⟨rfl, .inr ⟨w.heap.size, 1, #[.slice A n c], rfl, Nat.le_refl _, World.alloc_heap_new _ _, Nat.le_refl _, by unfold maxLen; omega, rfl, rfl⟩⟩, fun x hx => ?_⟩
  simp at hx
  subst hx
  refine (NewT.alloc w _).rd (h.more fun k hk _ hm => ?_)
  simp [Value.ownBlock] at hm
  omega
/-- What lay there reads on beside the call's own row. -/
theorem rd_beside {w wr : World} {v u : Value} {ls : List (List UInt8)} {l : List UInt8} (h : RdV w [] u l) (hp : Pcs wr w.heap.size v ls) (hB : Below w.heap.size w wr) : RdV wr v.ownBlock.toList u l :=
  (h.more fun k hk _ hm => by have := (hp.own_lt k (by simpa using hm)).2; omega).keep (KeepBut.below hB)
end Go.Proofs.YtchpmdcacpjojaaDoor
/- Package mac: a part as it is. -/
namespace Go.Proofs.YtchpmdcacpjojaaDoor
open Go Go.RowKit
set_option maxRecDepth 8000
set_option linter.all false
set_option maxHeartbeats 1000000 in
theorem plainPart_any (v u : Value) (base : Nat) (ls : List (List UInt8)) (l : List UInt8) (w : World) (hp : Pcs w base v ls) (hb : base ≤ w.heap.size) (hu : RdV w v.ownBlock.toList u l) (hlen : ls.length ≤ 900000) :
    Calls Tryd.prog 75 #[v, u] w fun e w' => ∃ v', e = .returned v' ∧ Pcs w' base v' (ls ++ [l]) ∧ Below base w w' := by
  obtain ⟨A, c, rfl, h0⟩ := hu
  have hu : RdV w v.ownBlock.toList (.slice A l.length c) l := ⟨A, c, rfl, h0⟩
  clear h0
  have hN := NewT.alloc w (.cells #[.slice A l.length c] 49)
  have hrun := run_append_pcs (hp.new hN) (Nat.le_trans hb hN.out.size) [(.slice A l.length c, l)] (by simpa using hN.rd hu) w.heap.size 1 (fun j x hx => by
    match j, hx with
    | 0, hx => simp at hx; subst hx; rw [cell_new_fr _ _ _ _ _ _ rfl]; rfl) (by simp; omega) 99
  obtain ⟨v', w', hr, hp', hgr⟩ := hrun
  have hB : Below base w w' := ((Below.refl base w).alloc hb _).trans ((hp.new hN).below hgr (Nat.le_trans hb hN.out.size))
  have Hp := Lib.hid hp'
  have HB := Lib.hid hB
  clear hp' hB hgr hN hp hu
  simp only [List.length_cons, List.length_nil, Nat.zero_add] at hr
  go_enter Tryd.func75, Tryd.ntmps75
  go_upto_region 1 with fail
  refine wp_region_lit ?_
  iterate 3 (refine wpList_plain rfl (fun K hK => ?_); go_simp; refine hK _ _ ?_; clear hK K)
  refine wpList_plain rfl (fun K hK => ?_)
  refine opr_append rfl rfl rfl hr (hK _ _ ?_)
  clear hr hK K
  refine wpList_plain rfl (fun K hK => ?_)
  refine opr_move (.inr rfl) (hK _ _ ?_)
  clear hK K
  refine wpList_nil ?_
  go_simp
  go_wp2
  go_ret
  exact ⟨v', rfl, Hp.out, HB.out⟩
end Go.Proofs.YtchpmdcacpjojaaDoor
/- Package mac: words as bytes. -/
namespace Go.Proofs.YtchpmdcacpjojaaDoor
open Go Go.RowKit
set_option maxRecDepth 8000
set_option linter.all false
set_option maxHeartbeats 1000000 in
theorem wordPart_any (v : Value) (n : Int) (base : Nat) (ls : List (List UInt8)) (w : World) (hp : Pcs w base v ls) (hb : base ≤ w.heap.size) (hlen : ls.length ≤ 900000) :
    Calls Tryd.prog 65 #[v, .int .i64 n] w fun e w' => ∃ v', e = .returned v' ∧ Pcs w' base v' (ls ++ [hiL (wN n) 8]) ∧ Below base w w' := by
  have hw : IntKind.u64.wrap n = (wN n : Int) := wN_eq n
  have Hp := Lib.hid hp
  clear hp
  go_enter Tryd.func65, Tryd.ntmps65
  go_upto_region 1 with fail
  refine wp_region_lit ?_
  iterate 3 (refine wpList_plain rfl (fun K hK => ?_); go_simp; refine hK _ _ ?_; clear hK K)
  refine wpList_plain rfl (fun K hK => ?_)
  refine opr_cv (hiF_8 (wN n) w) rfl Tryd.func76 (by kernel_rfl) (by kernel_rfl) (by simp only [List.map_toArray, List.map_cons, List.map_nil]; rfl) ?_
  intro hv w1 hN1 hnew
  refine hK _ _ ?_
  clear hK K hw
  have hr9 := hnew v.ownBlock.toList (fun k hk => (Hp.out.own_lt k (by simpa using hk)).1)
  replace Hp := Lib.hid (Hp.out.new hN1)
  obtain ⟨A9, c9, rfl, h9⟩ := hr9
  have hr9 : RdV w1 v.ownBlock.toList (.slice A9 (hiL (wN n) 8).length c9) (hiL (wN n) 8) := ⟨A9, c9, rfl, h9⟩
  have Hr9 := Lib.hid hr9
  clear hr9 h9 hnew
  have hb1 : base ≤ w1.heap.size := Nat.le_trans hb hN1.out.size
  have hN := NewT.alloc w1 (.cells #[.slice A9 (hiL (wN n) 8).length c9] 49)
  have hrun := run_append_pcs (Hp.out.new hN) (Nat.le_trans hb1 hN.out.size) [(.slice A9 (hiL (wN n) 8).length c9, hiL (wN n) 8)] (by simpa using hN.rd Hr9.out) w1.heap.size 1 (fun j x hx => by
    match j, hx with
    | 0, hx => simp at hx; subst hx; rw [cell_new_fr _ _ _ _ _ _ rfl]; rfl) (by simp; omega) 99
  obtain ⟨v', w', hr, hp', hgr⟩ := hrun
  have hB : Below base w w' := (hN1.out.mono hb).trans (((Below.refl base w1).alloc hb1 _).trans ((Hp.out.new hN).below hgr (Nat.le_trans hb1 hN.out.size)))
  have Hp' := Lib.hid hp'
  have HB := Lib.hid hB
  clear hp' hB hgr hN Hp Hr9
  simp only [List.length_cons, List.length_nil, Nat.zero_add] at hr
  iterate 1 (refine wpList_plain rfl (fun K hK => ?_); go_simp; refine hK _ _ ?_; clear hK K)
  refine wpList_plain rfl (fun K hK => ?_)
  refine opr_append rfl rfl rfl hr (hK _ _ ?_)
  clear hr hK K
  refine wpList_plain rfl (fun K hK => ?_)
  refine opr_move (.inr rfl) (hK _ _ ?_)
  clear hK K
  refine wpList_nil ?_
  go_simp
  go_wp2
  go_ret
  exact ⟨v', rfl, Hp'.out, HB.out⟩
end Go.Proofs.YtchpmdcacpjojaaDoor
/- Slices of numbers that read as lists. -/
namespace Go.Proofs.YtchpmdcacpjojaaDoor
open Go Go.RowKit
set_option maxRecDepth 8000
set_option linter.all false
/-- A slice of numbers reads as is. -/
def RdI (W : World) (v : Value) (is : List Int) : Prop :=
  ∃ A cap, v = .slice A is.length cap ∧ is.length ≤ cap ∧ cap ≤ maxLen ∧ (0 < is.length → ∃ b o, A = some ⟨b, o, none⟩ ∧ ∀ i, i < is.length → W.cell? ⟨b, o + i, none⟩ = some (.int .i64 (is.getD i 0)))
theorem NewT.ints {w w' : World} (h : NewT w w') {v : Value} {is : List Int} (hr : RdI w v is) : RdI w' v is := by
  obtain ⟨A, cap, hv, h1, h2, h3⟩ := hr
  refine ⟨A, cap, hv, h1, h2, fun h0 => ?_⟩
  obtain ⟨b, o, hA, hc⟩ := h3 h0
  refine ⟨b, o, hA, fun i hi => (h.out.cell (p := ⟨b, o + i, none⟩) (World.block_lt_of_cell? _ _ (hc i hi))).trans (hc i hi)⟩
def svInts (is : List Int) : SV NewT := ⟨fun v w => RdI w v is, fun _ _ _ h hT => hT.ints h⟩
end Go.Proofs.YtchpmdcacpjojaaDoor
/- Package mac: texts put together of pieces, one behind the other: what each call returns reads as those pieces. -/
namespace Go.Proofs.YtchpmdcacpjojaaDoor
open Go Go.RowKit
set_option maxRecDepth 8000
set_option linter.all false

set_option maxHeartbeats 1000000 in
theorem text_plain (v0 pv : Value) (l0 : List UInt8) (ls : List (List UInt8)) (w : World) (h0 : RdV w [] v0 l0) (hp : Parts w pv ls) (hlen : ls.length ≤ 100000) :
    Cv 73 #[v0, .func (.func 75) #[] #[], pv] w (svParts (l0 :: ls)) := by
  unfold Cv
  obtain ⟨A0, c0, rfl, h00⟩ := h0
  have H0 : Hid (RdV w [] (.slice A0 l0.length c0) l0) := Lib.hid ⟨A0, c0, rfl, h00⟩
  clear h00
  obtain ⟨ps, hps, rfl⟩ := hp
  obtain ⟨A, cap, rfl, hpc, hpm, hA, hR⟩ := hps
  unfold maxLen at hpm
  obtain ⟨n, hn⟩ : ∃ n, n = ps.length := ⟨_, rfl⟩
  rw [← hn] at hpc
  have Hn : Hid (n = (ps.map (·.2)).length) := Lib.hid (by simpa using hn)
  have hlen' : n ≤ 100000 := by rw [Hn.out]; exact hlen
  have HA := Lib.hid (show 0 < n → ∃ b o, A = some ⟨b, o, none⟩ ∧ ∀ i x, ps[i]? = some x → w.cell? ⟨b, o + i, none⟩ = some x.1 from fun h => by
    obtain ⟨b, o, h1, _, h2⟩ := hA (by omega)
    exact ⟨b, o, h1, h2⟩)
  have HR := Lib.hid hR
  rw [← hn]
  have Hps := Lib.hid hn
  clear hA hR hn hlen
  go_enter Tryd.func73, Tryd.ntmps73
  go_wp2
  have p0 := pcs_one H0.out
  have hB : Below w.heap.size w (w.alloc (.cells #[.slice A0 l0.length c0] 49)) := (Below.refl _ w).alloc (Nat.le_refl _) _
  generalize w.alloc (.cells #[.slice A0 l0.length c0] 49) = W0 at p0 hB ⊢
  go_loopw [7, 14] (fun v i wr => ∃ k : Nat, k ≤ n ∧ i = .int .i64 k ∧ Pcs wr w.heap.size v (l0 :: (ps.map (·.2)).take k) ∧ Below w.heap.size w wr) (fun _ i _ => n - (intOf i).toNat)
  case atStart => exact ⟨0, by omega, rfl, by simpa using p0, hB⟩
  case round =>
    obtain ⟨k, hk, rfl, hp, qB⟩ := hrel
    clear p0 hB
    by_cases hlt : k < n
    · obtain ⟨b, o, rfl, hcells⟩ := HA.out (by omega)
      have hx : ps[k]? = some ps[k] := List.getElem?_eq_getElem (by rw [← Hps.out]; exact hlt)
      generalize hxx : ps[k] = x at hx
      have hcell := (qB.cell (p := ⟨b, o + k, none⟩) (World.block_lt_of_cell? _ _ (hcells k x hx))).trans (hcells k x hx)
      have hrd := rd_beside (HR.out x (List.mem_of_getElem? hx)) hp qB
      have hll : (l0 :: (ps.map (·.2)).take k).length ≤ 900000 := by
        simp; omega
      have Hext : Hid ((ps.map (·.2)).take (k + 1) = (ps.map (·.2)).take k ++ [x.2]) := Lib.hid (by
        rw [List.take_add_one, List.getElem?_map, hx]; simp)
      obtain ⟨A', c', hv', hr0⟩ := hrd
      have Hrd : Hid (RdV wr (Value.ownBlock u7).toList (.slice A' x.2.length c') x.2) := Lib.hid ⟨A', c', rfl, hr0⟩
      rw [hv'] at hcell
      have Hp := Lib.hid hp
      clear hr0 hv' hx hxx hcells hp
      go_wp2_with (go_at_call 75; refine (plainPart_any _ _ _ _ x.2 _ Hp.out qB.size Hrd.out hll).mono ?_; rintro e w2 ⟨v', rfl, hp2, hB2⟩)
      go_roundw
      case rel =>
        refine ⟨k + 1, by omega, by go_num, ?_, qB.trans hB2⟩
        have e := Hext.out
        rw [e]
        simpa using hp2
      case measure => simp [intOf]; omega
    · obtain rfl : k = n := by omega
      go_wp2
      go_ret
      refine ⟨_, rfl, qB, ?_⟩
      have := hp.parts
      rw [Hn.out, List.take_length] at this
      exact this
set_option maxHeartbeats 1000000 in
theorem text_words (v0 pv : Value) (l0 : List UInt8) (is : List Int) (w : World) (h0 : RdV w [] v0 l0) (hp : RdI w pv is) (hlen : is.length ≤ 100000) :
    Cv 64 #[v0, .func (.func 65) #[] #[], pv] w (svParts (l0 :: (is).map fun n => hiL (wN n) 8)) := by
  unfold Cv
  obtain ⟨A0, c0, rfl, h00⟩ := h0
  have H0 : Hid (RdV w [] (.slice A0 l0.length c0) l0) := Lib.hid ⟨A0, c0, rfl, h00⟩
  clear h00
  obtain ⟨A, cap, rfl, hpc, hpm, hA⟩ := hp
  unfold maxLen at hpm
  obtain ⟨n, hn⟩ : ∃ n, n = is.length := ⟨_, rfl⟩
  rw [← hn] at hpc
  have Hn : Hid (n = is.length) := Lib.hid hn
  have hlen' : n ≤ 100000 := by rw [Hn.out]; exact hlen
  have HA := Lib.hid (show 0 < n → ∃ b o, A = some ⟨b, o, none⟩ ∧ ∀ i, i < n → w.cell? ⟨b, o + i, none⟩ = some (.int .i64 (is.getD i 0)) from fun h => by
    obtain ⟨b, o, h1, h2⟩ := hA (by omega)
    exact ⟨b, o, h1, fun i hi => h2 i (by omega)⟩)
  rw [← hn]
  clear hA hn hlen
  go_enter Tryd.func64, Tryd.ntmps64
  go_wp2
  have p0 := pcs_one H0.out
  have hB : Below w.heap.size w (w.alloc (.cells #[.slice A0 l0.length c0] 49)) := (Below.refl _ w).alloc (Nat.le_refl _) _
  generalize w.alloc (.cells #[.slice A0 l0.length c0] 49) = W0 at p0 hB ⊢
  go_loopw [7, 14] (fun v i wr => ∃ k : Nat, k ≤ n ∧ i = .int .i64 k ∧ Pcs wr w.heap.size v (l0 :: (is.take k).map fun n => hiL (wN n) 8) ∧ Below w.heap.size w wr) (fun _ i _ => n - (intOf i).toNat)
  case atStart => exact ⟨0, by omega, rfl, by simpa using p0, hB⟩
  case round =>
    obtain ⟨k, hk, rfl, hp, qB⟩ := hrel
    clear p0 hB
    by_cases hlt : k < n
    · obtain ⟨b, o, rfl, hcells⟩ := HA.out (by omega)
      have hcell := (qB.cell (p := ⟨b, o + k, none⟩) (World.block_lt_of_cell? _ _ (hcells k hlt))).trans (hcells k hlt)
      generalize hxx : is.getD k 0 = x at hcell
      have hll : (l0 :: (is.take k).map fun n => hiL (wN n) 8).length ≤ 900000 := by
        simp; omega
      have Hext : Hid ((is.take (k + 1)).map (fun n => hiL (wN n) 8) = (is.take k).map (fun n => hiL (wN n) 8) ++ [hiL (wN x) 8]) := Lib.hid (by
        rw [List.take_add_one, List.getElem?_eq_getElem (by rw [← Hn.out]; exact hlt)]
        have : is[k]'(by rw [← Hn.out]; exact hlt) = x := by rw [← hxx]; simp [List.getD, show k < is.length by rw [← Hn.out]; exact hlt]
        simp [this])
      have Hp := Lib.hid hp
      clear hxx hcells hp
      go_wp2_with (go_at_call 65; refine (wordPart_any _ x _ _ _ Hp.out qB.size hll).mono ?_; rintro e w2 ⟨v', rfl, hp2, hB2⟩)
      go_roundw
      case rel =>
        refine ⟨k + 1, by omega, by go_num, ?_, qB.trans hB2⟩
        have e := Hext.out
        rw [e]
        simpa using hp2
      case measure => simp [intOf]; omega
    · obtain rfl : k = n := by omega
      go_wp2
      go_ret
      refine ⟨_, rfl, qB, ?_⟩
      have := hp.parts
      rw [Hn.out, List.take_length] at this
      exact this
end Go.Proofs.YtchpmdcacpjojaaDoor
/- Package mac: the tag of parts, by definition: what Tag returns. -/
namespace Go.Proofs.YtchpmdcacpjojaaDoor
open Go Go.RowKit
set_option maxRecDepth 8000
set_option linter.all false
theorem masked_54 (b : Nat → UInt8) (w : World) : Cv 74 #[.agg (rowA 64 (bF b)), .int .u8 54] w (svRd (maskL b 54)) := masked_any b 54 w
theorem masked_92 (b : Nat → UInt8) (w : World) : Cv 74 #[.agg (rowA 64 (bF b)), .int .u8 92] w (svRd (maskL b 92)) := masked_any b 92 w
/-- The digest that is inside a tag. -/
def inL (key text : List UInt8) : Nat → UInt8 := shaL Kc Fc (maskL (keyB key) 54 ++ text)
/-- HMAC-SHA-256. -/
def tagL (key text : List UInt8) : Nat → UInt8 := shaL Kc Fc (maskL (keyB key) 92 ++ digL (inL key text))
set_option maxHeartbeats 2000000 in
theorem Tag_cv (kv pv : Value) (kl : List UInt8) (ls : List (List UInt8)) (D : Nat → UInt8) (w : World) (hT : Tables w) (hk : RdV w [] kv kl) (hkl : kl.length ≤ 1000000) (hp : Parts w pv ls) (hlen : ls.length ≤ 100000) (htot : ls.flatten.length ≤ 1000000) (hD : tagL kl ls.flatten = D) :
    Cv 63 #[kv, pv] w (.eq (.agg (rowA 32 (bF D)))) := by
  unfold Cv
  obtain ⟨E, HE⟩ := hid_ex (inL kl ls.flatten)
  obtain ⟨B, HB⟩ := hid_ex (keyB kl)
  have HD : Hid (shaL Kc Fc (maskL B 92 ++ digL E) = D) := Lib.hid (by rw [← hD, tagL, HB.out, HE.out])
  have HE2 : Hid (shaL Kc Fc (maskL B 54 ++ ls.flatten) = E) := Lib.hid (by rw [← HE.out, inL, HB.out])
  have HT := Lib.hid hT
  have Hk := Lib.hid hk
  have Hp := Lib.hid hp
  clear hT hk hp hD HE
  go_enter Tryd.func63, Tryd.ntmps63
  go_upto_region 1 with fail
  have r0 := rowIs_box w 32 32 (bF fun _ => 0)
  have hB0 := NewT.alloc w (.cells (rowA 32 (bF fun _ => 0)) 32)
  change Code.wp _ _ _ _ (w.alloc (.cells (rowA 32 (bF fun _ => 0)) 32))
  generalize w.alloc (.cells (rowA 32 (bF fun _ => 0)) 32) = W0 at r0 hB0 ⊢
  replace HT := Lib.hid (hB0.tables HT.out)
  replace Hk := Lib.hid (hB0.rd Hk.out)
  replace Hp := Lib.hid (hB0.partsL Hp.out)
  refine wp_region_seq NewT [svRd kl, SV.eq (.agg (rowA 64 (bF B))), svNew W0 108 64] [([(0, none)], none), ([(7, some 0)], none), ([], none)] 19 rfl rfl (by kernel_rfl) rfl NewT.trans (NewT.refl _) (Nat.le_of_ble_eq_true rfl) ⟨?_, ?_, ?_, trivial⟩ ?_
  · -- 0: Op.move t0
    intro a wx hT hF K hK
    obtain ⟨f0, _⟩ := hF
    have f0 : a.tmps.getD 0 undef = kv := f0
    refine rely_wp rfl ?_
    exact opr_move (.inl rfl) (hK _ _ (NewT.refl _) (by rw [eval_tmp, f0]; exact hT.rd Hk.out))
  · -- 1: Op.call ( value (Operand.func 71), args := #[t7], argTypes :
    intro a wx hT hF K hK
    obtain ⟨f7, _⟩ := hF
    replace f7 := show (svRd kl).pred (a.tmps.getD 7 undef) wx from f7
    refine rely_wp rfl ?_
    exact opr_cv (HB.out ▸ keyBlock_cv _ kl wx (hT.tables HT.out) f7 (by omega)) rfl Tryd.func71 (by kernel_rfl) (by kernel_rfl) (by simp only [List.map_toArray, List.map_cons, List.map_nil, eval_tmp]) hK
  · -- 2: Op.alloc 108
    intro a wx hT hF K hK
    refine rely_wp rfl ?_
    exact opr_alloc_64 rfl hT hK
  · intro wx hT
    intro u7 h; have g7 := h (by simp); clear h; replace g7 := show (svRd kl).pred u7 wx from g7
    intro u h; obtain rfl := h (by simp); clear h
    intro u5 h; obtain ⟨p5, hv, hp5, rr5⟩ := svNew_out (h (by simp)); clear h; subst hv
    refine relyEnd_nil rfl ?_
    simp only [Act.put, List.setIfInBounds_toArray, List.set_cons_zero, List.set_cons_succ]
    refine opr_store_new info64 rfl rfl rfl rr5 hT.out hp5 ?_
    clear hT rr5
    intro wy hT rr5
    replace hT := NewT.of hT
    go_simp
    replace HT := Lib.hid (hT.tables HT.out)
    replace Hp := Lib.hid (hT.partsL Hp.out)
    replace r0 := hT.row r0
    have hB1 := NewT.trans _ _ _ hB0 hT
    clear hT Hk g7 hp5 hB0
    go_upto_region 2 with fail
    refine wp_region_seq NewT [SV.eq (.agg (rowA 64 (bF B))), svRd (maskL B 54), svParts ls, svParts (maskL B 54 :: ls), SV.eq (.agg (rowA 32 (bF E))), svNew wy 32 32] [([(5, none)], none), ([(9, some 0)], none), ([(1, none)], none), ([(10, some 1), (11, some 2)], none), ([(12, some 3)], none), ([], none)] 19 rfl rfl (by kernel_rfl) rfl NewT.trans (NewT.refl _) (Nat.le_of_ble_eq_true rfl) ⟨?_, ?_, ?_, ?_, ?_, ?_, trivial⟩ ?_
    · -- 0: Op.load 108 t5
      intro a wx hT hF K hK
      obtain ⟨f5, _⟩ := hF
      have f5 : a.tmps.getD 5 undef = .pointer (some ⟨p5, 0, none⟩) := f5
      refine rely_wp rfl ?_
      exact opr_load_64 rfl f5 (hT.row rr5) (hK _ _ (NewT.refl _) rfl)
    · -- 1: Op.call ( value (Operand.func 74), args := #[t9, const (54:u
      intro a wx hT hF K hK
      obtain ⟨f9, _⟩ := hF
      have f9 : a.tmps.getD 9 undef = .agg (rowA 64 (bF B)) := f9
      refine rely_wp rfl ?_
      exact opr_cv (masked_54 B wx) rfl Tryd.func74 (by kernel_rfl) (by kernel_rfl) (by simp only [List.map_toArray, List.map_cons, List.map_nil, eval_tmp, eval_const, f9]) hK
    · -- 2: Op.move t1
      intro a wx hT hF K hK
      obtain ⟨f1, _⟩ := hF
      have f1 : a.tmps.getD 1 undef = pv := f1
      refine rely_wp rfl ?_
      exact opr_move (.inl rfl) (hK _ _ (NewT.refl _) (by rw [eval_tmp, f1]; exact hT.partsL Hp.out))
    · -- 3: Op.call ( value (Operand.func 73), args := #[t10, Operand.fu
      intro a wx hT hF K hK
      obtain ⟨f10, f11, _⟩ := hF
      replace f10 := show (svRd (maskL B 54)).pred (a.tmps.getD 10 undef) wx from f10
      replace f11 := show (svParts ls).pred (a.tmps.getD 11 undef) wx from f11
      refine rely_wp rfl ?_
      exact opr_cv (text_plain _ _ _ ls wx f10 f11 hlen) rfl Tryd.func73 (by kernel_rfl) (by kernel_rfl) (by simp only [List.map_toArray, List.map_cons, List.map_nil, eval_tmp, eval_func]) hK
    · -- 4: Op.call ( value (Operand.func 72), args := #[t12], argTypes 
      intro a wx hT hF K hK
      obtain ⟨f12, _⟩ := hF
      replace f12 := show (svParts (maskL B 54 :: ls)).pred (a.tmps.getD 12 undef) wx from f12
      refine rely_wp rfl ?_
      exact opr_cv (Sum_cv _ (maskL B 54 :: ls) E wx (hT.tables HT.out) f12 (by simp only [List.flatten_cons, List.length_append, maskL_length]; omega) (by simpa using HE2.out)) rfl Tryd.func72 (by kernel_rfl) (by kernel_rfl) (by simp only [List.map_toArray, List.map_cons, List.map_nil, eval_tmp]) hK
    · -- 5: Op.alloc 32
      intro a wx hT hF K hK
      refine rely_wp rfl ?_
      exact opr_alloc_hash rfl hT hK
    · intro wx hT
      intro u h; obtain rfl := h (by simp); clear h
      intro u10 h; have g10 := h (by simp); clear h; replace g10 := show (svRd (maskL B 54)).pred u10 wx from g10
      intro u11 h; have g11 := h (by simp); clear h; replace g11 := show (svParts ls).pred u11 wx from g11
      intro u12 h; have g12 := h (by simp); clear h; replace g12 := show (svParts (maskL B 54 :: ls)).pred u12 wx from g12
      intro u h; obtain rfl := h (by simp); clear h
      intro u6 h; obtain ⟨p6, hv, hp6, rr6⟩ := svNew_out (h (by simp)); clear h; subst hv
      refine relyEnd_nil rfl ?_
      simp only [Act.put, List.setIfInBounds_toArray, List.set_cons_zero, List.set_cons_succ]
      refine opr_store_new info31 rfl rfl rfl rr6 hT.out hp6 ?_
      clear hT rr6
      intro wz hT rr6
      replace hT := NewT.of hT
      go_simp
      replace HT := Lib.hid (hT.tables HT.out)
      replace r0 := hT.row r0
      replace rr5 := hT.row rr5
      have hB2 := NewT.trans _ _ _ hB1 hT
      clear hT g10 g11 g12 hp6 hB1 Hp HE2
      go_upto_region 3 with fail
      refine wp_region_rely NewT [SV.eq (.agg (rowA 64 (bF B))), svRd (maskL B 92), svRd (digL E), svParts [(maskL B 92), (digL E)], SV.eq (.agg (rowA 32 (bF D)))] [([(5, none)], none), ([(14, some 0)], none), ([(6, none)], none), ([(15, some 1), (16, some 2)], none), ([(17, some 3)], none)] 19 rfl (by kernel_rfl) rfl (by kernel_rfl) (by kernel_rfl) rfl NewT.trans (NewT.drew _) (Nat.le_of_ble_eq_true rfl) ⟨?_, ?_, ?_, ?_, ?_, trivial⟩ ?_
      · -- 0: Op.load 108 t5
        intro a wx hT hF K hK
        obtain ⟨f5, _⟩ := hF
        have f5 : a.tmps.getD 5 undef = .pointer (some ⟨p5, 0, none⟩) := f5
        refine rely_wp rfl ?_
        exact opr_load_64 rfl f5 (hT.row rr5) (hK _ _ (NewT.refl _) rfl)
      · -- 1: Op.call ( value (Operand.func 74), args := #[t14, const (92:
        intro a wx hT hF K hK
        obtain ⟨f14, _⟩ := hF
        have f14 : a.tmps.getD 14 undef = .agg (rowA 64 (bF B)) := f14
        refine rely_wp rfl ?_
        exact opr_cv (masked_92 B wx) rfl Tryd.func74 (by kernel_rfl) (by kernel_rfl) (by simp only [List.map_toArray, List.map_cons, List.map_nil, eval_tmp, eval_const, f14]) hK
      · -- 2: Op.slice 32 t6 none none none
        intro a wx hT hF K hK
        obtain ⟨f6, _⟩ := hF
        have f6 : a.tmps.getD 6 undef = .pointer (some ⟨p6, 0, none⟩) := f6
        refine rely_wp rfl ?_
        exact opr_slice_hash rfl f6 (hK _ _ (NewT.refl _) (rd_row (hT.row rr6) (by simp) (by omega)))
      · -- 3: Op.buildSlice 99 2 #[(0, t15), (1, t16)]
        intro a wx hT hF K hK
        obtain ⟨f15, f16, _⟩ := hF
        replace f15 := show (svRd (maskL B 92)).pred (a.tmps.getD 15 undef) wx from f15
        replace f16 := show (svRd (digL E)).pred (a.tmps.getD 16 undef) wx from f16
        refine rely_wp rfl ?_
        exact opr_bs2 rfl f15 f16 hK
      · -- 4: Op.call ( value (Operand.func 72), args := #[t17], argTypes 
        intro a wx hT hF K hK
        obtain ⟨f17, _⟩ := hF
        replace f17 := show (svParts [(maskL B 92), (digL E)]).pred (a.tmps.getD 17 undef) wx from f17
        refine rely_wp rfl ?_
        exact opr_cv (Sum_cv _ [maskL B 92, digL E] D wx (hT.tables HT.out) f17 (by simp [maskL_length, digL_length]) (by simpa using HD.out)) rfl Tryd.func72 (by kernel_rfl) (by kernel_rfl) (by simp only [List.map_toArray, List.map_cons, List.map_nil, eval_tmp]) hK
      · intro wx hT
        intro u h; obtain rfl := h (by simp); clear h
        intro u15 h; have g15 := h (by simp); clear h; replace g15 := show (svRd (maskL B 92)).pred u15 wx from g15
        intro u16 h; have g16 := h (by simp); clear h; replace g16 := show (svRd (digL E)).pred u16 wx from g16
        intro u17 h; have g17 := h (by simp); clear h; replace g17 := show (svParts [(maskL B 92), (digL E)]).pred u17 wx from g17
        intro u h; obtain rfl := h (by simp); clear h
        refine relyEnd_nil rfl ?_
        simp only [Act.put, List.setIfInBounds_toArray, List.set_cons_zero, List.set_cons_succ]
        refine opr_store_new (B := w.heap.size) (W := w) info31 rfl rfl rfl (hT.row r0) (NewT.trans _ _ _ hB2 hT) (Nat.le_refl _) ?_
        intro w9 hB9 r9
        go_simp
        go_wp2
        exact bodyPost_ret (results_row rfl _ rfl r9 Tryd.underlying32 info31) rfl ⟨_, rfl, hB9, rfl⟩
end Go.Proofs.YtchpmdcacpjojaaDoor
/- Package mac: the digest of a domain: what Of returns. -/
namespace Go.Proofs.YtchpmdcacpjojaaDoor
open Go Go.RowKit
set_option maxRecDepth 8000
set_option linter.all false
/-- The low byte of a number. -/
def dB (n : Int) : UInt8 := UInt8.ofNat (n % 256).toNat
theorem dB_eq (n : Int) : IntKind.u8.wrap n = bN (dB n) := by rw [wrap_u8, dB, bN, UInt8.toNat_ofNat']; omega
/-- The text of a domain and parts. -/
def ofL (n : Int) (ls : List (List UInt8)) : List UInt8 := dB n :: (ls.flatMap cntP).flatten
theorem ofL_length (n : Int) (ls : List (List UInt8)) : (ofL n ls).length = 1 + 4 * ls.length + ls.flatten.length := by
  unfold ofL
  rw [List.length_cons]
  induction ls with
  | nil => rfl
  | cons x ls ih => simp [cntP, hiL_length] at ih ⊢; omega
end Go.Proofs.YtchpmdcacpjojaaDoor
/- Package mac: the tag of words: what Key returns. -/
namespace Go.Proofs.YtchpmdcacpjojaaDoor
open Go Go.RowKit
set_option maxRecDepth 8000
set_option linter.all false
theorem rd_nil (w : World) (L : List Nat) : RdV w L (.slice none 0 0) [] := ⟨none, 0, rfl, Nat.le_refl _, by unfold maxLen; omega, fun h => absurd h (by simp)⟩
/-- The text of words. -/
def wordsL (is : List Int) : List UInt8 := (is.map fun n => hiL (wN n) 8).flatten
theorem wordsL_length (is : List Int) : (wordsL is).length = 8 * is.length := by
  unfold wordsL
  induction is with
  | nil => rfl
  | cons x is ih => simp [hiL_length] at ih ⊢; omega
set_option maxHeartbeats 2000000 in
theorem Key_cv (d : Nat → UInt8) (iv : Value) (is : List Int) (D : Nat → UInt8) (w : World) (hT : Tables w) (hp : RdI w iv is) (hlen : is.length ≤ 10000) (hD : tagL (digL d) (wordsL is) = D) :
    Cv 50 #[.agg (rowA 32 (bF d)), iv] w (.eq (.agg (rowA 32 (bF D)))) := by
  unfold Cv
  have HD := Lib.hid hD
  have HT := Lib.hid hT
  have Hp := Lib.hid hp
  have Hwl := Lib.hid (wordsL_length is)
  clear hT hp hD
  go_enter Tryd.func50, Tryd.ntmps50
  go_upto_region 1 with fail
  have rk := (rowIs_box w 32 32 (bF d)).alloc (.cells (rowA 32 (bF fun _ => 0)) 32)
  have r0 := rowIs_box (w.alloc (.cells (rowA 32 (bF d)) 32)) 32 32 (bF fun _ => 0)
  rw [World.size_alloc] at r0
  have hB0 := NewT.trans _ _ _ (NewT.alloc w (.cells (rowA 32 (bF d)) 32)) (NewT.alloc (w.alloc (.cells (rowA 32 (bF d)) 32)) (.cells (rowA 32 (bF fun _ => 0)) 32))
  change Code.wp _ _ _ _ ((w.alloc (.cells (rowA 32 (bF d)) 32)).alloc (.cells (rowA 32 (bF fun _ => 0)) 32))
  generalize ((w.alloc (.cells (rowA 32 (bF d)) 32)).alloc (.cells (rowA 32 (bF fun _ => 0)) 32)) = W0 at rk r0 hB0 ⊢
  replace HT := Lib.hid (hB0.tables HT.out)
  replace Hp := Lib.hid (hB0.ints Hp.out)
  refine wp_region_rely NewT [svRd (digL d), svInts is, svParts ([] :: is.map fun n => hiL (wN n) 8), SV.eq (.agg (rowA 32 (bF D)))] [([(2, none)], none), ([(1, none)], none), ([(6, some 1)], none), ([(5, some 0), (7, some 2)], none)] 9 rfl (by kernel_rfl) rfl (by kernel_rfl) (by kernel_rfl) rfl NewT.trans (NewT.drew _) (Nat.le_of_ble_eq_true rfl) ⟨?_, ?_, ?_, ?_, trivial⟩ ?_
  · -- 0: Op.slice 32 t2 none none none
    intro a wx hT hF K hK
    obtain ⟨f2, _⟩ := hF
    have f2 : a.tmps.getD 2 undef = .pointer (some ⟨w.heap.size, 0, none⟩) := f2
    refine rely_wp rfl ?_
    exact opr_slice_hash rfl f2 (hK _ _ (NewT.refl _) (rd_row (hT.row rk) (by simp) (by omega)))
  · -- 1: Op.move t1
    intro a wx hT hF K hK
    obtain ⟨f1, _⟩ := hF
    have f1 : a.tmps.getD 1 undef = iv := f1
    refine rely_wp rfl ?_
    exact opr_move (.inl rfl) (hK _ _ (NewT.refl _) (by rw [eval_tmp, f1]; exact hT.ints Hp.out))
  · -- 2: Op.call ( value (Operand.func 64), args := #[const (Value.sl
    intro a wx hT hF K hK
    obtain ⟨f6, _⟩ := hF
    replace f6 := show (svInts is).pred (a.tmps.getD 6 undef) wx from f6
    refine rely_wp rfl ?_
    exact opr_cv (text_words _ _ [] is wx (rd_nil _ _) f6 (by omega)) rfl Tryd.func64 (by kernel_rfl) (by kernel_rfl) (by simp only [List.map_toArray, List.map_cons, List.map_nil, eval_tmp, eval_const, eval_func]) hK
  · -- 3: Op.call ( value (Operand.func 63), args := #[t5, t7], argTyp
    intro a wx hT hF K hK
    obtain ⟨f5, f7, _⟩ := hF
    replace f5 := show (svRd (digL d)).pred (a.tmps.getD 5 undef) wx from f5
    replace f7 := show (svParts ([] :: is.map fun n => hiL (wN n) 8)).pred (a.tmps.getD 7 undef) wx from f7
    refine rely_wp rfl ?_
    exact opr_cv (Tag_cv _ _ (digL d) ([] :: is.map fun n => hiL (wN n) 8) D wx (hT.tables HT.out) f5 (by rw [digL_length]; omega) f7 (by simp; omega) (by show (wordsL is).length ≤ _; have := Hwl.out; omega) (by simpa [wordsL] using HD.out)) rfl Tryd.func63 (by kernel_rfl) (by kernel_rfl) (by simp only [List.map_toArray, List.map_cons, List.map_nil, eval_tmp]) hK
  · intro wx hT
    intro u5 h; have g5 := h (by simp); clear h; replace g5 := show (svRd (digL d)).pred u5 wx from g5
    intro u6 h; have g6 := h (by simp); clear h; replace g6 := show (svInts is).pred u6 wx from g6
    intro u7 h; have g7 := h (by simp); clear h; replace g7 := show (svParts ([] :: is.map fun n => hiL (wN n) 8)).pred u7 wx from g7
    intro u h; obtain rfl := h (by simp); clear h
    refine relyEnd_nil rfl ?_
    simp only [Act.put, List.setIfInBounds_toArray, List.set_cons_zero, List.set_cons_succ]
    refine opr_store_new (B := w.heap.size) (W := w) info31 rfl rfl rfl (hT.row r0) (NewT.trans _ _ _ hB0 hT) (Nat.le_succ _) ?_
    intro w9 hB9 r9
    go_simp
    go_wp2
    exact bodyPost_ret (results_row rfl _ rfl r9 Tryd.underlying32 info31) rfl ⟨_, rfl, hB9, rfl⟩
end Go.Proofs.YtchpmdcacpjojaaDoor
/- Keys, checkpoints and marks in memory: fields, loads, builds; method values; an array of them. -/
namespace Go.Proofs.YtchpmdcacpjojaaDoor
open Go Go.RowKit
set_option maxRecDepth 8000
set_option linter.all false
/-- What tags are: a key's, a mark's; a checkpoint's text. -/
structure KeyH (kf : Hs → List Int → Hs) (tg : Hs → Hs → Hs) (pf : Int → Hs → Hs) : Prop where
  key : ∀ d is, tagL (digL d) (wordsL is) = kf d is
  tag : ∀ s d, tagL (digL s) (3 :: digL d) = tg s d
  pt : ∀ n d, shaL Kc Fc (ofL 6 [numI n, digL d]) = pf n d
theorem keyH_ex : ∃ kf tg pf, KeyH kf tg pf := ⟨_, _, _, ⟨fun _ _ => rfl, fun _ _ => rfl, fun _ _ => rfl⟩⟩
theorem info_hsl : (Tryd.prog.info? 22).map (·.size) = some (0 + 1) := by kernel_rfl
theorem info_due : (Tryd.prog.info? 82).map (·.size) = some 32 := by kernel_rfl
theorem info_ky : (Tryd.prog.info? 24).map (·.size) = some 3 := by kernel_rfl
theorem keyF_one {w : World} {pv wv : Value} {ps ws : List Hs} {need : Int} (hp : RdH w pv ps) (hw : RdH w wv ws) (i : Nat) : (keyF pv wv need i).oneCell' = true := by
  obtain ⟨_, _, rfl, _⟩ := hp
  obtain ⟨_, _, rfl, _⟩ := hw
  unfold keyF
  split <;> try rfl
  split <;> rfl
theorem ptF_one {w : World} {size : Int} {root : Hs} {sv : Value} {l : List (Int × Hs)} (hs : RdS w sv l) (i : Nat) : (ptF size root sv i).oneCell' = true := by
  obtain ⟨_, _, rfl, _⟩ := hs
  unfold ptF
  split <;> try rfl
  split <;> rfl
theorem sigF_one (d : Int × Hs) (i : Nat) : (sigF d i).oneCell' = true := by unfold sigF; split <;> rfl
theorem ptF_h (size : Int) (root : Hs) (sv : Value) (j : Nat) (h : j < 32) : ptF size root sv (1 + j) = bF root j := by
  unfold ptF
  rw [if_neg (by omega), if_pos (by omega), show 1 + j - 1 = j by omega]
theorem sigF_h (d : Int × Hs) (j : Nat) (h : j < 32) : sigF d (1 + j) = bF d.2 j := by
  unfold sigF
  rw [if_neg (by omega), show 1 + j - 1 = j by omega]
theorem build_z32 (w : World) : (Instr.build 32 #[]).run Tryd.prog w = .ok (.agg (rowA 32 (bF z32))) w := by kernel_rfl
theorem run_bsI2 (x y : Int) (w : World) : (Instr.buildSlice 86 2 #[(0, .int .i64 x), (1, .int .i64 y)]).run Tryd.prog w = .ok (.slice (some ⟨w.heap.size, 0, none⟩) 2 2) (w.alloc (.cells #[.int .i64 x, .int .i64 y] 3)) := by kernel_rfl
theorem run_bsI5 (x y z p q : Int) (w : World) : (Instr.buildSlice 86 5 #[(0, .int .i64 x), (1, .int .i64 y), (2, .int .i64 z), (3, .int .i64 p), (4, .int .i64 q)]).run Tryd.prog w = .ok (.slice (some ⟨w.heap.size, 0, none⟩) 5 5) (w.alloc (.cells #[.int .i64 x, .int .i64 y, .int .i64 z, .int .i64 p, .int .i64 q] 3)) := by kernel_rfl
theorem rdI_lit (w : World) (l : List Int) (hl : l.length ≤ 1000) : RdI (w.alloc (.cells (l.map fun n => .int .i64 n).toArray 3)) (.slice (some ⟨w.heap.size, 0, none⟩) l.length l.length) l := by
  refine ⟨some ⟨w.heap.size, 0, none⟩, l.length, rfl, Nat.le_refl _, by unfold maxLen; omega, fun _ => ⟨w.heap.size, 0, rfl, fun i hi => ?_⟩⟩
  rw [Nat.zero_add, cell_new_fr _ _ _ _ _ _ rfl]
  simp [hi, List.getD]
section
variable {a : Act} {w : World} {o : Oper} {K : Act → World → Prop} {Q : Exit → Act → World → Prop} {x y z : Operand} {g n o0 : Nat} {t' : TypeId} {F : Nat → Value} {v : Value}
theorem opr_fldY0 (ho : o.op = .fieldAddr 24 x 0) (hx : a.eval x = .pointer (some ⟨g, 0, none⟩)) (h : K (a.put o.dst (.pointer (some ⟨g, 0, none⟩))) w) : o.wp Tryd.prog a w K Q :=
  opr_fld Tryd.underlying24 rfl info_hsl ho hx (by rfl) h
theorem opr_fldY1 (ho : o.op = .fieldAddr 24 x 1) (hx : a.eval x = .pointer (some ⟨g, 0, none⟩)) (h : K (a.put o.dst (.pointer (some ⟨g, 1, none⟩))) w) : o.wp Tryd.prog a w K Q :=
  opr_fld Tryd.underlying24 rfl info_hsl ho hx (by rfl) h
theorem opr_fldY2 (ho : o.op = .fieldAddr 24 x 2) (hx : a.eval x = .pointer (some ⟨g, 0, none⟩)) (h : K (a.put o.dst (.pointer (some ⟨g, 2, none⟩))) w) : o.wp Tryd.prog a w K Q :=
  opr_fld Tryd.underlying24 rfl info_int ho hx (by rfl) h
theorem opr_ldY (hr : w.rowIs g t' 3 F) (ho : o.op = .load 24 x) (hx : a.eval x = .pointer (some ⟨g, 0, none⟩)) (h : K (a.put o.dst (.agg (rowA 3 F))) w) : o.wp Tryd.prog a w K Q := by
  refine opr_ldm Tryd.underlying24 rfl info_ky ho hx hr (by omega) ?_
  simpa using h
theorem opr_ldDue {d : Hs} (hr : w.rowIs g t' 32 (bF d)) (ho : o.op = .load 82 x) (hx : a.eval x = .pointer (some ⟨g, 0, none⟩)) (h : K (a.put o.dst (.agg (rowA 32 (bF d)))) w) : o.wp Tryd.prog a w K Q := by
  refine opr_ldm Tryd.underlying82 rfl info_due ho hx hr (by omega) ?_
  simpa using h
/-- A slice of an element's hash, whole. -/
theorem opr_slicePd {d : Hs} (ho : o.op = .slice 32 x none none none) (hx : (svP d).pred (a.eval x) w) (h : ∀ v, RdV w [] v (digL d) → K (a.put o.dst v) w) : o.wp Tryd.prog a w K Q := by
  obtain ⟨b, off, hv, hc⟩ := hx
  refine opr_sliceH ho hv (h _ ?_)
  refine ⟨some ⟨b, off, none⟩, 32, by rw [digL_length], by rw [digL_length]; omega, by unfold maxLen; omega, fun _ => ⟨b, off, rfl, by simp, fun i hi => ?_⟩⟩
  rw [digL_length] at hi
  rw [hc i hi, bF_at]
  simp [bAt, digL, hi]
theorem opr_bsI2 {p q : Int} (ho : o.op = .buildSlice 86 2 #[(0, x), (1, y)]) (hx : a.eval x = .int .i64 p) (hy : a.eval y = .int .i64 q) (h : ∀ v w', NewT w w' → RdI w' v [p, q] → K (a.put o.dst v) w') : o.wp Tryd.prog a w K Q := by
  obtain ⟨dst, op, type, pos, after, guard⟩ := o
  simp only at ho
  subst ho
  exact opr_val (s := Instr.buildSlice 86 2 #[(0, a.eval x), (1, a.eval y)]) (by simp [execOp]) (by rw [hx, hy]; exact run_bsI2 p q w) (h _ _ (NewT.alloc _ _) (rdI_lit w [p, q] (by simp)))
theorem opr_bsI5 {x1 x2 x3 x4 x5 : Operand} {p q r s t : Int} (ho : o.op = .buildSlice 86 5 #[(0, x1), (1, x2), (2, x3), (3, x4), (4, x5)]) (h1 : a.eval x1 = .int .i64 p) (h2 : a.eval x2 = .int .i64 q) (h3 : a.eval x3 = .int .i64 r) (h4 : a.eval x4 = .int .i64 s) (h5 : a.eval x5 = .int .i64 t) (h : ∀ v w', NewT w w' → RdI w' v [p, q, r, s, t] → K (a.put o.dst v) w') : o.wp Tryd.prog a w K Q := by
  obtain ⟨dst, op, type, pos, after, guard⟩ := o
  simp only at ho
  subst ho
  exact opr_val (s := Instr.buildSlice 86 5 #[(0, a.eval x1), (1, a.eval x2), (2, a.eval x3), (3, a.eval x4), (4, a.eval x5)]) (by simp [execOp]) (by rw [h1, h2, h3, h4, h5]; exact run_bsI5 p q r s t w) (h _ _ (NewT.alloc _ _) (rdI_lit w [p, q, r, s, t] (by simp)))
/-- A method value: a receiver's value is bound. -/
theorem opr_mkm {P : Program} {fid : Nat} {u : Value} (ho : o.op = .makeFunc (.func fid) #[x] #[]) (hx : a.eval x = u) (h : K (a.put o.dst (.func (.func fid) #[u] #[])) w) : o.wp P a w K Q := by
  obtain ⟨dst, op, type, pos, after, guard⟩ := o
  simp only at ho
  subst ho
  subst hx
  exact opr_val (s := Instr.makeFunc (.func fid) #[a.eval x] #[]) (by simp [execOp]) rfl h
/-- A call of a method value. -/
theorem opr_cvm {f : Nat} {fn : Func} {args : Array Operand} {ts : Array TypeId} {vs : Array Value} {u : Value} {c : SV NewT} (hc : Cv f vs w c)
    (ho : o.op = .call { callee := .value x, args := args, argTypes := ts }) (hx : a.eval x = .func (.func f) #[u] #[]) (hf : Tryd.prog.funcs[f]? = some fn) (hn : (fn.name == "runtime.NumGoroutine") = false) (hb : fn.body.isNone = false) (hv : #[u] ++ args.map a.eval = vs)
    (h : ∀ v w', NewT w w' → c.pred v w' → K (a.put o.dst v) w') : o.wp Tryd.prog a w K Q := by
  obtain ⟨dst, op, type, pos, after, guard⟩ := o
  simp only at ho
  subst ho
  have e : execOp a.eval { dst, op := .call { callee := .value x, args := args, argTypes := ts }, type, pos, after, guard } = callFunc f vs := by
    show (do let d ← resolve a.eval { callee := .value x, args := args, argTypes := ts } type; invoke d.target d.args) = _
    simp only [resolve, Deferred.ofValue, hx, invoke, pure_bind]
    rw [← hv]; simp
  unfold Oper.wp
  rw [e, run_callFunc_go hf hn hb, Oper.upon_enter]
  refine Calls.mono hc ?_
  rintro e w' ⟨v, rfl, h1, h2⟩
  exact h v w' h1 h2
end
end Go.Proofs.YtchpmdcacpjojaaDoor
/- Calls, entries, participants in memory: their cells, fields, loads; equal ones; acts and entries in rows. -/
namespace Go.Proofs.YtchpmdcacpjojaaDoor
open Go Go.RowKit
set_option maxRecDepth 8000
set_option linter.all false
/-- The cells of a call. -/
def clF (c : Cl) (i : Nat) : Value :=
  if i < 9 then (if i = 0 then .int .i64 c.saga else if i = 1 then .int .i64 c.step else if i = 2 then .int .i64 c.tr else if i = 3 then .bool c.back else if i = 4 then .int .i64 c.part else if i = 5 then .int .i64 c.kind else if i = 6 then .bool c.ans else if i = 7 then .bool c.good else .int .i64 c.ep) else bF c.tag (i - 9)
/-- The cells of an entry, of a deed, of what is told of it. -/
def eyF (x : En) (i : Nat) : Value := if i = 0 then .int .i64 x.saga else if i = 1 then .int .i64 x.step else if i = 2 then .bool x.back else .bool x.good
def dyF (s t : Int) (b : Bool) (i : Nat) : Value := if i = 0 then .int .i64 s else if i = 1 then .int .i64 t else .bool b
def tdF (g : Bool) (n : Int) (i : Nat) : Value := if i = 0 then .bool g else .int .i64 n
/-- The cells of a participant. -/
def pyF (n : Int) (pv wv : Value) (need e : Int) (mv : Value) (i : Nat) : Value := if i = 0 then .int .i64 n else if i = 1 then pv else if i = 2 then wv else if i = 3 then .int .i64 need else if i = 4 then .int .i64 e else mv
/-- Something that is done to a participant. -/
structure Ac where
  kind : Int
  c : Cl
  r : Bool
def acF (x : Ac) (i : Nat) : Value := if i = 0 then .int .i64 x.kind else if i < 42 then clF x.c (i - 1) else .bool x.r
theorem clF_one (c : Cl) (i : Nat) : (clF c i).oneCell' = true := by
  unfold clF
  repeat' split
  all_goals rfl
theorem eyF_one (x : En) (i : Nat) : (eyF x i).oneCell' = true := by
  unfold eyF
  repeat' split
  all_goals rfl
theorem dyF_one (s t : Int) (b : Bool) (i : Nat) : (dyF s t b i).oneCell' = true := by
  unfold dyF
  repeat' split
  all_goals rfl
theorem tdF_one (g : Bool) (n : Int) (i : Nat) : (tdF g n i).oneCell' = true := by
  unfold tdF
  repeat' split
  all_goals rfl
theorem clF_tag (c : Cl) (j : Nat) (_ : j < 32) : clF c (9 + j) = bF c.tag j := by unfold clF; rw [if_neg (by omega), show 9 + j - 9 = j by omega]
def zE : En := ⟨0, 0, false, false⟩
theorem info_cl : (Tryd.prog.info? 34).map (·.size) = some 41 := by kernel_rfl
theorem info_cl1 : (Tryd.prog.info? 34).map (·.size) = some (40 + 1) := by kernel_rfl
theorem info_py : (Tryd.prog.info? 67).map (·.size) = some 6 := by kernel_rfl
theorem info_py1 : (Tryd.prog.info? 67).map (·.size) = some (5 + 1) := by kernel_rfl
theorem info_de : (Tryd.prog.info? 71).map (·.size) = some 3 := by kernel_rfl
theorem info_de1 : (Tryd.prog.info? 71).map (·.size) = some (2 + 1) := by kernel_rfl
theorem info_td : (Tryd.prog.info? 73).map (·.size) = some 2 := by kernel_rfl
theorem info_td1 : (Tryd.prog.info? 73).map (·.size) = some (1 + 1) := by kernel_rfl
theorem info_ey : (Tryd.prog.info? 56).map (·.size) = some 4 := by kernel_rfl
theorem info_ey1 : (Tryd.prog.info? 56).map (·.size) = some (3 + 1) := by kernel_rfl
theorem info_mp : (Tryd.prog.info? 65).map (·.size) = some 1 := by kernel_rfl
theorem info_mp1 : (Tryd.prog.info? 65).map (·.size) = some (0 + 1) := by kernel_rfl
theorem info_ac : (Tryd.prog.info? 44).map (·.size) = some 43 := by kernel_rfl
theorem info_ac1 : (Tryd.prog.info? 44).map (·.size) = some (42 + 1) := by kernel_rfl
theorem info_rp : (Tryd.prog.info? 42).map (·.size) = some 6 := by kernel_rfl
theorem info_rp1 : (Tryd.prog.info? 42).map (·.size) = some (5 + 1) := by kernel_rfl
theorem info_pp : (Tryd.prog.info? 28).map (·.size) = some 1 := by kernel_rfl
theorem info_pp1 : (Tryd.prog.info? 28).map (·.size) = some (0 + 1) := by kernel_rfl
theorem info_es : (Tryd.prog.info? 38).map (·.size) = some 1 := by kernel_rfl
theorem info_es1 : (Tryd.prog.info? 38).map (·.size) = some (0 + 1) := by kernel_rfl
theorem info_ky3 : (Tryd.prog.info? 24).map (·.size) = some 3 := by kernel_rfl
theorem info_ky31 : (Tryd.prog.info? 24).map (·.size) = some (2 + 1) := by kernel_rfl
theorem run_alloc_cl (w : World) : (Instr.alloc 34 true (.tuple #[])).run Tryd.prog w = .ok (.pointer (some ⟨w.heap.size, 0, none⟩)) (w.alloc (.cells (rowA 41 (clF zC)) 34)) := by kernel_rfl
theorem run_alloc_de (w : World) : (Instr.alloc 71 true (.tuple #[])).run Tryd.prog w = .ok (.pointer (some ⟨w.heap.size, 0, none⟩)) (w.alloc (.cells (rowA 3 (dyF 0 0 false)) 71)) := by kernel_rfl
theorem run_alloc_td (w : World) : (Instr.alloc 73 true (.tuple #[])).run Tryd.prog w = .ok (.pointer (some ⟨w.heap.size, 0, none⟩)) (w.alloc (.cells (rowA 2 (tdF false 0)) 73)) := by kernel_rfl
theorem run_alloc_ey (w : World) : (Instr.alloc 56 true (.tuple #[])).run Tryd.prog w = .ok (.pointer (some ⟨w.heap.size, 0, none⟩)) (w.alloc (.cells (rowA 4 (eyF zE)) 56)) := by kernel_rfl
theorem run_alloc_b (w : World) : (Instr.alloc 4 true (.tuple #[])).run Tryd.prog w = .ok (.pointer (some ⟨w.heap.size, 0, none⟩)) (w.alloc (.cells (rowA 1 (fun _ => .bool false)) 4)) := by kernel_rfl
theorem build_cl0 (w : World) : (Instr.build 34 #[]).run Tryd.prog w = .ok (.agg (rowA 41 (clF zC))) w := by kernel_rfl
theorem zero_td (w : World) : (zeroValue 73).run Tryd.prog w = .ok (.agg (rowA 2 (tdF false 0))) w := by kernel_rfl
theorem run_bld_de (a b : Int) (c : Bool) (w : World) : (Instr.build 71 #[(0, .int .i64 a), (1, .int .i64 b), (2, .bool c)]).run Tryd.prog w = .ok (.agg (rowA 3 (dyF a b c))) w := by kernel_rfl
theorem run_bld_td (a : Bool) (b : Int) (w : World) : (Instr.build 73 #[(0, .bool a), (1, .int .i64 b)]).run Tryd.prog w = .ok (.agg (rowA 2 (tdF a b))) w := by kernel_rfl
theorem run_bld_ey (a b : Int) (c d : Bool) (w : World) : (Instr.build 56 #[(0, .int .i64 a), (1, .int .i64 b), (2, .bool c), (3, .bool d)]).run Tryd.prog w = .ok (.agg (rowA 4 (eyF ⟨a, b, c, d⟩))) w := by kernel_rfl
def clE (_ : World) (f : Nat → Value) (p : Cl) : Prop := f = clF p
instance : StbE clE := ⟨fun h _ => h⟩
def eyE (_ : World) (f : Nat → Value) (p : En) : Prop := f = eyF p
instance : StbE eyE := ⟨fun h _ => h⟩
def acE (_ : World) (f : Nat → Value) (p : Ac) : Prop := f = acF p
instance : StbE acE := ⟨fun h _ => h⟩
theorem ElTy.ofD {P : Program} {sT eT : TypeId} {n : Nat} {z : Value} {d : TypeDesc} (h1 : P.underlying sT = some (.slice eT)) (h2 : (P.info? eT).map (fun i => (i.zero, i.size, decide (i.bytes ≤ 1000))) = some (some z, n, true)) (hz : z.cells.size = n) (h0 : 0 < n) (h3 : P.underlying eT = some d) (h4 : d.isRow = true) : ElTy P sT eT n := by
  refine ⟨h1, ?_, h0, d, h3, h4⟩
  cases hq : P.info? eT with
  | none => rw [hq] at h2; cases h2
  | some i => rw [hq] at h2; simp at h2; exact ⟨i, z, rfl, h2.1, h2.2.1, h2.2.2, hz⟩
theorem callEl : ElTy Tryd.prog 59 34 41 := ElTy.ofD (z := .agg (rowA 41 (clF zC))) Tryd.underlying59 (by kernel_rfl) (by rw [show (Value.agg (rowA 41 (clF zC))).cells = rowA 41 (clF zC) from rfl, rowA_size]) (by omega) Tryd.underlying34 rfl
theorem entEl : ElTy Tryd.prog 38 56 4 := ElTy.ofD (z := .agg (rowA 4 (eyF zE))) Tryd.underlying38 (by kernel_rfl) (by rw [show (Value.agg (rowA 4 (eyF zE))).cells = rowA 4 (eyF zE) from rfl, rowA_size]) (by omega) Tryd.underlying56 rfl
theorem actEl : ElTy Tryd.prog 25 44 43 := ElTy.ofD (z := .agg (rowA 43 (acF ⟨0, zC, false⟩))) Tryd.underlying25 (by kernel_rfl) (by rw [show (Value.agg (rowA 43 (acF ⟨0, zC, false⟩))).cells = rowA 43 (acF ⟨0, zC, false⟩) from rfl, rowA_size]) (by omega) Tryd.underlying44 rfl
theorem eqFields_map {P : Program} (w : World) (d : Nat) (xs ys : Array Value) : ∀ (l : List Field) (ts : List (TypeId × Nat × Bool)), l.map (fun f => (f.type, f.offset, f.name == "_")) = ts.map (fun t => (t.1, t.2.1, false)) →
    (∀ t ∈ ts, ∃ x y, (part t.1 xs t.2.1).run P w = .ok x w ∧ (part t.1 ys t.2.1).run P w = .ok y w ∧ (Op.equalIn d t.1 x y).run P w = .ok t.2.2 w) → (Op.eqFields d xs ys l).run P w = .ok (ts.all fun t => t.2.2) w
  | [], [], _, _ => by simp [Op.eqFields]
  | [], _ :: _, h, _ => by simp at h
  | _ :: _, [], h, _ => by simp at h
  | f :: l, t :: ts, h, ht => by
    simp only [List.map_cons, List.cons.injEq, Prod.mk.injEq, beq_eq_false_iff_ne] at h
    obtain ⟨⟨h1, h2, h3⟩, h4⟩ := h
    obtain ⟨x, y, k1, k2, k3⟩ := ht t (by simp)
    have ih := eqFields_map w d xs ys l ts h4 (fun t ht' => ht t (by simp [ht']))
    rw [Op.eqFields, if_pos h3, h1, h2, Sem.run_bind, k1]
    simp only [Result.andThen_ok]
    rw [Sem.run_bind, k2]
    simp only [Result.andThen_ok]
    rw [Sem.run_bind, k3]
    simp only [Result.andThen_ok, List.all_cons]
    cases ht2 : t.2.2
    · simp
    · simpa using ih
theorem part_cell {P : Program} {t : TypeId} {d : TypeDesc} (hu : P.underlying t = some d) (hd : d.isRow = false) (n : Nat) (F : Nat → Value) (k : Nat) (hk : k < n) (w : World) : (part t (rowA n F) k).run P w = .ok (F k) w := by
  have ha := run_isAgg_no (P := P) hu hd w
  simp [part, ha, rowA_at _ _ _ hk]
theorem part_tag (c : Cl) (w : World) : (part 32 (rowA 41 (clF c)) 9).run Tryd.prog w = .ok (.agg (rowA 32 (bF c.tag))) w := by kernel_rfl
def eqC (a b : Cl) : Bool := [a.saga == b.saga, a.step == b.step, a.tr == b.tr, a.back == b.back, a.part == b.part, a.kind == b.kind, a.ans == b.ans, a.good == b.good, a.ep == b.ep, eqH a.tag b.tag].all id
def eqE4 (a b : En) : Bool := [a.saga == b.saga, a.step == b.step, a.back == b.back, a.good == b.good].all id
theorem eqH_self (d : Hs) : eqH d d = true := by unfold eqH; simp
theorem eqC_self (a : Cl) : eqC a a = true := by simp [eqC, eqH_self]
theorem eqE4_iff (a b : En) : eqE4 a b = true ↔ a = b := by
  obtain ⟨a1, a2, a3, a4⟩ := a
  obtain ⟨b1, b2, b3, b4⟩ := b
  simp [eqE4, and_assoc]
theorem equalIn_cl (w : World) (a b : Cl) : (Op.equalIn 10000 34 (.agg (rowA 41 (clF a))) (.agg (rowA 41 (clF b)))).run Tryd.prog w = .ok (eqC a b) w := by
  rw [run_equalIn_struct w 9999 34 _ _ Tryd.underlying34 (by kernel_rfl)]
  refine eqFields_map w 9999 _ _ _ [(3, 0, a.saga == b.saga), (3, 1, a.step == b.step), (3, 2, a.tr == b.tr), (4, 3, a.back == b.back), (3, 4, a.part == b.part), (3, 5, a.kind == b.kind), (4, 6, a.ans == b.ans), (4, 7, a.good == b.good), (3, 8, a.ep == b.ep), (32, 9, eqH a.tag b.tag)] (by kernel_rfl) ?_
  simp only [List.forall_mem_cons]
  refine ⟨?_, ?_, ?_, ?_, ?_, ?_, ?_, ?_, ?_, ?_, fun _ h => by cases h⟩
  · exact ⟨_, _, part_cell Tryd.underlying3 rfl 41 _ 0 (by omega) w, part_cell Tryd.underlying3 rfl 41 _ 0 (by omega) w, run_equalIn_int (P := Tryd.prog) w 9998 3 .i64 .i64 _ _ Tryd.underlying3⟩
  · exact ⟨_, _, part_cell Tryd.underlying3 rfl 41 _ 1 (by omega) w, part_cell Tryd.underlying3 rfl 41 _ 1 (by omega) w, run_equalIn_int (P := Tryd.prog) w 9998 3 .i64 .i64 _ _ Tryd.underlying3⟩
  · exact ⟨_, _, part_cell Tryd.underlying3 rfl 41 _ 2 (by omega) w, part_cell Tryd.underlying3 rfl 41 _ 2 (by omega) w, run_equalIn_int (P := Tryd.prog) w 9998 3 .i64 .i64 _ _ Tryd.underlying3⟩
  · exact ⟨_, _, part_cell Tryd.underlying4 rfl 41 _ 3 (by omega) w, part_cell Tryd.underlying4 rfl 41 _ 3 (by omega) w, run_equalIn_bool (P := Tryd.prog) w 9998 4 _ _ Tryd.underlying4⟩
  · exact ⟨_, _, part_cell Tryd.underlying3 rfl 41 _ 4 (by omega) w, part_cell Tryd.underlying3 rfl 41 _ 4 (by omega) w, run_equalIn_int (P := Tryd.prog) w 9998 3 .i64 .i64 _ _ Tryd.underlying3⟩
  · exact ⟨_, _, part_cell Tryd.underlying3 rfl 41 _ 5 (by omega) w, part_cell Tryd.underlying3 rfl 41 _ 5 (by omega) w, run_equalIn_int (P := Tryd.prog) w 9998 3 .i64 .i64 _ _ Tryd.underlying3⟩
  · exact ⟨_, _, part_cell Tryd.underlying4 rfl 41 _ 6 (by omega) w, part_cell Tryd.underlying4 rfl 41 _ 6 (by omega) w, run_equalIn_bool (P := Tryd.prog) w 9998 4 _ _ Tryd.underlying4⟩
  · exact ⟨_, _, part_cell Tryd.underlying4 rfl 41 _ 7 (by omega) w, part_cell Tryd.underlying4 rfl 41 _ 7 (by omega) w, run_equalIn_bool (P := Tryd.prog) w 9998 4 _ _ Tryd.underlying4⟩
  · exact ⟨_, _, part_cell Tryd.underlying3 rfl 41 _ 8 (by omega) w, part_cell Tryd.underlying3 rfl 41 _ 8 (by omega) w, run_equalIn_int (P := Tryd.prog) w 9998 3 .i64 .i64 _ _ Tryd.underlying3⟩
  · exact ⟨_, _, part_tag _ w, part_tag _ w, equalIn_arr w 9997 32 5 32 .u8 Tryd.underlying32 Tryd.underlying5 info5s (fun i => bN (a.tag i)) (fun i => bN (b.tag i))⟩
theorem equalIn_ey (w : World) (a b : En) : (Op.equalIn 10000 56 (.agg (rowA 4 (eyF a))) (.agg (rowA 4 (eyF b)))).run Tryd.prog w = .ok (eqE4 a b) w := by
  rw [run_equalIn_struct w 9999 56 _ _ Tryd.underlying56 (by kernel_rfl)]
  refine eqFields_map w 9999 _ _ _ [(3, 0, a.saga == b.saga), (3, 1, a.step == b.step), (4, 2, a.back == b.back), (4, 3, a.good == b.good)] (by kernel_rfl) ?_
  simp only [List.forall_mem_cons]
  refine ⟨?_, ?_, ?_, ?_, fun _ h => by cases h⟩
  · exact ⟨_, _, part_cell Tryd.underlying3 rfl 4 _ 0 (by omega) w, part_cell Tryd.underlying3 rfl 4 _ 0 (by omega) w, run_equalIn_int (P := Tryd.prog) w 9998 3 .i64 .i64 _ _ Tryd.underlying3⟩
  · exact ⟨_, _, part_cell Tryd.underlying3 rfl 4 _ 1 (by omega) w, part_cell Tryd.underlying3 rfl 4 _ 1 (by omega) w, run_equalIn_int (P := Tryd.prog) w 9998 3 .i64 .i64 _ _ Tryd.underlying3⟩
  · exact ⟨_, _, part_cell Tryd.underlying4 rfl 4 _ 2 (by omega) w, part_cell Tryd.underlying4 rfl 4 _ 2 (by omega) w, run_equalIn_bool (P := Tryd.prog) w 9998 4 _ _ Tryd.underlying4⟩
  · exact ⟨_, _, part_cell Tryd.underlying4 rfl 4 _ 3 (by omega) w, part_cell Tryd.underlying4 rfl 4 _ 3 (by omega) w, run_equalIn_bool (P := Tryd.prog) w 9998 4 _ _ Tryd.underlying4⟩
theorem equalIn_de (w : World) (a1 a2 b1 b2 : Int) (a3 b3 : Bool) : (Op.equalIn 10000 71 (.agg (rowA 3 (dyF a1 a2 a3))) (.agg (rowA 3 (dyF b1 b2 b3)))).run Tryd.prog w = .ok ([a1 == b1, a2 == b2, a3 == b3].all id) w := by
  rw [run_equalIn_struct w 9999 71 _ _ Tryd.underlying71 (by kernel_rfl)]
  refine eqFields_map w 9999 _ _ _ [(3, 0, a1 == b1), (3, 1, a2 == b2), (4, 2, a3 == b3)] (by kernel_rfl) ?_
  simp only [List.forall_mem_cons]
  refine ⟨?_, ?_, ?_, fun _ h => by cases h⟩
  · exact ⟨_, _, part_cell Tryd.underlying3 rfl 3 _ 0 (by omega) w, part_cell Tryd.underlying3 rfl 3 _ 0 (by omega) w, run_equalIn_int (P := Tryd.prog) w 9998 3 .i64 .i64 _ _ Tryd.underlying3⟩
  · exact ⟨_, _, part_cell Tryd.underlying3 rfl 3 _ 1 (by omega) w, part_cell Tryd.underlying3 rfl 3 _ 1 (by omega) w, run_equalIn_int (P := Tryd.prog) w 9998 3 .i64 .i64 _ _ Tryd.underlying3⟩
  · exact ⟨_, _, part_cell Tryd.underlying4 rfl 3 _ 2 (by omega) w, part_cell Tryd.underlying4 rfl 3 _ 2 (by omega) w, run_equalIn_bool (P := Tryd.prog) w 9998 4 _ _ Tryd.underlying4⟩
end Go.Proofs.YtchpmdcacpjojaaDoor
/- Arguments that are calls, slices of calls, slices of acts, opened. -/
namespace Go.Proofs.YtchpmdcacpjojaaDoor
open Go Go.ChangeShapes Go.WideShapes Go.ChangeAt Go.WideMaps Go.WideElems Go.RowKit
set_option maxRecDepth 8000
set_option linter.all false
section
variable {H : Type} {enc : TypeId × Value → H} {w : World} {base : Nat} {spare : Nat → Bool} {held : Bool} {r : Reach} {b0 : Nat} {v : Value} {d : DataW H} {p : List MemPlace} {n : Nat} {cs : Array Value}
theorem call_of {fs : Array Field} (hs : Tryd.prog.underlying 34 = some (.struct fs)) (hsz : cs.size = 41) (hf : ∀ (i : Nat) (f : Field), fs[i]? = some f → ∃ y, DataW.trod enc Tryd.prog w base spare held n f.type ((cs.toList.drop f.offset).take (Tryd.prog.cellsOf f.type)) = some y) : ∃ c : Cl, cs = rowA 41 (clF c) := by
  rw [Tryd.underlying34] at hs
  cases hs
  obtain ⟨z0, e0, _⟩ := field_int (ty := 3) (o := 0) Tryd.underlying3 (by kernel_rfl) (hf 0 _ rfl)
  obtain ⟨z1, e1, _⟩ := field_int (ty := 3) (o := 1) Tryd.underlying3 (by kernel_rfl) (hf 1 _ rfl)
  obtain ⟨z2, e2, _⟩ := field_int (ty := 3) (o := 2) Tryd.underlying3 (by kernel_rfl) (hf 2 _ rfl)
  obtain ⟨z4, e4, _⟩ := field_int (ty := 3) (o := 4) Tryd.underlying3 (by kernel_rfl) (hf 4 _ rfl)
  obtain ⟨z5, e5, _⟩ := field_int (ty := 3) (o := 5) Tryd.underlying3 (by kernel_rfl) (hf 5 _ rfl)
  obtain ⟨z8, e8, _⟩ := field_int (ty := 3) (o := 8) Tryd.underlying3 (by kernel_rfl) (hf 8 _ rfl)
  obtain ⟨b3, e3⟩ := field_bool (ty := 4) (o := 3) Tryd.underlying4 (by kernel_rfl) (hf 3 _ rfl)
  obtain ⟨b6, e6⟩ := field_bool (ty := 4) (o := 6) Tryd.underlying4 (by kernel_rfl) (hf 6 _ rfl)
  obtain ⟨b7, e7⟩ := field_bool (ty := 4) (o := 7) Tryd.underlying4 (by kernel_rfl) (hf 7 _ rfl)
  obtain ⟨t, ht⟩ := field_hash (ty := 32) (o := 9) (m := 32) Tryd.underlying32 Tryd.underlying5 (by kernel_rfl) (by kernel_rfl) (hf 9 _ rfl)
  refine ⟨⟨z0, z1, z2, b3, z4, z5, b6, b7, z8, t⟩, ?_⟩
  apply Array.ext_getElem?
  intro i
  by_cases hi : i < 41
  · rw [rowA_at _ _ _ hi]
    by_cases h9 : i < 9
    · have : i = 0 ∨ i = 1 ∨ i = 2 ∨ i = 3 ∨ i = 4 ∨ i = 5 ∨ i = 6 ∨ i = 7 ∨ i = 8 := by omega
      rcases this with rfl | rfl | rfl | rfl | rfl | rfl | rfl | rfl | rfl <;> simpa [clF]
    · obtain ⟨j, rfl⟩ : ∃ j, i = 9 + j := ⟨i - 9, by omega⟩
      rw [clF_tag _ _ (by omega), ht j (by omega)]
      rfl
  · rw [Array.getElem?_eq_none (by omega), Array.getElem?_eq_none (by rw [rowA_size]; omega)]
theorem act_of {fs : Array Field} (hs : Tryd.prog.underlying 44 = some (.struct fs)) (hsz : cs.size = 43) (hf : ∀ (i : Nat) (f : Field), fs[i]? = some f → ∃ y, DataW.trod enc Tryd.prog w base spare held n f.type ((cs.toList.drop f.offset).take (Tryd.prog.cellsOf f.type)) = some y) : ∃ x : Ac, cs = rowA 43 (acF x) := by
  rw [Tryd.underlying44] at hs
  cases hs
  obtain ⟨z, e0, _⟩ := field_int (ty := 3) (o := 0) Tryd.underlying3 (by kernel_rfl) (hf 0 _ rfl)
  obtain ⟨b, e2⟩ := field_bool (ty := 4) (o := 42) Tryd.underlying4 (by kernel_rfl) (hf 2 _ rfl)
  obtain ⟨y, hy⟩ := hf 1 _ rfl
  have hc41 : Tryd.prog.cellsOf 34 = 41 := by kernel_rfl
  replace hy : DataW.trod enc Tryd.prog w base spare held n 34 ((cs.toList.drop 1).take (Tryd.prog.cellsOf 34)) = some y := hy
  rw [hc41] at hy
  obtain ⟨xs, k, _, _, _, hxl, hel⟩ := DataW.trod_struct Tryd.underlying34 hy
  obtain ⟨c, hc⟩ := call_of (cs := ((cs.toList.drop 1).take 41).toArray) (n := k) (enc := enc) (w := w) (base := base) (spare := spare) (held := held) Tryd.underlying34 (by simp; omega) (fun j f hj => by
    have hlt : j < xs.length := by rw [hxl]; exact (Array.getElem?_eq_some_iff.1 hj).1
    exact ⟨xs[j], by rw [← List.getElem?_eq_getElem hlt]; simpa using hel j f hj⟩)
  refine ⟨⟨z, c, b⟩, ?_⟩
  apply Array.ext_getElem?
  intro i
  by_cases hi : i < 43
  · rw [rowA_at _ _ _ hi]
    by_cases h0 : i = 0
    · subst h0; simpa [acF] using e0
    · by_cases h1 : i < 42
      · obtain ⟨j, rfl⟩ : ∃ j, i = 1 + j := ⟨i - 1, by omega⟩
        have h3 := congrArg (fun z => z[j]?) hc
        simp only [rowA_at _ _ _ (show j < 41 by omega)] at h3
        unfold acF
        rw [if_neg (by omega), if_pos (by omega), show 1 + j - 1 = j by omega, ← h3]
        simp [show j < 41 by omega, Nat.add_comm 1 j]
      · obtain rfl : i = 42 := by omega
        simpa [acF] using e2
  · rw [Array.getElem?_eq_none (by omega), Array.getElem?_eq_none (by rw [rowA_size]; omega)]
/-- A call by value. -/
theorem open_callA (hv : Value.okWide Tryd.prog w r b0 34 v) (h : DataW.Trod enc Tryd.prog w base spare held 34 v d p) : ∃ c : Cl, v = .agg (rowA 41 (clF c)) := by
  obtain ⟨cs, n, rfl, hsz, hf⟩ := open_fields Tryd.underlying34 hv h
  obtain ⟨c, hc⟩ := call_of (enc := enc) (w := w) (base := base) (spare := spare) (held := held) Tryd.underlying34 (hsz.trans (by kernel_rfl)) hf
  exact ⟨c, by rw [hc]⟩
theorem open_callsA (hv : Value.okWide Tryd.prog w r b0 59 v) (h : DataW.Trod enc Tryd.prog w base spare held 59 v d p) : ∃ l : List Cl, RdL 41 clE w v l := by
  obtain ⟨a0, len, cap, rfl⟩ := okWide_slice Tryd.underlying59 hv
  obtain ⟨fuel, hf⟩ := h
  have hce : Tryd.prog.cellsOf 34 = 41 := by kernel_rfl
  rcases Go.Deep.open_slice Tryd.underlying59 hf with ⟨hcs, _⟩ | ⟨a, len', cap', m, n, D, Pl, hcs, _, hl, hm, hmm, _, hx⟩
  · simp [Value.cells] at hcs
    obtain ⟨rfl, rfl, rfl⟩ := hcs
    exact ⟨[], rdL_nil w⟩
  · simp [Value.cells] at hcs
    obtain ⟨rfl, rfl, rfl⟩ := hcs
    have hlm : len ≤ m := by rw [hmm]; split <;> omega
    have each : ∀ i, i < len → ∃ q : Cl, ∀ j, j < 41 → w.cell? (a.add (i * 41 + j)) = some (clF q j) := fun i hi => by
      obtain ⟨cs', h1, h2⟩ := hx i (by omega)
      rw [hce] at h1
      obtain ⟨_, hlen, hcell⟩ := World.cells?_some h1
      obtain ⟨xs, k, _, _, _, hxl, hel⟩ := DataW.trod_struct Tryd.underlying34 h2
      obtain ⟨c, hc⟩ := call_of (cs := cs'.toArray) (n := k) (enc := enc) (w := w) (base := base) (spare := spare) (held := held) Tryd.underlying34 (by simpa using hlen) (fun j f hj => by
        have hlt : j < xs.length := by rw [hxl]; exact (Array.getElem?_eq_some_iff.1 hj).1
        exact ⟨xs[j], by rw [← List.getElem?_eq_getElem hlt]; simpa using hel j f hj⟩)
      refine ⟨c, fun j hj => ?_⟩
      have := hcell j (by omega)
      rw [Go.Deep.add_add] at this
      rw [this]
      have h3 := congrArg (fun z => z[j]?) hc
      simp only [rowA_at _ _ _ hj] at h3
      simpa using h3
    haveI : Inhabited Cl := ⟨zC⟩
    obtain ⟨q, hq⟩ := Go.Deep.choose_lt each
    have hlen : ((List.range len).map fun i => clF (q i)).length = len := by simp
    refine ⟨(List.range len).map q, (List.range len).map fun i => clF (q i), ⟨some a, cap, by rw [hlen], by rw [hlen]; exact hl, hm, fun h0 => ?_⟩, by simp, fun i x hx' => ?_⟩
    · rw [hlen] at h0
      obtain ⟨b, off, spot⟩ := a
      have hspot : spot = none := by simpa [Addr.add] using World.cell?_spot (hq 0 h0 0 (by omega))
      subst hspot
      refine ⟨b, off, rfl, fun i f hf' j hj => ?_⟩
      have hi : i < len := by have := (List.getElem?_eq_some_iff.1 hf').1; simpa using this
      simp [hi] at hf'
      subst hf'
      have := hq i hi j hj
      rw [Go.WideShapes.add_plain] at this
      rw [Nat.add_assoc]; exact this
    · have hi : i < len := by have := (List.getElem?_eq_some_iff.1 hx').1; simpa using this
      simp [hi] at hx'
      subst hx'
      exact ⟨clF (q i), by simp [hi], rfl⟩
theorem open_actsA (hv : Value.okWide Tryd.prog w r b0 25 v) (h : DataW.Trod enc Tryd.prog w base spare held 25 v d p) : ∃ l : List Ac, RdL 43 acE w v l := by
  obtain ⟨a0, len, cap, rfl⟩ := okWide_slice Tryd.underlying25 hv
  obtain ⟨fuel, hf⟩ := h
  have hce : Tryd.prog.cellsOf 44 = 43 := by kernel_rfl
  rcases Go.Deep.open_slice Tryd.underlying25 hf with ⟨hcs, _⟩ | ⟨a, len', cap', m, n, D, Pl, hcs, _, hl, hm, hmm, _, hx⟩
  · simp [Value.cells] at hcs
    obtain ⟨rfl, rfl, rfl⟩ := hcs
    exact ⟨[], rdL_nil w⟩
  · simp [Value.cells] at hcs
    obtain ⟨rfl, rfl, rfl⟩ := hcs
    have hlm : len ≤ m := by rw [hmm]; split <;> omega
    have each : ∀ i, i < len → ∃ q : Ac, ∀ j, j < 43 → w.cell? (a.add (i * 43 + j)) = some (acF q j) := fun i hi => by
      obtain ⟨cs', h1, h2⟩ := hx i (by omega)
      rw [hce] at h1
      obtain ⟨_, hlen, hcell⟩ := World.cells?_some h1
      obtain ⟨xs, k, _, _, _, hxl, hel⟩ := DataW.trod_struct Tryd.underlying44 h2
      obtain ⟨c, hc⟩ := act_of (cs := cs'.toArray) (n := k) (enc := enc) (w := w) (base := base) (spare := spare) (held := held) Tryd.underlying44 (by simpa using hlen) (fun j f hj => by
        have hlt : j < xs.length := by rw [hxl]; exact (Array.getElem?_eq_some_iff.1 hj).1
        exact ⟨xs[j], by rw [← List.getElem?_eq_getElem hlt]; simpa using hel j f hj⟩)
      refine ⟨c, fun j hj => ?_⟩
      have := hcell j (by omega)
      rw [Go.Deep.add_add] at this
      rw [this]
      have h3 := congrArg (fun z => z[j]?) hc
      simp only [rowA_at _ _ _ hj] at h3
      simpa using h3
    haveI : Inhabited Ac := ⟨⟨0, zC, false⟩⟩
    obtain ⟨q, hq⟩ := Go.Deep.choose_lt each
    have hlen : ((List.range len).map fun i => acF (q i)).length = len := by simp
    refine ⟨(List.range len).map q, (List.range len).map fun i => acF (q i), ⟨some a, cap, by rw [hlen], by rw [hlen]; exact hl, hm, fun h0 => ?_⟩, by simp, fun i x hx' => ?_⟩
    · rw [hlen] at h0
      obtain ⟨b, off, spot⟩ := a
      have hspot : spot = none := by simpa [Addr.add] using World.cell?_spot (hq 0 h0 0 (by omega))
      subst hspot
      refine ⟨b, off, rfl, fun i f hf' j hj => ?_⟩
      have hi : i < len := by have := (List.getElem?_eq_some_iff.1 hf').1; simpa using this
      simp [hi] at hf'
      subst hf'
      have := hq i hi j hj
      rw [Go.WideShapes.add_plain] at this
      rw [Nat.add_assoc]; exact this
    · have hi : i < len := by have := (List.getElem?_eq_some_iff.1 hx').1; simpa using this
      simp [hi] at hx'
      subst hx'
      exact ⟨acF (q i), by simp [hi], rfl⟩
end
end Go.Proofs.YtchpmdcacpjojaaDoor
