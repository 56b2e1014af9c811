/- Package mac: the key's masks, and its block. -/
import Derived.Test.YtpoebajpmkcjdaaDoorM1
import Derived.Test.YtpoebajpmkcjdaaDoorF1
import Derived.Laws.IdiomCopy
namespace Go.Proofs.YtpoebajpmkcjdaaDoor
open Go Go.RowKit
attribute [local go_sem] bF_at u8_xor

def maskTo (b : Nat → UInt8) (m : UInt8) (k i : Nat) : UInt8 := if i < k then b i ^^^ m else b i
theorem maskTo_set (b : Nat → UInt8) (m : UInt8) (k i : Nat) : (if i = k then Value.int .u8 (bN (b k ^^^ m)) else bF (maskTo b m k) i) = bF (maskTo b m (k + 1)) i := by
  simp only [bF, maskTo]
  by_cases h : i = k
  · subst h; simp
  · by_cases h2 : i < k
    · rw [if_neg h, if_pos h2, if_pos (by omega)]
    · rw [if_neg h, if_neg h2, if_neg (by omega)]
/-- A block, each byte put together with m. -/
def maskL (b : Nat → UInt8) (m : UInt8) : List UInt8 := (List.range 64).map fun i => b i ^^^ m
theorem maskL_length (b : Nat → UInt8) (m : UInt8) : (maskL b m).length = 64 := by simp [maskL]
theorem info64 : (Tryd.prog.info? 57).map (·.size) = some 64 := by kernel_rfl
theorem run_sliceAt_64 (w : World) (g : Nat) : (Instr.sliceAt 57 (.pointer (some ⟨g, 0, none⟩)) none none none).run Tryd.prog w = .ok (.slice (some ⟨g, 0, none⟩) 64 64) w := by
  have hsz : (sizeOf 5).run Tryd.prog w = .ok 1 w := by
    have hs := info5s
    cases hq : Tryd.prog.info? 5 with
    | none => simp [hq] at hs
    | some i => simp [hq] at hs; simp [sizeOf, typeInfo, hq, hs]
  simp [Instr.sliceAt, run_underlying Tryd.underlying57, Instr.sureAddr, Instr.sliceBounds, hsz, Addr.add_zero']
attribute [local go_sem] run_sliceAt_64
set_option maxHeartbeats 1000000 in
theorem masked_any (b : Nat → UInt8) (m : UInt8) (w : World) : Cv 44 #[.agg (rowA 64 (bF b)), .int .u8 (bN m)] w (svRd (maskL b m)) := by
  unfold Cv
  go_enter Tryd.func44, Tryd.ntmps44
  go_upto_region 1 with fail
  have r0 := rowIs_box w 57 64 (bF b)
  have hB : Below w.heap.size w (w.alloc (.cells (rowA 64 (bF b)) 57)) := (Below.refl _ w).alloc (Nat.le_refl _) _
  change Code.wp _ _ _ _ (w.alloc (.cells (rowA 64 (bF b)) 57))
  generalize w.alloc (.cells (rowA 64 (bF b)) 57) = W0 at r0 hB ⊢
  go_wp2
  go_loopw [6] (fun i wr => ∃ k : Nat, k ≤ 64 ∧ i = .int .i64 k ∧ wr.rowIs w.heap.size 57 64 (bF (maskTo b m k)) ∧ Below w.heap.size w wr) (fun i _ => 64 - (intOf i).toNat)
  case atStart => exact ⟨0, by omega, rfl, r0.congr fun i _ => by simp [bF, maskTo], hB⟩
  case round =>
    obtain ⟨k, hk, rfl, q0, qB⟩ := hrel
    clear r0 hB
    by_cases hlt : k < 64
    · have c0 := q0.cell (i := k) hlt
      rw [bF_at, show maskTo b m k k = b k by simp [maskTo]] at c0
      have f0 := q0.frozen k
      go_wp2
      go_roundw
      case rel => exact ⟨k + 1, by omega, by go_num, (q0.set k _).congr fun i _ => maskTo_set _ _ k i, qB.setCell (by simp) _⟩
      case measure => simp [intOf]; omega
    · obtain rfl : k = 64 := by omega
      go_wp2
      go_ret
      have := rd_row (L := []) q0 (by simp) (by omega)
      refine ⟨_, rfl, qB, ?_⟩
      have e : (List.range 64).map (maskTo b m 64) = maskL b m := List.map_congr_left fun i hi => by simp at hi; simp [maskTo, hi]
      rw [e] at this
      exact this
/-- A key as HMAC takes it. -/
def keyOf (l : List UInt8) : List UInt8 := if 64 < l.length then digL (shaL Kc Fc l) else l
theorem keyOf_length (l : List UInt8) : (keyOf l).length ≤ 64 := by
  unfold keyOf; split
  · rw [digL_length]; omega
  · omega
def keyB (l : List UInt8) (i : Nat) : UInt8 := bAt (keyOf l) i

/-- Bytes copied into a row that is new. -/
theorem opr_copy {B : Nat} {a : Act} {w W : World} {o : Oper} {K : Act → World → Prop} {Q : Exit → Act → World → Prop} {x y : Operand} {g n c : Nat} {t : TypeId} {f0 : Nat → UInt8} {l : List UInt8} {L : List Nat}
    (ho : o.op = .call { callee := .builtin .copy, args := #[x, y], argTypes := #[24, 24] }) (hx : a.eval x = .slice (some ⟨g, 0, none⟩) n c) (hy : RdV w L (a.eval y) l) (hl : l.length ≤ n) (hr : w.rowIs g t n (bF f0)) (hN : Below B W w) (hg : B ≤ g)
    (h : ∀ v w', Below B W w' → w'.rowIs g t n (bF fun i => if i < l.length then bAt l i else f0 i) → K (a.put o.dst v) w') : o.wp Tryd.prog a w K Q := by
  obtain ⟨dst, op, type, pos, after, guard⟩ := o
  simp only at ho
  subst ho
  obtain ⟨A, cap, hv, _, _, hc⟩ := hy
  have hex : execOp a.eval { dst, op := .call { callee := .builtin .copy, args := #[x, y], argTypes := #[24, 24] }, type, pos, after, guard } = (do pure (.value (← Builtin.copy_ #[24, 24] type #[a.eval x, a.eval y]))) := by
    show (do let d ← resolve a.eval { callee := .builtin .copy, args := #[x, y], argTypes := #[24, 24] } type; invoke d.target d.args) = _
    simp only [resolve, invoke, pure_bind, BigFrame.builtin_copy, List.map_toArray, List.map_cons, List.map_nil]
  by_cases h0 : l.length = 0
  · refine opr_val (s := Builtin.copy_ #[24, 24] type #[a.eval x, a.eval y]) (v := goInt 0) (w' := w) hex ?_ (h _ _ hN (hr.congr fun i _ => by simp [bF, h0]))
    rw [hx, hv]
    exact run_copy_none (P := Tryd.prog) w 24 24 type 5 _ _ _ _ _ _ Tryd.underlying24 info5s (by rw [h0]; exact Nat.zero_min _)
  · obtain ⟨b, o2, rfl, _, hcell⟩ := hc (by omega)
    have hlen : (l.map fun b => Value.int .u8 (bN b)).length = l.length := by simp
    refine opr_val (s := Builtin.copy_ #[24, 24] type #[a.eval x, a.eval y]) (v := goInt (l.map fun b => Value.int .u8 (bN b)).length) (w' := w.setCells g 0 (l.map fun b => Value.int .u8 (bN b))) hex ?_ (h _ _ (below_setCells g hg _ _ _ hN) ((rowIs_setCells_at hr _ 0).congr fun i hi => ?_))
    · rw [hx, hv]
      refine run_copy_cells (P := Tryd.prog) w 24 24 type 5 g 0 n c ⟨b, o2, none⟩ l.length cap _ Tryd.underlying24 info5s (by rw [hlen]; exact (Nat.min_eq_left hl).symm) (fun j v hj => ?_) (fun j hj => ?_) (fun j hj => ?_) (by simp [Value.oneCell'])
      · have hjl : j < l.length := by have := (List.getElem?_eq_some_iff.1 hj).1; simpa using this
        rw [map_at l j hjl] at hj
        rw [Addr.add_mid, hcell j hjl]; exact hj
      · rw [hlen] at hj; rw [Nat.zero_add, hr.cell (by omega)]; rfl
      · rw [Nat.zero_add]; exact hr.frozen j
    · rw [hlen]
      by_cases hil : i < l.length
      · simp [hil, bF, bAt]
      · simp [hil, bF]
theorem run_alloc_64 (w : World) : (Instr.alloc 57 true (.tuple #[])).run Tryd.prog w = .ok (.pointer (some ⟨w.heap.size, 0, none⟩)) (w.alloc (.cells (rowA 64 (bF fun _ => 0)) 57)) := by
  simp [go_sem]; rfl
theorem opr_alloc_64 {a : Act} {w : World} {o : Oper} {K : Act → World → Prop} {Q : Exit → Act → World → Prop} {W : World} (ho : o.op = .alloc 57) (hT : NewT W w) (h : ∀ v w', NewT w w' → (svNew W 57 64).pred v w' → K (a.put o.dst v) w') : o.wp Tryd.prog a w K Q := by
  obtain ⟨dst, op, type, pos, after, guard⟩ := o
  simp only at ho
  subst ho
  exact opr_val (s := Instr.alloc 57 true (.tuple #[])) rfl (run_alloc_64 w) (h _ _ (NewT.alloc _ _) ⟨w.heap.size, rfl, hT.out.size, rowIs_box w 57 64 _⟩)
theorem opr_load_64 {a : Act} {w : World} {o : Oper} {K : Act → World → Prop} {Q : Exit → Act → World → Prop} {x : Operand} {g : Nat} {t : TypeId} {d : Nat → UInt8} (ho : o.op = .load 57 x) (hx : a.eval x = .pointer (some ⟨g, 0, none⟩)) (hr : w.rowIs g t 64 (bF d)) (h : K (a.put o.dst (.agg (rowA 64 (bF d)))) w) : o.wp Tryd.prog a w K Q := by
  obtain ⟨dst, op, type, pos, after, guard⟩ := o
  simp only at ho
  subst ho
  refine opr_val (s := Instr.loadAt 57 (a.eval x)) rfl ?_ h
  rw [hx]
  have := run_loadAt_mid (P := Tryd.prog) w g 0 57 (rowA 64 (bF d)).toList _ (rangeAt_row hr) Tryd.underlying57 rfl (by rw [rowA_toList]; simpa using info64)
  simpa using this
theorem opr_slice_64 {a : Act} {w : World} {o : Oper} {K : Act → World → Prop} {Q : Exit → Act → World → Prop} {x : Operand} {g : Nat} (ho : o.op = .slice 57 x none none none) (hx : a.eval x = .pointer (some ⟨g, 0, none⟩)) (h : K (a.put o.dst (.slice (some ⟨g, 0, none⟩) 64 64)) w) : o.wp Tryd.prog a w K Q := by
  obtain ⟨dst, op, type, pos, after, guard⟩ := o
  simp only at ho
  subst ho
  refine opr_val (s := Instr.sliceAt 57 (a.eval x) none none none) rfl ?_ h
  rw [hx]; exact run_sliceAt_64 w g
end Go.Proofs.YtpoebajpmkcjdaaDoor
