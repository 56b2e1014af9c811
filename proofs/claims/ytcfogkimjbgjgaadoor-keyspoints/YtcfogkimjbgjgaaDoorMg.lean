/- What the reference asks of keys is what may be; bytes put behind such as have no room behind them. -/
import Derived.Test.YtcfogkimjbgjgaaDoorMe
import Derived.Test.YtcfogkimjbgjgaaDoorMa
import Derived.Test.YtcfogkimjbgjgaaDoorMc
import Derived.Test.YtcfogkimjbgjgaaDoorMb
import Derived.Test.YtcfogkimjbgjgaaDoorMd
set_option linter.all false
namespace Go.Proofs.YtcfogkimjbgjgaaDoor
open Go Go.RowKit
set_option maxRecDepth 8000
set_option linter.all false
theorem eqH_comm (d e : Hs) : eqH d e = eqH e d := by
  rw [Bool.eq_iff_iff, eqH_iff, eqH_iff]
  exact ⟨fun h i hi => (h i hi).symm, fun h i hi => (h i hi).symm⟩
/-- It reads as l, and there is no room behind it. -/
def svBF (l : List UInt8) : SV NewT := ⟨fun v w => (∃ A, v = .slice A l.length l.length) ∧ RdV w [] v l, fun _ _ _ h hT => ⟨h.1, hT.rd h.2⟩⟩
theorem run_appBF {W : World} {v u : Value} {l m : List UInt8} (h : (svBF l).pred v W) (hl : 0 < l.length) (hr : RdV W [] u m) (hm : 0 < m.length) (hn : l.length + m.length ≤ 900000) (ty : TypeId) :
    ∃ v' w', (Builtin.append_ #[28, 28] ty #[v, u]).run Tryd.prog W = .ok v' w' ∧ NewT W w' ∧ RdV w' [] v' (l ++ m) := by
  obtain ⟨⟨A0, rfl⟩, hx⟩ := h
  obtain ⟨i0, hi, hz0, hz1, hz2⟩ := info_parts info5
  obtain ⟨A1, c1, hv, k1, k2, k3⟩ := hx
  obtain ⟨b1, o1, hA1, _, hc1⟩ := k3 hl
  injection hv with e1 _ e3
  subst e1 hA1
  obtain ⟨A, cap, rfl, j1, j2, j3⟩ := hr
  obtain ⟨b, o, rfl, _, hc⟩ := j3 hm
  have cl : ∀ (l : List UInt8) (j : Nat) (u : Value), (l.map fun b => Value.int .u8 (bN b))[j]? = some u → j < l.length ∧ u = .int .u8 (bN (bAt l j)) := fun l j u hj => by
    rw [List.getElem?_map] at hj
    cases hq : l[j]? with
    | none => rw [hq] at hj; cases hj
    | some x =>
      rw [hq] at hj
      injection hj with hj
      obtain ⟨h1, h2⟩ := List.getElem?_eq_some_iff.1 hq
      exact ⟨h1, by rw [← hj]; simp [bAt, h1, h2]⟩
  have holds : ∀ j u, (l.map fun b => Value.int .u8 (bN b))[j]? = some u → W.cell? ((⟨b1, o1, none⟩ : Addr).add j) = some u := fun j u hj => by
    obtain ⟨h1, rfl⟩ := cl l j u hj
    rw [Addr.add_mid]
    exact hc1 j h1
  have news : ∀ j u, (m.map fun b => Value.int .u8 (bN b))[j]? = some u → W.cell? ((⟨b, o, none⟩ : Addr).add j) = some u := fun j u hj => by
    obtain ⟨h1, rfl⟩ := cl m j u hj
    rw [Addr.add_mid]
    exact hc j h1
  have hrun := run_append_grow (P := Tryd.prog) W 28 ty 5 i0 _ Tryd.underlying28 hi hz0 ⟨b1, o1, none⟩ l.length l.length (l.map fun b => Value.int .u8 (bN b)) (by rw [hz1]; simp) holds ⟨b, o, none⟩ m.length cap (m.map fun b => Value.int .u8 (bN b)) (by rw [hz1]; simp) news (by omega) (by omega) (growslice_fits (by omega) (by rw [hz2]; omega))
  refine ⟨_, _, hrun, NewT.trans _ _ _ (NewT.drew W) (NewT.alloc _ _), ?_⟩
  have hge := grownCap_ge W (l.length + m.length) l.length 5
  have hcm := grownCap_le_maxLen W (l.length + m.length) l.length 5 (by unfold maxLen; omega)
  refine rdV_own (base := 0) (n := l.length + m.length) (L := []) ⟨by simp, .inr ⟨W.heap.size, _, _, rfl, Nat.zero_le _, heap_alloc_new W.drew _, hge, hcm, ?_, ?_⟩⟩ (by simp) (by simp)
  · simp only [Array.size_append, List.size_toArray, size_zeroCells, List.length_map, Value.cells]
    simp; omega
  · simp only [Array.toList_append, List.append_assoc, Nat.mul_one]
    rw [← List.append_assoc, ← List.map_append, List.take_append_of_le_length (by simp), List.take_of_length_le (by simp)]
section
variable {a : Act} {w : World} {o : Oper} {K : Act → World → Prop} {Q : Exit → Act → World → Prop} {x y : Operand}
theorem opr_bsb1F {b : UInt8} (ho : o.op = .buildSlice 28 1 #[(0, x)]) (hx : a.eval x = .int .u8 (bN b)) (h : ∀ v w', NewT w w' → (svBF [b]).pred v w' → K (a.put o.dst v) w') : o.wp Tryd.prog a w K Q := by
  obtain ⟨dst, op, type, pos, after, guard⟩ := o
  simp only at ho
  subst ho
  exact opr_val (s := Instr.buildSlice 28 1 #[(0, a.eval x)]) (by simp [execOp]) (by rw [hx]; exact run_bsb1 _ w) (h _ _ (NewT.alloc _ _) ⟨⟨_, rfl⟩, rd_one b w⟩)
theorem opr_appBF {l m : List UInt8} (hl : 0 < l.length) (hm : 0 < m.length) (hn : l.length + m.length ≤ 900000) (ho : o.op = .call { callee := .builtin .append, args := #[x, y], argTypes := #[28, 28] }) (hx : (svBF l).pred (a.eval x) w) (hy : RdV w [] (a.eval y) m) (h : ∀ v w', NewT w w' → RdV w' [] v (l ++ m) → K (a.put o.dst v) w') : o.wp Tryd.prog a w K Q := by
  obtain ⟨v', w', hrun, hN, hr⟩ := run_appBF hx hl hy hm hn o.type
  exact opr_append ho rfl rfl hrun (h v' w' hN hr)
end
section
variable (ps ws : List Hs) (need part epoch wit size : Int)
theorem may_ref : (((((decide (1 ≤ (List.length ps : Int)) && decide ((List.length ps : Int) ≤ 4)) && decide (1 ≤ (List.length ws : Int))) && decide ((List.length ws : Int) ≤ 4)) && decide (1 ≤ need)) && decide (need ≤ (List.length ws : Int))) = mayB ps ws need := by
  unfold mayB inR; simp only [Bool.and_assoc]
theorem known_ref : ((((mayB ps ws need && decide (0 ≤ part)) && decide (part < (List.length ps : Int))) && decide (0 ≤ epoch)) && decide (epoch ≤ 400)) = hasB ps ws need part epoch := by
  rw [Bool.eq_iff_iff, hasB_iff]
  simp only [Bool.and_eq_true, decide_eq_true_iff]
  constructor
  · rintro ⟨⟨⟨⟨a, b⟩, c⟩, d⟩, e⟩; exact ⟨a, ⟨b, c⟩, d, e⟩
  · rintro ⟨a, ⟨b, c⟩, d, e⟩; exact ⟨⟨⟨⟨a, b⟩, c⟩, d⟩, e⟩
theorem sign_ref : ((((!mayB ps ws need || decide (wit < 0)) || decide ((List.length ws : Int) ≤ wit)) || decide (size < 0)) || decide (400 < size)) = !mayS ps ws need wit size := by
  rw [Bool.eq_iff_iff]
  simp only [Bool.or_eq_true, Bool.not_eq_true', decide_eq_true_iff]
  constructor
  · intro h
    cases hq : mayS ps ws need wit size with
    | false => rfl
    | true =>
      obtain ⟨a, b, c⟩ := (mayS_iff _ _ _ _ _).1 hq
      rw [a] at h
      simp at h
      omega
  · intro h
    cases hm : mayB ps ws need with
    | false => simp
    | true =>
      have h2 : ¬ (mayB ps ws need = true ∧ (0 ≤ wit ∧ wit < ws.length) ∧ 0 ≤ size ∧ size ≤ 400) := fun hh => by rw [(mayS_iff _ _ _ _ _).2 hh] at h; cases h
      simp only [hm, true_and] at h2
      simp
      omega
theorem check_ref : ((!mayB ps ws need || decide (size < 0)) || decide (400 < size)) = !(mayB ps ws need && inR size 0 400) := by
  unfold inR
  cases mayB ps ws need
  · rfl
  · by_cases h1 : size < 0
    · simp [h1]
    · by_cases h2 : 400 < size
      · simp [h1, h2]
      · simp [h1, h2]; omega
theorem okAt_ref (n : Nat) (sg : Nat → Hs) (seen : List (Int × Hs)) (s : Int × Hs) : okAt n sg seen s = (((decide (0 ≤ s.1) && decide (s.1 < (n : Int))) && eqH s.2 (sg s.1.toNat)) && !(seen.any fun q => q.1 == s.1)) := by
  unfold okAt inR
  rw [eqH_comm s.2]
  have e : decide (s.1 ≤ (n : Int) - 1) = decide (s.1 < (n : Int)) := by rw [Bool.eq_iff_iff]; simp; omega
  rw [e]
  cases decide (0 ≤ s.1) <;> cases decide (s.1 < (n : Int)) <;> cases eqH (sg s.1.toNat) s.2 <;> cases (seen.any fun q => q.1 == s.1) <;> rfl
end
end Go.Proofs.YtcfogkimjbgjgaaDoor
/- A mark's number, where the mark lies in a slice. -/
namespace Go.Proofs.YtcfogkimjbgjgaaDoor
open Go Go.RowKit
set_option maxRecDepth 8000
set_option linter.all false
/-- A pointer to a number. -/
def svPI (n : Int) : SV NewT := ⟨fun v w => ∃ b off, v = .pointer (some ⟨b, off, none⟩) ∧ w.cell? ⟨b, off, none⟩ = some (.int .i64 n), fun _ w w' h hT => by
  obtain ⟨b, off, hv, hc⟩ := h
  exact ⟨b, off, hv, (hT.out.cell (p := ⟨b, off, none⟩) (World.block_lt_of_cell? _ _ hc)).trans hc⟩⟩
section
variable {a : Act} {w : World} {o : Oper} {K : Act → World → Prop} {Q : Exit → Act → World → Prop} {x y : Operand}
theorem opr_fldPG0 {d : Int × Hs} (ho : o.op = .fieldAddr 49 x 0) (hx : (svPG d).pred (a.eval x) w) (h : ∀ v, (svPI d.1).pred v w → K (a.put o.dst v) w) : o.wp Tryd.prog a w K Q := by
  obtain ⟨b, off, hv, hc⟩ := hx
  refine opr_fldX0 ho hv (h _ ⟨b, off, rfl, ?_⟩)
  have := hc 0 (by omega)
  rwa [Nat.add_zero] at this
theorem opr_ldPI {n : Int} (ho : o.op = .load 3 x) (hx : (svPI n).pred (a.eval x) w) (h : K (a.put o.dst (.int .i64 n)) w) : o.wp Tryd.prog a w K Q := by
  obtain ⟨b, off, hv, hc⟩ := hx
  exact opr_ld1 Tryd.underlying3 rfl ho hv hc h
end
/-- Marks seen, one more. -/
theorem any_next {l : List (Int × Hs)} {q : Nat} {s : Int × Hs} {j : Int} (hs : l[q]? = some s) (h : ((l.take q).any fun x => x.1 == j) = false) (hn : (s.1 == j) = false) : ((l.take (q + 1)).any fun x => x.1 == j) = false := by
  rw [show l.take (q + 1) = l.take q ++ [s] from by rw [List.take_add_one, hs]; rfl, List.any_append, h]
  simpa using hn
theorem any_hit {l : List (Int × Hs)} {q k : Nat} {s : Int × Hs} {j : Int} (hs : l[q]? = some s) (hq : q < k) (hn : (s.1 == j) = true) : ((l.take k).any fun x => x.1 == j) = true := by
  rw [List.any_eq_true]
  exact ⟨s, List.mem_of_getElem? (i := q) (by rw [List.getElem?_take, if_pos hq]; exact hs), hn⟩
end Go.Proofs.YtcfogkimjbgjgaaDoor
/- A row of bytes of a call's own, and appends to it. -/
namespace Go.Proofs.YtcfogkimjbgjgaaDoor
open Go Go.RowKit
set_option maxRecDepth 8000
set_option linter.all false
/-- A row of bytes of a call's own, from W on. -/
def svOwn (W : World) (l : List UInt8) : SV NewT := ⟨fun v w => w.ownsRow W.heap.size 5 1 v l.length (l.map fun b => .int .u8 (bN b)), fun v w w' h hT => by
  obtain ⟨a, b⟩ := h
  refine ⟨a, ?_⟩
  rcases b with b | ⟨g, cap, cur, rfl, hb, hg, r⟩
  · exact .inl b
  · have hlt : g < w.heap.size := by
      rcases Nat.lt_or_ge g w.heap.size with h | h
      · exact h
      · rw [Array.getElem?_eq_none h] at hg; cases hg
    exact .inr ⟨g, cap, cur, rfl, hb, (hT.out.block g hlt).trans hg, r⟩⟩
/-- Bytes put behind a row of the call's own: the row reads as both, and nothing below turns. -/
theorem run_append_two {W W0 : World} {v u : Value} {l m : List UInt8} (ho : (svOwn W0 l).pred v W) (hW : W0.heap.size ≤ W.heap.size) (hr : RdV W [] u m) (hn : l.length + m.length ≤ 900000) (ty : TypeId) :
    ∃ v' w', (Builtin.append_ #[28, 28] ty #[v, u]).run Tryd.prog W = .ok v' w' ∧ (svOwn W0 (l ++ m)).pred v' w' ∧ RdV w' [] v' (l ++ m) ∧ Below W0.heap.size W w' := by
  obtain ⟨i0, hi, hz0, hz1, hz2⟩ := info_parts info5
  obtain ⟨v', w', h1, h2, h3⟩ := run_append_rd (P := Tryd.prog) (ty := ty) Tryd.underlying28 hi hz0 hz1 hz2 ho hr (by omega) hW
  have e : l.map (fun b => Value.int .u8 (bN b)) ++ m.map (fun b => Value.int .u8 (bN b)) = (l ++ m).map fun b => Value.int .u8 (bN b) := by simp
  rw [e] at h2
  refine ⟨v', w', h1, ?_, rdV_own h2 (by simp) (by simp), (Below.refl _ W).grown h3 hW (fun k hk => (World.ownsRow.lt ho k hk).1)⟩
  show w'.ownsRow W0.heap.size 5 1 v' (l ++ m).length _
  rw [List.length_append]; exact h2
theorem own_from {W W1 : World} {l : List UInt8} {v : Value} {w : World} (hT : NewT W W1) (h : (svOwn W1 l).pred v w) : (svOwn W l).pred v w := by
  obtain ⟨a, b⟩ := h
  refine ⟨a, ?_⟩
  rcases b with b | ⟨g, cap, cur, hv, hb, r⟩
  · exact .inl b
  · exact .inr ⟨g, cap, cur, hv, Nat.le_trans hT.out.size hb, r⟩
theorem own_one (b : UInt8) (w : World) : (svOwn w [b]).pred (.slice (some ⟨w.heap.size, 0, none⟩) 1 1) (w.alloc (.cells #[.int .u8 (bN b)] 5)) :=
  ⟨rfl, .inr ⟨w.heap.size, 1, #[.int .u8 (bN b)], rfl, Nat.le_refl _, World.alloc_heap_new _ _, Nat.le_refl _, by unfold maxLen; omega, rfl, rfl⟩⟩
end Go.Proofs.YtcfogkimjbgjgaaDoor
/- Layer 2's statements' own functions and the reference's: great; with (a key's mask). -/
namespace Go.Proofs.YtcfogkimjbgjgaaDoor
open Go Go.RowKit
set_option maxRecDepth 8000
set_option linter.all false

/-- How much a list of parts is, as 'great' counts. -/
def gsum (ls : List (List UInt8)) : Nat := (ls.map fun l => 1 + l.length).sum
theorem gsum_take (ls : List (List UInt8)) (k : Nat) : gsum (ls.take k) ≤ gsum ls := by
  have h := congrArg gsum (List.take_append_drop k ls)
  have e : gsum (ls.take k ++ ls.drop k) = gsum (ls.take k) + gsum (ls.drop k) := by unfold gsum; rw [List.map_append, List.sum_append]
  omega
theorem gsum_bounds (ls : List (List UInt8)) : ls.length + ls.flatten.length = gsum ls := by
  unfold gsum
  induction ls with
  | nil => rfl
  | cons x ls ih => simp at ih ⊢; omega
def GreatPost (ls : List (List UInt8)) (w : World) (e : Ending) (w' : World) : Prop := ∃ b, e = .returned (.bool b) ∧ (b = false → gsum ls ≤ 1000) ∧ w = w'
theorem xor_low (x m : UInt8) (hm : m = 54 ∨ m = 92) : IntKind.u8.wrap (bits .xor .i64 (bN x) (bN m)) = bN (x ^^^ m) := by
  have h1 : ∀ n : Fin 256, IntKind.u8.wrap (bits .xor .i64 (bN (UInt8.ofNat n.val)) (bN 54)) = bN (UInt8.ofNat n.val ^^^ 54) := by decide +kernel
  have h2 : ∀ n : Fin 256, IntKind.u8.wrap (bits .xor .i64 (bN (UInt8.ofNat n.val)) (bN 92)) = bN (UInt8.ofNat n.val ^^^ 92) := by decide +kernel
  have e : UInt8.ofNat x.toNat = x := by simp
  rcases hm with rfl | rfl
  · have := h1 ⟨x.toNat, x.toNat_lt⟩; rwa [e] at this
  · have := h2 ⟨x.toNat, x.toNat_lt⟩; rwa [e] at this
theorem bN_wrap (x : UInt8) : IntKind.i64.wrap (bN x) = bN x := by
  have := bN_lt x
  simp [IntKind.wrap, IntKind.bits, IntKind.signed]; omega
set_option maxHeartbeats 1000000 in
theorem with_any (A : Option Addr) (n c : Nat) (l : List UInt8) (m : UInt8) (hm : m = 54 ∨ m = 92) (w : World) (hr : RdV w [] (.slice A n c) l) :
    Cv 59 #[.slice A n c, .int .i64 (bN m)] w (svOwn w (maskL (bAt l) m)) := by
  unfold Cv
  have hn : l.length = n := by obtain ⟨_, _, hv, _⟩ := hr; cases hv; rfl
  subst hn
  obtain ⟨A', c', hv, hlc, hcm, hcell⟩ := hr
  cases hv
  unfold maxLen at hcm
  have HC := Lib.hid hcell
  have HX := Lib.hid (fun x => xor_low x m hm)
  have HW := Lib.hid bN_wrap
  have hmb := bN_lt m
  generalize hM : bN m = M at hmb
  have HM := Lib.hid hM
  clear hcell hM hm
  obtain ⟨i0, hi, hz0, hz1, hz2⟩ := info_parts info5
  go_enter Tryd.func59, Tryd.ntmps59
  go_wp2
  go_loopw [5, 6] (fun v i wr => ∃ k : Nat, k ≤ 64 ∧ i = .int .i64 k ∧ wr.ownsRow w.heap.size 5 1 v k ((List.range k).map (bF fun i => bAt l i ^^^ m)) ∧ Below w.heap.size w wr) (fun _ i _ => 64 - (intOf i).toNat)
  case atStart => exact ⟨0, by omega, rfl, World.ownsRow_nil _ _ _ _, Below.refl _ _⟩
  case round =>
    obtain ⟨k, hk, rfl, hown, qB⟩ := hrel
    by_cases hlt : k < 64
    · by_cases hkl : k < l.length
      · obtain ⟨b, o, rfl, _, hc⟩ := HC.out (by omega)
        have hcl := (qB.cell (p := ⟨b, o + k, none⟩) (World.block_lt_of_cell? _ _ (hc k hkl))).trans (hc k hkl)
        have hx := HX.out (bAt l k)
        rw [HM.out] at hx
        have hwr := HW.out (bAt l k)
        have hbk := bN_lt (bAt l k)
        go_wp2_with (at_builtin; refine wpList_append_own _ rfl (.tmp 21) (.tmp 26) 28 rfl w.heap.size 5 i0 _ 1 1 Tryd.underlying28 hi hz0 hz1 hz2 rfl (by omega) u5 k _ rfl (hown.alloc _) ⟨wr.heap.size, 0, none⟩ 1 1 [bF (fun i => bAt l i ^^^ m) k] rfl rfl (one_cell _ _ _) (by simp [bF, Value.oneCell']) (by unfold maxLen; omega) (by omega) (by have := qB.size; simp; omega) ?_; intro v' w1 hown' hg1 _)
        go_roundw
        case rel =>
          refine ⟨k + 1, by omega, by go_num, ?_, (qB.alloc qB.size _).grown hg1 (by have := qB.size; simp; omega) (fun g e => (hown.lt g e).1)⟩
          rw [List.range_succ, List.map_append]
          exact hown'
        case measure => simp [intOf]; omega
      · have hz : bAt l k = 0 := by simp [bAt, hkl]
        have hx := HX.out 0
        rw [HM.out] at hx
        have hx0 : IntKind.u8.wrap (bits .xor .i64 0 M) = bN (bAt l k ^^^ m) := by rw [hz]; exact hx
        clear hx hz
        go_wp2_with (at_builtin; refine wpList_append_own _ rfl (.tmp 21) (.tmp 26) 28 rfl w.heap.size 5 i0 _ 1 1 Tryd.underlying28 hi hz0 hz1 hz2 rfl (by omega) u5 k _ rfl (hown.alloc _) ⟨wr.heap.size, 0, none⟩ 1 1 [bF (fun i => bAt l i ^^^ m) k] rfl rfl (one_cell _ _ _) (by simp [bF, Value.oneCell']) (by unfold maxLen; omega) (by omega) (by have := qB.size; simp; omega) ?_; intro v' w1 hown' hg1 _)
        go_roundw
        case rel =>
          refine ⟨k + 1, by omega, by go_num, ?_, (qB.alloc qB.size _).grown hg1 (by have := qB.size; simp; omega) (fun g e => (hown.lt g e).1)⟩
          rw [List.range_succ, List.map_append]
          exact hown'
        case measure => simp [intOf]; omega
    · obtain rfl : k = 64 := by omega
      go_wp2
      go_ret
      refine ⟨_, rfl, qB, ?_⟩
      have e : (maskL (bAt l) m).map (fun b => Value.int .u8 (bN b)) = (List.range 64).map (bF fun i => bAt l i ^^^ m) := by
        unfold maskL; rw [List.map_map]; rfl
      show wr.ownsRow w.heap.size 5 1 _ (maskL (bAt l) m).length _
      rw [maskL_length, e]
      exact hown
end Go.Proofs.YtcfogkimjbgjgaaDoor
/- The reference's Number: a number's low bytes, so many, the highest first. -/
namespace Go.Proofs.YtcfogkimjbgjgaaDoor
open Go Go.RowKit
set_option maxRecDepth 8000
set_option linter.all false

/-- From place q on the bytes stand. -/
def lowTo (f : Nat → UInt8) (q p : Nat) : UInt8 := if q ≤ p then f p else 0
theorem lowTo_set (f : Nat → UInt8) (q p : Nat) (z : Int) (hz : z = bN (f q)) : (if p = q then Value.int .u8 z else bF (lowTo f (q + 1)) p) = bF (lowTo f q) p := by
  subst hz
  simp only [bF, lowTo]
  by_cases h : p = q
  · subst h; simp
  · by_cases h2 : q ≤ p
    · rw [if_neg h, if_pos (by omega), if_pos h2]
    · rw [if_neg h, if_neg (by omega), if_neg h2]
theorem hiB_low (n s q : Nat) (hq : q < s) : ((n / 2 ^ (8 * (s - (q + 1))) : Nat) : Int) % 256 = bN (hiB n s q) := by
  rw [hiB, bN, UInt8.toNat_ofNat', show s - (q + 1) = s - 1 - q by omega]
  omega
theorem div_next (n s q : Nat) (hq : q < s) : ((n / 2 ^ (8 * (s - (q + 1))) : Nat) : Int) / 256 = ((n / 2 ^ (8 * (s - q)) : Nat) : Int) := by
  rw [show 8 * (s - q) = 8 * (s - (q + 1)) + 8 by omega, Nat.pow_add, ← Nat.div_div_eq_div_mul]
  omega
set_option maxHeartbeats 1000000 in
theorem RNumber_any (n : Int) (s : Nat) (hs : 1 ≤ s) (hs2 : s ≤ 8) (w : World) :
    Cv 46 #[.int .i64 n, .int .i64 (s : Int)] w (svRdN w (hiL (wN n) s)) := by
  unfold Cv
  obtain ⟨i0, hi, hz0, hz1, hz2⟩ := info_parts info5
  have hmk : ∀ W : World, (Instr.makeSlice 28 (.int .i64 (s : Int)) (.int .i64 (s : Int))).run Tryd.prog W = .ok (.slice (some ⟨W.heap.size, 0, none⟩) s s) (W.alloc (.cells (rowA s (bF fun _ => 0)) 5)) := make_bytes i0 hi hz0 hz1 hz2 s (by omega)
  have hw : IntKind.u64.wrap n = (wN n : Int) := wN_eq n
  have hwl : wN n < 18446744073709551616 := by unfold wN; omega
  obtain ⟨M, hM⟩ : ∃ M, wN n = M := ⟨_, rfl⟩
  rw [hM] at hw hwl
  rw [hM]
  clear hi hz0 hz1 hz2 hM
  go_enter Tryd.func46, Tryd.ntmps46
  go_wp2
  clear hw
  have r0 := rowIs_box w 5 s (bF fun _ => 0)
  have hB : Below w.heap.size w (w.alloc (.cells (rowA s (bF fun _ => 0)) 5)) := (Below.refl _ w).alloc (Nat.le_refl _) _
  generalize w.alloc (.cells (rowA s (bF fun _ => 0)) 5) = W0 at r0 hB ⊢
  clear hmk
  go_loopw [6, 7] (fun u i wr => ∃ q : Nat, q ≤ s ∧ u = .int .u64 ((M / 2 ^ (8 * (s - q)) : Nat) : Int) ∧ i = .int .i64 ((q : Int) - 1) ∧ wr.rowIs w.heap.size 5 s (bF (lowTo (hiB M s) q)) ∧ Below w.heap.size w wr) (fun _ i _ => (intOf i + 1).toNat)
  case atStart => exact ⟨s, Nat.le_refl _, by simp, rfl, r0.congr fun p hp => by simp only [bF, lowTo]; rw [if_neg (by omega)], hB⟩
  case round =>
    obtain ⟨q, hq, rfl, rfl, q0, qB⟩ := hrel
    clear r0 hB
    cases q with
    | succ q =>
      rw [show ((q + 1 : Nat) : Int) - 1 = (q : Int) by omega]
      have hb1 := hiB_low M s q (by omega)
      have hb2 := div_next M s q (by omega)
      have hle : M / 2 ^ (8 * (s - (q + 1))) < 18446744073709551616 := Nat.lt_of_le_of_lt (Nat.div_le_self _ _) hwl
      generalize M / 2 ^ (8 * (s - (q + 1))) = m1 at hb1 hb2 hle
      generalize hm2 : M / 2 ^ (8 * (s - q)) = m2 at hb2
      have Hb1 := Lib.hid hb1
      have Hb2 := Lib.hid hb2
      have Hm2 := Lib.hid hm2
      clear hb1 hb2 hm2
      have c0 := q0.cell (i := q) (by omega)
      have f0 := q0.frozen q
      go_wp2
      go_roundw
      case rel =>
        refine ⟨q, by omega, ?_, by go_num, (q0.set q _).congr fun p _ => lowTo_set _ q p _ ?_, qB.setCell (by simp) _⟩
        · rw [Hm2.out, ← Hb2.out]
        · exact Hb1.out
      case measure => simp [intOf]
    | zero =>
      go_wp2
      go_ret
      refine ⟨_, rfl, qB, fun L hL => ?_⟩
      have := rd_row (L := L) q0 (fun hm => by have := hL _ hm; omega) (by omega)
      have e : (List.range s).map (lowTo (hiB M s) 0) = hiL M s := List.map_congr_left fun i hi => by simp [lowTo]
      rw [e] at this
      exact this
theorem RNumber_8 (n : Int) (w : World) : Cv 46 #[.int .i64 n, .int .i64 8] w (svRdN w (hiL (wN n) 8)) := RNumber_any n 8 (by omega) (by omega) w
theorem RNumber_4 (n : Int) (w : World) : Cv 46 #[.int .i64 n, .int .i64 4] w (svRdN w (hiL (wN n) 4)) := RNumber_any n 4 (by omega) (by omega) w
theorem RNumber_8s (n : Int) (w : World) : Cv 46 #[.int .i64 n, .int .i64 8] w (svRd (hiL (wN n) 8)) := Calls.mono (RNumber_8 n w) fun _ _ ⟨v, he, hN, h⟩ => ⟨v, he, hN, h [] (by simp)⟩
end Go.Proofs.YtcfogkimjbgjgaaDoor
/- The reference's Text: a domain's byte, and of each part how many bytes it has, and these. -/
namespace Go.Proofs.YtcfogkimjbgjgaaDoor
open Go Go.RowKit
set_option maxRecDepth 8000
set_option linter.all false
theorem cnt_flat (ls : List (List UInt8)) : ((ls.flatMap cntP).flatten).length = 4 * ls.length + ls.flatten.length := by
  induction ls with
  | nil => rfl
  | cons x ls ih => simp [cntP, hiL_length] at ih ⊢; omega
theorem take_flat (ls : List (List UInt8)) (k : Nat) : (ls.take k).flatten.length ≤ ls.flatten.length := by
  have h1 : ls.flatten = (ls.take k).flatten ++ (ls.drop k).flatten := by rw [← List.flatten_append, List.take_append_drop]
  have h2 := congrArg List.length h1
  rw [List.length_append] at h2
  omega
theorem tk (ls : List (List UInt8)) (k : Nat) (x : List UInt8) (h : ls[k]? = some x) : ls.take (k + 1) = ls.take k ++ [x] := by rw [List.take_add_one, h]; rfl
set_option maxHeartbeats 1000000 in
theorem RText_any (n : Int) (pv : Value) (ls : List (List UInt8)) (w : World) (hp : Parts w pv ls) (hlen : ls.length ≤ 1000) (htot : ls.flatten.length ≤ 100000) :
    Cv 58 #[.int .i64 n, pv] w (svOwn w (ofL n ls)) := by
  unfold Cv
  obtain ⟨ps, ⟨A, cap, rfl, hpc, hpm, hA, hR⟩, rfl⟩ := hp
  obtain ⟨ls, hls⟩ : ∃ ls, ls = ps.map (·.2) := ⟨_, rfl⟩
  rw [← hls] at hlen htot ⊢
  unfold maxLen at hpm
  obtain ⟨m, hm⟩ : ∃ m, m = ps.length := ⟨_, rfl⟩
  have hml : m = ls.length := by rw [hls, hm]; simp
  rw [← hm] at hpc
  have HA := Lib.hid (show 0 < m → ∃ b o, A = some ⟨b, o, none⟩ ∧ ∀ i x, ps[i]? = some x → w.cell? ⟨b, o + i, none⟩ = some x.1 from fun h => by
    obtain ⟨b, o, h1, _, h2⟩ := hA (by omega)
    exact ⟨b, o, h1, h2⟩)
  have HR := Lib.hid hR
  have Hls := Lib.hid hls
  have Hml := Lib.hid hml
  have hm1 : m ≤ 1000 := by omega
  have hdb := dB_eq n
  rw [← hm]
  have Hm := Lib.hid hm
  clear hA hR hls hml hm
  go_enter Tryd.func58, Tryd.ntmps58
  go_wp2
  clear hdb
  have o0 := own_one (dB n) w
  have hB : Below w.heap.size w (w.alloc (.cells #[.int .u8 (bN (dB n))] 5)) := (Below.refl _ w).alloc (Nat.le_refl _) _
  generalize w.alloc (.cells #[.int .u8 (bN (dB n))] 5) = W0 at o0 hB ⊢
  go_loopw [5, 6] (fun v i wr => ∃ k : Nat, k ≤ m ∧ i = .int .i64 k ∧ (svOwn w (ofL n (ls.take k))).pred v wr ∧ Below w.heap.size w wr) (fun _ i _ => m - (intOf i).toNat)
  case atStart => exact ⟨0, by omega, rfl, by simpa [ofL] using o0, hB⟩
  case round =>
    obtain ⟨k, hk, rfl, hown, qB⟩ := hrel
    clear o0 hB
    by_cases hlt : k < m
    · obtain ⟨b, o, rfl, hcells⟩ := HA.out (by omega)
      have hkl : k < ps.length := by rw [← Hm.out]; exact hlt
      have hx : ps[k]? = some ps[k] := List.getElem?_eq_getElem hkl
      generalize ps[k] = x at hx
      have hlt0 : b < w.heap.size := World.block_lt_of_cell? _ _ (hcells k x hx)
      have hcell := (qB.cell (p := ⟨b, o + k, none⟩) hlt0).trans (hcells k x hx)
      have hrd0 := HR.out x (List.mem_of_getElem? hx)
      have hlx : ls[k]? = some x.2 := by rw [Hls.out, List.getElem?_map, hx]; rfl
      have htk := tk ls k x.2 hlx
      have hle1 := take_flat ls (k + 1)
      have hle2 : (ls.take (k + 1)).length ≤ 1000 := by rw [List.length_take]; omega
      have hol := ofL_length n (ls.take (k + 1))
      have Hof : Hid (ofL n (ls.take (k + 1)) = ofL n (ls.take k) ++ hiL x.2.length 4 ++ x.2) := Lib.hid (by
        rw [htk]; simp [ofL, cntP])
      rw [Hof.out, List.length_append, List.length_append, hiL_length] at hol
      obtain ⟨A', c', hv', hlc, hcm, hr0⟩ := hrd0
      have Hrd : Hid (RdV w [] (.slice A' x.2.length c') x.2) := Lib.hid ⟨A', c', rfl, hlc, hcm, hr0⟩
      rw [hv'] at hcell
      have hwn : wN (x.2.length : Int) = x.2.length := wN_nat _ (by unfold maxLen at hcm; omega)
      have hxl : (ofL n (ls.take k)).length + 4 + x.2.length ≤ 900000 := by omega
      clear hol hkl hx hcells hr0 hv' hlx htk hle1 hle2 hlc hcm
      have hnum := RNumber_4 (x.2.length : Int) wr
      rw [hwn] at hnum
      have Hnum := Lib.hid hnum
      clear hnum hwn
      go_upto_region 5 with fail
      refine wp_region_lit ?_
      iterate 6 (refine wpList_plain rfl (fun K hK => ?_); go_simp; refine hK _ _ ?_; clear hK K)
      refine wpList_plain rfl (fun K hK => ?_)
      refine opr_cv Hnum.out rfl Tryd.func46 (by kernel_rfl) (by kernel_rfl) (by simp only [List.map_toArray, List.map_cons, List.map_nil]; rfl) ?_
      intro v22 wa hNa h22
      refine hK _ _ ?_
      clear hK K Hnum
      have owna := (svOwn w (ofL n (ls.take k))).stable _ _ _ hown hNa
      have hBa := qB.trans (hNa.out.mono qB.size)
      obtain ⟨v23, wb, hrun, ownb, _, hBb⟩ := run_append_two owna hBa.size (h22 [] (by simp)) (by rw [hiL_length]; omega) 28
      have hBB := hBa.trans hBb
      have hcellb := (hBb.cell (p := ⟨b, o + k, none⟩) hlt0).trans ((hNa.out.cell (p := ⟨b, o + k, none⟩) (Nat.lt_of_lt_of_le hlt0 qB.size)).trans hcell)
      clear owna hBa h22 hown hcell hNa hBb
      refine wpList_plain rfl (fun K hK => ?_)
      refine opr_append rfl rfl rfl hrun (hK _ _ ?_)
      clear hrun hK K
      refine wpList_plain rfl (fun K hK => ?_)
      refine opr_move (.inr rfl) (hK _ _ ?_)
      clear hK K
      refine wpList_nil ?_
      go_simp
      obtain ⟨v29, wc, hrun, ownc, _, hBc⟩ := run_append_two ownb hBB.size (Hrd.out.keep (KeepBut.below hBB)) (by rw [List.length_append, hiL_length]; omega) 28
      have Hown := Lib.hid ownc
      have HBc := Lib.hid (hBB.trans hBc)
      clear ownb ownc hBc
      go_upto_region 6 with fail
      refine wp_region_lit ?_
      iterate 5 (refine wpList_plain rfl (fun K hK => ?_); go_simp; refine hK _ _ ?_; clear hK K)
      refine wpList_plain rfl (fun K hK => ?_)
      refine opr_append rfl rfl rfl hrun (hK _ _ ?_)
      clear hrun hK K
      refine wpList_plain rfl (fun K hK => ?_)
      refine opr_move (.inr rfl) (hK _ _ ?_)
      clear hK K
      refine wpList_nil ?_
      go_simp
      go_wp2
      go_roundw
      case rel => exact ⟨k + 1, by omega, by go_num, by rw [Hof.out]; exact Hown.out, HBc.out⟩
      case measure => simp [intOf]; omega
    · obtain rfl : k = m := by omega
      go_wp2
      go_ret
      refine ⟨_, rfl, qB, ?_⟩
      rw [Hml.out, List.take_length] at hown
      exact hown
theorem RText_cv (n : Int) (pv : Value) (ls : List (List UInt8)) (w : World) (hp : Parts w pv ls) (hlen : ls.length ≤ 1000) (htot : ls.flatten.length ≤ 100000) :
    Cv 58 #[.int .i64 n, pv] w (svRd (ofL n ls)) :=
  Calls.mono (RText_any n pv ls w hp hlen htot) fun _ _ ⟨v, he, hN, h⟩ => ⟨v, he, hN, rdV_own h rfl (by simp)⟩
end Go.Proofs.YtcfogkimjbgjgaaDoor
/- The reference's Turn. -/
namespace Go.Proofs.YtcfogkimjbgjgaaDoor
open Go.RowKit
set_option maxRecDepth 8000
set_option linter.all false
/-- Numbers of 32 bits in cells of 64. -/
def vF (s : Nat → BitVec 32) : Nat → Value := fun i => .int .u64 (uN (s i))
theorem vF_at (s : Nat → BitVec 32) (i : Nat) : vF s i = .int .u64 (uN (s i)) := rfl
theorem wS_final (l : List UInt8) (n i : Nat) (h : i < 16 + n) (hn : n ≤ 48) : wS l 48 i = wS l n i := by
  obtain ⟨k, hk⟩ : ∃ k, 48 = n + k := ⟨48 - n, by omega⟩
  rw [hk]
  clear hk hn
  induction k with
  | zero => rfl
  | succ k ih => rw [← Nat.add_assoc, wS_old l (n + k) i (by omega), ih]
theorem wS_first (l : List UInt8) (i : Nat) (h : i < 16) : wS l 48 i = wordTo l i 4 := by
  rw [wS_final l 0 i (by omega) (by omega)]; simp [wS, schedL, h]
theorem wS_rec (l : List UInt8) (t : Nat) (h1 : 16 ≤ t) (h2 : t < 64) : wS l 48 t = ss1 (wS l 48 (t - 2)) + wS l 48 (t - 7) + ss0 (wS l 48 (t - 15)) + wS l 48 (t - 16) := by
  obtain ⟨n, rfl⟩ : ∃ n, t = 16 + n := ⟨t - 16, by omega⟩
  rw [wS_final l (n + 1) (16 + n) (by omega) (by omega), wS_new, show 16 + n - 2 = n + 14 by omega, show 16 + n - 7 = n + 9 by omega, show 16 + n - 15 = n + 1 by omega, show 16 + n - 16 = n by omega,
    wS_final l n (n + 14) (by omega) (by omega), wS_final l n (n + 9) (by omega) (by omega), wS_final l n (n + 1) (by omega) (by omega), wS_final l n n (by omega) (by omega)]
theorem word_step (x : BitVec 32) (b : UInt8) (hx : x.toNat < 16777216) : (x <<< 8 ||| b.toBitVec.setWidth 32).toNat = x.toNat * 256 + b.toNat := by
  have hb := b.toNat_lt
  have e1 : (x <<< 8).toNat = x.toNat <<< 8 := by rw [BitVec.toNat_shiftLeft, Nat.mod_eq_of_lt]; rw [Nat.shiftLeft_eq]; omega
  have e2 : (b.toBitVec.setWidth 32).toNat = b.toNat := by rw [BitVec.toNat_setWidth]; show b.toNat % _ = _; omega
  rw [BitVec.toNat_or, e1, e2, ← Nat.shiftLeft_add_eq_or_of_lt (by omega), Nat.shiftLeft_eq]
theorem word_num (l : List UInt8) (t : Nat) : uN (wordTo l t 4) = ((bN (bAt l (4 * t)) * 256 + bN (bAt l (4 * t + 1))) * 256 + bN (bAt l (4 * t + 2))) * 256 + bN (bAt l (4 * t + 3)) := by
  have h0 := (bAt l (4 * t)).toNat_lt
  have h1 := (bAt l (4 * t + 1)).toNat_lt
  have h2 := (bAt l (4 * t + 2)).toNat_lt
  have h3 := (bAt l (4 * t + 3)).toNat_lt
  have e1 : (wordTo l t 1).toNat = (bAt l (4 * t)).toNat := by simp [wordTo]
  have e2 : (wordTo l t 2).toNat = (wordTo l t 1).toNat * 256 + (bAt l (4 * t + 1)).toNat := word_step (wordTo l t 1) _ (by omega)
  have e3 : (wordTo l t 3).toNat = (wordTo l t 2).toNat * 256 + (bAt l (4 * t + 2)).toNat := word_step (wordTo l t 2) _ (by omega)
  have e4 : (wordTo l t 4).toNat = (wordTo l t 3).toNat * 256 + (bAt l (4 * t + 3)).toNat := word_step (wordTo l t 3) _ (by omega)
  unfold uN bN
  omega
/-- The first t numbers of a list, the others 0. -/
def cutT (s : Nat → BitVec 32) (t : Nat) : Nat → BitVec 32 := fun i => if i < t then s i else 0
theorem cutT_at (s : Nat → BitVec 32) (t i : Nat) (h : i < t) : cutT s t i = s i := if_pos h
theorem cutT_set (s : Nat → BitVec 32) (t : Nat) (z : Int) (hz : z = uN (s t)) (i : Nat) : (if i = t then Value.int .u64 z else vF (cutT s t) i) = vF (cutT s (t + 1)) i := by
  subst hz
  simp only [vF, cutT]
  by_cases h : i = t
  · subst h; simp
  · by_cases h2 : i < t
    · rw [if_neg h, if_pos h2, if_pos (by omega)]
    · rw [if_neg h, if_neg h2, if_neg (by omega)]
theorem rowIs_zeros64 (s : Nat → BitVec 32) (w : World) (t : TypeId) (n : Nat) : (w.alloc (.cells (Array.replicate n (.int .u64 0)) t)).rowIs w.heap.size t n (vF (cutT s 0)) := by
  have := World.rowIs_alloc w (Array.replicate n (.int .u64 0)) t (vF (cutT s 0)) (fun i hi => by simp at hi; simp [vF, cutT, hi, uN])
  simpa using this
theorem info47 : (Tryd.prog.info? 111).map (·.size) = some 8 := by kernel_rfl
theorem wrap32_uN (x : BitVec 32) : IntKind.u32.wrap (uN x) = uN x := wrap_uN x

attribute [local go_sem] uF_at
set_option maxRecDepth 20000 in
set_option maxHeartbeats 1000000 in
theorem RTurn_no (s : Nat → BitVec 32) (A : Option Addr) (n cap : Nat) (hn : n ≠ 64) (w : World) :
    Calls Tryd.prog 74 #[.agg (rowA 8 (uF s)), .slice A n cap] w fun e w' => e = .returned (.agg (rowA 8 (uF s))) ∧ Below w.heap.size w w' := by
  have hn2 : ((n : Int) == 64) = false := by simp; omega
  have r0 := (rowIs_box w 98 8 (uF s)).alloc (.cells (rowA 8 fun _ => .int .u32 0) 98)
  have r1 := rowIs_box (w.alloc (.cells (rowA 8 (uF s)) 98)) 98 8 fun _ => .int .u32 0
  have hB : Below w.heap.size w ((w.alloc (.cells (rowA 8 (uF s)) 98)).alloc (.cells (rowA 8 fun _ => .int .u32 0) 98)) :=
    ((Below.refl _ w).alloc (Nat.le_refl _) _).alloc (by simp) _
  rw [World.size_alloc] at r1
  have hR := rangeAt_row r0
  go_enter Tryd.func74, Tryd.ntmps74
  go_wp2_with (first
    | (refine wpList_load_mid rfl 98 (.tmp 2) rfl w.heap.size 0 rfl (rowA 8 (uF s)).toList _ hR Tryd.underlying98 rfl (by rw [rowA_toList]; simpa using info23) ?_)
    | (refine wpList_store_mid rfl 98 (.tmp 4) (.tmp 22) rfl (w.heap.size + 1) 0 (rowA 8 (uF s)) rfl rfl (by rw [rowA_size]; exact there_row r1) (by rw [rowA_size]; exact info23) (rowA_one _ _ fun _ => rfl) ?_))
  exact bodyPost_ret (results_row rfl _ rfl (rowIs_setAll r1 (uF s)) Tryd.underlying98 info23) rfl ⟨rfl, below_setCells _ (by omega) _ _ _ hB⟩
attribute [local go_sem] vF_at wrap64_uN wrap32_uN u64_xor u64_and u64_not u64_add2 u64_add3 u64_add4 u64_add5 mod_t2 mod_t4 mod_t5 tmod_t2 tmod_t4 tmod_t5
def RT1 (s : Nat → BitVec 32) (l : List UInt8) (w : World) (t : Nat) (wr : World) : Prop :=
  wr.rowIs w.heap.size 98 8 (uF s) ∧ wr.rowIs (w.heap.size + 1) 98 8 (fun _ => .int .u32 0) ∧ wr.rowIs (w.heap.size + 1 + 1) 109 64 (vF (cutT (wS l 48) t)) ∧ Below w.heap.size w wr
set_option maxRecDepth 20000 in
set_option maxHeartbeats 4000000 in
theorem RTurn_any (K s : Nat → BitVec 32) (l : List UInt8) (b o cap : Nat) (_ : 64 ≤ cap) (_ : cap ≤ maxLen) (w : World) (hb : b < w.heap.size) (h1 : 1 < w.heap.size)
    (hK : ∀ i, i < 64 → w.cell? ⟨1, i, none⟩ = some (.int .u32 (uN (K i))))
    (hc : ∀ i, i < 64 → w.cell? ⟨b, o + i, none⟩ = some (.int .u8 (bN (bAt l i)))) :
    Calls Tryd.prog 74 #[.agg (rowA 8 (uF s)), .slice (some ⟨b, o, none⟩) 64 cap] w fun e w' => e = .returned (.agg (rowA 8 (uF fun i => s i + (runTo K (wS l 48) (St.of s) 64).get i))) ∧ Below w.heap.size w w' := by
  have HK := Lib.hid hK
  have HC := Lib.hid hc
  clear hK hc
  go_enter Tryd.func74, Tryd.ntmps74
  go_wp2
  have r0 := ((rowIs_box w 98 8 (uF s)).alloc (.cells (rowA 8 fun _ => .int .u32 0) 98)).alloc (.cells (Array.replicate 64 (.int .u64 0)) 109)
  have r1 := (rowIs_box (w.alloc (.cells (rowA 8 (uF s)) 98)) 98 8 fun _ => .int .u32 0).alloc (.cells (Array.replicate 64 (.int .u64 0)) 109)
  have r2 := rowIs_zeros64 (wS l 48) ((w.alloc (.cells (rowA 8 (uF s)) 98)).alloc (.cells (rowA 8 fun _ => .int .u32 0) 98)) 109 64
  have hB : Below w.heap.size w (((w.alloc (.cells (rowA 8 (uF s)) 98)).alloc (.cells (rowA 8 fun _ => .int .u32 0) 98)).alloc (.cells (Array.replicate 64 (.int .u64 0)) 109)) :=
    (((Below.refl _ w).alloc (Nat.le_refl _) _).alloc (by simp) _).alloc (by simp; omega) _
  rw [World.size_alloc] at r1 r2
  rw [World.size_alloc] at r2
  change Code.wp _ _ _ _ (((w.alloc (.cells (rowA 8 (uF s)) 98)).alloc (.cells (rowA 8 fun _ => .int .u32 0) 98)).alloc (.cells (Array.replicate 64 (.int .u64 0)) 109))
  generalize (((w.alloc (.cells (rowA 8 (uF s)) 98)).alloc (.cells (rowA 8 fun _ => .int .u32 0) 98)).alloc (.cells (Array.replicate 64 (.int .u64 0)) 109)) = W0 at r0 r1 r2 hB ⊢
  go_loopw [6] (fun i wr => ∃ t : Nat, t ≤ 64 ∧ i = .int .i64 t ∧ RT1 s l w t wr) (fun i _ => 64 - (intOf i).toNat)
  case atStart => exact ⟨0, by omega, rfl, r0, r1, r2, hB⟩
  case round =>
    obtain ⟨t, ht, rfl, q0, q1, q2, qB⟩ := hrel
    clear r0 r1 r2 hB
    by_cases hlt : t < 64
    · by_cases h16 : t < 16
      · have e0 : wr.cell? ⟨b, o + 4 * t, none⟩ = _ := (qB.cell (p := ⟨b, o + (4 * t), none⟩) hb).trans (HC.out (4 * t) (by omega))
        have e1 : wr.cell? ⟨b, o + (4 * t + 1), none⟩ = _ := (qB.cell (p := ⟨b, o + (4 * t + 1), none⟩) hb).trans (HC.out (4 * t + 1) (by omega))
        have e2 : wr.cell? ⟨b, o + (4 * t + 2), none⟩ = _ := (qB.cell (p := ⟨b, o + (4 * t + 2), none⟩) hb).trans (HC.out (4 * t + 2) (by omega))
        have e3 : wr.cell? ⟨b, o + (4 * t + 3), none⟩ = _ := (qB.cell (p := ⟨b, o + (4 * t + 3), none⟩) hb).trans (HC.out (4 * t + 3) (by omega))
        have hz := word_num l t
        obtain ⟨z0, y0, x0⟩ : ∃ z : Nat, z < 256 ∧ bN (bAt l (4 * t)) = (z : Int) := ⟨(bAt l (4 * t)).toNat, UInt8.toNat_lt _, rfl⟩
        obtain ⟨z1, y1, x1⟩ : ∃ z : Nat, z < 256 ∧ bN (bAt l (4 * t + 1)) = (z : Int) := ⟨(bAt l (4 * t + 1)).toNat, UInt8.toNat_lt _, rfl⟩
        obtain ⟨z2, y2, x2⟩ : ∃ z : Nat, z < 256 ∧ bN (bAt l (4 * t + 2)) = (z : Int) := ⟨(bAt l (4 * t + 2)).toNat, UInt8.toNat_lt _, rfl⟩
        obtain ⟨z3, y3, x3⟩ : ∃ z : Nat, z < 256 ∧ bN (bAt l (4 * t + 3)) = (z : Int) := ⟨(bAt l (4 * t + 3)).toNat, UInt8.toNat_lt _, rfl⟩
        rw [x0] at e0 hz
        rw [x1] at e1 hz
        rw [x2] at e2 hz
        rw [x3] at e3 hz
        clear x0 x1 x2 x3
        have Hz := Lib.hid hz
        clear hz
        have j0 : (0 : Int) ≤ 4 * (t : Int) := by omega
        have j1 : (0 : Int) ≤ 4 * (t : Int) + 1 := by omega
        have j2 : (0 : Int) ≤ 4 * (t : Int) + 2 := by omega
        have j3 : (0 : Int) ≤ 4 * (t : Int) + 3 := by omega
        have i0 : 4 * (t : Int) < 64 := by omega
        have i1 : 4 * (t : Int) + 1 < 64 := by omega
        have i2 : 4 * (t : Int) + 2 < 64 := by omega
        have i3 : 4 * (t : Int) + 3 < 64 := by omega
        have it : (t : Int) < 64 := by omega
        have it2 : (t : Int) < 16 := by omega
        have ct := q2.cell (i := t) hlt
        have cf := q2.frozen t
        go_wp2
        refine wp_region_still_tail 35 (by kernel_rfl) (by kernel_rfl) ?_
        simp only [List.take_succ_cons, List.take_zero, List.drop_succ_cons, List.drop_zero]
        repeat (refine wpStill_step (fun K hK => ?_); go_simp; (try go_bits); refine hK _ ?_; clear hK K)
        refine wpStill_nil ?_
        go_wp2
        go_roundw
        case rel => exact ⟨t + 1, by omega, by go_num, q0.drew.setOther (by simp; omega) _, q1.drew.setOther (by simp) _, (q2.drew.set t _).congr fun i _ => cutT_set (wS l 48) t _ (by rw [wS_first l t h16, Hz.out]) i, (qB.setCell (p := ⟨w.heap.size + 1 + 1, t, none⟩) (by simp; omega) _).drew⟩
        case measure => simp [intOf]; omega
      · have c2 := q2.cell (i := t - 2) (by omega)
        have c7 := q2.cell (i := t - 7) (by omega)
        have c15 := q2.cell (i := t - 15) (by omega)
        have c16 := q2.cell (i := t - 16) (by omega)
        rw [vF_at, cutT_at _ _ _ (by omega)] at c2 c7 c15 c16
        have ct := q2.cell (i := t) hlt
        have cf := q2.frozen t
        have hz := wS_rec l t (by omega) hlt
        have Hz := Lib.hid hz
        clear hz
        generalize wS l 48 (t - 2) = y2 at c2 Hz
        generalize wS l 48 (t - 7) = y7 at c7 Hz
        generalize wS l 48 (t - 15) = y15 at c15 Hz
        generalize wS l 48 (t - 16) = y16 at c16 Hz
        have i2 : (2 : Int) ≤ t := by omega
        have j2 : (t : Int) - 2 < 64 := by omega
        have i7 : (7 : Int) ≤ t := by omega
        have j7 : (t : Int) - 7 < 64 := by omega
        have i15 : (15 : Int) ≤ t := by omega
        have j15 : (t : Int) - 15 < 64 := by omega
        have i16 : (16 : Int) ≤ t := by omega
        have j16 : (t : Int) - 16 < 64 := by omega
        have it : (t : Int) < 64 := by omega
        have it2 : ¬ (t : Int) < 16 := by omega
        go_wp2
        refine wp_region_still_lit (by kernel_rfl) (by kernel_rfl) ?_
        repeat (refine wpStill_step (fun K hK => ?_); go_simp; (try go_bits); refine hK _ ?_; clear hK K)
        refine wpStill_nil ?_
        go_wp2
        change Code.wp _ _ _ _ wr.drew
        replace q0 := q0.drew
        replace q1 := q1.drew
        replace q2 := q2.drew
        replace qB := qB.drew
        replace c2 := cell_drew c2
        replace c7 := cell_drew c7
        replace c15 := cell_drew c15
        replace c16 := cell_drew c16
        replace ct := cell_drew ct
        replace cf : wr.drew.frozen? ⟨w.heap.size + 1 + 1, t, none⟩ = false := cf
        generalize wr.drew = wr2 at q0 q1 q2 qB c2 c7 c15 c16 ct cf ⊢
        refine wp_region_still_tail 30 (by kernel_rfl) (by kernel_rfl) ?_
        simp only [List.take_succ_cons, List.take_zero, List.drop_succ_cons, List.drop_zero]
        repeat (refine wpStill_step (fun K hK => ?_); go_simp; (first
          | (refine ⟨_, ((right_any _ _ (by decide) (by decide) _).mono fun _ _ h => ⟨h.1, h.2.symm⟩), hK _ ?_⟩)
          | (refine ⟨_, ((shift_any _ _ (by decide) (by decide) _).mono fun _ _ h => ⟨h.1, h.2.symm⟩), hK _ ?_⟩)
          | ((try go_bits); refine hK _ ?_)); clear hK K)
        refine wpStill_nil ?_
        go_wp2
        go_roundw
        case rel => exact ⟨t + 1, by omega, by go_num, q0.drew.setOther (by simp; omega) _, q1.drew.setOther (by simp) _, (q2.drew.set t _).congr fun i _ => cutT_set (wS l 48) t _ (by rw [Hz.out]; rfl) i, (qB.setCell (p := ⟨w.heap.size + 1 + 1, t, none⟩) (by simp; omega) _).drew⟩
        case measure => simp [intOf]; omega
    · obtain rfl : t = 64 := by omega
      rw [show ((64 : Nat) : Int) = 64 from rfl]
      have hgB : w.heap.size + 1 + 1 < wr.heap.size := q2.lt
      have q3 := rowIs_zeros64 s wr 111 8
      replace q0 := q0.alloc (.cells (Array.replicate 8 (.int .u64 0)) 111)
      replace q1 := q1.alloc (.cells (Array.replicate 8 (.int .u64 0)) 111)
      replace q2 := q2.alloc (.cells (Array.replicate 8 (.int .u64 0)) 111)
      replace q2 := q2.congr (g := vF (wS l 48)) fun i hi => by rw [vF_at, vF_at, cutT_at _ _ _ hi]
      have qB2 := qB.alloc qB.size (.cells (Array.replicate 8 (.int .u64 0)) 111)
      go_wp2
      change Code.wp _ _ _ _ (wr.alloc (.cells (Array.replicate 8 (.int .u64 0)) 111))
      generalize wr.heap.size = g at hgB q3 ⊢
      generalize wr.alloc (.cells (Array.replicate 8 (.int .u64 0)) 111) = W1 at q0 q1 q2 q3 qB2 ⊢
      clear qB
      go_loopw [10] (fun i wr => ∃ t : Nat, t ≤ 8 ∧ i = .int .i64 t ∧ wr.rowIs w.heap.size 98 8 (uF s) ∧ wr.rowIs (w.heap.size + 1) 98 8 (fun _ => .int .u32 0) ∧ wr.rowIs (w.heap.size + 1 + 1) 109 64 (vF (wS l 48)) ∧ wr.rowIs g 111 8 (vF (cutT s t)) ∧ Below w.heap.size w wr) (fun i _ => 8 - (intOf i).toNat)
      case atStart => exact ⟨0, by omega, rfl, q0, q1, q2, q3, qB2⟩
      case round =>
        clear q0 q1 q2 q3 qB2
        obtain ⟨t, ht, rfl, q0, q1, q2, q3, qB⟩ := hrel
        by_cases hlt : t < 8
        · have c0 := q0.cell (i := t) hlt
          have c3 := q3.cell (i := t) hlt
          have f3 := q3.frozen t
          have it : (t : Int) < 8 := by omega
          go_wp2
          go_roundw
          case rel => exact ⟨t + 1, by omega, by go_num, q0.setOther (by simp; omega) _, q1.setOther (by simp; omega) _, q2.setOther (by simp; omega) _, (q3.set t _).congr fun i _ => cutT_set s t _ rfl i, (qB.setCell (p := ⟨g, t, none⟩) (by simp; omega) _)⟩
          case measure => simp [intOf]; omega
        · obtain rfl : t = 8 := by omega
          rw [show ((8 : Nat) : Int) = 8 from rfl]
          replace q3 := q3.congr (g := vF (St.of s).get) fun i hi => by
            rw [vF_at, vF_at, cutT_at _ _ _ hi]
            match i, hi with
            | 0, _ => rfl | 1, _ => rfl | 2, _ => rfl | 3, _ => rfl | 4, _ => rfl | 5, _ => rfl | 6, _ => rfl | 7, _ => rfl
          go_wp2
          rename_i wr1
          generalize wr = W2 at q0 q1 q2 q3 qB ⊢
          go_loopw [11] (fun i wr => ∃ (t : Nat) (x : St), t ≤ 64 ∧ i = .int .i64 t ∧ Hid (x = runTo K (wS l 48) (St.of s) t) ∧ wr.rowIs w.heap.size 98 8 (uF s) ∧ wr.rowIs (w.heap.size + 1) 98 8 (fun _ => .int .u32 0) ∧ wr.rowIs (w.heap.size + 1 + 1) 109 64 (vF (wS l 48)) ∧ wr.rowIs g 111 8 (vF x.get) ∧ Below w.heap.size w wr) (fun i _ => 64 - (intOf i).toNat)
          case atStart => exact ⟨0, St.of s, by omega, rfl, rfl, q0, q1, q2, q3, qB⟩
          case round =>
            clear q0 q1 q2 q3 qB
            obtain ⟨t, x, ht, rfl, hx, q0, q1, q2, q3, qB⟩ := hrel
            by_cases hlt : t < 64
            · have cK := (qB.cell (p := ⟨1, t, none⟩) h1).trans (HK.out t hlt)
              have cW := q2.cell (i := t) hlt
              rw [vF_at] at cW
              obtain ⟨Wt, HWt⟩ : ∃ Wt, Hid (wS l 48 t = Wt) := ⟨_, Lib.hid rfl⟩
              rw [HWt.out] at cW
              have it : (t : Int) < 64 := by omega
              have c0 : wr.cell? ⟨g, 0, none⟩ = some (.int .u64 (uN x.a)) := q3.cell (i := 0) (by omega)
              have c1 : wr.cell? ⟨g, 1, none⟩ = some (.int .u64 (uN x.b)) := q3.cell (i := 1) (by omega)
              have c2 : wr.cell? ⟨g, 2, none⟩ = some (.int .u64 (uN x.c)) := q3.cell (i := 2) (by omega)
              have c3 : wr.cell? ⟨g, 3, none⟩ = some (.int .u64 (uN x.d)) := q3.cell (i := 3) (by omega)
              have c4 : wr.cell? ⟨g, 4, none⟩ = some (.int .u64 (uN x.e)) := q3.cell (i := 4) (by omega)
              have c5 : wr.cell? ⟨g, 5, none⟩ = some (.int .u64 (uN x.f)) := q3.cell (i := 5) (by omega)
              have c6 : wr.cell? ⟨g, 6, none⟩ = some (.int .u64 (uN x.g)) := q3.cell (i := 6) (by omega)
              have c7 : wr.cell? ⟨g, 7, none⟩ = some (.int .u64 (uN x.h)) := q3.cell (i := 7) (by omega)
              go_wp2
              refine wp_region_still_lit (by kernel_rfl) (by kernel_rfl) ?_
              repeat (refine wpStill_step (fun K hK => ?_); go_simp; (try go_bits); refine hK _ ?_; clear hK K)
              refine wpStill_nil ?_
              go_wp2_with fail
              change Code.wp _ _ _ _ wr.drew
              replace q0 := q0.drew
              replace q1 := q1.drew
              replace q2 := q2.drew
              replace q3 := q3.drew
              replace qB := qB.drew
              replace cK := cell_drew cK
              replace cW := cell_drew cW
              replace c0 := cell_drew c0
              replace c1 := cell_drew c1
              replace c2 := cell_drew c2
              replace c3 := cell_drew c3
              replace c4 := cell_drew c4
              replace c5 := cell_drew c5
              replace c6 := cell_drew c6
              replace c7 := cell_drew c7
              generalize wr.drew = wr2 at q0 q1 q2 q3 qB cK cW c0 c1 c2 c3 c4 c5 c6 c7 ⊢
              refine wp_region_still_lit (by kernel_rfl) (by kernel_rfl) ?_
              repeat (refine wpStill_step (fun K hK => ?_); go_simp; (first
                | (refine ⟨_, ((right_any _ _ (by decide) (by decide) _).mono fun _ _ h => ⟨h.1, h.2.symm⟩), hK _ ?_⟩)
                | ((try go_bits); refine hK _ ?_)); clear hK K)
              refine wpStill_nil ?_
              change Exit.then _ _ _ _ wr2.drew
              replace q0 := q0.drew
              replace q1 := q1.drew
              replace q2 := q2.drew
              replace q3 := q3.drew
              replace qB := qB.drew
              replace c0 := cell_drew c0
              replace c1 := cell_drew c1
              replace c2 := cell_drew c2
              replace c3 := cell_drew c3
              replace c4 := cell_drew c4
              replace c5 := cell_drew c5
              replace c6 := cell_drew c6
              replace c7 := cell_drew c7
              clear cK cW
              generalize wr2.drew = wr3 at q0 q1 q2 q3 qB c0 c1 c2 c3 c4 c5 c6 c7 ⊢
              obtain ⟨o1, Ho1⟩ : ∃ o1, Hid (x.h + (x.e.rotateRight 6 ^^^ x.e.rotateRight 11 ^^^ x.e.rotateRight 25) + (x.e &&& x.f ^^^ ~~~x.e &&& x.g) + K t + Wt = o1) := ⟨_, Lib.hid rfl⟩
              obtain ⟨m1, Hm1⟩ : ∃ m1, Hid (x.a &&& x.b ^^^ x.a &&& x.c ^^^ x.b &&& x.c = m1) := ⟨_, Lib.hid rfl⟩
              rw [Ho1.out, Hm1.out]
              go_wp2_with fail
              refine (right_any _ _ (by decide) (by decide) _).mono ?_
              rintro e w' ⟨rfl, rfl⟩
              go_wp2_with fail
              refine (right_any _ _ (by decide) (by decide) _).mono ?_
              rintro e w' ⟨rfl, rfl⟩
              go_wp2_with fail
              refine (right_any _ _ (by decide) (by decide) _).mono ?_
              rintro e w' ⟨rfl, rfl⟩
              go_upto_region 24 with fail
              obtain ⟨o2, Ho2⟩ : ∃ o2, Hid ((x.a.rotateRight (2 : Int).toNat ^^^ x.a.rotateRight (13 : Int).toNat ^^^ x.a.rotateRight (22 : Int).toNat) + m1 = o2) := ⟨_, Lib.hid rfl⟩
              first | rw [Ho2.out] | (simp only [Int.reduceToNat] at Ho2; rw [Ho2.out])
              refine wp_region_lit ?_
              iterate 22 (refine wpList_plain rfl (fun K hK => ?_); go_simp; (try go_bits); refine hK _ _ ?_; clear hK K)
              have hth := there_row q3
              refine wpList_store_mid rfl 111 (.tmp 9) (.tmp 200) rfl g 0 #[.int .u64 (uN (o1 + o2)), .int .u64 (uN x.a), .int .u64 (uN x.b), .int .u64 (uN x.c), .int .u64 (uN (x.d + o1)), .int .u64 (uN x.e), .int .u64 (uN x.f), .int .u64 (uN x.g)] ?_ ?_ hth info47 ?_ ?_
              · go_simp
              · go_simp
              · simp [Value.oneCell']
              obtain ⟨nx, hnx⟩ : ∃ nx : St, nx = ⟨o1 + o2, x.a, x.b, x.c, x.d + o1, x.e, x.f, x.g⟩ := ⟨_, rfl⟩
              have hL : (#[.int .u64 (uN (o1 + o2)), .int .u64 (uN x.a), .int .u64 (uN x.b), .int .u64 (uN x.c), .int .u64 (uN (x.d + o1)), .int .u64 (uN x.e), .int .u64 (uN x.f), .int .u64 (uN x.g)] : Array Value).toList = (rowA 8 (vF nx.get)).toList := by rw [hnx]; rfl
              rw [hL]
              have Hnx : Hid (nx = runTo K (wS l 48) (St.of s) (t + 1)) := Lib.hid (by
                rw [runTo, ← hx.out, HWt.out, hnx, ← Ho1.out, ← Ho2.out, ← Hm1.out]; rfl)
              clear hL hnx Ho1 Ho2 Hm1 c0 c1 c2 c3 c4 c5 c6 c7 hth
              replace q0 := rowIs_setOther q0 (b' := g) (by omega) (rowA 8 (vF nx.get)).toList 0
              replace q1 := rowIs_setOther q1 (b' := g) (by omega) (rowA 8 (vF nx.get)).toList 0
              replace q2 := rowIs_setOther q2 (b' := g) (by omega) (rowA 8 (vF nx.get)).toList 0
              replace q3 := rowIs_setAll q3 (vF nx.get)
              replace qB := below_setCells g (by omega) (rowA 8 (vF nx.get)).toList 0 _ qB
              generalize wr3.setCells g 0 (rowA 8 (vF nx.get)).toList = wr4 at q0 q1 q2 q3 qB ⊢
              go_wp2
              go_roundw
              case rel => exact ⟨t + 1, nx, by omega, by go_num, Hnx, q0, q1, q2, q3, qB⟩
              case measure => simp [intOf]; omega
            · obtain rfl : t = 64 := by omega
              rw [show ((64 : Nat) : Int) = 64 from rfl]
              obtain ⟨T, HT2⟩ : ∃ T, Hid (x.get = T) := ⟨_, Lib.hid rfl⟩
              rw [HT2.out] at q3
              clear q2
              go_wp2
              generalize wr = W3 at q0 q1 q3 qB ⊢
              go_loopw [18] (fun i wr => ∃ k : Nat, k ≤ 8 ∧ i = .int .i64 k ∧ wr.rowIs w.heap.size 98 8 (uF (mixed s T k)) ∧ wr.rowIs (w.heap.size + 1) 98 8 (fun _ => .int .u32 0) ∧ wr.rowIs g 111 8 (vF T) ∧ Below w.heap.size w wr) (fun i _ => 8 - (intOf i).toNat)
              case atStart => exact ⟨0, by omega, rfl, q0, q1, q3, qB⟩
              case round =>
                clear q0 q1 q3 qB
                obtain ⟨k, hk, rfl, q0, q1, q3, qB⟩ := hrel
                by_cases hlt : k < 8
                · have c0 := q0.cell (i := k) (by omega)
                  rw [uF_at, show mixed s T k k = s k by simp [mixed]] at c0
                  have c3 := q3.cell (i := k) (by omega)
                  have f0 := q0.frozen k
                  have i8 : (k : Int) < 8 := by omega
                  go_wp2
                  refine wp_region_still_tail 12 (by kernel_rfl) (by kernel_rfl) ?_
                  simp only [List.take_succ_cons, List.take_zero, List.drop_succ_cons, List.drop_zero]
                  repeat (refine wpStill_step (fun K hK => ?_); go_simp; (try go_bits); refine hK _ ?_; clear hK K)
                  refine wpStill_nil ?_
                  go_wp2
                  go_roundw
                  case rel => exact ⟨k + 1, by omega, by go_num, ((q0.set k _).congr fun i _ => mixed_set s T k i), q1.setOther (by simp) _, q3.setOther (by simp; omega) _, (qB.setCell (p := ⟨w.heap.size, k, none⟩) (by simp) _).drew⟩
                  case measure => simp [intOf]; omega
                · obtain rfl : k = 8 := by omega
                  have hR := rangeAt_row q0
                  go_wp2_with (first
                    | (refine wpList_load_mid rfl 98 (.tmp 2) rfl w.heap.size 0 rfl (rowA 8 (uF (mixed s T 8))).toList _ hR Tryd.underlying98 rfl (by rw [rowA_toList]; simpa using info23) ?_)
                    | (refine wpList_store_mid rfl 98 (.tmp 4) (.tmp 217) rfl (w.heap.size + 1) 0 (rowA 8 (uF (mixed s T 8))) rfl rfl (by rw [rowA_size]; exact there_row q1) (by rw [rowA_size]; exact info23) (rowA_one _ _ fun _ => rfl) ?_))
                  refine bodyPost_ret (results_row rfl _ rfl (rowIs_setAll q1 (uF (mixed s T 8))) Tryd.underlying98 info23) rfl ⟨?_, below_setCells _ (by omega) _ _ _ qB⟩
                  rw [← hx.out, HT2.out]
                  exact congrArg (fun z => Ending.returned (.agg z)) (rowA_congr fun i hi => by simp [uF, mixed, hi])
end Go.Proofs.YtcfogkimjbgjgaaDoor
/- The reference's Fill. -/
namespace Go.Proofs.YtcfogkimjbgjgaaDoor
open Go.RowKit
set_option maxRecDepth 8000
set_option linter.all false
attribute [local go_sem] bF_at

theorem fillHead_pos (k : Nat) (h : 1 ≤ k) : bF fillHead k = .int .u8 0 := by
  simp [bF, fillHead, bN, show k ≠ 0 by omega]
theorem step_len (n k p : Nat) (hk : k < 8) (hn : n ≤ 1000000) (hp : p = 72057594037927936 / 256 ^ k) : ((n * 8 / p % 256 : Nat) : Int) = bN (lenByte n k) := by
  have e : 72057594037927936 / 256 ^ k = 2 ^ (56 - 8 * k) := by
    have : ∀ k : Fin 8, 72057594037927936 / 256 ^ k.val = 2 ^ (56 - 8 * k.val) := by decide
    exact this ⟨k, hk⟩
  rw [lenByte, bN, UInt8.toNat_ofNat', hp, e, Nat.mod_eq_of_lt (a := n * 8) (by omega)]

set_option maxHeartbeats 1000000 in
theorem RFill_r (n r : Nat) (hn : n ≤ 1000000) (hr1 : 1 ≤ r) (hr2 : r ≤ 64) (hr3 : (n + r) % 64 = 56) (hr4 : ∀ k, 1 ≤ k → k < r → (n + k) % 64 ≠ 56) (w : World) :
    Calls Tryd.prog 73 #[.int .i64 n] w (FillPost n r w) := by
  obtain ⟨i0, hi, hz0, hz1, hz2⟩ := info_parts info5
  have H4 := Lib.hid hr4
  have H3 := Lib.hid hr3
  clear hr4 hr3
  go_enter Tryd.func73, Tryd.ntmps73
  go_wp2
  have r0 : (w.alloc (.cells #[.int .u8 128] 5)).rowIs w.heap.size 5 1 (bF fillHead) := (rowIs_box w 5 1 fun _ => .int .u8 128).congr fun i hi => by
    obtain rfl : i = 0 := by omega
    rfl
  have hB : Below w.heap.size w (w.alloc (.cells #[.int .u8 128] 5)) := (Below.refl _ w).alloc (Nat.le_refl _) _
  have ho := ownsRow_row r0 w.heap.size 1 (by omega) (by unfold maxLen; omega) (Nat.le_refl _)
  generalize w.alloc (.cells #[.int .u8 128] 5) = W0 at ho hB ⊢
  clear r0
  go_loopw [3] (fun v wr => ∃ k : Nat, 1 ≤ k ∧ k ≤ r ∧ wr.ownsRow w.heap.size 5 1 v k ((List.range k).map (bF fillHead)) ∧ Below w.heap.size w wr) (fun v _ => match v with | .slice _ m _ => r - m | _ => 0)
  case atStart => exact ⟨1, by omega, by omega, ho, hB⟩
  case round =>
    obtain ⟨k, hk1, hk, hown, qB⟩ := hrel
    clear ho hB
    obtain ⟨g, c, rfl, _, _⟩ := hown.form (by omega)
    by_cases hlt : k < r
    · have t1 : (((n : Int) + (k : Int)) % 64 == 56) = false := by
        have := H4.out k hk1 hlt
        simp; omega
      go_wp2_with (at_builtin; refine wpList_append_own _ rfl (.tmp 16) (.tmp 17) 28 rfl w.heap.size 5 i0 _ 1 1 Tryd.underlying28 hi hz0 hz1 hz2 rfl (by omega) _ k _ rfl (hown.alloc _) ⟨wr.heap.size, 0, none⟩ 1 1 [.int .u8 0] rfl rfl (one_cell _ _ _) (by simp [Value.oneCell']) (by unfold maxLen; omega) (by omega) (by have := qB.size; simp; omega) ?_; intro v' w1 hown' hg1 _)
      go_roundw
      case rel =>
        refine ⟨k + 1, by omega, by omega, ?_, (qB.alloc qB.size _).grown hg1 (by have := qB.size; simp; omega) (fun g e => (hown.lt g e).1)⟩
        rw [List.range_succ, List.map_append]
        simp only [List.map_cons, List.map_nil]
        rw [fillHead_pos k hk1]
        exact hown'
      case measure =>
        obtain ⟨g', c', rfl, _, _⟩ := hown'.form (by omega)
        show r - (k + 1) < r - k
        omega
    · obtain rfl : k = r := by omega
      have t1 : (((n : Int) + (k : Int)) % 64 == 56) = true := by
        have := H3.out
        simp; omega
      have t2 : (((n : Int) + (k : Int)) % 64 != 56) = false := by
        have := H3.out
        simp; omega
      have Ht1 := Lib.hid t1
      go_wp2
      clear t1 t2
      go_loopw [3, 5, 6] (fun v st i wr => ∃ j p : Nat, j ≤ 8 ∧ i = .int .i64 j ∧ st = .int .u64 p ∧ Hid (p = 72057594037927936 / 256 ^ j) ∧ wr.ownsRow w.heap.size 5 1 v (k + j) ((List.range k).map (bF fillHead) ++ (List.range j).map (bF (lenByte n))) ∧ Below w.heap.size w wr) (fun _ _ i _ => 8 - (intOf i).toNat)
      case atStart => exact ⟨0, 72057594037927936, by omega, rfl, rfl, Lib.hid (by simp), by simpa using hown, qB⟩
      case round =>
        clear hown qB
        obtain ⟨j, p, hj, rfl, rfl, Hp, hown, qB⟩ := hrel
        by_cases hlt : j < 8
        · have hp0 : 0 < p := by
            have : ∀ k : Fin 8, 0 < 72057594037927936 / 256 ^ k.val := by decide
            rw [Hp.out]; exact this ⟨j, hlt⟩
          have hpz : ((p : Int) == 0) = false := by simp; omega
          have hsl := step_len n j p hlt hn Hp.out
          have Hsl := Lib.hid hsl
          clear hsl
          have hp1 : (p : Int) ≠ 0 := by omega
          have hpb : p ≤ 72057594037927936 := by rw [Hp.out]; exact Nat.div_le_self _ _
          have hpw : IntKind.u64.wrap ((p : Int) / 256) = ((p / 256 : Nat) : Int) := by rw [wrap_u64]; omega
          have hval : ((n : Int) * 8 / (p : Int)).tmod 256 % 256 = bN (lenByte n j) := by
            have h0 : (0 : Int) ≤ (n : Int) * 8 / p := Int.ediv_nonneg (by omega) (by omega)
            rw [Int.tmod_eq_emod_of_nonneg h0, ← Hsl.out]
            have : (n : Int) * 8 / (p : Int) = ((n * 8 / p : Nat) : Int) := by simp
            rw [this]; omega
          go_wp2_with (at_builtin; refine wpList_append_own _ rfl (.tmp 26) (.tmp 32) 28 rfl w.heap.size 5 i0 _ 1 1 Tryd.underlying28 hi hz0 hz1 hz2 rfl (by omega) u3 (k + j) _ rfl (hown.alloc _) ⟨wr.heap.size, 0, none⟩ 1 1 [bF (lenByte n) j] rfl rfl (one_cell _ _ _) (by simp [bF, Value.oneCell']) (by unfold maxLen; omega) (by omega) (by have := qB.size; simp; omega) ?_; intro v' w1 hown' hg1 _)
          go_roundw
          case rel =>
            refine ⟨j + 1, p / 256, by omega, by go_num, rfl, Lib.hid (by rw [Hp.out, Nat.div_div_eq_div_mul, Nat.pow_succ]), ?_, (qB.alloc qB.size _).grown hg1 (by have := qB.size; simp; omega) (fun g e => (hown.lt g e).1)⟩
            rw [List.range_succ, List.map_append, ← List.append_assoc]
            exact hown'
          case measure => simp [intOf]; omega
        · obtain rfl : j = 8 := by omega
          go_wp2
          go_ret
          exact ⟨_, rfl, hown, qB⟩
theorem RFill_any (n : Nat) (hn : n ≤ 1000000) (w : World) : Calls Tryd.prog 73 #[.int .i64 n] w (FillPost n (if n % 64 < 56 then 56 - n % 64 else 120 - n % 64) w) := by
  by_cases h : n % 64 < 56
  · rw [if_pos h]; exact RFill_r n _ hn (by omega) (by omega) (by omega) (fun k _ _ => by omega) w
  · rw [if_neg h]; exact RFill_r n _ hn (by omega) (by omega) (by omega) (fun k _ _ => by omega) w
set_option maxHeartbeats 400000 in
theorem RFill_neg (n : Int) (hn : n < 0) (w : World) : Calls Tryd.prog 73 #[.int .i64 n] w fun e w' => e = .returned (.slice none 0 0) ∧ w = w' := by
  go_enter Tryd.func73, Tryd.ntmps73
  go_wp2
  go_ret
  exact ⟨rfl, rfl⟩
end Go.Proofs.YtcfogkimjbgjgaaDoor
/- The reference's Sum. -/
namespace Go.Proofs.YtcfogkimjbgjgaaDoor
open Go.RowKit
set_option maxRecDepth 8000
set_option linter.all false
attribute [local go_sem] uF_at bF_at run_storeU run_storeB

theorem ownsRow_belowW {W W' : World} {base : Nat} {e : TypeId} {size : Nat} {v : Value} {n : Nat} {xs : List Value} (h : W.ownsRow base e size v n xs) (hb : Below W.heap.size W W') : W'.ownsRow base e size v n xs :=
  h.kept (row := none) ⟨hb.os, hb.tape, hb.output, hb.size, fun k hk _ => hb.block k hk⟩ (by cases v.ownBlock with | none => exact .inl rfl | some k => exact .inr (by simp))
/-- The digest, written from behind: the numbers before i, and of number i the last j bytes. -/
def outF (S : Nat → BitVec 32) (i j p : Nat) : UInt8 := if p < 4 * i then dig S p else if 4 * i + 4 ≤ p + j ∧ p < 4 * i + 4 then dig S p else 0
theorem outF_set (S : Nat → BitVec 32) (i j : Nat) (hj : j < 4) (z : Int) (hz : z = bN (dig S (4 * i + (3 - j)))) (p : Nat) : (if p = 4 * i + (3 - j) then Value.int .u8 z else bF (outF S i j) p) = bF (outF S i (j + 1)) p := by
  subst hz
  simp only [bF, outF]
  by_cases h : p = 4 * i + (3 - j)
  · subst h; rw [if_pos rfl, if_neg (by omega), if_pos (by omega)]
  · rw [if_neg h]
    by_cases h2 : p < 4 * i
    · rw [if_pos h2, if_pos h2]
    · rw [if_neg h2, if_neg h2]
      by_cases h3 : 4 * i + 4 ≤ p + j ∧ p < 4 * i + 4
      · rw [if_pos h3, if_pos (by omega)]
      · rw [if_neg h3, if_neg (by omega)]
theorem outF_next (S : Nat → BitVec 32) (i p : Nat) : bF (outF S i 4) p = bF (outF S (i + 1) 0) p := by
  simp only [bF, outF]
  by_cases h : p < 4 * i
  · rw [if_pos h, if_pos (by omega)]
  · rw [if_neg h]
    by_cases h2 : p < 4 * i + 4
    · rw [if_pos ⟨by omega, h2⟩, if_pos (by omega)]
    · rw [if_neg (by omega), if_neg (by omega), if_neg (by omega)]
theorem outF_zero (S : Nat → BitVec 32) (p : Nat) : bF (fun _ => 0) p = bF (outF S 0 0) p := by
  simp only [bF, outF]
  rw [if_neg (by omega), if_neg (by omega)]
theorem dig_back (S : Nat → BitVec 32) (i j : Nat) (hj : j < 4) : (uN (S i >>> (8 * j))) % 256 = bN (dig S (4 * i + (3 - j))) := by
  rw [dig, show (4 * i + (3 - j)) / 4 = i by omega, show (4 * i + (3 - j)) % 4 = 3 - j by omega, show 24 - 8 * (3 - j) = 8 * j by omega, ← u32_u8, wrap_u8]
theorem dig_div (x : BitVec 32) (j : Nat) : uN (x >>> (8 * j)) / (256 : Int) = uN (x >>> (8 * (j + 1))) := by
  have := u32_shr (x >>> (8 * j)) 8
  rw [show ((2 : Int) ^ 8) = 256 from rfl] at this
  rw [this, ← BitVec.shiftRight_add]
  rfl
theorem fill_len (n : Nat) : (n + (fillB n).length) % 64 = 0 := by rw [fillB_length]; split <;> omega
theorem sha_all (l : List UInt8) (m : Nat) (h : (l ++ fillB l.length).length = 64 * m) : shaL Kc Fc l = dig (sB (l ++ fillB l.length) m) := by
  have : cks (l ++ fillB l.length) = (List.range m).map (blk (l ++ fillB l.length)) := by unfold cks; rw [h, show 64 * m / 64 = m by omega]; rfl
  rw [shaL, this, sB_fold]
set_option maxHeartbeats 4000000 in
theorem RSum_any (v : Value) (l : List UInt8) (w : World) (hT : Tables w) (hr : RdV w [] v l) (hl : l.length ≤ 900000) :
    Calls Tryd.prog 57 #[v] w fun e w' => e = .returned (.agg (rowA 32 (bF (shaL Kc Fc l)))) ∧ Below w.heap.size w w' := by
  have HT := Lib.hid hT
  have hsz := hT.size
  have Hr := Lib.hid hr
  obtain ⟨A, cap, rfl, _⟩ := hr
  clear hT
  obtain ⟨n, hn⟩ : ∃ n, l.length = n := ⟨_, rfl⟩
  rw [hn] at hl Hr ⊢
  obtain ⟨i0, hi, hz0, hz1, hz2⟩ := info_parts info5
  have hB1 : Below (w.heap.size) w ((w.alloc (.cells (rowA 32 (bF fun _ => 0)) 26)).alloc (.cells #[] 5)) := ((Below.refl _ w).alloc (Nat.le_refl _) _).alloc (by simp) _
  have rz : ((w.alloc (.cells (rowA 32 (bF fun _ => 0)) 26)).alloc (.cells #[] 5)).rowIs w.heap.size 26 32 (bF fun _ => 0) := (rowIs_box w 26 32 (bF fun _ => 0)).alloc _
  have hown0 : ((w.alloc (.cells (rowA 32 (bF fun _ => 0)) 26)).alloc (.cells #[] 5)).ownsRow (w.heap.size + 1) 5 1 (.slice (some ⟨w.heap.size + 1, 0, none⟩) 0 0) 0 [] := by
    have := rowIs_box (w.alloc (.cells (rowA 32 (bF fun _ => 0)) 26)) 5 0 (fun _ => undef)
    rw [World.size_alloc] at this
    exact ownsRow_row this (w.heap.size + 1) 0 (by omega) (by unfold maxLen; omega) (Nat.le_refl _)
  have Hr1 := Lib.hid (Hr.out.keep (KeepBut.below hB1))
  have hs1 : w.heap.size + 1 ≤ ((w.alloc (.cells (rowA 32 (bF fun _ => 0)) 26)).alloc (.cells #[] 5)).heap.size := by simp
  go_enter Tryd.func57, Tryd.ntmps57
  go_wp2_with (at_builtin; first
    | (refine wpList_append_rd rfl (.tmp 10) (.tmp 11) 28 rfl (base := w.heap.size + 1) Tryd.underlying28 hi hz0 hz1 hz2 rfl hown0 rfl Hr1.out (by omega) hs1 ?_; intro v2 w2 o2 grow2
       have b2 := (Below.refl (w.heap.size + 1) ((w.alloc (.cells (rowA 32 (bF fun _ => 0)) 26)).alloc (.cells #[] 5))).grown grow2 hs1 (fun k e => (hown0.lt k e).1)
       have hB2 := hB1.trans (b2.mono (Nat.le_succ _))
       replace rz := rowIs_below rz b2 (by omega)
       clear grow2 hown0 hs1 Hr1 hB1 b2))
  refine (RFill_any n (by omega) _).mono ?_
  rintro e w3 ⟨v3, rfl, ho3, hb3⟩
  have rd3 := Lib.hid (rdV_fill (L := []) (by simp) ho3)
  have o3 := ownsRow_belowW o2 hb3
  replace rz := rowIs_below rz hb3 rz.lt
  have hB3 := hB2.trans (hb3.mono hB2.size)
  clear o2 ho3 hb3 hB2
  have hfl := fill_len n
  have hf2 : (fillB n).length ≤ 72 := by rw [fillB_length]; split <;> omega
  have hf3 : 0 < (fillB n).length := by rw [fillB_length]; omega
  go_upto_region 2 with (at_builtin; refine wpList_append_rd rfl (.tmp 12) (.tmp 15) 28 rfl (base := w.heap.size + 1) Tryd.underlying28 hi hz0 hz1 hz2 rfl o3 rfl rd3.out (by omega) (by have := rz.lt; omega) ?_; intro v4 w4 o4 grow4)
  have hB4 := hB3.grown grow4 hB3.size (fun k e => by have := (o3.lt k e).1; omega)
  replace rz : w4.rowIs w.heap.size 26 32 (bF fun _ => 0) := rowIs_below rz ((Below.refl (w.heap.size + 1) w3).grown grow4 (by have := rz.lt; omega) (fun k e => (o3.lt k e).1)) (by omega)
  obtain ⟨c, hc⟩ : ∃ c, l ++ fillB n = c := ⟨_, rfl⟩
  have Rall : RdV w4 [] v4 c := by rw [← hc]; exact rdV_own (by simpa [List.map_append] using o4) (by simp) (by simp)
  obtain ⟨m, hm⟩ : ∃ m, m = c.length / 64 := ⟨_, rfl⟩
  have hcm : c.length = 64 * m := by rw [hm, ← hc]; simp only [List.length_append]; omega
  have hD : shaL Kc Fc l = dig (sB c m) := by rw [← hc, ← hn]; exact sha_all l m (by rw [hn, hc, hcm])
  have HD := Lib.hid hD
  obtain ⟨A4, c4, rfl, hcap4, hmax4, hA4⟩ := Rall
  obtain ⟨M, hM⟩ : ∃ M, c.length = M := ⟨_, rfl⟩
  rw [hM] at hcap4 hA4 hcm ⊢
  have hM2 : M ≤ 900072 := by rw [← hM, ← hc]; simp only [List.length_append]; omega
  have hM0 : 0 < M := by rw [← hM, ← hc]; simp only [List.length_append]; omega
  obtain ⟨b4, o4', rfl, _, hcell4⟩ := hA4 hM0
  have HC := Lib.hid hcell4
  have HM := Lib.hid hcm
  have hb4 : b4 < w4.heap.size := World.block_lt_of_cell? _ _ (hcell4 0 hM0)
  clear hD hcell4 hcm hM hc hm hA4 o4 o3 grow4 rd3 hfl hf2 hf3 hB3
  have T4 := HT.out.below hB4
  have f0 := T4.f 0 (by omega)
  have f1 := T4.f 1 (by omega)
  have f2 := T4.f 2 (by omega)
  have f3 := T4.f 3 (by omega)
  have f4 := T4.f 4 (by omega)
  have f5 := T4.f 5 (by omega)
  have f6 := T4.f 6 (by omega)
  have f7 := T4.f 7 (by omega)
  have h0 : 0 < w4.heap.size := by have := T4.size; omega
  clear T4
  go_wp2
  clear f0 f1 f2 f3 f4 f5 f6 f7
  have rs := rowIs_box w4 98 8 (uF Fc)
  have hB5 := (Below.refl _ w4).alloc (Nat.le_refl _) (.cells (rowA 8 (uF Fc)) 98)
  change Code.wp _ _ _ _ (w4.alloc (.cells (rowA 8 (uF Fc)) 98))
  generalize w4.alloc (.cells (rowA 8 (uF Fc)) 98) = w5 at rs hB5 ⊢
  go_loopw [5] (fun i wr => ∃ j k : Nat, j = 64 * k ∧ j ≤ M ∧ i = .int .i64 j ∧ wr.rowIs w4.heap.size 98 8 (uF (sB c k)) ∧ Below w4.heap.size w4 wr) (fun i _ => M - (intOf i).toNat)
  case atStart => exact ⟨0, 0, rfl, by omega, rfl, rs, hB5⟩
  case round =>
    obtain ⟨j, k, hjk, hjM, rfl, qs, qB⟩ := hrel
    clear rs hB5
    by_cases hlt : j < M
    · have HM2 := HM.out
      have hsl := slice_blk b4 o4' M c4 j (by omega)
      have hB6 : Below w.heap.size w wr := hB4.trans (qB.mono hB4.size)
      have HC2 : Hid (∀ i, i < 64 → wr.cell? ⟨b4, o4' + j + i, none⟩ = some (.int .u8 (bN (bAt (blk c k) i)))) := Lib.hid fun i hi => by
        rw [Nat.add_assoc]
        refine (qB.cell (p := ⟨b4, o4' + (j + i), none⟩) hb4).trans ?_
        rw [HC.out (j + i) (by omega), bAt_blk c k i hi, ← hjk]
      have HT2 := HT.out.below hB6
      have HTk := Lib.hid HT2.k
      have hs2 := HT2.size
      have hbr : b4 < wr.heap.size := Nat.lt_of_lt_of_le hb4 qB.size
      have d1 : decide ((j : Int) + 64 ≤ (M : Int)) = true := by simp; omega
      have d2 : (j : Int) + 64 ≤ (M : Int) := by omega
      have hcj : 64 ≤ c4 - j := by omega
      have hcj2 : c4 - j ≤ maxLen := by omega
      clear HT2
      have Hjk := Lib.hid hjk
      clear hjk HM2
      obtain ⟨s, Hs⟩ : ∃ s, Hid (sB c k = s) := ⟨_, Lib.hid rfl⟩
      rw [Hs.out] at qs
      have c0 := qs.cell (i := 0) (by omega)
      have c1 := qs.cell (i := 1) (by omega)
      have c2 := qs.cell (i := 2) (by omega)
      have c3 := qs.cell (i := 3) (by omega)
      have c4' := qs.cell (i := 4) (by omega)
      have c5 := qs.cell (i := 5) (by omega)
      have c6 := qs.cell (i := 6) (by omega)
      have c7 := qs.cell (i := 7) (by omega)
      go_wp2
      refine wp_region_still_tail 6 (by kernel_rfl) (by kernel_rfl) ?_
      simp only [List.take_succ_cons, List.take_zero, List.drop_succ_cons, List.drop_zero]
      iterate 6 (refine wpStill_step (fun K hK => ?_); go_simp; (try go_bits); refine hK _ ?_; clear hK K)
      refine wpStill_nil ?_
      go_wp2_with fail
      refine (RTurn_any Kc s (blk c k) b4 (o4' + j) (c4 - j) hcj hcj2 wr.drew hbr hs2 HTk.out HC2.out).mono ?_
      rintro e w6 ⟨rfl, hB7⟩
      replace qs := rowIs_below qs.drew hB7 qs.lt
      have hB8 : Below w4.heap.size w4 w6 := qB.drew.trans (hB7.mono qB.size)
      have rw2 : RowW w6 w4.heap.size 8 := ⟨_, _, qs⟩
      clear c0 c1 c2 c3 c4' c5 c6 c7 hB7 qB
      go_wp2
      go_roundw
      case rel =>
        refine ⟨j + 64, k + 1, by have := Hjk.out; omega, by omega, by go_num, ?_, below_setCells _ (Nat.le_refl _) _ _ _ hB8⟩
        have := rowIs_setAll qs (uF (turnF Kc s (blk c k)))
        rw [sB, Hs.out]
        exact this
      case measure => simp [intOf]; omega
    · obtain rfl : j = M := by omega
      obtain rfl : k = m := by have := HM.out; omega
      obtain ⟨S, HS⟩ : ∃ S, Hid (sB c k = S) := ⟨_, Lib.hid rfl⟩
      rw [HS.out] at qs
      have Hjk := Lib.hid hjk
      clear hjk
      have hg4 : w4.heap.size < wr.heap.size := qs.lt
      have ro := rowIs_box wr 26 32 (bF fun _ => 0)
      replace qs := qs.alloc (.cells (rowA 32 (bF fun _ => 0)) 26)
      have rz2 := (rowIs_below rz qB rz.lt).alloc (.cells (rowA 32 (bF fun _ => 0)) 26)
      have hgw : w.heap.size < wr.heap.size := (rowIs_below rz qB rz.lt).lt
      have qB6 := (hB4.trans (qB.mono hB4.size)).alloc (by omega) (.cells (rowA 32 (bF fun _ => 0)) 26)
      go_wp2
      change Code.wp _ _ _ _ (wr.alloc (.cells (rowA 32 (bF fun _ => 0)) 26))
      generalize wr.heap.size = g at hgw hg4 ro ⊢
      generalize wr.alloc (.cells (rowA 32 (bF fun _ => 0)) 26) = W6 at ro qs rz2 qB6 ⊢
      clear rz qB
      go_loopw [7] (fun i wr => ∃ t : Nat, t ≤ 8 ∧ i = .int .i64 t ∧ wr.rowIs w4.heap.size 98 8 (uF S) ∧ wr.rowIs w.heap.size 26 32 (bF fun _ => 0) ∧ wr.rowIs g 26 32 (bF (outF S t 0)) ∧ Below w.heap.size w wr) (fun i _ => 8 - (intOf i).toNat)
      case atStart => exact ⟨0, by omega, rfl, qs, rz2, ro.congr fun p _ => outF_zero S p, qB6⟩
      case round =>
        clear qs rz2 ro qB6
        obtain ⟨t, ht, rfl, qs, qz, qo, qB⟩ := hrel
        by_cases hlt : t < 8
        · have cs := qs.cell (i := t) hlt
          have it : (t : Int) < 8 := by omega
          go_wp2
          clear cs
          go_loopw [8, 9] (fun x k wr => ∃ j : Nat, j ≤ 4 ∧ k = .int .i64 (3 - (j : Int)) ∧ x = .int .u32 (uN (S t >>> (8 * j))) ∧ wr.rowIs w4.heap.size 98 8 (uF S) ∧ wr.rowIs w.heap.size 26 32 (bF fun _ => 0) ∧ wr.rowIs g 26 32 (bF (outF S t j)) ∧ Below w.heap.size w wr) (fun _ k _ => (intOf k + 1).toNat)
          case atStart => exact ⟨0, by omega, rfl, rfl, qs, qz, qo, qB⟩
          case round =>
            clear qs qz qo qB
            obtain ⟨j, hj, rfl, rfl, qs, qz, qo, qB⟩ := hrel
            by_cases hj4 : j < 4
            · obtain ⟨q, hq⟩ : ∃ q, 3 - j = q := ⟨_, rfl⟩
              have hz := dig_back S t j hj4
              have hd := dig_div (S t) j
              rw [hq] at hz
              obtain ⟨X, hX, hX2⟩ : ∃ X : Nat, X < 4294967296 ∧ uN (S t >>> (8 * j)) = (X : Int) := ⟨(S t >>> (8 * j)).toNat, (S t >>> (8 * j)).isLt, rfl⟩
              rw [hX2] at hz hd ⊢
              have hqi : (3 : Int) - (j : Int) = (q : Int) := by omega
              rw [hqi]
              have Hz := Lib.hid hz
              have Hd := Lib.hid hd
              have Hq := Lib.hid hq
              have Hqi := Lib.hid hqi
              have hq3 : q ≤ 3 := by omega
              clear hz hd hX2 hq hqi
              have co := qo.cell (i := 4 * t + q) (by omega)
              have fo := qo.frozen (4 * t + q)
              have i1 : 4 * (t : Int) + (q : Int) < 32 := by omega
              have i2 : (0 : Int) ≤ 4 * (t : Int) + (q : Int) := by omega
              go_wp2
              go_roundw
              case rel =>
                refine ⟨j + 1, by omega, ?_, by rw [← Hd.out], qs.setOther (by simp; omega) _, qz.setOther (by simp; omega) _, (qo.set (4 * t + q) _).congr fun p _ => ?_, qB.setCell (p := ⟨g, 4 * t + q, none⟩) (by simp; omega) _⟩
                · congr 1
                  have := Hqi.out
                  omega
                · have := outF_set S t j hj4 ((X : Int) % 256) (by rw [Hq.out]; exact Hz.out) p
                  rwa [Hq.out] at this
              case measure => simp only [intOf]; omega
            · obtain rfl : j = 4 := by omega
              go_wp2
              go_roundw
              case rel => exact ⟨t + 1, by omega, by go_num, qs, qz, qo.congr fun p _ => outF_next S t p, qB⟩
              case measure => simp [intOf]; omega
        · obtain rfl : t = 8 := by omega
          have hR := rangeAt_row qo
          go_wp2_with (first
            | (refine wpList_load_mid rfl 26 (.tmp 6) rfl g 0 rfl (rowA 32 (bF (outF S 8 0))).toList _ hR Tryd.underlying26 rfl (by rw [rowA_toList]; simpa using info31) ?_)
            | (refine wpList_store_mid rfl 26 (.tmp 2) (.tmp 53) rfl w.heap.size 0 (rowA 32 (bF (outF S 8 0))) rfl rfl (by rw [rowA_size]; exact there_row qz) (by rw [rowA_size]; exact info31) (rowA_one _ _ fun _ => rfl) ?_))
          refine bodyPost_ret (results_row rfl _ rfl (rowIs_setAll qz (bF (outF S 8 0))) Tryd.underlying26 info31) rfl ⟨?_, below_setCells _ (Nat.le_refl _) _ _ _ qB⟩
          rw [HD.out, HS.out]
          exact congrArg (fun z => Ending.returned (.agg z)) (rowA_congr fun i hi => by simp only [bF, outF]; rw [if_pos (by omega)])
end Go.Proofs.YtcfogkimjbgjgaaDoor
/- The reference's Of. -/
namespace Go.Proofs.YtcfogkimjbgjgaaDoor
open Go Go.RowKit
set_option maxRecDepth 8000
set_option linter.all false
theorem RSumB_cv (v : Value) (l : List UInt8) (D : Nat → UInt8) (w : World) (hT : Tables w) (hr : RdV w [] v l) (hl : l.length ≤ 900000) (hD : shaL Kc Fc l = D) : Cv 57 #[v] w (.eq (.agg (rowA 32 (bF D)))) := by
  rw [← hD]; exact Cv.of_eq (RSum_any v l w hT hr hl)
set_option maxHeartbeats 1000000 in
theorem ROf_cv (n : Int) (pv : Value) (ls : List (List UInt8)) (D : Nat → UInt8) (w : World) (hT : Tables w) (hp : Parts w pv ls) (hlen : ls.length ≤ 1000) (htot : ls.flatten.length ≤ 100000) (hD : shaL Kc Fc (ofL n ls) = D) :
    Cv 39 #[.int .i64 n, pv] w (.eq (.agg (rowA 32 (bF D)))) := by
  unfold Cv
  have HD := Lib.hid hD
  have HT := Lib.hid hT
  have Hp := Lib.hid hp
  have Hol := Lib.hid (ofL_length n ls)
  clear hT hp hD
  go_enter Tryd.func39, Tryd.ntmps39
  go_upto_region 1 with fail
  have r0 := rowIs_box w 26 32 (bF fun _ => 0)
  have hB0 := NewT.alloc w (.cells (rowA 32 (bF fun _ => 0)) 26)
  change Code.wp _ _ _ _ (w.alloc (.cells (rowA 32 (bF fun _ => 0)) 26))
  generalize w.alloc (.cells (rowA 32 (bF fun _ => 0)) 26) = W0 at r0 hB0 ⊢
  replace HT := Lib.hid (hB0.tables HT.out)
  replace Hp := Lib.hid (hB0.partsL Hp.out)
  refine wp_region_seq NewT [SV.eq (.int .i64 n), svParts ls, svRd (ofL n ls), SV.eq (.agg (rowA 32 (bF D)))] [([(0, none)], none), ([(1, none)], none), ([(5, some 0), (6, some 1)], none), ([(7, some 2)], none)] 9 rfl rfl (by kernel_rfl) rfl NewT.trans (NewT.refl _) (Nat.le_of_ble_eq_true rfl) ⟨?_, ?_, ?_, ?_, trivial⟩ ?_
  · -- 0: Op.move t0
    intro a wx hT hF K hK
    obtain ⟨f0, _⟩ := hF
    have f0 : a.tmps.getD 0 undef = .int .i64 n := f0
    refine rely_wp rfl ?_
    exact opr_move (.inl rfl) (hK _ _ (NewT.refl _) f0)
  · -- 1: Op.move t1
    intro a wx hT hF K hK
    obtain ⟨f1, _⟩ := hF
    have f1 : a.tmps.getD 1 undef = pv := f1
    refine rely_wp rfl ?_
    exact opr_move (.inl rfl) (hK _ _ (NewT.refl _) (by rw [eval_tmp, f1]; exact hT.partsL Hp.out))
  · -- 2: Op.call ( value (Operand.func 58), args := #[t5, t6], argTyp
    intro a wx hT hF K hK
    obtain ⟨f5, f6, _⟩ := hF
    have f5 : a.tmps.getD 5 undef = .int .i64 n := f5
    replace f6 := show (svParts ls).pred (a.tmps.getD 6 undef) wx from f6
    refine rely_wp rfl ?_
    exact opr_cv (RText_cv n _ ls wx f6 hlen htot) rfl Tryd.func58 (by kernel_rfl) (by kernel_rfl) (by simp only [List.map_toArray, List.map_cons, List.map_nil, eval_tmp, f5]) hK
  · -- 3: Op.call ( value (Operand.func 57), args := #[t7], argTypes :
    intro a wx hT hF K hK
    obtain ⟨f7, _⟩ := hF
    replace f7 := show (svRd (ofL n ls)).pred (a.tmps.getD 7 undef) wx from f7
    refine rely_wp rfl ?_
    exact opr_cv (RSumB_cv _ (ofL n ls) D wx (hT.tables HT.out) f7 (by have := Hol.out; omega) HD.out) rfl Tryd.func57 (by kernel_rfl) (by kernel_rfl) (by simp only [List.map_toArray, List.map_cons, List.map_nil, eval_tmp]) hK
  · intro wx hT
    intro u h; obtain rfl := h (by simp); clear h
    intro u6 h; have g6 := h (by simp); clear h; replace g6 := show (svParts ls).pred u6 wx from g6
    intro u7 h; have g7 := h (by simp); clear h; replace g7 := show (svRd (ofL n ls)).pred u7 wx from g7
    intro u h; obtain rfl := h (by simp); clear h
    refine relyEnd_nil rfl ?_
    simp only [Act.put, List.setIfInBounds_toArray, List.set_cons_zero, List.set_cons_succ]
    refine opr_store_new (B := w.heap.size) (W := w) info31 rfl rfl rfl (hT.row r0) (NewT.trans _ _ _ hB0 hT) (Nat.le_refl _) ?_
    intro w9 hB9 r9
    go_simp
    go_wp2
    exact bodyPost_ret (results_row rfl _ rfl r9 Tryd.underlying26 info31) rfl ⟨_, rfl, hB9, rfl⟩
end Go.Proofs.YtcfogkimjbgjgaaDoor
/- The reference's Tag, by a key of at most 64 bytes. -/
namespace Go.Proofs.YtcfogkimjbgjgaaDoor
open Go Go.RowKit
set_option maxRecDepth 8000
set_option linter.all false
theorem with_54 (v : Value) (l : List UInt8) (w : World) (hr : RdV w [] v l) : Cv 59 #[v, .int .i64 54] w (svOwn w (maskL (bAt l) 54)) := by
  have h := hr
  obtain ⟨A, c, rfl, _⟩ := h
  exact with_any A _ c l 54 (.inl rfl) w hr
theorem with_92 (v : Value) (l : List UInt8) (w : World) (hr : RdV w [] v l) : Cv 59 #[v, .int .i64 92] w (svOwn w (maskL (bAt l) 92)) := by
  have h := hr
  obtain ⟨A, c, rfl, _⟩ := h
  exact with_any A _ c l 92 (.inr rfl) w hr
set_option maxHeartbeats 4000000 in
theorem RTag_short (A0 : Option Addr) (c0 : Nat) (vt : Value) (k t : List UInt8) (D : Nat → UInt8) (w : World) (hT : Tables w) (hk : RdV w [] (.slice A0 k.length c0) k) (ht : RdV w [] vt t) (hkl : k.length ≤ 64) (hk2 : k.length ≤ 100000) (htl : t.length ≤ 100000) (hD : tagL k t = D) :
    Cv 41 #[.slice A0 k.length c0, vt] w (.eq (.agg (rowA 32 (bF D)))) := by
  unfold Cv
  obtain ⟨E, HE0⟩ := hid_ex (inL k t)
  have hkb : keyB k = bAt k := by unfold keyB keyOf; rw [if_neg (by omega)]
  have HE : Hid (shaL Kc Fc (maskL (bAt k) 54 ++ t) = E) := Lib.hid (by rw [← HE0.out, inL, hkb])
  have HD : Hid (shaL Kc Fc (maskL (bAt k) 92 ++ digL E) = D) := Lib.hid (by rw [← hD, tagL, hkb, HE0.out])
  have hd : decide ((64 : Int) < (k.length : Int)) = false := by simp; omega
  clear hkb
  have Rk := Lib.hid hk
  have Rt := Lib.hid ht
  have HT := Lib.hid hT
  clear hT hk ht hD HE0
  go_enter Tryd.func41, Tryd.ntmps41
  go_upto_region 1 with fail
  have r0 := rowIs_box w 26 32 (bF fun _ => 0)
  have hN0 := NewT.alloc w (.cells (rowA 32 (bF fun _ => 0)) 26)
  change Code.wp _ _ _ _ (w.alloc (.cells (rowA 32 (bF fun _ => 0)) 26))
  generalize w.alloc (.cells (rowA 32 (bF fun _ => 0)) 26) = W0 at r0 hN0 ⊢
  replace Rk := Lib.hid (hN0.rd Rk.out)
  replace Rt := Lib.hid (hN0.rd Rt.out)
  have hB := hN0.out
  clear hN0
  go_upto_region 4 with fail
  refine wp_region_lit ?_
  iterate 1 (refine wpList_plain rfl (fun K hK => ?_); go_simp; refine hK _ _ ?_; clear hK K)
  refine wpList_plain rfl (fun K hK => ?_)
  refine opr_cv (with_54 _ k W0 Rk.out) rfl Tryd.func59 (by kernel_rfl) (by kernel_rfl) (by simp only [List.map_toArray, List.map_cons, List.map_nil]; rfl) ?_
  intro v14 wa hNa o14
  refine hK _ _ ?_
  clear hK K
  obtain ⟨v16, wb, hrun, _, r16, hBb⟩ := run_append_two o14 hNa.out.size (hNa.rd Rt.out) (by rw [maskL_length]; omega) 28
  have hB1 := hB.trans ((hNa.out.mono hB.size).trans (hBb.mono hB.size))
  have r0b := rowIs_below (hNa.row r0) hBb (by have := r0.lt; omega)
  have rtb := (Rt.out.keep (KeepBut.below (hNa.out.trans hBb)))
  have rkb := (Rk.out).keep (KeepBut.below (hNa.out.trans hBb))
  have Rtb := Lib.hid rtb
  have Rkb := Lib.hid rkb
  have R16 := Lib.hid r16
  have HTb := Lib.hid (HT.out.below hB1)
  clear hBb o14 hNa rtb rkb r16
  iterate 1 (refine wpList_plain rfl (fun K hK => ?_); go_simp; refine hK _ _ ?_; clear hK K)
  refine wpList_plain rfl (fun K hK => ?_)
  refine opr_append rfl rfl rfl hrun (hK _ _ ?_)
  clear hrun hK K
  refine wpList_plain rfl (fun K hK => ?_)
  refine opr_cv (RSumB_cv _ _ E wb HTb.out R16.out (by rw [List.length_append, maskL_length]; omega) HE.out) rfl Tryd.func57 (by kernel_rfl) (by kernel_rfl) (by simp only [List.map_toArray, List.map_cons, List.map_nil]; rfl) ?_
  intro v17 wc hNc he17
  obtain rfl : v17 = .agg (rowA 32 (bF E)) := he17
  refine hK _ _ ?_
  clear hK K
  refine wpList_plain rfl (fun K hK => ?_)
  refine opr_alloc_hash rfl (NewT.refl wc) ?_
  intro v6 wd hNd h6
  obtain ⟨p6, hv, hp6, rr6⟩ := svNew_out h6
  subst hv
  refine hK _ _ ?_
  clear hK K h6
  refine wpList_plain rfl (fun K hK => ?_)
  refine opr_store_new (W := wc) info31 rfl rfl rfl rr6 hNd.out hp6 ?_
  intro we hNe r6
  replace hNe := NewT.trans _ _ _ hNc (NewT.of hNe)
  refine hK _ _ ?_
  clear hK K
  replace r0b := hNe.row r0b
  have hB2 := hB1.trans (hNe.out.mono hB1.size)
  have Rke := Lib.hid (hNe.rd Rkb.out)
  have HTe := Lib.hid (hNe.tables HTb.out)
  clear hNc hNd hNe hp6 rr6 Rkb Rtb R16 HTb hB1
  refine wpList_nil ?_
  go_simp
  go_upto_region 5 with fail
  refine wp_region_rely_tail NewT [svRd k, svOwn we (maskL (bAt k) 92), svRd (digL E)] [([(0, none)], none), ([(18, some 0)], none), ([(6, none)], none)] 23 3 (by kernel_rfl) rfl rfl (Nat.zero_lt_succ _) (by kernel_rfl) (by kernel_rfl) (by kernel_rfl) NewT.trans (NewT.drew _) (Nat.le_of_ble_eq_true rfl) ⟨?_, ?_, ?_, trivial⟩ ?_
  · -- 0: Op.move t0
    intro a wx hT hF K hK
    obtain ⟨f0, _⟩ := hF
    have f0 : a.tmps.getD 0 undef = .slice A0 k.length c0 := f0
    refine rely_wp rfl ?_
    exact opr_move (.inl rfl) (hK _ _ (NewT.refl _) (by rw [eval_tmp, f0]; exact hT.rd Rke.out))
  · -- 1: Op.call ( value (Operand.func 59), args := #[t18, const (92:
    intro a wx hT hF K hK
    obtain ⟨f18, _⟩ := hF
    replace f18 := show (svRd k).pred (a.tmps.getD 18 undef) wx from f18
    refine rely_wp rfl ?_
    refine opr_cv (with_92 _ k wx f18) rfl Tryd.func59 (by kernel_rfl) (by kernel_rfl) (by simp only [List.map_toArray, List.map_cons, List.map_nil, eval_tmp, eval_const]) ?_
    intro v w2 hN2 ho2
    exact hK v w2 hN2 (own_from hT ho2)
  · -- 2: Op.slice 26 t6 none none none
    intro a wx hT hF K hK
    obtain ⟨f6, _⟩ := hF
    have f6 : a.tmps.getD 6 undef = .pointer (some ⟨p6, 0, none⟩) := f6
    refine rely_wp rfl ?_
    exact opr_slice_hash rfl f6 (hK _ _ (NewT.refl _) (rd_row (hT.row r6) (by simp) (by omega)))
  · intro wx hT
    intro u18 h; have g18 := h (by simp); clear h; replace g18 := show (svRd k).pred u18 wx from g18
    intro u19 h; have g19 := h (by simp); clear h; replace g19 := show (svOwn we (maskL (bAt k) 92)).pred u19 wx from g19
    intro u20 h; have g20 := h (by simp); clear h; replace g20 := show (svRd (digL E)).pred u20 wx from g20
    refine relyEnd_nil rfl ?_
    simp only [Act.put, List.setIfInBounds_toArray, List.set_cons_zero, List.set_cons_succ]
    refine wpList_plain rfl (fun K hK => ?_)
    obtain ⟨v21, wg, hrun, _, r21, hBg⟩ := run_append_two g19 hT.out.size g20 (by rw [maskL_length, digL_length]; omega) 28
    refine opr_append rfl rfl rfl hrun (hK _ _ ?_)
    clear hrun hK K
    have hB3 := hB2.trans ((hT.out.mono hB2.size).trans (hBg.mono hB2.size))
    have r0g := rowIs_below (hT.row r0b) hBg r0b.lt
    have HTg := Lib.hid (HTe.out.below (hT.out.trans hBg))
    clear hBg hT g19 g20 g18
    refine wpList_plain rfl (fun K hK => ?_)
    refine opr_cv (RSumB_cv _ _ D wg HTg.out r21 (by rw [List.length_append, maskL_length, digL_length]; omega) HD.out) rfl Tryd.func57 (by kernel_rfl) (by kernel_rfl) (by simp only [List.map_toArray, List.map_cons, List.map_nil]; rfl) ?_
    intro v22 wh hNh he22
    obtain rfl : v22 = .agg (rowA 32 (bF D)) := he22
    refine hK _ _ ?_
    clear hK K
    refine wpList_plain rfl (fun K hK => ?_)
    refine opr_store_new (B := w.heap.size) (W := w) info31 rfl rfl rfl (hNh.row r0g) (hB3.trans (hNh.out.mono hB3.size)) (Nat.le_refl _) ?_
    intro wi hBi ri
    refine hK _ _ ?_
    clear hK K
    refine wpList_nil ?_
    go_simp
    go_wp2
    exact bodyPost_ret (results_row rfl _ rfl ri Tryd.underlying26 info31) rfl ⟨_, rfl, hBi, rfl⟩
theorem RTag_cv (vk vt : Value) (k t : List UInt8) (D : Nat → UInt8) (w : World) (hT : Tables w) (hk : RdV w [] vk k) (ht : RdV w [] vt t) (hk2 : k.length ≤ 64) (htl : t.length ≤ 100000) (hD : tagL k t = D) :
    Cv 41 #[vk, vt] w (.eq (.agg (rowA 32 (bF D)))) := by
  have h := hk
  obtain ⟨A0, c0, rfl, _⟩ := h
  exact RTag_short A0 c0 vt k t D w hT hk ht hk2 (by omega) htl hD
end Go.Proofs.YtcfogkimjbgjgaaDoor
/- The reference's Key. -/
namespace Go.Proofs.YtcfogkimjbgjgaaDoor
open Go Go.RowKit
set_option maxRecDepth 8000
set_option linter.all false
theorem words_next (is : List Int) (k : Nat) (hk : k < is.length) : wordsL (is.take (k + 1)) = wordsL (is.take k) ++ hiL (wN (is.getD k 0)) 8 := by
  have e : is.take (k + 1) = is.take k ++ [is[k]] := by rw [List.take_add_one, List.getElem?_eq_getElem hk]; rfl
  have e2 : is.getD k 0 = is[k] := by simp [List.getD, hk]
  rw [e, e2]
  unfold wordsL
  rw [List.map_append, List.flatten_append, List.map_cons, List.map_nil, List.flatten_cons, List.flatten_nil, List.append_nil]
set_option maxHeartbeats 1000000 in
theorem RKey_cv (d : Nat → UInt8) (iv : Value) (is : List Int) (D : Nat → UInt8) (w : World) (hT : Tables w) (hp : RdI w iv is) (hlen : is.length ≤ 1000) (hD : tagL (digL d) (wordsL is) = D) :
    Cv 30 #[.agg (rowA 32 (bF d)), iv] w (.eq (.agg (rowA 32 (bF D)))) := by
  unfold Cv
  have HD := Lib.hid hD
  have HT := Lib.hid hT
  obtain ⟨A0, cap, rfl, hpc, hpm, hA⟩ := hp
  unfold maxLen at hpm
  obtain ⟨m, hm⟩ : ∃ m, m = is.length := ⟨_, rfl⟩
  rw [← hm] at hpc hlen ⊢
  have HA := Lib.hid (show 0 < m → ∃ b o, A0 = some ⟨b, o, none⟩ ∧ ∀ i, i < m → w.cell? ⟨b, o + i, none⟩ = some (.int .i64 (is.getD i 0)) from fun h => by
    obtain ⟨b, o, h1, h2⟩ := hA (by omega)
    exact ⟨b, o, h1, fun i hi => h2 i (by omega)⟩)
  have Hm := Lib.hid hm
  clear hT hA hD hm
  go_enter Tryd.func30, Tryd.ntmps30
  go_upto_region 1 with fail
  have rk := (rowIs_box w 26 32 (bF d)).alloc (.cells (rowA 32 (bF fun _ => 0)) 26)
  have r0 := rowIs_box (w.alloc (.cells (rowA 32 (bF d)) 26)) 26 32 (bF fun _ => 0)
  rw [World.size_alloc] at r0
  have hB0 := NewT.trans _ _ _ (NewT.alloc w (.cells (rowA 32 (bF d)) 26)) (NewT.alloc (w.alloc (.cells (rowA 32 (bF d)) 26)) (.cells (rowA 32 (bF fun _ => 0)) 26))
  change Code.wp _ _ _ _ ((w.alloc (.cells (rowA 32 (bF d)) 26)).alloc (.cells (rowA 32 (bF fun _ => 0)) 26))
  generalize ((w.alloc (.cells (rowA 32 (bF d)) 26)).alloc (.cells (rowA 32 (bF fun _ => 0)) 26)) = W0 at rk r0 hB0 ⊢
  replace HT := Lib.hid (hB0.tables HT.out)
  go_wp2
  go_loopw [5, 6] (fun v i wr => ∃ j : Nat, j ≤ m ∧ i = .int .i64 j ∧ (svOwn W0 (wordsL (is.take j))).pred v wr ∧ Below W0.heap.size W0 wr) (fun _ i _ => m - (intOf i).toNat)
  case atStart => exact ⟨0, by omega, rfl, World.ownsRow_nil _ _ _ _, Below.refl _ _⟩
  case round =>
    obtain ⟨j, hj, rfl, hown, qB⟩ := hrel
    by_cases hlt : j < m
    · obtain ⟨b, o, rfl, hcells⟩ := HA.out (by omega)
      have hb0 := World.block_lt_of_cell? _ _ (hcells j hlt)
      have hcell := (qB.cell (p := ⟨b, o + j, none⟩) (Nat.lt_of_lt_of_le hb0 hB0.out.size)).trans ((hB0.out.cell (p := ⟨b, o + j, none⟩) hb0).trans (hcells j hlt))
      have Hnx := Lib.hid (words_next is j (by rw [← Hm.out]; exact hlt))
      have hwl := wordsL_length (is.take j)
      rw [List.length_take] at hwl
      generalize is.getD j 0 = x at hcell Hnx
      have hle : (wordsL (is.take j)).length ≤ 800000 := by omega
      clear hcells hwl
      go_upto_region 5 with fail
      refine wp_region_lit ?_
      iterate 5 (refine wpList_plain rfl (fun K hK => ?_); go_simp; refine hK _ _ ?_; clear hK K)
      refine wpList_plain rfl (fun K hK => ?_)
      refine opr_cv (RNumber_8 x wr) rfl Tryd.func46 (by kernel_rfl) (by kernel_rfl) (by simp only [List.map_toArray, List.map_cons, List.map_nil]; rfl) ?_
      intro v18 wa hNa h18
      refine hK _ _ ?_
      clear hK K
      have owna := (svOwn W0 (wordsL (is.take j))).stable _ _ _ hown hNa
      have hBa := qB.trans (hNa.out.mono qB.size)
      obtain ⟨v19, wb, hrun, ownb, _, hBb⟩ := run_append_two owna hBa.size (h18 [] (by simp)) (by rw [hiL_length]; omega) 28
      have Hown := Lib.hid ownb
      have HBB := Lib.hid (hBa.trans hBb)
      clear owna hBa h18 hown hcell hNa hBb ownb
      refine wpList_plain rfl (fun K hK => ?_)
      refine opr_append rfl rfl rfl hrun (hK _ _ ?_)
      clear hrun hK K
      refine wpList_plain rfl (fun K hK => ?_)
      refine opr_move (.inr rfl) (hK _ _ ?_)
      clear hK K
      refine wpList_nil ?_
      go_simp
      go_wp2
      go_roundw
      case rel => exact ⟨j + 1, by omega, by go_num, by rw [Hnx.out]; exact Hown.out, HBB.out⟩
      case measure => simp [intOf]; omega
    · obtain rfl : j = m := by omega
      have rt : RdV wr [] u5 (wordsL is) := by
        have := rdV_own (L := []) hown rfl (by simp)
        rwa [Hm.out, List.take_length] at this
      have Rt := Lib.hid rt
      have qN := NewT.of qB
      replace rk := qN.row rk
      replace r0 := qN.row r0
      replace HT := Lib.hid (qN.tables HT.out)
      have hB1 := NewT.trans _ _ _ hB0 qN
      have Hwl := Lib.hid (wordsL_length is)
      have hm2 := Hm.out
      clear rt hown qB qN HA hB0
      have hwl2 : (wordsL is).length ≤ 8000 := by rw [Hwl.out]; omega
      clear hm2
      go_upto_region 6 with fail
      refine wp_region_seq NewT [svRd (digL d), svRd (wordsL is), SV.eq (.agg (rowA 32 (bF D)))] [([(2, none)], none), ([(5, none)], none), ([(20, some 0), (21, some 1)], none)] 23 rfl rfl (by kernel_rfl) rfl NewT.trans (NewT.refl _) (Nat.le_of_ble_eq_true rfl) ⟨?_, ?_, ?_, trivial⟩ ?_
      · -- 0: Op.slice 26 t2 none none none
        intro a wx hT hF K hK
        obtain ⟨f2, _⟩ := hF
        have f2 : a.tmps.getD 2 undef = .pointer (some ⟨w.heap.size, 0, none⟩) := f2
        refine rely_wp rfl ?_
        exact opr_slice_hash rfl f2 (hK _ _ (NewT.refl _) (rd_row (hT.row rk) (by simp) (by omega)))
      · -- 1: Op.move t5
        intro a wx hT hF K hK
        obtain ⟨f5, _⟩ := hF
        have f5 : a.tmps.getD 5 undef = u5 := f5
        refine rely_wp rfl ?_
        exact opr_move (.inl rfl) (hK _ _ (NewT.refl _) (by rw [eval_tmp, f5]; exact hT.rd Rt.out))
      · -- 2: Op.call ( value (Operand.func 41), args := #[t20, t21], argT
        intro a wx hT hF K hK
        obtain ⟨f20, f21, _⟩ := hF
        replace f20 := show (svRd (digL d)).pred (a.tmps.getD 20 undef) wx from f20
        replace f21 := show (svRd (wordsL is)).pred (a.tmps.getD 21 undef) wx from f21
        refine rely_wp rfl ?_
        exact opr_cv (RTag_cv _ _ (digL d) (wordsL is) D wx (hT.tables HT.out) f20 f21 (by rw [digL_length]; omega) (by omega) HD.out) rfl Tryd.func41 (by kernel_rfl) (by kernel_rfl) (by simp only [List.map_toArray, List.map_cons, List.map_nil, eval_tmp]) hK
      · intro wx hT
        intro u20 h; have g20 := h (by simp); clear h; replace g20 := show (svRd (digL d)).pred u20 wx from g20
        intro u21 h; have g21 := h (by simp); clear h; replace g21 := show (svRd (wordsL is)).pred u21 wx from g21
        intro u h; obtain rfl := h (by simp); clear h
        refine relyEnd_nil rfl ?_
        simp only [Act.put, List.setIfInBounds_toArray, List.set_cons_zero, List.set_cons_succ]
        refine opr_store_new (B := w.heap.size) (W := w) info31 rfl rfl rfl (hT.row r0) (NewT.trans _ _ _ hB1 hT) (Nat.le_succ _) ?_
        intro w9 hB9 r9
        go_simp
        go_wp2
        exact bodyPost_ret (results_row rfl _ rfl r9 Tryd.underlying26 info31) rfl ⟨_, rfl, hB9, rfl⟩
end Go.Proofs.YtcfogkimjbgjgaaDoor
/- The laws' bound on records. -/
namespace Go.Proofs.YtcfogkimjbgjgaaDoor
open Go Go.RowKit
set_option maxRecDepth 8000
set_option linter.all false
def greatB (x : Rc) : Bool := decide ((30 : Int) < (x.steps.length : Int)) || decide ((300 : Int) < (x.data.length : Int))
theorem not_great (x : Rc) (h : greatB x = false) : x.steps.length ≤ 30 ∧ x.data.length ≤ 300 := by
  unfold greatB at h
  simp at h
  omega
end Go.Proofs.YtcfogkimjbgjgaaDoor
/- The laws' own bound, and alive as a contract. -/
namespace Go.Proofs.YtcfogkimjbgjgaaDoor
open Go Go.RowKit
set_option maxRecDepth 8000
set_option linter.all false
set_option maxHeartbeats 400000 in
theorem Great_cv (v : Value) (x : Rc) (w : World) (h : RecV w v x) : Cv 11 #[v] w (.eq (.bool (greatB x))) := by
  obtain ⟨sv, dv, rfl, hs, hd⟩ := h
  unfold Cv
  have HX : Hid (RecV w (.agg (rowA 109 (recF x sv dv))) x) := Lib.hid ⟨sv, dv, rfl, hs, hd⟩
  have HS := Lib.hid hs
  have HD := Lib.hid hd
  clear hs hd
  go_enter Tryd.func11, Tryd.ntmps11
  go_upto_region 1 with fail
  have r1 := rowIs_box w 30 109 (recF x sv dv)
  have hN := NewT.alloc w (.cells (rowA 109 (recF x sv dv)) 30)
  change Code.wp _ _ _ _ (w.alloc (.cells (rowA 109 (recF x sv dv)) 30))
  generalize w.alloc (.cells (rowA 109 (recF x sv dv)) 30) = W0 at r1 hN ⊢
  have R1 := Lib.hid r1
  have HN := Lib.hid hN
  replace HX := Lib.hid (hN.recV HX.out)
  replace HS := Lib.hid (hN.pairs HS.out)
  replace HD := Lib.hid (hN.rd HD.out)
  clear r1 hN
  obtain ⟨q1_1, Q1_1⟩ : ∃ bq_, ((decide (30 < ((List.length (x.steps) : Int)))) || (decide (300 < ((List.length (x.data) : Int))))) = bq_ := ⟨_, rfl⟩
  refine wp_region_steps0 NewT [SV.eq (.pointer (some ⟨w.heap.size, 42, none⟩)), SV.eq (sv), SV.eq (.int .i64 ((List.length (x.steps) : Int))), SV.eq (.bool (decide (30 < ((List.length (x.steps) : Int))))), SV.eq (.bool (decide (30 < ((List.length (x.steps) : Int))))), svIf ((!(decide (30 < ((List.length (x.steps) : Int)))))) (SV.eq (.pointer (some ⟨w.heap.size, 43, none⟩))), svIf ((!(decide (30 < ((List.length (x.steps) : Int)))))) (SV.eq (dv)), svIf ((!(decide (30 < ((List.length (x.steps) : Int)))))) (SV.eq (.int .i64 ((List.length (x.data) : Int)))), svIf ((!(decide (30 < ((List.length (x.steps) : Int)))))) (SV.eq (.bool (decide (300 < ((List.length (x.data) : Int)))))), SV.eq (.bool (q1_1)), SV.eq (.bool (q1_1))] [([(1, none)], none), ([(3, some 0)], none), ([(4, some 1)], none), ([(5, some 2)], none), ([(6, some 3)], none), ([(1, none), (7, some 4)], some (7, false)), ([(8, some 5), (7, some 4)], some (7, false)), ([(9, some 6), (7, some 4)], some (7, false)), ([(10, some 7), (7, some 4)], some (7, false)), ([(7, some 4), (11, some 8)], none), ([(12, some 9)], none)] 13 11 rfl rfl (by kernel_rfl) NewT.trans (NewT.refl _) (Nat.le_of_ble_eq_true rfl) ⟨?_, ?_, ?_, ?_, ?_, ?_, ?_, ?_, ?_, ?_, ?_, trivial⟩ ?_
  · exact fun a wx hT hF K hK => rely_wp rfl (opr_fldR (by decide) rfl hF.1 (hK _ _ (NewT.refl _) rfl))
  · exact fun a wx hT hF K hK => rely_wp rfl (opr_ldS (hT.row R1.out) (by decide) rfl rfl hF.1 (hK _ _ (NewT.refl _) rfl))
  · intro a wx hT hF K hK
    obtain ⟨f4, _⟩ := hF
    have f4 : a.tmps.getD 4 undef = sv := f4
    refine rely_wp rfl ?_
    exact opr_len_pairs rfl (by rw [eval_tmp, f4]; exact (hT.pairs HS.out)) (hK _ _ (NewT.refl _) rfl)
  · exact fun a wx hT hF K hK => rely_wp rfl (opr_cmp (b := decide (30 < ((List.length (x.steps) : Int)))) (.inr (.inr (.inr (.inr (.inl ⟨rfl, rfl⟩))))) Tryd.underlying3 rfl hF.1 rfl (hK _ _ (NewT.refl _) rfl))
  · exact fun a wx hT hF K hK => rely_wp rfl (opr_move (.inl rfl) (hK _ _ (NewT.refl _) hF.1))
  · exact fun a wx hT hF K hK => rely_if (rely_gf hF.2.1) (NewT.refl _) hK fun hE hK => opr_fldR (by decide) rfl hF.1 (hK _ _ (NewT.refl _) rfl)
  · exact fun a wx hT hF K hK => rely_if (rely_gf hF.2.1) (NewT.refl _) hK fun hE hK => opr_ldB (hT.row R1.out) (by decide) rfl rfl (hF.1 hE) (hK _ _ (NewT.refl _) rfl)
  · intro a wx hT hF K hK
    obtain ⟨f9, f7, _⟩ := hF
    have f9 : ((!(decide (30 < ((List.length (x.steps) : Int)))))) = true → a.tmps.getD 9 undef = dv := f9
    have f7 : a.tmps.getD 7 undef = .bool (decide (30 < ((List.length (x.steps) : Int)))) := f7
    refine rely_if (rely_gf f7) (NewT.refl _) hK (fun hE hK => ?_)
    exact opr_len_rd rfl (by rw [eval_tmp, (f9 hE)]; exact (hT.rd HD.out)) (hK _ _ (NewT.refl _) rfl)
  · exact fun a wx hT hF K hK => rely_if (rely_gf hF.2.1) (NewT.refl _) hK fun hE hK => opr_cmp (b := decide (300 < ((List.length (x.data) : Int)))) (.inr (.inr (.inr (.inr (.inl ⟨rfl, rfl⟩))))) Tryd.underlying3 rfl (hF.1 hE) rfl (hK _ _ (NewT.refl _) rfl)
  · exact fun a wx hT hF K hK => rely_wp rfl (opr_pick_b rfl hF.1 (fun hb => hK _ _ (NewT.refl _) (pn_or1 Q1_1 hb)) (fun hb => hK _ _ (NewT.refl _) (pn_or0 Q1_1 (hF.2.1 (bnot hb)) hb)))
  · exact fun a wx hT hF K hK => rely_wp rfl (opr_move (.inr rfl) (hK _ _ (NewT.refl _) hF.1))
  · intro wx hT
    iterate 5 (intro u h; obtain rfl := Eq.symm (h (by simp)); clear h)
    iterate 4 (intro _ _)
    iterate 2 (intro u h; obtain rfl := Eq.symm (h (by simp)); clear h)
    subst Q1_1
    refine relyEnd_nil rfl ?_
    refine wpList_end rfl ?_
    simp only [Act.put, List.setIfInBounds_toArray, List.set_cons_zero, List.set_cons_succ]
    go_simp
    go_wp2
    go_ret
    exact ⟨_, rfl, NewT.trans _ _ _ HN.out hT, rfl⟩
end Go.Proofs.YtcfogkimjbgjgaaDoor
/- The reference's Right, walked: what it answers, as its text goes. -/
namespace Go.Proofs.YtcfogkimjbgjgaaDoor
open Go Go.RowKit
set_option maxRecDepth 8000
set_option linter.all false
def begQ (x : Rc) : Bool := x.kind == 1
def callQ (x : Rc) : Bool := decide (2 ≤ x.kind) && decide (x.kind ≤ 4)
def recQ (x : Rc) : Bool := x.kind == 3
/-- What the reference's text says. -/
def refR (x : Rc) : Bool :=
  if (((((decide (x.kind < 1)) || (decide (6 < x.kind))) || (!(inR x.saga 0 11))) || ((x.kind == 6) && (x.saga != 0)))) = true then false else if (if ((callQ x) || (x.kind == 5)) = true then (!(inR x.seq 1 400)) else (x.seq != 0)) = true then false else if ((((callQ x) && ((!(inR x.step 0 5)) || (!(inR x.tr 1 9)))) || ((!(callQ x)) && (((x.step != 0) || (x.tr != 0)) || x.back)))) = true then false else if (((((!(recQ x)) && (x.good || (!(eqH (x.tag) (fun _ => 0))))) || ((x.kind == 5) && (!(inR x.nd 2 4)))) || ((x.kind != 5) && (x.nd != 0)))) = true then false else if ((((recQ x) && ((!(inR x.part 0 3)) || (!(inR x.epoch 0 400)))) || ((x.kind == 6) && ((!(inR x.part 0 3)) || (!(inR x.epoch 1 400)))))) = true then false else if ((((!(recQ x)) && (x.kind != 6)) && ((x.part != 0) || (x.epoch != 0)))) = true then false
  else if (!(begQ x)) = true then ((((((((List.length (x.steps) : Int)) == 0) && (((List.length (x.data) : Int)) == 0)) && (eqH (x.salt) (fun _ => 0))) && (!x.gone)) && (eqH (x.com) (fun _ => 0)))) else if x.steps.all stepOk = false then false else if (((!(inR ((List.length (x.steps) : Int)) 1 6)) || (decide (60 < ((List.length (x.data) : Int)))))) = true then false else if x.gone = true then (((((List.length (x.data) : Int)) == 0) && (eqH (x.salt) (fun _ => 0)))) else (eqH (x.com) (fun _ => 0))
set_option maxHeartbeats 8000000 in
theorem RRightR_cv (v : Value) (x : Rc) (w : World) (h : RecV w v x) : Cv 24 #[v] w (.eq (.bool (refR x))) := by
  obtain ⟨sv, dv, rfl, hs, hd⟩ := h
  unfold Cv
  have HX : Hid (RecV w (.agg (rowA 109 (recF x sv dv))) x) := Lib.hid ⟨sv, dv, rfl, hs, hd⟩
  have HS := Lib.hid hs
  have HD := Lib.hid hd
  clear hs hd
  go_enter Tryd.func24, Tryd.ntmps24
  go_upto_region 2 with fail
  have r1 := (rowIs_box w 30 109 (recF x sv dv)).alloc (.cells (rowA 32 (bF fun _ => 0)) 26)
  have r3 := rowIs_box (w.alloc (.cells (rowA 109 (recF x sv dv)) 30)) 26 32 (bF fun _ => 0)
  have hN : NewT w ((w.alloc (.cells (rowA 109 (recF x sv dv)) 30)).alloc (.cells (rowA 32 (bF fun _ => 0)) 26)) := NewT.trans _ _ _ (NewT.alloc _ _) (NewT.alloc _ _)
  rw [World.size_alloc] at r3
  change Code.wp _ _ _ _ ((w.alloc (.cells (rowA 109 (recF x sv dv)) 30)).alloc (.cells (rowA 32 (bF fun _ => 0)) 26))
  generalize (w.alloc (.cells (rowA 109 (recF x sv dv)) 30)).alloc (.cells (rowA 32 (bF fun _ => 0)) 26) = W0 at r1 r3 hN ⊢
  have R1 := Lib.hid r1
  have R3 := Lib.hid r3
  have HN := Lib.hid hN
  replace HS := Lib.hid (hN.pairs HS.out)
  replace HD := Lib.hid (hN.rd HD.out)
  clear r1 r3 hN HX
  obtain ⟨q1_2, Q1_2⟩ : ∃ bq_, ((decide (2 ≤ x.kind)) && (decide (x.kind ≤ 4))) = bq_ := ⟨_, rfl⟩
  refine wp_region_rely (NewT) [SV.eq (.pointer (some ⟨w.heap.size, 0, none⟩)), SV.eq (.int .i64 (x.kind)), SV.eq (.bool (x.kind == 1)), SV.eq (.pointer (some ⟨w.heap.size, 0, none⟩)), SV.eq (.int .i64 (x.kind)), SV.eq (.bool (decide (2 ≤ x.kind))), SV.eq (.bool (decide (2 ≤ x.kind))), svIf (decide (2 ≤ x.kind)) (SV.eq (.pointer (some ⟨w.heap.size, 0, none⟩))), svIf (decide (2 ≤ x.kind)) (SV.eq (.int .i64 (x.kind))), svIf (decide (2 ≤ x.kind)) (SV.eq (.bool (decide (x.kind ≤ 4)))), SV.eq (.bool (q1_2)), SV.eq (.pointer (some ⟨w.heap.size, 0, none⟩)), SV.eq (.int .i64 (x.kind)), SV.eq (.bool (x.kind == 3)), SV.eq (.bool (x.kind == 1)), SV.eq (.bool (q1_2))] [([(1, none)], none), ([(8, some 0)], none), ([(9, some 1)], none), ([(1, none)], none), ([(11, some 3)], none), ([(12, some 4)], none), ([(13, some 5)], none), ([(1, none), (14, some 6)], some (14, true)), ([(15, some 7), (14, some 6)], some (14, true)), ([(16, some 8), (14, some 6)], some (14, true)), ([(14, some 6), (17, some 9)], none), ([(1, none)], none), ([(19, some 11)], none), ([(20, some 12)], none), ([(10, some 2)], none), ([(18, some 10)], none)] 251 rfl (by kernel_rfl) rfl (by kernel_rfl) (by kernel_rfl) rfl NewT.trans (NewT.drew _) (Nat.le_of_ble_eq_true rfl) ⟨?_, ?_, ?_, ?_, ?_, ?_, ?_, ?_, ?_, ?_, ?_, ?_, ?_, ?_, ?_, ?_, trivial⟩ ?_
  · exact fun a wx hT hF K hK => rely_wp rfl (opr_fldR (by decide) rfl hF.1 (hK _ _ (NewT.refl _) rfl))
  · exact fun a wx hT hF K hK => rely_wp rfl (opr_ldI (hT.row R1.out) (by decide) rfl rfl hF.1 (hK _ _ (NewT.refl _) rfl))
  · exact fun a wx hT hF K hK => rely_wp rfl (opr_cmp (b := x.kind == 1) (.inl ⟨rfl, rfl⟩) Tryd.underlying3 rfl hF.1 rfl (hK _ _ (NewT.refl _) rfl))
  · exact fun a wx hT hF K hK => rely_wp rfl (opr_fldR (by decide) rfl hF.1 (hK _ _ (NewT.refl _) rfl))
  · exact fun a wx hT hF K hK => rely_wp rfl (opr_ldI (hT.row R1.out) (by decide) rfl rfl hF.1 (hK _ _ (NewT.refl _) rfl))
  · exact fun a wx hT hF K hK => rely_wp rfl (opr_cmp (b := decide (2 ≤ x.kind)) (.inr (.inr (.inr (.inr (.inr (⟨rfl, rfl⟩)))))) Tryd.underlying3 rfl hF.1 rfl (hK _ _ (NewT.refl _) rfl))
  · exact fun a wx hT hF K hK => rely_wp rfl (opr_move (.inl rfl) (hK _ _ (NewT.refl _) hF.1))
  · exact fun a wx hT hF K hK => rely_if (rely_gt hF.2.1) (NewT.refl _) hK fun hE hK => opr_fldR (by decide) rfl hF.1 (hK _ _ (NewT.refl _) rfl)
  · exact fun a wx hT hF K hK => rely_if (rely_gt hF.2.1) (NewT.refl _) hK fun hE hK => opr_ldI (hT.row R1.out) (by decide) rfl rfl (hF.1 hE) (hK _ _ (NewT.refl _) rfl)
  · exact fun a wx hT hF K hK => rely_if (rely_gt hF.2.1) (NewT.refl _) hK fun hE hK => opr_cmp (b := decide (x.kind ≤ 4)) (.inr (.inr (.inl ⟨rfl, rfl⟩))) Tryd.underlying3 rfl (hF.1 hE) rfl (hK _ _ (NewT.refl _) rfl)
  · exact fun a wx hT hF K hK => rely_wp rfl (opr_pick_b rfl hF.1 (fun hb => hK _ _ (NewT.refl _) (pn_and1 Q1_2 (hF.2.1 hb) hb)) (fun hb => hK _ _ (NewT.refl _) (pn_and0 Q1_2 hb)))
  · exact fun a wx hT hF K hK => rely_wp rfl (opr_fldR (by decide) rfl hF.1 (hK _ _ (NewT.refl _) rfl))
  · exact fun a wx hT hF K hK => rely_wp rfl (opr_ldI (hT.row R1.out) (by decide) rfl rfl hF.1 (hK _ _ (NewT.refl _) rfl))
  · exact fun a wx hT hF K hK => rely_wp rfl (opr_cmp (b := x.kind == 3) (.inl ⟨rfl, rfl⟩) Tryd.underlying3 rfl hF.1 rfl (hK _ _ (NewT.refl _) rfl))
  · exact fun a wx hT hF K hK => rely_wp rfl (opr_move (.inr rfl) (hK _ _ (NewT.refl _) hF.1))
  · exact fun a wx hT hF K hK => rely_wp rfl (opr_move (.inr rfl) (hK _ _ (NewT.refl _) hF.1))
  · intro w2 k2
    iterate 7 (intro u h; obtain rfl := Eq.symm (h (by simp)); clear h)
    iterate 3 (intro _ _)
    iterate 6 (intro u h; obtain rfl := Eq.symm (h (by simp)); clear h)
    subst Q1_2
    refine relyEnd_nil rfl ?_
    simp only [Act.put, List.setIfInBounds_toArray, List.set_cons_zero, List.set_cons_succ]
    refine opr_move (.inr rfl) ?_
    go_simp
    replace R1 := Lib.hid (k2.row R1.out)
    replace R3 := Lib.hid (k2.row R3.out)
    replace HS := Lib.hid (k2.pairs HS.out)
    replace HD := Lib.hid (k2.rd HD.out)
    replace HN := Lib.hid (NewT.trans _ _ _ HN.out k2)
    clear k2
    go_upto_region 3 with fail
    obtain ⟨q1_3, Q1_3⟩ : ∃ bq_, ((decide (x.kind < 1)) || (decide (6 < x.kind))) = bq_ := ⟨_, rfl⟩
    obtain ⟨q2_3, Q2_3⟩ : ∃ bq_, ((q1_3 || (!(inR x.saga 0 11))) || ((x.kind == 6) && (x.saga != 0))) = bq_ := ⟨_, rfl⟩
    refine wp_region_steps0 NewT [SV.eq (.pointer (some ⟨w.heap.size, 0, none⟩)), SV.eq (.int .i64 (x.kind)), SV.eq (.bool (decide (x.kind < 1))), SV.eq (.bool (decide (x.kind < 1))), svIf ((!(decide (x.kind < 1)))) (SV.eq (.pointer (some ⟨w.heap.size, 0, none⟩))), svIf ((!(decide (x.kind < 1)))) (SV.eq (.int .i64 (x.kind))), svIf ((!(decide (x.kind < 1)))) (SV.eq (.bool (decide (6 < x.kind)))), SV.eq (.bool (q1_3)), SV.eq (.bool (q1_3)), svIf ((!q1_3)) (SV.eq (.pointer (some ⟨w.heap.size, 1, none⟩))), svIf ((!q1_3)) (SV.eq (.int .i64 (x.saga))), svIf ((!q1_3)) (SV.eq (.bool (inR x.saga 0 11))), svIf ((!q1_3)) (SV.eq (.bool (!(inR x.saga 0 11)))), SV.eq (.bool (q1_3 || (!(inR x.saga 0 11)))), SV.eq (.bool (q1_3 || (!(inR x.saga 0 11)))), svIf ((!(q1_3 || (!(inR x.saga 0 11))))) (SV.eq (.pointer (some ⟨w.heap.size, 0, none⟩))), svIf ((!(q1_3 || (!(inR x.saga 0 11))))) (SV.eq (.int .i64 (x.kind))), svIf ((!(q1_3 || (!(inR x.saga 0 11))))) (SV.eq (.bool (x.kind == 6))), SV.eq (gV ((!(q1_3 || (!(inR x.saga 0 11))))) (x.kind == 6)), svIf ((!(q1_3 || (!(inR x.saga 0 11)))) && x.kind == 6) (SV.eq (.pointer (some ⟨w.heap.size, 1, none⟩))), svIf ((!(q1_3 || (!(inR x.saga 0 11)))) && x.kind == 6) (SV.eq (.int .i64 (x.saga))), svIf ((!(q1_3 || (!(inR x.saga 0 11)))) && x.kind == 6) (SV.eq (.bool (x.saga != 0))), svIf ((!(q1_3 || (!(inR x.saga 0 11))))) (SV.eq (.bool ((x.kind == 6) && (x.saga != 0)))), SV.eq (.bool (q2_3))] [([(1, none)], none), ([(22, some 0)], none), ([(23, some 1)], none), ([(24, some 2)], none), ([(1, none), (25, some 3)], some (25, false)), ([(26, some 4), (25, some 3)], some (25, false)), ([(27, some 5), (25, some 3)], some (25, false)), ([(25, some 3), (28, some 6)], none), ([(29, some 7)], none), ([(1, none), (30, some 8)], some (30, false)), ([(31, some 9), (30, some 8)], some (30, false)), ([(32, some 10), (30, some 8)], some (30, false)), ([(33, some 11), (30, some 8)], some (30, false)), ([(30, some 8), (34, some 12)], none), ([(35, some 13)], none), ([(1, none), (36, some 14)], some (36, false)), ([(37, some 15), (36, some 14)], some (36, false)), ([(38, some 16), (36, some 14)], some (36, false)), ([(39, some 17), (36, some 14)], some (36, false)), ([(1, none), (40, some 18)], some (40, true)), ([(41, some 19), (40, some 18)], some (40, true)), ([(42, some 20), (40, some 18)], some (40, true)), ([(40, some 18), (43, some 21), (36, some 14)], some (36, false)), ([(36, some 14), (44, some 22)], none)] 251 24 rfl rfl (by kernel_rfl) NewT.trans (NewT.refl _) (Nat.le_of_ble_eq_true rfl) ⟨?_, ?_, ?_, ?_, ?_, ?_, ?_, ?_, ?_, ?_, ?_, ?_, ?_, ?_, ?_, ?_, ?_, ?_, ?_, ?_, ?_, ?_, ?_, ?_, trivial⟩ ?_
    · exact fun a wx hT hF K hK => rely_wp rfl (opr_fldR (by decide) rfl hF.1 (hK _ _ (NewT.refl _) rfl))
    · exact fun a wx hT hF K hK => rely_wp rfl (opr_ldI (hT.row R1.out) (by decide) rfl rfl hF.1 (hK _ _ (NewT.refl _) rfl))
    · exact fun a wx hT hF K hK => rely_wp rfl (opr_cmp (b := decide (x.kind < 1)) (.inr (.inr (.inr (.inl ⟨rfl, rfl⟩)))) Tryd.underlying3 rfl hF.1 rfl (hK _ _ (NewT.refl _) rfl))
    · exact fun a wx hT hF K hK => rely_wp rfl (opr_move (.inl rfl) (hK _ _ (NewT.refl _) hF.1))
    · exact fun a wx hT hF K hK => rely_if (rely_gf hF.2.1) (NewT.refl _) hK fun hE hK => opr_fldR (by decide) rfl hF.1 (hK _ _ (NewT.refl _) rfl)
    · exact fun a wx hT hF K hK => rely_if (rely_gf hF.2.1) (NewT.refl _) hK fun hE hK => opr_ldI (hT.row R1.out) (by decide) rfl rfl (hF.1 hE) (hK _ _ (NewT.refl _) rfl)
    · exact fun a wx hT hF K hK => rely_if (rely_gf hF.2.1) (NewT.refl _) hK fun hE hK => opr_cmp (b := decide (6 < x.kind)) (.inr (.inr (.inr (.inr (.inl ⟨rfl, rfl⟩))))) Tryd.underlying3 rfl (hF.1 hE) rfl (hK _ _ (NewT.refl _) rfl)
    · exact fun a wx hT hF K hK => rely_wp rfl (opr_pick_b rfl hF.1 (fun hb => hK _ _ (NewT.refl _) (pn_or1 Q1_3 hb)) (fun hb => hK _ _ (NewT.refl _) (pn_or0 Q1_3 (hF.2.1 (bnot hb)) hb)))
    · exact fun a wx hT hF K hK => rely_wp rfl (opr_move (.inl rfl) (hK _ _ (NewT.refl _) hF.1))
    · exact fun a wx hT hF K hK => rely_if (rely_gf hF.2.1) (NewT.refl _) hK fun hE hK => opr_fldR (by decide) rfl hF.1 (hK _ _ (NewT.refl _) rfl)
    · exact fun a wx hT hF K hK => rely_if (rely_gf hF.2.1) (NewT.refl _) hK fun hE hK => opr_ldI (hT.row R1.out) (by decide) rfl rfl (hF.1 hE) (hK _ _ (NewT.refl _) rfl)
    · exact fun a wx hT hF K hK => rely_if (rely_gf hF.2.1) (NewT.refl _) hK fun hE hK => opr_cv (refIn_cv x.saga 0 11 wx) rfl Tryd.func43 (by kernel_rfl) (by kernel_rfl) (evs3 (hF.1 hE) rfl rfl) hK
    · exact fun a wx hT hF K hK => rely_if (rely_gf hF.2.1) (NewT.refl _) hK fun hE hK => opr_not rfl (hF.1 hE) (hK _ _ (NewT.refl _) rfl)
    · exact fun a wx hT hF K hK => rely_wp rfl (opr_pick_b rfl hF.1 (fun hb => hK _ _ (NewT.refl _) (pk_or1 hb)) (fun hb => hK _ _ (NewT.refl _) (pk_or0 (hF.2.1 (bnot hb)) hb)))
    · exact fun a wx hT hF K hK => rely_wp rfl (opr_move (.inl rfl) (hK _ _ (NewT.refl _) hF.1))
    · exact fun a wx hT hF K hK => rely_if (rely_gf hF.2.1) (NewT.refl _) hK fun hE hK => opr_fldR (by decide) rfl hF.1 (hK _ _ (NewT.refl _) rfl)
    · exact fun a wx hT hF K hK => rely_if (rely_gf hF.2.1) (NewT.refl _) hK fun hE hK => opr_ldI (hT.row R1.out) (by decide) rfl rfl (hF.1 hE) (hK _ _ (NewT.refl _) rfl)
    · exact fun a wx hT hF K hK => rely_if (rely_gf hF.2.1) (NewT.refl _) hK fun hE hK => opr_cmp (b := x.kind == 6) (.inl ⟨rfl, rfl⟩) Tryd.underlying3 rfl (hF.1 hE) rfl (hK _ _ (NewT.refl _) rfl)
    · exact fun a wx hT hF K hK => rely_ifg (rely_gf hF.2.1) (NewT.refl _) hK fun hE hK => opr_move (.inl rfl) (hK _ _ (NewT.refl _) (hF.1 hE))
    · exact fun a wx hT hF K hK => rely_if (rely_ggt hF.2.1) (NewT.refl _) hK fun hE hK => opr_fldR (by decide) rfl hF.1 (hK _ _ (NewT.refl _) rfl)
    · exact fun a wx hT hF K hK => rely_if (rely_ggt hF.2.1) (NewT.refl _) hK fun hE hK => opr_ldI (hT.row R1.out) (by decide) rfl rfl (hF.1 hE) (hK _ _ (NewT.refl _) rfl)
    · exact fun a wx hT hF K hK => rely_if (rely_ggt hF.2.1) (NewT.refl _) hK fun hE hK => opr_cmp (b := x.saga != 0) (.inr (.inl ⟨rfl, rfl⟩)) Tryd.underlying3 rfl (hF.1 hE) rfl (hK _ _ (NewT.refl _) rfl)
    · exact fun a wx hT hF K hK => rely_if (rely_gf hF.2.2.1) (NewT.refl _) hK fun hE hK => opr_pick_b rfl (hF.1.trans (gV_on hE)) (fun hb => hK _ _ (NewT.refl _) (pk_and1 (hF.2.1 (band hE hb)) hb)) (fun hb => hK _ _ (NewT.refl _) (pk_and0 hb))
    · exact fun a wx hT hF K hK => rely_wp rfl (opr_pick_b rfl hF.1 (fun hb => hK _ _ (NewT.refl _) (pn_or1 Q2_3 hb)) (fun hb => hK _ _ (NewT.refl _) (pn_or0 Q2_3 (hF.2.1 (bnot hb)) hb)))
    · intro w3 k3
      iterate 4 (intro u h; obtain rfl := Eq.symm (h (by simp)); clear h)
      iterate 3 (intro _ _)
      iterate 2 (intro u h; obtain rfl := Eq.symm (h (by simp)); clear h)
      iterate 4 (intro _ _)
      iterate 2 (intro u h; obtain rfl := Eq.symm (h (by simp)); clear h)
      iterate 8 (intro _ _)
      intro u h; obtain rfl := Eq.symm (h (by simp)); clear h
      subst Q2_3 Q1_3
      refine relyEnd_nil rfl ?_
      refine wpList_end rfl ?_
      simp only [Act.put, List.setIfInBounds_toArray, List.set_cons_zero, List.set_cons_succ]
      go_simp
      replace R1 := Lib.hid (k3.row R1.out)
      replace R3 := Lib.hid (k3.row R3.out)
      replace HS := Lib.hid (k3.pairs HS.out)
      replace HD := Lib.hid (k3.rd HD.out)
      replace HN := Lib.hid (NewT.trans _ _ _ HN.out k3)
      clear k3
      cases hb3 : (((((decide (x.kind < 1)) || (decide (6 < x.kind))) || (!(inR x.saga 0 11))) || ((x.kind == 6) && (x.saga != 0))))
      rotate_left
      · have HB3 := Lib.hid hb3
        clear hb3
        go_wp2
        go_ret
        exact ⟨_, rfl, HN.out, by unfold refR; rw [if_pos HB3.out]; rfl⟩
      have HB3 := Lib.hid hb3
      clear hb3
      go_upto_region 5 with fail
      refine wp_region_steps0 NewT [SV.eq (.bool (callQ x)), SV.eq (.bool (callQ x)), svIf ((!(callQ x))) (SV.eq (.pointer (some ⟨w.heap.size, 0, none⟩))), svIf ((!(callQ x))) (SV.eq (.int .i64 (x.kind))), svIf ((!(callQ x))) (SV.eq (.bool (x.kind == 5))), SV.eq (.bool ((callQ x) || (x.kind == 5)))] [([(5, none)], none), ([(46, some 0)], none), ([(1, none), (47, some 1)], some (47, false)), ([(48, some 2), (47, some 1)], some (47, false)), ([(49, some 3), (47, some 1)], some (47, false)), ([(47, some 1), (50, some 4)], none)] 251 6 rfl rfl (by kernel_rfl) NewT.trans (NewT.refl _) (Nat.le_of_ble_eq_true rfl) ⟨?_, ?_, ?_, ?_, ?_, ?_, trivial⟩ ?_
      · exact fun a wx hT hF K hK => rely_wp rfl (opr_move (.inl rfl) (hK _ _ (NewT.refl _) hF.1))
      · exact fun a wx hT hF K hK => rely_wp rfl (opr_move (.inl rfl) (hK _ _ (NewT.refl _) hF.1))
      · exact fun a wx hT hF K hK => rely_if (rely_gf hF.2.1) (NewT.refl _) hK fun hE hK => opr_fldR (by decide) rfl hF.1 (hK _ _ (NewT.refl _) rfl)
      · exact fun a wx hT hF K hK => rely_if (rely_gf hF.2.1) (NewT.refl _) hK fun hE hK => opr_ldI (hT.row R1.out) (by decide) rfl rfl (hF.1 hE) (hK _ _ (NewT.refl _) rfl)
      · exact fun a wx hT hF K hK => rely_if (rely_gf hF.2.1) (NewT.refl _) hK fun hE hK => opr_cmp (b := x.kind == 5) (.inl ⟨rfl, rfl⟩) Tryd.underlying3 rfl (hF.1 hE) rfl (hK _ _ (NewT.refl _) rfl)
      · exact fun a wx hT hF K hK => rely_wp rfl (opr_pick_b rfl hF.1 (fun hb => hK _ _ (NewT.refl _) (pk_or1 hb)) (fun hb => hK _ _ (NewT.refl _) (pk_or0 (hF.2.1 (bnot hb)) hb)))
      · intro w5 k5
        iterate 2 (intro u h; obtain rfl := Eq.symm (h (by simp)); clear h)
        iterate 3 (intro _ _)
        intro u h; obtain rfl := Eq.symm (h (by simp)); clear h
        refine relyEnd_nil rfl ?_
        refine wpList_end rfl ?_
        simp only [Act.put, List.setIfInBounds_toArray, List.set_cons_zero, List.set_cons_succ]
        go_simp
        replace R1 := Lib.hid (k5.row R1.out)
        replace R3 := Lib.hid (k5.row R3.out)
        replace HS := Lib.hid (k5.pairs HS.out)
        replace HD := Lib.hid (k5.rd HD.out)
        replace HN := Lib.hid (NewT.trans _ _ _ HN.out k5)
        clear k5
        go_upto_if 51 with fail
        go_cut [] from 8 (fun wy => NewT w5 wy ∧ Hid ((if ((callQ x) || (x.kind == 5)) = true then (!(inR x.seq 1 400)) else (x.seq != 0)) = false))
        case first =>
          cases hb5 : ((callQ x) || (x.kind == 5))
          · have HB5 := Lib.hid hb5
            clear hb5
            go_upto_region 8 with fail
            refine wp_region_steps0 NewT [SV.eq (.pointer (some ⟨w.heap.size, 2, none⟩)), SV.eq (.int .i64 (x.seq)), SV.eq (.bool (x.seq != 0))] [([(1, none)], none), ([(56, some 0)], none), ([(57, some 1)], none)] 251 3 rfl rfl (by kernel_rfl) NewT.trans (NewT.refl _) (Nat.le_of_ble_eq_true rfl) ⟨?_, ?_, ?_, trivial⟩ ?_
            · exact fun a wx hT hF K hK => rely_wp rfl (opr_fldR (by decide) rfl hF.1 (hK _ _ (NewT.refl _) rfl))
            · exact fun a wx hT hF K hK => rely_wp rfl (opr_ldI (hT.row R1.out) (by decide) rfl rfl hF.1 (hK _ _ (NewT.refl _) rfl))
            · exact fun a wx hT hF K hK => rely_wp rfl (opr_cmp (b := x.seq != 0) (.inr (.inl ⟨rfl, rfl⟩)) Tryd.underlying3 rfl hF.1 rfl (hK _ _ (NewT.refl _) rfl))
            · intro w8 k8
              iterate 3 (intro u h; obtain rfl := Eq.symm (h (by simp)); clear h)
              refine relyEnd_nil rfl ?_
              refine wpList_end rfl ?_
              simp only [Act.put, List.setIfInBounds_toArray, List.set_cons_zero, List.set_cons_succ]
              go_simp
              cases hb8 : (x.seq != 0)
              · refine ?_
                have HB8 := Lib.hid hb8
                clear hb8
                go_wp2
                go_meet
                case rel => exact ⟨k8, Lib.hid (by rw [if_neg (by rw [HB5.out]; decide)]; exact HB8.out)⟩
              · have HB8 := Lib.hid hb8
                clear hb8
                go_wp2
                go_ret
                exact ⟨_, rfl, NewT.trans _ _ _ HN.out k8, by unfold refR; rw [if_neg (by rw [HB3.out]; decide)]; rw [if_pos (by rw [if_neg (by rw [HB5.out]; decide)]; exact HB8.out)]; rfl⟩
          · have HB5 := Lib.hid hb5
            clear hb5
            go_upto_region 6 with fail
            refine wp_region_steps0 NewT [SV.eq (.pointer (some ⟨w.heap.size, 2, none⟩)), SV.eq (.int .i64 (x.seq)), SV.eq (.bool (inR x.seq 1 400)), SV.eq (.bool (!(inR x.seq 1 400)))] [([(1, none)], none), ([(52, some 0)], none), ([(53, some 1)], none), ([(54, some 2)], none)] 251 4 rfl rfl (by kernel_rfl) NewT.trans (NewT.refl _) (Nat.le_of_ble_eq_true rfl) ⟨?_, ?_, ?_, ?_, trivial⟩ ?_
            · exact fun a wx hT hF K hK => rely_wp rfl (opr_fldR (by decide) rfl hF.1 (hK _ _ (NewT.refl _) rfl))
            · exact fun a wx hT hF K hK => rely_wp rfl (opr_ldI (hT.row R1.out) (by decide) rfl rfl hF.1 (hK _ _ (NewT.refl _) rfl))
            · exact fun a wx hT hF K hK => rely_wp rfl (opr_cv (refIn_cv x.seq 1 400 wx) rfl Tryd.func43 (by kernel_rfl) (by kernel_rfl) (evs3 hF.1 rfl rfl) hK)
            · exact fun a wx hT hF K hK => rely_wp rfl (opr_not rfl hF.1 (hK _ _ (NewT.refl _) rfl))
            · intro w6 k6
              iterate 4 (intro u h; obtain rfl := Eq.symm (h (by simp)); clear h)
              refine relyEnd_nil rfl ?_
              refine wpList_end rfl ?_
              simp only [Act.put, List.setIfInBounds_toArray, List.set_cons_zero, List.set_cons_succ]
              go_simp
              cases hb6 : (!(inR x.seq 1 400))
              · refine ?_
                have HB6 := Lib.hid hb6
                clear hb6
                go_wp2
                go_meet
                case rel => exact ⟨k6, Lib.hid (by rw [if_pos HB5.out]; exact HB6.out)⟩
              · have HB6 := Lib.hid hb6
                clear hb6
                go_wp2
                go_ret
                exact ⟨_, rfl, NewT.trans _ _ _ HN.out k6, by unfold refR; rw [if_neg (by rw [HB3.out]; decide)]; rw [if_pos (by rw [if_pos HB5.out]; exact HB6.out)]; rfl⟩
        case rest =>
          obtain ⟨kc, HB6⟩ := hcut
          replace R1 := Lib.hid (kc.row R1.out)
          replace R3 := Lib.hid (kc.row R3.out)
          replace HS := Lib.hid (kc.pairs HS.out)
          replace HD := Lib.hid (kc.rd HD.out)
          replace HN := Lib.hid (NewT.trans _ _ _ HN.out kc)
          clear kc
          go_upto_region 10 with fail
          obtain ⟨q1_10, Q1_10⟩ : ∃ bq_, ((!(inR x.step 0 5)) || (!(inR x.tr 1 9))) = bq_ := ⟨_, rfl⟩
          obtain ⟨q2_10, Q2_10⟩ : ∃ bq_, (((x.step != 0) || (x.tr != 0)) || x.back) = bq_ := ⟨_, rfl⟩
          obtain ⟨q3_10, Q3_10⟩ : ∃ bq_, (((callQ x) && q1_10) || ((!(callQ x)) && q2_10)) = bq_ := ⟨_, rfl⟩
          refine wp_region_steps0 NewT [SV.eq (.bool (callQ x)), SV.eq (.bool (callQ x)), svIf (callQ x) (SV.eq (.pointer (some ⟨w.heap.size, 3, none⟩))), svIf (callQ x) (SV.eq (.int .i64 (x.step))), svIf (callQ x) (SV.eq (.bool (inR x.step 0 5))), svIf (callQ x) (SV.eq (.bool (!(inR x.step 0 5)))), SV.eq (gV (callQ x) (!(inR x.step 0 5))), svIf (callQ x && (!(!(inR x.step 0 5)))) (SV.eq (.pointer (some ⟨w.heap.size, 4, none⟩))), svIf (callQ x && (!(!(inR x.step 0 5)))) (SV.eq (.int .i64 (x.tr))), svIf (callQ x && (!(!(inR x.step 0 5)))) (SV.eq (.bool (inR x.tr 1 9))), svIf (callQ x && (!(!(inR x.step 0 5)))) (SV.eq (.bool (!(inR x.tr 1 9)))), svIf (callQ x) (SV.eq (.bool (q1_10))), SV.eq (.bool ((callQ x) && q1_10)), SV.eq (.bool ((callQ x) && q1_10)), svIf ((!((callQ x) && q1_10))) (SV.eq (.bool (callQ x))), svIf ((!((callQ x) && q1_10))) (SV.eq (.bool (!(callQ x)))), SV.eq (gV ((!((callQ x) && q1_10))) (!(callQ x))), svIf ((!((callQ x) && q1_10)) && !(callQ x)) (SV.eq (.pointer (some ⟨w.heap.size, 3, none⟩))), svIf ((!((callQ x) && q1_10)) && !(callQ x)) (SV.eq (.int .i64 (x.step))), svIf ((!((callQ x) && q1_10)) && !(callQ x)) (SV.eq (.bool (x.step != 0))), SV.eq (gV ((!((callQ x) && q1_10)) && !(callQ x)) (x.step != 0)), svIf (((!((callQ x) && q1_10)) && !(callQ x)) && (!(x.step != 0))) (SV.eq (.pointer (some ⟨w.heap.size, 4, none⟩))), svIf (((!((callQ x) && q1_10)) && !(callQ x)) && (!(x.step != 0))) (SV.eq (.int .i64 (x.tr))), svIf (((!((callQ x) && q1_10)) && !(callQ x)) && (!(x.step != 0))) (SV.eq (.bool (x.tr != 0))), svIf ((!((callQ x) && q1_10)) && !(callQ x)) (SV.eq (.bool ((x.step != 0) || (x.tr != 0)))), SV.eq (gV ((!((callQ x) && q1_10)) && !(callQ x)) ((x.step != 0) || (x.tr != 0))), svIf (((!((callQ x) && q1_10)) && !(callQ x)) && (!((x.step != 0) || (x.tr != 0)))) (SV.eq (.pointer (some ⟨w.heap.size, 5, none⟩))), svIf (((!((callQ x) && q1_10)) && !(callQ x)) && (!((x.step != 0) || (x.tr != 0)))) (SV.eq (.bool (x.back))), svIf ((!((callQ x) && q1_10)) && !(callQ x)) (SV.eq (.bool (q2_10))), svIf ((!((callQ x) && q1_10))) (SV.eq (.bool ((!(callQ x)) && q2_10))), SV.eq (.bool (q3_10))] [([(5, none)], none), ([(59, some 0)], none), ([(1, none), (60, some 1)], some (60, true)), ([(61, some 2), (60, some 1)], some (60, true)), ([(62, some 3), (60, some 1)], some (60, true)), ([(63, some 4), (60, some 1)], some (60, true)), ([(64, some 5), (60, some 1)], some (60, true)), ([(1, none), (65, some 6)], some (65, false)), ([(66, some 7), (65, some 6)], some (65, false)), ([(67, some 8), (65, some 6)], some (65, false)), ([(68, some 9), (65, some 6)], some (65, false)), ([(65, some 6), (69, some 10), (60, some 1)], some (60, true)), ([(60, some 1), (70, some 11)], none), ([(71, some 12)], none), ([(5, none), (72, some 13)], some (72, false)), ([(73, some 14), (72, some 13)], some (72, false)), ([(74, some 15), (72, some 13)], some (72, false)), ([(1, none), (75, some 16)], some (75, true)), ([(76, some 17), (75, some 16)], some (75, true)), ([(77, some 18), (75, some 16)], some (75, true)), ([(78, some 19), (75, some 16)], some (75, true)), ([(1, none), (79, some 20)], some (79, false)), ([(80, some 21), (79, some 20)], some (79, false)), ([(81, some 22), (79, some 20)], some (79, false)), ([(79, some 20), (82, some 23), (75, some 16)], some (75, true)), ([(83, some 24), (75, some 16)], some (75, true)), ([(1, none), (84, some 25)], some (84, false)), ([(85, some 26), (84, some 25)], some (84, false)), ([(84, some 25), (86, some 27), (75, some 16)], some (75, true)), ([(75, some 16), (87, some 28), (72, some 13)], some (72, false)), ([(72, some 13), (88, some 29)], none)] 251 31 rfl rfl (by kernel_rfl) NewT.trans (NewT.refl _) (Nat.le_of_ble_eq_true rfl) ⟨?_, ?_, ?_, ?_, ?_, ?_, ?_, ?_, ?_, ?_, ?_, ?_, ?_, ?_, ?_, ?_, ?_, ?_, ?_, ?_, ?_, ?_, ?_, ?_, ?_, ?_, ?_, ?_, ?_, ?_, ?_, trivial⟩ ?_
          · exact fun a wx hT hF K hK => rely_wp rfl (opr_move (.inl rfl) (hK _ _ (NewT.refl _) hF.1))
          · exact fun a wx hT hF K hK => rely_wp rfl (opr_move (.inl rfl) (hK _ _ (NewT.refl _) hF.1))
          · exact fun a wx hT hF K hK => rely_if (rely_gt hF.2.1) (NewT.refl _) hK fun hE hK => opr_fldR (by decide) rfl hF.1 (hK _ _ (NewT.refl _) rfl)
          · exact fun a wx hT hF K hK => rely_if (rely_gt hF.2.1) (NewT.refl _) hK fun hE hK => opr_ldI (hT.row R1.out) (by decide) rfl rfl (hF.1 hE) (hK _ _ (NewT.refl _) rfl)
          · exact fun a wx hT hF K hK => rely_if (rely_gt hF.2.1) (NewT.refl _) hK fun hE hK => opr_cv (refIn_cv x.step 0 5 wx) rfl Tryd.func43 (by kernel_rfl) (by kernel_rfl) (evs3 (hF.1 hE) rfl rfl) hK
          · exact fun a wx hT hF K hK => rely_if (rely_gt hF.2.1) (NewT.refl _) hK fun hE hK => opr_not rfl (hF.1 hE) (hK _ _ (NewT.refl _) rfl)
          · exact fun a wx hT hF K hK => rely_ifg (rely_gt hF.2.1) (NewT.refl _) hK fun hE hK => opr_move (.inl rfl) (hK _ _ (NewT.refl _) (hF.1 hE))
          · exact fun a wx hT hF K hK => rely_if (rely_ggf hF.2.1) (NewT.refl _) hK fun hE hK => opr_fldR (by decide) rfl hF.1 (hK _ _ (NewT.refl _) rfl)
          · exact fun a wx hT hF K hK => rely_if (rely_ggf hF.2.1) (NewT.refl _) hK fun hE hK => opr_ldI (hT.row R1.out) (by decide) rfl rfl (hF.1 hE) (hK _ _ (NewT.refl _) rfl)
          · exact fun a wx hT hF K hK => rely_if (rely_ggf hF.2.1) (NewT.refl _) hK fun hE hK => opr_cv (refIn_cv x.tr 1 9 wx) rfl Tryd.func43 (by kernel_rfl) (by kernel_rfl) (evs3 (hF.1 hE) rfl rfl) hK
          · exact fun a wx hT hF K hK => rely_if (rely_ggf hF.2.1) (NewT.refl _) hK fun hE hK => opr_not rfl (hF.1 hE) (hK _ _ (NewT.refl _) rfl)
          · exact fun a wx hT hF K hK => rely_if (rely_gt hF.2.2.1) (NewT.refl _) hK fun hE hK => opr_pick_b rfl (hF.1.trans (gV_on hE)) (fun hb => hK _ _ (NewT.refl _) (pn_or1 Q1_10 hb)) (fun hb => hK _ _ (NewT.refl _) (pn_or0 Q1_10 (hF.2.1 (band hE (bnot hb))) hb))
          · exact fun a wx hT hF K hK => rely_wp rfl (opr_pick_b rfl hF.1 (fun hb => hK _ _ (NewT.refl _) (pk_and1 (hF.2.1 hb) hb)) (fun hb => hK _ _ (NewT.refl _) (pk_and0 hb)))
          · exact fun a wx hT hF K hK => rely_wp rfl (opr_move (.inl rfl) (hK _ _ (NewT.refl _) hF.1))
          · exact fun a wx hT hF K hK => rely_if (rely_gf hF.2.1) (NewT.refl _) hK fun hE hK => opr_move (.inl rfl) (hK _ _ (NewT.refl _) hF.1)
          · exact fun a wx hT hF K hK => rely_if (rely_gf hF.2.1) (NewT.refl _) hK fun hE hK => opr_not rfl (hF.1 hE) (hK _ _ (NewT.refl _) rfl)
          · exact fun a wx hT hF K hK => rely_ifg (rely_gf hF.2.1) (NewT.refl _) hK fun hE hK => opr_move (.inl rfl) (hK _ _ (NewT.refl _) (hF.1 hE))
          · exact fun a wx hT hF K hK => rely_if (rely_ggt hF.2.1) (NewT.refl _) hK fun hE hK => opr_fldR (by decide) rfl hF.1 (hK _ _ (NewT.refl _) rfl)
          · exact fun a wx hT hF K hK => rely_if (rely_ggt hF.2.1) (NewT.refl _) hK fun hE hK => opr_ldI (hT.row R1.out) (by decide) rfl rfl (hF.1 hE) (hK _ _ (NewT.refl _) rfl)
          · exact fun a wx hT hF K hK => rely_if (rely_ggt hF.2.1) (NewT.refl _) hK fun hE hK => opr_cmp (b := x.step != 0) (.inr (.inl ⟨rfl, rfl⟩)) Tryd.underlying3 rfl (hF.1 hE) rfl (hK _ _ (NewT.refl _) rfl)
          · exact fun a wx hT hF K hK => rely_ifg (rely_ggt hF.2.1) (NewT.refl _) hK fun hE hK => opr_move (.inl rfl) (hK _ _ (NewT.refl _) (hF.1 hE))
          · exact fun a wx hT hF K hK => rely_if (rely_ggf hF.2.1) (NewT.refl _) hK fun hE hK => opr_fldR (by decide) rfl hF.1 (hK _ _ (NewT.refl _) rfl)
          · exact fun a wx hT hF K hK => rely_if (rely_ggf hF.2.1) (NewT.refl _) hK fun hE hK => opr_ldI (hT.row R1.out) (by decide) rfl rfl (hF.1 hE) (hK _ _ (NewT.refl _) rfl)
          · exact fun a wx hT hF K hK => rely_if (rely_ggf hF.2.1) (NewT.refl _) hK fun hE hK => opr_cmp (b := x.tr != 0) (.inr (.inl ⟨rfl, rfl⟩)) Tryd.underlying3 rfl (hF.1 hE) rfl (hK _ _ (NewT.refl _) rfl)
          · exact fun a wx hT hF K hK => rely_if (rely_ggt hF.2.2.1) (NewT.refl _) hK fun hE hK => opr_pick_b rfl (hF.1.trans (gV_on hE)) (fun hb => hK _ _ (NewT.refl _) (pk_or1 hb)) (fun hb => hK _ _ (NewT.refl _) (pk_or0 (hF.2.1 (band hE (bnot hb))) hb))
          · exact fun a wx hT hF K hK => rely_ifg (rely_ggt hF.2.1) (NewT.refl _) hK fun hE hK => opr_move (.inl rfl) (hK _ _ (NewT.refl _) (hF.1 hE))
          · exact fun a wx hT hF K hK => rely_if (rely_ggf hF.2.1) (NewT.refl _) hK fun hE hK => opr_fldR (by decide) rfl hF.1 (hK _ _ (NewT.refl _) rfl)
          · exact fun a wx hT hF K hK => rely_if (rely_ggf hF.2.1) (NewT.refl _) hK fun hE hK => opr_ldQ (hT.row R1.out) (by decide) rfl rfl (hF.1 hE) (hK _ _ (NewT.refl _) rfl)
          · exact fun a wx hT hF K hK => rely_if (rely_ggt hF.2.2.1) (NewT.refl _) hK fun hE hK => opr_pick_b rfl (hF.1.trans (gV_on hE)) (fun hb => hK _ _ (NewT.refl _) (pn_or1 Q2_10 hb)) (fun hb => hK _ _ (NewT.refl _) (pn_or0 Q2_10 (hF.2.1 (band hE (bnot hb))) hb))
          · exact fun a wx hT hF K hK => rely_if (rely_gf hF.2.2.1) (NewT.refl _) hK fun hE hK => opr_pick_b rfl (hF.1.trans (gV_on hE)) (fun hb => hK _ _ (NewT.refl _) (pk_and1 (hF.2.1 (band hE hb)) hb)) (fun hb => hK _ _ (NewT.refl _) (pk_and0 hb))
          · exact fun a wx hT hF K hK => rely_wp rfl (opr_pick_b rfl hF.1 (fun hb => hK _ _ (NewT.refl _) (pn_or1 Q3_10 hb)) (fun hb => hK _ _ (NewT.refl _) (pn_or0 Q3_10 (hF.2.1 (bnot hb)) hb)))
          · intro w10 k10
            iterate 2 (intro u h; obtain rfl := Eq.symm (h (by simp)); clear h)
            iterate 10 (intro _ _)
            iterate 2 (intro u h; obtain rfl := Eq.symm (h (by simp)); clear h)
            iterate 16 (intro _ _)
            intro u h; obtain rfl := Eq.symm (h (by simp)); clear h
            subst Q3_10 Q2_10 Q1_10
            refine relyEnd_nil rfl ?_
            refine wpList_end rfl ?_
            simp only [Act.put, List.setIfInBounds_toArray, List.set_cons_zero, List.set_cons_succ]
            go_simp
            replace R1 := Lib.hid (k10.row R1.out)
            replace R3 := Lib.hid (k10.row R3.out)
            replace HS := Lib.hid (k10.pairs HS.out)
            replace HD := Lib.hid (k10.rd HD.out)
            replace HN := Lib.hid (NewT.trans _ _ _ HN.out k10)
            clear k10
            cases hb10 : ((((callQ x) && ((!(inR x.step 0 5)) || (!(inR x.tr 1 9)))) || ((!(callQ x)) && (((x.step != 0) || (x.tr != 0)) || x.back))))
            rotate_left
            · have HB10 := Lib.hid hb10
              clear hb10
              go_wp2
              go_ret
              exact ⟨_, rfl, HN.out, by unfold refR; rw [if_neg (by rw [HB3.out]; decide)]; rw [if_neg (by rw [HB6.out]; decide)]; rw [if_pos HB10.out]; rfl⟩
            have HB10 := Lib.hid hb10
            clear hb10
            go_upto_region 12 with fail
            obtain ⟨q1_12, Q1_12⟩ : ∃ bq_, (x.good || (!(eqH (x.tag) (fun _ => 0)))) = bq_ := ⟨_, rfl⟩
            obtain ⟨q2_12, Q2_12⟩ : ∃ bq_, ((x.kind == 5) && (!(inR x.nd 2 4))) = bq_ := ⟨_, rfl⟩
            obtain ⟨q3_12, Q3_12⟩ : ∃ bq_, (((!(recQ x)) && q1_12) || q2_12) = bq_ := ⟨_, rfl⟩
            obtain ⟨q4_12, Q4_12⟩ : ∃ bq_, (q3_12 || ((x.kind != 5) && (x.nd != 0))) = bq_ := ⟨_, rfl⟩
            refine wp_region_steps0 NewT [SV.eq (.bool (recQ x)), SV.eq (.bool (!(recQ x))), SV.eq (.bool (!(recQ x))), svIf (!(recQ x)) (SV.eq (.pointer (some ⟨w.heap.size, 6, none⟩))), svIf (!(recQ x)) (SV.eq (.bool (x.good))), SV.eq (gV (!(recQ x)) (x.good)), svIf (!(recQ x) && (!x.good)) (SV.eq (.pointer (some ⟨w.heap.size, 10, none⟩))), svIf (!(recQ x) && (!x.good)) (SV.eq (.agg (rowA 32 (bF (x.tag))))), svIf (!(recQ x) && (!x.good)) (SV.eq (.agg (rowA 32 (bF (fun _ => 0))))), svIf (!(recQ x) && (!x.good)) (SV.eq (.bool (!(eqH (x.tag) (fun _ => 0))))), svIf (!(recQ x)) (SV.eq (.bool (q1_12))), SV.eq (.bool ((!(recQ x)) && q1_12)), SV.eq (.bool ((!(recQ x)) && q1_12)), svIf ((!((!(recQ x)) && q1_12))) (SV.eq (.pointer (some ⟨w.heap.size, 0, none⟩))), svIf ((!((!(recQ x)) && q1_12))) (SV.eq (.int .i64 (x.kind))), svIf ((!((!(recQ x)) && q1_12))) (SV.eq (.bool (x.kind == 5))), SV.eq (gV ((!((!(recQ x)) && q1_12))) (x.kind == 5)), svIf ((!((!(recQ x)) && q1_12)) && x.kind == 5) (SV.eq (.pointer (some ⟨w.heap.size, 7, none⟩))), svIf ((!((!(recQ x)) && q1_12)) && x.kind == 5) (SV.eq (.int .i64 (x.nd))), svIf ((!((!(recQ x)) && q1_12)) && x.kind == 5) (SV.eq (.bool (inR x.nd 2 4))), svIf ((!((!(recQ x)) && q1_12)) && x.kind == 5) (SV.eq (.bool (!(inR x.nd 2 4)))), svIf ((!((!(recQ x)) && q1_12))) (SV.eq (.bool (q2_12))), SV.eq (.bool (q3_12)), SV.eq (.bool (q3_12)), svIf ((!q3_12)) (SV.eq (.pointer (some ⟨w.heap.size, 0, none⟩))), svIf ((!q3_12)) (SV.eq (.int .i64 (x.kind))), svIf ((!q3_12)) (SV.eq (.bool (x.kind != 5))), SV.eq (gV ((!q3_12)) (x.kind != 5)), svIf ((!q3_12) && x.kind != 5) (SV.eq (.pointer (some ⟨w.heap.size, 7, none⟩))), svIf ((!q3_12) && x.kind != 5) (SV.eq (.int .i64 (x.nd))), svIf ((!q3_12) && x.kind != 5) (SV.eq (.bool (x.nd != 0))), svIf ((!q3_12)) (SV.eq (.bool ((x.kind != 5) && (x.nd != 0)))), SV.eq (.bool (q4_12))] [([(6, none)], none), ([(90, some 0)], none), ([(91, some 1)], none), ([(1, none), (92, some 2)], some (92, true)), ([(93, some 3), (92, some 2)], some (92, true)), ([(94, some 4), (92, some 2)], some (92, true)), ([(1, none), (95, some 5)], some (95, false)), ([(96, some 6), (95, some 5)], some (95, false)), ([(3, none), (95, some 5)], some (95, false)), ([(97, some 7), (98, some 8), (95, some 5)], some (95, false)), ([(95, some 5), (99, some 9), (92, some 2)], some (92, true)), ([(92, some 2), (100, some 10)], none), ([(101, some 11)], none), ([(1, none), (102, some 12)], some (102, false)), ([(103, some 13), (102, some 12)], some (102, false)), ([(104, some 14), (102, some 12)], some (102, false)), ([(105, some 15), (102, some 12)], some (102, false)), ([(1, none), (106, some 16)], some (106, true)), ([(107, some 17), (106, some 16)], some (106, true)), ([(108, some 18), (106, some 16)], some (106, true)), ([(109, some 19), (106, some 16)], some (106, true)), ([(106, some 16), (110, some 20), (102, some 12)], some (102, false)), ([(102, some 12), (111, some 21)], none), ([(112, some 22)], none), ([(1, none), (113, some 23)], some (113, false)), ([(114, some 24), (113, some 23)], some (113, false)), ([(115, some 25), (113, some 23)], some (113, false)), ([(116, some 26), (113, some 23)], some (113, false)), ([(1, none), (117, some 27)], some (117, true)), ([(118, some 28), (117, some 27)], some (117, true)), ([(119, some 29), (117, some 27)], some (117, true)), ([(117, some 27), (120, some 30), (113, some 23)], some (113, false)), ([(113, some 23), (121, some 31)], none)] 251 33 rfl rfl (by kernel_rfl) NewT.trans (NewT.refl _) (Nat.le_of_ble_eq_true rfl) ⟨?_, ?_, ?_, ?_, ?_, ?_, ?_, ?_, ?_, ?_, ?_, ?_, ?_, ?_, ?_, ?_, ?_, ?_, ?_, ?_, ?_, ?_, ?_, ?_, ?_, ?_, ?_, ?_, ?_, ?_, ?_, ?_, ?_, trivial⟩ ?_
            · exact fun a wx hT hF K hK => rely_wp rfl (opr_move (.inl rfl) (hK _ _ (NewT.refl _) hF.1))
            · exact fun a wx hT hF K hK => rely_wp rfl (opr_not rfl hF.1 (hK _ _ (NewT.refl _) rfl))
            · exact fun a wx hT hF K hK => rely_wp rfl (opr_move (.inl rfl) (hK _ _ (NewT.refl _) hF.1))
            · exact fun a wx hT hF K hK => rely_if (rely_gt hF.2.1) (NewT.refl _) hK fun hE hK => opr_fldR (by decide) rfl hF.1 (hK _ _ (NewT.refl _) rfl)
            · exact fun a wx hT hF K hK => rely_if (rely_gt hF.2.1) (NewT.refl _) hK fun hE hK => opr_ldQ (hT.row R1.out) (by decide) rfl rfl (hF.1 hE) (hK _ _ (NewT.refl _) rfl)
            · exact fun a wx hT hF K hK => rely_ifg (rely_gt hF.2.1) (NewT.refl _) hK fun hE hK => opr_move (.inl rfl) (hK _ _ (NewT.refl _) (hF.1 hE))
            · exact fun a wx hT hF K hK => rely_if (rely_ggf hF.2.1) (NewT.refl _) hK fun hE hK => opr_fldR (by decide) rfl hF.1 (hK _ _ (NewT.refl _) rfl)
            · exact fun a wx hT hF K hK => rely_if (rely_ggf hF.2.1) (NewT.refl _) hK fun hE hK => opr_ldH (hT.row R1.out) (by decide) (recF_tag x _ _) rfl (hF.1 hE) (hK _ _ (NewT.refl _) rfl)
            · exact fun a wx hT hF K hK => rely_if (rely_ggf hF.2.1) (NewT.refl _) hK fun hE hK => opr_load_hash rfl hF.1 (hT.row R3.out) (hK _ _ (NewT.refl _) rfl)
            · exact fun a wx hT hF K hK => rely_if (rely_ggf hF.2.2.1) (NewT.refl _) hK fun hE hK => opr_neq_hash (b := !(eqH (x.tag) (fun _ => 0))) rfl (hF.1 hE) (hF.2.1 hE) (rfl) (hK _ _ (NewT.refl _) rfl)
            · exact fun a wx hT hF K hK => rely_if (rely_gt hF.2.2.1) (NewT.refl _) hK fun hE hK => opr_pick_b rfl (hF.1.trans (gV_on hE)) (fun hb => hK _ _ (NewT.refl _) (pn_or1 Q1_12 hb)) (fun hb => hK _ _ (NewT.refl _) (pn_or0 Q1_12 (hF.2.1 (band hE (bnot hb))) hb))
            · exact fun a wx hT hF K hK => rely_wp rfl (opr_pick_b rfl hF.1 (fun hb => hK _ _ (NewT.refl _) (pk_and1 (hF.2.1 hb) hb)) (fun hb => hK _ _ (NewT.refl _) (pk_and0 hb)))
            · exact fun a wx hT hF K hK => rely_wp rfl (opr_move (.inl rfl) (hK _ _ (NewT.refl _) hF.1))
            · exact fun a wx hT hF K hK => rely_if (rely_gf hF.2.1) (NewT.refl _) hK fun hE hK => opr_fldR (by decide) rfl hF.1 (hK _ _ (NewT.refl _) rfl)
            · exact fun a wx hT hF K hK => rely_if (rely_gf hF.2.1) (NewT.refl _) hK fun hE hK => opr_ldI (hT.row R1.out) (by decide) rfl rfl (hF.1 hE) (hK _ _ (NewT.refl _) rfl)
            · exact fun a wx hT hF K hK => rely_if (rely_gf hF.2.1) (NewT.refl _) hK fun hE hK => opr_cmp (b := x.kind == 5) (.inl ⟨rfl, rfl⟩) Tryd.underlying3 rfl (hF.1 hE) rfl (hK _ _ (NewT.refl _) rfl)
            · exact fun a wx hT hF K hK => rely_ifg (rely_gf hF.2.1) (NewT.refl _) hK fun hE hK => opr_move (.inl rfl) (hK _ _ (NewT.refl _) (hF.1 hE))
            · exact fun a wx hT hF K hK => rely_if (rely_ggt hF.2.1) (NewT.refl _) hK fun hE hK => opr_fldR (by decide) rfl hF.1 (hK _ _ (NewT.refl _) rfl)
            · exact fun a wx hT hF K hK => rely_if (rely_ggt hF.2.1) (NewT.refl _) hK fun hE hK => opr_ldI (hT.row R1.out) (by decide) rfl rfl (hF.1 hE) (hK _ _ (NewT.refl _) rfl)
            · exact fun a wx hT hF K hK => rely_if (rely_ggt hF.2.1) (NewT.refl _) hK fun hE hK => opr_cv (refIn_cv x.nd 2 4 wx) rfl Tryd.func43 (by kernel_rfl) (by kernel_rfl) (evs3 (hF.1 hE) rfl rfl) hK
            · exact fun a wx hT hF K hK => rely_if (rely_ggt hF.2.1) (NewT.refl _) hK fun hE hK => opr_not rfl (hF.1 hE) (hK _ _ (NewT.refl _) rfl)
            · exact fun a wx hT hF K hK => rely_if (rely_gf hF.2.2.1) (NewT.refl _) hK fun hE hK => opr_pick_b rfl (hF.1.trans (gV_on hE)) (fun hb => hK _ _ (NewT.refl _) (pn_and1 Q2_12 (hF.2.1 (band hE hb)) hb)) (fun hb => hK _ _ (NewT.refl _) (pn_and0 Q2_12 hb))
            · exact fun a wx hT hF K hK => rely_wp rfl (opr_pick_b rfl hF.1 (fun hb => hK _ _ (NewT.refl _) (pn_or1 Q3_12 hb)) (fun hb => hK _ _ (NewT.refl _) (pn_or0 Q3_12 (hF.2.1 (bnot hb)) hb)))
            · exact fun a wx hT hF K hK => rely_wp rfl (opr_move (.inl rfl) (hK _ _ (NewT.refl _) hF.1))
            · exact fun a wx hT hF K hK => rely_if (rely_gf hF.2.1) (NewT.refl _) hK fun hE hK => opr_fldR (by decide) rfl hF.1 (hK _ _ (NewT.refl _) rfl)
            · exact fun a wx hT hF K hK => rely_if (rely_gf hF.2.1) (NewT.refl _) hK fun hE hK => opr_ldI (hT.row R1.out) (by decide) rfl rfl (hF.1 hE) (hK _ _ (NewT.refl _) rfl)
            · exact fun a wx hT hF K hK => rely_if (rely_gf hF.2.1) (NewT.refl _) hK fun hE hK => opr_cmp (b := x.kind != 5) (.inr (.inl ⟨rfl, rfl⟩)) Tryd.underlying3 rfl (hF.1 hE) rfl (hK _ _ (NewT.refl _) rfl)
            · exact fun a wx hT hF K hK => rely_ifg (rely_gf hF.2.1) (NewT.refl _) hK fun hE hK => opr_move (.inl rfl) (hK _ _ (NewT.refl _) (hF.1 hE))
            · exact fun a wx hT hF K hK => rely_if (rely_ggt hF.2.1) (NewT.refl _) hK fun hE hK => opr_fldR (by decide) rfl hF.1 (hK _ _ (NewT.refl _) rfl)
            · exact fun a wx hT hF K hK => rely_if (rely_ggt hF.2.1) (NewT.refl _) hK fun hE hK => opr_ldI (hT.row R1.out) (by decide) rfl rfl (hF.1 hE) (hK _ _ (NewT.refl _) rfl)
            · exact fun a wx hT hF K hK => rely_if (rely_ggt hF.2.1) (NewT.refl _) hK fun hE hK => opr_cmp (b := x.nd != 0) (.inr (.inl ⟨rfl, rfl⟩)) Tryd.underlying3 rfl (hF.1 hE) rfl (hK _ _ (NewT.refl _) rfl)
            · exact fun a wx hT hF K hK => rely_if (rely_gf hF.2.2.1) (NewT.refl _) hK fun hE hK => opr_pick_b rfl (hF.1.trans (gV_on hE)) (fun hb => hK _ _ (NewT.refl _) (pk_and1 (hF.2.1 (band hE hb)) hb)) (fun hb => hK _ _ (NewT.refl _) (pk_and0 hb))
            · exact fun a wx hT hF K hK => rely_wp rfl (opr_pick_b rfl hF.1 (fun hb => hK _ _ (NewT.refl _) (pn_or1 Q4_12 hb)) (fun hb => hK _ _ (NewT.refl _) (pn_or0 Q4_12 (hF.2.1 (bnot hb)) hb)))
            · intro w12 k12
              iterate 3 (intro u h; obtain rfl := Eq.symm (h (by simp)); clear h)
              iterate 8 (intro _ _)
              iterate 2 (intro u h; obtain rfl := Eq.symm (h (by simp)); clear h)
              iterate 9 (intro _ _)
              iterate 2 (intro u h; obtain rfl := Eq.symm (h (by simp)); clear h)
              iterate 8 (intro _ _)
              intro u h; obtain rfl := Eq.symm (h (by simp)); clear h
              subst Q4_12 Q3_12 Q2_12 Q1_12
              refine relyEnd_nil rfl ?_
              refine wpList_end rfl ?_
              simp only [Act.put, List.setIfInBounds_toArray, List.set_cons_zero, List.set_cons_succ]
              go_simp
              replace R1 := Lib.hid (k12.row R1.out)
              replace R3 := Lib.hid (k12.row R3.out)
              replace HS := Lib.hid (k12.pairs HS.out)
              replace HD := Lib.hid (k12.rd HD.out)
              replace HN := Lib.hid (NewT.trans _ _ _ HN.out k12)
              clear k12
              cases hb12 : (((((!(recQ x)) && (x.good || (!(eqH (x.tag) (fun _ => 0))))) || ((x.kind == 5) && (!(inR x.nd 2 4)))) || ((x.kind != 5) && (x.nd != 0))))
              rotate_left
              · have HB12 := Lib.hid hb12
                clear hb12
                go_wp2
                go_ret
                exact ⟨_, rfl, HN.out, by unfold refR; rw [if_neg (by rw [HB3.out]; decide)]; rw [if_neg (by rw [HB6.out]; decide)]; rw [if_neg (by rw [HB10.out]; decide)]; rw [if_pos HB12.out]; rfl⟩
              have HB12 := Lib.hid hb12
              clear hb12
              go_upto_region 14 with fail
              obtain ⟨q1_14, Q1_14⟩ : ∃ bq_, ((!(inR x.part 0 3)) || (!(inR x.epoch 0 400))) = bq_ := ⟨_, rfl⟩
              obtain ⟨q2_14, Q2_14⟩ : ∃ bq_, ((!(inR x.part 0 3)) || (!(inR x.epoch 1 400))) = bq_ := ⟨_, rfl⟩
              obtain ⟨q3_14, Q3_14⟩ : ∃ bq_, (((recQ x) && q1_14) || ((x.kind == 6) && q2_14)) = bq_ := ⟨_, rfl⟩
              refine wp_region_steps0 NewT [SV.eq (.bool (recQ x)), SV.eq (.bool (recQ x)), svIf (recQ x) (SV.eq (.pointer (some ⟨w.heap.size, 8, none⟩))), svIf (recQ x) (SV.eq (.int .i64 (x.part))), svIf (recQ x) (SV.eq (.bool (inR x.part 0 3))), svIf (recQ x) (SV.eq (.bool (!(inR x.part 0 3)))), SV.eq (gV (recQ x) (!(inR x.part 0 3))), svIf (recQ x && (!(!(inR x.part 0 3)))) (SV.eq (.pointer (some ⟨w.heap.size, 9, none⟩))), svIf (recQ x && (!(!(inR x.part 0 3)))) (SV.eq (.int .i64 (x.epoch))), svIf (recQ x && (!(!(inR x.part 0 3)))) (SV.eq (.bool (inR x.epoch 0 400))), svIf (recQ x && (!(!(inR x.part 0 3)))) (SV.eq (.bool (!(inR x.epoch 0 400)))), svIf (recQ x) (SV.eq (.bool (q1_14))), SV.eq (.bool ((recQ x) && q1_14)), SV.eq (.bool ((recQ x) && q1_14)), svIf ((!((recQ x) && q1_14))) (SV.eq (.pointer (some ⟨w.heap.size, 0, none⟩))), svIf ((!((recQ x) && q1_14))) (SV.eq (.int .i64 (x.kind))), svIf ((!((recQ x) && q1_14))) (SV.eq (.bool (x.kind == 6))), SV.eq (gV ((!((recQ x) && q1_14))) (x.kind == 6)), svIf ((!((recQ x) && q1_14)) && x.kind == 6) (SV.eq (.pointer (some ⟨w.heap.size, 8, none⟩))), svIf ((!((recQ x) && q1_14)) && x.kind == 6) (SV.eq (.int .i64 (x.part))), svIf ((!((recQ x) && q1_14)) && x.kind == 6) (SV.eq (.bool (inR x.part 0 3))), svIf ((!((recQ x) && q1_14)) && x.kind == 6) (SV.eq (.bool (!(inR x.part 0 3)))), SV.eq (gV ((!((recQ x) && q1_14)) && x.kind == 6) (!(inR x.part 0 3))), svIf (((!((recQ x) && q1_14)) && x.kind == 6) && (!(!(inR x.part 0 3)))) (SV.eq (.pointer (some ⟨w.heap.size, 9, none⟩))), svIf (((!((recQ x) && q1_14)) && x.kind == 6) && (!(!(inR x.part 0 3)))) (SV.eq (.int .i64 (x.epoch))), svIf (((!((recQ x) && q1_14)) && x.kind == 6) && (!(!(inR x.part 0 3)))) (SV.eq (.bool (inR x.epoch 1 400))), svIf (((!((recQ x) && q1_14)) && x.kind == 6) && (!(!(inR x.part 0 3)))) (SV.eq (.bool (!(inR x.epoch 1 400)))), svIf ((!((recQ x) && q1_14)) && x.kind == 6) (SV.eq (.bool (q2_14))), svIf ((!((recQ x) && q1_14))) (SV.eq (.bool ((x.kind == 6) && q2_14))), SV.eq (.bool (q3_14))] [([(6, none)], none), ([(123, some 0)], none), ([(1, none), (124, some 1)], some (124, true)), ([(125, some 2), (124, some 1)], some (124, true)), ([(126, some 3), (124, some 1)], some (124, true)), ([(127, some 4), (124, some 1)], some (124, true)), ([(128, some 5), (124, some 1)], some (124, true)), ([(1, none), (129, some 6)], some (129, false)), ([(130, some 7), (129, some 6)], some (129, false)), ([(131, some 8), (129, some 6)], some (129, false)), ([(132, some 9), (129, some 6)], some (129, false)), ([(129, some 6), (133, some 10), (124, some 1)], some (124, true)), ([(124, some 1), (134, some 11)], none), ([(135, some 12)], none), ([(1, none), (136, some 13)], some (136, false)), ([(137, some 14), (136, some 13)], some (136, false)), ([(138, some 15), (136, some 13)], some (136, false)), ([(139, some 16), (136, some 13)], some (136, false)), ([(1, none), (140, some 17)], some (140, true)), ([(141, some 18), (140, some 17)], some (140, true)), ([(142, some 19), (140, some 17)], some (140, true)), ([(143, some 20), (140, some 17)], some (140, true)), ([(144, some 21), (140, some 17)], some (140, true)), ([(1, none), (145, some 22)], some (145, false)), ([(146, some 23), (145, some 22)], some (145, false)), ([(147, some 24), (145, some 22)], some (145, false)), ([(148, some 25), (145, some 22)], some (145, false)), ([(145, some 22), (149, some 26), (140, some 17)], some (140, true)), ([(140, some 17), (150, some 27), (136, some 13)], some (136, false)), ([(136, some 13), (151, some 28)], none)] 251 30 rfl rfl (by kernel_rfl) NewT.trans (NewT.refl _) (Nat.le_of_ble_eq_true rfl) ⟨?_, ?_, ?_, ?_, ?_, ?_, ?_, ?_, ?_, ?_, ?_, ?_, ?_, ?_, ?_, ?_, ?_, ?_, ?_, ?_, ?_, ?_, ?_, ?_, ?_, ?_, ?_, ?_, ?_, ?_, trivial⟩ ?_
              · exact fun a wx hT hF K hK => rely_wp rfl (opr_move (.inl rfl) (hK _ _ (NewT.refl _) hF.1))
              · exact fun a wx hT hF K hK => rely_wp rfl (opr_move (.inl rfl) (hK _ _ (NewT.refl _) hF.1))
              · exact fun a wx hT hF K hK => rely_if (rely_gt hF.2.1) (NewT.refl _) hK fun hE hK => opr_fldR (by decide) rfl hF.1 (hK _ _ (NewT.refl _) rfl)
              · exact fun a wx hT hF K hK => rely_if (rely_gt hF.2.1) (NewT.refl _) hK fun hE hK => opr_ldI (hT.row R1.out) (by decide) rfl rfl (hF.1 hE) (hK _ _ (NewT.refl _) rfl)
              · exact fun a wx hT hF K hK => rely_if (rely_gt hF.2.1) (NewT.refl _) hK fun hE hK => opr_cv (refIn_cv x.part 0 3 wx) rfl Tryd.func43 (by kernel_rfl) (by kernel_rfl) (evs3 (hF.1 hE) rfl rfl) hK
              · exact fun a wx hT hF K hK => rely_if (rely_gt hF.2.1) (NewT.refl _) hK fun hE hK => opr_not rfl (hF.1 hE) (hK _ _ (NewT.refl _) rfl)
              · exact fun a wx hT hF K hK => rely_ifg (rely_gt hF.2.1) (NewT.refl _) hK fun hE hK => opr_move (.inl rfl) (hK _ _ (NewT.refl _) (hF.1 hE))
              · exact fun a wx hT hF K hK => rely_if (rely_ggf hF.2.1) (NewT.refl _) hK fun hE hK => opr_fldR (by decide) rfl hF.1 (hK _ _ (NewT.refl _) rfl)
              · exact fun a wx hT hF K hK => rely_if (rely_ggf hF.2.1) (NewT.refl _) hK fun hE hK => opr_ldI (hT.row R1.out) (by decide) rfl rfl (hF.1 hE) (hK _ _ (NewT.refl _) rfl)
              · exact fun a wx hT hF K hK => rely_if (rely_ggf hF.2.1) (NewT.refl _) hK fun hE hK => opr_cv (refIn_cv x.epoch 0 400 wx) rfl Tryd.func43 (by kernel_rfl) (by kernel_rfl) (evs3 (hF.1 hE) rfl rfl) hK
              · exact fun a wx hT hF K hK => rely_if (rely_ggf hF.2.1) (NewT.refl _) hK fun hE hK => opr_not rfl (hF.1 hE) (hK _ _ (NewT.refl _) rfl)
              · exact fun a wx hT hF K hK => rely_if (rely_gt hF.2.2.1) (NewT.refl _) hK fun hE hK => opr_pick_b rfl (hF.1.trans (gV_on hE)) (fun hb => hK _ _ (NewT.refl _) (pn_or1 Q1_14 hb)) (fun hb => hK _ _ (NewT.refl _) (pn_or0 Q1_14 (hF.2.1 (band hE (bnot hb))) hb))
              · exact fun a wx hT hF K hK => rely_wp rfl (opr_pick_b rfl hF.1 (fun hb => hK _ _ (NewT.refl _) (pk_and1 (hF.2.1 hb) hb)) (fun hb => hK _ _ (NewT.refl _) (pk_and0 hb)))
              · exact fun a wx hT hF K hK => rely_wp rfl (opr_move (.inl rfl) (hK _ _ (NewT.refl _) hF.1))
              · exact fun a wx hT hF K hK => rely_if (rely_gf hF.2.1) (NewT.refl _) hK fun hE hK => opr_fldR (by decide) rfl hF.1 (hK _ _ (NewT.refl _) rfl)
              · exact fun a wx hT hF K hK => rely_if (rely_gf hF.2.1) (NewT.refl _) hK fun hE hK => opr_ldI (hT.row R1.out) (by decide) rfl rfl (hF.1 hE) (hK _ _ (NewT.refl _) rfl)
              · exact fun a wx hT hF K hK => rely_if (rely_gf hF.2.1) (NewT.refl _) hK fun hE hK => opr_cmp (b := x.kind == 6) (.inl ⟨rfl, rfl⟩) Tryd.underlying3 rfl (hF.1 hE) rfl (hK _ _ (NewT.refl _) rfl)
              · exact fun a wx hT hF K hK => rely_ifg (rely_gf hF.2.1) (NewT.refl _) hK fun hE hK => opr_move (.inl rfl) (hK _ _ (NewT.refl _) (hF.1 hE))
              · exact fun a wx hT hF K hK => rely_if (rely_ggt hF.2.1) (NewT.refl _) hK fun hE hK => opr_fldR (by decide) rfl hF.1 (hK _ _ (NewT.refl _) rfl)
              · exact fun a wx hT hF K hK => rely_if (rely_ggt hF.2.1) (NewT.refl _) hK fun hE hK => opr_ldI (hT.row R1.out) (by decide) rfl rfl (hF.1 hE) (hK _ _ (NewT.refl _) rfl)
              · exact fun a wx hT hF K hK => rely_if (rely_ggt hF.2.1) (NewT.refl _) hK fun hE hK => opr_cv (refIn_cv x.part 0 3 wx) rfl Tryd.func43 (by kernel_rfl) (by kernel_rfl) (evs3 (hF.1 hE) rfl rfl) hK
              · exact fun a wx hT hF K hK => rely_if (rely_ggt hF.2.1) (NewT.refl _) hK fun hE hK => opr_not rfl (hF.1 hE) (hK _ _ (NewT.refl _) rfl)
              · exact fun a wx hT hF K hK => rely_ifg (rely_ggt hF.2.1) (NewT.refl _) hK fun hE hK => opr_move (.inl rfl) (hK _ _ (NewT.refl _) (hF.1 hE))
              · exact fun a wx hT hF K hK => rely_if (rely_ggf hF.2.1) (NewT.refl _) hK fun hE hK => opr_fldR (by decide) rfl hF.1 (hK _ _ (NewT.refl _) rfl)
              · exact fun a wx hT hF K hK => rely_if (rely_ggf hF.2.1) (NewT.refl _) hK fun hE hK => opr_ldI (hT.row R1.out) (by decide) rfl rfl (hF.1 hE) (hK _ _ (NewT.refl _) rfl)
              · exact fun a wx hT hF K hK => rely_if (rely_ggf hF.2.1) (NewT.refl _) hK fun hE hK => opr_cv (refIn_cv x.epoch 1 400 wx) rfl Tryd.func43 (by kernel_rfl) (by kernel_rfl) (evs3 (hF.1 hE) rfl rfl) hK
              · exact fun a wx hT hF K hK => rely_if (rely_ggf hF.2.1) (NewT.refl _) hK fun hE hK => opr_not rfl (hF.1 hE) (hK _ _ (NewT.refl _) rfl)
              · exact fun a wx hT hF K hK => rely_if (rely_ggt hF.2.2.1) (NewT.refl _) hK fun hE hK => opr_pick_b rfl (hF.1.trans (gV_on hE)) (fun hb => hK _ _ (NewT.refl _) (pn_or1 Q2_14 hb)) (fun hb => hK _ _ (NewT.refl _) (pn_or0 Q2_14 (hF.2.1 (band hE (bnot hb))) hb))
              · exact fun a wx hT hF K hK => rely_if (rely_gf hF.2.2.1) (NewT.refl _) hK fun hE hK => opr_pick_b rfl (hF.1.trans (gV_on hE)) (fun hb => hK _ _ (NewT.refl _) (pk_and1 (hF.2.1 (band hE hb)) hb)) (fun hb => hK _ _ (NewT.refl _) (pk_and0 hb))
              · exact fun a wx hT hF K hK => rely_wp rfl (opr_pick_b rfl hF.1 (fun hb => hK _ _ (NewT.refl _) (pn_or1 Q3_14 hb)) (fun hb => hK _ _ (NewT.refl _) (pn_or0 Q3_14 (hF.2.1 (bnot hb)) hb)))
              · intro w14 k14
                iterate 2 (intro u h; obtain rfl := Eq.symm (h (by simp)); clear h)
                iterate 10 (intro _ _)
                iterate 2 (intro u h; obtain rfl := Eq.symm (h (by simp)); clear h)
                iterate 15 (intro _ _)
                intro u h; obtain rfl := Eq.symm (h (by simp)); clear h
                subst Q3_14 Q2_14 Q1_14
                refine relyEnd_nil rfl ?_
                refine wpList_end rfl ?_
                simp only [Act.put, List.setIfInBounds_toArray, List.set_cons_zero, List.set_cons_succ]
                go_simp
                replace R1 := Lib.hid (k14.row R1.out)
                replace R3 := Lib.hid (k14.row R3.out)
                replace HS := Lib.hid (k14.pairs HS.out)
                replace HD := Lib.hid (k14.rd HD.out)
                replace HN := Lib.hid (NewT.trans _ _ _ HN.out k14)
                clear k14
                cases hb14 : ((((recQ x) && ((!(inR x.part 0 3)) || (!(inR x.epoch 0 400)))) || ((x.kind == 6) && ((!(inR x.part 0 3)) || (!(inR x.epoch 1 400))))))
                rotate_left
                · have HB14 := Lib.hid hb14
                  clear hb14
                  go_wp2
                  go_ret
                  exact ⟨_, rfl, HN.out, by unfold refR; rw [if_neg (by rw [HB3.out]; decide)]; rw [if_neg (by rw [HB6.out]; decide)]; rw [if_neg (by rw [HB10.out]; decide)]; rw [if_neg (by rw [HB12.out]; decide)]; rw [if_pos HB14.out]; rfl⟩
                have HB14 := Lib.hid hb14
                clear hb14
                go_upto_region 16 with fail
                obtain ⟨q1_16, Q1_16⟩ : ∃ bq_, (((!(recQ x)) && (x.kind != 6)) && ((x.part != 0) || (x.epoch != 0))) = bq_ := ⟨_, rfl⟩
                refine wp_region_steps0 NewT [SV.eq (.bool (recQ x)), SV.eq (.bool (!(recQ x))), SV.eq (.bool (!(recQ x))), svIf (!(recQ x)) (SV.eq (.pointer (some ⟨w.heap.size, 0, none⟩))), svIf (!(recQ x)) (SV.eq (.int .i64 (x.kind))), svIf (!(recQ x)) (SV.eq (.bool (x.kind != 6))), SV.eq (.bool ((!(recQ x)) && (x.kind != 6))), SV.eq (.bool ((!(recQ x)) && (x.kind != 6))), svIf ((!(recQ x)) && (x.kind != 6)) (SV.eq (.pointer (some ⟨w.heap.size, 8, none⟩))), svIf ((!(recQ x)) && (x.kind != 6)) (SV.eq (.int .i64 (x.part))), svIf ((!(recQ x)) && (x.kind != 6)) (SV.eq (.bool (x.part != 0))), SV.eq (gV ((!(recQ x)) && (x.kind != 6)) (x.part != 0)), svIf ((!(recQ x)) && (x.kind != 6) && (!(x.part != 0))) (SV.eq (.pointer (some ⟨w.heap.size, 9, none⟩))), svIf ((!(recQ x)) && (x.kind != 6) && (!(x.part != 0))) (SV.eq (.int .i64 (x.epoch))), svIf ((!(recQ x)) && (x.kind != 6) && (!(x.part != 0))) (SV.eq (.bool (x.epoch != 0))), svIf ((!(recQ x)) && (x.kind != 6)) (SV.eq (.bool ((x.part != 0) || (x.epoch != 0)))), SV.eq (.bool (q1_16))] [([(6, none)], none), ([(153, some 0)], none), ([(154, some 1)], none), ([(1, none), (155, some 2)], some (155, true)), ([(156, some 3), (155, some 2)], some (155, true)), ([(157, some 4), (155, some 2)], some (155, true)), ([(155, some 2), (158, some 5)], none), ([(159, some 6)], none), ([(1, none), (160, some 7)], some (160, true)), ([(161, some 8), (160, some 7)], some (160, true)), ([(162, some 9), (160, some 7)], some (160, true)), ([(163, some 10), (160, some 7)], some (160, true)), ([(1, none), (164, some 11)], some (164, false)), ([(165, some 12), (164, some 11)], some (164, false)), ([(166, some 13), (164, some 11)], some (164, false)), ([(164, some 11), (167, some 14), (160, some 7)], some (160, true)), ([(160, some 7), (168, some 15)], none)] 251 17 rfl rfl (by kernel_rfl) NewT.trans (NewT.refl _) (Nat.le_of_ble_eq_true rfl) ⟨?_, ?_, ?_, ?_, ?_, ?_, ?_, ?_, ?_, ?_, ?_, ?_, ?_, ?_, ?_, ?_, ?_, trivial⟩ ?_
                · exact fun a wx hT hF K hK => rely_wp rfl (opr_move (.inl rfl) (hK _ _ (NewT.refl _) hF.1))
                · exact fun a wx hT hF K hK => rely_wp rfl (opr_not rfl hF.1 (hK _ _ (NewT.refl _) rfl))
                · exact fun a wx hT hF K hK => rely_wp rfl (opr_move (.inl rfl) (hK _ _ (NewT.refl _) hF.1))
                · exact fun a wx hT hF K hK => rely_if (rely_gt hF.2.1) (NewT.refl _) hK fun hE hK => opr_fldR (by decide) rfl hF.1 (hK _ _ (NewT.refl _) rfl)
                · exact fun a wx hT hF K hK => rely_if (rely_gt hF.2.1) (NewT.refl _) hK fun hE hK => opr_ldI (hT.row R1.out) (by decide) rfl rfl (hF.1 hE) (hK _ _ (NewT.refl _) rfl)
                · exact fun a wx hT hF K hK => rely_if (rely_gt hF.2.1) (NewT.refl _) hK fun hE hK => opr_cmp (b := x.kind != 6) (.inr (.inl ⟨rfl, rfl⟩)) Tryd.underlying3 rfl (hF.1 hE) rfl (hK _ _ (NewT.refl _) rfl)
                · exact fun a wx hT hF K hK => rely_wp rfl (opr_pick_b rfl hF.1 (fun hb => hK _ _ (NewT.refl _) (pk_and1 (hF.2.1 hb) hb)) (fun hb => hK _ _ (NewT.refl _) (pk_and0 hb)))
                · exact fun a wx hT hF K hK => rely_wp rfl (opr_move (.inl rfl) (hK _ _ (NewT.refl _) hF.1))
                · exact fun a wx hT hF K hK => rely_if (rely_gt hF.2.1) (NewT.refl _) hK fun hE hK => opr_fldR (by decide) rfl hF.1 (hK _ _ (NewT.refl _) rfl)
                · exact fun a wx hT hF K hK => rely_if (rely_gt hF.2.1) (NewT.refl _) hK fun hE hK => opr_ldI (hT.row R1.out) (by decide) rfl rfl (hF.1 hE) (hK _ _ (NewT.refl _) rfl)
                · exact fun a wx hT hF K hK => rely_if (rely_gt hF.2.1) (NewT.refl _) hK fun hE hK => opr_cmp (b := x.part != 0) (.inr (.inl ⟨rfl, rfl⟩)) Tryd.underlying3 rfl (hF.1 hE) rfl (hK _ _ (NewT.refl _) rfl)
                · exact fun a wx hT hF K hK => rely_ifg (rely_gt hF.2.1) (NewT.refl _) hK fun hE hK => opr_move (.inl rfl) (hK _ _ (NewT.refl _) (hF.1 hE))
                · exact fun a wx hT hF K hK => rely_if (rely_ggf hF.2.1) (NewT.refl _) hK fun hE hK => opr_fldR (by decide) rfl hF.1 (hK _ _ (NewT.refl _) rfl)
                · exact fun a wx hT hF K hK => rely_if (rely_ggf hF.2.1) (NewT.refl _) hK fun hE hK => opr_ldI (hT.row R1.out) (by decide) rfl rfl (hF.1 hE) (hK _ _ (NewT.refl _) rfl)
                · exact fun a wx hT hF K hK => rely_if (rely_ggf hF.2.1) (NewT.refl _) hK fun hE hK => opr_cmp (b := x.epoch != 0) (.inr (.inl ⟨rfl, rfl⟩)) Tryd.underlying3 rfl (hF.1 hE) rfl (hK _ _ (NewT.refl _) rfl)
                · exact fun a wx hT hF K hK => rely_if (rely_gt hF.2.2.1) (NewT.refl _) hK fun hE hK => opr_pick_b rfl (hF.1.trans (gV_on hE)) (fun hb => hK _ _ (NewT.refl _) (pk_or1 hb)) (fun hb => hK _ _ (NewT.refl _) (pk_or0 (hF.2.1 (band hE (bnot hb))) hb))
                · exact fun a wx hT hF K hK => rely_wp rfl (opr_pick_b rfl hF.1 (fun hb => hK _ _ (NewT.refl _) (pn_and1 Q1_16 (hF.2.1 hb) hb)) (fun hb => hK _ _ (NewT.refl _) (pn_and0 Q1_16 hb)))
                · intro w16 k16
                  iterate 3 (intro u h; obtain rfl := Eq.symm (h (by simp)); clear h)
                  iterate 3 (intro _ _)
                  iterate 2 (intro u h; obtain rfl := Eq.symm (h (by simp)); clear h)
                  iterate 8 (intro _ _)
                  intro u h; obtain rfl := Eq.symm (h (by simp)); clear h
                  subst Q1_16
                  refine relyEnd_nil rfl ?_
                  refine wpList_end rfl ?_
                  simp only [Act.put, List.setIfInBounds_toArray, List.set_cons_zero, List.set_cons_succ]
                  go_simp
                  replace R1 := Lib.hid (k16.row R1.out)
                  replace R3 := Lib.hid (k16.row R3.out)
                  replace HS := Lib.hid (k16.pairs HS.out)
                  replace HD := Lib.hid (k16.rd HD.out)
                  replace HN := Lib.hid (NewT.trans _ _ _ HN.out k16)
                  clear k16
                  cases hb16 : ((((!(recQ x)) && (x.kind != 6)) && ((x.part != 0) || (x.epoch != 0))))
                  rotate_left
                  · have HB16 := Lib.hid hb16
                    clear hb16
                    go_wp2
                    go_ret
                    exact ⟨_, rfl, HN.out, by unfold refR; rw [if_neg (by rw [HB3.out]; decide)]; rw [if_neg (by rw [HB6.out]; decide)]; rw [if_neg (by rw [HB10.out]; decide)]; rw [if_neg (by rw [HB12.out]; decide)]; rw [if_neg (by rw [HB14.out]; decide)]; rw [if_pos HB16.out]; rfl⟩
                  have HB16 := Lib.hid hb16
                  clear hb16
                  go_upto_region 18 with fail
                  refine wp_region_steps0 NewT [SV.eq (.bool (begQ x)), SV.eq (.bool (!(begQ x)))] [([(4, none)], none), ([(170, some 0)], none)] 251 2 rfl rfl (by kernel_rfl) NewT.trans (NewT.refl _) (Nat.le_of_ble_eq_true rfl) ⟨?_, ?_, trivial⟩ ?_
                  · exact fun a wx hT hF K hK => rely_wp rfl (opr_move (.inl rfl) (hK _ _ (NewT.refl _) hF.1))
                  · exact fun a wx hT hF K hK => rely_wp rfl (opr_not rfl hF.1 (hK _ _ (NewT.refl _) rfl))
                  · intro w18 k18
                    iterate 2 (intro u h; obtain rfl := Eq.symm (h (by simp)); clear h)
                    refine relyEnd_nil rfl ?_
                    refine wpList_end rfl ?_
                    simp only [Act.put, List.setIfInBounds_toArray, List.set_cons_zero, List.set_cons_succ]
                    go_simp
                    replace R1 := Lib.hid (k18.row R1.out)
                    replace R3 := Lib.hid (k18.row R3.out)
                    replace HS := Lib.hid (k18.pairs HS.out)
                    replace HD := Lib.hid (k18.rd HD.out)
                    replace HN := Lib.hid (NewT.trans _ _ _ HN.out k18)
                    clear k18
                    cases hb18 : (!(begQ x))
                    rotate_left
                    · have HB18 := Lib.hid hb18
                      clear hb18
                      go_upto_region 19 with fail
                      obtain ⟨q1_19, Q1_19⟩ : ∃ bq_, ((((List.length (x.steps) : Int)) == 0) && (((List.length (x.data) : Int)) == 0)) = bq_ := ⟨_, rfl⟩
                      obtain ⟨q2_19, Q2_19⟩ : ∃ bq_, (q1_19 && (eqH (x.salt) (fun _ => 0))) = bq_ := ⟨_, rfl⟩
                      obtain ⟨q3_19, Q3_19⟩ : ∃ bq_, ((q2_19 && (!x.gone)) && (eqH (x.com) (fun _ => 0))) = bq_ := ⟨_, rfl⟩
                      refine wp_region_steps0 NewT [SV.eq (.pointer (some ⟨w.heap.size, 42, none⟩)), SV.eq (sv), SV.eq (.int .i64 ((List.length (x.steps) : Int))), SV.eq (.bool (((List.length (x.steps) : Int)) == 0)), SV.eq (.bool (((List.length (x.steps) : Int)) == 0)), svIf (((List.length (x.steps) : Int)) == 0) (SV.eq (.pointer (some ⟨w.heap.size, 43, none⟩))), svIf (((List.length (x.steps) : Int)) == 0) (SV.eq (dv)), svIf (((List.length (x.steps) : Int)) == 0) (SV.eq (.int .i64 ((List.length (x.data) : Int)))), svIf (((List.length (x.steps) : Int)) == 0) (SV.eq (.bool (((List.length (x.data) : Int)) == 0))), SV.eq (.bool (q1_19)), SV.eq (.bool (q1_19)), svIf q1_19 (SV.eq (.pointer (some ⟨w.heap.size, 44, none⟩))), svIf q1_19 (SV.eq (.agg (rowA 32 (bF (x.salt))))), svIf q1_19 (SV.eq (.agg (rowA 32 (bF (fun _ => 0))))), svIf q1_19 (SV.eq (.bool (eqH (x.salt) (fun _ => 0)))), SV.eq (.bool (q2_19)), SV.eq (.bool (q2_19)), svIf q2_19 (SV.eq (.pointer (some ⟨w.heap.size, 76, none⟩))), svIf q2_19 (SV.eq (.bool (x.gone))), svIf q2_19 (SV.eq (.bool (!x.gone))), SV.eq (.bool (q2_19 && (!x.gone))), SV.eq (.bool (q2_19 && (!x.gone))), svIf (q2_19 && (!x.gone)) (SV.eq (.pointer (some ⟨w.heap.size, 77, none⟩))), svIf (q2_19 && (!x.gone)) (SV.eq (.agg (rowA 32 (bF (x.com))))), svIf (q2_19 && (!x.gone)) (SV.eq (.agg (rowA 32 (bF (fun _ => 0))))), svIf (q2_19 && (!x.gone)) (SV.eq (.bool (eqH (x.com) (fun _ => 0)))), SV.eq (.bool (q3_19))] [([(1, none)], none), ([(172, some 0)], none), ([(173, some 1)], none), ([(174, some 2)], none), ([(175, some 3)], none), ([(1, none), (176, some 4)], some (176, true)), ([(177, some 5), (176, some 4)], some (176, true)), ([(178, some 6), (176, some 4)], some (176, true)), ([(179, some 7), (176, some 4)], some (176, true)), ([(176, some 4), (180, some 8)], none), ([(181, some 9)], none), ([(1, none), (182, some 10)], some (182, true)), ([(183, some 11), (182, some 10)], some (182, true)), ([(3, none), (182, some 10)], some (182, true)), ([(184, some 12), (185, some 13), (182, some 10)], some (182, true)), ([(182, some 10), (186, some 14)], none), ([(187, some 15)], none), ([(1, none), (188, some 16)], some (188, true)), ([(189, some 17), (188, some 16)], some (188, true)), ([(190, some 18), (188, some 16)], some (188, true)), ([(188, some 16), (191, some 19)], none), ([(192, some 20)], none), ([(1, none), (193, some 21)], some (193, true)), ([(194, some 22), (193, some 21)], some (193, true)), ([(3, none), (193, some 21)], some (193, true)), ([(195, some 23), (196, some 24), (193, some 21)], some (193, true)), ([(193, some 21), (197, some 25)], none)] 251 27 rfl rfl (by kernel_rfl) NewT.trans (NewT.refl _) (Nat.le_of_ble_eq_true rfl) ⟨?_, ?_, ?_, ?_, ?_, ?_, ?_, ?_, ?_, ?_, ?_, ?_, ?_, ?_, ?_, ?_, ?_, ?_, ?_, ?_, ?_, ?_, ?_, ?_, ?_, ?_, ?_, trivial⟩ ?_
                      · exact fun a wx hT hF K hK => rely_wp rfl (opr_fldR (by decide) rfl hF.1 (hK _ _ (NewT.refl _) rfl))
                      · exact fun a wx hT hF K hK => rely_wp rfl (opr_ldS (hT.row R1.out) (by decide) rfl rfl hF.1 (hK _ _ (NewT.refl _) rfl))
                      · intro a wx hT hF K hK
                        obtain ⟨f173, _⟩ := hF
                        have f173 : a.tmps.getD 173 undef = sv := f173
                        refine rely_wp rfl ?_
                        exact opr_len_pairs rfl (by rw [eval_tmp, f173]; exact (hT.pairs HS.out)) (hK _ _ (NewT.refl _) rfl)
                      · exact fun a wx hT hF K hK => rely_wp rfl (opr_cmp (b := ((List.length (x.steps) : Int)) == 0) (.inl ⟨rfl, rfl⟩) Tryd.underlying3 rfl hF.1 rfl (hK _ _ (NewT.refl _) rfl))
                      · exact fun a wx hT hF K hK => rely_wp rfl (opr_move (.inl rfl) (hK _ _ (NewT.refl _) hF.1))
                      · exact fun a wx hT hF K hK => rely_if (rely_gt hF.2.1) (NewT.refl _) hK fun hE hK => opr_fldR (by decide) rfl hF.1 (hK _ _ (NewT.refl _) rfl)
                      · exact fun a wx hT hF K hK => rely_if (rely_gt hF.2.1) (NewT.refl _) hK fun hE hK => opr_ldB (hT.row R1.out) (by decide) rfl rfl (hF.1 hE) (hK _ _ (NewT.refl _) rfl)
                      · intro a wx hT hF K hK
                        obtain ⟨f178, f176, _⟩ := hF
                        have f178 : (((List.length (x.steps) : Int)) == 0) = true → a.tmps.getD 178 undef = dv := f178
                        have f176 : a.tmps.getD 176 undef = .bool (((List.length (x.steps) : Int)) == 0) := f176
                        refine rely_if (rely_gt f176) (NewT.refl _) hK (fun hE hK => ?_)
                        exact opr_len_rd rfl (by rw [eval_tmp, (f178 hE)]; exact (hT.rd HD.out)) (hK _ _ (NewT.refl _) rfl)
                      · exact fun a wx hT hF K hK => rely_if (rely_gt hF.2.1) (NewT.refl _) hK fun hE hK => opr_cmp (b := ((List.length (x.data) : Int)) == 0) (.inl ⟨rfl, rfl⟩) Tryd.underlying3 rfl (hF.1 hE) rfl (hK _ _ (NewT.refl _) rfl)
                      · exact fun a wx hT hF K hK => rely_wp rfl (opr_pick_b rfl hF.1 (fun hb => hK _ _ (NewT.refl _) (pn_and1 Q1_19 (hF.2.1 hb) hb)) (fun hb => hK _ _ (NewT.refl _) (pn_and0 Q1_19 hb)))
                      · exact fun a wx hT hF K hK => rely_wp rfl (opr_move (.inl rfl) (hK _ _ (NewT.refl _) hF.1))
                      · exact fun a wx hT hF K hK => rely_if (rely_gt hF.2.1) (NewT.refl _) hK fun hE hK => opr_fldR (by decide) rfl hF.1 (hK _ _ (NewT.refl _) rfl)
                      · exact fun a wx hT hF K hK => rely_if (rely_gt hF.2.1) (NewT.refl _) hK fun hE hK => opr_ldH (hT.row R1.out) (by decide) (recF_salt x _ _) rfl (hF.1 hE) (hK _ _ (NewT.refl _) rfl)
                      · exact fun a wx hT hF K hK => rely_if (rely_gt hF.2.1) (NewT.refl _) hK fun hE hK => opr_load_hash rfl hF.1 (hT.row R3.out) (hK _ _ (NewT.refl _) rfl)
                      · exact fun a wx hT hF K hK => rely_if (rely_gt hF.2.2.1) (NewT.refl _) hK fun hE hK => opr_eql_hash (b := eqH (x.salt) (fun _ => 0)) rfl (hF.1 hE) (hF.2.1 hE) (rfl) (hK _ _ (NewT.refl _) rfl)
                      · exact fun a wx hT hF K hK => rely_wp rfl (opr_pick_b rfl hF.1 (fun hb => hK _ _ (NewT.refl _) (pn_and1 Q2_19 (hF.2.1 hb) hb)) (fun hb => hK _ _ (NewT.refl _) (pn_and0 Q2_19 hb)))
                      · exact fun a wx hT hF K hK => rely_wp rfl (opr_move (.inl rfl) (hK _ _ (NewT.refl _) hF.1))
                      · exact fun a wx hT hF K hK => rely_if (rely_gt hF.2.1) (NewT.refl _) hK fun hE hK => opr_fldR (by decide) rfl hF.1 (hK _ _ (NewT.refl _) rfl)
                      · exact fun a wx hT hF K hK => rely_if (rely_gt hF.2.1) (NewT.refl _) hK fun hE hK => opr_ldQ (hT.row R1.out) (by decide) rfl rfl (hF.1 hE) (hK _ _ (NewT.refl _) rfl)
                      · exact fun a wx hT hF K hK => rely_if (rely_gt hF.2.1) (NewT.refl _) hK fun hE hK => opr_not rfl (hF.1 hE) (hK _ _ (NewT.refl _) rfl)
                      · exact fun a wx hT hF K hK => rely_wp rfl (opr_pick_b rfl hF.1 (fun hb => hK _ _ (NewT.refl _) (pk_and1 (hF.2.1 hb) hb)) (fun hb => hK _ _ (NewT.refl _) (pk_and0 hb)))
                      · exact fun a wx hT hF K hK => rely_wp rfl (opr_move (.inl rfl) (hK _ _ (NewT.refl _) hF.1))
                      · exact fun a wx hT hF K hK => rely_if (rely_gt hF.2.1) (NewT.refl _) hK fun hE hK => opr_fldR (by decide) rfl hF.1 (hK _ _ (NewT.refl _) rfl)
                      · exact fun a wx hT hF K hK => rely_if (rely_gt hF.2.1) (NewT.refl _) hK fun hE hK => opr_ldH (hT.row R1.out) (by decide) (recF_com x _ _) rfl (hF.1 hE) (hK _ _ (NewT.refl _) rfl)
                      · exact fun a wx hT hF K hK => rely_if (rely_gt hF.2.1) (NewT.refl _) hK fun hE hK => opr_load_hash rfl hF.1 (hT.row R3.out) (hK _ _ (NewT.refl _) rfl)
                      · exact fun a wx hT hF K hK => rely_if (rely_gt hF.2.2.1) (NewT.refl _) hK fun hE hK => opr_eql_hash (b := eqH (x.com) (fun _ => 0)) rfl (hF.1 hE) (hF.2.1 hE) (rfl) (hK _ _ (NewT.refl _) rfl)
                      · exact fun a wx hT hF K hK => rely_wp rfl (opr_pick_b rfl hF.1 (fun hb => hK _ _ (NewT.refl _) (pn_and1 Q3_19 (hF.2.1 hb) hb)) (fun hb => hK _ _ (NewT.refl _) (pn_and0 Q3_19 hb)))
                      · intro w19 k19
                        iterate 5 (intro u h; obtain rfl := Eq.symm (h (by simp)); clear h)
                        iterate 4 (intro _ _)
                        iterate 2 (intro u h; obtain rfl := Eq.symm (h (by simp)); clear h)
                        iterate 4 (intro _ _)
                        iterate 2 (intro u h; obtain rfl := Eq.symm (h (by simp)); clear h)
                        iterate 3 (intro _ _)
                        iterate 2 (intro u h; obtain rfl := Eq.symm (h (by simp)); clear h)
                        iterate 4 (intro _ _)
                        intro u h; obtain rfl := Eq.symm (h (by simp)); clear h
                        subst Q3_19 Q2_19 Q1_19
                        refine relyEnd_nil rfl ?_
                        simp only [Act.put, List.setIfInBounds_toArray, List.set_cons_zero, List.set_cons_succ]
                        refine wpList_plain rfl (fun K hK => ?_)
                        refine opr_move (.inr rfl) (hK _ _ ?_)
                        refine wpList_end rfl ?_
                        go_simp
                        replace R1 := Lib.hid (k19.row R1.out)
                        replace R3 := Lib.hid (k19.row R3.out)
                        replace HS := Lib.hid (k19.pairs HS.out)
                        replace HD := Lib.hid (k19.rd HD.out)
                        replace HN := Lib.hid (NewT.trans _ _ _ HN.out k19)
                        clear k19
                        go_wp2
                        go_ret
                        exact ⟨_, rfl, HN.out, by unfold refR; rw [if_neg (by rw [HB3.out]; decide)]; rw [if_neg (by rw [HB6.out]; decide)]; rw [if_neg (by rw [HB10.out]; decide)]; rw [if_neg (by rw [HB12.out]; decide)]; rw [if_neg (by rw [HB14.out]; decide)]; rw [if_neg (by rw [HB16.out]; decide)]; rw [if_pos HB18.out]; rfl⟩
                    have HB18 := Lib.hid hb18
                    clear hb18
                    obtain ⟨A0, cap, rfl, p1, p2, p3⟩ := HS.out
                    have P3 := Lib.hid p3
                    have HSo := HS
                    unfold maxLen at p2
                    clear p3
                    have c42 : w18.cell? ⟨w.heap.size, 42, none⟩ = some (.slice A0 x.steps.length cap) := R1.out.cell (i := 42) (by omega)
                    go_wp2
                    go_loopw [7] (fun i wr => ∃ k : Nat, k ≤ x.steps.length ∧ i = .int .i64 k ∧ Hid ((x.steps.take k).all stepOk = true) ∧ NewT w18 wr) (fun i _ => x.steps.length - (intOf i).toNat)
                    case atStart => exact ⟨0, by omega, rfl, Lib.hid (by simp), NewT.refl _⟩
                    case round =>
                      obtain ⟨k, hk, rfl, Hs, qN⟩ := hrel
                      replace c42 := (qN.out.cell (p := ⟨w.heap.size, 42, none⟩) (World.block_lt_of_cell? _ _ c42)).trans c42
                      replace R1 := Lib.hid (qN.row R1.out)
                      replace R3 := Lib.hid (qN.row R3.out)
                      replace HD := Lib.hid (qN.rd HD.out)
                      replace HSo := Lib.hid (qN.pairs HSo.out)
                      by_cases hlt : k < x.steps.length
                      · obtain ⟨b, o, rfl, hcell⟩ := P3.out (by omega)
                        obtain ⟨j0, j1⟩ := hcell k hlt
                        have k0 := (qN.out.cell (p := ⟨b, o + 2 * k, none⟩) (World.block_lt_of_cell? _ _ j0)).trans j0
                        have k1 := (qN.out.cell (p := ⟨b, o + 2 * k + 1, none⟩) (World.block_lt_of_cell? _ _ j1)).trans j1
                        have Hal := Lib.hid (all_next x.steps k hlt)
                        have Hno := Lib.hid (all_not x.steps k hlt)
                        clear hcell j0 j1
                        generalize x.steps.getD k (0, 0) = s at k0 k1 Hal Hno
                        have it : (k : Int) < (x.steps.length : Int) := by omega
                        go_upto_region 23 with fail
                        obtain ⟨q1_23, Q1_23⟩ : ∃ bq_, ((!(inR s.1 0 3)) || (!(inR s.2 1 3))) = bq_ := ⟨_, rfl⟩
                        refine wp_region_steps0 NewT [SV.eq (.pointer (some ⟨w.heap.size, 42, none⟩)), SV.eq ((.slice (some ⟨b, o, none⟩) x.steps.length cap)), SV.eq (.int .i64 ((k : Int))), SV.eq (.pointer (some ⟨b, o + 2 * k, none⟩)), SV.eq (.pointer (some ⟨b, o + 2 * k + 0, none⟩)), SV.eq (.int .i64 (s.1)), SV.eq (.bool (inR s.1 0 3)), SV.eq (.bool (!(inR s.1 0 3))), SV.eq (.bool (!(inR s.1 0 3))), svIf ((!(!(inR s.1 0 3)))) (SV.eq (.pointer (some ⟨w.heap.size, 42, none⟩))), svIf ((!(!(inR s.1 0 3)))) (SV.eq ((.slice (some ⟨b, o, none⟩) x.steps.length cap))), svIf ((!(!(inR s.1 0 3)))) (SV.eq (.int .i64 ((k : Int)))), svIf ((!(!(inR s.1 0 3)))) (SV.eq (.pointer (some ⟨b, o + 2 * k, none⟩))), svIf ((!(!(inR s.1 0 3)))) (SV.eq (.pointer (some ⟨b, o + 2 * k + 1, none⟩))), svIf ((!(!(inR s.1 0 3)))) (SV.eq (.int .i64 (s.2))), svIf ((!(!(inR s.1 0 3)))) (SV.eq (.bool (inR s.2 1 3))), svIf ((!(!(inR s.1 0 3)))) (SV.eq (.bool (!(inR s.2 1 3)))), SV.eq (.bool (q1_23))] [([(1, none)], none), ([(206, some 0)], none), ([(7, none)], none), ([(207, some 1), (208, some 2)], none), ([(209, some 3)], none), ([(210, some 4)], none), ([(211, some 5)], none), ([(212, some 6)], none), ([(213, some 7)], none), ([(1, none), (214, some 8)], some (214, false)), ([(215, some 9), (214, some 8)], some (214, false)), ([(7, none), (214, some 8)], some (214, false)), ([(216, some 10), (217, some 11), (214, some 8)], some (214, false)), ([(218, some 12), (214, some 8)], some (214, false)), ([(219, some 13), (214, some 8)], some (214, false)), ([(220, some 14), (214, some 8)], some (214, false)), ([(221, some 15), (214, some 8)], some (214, false)), ([(214, some 8), (222, some 16)], none)] 251 18 rfl rfl (by kernel_rfl) NewT.trans (NewT.refl _) (Nat.le_of_ble_eq_true rfl) ⟨?_, ?_, ?_, ?_, ?_, ?_, ?_, ?_, ?_, ?_, ?_, ?_, ?_, ?_, ?_, ?_, ?_, ?_, trivial⟩ ?_
                        · exact fun a wx hT hF K hK => rely_wp rfl (opr_fldR (by decide) rfl hF.1 (hK _ _ (NewT.refl _) rfl))
                        · exact fun a wx hT hF K hK => rely_wp rfl (opr_ldS (hT.row R1.out) (by decide) rfl rfl hF.1 (hK _ _ (NewT.refl _) rfl))
                        · exact fun a wx hT hF K hK => rely_wp rfl (opr_move (.inl rfl) (hK _ _ (NewT.refl _) hF.1))
                        · exact fun a wx hT hF K hK => rely_wp rfl (opr_idxS hlt rfl hF.1 hF.2.1 (hK _ _ (NewT.refl _) rfl))
                        · exact fun a wx hT hF K hK => rely_wp rfl (opr_fldS (by decide) rfl hF.1 (hK _ _ (NewT.refl _) rfl))
                        · exact fun a wx hT hF K hK => rely_wp rfl (opr_ld1 Tryd.underlying3 rfl rfl hF.1 (show wx.cell? ⟨b, o + 2 * k + 0, none⟩ = _ from (hT.out.cell (World.block_lt_of_cell? _ _ k0)).trans k0) (hK _ _ (NewT.refl _) rfl))
                        · exact fun a wx hT hF K hK => rely_wp rfl (opr_cv (refIn_cv s.1 0 3 wx) rfl Tryd.func43 (by kernel_rfl) (by kernel_rfl) (evs3 hF.1 rfl rfl) hK)
                        · exact fun a wx hT hF K hK => rely_wp rfl (opr_not rfl hF.1 (hK _ _ (NewT.refl _) rfl))
                        · exact fun a wx hT hF K hK => rely_wp rfl (opr_move (.inl rfl) (hK _ _ (NewT.refl _) hF.1))
                        · exact fun a wx hT hF K hK => rely_if (rely_gf hF.2.1) (NewT.refl _) hK fun hE hK => opr_fldR (by decide) rfl hF.1 (hK _ _ (NewT.refl _) rfl)
                        · exact fun a wx hT hF K hK => rely_if (rely_gf hF.2.1) (NewT.refl _) hK fun hE hK => opr_ldS (hT.row R1.out) (by decide) rfl rfl (hF.1 hE) (hK _ _ (NewT.refl _) rfl)
                        · exact fun a wx hT hF K hK => rely_if (rely_gf hF.2.1) (NewT.refl _) hK fun hE hK => opr_move (.inl rfl) (hK _ _ (NewT.refl _) hF.1)
                        · exact fun a wx hT hF K hK => rely_if (rely_gf hF.2.2.1) (NewT.refl _) hK fun hE hK => opr_idxS hlt rfl (hF.1 hE) (hF.2.1 hE) (hK _ _ (NewT.refl _) rfl)
                        · exact fun a wx hT hF K hK => rely_if (rely_gf hF.2.1) (NewT.refl _) hK fun hE hK => opr_fldS (by decide) rfl (hF.1 hE) (hK _ _ (NewT.refl _) rfl)
                        · exact fun a wx hT hF K hK => rely_if (rely_gf hF.2.1) (NewT.refl _) hK fun hE hK => opr_ld1 Tryd.underlying3 rfl rfl (hF.1 hE) (show wx.cell? ⟨b, o + 2 * k + 1, none⟩ = _ from (hT.out.cell (World.block_lt_of_cell? _ _ k1)).trans k1) (hK _ _ (NewT.refl _) rfl)
                        · exact fun a wx hT hF K hK => rely_if (rely_gf hF.2.1) (NewT.refl _) hK fun hE hK => opr_cv (refIn_cv s.2 1 3 wx) rfl Tryd.func43 (by kernel_rfl) (by kernel_rfl) (evs3 (hF.1 hE) rfl rfl) hK
                        · exact fun a wx hT hF K hK => rely_if (rely_gf hF.2.1) (NewT.refl _) hK fun hE hK => opr_not rfl (hF.1 hE) (hK _ _ (NewT.refl _) rfl)
                        · exact fun a wx hT hF K hK => rely_wp rfl (opr_pick_b rfl hF.1 (fun hb => hK _ _ (NewT.refl _) (pn_or1 Q1_23 hb)) (fun hb => hK _ _ (NewT.refl _) (pn_or0 Q1_23 (hF.2.1 (bnot hb)) hb)))
                        · intro w23 k23
                          iterate 9 (intro u h; obtain rfl := Eq.symm (h (by simp)); clear h)
                          iterate 8 (intro _ _)
                          intro u h; obtain rfl := Eq.symm (h (by simp)); clear h
                          subst Q1_23
                          refine relyEnd_nil rfl ?_
                          refine wpList_end rfl ?_
                          simp only [Act.put, List.setIfInBounds_toArray, List.set_cons_zero, List.set_cons_succ]
                          go_simp
                          have hst : (((!(inR s.1 0 3)) || (!(inR s.2 1 3)))) = !stepOk s := by unfold stepOk; cases inR s.1 0 3 <;> rfl
                          have HST := Lib.hid hst
                          clear hst
                          cases hq : (((!(inR s.1 0 3)) || (!(inR s.2 1 3))))
                          · have Hq : Hid (stepOk s = true) := Lib.hid (by have := HST.out; rw [hq] at this; simpa using this.symm)
                            clear hq
                            go_wp2
                            go_roundw
                            case rel => exact ⟨k + 1, by omega, by go_num, Lib.hid (by rw [Hal.out, Hs.out, Hq.out]; rfl), NewT.trans _ _ _ qN k23⟩
                            case measure => simp [intOf]; omega
                          · have Hq : Hid (stepOk s = false) := Lib.hid (by have := HST.out; rw [hq] at this; simpa using this.symm)
                            have HBs : Hid (x.steps.all stepOk = false) := Lib.hid (Hno.out Hq.out)
                            clear hq
                            go_wp2
                            go_ret
                            exact ⟨_, rfl, NewT.trans _ _ _ HN.out (NewT.trans _ _ _ qN k23), by unfold refR; rw [if_neg (by rw [HB3.out]; decide)]; rw [if_neg (by rw [HB6.out]; decide)]; rw [if_neg (by rw [HB10.out]; decide)]; rw [if_neg (by rw [HB12.out]; decide)]; rw [if_neg (by rw [HB14.out]; decide)]; rw [if_neg (by rw [HB16.out]; decide)]; rw [if_neg (by rw [HB18.out]; decide)]; rw [if_pos HBs.out]; rfl⟩
                      · obtain rfl : k = x.steps.length := by omega
                        have HBs : Hid (x.steps.all stepOk = true) := Lib.hid (by have := Hs.out; rw [List.take_length] at this; exact this)
                        replace HN := Lib.hid (NewT.trans _ _ _ HN.out qN)
                        replace HS := HSo
                        clear HSo Hs
                        generalize wr = w20 at *
                        clear qN
                        go_upto_region 25 with fail
                        obtain ⟨q1_25, Q1_25⟩ : ∃ bq_, ((!(inR ((List.length (x.steps) : Int)) 1 6)) || (decide (60 < ((List.length (x.data) : Int))))) = bq_ := ⟨_, rfl⟩
                        refine wp_region_steps0 NewT [SV.eq (.pointer (some ⟨w.heap.size, 42, none⟩)), SV.eq ((.slice A0 x.steps.length cap)), SV.eq (.int .i64 ((List.length (x.steps) : Int))), SV.eq (.bool (inR ((List.length (x.steps) : Int)) 1 6)), SV.eq (.bool (!(inR ((List.length (x.steps) : Int)) 1 6))), SV.eq (.bool (!(inR ((List.length (x.steps) : Int)) 1 6))), svIf ((!(!(inR ((List.length (x.steps) : Int)) 1 6)))) (SV.eq (.pointer (some ⟨w.heap.size, 43, none⟩))), svIf ((!(!(inR ((List.length (x.steps) : Int)) 1 6)))) (SV.eq (dv)), svIf ((!(!(inR ((List.length (x.steps) : Int)) 1 6)))) (SV.eq (.int .i64 ((List.length (x.data) : Int)))), svIf ((!(!(inR ((List.length (x.steps) : Int)) 1 6)))) (SV.eq (.bool (decide (60 < ((List.length (x.data) : Int)))))), SV.eq (.bool (q1_25))] [([(1, none)], none), ([(224, some 0)], none), ([(225, some 1)], none), ([(226, some 2)], none), ([(227, some 3)], none), ([(228, some 4)], none), ([(1, none), (229, some 5)], some (229, false)), ([(230, some 6), (229, some 5)], some (229, false)), ([(231, some 7), (229, some 5)], some (229, false)), ([(232, some 8), (229, some 5)], some (229, false)), ([(229, some 5), (233, some 9)], none)] 251 11 rfl rfl (by kernel_rfl) NewT.trans (NewT.refl _) (Nat.le_of_ble_eq_true rfl) ⟨?_, ?_, ?_, ?_, ?_, ?_, ?_, ?_, ?_, ?_, ?_, trivial⟩ ?_
                        · exact fun a wx hT hF K hK => rely_wp rfl (opr_fldR (by decide) rfl hF.1 (hK _ _ (NewT.refl _) rfl))
                        · exact fun a wx hT hF K hK => rely_wp rfl (opr_ldS (hT.row R1.out) (by decide) rfl rfl hF.1 (hK _ _ (NewT.refl _) rfl))
                        · intro a wx hT hF K hK
                          obtain ⟨f225, _⟩ := hF
                          have f225 : a.tmps.getD 225 undef = (.slice A0 x.steps.length cap) := f225
                          refine rely_wp rfl ?_
                          exact opr_len_pairs rfl (by rw [eval_tmp, f225]; exact (hT.pairs HS.out)) (hK _ _ (NewT.refl _) rfl)
                        · exact fun a wx hT hF K hK => rely_wp rfl (opr_cv (refIn_cv ((List.length (x.steps) : Int)) 1 6 wx) rfl Tryd.func43 (by kernel_rfl) (by kernel_rfl) (evs3 hF.1 rfl rfl) hK)
                        · exact fun a wx hT hF K hK => rely_wp rfl (opr_not rfl hF.1 (hK _ _ (NewT.refl _) rfl))
                        · exact fun a wx hT hF K hK => rely_wp rfl (opr_move (.inl rfl) (hK _ _ (NewT.refl _) hF.1))
                        · exact fun a wx hT hF K hK => rely_if (rely_gf hF.2.1) (NewT.refl _) hK fun hE hK => opr_fldR (by decide) rfl hF.1 (hK _ _ (NewT.refl _) rfl)
                        · exact fun a wx hT hF K hK => rely_if (rely_gf hF.2.1) (NewT.refl _) hK fun hE hK => opr_ldB (hT.row R1.out) (by decide) rfl rfl (hF.1 hE) (hK _ _ (NewT.refl _) rfl)
                        · intro a wx hT hF K hK
                          obtain ⟨f231, f229, _⟩ := hF
                          have f231 : ((!(!(inR ((List.length (x.steps) : Int)) 1 6)))) = true → a.tmps.getD 231 undef = dv := f231
                          have f229 : a.tmps.getD 229 undef = .bool (!(inR ((List.length (x.steps) : Int)) 1 6)) := f229
                          refine rely_if (rely_gf f229) (NewT.refl _) hK (fun hE hK => ?_)
                          exact opr_len_rd rfl (by rw [eval_tmp, (f231 hE)]; exact (hT.rd HD.out)) (hK _ _ (NewT.refl _) rfl)
                        · exact fun a wx hT hF K hK => rely_if (rely_gf hF.2.1) (NewT.refl _) hK fun hE hK => opr_cmp (b := decide (60 < ((List.length (x.data) : Int)))) (.inr (.inr (.inr (.inr (.inl ⟨rfl, rfl⟩))))) Tryd.underlying3 rfl (hF.1 hE) rfl (hK _ _ (NewT.refl _) rfl)
                        · exact fun a wx hT hF K hK => rely_wp rfl (opr_pick_b rfl hF.1 (fun hb => hK _ _ (NewT.refl _) (pn_or1 Q1_25 hb)) (fun hb => hK _ _ (NewT.refl _) (pn_or0 Q1_25 (hF.2.1 (bnot hb)) hb)))
                        · intro w25 k25
                          iterate 6 (intro u h; obtain rfl := Eq.symm (h (by simp)); clear h)
                          iterate 4 (intro _ _)
                          intro u h; obtain rfl := Eq.symm (h (by simp)); clear h
                          subst Q1_25
                          refine relyEnd_nil rfl ?_
                          refine wpList_end rfl ?_
                          simp only [Act.put, List.setIfInBounds_toArray, List.set_cons_zero, List.set_cons_succ]
                          go_simp
                          replace R1 := Lib.hid (k25.row R1.out)
                          replace R3 := Lib.hid (k25.row R3.out)
                          replace HS := Lib.hid (k25.pairs HS.out)
                          replace HD := Lib.hid (k25.rd HD.out)
                          replace HN := Lib.hid (NewT.trans _ _ _ HN.out k25)
                          clear k25
                          cases hb25 : (((!(inR ((List.length (x.steps) : Int)) 1 6)) || (decide (60 < ((List.length (x.data) : Int))))))
                          rotate_left
                          · have HB25 := Lib.hid hb25
                            clear hb25
                            go_wp2
                            go_ret
                            exact ⟨_, rfl, HN.out, by unfold refR; rw [if_neg (by rw [HB3.out]; decide)]; rw [if_neg (by rw [HB6.out]; decide)]; rw [if_neg (by rw [HB10.out]; decide)]; rw [if_neg (by rw [HB12.out]; decide)]; rw [if_neg (by rw [HB14.out]; decide)]; rw [if_neg (by rw [HB16.out]; decide)]; rw [if_neg (by rw [HB18.out]; decide)]; rw [if_neg (by rw [HBs.out]; decide)]; rw [if_pos HB25.out]; rfl⟩
                          have HB25 := Lib.hid hb25
                          clear hb25
                          have c76 : w25.cell? ⟨w.heap.size, 76, none⟩ = some (.bool x.gone) := R1.out.cell (i := 76) (by omega)
                          cases hg : x.gone
                          · rw [hg] at c76
                            have HG : Hid (x.gone = false) := Lib.hid hg
                            clear hg
                            go_upto_region 29 with fail
                            clear c76
                            refine wp_region_steps0 NewT [SV.eq (.pointer (some ⟨w.heap.size, 77, none⟩)), SV.eq (.agg (rowA 32 (bF (x.com)))), SV.eq (.agg (rowA 32 (bF (fun _ => 0)))), SV.eq (.bool (eqH (x.com) (fun _ => 0)))] [([(1, none)], none), ([(247, some 0)], none), ([(3, none)], none), ([(248, some 1), (249, some 2)], none)] 251 4 rfl rfl (by kernel_rfl) NewT.trans (NewT.refl _) (Nat.le_of_ble_eq_true rfl) ⟨?_, ?_, ?_, ?_, trivial⟩ ?_
                            · exact fun a wx hT hF K hK => rely_wp rfl (opr_fldR (by decide) rfl hF.1 (hK _ _ (NewT.refl _) rfl))
                            · exact fun a wx hT hF K hK => rely_wp rfl (opr_ldH (hT.row R1.out) (by decide) (recF_com x _ _) rfl hF.1 (hK _ _ (NewT.refl _) rfl))
                            · exact fun a wx hT hF K hK => rely_wp rfl (opr_load_hash rfl hF.1 (hT.row R3.out) (hK _ _ (NewT.refl _) rfl))
                            · exact fun a wx hT hF K hK => rely_wp rfl (opr_eql_hash (b := eqH (x.com) (fun _ => 0)) rfl hF.1 hF.2.1 (rfl) (hK _ _ (NewT.refl _) rfl))
                            · intro w29 k29
                              iterate 4 (intro u h; obtain rfl := Eq.symm (h (by simp)); clear h)
                              refine relyEnd_nil rfl ?_
                              simp only [Act.put, List.setIfInBounds_toArray, List.set_cons_zero, List.set_cons_succ]
                              refine wpList_plain rfl (fun K hK => ?_)
                              refine opr_move (.inr rfl) (hK _ _ ?_)
                              refine wpList_end rfl ?_
                              go_simp
                              go_wp2
                              go_ret
                              exact ⟨_, rfl, NewT.trans _ _ _ HN.out k29, by unfold refR; rw [if_neg (by rw [HB3.out]; decide)]; rw [if_neg (by rw [HB6.out]; decide)]; rw [if_neg (by rw [HB10.out]; decide)]; rw [if_neg (by rw [HB12.out]; decide)]; rw [if_neg (by rw [HB14.out]; decide)]; rw [if_neg (by rw [HB16.out]; decide)]; rw [if_neg (by rw [HB18.out]; decide)]; rw [if_neg (by rw [HBs.out]; decide)]; rw [if_neg (by rw [HB25.out]; decide)]; rw [if_neg (by rw [HG.out]; decide)]; rfl⟩
                          · rw [hg] at c76
                            have HG : Hid (x.gone = true) := Lib.hid hg
                            clear hg
                            go_upto_region 28 with fail
                            clear c76
                            obtain ⟨q1_28, Q1_28⟩ : ∃ bq_, ((((List.length (x.data) : Int)) == 0) && (eqH (x.salt) (fun _ => 0))) = bq_ := ⟨_, rfl⟩
                            refine wp_region_steps0 NewT [SV.eq (.pointer (some ⟨w.heap.size, 43, none⟩)), SV.eq (dv), SV.eq (.int .i64 ((List.length (x.data) : Int))), SV.eq (.bool (((List.length (x.data) : Int)) == 0)), SV.eq (.bool (((List.length (x.data) : Int)) == 0)), svIf (((List.length (x.data) : Int)) == 0) (SV.eq (.pointer (some ⟨w.heap.size, 44, none⟩))), svIf (((List.length (x.data) : Int)) == 0) (SV.eq (.agg (rowA 32 (bF (x.salt))))), svIf (((List.length (x.data) : Int)) == 0) (SV.eq (.agg (rowA 32 (bF (fun _ => 0))))), svIf (((List.length (x.data) : Int)) == 0) (SV.eq (.bool (eqH (x.salt) (fun _ => 0)))), SV.eq (.bool (q1_28))] [([(1, none)], none), ([(237, some 0)], none), ([(238, some 1)], none), ([(239, some 2)], none), ([(240, some 3)], none), ([(1, none), (241, some 4)], some (241, true)), ([(242, some 5), (241, some 4)], some (241, true)), ([(3, none), (241, some 4)], some (241, true)), ([(243, some 6), (244, some 7), (241, some 4)], some (241, true)), ([(241, some 4), (245, some 8)], none)] 251 10 rfl rfl (by kernel_rfl) NewT.trans (NewT.refl _) (Nat.le_of_ble_eq_true rfl) ⟨?_, ?_, ?_, ?_, ?_, ?_, ?_, ?_, ?_, ?_, trivial⟩ ?_
                            · exact fun a wx hT hF K hK => rely_wp rfl (opr_fldR (by decide) rfl hF.1 (hK _ _ (NewT.refl _) rfl))
                            · exact fun a wx hT hF K hK => rely_wp rfl (opr_ldB (hT.row R1.out) (by decide) rfl rfl hF.1 (hK _ _ (NewT.refl _) rfl))
                            · intro a wx hT hF K hK
                              obtain ⟨f238, _⟩ := hF
                              have f238 : a.tmps.getD 238 undef = dv := f238
                              refine rely_wp rfl ?_
                              exact opr_len_rd rfl (by rw [eval_tmp, f238]; exact (hT.rd HD.out)) (hK _ _ (NewT.refl _) rfl)
                            · exact fun a wx hT hF K hK => rely_wp rfl (opr_cmp (b := ((List.length (x.data) : Int)) == 0) (.inl ⟨rfl, rfl⟩) Tryd.underlying3 rfl hF.1 rfl (hK _ _ (NewT.refl _) rfl))
                            · exact fun a wx hT hF K hK => rely_wp rfl (opr_move (.inl rfl) (hK _ _ (NewT.refl _) hF.1))
                            · exact fun a wx hT hF K hK => rely_if (rely_gt hF.2.1) (NewT.refl _) hK fun hE hK => opr_fldR (by decide) rfl hF.1 (hK _ _ (NewT.refl _) rfl)
                            · exact fun a wx hT hF K hK => rely_if (rely_gt hF.2.1) (NewT.refl _) hK fun hE hK => opr_ldH (hT.row R1.out) (by decide) (recF_salt x _ _) rfl (hF.1 hE) (hK _ _ (NewT.refl _) rfl)
                            · exact fun a wx hT hF K hK => rely_if (rely_gt hF.2.1) (NewT.refl _) hK fun hE hK => opr_load_hash rfl hF.1 (hT.row R3.out) (hK _ _ (NewT.refl _) rfl)
                            · exact fun a wx hT hF K hK => rely_if (rely_gt hF.2.2.1) (NewT.refl _) hK fun hE hK => opr_eql_hash (b := eqH (x.salt) (fun _ => 0)) rfl (hF.1 hE) (hF.2.1 hE) (rfl) (hK _ _ (NewT.refl _) rfl)
                            · exact fun a wx hT hF K hK => rely_wp rfl (opr_pick_b rfl hF.1 (fun hb => hK _ _ (NewT.refl _) (pn_and1 Q1_28 (hF.2.1 hb) hb)) (fun hb => hK _ _ (NewT.refl _) (pn_and0 Q1_28 hb)))
                            · intro w28 k28
                              iterate 5 (intro u h; obtain rfl := Eq.symm (h (by simp)); clear h)
                              iterate 4 (intro _ _)
                              intro u h; obtain rfl := Eq.symm (h (by simp)); clear h
                              subst Q1_28
                              refine relyEnd_nil rfl ?_
                              simp only [Act.put, List.setIfInBounds_toArray, List.set_cons_zero, List.set_cons_succ]
                              refine wpList_plain rfl (fun K hK => ?_)
                              refine opr_move (.inr rfl) (hK _ _ ?_)
                              refine wpList_end rfl ?_
                              go_simp
                              go_wp2
                              go_ret
                              exact ⟨_, rfl, NewT.trans _ _ _ HN.out k28, by unfold refR; rw [if_neg (by rw [HB3.out]; decide)]; rw [if_neg (by rw [HB6.out]; decide)]; rw [if_neg (by rw [HB10.out]; decide)]; rw [if_neg (by rw [HB12.out]; decide)]; rw [if_neg (by rw [HB14.out]; decide)]; rw [if_neg (by rw [HB16.out]; decide)]; rw [if_neg (by rw [HB18.out]; decide)]; rw [if_neg (by rw [HBs.out]; decide)]; rw [if_neg (by rw [HB25.out]; decide)]; rw [if_pos HG.out]; rfl⟩
end Go.Proofs.YtcfogkimjbgjgaaDoor
/- What the reference's Right says is what a right record is. -/
namespace Go.Proofs.YtcfogkimjbgjgaaDoor
open Go Go.RowKit
set_option maxRecDepth 8000
set_option linter.all false
theorem eqH_Z (d : Nat → UInt8) : eqH d (fun _ => 0) = hZ d := by rw [Bool.eq_iff_iff, eqH_hL, hZ_iff]
theorem len_empty {α : Type} (l : List α) : ((l.length : Int) == 0) = l.isEmpty := by cases l <;> simp; omega
theorem ite_no (c r : Bool) : (if c = true then false else r) = (!c && r) := by cases c <;> rfl
theorem ite_no2 (c r : Bool) : (if c = false then false else r) = (c && r) := by cases c <;> rfl
theorem dec60 (n : Nat) : decide ((60 : Int) < (n : Int)) = !decide (n ≤ 60) := by
  by_cases h : n ≤ 60 <;> simp [h] <;> omega
set_option maxHeartbeats 2000000 in
theorem ref_right (x : Rc) : refR x = rightB x := by
  unfold refR rightB begQ callQ recQ noCall noReceipt noBegin isCall
  simp only [eqH_Z, len_empty, bne, ite_no, ite_no2, dec60]
  by_cases k1 : x.kind = 1
  · rw [Bool.eq_iff_iff]
    simp [k1]
    cases x.gone <;> simp <;> constructor <;> intro h <;> simp_all
  by_cases k2 : x.kind = 2 ∨ x.kind = 4
  · rw [Bool.eq_iff_iff]
    rcases k2 with k | k <;> simp [k] <;> constructor <;> intro h <;> simp_all
  by_cases k3 : x.kind = 3
  · rw [Bool.eq_iff_iff]
    simp [k3]
    constructor <;> intro h <;> simp_all
  by_cases k5 : x.kind = 5
  · rw [Bool.eq_iff_iff]
    simp [k5]
    constructor <;> intro h <;> simp_all
  by_cases k6 : x.kind = 6
  · rw [Bool.eq_iff_iff]
    simp [k6]
    constructor
    · intro h; simp_all
    · intro h; simp_all; decide
  · have hb : (decide (x.kind < 1) || decide (6 < x.kind)) = true := by simp; omega
    rw [hb]
    simp [k1, k2, k3, k5, k6]
theorem RRight_cv (v : Value) (x : Rc) (w : World) (h : RecV w v x) : Cv 24 #[v] w (.eq (.bool (rightB x))) := by rw [← ref_right]; exact RRightR_cv v x w h
end Go.Proofs.YtcfogkimjbgjgaaDoor
