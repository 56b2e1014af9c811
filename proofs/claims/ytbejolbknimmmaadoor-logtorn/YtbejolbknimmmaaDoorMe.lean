/- Slices of slices of bytes that read as lists of texts: parts, elements. -/
import Derived.Test.YtbejolbknimmmaaDoorMb
import Derived.Test.YtbejolbknimmmaaDoorMa
import Derived.Test.YtbejolbknimmmaaDoorMd
set_option linter.all false
namespace Go.Proofs.YtbejolbknimmmaaDoor
open Go Go.RowKit
set_option maxRecDepth 8000
set_option linter.all false
theorem parts_form {w : World} {v : Value} {ls : List (List UInt8)} (h : Parts w v ls) : ∃ A c, v = .slice A ls.length c ∧ ls.length ≤ c := by
  obtain ⟨ps, ⟨A, c, hv, h1, _⟩, rfl⟩ := h
  exact ⟨A, c, by rw [hv, List.length_map], by rw [List.length_map]; exact h1⟩
theorem parts_none (w : World) : Parts w (.slice none 0 0) [] := ⟨[], ⟨none, 0, rfl, by simp, by unfold maxLen; omega, fun h => absurd h (by simp), fun x hx => by simp at hx⟩, rfl⟩
theorem parts_take {w : World} {A : Option Addr} {c n k : Nat} {ls : List (List UInt8)} (h : Parts w (.slice A n c) ls) (hk : k ≤ ls.length) : Parts w (.slice A k c) (ls.take k) := by
  obtain ⟨ps, ⟨A', c', hv, h1, h2, h3, h4⟩, rfl⟩ := h
  cases hv
  rw [List.length_map] at hk
  have hl : (ps.take k).length = k := by rw [List.length_take]; omega
  refine ⟨ps.take k, ⟨A, c, by rw [hl], by omega, h2, fun h0 => ?_, fun x hx => h4 x (List.mem_of_mem_take hx)⟩, by rw [List.map_take]⟩
  rw [hl] at h0
  obtain ⟨b, o, hA, hb, hc⟩ := h3 (by omega)
  refine ⟨b, o, hA, hb, fun i x hx => hc i x ?_⟩
  rw [List.getElem?_take] at hx
  split at hx
  · exact hx
  · cases hx
theorem parts_drop {w : World} {A : Option Addr} {c n k : Nat} {ls : List (List UInt8)} (h : Parts w (.slice A n c) ls) (hk : k ≤ ls.length) : Parts w (.slice (if c = k then A else A.map (·.add k)) (n - k) (c - k)) (ls.drop k) := by
  obtain ⟨ps, ⟨A', c', hv, h1, h2, h3, h4⟩, rfl⟩ := h
  cases hv
  rw [List.length_map] at hk
  have hl : (ps.drop k).length = ps.length - k := by simp
  refine ⟨ps.drop k, ⟨_, c - k, by rw [hl], by omega, by omega, fun h0 => ?_, fun x hx => h4 x (List.mem_of_mem_drop hx)⟩, by rw [List.map_drop]⟩
  rw [hl] at h0
  obtain ⟨b, o, rfl, hb, hc⟩ := h3 (by omega)
  refine ⟨b, o + k, by rw [if_neg (by omega)]; simp [Addr.add_mid], hb, fun i x hx => ?_⟩
  have := hc (k + i) x (by simpa using hx)
  rw [show o + k + i = o + (k + i) by omega]
  exact this
theorem run_size_b (w : World) : (sizeOf 33).run Tryd.prog w = .ok 1 w := by
  have hs : (Tryd.prog.info? 33).map (·.size) = some 1 := by kernel_rfl
  cases hq : Tryd.prog.info? 33 with
  | none => simp [hq] at hs
  | some i => simp [hq] at hs; simp [sizeOf, typeInfo, hq, hs]
/-- An element's place: where a slice of bytes lies that reads as l. -/
def svPT (l : List UInt8) : SV NewT := ⟨fun v w => ∃ b off u, v = .pointer (some ⟨b, off, none⟩) ∧ w.cell? ⟨b, off, none⟩ = some u ∧ RdV w [] u l, fun _ w w' h hT => by
  obtain ⟨b, off, u, hv, hc, hr⟩ := h
  exact ⟨b, off, u, hv, (hT.out.cell (p := ⟨b, off, none⟩) (World.block_lt_of_cell? _ _ hc)).trans hc, hT.rd hr⟩⟩
section
variable {a : Act} {w : World} {o : Oper} {K : Act → World → Prop} {Q : Exit → Act → World → Prop} {x y : Operand} {ls : List (List UInt8)} {k : Nat} {n : Int}
theorem run_toT {A : Option Addr} {n c k : Nat} (w : World) (hk : k ≤ n) (hn : n ≤ c) : (Instr.slice 26 (.slice A n c) none (some (.int .i64 (k : Int))) none).run Tryd.prog w = .ok (.slice A k c) w := by
  have h1 : k ≤ c := by omega
  have e : A.map (fun a => a.add 0) = A := by cases A <;> simp [Addr.add_zero']
  by_cases hc0 : c = 0
  · obtain rfl : k = 0 := by omega
    subst hc0; simp [Instr.slice, run_underlying Tryd.underlying26, Instr.sliceBounds, Instr.sliceBound, asIntOf, run_size_b, h1]
  · simp [Instr.slice, run_underlying Tryd.underlying26, Instr.sliceBounds, Instr.sliceBound, asIntOf, run_size_b, h1, hc0, e]
theorem run_fromT {A : Option Addr} {n c k : Nat} (w : World) (hk : k ≤ n) : (Instr.slice 26 (.slice A n c) (some (.int .i64 (k : Int))) none none).run Tryd.prog w = .ok (.slice (if c = k then A else A.map (·.add k)) (n - k) (c - k)) w := by
  have h1 : k ≤ n := hk
  by_cases hc : c = k
  · simp [Instr.slice, run_underlying Tryd.underlying26, Instr.sliceBounds, Instr.sliceBound, asIntOf, run_size_b, h1, hc]
  · simp [Instr.slice, run_underlying Tryd.underlying26, Instr.sliceBounds, Instr.sliceBound, asIntOf, run_size_b, h1, hc]
/-- 'l[:k]'. -/
theorem opr_toT (hk : k ≤ ls.length) (hn : n = (k : Int)) (ho : o.op = .slice 26 x none (some y) none) (hx : Parts w (a.eval x) ls) (hy : a.eval y = .int .i64 n) (h : ∀ v, Parts w v (ls.take k) → K (a.put o.dst v) w) : o.wp Tryd.prog a w K Q := by
  subst hn
  obtain ⟨dst, op, type, pos, after, guard⟩ := o
  simp only at ho
  subst ho
  obtain ⟨A, c, hv, hc⟩ := parts_form hx
  rw [hv] at hx
  exact opr_val (s := Instr.sliceAt 26 (a.eval x) none (some (a.eval y)) none) (by simp [execOp]) (by rw [hv, hy]; simp [Instr.sliceAt, run_underlying Tryd.underlying26]; exact run_toT w hk hc) (h _ (parts_take hx hk))
/-- 'l[k:]'. -/
theorem opr_fromT (hk : k ≤ ls.length) (hn : n = (k : Int)) (ho : o.op = .slice 26 x (some y) none none) (hx : Parts w (a.eval x) ls) (hy : a.eval y = .int .i64 n) (h : ∀ v, Parts w v (ls.drop k) → K (a.put o.dst v) w) : o.wp Tryd.prog a w K Q := by
  subst hn
  obtain ⟨dst, op, type, pos, after, guard⟩ := o
  simp only at ho
  subst ho
  obtain ⟨A, c, hv, hc⟩ := parts_form hx
  rw [hv] at hx
  exact opr_val (s := Instr.sliceAt 26 (a.eval x) (some (a.eval y)) none none) (by simp [execOp]) (by rw [hv, hy]; simp [Instr.sliceAt, run_underlying Tryd.underlying26]; exact run_fromT w hk) (h _ (parts_drop hx hk))
theorem parts_at {w : World} {v : Value} {i : Nat} {l : List UInt8} (h : Parts w v ls) (hi : ls[i]? = some l) : ∃ b off c u, v = .slice (some ⟨b, off, none⟩) ls.length c ∧ w.cell? ⟨b, off + i, none⟩ = some u ∧ RdV w [] u l := by
  obtain ⟨ps, ⟨A, c, hv, h1, h2, h3, h4⟩, rfl⟩ := h
  have hl : i < ps.length := by have := (List.getElem?_eq_some_iff.1 hi).1; simpa using this
  obtain ⟨b, off, rfl, _, hc⟩ := h3 (by omega)
  have hx : ps[i]? = some ps[i] := List.getElem?_eq_getElem hl
  have e : ps[i].2 = l := by rw [List.getElem?_map, hx] at hi; simpa using hi
  exact ⟨b, off, c, ps[i].1, by rw [hv, List.length_map], hc i _ hx, e ▸ h4 _ (List.getElem_mem hl)⟩
/-- 'l[i]': its place, and what lies there. -/
theorem opr_idxT {i : Nat} {l : List UInt8} (hi : ls[i]? = some l) (hn : n = (i : Int)) (ho : o.op = .indexAddr 26 x y) (hx : Parts w (a.eval x) ls) (hy : a.eval y = .int .i64 n) (h : ∀ v, (svPT l).pred v w → K (a.put o.dst v) w) : o.wp Tryd.prog a w K Q := by
  subst hn
  obtain ⟨dst, op, type, pos, after, guard⟩ := o
  simp only at ho
  subst ho
  obtain ⟨b, off, c, u, hv, hc, hr⟩ := parts_at hx hi
  have hl : i < ls.length := (List.getElem?_eq_some_iff.1 hi).1
  exact opr_val (s := Instr.indexAt 26 (a.eval x) (a.eval y)) (v := .pointer (some ⟨b, off + i, none⟩)) (w' := w) rfl (by rw [hv, hy]; simp [Instr.indexAt, asIntOf, run_underlying Tryd.underlying26, run_size_b, hl, Addr.add_mid]) (h _ ⟨b, off + i, u, rfl, hc, hr⟩)
theorem opr_ldT {l : List UInt8} (ho : o.op = .load 33 x) (hx : (svPT l).pred (a.eval x) w) (h : ∀ u, RdV w [] u l → K (a.put o.dst u) w) : o.wp Tryd.prog a w K Q := by
  obtain ⟨b, off, u, hv, hc, hr⟩ := hx
  exact opr_ld1 Tryd.underlying33 rfl ho hv hc (h u hr)
end
end Go.Proofs.YtbejolbknimmmaaDoor
/- The reference's Bytes, at whatever lists. -/
namespace Go.Proofs.YtbejolbknimmmaaDoor
open Go Go.RowKit
set_option maxRecDepth 8000
set_option linter.all false
theorem rd_cells {W : World} {A : Option Addr} {n c : Nat} {l : List UInt8} (h : RdV W [] (.slice A n c) l) : l.length = n ∧ ∀ i, i < n → ∃ b o, A = some ⟨b, o, none⟩ ∧ ∀ j, j < n → W.cell? ⟨b, o + j, none⟩ = some (.int .u8 (bN (bAt l j))) := by
  obtain ⟨A', c', hv, _, _, hc⟩ := h
  cases hv
  refine ⟨rfl, fun i hi => ?_⟩
  obtain ⟨b, o, h1, _, h2⟩ := hc (by omega)
  exact ⟨b, o, h1, h2⟩
/-- The same up to a place. -/
def sameTo (l m : List UInt8) (k : Nat) : Prop := ∀ i, i < k → bAt l i = bAt m i
theorem eq_of_sameTo {l m : List UInt8} (hl : l.length = m.length) (h : sameTo l m l.length) : l = m := by
  apply List.ext_getElem hl
  intro i h1 h2
  have := h i h1
  simpa [bAt, h1, h2] using this
set_option maxHeartbeats 1000000 in
theorem Bytes_any (A1 A2 : Option Addr) (n1 c1 n2 c2 : Nat) (l m : List UInt8) (w : World) (h1 : RdV w [] (.slice A1 n1 c1) l) (h2 : RdV w [] (.slice A2 n2 c2) m) (hn1 : n1 ≤ 1000000) (hn2 : n2 ≤ 1000000) :
    Cv 24 #[.slice A1 n1 c1, .slice A2 n2 c2] w (.eq (.bool (decide (l = m)))) := by
  unfold Cv
  obtain ⟨e1, k1⟩ := rd_cells h1
  obtain ⟨e2, k2⟩ := rd_cells h2
  have E1 := Lib.hid e1
  have E2 := Lib.hid e2
  have H1 := Lib.hid k1
  have H2 := Lib.hid k2
  clear h1 h2 e1 e2 k1 k2
  by_cases hne : n1 = n2
  · subst hne
    go_enter Tryd.func24, Tryd.ntmps24
    go_wp2
    go_loopw [5] (fun i wr => ∃ k : Nat, k ≤ n1 ∧ i = .int .i64 k ∧ Hid (sameTo l m k) ∧ Hid (∀ a, wr.cell? a = w.cell? a) ∧ Below w.heap.size w wr) (fun i _ => n1 - (intOf i).toNat)
    case atStart => exact ⟨0, by omega, rfl, Lib.hid (fun i hi => by omega), Lib.hid (fun _ => rfl), Below.refl _ _⟩
    case round =>
      obtain ⟨k, hk, rfl, Hs, Hcell, qB⟩ := hrel
      by_cases hlt : k < n1
      · obtain ⟨b1, o1, rfl, j1⟩ := H1.out k hlt
        obtain ⟨b2, o2, rfl, j2⟩ := H2.out k hlt
        have c1' := (Hcell.out ⟨b1, o1 + k, none⟩).trans (j1 k hlt)
        have c2' := (Hcell.out ⟨b2, o2 + k, none⟩).trans (j2 k hlt)
        have it : (k : Int) < (n1 : Int) := by omega
        clear j1 j2
        by_cases hb : bAt l k = bAt m k
        · have hq : (bN (bAt l k) != bN (bAt m k)) = false := by rw [hb]; simp
          have Hb := Lib.hid hb
          clear hb
          generalize hx : bN (bAt l k) = x at c1' hq
          generalize hy : bN (bAt m k) = y at c2' hq
          clear hx hy
          go_wp2
          refine wp_region_still_lit (by kernel_rfl) (by kernel_rfl) ?_
          repeat (refine wpStill_step (fun K hK => ?_); go_simp; (try go_bits); refine hK _ ?_; clear hK K)
          refine wpStill_nil ?_
          go_wp2
          go_roundw
          case rel => exact ⟨k + 1, by omega, by go_num, Lib.hid (fun i hi => by
            rcases Nat.lt_succ_iff_lt_or_eq.1 hi with h | rfl
            · exact Hs.out i h
            · exact Hb.out), Lib.hid (fun a => Hcell.out a), qB.drew⟩
          case measure => simp [intOf]; omega
        · have hq : (bN (bAt l k) != bN (bAt m k)) = true := by simpa using fun h => hb (bN_inj h)
          have Hb := Lib.hid hb
          clear hb
          generalize hx : bN (bAt l k) = x at c1' hq
          generalize hy : bN (bAt m k) = y at c2' hq
          clear hx hy
          go_wp2
          refine wp_region_still_lit (by kernel_rfl) (by kernel_rfl) ?_
          repeat (refine wpStill_step (fun K hK => ?_); go_simp; (try go_bits); refine hK _ ?_; clear hK K)
          refine wpStill_nil ?_
          go_wp2
          go_ret
          refine ⟨_, rfl, qB.drew, ?_⟩
          show Value.bool false = _
          congr 1
          exact (decide_eq_false fun h => Hb.out (by rw [h])).symm
      · obtain rfl : k = n1 := by omega
        go_wp2
        go_ret
        refine ⟨_, rfl, qB, ?_⟩
        show Value.bool true = _
        congr 1
        exact (decide_eq_true (eq_of_sameTo (E1.out.trans E2.out.symm) (by rw [E1.out]; exact Hs.out))).symm
  · have hq : ((n1 : Int) != (n2 : Int)) = true := by simp; omega
    have hq2 : (n1 != n2) = true := by simpa using hne
    go_enter Tryd.func24, Tryd.ntmps24
    go_wp2
    go_ret
    refine ⟨_, rfl, Below.refl _ _, ?_⟩
    show Value.bool false = _
    congr 1
    exact (decide_eq_false fun h => hne (by rw [← E1.out, ← E2.out, h])).symm
theorem Bytes_cv (v1 v2 : Value) (l m : List UInt8) (w : World) (h1 : RdV w [] v1 l) (h2 : RdV w [] v2 m) (hl : l.length ≤ 1000000) (hm : m.length ≤ 1000000) :
    Cv 24 #[v1, v2] w (.eq (.bool (decide (l = m)))) := by
  have g1 := h1
  have g2 := h2
  obtain ⟨A1, c1, rfl, _⟩ := g1
  obtain ⟨A2, c2, rfl, _⟩ := g2
  exact Bytes_any A1 A2 _ c1 _ c2 l m w h1 h2 hl hm
end Go.Proofs.YtbejolbknimmmaaDoor
/- The document's answer for layer 9: are two lists the same? -/
namespace Go.Proofs.YtbejolbknimmmaaDoor
open Go Go.RowKit
set_option maxRecDepth 8000
set_option linter.all false
/-- A list whose texts are short enough. -/
structure Fine9 (x : List (List UInt8)) : Prop where
  len : x.length ≤ 900000
  each : ∀ t ∈ x, t.length ≤ 900000
set_option maxHeartbeats 1000000 in
theorem RSame9_cv (va vb : Value) (x y : List (List UInt8)) (w : World) (ha : Parts w va x) (hb : Parts w vb y) (hx : Fine9 x) (hy : Fine9 y) : Cv 20 #[va, vb] w (.eq (.bool (decide (x = y)))) := by
  unfold Cv
  have HA0 := Lib.hid ha
  have HB0 := Lib.hid hb
  have HFX := Lib.hid hx
  have HFY := Lib.hid hy
  obtain ⟨A1, c1, e1', q1⟩ := parts_form ha
  obtain ⟨A2, c2, e2', q2⟩ := parts_form hb
  have p1 := hx.len
  subst e1' e2'
  clear ha hb q1 q2 hx hy
  by_cases hne : x.length = y.length
  rotate_left
  · have hd : decide (x = y) = false := decide_eq_false fun h => hne (by rw [h])
    have ht : ((x.length : Int) != (y.length : Int)) = true := by simp; omega
    rw [hd]
    go_enter Tryd.func20, Tryd.ntmps20
    go_wp2
    go_ret
    exact ⟨_, rfl, NewT.refl _, rfl⟩
  rw [← hne] at HB0 ⊢
  have Hne := Lib.hid hne
  clear hne
  go_enter Tryd.func20, Tryd.ntmps20
  go_wp2
  go_loopw [5] (fun i wr => ∃ k : Nat, k ≤ x.length ∧ i = .int .i64 (k : Int) ∧ Hid (∀ i, i < k → x[i]? = y[i]?) ∧ NewT w wr) (fun i _ => x.length - (intOf i).toNat)
  case atStart => exact ⟨0, by omega, rfl, Lib.hid (fun i hi => by omega), NewT.refl _⟩
  case round =>
    obtain ⟨k, hk, rfl, Hs, hN⟩ := hrel
    have HN := Lib.hid hN
    have HA := Lib.hid (hN.partsL HA0.out)
    have HB := Lib.hid (hN.partsL HB0.out)
    clear hN
    by_cases hlt : k < x.length
    · have it : (k : Int) < (x.length : Int) := by omega
      obtain ⟨s, hx⟩ : ∃ d, x[k]? = some d := ⟨_, List.getElem?_eq_getElem (by omega)⟩
      obtain ⟨t, hy⟩ : ∃ d, y[k]? = some d := ⟨_, List.getElem?_eq_getElem (by have := Hne.out; omega)⟩
      have HX := Lib.hid hx
      have HY := Lib.hid hy
      have HSN := Lib.hid (HFX.out.each s (List.mem_of_getElem? hx))
      have HTN := Lib.hid (HFY.out.each t (List.mem_of_getElem? hy))
      obtain ⟨b, hq⟩ : ∃ b, decide (s = t) = b := ⟨_, rfl⟩
      have HQ := Lib.hid hq
      clear hx hy hq
      go_upto_region 6 with fail
      obtain ⟨va, ea⟩ : ∃ v, Value.slice A1 x.length c1 = v := ⟨_, rfl⟩
      obtain ⟨vb, eb⟩ : ∃ v, Value.slice A2 x.length c2 = v := ⟨_, rfl⟩
      rw [ea] at HA
      rw [eb] at HB
      rw [ea, eb]
      refine wp_region_rely (NewT) [SV.eq (va), SV.eq (.int .i64 ((k : Int))), svPT (s), svRd (s), SV.eq (vb), SV.eq (.int .i64 ((k : Int))), svPT (t), svRd (t), SV.eq (.bool (b))] [([(0, none)], none), ([(5, none)], none), ([(17, some 0), (18, some 1)], none), ([(19, some 2)], none), ([(1, none)], none), ([(5, none)], none), ([(21, some 4), (22, some 5)], none), ([(23, some 6)], none), ([(20, some 3), (24, some 7)], none)] 27 rfl (by kernel_rfl) rfl (by kernel_rfl) (by kernel_rfl) rfl NewT.trans (NewT.drew _) (Nat.le_of_ble_eq_true rfl) ⟨?_, ?_, ?_, ?_, ?_, ?_, ?_, ?_, ?_, trivial⟩ ?_
      · exact fun a wx hT hF K hK => rely_wp rfl (opr_move (.inl rfl) (hK _ _ (NewT.refl _) hF.1))
      · exact fun a wx hT hF K hK => rely_wp rfl (opr_move (.inl rfl) (hK _ _ (NewT.refl _) hF.1))
      · intro a wx hT hF K hK
        obtain ⟨f17, f18, _⟩ := hF
        have f17 : a.tmps.getD 17 undef = va := f17
        have f18 : a.tmps.getD 18 undef = .int .i64 ((k : Int)) := f18
        refine rely_wp rfl ?_
        exact opr_idxT (i := k) (l := s) (HX.out) (rfl) rfl (by rw [eval_tmp, f17]; exact (hT.partsL HA.out)) f18 (fun v hv => hK v _ (NewT.refl _) hv)
      · exact fun a wx hT hF K hK => rely_wp rfl (opr_ldT rfl hF.1 (fun u hu => hK u _ (NewT.refl _) hu))
      · exact fun a wx hT hF K hK => rely_wp rfl (opr_move (.inl rfl) (hK _ _ (NewT.refl _) hF.1))
      · exact fun a wx hT hF K hK => rely_wp rfl (opr_move (.inl rfl) (hK _ _ (NewT.refl _) hF.1))
      · intro a wx hT hF K hK
        obtain ⟨f21, f22, _⟩ := hF
        have f21 : a.tmps.getD 21 undef = vb := f21
        have f22 : a.tmps.getD 22 undef = .int .i64 ((k : Int)) := f22
        refine rely_wp rfl ?_
        exact opr_idxT (i := k) (l := t) (HY.out) (rfl) rfl (by rw [eval_tmp, f21]; exact (hT.partsL HB.out)) f22 (fun v hv => hK v _ (NewT.refl _) hv)
      · exact fun a wx hT hF K hK => rely_wp rfl (opr_ldT rfl hF.1 (fun u hu => hK u _ (NewT.refl _) hu))
      · exact fun a wx hT hF K hK => rely_wp rfl (opr_cv (by rw [← HQ.out]; exact Bytes_cv _ _ s t wx hF.1 hF.2.1 (by have := HSN.out; omega) (by have := HTN.out; omega)) rfl Tryd.func24 (by kernel_rfl) (by kernel_rfl) (evs2 rfl rfl) hK)
      · intro wc kc
        iterate 2 (intro u h; obtain rfl := Eq.symm (h (by simp)); clear h)
        iterate 2 (intro _ _)
        iterate 2 (intro u h; obtain rfl := Eq.symm (h (by simp)); clear h)
        iterate 2 (intro _ _)
        intro u h; obtain rfl := Eq.symm (h (by simp)); clear h
        refine relyEnd_nil rfl ?_
        simp only [Act.put, List.setIfInBounds_toArray, List.set_cons_zero, List.set_cons_succ]
        refine opr_not rfl rfl ?_
        go_simp
        replace HN := Lib.hid (NewT.trans _ _ _ HN.out kc)
        clear kc HA HB
        cases b
        · go_wp2
          go_ret
          exact ⟨_, rfl, HN.out, by rw [decide_eq_false (fun e : x = y => of_decide_eq_false HQ.out (by have h1 := HX.out; rw [e, HY.out] at h1; exact (Option.some.inj h1).symm))]; rfl⟩
        · subst ea eb
          go_wp2
          go_roundw
          case rel => exact ⟨k + 1, by omega, by go_num, Lib.hid (fun i hi => by
            rcases Nat.lt_succ_iff_lt_or_eq.1 hi with h1 | rfl
            · exact Hs.out i h1
            · rw [HX.out, HY.out, of_decide_eq_true HQ.out]), HN.out⟩
          case measure => simp [intOf]; omega
    · obtain rfl : k = x.length := by omega
      go_wp2
      go_ret
      have e : x = y := by
        apply List.ext_getElem? fun i => ?_
        by_cases hi : i < x.length
        · exact Hs.out i hi
        · rw [List.getElem?_eq_none (by omega), List.getElem?_eq_none (by have := Hne.out; omega)]
      exact ⟨_, rfl, HN.out, by rw [decide_eq_true e]; rfl⟩
end Go.Proofs.YtbejolbknimmmaaDoor
/- A row of slices of the law's own beside a log. -/
namespace Go.Proofs.YtbejolbknimmmaaDoor
open Go Go.RowKit
set_option maxRecDepth 8000
set_option linter.all false
variable {nx : (Nat → UInt8) → List UInt8 → Nat → UInt8}
theorem cells_of_row {w : World} {b t n : Nat} {f : Nat → Value} (h : w.rowIs b t n f) : ∃ c, w.heap[b]? = some (.cells c t) := by
  obtain ⟨c, hc, _⟩ := h; exact ⟨c, hc⟩
theorem OwnV.cells' {w : World} {B : Nat} {e : TypeId} {v : Value} {l : List Value} (h : OwnV w B e v l) : ∀ k, v.ownBlock = some k → ∃ c, w.heap[k]? = some (.cells c e) := fun k hk => by
  rcases h.2 with ⟨rfl, _⟩ | ⟨g, cap, cur, rfl, _, hg, _⟩
  · cases hk
  · cases hk; exact ⟨cur, hg⟩
theorem OwnB.cells' {w : World} {B : Nat} {v : Value} {l : List UInt8} (h : OwnB w B v l) : ∀ k, v.ownBlock = some k → ∃ c, w.heap[k]? = some (.cells c 5) := fun k hk => by
  rcases h.2 with ⟨rfl, _⟩ | ⟨g, cap, cur, rfl, _, hg, _⟩
  · cases hk
  · cases hk; exact ⟨cur, hg⟩
/-- A row whose elements are no bytes, disks or logs lies beside the log. -/
theorem OwnV.besideT {w : World} {B g dk room n : Nat} {e : TypeId} {va v : Value} {vs : List Value} {es : List (List UInt8)} (he : e ≠ 64 ∧ e ≠ 70 ∧ e ≠ 5) (h : OwnV w B e va vs) (hL : LogAt nx w g dk v room es n) : ∀ k, va.ownBlock = some k → k ∉ g :: dk :: v.ownBlock.toList := fun k hk hm => by
  obtain ⟨c, hc⟩ := h.cells' k hk
  rcases List.mem_cons.1 hm with rfl | hm
  · obtain ⟨c', hc'⟩ := cells_of_row hL.row
    rw [hc] at hc'; injection hc' with hc'; injection hc' with _ h1; exact he.1 h1
  · rcases List.mem_cons.1 hm with rfl | hm
    · obtain ⟨c', hc'⟩ := cells_of_row hL.disk.row
      rw [hc] at hc'; injection hc' with hc'; injection hc' with _ h1; exact he.2.1 h1
    · obtain ⟨c', hc'⟩ := hL.disk.own.cells' k (by simpa using hm)
      rw [hc] at hc'; injection hc' with hc'; injection hc' with _ h1; exact he.2.2 h1
theorem LogAt.appT {w w' : World} {B g dk room n : Nat} {e : TypeId} {va v : Value} {vs : List Value} {es : List (List UInt8)} (he : e ≠ 64 ∧ e ≠ 70 ∧ e ≠ 5) (hL : LogAt nx w g dk v room es n) (hO : OwnV w B e va vs) (hG : w.grownBy w' va.ownBlock) : LogAt nx w' g dk v room es n :=
  hL.keep (keepBut_grown hG (L := va.ownBlock.toList) (fun k hk => by simp [hk])) (fun k hk hm => hO.besideT he hL k (by simpa using hm) hk)
/-- The row lies beside the log: their types differ. -/
theorem OwnV.beside {w : World} {B g dk room n : Nat} {va v : Value} {vs : List Value} {es : List (List UInt8)} (h : OwnV w B 33 va vs) (hL : LogAt nx w g dk v room es n) : ∀ k, va.ownBlock = some k → k ∉ g :: dk :: v.ownBlock.toList := fun k hk hm => by
  obtain ⟨c, hc⟩ := h.cells' k hk
  rcases List.mem_cons.1 hm with rfl | hm
  · obtain ⟨c', hc'⟩ := cells_of_row hL.row
    rw [hc] at hc'; cases hc'
  · rcases List.mem_cons.1 hm with rfl | hm
    · obtain ⟨c', hc'⟩ := cells_of_row hL.disk.row
      rw [hc] at hc'; cases hc'
    · obtain ⟨c', hc'⟩ := hL.disk.own.cells' k (by simpa using hm)
      rw [hc] at hc'; cases hc'
theorem OwnV.lstep {w w' : World} {B g dk room n : Nat} {va v v' : Value} {vs : List Value} {es : List (List UInt8)} (h : OwnV w B 33 va vs) (hL : LogAt nx w g dk v room es n) (hS : LStep g dk v w w' v') : OwnV w' B 33 va vs :=
  h.of_block fun k o hk ho hc => hS.keep.2 k o (h.beside hL k hk) ho hc
theorem OwnV.dstep {w w' : World} {B g dk room n : Nat} {va v v' : Value} {vs : List Value} {es : List (List UInt8)} (h : OwnV w B 33 va vs) (hL : LogAt nx w g dk v room es n) (hS : DStep dk v w w' v') : OwnV w' B 33 va vs :=
  h.lstep hL (LStep.of_d hS)
theorem OwnV.dstep' {w w' : World} {B dk room n : Nat} {va v v' : Value} {vs : List Value} {S : List UInt8} (h : OwnV w B 33 va vs) (hL : DiskAt w dk v room S n) (hS : DStep dk v w w' v') : OwnV w' B 33 va vs :=
  h.of_block fun k o hk ho hc => hS.keep.2 k o (fun hm => by
    obtain ⟨c, hc⟩ := h.cells' k hk
    rcases List.mem_cons.1 hm with rfl | hm
    · obtain ⟨c', hc'⟩ := cells_of_row hL.row
      rw [hc] at hc'; cases hc'
    · obtain ⟨c', hc'⟩ := hL.own.cells' k (by simpa using hm)
      rw [hc] at hc'; cases hc') ho hc
theorem LogAt.app {w w' : World} {B g dk room n : Nat} {va v : Value} {vs : List Value} {es : List (List UInt8)} (hL : LogAt nx w g dk v room es n) (hO : OwnV w B 33 va vs) (hG : w.grownBy w' va.ownBlock) : LogAt nx w' g dk v room es n :=
  hL.keep (keepBut_grown hG (L := va.ownBlock.toList) (fun k hk => by simp [hk])) (fun k hk hm => hO.beside hL k (by simpa using hm) hk)
/-- An append of one slice onto the row. -/
theorem app_one {W : World} {B : Nat} {va u : Value} {vs : List Value} {A : Option Addr} {n c : Nat} (h : OwnV W B 33 va vs) (hu : ValsAt W [] u [.slice A n c]) (hn : vs.length ≤ 1000) (hB : B ≤ W.heap.size) :
    ∃ v' w', (Builtin.append_ #[26, 26] 26 #[va, u]).run Tryd.prog W = .ok v' w' ∧ OwnV w' B 33 v' (vs ++ [.slice A n c]) ∧ W.grownBy w' va.ownBlock := by
  obtain ⟨i0, hTy⟩ := ssTy
  obtain ⟨v', w', h1, h2, _, h3⟩ := run_appV_T (P := Tryd.prog) (ty := 26) hTy h hu (by intro y hy; simp at hy; subst hy; rfl) (C := vs ++ [.slice A n c]) (List.prefix_refl _) (by simp; omega) hB
  exact ⟨v', w', h1, h2, h3⟩
theorem vals_one (w : World) (A : Option Addr) (n c : Nat) : ValsAt (w.alloc (.cells #[.slice A n c] 33)) [] (.slice (some ⟨w.heap.size, 0, none⟩) 1 1) [.slice A n c] :=
  ⟨some ⟨w.heap.size, 0, none⟩, 1, rfl, by simp, by unfold maxLen; omega, fun _ => ⟨w.heap.size, 0, rfl, by simp, fun i y hy => by
    have h0 : i = 0 := by have := (List.getElem?_eq_some_iff.1 hy).1; simpa using this
    subst h0
    simp at hy
    subst hy
    exact (rowIs_one w 33 (.slice A n c)).cell (i := 0) (by omega)⟩⟩
/-- What the row reads as. -/
theorem OwnV.parts {w0 w : World} {B : Nat} {va : Value} {ps : List (Value × List UInt8)} (h : OwnV w B 33 va (ps.map (·.1))) (hN : NewT w0 w) (hp : ∀ x ∈ ps, RdV w0 [] x.1 x.2) : PartsAt w [] va ps :=
  ValsAt.parts (h.at' (by simp)) fun x hx => hN.rd (hp x hx)
end Go.Proofs.YtbejolbknimmmaaDoor
/- LogSize, walked. -/
namespace Go.Proofs.YtbejolbknimmmaaDoor
open Go Go.RowKit
set_option maxRecDepth 8000
set_option linter.all false
theorem made_row1 (n : Nat) : madeCells (Value.int .u8 0).cells n = rowA n (fun _ => .int .u8 0) := by
  apply Array.ext_getElem?
  intro i
  by_cases h : i < n
  · rw [rowA_at _ _ _ h]
    simp only [madeCells, Array.getElem?_map, Array.getElem?_range, h, if_true, Option.map_some]
    rw [show i % (Value.int .u8 0).cells.size = 0 from Nat.mod_one i]
    rfl
  · rw [Array.getElem?_eq_none (by rw [size_madeCells]; omega), Array.getElem?_eq_none (by rw [rowA_size]; omega)]
theorem run_makeB (m : Nat) (hm : m ≤ 1000000) (W : World) : (Instr.makeSlice 33 (.int .i64 (m : Int)) (.int .i64 (m : Int))).run Tryd.prog W = .ok (.slice (some ⟨W.heap.size, 0, none⟩) m m) (W.alloc (.cells (rowA m fun _ => .int .u8 0) 5)) := by
  obtain ⟨i0, hi, hz0, hz1, hz2⟩ := info_parts info5
  have := run_make (P := Tryd.prog) W 33 5 i0 _ Tryd.underlying33 hi hz0 .i64 .i64 (m : Int) (m : Int) (by omega) (by omega) (by rw [hz2]; omega) (by omega)
  rw [this, hz1, Int.toNat_natCast, Nat.mul_one, made_row1]
theorem rd_made (m : Nat) (hm : m ≤ 1000000) (W : World) : RdV (W.alloc (.cells (rowA m fun _ => .int .u8 0) 5)) [] (.slice (some ⟨W.heap.size, 0, none⟩) m m) (List.replicate m 0) := by
  refine ⟨some ⟨W.heap.size, 0, none⟩, m, by simp, by simp, by unfold maxLen; omega, fun _ => ⟨W.heap.size, 0, rfl, by simp, fun i hi => ?_⟩⟩
  rw [List.length_replicate] at hi
  rw [Nat.zero_add, (rowIs_box W 5 m (fun _ => .int .u8 0)).cell hi]
  simp [bAt, hi]
  rfl
theorem encL_bound (nx : (Nat → UInt8) → List UInt8 → Nat → UInt8) (m : Nat) (hm : m ≤ 2000) : ∀ (c : Nat → UInt8) (es : List (List UInt8)), (∀ e ∈ es, e.length ≤ m) → (encL nx mkL c es).length ≤ (m + 10) * es.length
  | _, [], _ => by simp [encL]
  | c, e :: es, h => by
    have h1 := encL_bound nx m hm (nx c e) es fun x hx => h x (by simp [hx])
    have h2 := h e (by simp)
    have h3 := sz_small (n := e.length) (by omega)
    have h4 := entL_length nx c e
    rw [encL, List.length_append, List.length_cons, Nat.mul_add, Nat.mul_one]
    omega
set_option maxRecDepth 20000 in
set_option maxHeartbeats 4000000 in
theorem LogSize_walk (v0 : Value) (ls : List (List UInt8)) (w : World) (hT : Tables w) (h1 : Parts w v0 ls) : Calls Tryd.prog 6 #[v0] w fun e w' => e = .returned (.bool true) ∧ Below w.heap.size w w' := by
  obtain ⟨nx, hX⟩ := logH_ex
  obtain ⟨ps, h1, hps⟩ := h1
  have HT := Lib.hid hT
  have H1L : Hid (1 < w.heap.size) := Lib.hid hT.size
  have R1 := Lib.hid h1
  obtain ⟨A1, c1, rfl, _⟩ := h1
  clear hT
  by_cases g1 : 15 < (ps.length : Int)
  · go_enter Tryd.func6, Tryd.ntmps6
    go_wp2_with (go_at_call 9; refine (alive9_c w HT.out).eq.mono ?_; rintro _ w1 ⟨rfl, hN1⟩)
    go_ret
    exact ⟨rfl, hN1⟩
  have hmax : ps.length ≤ 15 := by omega
  have HMAX := Lib.hid hmax
  go_enter Tryd.func6, Tryd.ntmps6
  go_wp2_with (first
    | (go_at_call 9; refine (alive9_c w HT.out).eq.mono ?_; rintro _ w1 ⟨rfl, hN1⟩; have N1 : Hid (NewT w w1) := Lib.hid hN1; clear hN1)
    | (go_at_call 12; refine (New_c 9000 (by omega) (by omega) w1).mono ?_; rintro _ w2 ⟨rfl, hN, hD⟩; have H2 := Lib.hid hD; have N2 := Lib.hid (NewT.trans _ _ _ N1.out hN); have Q1 := Lib.hid N1.out.out.size; clear hN hD)
    | (go_at_call 11
       refine (Open_c hX w1.heap.size _ 9000 [] 0 w2 (HT.out.below N2.out.out) H2.out [] (again nx mkL hash0 [] (by simp)) (Nat.lt_of_lt_of_le H1L.out Q1.out)).mono ?_
       rintro _ w3 ⟨g, v3, lv, ps3, rfl, hg, hD3, hL3, hps3, hP⟩
       obtain ⟨A3, c3, rfl, _⟩ := parts_es (hP [] (by simp)) hps3
       have H3 := Lib.hid hL3
       have N3 := Lib.hid (hD3.newT N2.out Q1.out)
       clear hD3 hL3 hps3 hP hg))
  go_loopw [7, 8] (fun n i wr => ∃ (k : Nat) (es : List (List UInt8)) (v : Value) (m : Nat), k ≤ ps.length ∧ n = .int .i64 (m : Int) ∧ i = .int .i64 (k : Int) ∧ Hid (LogAt nx wr g w1.heap.size v 9000 es m) ∧ Hid (m = (encL nx mkL hash0 es).length ∧ es.length ≤ k ∧ (∀ e ∈ es, e.length ≤ 300)) ∧ Hid (NewT w wr)) (fun _ i _ => ps.length - (intOf i).toNat)
  case atStart => exact ⟨0, [], v3, 0, by omega, rfl, rfl, H3, Lib.hid ⟨rfl, by simp, by simp⟩, N3⟩
  case round =>
    obtain ⟨k, es, v, m, hk, rfl, rfl, HL, HE, HN⟩ := hrel
    clear H2 N2 H3 N3
    by_cases hlt : k < ps.length
    · have it : (k : Int) < (ps.length : Int) := by omega
      obtain ⟨b, o, rfl, hb, hc⟩ := parts_cell R1.out (by omega)
      obtain ⟨x, hx⟩ : ∃ x, ps[k]? = some x := ⟨_, List.getElem?_eq_getElem hlt⟩
      obtain ⟨u, l⟩ := x
      have hxr : RdV w [] u l := parts_rd R1.out (List.mem_of_getElem? hx)
      have hc : w.cell? ⟨b, o + k, none⟩ = some u := hc k _ hx
      obtain ⟨A4, c4, rfl⟩ := rdV_form hxr
      have HX := Lib.hid hxr
      have HC := Lib.hid hc
      have HB := Lib.hid hb
      have hcell := cell_new HN.out hb hc
      clear hxr hc hx hb
      by_cases h3 : 300 < (l.length : Int)
      · go_wp2
        go_ret
        exact ⟨rfl, HN.out⟩
      by_cases h0 : l = []
      · subst h0
        clear h3
        go_wp2_with (first
          | (go_at_call 17; refine (Append_arg g _ wr (HN.out.rd HX.out)).eq.mono ?_; rintro _ w4 ⟨rfl, hN⟩; have H4 := Lib.hid (HL.out.new hN); have N4 := Lib.hid (NewT.trans _ _ _ HN.out hN); have hcell4 := cell_new N4.out HB.out HC.out; clear hN hcell)
          | (go_at_call 25; clear hcell4; refine Calls.mono (DBytes_c _ v 9000 _ m _ H4.out.disk) ?_; rintro _ w5 ⟨v5, rfl, hN, hv⟩; have H5 := Lib.hid (H4.out.new hN); have N5 := Lib.hid (NewT.trans _ _ _ N4.out hN); obtain ⟨A5, c5, rfl⟩ := rdV_form (FreshB.rd hv); rw [← HE.out.1]; clear hN hv)
          | (go_at_call 29; refine (Lasts_c _ v 9000 _ m _ H5.out.disk).eq.mono ?_; rintro _ w6 ⟨rfl, hN⟩; have H6 := Lib.hid (H5.out.new hN); have N6 := Lib.hid (NewT.trans _ _ _ N5.out hN); clear hN))
        go_roundw
        case rel => exact ⟨k + 1, es, v, m, by omega, rfl, by go_num, H6, Lib.hid ⟨HE.out.1, by have := HE.out.2.1; omega, HE.out.2.2⟩, N6⟩
        case measure => simp [intOf]; omega
      · have hl0 : 0 < l.length := List.length_pos_iff.2 h0
        have hok : okE l := ⟨hl0, by omega⟩
        have h300 : l.length ≤ 300 := by omega
        obtain ⟨q, hq⟩ := hid_ex (encL nx mkL hash0 (es ++ [l])).length
        have hall : ∀ e ∈ es ++ [l], e.length ≤ 300 := fun e he => by
          rcases List.mem_append.1 he with he | he
          · exact HE.out.2.2 e he
          · simp at he; subst he; exact h300
        have hqb : q ≤ 4960 := by
          have hbd := encL_bound nx 300 (by omega) hash0 (es ++ [l]) hall
          rw [hq.out, List.length_append] at hbd
          have := HE.out.2.1
          have := Nat.mul_le_mul_left 310 (show es.length + 1 ≤ 16 by omega)
          simp at hbd
          omega
        obtain ⟨z, hz⟩ := hid_ex (entL nx mkL (chL nx hash0 es) l).length
        have hmz : m + z = q := by rw [← hq.out, encL_snoc, List.length_append, HE.out.1, hz.out]
        have HZ : Hid (esz (l.length : Int) = (z : Int)) := Lib.hid (by rw [esz_ok hok nx (chL nx hash0 es), hz.out])
        have HW : Hid (wrap64 ((m : Int) + (z : Int)) = (q : Int)) := Lib.hid (by unfold wrap64; omega)
        have HOK := Lib.hid hok
        have HALL := Lib.hid hall
        have HQB := Lib.hid hqb
        have il : (0 : Int) < (l.length : Int) := by omega
        have hd0 : decide (0 < l.length) = true := decide_eq_true hl0
        clear h0 hok h300 hall hqb hmz
        go_wp2_with (first
          | (go_at_call 17; refine (Append_ok hX g _ v 9000 es m _ l wr (HT.out.below HN.out.out) HL.out (HN.out.rd HX.out) HOK.out (by rw [hq.out]; have := HQB.out; omega)).mono ?_; rintro _ w4 ⟨rfl, v4, hS, hA⟩; rw [hq.out] at hA; have H4 := Lib.hid hA; have N4 := Lib.hid (hS.newT HN.out Q1.out); have hcell4 := cell_new N4.out HB.out HC.out; clear hS hA hcell)
          | (go_at_call 28; refine (LSize_cv _ (l.length : Int) w4).eq.mono ?_; rintro _ w7 ⟨rfl, hN⟩; rw [HZ.out]; have hws := HW.out; have H7 := Lib.hid (H4.out.new hN); have N7 := Lib.hid (NewT.trans _ _ _ N4.out hN); clear hN)
          | (go_at_call 25; rw [hws]; clear hcell4 hws; refine Calls.mono (DBytes_c _ v4 9000 _ q _ H7.out.disk) ?_; rintro _ w5 ⟨v5, rfl, hN, hv⟩; have H5 := Lib.hid (H7.out.new hN); have N5 := Lib.hid (NewT.trans _ _ _ N7.out hN); obtain ⟨A5, c5, rfl⟩ := rdV_form (FreshB.rd hv); rw [hq.out]; clear hN hv)
          | (go_at_call 29; refine (Lasts_c _ v4 9000 _ q _ H5.out.disk).eq.mono ?_; rintro _ w6 ⟨rfl, hN⟩; have H6 := Lib.hid (H5.out.new hN); have N6 := Lib.hid (NewT.trans _ _ _ N5.out hN); clear hN))
        go_roundw
        case rel => exact ⟨k + 1, es ++ [l], v4, q, by omega, rfl, by go_num, H6, Lib.hid ⟨hq.out.symm, by rw [List.length_append]; have := HE.out.2.1; simp; omega, HALL.out⟩, N6⟩
        case measure => simp [intOf]; omega
    · obtain rfl : k = ps.length := by omega
      have hmk : ∀ W : World, (Instr.makeSlice 33 (.int .i64 2001) (.int .i64 2001)).run Tryd.prog W = .ok (.slice (some ⟨W.heap.size, 0, none⟩) 2001 2001) (W.alloc (.cells (rowA 2001 fun _ => .int .u8 0) 5)) := run_makeB 2001 (by omega)
      have t0 : Hid True := Lib.hid trivial
      go_wp2_with (first
        | (go_at_call 14; clear t0; refine (Put_long g _ (List.replicate 2001 0) _ (rd_made 2001 (by omega) wr) (by rw [List.length_replicate]; omega)).eq.mono ?_; rintro _ w4 ⟨rfl, hN⟩; have N0 := Lib.hid (NewT.trans _ _ _ (NewT.alloc wr _) hN); have H4 := Lib.hid (HL.out.new N0.out); have N4 := Lib.hid (NewT.trans _ _ _ HN.out N0.out); have t1 : Hid True := Lib.hid trivial; clear hN)
        | (go_at_call 14; clear t1; refine (Put_arg g _ w4 (rdV_nil _ _)).eq.mono ?_; rintro _ w5 ⟨rfl, hN⟩; have H5 := Lib.hid (H4.out.new hN); have N5 := Lib.hid (NewT.trans _ _ _ N4.out hN); clear hN)
        | (go_at_call 25; refine Calls.mono (DBytes_c _ v 9000 _ m _ H5.out.disk) ?_; rintro _ w6 ⟨v6, rfl, hN, hv⟩; have N6 := Lib.hid (NewT.trans _ _ _ N5.out hN); obtain ⟨A6, c6, rfl⟩ := rdV_form (FreshB.rd hv); rw [← HE.out.1]; clear hN hv))
      go_ret
      exact ⟨rfl, N6.out⟩
end Go.Proofs.YtbejolbknimmmaaDoor
/- A row of numbers of the law's own beside a log. -/
namespace Go.Proofs.YtbejolbknimmmaaDoor
open Go Go.RowKit
set_option maxRecDepth 8000
set_option linter.all false
theorem inTy : ∃ i, ValTy Tryd.prog 59 3 i (.int .i64 0) := by
  have h : (Tryd.prog.info? 3).map (fun i => (i.zero.isSome, i.size, decide (i.bytes ≤ 64))) = some (true, 1, true) := by kernel_rfl
  have hz : (Tryd.prog.info? 3).bind (·.zero) = some (.int .i64 0) := by kernel_rfl
  cases hq : Tryd.prog.info? 3 with
  | none => rw [hq] at h; cases h
  | some i =>
    rw [hq] at h hz
    simp at h hz
    exact ⟨i, Tryd.underlying59, hq, hz, h.2.1, rfl, h.2.2⟩
theorem int_ne : 3 ≠ 64 ∧ 3 ≠ 70 ∧ 3 ≠ 5 := by decide
/-- An append of one number onto the row. -/
theorem app_int {W : World} {B : Nat} {va u : Value} {vs : List Value} {x : Int} (h : OwnV W B 3 va vs) (hu : ValsAt W [] u [.int .i64 x]) (hn : vs.length ≤ 1000) (hB : B ≤ W.heap.size) :
    ∃ v' w', (Builtin.append_ #[59, 59] 59 #[va, u]).run Tryd.prog W = .ok v' w' ∧ OwnV w' B 3 v' (vs ++ [.int .i64 x]) ∧ W.grownBy w' va.ownBlock := by
  obtain ⟨i0, hTy⟩ := inTy
  obtain ⟨v', w', h1, h2, _, h3⟩ := run_appV_T (P := Tryd.prog) (ty := 59) hTy h hu (by intro y hy; simp at hy; subst hy; rfl) (C := vs ++ [.int .i64 x]) (List.prefix_refl _) (by simp; omega) hB
  exact ⟨v', w', h1, h2, h3⟩
theorem vals_int (w : World) (x : Int) : ValsAt (w.alloc (.cells #[.int .i64 x] 3)) [] (.slice (some ⟨w.heap.size, 0, none⟩) 1 1) [.int .i64 x] :=
  ⟨some ⟨w.heap.size, 0, none⟩, 1, rfl, by simp, by unfold maxLen; omega, fun _ => ⟨w.heap.size, 0, rfl, by simp, fun i y hy => by
    have h0 : i = 0 := by have := (List.getElem?_eq_some_iff.1 hy).1; simpa using this
    subst h0
    simp at hy
    subst hy
    exact (rowIs_one w 3 (.int .i64 x)).cell (i := 0) (by omega)⟩⟩
theorem own_int (w : World) (x : Int) : OwnV (w.alloc (.cells #[.int .i64 x] 3)) w.heap.size 3 (.slice (some ⟨w.heap.size, 0, none⟩) 1 1) [.int .i64 x] :=
  ownsRow_row (rowIs_one w 3 (.int .i64 x)) w.heap.size 1 (by omega) (by unfold maxLen; omega) (Nat.le_refl _)
theorem OwnV.cells_at {w : World} {B : Nat} {e : TypeId} {v : Value} {vs : List Value} (h : OwnV w B e v vs) (h0 : 0 < vs.length) : ∃ g c, v = .slice (some ⟨g, 0, none⟩) vs.length c ∧ g < w.heap.size ∧ ∀ i x, vs[i]? = some x → w.cell? ⟨g, i, none⟩ = some x := by
  rcases h.2 with ⟨_, h1⟩ | ⟨g, cap, cur, hv, hb, hg, hc, hm, hs, hx⟩
  · omega
  · refine ⟨g, cap, hv, (Array.getElem?_eq_some_iff.1 hg).1, fun i x hi => ?_⟩
    obtain ⟨A, c, hv', _, _, h3⟩ := h.at' (L := []) (by simp)
    rw [hv] at hv'
    cases hv'
    obtain ⟨b, o, hA, _, hcell⟩ := h3 h0
    cases hA
    have := hcell i x hi
    rwa [Nat.zero_add] at this
theorem DBytes_9 (g : Nat) (v : Value) (room : Nat) (S : List UInt8) (n : Nat) (w : World) (h : DiskAt w g v room S n) : Cv 25 #[.pointer (some ⟨g, 0, none⟩)] w (svRd S) :=
  Calls.mono (DBytes_c g v room S n w h) fun _ _ ⟨v, he, hN, hv⟩ => ⟨v, he, hN, FreshB.rd hv⟩
theorem run_size_i (w : World) : (sizeOf 3).run Tryd.prog w = .ok 1 w := by
  have hs := info_int
  cases hq : Tryd.prog.info? 3 with
  | none => simp [hq] at hs
  | some i => simp [hq] at hs; simp [sizeOf, typeInfo, hq, hs]
theorem opr_idxI {a : Act} {w : World} {o : Oper} {K : Act → World → Prop} {Q : Exit → Act → World → Prop} {x y : Operand} {b n c i : Nat} (hi : i < n) (ho : o.op = .indexAddr 59 x y) (hx : a.eval x = .slice (some ⟨b, 0, none⟩) n c) (hy : a.eval y = .int .i64 (i : Int)) (h : K (a.put o.dst (.pointer (some ⟨b, i, none⟩))) w) : o.wp Tryd.prog a w K Q := by
  obtain ⟨dst, op, type, pos, after, guard⟩ := o
  simp only at ho
  subst ho
  exact opr_val (s := Instr.indexAt 59 (a.eval x) (a.eval y)) rfl (by rw [hx, hy]; simp [Instr.indexAt, asIntOf, run_underlying Tryd.underlying59, run_size_i, hi, Addr.add_mid]) h
theorem RSame9_same (va vb : Value) (x : List (List UInt8)) (w : World) (ha : Parts w va x) (hb : Parts w vb x) (hx : Fine9 x) : Cv 20 #[va, vb] w (.eq (.bool true)) := by
  have := RSame9_cv va vb x x w ha hb hx hx
  rwa [decide_eq_true rfl] at this
/-- Where the entries end. -/
def endsV (nx : (Nat → UInt8) → List UInt8 → Nat → UInt8) (es : List (List UInt8)) (k : Nat) : List Value := (List.range (k + 1)).map fun j => .int .i64 ((encL nx mkL hash0 (es.take j)).length : Int)
theorem endsV_zero (nx : (Nat → UInt8) → List UInt8 → Nat → UInt8) (es : List (List UInt8)) : endsV nx es 0 = [.int .i64 0] := rfl
theorem endsV_succ (nx : (Nat → UInt8) → List UInt8 → Nat → UInt8) (es : List (List UInt8)) (k : Nat) : endsV nx es (k + 1) = endsV nx es k ++ [.int .i64 ((encL nx mkL hash0 (es.take (k + 1))).length : Int)] := by
  unfold endsV
  rw [List.range_succ, List.map_append]
  rfl
theorem endsV_length (nx : (Nat → UInt8) → List UInt8 → Nat → UInt8) (es : List (List UInt8)) (k : Nat) : (endsV nx es k).length = k + 1 := by simp [endsV]
theorem endsV_at (nx : (Nat → UInt8) → List UInt8 → Nat → UInt8) (es : List (List UInt8)) (k j : Nat) (h : j ≤ k) : (endsV nx es k)[j]? = some (.int .i64 ((encL nx mkL hash0 (es.take j)).length : Int)) := by
  unfold endsV
  rw [List.getElem?_map, List.getElem?_range (by omega)]
  rfl
/-- The last of the entries' ends that is no more than n: as many are whole there. -/
theorem whole_last (nx : (Nat → UInt8) → List UInt8 → Nat → UInt8) (es : List (List UInt8)) (n j : Nat) (hj : j ≤ es.length) (h1 : (encL nx mkL hash0 (es.take j)).length ≤ n) (h2 : ∀ i, i ≤ es.length → (encL nx mkL hash0 (es.take i)).length ≤ n → i ≤ j) : whole nx mkL n hash0 es = j :=
  Nat.le_antisymm (h2 _ (whole_le nx mkL es n hash0) (whole_fits nx mkL es n hash0)) (whole_most nx mkL es n j hash0 hj h1)
end Go.Proofs.YtbejolbknimmmaaDoor
/- LogAgain, walked. -/
namespace Go.Proofs.YtbejolbknimmmaaDoor
open Go Go.RowKit
set_option maxRecDepth 8000
set_option linter.all false
variable {nx : (Nat → UInt8) → List UInt8 → Nat → UInt8}
/-- Every bytes have a log. -/
theorem isLog_ex (nx : (Nat → UInt8) → List UInt8 → Nat → UInt8) : ∀ (n : Nat) (c : Nat → UInt8) (S : List UInt8), S.length ≤ n → ∃ es, IsLog nx mkL c S es
  | 0, c, S, h => ⟨[], IsLog.none nx mkL fun e he hp => by
    have := hp.length_le
    have := entL_pos nx mkL c e
    omega⟩
  | n + 1, c, S, h => by
    by_cases hex : ∃ e, okE e ∧ entL nx mkL c e <+: S
    · obtain ⟨e, he, r, rfl⟩ := hex
      have := entL_pos nx mkL c e
      obtain ⟨es, hes⟩ := isLog_ex nx n (nx c e) r (by rw [List.length_append] at h; omega)
      exact ⟨e :: es, IsLog.next nx mkL he hes⟩
    · exact ⟨[], IsLog.none nx mkL fun e he hp => hex ⟨e, he, hp⟩⟩
theorem run_eqHs (d : Nat → UInt8) (w : World) : (Op.equalIn 10000 48 (.agg (rowA 32 (bF d))) (.agg (rowA 32 (bF d)))).run Tryd.prog w = .ok true w := by
  rw [equalIn_hash, eqH_same]
theorem encL_take (nx : (Nat → UInt8) → List UInt8 → Nat → UInt8) (c : Nat → UInt8) (es : List (List UInt8)) (k : Nat) : (encL nx mkL c (es.take k)).length ≤ (encL nx mkL c es).length := by
  conv => rhs; rw [← List.take_append_drop k es, encL_app]
  rw [List.length_append]; omega
/-- A log's step, seen from a world in which its disk lay and the log didn't. -/
theorem KeepBut.lstep {W w w' : World} {g dk : Nat} {v v' : Value} (h : KeepBut [dk] W w) (hS : LStep g dk v w w' v') (hg : W.heap.size ≤ g) (hv : ∀ k, v.ownBlock = some k → W.heap.size ≤ k) : KeepBut [dk] W w' :=
  ⟨Nat.le_trans h.1 hS.keep.1, fun k o hk ho hc => hS.keep.2 k o (fun hm => by
    have hlt := lt_of_some ho
    rcases List.mem_cons.1 hm with rfl | hm
    · omega
    · rcases List.mem_cons.1 hm with rfl | hm
      · exact hk (by simp)
      · have := hv k (by simpa using hm); omega) (h.2 k o hk ho hc) hc⟩
theorem LStep.late {W w w' : World} {g dk : Nat} {v v' : Value} (hS : LStep g dk v w w' v') (hW : W.heap.size ≤ w.heap.size) (hv : ∀ k, v.ownBlock = some k → W.heap.size ≤ k) : ∀ k, v'.ownBlock = some k → W.heap.size ≤ k := fun k hk => by
  rcases hS.own with h | ⟨j, h1, h2⟩
  · exact hv k (h ▸ hk)
  · rw [h1] at hk; injection hk with hk; omega
set_option maxRecDepth 20000 in
set_option maxHeartbeats 4000000 in
theorem LogAgain_walk (v0 : Value) (b : List UInt8) (w : World) (hT : Tables w) (h0 : RdV w [] v0 b) : Calls Tryd.prog 5 #[v0] w fun e w' => e = .returned (.bool true) ∧ Below w.heap.size w w' := by
  obtain ⟨nx, hX⟩ := logH_ex
  have HT := Lib.hid hT
  have H1L : Hid (1 < w.heap.size) := Lib.hid hT.size
  have R0 := Lib.hid h0
  obtain ⟨A1, c1, rfl⟩ := rdV_form h0
  clear hT h0
  by_cases g1 : 2000 < (b.length : Int)
  · go_enter Tryd.func5, Tryd.ntmps5
    go_wp2_with (go_at_call 9; refine (alive9_c w HT.out).eq.mono ?_; rintro _ w1 ⟨rfl, hN1⟩)
    go_ret
    exact ⟨rfl, hN1⟩
  have HB : Hid (b.length ≤ 2000) := Lib.hid (by omega)
  obtain ⟨es, hes⟩ := isLog_ex nx b.length hash0 b (Nat.le_refl _)
  obtain ⟨M, hM⟩ := hid_ex (encL nx mkL hash0 es).length
  obtain ⟨D, hD⟩ := hid_ex (chL nx hash0 es)
  have HES := Lib.hid hes
  have HMB : Hid (M ≤ 2000) := Lib.hid (by have := hes.at'.length_le; have := hM.out; have := HB.out; omega)
  have HEL : Hid (es.length ≤ 2000) := Lib.hid (by have := encL_count nx hash0 es; have := HMB.out; have := hM.out; omega)
  have HFE : Hid (Fine9 es) := Lib.hid ⟨by have := HEL.out; omega, fun t ht => by have := (hes.ok t ht).2; omega⟩
  clear hes
  have t0 : Hid True := Lib.hid trivial
  go_enter Tryd.func5, Tryd.ntmps5
  go_wp2_with (first
    | (go_at_call 9; refine (alive9_c w HT.out).eq.mono ?_; rintro _ w1 ⟨rfl, hN1⟩; have N1 : Hid (NewT w w1) := Lib.hid hN1; have Q1 := Lib.hid hN1.size; clear hN1)
    | (go_at_call 12; clear t0; refine (New_c 3000 (by omega) (by omega) w1).mono ?_; rintro _ w2 ⟨rfl, hN, hD2⟩; have H2 := Lib.hid hD2; have N2 := Lib.hid (NewT.trans _ _ _ N1.out hN); have Q2 := Lib.hid N2.out.out.size; have t1 : Hid True := Lib.hid trivial; clear hN hD2)
    | (go_at_call 12
       clear t1
       refine (New_c 3000 (by omega) (by omega) w2).mono ?_
       rintro _ w3 ⟨rfl, hN, hD3⟩
       have H3 := Lib.hid (H2.out.new hN)
       have C3 := Lib.hid hD3
       have N3 := Lib.hid (NewT.trans _ _ _ N2.out hN)
       have P3 : Hid (w2.heap.size ∉ w1.heap.size :: (Value.slice none 0 0).ownBlock.toList) := Lib.hid (by have := H2.out.lt; simp [Value.ownBlock]; omega)
       clear hN hD3)
    | (go_at_call 27
       refine (Write_ok w1.heap.size _ 3000 [] 0 _ b w3 H3.out (N3.out.rd R0.out) (by have := HB.out; simp; omega)).mono ?_
       rintro _ w4 ⟨rfl, v4, hD4, hA4⟩
       have H4 := Lib.hid hA4
       have C4 := Lib.hid (C3.out.keep hD4.keep P3.out (by simp [Value.ownBlock]))
       have P4 := Lib.hid (hD4.apart C3.out.lt P3.out)
       have N4 := Lib.hid (hD4.newT N3.out Q1.out)
       have t4 : Hid True := Lib.hid trivial
       clear hD4 hA4)
    | (go_at_call 11
       clear t4
       refine (Open_c hX w1.heap.size v4 3000 _ 0 w4 (HT.out.below N4.out.out) H4.out es HES.out (Nat.lt_of_lt_of_le H1L.out Q1.out)).mono ?_
       rintro _ w5 ⟨g5, v5, lv5, ps5, rfl, hg5, hD5, hL5, hps5, hP5⟩
       have hP50 := hP5 (w2.heap.size :: w1.heap.size :: v5.ownBlock.toList) (fun k hk => by
         rcases List.mem_cons.1 hk with rfl | hk
         · exact .inl C4.out.lt
         · rcases List.mem_cons.1 hk with rfl | hk
           · exact .inl H4.out.lt
           · exact .inr (.inr (by simpa using hk)))
       have G5 : Hid (w2.heap.size < g5) := Lib.hid (Nat.lt_of_lt_of_le C4.out.lt hg5)
       obtain ⟨A5, c5, rfl, _⟩ := parts_es hP50 hps5
       have HP5 := Lib.hid hP50
       have HPS5 := Lib.hid hps5
       have H5 := Lib.hid hL5
       have C5 := Lib.hid (C4.out.keep hD5.keep P4.out (by simp [Value.ownBlock]))
       have P5 := Lib.hid (hD5.apart C4.out.lt P4.out)
       have N5 := Lib.hid (hD5.newT N4.out Q1.out)
       have t5 : Hid True := Lib.hid trivial
       clear hD5 hL5 hps5 hP5 hP50 hg5)
    | (go_at_call 11
       clear t5
       refine (Open_c hX w1.heap.size v5 3000 _ _ w5 (HT.out.below N5.out.out) H5.out.disk es (again nx mkL hash0 es HES.out.ok) (Nat.lt_of_lt_of_le H1L.out Q1.out)).mono ?_
       rintro _ w6 ⟨g6, v6, lv6, ps6, rfl, hg6, hD6, hL6, hps6, hP6⟩
       have hP60 := hP6 [w2.heap.size] (by intro k hk; simp at hk; subst hk; exact .inl C5.out.lt)
       have G6 : Hid (w2.heap.size < g6) := Lib.hid (Nat.lt_of_lt_of_le C5.out.lt hg6)
       obtain ⟨A6, c6, rfl, _⟩ := parts_es hP60 hps6
       have HP6 := Lib.hid hP60
       have HPS6 := Lib.hid hps6
       have H6 := Lib.hid hL6
       have HP56 : Hid (PartsAt w6 [w2.heap.size] _ ps5) := Lib.hid ((HP5.out.keep (hD6.keep.more (by simp +contextual))).more (by intro k _ hk; simp at hk ⊢; exact hk.1))
       have H56 : Hid (LogAt nx w6 g5 w1.heap.size v6 3000 es (encL nx mkL hash0 es).length) := Lib.hid ⟨hD6.row H5.out.apart H5.out.row, hL6.disk, hL6.ok, hD6.apart H5.out.lt.2 H5.out.apart, H5.out.late⟩
       have C6 := Lib.hid (C5.out.keep hD6.keep P5.out (by simp [Value.ownBlock]))
       have P6 := Lib.hid (hD6.apart C5.out.lt P5.out)
       have N6 := Lib.hid (hD6.newT N5.out Q1.out)
       have t6 : Hid True := Lib.hid trivial
       clear hD6 hL6 hps6 hP6 hP60 hg6)
    | (go_at_call 11
       clear t6
       refine (Open_c hX w2.heap.size _ 3000 [] 0 w6 (HT.out.below N6.out.out) C6.out [] (again nx mkL hash0 [] (by simp)) (by have h1 := H1L.out; have h2 := N2.out.out.size; omega)).mono ?_
       rintro _ w7 ⟨g7, v7, lv7, ps7, rfl, hg7, hD7, hL7, hps7, hP7⟩
       obtain ⟨A7, c7, rfl, _⟩ := parts_es (hP7 [] (by simp)) hps7
       have H7 := Lib.hid hL7
       have K7 : Hid (KeepBut [w2.heap.size] w6 w7) := Lib.hid hD7.keep
       have B7 : Hid (w6.heap.size ≤ g7 ∧ ∀ k, v7.ownBlock = some k → w6.heap.size ≤ k) := Lib.hid ⟨hg7, fun k hk => by
         rcases hD7.own with h | ⟨j, h1, h2⟩
         · rw [h] at hk; cases hk
         · rw [h1] at hk; injection hk with hk; omega⟩
       have N7 := Lib.hid (hD7.newT N6.out N2.out.out.size)
       clear hD7 hL7 hps7 hP7 hg7))
  go_loopw [14] (fun i wr => ∃ (k : Nat) (v : Value) (m : Nat), k ≤ es.length ∧ i = .int .i64 (k : Int) ∧ Hid (LogAt nx wr g7 w2.heap.size v 3000 (es.take k) m) ∧ Hid (∀ q, v.ownBlock = some q → w6.heap.size ≤ q) ∧ Hid (KeepBut [w2.heap.size] w6 wr) ∧ Hid (NewT w wr)) (fun i _ => es.length - (intOf i).toNat)
  case atStart => exact ⟨0, v7, _, by omega, rfl, H7, Lib.hid B7.out.2, K7, N7⟩
  case round =>
    obtain ⟨k, v, m, hk, rfl, HL, HV, HK, HN⟩ := hrel
    clear H7 N7 K7 H2 N2 H3 N3 C3 P3 H4 N4 C4 P4 H5 N5 C5 P5 HP5
    have hpl : ps5.length = es.length := by rw [← HPS5.out, List.length_map]
    have hel2 := HEL.out
    have HPR := Lib.hid (HP56.out.keep HK.out)
    have HP0 : Hid (PartsAt wr [] _ ps5) := Lib.hid (HPR.out.more (by simp))
    by_cases hlt : k < es.length
    · have it : (k : Int) < (es.length : Int) := by omega
      obtain ⟨bb, o, rfl, hb, hc⟩ := parts_cell HP0.out (by omega)
      obtain ⟨x, hx⟩ : ∃ x, ps5[k]? = some x := ⟨_, List.getElem?_eq_getElem (by omega)⟩
      have hxr := parts_rd HP0.out (List.mem_of_getElem? hx)
      have hel : es[k]? = some x.2 := by rw [← HPS5.out, List.getElem?_map, hx]; rfl
      have htk : es.take (k + 1) = es.take k ++ [x.2] := by rw [List.take_add_one, hel]; rfl
      have hcell := hc k _ hx
      have hok : okE x.2 := HES.out.ok _ (List.mem_of_getElem? hel)
      obtain ⟨u, l⟩ := x
      simp only at hxr hcell htk hel hok
      obtain ⟨A8, c8, rfl⟩ := rdV_form hxr
      have HX := Lib.hid hxr
      have HTK := Lib.hid htk
      have HOK := Lib.hid hok
      have HFIT : Hid ((encL nx mkL hash0 (es.take k ++ [l])).length ≤ 3000) := Lib.hid (by
        have h1 := encL_take nx hash0 es (k + 1)
        rw [htk, hM.out] at h1
        have := HMB.out
        try simp only at h1
        omega)
      clear hxr hel htk hok hc hx hb
      go_wp2_with (go_at_call 17
                   refine (Append_ok hX g7 w2.heap.size v 3000 _ m _ l wr (HT.out.below HN.out.out) HL.out HX.out HOK.out HFIT.out).mono ?_
                   rintro _ w8 ⟨rfl, v8, hS, hA⟩
                   have H8 := Lib.hid hA
                   have V8 := Lib.hid (hS.late HK.out.1 HV.out)
                   have K8 := Lib.hid (HK.out.lstep hS B7.out.1 HV.out)
                   have N8 := Lib.hid (hS.newT HN.out Q2.out)
                   clear hS hA hcell)
      go_roundw
      case rel => exact ⟨k + 1, v8, _, by omega, by go_num, by rw [HTK.out]; exact H8, V8, K8, N8⟩
      case measure => simp [intOf]; omega
    · obtain rfl : k = es.length := by omega
      rw [List.take_length] at HL
      have hck : ∀ g, w2.heap.size < g → ∀ q ∈ g :: w1.heap.size :: v6.ownBlock.toList, q ∉ [w2.heap.size] := fun g hg q hq hm => by
        simp at hm
        subst hm
        rcases List.mem_cons.1 hq with h | hq
        · omega
        · exact P6.out hq
      have X0 := Lib.hid (H56.out.keep HK.out (hck g5 G5.out))
      have Y0 := Lib.hid (H6.out.keep HK.out (hck g6 G6.out))
      have HP6R : Hid (PartsAt wr [] _ ps6) := Lib.hid ((HP6.out.keep HK.out).more (by simp))
      have heq := run_eqHs D
      have s0 : Hid True := Lib.hid trivial
      clear hck
      go_wp2_with (first
        | (go_at_call 20
           refine (RSame9_cv _ _ es es wr ⟨ps5, HP0.out, HPS5.out⟩ ⟨ps6, HP6R.out, HPS6.out⟩ HFE.out HFE.out).eq.mono ?_
           rintro _ wa ⟨rfl, hN⟩
           rw [decide_eq_true rfl]
           have Na := Lib.hid hN
           have s1 : Hid True := Lib.hid trivial
           clear hN)
        | (go_at_call 22
           clear s1
           refine (Chain_c g5 _ _ _ _ _ wa (X0.out.new Na.out)).eq.mono ?_
           rintro _ wb ⟨rfl, hN⟩
           rw [hD.out]
           have Nb := Lib.hid (NewT.trans _ _ _ Na.out hN)
           have s2 : Hid True := Lib.hid trivial
           clear hN)
        | (go_at_call 22
           clear s2
           refine (Chain_c g6 _ _ _ _ _ wb (Y0.out.new Nb.out)).eq.mono ?_
           rintro _ wc ⟨rfl, hN⟩
           rw [hD.out]
           have Nc := Lib.hid (NewT.trans _ _ _ Nb.out hN)
           clear hN)
        | (go_at_call 21
           refine (Count_c g5 _ _ _ _ _ wc (X0.out.new Nc.out)).eq.mono ?_
           rintro _ wd ⟨rfl, hN⟩
           have Nd := Lib.hid (NewT.trans _ _ _ Nc.out hN)
           have s3 : Hid True := Lib.hid trivial
           clear hN)
        | (go_at_call 22
           clear s3
           refine (Chain_c g7 _ _ _ _ _ wd (HL.out.new Nd.out)).eq.mono ?_
           rintro _ we ⟨rfl, hN⟩
           rw [hD.out]
           have Ne := Lib.hid (NewT.trans _ _ _ Nd.out hN)
           have s4 : Hid True := Lib.hid trivial
           clear hN)
        | (go_at_call 22
           clear s4
           refine (Chain_c g5 _ _ _ _ _ we (X0.out.new Ne.out)).eq.mono ?_
           rintro _ wf ⟨rfl, hN⟩
           rw [hD.out]
           have Nf := Lib.hid (NewT.trans _ _ _ Ne.out hN)
           clear hN)
        | (go_at_call 25
           clear s0
           refine Calls.mono (DBytes_c w2.heap.size _ _ _ _ wf (HL.out.disk.new Nf.out)) ?_
           rintro _ wg ⟨vg, rfl, hN, hv⟩
           have Bg := Lib.hid (FreshB.rd hv)
           have Ng := Lib.hid (NewT.trans _ _ _ Nf.out hN)
           clear hN hv)
        | (go_at_call 25
           refine Calls.mono (DBytes_c w1.heap.size _ _ _ _ wg (X0.out.disk.new Ng.out)) ?_
           rintro _ wh ⟨vh, rfl, hN, hv⟩
           have Bh := Lib.hid (FreshB.rd hv)
           have Bg2 := Lib.hid (hN.rd Bg.out)
           have Nh := Lib.hid (NewT.trans _ _ _ Ng.out hN)
           clear hN hv)
        | (go_at_call 24
           refine (Bytes_cv vg vh _ _ wh Bg2.out Bh.out (by have := hM.out; have := HMB.out; omega) (by have := hM.out; have := HMB.out; omega)).eq.mono ?_
           rintro _ wi ⟨rfl, hN⟩
           rw [decide_eq_true rfl]
           have Ni := Lib.hid (NewT.trans _ _ _ HN.out (NewT.trans _ _ _ Nh.out hN))
           clear hN))
      go_ret
      exact ⟨rfl, Ni.out⟩
end Go.Proofs.YtbejolbknimmmaaDoor
/- LogTorn, walked. -/
namespace Go.Proofs.YtbejolbknimmmaaDoor
open Go Go.RowKit
set_option maxRecDepth 8000
set_option linter.all false
set_option maxRecDepth 20000 in
set_option maxHeartbeats 4000000 in
theorem LogTorn_walk (v0 : Value) (ls : List (List UInt8)) (n : Int) (hn : 0 ≤ n ∧ n ≤ 65535) (w : World) (hT : Tables w) (h0 : Parts w v0 ls) : Calls Tryd.prog 8 #[v0, .int .u16 n] w fun e w' => e = .returned (.bool true) ∧ Below w.heap.size w w' := by
  obtain ⟨nx, hX⟩ := logH_ex
  obtain ⟨ps, h0, hps⟩ := h0
  have HT := Lib.hid hT
  have H1L : Hid (1 < w.heap.size) := Lib.hid hT.size
  have R0 := Lib.hid h0
  have HPS := Lib.hid hps
  have HN0 := Lib.hid hn
  obtain ⟨A1, c1, rfl, _⟩ := h0
  clear hT hps hn
  by_cases g1 : 12 < (ps.length : Int)
  · go_enter Tryd.func8, Tryd.ntmps8
    go_wp2_with (go_at_call 9; refine (alive9_c w HT.out).eq.mono ?_; rintro _ w1 ⟨rfl, hN1⟩; have N1 : Hid (NewT w w1) := Lib.hid hN1; clear hN1)
    go_ret
    exact ⟨rfl, N1.out⟩
  have hmax : ps.length ≤ 12 := by omega
  have HMAX := Lib.hid hmax
  have hlsl : ls.length = ps.length := by rw [← HPS.out, List.length_map]
  have HLS := Lib.hid hlsl
  clear hlsl
  go_enter Tryd.func8, Tryd.ntmps8
  go_wp2_with (first
    | (go_at_call 9; refine (alive9_c w HT.out).eq.mono ?_; rintro _ w1 ⟨rfl, hN1⟩; have N1 : Hid (NewT w w1) := Lib.hid hN1; clear hN1)
    | (go_at_call 12; refine (New_c 9000 (by omega) (by omega) w1).mono ?_; rintro _ w2 ⟨rfl, hN, hD⟩; have H2 := Lib.hid hD; have N2 := Lib.hid (NewT.trans _ _ _ N1.out hN); have Q1 := Lib.hid N1.out.out.size; clear hN hD)
    | (go_at_call 11
       refine (Open_c hX w1.heap.size _ 9000 [] 0 w2 (HT.out.below N2.out.out) H2.out [] (again nx mkL hash0 [] (by simp)) (Nat.lt_of_lt_of_le H1L.out Q1.out)).mono ?_
       rintro _ w3 ⟨g, v3, lv, ps3, rfl, hg, hD3, hL3, hps3, hP⟩
       obtain ⟨A3, c3, rfl, _⟩ := parts_es (hP [] (by simp)) hps3
       have H3 := Lib.hid hL3
       have N3 := Lib.hid (hD3.newT N2.out Q1.out)
       clear hD3 hL3 hps3 hP hg))
  go_loopw [9, 10] (fun x i wr => ∃ (va : Value) (k : Nat) (v : Value) (m : Nat), k ≤ ps.length ∧ x = va ∧ i = .int .i64 (k : Int) ∧ Hid (LogAt nx wr g w1.heap.size v 9000 (List.map (fun x => x.2) (ps.take k)) m) ∧ Hid (OwnV wr w.heap.size 3 va (endsV nx ls k)) ∧ Hid ((∀ e ∈ List.map (fun x => x.2) (ps.take k), e.length ≤ 300) ∧ (List.map (fun x => x.2) (ps.take k)).length ≤ k) ∧ Hid (NewT w wr)) (fun _ i _ => ps.length - (intOf i).toNat)
  case atStart => exact ⟨_, 0, v3, 0, by omega, rfl, rfl, Lib.hid (H3.out.new (NewT.alloc _ _)), Lib.hid ((own_int w3 0).mono N3.out.out.size), Lib.hid ⟨by simp, by simp⟩, Lib.hid (NewT.trans _ _ _ N3.out (NewT.alloc _ _))⟩
  case round =>
    obtain ⟨va, k, v, m, hk, rfl, rfl, HL, HO, HE, HN⟩ := hrel
    clear H2 N2 H3 N3
    by_cases hlt : k < ps.length
    · have it : (k : Int) < (ps.length : Int) := by omega
      obtain ⟨b, o, rfl, hb, hc⟩ := parts_cell R0.out (by omega)
      obtain ⟨x, hx⟩ : ∃ x, ps[k]? = some x := ⟨_, List.getElem?_eq_getElem hlt⟩
      have hxm := List.mem_of_getElem? hx
      have htk : ps.take (k + 1) = ps.take k ++ [x] := by rw [List.take_add_one, hx]; rfl
      obtain ⟨u, l⟩ := x
      have hxr : RdV w [] u l := parts_rd R0.out hxm
      have hc : w.cell? ⟨b, o + k, none⟩ = some u := hc k _ hx
      obtain ⟨A4, c4, rfl⟩ := rdV_form hxr
      have HX := Lib.hid hxr
      have HC := Lib.hid hc
      have HB := Lib.hid hb
      have HTK := Lib.hid htk
      have hcell := cell_new HN.out hb hc
      clear hxr hc hx hb hxm htk
      by_cases h3 : 300 < (l.length : Int)
      · go_wp2
        go_ret
        exact ⟨rfl, HN.out⟩
      by_cases h0 : l = []
      · subst h0
        clear h3
        go_wp2_with (go_at_call 17; refine (Append_arg g _ wr (HN.out.rd HX.out)).eq.mono ?_; rintro _ w4 ⟨rfl, hN⟩; have N4 := Lib.hid (NewT.trans _ _ _ HN.out hN); have hcell4 := cell_new N4.out HB.out HC.out; clear hN hcell)
        go_ret
        exact ⟨rfl, N4.out⟩
      · have hl0 : 0 < l.length := List.length_pos_iff.2 h0
        have hok : okE l := ⟨hl0, by omega⟩
        have h300 : l.length ≤ 300 := by omega
        have hdc : ((l.length : Int) == 0) = false := beq_eq_false_iff_ne.2 (by omega)
        have hfit : (encL nx mkL hash0 ((List.map (fun x => x.2) (ps.take k)) ++ [l])).length ≤ 9000 := by
          have hbd := encL_bound nx 300 (by omega) hash0 ((List.map (fun x => x.2) (ps.take k)) ++ [l]) fun e he => by
            rcases List.mem_append.1 he with he | he
            · exact HE.out.1 e he
            · simp at he; subst he; exact h300
          have hlen : ((List.map (fun x => x.2) (ps.take k)) ++ [l]).length ≤ 13 := by
            have := HE.out.2
            rw [List.length_append]; simp only [List.length_cons, List.length_nil]; omega
          have := Nat.mul_le_mul_left 310 hlen
          omega
        have HFIT := Lib.hid hfit
        have HOK := Lib.hid hok
        have H300 := Lib.hid h300
        obtain ⟨q, HQ⟩ := hid_ex (encL nx mkL hash0 (List.map (fun x => x.2) (ps.take k) ++ [l])).length
        have HKL : Hid (k < ps.length) := Lib.hid hlt
        clear h0 hok h300 hfit
        go_wp2_with (first
          | (go_at_call 17
             refine (Append_ok hX g _ v 9000 _ m _ l wr (HT.out.below HN.out.out) HL.out (HN.out.rd HX.out) HOK.out HFIT.out).mono ?_
             rintro _ w4 ⟨rfl, v4, hS, hA⟩
             have H4 := Lib.hid hA
             have N4 := Lib.hid (hS.newT HN.out Q1.out)
             have O4 := Lib.hid (HO.out.of_block fun k o hk ho hc => hS.keep.2 k o (HO.out.besideT int_ne HL.out k hk) ho hc)
             clear hS hA hcell)
          | (go_at_call 25
             refine Calls.mono (DBytes_c w1.heap.size v4 9000 _ _ w4 H4.out.disk) ?_
             rintro _ wy ⟨vy, rfl, hNy, hvy⟩
             obtain ⟨Ay, cy, rfl⟩ := rdV_form (FreshB.rd hvy)
             have Hy := Lib.hid (H4.out.new hNy)
             have Oy := Lib.hid (O4.out.keep hNy)
             have Ny := Lib.hid (NewT.trans _ _ _ N4.out hNy)
             rw [HQ.out]
             clear hNy hvy)
          | (at_builtin
             obtain ⟨v5, w5, hrun, hO5, hG5⟩ := app_int (Oy.out.keep (NewT.alloc _ _)) (vals_int wy (q : Int)) (by rw [endsV_length]; omega) (by have := Ny.out.out.size; simp; omega)
             refine wpList_plain rfl (fun K hK => ?_)
             refine opr_append rfl rfl rfl hrun (hK _ _ ?_)
             clear hK K hrun
             have N5 := Lib.hid (NewT.of ((NewT.trans _ _ _ Ny.out (NewT.alloc wy _)).out.grown hG5 (by have := Ny.out.out.size; simp; omega) (fun k hk => (Oy.out.lt k hk).1)))
             have H5 := Lib.hid ((Hy.out.new (NewT.alloc wy _)).appT int_ne (Oy.out.keep (NewT.alloc wy _)) hG5)
             have O5 := Lib.hid hO5
             clear hO5 hG5))
        go_roundw
        case rel =>
          have e1 : List.map (fun x => x.2) (ps.take (k + 1)) = ls.take (k + 1) := by rw [List.map_take, HPS.out]
          have e2 : List.map (fun x => x.2) (ps.take k) ++ [l] = ls.take (k + 1) := by rw [← e1, HTK.out, List.map_append]; rfl
          rw [e2] at HQ
          exact ⟨v5, k + 1, v4, _, by omega, rfl, by go_num, by rw [e1, ← e2]; exact H5, Lib.hid (by rw [endsV_succ, HQ.out]; exact O5.out), Lib.hid (by
            rw [e1, ← e2]
            refine ⟨fun e he => ?_, ?_⟩
            · rcases List.mem_append.1 he with he | he
              · exact HE.out.1 e he
              · simp at he; subst he; exact H300.out
            · have := HE.out.2; rw [List.length_append]; simp only [List.length_cons, List.length_nil]; omega), N5⟩
        case measure => simp [intOf]; omega
    · obtain rfl : k = ps.length := by omega
      rw [List.take_length, HPS.out] at HL HE
      obtain ⟨M, hM⟩ := hid_ex (encL nx mkL hash0 ls).length
      have hMb : M ≤ 9000 := by rw [← hM.out]; exact HL.out.disk.fits
      have HMB := Lib.hid hMb
      have hn0 := HN0.out
      have hcv : IntKind.i64.wrap n = n := IntWalk.i64_in _ (by omega)
      obtain ⟨kk, hkk⟩ : ∃ kk, n.toNat % (M + 1) = kk := ⟨_, rfl⟩
      have hrem : Int.tmod n ((M : Int) + 1) = (kk : Int) := by
        obtain ⟨nn, rfl⟩ : ∃ nn : Nat, n = nn := ⟨n.toNat, by omega⟩
        rw [← hkk, Int.tmod_eq_emod_of_nonneg hn0.1, Int.toNat_natCast]
        exact (Int.natCast_emod nn (M + 1)).symm
      have hkM : kk ≤ M := by have := Nat.mod_lt n.toNat (show 0 < M + 1 by omega); omega
      have HKM := Lib.hid hkM
      clear hn0 hkk
      obtain ⟨ge, ce, hve, hgel, hcells⟩ := HO.out.cells_at (by rw [endsV_length]; omega)
      rw [endsV_length] at hve
      subst hve
      have HCE := Lib.hid (⟨hgel, hcells⟩ : ge < wr.heap.size ∧ ∀ i x, (endsV nx ls ps.length)[i]? = some x → wr.cell? ⟨ge, i, none⟩ = some x)
      clear hgel hcells
      go_wp2_with (go_at_call 25
                   refine Calls.mono (DBytes_c w1.heap.size v 9000 _ m wr HL.out.disk) ?_
                   rintro _ wb ⟨vb, rfl, hNb, hvb⟩
                   have hrb := FreshB.rd hvb
                   obtain ⟨Ab, cb, rfl⟩ := rdV_form hrb
                   have RB := Lib.hid hrb
                   have HLb := Lib.hid (HL.out.new hNb)
                   have HCb : Hid (∀ i x, (endsV nx ls ps.length)[i]? = some x → wb.cell? ⟨ge, i, none⟩ = some x) := Lib.hid fun i x hx => cell_new hNb HCE.out.1 (HCE.out.2 i x hx)
                   have HGE := Lib.hid (Nat.lt_of_lt_of_le HCE.out.1 hNb.out.size)
                   have Nb := Lib.hid (NewT.trans _ _ _ HN.out hNb)
                   rw [hM.out]
                   clear hNb hvb hrb)
      clear hcv hrem
      go_loopw [13, 14] (fun x y ws => ∃ t j : Nat, j ≤ ps.length + 1 ∧ x = .int .i64 (t : Int) ∧ y = .int .i64 (j : Int) ∧ Hid (t ≤ ps.length ∧ (encL nx mkL hash0 (ls.take t)).length ≤ kk ∧ ∀ i, i < j → (encL nx mkL hash0 (ls.take i)).length ≤ kk → i ≤ t) ∧ wb = ws) (fun _ y _ => ps.length + 1 - (intOf y).toNat)
      case atStart => exact ⟨0, 0, by omega, rfl, rfl, Lib.hid ⟨by omega, by simp [encL], fun i hi => by omega⟩, rfl⟩
      case round =>
        obtain ⟨t, j, hj, rfl, rfl, HTJ, rfl⟩ := hrel
        by_cases hlt : j < ps.length + 1
        · have it : (j : Int) < ((ps.length + 1 : Nat) : Int) := by omega
          obtain ⟨ej, HEJ⟩ := hid_ex (encL nx mkL hash0 (ls.take j)).length
          have hcell := HCb.out j _ (endsV_at nx ls ps.length j (by omega))
          rw [HEJ.out] at hcell
          by_cases hle : ej ≤ kk
          · have hle2 : (ej : Int) ≤ (kk : Int) := by omega
            go_wp2
            go_roundw
            case rel => exact ⟨j, j + 1, by omega, rfl, by go_num, Lib.hid ⟨by omega, by rw [HEJ.out]; exact hle, fun i hi _ => by omega⟩, by first | rfl | trivial⟩
            case measure => simp [intOf]; omega
          · have hle2 : ¬ (ej : Int) ≤ (kk : Int) := by omega
            go_wp2
            go_roundw
            case rel => exact ⟨t, j + 1, by omega, rfl, by go_num, Lib.hid ⟨HTJ.out.1, HTJ.out.2.1, fun i hi h => by
              rcases Nat.lt_succ_iff_lt_or_eq.1 hi with h1 | rfl
              · exact HTJ.out.2.2 i h1 h
              · rw [HEJ.out] at h; exact absurd h hle⟩, by first | rfl | trivial⟩
            case measure => simp [intOf]; omega
        · obtain rfl : j = ps.length + 1 := by omega
          have hw : whole nx mkL kk hash0 ls = t := whole_last nx ls kk t (by have := HLS.out; have := HTJ.out.1; omega) HTJ.out.2.1 (fun i hi h => HTJ.out.2.2 i (by have := HLS.out; omega) h)
          have htorn := torn nx mkL hash0 ls kk (by rw [hM.out]; exact HKM.out) HLb.out.ok
          rw [hw] at htorn
          have HTORN := Lib.hid htorn
          have HFX : Hid (Fine9 (ls.take t)) := Lib.hid ⟨by have := HLS.out; have := HMAX.out; rw [List.length_take]; omega, fun e he => by have := (HLb.out.ok e (List.mem_of_mem_take he)).2; omega⟩
          have HLL : Hid (t ≤ ls.length) := Lib.hid (by have := HLS.out; have := HTJ.out.1; omega)
          have htl : (ls.take t).length = t := by rw [List.length_take]; have := HLL.out; omega
          have HTL := Lib.hid htl
          have HA0 : Hid (Parts w (.slice A1 ps.length c1) ls) := Lib.hid ⟨ps, R0.out, HPS.out⟩
          have hMc : M ≤ cb := by obtain ⟨_, _, hv, h1, _⟩ := RB.out; rw [hM.out] at h1; injection hv with _ e2 e3; subst e3; exact h1
          have hs := slice_to Ab M cb kk (by have := HKM.out; omega)
          have HRT : Hid (RdV wb [] (.slice Ab kk cb) ((encL nx mkL hash0 ls).take kk)) := Lib.hid (RB.out.take (by rw [hM.out]; exact HKM.out))
          have HKT : Hid (((encL nx mkL hash0 ls).take kk).length ≤ 9000) := Lib.hid (by rw [List.length_take]; have := HKM.out; have := HMB.out; omega)
          have hcT := HCb.out t _ (endsV_at nx ls ps.length t HTJ.out.1)
          have HCT := Lib.hid hcT
          clear hw htorn hMc hcT htl
          go_upto_region 25 with (first
            | (go_at_call 12
               refine (New_c 9000 (by omega) (by omega) wb).mono ?_
               rintro _ wc ⟨rfl, hN, hD⟩
               have Cc := Lib.hid hD
               have Nc := Lib.hid hN
               have Q3 := Lib.hid (Nat.lt_of_lt_of_le H1L.out Nb.out.out.size)
               clear hN hD)
            | (go_at_call 27
               refine (Write_ok wb.heap.size _ 9000 [] 0 _ ((encL nx mkL hash0 ls).take kk) wc Cc.out (Nc.out.rd HRT.out) (by have := HKT.out; simp; omega)).mono ?_
               rintro _ wd ⟨rfl, vd, hD, hA⟩
               have Cd := Lib.hid hA
               have Nd := Lib.hid (hD.newT Nc.out (Nat.le_refl _))
               clear hD hA)
            | (go_at_call 11
               refine (Open_c hX wb.heap.size vd 9000 _ 0 wd (HT.out.below (NewT.trans _ _ _ Nb.out Nd.out).out) Cd.out (ls.take t) HTORN.out Q3.out).mono ?_
               rintro _ we ⟨gm, vm, lvm, psm, rfl, hgm, hDm, hLm, hpsm, hPm⟩
               have hPm0 := hPm [] (by simp)
               obtain ⟨Am, cm, rfl, _⟩ := parts_es hPm0 hpsm
               have HPm := Lib.hid (⟨psm, hPm0, hpsm⟩ : Parts we _ (ls.take t))
               rw [HTL.out] at HPm ⊢
               have Lm := Lib.hid hLm
               have Ne := Lib.hid (hDm.newT Nd.out (Nat.le_refl _))
               clear hDm hLm hpsm hPm hPm0 hgm))
          obtain ⟨va, ea⟩ : ∃ v, Value.slice A1 ps.length c1 = v := ⟨_, rfl⟩
          obtain ⟨vb, eb⟩ : ∃ v, Value.slice Am t cm = v := ⟨_, rfl⟩
          rw [ea] at HA0
          rw [eb] at HPm
          rw [ea, eb]
          have HA1 := Lib.hid ((NewT.trans _ _ _ Nb.out Ne.out).partsL HA0.out)
          have HC5 := Lib.hid (cell_new Ne.out HGE.out HCT.out)
          have HGE5 := Lib.hid (Nat.lt_of_lt_of_le HGE.out Ne.out.out.size)
          refine wp_region_rely (NewT) [SV.eq (.int .i64 (0)), SV.eq (.bool true), SV.eq (.bool true), SV.eq (vb), SV.eq (va), SV.eq (.int .i64 ((t : Int))), svParts (List.take t ls), SV.eq (.bool true), SV.eq (.bool true), SV.eq (.bool true), SV.eq (.pointer (some ⟨wb.heap.size, 0, none⟩)), svRd (encL nx mkL hash0 (List.take t ls)), SV.eq (.int .i64 ((List.length (encL nx mkL hash0 (List.take t ls)) : Int))), SV.eq ((.slice (some ⟨ge, 0, none⟩) (ps.length + 1) ce)), SV.eq (.int .i64 ((t : Int))), SV.eq (.pointer (some ⟨ge, t, none⟩)), SV.eq (.int .i64 (((List.length (encL nx mkL hash0 (List.take t ls)) : Nat) : Int))), SV.eq (.bool true), SV.eq (.bool true)] [([(18, none)], none), ([(106, some 0)], none), ([(107, some 1)], none), ([(17, none), (108, some 2)], some (108, true)), ([(0, none), (108, some 2)], some (108, true)), ([(13, none), (108, some 2)], some (108, true)), ([(110, some 4), (111, some 5), (108, some 2)], some (108, true)), ([(109, some 3), (112, some 6), (108, some 2)], some (108, true)), ([(108, some 2), (113, some 7)], none), ([(114, some 8)], none), ([(15, none), (115, some 9)], some (115, true)), ([(116, some 10), (115, some 9)], some (115, true)), ([(117, some 11), (115, some 9)], some (115, true)), ([(9, none), (115, some 9)], some (115, true)), ([(13, none), (115, some 9)], some (115, true)), ([(119, some 13), (120, some 14), (115, some 9)], some (115, true)), ([(121, some 15), (115, some 9)], some (115, true)), ([(118, some 12), (122, some 16), (115, some 9)], some (115, true)), ([(115, some 9), (123, some 17)], none)] 125 rfl (by kernel_rfl) rfl (by kernel_rfl) (by kernel_rfl) rfl NewT.trans (NewT.drew _) (Nat.le_of_ble_eq_true rfl) ⟨?_, ?_, ?_, ?_, ?_, ?_, ?_, ?_, ?_, ?_, ?_, ?_, ?_, ?_, ?_, ?_, ?_, ?_, ?_, trivial⟩ ?_
          · exact fun a wx hT hF K hK => rely_wp rfl (opr_move (.inl rfl) (hK _ _ (NewT.refl _) hF.1))
          · exact fun a wx hT hF K hK => rely_wp rfl (opr_cmp (b := true) (.inl ⟨rfl, (by decide)⟩) Tryd.underlying27 rfl hF.1 rfl (hK _ _ (NewT.refl _) rfl))
          · exact fun a wx hT hF K hK => rely_wp rfl (opr_move (.inl rfl) (hK _ _ (NewT.refl _) hF.1))
          · exact fun a wx hT hF K hK => rely_wp (rely_guard hF.2.1) (opr_move (.inl rfl) (hK _ _ (NewT.refl _) hF.1))
          · exact fun a wx hT hF K hK => rely_wp (rely_guard hF.2.1) (opr_move (.inl rfl) (hK _ _ (NewT.refl _) hF.1))
          · exact fun a wx hT hF K hK => rely_wp (rely_guard hF.2.1) (opr_move (.inl rfl) (hK _ _ (NewT.refl _) hF.1))
          · intro a wx hT hF K hK
            obtain ⟨f110, f111, f108, _⟩ := hF
            have f110 : a.tmps.getD 110 undef = va := f110
            have f111 : a.tmps.getD 111 undef = .int .i64 ((t : Int)) := f111
            have f108 : a.tmps.getD 108 undef = .bool true := f108
            refine rely_wp (rely_guard f108) ?_
            exact opr_toT (k := t) (HLL.out) (rfl) rfl (by rw [eval_tmp, f110]; exact (hT.partsL HA1.out)) f111 (fun v hv => hK v _ (NewT.refl _) hv)
          · exact fun a wx hT hF K hK => rely_wp (rely_guard hF.2.2.1) (opr_cv (RSame9_same _ _ (List.take t ls) wx (hT.partsL HPm.out) hF.2.1 HFX.out) rfl Tryd.func20 (by kernel_rfl) (by kernel_rfl) (evs2 hF.1 rfl) hK)
          · exact fun a wx hT hF K hK => rely_wp rfl (opr_pick_true rfl hF.1 (hK _ _ (NewT.refl _) hF.2.1))
          · exact fun a wx hT hF K hK => rely_wp rfl (opr_move (.inl rfl) (hK _ _ (NewT.refl _) hF.1))
          · exact fun a wx hT hF K hK => rely_wp (rely_guard hF.2.1) (opr_move (.inl rfl) (hK _ _ (NewT.refl _) hF.1))
          · exact fun a wx hT hF K hK => rely_wp (rely_guard hF.2.1) (opr_cv (DBytes_9 _ _ _ _ _ wx (Lm.out.disk.new hT)) rfl Tryd.func25 (by kernel_rfl) (by kernel_rfl) (evs1 hF.1) hK)
          · exact fun a wx hT hF K hK => rely_wp (rely_guard hF.2.1) (opr_len_rd rfl hF.1 (hK _ _ (NewT.refl _) rfl))
          · exact fun a wx hT hF K hK => rely_wp (rely_guard hF.2.1) (opr_move (.inl rfl) (hK _ _ (NewT.refl _) hF.1))
          · exact fun a wx hT hF K hK => rely_wp (rely_guard hF.2.1) (opr_move (.inl rfl) (hK _ _ (NewT.refl _) hF.1))
          · exact fun a wx hT hF K hK => rely_wp (rely_guard hF.2.2.1) (opr_idxI (i := t) (by have := HTJ.out.1; omega) rfl hF.1 hF.2.1 (hK _ _ (NewT.refl _) rfl))
          · exact fun a wx hT hF K hK => rely_wp (rely_guard hF.2.1) (opr_ld1 Tryd.underlying3 rfl rfl hF.1 (cell_new hT HGE5.out HC5.out) (hK _ _ (NewT.refl _) rfl))
          · exact fun a wx hT hF K hK => rely_wp (rely_guard hF.2.2.1) (opr_cmp (b := true) (.inl ⟨rfl, (by simp)⟩) Tryd.underlying3 rfl hF.1 hF.2.1 (hK _ _ (NewT.refl _) rfl))
          · exact fun a wx hT hF K hK => rely_wp rfl (opr_pick_true rfl hF.1 (hK _ _ (NewT.refl _) hF.2.1))
          · intro wf kf
            iterate 6 (intro u h; obtain rfl := Eq.symm (h (by simp)); clear h)
            intro _ _
            iterate 4 (intro u h; obtain rfl := Eq.symm (h (by simp)); clear h)
            intro _ _
            iterate 7 (intro u h; obtain rfl := Eq.symm (h (by simp)); clear h)
            refine relyEnd_nil rfl ?_
            simp only [Act.put, List.setIfInBounds_toArray, List.set_cons_zero, List.set_cons_succ]
            refine opr_move (.inr rfl) ?_
            go_simp
            go_wp2
            go_ret
            exact ⟨rfl, (NewT.trans _ _ _ (NewT.trans _ _ _ Nb.out Ne.out) kf).out⟩
end Go.Proofs.YtbejolbknimmmaaDoor
