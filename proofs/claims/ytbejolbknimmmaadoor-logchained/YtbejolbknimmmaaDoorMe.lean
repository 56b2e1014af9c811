/- Slices of slices of bytes that read as lists of texts: parts, elements. -/
import Derived.Test.YtbejolbknimmmaaDoorMb
import Derived.Test.YtbejolbknimmmaaDoorMa
import Derived.Test.YtbejolbknimmmaaDoorMd
import Derived.Test.YtbejolbknimmmaaDoorMc
set_option linter.all false
namespace Go.Proofs.YtbejolbknimmmaaDoor
open Go Go.RowKit
set_option maxRecDepth 8000
set_option linter.all false
theorem parts_form {w : World} {v : Value} {ls : List (List UInt8)} (h : Parts w v ls) : ∃ A c, v = .slice A ls.length c ∧ ls.length ≤ c := by
  obtain ⟨ps, ⟨A, c, hv, h1, _⟩, rfl⟩ := h
  exact ⟨A, c, by rw [hv, List.length_map], by rw [List.length_map]; exact h1⟩
theorem parts_none (w : World) : Parts w (.slice none 0 0) [] := ⟨[], ⟨none, 0, rfl, by simp, by unfold maxLen; omega, fun h => absurd h (by simp), fun x hx => by simp at hx⟩, rfl⟩
theorem parts_take {w : World} {A : Option Addr} {c n k : Nat} {ls : List (List UInt8)} (h : Parts w (.slice A n c) ls) (hk : k ≤ ls.length) : Parts w (.slice A k c) (ls.take k) := by
  obtain ⟨ps, ⟨A', c', hv, h1, h2, h3, h4⟩, rfl⟩ := h
  cases hv
  rw [List.length_map] at hk
  have hl : (ps.take k).length = k := by rw [List.length_take]; omega
  refine ⟨ps.take k, ⟨A, c, by rw [hl], by omega, h2, fun h0 => ?_, fun x hx => h4 x (List.mem_of_mem_take hx)⟩, by rw [List.map_take]⟩
  rw [hl] at h0
  obtain ⟨b, o, hA, hb, hc⟩ := h3 (by omega)
  refine ⟨b, o, hA, hb, fun i x hx => hc i x ?_⟩
  rw [List.getElem?_take] at hx
  split at hx
  · exact hx
  · cases hx
theorem parts_drop {w : World} {A : Option Addr} {c n k : Nat} {ls : List (List UInt8)} (h : Parts w (.slice A n c) ls) (hk : k ≤ ls.length) : Parts w (.slice (if c = k then A else A.map (·.add k)) (n - k) (c - k)) (ls.drop k) := by
  obtain ⟨ps, ⟨A', c', hv, h1, h2, h3, h4⟩, rfl⟩ := h
  cases hv
  rw [List.length_map] at hk
  have hl : (ps.drop k).length = ps.length - k := by simp
  refine ⟨ps.drop k, ⟨_, c - k, by rw [hl], by omega, by omega, fun h0 => ?_, fun x hx => h4 x (List.mem_of_mem_drop hx)⟩, by rw [List.map_drop]⟩
  rw [hl] at h0
  obtain ⟨b, o, rfl, hb, hc⟩ := h3 (by omega)
  refine ⟨b, o + k, by rw [if_neg (by omega)]; simp [Addr.add_mid], hb, fun i x hx => ?_⟩
  have := hc (k + i) x (by simpa using hx)
  rw [show o + k + i = o + (k + i) by omega]
  exact this
theorem run_size_b (w : World) : (sizeOf 33).run Tryd.prog w = .ok 1 w := by
  have hs : (Tryd.prog.info? 33).map (·.size) = some 1 := by kernel_rfl
  cases hq : Tryd.prog.info? 33 with
  | none => simp [hq] at hs
  | some i => simp [hq] at hs; simp [sizeOf, typeInfo, hq, hs]
/-- An element's place: where a slice of bytes lies that reads as l. -/
def svPT (l : List UInt8) : SV NewT := ⟨fun v w => ∃ b off u, v = .pointer (some ⟨b, off, none⟩) ∧ w.cell? ⟨b, off, none⟩ = some u ∧ RdV w [] u l, fun _ w w' h hT => by
  obtain ⟨b, off, u, hv, hc, hr⟩ := h
  exact ⟨b, off, u, hv, (hT.out.cell (p := ⟨b, off, none⟩) (World.block_lt_of_cell? _ _ hc)).trans hc, hT.rd hr⟩⟩
section
variable {a : Act} {w : World} {o : Oper} {K : Act → World → Prop} {Q : Exit → Act → World → Prop} {x y : Operand} {ls : List (List UInt8)} {k : Nat} {n : Int}
theorem run_toT {A : Option Addr} {n c k : Nat} (w : World) (hk : k ≤ n) (hn : n ≤ c) : (Instr.slice 26 (.slice A n c) none (some (.int .i64 (k : Int))) none).run Tryd.prog w = .ok (.slice A k c) w := by
  have h1 : k ≤ c := by omega
  have e : A.map (fun a => a.add 0) = A := by cases A <;> simp [Addr.add_zero']
  by_cases hc0 : c = 0
  · obtain rfl : k = 0 := by omega
    subst hc0; simp [Instr.slice, run_underlying Tryd.underlying26, Instr.sliceBounds, Instr.sliceBound, asIntOf, run_size_b, h1]
  · simp [Instr.slice, run_underlying Tryd.underlying26, Instr.sliceBounds, Instr.sliceBound, asIntOf, run_size_b, h1, hc0, e]
theorem run_fromT {A : Option Addr} {n c k : Nat} (w : World) (hk : k ≤ n) : (Instr.slice 26 (.slice A n c) (some (.int .i64 (k : Int))) none none).run Tryd.prog w = .ok (.slice (if c = k then A else A.map (·.add k)) (n - k) (c - k)) w := by
  have h1 : k ≤ n := hk
  by_cases hc : c = k
  · simp [Instr.slice, run_underlying Tryd.underlying26, Instr.sliceBounds, Instr.sliceBound, asIntOf, run_size_b, h1, hc]
  · simp [Instr.slice, run_underlying Tryd.underlying26, Instr.sliceBounds, Instr.sliceBound, asIntOf, run_size_b, h1, hc]
/-- 'l[:k]'. -/
theorem opr_toT (hk : k ≤ ls.length) (hn : n = (k : Int)) (ho : o.op = .slice 26 x none (some y) none) (hx : Parts w (a.eval x) ls) (hy : a.eval y = .int .i64 n) (h : ∀ v, Parts w v (ls.take k) → K (a.put o.dst v) w) : o.wp Tryd.prog a w K Q := by
  subst hn
  obtain ⟨dst, op, type, pos, after, guard⟩ := o
  simp only at ho
  subst ho
  obtain ⟨A, c, hv, hc⟩ := parts_form hx
  rw [hv] at hx
  exact opr_val (s := Instr.sliceAt 26 (a.eval x) none (some (a.eval y)) none) (by simp [execOp]) (by rw [hv, hy]; simp [Instr.sliceAt, run_underlying Tryd.underlying26]; exact run_toT w hk hc) (h _ (parts_take hx hk))
/-- 'l[k:]'. -/
theorem opr_fromT (hk : k ≤ ls.length) (hn : n = (k : Int)) (ho : o.op = .slice 26 x (some y) none none) (hx : Parts w (a.eval x) ls) (hy : a.eval y = .int .i64 n) (h : ∀ v, Parts w v (ls.drop k) → K (a.put o.dst v) w) : o.wp Tryd.prog a w K Q := by
  subst hn
  obtain ⟨dst, op, type, pos, after, guard⟩ := o
  simp only at ho
  subst ho
  obtain ⟨A, c, hv, hc⟩ := parts_form hx
  rw [hv] at hx
  exact opr_val (s := Instr.sliceAt 26 (a.eval x) (some (a.eval y)) none none) (by simp [execOp]) (by rw [hv, hy]; simp [Instr.sliceAt, run_underlying Tryd.underlying26]; exact run_fromT w hk) (h _ (parts_drop hx hk))
theorem parts_at {w : World} {v : Value} {i : Nat} {l : List UInt8} (h : Parts w v ls) (hi : ls[i]? = some l) : ∃ b off c u, v = .slice (some ⟨b, off, none⟩) ls.length c ∧ w.cell? ⟨b, off + i, none⟩ = some u ∧ RdV w [] u l := by
  obtain ⟨ps, ⟨A, c, hv, h1, h2, h3, h4⟩, rfl⟩ := h
  have hl : i < ps.length := by have := (List.getElem?_eq_some_iff.1 hi).1; simpa using this
  obtain ⟨b, off, rfl, _, hc⟩ := h3 (by omega)
  have hx : ps[i]? = some ps[i] := List.getElem?_eq_getElem hl
  have e : ps[i].2 = l := by rw [List.getElem?_map, hx] at hi; simpa using hi
  exact ⟨b, off, c, ps[i].1, by rw [hv, List.length_map], hc i _ hx, e ▸ h4 _ (List.getElem_mem hl)⟩
/-- 'l[i]': its place, and what lies there. -/
theorem opr_idxT {i : Nat} {l : List UInt8} (hi : ls[i]? = some l) (hn : n = (i : Int)) (ho : o.op = .indexAddr 26 x y) (hx : Parts w (a.eval x) ls) (hy : a.eval y = .int .i64 n) (h : ∀ v, (svPT l).pred v w → K (a.put o.dst v) w) : o.wp Tryd.prog a w K Q := by
  subst hn
  obtain ⟨dst, op, type, pos, after, guard⟩ := o
  simp only at ho
  subst ho
  obtain ⟨b, off, c, u, hv, hc, hr⟩ := parts_at hx hi
  have hl : i < ls.length := (List.getElem?_eq_some_iff.1 hi).1
  exact opr_val (s := Instr.indexAt 26 (a.eval x) (a.eval y)) (v := .pointer (some ⟨b, off + i, none⟩)) (w' := w) rfl (by rw [hv, hy]; simp [Instr.indexAt, asIntOf, run_underlying Tryd.underlying26, run_size_b, hl, Addr.add_mid]) (h _ ⟨b, off + i, u, rfl, hc, hr⟩)
theorem opr_ldT {l : List UInt8} (ho : o.op = .load 33 x) (hx : (svPT l).pred (a.eval x) w) (h : ∀ u, RdV w [] u l → K (a.put o.dst u) w) : o.wp Tryd.prog a w K Q := by
  obtain ⟨b, off, u, hv, hc, hr⟩ := hx
  exact opr_ld1 Tryd.underlying33 rfl ho hv hc (h u hr)
end
end Go.Proofs.YtbejolbknimmmaaDoor
/- The reference's Bytes, at whatever lists. -/
namespace Go.Proofs.YtbejolbknimmmaaDoor
open Go Go.RowKit
set_option maxRecDepth 8000
set_option linter.all false
theorem rd_cells {W : World} {A : Option Addr} {n c : Nat} {l : List UInt8} (h : RdV W [] (.slice A n c) l) : l.length = n ∧ ∀ i, i < n → ∃ b o, A = some ⟨b, o, none⟩ ∧ ∀ j, j < n → W.cell? ⟨b, o + j, none⟩ = some (.int .u8 (bN (bAt l j))) := by
  obtain ⟨A', c', hv, _, _, hc⟩ := h
  cases hv
  refine ⟨rfl, fun i hi => ?_⟩
  obtain ⟨b, o, h1, _, h2⟩ := hc (by omega)
  exact ⟨b, o, h1, h2⟩
/-- The same up to a place. -/
def sameTo (l m : List UInt8) (k : Nat) : Prop := ∀ i, i < k → bAt l i = bAt m i
theorem eq_of_sameTo {l m : List UInt8} (hl : l.length = m.length) (h : sameTo l m l.length) : l = m := by
  apply List.ext_getElem hl
  intro i h1 h2
  have := h i h1
  simpa [bAt, h1, h2] using this
set_option maxHeartbeats 1000000 in
theorem Bytes_any (A1 A2 : Option Addr) (n1 c1 n2 c2 : Nat) (l m : List UInt8) (w : World) (h1 : RdV w [] (.slice A1 n1 c1) l) (h2 : RdV w [] (.slice A2 n2 c2) m) (hn1 : n1 ≤ 1000000) (hn2 : n2 ≤ 1000000) :
    Cv 24 #[.slice A1 n1 c1, .slice A2 n2 c2] w (.eq (.bool (decide (l = m)))) := by
  unfold Cv
  obtain ⟨e1, k1⟩ := rd_cells h1
  obtain ⟨e2, k2⟩ := rd_cells h2
  have E1 := Lib.hid e1
  have E2 := Lib.hid e2
  have H1 := Lib.hid k1
  have H2 := Lib.hid k2
  clear h1 h2 e1 e2 k1 k2
  by_cases hne : n1 = n2
  · subst hne
    go_enter Tryd.func24, Tryd.ntmps24
    go_wp2
    go_loopw [5] (fun i wr => ∃ k : Nat, k ≤ n1 ∧ i = .int .i64 k ∧ Hid (sameTo l m k) ∧ Hid (∀ a, wr.cell? a = w.cell? a) ∧ Below w.heap.size w wr) (fun i _ => n1 - (intOf i).toNat)
    case atStart => exact ⟨0, by omega, rfl, Lib.hid (fun i hi => by omega), Lib.hid (fun _ => rfl), Below.refl _ _⟩
    case round =>
      obtain ⟨k, hk, rfl, Hs, Hcell, qB⟩ := hrel
      by_cases hlt : k < n1
      · obtain ⟨b1, o1, rfl, j1⟩ := H1.out k hlt
        obtain ⟨b2, o2, rfl, j2⟩ := H2.out k hlt
        have c1' := (Hcell.out ⟨b1, o1 + k, none⟩).trans (j1 k hlt)
        have c2' := (Hcell.out ⟨b2, o2 + k, none⟩).trans (j2 k hlt)
        have it : (k : Int) < (n1 : Int) := by omega
        clear j1 j2
        by_cases hb : bAt l k = bAt m k
        · have hq : (bN (bAt l k) != bN (bAt m k)) = false := by rw [hb]; simp
          have Hb := Lib.hid hb
          clear hb
          generalize hx : bN (bAt l k) = x at c1' hq
          generalize hy : bN (bAt m k) = y at c2' hq
          clear hx hy
          go_wp2
          refine wp_region_still_lit (by kernel_rfl) (by kernel_rfl) ?_
          repeat (refine wpStill_step (fun K hK => ?_); go_simp; (try go_bits); refine hK _ ?_; clear hK K)
          refine wpStill_nil ?_
          go_wp2
          go_roundw
          case rel => exact ⟨k + 1, by omega, by go_num, Lib.hid (fun i hi => by
            rcases Nat.lt_succ_iff_lt_or_eq.1 hi with h | rfl
            · exact Hs.out i h
            · exact Hb.out), Lib.hid (fun a => Hcell.out a), qB.drew⟩
          case measure => simp [intOf]; omega
        · have hq : (bN (bAt l k) != bN (bAt m k)) = true := by simpa using fun h => hb (bN_inj h)
          have Hb := Lib.hid hb
          clear hb
          generalize hx : bN (bAt l k) = x at c1' hq
          generalize hy : bN (bAt m k) = y at c2' hq
          clear hx hy
          go_wp2
          refine wp_region_still_lit (by kernel_rfl) (by kernel_rfl) ?_
          repeat (refine wpStill_step (fun K hK => ?_); go_simp; (try go_bits); refine hK _ ?_; clear hK K)
          refine wpStill_nil ?_
          go_wp2
          go_ret
          refine ⟨_, rfl, qB.drew, ?_⟩
          show Value.bool false = _
          congr 1
          exact (decide_eq_false fun h => Hb.out (by rw [h])).symm
      · obtain rfl : k = n1 := by omega
        go_wp2
        go_ret
        refine ⟨_, rfl, qB, ?_⟩
        show Value.bool true = _
        congr 1
        exact (decide_eq_true (eq_of_sameTo (E1.out.trans E2.out.symm) (by rw [E1.out]; exact Hs.out))).symm
  · have hq : ((n1 : Int) != (n2 : Int)) = true := by simp; omega
    have hq2 : (n1 != n2) = true := by simpa using hne
    go_enter Tryd.func24, Tryd.ntmps24
    go_wp2
    go_ret
    refine ⟨_, rfl, Below.refl _ _, ?_⟩
    show Value.bool false = _
    congr 1
    exact (decide_eq_false fun h => hne (by rw [← E1.out, ← E2.out, h])).symm
theorem Bytes_cv (v1 v2 : Value) (l m : List UInt8) (w : World) (h1 : RdV w [] v1 l) (h2 : RdV w [] v2 m) (hl : l.length ≤ 1000000) (hm : m.length ≤ 1000000) :
    Cv 24 #[v1, v2] w (.eq (.bool (decide (l = m)))) := by
  have g1 := h1
  have g2 := h2
  obtain ⟨A1, c1, rfl, _⟩ := g1
  obtain ⟨A2, c2, rfl, _⟩ := g2
  exact Bytes_any A1 A2 _ c1 _ c2 l m w h1 h2 hl hm
end Go.Proofs.YtbejolbknimmmaaDoor
/- The document's answer for layer 9: are two lists the same? -/
namespace Go.Proofs.YtbejolbknimmmaaDoor
open Go Go.RowKit
set_option maxRecDepth 8000
set_option linter.all false
/-- A list whose texts are short enough. -/
structure Fine9 (x : List (List UInt8)) : Prop where
  len : x.length ≤ 900000
  each : ∀ t ∈ x, t.length ≤ 900000
set_option maxHeartbeats 1000000 in
theorem RSame9_cv (va vb : Value) (x y : List (List UInt8)) (w : World) (ha : Parts w va x) (hb : Parts w vb y) (hx : Fine9 x) (hy : Fine9 y) : Cv 20 #[va, vb] w (.eq (.bool (decide (x = y)))) := by
  unfold Cv
  have HA0 := Lib.hid ha
  have HB0 := Lib.hid hb
  have HFX := Lib.hid hx
  have HFY := Lib.hid hy
  obtain ⟨A1, c1, e1', q1⟩ := parts_form ha
  obtain ⟨A2, c2, e2', q2⟩ := parts_form hb
  have p1 := hx.len
  subst e1' e2'
  clear ha hb q1 q2 hx hy
  by_cases hne : x.length = y.length
  rotate_left
  · have hd : decide (x = y) = false := decide_eq_false fun h => hne (by rw [h])
    have ht : ((x.length : Int) != (y.length : Int)) = true := by simp; omega
    rw [hd]
    go_enter Tryd.func20, Tryd.ntmps20
    go_wp2
    go_ret
    exact ⟨_, rfl, NewT.refl _, rfl⟩
  rw [← hne] at HB0 ⊢
  have Hne := Lib.hid hne
  clear hne
  go_enter Tryd.func20, Tryd.ntmps20
  go_wp2
  go_loopw [5] (fun i wr => ∃ k : Nat, k ≤ x.length ∧ i = .int .i64 (k : Int) ∧ Hid (∀ i, i < k → x[i]? = y[i]?) ∧ NewT w wr) (fun i _ => x.length - (intOf i).toNat)
  case atStart => exact ⟨0, by omega, rfl, Lib.hid (fun i hi => by omega), NewT.refl _⟩
  case round =>
    obtain ⟨k, hk, rfl, Hs, hN⟩ := hrel
    have HN := Lib.hid hN
    have HA := Lib.hid (hN.partsL HA0.out)
    have HB := Lib.hid (hN.partsL HB0.out)
    clear hN
    by_cases hlt : k < x.length
    · have it : (k : Int) < (x.length : Int) := by omega
      obtain ⟨s, hx⟩ : ∃ d, x[k]? = some d := ⟨_, List.getElem?_eq_getElem (by omega)⟩
      obtain ⟨t, hy⟩ : ∃ d, y[k]? = some d := ⟨_, List.getElem?_eq_getElem (by have := Hne.out; omega)⟩
      have HX := Lib.hid hx
      have HY := Lib.hid hy
      have HSN := Lib.hid (HFX.out.each s (List.mem_of_getElem? hx))
      have HTN := Lib.hid (HFY.out.each t (List.mem_of_getElem? hy))
      obtain ⟨b, hq⟩ : ∃ b, decide (s = t) = b := ⟨_, rfl⟩
      have HQ := Lib.hid hq
      clear hx hy hq
      go_upto_region 6 with fail
      obtain ⟨va, ea⟩ : ∃ v, Value.slice A1 x.length c1 = v := ⟨_, rfl⟩
      obtain ⟨vb, eb⟩ : ∃ v, Value.slice A2 x.length c2 = v := ⟨_, rfl⟩
      rw [ea] at HA
      rw [eb] at HB
      rw [ea, eb]
      refine wp_region_rely (NewT) [SV.eq (va), SV.eq (.int .i64 ((k : Int))), svPT (s), svRd (s), SV.eq (vb), SV.eq (.int .i64 ((k : Int))), svPT (t), svRd (t), SV.eq (.bool (b))] [([(0, none)], none), ([(5, none)], none), ([(17, some 0), (18, some 1)], none), ([(19, some 2)], none), ([(1, none)], none), ([(5, none)], none), ([(21, some 4), (22, some 5)], none), ([(23, some 6)], none), ([(20, some 3), (24, some 7)], none)] 27 rfl (by kernel_rfl) rfl (by kernel_rfl) (by kernel_rfl) rfl NewT.trans (NewT.drew _) (Nat.le_of_ble_eq_true rfl) ⟨?_, ?_, ?_, ?_, ?_, ?_, ?_, ?_, ?_, trivial⟩ ?_
      · exact fun a wx hT hF K hK => rely_wp rfl (opr_move (.inl rfl) (hK _ _ (NewT.refl _) hF.1))
      · exact fun a wx hT hF K hK => rely_wp rfl (opr_move (.inl rfl) (hK _ _ (NewT.refl _) hF.1))
      · intro a wx hT hF K hK
        obtain ⟨f17, f18, _⟩ := hF
        have f17 : a.tmps.getD 17 undef = va := f17
        have f18 : a.tmps.getD 18 undef = .int .i64 ((k : Int)) := f18
        refine rely_wp rfl ?_
        exact opr_idxT (i := k) (l := s) (HX.out) (rfl) rfl (by rw [eval_tmp, f17]; exact (hT.partsL HA.out)) f18 (fun v hv => hK v _ (NewT.refl _) hv)
      · exact fun a wx hT hF K hK => rely_wp rfl (opr_ldT rfl hF.1 (fun u hu => hK u _ (NewT.refl _) hu))
      · exact fun a wx hT hF K hK => rely_wp rfl (opr_move (.inl rfl) (hK _ _ (NewT.refl _) hF.1))
      · exact fun a wx hT hF K hK => rely_wp rfl (opr_move (.inl rfl) (hK _ _ (NewT.refl _) hF.1))
      · intro a wx hT hF K hK
        obtain ⟨f21, f22, _⟩ := hF
        have f21 : a.tmps.getD 21 undef = vb := f21
        have f22 : a.tmps.getD 22 undef = .int .i64 ((k : Int)) := f22
        refine rely_wp rfl ?_
        exact opr_idxT (i := k) (l := t) (HY.out) (rfl) rfl (by rw [eval_tmp, f21]; exact (hT.partsL HB.out)) f22 (fun v hv => hK v _ (NewT.refl _) hv)
      · exact fun a wx hT hF K hK => rely_wp rfl (opr_ldT rfl hF.1 (fun u hu => hK u _ (NewT.refl _) hu))
      · exact fun a wx hT hF K hK => rely_wp rfl (opr_cv (by rw [← HQ.out]; exact Bytes_cv _ _ s t wx hF.1 hF.2.1 (by have := HSN.out; omega) (by have := HTN.out; omega)) rfl Tryd.func24 (by kernel_rfl) (by kernel_rfl) (evs2 rfl rfl) hK)
      · intro wc kc
        iterate 2 (intro u h; obtain rfl := Eq.symm (h (by simp)); clear h)
        iterate 2 (intro _ _)
        iterate 2 (intro u h; obtain rfl := Eq.symm (h (by simp)); clear h)
        iterate 2 (intro _ _)
        intro u h; obtain rfl := Eq.symm (h (by simp)); clear h
        refine relyEnd_nil rfl ?_
        simp only [Act.put, List.setIfInBounds_toArray, List.set_cons_zero, List.set_cons_succ]
        refine opr_not rfl rfl ?_
        go_simp
        replace HN := Lib.hid (NewT.trans _ _ _ HN.out kc)
        clear kc HA HB
        cases b
        · go_wp2
          go_ret
          exact ⟨_, rfl, HN.out, by rw [decide_eq_false (fun e : x = y => of_decide_eq_false HQ.out (by have h1 := HX.out; rw [e, HY.out] at h1; exact (Option.some.inj h1).symm))]; rfl⟩
        · subst ea eb
          go_wp2
          go_roundw
          case rel => exact ⟨k + 1, by omega, by go_num, Lib.hid (fun i hi => by
            rcases Nat.lt_succ_iff_lt_or_eq.1 hi with h1 | rfl
            · exact Hs.out i h1
            · rw [HX.out, HY.out, of_decide_eq_true HQ.out]), HN.out⟩
          case measure => simp [intOf]; omega
    · obtain rfl : k = x.length := by omega
      go_wp2
      go_ret
      have e : x = y := by
        apply List.ext_getElem? fun i => ?_
        by_cases hi : i < x.length
        · exact Hs.out i hi
        · rw [List.getElem?_eq_none (by omega), List.getElem?_eq_none (by have := Hne.out; omega)]
      exact ⟨_, rfl, HN.out, by rw [decide_eq_true e]; rfl⟩
end Go.Proofs.YtbejolbknimmmaaDoor
/- A row of slices of the law's own beside a log. -/
namespace Go.Proofs.YtbejolbknimmmaaDoor
open Go Go.RowKit
set_option maxRecDepth 8000
set_option linter.all false
variable {nx : (Nat → UInt8) → List UInt8 → Nat → UInt8}
theorem cells_of_row {w : World} {b t n : Nat} {f : Nat → Value} (h : w.rowIs b t n f) : ∃ c, w.heap[b]? = some (.cells c t) := by
  obtain ⟨c, hc, _⟩ := h; exact ⟨c, hc⟩
theorem OwnV.cells' {w : World} {B : Nat} {e : TypeId} {v : Value} {l : List Value} (h : OwnV w B e v l) : ∀ k, v.ownBlock = some k → ∃ c, w.heap[k]? = some (.cells c e) := fun k hk => by
  rcases h.2 with ⟨rfl, _⟩ | ⟨g, cap, cur, rfl, _, hg, _⟩
  · cases hk
  · cases hk; exact ⟨cur, hg⟩
theorem OwnB.cells' {w : World} {B : Nat} {v : Value} {l : List UInt8} (h : OwnB w B v l) : ∀ k, v.ownBlock = some k → ∃ c, w.heap[k]? = some (.cells c 5) := fun k hk => by
  rcases h.2 with ⟨rfl, _⟩ | ⟨g, cap, cur, rfl, _, hg, _⟩
  · cases hk
  · cases hk; exact ⟨cur, hg⟩
/-- A row whose elements are no bytes, disks or logs lies beside the log. -/
theorem OwnV.besideT {w : World} {B g dk room n : Nat} {e : TypeId} {va v : Value} {vs : List Value} {es : List (List UInt8)} (he : e ≠ 64 ∧ e ≠ 70 ∧ e ≠ 5) (h : OwnV w B e va vs) (hL : LogAt nx w g dk v room es n) : ∀ k, va.ownBlock = some k → k ∉ g :: dk :: v.ownBlock.toList := fun k hk hm => by
  obtain ⟨c, hc⟩ := h.cells' k hk
  rcases List.mem_cons.1 hm with rfl | hm
  · obtain ⟨c', hc'⟩ := cells_of_row hL.row
    rw [hc] at hc'; injection hc' with hc'; injection hc' with _ h1; exact he.1 h1
  · rcases List.mem_cons.1 hm with rfl | hm
    · obtain ⟨c', hc'⟩ := cells_of_row hL.disk.row
      rw [hc] at hc'; injection hc' with hc'; injection hc' with _ h1; exact he.2.1 h1
    · obtain ⟨c', hc'⟩ := hL.disk.own.cells' k (by simpa using hm)
      rw [hc] at hc'; injection hc' with hc'; injection hc' with _ h1; exact he.2.2 h1
/-- The row lies beside the log: their types differ. -/
theorem OwnV.beside {w : World} {B g dk room n : Nat} {va v : Value} {vs : List Value} {es : List (List UInt8)} (h : OwnV w B 33 va vs) (hL : LogAt nx w g dk v room es n) : ∀ k, va.ownBlock = some k → k ∉ g :: dk :: v.ownBlock.toList := fun k hk hm => by
  obtain ⟨c, hc⟩ := h.cells' k hk
  rcases List.mem_cons.1 hm with rfl | hm
  · obtain ⟨c', hc'⟩ := cells_of_row hL.row
    rw [hc] at hc'; cases hc'
  · rcases List.mem_cons.1 hm with rfl | hm
    · obtain ⟨c', hc'⟩ := cells_of_row hL.disk.row
      rw [hc] at hc'; cases hc'
    · obtain ⟨c', hc'⟩ := hL.disk.own.cells' k (by simpa using hm)
      rw [hc] at hc'; cases hc'
theorem OwnV.lstep {w w' : World} {B g dk room n : Nat} {va v v' : Value} {vs : List Value} {es : List (List UInt8)} (h : OwnV w B 33 va vs) (hL : LogAt nx w g dk v room es n) (hS : LStep g dk v w w' v') : OwnV w' B 33 va vs :=
  h.of_block fun k o hk ho hc => hS.keep.2 k o (h.beside hL k hk) ho hc
theorem OwnV.dstep {w w' : World} {B g dk room n : Nat} {va v v' : Value} {vs : List Value} {es : List (List UInt8)} (h : OwnV w B 33 va vs) (hL : LogAt nx w g dk v room es n) (hS : DStep dk v w w' v') : OwnV w' B 33 va vs :=
  h.lstep hL (LStep.of_d hS)
theorem OwnV.dstep' {w w' : World} {B dk room n : Nat} {va v v' : Value} {vs : List Value} {S : List UInt8} (h : OwnV w B 33 va vs) (hL : DiskAt w dk v room S n) (hS : DStep dk v w w' v') : OwnV w' B 33 va vs :=
  h.of_block fun k o hk ho hc => hS.keep.2 k o (fun hm => by
    obtain ⟨c, hc⟩ := h.cells' k hk
    rcases List.mem_cons.1 hm with rfl | hm
    · obtain ⟨c', hc'⟩ := cells_of_row hL.row
      rw [hc] at hc'; cases hc'
    · obtain ⟨c', hc'⟩ := hL.own.cells' k (by simpa using hm)
      rw [hc] at hc'; cases hc') ho hc
theorem LogAt.app {w w' : World} {B g dk room n : Nat} {va v : Value} {vs : List Value} {es : List (List UInt8)} (hL : LogAt nx w g dk v room es n) (hO : OwnV w B 33 va vs) (hG : w.grownBy w' va.ownBlock) : LogAt nx w' g dk v room es n :=
  hL.keep (keepBut_grown hG (L := va.ownBlock.toList) (fun k hk => by simp [hk])) (fun k hk hm => hO.beside hL k (by simpa using hm) hk)
/-- An append of one slice onto the row. -/
theorem app_one {W : World} {B : Nat} {va u : Value} {vs : List Value} {A : Option Addr} {n c : Nat} (h : OwnV W B 33 va vs) (hu : ValsAt W [] u [.slice A n c]) (hn : vs.length ≤ 1000) (hB : B ≤ W.heap.size) :
    ∃ v' w', (Builtin.append_ #[26, 26] 26 #[va, u]).run Tryd.prog W = .ok v' w' ∧ OwnV w' B 33 v' (vs ++ [.slice A n c]) ∧ W.grownBy w' va.ownBlock := by
  obtain ⟨i0, hTy⟩ := ssTy
  obtain ⟨v', w', h1, h2, _, h3⟩ := run_appV_T (P := Tryd.prog) (ty := 26) hTy h hu (by intro y hy; simp at hy; subst hy; rfl) (C := vs ++ [.slice A n c]) (List.prefix_refl _) (by simp; omega) hB
  exact ⟨v', w', h1, h2, h3⟩
theorem vals_one (w : World) (A : Option Addr) (n c : Nat) : ValsAt (w.alloc (.cells #[.slice A n c] 33)) [] (.slice (some ⟨w.heap.size, 0, none⟩) 1 1) [.slice A n c] :=
  ⟨some ⟨w.heap.size, 0, none⟩, 1, rfl, by simp, by unfold maxLen; omega, fun _ => ⟨w.heap.size, 0, rfl, by simp, fun i y hy => by
    have h0 : i = 0 := by have := (List.getElem?_eq_some_iff.1 hy).1; simpa using this
    subst h0
    simp at hy
    subst hy
    exact (rowIs_one w 33 (.slice A n c)).cell (i := 0) (by omega)⟩⟩
/-- What the row reads as. -/
theorem OwnV.parts {w0 w : World} {B : Nat} {va : Value} {ps : List (Value × List UInt8)} (h : OwnV w B 33 va (ps.map (·.1))) (hN : NewT w0 w) (hp : ∀ x ∈ ps, RdV w0 [] x.1 x.2) : PartsAt w [] va ps :=
  ValsAt.parts (h.at' (by simp)) fun x hx => hN.rd (hp x hx)
end Go.Proofs.YtbejolbknimmmaaDoor
/- LogSize, walked. -/
namespace Go.Proofs.YtbejolbknimmmaaDoor
open Go Go.RowKit
set_option maxRecDepth 8000
set_option linter.all false
theorem made_row1 (n : Nat) : madeCells (Value.int .u8 0).cells n = rowA n (fun _ => .int .u8 0) := by
  apply Array.ext_getElem?
  intro i
  by_cases h : i < n
  · rw [rowA_at _ _ _ h]
    simp only [madeCells, Array.getElem?_map, Array.getElem?_range, h, if_true, Option.map_some]
    rw [show i % (Value.int .u8 0).cells.size = 0 from Nat.mod_one i]
    rfl
  · rw [Array.getElem?_eq_none (by rw [size_madeCells]; omega), Array.getElem?_eq_none (by rw [rowA_size]; omega)]
theorem run_makeB (m : Nat) (hm : m ≤ 1000000) (W : World) : (Instr.makeSlice 33 (.int .i64 (m : Int)) (.int .i64 (m : Int))).run Tryd.prog W = .ok (.slice (some ⟨W.heap.size, 0, none⟩) m m) (W.alloc (.cells (rowA m fun _ => .int .u8 0) 5)) := by
  obtain ⟨i0, hi, hz0, hz1, hz2⟩ := info_parts info5
  have := run_make (P := Tryd.prog) W 33 5 i0 _ Tryd.underlying33 hi hz0 .i64 .i64 (m : Int) (m : Int) (by omega) (by omega) (by rw [hz2]; omega) (by omega)
  rw [this, hz1, Int.toNat_natCast, Nat.mul_one, made_row1]
theorem rd_made (m : Nat) (hm : m ≤ 1000000) (W : World) : RdV (W.alloc (.cells (rowA m fun _ => .int .u8 0) 5)) [] (.slice (some ⟨W.heap.size, 0, none⟩) m m) (List.replicate m 0) := by
  refine ⟨some ⟨W.heap.size, 0, none⟩, m, by simp, by simp, by unfold maxLen; omega, fun _ => ⟨W.heap.size, 0, rfl, by simp, fun i hi => ?_⟩⟩
  rw [List.length_replicate] at hi
  rw [Nat.zero_add, (rowIs_box W 5 m (fun _ => .int .u8 0)).cell hi]
  simp [bAt, hi]
  rfl
theorem encL_bound (nx : (Nat → UInt8) → List UInt8 → Nat → UInt8) (m : Nat) (hm : m ≤ 2000) : ∀ (c : Nat → UInt8) (es : List (List UInt8)), (∀ e ∈ es, e.length ≤ m) → (encL nx mkL c es).length ≤ (m + 10) * es.length
  | _, [], _ => by simp [encL]
  | c, e :: es, h => by
    have h1 := encL_bound nx m hm (nx c e) es fun x hx => h x (by simp [hx])
    have h2 := h e (by simp)
    have h3 := sz_small (n := e.length) (by omega)
    have h4 := entL_length nx c e
    rw [encL, List.length_append, List.length_cons, Nat.mul_add, Nat.mul_one]
    omega
set_option maxRecDepth 20000 in
set_option maxHeartbeats 4000000 in
theorem LogSize_walk (v0 : Value) (ls : List (List UInt8)) (w : World) (hT : Tables w) (h1 : Parts w v0 ls) : Calls Tryd.prog 6 #[v0] w fun e w' => e = .returned (.bool true) ∧ Below w.heap.size w w' := by
  obtain ⟨nx, hX⟩ := logH_ex
  obtain ⟨ps, h1, hps⟩ := h1
  have HT := Lib.hid hT
  have H1L : Hid (1 < w.heap.size) := Lib.hid hT.size
  have R1 := Lib.hid h1
  obtain ⟨A1, c1, rfl, _⟩ := h1
  clear hT
  by_cases g1 : 15 < (ps.length : Int)
  · go_enter Tryd.func6, Tryd.ntmps6
    go_wp2_with (go_at_call 9; refine (alive9_c w HT.out).eq.mono ?_; rintro _ w1 ⟨rfl, hN1⟩)
    go_ret
    exact ⟨rfl, hN1⟩
  have hmax : ps.length ≤ 15 := by omega
  have HMAX := Lib.hid hmax
  go_enter Tryd.func6, Tryd.ntmps6
  go_wp2_with (first
    | (go_at_call 9; refine (alive9_c w HT.out).eq.mono ?_; rintro _ w1 ⟨rfl, hN1⟩; have N1 : Hid (NewT w w1) := Lib.hid hN1; clear hN1)
    | (go_at_call 12; refine (New_c 9000 (by omega) (by omega) w1).mono ?_; rintro _ w2 ⟨rfl, hN, hD⟩; have H2 := Lib.hid hD; have N2 := Lib.hid (NewT.trans _ _ _ N1.out hN); have Q1 := Lib.hid N1.out.out.size; clear hN hD)
    | (go_at_call 11
       refine (Open_c hX w1.heap.size _ 9000 [] 0 w2 (HT.out.below N2.out.out) H2.out [] (again nx mkL hash0 [] (by simp)) (Nat.lt_of_lt_of_le H1L.out Q1.out)).mono ?_
       rintro _ w3 ⟨g, v3, lv, ps3, rfl, hg, hD3, hL3, hps3, hP⟩
       obtain ⟨A3, c3, rfl, _⟩ := parts_es (hP [] (by simp)) hps3
       have H3 := Lib.hid hL3
       have N3 := Lib.hid (hD3.newT N2.out Q1.out)
       clear hD3 hL3 hps3 hP hg))
  go_loopw [7, 8] (fun n i wr => ∃ (k : Nat) (es : List (List UInt8)) (v : Value) (m : Nat), k ≤ ps.length ∧ n = .int .i64 (m : Int) ∧ i = .int .i64 (k : Int) ∧ Hid (LogAt nx wr g w1.heap.size v 9000 es m) ∧ Hid (m = (encL nx mkL hash0 es).length ∧ es.length ≤ k ∧ (∀ e ∈ es, e.length ≤ 300)) ∧ Hid (NewT w wr)) (fun _ i _ => ps.length - (intOf i).toNat)
  case atStart => exact ⟨0, [], v3, 0, by omega, rfl, rfl, H3, Lib.hid ⟨rfl, by simp, by simp⟩, N3⟩
  case round =>
    obtain ⟨k, es, v, m, hk, rfl, rfl, HL, HE, HN⟩ := hrel
    clear H2 N2 H3 N3
    by_cases hlt : k < ps.length
    · have it : (k : Int) < (ps.length : Int) := by omega
      obtain ⟨b, o, rfl, hb, hc⟩ := parts_cell R1.out (by omega)
      obtain ⟨x, hx⟩ : ∃ x, ps[k]? = some x := ⟨_, List.getElem?_eq_getElem hlt⟩
      obtain ⟨u, l⟩ := x
      have hxr : RdV w [] u l := parts_rd R1.out (List.mem_of_getElem? hx)
      have hc : w.cell? ⟨b, o + k, none⟩ = some u := hc k _ hx
      obtain ⟨A4, c4, rfl⟩ := rdV_form hxr
      have HX := Lib.hid hxr
      have HC := Lib.hid hc
      have HB := Lib.hid hb
      have hcell := cell_new HN.out hb hc
      clear hxr hc hx hb
      by_cases h3 : 300 < (l.length : Int)
      · go_wp2
        go_ret
        exact ⟨rfl, HN.out⟩
      by_cases h0 : l = []
      · subst h0
        clear h3
        go_wp2_with (first
          | (go_at_call 17; refine (Append_arg g _ wr (HN.out.rd HX.out)).eq.mono ?_; rintro _ w4 ⟨rfl, hN⟩; have H4 := Lib.hid (HL.out.new hN); have N4 := Lib.hid (NewT.trans _ _ _ HN.out hN); have hcell4 := cell_new N4.out HB.out HC.out; clear hN hcell)
          | (go_at_call 25; clear hcell4; refine Calls.mono (DBytes_c _ v 9000 _ m _ H4.out.disk) ?_; rintro _ w5 ⟨v5, rfl, hN, hv⟩; have H5 := Lib.hid (H4.out.new hN); have N5 := Lib.hid (NewT.trans _ _ _ N4.out hN); obtain ⟨A5, c5, rfl⟩ := rdV_form (FreshB.rd hv); rw [← HE.out.1]; clear hN hv)
          | (go_at_call 29; refine (Lasts_c _ v 9000 _ m _ H5.out.disk).eq.mono ?_; rintro _ w6 ⟨rfl, hN⟩; have H6 := Lib.hid (H5.out.new hN); have N6 := Lib.hid (NewT.trans _ _ _ N5.out hN); clear hN))
        go_roundw
        case rel => exact ⟨k + 1, es, v, m, by omega, rfl, by go_num, H6, Lib.hid ⟨HE.out.1, by have := HE.out.2.1; omega, HE.out.2.2⟩, N6⟩
        case measure => simp [intOf]; omega
      · have hl0 : 0 < l.length := List.length_pos_iff.2 h0
        have hok : okE l := ⟨hl0, by omega⟩
        have h300 : l.length ≤ 300 := by omega
        obtain ⟨q, hq⟩ := hid_ex (encL nx mkL hash0 (es ++ [l])).length
        have hall : ∀ e ∈ es ++ [l], e.length ≤ 300 := fun e he => by
          rcases List.mem_append.1 he with he | he
          · exact HE.out.2.2 e he
          · simp at he; subst he; exact h300
        have hqb : q ≤ 4960 := by
          have hbd := encL_bound nx 300 (by omega) hash0 (es ++ [l]) hall
          rw [hq.out, List.length_append] at hbd
          have := HE.out.2.1
          have := Nat.mul_le_mul_left 310 (show es.length + 1 ≤ 16 by omega)
          simp at hbd
          omega
        obtain ⟨z, hz⟩ := hid_ex (entL nx mkL (chL nx hash0 es) l).length
        have hmz : m + z = q := by rw [← hq.out, encL_snoc, List.length_append, HE.out.1, hz.out]
        have HZ : Hid (esz (l.length : Int) = (z : Int)) := Lib.hid (by rw [esz_ok hok nx (chL nx hash0 es), hz.out])
        have HW : Hid (wrap64 ((m : Int) + (z : Int)) = (q : Int)) := Lib.hid (by unfold wrap64; omega)
        have HOK := Lib.hid hok
        have HALL := Lib.hid hall
        have HQB := Lib.hid hqb
        have il : (0 : Int) < (l.length : Int) := by omega
        have hd0 : decide (0 < l.length) = true := decide_eq_true hl0
        clear h0 hok h300 hall hqb hmz
        go_wp2_with (first
          | (go_at_call 17; refine (Append_ok hX g _ v 9000 es m _ l wr (HT.out.below HN.out.out) HL.out (HN.out.rd HX.out) HOK.out (by rw [hq.out]; have := HQB.out; omega)).mono ?_; rintro _ w4 ⟨rfl, v4, hS, hA⟩; rw [hq.out] at hA; have H4 := Lib.hid hA; have N4 := Lib.hid (hS.newT HN.out Q1.out); have hcell4 := cell_new N4.out HB.out HC.out; clear hS hA hcell)
          | (go_at_call 28; refine (LSize_cv _ (l.length : Int) w4).eq.mono ?_; rintro _ w7 ⟨rfl, hN⟩; rw [HZ.out]; have hws := HW.out; have H7 := Lib.hid (H4.out.new hN); have N7 := Lib.hid (NewT.trans _ _ _ N4.out hN); clear hN)
          | (go_at_call 25; rw [hws]; clear hcell4 hws; refine Calls.mono (DBytes_c _ v4 9000 _ q _ H7.out.disk) ?_; rintro _ w5 ⟨v5, rfl, hN, hv⟩; have H5 := Lib.hid (H7.out.new hN); have N5 := Lib.hid (NewT.trans _ _ _ N7.out hN); obtain ⟨A5, c5, rfl⟩ := rdV_form (FreshB.rd hv); rw [hq.out]; clear hN hv)
          | (go_at_call 29; refine (Lasts_c _ v4 9000 _ q _ H5.out.disk).eq.mono ?_; rintro _ w6 ⟨rfl, hN⟩; have H6 := Lib.hid (H5.out.new hN); have N6 := Lib.hid (NewT.trans _ _ _ N5.out hN); clear hN))
        go_roundw
        case rel => exact ⟨k + 1, es ++ [l], v4, q, by omega, rfl, by go_num, H6, Lib.hid ⟨hq.out.symm, by rw [List.length_append]; have := HE.out.2.1; simp; omega, HALL.out⟩, N6⟩
        case measure => simp [intOf]; omega
    · obtain rfl : k = ps.length := by omega
      have hmk : ∀ W : World, (Instr.makeSlice 33 (.int .i64 2001) (.int .i64 2001)).run Tryd.prog W = .ok (.slice (some ⟨W.heap.size, 0, none⟩) 2001 2001) (W.alloc (.cells (rowA 2001 fun _ => .int .u8 0) 5)) := run_makeB 2001 (by omega)
      have t0 : Hid True := Lib.hid trivial
      go_wp2_with (first
        | (go_at_call 14; clear t0; refine (Put_long g _ (List.replicate 2001 0) _ (rd_made 2001 (by omega) wr) (by rw [List.length_replicate]; omega)).eq.mono ?_; rintro _ w4 ⟨rfl, hN⟩; have N0 := Lib.hid (NewT.trans _ _ _ (NewT.alloc wr _) hN); have H4 := Lib.hid (HL.out.new N0.out); have N4 := Lib.hid (NewT.trans _ _ _ HN.out N0.out); have t1 : Hid True := Lib.hid trivial; clear hN)
        | (go_at_call 14; clear t1; refine (Put_arg g _ w4 (rdV_nil _ _)).eq.mono ?_; rintro _ w5 ⟨rfl, hN⟩; have H5 := Lib.hid (H4.out.new hN); have N5 := Lib.hid (NewT.trans _ _ _ N4.out hN); clear hN)
        | (go_at_call 25; refine Calls.mono (DBytes_c _ v 9000 _ m _ H5.out.disk) ?_; rintro _ w6 ⟨v6, rfl, hN, hv⟩; have N6 := Lib.hid (NewT.trans _ _ _ N5.out hN); obtain ⟨A6, c6, rfl⟩ := rdV_form (FreshB.rd hv); rw [← HE.out.1]; clear hN hv))
      go_ret
      exact ⟨rfl, N6.out⟩
end Go.Proofs.YtbejolbknimmmaaDoor
/- LogAgain, walked. -/
namespace Go.Proofs.YtbejolbknimmmaaDoor
open Go Go.RowKit
set_option maxRecDepth 8000
set_option linter.all false
variable {nx : (Nat → UInt8) → List UInt8 → Nat → UInt8}
/-- Every bytes have a log. -/
theorem isLog_ex (nx : (Nat → UInt8) → List UInt8 → Nat → UInt8) : ∀ (n : Nat) (c : Nat → UInt8) (S : List UInt8), S.length ≤ n → ∃ es, IsLog nx mkL c S es
  | 0, c, S, h => ⟨[], IsLog.none nx mkL fun e he hp => by
    have := hp.length_le
    have := entL_pos nx mkL c e
    omega⟩
  | n + 1, c, S, h => by
    by_cases hex : ∃ e, okE e ∧ entL nx mkL c e <+: S
    · obtain ⟨e, he, r, rfl⟩ := hex
      have := entL_pos nx mkL c e
      obtain ⟨es, hes⟩ := isLog_ex nx n (nx c e) r (by rw [List.length_append] at h; omega)
      exact ⟨e :: es, IsLog.next nx mkL he hes⟩
    · exact ⟨[], IsLog.none nx mkL fun e he hp => hex ⟨e, he, hp⟩⟩
theorem run_eqHs (d : Nat → UInt8) (w : World) : (Op.equalIn 10000 48 (.agg (rowA 32 (bF d))) (.agg (rowA 32 (bF d)))).run Tryd.prog w = .ok true w := by
  rw [equalIn_hash, eqH_same]
theorem encL_take (nx : (Nat → UInt8) → List UInt8 → Nat → UInt8) (c : Nat → UInt8) (es : List (List UInt8)) (k : Nat) : (encL nx mkL c (es.take k)).length ≤ (encL nx mkL c es).length := by
  conv => rhs; rw [← List.take_append_drop k es, encL_app]
  rw [List.length_append]; omega
/-- A log's step, seen from a world in which its disk lay and the log didn't. -/
theorem KeepBut.lstep {W w w' : World} {g dk : Nat} {v v' : Value} (h : KeepBut [dk] W w) (hS : LStep g dk v w w' v') (hg : W.heap.size ≤ g) (hv : ∀ k, v.ownBlock = some k → W.heap.size ≤ k) : KeepBut [dk] W w' :=
  ⟨Nat.le_trans h.1 hS.keep.1, fun k o hk ho hc => hS.keep.2 k o (fun hm => by
    have hlt := lt_of_some ho
    rcases List.mem_cons.1 hm with rfl | hm
    · omega
    · rcases List.mem_cons.1 hm with rfl | hm
      · exact hk (by simp)
      · have := hv k (by simpa using hm); omega) (h.2 k o hk ho hc) hc⟩
theorem LStep.late {W w w' : World} {g dk : Nat} {v v' : Value} (hS : LStep g dk v w w' v') (hW : W.heap.size ≤ w.heap.size) (hv : ∀ k, v.ownBlock = some k → W.heap.size ≤ k) : ∀ k, v'.ownBlock = some k → W.heap.size ≤ k := fun k hk => by
  rcases hS.own with h | ⟨j, h1, h2⟩
  · exact hv k (h ▸ hk)
  · rw [h1] at hk; injection hk with hk; omega
set_option maxRecDepth 20000 in
set_option maxHeartbeats 4000000 in
theorem LogAgain_walk (v0 : Value) (b : List UInt8) (w : World) (hT : Tables w) (h0 : RdV w [] v0 b) : Calls Tryd.prog 5 #[v0] w fun e w' => e = .returned (.bool true) ∧ Below w.heap.size w w' := by
  obtain ⟨nx, hX⟩ := logH_ex
  have HT := Lib.hid hT
  have H1L : Hid (1 < w.heap.size) := Lib.hid hT.size
  have R0 := Lib.hid h0
  obtain ⟨A1, c1, rfl⟩ := rdV_form h0
  clear hT h0
  by_cases g1 : 2000 < (b.length : Int)
  · go_enter Tryd.func5, Tryd.ntmps5
    go_wp2_with (go_at_call 9; refine (alive9_c w HT.out).eq.mono ?_; rintro _ w1 ⟨rfl, hN1⟩)
    go_ret
    exact ⟨rfl, hN1⟩
  have HB : Hid (b.length ≤ 2000) := Lib.hid (by omega)
  obtain ⟨es, hes⟩ := isLog_ex nx b.length hash0 b (Nat.le_refl _)
  obtain ⟨M, hM⟩ := hid_ex (encL nx mkL hash0 es).length
  obtain ⟨D, hD⟩ := hid_ex (chL nx hash0 es)
  have HES := Lib.hid hes
  have HMB : Hid (M ≤ 2000) := Lib.hid (by have := hes.at'.length_le; have := hM.out; have := HB.out; omega)
  have HEL : Hid (es.length ≤ 2000) := Lib.hid (by have := encL_count nx hash0 es; have := HMB.out; have := hM.out; omega)
  have HFE : Hid (Fine9 es) := Lib.hid ⟨by have := HEL.out; omega, fun t ht => by have := (hes.ok t ht).2; omega⟩
  clear hes
  have t0 : Hid True := Lib.hid trivial
  go_enter Tryd.func5, Tryd.ntmps5
  go_wp2_with (first
    | (go_at_call 9; refine (alive9_c w HT.out).eq.mono ?_; rintro _ w1 ⟨rfl, hN1⟩; have N1 : Hid (NewT w w1) := Lib.hid hN1; have Q1 := Lib.hid hN1.size; clear hN1)
    | (go_at_call 12; clear t0; refine (New_c 3000 (by omega) (by omega) w1).mono ?_; rintro _ w2 ⟨rfl, hN, hD2⟩; have H2 := Lib.hid hD2; have N2 := Lib.hid (NewT.trans _ _ _ N1.out hN); have Q2 := Lib.hid N2.out.out.size; have t1 : Hid True := Lib.hid trivial; clear hN hD2)
    | (go_at_call 12
       clear t1
       refine (New_c 3000 (by omega) (by omega) w2).mono ?_
       rintro _ w3 ⟨rfl, hN, hD3⟩
       have H3 := Lib.hid (H2.out.new hN)
       have C3 := Lib.hid hD3
       have N3 := Lib.hid (NewT.trans _ _ _ N2.out hN)
       have P3 : Hid (w2.heap.size ∉ w1.heap.size :: (Value.slice none 0 0).ownBlock.toList) := Lib.hid (by have := H2.out.lt; simp [Value.ownBlock]; omega)
       clear hN hD3)
    | (go_at_call 27
       refine (Write_ok w1.heap.size _ 3000 [] 0 _ b w3 H3.out (N3.out.rd R0.out) (by have := HB.out; simp; omega)).mono ?_
       rintro _ w4 ⟨rfl, v4, hD4, hA4⟩
       have H4 := Lib.hid hA4
       have C4 := Lib.hid (C3.out.keep hD4.keep P3.out (by simp [Value.ownBlock]))
       have P4 := Lib.hid (hD4.apart C3.out.lt P3.out)
       have N4 := Lib.hid (hD4.newT N3.out Q1.out)
       have t4 : Hid True := Lib.hid trivial
       clear hD4 hA4)
    | (go_at_call 11
       clear t4
       refine (Open_c hX w1.heap.size v4 3000 _ 0 w4 (HT.out.below N4.out.out) H4.out es HES.out (Nat.lt_of_lt_of_le H1L.out Q1.out)).mono ?_
       rintro _ w5 ⟨g5, v5, lv5, ps5, rfl, hg5, hD5, hL5, hps5, hP5⟩
       have hP50 := hP5 (w2.heap.size :: w1.heap.size :: v5.ownBlock.toList) (fun k hk => by
         rcases List.mem_cons.1 hk with rfl | hk
         · exact .inl C4.out.lt
         · rcases List.mem_cons.1 hk with rfl | hk
           · exact .inl H4.out.lt
           · exact .inr (.inr (by simpa using hk)))
       have G5 : Hid (w2.heap.size < g5) := Lib.hid (Nat.lt_of_lt_of_le C4.out.lt hg5)
       obtain ⟨A5, c5, rfl, _⟩ := parts_es hP50 hps5
       have HP5 := Lib.hid hP50
       have HPS5 := Lib.hid hps5
       have H5 := Lib.hid hL5
       have C5 := Lib.hid (C4.out.keep hD5.keep P4.out (by simp [Value.ownBlock]))
       have P5 := Lib.hid (hD5.apart C4.out.lt P4.out)
       have N5 := Lib.hid (hD5.newT N4.out Q1.out)
       have t5 : Hid True := Lib.hid trivial
       clear hD5 hL5 hps5 hP5 hP50 hg5)
    | (go_at_call 11
       clear t5
       refine (Open_c hX w1.heap.size v5 3000 _ _ w5 (HT.out.below N5.out.out) H5.out.disk es (again nx mkL hash0 es HES.out.ok) (Nat.lt_of_lt_of_le H1L.out Q1.out)).mono ?_
       rintro _ w6 ⟨g6, v6, lv6, ps6, rfl, hg6, hD6, hL6, hps6, hP6⟩
       have hP60 := hP6 [w2.heap.size] (by intro k hk; simp at hk; subst hk; exact .inl C5.out.lt)
       have G6 : Hid (w2.heap.size < g6) := Lib.hid (Nat.lt_of_lt_of_le C5.out.lt hg6)
       obtain ⟨A6, c6, rfl, _⟩ := parts_es hP60 hps6
       have HP6 := Lib.hid hP60
       have HPS6 := Lib.hid hps6
       have H6 := Lib.hid hL6
       have HP56 : Hid (PartsAt w6 [w2.heap.size] _ ps5) := Lib.hid ((HP5.out.keep (hD6.keep.more (by simp +contextual))).more (by intro k _ hk; simp at hk ⊢; exact hk.1))
       have H56 : Hid (LogAt nx w6 g5 w1.heap.size v6 3000 es (encL nx mkL hash0 es).length) := Lib.hid ⟨hD6.row H5.out.apart H5.out.row, hL6.disk, hL6.ok, hD6.apart H5.out.lt.2 H5.out.apart, H5.out.late⟩
       have C6 := Lib.hid (C5.out.keep hD6.keep P5.out (by simp [Value.ownBlock]))
       have P6 := Lib.hid (hD6.apart C5.out.lt P5.out)
       have N6 := Lib.hid (hD6.newT N5.out Q1.out)
       have t6 : Hid True := Lib.hid trivial
       clear hD6 hL6 hps6 hP6 hP60 hg6)
    | (go_at_call 11
       clear t6
       refine (Open_c hX w2.heap.size _ 3000 [] 0 w6 (HT.out.below N6.out.out) C6.out [] (again nx mkL hash0 [] (by simp)) (by have h1 := H1L.out; have h2 := N2.out.out.size; omega)).mono ?_
       rintro _ w7 ⟨g7, v7, lv7, ps7, rfl, hg7, hD7, hL7, hps7, hP7⟩
       obtain ⟨A7, c7, rfl, _⟩ := parts_es (hP7 [] (by simp)) hps7
       have H7 := Lib.hid hL7
       have K7 : Hid (KeepBut [w2.heap.size] w6 w7) := Lib.hid hD7.keep
       have B7 : Hid (w6.heap.size ≤ g7 ∧ ∀ k, v7.ownBlock = some k → w6.heap.size ≤ k) := Lib.hid ⟨hg7, fun k hk => by
         rcases hD7.own with h | ⟨j, h1, h2⟩
         · rw [h] at hk; cases hk
         · rw [h1] at hk; injection hk with hk; omega⟩
       have N7 := Lib.hid (hD7.newT N6.out N2.out.out.size)
       clear hD7 hL7 hps7 hP7 hg7))
  go_loopw [14] (fun i wr => ∃ (k : Nat) (v : Value) (m : Nat), k ≤ es.length ∧ i = .int .i64 (k : Int) ∧ Hid (LogAt nx wr g7 w2.heap.size v 3000 (es.take k) m) ∧ Hid (∀ q, v.ownBlock = some q → w6.heap.size ≤ q) ∧ Hid (KeepBut [w2.heap.size] w6 wr) ∧ Hid (NewT w wr)) (fun i _ => es.length - (intOf i).toNat)
  case atStart => exact ⟨0, v7, _, by omega, rfl, H7, Lib.hid B7.out.2, K7, N7⟩
  case round =>
    obtain ⟨k, v, m, hk, rfl, HL, HV, HK, HN⟩ := hrel
    clear H7 N7 K7 H2 N2 H3 N3 C3 P3 H4 N4 C4 P4 H5 N5 C5 P5 HP5
    have hpl : ps5.length = es.length := by rw [← HPS5.out, List.length_map]
    have hel2 := HEL.out
    have HPR := Lib.hid (HP56.out.keep HK.out)
    have HP0 : Hid (PartsAt wr [] _ ps5) := Lib.hid (HPR.out.more (by simp))
    by_cases hlt : k < es.length
    · have it : (k : Int) < (es.length : Int) := by omega
      obtain ⟨bb, o, rfl, hb, hc⟩ := parts_cell HP0.out (by omega)
      obtain ⟨x, hx⟩ : ∃ x, ps5[k]? = some x := ⟨_, List.getElem?_eq_getElem (by omega)⟩
      have hxr := parts_rd HP0.out (List.mem_of_getElem? hx)
      have hel : es[k]? = some x.2 := by rw [← HPS5.out, List.getElem?_map, hx]; rfl
      have htk : es.take (k + 1) = es.take k ++ [x.2] := by rw [List.take_add_one, hel]; rfl
      have hcell := hc k _ hx
      have hok : okE x.2 := HES.out.ok _ (List.mem_of_getElem? hel)
      obtain ⟨u, l⟩ := x
      simp only at hxr hcell htk hel hok
      obtain ⟨A8, c8, rfl⟩ := rdV_form hxr
      have HX := Lib.hid hxr
      have HTK := Lib.hid htk
      have HOK := Lib.hid hok
      have HFIT : Hid ((encL nx mkL hash0 (es.take k ++ [l])).length ≤ 3000) := Lib.hid (by
        have h1 := encL_take nx hash0 es (k + 1)
        rw [htk, hM.out] at h1
        have := HMB.out
        try simp only at h1
        omega)
      clear hxr hel htk hok hc hx hb
      go_wp2_with (go_at_call 17
                   refine (Append_ok hX g7 w2.heap.size v 3000 _ m _ l wr (HT.out.below HN.out.out) HL.out HX.out HOK.out HFIT.out).mono ?_
                   rintro _ w8 ⟨rfl, v8, hS, hA⟩
                   have H8 := Lib.hid hA
                   have V8 := Lib.hid (hS.late HK.out.1 HV.out)
                   have K8 := Lib.hid (HK.out.lstep hS B7.out.1 HV.out)
                   have N8 := Lib.hid (hS.newT HN.out Q2.out)
                   clear hS hA hcell)
      go_roundw
      case rel => exact ⟨k + 1, v8, _, by omega, by go_num, by rw [HTK.out]; exact H8, V8, K8, N8⟩
      case measure => simp [intOf]; omega
    · obtain rfl : k = es.length := by omega
      rw [List.take_length] at HL
      have hck : ∀ g, w2.heap.size < g → ∀ q ∈ g :: w1.heap.size :: v6.ownBlock.toList, q ∉ [w2.heap.size] := fun g hg q hq hm => by
        simp at hm
        subst hm
        rcases List.mem_cons.1 hq with h | hq
        · omega
        · exact P6.out hq
      have X0 := Lib.hid (H56.out.keep HK.out (hck g5 G5.out))
      have Y0 := Lib.hid (H6.out.keep HK.out (hck g6 G6.out))
      have HP6R : Hid (PartsAt wr [] _ ps6) := Lib.hid ((HP6.out.keep HK.out).more (by simp))
      have heq := run_eqHs D
      have s0 : Hid True := Lib.hid trivial
      clear hck
      go_wp2_with (first
        | (go_at_call 20
           refine (RSame9_cv _ _ es es wr ⟨ps5, HP0.out, HPS5.out⟩ ⟨ps6, HP6R.out, HPS6.out⟩ HFE.out HFE.out).eq.mono ?_
           rintro _ wa ⟨rfl, hN⟩
           rw [decide_eq_true rfl]
           have Na := Lib.hid hN
           have s1 : Hid True := Lib.hid trivial
           clear hN)
        | (go_at_call 22
           clear s1
           refine (Chain_c g5 _ _ _ _ _ wa (X0.out.new Na.out)).eq.mono ?_
           rintro _ wb ⟨rfl, hN⟩
           rw [hD.out]
           have Nb := Lib.hid (NewT.trans _ _ _ Na.out hN)
           have s2 : Hid True := Lib.hid trivial
           clear hN)
        | (go_at_call 22
           clear s2
           refine (Chain_c g6 _ _ _ _ _ wb (Y0.out.new Nb.out)).eq.mono ?_
           rintro _ wc ⟨rfl, hN⟩
           rw [hD.out]
           have Nc := Lib.hid (NewT.trans _ _ _ Nb.out hN)
           clear hN)
        | (go_at_call 21
           refine (Count_c g5 _ _ _ _ _ wc (X0.out.new Nc.out)).eq.mono ?_
           rintro _ wd ⟨rfl, hN⟩
           have Nd := Lib.hid (NewT.trans _ _ _ Nc.out hN)
           have s3 : Hid True := Lib.hid trivial
           clear hN)
        | (go_at_call 22
           clear s3
           refine (Chain_c g7 _ _ _ _ _ wd (HL.out.new Nd.out)).eq.mono ?_
           rintro _ we ⟨rfl, hN⟩
           rw [hD.out]
           have Ne := Lib.hid (NewT.trans _ _ _ Nd.out hN)
           have s4 : Hid True := Lib.hid trivial
           clear hN)
        | (go_at_call 22
           clear s4
           refine (Chain_c g5 _ _ _ _ _ we (X0.out.new Ne.out)).eq.mono ?_
           rintro _ wf ⟨rfl, hN⟩
           rw [hD.out]
           have Nf := Lib.hid (NewT.trans _ _ _ Ne.out hN)
           clear hN)
        | (go_at_call 25
           clear s0
           refine Calls.mono (DBytes_c w2.heap.size _ _ _ _ wf (HL.out.disk.new Nf.out)) ?_
           rintro _ wg ⟨vg, rfl, hN, hv⟩
           have Bg := Lib.hid (FreshB.rd hv)
           have Ng := Lib.hid (NewT.trans _ _ _ Nf.out hN)
           clear hN hv)
        | (go_at_call 25
           refine Calls.mono (DBytes_c w1.heap.size _ _ _ _ wg (X0.out.disk.new Ng.out)) ?_
           rintro _ wh ⟨vh, rfl, hN, hv⟩
           have Bh := Lib.hid (FreshB.rd hv)
           have Bg2 := Lib.hid (hN.rd Bg.out)
           have Nh := Lib.hid (NewT.trans _ _ _ Ng.out hN)
           clear hN hv)
        | (go_at_call 24
           refine (Bytes_cv vg vh _ _ wh Bg2.out Bh.out (by have := hM.out; have := HMB.out; omega) (by have := hM.out; have := HMB.out; omega)).eq.mono ?_
           rintro _ wi ⟨rfl, hN⟩
           rw [decide_eq_true rfl]
           have Ni := Lib.hid (NewT.trans _ _ _ HN.out (NewT.trans _ _ _ Nh.out hN))
           clear hN))
      go_ret
      exact ⟨rfl, Ni.out⟩
end Go.Proofs.YtbejolbknimmmaaDoor
/- Package sha, more: blocks of a text, one by one. -/
namespace Go.Proofs.YtbejolbknimmmaaDoor
open Go.RowKit
set_option maxRecDepth 8000
set_option linter.all false
attribute [local go_sem] uF_at
set_option maxHeartbeats 1000000 in
/-- A block that hasn't 64 bytes turns nothing. -/
theorem Turn_no (s : Nat → BitVec 32) (A : Option Addr) (n cap : Nat) (hn : n ≠ 64) (w : World) :
    Calls Tryd.prog 69 #[.agg (rowA 8 (uF s)), .slice A n cap] w fun e w' => e = .returned (.agg (rowA 8 (uF s))) ∧ Below w.heap.size w w' := by
  have hn2 : ((n : Int) == 64) = false := by simp; omega
  have r0 := (rowIs_box w 92 8 (uF s)).alloc (.cells (rowA 8 fun _ => .int .u32 0) 92)
  have r1 := rowIs_box (w.alloc (.cells (rowA 8 (uF s)) 92)) 92 8 fun _ => .int .u32 0
  have hB : Below w.heap.size w ((w.alloc (.cells (rowA 8 (uF s)) 92)).alloc (.cells (rowA 8 fun _ => .int .u32 0) 92)) :=
    ((Below.refl _ w).alloc (Nat.le_refl _) _).alloc (by simp) _
  rw [World.size_alloc] at r1
  have hR := rangeAt_row r0
  go_enter Tryd.func69, Tryd.ntmps69
  go_wp2_with (first
    | (refine wpList_load_mid rfl 92 (.tmp 2) rfl w.heap.size 0 rfl (rowA 8 (uF s)).toList _ hR Tryd.underlying92 rfl (by rw [rowA_toList]; simpa using info23) ?_)
    | (refine wpList_store_mid rfl 92 (.tmp 4) (.tmp 10) rfl (w.heap.size + 1) 0 (rowA 8 (uF s)) rfl rfl (by rw [rowA_size]; exact there_row r1) (by rw [rowA_size]; exact info23) (rowA_one _ _ fun _ => rfl) ?_))
  exact bodyPost_ret (results_row rfl _ rfl (rowIs_setAll r1 (uF s)) Tryd.underlying92 info23) rfl ⟨rfl, below_setCells _ (by omega) _ _ _ hB⟩
theorem word_back (x : BitVec 32) : (((((x >>> 24).setWidth 8).setWidth 32 <<< 24) ||| (((x >>> 16).setWidth 8).setWidth 32 <<< 16)) ||| (((x >>> 8).setWidth 8).setWidth 32 <<< 8)) ||| ((x >>> 0).setWidth 8).setWidth 32 = x := by
  apply BitVec.eq_of_getLsbD_eq
  intro i hi
  simp only [BitVec.getLsbD_or, BitVec.getLsbD_shiftLeft, BitVec.getLsbD_setWidth, BitVec.getLsbD_ushiftRight]
  by_cases h1 : i < 8
  · simp [h1, show i < 16 by omega, show i < 24 by omega, hi]
  · by_cases h2 : i < 16
    · simp [h1, h2, show i < 24 by omega, hi, show i - 8 < 8 by omega, show i - 8 < 32 by omega, show 8 + (i - 8) = i by omega]
    · by_cases h3 : i < 24
      · simp [h1, h2, h3, hi, show i - 16 < 8 by omega, show ¬ i - 8 < 8 by omega, show i - 16 < 32 by omega, show 16 + (i - 16) = i by omega]
      · simp [h1, h2, h3, hi, show i - 24 < 8 by omega, show ¬ i - 8 < 8 by omega, show ¬ i - 16 < 8 by omega, show i - 24 < 32 by omega, show 24 + (i - 24) = i by omega]
theorem dig_word (S : Nat → BitVec 32) (i : Nat) :
    ((((dig S (4 * i)).toBitVec.setWidth 32 <<< 24) ||| ((dig S (4 * i + 1)).toBitVec.setWidth 32 <<< 16)) ||| ((dig S (4 * i + 2)).toBitVec.setWidth 32 <<< 8)) ||| (dig S (4 * i + 3)).toBitVec.setWidth 32 = S i := by
  unfold dig
  rw [show 4 * i / 4 = i by omega, show (4 * i + 1) / 4 = i by omega, show (4 * i + 2) / 4 = i by omega, show (4 * i + 3) / 4 = i by omega,
    show 4 * i % 4 = 0 by omega, show (4 * i + 1) % 4 = 1 by omega, show (4 * i + 2) % 4 = 2 by omega, show (4 * i + 3) % 4 = 3 by omega]
  exact word_back (S i)
theorem slice_blk (b o n cap j : Nat) (h : j + 64 ≤ cap) (w : World) : (Instr.slice 33 (.slice (some ⟨b, o, none⟩) n cap) (some (.int .i64 (j : Int))) (some (.int .i64 ((j : Int) + 64))) none).run Tryd.prog w = .ok (.slice (some ⟨b, o + j, none⟩) 64 (cap - j)) w := by
  have hsz : (sizeOf 5).run Tryd.prog w = .ok 1 w := by
    obtain ⟨i0, hi, _, hz1, _⟩ := info_parts info5
    simp [sizeOf, typeInfo, hi, hz1]
  have h3 : (0 : Int) ≤ (j : Int) + 64 ∧ (j : Int) + 64 ≤ (cap : Int) := by omega
  have h4 : j ≤ ((j : Int) + 64).toNat := by omega
  have h6 : ((j : Int) + 64).toNat - j = 64 := by omega
  have h5 : cap ≠ j := by omega
  simp [Instr.slice, run_underlying Tryd.underlying33, Instr.sliceBounds, Instr.sliceBound, asIntOf, hsz, h3, h4, h5, h6, Addr.add_mid]
/-- A text's block. -/
def blk (c : List UInt8) (i : Nat) : List UInt8 := (c.drop (64 * i)).take 64
/-- The state behind the first blocks. -/
def sB (c : List UInt8) : Nat → Nat → BitVec 32
  | 0 => Fc
  | k + 1 => turnF Kc (sB c k) (blk c k)
theorem bAt_blk (c : List UInt8) (k i : Nat) (h : i < 64) : bAt (blk c k) i = bAt c (64 * k + i) := by
  simp [bAt, blk, h, List.getElem?_drop]
theorem sB_fold (c : List UInt8) (k : Nat) : ((List.range k).map (blk c)).foldl (turnF Kc) Fc = sB c k := by
  induction k with
  | zero => rfl
  | succ k ih => rw [List.range_succ, List.map_append, List.foldl_append, ih]; rfl
theorem sha_blocks (c : List UInt8) (m : Nat) (h : c.length = 64 * m) : shaL Kc Fc c = dig (turnF Kc (sB c m) (fillB c.length)) := by
  have hf : (fillB c.length).length = 64 := by rw [fillB_length, h]; simp
  obtain ⟨_, h2⟩ := rem_full c (fillB c.length) (by rw [hf]; omega)
  have hr : rem c = [] := by unfold rem; rw [show 64 * (c.length / 64) = c.length by omega]; simp
  rw [shaL, h2, hr, List.nil_append, List.foldl_append]
  have : cks c = (List.range m).map (blk c) := by unfold cks; rw [h, show 64 * m / 64 = m by omega]; rfl
  rw [this, sB_fold]; rfl
theorem info22s : (Tryd.prog.info? 91).map (·.size) = some 1 := by kernel_rfl
theorem equal_state (w : World) (d : Nat → BitVec 32) : (Op.equalIn 10000 92 (.agg (rowA 8 (uF d))) (.agg (rowA 8 (uF d)))).run Tryd.prog w = .ok true w :=
  equalIn_same w 9998 92 91 8 .u32 Tryd.underlying92 Tryd.underlying91 info22s (fun i => uN (d i))
theorem equal_state2 (w : World) (d : Nat → BitVec 32) : (Op.equalIn 10000 92 (.agg (rowA 8 (uF d))) (.agg #[.int .u32 (uN (d 0)), .int .u32 (uN (d 1)), .int .u32 (uN (d 2)), .int .u32 (uN (d 3)), .int .u32 (uN (d 4)), .int .u32 (uN (d 5)), .int .u32 (uN (d 6)), .int .u32 (uN (d 7))])).run Tryd.prog w = .ok true w := equal_state w d
theorem u32_mul16m (x : BitVec 32) : IntKind.u32.wrap (uN x * (16777216 : Int)) = uN (x <<< 24) := u32_shl x 24
theorem u32_mul65k (x : BitVec 32) : IntKind.u32.wrap (uN x * (65536 : Int)) = uN (x <<< 16) := u32_shl x 16
theorem Sum_new1 (v : Value) (l : List UInt8) (D : Nat → UInt8) (W : World) (hT : Tables W) (h : RdV W [] v l) (ht : l.length ≤ 4611686018427387904) (hD : shaL Kc Fc l = D) :
    Calls Tryd.prog 58 #[.slice (some ⟨W.heap.size, 0, none⟩) 1 1] (W.alloc (.cells #[v] 33)) fun e w' => e = .returned (.agg (rowA 32 (bF D))) ∧ Below W.heap.size W w' := by
  have hB := (Below.refl _ W).alloc (Nat.le_refl _) (.cells #[v] 33)
  refine (Sum_c _ [(v, l)] _ (hT.below hB) (parts_new [(v, l)] 33 (by simp) (by simp) (by simpa using h)) (by simpa [total] using ht)).mono ?_
  rintro e w' ⟨rfl, hb⟩
  rw [show flat [(v, l)] = l by simp [flat], hD]
  exact ⟨rfl, hB.trans (hb.mono hB.size)⟩
end Go.Proofs.YtbejolbknimmmaaDoor
/- The reference's Turn. -/
namespace Go.Proofs.YtbejolbknimmmaaDoor
open Go.RowKit
set_option maxRecDepth 8000
set_option linter.all false
/-- Numbers of 32 bits in cells of 64. -/
def vF (s : Nat → BitVec 32) : Nat → Value := fun i => .int .u64 (uN (s i))
theorem vF_at (s : Nat → BitVec 32) (i : Nat) : vF s i = .int .u64 (uN (s i)) := rfl
theorem wS_final (l : List UInt8) (n i : Nat) (h : i < 16 + n) (hn : n ≤ 48) : wS l 48 i = wS l n i := by
  obtain ⟨k, hk⟩ : ∃ k, 48 = n + k := ⟨48 - n, by omega⟩
  rw [hk]
  clear hk hn
  induction k with
  | zero => rfl
  | succ k ih => rw [← Nat.add_assoc, wS_old l (n + k) i (by omega), ih]
theorem wS_first (l : List UInt8) (i : Nat) (h : i < 16) : wS l 48 i = wordTo l i 4 := by
  rw [wS_final l 0 i (by omega) (by omega)]; simp [wS, schedL, h]
theorem wS_rec (l : List UInt8) (t : Nat) (h1 : 16 ≤ t) (h2 : t < 64) : wS l 48 t = ss1 (wS l 48 (t - 2)) + wS l 48 (t - 7) + ss0 (wS l 48 (t - 15)) + wS l 48 (t - 16) := by
  obtain ⟨n, rfl⟩ : ∃ n, t = 16 + n := ⟨t - 16, by omega⟩
  rw [wS_final l (n + 1) (16 + n) (by omega) (by omega), wS_new, show 16 + n - 2 = n + 14 by omega, show 16 + n - 7 = n + 9 by omega, show 16 + n - 15 = n + 1 by omega, show 16 + n - 16 = n by omega,
    wS_final l n (n + 14) (by omega) (by omega), wS_final l n (n + 9) (by omega) (by omega), wS_final l n (n + 1) (by omega) (by omega), wS_final l n n (by omega) (by omega)]
theorem word_step (x : BitVec 32) (b : UInt8) (hx : x.toNat < 16777216) : (x <<< 8 ||| b.toBitVec.setWidth 32).toNat = x.toNat * 256 + b.toNat := by
  have hb := b.toNat_lt
  have e1 : (x <<< 8).toNat = x.toNat <<< 8 := by rw [BitVec.toNat_shiftLeft, Nat.mod_eq_of_lt]; rw [Nat.shiftLeft_eq]; omega
  have e2 : (b.toBitVec.setWidth 32).toNat = b.toNat := by rw [BitVec.toNat_setWidth]; show b.toNat % _ = _; omega
  rw [BitVec.toNat_or, e1, e2, ← Nat.shiftLeft_add_eq_or_of_lt (by omega), Nat.shiftLeft_eq]
theorem word_num (l : List UInt8) (t : Nat) : uN (wordTo l t 4) = ((bN (bAt l (4 * t)) * 256 + bN (bAt l (4 * t + 1))) * 256 + bN (bAt l (4 * t + 2))) * 256 + bN (bAt l (4 * t + 3)) := by
  have h0 := (bAt l (4 * t)).toNat_lt
  have h1 := (bAt l (4 * t + 1)).toNat_lt
  have h2 := (bAt l (4 * t + 2)).toNat_lt
  have h3 := (bAt l (4 * t + 3)).toNat_lt
  have e1 : (wordTo l t 1).toNat = (bAt l (4 * t)).toNat := by simp [wordTo]
  have e2 : (wordTo l t 2).toNat = (wordTo l t 1).toNat * 256 + (bAt l (4 * t + 1)).toNat := word_step (wordTo l t 1) _ (by omega)
  have e3 : (wordTo l t 3).toNat = (wordTo l t 2).toNat * 256 + (bAt l (4 * t + 2)).toNat := word_step (wordTo l t 2) _ (by omega)
  have e4 : (wordTo l t 4).toNat = (wordTo l t 3).toNat * 256 + (bAt l (4 * t + 3)).toNat := word_step (wordTo l t 3) _ (by omega)
  unfold uN bN
  omega
/-- The first t numbers of a list, the others 0. -/
def cutT (s : Nat → BitVec 32) (t : Nat) : Nat → BitVec 32 := fun i => if i < t then s i else 0
theorem cutT_at (s : Nat → BitVec 32) (t i : Nat) (h : i < t) : cutT s t i = s i := if_pos h
theorem cutT_set (s : Nat → BitVec 32) (t : Nat) (z : Int) (hz : z = uN (s t)) (i : Nat) : (if i = t then Value.int .u64 z else vF (cutT s t) i) = vF (cutT s (t + 1)) i := by
  subst hz
  simp only [vF, cutT]
  by_cases h : i = t
  · subst h; simp
  · by_cases h2 : i < t
    · rw [if_neg h, if_pos h2, if_pos (by omega)]
    · rw [if_neg h, if_neg h2, if_neg (by omega)]
theorem rowIs_zeros64 (s : Nat → BitVec 32) (w : World) (t : TypeId) (n : Nat) : (w.alloc (.cells (Array.replicate n (.int .u64 0)) t)).rowIs w.heap.size t n (vF (cutT s 0)) := by
  have := World.rowIs_alloc w (Array.replicate n (.int .u64 0)) t (vF (cutT s 0)) (fun i hi => by simp at hi; simp [vF, cutT, hi, uN])
  simpa using this
theorem info47 : (Tryd.prog.info? 109).map (·.size) = some 8 := by kernel_rfl
theorem wrap32_uN (x : BitVec 32) : IntKind.u32.wrap (uN x) = uN x := wrap_uN x

attribute [local go_sem] uF_at
set_option maxRecDepth 20000 in
set_option maxHeartbeats 1000000 in
theorem RTurn_no (s : Nat → BitVec 32) (A : Option Addr) (n cap : Nat) (hn : n ≠ 64) (w : World) :
    Calls Tryd.prog 62 #[.agg (rowA 8 (uF s)), .slice A n cap] w fun e w' => e = .returned (.agg (rowA 8 (uF s))) ∧ Below w.heap.size w w' := by
  have hn2 : ((n : Int) == 64) = false := by simp; omega
  have r0 := (rowIs_box w 92 8 (uF s)).alloc (.cells (rowA 8 fun _ => .int .u32 0) 92)
  have r1 := rowIs_box (w.alloc (.cells (rowA 8 (uF s)) 92)) 92 8 fun _ => .int .u32 0
  have hB : Below w.heap.size w ((w.alloc (.cells (rowA 8 (uF s)) 92)).alloc (.cells (rowA 8 fun _ => .int .u32 0) 92)) :=
    ((Below.refl _ w).alloc (Nat.le_refl _) _).alloc (by simp) _
  rw [World.size_alloc] at r1
  have hR := rangeAt_row r0
  go_enter Tryd.func62, Tryd.ntmps62
  go_wp2_with (first
    | (refine wpList_load_mid rfl 92 (.tmp 2) rfl w.heap.size 0 rfl (rowA 8 (uF s)).toList _ hR Tryd.underlying92 rfl (by rw [rowA_toList]; simpa using info23) ?_)
    | (refine wpList_store_mid rfl 92 (.tmp 4) (.tmp 22) rfl (w.heap.size + 1) 0 (rowA 8 (uF s)) rfl rfl (by rw [rowA_size]; exact there_row r1) (by rw [rowA_size]; exact info23) (rowA_one _ _ fun _ => rfl) ?_))
  exact bodyPost_ret (results_row rfl _ rfl (rowIs_setAll r1 (uF s)) Tryd.underlying92 info23) rfl ⟨rfl, below_setCells _ (by omega) _ _ _ hB⟩
attribute [local go_sem] vF_at wrap64_uN wrap32_uN u64_xor u64_and u64_not u64_add2 u64_add3 u64_add4 u64_add5 mod_t2 mod_t4 mod_t5 tmod_t2 tmod_t4 tmod_t5
def RT1 (s : Nat → BitVec 32) (l : List UInt8) (w : World) (t : Nat) (wr : World) : Prop :=
  wr.rowIs w.heap.size 92 8 (uF s) ∧ wr.rowIs (w.heap.size + 1) 92 8 (fun _ => .int .u32 0) ∧ wr.rowIs (w.heap.size + 1 + 1) 107 64 (vF (cutT (wS l 48) t)) ∧ Below w.heap.size w wr
set_option maxRecDepth 20000 in
set_option maxHeartbeats 4000000 in
theorem RTurn_any (K s : Nat → BitVec 32) (l : List UInt8) (b o cap : Nat) (_ : 64 ≤ cap) (_ : cap ≤ maxLen) (w : World) (hb : b < w.heap.size) (h1 : 1 < w.heap.size)
    (hK : ∀ i, i < 64 → w.cell? ⟨1, i, none⟩ = some (.int .u32 (uN (K i))))
    (hc : ∀ i, i < 64 → w.cell? ⟨b, o + i, none⟩ = some (.int .u8 (bN (bAt l i)))) :
    Calls Tryd.prog 62 #[.agg (rowA 8 (uF s)), .slice (some ⟨b, o, none⟩) 64 cap] w fun e w' => e = .returned (.agg (rowA 8 (uF fun i => s i + (runTo K (wS l 48) (St.of s) 64).get i))) ∧ Below w.heap.size w w' := by
  have HK := Lib.hid hK
  have HC := Lib.hid hc
  clear hK hc
  go_enter Tryd.func62, Tryd.ntmps62
  go_wp2
  have r0 := ((rowIs_box w 92 8 (uF s)).alloc (.cells (rowA 8 fun _ => .int .u32 0) 92)).alloc (.cells (Array.replicate 64 (.int .u64 0)) 107)
  have r1 := (rowIs_box (w.alloc (.cells (rowA 8 (uF s)) 92)) 92 8 fun _ => .int .u32 0).alloc (.cells (Array.replicate 64 (.int .u64 0)) 107)
  have r2 := rowIs_zeros64 (wS l 48) ((w.alloc (.cells (rowA 8 (uF s)) 92)).alloc (.cells (rowA 8 fun _ => .int .u32 0) 92)) 107 64
  have hB : Below w.heap.size w (((w.alloc (.cells (rowA 8 (uF s)) 92)).alloc (.cells (rowA 8 fun _ => .int .u32 0) 92)).alloc (.cells (Array.replicate 64 (.int .u64 0)) 107)) :=
    (((Below.refl _ w).alloc (Nat.le_refl _) _).alloc (by simp) _).alloc (by simp; omega) _
  rw [World.size_alloc] at r1 r2
  rw [World.size_alloc] at r2
  change Code.wp _ _ _ _ (((w.alloc (.cells (rowA 8 (uF s)) 92)).alloc (.cells (rowA 8 fun _ => .int .u32 0) 92)).alloc (.cells (Array.replicate 64 (.int .u64 0)) 107))
  generalize (((w.alloc (.cells (rowA 8 (uF s)) 92)).alloc (.cells (rowA 8 fun _ => .int .u32 0) 92)).alloc (.cells (Array.replicate 64 (.int .u64 0)) 107)) = W0 at r0 r1 r2 hB ⊢
  go_loopw [6] (fun i wr => ∃ t : Nat, t ≤ 64 ∧ i = .int .i64 t ∧ RT1 s l w t wr) (fun i _ => 64 - (intOf i).toNat)
  case atStart => exact ⟨0, by omega, rfl, r0, r1, r2, hB⟩
  case round =>
    obtain ⟨t, ht, rfl, q0, q1, q2, qB⟩ := hrel
    clear r0 r1 r2 hB
    by_cases hlt : t < 64
    · by_cases h16 : t < 16
      · have e0 : wr.cell? ⟨b, o + 4 * t, none⟩ = _ := (qB.cell (p := ⟨b, o + (4 * t), none⟩) hb).trans (HC.out (4 * t) (by omega))
        have e1 : wr.cell? ⟨b, o + (4 * t + 1), none⟩ = _ := (qB.cell (p := ⟨b, o + (4 * t + 1), none⟩) hb).trans (HC.out (4 * t + 1) (by omega))
        have e2 : wr.cell? ⟨b, o + (4 * t + 2), none⟩ = _ := (qB.cell (p := ⟨b, o + (4 * t + 2), none⟩) hb).trans (HC.out (4 * t + 2) (by omega))
        have e3 : wr.cell? ⟨b, o + (4 * t + 3), none⟩ = _ := (qB.cell (p := ⟨b, o + (4 * t + 3), none⟩) hb).trans (HC.out (4 * t + 3) (by omega))
        have hz := word_num l t
        obtain ⟨z0, y0, x0⟩ : ∃ z : Nat, z < 256 ∧ bN (bAt l (4 * t)) = (z : Int) := ⟨(bAt l (4 * t)).toNat, UInt8.toNat_lt _, rfl⟩
        obtain ⟨z1, y1, x1⟩ : ∃ z : Nat, z < 256 ∧ bN (bAt l (4 * t + 1)) = (z : Int) := ⟨(bAt l (4 * t + 1)).toNat, UInt8.toNat_lt _, rfl⟩
        obtain ⟨z2, y2, x2⟩ : ∃ z : Nat, z < 256 ∧ bN (bAt l (4 * t + 2)) = (z : Int) := ⟨(bAt l (4 * t + 2)).toNat, UInt8.toNat_lt _, rfl⟩
        obtain ⟨z3, y3, x3⟩ : ∃ z : Nat, z < 256 ∧ bN (bAt l (4 * t + 3)) = (z : Int) := ⟨(bAt l (4 * t + 3)).toNat, UInt8.toNat_lt _, rfl⟩
        rw [x0] at e0 hz
        rw [x1] at e1 hz
        rw [x2] at e2 hz
        rw [x3] at e3 hz
        clear x0 x1 x2 x3
        have Hz := Lib.hid hz
        clear hz
        have j0 : (0 : Int) ≤ 4 * (t : Int) := by omega
        have j1 : (0 : Int) ≤ 4 * (t : Int) + 1 := by omega
        have j2 : (0 : Int) ≤ 4 * (t : Int) + 2 := by omega
        have j3 : (0 : Int) ≤ 4 * (t : Int) + 3 := by omega
        have i0 : 4 * (t : Int) < 64 := by omega
        have i1 : 4 * (t : Int) + 1 < 64 := by omega
        have i2 : 4 * (t : Int) + 2 < 64 := by omega
        have i3 : 4 * (t : Int) + 3 < 64 := by omega
        have it : (t : Int) < 64 := by omega
        have it2 : (t : Int) < 16 := by omega
        have ct := q2.cell (i := t) hlt
        have cf := q2.frozen t
        go_wp2
        refine wp_region_still_tail 35 (by kernel_rfl) (by kernel_rfl) ?_
        simp only [List.take_succ_cons, List.take_zero, List.drop_succ_cons, List.drop_zero]
        repeat (refine wpStill_step (fun K hK => ?_); go_simp; (try go_bits); refine hK _ ?_; clear hK K)
        refine wpStill_nil ?_
        go_wp2
        go_roundw
        case rel => exact ⟨t + 1, by omega, by go_num, q0.drew.setOther (by simp; omega) _, q1.drew.setOther (by simp) _, (q2.drew.set t _).congr fun i _ => cutT_set (wS l 48) t _ (by rw [wS_first l t h16, Hz.out]) i, (qB.setCell (p := ⟨w.heap.size + 1 + 1, t, none⟩) (by simp; omega) _).drew⟩
        case measure => simp [intOf]; omega
      · have c2 := q2.cell (i := t - 2) (by omega)
        have c7 := q2.cell (i := t - 7) (by omega)
        have c15 := q2.cell (i := t - 15) (by omega)
        have c16 := q2.cell (i := t - 16) (by omega)
        rw [vF_at, cutT_at _ _ _ (by omega)] at c2 c7 c15 c16
        have ct := q2.cell (i := t) hlt
        have cf := q2.frozen t
        have hz := wS_rec l t (by omega) hlt
        have Hz := Lib.hid hz
        clear hz
        generalize wS l 48 (t - 2) = y2 at c2 Hz
        generalize wS l 48 (t - 7) = y7 at c7 Hz
        generalize wS l 48 (t - 15) = y15 at c15 Hz
        generalize wS l 48 (t - 16) = y16 at c16 Hz
        have i2 : (2 : Int) ≤ t := by omega
        have j2 : (t : Int) - 2 < 64 := by omega
        have i7 : (7 : Int) ≤ t := by omega
        have j7 : (t : Int) - 7 < 64 := by omega
        have i15 : (15 : Int) ≤ t := by omega
        have j15 : (t : Int) - 15 < 64 := by omega
        have i16 : (16 : Int) ≤ t := by omega
        have j16 : (t : Int) - 16 < 64 := by omega
        have it : (t : Int) < 64 := by omega
        have it2 : ¬ (t : Int) < 16 := by omega
        go_wp2
        refine wp_region_still_lit (by kernel_rfl) (by kernel_rfl) ?_
        repeat (refine wpStill_step (fun K hK => ?_); go_simp; (try go_bits); refine hK _ ?_; clear hK K)
        refine wpStill_nil ?_
        go_wp2
        change Code.wp _ _ _ _ wr.drew
        replace q0 := q0.drew
        replace q1 := q1.drew
        replace q2 := q2.drew
        replace qB := qB.drew
        replace c2 := cell_drew c2
        replace c7 := cell_drew c7
        replace c15 := cell_drew c15
        replace c16 := cell_drew c16
        replace ct := cell_drew ct
        replace cf : wr.drew.frozen? ⟨w.heap.size + 1 + 1, t, none⟩ = false := cf
        generalize wr.drew = wr2 at q0 q1 q2 qB c2 c7 c15 c16 ct cf ⊢
        refine wp_region_still_tail 30 (by kernel_rfl) (by kernel_rfl) ?_
        simp only [List.take_succ_cons, List.take_zero, List.drop_succ_cons, List.drop_zero]
        repeat (refine wpStill_step (fun K hK => ?_); go_simp; (first
          | (refine ⟨_, ((right_any _ _ (by decide) (by decide) _).mono fun _ _ h => ⟨h.1, h.2.symm⟩), hK _ ?_⟩)
          | (refine ⟨_, ((shift_any _ _ (by decide) (by decide) _).mono fun _ _ h => ⟨h.1, h.2.symm⟩), hK _ ?_⟩)
          | ((try go_bits); refine hK _ ?_)); clear hK K)
        refine wpStill_nil ?_
        go_wp2
        go_roundw
        case rel => exact ⟨t + 1, by omega, by go_num, q0.drew.setOther (by simp; omega) _, q1.drew.setOther (by simp) _, (q2.drew.set t _).congr fun i _ => cutT_set (wS l 48) t _ (by rw [Hz.out]; rfl) i, (qB.setCell (p := ⟨w.heap.size + 1 + 1, t, none⟩) (by simp; omega) _).drew⟩
        case measure => simp [intOf]; omega
    · obtain rfl : t = 64 := by omega
      rw [show ((64 : Nat) : Int) = 64 from rfl]
      have hgB : w.heap.size + 1 + 1 < wr.heap.size := q2.lt
      have q3 := rowIs_zeros64 s wr 109 8
      replace q0 := q0.alloc (.cells (Array.replicate 8 (.int .u64 0)) 109)
      replace q1 := q1.alloc (.cells (Array.replicate 8 (.int .u64 0)) 109)
      replace q2 := q2.alloc (.cells (Array.replicate 8 (.int .u64 0)) 109)
      replace q2 := q2.congr (g := vF (wS l 48)) fun i hi => by rw [vF_at, vF_at, cutT_at _ _ _ hi]
      have qB2 := qB.alloc qB.size (.cells (Array.replicate 8 (.int .u64 0)) 109)
      go_wp2
      change Code.wp _ _ _ _ (wr.alloc (.cells (Array.replicate 8 (.int .u64 0)) 109))
      generalize wr.heap.size = g at hgB q3 ⊢
      generalize wr.alloc (.cells (Array.replicate 8 (.int .u64 0)) 109) = W1 at q0 q1 q2 q3 qB2 ⊢
      clear qB
      go_loopw [10] (fun i wr => ∃ t : Nat, t ≤ 8 ∧ i = .int .i64 t ∧ wr.rowIs w.heap.size 92 8 (uF s) ∧ wr.rowIs (w.heap.size + 1) 92 8 (fun _ => .int .u32 0) ∧ wr.rowIs (w.heap.size + 1 + 1) 107 64 (vF (wS l 48)) ∧ wr.rowIs g 109 8 (vF (cutT s t)) ∧ Below w.heap.size w wr) (fun i _ => 8 - (intOf i).toNat)
      case atStart => exact ⟨0, by omega, rfl, q0, q1, q2, q3, qB2⟩
      case round =>
        clear q0 q1 q2 q3 qB2
        obtain ⟨t, ht, rfl, q0, q1, q2, q3, qB⟩ := hrel
        by_cases hlt : t < 8
        · have c0 := q0.cell (i := t) hlt
          have c3 := q3.cell (i := t) hlt
          have f3 := q3.frozen t
          have it : (t : Int) < 8 := by omega
          go_wp2
          go_roundw
          case rel => exact ⟨t + 1, by omega, by go_num, q0.setOther (by simp; omega) _, q1.setOther (by simp; omega) _, q2.setOther (by simp; omega) _, (q3.set t _).congr fun i _ => cutT_set s t _ rfl i, (qB.setCell (p := ⟨g, t, none⟩) (by simp; omega) _)⟩
          case measure => simp [intOf]; omega
        · obtain rfl : t = 8 := by omega
          rw [show ((8 : Nat) : Int) = 8 from rfl]
          replace q3 := q3.congr (g := vF (St.of s).get) fun i hi => by
            rw [vF_at, vF_at, cutT_at _ _ _ hi]
            match i, hi with
            | 0, _ => rfl | 1, _ => rfl | 2, _ => rfl | 3, _ => rfl | 4, _ => rfl | 5, _ => rfl | 6, _ => rfl | 7, _ => rfl
          go_wp2
          rename_i wr1
          generalize wr = W2 at q0 q1 q2 q3 qB ⊢
          go_loopw [11] (fun i wr => ∃ (t : Nat) (x : St), t ≤ 64 ∧ i = .int .i64 t ∧ Hid (x = runTo K (wS l 48) (St.of s) t) ∧ wr.rowIs w.heap.size 92 8 (uF s) ∧ wr.rowIs (w.heap.size + 1) 92 8 (fun _ => .int .u32 0) ∧ wr.rowIs (w.heap.size + 1 + 1) 107 64 (vF (wS l 48)) ∧ wr.rowIs g 109 8 (vF x.get) ∧ Below w.heap.size w wr) (fun i _ => 64 - (intOf i).toNat)
          case atStart => exact ⟨0, St.of s, by omega, rfl, rfl, q0, q1, q2, q3, qB⟩
          case round =>
            clear q0 q1 q2 q3 qB
            obtain ⟨t, x, ht, rfl, hx, q0, q1, q2, q3, qB⟩ := hrel
            by_cases hlt : t < 64
            · have cK := (qB.cell (p := ⟨1, t, none⟩) h1).trans (HK.out t hlt)
              have cW := q2.cell (i := t) hlt
              rw [vF_at] at cW
              obtain ⟨Wt, HWt⟩ : ∃ Wt, Hid (wS l 48 t = Wt) := ⟨_, Lib.hid rfl⟩
              rw [HWt.out] at cW
              have it : (t : Int) < 64 := by omega
              have c0 : wr.cell? ⟨g, 0, none⟩ = some (.int .u64 (uN x.a)) := q3.cell (i := 0) (by omega)
              have c1 : wr.cell? ⟨g, 1, none⟩ = some (.int .u64 (uN x.b)) := q3.cell (i := 1) (by omega)
              have c2 : wr.cell? ⟨g, 2, none⟩ = some (.int .u64 (uN x.c)) := q3.cell (i := 2) (by omega)
              have c3 : wr.cell? ⟨g, 3, none⟩ = some (.int .u64 (uN x.d)) := q3.cell (i := 3) (by omega)
              have c4 : wr.cell? ⟨g, 4, none⟩ = some (.int .u64 (uN x.e)) := q3.cell (i := 4) (by omega)
              have c5 : wr.cell? ⟨g, 5, none⟩ = some (.int .u64 (uN x.f)) := q3.cell (i := 5) (by omega)
              have c6 : wr.cell? ⟨g, 6, none⟩ = some (.int .u64 (uN x.g)) := q3.cell (i := 6) (by omega)
              have c7 : wr.cell? ⟨g, 7, none⟩ = some (.int .u64 (uN x.h)) := q3.cell (i := 7) (by omega)
              go_wp2
              refine wp_region_still_lit (by kernel_rfl) (by kernel_rfl) ?_
              repeat (refine wpStill_step (fun K hK => ?_); go_simp; (try go_bits); refine hK _ ?_; clear hK K)
              refine wpStill_nil ?_
              go_wp2_with fail
              change Code.wp _ _ _ _ wr.drew
              replace q0 := q0.drew
              replace q1 := q1.drew
              replace q2 := q2.drew
              replace q3 := q3.drew
              replace qB := qB.drew
              replace cK := cell_drew cK
              replace cW := cell_drew cW
              replace c0 := cell_drew c0
              replace c1 := cell_drew c1
              replace c2 := cell_drew c2
              replace c3 := cell_drew c3
              replace c4 := cell_drew c4
              replace c5 := cell_drew c5
              replace c6 := cell_drew c6
              replace c7 := cell_drew c7
              generalize wr.drew = wr2 at q0 q1 q2 q3 qB cK cW c0 c1 c2 c3 c4 c5 c6 c7 ⊢
              refine wp_region_still_lit (by kernel_rfl) (by kernel_rfl) ?_
              repeat (refine wpStill_step (fun K hK => ?_); go_simp; (first
                | (refine ⟨_, ((right_any _ _ (by decide) (by decide) _).mono fun _ _ h => ⟨h.1, h.2.symm⟩), hK _ ?_⟩)
                | ((try go_bits); refine hK _ ?_)); clear hK K)
              refine wpStill_nil ?_
              change Exit.then _ _ _ _ wr2.drew
              replace q0 := q0.drew
              replace q1 := q1.drew
              replace q2 := q2.drew
              replace q3 := q3.drew
              replace qB := qB.drew
              replace c0 := cell_drew c0
              replace c1 := cell_drew c1
              replace c2 := cell_drew c2
              replace c3 := cell_drew c3
              replace c4 := cell_drew c4
              replace c5 := cell_drew c5
              replace c6 := cell_drew c6
              replace c7 := cell_drew c7
              clear cK cW
              generalize wr2.drew = wr3 at q0 q1 q2 q3 qB c0 c1 c2 c3 c4 c5 c6 c7 ⊢
              obtain ⟨o1, Ho1⟩ : ∃ o1, Hid (x.h + (x.e.rotateRight 6 ^^^ x.e.rotateRight 11 ^^^ x.e.rotateRight 25) + (x.e &&& x.f ^^^ ~~~x.e &&& x.g) + K t + Wt = o1) := ⟨_, Lib.hid rfl⟩
              obtain ⟨m1, Hm1⟩ : ∃ m1, Hid (x.a &&& x.b ^^^ x.a &&& x.c ^^^ x.b &&& x.c = m1) := ⟨_, Lib.hid rfl⟩
              rw [Ho1.out, Hm1.out]
              go_wp2_with fail
              refine (right_any _ _ (by decide) (by decide) _).mono ?_
              rintro e w' ⟨rfl, rfl⟩
              go_wp2_with fail
              refine (right_any _ _ (by decide) (by decide) _).mono ?_
              rintro e w' ⟨rfl, rfl⟩
              go_wp2_with fail
              refine (right_any _ _ (by decide) (by decide) _).mono ?_
              rintro e w' ⟨rfl, rfl⟩
              go_upto_region 24 with fail
              obtain ⟨o2, Ho2⟩ : ∃ o2, Hid ((x.a.rotateRight (2 : Int).toNat ^^^ x.a.rotateRight (13 : Int).toNat ^^^ x.a.rotateRight (22 : Int).toNat) + m1 = o2) := ⟨_, Lib.hid rfl⟩
              first | rw [Ho2.out] | (simp only [Int.reduceToNat] at Ho2; rw [Ho2.out])
              refine wp_region_lit ?_
              iterate 22 (refine wpList_plain rfl (fun K hK => ?_); go_simp; (try go_bits); refine hK _ _ ?_; clear hK K)
              have hth := there_row q3
              refine wpList_store_mid rfl 109 (.tmp 9) (.tmp 200) rfl g 0 #[.int .u64 (uN (o1 + o2)), .int .u64 (uN x.a), .int .u64 (uN x.b), .int .u64 (uN x.c), .int .u64 (uN (x.d + o1)), .int .u64 (uN x.e), .int .u64 (uN x.f), .int .u64 (uN x.g)] ?_ ?_ hth info47 ?_ ?_
              · go_simp
              · go_simp
              · simp [Value.oneCell']
              obtain ⟨nx, hnx⟩ : ∃ nx : St, nx = ⟨o1 + o2, x.a, x.b, x.c, x.d + o1, x.e, x.f, x.g⟩ := ⟨_, rfl⟩
              have hL : (#[.int .u64 (uN (o1 + o2)), .int .u64 (uN x.a), .int .u64 (uN x.b), .int .u64 (uN x.c), .int .u64 (uN (x.d + o1)), .int .u64 (uN x.e), .int .u64 (uN x.f), .int .u64 (uN x.g)] : Array Value).toList = (rowA 8 (vF nx.get)).toList := by rw [hnx]; rfl
              rw [hL]
              have Hnx : Hid (nx = runTo K (wS l 48) (St.of s) (t + 1)) := Lib.hid (by
                rw [runTo, ← hx.out, HWt.out, hnx, ← Ho1.out, ← Ho2.out, ← Hm1.out]; rfl)
              clear hL hnx Ho1 Ho2 Hm1 c0 c1 c2 c3 c4 c5 c6 c7 hth
              replace q0 := rowIs_setOther q0 (b' := g) (by omega) (rowA 8 (vF nx.get)).toList 0
              replace q1 := rowIs_setOther q1 (b' := g) (by omega) (rowA 8 (vF nx.get)).toList 0
              replace q2 := rowIs_setOther q2 (b' := g) (by omega) (rowA 8 (vF nx.get)).toList 0
              replace q3 := rowIs_setAll q3 (vF nx.get)
              replace qB := below_setCells g (by omega) (rowA 8 (vF nx.get)).toList 0 _ qB
              generalize wr3.setCells g 0 (rowA 8 (vF nx.get)).toList = wr4 at q0 q1 q2 q3 qB ⊢
              go_wp2
              go_roundw
              case rel => exact ⟨t + 1, nx, by omega, by go_num, Hnx, q0, q1, q2, q3, qB⟩
              case measure => simp [intOf]; omega
            · obtain rfl : t = 64 := by omega
              rw [show ((64 : Nat) : Int) = 64 from rfl]
              obtain ⟨T, HT2⟩ : ∃ T, Hid (x.get = T) := ⟨_, Lib.hid rfl⟩
              rw [HT2.out] at q3
              clear q2
              go_wp2
              generalize wr = W3 at q0 q1 q3 qB ⊢
              go_loopw [18] (fun i wr => ∃ k : Nat, k ≤ 8 ∧ i = .int .i64 k ∧ wr.rowIs w.heap.size 92 8 (uF (mixed s T k)) ∧ wr.rowIs (w.heap.size + 1) 92 8 (fun _ => .int .u32 0) ∧ wr.rowIs g 109 8 (vF T) ∧ Below w.heap.size w wr) (fun i _ => 8 - (intOf i).toNat)
              case atStart => exact ⟨0, by omega, rfl, q0, q1, q3, qB⟩
              case round =>
                clear q0 q1 q3 qB
                obtain ⟨k, hk, rfl, q0, q1, q3, qB⟩ := hrel
                by_cases hlt : k < 8
                · have c0 := q0.cell (i := k) (by omega)
                  rw [uF_at, show mixed s T k k = s k by simp [mixed]] at c0
                  have c3 := q3.cell (i := k) (by omega)
                  have f0 := q0.frozen k
                  have i8 : (k : Int) < 8 := by omega
                  go_wp2
                  refine wp_region_still_tail 12 (by kernel_rfl) (by kernel_rfl) ?_
                  simp only [List.take_succ_cons, List.take_zero, List.drop_succ_cons, List.drop_zero]
                  repeat (refine wpStill_step (fun K hK => ?_); go_simp; (try go_bits); refine hK _ ?_; clear hK K)
                  refine wpStill_nil ?_
                  go_wp2
                  go_roundw
                  case rel => exact ⟨k + 1, by omega, by go_num, ((q0.set k _).congr fun i _ => mixed_set s T k i), q1.setOther (by simp) _, q3.setOther (by simp; omega) _, (qB.setCell (p := ⟨w.heap.size, k, none⟩) (by simp) _).drew⟩
                  case measure => simp [intOf]; omega
                · obtain rfl : k = 8 := by omega
                  have hR := rangeAt_row q0
                  go_wp2_with (first
                    | (refine wpList_load_mid rfl 92 (.tmp 2) rfl w.heap.size 0 rfl (rowA 8 (uF (mixed s T 8))).toList _ hR Tryd.underlying92 rfl (by rw [rowA_toList]; simpa using info23) ?_)
                    | (refine wpList_store_mid rfl 92 (.tmp 4) (.tmp 217) rfl (w.heap.size + 1) 0 (rowA 8 (uF (mixed s T 8))) rfl rfl (by rw [rowA_size]; exact there_row q1) (by rw [rowA_size]; exact info23) (rowA_one _ _ fun _ => rfl) ?_))
                  refine bodyPost_ret (results_row rfl _ rfl (rowIs_setAll q1 (uF (mixed s T 8))) Tryd.underlying92 info23) rfl ⟨?_, below_setCells _ (by omega) _ _ _ qB⟩
                  rw [← hx.out, HT2.out]
                  exact congrArg (fun z => Ending.returned (.agg z)) (rowA_congr fun i hi => by simp [uF, mixed, hi])
end Go.Proofs.YtbejolbknimmmaaDoor
/- The reference's Fill. -/
namespace Go.Proofs.YtbejolbknimmmaaDoor
open Go.RowKit
set_option maxRecDepth 8000
set_option linter.all false
attribute [local go_sem] bF_at

theorem fillHead_pos (k : Nat) (h : 1 ≤ k) : bF fillHead k = .int .u8 0 := by
  simp [bF, fillHead, bN, show k ≠ 0 by omega]
theorem step_len (n k p : Nat) (hk : k < 8) (hn : n ≤ 1000000) (hp : p = 72057594037927936 / 256 ^ k) : ((n * 8 / p % 256 : Nat) : Int) = bN (lenByte n k) := by
  have e : 72057594037927936 / 256 ^ k = 2 ^ (56 - 8 * k) := by
    have : ∀ k : Fin 8, 72057594037927936 / 256 ^ k.val = 2 ^ (56 - 8 * k.val) := by decide
    exact this ⟨k, hk⟩
  rw [lenByte, bN, UInt8.toNat_ofNat', hp, e, Nat.mod_eq_of_lt (a := n * 8) (by omega)]

set_option maxHeartbeats 1000000 in
theorem RFill_r (n r : Nat) (hn : n ≤ 1000000) (hr1 : 1 ≤ r) (hr2 : r ≤ 64) (hr3 : (n + r) % 64 = 56) (hr4 : ∀ k, 1 ≤ k → k < r → (n + k) % 64 ≠ 56) (w : World) :
    Calls Tryd.prog 61 #[.int .i64 n] w (FillPost n r w) := by
  obtain ⟨i0, hi, hz0, hz1, hz2⟩ := info_parts info5
  have H4 := Lib.hid hr4
  have H3 := Lib.hid hr3
  clear hr4 hr3
  go_enter Tryd.func61, Tryd.ntmps61
  go_wp2
  have r0 : (w.alloc (.cells #[.int .u8 128] 5)).rowIs w.heap.size 5 1 (bF fillHead) := (rowIs_box w 5 1 fun _ => .int .u8 128).congr fun i hi => by
    obtain rfl : i = 0 := by omega
    rfl
  have hB : Below w.heap.size w (w.alloc (.cells #[.int .u8 128] 5)) := (Below.refl _ w).alloc (Nat.le_refl _) _
  have ho := ownsRow_row r0 w.heap.size 1 (by omega) (by unfold maxLen; omega) (Nat.le_refl _)
  generalize w.alloc (.cells #[.int .u8 128] 5) = W0 at ho hB ⊢
  clear r0
  go_loopw [3] (fun v wr => ∃ k : Nat, 1 ≤ k ∧ k ≤ r ∧ wr.ownsRow w.heap.size 5 1 v k ((List.range k).map (bF fillHead)) ∧ Below w.heap.size w wr) (fun v _ => match v with | .slice _ m _ => r - m | _ => 0)
  case atStart => exact ⟨1, by omega, by omega, ho, hB⟩
  case round =>
    obtain ⟨k, hk1, hk, hown, qB⟩ := hrel
    clear ho hB
    obtain ⟨g, c, rfl, _, _⟩ := hown.form (by omega)
    by_cases hlt : k < r
    · have t1 : (((n : Int) + (k : Int)) % 64 == 56) = false := by
        have := H4.out k hk1 hlt
        simp; omega
      go_wp2_with (at_builtin; refine wpList_append_own _ rfl (.tmp 16) (.tmp 17) 33 rfl w.heap.size 5 i0 _ 1 1 Tryd.underlying33 hi hz0 hz1 hz2 rfl (by omega) _ k _ rfl (hown.alloc _) ⟨wr.heap.size, 0, none⟩ 1 1 [.int .u8 0] rfl rfl (one_cell _ _ _) (by simp [Value.oneCell']) (by unfold maxLen; omega) (by omega) (by have := qB.size; simp; omega) ?_; intro v' w1 hown' hg1 _)
      go_roundw
      case rel =>
        refine ⟨k + 1, by omega, by omega, ?_, (qB.alloc qB.size _).grown hg1 (by have := qB.size; simp; omega) (fun g e => (hown.lt g e).1)⟩
        rw [List.range_succ, List.map_append]
        simp only [List.map_cons, List.map_nil]
        rw [fillHead_pos k hk1]
        exact hown'
      case measure =>
        obtain ⟨g', c', rfl, _, _⟩ := hown'.form (by omega)
        show r - (k + 1) < r - k
        omega
    · obtain rfl : k = r := by omega
      have t1 : (((n : Int) + (k : Int)) % 64 == 56) = true := by
        have := H3.out
        simp; omega
      have t2 : (((n : Int) + (k : Int)) % 64 != 56) = false := by
        have := H3.out
        simp; omega
      have Ht1 := Lib.hid t1
      go_wp2
      clear t1 t2
      go_loopw [3, 5, 6] (fun v st i wr => ∃ j p : Nat, j ≤ 8 ∧ i = .int .i64 j ∧ st = .int .u64 p ∧ Hid (p = 72057594037927936 / 256 ^ j) ∧ wr.ownsRow w.heap.size 5 1 v (k + j) ((List.range k).map (bF fillHead) ++ (List.range j).map (bF (lenByte n))) ∧ Below w.heap.size w wr) (fun _ _ i _ => 8 - (intOf i).toNat)
      case atStart => exact ⟨0, 72057594037927936, by omega, rfl, rfl, Lib.hid (by simp), by simpa using hown, qB⟩
      case round =>
        clear hown qB
        obtain ⟨j, p, hj, rfl, rfl, Hp, hown, qB⟩ := hrel
        by_cases hlt : j < 8
        · have hp0 : 0 < p := by
            have : ∀ k : Fin 8, 0 < 72057594037927936 / 256 ^ k.val := by decide
            rw [Hp.out]; exact this ⟨j, hlt⟩
          have hpz : ((p : Int) == 0) = false := by simp; omega
          have hsl := step_len n j p hlt hn Hp.out
          have Hsl := Lib.hid hsl
          clear hsl
          have hp1 : (p : Int) ≠ 0 := by omega
          have hpb : p ≤ 72057594037927936 := by rw [Hp.out]; exact Nat.div_le_self _ _
          have hpw : IntKind.u64.wrap ((p : Int) / 256) = ((p / 256 : Nat) : Int) := by rw [wrap_u64]; omega
          have hval : ((n : Int) * 8 / (p : Int)).tmod 256 % 256 = bN (lenByte n j) := by
            have h0 : (0 : Int) ≤ (n : Int) * 8 / p := Int.ediv_nonneg (by omega) (by omega)
            rw [Int.tmod_eq_emod_of_nonneg h0, ← Hsl.out]
            have : (n : Int) * 8 / (p : Int) = ((n * 8 / p : Nat) : Int) := by simp
            rw [this]; omega
          go_wp2_with (at_builtin; refine wpList_append_own _ rfl (.tmp 26) (.tmp 32) 33 rfl w.heap.size 5 i0 _ 1 1 Tryd.underlying33 hi hz0 hz1 hz2 rfl (by omega) u3 (k + j) _ rfl (hown.alloc _) ⟨wr.heap.size, 0, none⟩ 1 1 [bF (lenByte n) j] rfl rfl (one_cell _ _ _) (by simp [bF, Value.oneCell']) (by unfold maxLen; omega) (by omega) (by have := qB.size; simp; omega) ?_; intro v' w1 hown' hg1 _)
          go_roundw
          case rel =>
            refine ⟨j + 1, p / 256, by omega, by go_num, rfl, Lib.hid (by rw [Hp.out, Nat.div_div_eq_div_mul, Nat.pow_succ]), ?_, (qB.alloc qB.size _).grown hg1 (by have := qB.size; simp; omega) (fun g e => (hown.lt g e).1)⟩
            rw [List.range_succ, List.map_append, ← List.append_assoc]
            exact hown'
          case measure => simp [intOf]; omega
        · obtain rfl : j = 8 := by omega
          go_wp2
          go_ret
          exact ⟨_, rfl, hown, qB⟩
theorem RFill_any (n : Nat) (hn : n ≤ 1000000) (w : World) : Calls Tryd.prog 61 #[.int .i64 n] w (FillPost n (if n % 64 < 56 then 56 - n % 64 else 120 - n % 64) w) := by
  by_cases h : n % 64 < 56
  · rw [if_pos h]; exact RFill_r n _ hn (by omega) (by omega) (by omega) (fun k _ _ => by omega) w
  · rw [if_neg h]; exact RFill_r n _ hn (by omega) (by omega) (by omega) (fun k _ _ => by omega) w
set_option maxHeartbeats 400000 in
theorem RFill_neg (n : Int) (hn : n < 0) (w : World) : Calls Tryd.prog 61 #[.int .i64 n] w fun e w' => e = .returned (.slice none 0 0) ∧ w = w' := by
  go_enter Tryd.func61, Tryd.ntmps61
  go_wp2
  go_ret
  exact ⟨rfl, rfl⟩
end Go.Proofs.YtbejolbknimmmaaDoor
/- The reference's Sum. -/
namespace Go.Proofs.YtbejolbknimmmaaDoor
open Go.RowKit
set_option maxRecDepth 8000
set_option linter.all false
attribute [local go_sem] uF_at bF_at run_storeU run_storeB

theorem ownsRow_belowW {W W' : World} {base : Nat} {e : TypeId} {size : Nat} {v : Value} {n : Nat} {xs : List Value} (h : W.ownsRow base e size v n xs) (hb : Below W.heap.size W W') : W'.ownsRow base e size v n xs :=
  h.kept (row := none) ⟨hb.os, hb.tape, hb.output, hb.size, fun k hk _ => hb.block k hk⟩ (by cases v.ownBlock with | none => exact .inl rfl | some k => exact .inr (by simp))
/-- The digest, written from behind: the numbers before i, and of number i the last j bytes. -/
def outF (S : Nat → BitVec 32) (i j p : Nat) : UInt8 := if p < 4 * i then dig S p else if 4 * i + 4 ≤ p + j ∧ p < 4 * i + 4 then dig S p else 0
theorem outF_set (S : Nat → BitVec 32) (i j : Nat) (hj : j < 4) (z : Int) (hz : z = bN (dig S (4 * i + (3 - j)))) (p : Nat) : (if p = 4 * i + (3 - j) then Value.int .u8 z else bF (outF S i j) p) = bF (outF S i (j + 1)) p := by
  subst hz
  simp only [bF, outF]
  by_cases h : p = 4 * i + (3 - j)
  · subst h; rw [if_pos rfl, if_neg (by omega), if_pos (by omega)]
  · rw [if_neg h]
    by_cases h2 : p < 4 * i
    · rw [if_pos h2, if_pos h2]
    · rw [if_neg h2, if_neg h2]
      by_cases h3 : 4 * i + 4 ≤ p + j ∧ p < 4 * i + 4
      · rw [if_pos h3, if_pos (by omega)]
      · rw [if_neg h3, if_neg (by omega)]
theorem outF_next (S : Nat → BitVec 32) (i p : Nat) : bF (outF S i 4) p = bF (outF S (i + 1) 0) p := by
  simp only [bF, outF]
  by_cases h : p < 4 * i
  · rw [if_pos h, if_pos (by omega)]
  · rw [if_neg h]
    by_cases h2 : p < 4 * i + 4
    · rw [if_pos ⟨by omega, h2⟩, if_pos (by omega)]
    · rw [if_neg (by omega), if_neg (by omega), if_neg (by omega)]
theorem outF_zero (S : Nat → BitVec 32) (p : Nat) : bF (fun _ => 0) p = bF (outF S 0 0) p := by
  simp only [bF, outF]
  rw [if_neg (by omega), if_neg (by omega)]
theorem dig_back (S : Nat → BitVec 32) (i j : Nat) (hj : j < 4) : (uN (S i >>> (8 * j))) % 256 = bN (dig S (4 * i + (3 - j))) := by
  rw [dig, show (4 * i + (3 - j)) / 4 = i by omega, show (4 * i + (3 - j)) % 4 = 3 - j by omega, show 24 - 8 * (3 - j) = 8 * j by omega, ← u32_u8, wrap_u8]
theorem dig_div (x : BitVec 32) (j : Nat) : uN (x >>> (8 * j)) / (256 : Int) = uN (x >>> (8 * (j + 1))) := by
  have := u32_shr (x >>> (8 * j)) 8
  rw [show ((2 : Int) ^ 8) = 256 from rfl] at this
  rw [this, ← BitVec.shiftRight_add]
  rfl
theorem fill_len (n : Nat) : (n + (fillB n).length) % 64 = 0 := by rw [fillB_length]; split <;> omega
theorem sha_all (l : List UInt8) (m : Nat) (h : (l ++ fillB l.length).length = 64 * m) : shaL Kc Fc l = dig (sB (l ++ fillB l.length) m) := by
  have : cks (l ++ fillB l.length) = (List.range m).map (blk (l ++ fillB l.length)) := by unfold cks; rw [h, show 64 * m / 64 = m by omega]; rfl
  rw [shaL, this, sB_fold]
set_option maxHeartbeats 4000000 in
theorem RSum_any (v : Value) (l : List UInt8) (w : World) (hT : Tables w) (hr : RdV w [] v l) (hl : l.length ≤ 900000) :
    Calls Tryd.prog 51 #[v] w fun e w' => e = .returned (.agg (rowA 32 (bF (shaL Kc Fc l)))) ∧ Below w.heap.size w w' := by
  have HT := Lib.hid hT
  have hsz := hT.size
  have Hr := Lib.hid hr
  obtain ⟨A, cap, rfl, _⟩ := hr
  clear hT
  obtain ⟨n, hn⟩ : ∃ n, l.length = n := ⟨_, rfl⟩
  rw [hn] at hl Hr ⊢
  obtain ⟨i0, hi, hz0, hz1, hz2⟩ := info_parts info5
  have hB1 : Below (w.heap.size) w ((w.alloc (.cells (rowA 32 (bF fun _ => 0)) 48)).alloc (.cells #[] 5)) := ((Below.refl _ w).alloc (Nat.le_refl _) _).alloc (by simp) _
  have rz : ((w.alloc (.cells (rowA 32 (bF fun _ => 0)) 48)).alloc (.cells #[] 5)).rowIs w.heap.size 48 32 (bF fun _ => 0) := (rowIs_box w 48 32 (bF fun _ => 0)).alloc _
  have hown0 : ((w.alloc (.cells (rowA 32 (bF fun _ => 0)) 48)).alloc (.cells #[] 5)).ownsRow (w.heap.size + 1) 5 1 (.slice (some ⟨w.heap.size + 1, 0, none⟩) 0 0) 0 [] := by
    have := rowIs_box (w.alloc (.cells (rowA 32 (bF fun _ => 0)) 48)) 5 0 (fun _ => undef)
    rw [World.size_alloc] at this
    exact ownsRow_row this (w.heap.size + 1) 0 (by omega) (by unfold maxLen; omega) (Nat.le_refl _)
  have Hr1 := Lib.hid (Hr.out.keep (KeepBut.below hB1))
  have hs1 : w.heap.size + 1 ≤ ((w.alloc (.cells (rowA 32 (bF fun _ => 0)) 48)).alloc (.cells #[] 5)).heap.size := by simp
  go_enter Tryd.func51, Tryd.ntmps51
  go_wp2_with (at_builtin; first
    | (refine wpList_append_rd rfl (.tmp 10) (.tmp 11) 33 rfl (base := w.heap.size + 1) Tryd.underlying33 hi hz0 hz1 hz2 rfl hown0 rfl Hr1.out (by omega) hs1 ?_; intro v2 w2 o2 grow2
       have b2 := (Below.refl (w.heap.size + 1) ((w.alloc (.cells (rowA 32 (bF fun _ => 0)) 48)).alloc (.cells #[] 5))).grown grow2 hs1 (fun k e => (hown0.lt k e).1)
       have hB2 := hB1.trans (b2.mono (Nat.le_succ _))
       replace rz := rowIs_below rz b2 (by omega)
       clear grow2 hown0 hs1 Hr1 hB1 b2))
  refine (RFill_any n (by omega) _).mono ?_
  rintro e w3 ⟨v3, rfl, ho3, hb3⟩
  have rd3 := Lib.hid (rdV_fill (L := []) (by simp) ho3)
  have o3 := ownsRow_belowW o2 hb3
  replace rz := rowIs_below rz hb3 rz.lt
  have hB3 := hB2.trans (hb3.mono hB2.size)
  clear o2 ho3 hb3 hB2
  have hfl := fill_len n
  have hf2 : (fillB n).length ≤ 72 := by rw [fillB_length]; split <;> omega
  have hf3 : 0 < (fillB n).length := by rw [fillB_length]; omega
  go_upto_region 2 with (at_builtin; refine wpList_append_rd rfl (.tmp 12) (.tmp 15) 33 rfl (base := w.heap.size + 1) Tryd.underlying33 hi hz0 hz1 hz2 rfl o3 rfl rd3.out (by omega) (by have := rz.lt; omega) ?_; intro v4 w4 o4 grow4)
  have hB4 := hB3.grown grow4 hB3.size (fun k e => by have := (o3.lt k e).1; omega)
  replace rz : w4.rowIs w.heap.size 48 32 (bF fun _ => 0) := rowIs_below rz ((Below.refl (w.heap.size + 1) w3).grown grow4 (by have := rz.lt; omega) (fun k e => (o3.lt k e).1)) (by omega)
  obtain ⟨c, hc⟩ : ∃ c, l ++ fillB n = c := ⟨_, rfl⟩
  have Rall : RdV w4 [] v4 c := by rw [← hc]; exact rdV_own (by simpa [List.map_append] using o4) (by simp) (by simp)
  obtain ⟨m, hm⟩ : ∃ m, m = c.length / 64 := ⟨_, rfl⟩
  have hcm : c.length = 64 * m := by rw [hm, ← hc]; simp only [List.length_append]; omega
  have hD : shaL Kc Fc l = dig (sB c m) := by rw [← hc, ← hn]; exact sha_all l m (by rw [hn, hc, hcm])
  have HD := Lib.hid hD
  obtain ⟨A4, c4, rfl, hcap4, hmax4, hA4⟩ := Rall
  obtain ⟨M, hM⟩ : ∃ M, c.length = M := ⟨_, rfl⟩
  rw [hM] at hcap4 hA4 hcm ⊢
  have hM2 : M ≤ 900072 := by rw [← hM, ← hc]; simp only [List.length_append]; omega
  have hM0 : 0 < M := by rw [← hM, ← hc]; simp only [List.length_append]; omega
  obtain ⟨b4, o4', rfl, _, hcell4⟩ := hA4 hM0
  have HC := Lib.hid hcell4
  have HM := Lib.hid hcm
  have hb4 : b4 < w4.heap.size := World.block_lt_of_cell? _ _ (hcell4 0 hM0)
  clear hD hcell4 hcm hM hc hm hA4 o4 o3 grow4 rd3 hfl hf2 hf3 hB3
  have T4 := HT.out.below hB4
  have f0 := T4.f 0 (by omega)
  have f1 := T4.f 1 (by omega)
  have f2 := T4.f 2 (by omega)
  have f3 := T4.f 3 (by omega)
  have f4 := T4.f 4 (by omega)
  have f5 := T4.f 5 (by omega)
  have f6 := T4.f 6 (by omega)
  have f7 := T4.f 7 (by omega)
  have h0 : 0 < w4.heap.size := by have := T4.size; omega
  clear T4
  go_wp2
  clear f0 f1 f2 f3 f4 f5 f6 f7
  have rs := rowIs_box w4 92 8 (uF Fc)
  have hB5 := (Below.refl _ w4).alloc (Nat.le_refl _) (.cells (rowA 8 (uF Fc)) 92)
  change Code.wp _ _ _ _ (w4.alloc (.cells (rowA 8 (uF Fc)) 92))
  generalize w4.alloc (.cells (rowA 8 (uF Fc)) 92) = w5 at rs hB5 ⊢
  go_loopw [5] (fun i wr => ∃ j k : Nat, j = 64 * k ∧ j ≤ M ∧ i = .int .i64 j ∧ wr.rowIs w4.heap.size 92 8 (uF (sB c k)) ∧ Below w4.heap.size w4 wr) (fun i _ => M - (intOf i).toNat)
  case atStart => exact ⟨0, 0, rfl, by omega, rfl, rs, hB5⟩
  case round =>
    obtain ⟨j, k, hjk, hjM, rfl, qs, qB⟩ := hrel
    clear rs hB5
    by_cases hlt : j < M
    · have HM2 := HM.out
      have hsl := slice_blk b4 o4' M c4 j (by omega)
      have hB6 : Below w.heap.size w wr := hB4.trans (qB.mono hB4.size)
      have HC2 : Hid (∀ i, i < 64 → wr.cell? ⟨b4, o4' + j + i, none⟩ = some (.int .u8 (bN (bAt (blk c k) i)))) := Lib.hid fun i hi => by
        rw [Nat.add_assoc]
        refine (qB.cell (p := ⟨b4, o4' + (j + i), none⟩) hb4).trans ?_
        rw [HC.out (j + i) (by omega), bAt_blk c k i hi, ← hjk]
      have HT2 := HT.out.below hB6
      have HTk := Lib.hid HT2.k
      have hs2 := HT2.size
      have hbr : b4 < wr.heap.size := Nat.lt_of_lt_of_le hb4 qB.size
      have d1 : decide ((j : Int) + 64 ≤ (M : Int)) = true := by simp; omega
      have d2 : (j : Int) + 64 ≤ (M : Int) := by omega
      have hcj : 64 ≤ c4 - j := by omega
      have hcj2 : c4 - j ≤ maxLen := by omega
      clear HT2
      have Hjk := Lib.hid hjk
      clear hjk HM2
      obtain ⟨s, Hs⟩ : ∃ s, Hid (sB c k = s) := ⟨_, Lib.hid rfl⟩
      rw [Hs.out] at qs
      have c0 := qs.cell (i := 0) (by omega)
      have c1 := qs.cell (i := 1) (by omega)
      have c2 := qs.cell (i := 2) (by omega)
      have c3 := qs.cell (i := 3) (by omega)
      have c4' := qs.cell (i := 4) (by omega)
      have c5 := qs.cell (i := 5) (by omega)
      have c6 := qs.cell (i := 6) (by omega)
      have c7 := qs.cell (i := 7) (by omega)
      go_wp2
      refine wp_region_still_tail 6 (by kernel_rfl) (by kernel_rfl) ?_
      simp only [List.take_succ_cons, List.take_zero, List.drop_succ_cons, List.drop_zero]
      iterate 6 (refine wpStill_step (fun K hK => ?_); go_simp; (try go_bits); refine hK _ ?_; clear hK K)
      refine wpStill_nil ?_
      go_wp2_with fail
      refine (RTurn_any Kc s (blk c k) b4 (o4' + j) (c4 - j) hcj hcj2 wr.drew hbr hs2 HTk.out HC2.out).mono ?_
      rintro e w6 ⟨rfl, hB7⟩
      replace qs := rowIs_below qs.drew hB7 qs.lt
      have hB8 : Below w4.heap.size w4 w6 := qB.drew.trans (hB7.mono qB.size)
      have rw2 : RowW w6 w4.heap.size 8 := ⟨_, _, qs⟩
      clear c0 c1 c2 c3 c4' c5 c6 c7 hB7 qB
      go_wp2
      go_roundw
      case rel =>
        refine ⟨j + 64, k + 1, by have := Hjk.out; omega, by omega, by go_num, ?_, below_setCells _ (Nat.le_refl _) _ _ _ hB8⟩
        have := rowIs_setAll qs (uF (turnF Kc s (blk c k)))
        rw [sB, Hs.out]
        exact this
      case measure => simp [intOf]; omega
    · obtain rfl : j = M := by omega
      obtain rfl : k = m := by have := HM.out; omega
      obtain ⟨S, HS⟩ : ∃ S, Hid (sB c k = S) := ⟨_, Lib.hid rfl⟩
      rw [HS.out] at qs
      have Hjk := Lib.hid hjk
      clear hjk
      have hg4 : w4.heap.size < wr.heap.size := qs.lt
      have ro := rowIs_box wr 48 32 (bF fun _ => 0)
      replace qs := qs.alloc (.cells (rowA 32 (bF fun _ => 0)) 48)
      have rz2 := (rowIs_below rz qB rz.lt).alloc (.cells (rowA 32 (bF fun _ => 0)) 48)
      have hgw : w.heap.size < wr.heap.size := (rowIs_below rz qB rz.lt).lt
      have qB6 := (hB4.trans (qB.mono hB4.size)).alloc (by omega) (.cells (rowA 32 (bF fun _ => 0)) 48)
      go_wp2
      change Code.wp _ _ _ _ (wr.alloc (.cells (rowA 32 (bF fun _ => 0)) 48))
      generalize wr.heap.size = g at hgw hg4 ro ⊢
      generalize wr.alloc (.cells (rowA 32 (bF fun _ => 0)) 48) = W6 at ro qs rz2 qB6 ⊢
      clear rz qB
      go_loopw [7] (fun i wr => ∃ t : Nat, t ≤ 8 ∧ i = .int .i64 t ∧ wr.rowIs w4.heap.size 92 8 (uF S) ∧ wr.rowIs w.heap.size 48 32 (bF fun _ => 0) ∧ wr.rowIs g 48 32 (bF (outF S t 0)) ∧ Below w.heap.size w wr) (fun i _ => 8 - (intOf i).toNat)
      case atStart => exact ⟨0, by omega, rfl, qs, rz2, ro.congr fun p _ => outF_zero S p, qB6⟩
      case round =>
        clear qs rz2 ro qB6
        obtain ⟨t, ht, rfl, qs, qz, qo, qB⟩ := hrel
        by_cases hlt : t < 8
        · have cs := qs.cell (i := t) hlt
          have it : (t : Int) < 8 := by omega
          go_wp2
          clear cs
          go_loopw [8, 9] (fun x k wr => ∃ j : Nat, j ≤ 4 ∧ k = .int .i64 (3 - (j : Int)) ∧ x = .int .u32 (uN (S t >>> (8 * j))) ∧ wr.rowIs w4.heap.size 92 8 (uF S) ∧ wr.rowIs w.heap.size 48 32 (bF fun _ => 0) ∧ wr.rowIs g 48 32 (bF (outF S t j)) ∧ Below w.heap.size w wr) (fun _ k _ => (intOf k + 1).toNat)
          case atStart => exact ⟨0, by omega, rfl, rfl, qs, qz, qo, qB⟩
          case round =>
            clear qs qz qo qB
            obtain ⟨j, hj, rfl, rfl, qs, qz, qo, qB⟩ := hrel
            by_cases hj4 : j < 4
            · obtain ⟨q, hq⟩ : ∃ q, 3 - j = q := ⟨_, rfl⟩
              have hz := dig_back S t j hj4
              have hd := dig_div (S t) j
              rw [hq] at hz
              obtain ⟨X, hX, hX2⟩ : ∃ X : Nat, X < 4294967296 ∧ uN (S t >>> (8 * j)) = (X : Int) := ⟨(S t >>> (8 * j)).toNat, (S t >>> (8 * j)).isLt, rfl⟩
              rw [hX2] at hz hd ⊢
              have hqi : (3 : Int) - (j : Int) = (q : Int) := by omega
              rw [hqi]
              have Hz := Lib.hid hz
              have Hd := Lib.hid hd
              have Hq := Lib.hid hq
              have Hqi := Lib.hid hqi
              have hq3 : q ≤ 3 := by omega
              clear hz hd hX2 hq hqi
              have co := qo.cell (i := 4 * t + q) (by omega)
              have fo := qo.frozen (4 * t + q)
              have i1 : 4 * (t : Int) + (q : Int) < 32 := by omega
              have i2 : (0 : Int) ≤ 4 * (t : Int) + (q : Int) := by omega
              go_wp2
              go_roundw
              case rel =>
                refine ⟨j + 1, by omega, ?_, by rw [← Hd.out], qs.setOther (by simp; omega) _, qz.setOther (by simp; omega) _, (qo.set (4 * t + q) _).congr fun p _ => ?_, qB.setCell (p := ⟨g, 4 * t + q, none⟩) (by simp; omega) _⟩
                · congr 1
                  have := Hqi.out
                  omega
                · have := outF_set S t j hj4 ((X : Int) % 256) (by rw [Hq.out]; exact Hz.out) p
                  rwa [Hq.out] at this
              case measure => simp only [intOf]; omega
            · obtain rfl : j = 4 := by omega
              go_wp2
              go_roundw
              case rel => exact ⟨t + 1, by omega, by go_num, qs, qz, qo.congr fun p _ => outF_next S t p, qB⟩
              case measure => simp [intOf]; omega
        · obtain rfl : t = 8 := by omega
          have hR := rangeAt_row qo
          go_wp2_with (first
            | (refine wpList_load_mid rfl 48 (.tmp 6) rfl g 0 rfl (rowA 32 (bF (outF S 8 0))).toList _ hR Tryd.underlying48 rfl (by rw [rowA_toList]; simpa using info31) ?_)
            | (refine wpList_store_mid rfl 48 (.tmp 2) (.tmp 53) rfl w.heap.size 0 (rowA 32 (bF (outF S 8 0))) rfl rfl (by rw [rowA_size]; exact there_row qz) (by rw [rowA_size]; exact info31) (rowA_one _ _ fun _ => rfl) ?_))
          refine bodyPost_ret (results_row rfl _ rfl (rowIs_setAll qz (bF (outF S 8 0))) Tryd.underlying48 info31) rfl ⟨?_, below_setCells _ (Nat.le_refl _) _ _ _ qB⟩
          rw [HD.out, HS.out]
          exact congrArg (fun z => Ending.returned (.agg z)) (rowA_congr fun i hi => by simp only [bF, outF]; rw [if_pos (by omega)])
end Go.Proofs.YtbejolbknimmmaaDoor
/- The reference's Of. -/
namespace Go.Proofs.YtbejolbknimmmaaDoor
open Go Go.RowKit
set_option maxRecDepth 8000
set_option linter.all false
theorem RSumB_cv (v : Value) (l : List UInt8) (D : Nat → UInt8) (w : World) (hT : Tables w) (hr : RdV w [] v l) (hl : l.length ≤ 900000) (hD : shaL Kc Fc l = D) : Cv 51 #[v] w (.eq (.agg (rowA 32 (bF D)))) := by
  rw [← hD]; exact Cv.of_eq (RSum_any v l w hT hr hl)
set_option maxHeartbeats 1000000 in
theorem ROf_cv (n : Int) (pv : Value) (ls : List (List UInt8)) (D : Nat → UInt8) (w : World) (hT : Tables w) (hp : Parts w pv ls) (hlen : ls.length ≤ 1000) (htot : ls.flatten.length ≤ 1000) (hD : shaL Kc Fc (ofL n ls) = D) :
    Cv 40 #[.int .i64 n, pv] w (.eq (.agg (rowA 32 (bF D)))) := by
  unfold Cv
  have HD := Lib.hid hD
  have HT := Lib.hid hT
  have Hp := Lib.hid hp
  have Hol := Lib.hid (ofL_length n ls)
  clear hT hp hD
  go_enter Tryd.func40, Tryd.ntmps40
  go_upto_region 1 with fail
  have r0 := rowIs_box w 48 32 (bF fun _ => 0)
  have hB0 := NewT.alloc w (.cells (rowA 32 (bF fun _ => 0)) 48)
  change Code.wp _ _ _ _ (w.alloc (.cells (rowA 32 (bF fun _ => 0)) 48))
  generalize w.alloc (.cells (rowA 32 (bF fun _ => 0)) 48) = W0 at r0 hB0 ⊢
  replace HT := Lib.hid (hB0.tables HT.out)
  replace Hp := Lib.hid (hB0.partsL Hp.out)
  refine wp_region_seq NewT [SV.eq (.int .i64 n), svParts ls, svRd (ofL n ls), SV.eq (.agg (rowA 32 (bF D)))] [([(0, none)], none), ([(1, none)], none), ([(5, some 0), (6, some 1)], none), ([(7, some 2)], none)] 9 rfl rfl (by kernel_rfl) rfl NewT.trans (NewT.refl _) (Nat.le_of_ble_eq_true rfl) ⟨?_, ?_, ?_, ?_, trivial⟩ ?_
  · -- 0: Op.move t0
    intro a wx hT hF K hK
    obtain ⟨f0, _⟩ := hF
    have f0 : a.tmps.getD 0 undef = .int .i64 n := f0
    refine rely_wp rfl ?_
    exact opr_move (.inl rfl) (hK _ _ (NewT.refl _) f0)
  · -- 1: Op.move t1
    intro a wx hT hF K hK
    obtain ⟨f1, _⟩ := hF
    have f1 : a.tmps.getD 1 undef = pv := f1
    refine rely_wp rfl ?_
    exact opr_move (.inl rfl) (hK _ _ (NewT.refl _) (by rw [eval_tmp, f1]; exact hT.partsL Hp.out))
  · -- 2: Op.call ( value (Operand.func 52), args := #[t5, t6], argTyp
    intro a wx hT hF K hK
    obtain ⟨f5, f6, _⟩ := hF
    have f5 : a.tmps.getD 5 undef = .int .i64 n := f5
    replace f6 := show (svParts ls).pred (a.tmps.getD 6 undef) wx from f6
    refine rely_wp rfl ?_
    exact opr_cv (RText_cv n _ ls wx f6 hlen htot) rfl Tryd.func52 (by kernel_rfl) (by kernel_rfl) (by simp only [List.map_toArray, List.map_cons, List.map_nil, eval_tmp, f5]) hK
  · -- 3: Op.call ( value (Operand.func 51), args := #[t7], argTypes :
    intro a wx hT hF K hK
    obtain ⟨f7, _⟩ := hF
    replace f7 := show (svRd (ofL n ls)).pred (a.tmps.getD 7 undef) wx from f7
    refine rely_wp rfl ?_
    exact opr_cv (RSumB_cv _ (ofL n ls) D wx (hT.tables HT.out) f7 (by have := Hol.out; omega) HD.out) rfl Tryd.func51 (by kernel_rfl) (by kernel_rfl) (by simp only [List.map_toArray, List.map_cons, List.map_nil, eval_tmp]) hK
  · intro wx hT
    intro u h; obtain rfl := h (by simp); clear h
    intro u6 h; have g6 := h (by simp); clear h; replace g6 := show (svParts ls).pred u6 wx from g6
    intro u7 h; have g7 := h (by simp); clear h; replace g7 := show (svRd (ofL n ls)).pred u7 wx from g7
    intro u h; obtain rfl := h (by simp); clear h
    refine relyEnd_nil rfl ?_
    simp only [Act.put, List.setIfInBounds_toArray, List.set_cons_zero, List.set_cons_succ]
    refine opr_store_new (B := w.heap.size) (W := w) info31 rfl rfl rfl (hT.row r0) (NewT.trans _ _ _ hB0 hT) (Nat.le_refl _) ?_
    intro w9 hB9 r9
    go_simp
    go_wp2
    exact bodyPost_ret (results_row rfl _ rfl r9 Tryd.underlying48 info31) rfl ⟨_, rfl, hB9, rfl⟩
end Go.Proofs.YtbejolbknimmmaaDoor
/- The document's answer for layer 9: the chain behind entries. -/
namespace Go.Proofs.YtbejolbknimmmaaDoor
open Go Go.RowKit
set_option maxRecDepth 8000
set_option linter.all false
set_option maxHeartbeats 2000000 in
theorem RChain_cv {nx : (Nat → UInt8) → List UInt8 → Nat → UInt8} (hX : LogH nx) (v0 : Value) (ls : List (List UInt8)) (w : World) (hT : Tables w) (hp : Parts w v0 ls) (hn : ls.length ≤ 100000) (hl : ∀ l ∈ ls, l.length ≤ 900) : Cv 23 #[v0] w (.eq (.agg (rowA 32 (bF (chL nx hash0 ls))))) := by
  unfold Cv
  have HT := Lib.hid hT
  have HA0 := Lib.hid hp
  have HLL := Lib.hid hl
  obtain ⟨A1, c1, e1', q1⟩ := parts_form hp
  subst e1'
  have r2 : ((w.alloc (.cells (rowA 32 (bF fun _ => 0)) 48)).alloc (.cells (rowA 32 (bF fun _ => 0)) 48)).rowIs w.heap.size 48 32 (bF fun _ => 0) := (rowIs_box w 48 32 (bF fun _ => 0)).alloc _
  have r3 := rowIs_box (w.alloc (.cells (rowA 32 (bF fun _ => 0)) 48)) 48 32 (bF fun _ => 0)
  rw [World.size_alloc] at r3
  have hN0 : NewT w ((w.alloc (.cells (rowA 32 (bF fun _ => 0)) 48)).alloc (.cells (rowA 32 (bF fun _ => 0)) 48)) := NewT.trans _ _ _ (NewT.alloc _ _) (NewT.alloc _ _)
  clear hT hp hl q1
  go_enter Tryd.func23, Tryd.ntmps23
  go_upto_region 2 with fail
  change Code.wp _ _ _ _ ((w.alloc (.cells (rowA 32 (bF fun _ => 0)) 48)).alloc (.cells (rowA 32 (bF fun _ => 0)) 48))
  generalize (w.alloc (.cells (rowA 32 (bF fun _ => 0)) 48)).alloc (.cells (rowA 32 (bF fun _ => 0)) 48) = W0 at r2 r3 hN0 ⊢
  have R20 := Lib.hid r2
  have R30 := Lib.hid r3
  have HN0 := Lib.hid hN0
  clear r2 r3 hN0
  go_wp2
  go_loopw [4] (fun i wr => ∃ (k : Nat) (d : Nat → UInt8), k ≤ ls.length ∧ i = .int .i64 (k : Int) ∧ Hid (wr.rowIs (w.heap.size + 1) 48 32 (bF d)) ∧ Hid (wr.rowIs w.heap.size 48 32 (bF fun _ => 0)) ∧ Hid (chL nx hash0 (ls.take k) = d) ∧ Hid (NewT w wr)) (fun i _ => ls.length - (intOf i).toNat)
  case atStart => exact ⟨0, hash0, by omega, rfl, R30, R20, Lib.hid rfl, HN0⟩
  case round =>
    obtain ⟨k, d, hk, rfl, R3, R2, HD, HN⟩ := hrel
    have HA := Lib.hid (HN.out.partsL HA0.out)
    by_cases hlt : k < ls.length
    · have it : (k : Int) < (ls.length : Int) := by omega
      obtain ⟨s, hx⟩ : ∃ s, ls[k]? = some s := ⟨_, List.getElem?_eq_getElem (by omega)⟩
      have HX := Lib.hid hx
      have HSN := Lib.hid (HLL.out s (List.mem_of_getElem? hx))
      have HTK : Hid (ls.take (k + 1) = ls.take k ++ [s]) := Lib.hid (by rw [List.take_add_one, hx]; rfl)
      clear hx
      go_upto_region 5 with fail
      obtain ⟨va, ea⟩ : ∃ v, Value.slice A1 ls.length c1 = v := ⟨_, rfl⟩
      rw [ea] at HA
      rw [ea]
      refine wp_region_rely (NewT) [svRd (digL (d)), SV.eq (va), SV.eq (.int .i64 ((k : Int))), svPT (s), svRd (s), svParts [digL (d), s], SV.eq (.agg (rowA 32 (bF (nx (d) (s)))))] [([(3, none)], none), ([(0, none)], none), ([(4, none)], none), ([(12, some 1), (13, some 2)], none), ([(14, some 3)], none), ([(11, some 0), (15, some 4)], none), ([(16, some 5)], none)] 19 rfl (by kernel_rfl) rfl (by kernel_rfl) (by kernel_rfl) rfl NewT.trans (NewT.drew _) (Nat.le_of_ble_eq_true rfl) ⟨?_, ?_, ?_, ?_, ?_, ?_, ?_, trivial⟩ ?_
      · exact fun a wx hT hF K hK => rely_wp rfl (opr_sliceH rfl hF.1 (hK _ _ (NewT.refl _) (rd_rowH (hT.row R3.out) (by decide) (fun j hj => by rw [Nat.zero_add]))))
      · exact fun a wx hT hF K hK => rely_wp rfl (opr_move (.inl rfl) (hK _ _ (NewT.refl _) hF.1))
      · exact fun a wx hT hF K hK => rely_wp rfl (opr_move (.inl rfl) (hK _ _ (NewT.refl _) hF.1))
      · intro a wx hT hF K hK
        obtain ⟨f12, f13, _⟩ := hF
        have f12 : a.tmps.getD 12 undef = va := f12
        have f13 : a.tmps.getD 13 undef = .int .i64 ((k : Int)) := f13
        refine rely_wp rfl ?_
        exact opr_idxT (i := k) (l := s) (HX.out) (rfl) rfl (by rw [eval_tmp, f12]; exact (hT.partsL HA.out)) f13 (fun v hv => hK v _ (NewT.refl _) hv)
      · exact fun a wx hT hF K hK => rely_wp rfl (opr_ldT rfl hF.1 (fun u hu => hK u _ (NewT.refl _) hu))
      · exact fun a wx hT hF K hK => rely_wp rfl (opr_bs2 rfl hF.1 hF.2.1 hK)
      · exact fun a wx hT hF K hK => rely_wp rfl (opr_cv (ROf_cv 5 _ [digL (d), s] (nx (d) (s)) wx (hT.tables (HN.out.tables HT.out)) hF.1 (by simp) (by simp [digL_length]; have := HSN.out; omega) (hX.of _ _)) rfl Tryd.func40 (by kernel_rfl) (by kernel_rfl) (evs2 rfl rfl) hK)
      · intro wc kc
        intro _ _
        iterate 2 (intro u h; obtain rfl := Eq.symm (h (by simp)); clear h)
        iterate 3 (intro _ _)
        intro u h; obtain rfl := Eq.symm (h (by simp)); clear h
        refine relyEnd_nil rfl ?_
        simp only [Act.put, List.setIfInBounds_toArray, List.set_cons_zero, List.set_cons_succ]
        refine opr_putm (F := bF (nx d s)) rfl rfl rfl (kc.row R3.out) (by decide) info31 (fun _ => rfl) (fun i hi => by rw [if_pos (by omega), Nat.sub_zero]) ?_
        intro w9 hR9 r9
        go_simp
        have R3' := Lib.hid r9
        have R2' := Lib.hid (hR9.row (by omega) (kc.row R2.out))
        have HN' := Lib.hid (NewT.rt (NewT.trans _ _ _ HN.out kc) hR9 (by omega))
        clear r9 hR9 kc R3 R2 HN HA
        subst ea
        go_wp2
        go_roundw
        case rel => exact ⟨k + 1, nx d s, by omega, by go_num, R3', R2', Lib.hid (by rw [HTK.out, chL_snoc, HD.out]), HN'⟩
        case measure => simp [intOf]; omega
    · obtain rfl : k = ls.length := by omega
      have hld := HD.out
      rw [List.take_length] at hld
      go_upto_region 6 with fail
      refine wp_region_lit ?_
      refine wpList_plain rfl (fun K hK => ?_)
      refine opr_load_hash rfl rfl R3.out (hK _ _ ?_)
      clear hK K
      simp only [Act.put, List.setIfInBounds_toArray, List.set_cons_zero, List.set_cons_succ]
      refine wpList_plain rfl (fun K hK => ?_)
      refine opr_putm (g := w.heap.size) (o0 := 0) (m := 32) (f := bF d) (F := bF d) rfl rfl rfl R2.out (by decide) info31 (fun _ => rfl) (fun i hi => by rw [if_pos (by omega), Nat.sub_zero]) ?_
      intro w9 hR9 r9
      refine hK _ _ ?_
      refine wpList_end rfl ?_
      simp only [Act.put, List.setIfInBounds_toArray, List.set_cons_zero, List.set_cons_succ]
      go_simp
      go_wp2
      rw [hld]
      exact bodyPost_ret (results_row rfl _ rfl r9 Tryd.underlying48 info31) rfl ⟨_, rfl, NewT.rt HN.out hR9 (Nat.le_refl _), rfl⟩
end Go.Proofs.YtbejolbknimmmaaDoor
/- LogChained, walked. -/
namespace Go.Proofs.YtbejolbknimmmaaDoor
open Go Go.RowKit
set_option maxRecDepth 8000
set_option linter.all false
section
variable {nx : (Nat → UInt8) → List UInt8 → Nat → UInt8}
theorem LogAt.blocks {w : World} {g dk room n : Nat} {v : Value} {es : List (List UInt8)} (h : LogAt nx w g dk v room es n) : ∀ k ∈ g :: dk :: v.ownBlock.toList, k < w.heap.size := fun k hk => by
  rcases List.mem_cons.1 hk with rfl | hk
  · exact h.row.lt
  · rcases List.mem_cons.1 hk with rfl | hk
    · exact h.disk.lt
    · exact (h.disk.own.lt k (by simpa using hk)).2
/-- Two logs that lie apart; the first one's step. -/
theorem two_left {w w' : World} {g dk h ek r n r' n' : Nat} {v v' u : Value} {es fs : List (List UInt8)} (hy : LogAt nx w h ek u r' fs n') (hS : LStep g dk v w w' v') (sep : ∀ k ∈ h :: ek :: u.ownBlock.toList, k ∉ g :: dk :: v.ownBlock.toList) :
    LogAt nx w' h ek u r' fs n' ∧ ∀ k ∈ h :: ek :: u.ownBlock.toList, k ∉ g :: dk :: v'.ownBlock.toList :=
  ⟨hy.keep hS.keep sep, fun k hk => own_apart2 (hy.blocks k hk) hS.own (sep k hk)⟩
theorem two_right {w w' : World} {g dk h ek r n r' n' : Nat} {v u u' : Value} {es fs : List (List UInt8)} (hx : LogAt nx w g dk v r es n) (hS : LStep h ek u w w' u') (sep : ∀ k ∈ h :: ek :: u.ownBlock.toList, k ∉ g :: dk :: v.ownBlock.toList) :
    LogAt nx w' g dk v r es n ∧ ∀ k ∈ h :: ek :: u'.ownBlock.toList, k ∉ g :: dk :: v.ownBlock.toList := by
  refine ⟨hx.keep hS.keep fun k hk hm => sep k hm hk, fun k hk hm => ?_⟩
  rcases List.mem_cons.1 hk with rfl | hk
  · exact sep _ (by simp) hm
  · rcases List.mem_cons.1 hk with rfl | hk
    · exact sep _ (by simp) hm
    · rcases hS.own with h | ⟨j, h1, h2⟩
      · exact sep k (by rw [h] at hk; simp [hk]) hm
      · have := hx.blocks k hm
        rw [h1] at hk
        simp at hk
        omega
theorem Sync_d (g dk : Nat) (v : Value) (room : Nat) (es : List (List UInt8)) (n : Nat) (w : World) (h : LogAt nx w g dk v room es n) : Calls Tryd.prog 30 #[.pointer (some ⟨dk, 0, none⟩)] w fun e w' => e = .returned (.tuple #[]) ∧ ∃ v', DStep dk v w w' v' ∧ LogAt nx w' g dk v' room es (encL nx mkL hash0 es).length :=
  (Sync_c dk v room _ n w h.disk).mono fun e w' ⟨he, v', hD, hA⟩ => ⟨he, v', hD, hD.row h.apart h.row, hA, h.ok, hD.apart h.row.lt h.apart, h.late⟩
end
set_option maxRecDepth 20000 in
set_option maxHeartbeats 4000000 in
theorem LogChained_walk (v0 : Value) (ls : List (List UInt8)) (w : World) (hT : Tables w) (h0 : Parts w v0 ls) : Calls Tryd.prog 7 #[v0] w fun e w' => e = .returned (.bool true) ∧ Below w.heap.size w w' := by
  obtain ⟨nx, hX⟩ := logH_ex
  obtain ⟨ps, h0, hps⟩ := h0
  have HT := Lib.hid hT
  have H1L : Hid (1 < w.heap.size) := Lib.hid hT.size
  have R0 := Lib.hid h0
  have HPS := Lib.hid hps
  obtain ⟨A1, c1, rfl, _⟩ := h0
  clear hT hps
  by_cases g1 : 12 < (ps.length : Int)
  · go_enter Tryd.func7, Tryd.ntmps7
    go_wp2_with (go_at_call 9; refine (alive9_c w HT.out).eq.mono ?_; rintro _ w1 ⟨rfl, hN1⟩)
    go_ret
    exact ⟨rfl, hN1⟩
  have hmax : ps.length ≤ 12 := by omega
  have HMAX := Lib.hid hmax
  have t0 : Hid True := Lib.hid trivial
  go_enter Tryd.func7, Tryd.ntmps7
  go_wp2_with (first
    | (go_at_call 9; refine (alive9_c w HT.out).eq.mono ?_; rintro _ w1 ⟨rfl, hN1⟩; have N1 : Hid (NewT w w1) := Lib.hid hN1; have Q1 := Lib.hid hN1.size; clear hN1)
    | (go_at_call 12; clear t0; refine (New_c 9000 (by omega) (by omega) w1).mono ?_; rintro _ w2 ⟨rfl, hN, hD2⟩; have H2 := Lib.hid hD2; have N2 := Lib.hid (NewT.trans _ _ _ N1.out hN); have Q2 := Lib.hid N2.out.out.size; have t1 : Hid True := Lib.hid trivial; clear hN hD2)
    | (go_at_call 12
       clear t1
       refine (New_c 9000 (by omega) (by omega) w2).mono ?_
       rintro _ w3 ⟨rfl, hN, hD3⟩
       have H3 := Lib.hid (H2.out.new hN)
       have C3 := Lib.hid hD3
       have N3 := Lib.hid (NewT.trans _ _ _ N2.out hN)
       have P3 : Hid (w2.heap.size ∉ w1.heap.size :: (Value.slice none 0 0).ownBlock.toList) := Lib.hid (by have := H2.out.lt; simp [Value.ownBlock]; omega)
       have t4 : Hid True := Lib.hid trivial
       clear hN hD3)
    | (go_at_call 11
       clear t4
       refine (Open_c hX w1.heap.size _ 9000 [] 0 w3 (HT.out.below N3.out.out) H3.out [] (again nx mkL hash0 [] (by simp)) (Nat.lt_of_lt_of_le H1L.out Q1.out)).mono ?_
       rintro _ w5 ⟨g5, v5, lv5, ps5, rfl, hg5, hD5, hL5, hps5, hP5⟩
       obtain ⟨A5, c5, rfl, _⟩ := parts_es (hP5 [] (by simp)) hps5
       have X5 := Lib.hid hL5
       have C5 := Lib.hid (C3.out.keep hD5.keep P3.out (by simp [Value.ownBlock]))
       have P5 : Hid (w2.heap.size ∉ g5 :: w1.heap.size :: v5.ownBlock.toList) := Lib.hid (by
         rw [List.mem_cons, not_or]
         exact ⟨by have := C3.out.lt; omega, hD5.apart C3.out.lt P3.out⟩)
       have N5 := Lib.hid (hD5.newT N3.out Q1.out)
       have t5 : Hid True := Lib.hid trivial
       clear hD5 hL5 hps5 hP5 hg5)
    | (go_at_call 11
       clear t5
       refine (Open_c hX w2.heap.size _ 9000 [] 0 w5 (HT.out.below N5.out.out) C5.out [] (again nx mkL hash0 [] (by simp)) (Nat.lt_of_lt_of_le H1L.out Q2.out)).mono ?_
       rintro _ w6 ⟨g6, v6, lv6, ps6, rfl, hg6, hD6, hL6, hps6, hP6⟩
       obtain ⟨A6, c6, rfl, _⟩ := parts_es (hP6 [] (by simp)) hps6
       have Y6 := Lib.hid hL6
       have X6 := Lib.hid (X5.out.keep hD6.keep (fun k hk hm => by
         have : k = w2.heap.size := by simpa [Value.ownBlock] using hm
         subst this
         exact P5.out hk))
       have S6 : Hid (∀ k ∈ g6 :: w2.heap.size :: v6.ownBlock.toList, k ∉ g5 :: w1.heap.size :: v5.ownBlock.toList) := Lib.hid (fun k hk hm => by
         have hlt := X5.out.blocks k hm
         rcases List.mem_cons.1 hk with rfl | hk
         · omega
         · rcases List.mem_cons.1 hk with rfl | hk
           · exact P5.out hm
           · rcases hD6.own with h | ⟨j, h1, h2⟩
             · rw [h] at hk; simp [Value.ownBlock] at hk
             · rw [h1] at hk; simp at hk; omega)
       have N6 := Lib.hid (hD6.newT N5.out Q2.out)
       clear hD6 hL6 hps6 hP6 hg6))
  go_loopw [11] (fun i wr => ∃ (k : Nat) (vx vy : Value) (m m' : Nat), k ≤ ps.length ∧ i = .int .i64 (k : Int) ∧ Hid (LogAt nx wr g5 w1.heap.size vx 9000 ((ps.take k).map (·.2)) m) ∧ Hid (LogAt nx wr g6 w2.heap.size vy 9000 ((ps.take k).map (·.2)) m') ∧ Hid (∀ k ∈ g6 :: w2.heap.size :: vy.ownBlock.toList, k ∉ g5 :: w1.heap.size :: vx.ownBlock.toList) ∧ Hid (∀ e ∈ (ps.take k).map (·.2), e.length ≤ 300) ∧ Hid (NewT w wr)) (fun i _ => ps.length - (intOf i).toNat)
  case atStart => exact ⟨0, v5, v6, _, _, by omega, rfl, X6, Y6, S6, Lib.hid (by simp), N6⟩
  case round =>
    obtain ⟨k, vx, vy, m, m', hk, rfl, HX, HY, HS, HE, HN⟩ := hrel
    clear X5 X6 Y6 S6 N6 N5 C5 P5 H2 N2 H3 N3 C3 P3
    by_cases hlt : k < ps.length
    · have it : (k : Int) < (ps.length : Int) := by omega
      obtain ⟨b, o, rfl, hb, hc⟩ := parts_cell R0.out (by omega)
      obtain ⟨x, hx⟩ : ∃ x, ps[k]? = some x := ⟨_, List.getElem?_eq_getElem hlt⟩
      have hxm := List.mem_of_getElem? hx
      have htk : ps.take (k + 1) = ps.take k ++ [x] := by rw [List.take_add_one, hx]; rfl
      obtain ⟨u, l⟩ := x
      have hxr : RdV w [] u l := parts_rd R0.out hxm
      have hc : w.cell? ⟨b, o + k, none⟩ = some u := hc k _ hx
      obtain ⟨A4, c4, rfl⟩ := rdV_form hxr
      have HXR := Lib.hid hxr
      have HC := Lib.hid hc
      have HB := Lib.hid hb
      have HTK := Lib.hid htk
      have hcell := cell_new HN.out hb hc
      clear hxr hc hx hb hxm htk
      by_cases h3 : 300 < (l.length : Int)
      · go_wp2
        go_ret
        exact ⟨rfl, HN.out⟩
      by_cases h0 : l = []
      · subst h0
        clear h3
        go_wp2
        go_ret
        exact ⟨rfl, HN.out⟩
      have hl0 : 0 < l.length := List.length_pos_iff.2 h0
      have hok : okE l := ⟨hl0, by omega⟩
      have h300 : l.length ≤ 300 := by omega
      have hdc : ((l.length : Int) == 0) = false := beq_eq_false_iff_ne.2 (by omega)
      obtain ⟨E, hE⟩ : ∃ E, (ps.take k).map (·.2) = E := ⟨_, rfl⟩
      rw [hE] at HX HY HE
      have hEl : E.length = k := by rw [← hE, List.length_map, List.length_take]; omega
      have hE2 : (ps.take (k + 1)).map (·.2) = E ++ [l] := by rw [HTK.out, List.map_append, hE]; rfl
      have hall : ∀ e ∈ E ++ [l], e.length ≤ 300 := fun e he => by
        rcases List.mem_append.1 he with he | he
        · exact HE.out e he
        · simp at he; subst he; exact h300
      have hfit : (encL nx mkL hash0 (E ++ [l])).length ≤ 9000 := by
        have hbd := encL_bound nx 300 (by omega) hash0 (E ++ [l]) hall
        have hlen : (E ++ [l]).length ≤ 13 := by rw [List.length_append]; simp only [List.length_cons, List.length_nil]; omega
        have := Nat.mul_le_mul_left 310 hlen
        omega
      have HFIT := Lib.hid hfit
      have HOK := Lib.hid hok
      have HE2 := Lib.hid hE2
      have HALL := Lib.hid hall
      obtain ⟨D, hD⟩ := hid_ex (chL nx hash0 (E ++ [l]))
      obtain ⟨q, hq⟩ := hid_ex (E ++ [l]).length
      have heq := run_eqHs D
      have s0 : Hid True := Lib.hid trivial
      clear h0 hok h300 hfit hE hE2 hall hEl
      go_wp2_with (first
        | (go_at_call 17
           refine (Append_ok hX g5 w1.heap.size vx 9000 E m _ l wr (HT.out.below HN.out.out) HX.out (HN.out.rd HXR.out) HOK.out HFIT.out).mono ?_
           rintro _ wa ⟨rfl, va, hS, hA⟩
           have Xa := Lib.hid hA
           have two := two_left (r := 9000) (n := m) (es := E) HY.out hS HS.out
           have Ya := Lib.hid two.1
           have Sa := Lib.hid two.2
           have Na := Lib.hid (hS.newT HN.out Q1.out)
           have hcella := cell_new Na.out HB.out HC.out
           clear hS hA hcell two)
        | (go_at_call 14
           clear hcella
           refine (Put_ok hX g6 w2.heap.size vy 9000 E m' _ l wa (HT.out.below Na.out.out) Ya.out (Na.out.rd HXR.out) HOK.out HFIT.out).mono ?_
           rintro _ wb ⟨rfl, vb, hS, hA⟩
           have Yb := Lib.hid hA
           have two := two_right (r' := 9000) (n' := m') (fs := E) Xa.out hS Sa.out
           have Xb := Lib.hid two.1
           have Sb := Lib.hid two.2
           have Nb := Lib.hid (hS.newT Na.out Q2.out)
           have s1 : Hid True := Lib.hid trivial
           clear hS hA two)
        | (go_at_call 22
           clear s1
           refine (Chain_c g5 _ _ _ _ _ wb Xb.out).eq.mono ?_
           rintro _ wc ⟨rfl, hN⟩
           rw [hD.out]
           have Nc := Lib.hid hN
           have s2 : Hid True := Lib.hid trivial
           clear hN)
        | (go_at_call 22
           clear s2
           refine (Chain_c g6 _ _ _ _ _ wc (Yb.out.new Nc.out)).eq.mono ?_
           rintro _ wd ⟨rfl, hN⟩
           rw [hD.out]
           have Nd := Lib.hid (NewT.trans _ _ _ Nc.out hN)
           have s3 : Hid True := Lib.hid trivial
           clear hN)
        | (go_at_call 21
           clear s3
           refine (Count_c g5 _ _ _ _ _ wd (Xb.out.new Nd.out)).eq.mono ?_
           rintro _ we ⟨rfl, hN⟩
           rw [hq.out]
           have Ne := Lib.hid (NewT.trans _ _ _ Nd.out hN)
           have s4 : Hid True := Lib.hid trivial
           clear hN)
        | (go_at_call 21
           clear s4
           refine (Count_c g6 _ _ _ _ _ we (Yb.out.new Ne.out)).eq.mono ?_
           rintro _ wf ⟨rfl, hN⟩
           rw [hq.out]
           have Nf := Lib.hid (NewT.trans _ _ _ Ne.out hN)
           clear hN))
      go_roundw
      case rel => exact ⟨k + 1, va, vb, _, _, by omega, by go_num, by rw [HE2.out]; exact Lib.hid (Xb.out.new Nf.out), by rw [HE2.out]; exact Lib.hid (Yb.out.new Nf.out), Sb, Lib.hid (by rw [HE2.out]; exact HALL.out), Lib.hid (NewT.trans _ _ _ Nb.out Nf.out)⟩
      case measure => simp [intOf]; omega
    · obtain rfl : k = ps.length := by omega
      rw [List.take_length, HPS.out] at HX HY HE
      obtain ⟨D, hD⟩ := hid_ex (chL nx hash0 ls)
      have hll : ls.length = ps.length := by rw [← HPS.out, List.length_map]
      have HFE : Hid (Fine9 ls) := Lib.hid ⟨by have := HMAX.out; omega, fun t ht => by have := HE.out t ht; omega⟩
      have HLN : Hid (ls.length ≤ 100000) := Lib.hid (by have := HMAX.out; omega)
      have HA0 : Hid (Parts w (.slice A1 ps.length c1) ls) := Lib.hid ⟨ps, R0.out, HPS.out⟩
      have heq := run_eqHs D
      have s0 : Hid True := Lib.hid trivial
      clear hll
      go_wp2_with (first
        | (go_at_call 30
           refine (Sync_d g6 w2.heap.size vy 9000 ls m' wr HY.out).mono ?_
           rintro _ wa ⟨rfl, va, hS, hA⟩
           have two := two_right (r' := 9000) (n' := m') (fs := ls) HX.out (LStep.of_d (g := g6) hS) HS.out
           have Xa := Lib.hid two.1
           have Sa := Lib.hid two.2
           have Ya := Lib.hid hA
           have Na := Lib.hid (hS.newT HN.out Q2.out)
           clear hS hA two)
        | (go_at_call 11
           refine (Open_c hX w2.heap.size va 9000 _ _ wa (HT.out.below Na.out.out) Ya.out.disk ls (again nx mkL hash0 ls Ya.out.ok) (Nat.lt_of_lt_of_le H1L.out Q2.out)).mono ?_
           rintro _ wb ⟨gb, vb, lvb, psb, rfl, hgb, hDb, hLb, hpsb, hPb⟩
           have hPb0 := hPb [] (by simp)
           obtain ⟨Ab, cb, rfl, _⟩ := parts_es hPb0 hpsb
           have HPb := Lib.hid (⟨psb, hPb0, hpsb⟩ : Parts wb _ ls)
           have Zb := Lib.hid hLb
           have Xb := Lib.hid (Xa.out.keep hDb.keep (fun k hk hm => Sa.out k (List.mem_cons_of_mem _ hm) hk))
           have Nb := Lib.hid (hDb.newT Na.out Q2.out)
           have s1 : Hid True := Lib.hid trivial
           clear hDb hLb hpsb hPb hPb0 hgb)
        | (go_at_call 22
           clear s1
           refine (Chain_c gb _ _ _ _ _ wb Zb.out).eq.mono ?_
           rintro _ wc ⟨rfl, hN⟩
           rw [hD.out]
           have Nc := Lib.hid hN
           have s2 : Hid True := Lib.hid trivial
           clear hN)
        | (go_at_call 22
           clear s2
           refine (Chain_c g5 _ _ _ _ _ wc (Xb.out.new Nc.out)).eq.mono ?_
           rintro _ wd ⟨rfl, hN⟩
           rw [hD.out]
           have Nd := Lib.hid (NewT.trans _ _ _ Nc.out hN)
           have s3 : Hid True := Lib.hid trivial
           clear hN)
        | (go_at_call 20
           refine (RSame9_cv _ _ ls ls wd (Nd.out.partsL HPb.out) ((NewT.trans _ _ _ Nb.out Nd.out).partsL HA0.out) HFE.out HFE.out).eq.mono ?_
           rintro _ we ⟨rfl, hN⟩
           rw [decide_eq_true rfl]
           have Ne := Lib.hid (NewT.trans _ _ _ Nd.out hN)
           clear hN)
        | (go_at_call 22
           clear s3
           refine (Chain_c g5 _ _ _ _ _ we (Xb.out.new Ne.out)).eq.mono ?_
           rintro _ wf ⟨rfl, hN⟩
           rw [hD.out]
           have Nf := Lib.hid (NewT.trans _ _ _ Ne.out hN)
           clear hN)
        | (go_at_call 23
           refine (RChain_cv hX _ ls wf ((NewT.trans _ _ _ Nb.out Nf.out).tables HT.out) ((NewT.trans _ _ _ Nb.out Nf.out).partsL HA0.out) HLN.out (fun l hl => by have := HE.out l hl; omega)).eq.mono ?_
           rintro _ wg ⟨rfl, hN⟩
           rw [hD.out]
           have Ng := Lib.hid (NewT.trans _ _ _ Nb.out (NewT.trans _ _ _ Nf.out hN))
           clear hN))
      go_ret
      exact ⟨rfl, Ng.out⟩
end Go.Proofs.YtbejolbknimmmaaDoor
