/- Rows of slices of bytes that a call makes: appends onto them. The texts themselves lay there ahead. -/
import Derived.Test.YtlnedphnphabkaaDoorMb
import Derived.Test.YtlnedphnphabkaaDoorMg
set_option linter.all false
namespace Go.Proofs.YtlnedphnphabkaaDoor
open Go Go.RowKit
set_option maxRecDepth 8000
set_option linter.all false
theorem infoT : (Tryd.prog.info? 23).map (fun i => (i.zero, i.size, i.bytes)) = some (some (.slice none 0 0), 1, 24) := by kernel_rfl
/-- A row of slices of the call's own, from block B on; what they read as, they read as in W0. -/
def OwnT (W0 W : World) (B : Nat) (v : Value) (ls : List (List UInt8)) : Prop := ∃ ps : List (Value × List UInt8), ps.map (·.2) = ls ∧ W.ownsRow B 23 1 v ps.length (ps.map (·.1)) ∧ ∀ x ∈ ps, RdV W0 [] x.1 x.2
/-- Slices one behind the other at W, that read as ls in W0. -/
def RowT (W0 W : World) (v : Value) (ls : List (List UInt8)) : Prop :=
  ∃ ps : List (Value × List UInt8), ps.map (·.2) = ls ∧ (∃ A cap, v = .slice A ps.length cap ∧ ps.length ≤ cap ∧ cap ≤ maxLen ∧ (0 < ps.length → ∃ b o, A = some ⟨b, o, none⟩ ∧ ∀ i x, ps[i]? = some x → W.cell? ⟨b, o + i, none⟩ = some x.1)) ∧ ∀ x ∈ ps, RdV W0 [] x.1 x.2
theorem RowT.parts {W0 W : World} {v : Value} {ls : List (List UInt8)} (h : RowT W0 W v ls) (hN : NewT W0 W) : Parts W v ls := by
  obtain ⟨ps, e, ⟨A, cap, hv, h1, h2, h3⟩, h4⟩ := h
  refine ⟨ps, ⟨A, cap, hv, h1, h2, fun h0 => ?_, fun x hx => hN.rd (h4 x hx)⟩, e⟩
  obtain ⟨b, o, hA, hc⟩ := h3 h0
  exact ⟨b, o, hA, by simp, hc⟩
theorem rowT_old {W0 W : World} {v : Value} {ls : List (List UInt8)} (h : Parts W0 v ls) (hN : NewT W0 W) : RowT W0 W v ls := by
  obtain ⟨ps, ⟨A, cap, hv, h1, h2, h3, h4⟩, e⟩ := h
  refine ⟨ps, e, ⟨A, cap, hv, h1, h2, fun h0 => ?_⟩, h4⟩
  obtain ⟨b, o, hA, _, hc⟩ := h3 h0
  exact ⟨b, o, hA, fun i x hx => (hN.out.cell (p := ⟨b, o + i, none⟩) (World.block_lt_of_cell? _ _ (hc i x hx))).trans (hc i x hx)⟩
theorem rowT_one {W0 W : World} {u : Value} {l : List UInt8} (h : RdV W0 [] u l) : RowT W0 (W.alloc (.cells #[u] 23)) (.slice (some ⟨W.heap.size, 0, none⟩) 1 1) [l] := by
  refine ⟨[(u, l)], rfl, ⟨_, 1, rfl, by simp, by unfold maxLen; omega, fun _ => ⟨W.heap.size, 0, rfl, fun i x hx => ?_⟩⟩, fun x hx => by simp at hx; subst hx; exact h⟩
  have hi : i < 1 := (List.getElem?_eq_some_iff.1 hx).1
  obtain rfl : i = 0 := by omega
  simp at hx
  subst hx
  simp [go_sem]
theorem OwnT.row {W0 W : World} {B : Nat} {v : Value} {ls : List (List UInt8)} (h : OwnT W0 W B v ls) : RowT W0 W v ls := by
  obtain ⟨ps, e, ho, h4⟩ := h
  refine ⟨ps, e, ?_, h4⟩
  rcases ho.2 with ⟨rfl, h0⟩ | ⟨g, cap, cur, rfl, hb, _, hnc, hcm, _, _⟩
  · exact ⟨none, 0, by rw [h0], by omega, by unfold maxLen; omega, fun h => by omega⟩
  · refine ⟨some ⟨g, 0, none⟩, cap, rfl, hnc, hcm, fun _ => ⟨g, 0, rfl, fun i x hx => ?_⟩⟩
    have hc := World.ownsRow.cells ho (g := g) rfl i x.1 (by simp [hx])
    rw [Addr.add_mid] at hc
    exact hc
theorem OwnT.new {W0 W W' : World} {B : Nat} {v : Value} {ls : List (List UInt8)} (h : OwnT W0 W B v ls) (hN : NewT W W') : OwnT W0 W' B v ls := by
  obtain ⟨ps, e, ⟨h1, h2⟩, h4⟩ := h
  refine ⟨ps, e, ⟨h1, ?_⟩, h4⟩
  rcases h2 with h2 | ⟨g, cap, cur, hv, hb, hg, r⟩
  · exact .inl h2
  · exact .inr ⟨g, cap, cur, hv, hb, (hN.out.block g (Array.getElem?_eq_some_iff.1 hg).1).trans hg, r⟩
theorem ownT_nil (W0 W : World) (B : Nat) : OwnT W0 W B (.slice none 0 0) [] := ⟨[], rfl, World.ownsRow_nil W B _ _, fun x hx => by simp at hx⟩
theorem run_bsT0 (w : World) : (Instr.buildSlice 22 0 #[]).run Tryd.prog w = .ok (.slice (some ⟨w.heap.size, 0, none⟩) 0 0) (w.alloc (.cells #[] 23)) := by kernel_rfl
theorem ownT_made (W0 w : World) : OwnT W0 (w.alloc (.cells #[] 23)) w.heap.size (.slice (some ⟨w.heap.size, 0, none⟩) 0 0) [] :=
  ⟨[], rfl, World.ownsRow_made w #[] 0 (Nat.le_refl _) (by unfold maxLen; omega) (by simp), fun x hx => by simp at hx⟩
theorem rdV_cell {W : World} {u : Value} {l : List UInt8} (h : RdV W [] u l) : u.oneCell' = true := by obtain ⟨A, c, rfl, _⟩ := h; rfl
theorem run_appT {W0 W : World} {B : Nat} {v u : Value} {l m : List (List UInt8)} (h : OwnT W0 W B v l) (hr : RowT W0 W u m) (hn : l.length + m.length ≤ 1000000) (hB : B ≤ W.heap.size) (ty : TypeId) :
    ∃ v' w', (Builtin.append_ #[22, 22] ty #[v, u]).run Tryd.prog W = .ok v' w' ∧ OwnT W0 w' B v' (l ++ m) ∧ Below B W w' := by
  obtain ⟨i0, hi, hz0, hz1, hz2⟩ := info_parts infoT
  obtain ⟨ps, rfl, ho, h4⟩ := h
  obtain ⟨qs, rfl, ⟨A, cap, rfl, h1, h2, h3⟩, h5⟩ := hr
  simp only [List.length_map] at hn
  cases A with
  | none =>
    have h0 : qs = [] := by
      cases qs with
      | nil => rfl
      | cons b l => obtain ⟨_, _, h, _⟩ := h3 (by simp); cases h
    subst h0
    refine ⟨v, W, ?_, ⟨ps, by simp, ho, h4⟩, Below.refl _ _⟩
    rcases ho.2 with ⟨rfl, h0⟩ | ⟨g, cap', cur, rfl, _, _, hnc, _⟩
    · simp [Builtin.append_, run_underlying Tryd.underlying22, sizeOf, typeInfo, hi, Builtin.lenOf, Builtin.firstCells]
    · simp [Builtin.append_, run_underlying Tryd.underlying22, sizeOf, typeInfo, hi, Builtin.lenOf, Builtin.firstCells, hnc, storeCells]
  | some ad =>
    have hcells : ∀ j u, (qs.map (·.1))[j]? = some u → W.cell? (ad.add j) = some u := fun j u hj => by
      have hlt : j < qs.length := by have := (List.getElem?_eq_some_iff.1 hj).1; simpa using this
      obtain ⟨b, o, hA, hc⟩ := h3 (by omega)
      cases hA
      rw [Addr.add_mid, hc j qs[j] (List.getElem?_eq_getElem hlt)]
      simpa [hlt] using hj
    obtain ⟨v', w', hrun, ho', hg, _⟩ := run_append_own (P := Tryd.prog) W B 22 ty 23 i0 _ 1 24 Tryd.underlying22 hi hz0 hz1 hz2 rfl (by omega) v ps.length (ps.map (·.1)) ho ad qs.length cap (qs.map (·.1)) (by simp) hcells (by intro u hu; obtain ⟨x, hx, rfl⟩ := List.mem_map.1 hu; exact rdV_cell (h5 x hx)) (by unfold maxLen; omega) (by omega) hB
    refine ⟨v', w', hrun, ⟨ps ++ qs, by simp, ?_, fun x hx => ?_⟩, (Below.refl _ W).grown hg hB (fun k hk => (World.ownsRow.lt ho k hk).1)⟩
    · rw [List.length_append, List.map_append]; exact ho'
    · rcases List.mem_append.1 hx with hx | hx
      · exact h4 x hx
      · exact h5 x hx
end Go.Proofs.YtlnedphnphabkaaDoor
/- The law ClashLong, walked: lists of other lengths have no clash, and one leaf's clash is that of the leaves. -/
namespace Go.Proofs.YtlnedphnphabkaaDoor
open Go Go.RowKit
set_option maxRecDepth 8000
set_option linter.all false
theorem opr_bs1T {a : Act} {w : World} {o : Oper} {K : Act → World → Prop} {Q : Exit → Act → World → Prop} {W0 : World} {x : Operand} {l : List UInt8} (ho : o.op = .buildSlice 22 1 #[(0, x)]) (hx : RdV W0 [] (a.eval x) l) (h : ∀ v w', NewT w w' → RowT W0 w' v [l] → K (a.put o.dst v) w') : o.wp Tryd.prog a w K Q := by
  obtain ⟨A, c, hv⟩ := rdV_form hx
  obtain ⟨dst, op, type, pos, after, guard⟩ := o
  simp only at ho
  subst ho
  rw [hv] at hx
  exact opr_val (s := Instr.buildSlice 22 1 #[(0, a.eval x)]) (by simp [execOp]) (by rw [hv]; exact run_bs1 A _ c w) (h _ _ (NewT.alloc _ _) (rowT_one hx))
theorem ext_one {sm : Tx → Tx} {s t : Tx} {c : Tx × Tx} (h : extM sm [s] [t] = some c) : c = (0 :: s, 0 :: t) := by
  rw [extM] at h
  split at h
  · cases h
  · rw [dif_pos (by simp)] at h
    simp at h
    exact h.symm
set_option maxHeartbeats 4000000 in
theorem ClashLong_walk (va vx : Value) (x : List Tx) (t : Tx) (w : World) (hT : Tables w) (ha : Parts w va x) (hs : RdV w [] vx t) : Calls Tryd.prog 8 #[va, vx] w fun e w' => e = .returned (.bool true) ∧ Below w.heap.size w w' := by
  obtain ⟨node, z, lf, sm, hC⟩ := clash_ex
  have HT := Lib.hid hT
  have HA := Lib.hid ha
  have HS := Lib.hid hs
  have HN := Lib.hid (NewT.refl w)
  clear hT ha hs
  go_enter Tryd.func8, Tryd.ntmps8
  go_upto_region 3 with (go_at_call 9; refine (alive7_any _ HT.out).mono ?_; rintro _ w1 ⟨rfl, hA1⟩)
  have hn1 := NewT.of hA1
  replace HA := Lib.hid (hn1.partsL HA.out)
  replace HS := Lib.hid (hn1.rd HS.out)
  replace HT := Lib.hid (hn1.tables HT.out)
  replace HN := Lib.hid (NewT.trans _ _ _ HN.out hn1)
  clear hn1
  clear hA1
  obtain ⟨q1_3, Q1_3⟩ : ∃ bq_, ((greatB x) || (decide (300 < ((List.length (t) : Int))))) = bq_ := ⟨_, rfl⟩
  obtain ⟨q2_3, Q2_3⟩ : ∃ bq_, (q1_3 || (((List.length (x) : Int)) == 0)) = bq_ := ⟨_, rfl⟩
  refine wp_region_steps0 NewT [SV.eq (va), SV.eq (.bool (greatB x)), SV.eq (.bool (greatB x)), svIf ((!(greatB x))) (SV.eq (vx)), svIf ((!(greatB x))) (SV.eq (.int .i64 ((List.length (t) : Int)))), svIf ((!(greatB x))) (SV.eq (.bool (decide (300 < ((List.length (t) : Int)))))), SV.eq (.bool (q1_3)), SV.eq (.bool (q1_3)), svIf ((!q1_3)) (SV.eq (va)), svIf ((!q1_3)) (SV.eq (.int .i64 ((List.length (x) : Int)))), svIf ((!q1_3)) (SV.eq (.bool (((List.length (x) : Int)) == 0))), SV.eq (.bool (q2_3))] [([(0, none)], none), ([(14, some 0)], none), ([(15, some 1)], none), ([(1, none), (16, some 2)], some (16, false)), ([(17, some 3), (16, some 2)], some (16, false)), ([(18, some 4), (16, some 2)], some (16, false)), ([(16, some 2), (19, some 5)], none), ([(20, some 6)], none), ([(0, none), (21, some 7)], some (21, false)), ([(22, some 8), (21, some 7)], some (21, false)), ([(23, some 9), (21, some 7)], some (21, false)), ([(21, some 7), (24, some 10)], none)] 86 12 rfl rfl (by kernel_rfl) NewT.trans (NewT.refl _) (Nat.le_of_ble_eq_true rfl) ⟨?_, ?_, ?_, ?_, ?_, ?_, ?_, ?_, ?_, ?_, ?_, ?_, trivial⟩ ?_
  · intro a wx hT hF K hK
    obtain ⟨f0, _⟩ := hF
    have f0 : a.tmps.getD 0 undef = va := f0
    refine rely_wp rfl ?_
    exact opr_move (.inl rfl) (hK _ _ (NewT.refl _) f0)
  · intro a wx hT hF K hK
    obtain ⟨f14, _⟩ := hF
    have f14 : a.tmps.getD 14 undef = va := f14
    refine rely_wp rfl ?_
    exact opr_cv (great_cv _ x wx (hT.partsL HA.out)) rfl Tryd.func10 (by kernel_rfl) (by kernel_rfl) (by simp only [List.map_toArray, List.map_cons, List.map_nil, eval_tmp, f14]) hK
  · intro a wx hT hF K hK
    obtain ⟨f15, _⟩ := hF
    have f15 : a.tmps.getD 15 undef = .bool (greatB x) := f15
    refine rely_wp rfl ?_
    exact opr_move (.inl rfl) (hK _ _ (NewT.refl _) f15)
  · intro a wx hT hF K hK
    obtain ⟨f1, f16, _⟩ := hF
    have f1 : a.tmps.getD 1 undef = vx := f1
    have f16 : a.tmps.getD 16 undef = .bool (greatB x) := f16
    refine rely_if (rely_gf f16) (NewT.refl _) hK (fun hE hK => ?_)
    exact opr_move (.inl rfl) (hK _ _ (NewT.refl _) f1)
  · intro a wx hT hF K hK
    obtain ⟨f17, f16, _⟩ := hF
    have f17 : ((!(greatB x))) = true → a.tmps.getD 17 undef = vx := f17
    have f16 : a.tmps.getD 16 undef = .bool (greatB x) := f16
    refine rely_if (rely_gf f16) (NewT.refl _) hK (fun hE hK => ?_)
    exact opr_len_rd rfl (by rw [eval_tmp, (f17 hE)]; exact (hT.rd HS.out)) (hK _ _ (NewT.refl _) rfl)
  · intro a wx hT hF K hK
    obtain ⟨f18, f16, _⟩ := hF
    have f18 : ((!(greatB x))) = true → a.tmps.getD 18 undef = .int .i64 ((List.length (t) : Int)) := f18
    have f16 : a.tmps.getD 16 undef = .bool (greatB x) := f16
    refine rely_if (rely_gf f16) (NewT.refl _) hK (fun hE hK => ?_)
    exact opr_cmp (b := decide (300 < ((List.length (t) : Int)))) (.inr (.inr (.inr (.inr (.inl ⟨rfl, rfl⟩))))) Tryd.underlying3 rfl (f18 hE) rfl (hK _ _ (NewT.refl _) rfl)
  · intro a wx hT hF K hK
    obtain ⟨f16, f19, _⟩ := hF
    have f16 : a.tmps.getD 16 undef = .bool (greatB x) := f16
    have f19 : ((!(greatB x))) = true → a.tmps.getD 19 undef = .bool (decide (300 < ((List.length (t) : Int)))) := f19
    refine rely_wp rfl ?_
    exact opr_pick_b rfl f16 (fun hb => hK _ _ (NewT.refl _) (pn_or1 Q1_3 hb)) (fun hb => hK _ _ (NewT.refl _) (pn_or0 Q1_3 (f19 (bnot hb)) hb))
  · intro a wx hT hF K hK
    obtain ⟨f20, _⟩ := hF
    have f20 : a.tmps.getD 20 undef = .bool (q1_3) := f20
    refine rely_wp rfl ?_
    exact opr_move (.inl rfl) (hK _ _ (NewT.refl _) f20)
  · intro a wx hT hF K hK
    obtain ⟨f0, f21, _⟩ := hF
    have f0 : a.tmps.getD 0 undef = va := f0
    have f21 : a.tmps.getD 21 undef = .bool (q1_3) := f21
    refine rely_if (rely_gf f21) (NewT.refl _) hK (fun hE hK => ?_)
    exact opr_move (.inl rfl) (hK _ _ (NewT.refl _) f0)
  · intro a wx hT hF K hK
    obtain ⟨f22, f21, _⟩ := hF
    have f22 : ((!q1_3)) = true → a.tmps.getD 22 undef = va := f22
    have f21 : a.tmps.getD 21 undef = .bool (q1_3) := f21
    refine rely_if (rely_gf f21) (NewT.refl _) hK (fun hE hK => ?_)
    exact opr_len_parts rfl (by rw [eval_tmp, (f22 hE)]; exact (hT.partsL HA.out)) (hK _ _ (NewT.refl _) rfl)
  · intro a wx hT hF K hK
    obtain ⟨f23, f21, _⟩ := hF
    have f23 : ((!q1_3)) = true → a.tmps.getD 23 undef = .int .i64 ((List.length (x) : Int)) := f23
    have f21 : a.tmps.getD 21 undef = .bool (q1_3) := f21
    refine rely_if (rely_gf f21) (NewT.refl _) hK (fun hE hK => ?_)
    exact opr_cmp (b := ((List.length (x) : Int)) == 0) (.inl ⟨rfl, rfl⟩) Tryd.underlying3 rfl (f23 hE) rfl (hK _ _ (NewT.refl _) rfl)
  · intro a wx hT hF K hK
    obtain ⟨f21, f24, _⟩ := hF
    have f21 : a.tmps.getD 21 undef = .bool (q1_3) := f21
    have f24 : ((!q1_3)) = true → a.tmps.getD 24 undef = .bool (((List.length (x) : Int)) == 0) := f24
    refine rely_wp rfl ?_
    exact opr_pick_b rfl f21 (fun hb => hK _ _ (NewT.refl _) (pn_or1 Q2_3 hb)) (fun hb => hK _ _ (NewT.refl _) (pn_or0 Q2_3 (f24 (bnot hb)) hb))
  · intro w2 k2
    intro u h; obtain rfl := Eq.symm (h (by simp)); clear h
    intro u h; obtain rfl := Eq.symm (h (by simp)); clear h
    intro u h; obtain rfl := Eq.symm (h (by simp)); clear h
    intro _ _
    intro _ _
    intro _ _
    intro u h; obtain rfl := Eq.symm (h (by simp)); clear h
    intro u h; obtain rfl := Eq.symm (h (by simp)); clear h
    intro _ _
    intro _ _
    intro _ _
    intro u h; obtain rfl := Eq.symm (h (by simp)); clear h
    subst Q2_3 Q1_3
    refine relyEnd_nil rfl ?_
    refine wpList_end rfl ?_
    simp only [Act.put, List.setIfInBounds_toArray, List.set_cons_zero, List.set_cons_succ]
    go_simp
    replace HA := Lib.hid (k2.partsL HA.out)
    replace HS := Lib.hid (k2.rd HS.out)
    replace HT := Lib.hid (k2.tables HT.out)
    replace HN := Lib.hid (NewT.trans _ _ _ HN.out k2)
    clear k2
    obtain ⟨qq, hqq⟩ : ∃ b_, ((((greatB x) || (decide (300 < ((List.length (t) : Int))))) || (((List.length (x) : Int)) == 0))) = b_ := ⟨_, rfl⟩
    rw [hqq]
    cases qq
    rotate_left
    · clear hqq
      go_wp2
      go_ret
      exact ⟨rfl, HN.out.out⟩
    · have hg : greatB x = false ∧ t.length ≤ 300 ∧ 1 ≤ x.length := by
        cases hgb : greatB x
        · rw [hgb] at hqq
          simp at hqq
          obtain ⟨h1, h2⟩ := hqq
          refine ⟨rfl, by omega, ?_⟩
          rcases Nat.eq_zero_or_pos x.length with h0 | h0
          · exact absurd (List.eq_nil_of_length_eq_zero h0) h2
          · exact h0
        · rw [hgb] at hqq; simp at hqq
      have HFx := Lib.hid (great_Fine hg.1)
      have HTN := Lib.hid hg.2.1
      have HLN := Lib.hid hg.2.2
      obtain ⟨s, hx⟩ : ∃ d, x[0]? = some d := ⟨_, List.getElem?_eq_getElem hg.2.2⟩
      have HX := Lib.hid hx
      have HSN := Lib.hid (HFx.out.each s (List.mem_of_getElem? hx))
      have HTK : Hid (List.take 1 x = [s]) := Lib.hid (by
        cases x with
        | nil => simp at hx
        | cons a l => simp at hx; subst hx; rfl)
      have HF1 : Hid (Fine [t]) := Lib.hid ⟨by simp, fun a ha => by simp at ha; subst ha; have := HTN.out; omega⟩
      have HFM : Hid (Fine (x ++ [t])) := Lib.hid ⟨by have := (great_fine hg.1).1; simp; omega, fun a ha => by
        rcases List.mem_append.1 ha with h | h
        · exact HFx.out.each a h
        · exact HF1.out.each a h⟩
      have HE1 : Hid (∀ w, Tables w → ∀ va vb, Parts w va x → Parts w vb (x ++ [t]) → Cv 11 #[va, vb] w (svT2 ([] : List UInt8) ([] : List UInt8) false)) := Lib.hid fun w hT va vb h1 h2 => by
        have h := Extract_cv hC w hT va vb x (x ++ [t]) h1 h2 HFx.out HFM.out
        rw [ext_none (.inl (by simp))] at h; exact h
      clear hqq hg hx
      go_upto_region 5 with fail
      refine wp_region_lit ?_
      refine wpList_plain rfl (fun K hK => ?_)
      refine opr_val (s := Instr.buildSlice 22 0 #[]) (by simp [execOp]) (run_bsT0 _) (hK _ _ ?_)
      clear hK K
      simp only [Act.put, List.setIfInBounds_toArray, List.set_cons_zero, List.set_cons_succ]
      refine wpList_plain rfl (fun K hK => ?_)
      refine opr_move (.inl rfl) (hK _ _ ?_)
      clear hK K
      simp only [Act.put, List.setIfInBounds_toArray, List.set_cons_zero, List.set_cons_succ]
      have n1 := NewT.alloc w2 (.cells #[] 23)
      have o1 := ownT_made w2 w2
      generalize w2.alloc (.cells #[] 23) = W1 at n1 o1 ⊢
      refine wpList_plain rfl (fun K hK => ?_)
      obtain ⟨v1, w3, hrun, h2, h3⟩ := run_appT o1 (rowT_old HA.out n1) (by have := HFx.out.len; simp; omega) n1.out.size 22
      refine opr_append rfl rfl rfl hrun (hK _ _ ?_)
      clear hK K
      simp only [Act.put, List.setIfInBounds_toArray, List.set_cons_zero, List.set_cons_succ]
      rw [List.nil_append] at h2
      have n3 : NewT w2 w3 := NewT.of (n1.out.trans h3)
      refine wpList_plain rfl (fun K hK => ?_)
      refine opr_move (.inl rfl) (hK _ _ ?_)
      clear hK K
      simp only [Act.put, List.setIfInBounds_toArray, List.set_cons_zero, List.set_cons_succ]
      refine wpList_plain rfl (fun K hK => ?_)
      refine opr_bs1T (W0 := w2) rfl (show RdV w2 [] vx t from HS.out) ?_
      intro v4 w4 n4 r4
      refine hK _ _ ?_
      clear hK K
      simp only [Act.put, List.setIfInBounds_toArray, List.set_cons_zero, List.set_cons_succ]
      refine wpList_plain rfl (fun K hK => ?_)
      obtain ⟨v5, w5, hrun2, h5, h6⟩ := run_appT (h2.new n4) r4 (by have := HFx.out.len; simp; omega) (NewT.trans _ _ _ n3 n4).out.size 22
      refine opr_append rfl rfl rfl hrun2 (hK _ _ ?_)
      clear hK K
      simp only [Act.put, List.setIfInBounds_toArray, List.set_cons_zero, List.set_cons_succ]
      refine wpList_plain rfl (fun K hK => ?_)
      refine opr_move (.inr rfl) (hK _ _ ?_)
      refine wpList_end rfl ?_
      simp only [Act.put, List.setIfInBounds_toArray, List.set_cons_zero, List.set_cons_succ]
      go_simp
      have n5 : NewT w2 w5 := NewT.of ((NewT.trans _ _ _ n3 n4).out.trans h6)
      have H5 := Lib.hid (h5.row.parts n5)
      replace HA := Lib.hid (n5.partsL HA.out)
      replace HS := Lib.hid (n5.rd HS.out)
      replace HT := Lib.hid (n5.tables HT.out)
      replace HN := Lib.hid (NewT.trans _ _ _ HN.out n5)
      clear n5
      clear h5 h6 hrun2 r4 n4 n3 h2 h3 hrun o1 n1
      go_upto_region 6 with fail
      refine wp_region_steps0 NewT [SV.eq (va), SV.eq (v5), svT2 (([] : List UInt8)) (([] : List UInt8)) false, svT2 (([] : List UInt8)) (([] : List UInt8)) false, svRd (([] : List UInt8)), svRd (([] : List UInt8)), SV.eq (.bool false), svRd (([] : List UInt8)), svRd (([] : List UInt8)), SV.eq (.bool false)] [([(0, none)], none), ([(5, none)], none), ([(33, some 0), (34, some 1)], none), ([(35, some 2)], none), ([(32, some 3)], none), ([(32, some 3)], none), ([(32, some 3)], none), ([(36, some 4)], none), ([(37, some 5)], none), ([(38, some 6)], none)] 86 10 rfl rfl (by kernel_rfl) NewT.trans (NewT.refl _) (Nat.le_of_ble_eq_true rfl) ⟨?_, ?_, ?_, ?_, ?_, ?_, ?_, ?_, ?_, ?_, trivial⟩ ?_
      · intro a wx hT hF K hK
        obtain ⟨f0, _⟩ := hF
        have f0 : a.tmps.getD 0 undef = va := f0
        refine rely_wp rfl ?_
        exact opr_move (.inl rfl) (hK _ _ (NewT.refl _) f0)
      · intro a wx hT hF K hK
        obtain ⟨f5, _⟩ := hF
        have f5 : a.tmps.getD 5 undef = v5 := f5
        refine rely_wp rfl ?_
        exact opr_move (.inl rfl) (hK _ _ (NewT.refl _) f5)
      · intro a wx hT hF K hK
        obtain ⟨f33, f34, _⟩ := hF
        have f33 : a.tmps.getD 33 undef = va := f33
        have f34 : a.tmps.getD 34 undef = v5 := f34
        refine rely_wp rfl ?_
        exact opr_cv (HE1.out wx (hT.tables HT.out) va v5 (hT.partsL HA.out) (hT.partsL H5.out)) rfl Tryd.func11 (by kernel_rfl) (by kernel_rfl) (by simp only [List.map_toArray, List.map_cons, List.map_nil, eval_tmp, f33, f34]) hK
      · intro a wx hT hF K hK
        obtain ⟨f35, _⟩ := hF
        replace f35 := show (svT2 (([] : List UInt8)) (([] : List UInt8)) false).pred (a.tmps.getD 35 undef) wx from f35
        refine rely_wp rfl ?_
        exact opr_move (.inl rfl) (hK _ _ (NewT.refl _) f35)
      · intro a wx hT hF K hK
        obtain ⟨f32, _⟩ := hF
        replace f32 := show (svT2 (([] : List UInt8)) (([] : List UInt8)) false).pred (a.tmps.getD 32 undef) wx from f32
        refine rely_wp rfl ?_
        exact opr_extT0 rfl f32 (fun u hu => hK u _ (NewT.refl _) hu)
      · intro a wx hT hF K hK
        obtain ⟨f32, _⟩ := hF
        replace f32 := show (svT2 (([] : List UInt8)) (([] : List UInt8)) false).pred (a.tmps.getD 32 undef) wx from f32
        refine rely_wp rfl ?_
        exact opr_extT1 rfl f32 (fun u hu => hK u _ (NewT.refl _) hu)
      · intro a wx hT hF K hK
        obtain ⟨f32, _⟩ := hF
        replace f32 := show (svT2 (([] : List UInt8)) (([] : List UInt8)) false).pred (a.tmps.getD 32 undef) wx from f32
        refine rely_wp rfl ?_
        exact opr_extT2 rfl f32 (hK _ _ (NewT.refl _) rfl)
      · intro a wx hT hF K hK
        obtain ⟨f36, _⟩ := hF
        replace f36 := show (svRd (([] : List UInt8))).pred (a.tmps.getD 36 undef) wx from f36
        refine rely_wp rfl ?_
        exact opr_move (.inr rfl) (hK _ _ (NewT.refl _) f36)
      · intro a wx hT hF K hK
        obtain ⟨f37, _⟩ := hF
        replace f37 := show (svRd (([] : List UInt8))).pred (a.tmps.getD 37 undef) wx from f37
        refine rely_wp rfl ?_
        exact opr_move (.inr rfl) (hK _ _ (NewT.refl _) f37)
      · intro a wx hT hF K hK
        obtain ⟨f38, _⟩ := hF
        have f38 : a.tmps.getD 38 undef = .bool false := f38
        refine rely_wp rfl ?_
        exact opr_move (.inr rfl) (hK _ _ (NewT.refl _) f38)
      · intro w6 k6
        intro u h; obtain rfl := Eq.symm (h (by simp)); clear h
        intro u h; obtain rfl := Eq.symm (h (by simp)); clear h
        intro _ _
        intro _ _
        intro _ _
        intro _ _
        intro u h; obtain rfl := Eq.symm (h (by simp)); clear h
        intro _ _
        intro _ _
        intro u h; obtain rfl := Eq.symm (h (by simp)); clear h
        refine relyEnd_nil rfl ?_
        refine wpList_end rfl ?_
        simp only [Act.put, List.setIfInBounds_toArray, List.set_cons_zero, List.set_cons_succ]
        go_simp
        replace HA := Lib.hid (k6.partsL HA.out)
        replace HS := Lib.hid (k6.rd HS.out)
        replace HT := Lib.hid (k6.tables HT.out)
        replace HN := Lib.hid (NewT.trans _ _ _ HN.out k6)
        clear k6
        clear H5
        cases he : extM sm (List.take 1 x) [t] with
        | some cc =>
          have hec := he
          rw [HTK.out] at hec
          obtain rfl := ext_one hec
          have HIS : Hid (isB sm (0 :: s) (0 :: t) = true) := Lib.hid ((isB_iff _ _ _).2 (extM_clash hC.len _ _ _ _ _ (Nat.le_refl _) he))
          have HE2 : Hid (∀ w, Tables w → ∀ va vb, Parts w va (List.take 1 x) → Parts w vb [t] → Cv 11 #[va, vb] w (svT2 (0 :: s) (0 :: t) true)) := Lib.hid fun w hT va vb h1 h2 => by
            have h := Extract_cv hC w hT va vb (List.take 1 x) [t] h1 h2 (HFx.out.take _) HF1.out
            rw [he] at h; exact h
          clear he hec
          go_upto_region 7 with fail
          refine wp_region_steps0 NewT [SV.eq (va), svParts (List.take 1 x), svRd (t), svParts [t], svT2 ((0 :: s)) ((0 :: t)) true, svT2 ((0 :: s)) ((0 :: t)) true, svRd ((0 :: s)), svRd ((0 :: t)), SV.eq (.bool true), svRd ((0 :: s)), svRd ((0 :: t)), SV.eq (.bool true)] [([(0, none)], none), ([(40, some 0)], none), ([(1, none)], none), ([(42, some 2)], none), ([(41, some 1), (43, some 3)], none), ([(44, some 4)], none), ([(39, some 5)], none), ([(39, some 5)], none), ([(39, some 5)], none), ([(45, some 6)], none), ([(46, some 7)], none), ([(47, some 8)], none)] 86 12 rfl rfl (by kernel_rfl) NewT.trans (NewT.refl _) (Nat.le_of_ble_eq_true rfl) ⟨?_, ?_, ?_, ?_, ?_, ?_, ?_, ?_, ?_, ?_, ?_, ?_, trivial⟩ ?_
          · intro a wx hT hF K hK
            obtain ⟨f0, _⟩ := hF
            have f0 : a.tmps.getD 0 undef = va := f0
            refine rely_wp rfl ?_
            exact opr_move (.inl rfl) (hK _ _ (NewT.refl _) f0)
          · intro a wx hT hF K hK
            obtain ⟨f40, _⟩ := hF
            have f40 : a.tmps.getD 40 undef = va := f40
            refine rely_wp rfl ?_
            exact opr_toT (k := 1) (HLN.out) (rfl) rfl (by rw [eval_tmp, f40]; exact (hT.partsL HA.out)) rfl (fun v hv => hK v _ (NewT.refl _) hv)
          · intro a wx hT hF K hK
            obtain ⟨f1, _⟩ := hF
            have f1 : a.tmps.getD 1 undef = vx := f1
            refine rely_wp rfl ?_
            exact opr_move (.inl rfl) (hK _ _ (NewT.refl _) (by rw [eval_tmp, f1]; exact hT.rd HS.out))
          · intro a wx hT hF K hK
            obtain ⟨f42, _⟩ := hF
            replace f42 := show (svRd (t)).pred (a.tmps.getD 42 undef) wx from f42
            refine rely_wp rfl ?_
            exact opr_bs1 rfl f42 hK
          · intro a wx hT hF K hK
            obtain ⟨f41, f43, _⟩ := hF
            replace f41 := show (svParts (List.take 1 x)).pred (a.tmps.getD 41 undef) wx from f41
            replace f43 := show (svParts [t]).pred (a.tmps.getD 43 undef) wx from f43
            refine rely_wp rfl ?_
            exact opr_cv (HE2.out wx (hT.tables HT.out) _ _ f41 f43) rfl Tryd.func11 (by kernel_rfl) (by kernel_rfl) (by simp only [List.map_toArray, List.map_cons, List.map_nil, eval_tmp]) hK
          · intro a wx hT hF K hK
            obtain ⟨f44, _⟩ := hF
            replace f44 := show (svT2 ((0 :: s)) ((0 :: t)) true).pred (a.tmps.getD 44 undef) wx from f44
            refine rely_wp rfl ?_
            exact opr_move (.inl rfl) (hK _ _ (NewT.refl _) f44)
          · intro a wx hT hF K hK
            obtain ⟨f39, _⟩ := hF
            replace f39 := show (svT2 ((0 :: s)) ((0 :: t)) true).pred (a.tmps.getD 39 undef) wx from f39
            refine rely_wp rfl ?_
            exact opr_extT0 rfl f39 (fun u hu => hK u _ (NewT.refl _) hu)
          · intro a wx hT hF K hK
            obtain ⟨f39, _⟩ := hF
            replace f39 := show (svT2 ((0 :: s)) ((0 :: t)) true).pred (a.tmps.getD 39 undef) wx from f39
            refine rely_wp rfl ?_
            exact opr_extT1 rfl f39 (fun u hu => hK u _ (NewT.refl _) hu)
          · intro a wx hT hF K hK
            obtain ⟨f39, _⟩ := hF
            replace f39 := show (svT2 ((0 :: s)) ((0 :: t)) true).pred (a.tmps.getD 39 undef) wx from f39
            refine rely_wp rfl ?_
            exact opr_extT2 rfl f39 (hK _ _ (NewT.refl _) rfl)
          · intro a wx hT hF K hK
            obtain ⟨f45, _⟩ := hF
            replace f45 := show (svRd ((0 :: s))).pred (a.tmps.getD 45 undef) wx from f45
            refine rely_wp rfl ?_
            exact opr_move (.inr rfl) (hK _ _ (NewT.refl _) f45)
          · intro a wx hT hF K hK
            obtain ⟨f46, _⟩ := hF
            replace f46 := show (svRd ((0 :: t))).pred (a.tmps.getD 46 undef) wx from f46
            refine rely_wp rfl ?_
            exact opr_move (.inr rfl) (hK _ _ (NewT.refl _) f46)
          · intro a wx hT hF K hK
            obtain ⟨f47, _⟩ := hF
            have f47 : a.tmps.getD 47 undef = .bool true := f47
            refine rely_wp rfl ?_
            exact opr_move (.inr rfl) (hK _ _ (NewT.refl _) f47)
          · intro w7 k7
            intro u h; obtain rfl := Eq.symm (h (by simp)); clear h
            intro _ _
            intro _ _
            intro _ _
            intro _ _
            intro _ _
            intro _ _
            intro _ _
            intro u h; obtain rfl := Eq.symm (h (by simp)); clear h
            intro u9 h; have g9 := h (by simp); clear h; replace g9 := show (svRd ((0 :: s))).pred u9 w7 from g9
            intro u10 h; have g10 := h (by simp); clear h; replace g10 := show (svRd ((0 :: t))).pred u10 w7 from g10
            intro u h; obtain rfl := Eq.symm (h (by simp)); clear h
            refine relyEnd_nil rfl ?_
            refine wpList_end rfl ?_
            simp only [Act.put, List.setIfInBounds_toArray, List.set_cons_zero, List.set_cons_succ]
            go_simp
            have H9 := Lib.hid g9
            have H10 := Lib.hid g10
            clear g9 g10
            replace HA := Lib.hid (k7.partsL HA.out)
            replace HS := Lib.hid (k7.rd HS.out)
            replace HT := Lib.hid (k7.tables HT.out)
            replace HN := Lib.hid (NewT.trans _ _ _ HN.out k7)
            clear k7
            go_upto_region 12 with fail
            refine wp_region_steps0 NewT [SV.eq (u9), SV.eq (.int .i64 ((List.length ((0 :: s)) : Int))), SV.eq (va), svPT (s), svRd (s), SV.eq (.int .i64 ((List.length (s) : Int))), SV.eq (.int .i64 (((s.length + 1 : Nat) : Int))), SV.eq (.bool true), SV.eq (.bool true), SV.eq (u10), SV.eq (.int .i64 ((List.length ((0 :: t)) : Int))), SV.eq (vx), SV.eq (.int .i64 ((List.length (t) : Int))), SV.eq (.int .i64 (((t.length + 1 : Nat) : Int))), SV.eq (.bool true), SV.eq (.bool true), SV.eq (.bool true), SV.eq (u9), SV.eq (u10), SV.eq (.bool true), SV.eq (.bool true), SV.eq (.bool true)] [([(9, none)], none), ([(65, some 0)], none), ([(0, none)], none), ([(67, some 2)], none), ([(68, some 3)], none), ([(69, some 4)], none), ([(70, some 5)], none), ([(66, some 1), (71, some 6)], none), ([(72, some 7)], none), ([(10, none), (73, some 8)], some (73, true)), ([(74, some 9), (73, some 8)], some (73, true)), ([(1, none), (73, some 8)], some (73, true)), ([(76, some 11), (73, some 8)], some (73, true)), ([(77, some 12), (73, some 8)], some (73, true)), ([(75, some 10), (78, some 13), (73, some 8)], some (73, true)), ([(73, some 8), (79, some 14)], none), ([(80, some 15)], none), ([(9, none), (81, some 16)], some (81, true)), ([(10, none), (81, some 16)], some (81, true)), ([(82, some 17), (83, some 18), (81, some 16)], some (81, true)), ([(81, some 16), (84, some 19)], none), ([(85, some 20)], none)] 86 22 rfl rfl (by kernel_rfl) NewT.trans (NewT.refl _) (Nat.le_of_ble_eq_true rfl) ⟨?_, ?_, ?_, ?_, ?_, ?_, ?_, ?_, ?_, ?_, ?_, ?_, ?_, ?_, ?_, ?_, ?_, ?_, ?_, ?_, ?_, ?_, trivial⟩ ?_
            · intro a wx hT hF K hK
              obtain ⟨f9, _⟩ := hF
              have f9 : a.tmps.getD 9 undef = u9 := f9
              refine rely_wp rfl ?_
              exact opr_move (.inl rfl) (hK _ _ (NewT.refl _) f9)
            · intro a wx hT hF K hK
              obtain ⟨f65, _⟩ := hF
              have f65 : a.tmps.getD 65 undef = u9 := f65
              refine rely_wp rfl ?_
              exact opr_len_rd rfl (by rw [eval_tmp, f65]; exact (hT.rd H9.out)) (hK _ _ (NewT.refl _) rfl)
            · intro a wx hT hF K hK
              obtain ⟨f0, _⟩ := hF
              have f0 : a.tmps.getD 0 undef = va := f0
              refine rely_wp rfl ?_
              exact opr_move (.inl rfl) (hK _ _ (NewT.refl _) f0)
            · intro a wx hT hF K hK
              obtain ⟨f67, _⟩ := hF
              have f67 : a.tmps.getD 67 undef = va := f67
              refine rely_wp rfl ?_
              exact opr_idxT (i := 0) (l := s) (HX.out) (rfl) rfl (by rw [eval_tmp, f67]; exact (hT.partsL HA.out)) rfl (fun v hv => hK v _ (NewT.refl _) hv)
            · intro a wx hT hF K hK
              obtain ⟨f68, _⟩ := hF
              replace f68 := show (svPT (s)).pred (a.tmps.getD 68 undef) wx from f68
              refine rely_wp rfl ?_
              exact opr_ldT rfl f68 (fun u hu => hK u _ (NewT.refl _) hu)
            · intro a wx hT hF K hK
              obtain ⟨f69, _⟩ := hF
              replace f69 := show (svRd (s)).pred (a.tmps.getD 69 undef) wx from f69
              refine rely_wp rfl ?_
              exact opr_len_rd rfl f69 (hK _ _ (NewT.refl _) rfl)
            · intro a wx hT hF K hK
              obtain ⟨f70, _⟩ := hF
              have f70 : a.tmps.getD 70 undef = .int .i64 ((List.length (s) : Int)) := f70
              refine rely_wp rfl ?_
              exact opr_add (r := ((s.length + 1 : Nat) : Int)) Tryd.underlying3 (by have := HSN.out; unfold wrap64; omega) rfl f70 rfl (hK _ _ (NewT.refl _) rfl)
            · intro a wx hT hF K hK
              obtain ⟨f66, f71, _⟩ := hF
              have f66 : a.tmps.getD 66 undef = .int .i64 ((List.length ((0 :: s)) : Int)) := f66
              have f71 : a.tmps.getD 71 undef = .int .i64 (((s.length + 1 : Nat) : Int)) := f71
              refine rely_wp rfl ?_
              exact opr_cmp (b := true) (.inl ⟨rfl, (by exact beq_self_eq_true _)⟩) Tryd.underlying3 rfl f66 f71 (hK _ _ (NewT.refl _) rfl)
            · intro a wx hT hF K hK
              obtain ⟨f72, _⟩ := hF
              have f72 : a.tmps.getD 72 undef = .bool true := f72
              refine rely_wp rfl ?_
              exact opr_move (.inl rfl) (hK _ _ (NewT.refl _) f72)
            · intro a wx hT hF K hK
              obtain ⟨f10, f73, _⟩ := hF
              have f10 : a.tmps.getD 10 undef = u10 := f10
              have f73 : a.tmps.getD 73 undef = .bool true := f73
              refine rely_wp (rely_guard f73) ?_
              exact opr_move (.inl rfl) (hK _ _ (NewT.refl _) f10)
            · intro a wx hT hF K hK
              obtain ⟨f74, f73, _⟩ := hF
              have f74 : a.tmps.getD 74 undef = u10 := f74
              have f73 : a.tmps.getD 73 undef = .bool true := f73
              refine rely_wp (rely_guard f73) ?_
              exact opr_len_rd rfl (by rw [eval_tmp, f74]; exact (hT.rd H10.out)) (hK _ _ (NewT.refl _) rfl)
            · intro a wx hT hF K hK
              obtain ⟨f1, f73, _⟩ := hF
              have f1 : a.tmps.getD 1 undef = vx := f1
              have f73 : a.tmps.getD 73 undef = .bool true := f73
              refine rely_wp (rely_guard f73) ?_
              exact opr_move (.inl rfl) (hK _ _ (NewT.refl _) f1)
            · intro a wx hT hF K hK
              obtain ⟨f76, f73, _⟩ := hF
              have f76 : a.tmps.getD 76 undef = vx := f76
              have f73 : a.tmps.getD 73 undef = .bool true := f73
              refine rely_wp (rely_guard f73) ?_
              exact opr_len_rd rfl (by rw [eval_tmp, f76]; exact (hT.rd HS.out)) (hK _ _ (NewT.refl _) rfl)
            · intro a wx hT hF K hK
              obtain ⟨f77, f73, _⟩ := hF
              have f77 : a.tmps.getD 77 undef = .int .i64 ((List.length (t) : Int)) := f77
              have f73 : a.tmps.getD 73 undef = .bool true := f73
              refine rely_wp (rely_guard f73) ?_
              exact opr_add (r := ((t.length + 1 : Nat) : Int)) Tryd.underlying3 (by have := HTN.out; unfold wrap64; omega) rfl f77 rfl (hK _ _ (NewT.refl _) rfl)
            · intro a wx hT hF K hK
              obtain ⟨f75, f78, f73, _⟩ := hF
              have f75 : a.tmps.getD 75 undef = .int .i64 ((List.length ((0 :: t)) : Int)) := f75
              have f78 : a.tmps.getD 78 undef = .int .i64 (((t.length + 1 : Nat) : Int)) := f78
              have f73 : a.tmps.getD 73 undef = .bool true := f73
              refine rely_wp (rely_guard f73) ?_
              exact opr_cmp (b := true) (.inl ⟨rfl, (by exact beq_self_eq_true _)⟩) Tryd.underlying3 rfl f75 f78 (hK _ _ (NewT.refl _) rfl)
            · intro a wx hT hF K hK
              obtain ⟨f73, f79, _⟩ := hF
              have f73 : a.tmps.getD 73 undef = .bool true := f73
              have f79 : a.tmps.getD 79 undef = .bool true := f79
              refine rely_wp rfl ?_
              exact opr_pick_true rfl f73 (hK _ _ (NewT.refl _) f79)
            · intro a wx hT hF K hK
              obtain ⟨f80, _⟩ := hF
              have f80 : a.tmps.getD 80 undef = .bool true := f80
              refine rely_wp rfl ?_
              exact opr_move (.inl rfl) (hK _ _ (NewT.refl _) f80)
            · intro a wx hT hF K hK
              obtain ⟨f9, f81, _⟩ := hF
              have f9 : a.tmps.getD 9 undef = u9 := f9
              have f81 : a.tmps.getD 81 undef = .bool true := f81
              refine rely_wp (rely_guard f81) ?_
              exact opr_move (.inl rfl) (hK _ _ (NewT.refl _) f9)
            · intro a wx hT hF K hK
              obtain ⟨f10, f81, _⟩ := hF
              have f10 : a.tmps.getD 10 undef = u10 := f10
              have f81 : a.tmps.getD 81 undef = .bool true := f81
              refine rely_wp (rely_guard f81) ?_
              exact opr_move (.inl rfl) (hK _ _ (NewT.refl _) f10)
            · intro a wx hT hF K hK
              obtain ⟨f82, f83, f81, _⟩ := hF
              have f82 : a.tmps.getD 82 undef = u9 := f82
              have f83 : a.tmps.getD 83 undef = u10 := f83
              have f81 : a.tmps.getD 81 undef = .bool true := f81
              refine rely_wp (rely_guard f81) ?_
              exact opr_cv (by rw [← HIS.out]; exact Is_cv hC _ _ (0 :: s) (0 :: t) wx (hT.tables HT.out) (hT.rd H9.out) (hT.rd H10.out) (by have := HSN.out; simp; omega) (by have := HTN.out; simp; omega)) rfl Tryd.func16 (by kernel_rfl) (by kernel_rfl) (by simp only [List.map_toArray, List.map_cons, List.map_nil, eval_tmp, f82, f83]) hK
            · intro a wx hT hF K hK
              obtain ⟨f81, f84, _⟩ := hF
              have f81 : a.tmps.getD 81 undef = .bool true := f81
              have f84 : a.tmps.getD 84 undef = .bool true := f84
              refine rely_wp rfl ?_
              exact opr_pick_true rfl f81 (hK _ _ (NewT.refl _) f84)
            · intro a wx hT hF K hK
              obtain ⟨f85, _⟩ := hF
              have f85 : a.tmps.getD 85 undef = .bool true := f85
              refine rely_wp rfl ?_
              exact opr_move (.inr rfl) (hK _ _ (NewT.refl _) f85)
            · intro w8 k8
              intro u h; obtain rfl := Eq.symm (h (by simp)); clear h
              intro u h; obtain rfl := Eq.symm (h (by simp)); clear h
              intro u h; obtain rfl := Eq.symm (h (by simp)); clear h
              intro _ _
              intro _ _
              intro u h; obtain rfl := Eq.symm (h (by simp)); clear h
              intro u h; obtain rfl := Eq.symm (h (by simp)); clear h
              intro u h; obtain rfl := Eq.symm (h (by simp)); clear h
              intro u h; obtain rfl := Eq.symm (h (by simp)); clear h
              intro u h; obtain rfl := Eq.symm (h (by simp)); clear h
              intro u h; obtain rfl := Eq.symm (h (by simp)); clear h
              intro u h; obtain rfl := Eq.symm (h (by simp)); clear h
              intro u h; obtain rfl := Eq.symm (h (by simp)); clear h
              intro u h; obtain rfl := Eq.symm (h (by simp)); clear h
              intro u h; obtain rfl := Eq.symm (h (by simp)); clear h
              intro u h; obtain rfl := Eq.symm (h (by simp)); clear h
              intro u h; obtain rfl := Eq.symm (h (by simp)); clear h
              intro u h; obtain rfl := Eq.symm (h (by simp)); clear h
              intro u h; obtain rfl := Eq.symm (h (by simp)); clear h
              intro u h; obtain rfl := Eq.symm (h (by simp)); clear h
              intro u h; obtain rfl := Eq.symm (h (by simp)); clear h
              intro u h; obtain rfl := Eq.symm (h (by simp)); clear h
              refine relyEnd_nil rfl ?_
              refine wpList_end rfl ?_
              simp only [Act.put, List.setIfInBounds_toArray, List.set_cons_zero, List.set_cons_succ]
              go_simp
              go_wp2
              go_ret
              exact ⟨rfl, (NewT.trans _ _ _ HN.out k8).out⟩
        | none =>
          have hor := extM_none _ _ _ (Nat.le_refl _) he
          obtain ⟨ra, HRA⟩ := hid_ex (rootM node z (List.map lf (List.take 1 x)))
          obtain ⟨rb, HRB⟩ := hid_ex (rootM node z (List.map lf [t]))
          have HOR : Hid ((((decide (s = t)) || (!(eqH (ra) (rb))))) = true) := Lib.hid (by
            rw [← HRA.out, ← HRB.out, hC.eqRoot]
            rcases hor with h | h | h
            · rw [HTK.out] at h; simp at h
            · rw [decide_eq_false h]; simp
            · rw [HTK.out] at h
              rw [decide_eq_true (show s = t by simpa using h)]; rfl)
          have HE2 : Hid (∀ w, Tables w → ∀ va vb, Parts w va (List.take 1 x) → Parts w vb [t] → Cv 11 #[va, vb] w (svT2 ([] : List UInt8) ([] : List UInt8) false)) := Lib.hid fun w hT va vb h1 h2 => by
            have h := Extract_cv hC w hT va vb (List.take 1 x) [t] h1 h2 (HFx.out.take _) HF1.out
            rw [he] at h; exact h
          clear he hor
          go_upto_region 7 with fail
          refine wp_region_steps0 NewT [SV.eq (va), svParts (List.take 1 x), svRd (t), svParts [t], svT2 (([] : List UInt8)) (([] : List UInt8)) false, svT2 (([] : List UInt8)) (([] : List UInt8)) false, svRd (([] : List UInt8)), svRd (([] : List UInt8)), SV.eq (.bool false), svRd (([] : List UInt8)), svRd (([] : List UInt8)), SV.eq (.bool false)] [([(0, none)], none), ([(40, some 0)], none), ([(1, none)], none), ([(42, some 2)], none), ([(41, some 1), (43, some 3)], none), ([(44, some 4)], none), ([(39, some 5)], none), ([(39, some 5)], none), ([(39, some 5)], none), ([(45, some 6)], none), ([(46, some 7)], none), ([(47, some 8)], none)] 86 12 rfl rfl (by kernel_rfl) NewT.trans (NewT.refl _) (Nat.le_of_ble_eq_true rfl) ⟨?_, ?_, ?_, ?_, ?_, ?_, ?_, ?_, ?_, ?_, ?_, ?_, trivial⟩ ?_
          · intro a wx hT hF K hK
            obtain ⟨f0, _⟩ := hF
            have f0 : a.tmps.getD 0 undef = va := f0
            refine rely_wp rfl ?_
            exact opr_move (.inl rfl) (hK _ _ (NewT.refl _) f0)
          · intro a wx hT hF K hK
            obtain ⟨f40, _⟩ := hF
            have f40 : a.tmps.getD 40 undef = va := f40
            refine rely_wp rfl ?_
            exact opr_toT (k := 1) (HLN.out) (rfl) rfl (by rw [eval_tmp, f40]; exact (hT.partsL HA.out)) rfl (fun v hv => hK v _ (NewT.refl _) hv)
          · intro a wx hT hF K hK
            obtain ⟨f1, _⟩ := hF
            have f1 : a.tmps.getD 1 undef = vx := f1
            refine rely_wp rfl ?_
            exact opr_move (.inl rfl) (hK _ _ (NewT.refl _) (by rw [eval_tmp, f1]; exact hT.rd HS.out))
          · intro a wx hT hF K hK
            obtain ⟨f42, _⟩ := hF
            replace f42 := show (svRd (t)).pred (a.tmps.getD 42 undef) wx from f42
            refine rely_wp rfl ?_
            exact opr_bs1 rfl f42 hK
          · intro a wx hT hF K hK
            obtain ⟨f41, f43, _⟩ := hF
            replace f41 := show (svParts (List.take 1 x)).pred (a.tmps.getD 41 undef) wx from f41
            replace f43 := show (svParts [t]).pred (a.tmps.getD 43 undef) wx from f43
            refine rely_wp rfl ?_
            exact opr_cv (HE2.out wx (hT.tables HT.out) _ _ f41 f43) rfl Tryd.func11 (by kernel_rfl) (by kernel_rfl) (by simp only [List.map_toArray, List.map_cons, List.map_nil, eval_tmp]) hK
          · intro a wx hT hF K hK
            obtain ⟨f44, _⟩ := hF
            replace f44 := show (svT2 (([] : List UInt8)) (([] : List UInt8)) false).pred (a.tmps.getD 44 undef) wx from f44
            refine rely_wp rfl ?_
            exact opr_move (.inl rfl) (hK _ _ (NewT.refl _) f44)
          · intro a wx hT hF K hK
            obtain ⟨f39, _⟩ := hF
            replace f39 := show (svT2 (([] : List UInt8)) (([] : List UInt8)) false).pred (a.tmps.getD 39 undef) wx from f39
            refine rely_wp rfl ?_
            exact opr_extT0 rfl f39 (fun u hu => hK u _ (NewT.refl _) hu)
          · intro a wx hT hF K hK
            obtain ⟨f39, _⟩ := hF
            replace f39 := show (svT2 (([] : List UInt8)) (([] : List UInt8)) false).pred (a.tmps.getD 39 undef) wx from f39
            refine rely_wp rfl ?_
            exact opr_extT1 rfl f39 (fun u hu => hK u _ (NewT.refl _) hu)
          · intro a wx hT hF K hK
            obtain ⟨f39, _⟩ := hF
            replace f39 := show (svT2 (([] : List UInt8)) (([] : List UInt8)) false).pred (a.tmps.getD 39 undef) wx from f39
            refine rely_wp rfl ?_
            exact opr_extT2 rfl f39 (hK _ _ (NewT.refl _) rfl)
          · intro a wx hT hF K hK
            obtain ⟨f45, _⟩ := hF
            replace f45 := show (svRd (([] : List UInt8))).pred (a.tmps.getD 45 undef) wx from f45
            refine rely_wp rfl ?_
            exact opr_move (.inr rfl) (hK _ _ (NewT.refl _) f45)
          · intro a wx hT hF K hK
            obtain ⟨f46, _⟩ := hF
            replace f46 := show (svRd (([] : List UInt8))).pred (a.tmps.getD 46 undef) wx from f46
            refine rely_wp rfl ?_
            exact opr_move (.inr rfl) (hK _ _ (NewT.refl _) f46)
          · intro a wx hT hF K hK
            obtain ⟨f47, _⟩ := hF
            have f47 : a.tmps.getD 47 undef = .bool false := f47
            refine rely_wp rfl ?_
            exact opr_move (.inr rfl) (hK _ _ (NewT.refl _) f47)
          · intro w7 k7
            intro u h; obtain rfl := Eq.symm (h (by simp)); clear h
            intro _ _
            intro _ _
            intro _ _
            intro _ _
            intro _ _
            intro _ _
            intro _ _
            intro u h; obtain rfl := Eq.symm (h (by simp)); clear h
            intro u9 h; have g9 := h (by simp); clear h; replace g9 := show (svRd (([] : List UInt8))).pred u9 w7 from g9
            intro u10 h; have g10 := h (by simp); clear h; replace g10 := show (svRd (([] : List UInt8))).pred u10 w7 from g10
            intro u h; obtain rfl := Eq.symm (h (by simp)); clear h
            refine relyEnd_nil rfl ?_
            refine wpList_end rfl ?_
            simp only [Act.put, List.setIfInBounds_toArray, List.set_cons_zero, List.set_cons_succ]
            go_simp
            clear g9 g10
            replace HA := Lib.hid (k7.partsL HA.out)
            replace HS := Lib.hid (k7.rd HS.out)
            replace HT := Lib.hid (k7.tables HT.out)
            replace HN := Lib.hid (NewT.trans _ _ _ HN.out k7)
            clear k7
            go_upto_region 11 with fail
            obtain ⟨q1_11, Q1_11⟩ : ∃ bq_, ((decide (s = t)) || (!(eqH (ra) (rb)))) = bq_ := ⟨_, rfl⟩
            refine wp_region_steps0 NewT [SV.eq (va), svPT (s), svRd (s), SV.eq (vx), SV.eq (.bool (decide (s = t))), SV.eq (.bool (decide (s = t))), svIf ((!(decide (s = t)))) (SV.eq (va)), svIf ((!(decide (s = t)))) (svParts (List.take 1 x)), svIf ((!(decide (s = t)))) (SV.eq (.agg (rowA 32 (bF (ra))))), svIf ((!(decide (s = t)))) (svRd (t)), svIf ((!(decide (s = t)))) (svParts [t]), svIf ((!(decide (s = t)))) (SV.eq (.agg (rowA 32 (bF (rb))))), svIf ((!(decide (s = t)))) (SV.eq (.bool (!(eqH (ra) (rb))))), SV.eq (.bool (q1_11)), SV.eq (.bool (q1_11))] [([(0, none)], none), ([(51, some 0)], none), ([(52, some 1)], none), ([(1, none)], none), ([(53, some 2), (54, some 3)], none), ([(55, some 4)], none), ([(0, none), (56, some 5)], some (56, false)), ([(57, some 6), (56, some 5)], some (56, false)), ([(58, some 7), (56, some 5)], some (56, false)), ([(1, none), (56, some 5)], some (56, false)), ([(60, some 9), (56, some 5)], some (56, false)), ([(61, some 10), (56, some 5)], some (56, false)), ([(59, some 8), (62, some 11), (56, some 5)], some (56, false)), ([(56, some 5), (63, some 12)], none), ([(64, some 13)], none)] 86 15 rfl rfl (by kernel_rfl) NewT.trans (NewT.refl _) (Nat.le_of_ble_eq_true rfl) ⟨?_, ?_, ?_, ?_, ?_, ?_, ?_, ?_, ?_, ?_, ?_, ?_, ?_, ?_, ?_, trivial⟩ ?_
            · intro a wx hT hF K hK
              obtain ⟨f0, _⟩ := hF
              have f0 : a.tmps.getD 0 undef = va := f0
              refine rely_wp rfl ?_
              exact opr_move (.inl rfl) (hK _ _ (NewT.refl _) f0)
            · intro a wx hT hF K hK
              obtain ⟨f51, _⟩ := hF
              have f51 : a.tmps.getD 51 undef = va := f51
              refine rely_wp rfl ?_
              exact opr_idxT (i := 0) (l := s) (HX.out) (rfl) rfl (by rw [eval_tmp, f51]; exact (hT.partsL HA.out)) rfl (fun v hv => hK v _ (NewT.refl _) hv)
            · intro a wx hT hF K hK
              obtain ⟨f52, _⟩ := hF
              replace f52 := show (svPT (s)).pred (a.tmps.getD 52 undef) wx from f52
              refine rely_wp rfl ?_
              exact opr_ldT rfl f52 (fun u hu => hK u _ (NewT.refl _) hu)
            · intro a wx hT hF K hK
              obtain ⟨f1, _⟩ := hF
              have f1 : a.tmps.getD 1 undef = vx := f1
              refine rely_wp rfl ?_
              exact opr_move (.inl rfl) (hK _ _ (NewT.refl _) f1)
            · intro a wx hT hF K hK
              obtain ⟨f53, f54, _⟩ := hF
              replace f53 := show (svRd (s)).pred (a.tmps.getD 53 undef) wx from f53
              have f54 : a.tmps.getD 54 undef = vx := f54
              refine rely_wp rfl ?_
              exact opr_cv (Bytes_cv _ _ s t wx f53 (hT.rd HS.out) (by have := HSN.out; have := HTN.out; omega) (by have := HSN.out; have := HTN.out; omega)) rfl Tryd.func13 (by kernel_rfl) (by kernel_rfl) (by simp only [List.map_toArray, List.map_cons, List.map_nil, eval_tmp, f54]) hK
            · intro a wx hT hF K hK
              obtain ⟨f55, _⟩ := hF
              have f55 : a.tmps.getD 55 undef = .bool (decide (s = t)) := f55
              refine rely_wp rfl ?_
              exact opr_move (.inl rfl) (hK _ _ (NewT.refl _) f55)
            · intro a wx hT hF K hK
              obtain ⟨f0, f56, _⟩ := hF
              have f0 : a.tmps.getD 0 undef = va := f0
              have f56 : a.tmps.getD 56 undef = .bool (decide (s = t)) := f56
              refine rely_if (rely_gf f56) (NewT.refl _) hK (fun hE hK => ?_)
              exact opr_move (.inl rfl) (hK _ _ (NewT.refl _) f0)
            · intro a wx hT hF K hK
              obtain ⟨f57, f56, _⟩ := hF
              have f57 : ((!(decide (s = t)))) = true → a.tmps.getD 57 undef = va := f57
              have f56 : a.tmps.getD 56 undef = .bool (decide (s = t)) := f56
              refine rely_if (rely_gf f56) (NewT.refl _) hK (fun hE hK => ?_)
              exact opr_toT (k := 1) (HLN.out) (rfl) rfl (by rw [eval_tmp, (f57 hE)]; exact (hT.partsL HA.out)) rfl (fun v hv => hK v _ (NewT.refl _) hv)
            · intro a wx hT hF K hK
              obtain ⟨f58, f56, _⟩ := hF
              replace f58 := show ((!(decide (s = t)))) = true → (svParts (List.take 1 x)).pred (a.tmps.getD 58 undef) wx from f58
              have f56 : a.tmps.getD 56 undef = .bool (decide (s = t)) := f56
              refine rely_if (rely_gf f56) (NewT.refl _) hK (fun hE hK => ?_)
              exact opr_cv (by rw [← HRA.out]; exact Roots_cv hC _ (List.take 1 x) wx (hT.tables HT.out) (f58 hE) (HFx.out.take _)) rfl Tryd.func14 (by kernel_rfl) (by kernel_rfl) (by simp only [List.map_toArray, List.map_cons, List.map_nil, eval_tmp]) hK
            · intro a wx hT hF K hK
              obtain ⟨f1, f56, _⟩ := hF
              have f1 : a.tmps.getD 1 undef = vx := f1
              have f56 : a.tmps.getD 56 undef = .bool (decide (s = t)) := f56
              refine rely_if (rely_gf f56) (NewT.refl _) hK (fun hE hK => ?_)
              exact opr_move (.inl rfl) (hK _ _ (NewT.refl _) (by rw [eval_tmp, f1]; exact hT.rd HS.out))
            · intro a wx hT hF K hK
              obtain ⟨f60, f56, _⟩ := hF
              replace f60 := show ((!(decide (s = t)))) = true → (svRd (t)).pred (a.tmps.getD 60 undef) wx from f60
              have f56 : a.tmps.getD 56 undef = .bool (decide (s = t)) := f56
              refine rely_if (rely_gf f56) (NewT.refl _) hK (fun hE hK => ?_)
              exact opr_bs1 rfl (f60 hE) hK
            · intro a wx hT hF K hK
              obtain ⟨f61, f56, _⟩ := hF
              replace f61 := show ((!(decide (s = t)))) = true → (svParts [t]).pred (a.tmps.getD 61 undef) wx from f61
              have f56 : a.tmps.getD 56 undef = .bool (decide (s = t)) := f56
              refine rely_if (rely_gf f56) (NewT.refl _) hK (fun hE hK => ?_)
              exact opr_cv (by rw [← HRB.out]; exact Roots_cv hC _ [t] wx (hT.tables HT.out) (f61 hE) HF1.out) rfl Tryd.func14 (by kernel_rfl) (by kernel_rfl) (by simp only [List.map_toArray, List.map_cons, List.map_nil, eval_tmp]) hK
            · intro a wx hT hF K hK
              obtain ⟨f59, f62, f56, _⟩ := hF
              have f59 : ((!(decide (s = t)))) = true → a.tmps.getD 59 undef = .agg (rowA 32 (bF (ra))) := f59
              have f62 : ((!(decide (s = t)))) = true → a.tmps.getD 62 undef = .agg (rowA 32 (bF (rb))) := f62
              have f56 : a.tmps.getD 56 undef = .bool (decide (s = t)) := f56
              refine rely_if (rely_gf f56) (NewT.refl _) hK (fun hE hK => ?_)
              exact opr_neq_hash (b := !(eqH (ra) (rb))) rfl (f59 hE) (f62 hE) (rfl) (hK _ _ (NewT.refl _) rfl)
            · intro a wx hT hF K hK
              obtain ⟨f56, f63, _⟩ := hF
              have f56 : a.tmps.getD 56 undef = .bool (decide (s = t)) := f56
              have f63 : ((!(decide (s = t)))) = true → a.tmps.getD 63 undef = .bool (!(eqH (ra) (rb))) := f63
              refine rely_wp rfl ?_
              exact opr_pick_b rfl f56 (fun hb => hK _ _ (NewT.refl _) (pn_or1 Q1_11 hb)) (fun hb => hK _ _ (NewT.refl _) (pn_or0 Q1_11 (f63 (bnot hb)) hb))
            · intro a wx hT hF K hK
              obtain ⟨f64, _⟩ := hF
              have f64 : a.tmps.getD 64 undef = .bool (q1_11) := f64
              refine rely_wp rfl ?_
              exact opr_move (.inr rfl) (hK _ _ (NewT.refl _) f64)
            · intro w8 k8
              intro u h; obtain rfl := Eq.symm (h (by simp)); clear h
              intro _ _
              intro _ _
              intro u h; obtain rfl := Eq.symm (h (by simp)); clear h
              intro u h; obtain rfl := Eq.symm (h (by simp)); clear h
              intro u h; obtain rfl := Eq.symm (h (by simp)); clear h
              intro _ _
              intro _ _
              intro _ _
              intro _ _
              intro _ _
              intro _ _
              intro _ _
              intro u h; obtain rfl := Eq.symm (h (by simp)); clear h
              intro u h; obtain rfl := Eq.symm (h (by simp)); clear h
              subst Q1_11
              refine relyEnd_nil rfl ?_
              refine wpList_end rfl ?_
              simp only [Act.put, List.setIfInBounds_toArray, List.set_cons_zero, List.set_cons_succ]
              go_simp
              rw [HOR.out]
              go_wp2
              go_ret
              exact ⟨rfl, (NewT.trans _ _ _ HN.out k8).out⟩
end Go.Proofs.YtlnedphnphabkaaDoor
