/- The reference's Tag: HMAC-SHA-256 of a text, by definition. -/
import Derived.Test.YtpoebajpmkcjdaaDoorMR
import Derived.Test.YtpoebajpmkcjdaaDoorM7
import Derived.Test.YtpoebajpmkcjdaaDoorI2
import Derived.Test.YtpoebajpmkcjdaaDoorRely2
namespace Go.Proofs.YtpoebajpmkcjdaaDoor
open Go Go.RowKit
theorem RSumB_cv (v : Value) (l : List UInt8) (D : Nat → UInt8) (w : World) (hT : Tables w) (hr : RdV w [] v l) (hl : l.length ≤ 900000) (hD : shaL Kc Fc l = D) : Cv 22 #[v] w (.eq (.agg (rowA 32 (bF D)))) := by
  rw [← hD]; exact Cv.of_eq (RSum_any v l w hT hr hl)
theorem with_54 (v : Value) (l : List UInt8) (w : World) (hr : RdV w [] v l) : Cv 46 #[v, .int .i64 54] w (svOwn w (maskL (bAt l) 54)) := by
  have h := hr
  obtain ⟨A, c, rfl, _⟩ := h
  exact with_any A _ c l 54 (.inl rfl) w hr
theorem with_92 (v : Value) (l : List UInt8) (w : World) (hr : RdV w [] v l) : Cv 46 #[v, .int .i64 92] w (svOwn w (maskL (bAt l) 92)) := by
  have h := hr
  obtain ⟨A, c, rfl, _⟩ := h
  exact with_any A _ c l 92 (.inr rfl) w hr
/-- Bytes put behind a row of the call's own: the row reads as both, and nothing below turns. -/
theorem run_append_two {W W0 : World} {v u : Value} {l m : List UInt8} (ho : (svOwn W0 l).pred v W) (hW : W0.heap.size ≤ W.heap.size) (hr : RdV W [] u m) (hn : l.length + m.length ≤ 900000) (ty : TypeId) :
    ∃ v' w', (Builtin.append_ #[24, 24] ty #[v, u]).run Tryd.prog W = .ok v' w' ∧ (svOwn W0 (l ++ m)).pred v' w' ∧ RdV w' [] v' (l ++ m) ∧ Below W0.heap.size W w' := by
  obtain ⟨i0, hi, hz0, hz1, hz2⟩ := info_parts info5
  obtain ⟨v', w', h1, h2, h3⟩ := run_append_rd (P := Tryd.prog) (ty := ty) Tryd.underlying24 hi hz0 hz1 hz2 ho hr (by omega) hW
  have e : l.map (fun b => Value.int .u8 (bN b)) ++ m.map (fun b => Value.int .u8 (bN b)) = (l ++ m).map fun b => Value.int .u8 (bN b) := by simp
  rw [e] at h2
  refine ⟨v', w', h1, ?_, rdV_own h2 (by simp) (by simp), (Below.refl _ W).grown h3 hW (fun k hk => (World.ownsRow.lt ho k hk).1)⟩
  show w'.ownsRow W0.heap.size 5 1 v' (l ++ m).length _
  rw [List.length_append]; exact h2
theorem own_from {W W1 : World} {l : List UInt8} {v : Value} {w : World} (hT : NewT W W1) (h : (svOwn W1 l).pred v w) : (svOwn W l).pred v w := by
  obtain ⟨a, b⟩ := h
  refine ⟨a, ?_⟩
  rcases b with b | ⟨g, cap, cur, hv, hb, r⟩
  · exact .inl b
  · exact .inr ⟨g, cap, cur, hv, Nat.le_trans hT.out.size hb, r⟩
set_option maxHeartbeats 4000000 in
theorem RTag_short (A0 : Option Addr) (c0 : Nat) (vt : Value) (k t : List UInt8) (D : Nat → UInt8) (w : World) (hT : Tables w) (hk : RdV w [] (.slice A0 k.length c0) k) (ht : RdV w [] vt t) (hkl : k.length ≤ 64) (hk2 : k.length ≤ 100000) (htl : t.length ≤ 100000) (hD : tagL k t = D) :
    Cv 28 #[.slice A0 k.length c0, vt] w (.eq (.agg (rowA 32 (bF D)))) := by
  unfold Cv
  obtain ⟨E, HE0⟩ := hid_ex (inL k t)
  have hkb : keyB k = bAt k := by unfold keyB keyOf; rw [if_neg (by omega)]
  have HE : Hid (shaL Kc Fc (maskL (bAt k) 54 ++ t) = E) := Lib.hid (by rw [← HE0.out, inL, hkb])
  have HD : Hid (shaL Kc Fc (maskL (bAt k) 92 ++ digL E) = D) := Lib.hid (by rw [← hD, tagL, hkb, HE0.out])
  have hd : decide ((64 : Int) < (k.length : Int)) = false := by simp; omega
  clear hkb
  have Rk := Lib.hid hk
  have Rt := Lib.hid ht
  have HT := Lib.hid hT
  clear hT hk ht hD HE0
  go_enter Tryd.func28, Tryd.ntmps28
  go_upto_region 1 with fail
  have r0 := rowIs_box w 31 32 (bF fun _ => 0)
  have hN0 := NewT.alloc w (.cells (rowA 32 (bF fun _ => 0)) 31)
  change Code.wp _ _ _ _ (w.alloc (.cells (rowA 32 (bF fun _ => 0)) 31))
  generalize w.alloc (.cells (rowA 32 (bF fun _ => 0)) 31) = W0 at r0 hN0 ⊢
  replace Rk := Lib.hid (hN0.rd Rk.out)
  replace Rt := Lib.hid (hN0.rd Rt.out)
  have hB := hN0.out
  clear hN0
  go_upto_region 4 with fail
  refine wp_region_lit ?_
  iterate 1 (refine wpList_plain rfl (fun K hK => ?_); go_simp; refine hK _ _ ?_; clear hK K)
  refine wpList_plain rfl (fun K hK => ?_)
  refine opr_cv (with_54 _ k W0 Rk.out) rfl Tryd.func46 (by kernel_rfl) (by kernel_rfl) (by simp only [List.map_toArray, List.map_cons, List.map_nil]; rfl) ?_
  intro v14 wa hNa o14
  refine hK _ _ ?_
  clear hK K
  obtain ⟨v16, wb, hrun, _, r16, hBb⟩ := run_append_two o14 hNa.out.size (hNa.rd Rt.out) (by rw [maskL_length]; omega) 24
  have hB1 := hB.trans ((hNa.out.mono hB.size).trans (hBb.mono hB.size))
  have r0b := rowIs_below (hNa.row r0) hBb (by have := r0.lt; omega)
  have rtb := (Rt.out.keep (KeepBut.below (hNa.out.trans hBb)))
  have rkb := (Rk.out).keep (KeepBut.below (hNa.out.trans hBb))
  have Rtb := Lib.hid rtb
  have Rkb := Lib.hid rkb
  have R16 := Lib.hid r16
  have HTb := Lib.hid (HT.out.below hB1)
  clear hBb o14 hNa rtb rkb r16
  iterate 1 (refine wpList_plain rfl (fun K hK => ?_); go_simp; refine hK _ _ ?_; clear hK K)
  refine wpList_plain rfl (fun K hK => ?_)
  refine opr_append rfl rfl rfl hrun (hK _ _ ?_)
  clear hrun hK K
  refine wpList_plain rfl (fun K hK => ?_)
  refine opr_cv (RSumB_cv _ _ E wb HTb.out R16.out (by rw [List.length_append, maskL_length]; omega) HE.out) rfl Tryd.func22 (by kernel_rfl) (by kernel_rfl) (by simp only [List.map_toArray, List.map_cons, List.map_nil]; rfl) ?_
  intro v17 wc hNc he17
  obtain rfl : v17 = .agg (rowA 32 (bF E)) := he17
  refine hK _ _ ?_
  clear hK K
  refine wpList_plain rfl (fun K hK => ?_)
  refine opr_alloc_hash rfl (NewT.refl wc) ?_
  intro v6 wd hNd h6
  obtain ⟨p6, hv, hp6, rr6⟩ := svNew_out h6
  subst hv
  refine hK _ _ ?_
  clear hK K h6
  refine wpList_plain rfl (fun K hK => ?_)
  refine opr_store_new (W := wc) info31 rfl rfl rfl rr6 hNd.out hp6 ?_
  intro we hNe r6
  replace hNe := NewT.trans _ _ _ hNc (NewT.of hNe)
  refine hK _ _ ?_
  clear hK K
  replace r0b := hNe.row r0b
  have hB2 := hB1.trans (hNe.out.mono hB1.size)
  have Rke := Lib.hid (hNe.rd Rkb.out)
  have HTe := Lib.hid (hNe.tables HTb.out)
  clear hNc hNd hNe hp6 rr6 Rkb Rtb R16 HTb hB1
  refine wpList_nil ?_
  go_simp
  go_upto_region 5 with fail
  refine wp_region_rely_tail NewT [svRd k, svOwn we (maskL (bAt k) 92), svRd (digL E)] [([(0, none)], none), ([(18, some 0)], none), ([(6, none)], none)] 23 3 (by kernel_rfl) rfl rfl (Nat.zero_lt_succ _) (by kernel_rfl) (by kernel_rfl) (by kernel_rfl) NewT.trans (NewT.drew _) (Nat.le_of_ble_eq_true rfl) ⟨?_, ?_, ?_, trivial⟩ ?_
  · -- 0: Op.move t0
    intro a wx hT hF K hK
    obtain ⟨f0, _⟩ := hF
    have f0 : a.tmps.getD 0 undef = .slice A0 k.length c0 := f0
    refine rely_wp rfl ?_
    exact opr_move (.inl rfl) (hK _ _ (NewT.refl _) (by rw [eval_tmp, f0]; exact hT.rd Rke.out))
  · -- 1: Op.call ( value (Operand.func 46), args := #[t18, const (92:
    intro a wx hT hF K hK
    obtain ⟨f18, _⟩ := hF
    replace f18 := show (svRd k).pred (a.tmps.getD 18 undef) wx from f18
    refine rely_wp rfl ?_
    refine opr_cv (with_92 _ k wx f18) rfl Tryd.func46 (by kernel_rfl) (by kernel_rfl) (by simp only [List.map_toArray, List.map_cons, List.map_nil, eval_tmp, eval_const]) ?_
    intro v w2 hN2 ho2
    exact hK v w2 hN2 (own_from hT ho2)
  · -- 2: Op.slice 31 t6 none none none
    intro a wx hT hF K hK
    obtain ⟨f6, _⟩ := hF
    have f6 : a.tmps.getD 6 undef = .pointer (some ⟨p6, 0, none⟩) := f6
    refine rely_wp rfl ?_
    exact opr_slice_hash rfl f6 (hK _ _ (NewT.refl _) (rd_row (hT.row r6) (by simp) (by omega)))
  · intro wx hT
    intro u18 h; have g18 := h (by simp); clear h; replace g18 := show (svRd k).pred u18 wx from g18
    intro u19 h; have g19 := h (by simp); clear h; replace g19 := show (svOwn we (maskL (bAt k) 92)).pred u19 wx from g19
    intro u20 h; have g20 := h (by simp); clear h; replace g20 := show (svRd (digL E)).pred u20 wx from g20
    refine relyEnd_nil rfl ?_
    simp only [Act.put, List.setIfInBounds_toArray, List.set_cons_zero, List.set_cons_succ]
    refine wpList_plain rfl (fun K hK => ?_)
    obtain ⟨v21, wg, hrun, _, r21, hBg⟩ := run_append_two g19 hT.out.size g20 (by rw [maskL_length, digL_length]; omega) 24
    refine opr_append rfl rfl rfl hrun (hK _ _ ?_)
    clear hrun hK K
    have hB3 := hB2.trans ((hT.out.mono hB2.size).trans (hBg.mono hB2.size))
    have r0g := rowIs_below (hT.row r0b) hBg r0b.lt
    have HTg := Lib.hid (HTe.out.below (hT.out.trans hBg))
    clear hBg hT g19 g20 g18
    refine wpList_plain rfl (fun K hK => ?_)
    refine opr_cv (RSumB_cv _ _ D wg HTg.out r21 (by rw [List.length_append, maskL_length, digL_length]; omega) HD.out) rfl Tryd.func22 (by kernel_rfl) (by kernel_rfl) (by simp only [List.map_toArray, List.map_cons, List.map_nil]; rfl) ?_
    intro v22 wh hNh he22
    obtain rfl : v22 = .agg (rowA 32 (bF D)) := he22
    refine hK _ _ ?_
    clear hK K
    refine wpList_plain rfl (fun K hK => ?_)
    refine opr_store_new (B := w.heap.size) (W := w) info31 rfl rfl rfl (hNh.row r0g) (hB3.trans (hNh.out.mono hB3.size)) (Nat.le_refl _) ?_
    intro wi hBi ri
    refine hK _ _ ?_
    clear hK K
    refine wpList_nil ?_
    go_simp
    go_wp2
    exact bodyPost_ret (results_row rfl _ rfl ri Tryd.underlying31 info31) rfl ⟨_, rfl, hBi, rfl⟩
set_option maxHeartbeats 4000000 in
theorem RTag_long (A0 : Option Addr) (c0 : Nat) (vt : Value) (k t : List UInt8) (D : Nat → UInt8) (w : World) (hT : Tables w) (hk : RdV w [] (.slice A0 k.length c0) k) (ht : RdV w [] vt t) (hkl : 64 < k.length) (hk2 : k.length ≤ 100000) (htl : t.length ≤ 100000) (hD : tagL k t = D) :
    Cv 28 #[.slice A0 k.length c0, vt] w (.eq (.agg (rowA 32 (bF D)))) := by
  unfold Cv
  obtain ⟨E, HE0⟩ := hid_ex (inL k t)
  obtain ⟨G, HG⟩ := hid_ex (shaL Kc Fc k)
  have hkb : keyB k = bAt (digL G) := by unfold keyB keyOf; rw [if_pos hkl, HG.out]
  have HE : Hid (shaL Kc Fc (maskL (bAt (digL G)) 54 ++ t) = E) := Lib.hid (by rw [← HE0.out, inL, hkb])
  have HD : Hid (shaL Kc Fc (maskL (bAt (digL G)) 92 ++ digL E) = D) := Lib.hid (by rw [← hD, tagL, hkb, HE0.out])
  have hd : decide ((64 : Int) < (k.length : Int)) = true := by simp; omega
  clear hkb
  have Rk := Lib.hid hk
  have Rt := Lib.hid ht
  have HT := Lib.hid hT
  clear hT hk ht hD HE0
  go_enter Tryd.func28, Tryd.ntmps28
  go_upto_region 1 with fail
  have r0 := rowIs_box w 31 32 (bF fun _ => 0)
  have hN0 := NewT.alloc w (.cells (rowA 32 (bF fun _ => 0)) 31)
  change Code.wp _ _ _ _ (w.alloc (.cells (rowA 32 (bF fun _ => 0)) 31))
  generalize w.alloc (.cells (rowA 32 (bF fun _ => 0)) 31) = W0 at r0 hN0 ⊢
  replace Rk := Lib.hid (hN0.rd Rk.out)
  replace Rt := Lib.hid (hN0.rd Rt.out)
  have hB := hN0.out
  go_upto_region 2 with fail
  refine wp_region_seq NewT [svRd k, SV.eq (.agg (rowA 32 (bF G))), svNew W0 31 32] [([(0, none)], none), ([(10, some 0)], none), ([], none)] 23 rfl rfl (by kernel_rfl) rfl NewT.trans (NewT.refl _) (Nat.le_of_ble_eq_true rfl) ⟨?_, ?_, ?_, trivial⟩ ?_
  · -- 0: Op.move t0
    intro a wx hT hF K hK
    obtain ⟨f0, _⟩ := hF
    have f0 : a.tmps.getD 0 undef = .slice A0 k.length c0 := f0
    refine rely_wp rfl ?_
    exact opr_move (.inl rfl) (hK _ _ (NewT.refl _) (by rw [eval_tmp, f0]; exact hT.rd Rk.out))
  · -- 1: Op.call ( value (Operand.func 22), args := #[t10], argTypes 
    intro a wx hT hF K hK
    obtain ⟨f10, _⟩ := hF
    replace f10 := show (svRd k).pred (a.tmps.getD 10 undef) wx from f10
    refine rely_wp rfl ?_
    exact opr_cv (RSumB_cv _ k G wx (hT.tables (hN0.tables HT.out)) f10 (by omega) HG.out) rfl Tryd.func22 (by kernel_rfl) (by kernel_rfl) (by simp only [List.map_toArray, List.map_cons, List.map_nil, eval_tmp]) hK
  · -- 2: Op.alloc 31
    intro a wx hT hF K hK
    refine rely_wp rfl ?_
    exact opr_alloc_hash rfl hT hK
  · intro wx hT
    intro u10 h; have g10 := h (by simp); clear h; replace g10 := show (svRd k).pred u10 wx from g10
    intro u h; obtain rfl := h (by simp); clear h
    intro u5 h; obtain ⟨p5, hv, hp5, rr5⟩ := svNew_out (h (by simp)); clear h; subst hv
    refine relyEnd_nil rfl ?_
    simp only [Act.put, List.setIfInBounds_toArray, List.set_cons_zero, List.set_cons_succ]
    refine opr_store_new info31 rfl rfl rfl rr5 hT.out hp5 ?_
    clear hT rr5
    intro wy hT rr5
    replace hT := NewT.of hT
    go_simp
    replace r0 := hT.row r0
    replace Rt := Lib.hid (hT.rd Rt.out)
    replace hB := hB.trans (hT.out.mono hB.size)
    have rdG : RdV wy [] (.slice (some ⟨p5, 0, none⟩) 32 32) (digL G) := rd_row (L := []) rr5 (by simp) (by omega)
    have RdG := Lib.hid rdG
    clear rdG rr5 Rk hT g10 hp5 hN0
    go_upto_region 4 with fail
    refine wp_region_lit ?_
    iterate 1 (refine wpList_plain rfl (fun K hK => ?_); go_simp; refine hK _ _ ?_; clear hK K)
    refine wpList_plain rfl (fun K hK => ?_)
    refine opr_cv (with_54 _ (digL G) wy RdG.out) rfl Tryd.func46 (by kernel_rfl) (by kernel_rfl) (by simp only [List.map_toArray, List.map_cons, List.map_nil]; rfl) ?_
    intro v14 wa hNa o14
    refine hK _ _ ?_
    clear hK K
    obtain ⟨v16, wb, hrun, _, r16, hBb⟩ := run_append_two o14 hNa.out.size (hNa.rd Rt.out) (by rw [maskL_length]; omega) 24
    have hB1 := hB.trans ((hNa.out.mono hB.size).trans (hBb.mono hB.size))
    have r0b := rowIs_below (hNa.row r0) hBb (by have := r0.lt; omega)
    have rtb := (Rt.out.keep (KeepBut.below (hNa.out.trans hBb)))
    have rkb := (RdG.out).keep (KeepBut.below (hNa.out.trans hBb))
    have Rtb := Lib.hid rtb
    have Rkb := Lib.hid rkb
    have R16 := Lib.hid r16
    have HTb := Lib.hid (HT.out.below hB1)
    clear hBb o14 hNa rtb rkb r16
    iterate 1 (refine wpList_plain rfl (fun K hK => ?_); go_simp; refine hK _ _ ?_; clear hK K)
    refine wpList_plain rfl (fun K hK => ?_)
    refine opr_append rfl rfl rfl hrun (hK _ _ ?_)
    clear hrun hK K
    refine wpList_plain rfl (fun K hK => ?_)
    refine opr_cv (RSumB_cv _ _ E wb HTb.out R16.out (by rw [List.length_append, maskL_length]; omega) HE.out) rfl Tryd.func22 (by kernel_rfl) (by kernel_rfl) (by simp only [List.map_toArray, List.map_cons, List.map_nil]; rfl) ?_
    intro v17 wc hNc he17
    obtain rfl : v17 = .agg (rowA 32 (bF E)) := he17
    refine hK _ _ ?_
    clear hK K
    refine wpList_plain rfl (fun K hK => ?_)
    refine opr_alloc_hash rfl (NewT.refl wc) ?_
    intro v6 wd hNd h6
    obtain ⟨p6, hv, hp6, rr6⟩ := svNew_out h6
    subst hv
    refine hK _ _ ?_
    clear hK K h6
    refine wpList_plain rfl (fun K hK => ?_)
    refine opr_store_new (W := wc) info31 rfl rfl rfl rr6 hNd.out hp6 ?_
    intro we hNe r6
    replace hNe := NewT.trans _ _ _ hNc (NewT.of hNe)
    refine hK _ _ ?_
    clear hK K
    replace r0b := hNe.row r0b
    have hB2 := hB1.trans (hNe.out.mono hB1.size)
    have Rke := Lib.hid (hNe.rd Rkb.out)
    have HTe := Lib.hid (hNe.tables HTb.out)
    clear hNc hNd hNe hp6 rr6 Rkb Rtb R16 HTb hB1
    refine wpList_nil ?_
    go_simp
    go_upto_region 5 with fail
    refine wp_region_rely_tail NewT [svRd (digL G), svOwn we (maskL (bAt (digL G)) 92), svRd (digL E)] [([(0, none)], none), ([(18, some 0)], none), ([(6, none)], none)] 23 3 (by kernel_rfl) rfl rfl (Nat.zero_lt_succ _) (by kernel_rfl) (by kernel_rfl) (by kernel_rfl) NewT.trans (NewT.drew _) (Nat.le_of_ble_eq_true rfl) ⟨?_, ?_, ?_, trivial⟩ ?_
    · -- 0: Op.move t0
      intro a wx hT hF K hK
      obtain ⟨f0, _⟩ := hF
      have f0 : a.tmps.getD 0 undef = .slice (some ⟨p5, 0, none⟩) 32 32 := f0
      refine rely_wp rfl ?_
      exact opr_move (.inl rfl) (hK _ _ (NewT.refl _) (by rw [eval_tmp, f0]; exact hT.rd Rke.out))
    · -- 1: Op.call ( value (Operand.func 46), args := #[t18, const (92:
      intro a wx hT hF K hK
      obtain ⟨f18, _⟩ := hF
      replace f18 := show (svRd (digL G)).pred (a.tmps.getD 18 undef) wx from f18
      refine rely_wp rfl ?_
      refine opr_cv (with_92 _ (digL G) wx f18) rfl Tryd.func46 (by kernel_rfl) (by kernel_rfl) (by simp only [List.map_toArray, List.map_cons, List.map_nil, eval_tmp, eval_const]) ?_
      intro v w2 hN2 ho2
      exact hK v w2 hN2 (own_from hT ho2)
    · -- 2: Op.slice 31 t6 none none none
      intro a wx hT hF K hK
      obtain ⟨f6, _⟩ := hF
      have f6 : a.tmps.getD 6 undef = .pointer (some ⟨p6, 0, none⟩) := f6
      refine rely_wp rfl ?_
      exact opr_slice_hash rfl f6 (hK _ _ (NewT.refl _) (rd_row (hT.row r6) (by simp) (by omega)))
    · intro wx hT
      intro u18 h; have g18 := h (by simp); clear h; replace g18 := show (svRd (digL G)).pred u18 wx from g18
      intro u19 h; have g19 := h (by simp); clear h; replace g19 := show (svOwn we (maskL (bAt (digL G)) 92)).pred u19 wx from g19
      intro u20 h; have g20 := h (by simp); clear h; replace g20 := show (svRd (digL E)).pred u20 wx from g20
      refine relyEnd_nil rfl ?_
      simp only [Act.put, List.setIfInBounds_toArray, List.set_cons_zero, List.set_cons_succ]
      refine wpList_plain rfl (fun K hK => ?_)
      obtain ⟨v21, wg, hrun, _, r21, hBg⟩ := run_append_two g19 hT.out.size g20 (by rw [maskL_length, digL_length]; omega) 24
      refine opr_append rfl rfl rfl hrun (hK _ _ ?_)
      clear hrun hK K
      have hB3 := hB2.trans ((hT.out.mono hB2.size).trans (hBg.mono hB2.size))
      have r0g := rowIs_below (hT.row r0b) hBg r0b.lt
      have HTg := Lib.hid (HTe.out.below (hT.out.trans hBg))
      clear hBg hT g19 g20 g18
      refine wpList_plain rfl (fun K hK => ?_)
      refine opr_cv (RSumB_cv _ _ D wg HTg.out r21 (by rw [List.length_append, maskL_length, digL_length]; omega) HD.out) rfl Tryd.func22 (by kernel_rfl) (by kernel_rfl) (by simp only [List.map_toArray, List.map_cons, List.map_nil]; rfl) ?_
      intro v22 wh hNh he22
      obtain rfl : v22 = .agg (rowA 32 (bF D)) := he22
      refine hK _ _ ?_
      clear hK K
      refine wpList_plain rfl (fun K hK => ?_)
      refine opr_store_new (B := w.heap.size) (W := w) info31 rfl rfl rfl (hNh.row r0g) (hB3.trans (hNh.out.mono hB3.size)) (Nat.le_refl _) ?_
      intro wi hBi ri
      refine hK _ _ ?_
      clear hK K
      refine wpList_nil ?_
      go_simp
      go_wp2
      exact bodyPost_ret (results_row rfl _ rfl ri Tryd.underlying31 info31) rfl ⟨_, rfl, hBi, rfl⟩
theorem RTag_cv (vk vt : Value) (k t : List UInt8) (D : Nat → UInt8) (w : World) (hT : Tables w) (hk : RdV w [] vk k) (ht : RdV w [] vt t) (hk2 : k.length ≤ 100000) (htl : t.length ≤ 100000) (hD : tagL k t = D) :
    Cv 28 #[vk, vt] w (.eq (.agg (rowA 32 (bF D)))) := by
  have h := hk
  obtain ⟨A0, c0, rfl, _⟩ := h
  by_cases hl : k.length ≤ 64
  · exact RTag_short A0 c0 vt k t D w hT hk ht hl hk2 htl hD
  · exact RTag_long A0 c0 vt k t D w hT hk ht (by omega) hk2 htl hD
end Go.Proofs.YtpoebajpmkcjdaaDoor
