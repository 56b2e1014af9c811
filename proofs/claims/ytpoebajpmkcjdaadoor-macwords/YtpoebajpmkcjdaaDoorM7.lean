/- Package mac: the tag of parts, by definition: what Tag returns. -/
import Derived.Test.YtpoebajpmkcjdaaDoorM3
import Derived.Test.YtpoebajpmkcjdaaDoorM6
namespace Go.Proofs.YtpoebajpmkcjdaaDoor
open Go Go.RowKit
theorem masked_54 (b : Nat → UInt8) (w : World) : Cv 44 #[.agg (rowA 64 (bF b)), .int .u8 54] w (svRd (maskL b 54)) := masked_any b 54 w
theorem masked_92 (b : Nat → UInt8) (w : World) : Cv 44 #[.agg (rowA 64 (bF b)), .int .u8 92] w (svRd (maskL b 92)) := masked_any b 92 w
/-- The digest that is inside a tag. -/
def inL (key text : List UInt8) : Nat → UInt8 := shaL Kc Fc (maskL (keyB key) 54 ++ text)
/-- HMAC-SHA-256. -/
def tagL (key text : List UInt8) : Nat → UInt8 := shaL Kc Fc (maskL (keyB key) 92 ++ digL (inL key text))
set_option maxHeartbeats 2000000 in
theorem Tag_cv (kv pv : Value) (kl : List UInt8) (ls : List (List UInt8)) (D : Nat → UInt8) (w : World) (hT : Tables w) (hk : RdV w [] kv kl) (hkl : kl.length ≤ 1000000) (hp : Parts w pv ls) (hlen : ls.length ≤ 100000) (htot : ls.flatten.length ≤ 1000000) (hD : tagL kl ls.flatten = D) :
    Cv 27 #[kv, pv] w (.eq (.agg (rowA 32 (bF D)))) := by
  unfold Cv
  obtain ⟨E, HE⟩ := hid_ex (inL kl ls.flatten)
  obtain ⟨B, HB⟩ := hid_ex (keyB kl)
  have HD : Hid (shaL Kc Fc (maskL B 92 ++ digL E) = D) := Lib.hid (by rw [← hD, tagL, HB.out, HE.out])
  have HE2 : Hid (shaL Kc Fc (maskL B 54 ++ ls.flatten) = E) := Lib.hid (by rw [← HE.out, inL, HB.out])
  have HT := Lib.hid hT
  have Hk := Lib.hid hk
  have Hp := Lib.hid hp
  clear hT hk hp hD HE
  go_enter Tryd.func27, Tryd.ntmps27
  go_upto_region 1 with fail
  have r0 := rowIs_box w 31 32 (bF fun _ => 0)
  have hB0 := NewT.alloc w (.cells (rowA 32 (bF fun _ => 0)) 31)
  change Code.wp _ _ _ _ (w.alloc (.cells (rowA 32 (bF fun _ => 0)) 31))
  generalize w.alloc (.cells (rowA 32 (bF fun _ => 0)) 31) = W0 at r0 hB0 ⊢
  replace HT := Lib.hid (hB0.tables HT.out)
  replace Hk := Lib.hid (hB0.rd Hk.out)
  replace Hp := Lib.hid (hB0.partsL Hp.out)
  refine wp_region_seq NewT [svRd kl, SV.eq (.agg (rowA 64 (bF B))), svNew W0 57 64] [([(0, none)], none), ([(7, some 0)], none), ([], none)] 19 rfl rfl (by kernel_rfl) rfl NewT.trans (NewT.refl _) (Nat.le_of_ble_eq_true rfl) ⟨?_, ?_, ?_, trivial⟩ ?_
  · -- 0: Op.move t0
    intro a wx hT hF K hK
    obtain ⟨f0, _⟩ := hF
    have f0 : a.tmps.getD 0 undef = kv := f0
    refine rely_wp rfl ?_
    exact opr_move (.inl rfl) (hK _ _ (NewT.refl _) (by rw [eval_tmp, f0]; exact hT.rd Hk.out))
  · -- 1: Op.call ( value (Operand.func 42), args := #[t7], argTypes :
    intro a wx hT hF K hK
    obtain ⟨f7, _⟩ := hF
    replace f7 := show (svRd kl).pred (a.tmps.getD 7 undef) wx from f7
    refine rely_wp rfl ?_
    exact opr_cv (HB.out ▸ keyBlock_cv _ kl wx (hT.tables HT.out) f7 (by omega)) rfl Tryd.func42 (by kernel_rfl) (by kernel_rfl) (by simp only [List.map_toArray, List.map_cons, List.map_nil, eval_tmp]) hK
  · -- 2: Op.alloc 57
    intro a wx hT hF K hK
    refine rely_wp rfl ?_
    exact opr_alloc_64 rfl hT hK
  · intro wx hT
    intro u7 h; have g7 := h (by simp); clear h; replace g7 := show (svRd kl).pred u7 wx from g7
    intro u h; obtain rfl := h (by simp); clear h
    intro u5 h; obtain ⟨p5, hv, hp5, rr5⟩ := svNew_out (h (by simp)); clear h; subst hv
    refine relyEnd_nil rfl ?_
    simp only [Act.put, List.setIfInBounds_toArray, List.set_cons_zero, List.set_cons_succ]
    refine opr_store_new info64 rfl rfl rfl rr5 hT.out hp5 ?_
    clear hT rr5
    intro wy hT rr5
    replace hT := NewT.of hT
    go_simp
    replace HT := Lib.hid (hT.tables HT.out)
    replace Hp := Lib.hid (hT.partsL Hp.out)
    replace r0 := hT.row r0
    have hB1 := NewT.trans _ _ _ hB0 hT
    clear hT Hk g7 hp5 hB0
    go_upto_region 2 with fail
    refine wp_region_seq NewT [SV.eq (.agg (rowA 64 (bF B))), svRd (maskL B 54), svParts ls, svParts (maskL B 54 :: ls), SV.eq (.agg (rowA 32 (bF E))), svNew wy 31 32] [([(5, none)], none), ([(9, some 0)], none), ([(1, none)], none), ([(10, some 1), (11, some 2)], none), ([(12, some 3)], none), ([], none)] 19 rfl rfl (by kernel_rfl) rfl NewT.trans (NewT.refl _) (Nat.le_of_ble_eq_true rfl) ⟨?_, ?_, ?_, ?_, ?_, ?_, trivial⟩ ?_
    · -- 0: Op.load 57 t5
      intro a wx hT hF K hK
      obtain ⟨f5, _⟩ := hF
      have f5 : a.tmps.getD 5 undef = .pointer (some ⟨p5, 0, none⟩) := f5
      refine rely_wp rfl ?_
      exact opr_load_64 rfl f5 (hT.row rr5) (hK _ _ (NewT.refl _) rfl)
    · -- 1: Op.call ( value (Operand.func 44), args := #[t9, const (54:u
      intro a wx hT hF K hK
      obtain ⟨f9, _⟩ := hF
      have f9 : a.tmps.getD 9 undef = .agg (rowA 64 (bF B)) := f9
      refine rely_wp rfl ?_
      exact opr_cv (masked_54 B wx) rfl Tryd.func44 (by kernel_rfl) (by kernel_rfl) (by simp only [List.map_toArray, List.map_cons, List.map_nil, eval_tmp, eval_const, f9]) hK
    · -- 2: Op.move t1
      intro a wx hT hF K hK
      obtain ⟨f1, _⟩ := hF
      have f1 : a.tmps.getD 1 undef = pv := f1
      refine rely_wp rfl ?_
      exact opr_move (.inl rfl) (hK _ _ (NewT.refl _) (by rw [eval_tmp, f1]; exact hT.partsL Hp.out))
    · -- 3: Op.call ( value (Operand.func 43), args := #[t10, Operand.fu
      intro a wx hT hF K hK
      obtain ⟨f10, f11, _⟩ := hF
      replace f10 := show (svRd (maskL B 54)).pred (a.tmps.getD 10 undef) wx from f10
      replace f11 := show (svParts ls).pred (a.tmps.getD 11 undef) wx from f11
      refine rely_wp rfl ?_
      exact opr_cv (text_plain _ _ _ ls wx f10 f11 hlen) rfl Tryd.func43 (by kernel_rfl) (by kernel_rfl) (by simp only [List.map_toArray, List.map_cons, List.map_nil, eval_tmp, eval_func]) hK
    · -- 4: Op.call ( value (Operand.func 21), args := #[t12], argTypes 
      intro a wx hT hF K hK
      obtain ⟨f12, _⟩ := hF
      replace f12 := show (svParts (maskL B 54 :: ls)).pred (a.tmps.getD 12 undef) wx from f12
      refine rely_wp rfl ?_
      exact opr_cv (Sum_cv _ (maskL B 54 :: ls) E wx (hT.tables HT.out) f12 (by simp only [List.flatten_cons, List.length_append, maskL_length]; omega) (by simpa using HE2.out)) rfl Tryd.func21 (by kernel_rfl) (by kernel_rfl) (by simp only [List.map_toArray, List.map_cons, List.map_nil, eval_tmp]) hK
    · -- 5: Op.alloc 31
      intro a wx hT hF K hK
      refine rely_wp rfl ?_
      exact opr_alloc_hash rfl hT hK
    · intro wx hT
      intro u h; obtain rfl := h (by simp); clear h
      intro u10 h; have g10 := h (by simp); clear h; replace g10 := show (svRd (maskL B 54)).pred u10 wx from g10
      intro u11 h; have g11 := h (by simp); clear h; replace g11 := show (svParts ls).pred u11 wx from g11
      intro u12 h; have g12 := h (by simp); clear h; replace g12 := show (svParts (maskL B 54 :: ls)).pred u12 wx from g12
      intro u h; obtain rfl := h (by simp); clear h
      intro u6 h; obtain ⟨p6, hv, hp6, rr6⟩ := svNew_out (h (by simp)); clear h; subst hv
      refine relyEnd_nil rfl ?_
      simp only [Act.put, List.setIfInBounds_toArray, List.set_cons_zero, List.set_cons_succ]
      refine opr_store_new info31 rfl rfl rfl rr6 hT.out hp6 ?_
      clear hT rr6
      intro wz hT rr6
      replace hT := NewT.of hT
      go_simp
      replace HT := Lib.hid (hT.tables HT.out)
      replace r0 := hT.row r0
      replace rr5 := hT.row rr5
      have hB2 := NewT.trans _ _ _ hB1 hT
      clear hT g10 g11 g12 hp6 hB1 Hp HE2
      go_upto_region 3 with fail
      refine wp_region_rely NewT [SV.eq (.agg (rowA 64 (bF B))), svRd (maskL B 92), svRd (digL E), svParts [(maskL B 92), (digL E)], SV.eq (.agg (rowA 32 (bF D)))] [([(5, none)], none), ([(14, some 0)], none), ([(6, none)], none), ([(15, some 1), (16, some 2)], none), ([(17, some 3)], none)] 19 rfl (by kernel_rfl) rfl (by kernel_rfl) (by kernel_rfl) rfl NewT.trans (NewT.drew _) (Nat.le_of_ble_eq_true rfl) ⟨?_, ?_, ?_, ?_, ?_, trivial⟩ ?_
      · -- 0: Op.load 57 t5
        intro a wx hT hF K hK
        obtain ⟨f5, _⟩ := hF
        have f5 : a.tmps.getD 5 undef = .pointer (some ⟨p5, 0, none⟩) := f5
        refine rely_wp rfl ?_
        exact opr_load_64 rfl f5 (hT.row rr5) (hK _ _ (NewT.refl _) rfl)
      · -- 1: Op.call ( value (Operand.func 44), args := #[t14, const (92:
        intro a wx hT hF K hK
        obtain ⟨f14, _⟩ := hF
        have f14 : a.tmps.getD 14 undef = .agg (rowA 64 (bF B)) := f14
        refine rely_wp rfl ?_
        exact opr_cv (masked_92 B wx) rfl Tryd.func44 (by kernel_rfl) (by kernel_rfl) (by simp only [List.map_toArray, List.map_cons, List.map_nil, eval_tmp, eval_const, f14]) hK
      · -- 2: Op.slice 31 t6 none none none
        intro a wx hT hF K hK
        obtain ⟨f6, _⟩ := hF
        have f6 : a.tmps.getD 6 undef = .pointer (some ⟨p6, 0, none⟩) := f6
        refine rely_wp rfl ?_
        exact opr_slice_hash rfl f6 (hK _ _ (NewT.refl _) (rd_row (hT.row rr6) (by simp) (by omega)))
      · -- 3: Op.buildSlice 41 2 #[(0, t15), (1, t16)]
        intro a wx hT hF K hK
        obtain ⟨f15, f16, _⟩ := hF
        replace f15 := show (svRd (maskL B 92)).pred (a.tmps.getD 15 undef) wx from f15
        replace f16 := show (svRd (digL E)).pred (a.tmps.getD 16 undef) wx from f16
        refine rely_wp rfl ?_
        exact opr_bs2 rfl f15 f16 hK
      · -- 4: Op.call ( value (Operand.func 21), args := #[t17], argTypes 
        intro a wx hT hF K hK
        obtain ⟨f17, _⟩ := hF
        replace f17 := show (svParts [(maskL B 92), (digL E)]).pred (a.tmps.getD 17 undef) wx from f17
        refine rely_wp rfl ?_
        exact opr_cv (Sum_cv _ [maskL B 92, digL E] D wx (hT.tables HT.out) f17 (by simp [maskL_length, digL_length]) (by simpa using HD.out)) rfl Tryd.func21 (by kernel_rfl) (by kernel_rfl) (by simp only [List.map_toArray, List.map_cons, List.map_nil, eval_tmp]) hK
      · intro wx hT
        intro u h; obtain rfl := h (by simp); clear h
        intro u15 h; have g15 := h (by simp); clear h; replace g15 := show (svRd (maskL B 92)).pred u15 wx from g15
        intro u16 h; have g16 := h (by simp); clear h; replace g16 := show (svRd (digL E)).pred u16 wx from g16
        intro u17 h; have g17 := h (by simp); clear h; replace g17 := show (svParts [(maskL B 92), (digL E)]).pred u17 wx from g17
        intro u h; obtain rfl := h (by simp); clear h
        refine relyEnd_nil rfl ?_
        simp only [Act.put, List.setIfInBounds_toArray, List.set_cons_zero, List.set_cons_succ]
        refine opr_store_new (B := w.heap.size) (W := w) info31 rfl rfl rfl (hT.row r0) (NewT.trans _ _ _ hB2 hT) (Nat.le_refl _) ?_
        intro w9 hB9 r9
        go_simp
        go_wp2
        exact bodyPost_ret (results_row rfl _ rfl r9 Tryd.underlying31 info31) rfl ⟨_, rfl, hB9, rfl⟩
end Go.Proofs.YtpoebajpmkcjdaaDoor
