/- The law MacParts, walked: a tag is the same however its parts are cut, and a long key is its digest. -/
import Derived.Test.YtpoebajpmkcjdaaDoorMA
namespace Go.Proofs.YtpoebajpmkcjdaaDoor
open Go Go.RowKit
theorem keyB_dig (d : Nat → UInt8) : keyB (digL d) = bAt (digL d) := by unfold keyB keyOf; rw [if_neg (by rw [digL_length]; omega)]
/-- A long key is its digest. -/
theorem tagL_long (k t : List UInt8) (h : 64 < k.length) : tagL (digL (shaL Kc Fc k)) t = tagL k t := by
  have e : keyB (digL (shaL Kc Fc k)) = keyB k := by rw [keyB_dig]; unfold keyB keyOf; rw [if_pos h]
  unfold tagL inL
  rw [e]
set_option maxHeartbeats 4000000 in
theorem MacParts_walk (vk va vb : Value) (lk la lb : List UInt8) (w : World) (hT : Tables w) (hk : RdV w [] vk lk) (ha : RdV w [] va la) (hb : RdV w [] vb lb) :
    Calls Tryd.prog 11 #[vk, va, vb] w fun e w' => e = .returned (.bool true) ∧ Below w.heap.size w w' := by
  have HT := Lib.hid hT
  have Hk := Lib.hid hk
  have Ha := Lib.hid ha
  have Hb := Lib.hid hb
  obtain ⟨Ak, ck, rfl⟩ := rdV_form hk
  obtain ⟨Aa, ca, rfl⟩ := rdV_form ha
  obtain ⟨Ab, cb, rfl⟩ := rdV_form hb
  clear hT hk ha hb
  generalize hnk : lk.length = nk
  generalize hna : la.length = na
  generalize hnb : lb.length = nb
  by_cases g1 : 300 < nk
  · go_enter Tryd.func11, Tryd.ntmps11
    go_wp2_with fail
    refine (alive2_any w HT.out).mono ?_
    rintro e w1 ⟨rfl, hB⟩
    go_wp2
    go_ret
    exact ⟨rfl, hB⟩
  by_cases g2 : 300 < na
  · go_enter Tryd.func11, Tryd.ntmps11
    go_wp2_with fail
    refine (alive2_any w HT.out).mono ?_
    rintro e w1 ⟨rfl, hB⟩
    go_wp2
    go_ret
    exact ⟨rfl, hB⟩
  by_cases g3 : 300 < nb
  · go_enter Tryd.func11, Tryd.ntmps11
    go_wp2_with fail
    refine (alive2_any w HT.out).mono ?_
    rintro e w1 ⟨rfl, hB⟩
    go_wp2
    go_ret
    exact ⟨rfl, hB⟩
  rw [hnk] at Hk
  rw [hna] at Ha
  rw [hnb] at Hb
  go_enter Tryd.func11, Tryd.ntmps11
  go_wp2_with fail
  refine (alive2_any w HT.out).mono ?_
  rintro e w1 ⟨rfl, hB⟩
  have Rk := Lib.hid (Hk.out.keep (KeepBut.below hB))
  have Ra := Lib.hid (Ha.out.keep (KeepBut.below hB))
  have Rb := Lib.hid (Hb.out.keep (KeepBut.below hB))
  clear Hk Ha Hb
  obtain ⟨i0, hi, hz0, hz1, hz2⟩ := info_parts info5
  obtain ⟨D, HD⟩ := hid_ex (tagL lk (la ++ lb))
  go_upto_region 8 with (at_builtin; first
    | (refine wpList_append_rd rfl (.tmp 25) (.tmp 26) 24 rfl (base := w1.heap.size) Tryd.underlying24 hi hz0 hz1 hz2 rfl (World.ownsRow_nil _ _ _ _) rfl Ra.out (by omega) (Nat.le_refl _) ?_; intro v2 w2 o2 grow2
       have b2 : Below w1.heap.size w1 w2 := (Below.refl _ w1).grown grow2 (Nat.le_refl _) (fun k e => by cases e)
       have Rb2 := Lib.hid (Rb.out.keep (KeepBut.below b2))
       clear grow2)
    | (refine wpList_append_rd rfl (.tmp 28) (.tmp 29) 24 rfl (base := w1.heap.size) Tryd.underlying24 hi hz0 hz1 hz2 rfl o2 rfl Rb2.out (by omega) b2.size ?_; intro v3 w3 o3 grow3
       have b3 : Below w1.heap.size w1 w3 := b2.grown grow3 b2.size (fun k e => (o2.lt k e).1)
       clear grow3 o2 Rb2))
  have Rall : Hid (RdV w3 [] v3 (la ++ lb)) := Lib.hid (rdV_own (by simpa [List.map_append] using o3) (by simp) (by simp))
  replace Rk := Lib.hid (Rk.out.keep (KeepBut.below b3))
  replace Ra := Lib.hid (Ra.out.keep (KeepBut.below b3))
  replace Rb := Lib.hid (Rb.out.keep (KeepBut.below b3))
  replace hB := hB.trans (b3.mono hB.size)
  replace HT := Lib.hid (HT.out.below hB)
  have hab : (la ++ lb).length ≤ 600 := by simp; omega
  clear b2 b3 o3 hi hz0 hz1 hz2
  refine wp_region_seq NewT [svRd lk, svRd la, svRd lb, svParts [la, lb], SV.eq (.agg (rowA 32 (bF D))), svNew w3 31 32] [([(0, none)], none), ([(1, none)], none), ([(2, none)], none), ([(32, some 1), (33, some 2)], none), ([(31, some 0), (34, some 3)], none), ([], none)] 54 rfl rfl (by kernel_rfl) rfl NewT.trans (NewT.refl _) (Nat.le_of_ble_eq_true rfl) ⟨?_, ?_, ?_, ?_, ?_, ?_, trivial⟩ ?_
  · -- 0: Op.move t0
    intro a wx hT hF K hK
    obtain ⟨f0, _⟩ := hF
    have f0 : a.tmps.getD 0 undef = .slice Ak nk ck := f0
    refine rely_wp rfl ?_
    exact opr_move (.inl rfl) (hK _ _ (NewT.refl _) (by rw [eval_tmp, f0]; exact hT.rd Rk.out))
  · -- 1: Op.move t1
    intro a wx hT hF K hK
    obtain ⟨f1, _⟩ := hF
    have f1 : a.tmps.getD 1 undef = .slice Aa na ca := f1
    refine rely_wp rfl ?_
    exact opr_move (.inl rfl) (hK _ _ (NewT.refl _) (by rw [eval_tmp, f1]; exact hT.rd Ra.out))
  · -- 2: Op.move t2
    intro a wx hT hF K hK
    obtain ⟨f2, _⟩ := hF
    have f2 : a.tmps.getD 2 undef = .slice Ab nb cb := f2
    refine rely_wp rfl ?_
    exact opr_move (.inl rfl) (hK _ _ (NewT.refl _) (by rw [eval_tmp, f2]; exact hT.rd Rb.out))
  · -- 3: Op.buildSlice 41 2 #[(0, t32), (1, t33)]
    intro a wx hT hF K hK
    obtain ⟨f32, f33, _⟩ := hF
    replace f32 := show (svRd la).pred (a.tmps.getD 32 undef) wx from f32
    replace f33 := show (svRd lb).pred (a.tmps.getD 33 undef) wx from f33
    refine rely_wp rfl ?_
    exact opr_bs2 rfl f32 f33 hK
  · -- 4: Op.call ( value (Operand.func 27), args := #[t31, t34], argT
    intro a wx hT hF K hK
    obtain ⟨f31, f34, _⟩ := hF
    replace f31 := show (svRd lk).pred (a.tmps.getD 31 undef) wx from f31
    replace f34 := show (svParts [la, lb]).pred (a.tmps.getD 34 undef) wx from f34
    refine rely_wp rfl ?_
    exact opr_cv (Tag_cv _ _ lk [la, lb] D wx (hT.tables HT.out) f31 (by omega) f34 (by simp) (by have := hab; simp only [List.flatten_cons, List.flatten_nil, List.append_nil]; omega) (by simpa using HD.out)) rfl Tryd.func27 (by kernel_rfl) (by kernel_rfl) (by simp only [List.map_toArray, List.map_cons, List.map_nil, eval_tmp]) hK
  · -- 5: Op.alloc 31
    intro a wx hT hF K hK
    refine rely_wp rfl ?_
    exact opr_alloc_hash rfl hT hK
  · intro wx hT
    intro u31 h; have g31 := h (by simp); clear h; replace g31 := show (svRd lk).pred u31 wx from g31
    intro u32 h; have g32 := h (by simp); clear h; replace g32 := show (svRd la).pred u32 wx from g32
    intro u33 h; have g33 := h (by simp); clear h; replace g33 := show (svRd lb).pred u33 wx from g33
    intro u34 h; have g34 := h (by simp); clear h; replace g34 := show (svParts [la, lb]).pred u34 wx from g34
    intro u h; obtain rfl := h (by simp); clear h
    intro u8 h; obtain ⟨p8, hv, hp8, rr8⟩ := svNew_out (h (by simp)); clear h; subst hv
    refine relyEnd_nil rfl ?_
    simp only [Act.put, List.setIfInBounds_toArray, List.set_cons_zero, List.set_cons_succ]
    refine opr_store_new info31 rfl rfl rfl rr8 hT.out hp8 ?_
    clear hT rr8
    intro wy hT rr8
    replace hT := NewT.of hT
    go_simp
    replace Rk := Lib.hid (hT.rd Rk.out)
    replace Rall := Lib.hid (hT.rd Rall.out)
    replace HT := Lib.hid (hT.tables HT.out)
    replace hB := hB.trans (hT.out.mono hB.size)
    clear hT hp8 g31 g32 g33 g34 Ra Rb
    go_upto_region 9 with fail
    refine wp_region_rely NewT [SV.eq (.agg (rowA 32 (bF D))), svRd lk, svRd (la ++ lb), svParts [(la ++ lb)], SV.eq (.agg (rowA 32 (bF D)))] [([(8, none)], none), ([(0, none)], none), ([(7, none)], none), ([(38, some 2)], none), ([(37, some 1), (39, some 3)], none)] 54 rfl (by kernel_rfl) rfl (by kernel_rfl) (by kernel_rfl) rfl NewT.trans (NewT.drew _) (Nat.le_of_ble_eq_true rfl) ⟨?_, ?_, ?_, ?_, ?_, trivial⟩ ?_
    · -- 0: Op.load 31 t8
      intro a wx hT hF K hK
      obtain ⟨f8, _⟩ := hF
      have f8 : a.tmps.getD 8 undef = .pointer (some ⟨p8, 0, none⟩) := f8
      refine rely_wp rfl ?_
      exact opr_load_hash rfl f8 (hT.row rr8) (hK _ _ (NewT.refl _) rfl)
    · -- 1: Op.move t0
      intro a wx hT hF K hK
      obtain ⟨f0, _⟩ := hF
      have f0 : a.tmps.getD 0 undef = .slice Ak nk ck := f0
      refine rely_wp rfl ?_
      exact opr_move (.inl rfl) (hK _ _ (NewT.refl _) (by rw [eval_tmp, f0]; exact hT.rd Rk.out))
    · -- 2: Op.move t7
      intro a wx hT hF K hK
      obtain ⟨f7, _⟩ := hF
      have f7 : a.tmps.getD 7 undef = v3 := f7
      refine rely_wp rfl ?_
      exact opr_move (.inl rfl) (hK _ _ (NewT.refl _) (by rw [eval_tmp, f7]; exact hT.rd Rall.out))
    · -- 3: Op.buildSlice 41 1 #[(0, t38)]
      intro a wx hT hF K hK
      obtain ⟨f38, _⟩ := hF
      replace f38 := show (svRd (la ++ lb)).pred (a.tmps.getD 38 undef) wx from f38
      refine rely_wp rfl ?_
      exact opr_bs1 rfl f38 hK
    · -- 4: Op.call ( value (Operand.func 27), args := #[t37, t39], argT
      intro a wx hT hF K hK
      obtain ⟨f37, f39, _⟩ := hF
      replace f37 := show (svRd lk).pred (a.tmps.getD 37 undef) wx from f37
      replace f39 := show (svParts [(la ++ lb)]).pred (a.tmps.getD 39 undef) wx from f39
      refine rely_wp rfl ?_
      exact opr_cv (Tag_cv _ _ lk [la ++ lb] D wx (hT.tables HT.out) f37 (by omega) f39 (by simp) (by have := hab; simp only [List.flatten_cons, List.flatten_nil, List.append_nil]; omega) (by simpa using HD.out)) rfl Tryd.func27 (by kernel_rfl) (by kernel_rfl) (by simp only [List.map_toArray, List.map_cons, List.map_nil, eval_tmp]) hK
    · intro wx hT
      intro u h; obtain rfl := h (by simp); clear h
      intro u37 h; have g37 := h (by simp); clear h; replace g37 := show (svRd lk).pred u37 wx from g37
      intro u38 h; have g38 := h (by simp); clear h; replace g38 := show (svRd (la ++ lb)).pred u38 wx from g38
      intro u39 h; have g39 := h (by simp); clear h; replace g39 := show (svParts [(la ++ lb)]).pred u39 wx from g39
      intro u h; obtain rfl := h (by simp); clear h
      refine relyEnd_nil rfl ?_
      simp only [Act.put, List.setIfInBounds_toArray, List.set_cons_zero, List.set_cons_succ]
      refine opr_neq_hash (b := false) rfl rfl rfl (by rw [eqH_same]; rfl) ?_
      go_simp
      replace Rk := Lib.hid (hT.rd Rk.out)
      replace Rall := Lib.hid (hT.rd Rall.out)
      replace HT := Lib.hid (hT.tables HT.out)
      replace hB := hB.trans (hT.out.mono hB.size)
      replace rr8 := hT.row rr8
      clear hT g37 g38 g39
      by_cases g4 : nk ≤ 64
      · go_wp2
        go_ret
        exact ⟨rfl, hB⟩
      obtain ⟨E, HE⟩ := hid_ex (shaL Kc Fc lk)
      have HD2 : Hid (tagL (digL E) (la ++ lb) = D) := Lib.hid (by rw [← HE.out, tagL_long _ _ (by omega)]; exact HD.out)
      go_upto_region 13 with fail
      refine wp_region_seq NewT [svRd lk, svParts [lk], SV.eq (.agg (rowA 32 (bF E))), svNew wx 31 32] [([(0, none)], none), ([(45, some 0)], none), ([(46, some 1)], none), ([], none)] 54 rfl rfl (by kernel_rfl) rfl NewT.trans (NewT.refl _) (Nat.le_of_ble_eq_true rfl) ⟨?_, ?_, ?_, ?_, trivial⟩ ?_
      · -- 0: Op.move t0
        intro a wx hT hF K hK
        obtain ⟨f0, _⟩ := hF
        have f0 : a.tmps.getD 0 undef = .slice Ak nk ck := f0
        refine rely_wp rfl ?_
        exact opr_move (.inl rfl) (hK _ _ (NewT.refl _) (by rw [eval_tmp, f0]; exact hT.rd Rk.out))
      · -- 1: Op.buildSlice 41 1 #[(0, t45)]
        intro a wx hT hF K hK
        obtain ⟨f45, _⟩ := hF
        replace f45 := show (svRd lk).pred (a.tmps.getD 45 undef) wx from f45
        refine rely_wp rfl ?_
        exact opr_bs1 rfl f45 hK
      · -- 2: Op.call ( value (Operand.func 21), args := #[t46], argTypes 
        intro a wx hT hF K hK
        obtain ⟨f46, _⟩ := hF
        replace f46 := show (svParts [lk]).pred (a.tmps.getD 46 undef) wx from f46
        refine rely_wp rfl ?_
        exact opr_cv (Sum_cv _ [lk] E wx (hT.tables HT.out) f46 (by simp; omega) (by simpa using HE.out)) rfl Tryd.func21 (by kernel_rfl) (by kernel_rfl) (by simp only [List.map_toArray, List.map_cons, List.map_nil, eval_tmp]) hK
      · -- 3: Op.alloc 31
        intro a wx hT hF K hK
        refine rely_wp rfl ?_
        exact opr_alloc_hash rfl hT hK
      · intro wx hT
        intro u45 h; have g45 := h (by simp); clear h; replace g45 := show (svRd lk).pred u45 wx from g45
        intro u46 h; have g46 := h (by simp); clear h; replace g46 := show (svParts [lk]).pred u46 wx from g46
        intro u h; obtain rfl := h (by simp); clear h
        intro u9 h; obtain ⟨p9, hv, hp9, rr9⟩ := svNew_out (h (by simp)); clear h; subst hv
        refine relyEnd_nil rfl ?_
        simp only [Act.put, List.setIfInBounds_toArray, List.set_cons_zero, List.set_cons_succ]
        refine opr_store_new info31 rfl rfl rfl rr9 hT.out hp9 ?_
        clear hT rr9
        intro wy hT rr9
        replace hT := NewT.of hT
        go_simp
        replace Rall := Lib.hid (hT.rd Rall.out)
        replace HT := Lib.hid (hT.tables HT.out)
        replace hB := hB.trans (hT.out.mono hB.size)
        replace rr8 := hT.row rr8
        clear hT hp9 g45 g46 Rk
        go_upto_region 14 with fail
        refine wp_region_rely NewT [svRd (digL E), svRd (la ++ lb), svParts [(la ++ lb)], SV.eq (.agg (rowA 32 (bF D))), SV.eq (.agg (rowA 32 (bF D))), SV.eq (.bool true)] [([(9, none)], none), ([(7, none)], none), ([(49, some 1)], none), ([(48, some 0), (50, some 2)], none), ([(8, none)], none), ([(51, some 3), (52, some 4)], none)] 54 rfl (by kernel_rfl) rfl (by kernel_rfl) (by kernel_rfl) rfl NewT.trans (NewT.drew _) (Nat.le_of_ble_eq_true rfl) ⟨?_, ?_, ?_, ?_, ?_, ?_, trivial⟩ ?_
        · -- 0: Op.slice 31 t9 none none none
          intro a wx hT hF K hK
          obtain ⟨f9, _⟩ := hF
          have f9 : a.tmps.getD 9 undef = .pointer (some ⟨p9, 0, none⟩) := f9
          refine rely_wp rfl ?_
          exact opr_slice_hash rfl f9 (hK _ _ (NewT.refl _) (rd_row (hT.row rr9) (by simp) (by omega)))
        · -- 1: Op.move t7
          intro a wx hT hF K hK
          obtain ⟨f7, _⟩ := hF
          have f7 : a.tmps.getD 7 undef = v3 := f7
          refine rely_wp rfl ?_
          exact opr_move (.inl rfl) (hK _ _ (NewT.refl _) (by rw [eval_tmp, f7]; exact hT.rd Rall.out))
        · -- 2: Op.buildSlice 41 1 #[(0, t49)]
          intro a wx hT hF K hK
          obtain ⟨f49, _⟩ := hF
          replace f49 := show (svRd (la ++ lb)).pred (a.tmps.getD 49 undef) wx from f49
          refine rely_wp rfl ?_
          exact opr_bs1 rfl f49 hK
        · -- 3: Op.call ( value (Operand.func 27), args := #[t48, t50], argT
          intro a wx hT hF K hK
          obtain ⟨f48, f50, _⟩ := hF
          replace f48 := show (svRd (digL E)).pred (a.tmps.getD 48 undef) wx from f48
          replace f50 := show (svParts [(la ++ lb)]).pred (a.tmps.getD 50 undef) wx from f50
          refine rely_wp rfl ?_
          exact opr_cv (Tag_cv _ _ (digL E) [la ++ lb] D wx (hT.tables HT.out) f48 (by rw [digL_length]; omega) f50 (by simp) (by have := hab; simp only [List.flatten_cons, List.flatten_nil, List.append_nil]; omega) (by simpa using HD2.out)) rfl Tryd.func27 (by kernel_rfl) (by kernel_rfl) (by simp only [List.map_toArray, List.map_cons, List.map_nil, eval_tmp]) hK
        · -- 4: Op.load 31 t8
          intro a wx hT hF K hK
          obtain ⟨f8, _⟩ := hF
          have f8 : a.tmps.getD 8 undef = .pointer (some ⟨p8, 0, none⟩) := f8
          refine rely_wp rfl ?_
          exact opr_load_hash rfl f8 (hT.row rr8) (hK _ _ (NewT.refl _) rfl)
        · -- 5: Op.binOp BinOp.eql 31 t51 t52 31
          intro a wx hT hF K hK
          obtain ⟨f51, f52, _⟩ := hF
          have f51 : a.tmps.getD 51 undef = .agg (rowA 32 (bF D)) := f51
          have f52 : a.tmps.getD 52 undef = .agg (rowA 32 (bF D)) := f52
          refine rely_wp rfl ?_
          exact opr_eql_hash rfl f51 f52 (eqH_same D) (hK _ _ (NewT.refl _) rfl)
        · intro wx hT
          intro u48 h; have g48 := h (by simp); clear h; replace g48 := show (svRd (digL E)).pred u48 wx from g48
          intro u49 h; have g49 := h (by simp); clear h; replace g49 := show (svRd (la ++ lb)).pred u49 wx from g49
          intro u50 h; have g50 := h (by simp); clear h; replace g50 := show (svParts [(la ++ lb)]).pred u50 wx from g50
          intro u h; obtain rfl := h (by simp); clear h
          intro u h; obtain rfl := h (by simp); clear h
          intro u h; obtain rfl := h (by simp); clear h
          refine relyEnd_nil rfl ?_
          simp only [Act.put, List.setIfInBounds_toArray, List.set_cons_zero, List.set_cons_succ]
          refine opr_move (.inr rfl) ?_
          go_simp
          go_wp2
          go_ret
          exact ⟨rfl, hB.trans (hT.out.mono hB.size)⟩
end Go.Proofs.YtpoebajpmkcjdaaDoor
