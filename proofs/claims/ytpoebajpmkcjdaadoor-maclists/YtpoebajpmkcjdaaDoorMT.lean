/- The law MacTags, walked: every tag, and which hashes are the same, are the document's. -/
import Derived.Test.YtpoebajpmkcjdaaDoorMS
import Derived.Test.YtpoebajpmkcjdaaDoorMA
namespace Go.Proofs.YtpoebajpmkcjdaaDoor
open Go Go.RowKit
theorem parts_form {w : World} {v : Value} {ls : List (List UInt8)} (h : Parts w v ls) : ∃ A c, v = .slice A ls.length c := by
  obtain ⟨ps, ⟨A, c, hv, _⟩, rfl⟩ := h
  exact ⟨A, c, by rw [hv]; simp⟩
set_option maxHeartbeats 1000000 in
theorem MacTags_walk (vk pv : Value) (lk : List UInt8) (ls : List (List UInt8)) (da db : Nat → UInt8) (w : World) (hT : Tables w) (hk : RdV w [] vk lk) (hp : Parts w pv ls) (hb : ∀ l ∈ ls, l.length ≤ 140737488351232) :
    Calls Tryd.prog 9 #[vk, pv, .agg (rowA 32 (bF da)), .agg (rowA 32 (bF db))] w fun e w' => e = .returned (.bool true) ∧ Below w.heap.size w w' := by
  have Hk := Lib.hid hk
  have HT := Lib.hid hT
  have Hp := Lib.hid hp
  have Hb := Lib.hid hb
  obtain ⟨Ak, ck, rfl⟩ := rdV_form hk
  obtain ⟨Ap, cp, rfl⟩ := parts_form hp
  clear hp
  generalize hnk : lk.length = nk
  rw [hnk] at Hk
  generalize hnp : ls.length = np
  rw [hnp] at Hp
  clear hT hk hb
  go_enter Tryd.func9, Tryd.ntmps9
  go_upto_region 1 with fail
  have r6 := (rowIs_box w 31 32 (bF da)).alloc (.cells (rowA 32 (bF db)) 31)
  have r7 := rowIs_box (w.alloc (.cells (rowA 32 (bF da)) 31)) 31 32 (bF db)
  rw [World.size_alloc] at r7
  have hB := NewT.trans _ _ _ (NewT.alloc w (.cells (rowA 32 (bF da)) 31)) (NewT.alloc (w.alloc (.cells (rowA 32 (bF da)) 31)) (.cells (rowA 32 (bF db)) 31))
  change Code.wp _ _ _ _ ((w.alloc (.cells (rowA 32 (bF da)) 31)).alloc (.cells (rowA 32 (bF db)) 31))
  generalize ((w.alloc (.cells (rowA 32 (bF da)) 31)).alloc (.cells (rowA 32 (bF db)) 31)) = W0 at r6 r7 hB ⊢
  go_wp2_with fail
  refine (alive2_any W0 (hB.tables HT.out)).mono ?_
  rintro e w1 ⟨rfl, hB1⟩
  replace hB1 := NewT.of hB1
  replace r6 := hB1.row r6
  replace r7 := hB1.row r7
  replace hB := NewT.trans _ _ _ hB hB1
  replace HT := Lib.hid (hB.tables HT.out)
  replace Hk := Lib.hid (hB.rd Hk.out)
  replace Hp := Lib.hid (hB.partsL Hp.out)
  clear hB1
  by_cases g1 : 300 < nk
  · go_wp2
    go_ret
    exact ⟨rfl, hB.out⟩
  go_wp2_with fail
  refine (great_any _ _ w1 Hp.out Hb.out).mono ?_
  rintro e w2 ⟨b, rfl, hgs, rfl⟩
  cases b with
  | true =>
    go_wp2
    go_ret
    exact ⟨rfl, hB.out⟩
  | false =>
    have hg := hgs rfl
    clear hgs Hb
    have hbd := gsum_bounds ls
    obtain ⟨D, HD⟩ := hid_ex (tagL lk ls.flatten)
    have htot : ls.flatten.length ≤ 1000 := by omega
    have hcnt : ls.length ≤ 1000 := by omega
    have Hps := Hp
    obtain ⟨ps', ⟨A2, c2, hv2, hpc, hpm, hA, hR⟩, hps'⟩ := Hp.out
    obtain ⟨rfl, e2, rfl⟩ : Ap = A2 ∧ np = ps'.length ∧ cp = c2 := by simpa using hv2
    clear hv2
    rw [← e2] at hpc
    have hl2 : ps'.length = np := e2.symm
    unfold maxLen at hpm
    obtain ⟨i0, hi, hz0, hz1, hz2⟩ := info_parts info5
    have HA := Lib.hid (show 0 < np → ∃ b o, Ap = some ⟨b, o, none⟩ ∧ ∀ i x, ps'[i]? = some x → w1.cell? ⟨b, o + i, none⟩ = some x.1 from fun h => by
      obtain ⟨b, o, h1, _, h2⟩ := hA (by omega)
      exact ⟨b, o, h1, h2⟩)
    have HR := Lib.hid hR
    have Hps' := Lib.hid hps'
    have Hl2 : Hid (ps'.length = np) := Lib.hid hl2
    have hnp1 : np ≤ 1000 := by omega
    clear hA hR hps' hl2 e2 hbd hg
    go_wp2
    go_loopw [9, 10] (fun v i wr => ∃ k : Nat, k ≤ np ∧ i = .int .i64 k ∧ (svOwn w1 ((ps'.map (·.2)).take k).flatten).pred v wr ∧ Below w1.heap.size w1 wr) (fun _ i _ => np - (intOf i).toNat)
    case atStart => exact ⟨0, by omega, rfl, World.ownsRow_nil _ _ _ _, Below.refl _ _⟩
    case round =>
      obtain ⟨k, hk, rfl, hown, qB⟩ := hrel
      by_cases hlt : k < np
      · obtain ⟨b, o, rfl, hcells⟩ := HA.out (by omega)
        have hkl : k < ps'.length := by rw [Hl2.out]; exact hlt
        have hx : ps'[k]? = some ps'[k] := List.getElem?_eq_getElem hkl
        generalize ps'[k] = x at hx
        clear hkl
        have hcell := (qB.cell (p := ⟨b, o + k, none⟩) (World.block_lt_of_cell? _ _ (hcells k x hx))).trans (hcells k x hx)
        have hrd := (HR.out x (List.mem_of_getElem? hx)).keep (KeepBut.below qB)
        have Hext : Hid (((ps'.map (·.2)).take (k + 1)).flatten = ((ps'.map (·.2)).take k).flatten ++ x.2) := Lib.hid (by
          rw [List.take_add_one, List.getElem?_map, hx]; simp)
        have hle : (((ps'.map (·.2)).take (k + 1)).flatten).length ≤ 1000 := by
          rw [Hps'.out]
          have h1 : ls.flatten = (ls.take (k + 1)).flatten ++ (ls.drop (k + 1)).flatten := by rw [← List.flatten_append, List.take_append_drop]
          have h2 := congrArg List.length h1
          rw [List.length_append] at h2
          omega
        rw [Hext.out, List.length_append] at hle
        obtain ⟨A', c', hv', hr0⟩ := hrd
        have hrd : RdV wr [] (.slice A' x.2.length c') x.2 := ⟨A', c', rfl, hr0⟩
        rw [hv'] at hcell
        obtain ⟨v', w3, hrun, hown', _, hB3⟩ := run_append_two hown qB.size hrd (by omega) 24
        have Hown' := Lib.hid hown'
        have HB3 := Lib.hid hB3
        clear hr0 hv' hx hcells hrd hown hown' hB3
        go_upto_region 9 with fail
        refine wp_region_lit ?_
        iterate 5 (refine wpList_plain rfl (fun K hK => ?_); go_simp; refine hK _ _ ?_; clear hK K)
        refine wpList_plain rfl (fun K hK => ?_)
        refine opr_append rfl rfl rfl hrun (hK _ _ ?_)
        clear hrun hK K
        refine wpList_plain rfl (fun K hK => ?_)
        refine opr_move (.inr rfl) (hK _ _ ?_)
        clear hK K
        refine wpList_nil ?_
        go_simp
        go_wp2
        go_roundw
        case rel => exact ⟨k + 1, by omega, by go_num, by rw [Hext.out]; exact Hown'.out, qB.trans HB3.out⟩
        case measure => simp [intOf]; omega
      · obtain rfl : k = np := by omega
        have rt : RdV wr [] u9 ls.flatten := by
          have := rdV_own (L := []) hown rfl (by simp)
          rwa [← Hl2.out, List.take_of_length_le (by simp), Hps'.out] at this
        have Rt := Lib.hid rt
        have qN := NewT.of qB
        replace r6 := qN.row r6
        replace r7 := qN.row r7
        have HTr := Lib.hid (qN.tables HT.out)
        have Hkr := Lib.hid (qN.rd Hk.out)
        have Hpr := Lib.hid (qN.partsL Hps.out)
        replace hB := NewT.trans _ _ _ hB qN
        clear rt hown qB qN HA HR Hk HT Hps Hp Hps' hi hz0 hz1 hz2
        go_upto_region 10 with fail
        refine wp_region_rely NewT [svRd lk, svParts ls, SV.eq (.agg (rowA 32 (bF D))), svRd lk, svRd ls.flatten, SV.eq (.agg (rowA 32 (bF D))), SV.eq (.bool true), SV.eq (.bool true), SV.eq (.agg (rowA 32 (bF da))), SV.eq (.agg (rowA 32 (bF db))), SV.eq (.bool (eqH da db)), SV.eq (.agg (rowA 32 (bF da))), SV.eq (.agg (rowA 32 (bF db))), SV.eq (.bool (eqH da db)), SV.eq (.bool true), SV.eq (.bool true), SV.eq (.bool true), SV.eq (.agg (rowA 32 (bF da))), SV.eq (.agg (rowA 32 (bF da))), SV.eq (.bool true), SV.eq (.bool true)] [([(0, none)], none), ([(1, none)], none), ([(32, some 0), (33, some 1)], none), ([(0, none)], none), ([(9, none)], none), ([(35, some 3), (36, some 4)], none), ([(34, some 2), (37, some 5)], none), ([(38, some 6)], none), ([(6, none), (39, some 7)], some (39, true)), ([(7, none), (39, some 7)], some (39, true)), ([(40, some 8), (41, some 9), (39, some 7)], some (39, true)), ([(6, none), (39, some 7)], some (39, true)), ([(7, none), (39, some 7)], some (39, true)), ([(43, some 11), (44, some 12), (39, some 7)], some (39, true)), ([(42, some 10), (45, some 13), (39, some 7)], some (39, true)), ([(39, some 7), (46, some 14)], none), ([(47, some 15)], none), ([(6, none), (48, some 16)], some (48, true)), ([(6, none), (48, some 16)], some (48, true)), ([(49, some 17), (50, some 18), (48, some 16)], some (48, true)), ([(48, some 16), (51, some 19)], none)] 53 rfl (by kernel_rfl) rfl (by kernel_rfl) (by kernel_rfl) rfl NewT.trans (NewT.drew _) (Nat.le_of_ble_eq_true rfl) ⟨?_, ?_, ?_, ?_, ?_, ?_, ?_, ?_, ?_, ?_, ?_, ?_, ?_, ?_, ?_, ?_, ?_, ?_, ?_, ?_, ?_, trivial⟩ ?_
        · -- 0: Op.move t0
          intro a wx hT hF K hK
          obtain ⟨f0, _⟩ := hF
          have f0 : a.tmps.getD 0 undef = .slice Ak nk ck := f0
          refine rely_wp rfl ?_
          exact opr_move (.inl rfl) (hK _ _ (NewT.refl _) (by rw [eval_tmp, f0]; exact hT.rd Hkr.out))
        · -- 1: Op.move t1
          intro a wx hT hF K hK
          obtain ⟨f1, _⟩ := hF
          have f1 : a.tmps.getD 1 undef = .slice Ap k cp := f1
          refine rely_wp rfl ?_
          exact opr_move (.inl rfl) (hK _ _ (NewT.refl _) (by rw [eval_tmp, f1]; exact hT.partsL Hpr.out))
        · -- 2: Op.call ( value (Operand.func 27), args := #[t32, t33], argT
          intro a wx hT hF K hK
          obtain ⟨f32, f33, _⟩ := hF
          replace f32 := show (svRd lk).pred (a.tmps.getD 32 undef) wx from f32
          replace f33 := show (svParts ls).pred (a.tmps.getD 33 undef) wx from f33
          refine rely_wp rfl ?_
          exact opr_cv (Tag_cv _ _ lk ls D wx (hT.tables HTr.out) f32 (by omega) f33 (by omega) (by omega) HD.out) rfl Tryd.func27 (by kernel_rfl) (by kernel_rfl) (by simp only [List.map_toArray, List.map_cons, List.map_nil, eval_tmp]) hK
        · -- 3: Op.move t0
          intro a wx hT hF K hK
          obtain ⟨f0, _⟩ := hF
          have f0 : a.tmps.getD 0 undef = .slice Ak nk ck := f0
          refine rely_wp rfl ?_
          exact opr_move (.inl rfl) (hK _ _ (NewT.refl _) (by rw [eval_tmp, f0]; exact hT.rd Hkr.out))
        · -- 4: Op.move t9
          intro a wx hT hF K hK
          obtain ⟨f9, _⟩ := hF
          have f9 : a.tmps.getD 9 undef = u9 := f9
          refine rely_wp rfl ?_
          exact opr_move (.inl rfl) (hK _ _ (NewT.refl _) (by rw [eval_tmp, f9]; exact hT.rd Rt.out))
        · -- 5: Op.call ( value (Operand.func 28), args := #[t35, t36], argT
          intro a wx hT hF K hK
          obtain ⟨f35, f36, _⟩ := hF
          replace f35 := show (svRd lk).pred (a.tmps.getD 35 undef) wx from f35
          replace f36 := show (svRd ls.flatten).pred (a.tmps.getD 36 undef) wx from f36
          refine rely_wp rfl ?_
          exact opr_cv (RTag_cv _ _ lk ls.flatten D wx (hT.tables HTr.out) f35 f36 (by omega) (by omega) HD.out) rfl Tryd.func28 (by kernel_rfl) (by kernel_rfl) (by simp only [List.map_toArray, List.map_cons, List.map_nil, eval_tmp]) hK
        · -- 6: Op.binOp BinOp.eql 31 t34 t37 31
          intro a wx hT hF K hK
          obtain ⟨f34, f37, _⟩ := hF
          have f34 : a.tmps.getD 34 undef = .agg (rowA 32 (bF D)) := f34
          have f37 : a.tmps.getD 37 undef = .agg (rowA 32 (bF D)) := f37
          refine rely_wp rfl ?_
          exact opr_eql_hash rfl f34 f37 (eqH_same D) (hK _ _ (NewT.refl _) rfl)
        · -- 7: Op.move t38
          intro a wx hT hF K hK
          obtain ⟨f38, _⟩ := hF
          have f38 : a.tmps.getD 38 undef = .bool true := f38
          refine rely_wp rfl ?_
          exact opr_move (.inl rfl) (hK _ _ (NewT.refl _) f38)
        · -- 8: Op.load 31 t6
          intro a wx hT hF K hK
          obtain ⟨f6, f39, _⟩ := hF
          have f6 : a.tmps.getD 6 undef = .pointer (some ⟨w.heap.size, 0, none⟩) := f6
          have f39 : a.tmps.getD 39 undef = .bool true := f39
          refine rely_wp (rely_guard f39) ?_
          exact opr_load_hash rfl f6 (hT.row r6) (hK _ _ (NewT.refl _) rfl)
        · -- 9: Op.load 31 t7
          intro a wx hT hF K hK
          obtain ⟨f7, f39, _⟩ := hF
          have f7 : a.tmps.getD 7 undef = .pointer (some ⟨w.heap.size + 1, 0, none⟩) := f7
          have f39 : a.tmps.getD 39 undef = .bool true := f39
          refine rely_wp (rely_guard f39) ?_
          exact opr_load_hash rfl f7 (hT.row r7) (hK _ _ (NewT.refl _) rfl)
        · -- 10: Op.call ( value (Operand.func 29), args := #[t40, t41], argT
          intro a wx hT hF K hK
          obtain ⟨f40, f41, f39, _⟩ := hF
          have f40 : a.tmps.getD 40 undef = .agg (rowA 32 (bF da)) := f40
          have f41 : a.tmps.getD 41 undef = .agg (rowA 32 (bF db)) := f41
          have f39 : a.tmps.getD 39 undef = .bool true := f39
          refine rely_wp (rely_guard f39) ?_
          exact opr_cv (Equal_cv da db wx) rfl Tryd.func29 (by kernel_rfl) (by kernel_rfl) (by simp only [List.map_toArray, List.map_cons, List.map_nil, eval_tmp, f40, f41]) hK
        · -- 11: Op.load 31 t6
          intro a wx hT hF K hK
          obtain ⟨f6, f39, _⟩ := hF
          have f6 : a.tmps.getD 6 undef = .pointer (some ⟨w.heap.size, 0, none⟩) := f6
          have f39 : a.tmps.getD 39 undef = .bool true := f39
          refine rely_wp (rely_guard f39) ?_
          exact opr_load_hash rfl f6 (hT.row r6) (hK _ _ (NewT.refl _) rfl)
        · -- 12: Op.load 31 t7
          intro a wx hT hF K hK
          obtain ⟨f7, f39, _⟩ := hF
          have f7 : a.tmps.getD 7 undef = .pointer (some ⟨w.heap.size + 1, 0, none⟩) := f7
          have f39 : a.tmps.getD 39 undef = .bool true := f39
          refine rely_wp (rely_guard f39) ?_
          exact opr_load_hash rfl f7 (hT.row r7) (hK _ _ (NewT.refl _) rfl)
        · -- 13: Op.binOp BinOp.eql 31 t43 t44 31
          intro a wx hT hF K hK
          obtain ⟨f43, f44, f39, _⟩ := hF
          have f43 : a.tmps.getD 43 undef = .agg (rowA 32 (bF da)) := f43
          have f44 : a.tmps.getD 44 undef = .agg (rowA 32 (bF db)) := f44
          have f39 : a.tmps.getD 39 undef = .bool true := f39
          refine rely_wp (rely_guard f39) ?_
          exact opr_eql_hash rfl f43 f44 rfl (hK _ _ (NewT.refl _) rfl)
        · -- 14: Op.binOp BinOp.eql 4 t42 t45 4
          intro a wx hT hF K hK
          obtain ⟨f42, f45, f39, _⟩ := hF
          have f42 : a.tmps.getD 42 undef = .bool (eqH da db) := f42
          have f45 : a.tmps.getD 45 undef = .bool (eqH da db) := f45
          have f39 : a.tmps.getD 39 undef = .bool true := f39
          refine rely_wp (rely_guard f39) ?_
          simp only [Array.getD_eq_getD_getElem?] at f42
          simp only [Array.getD_eq_getD_getElem?] at f45
          simp only [Array.getD_eq_getD_getElem?] at f39
          go_simp
          exact hK _ _ (NewT.refl _) rfl
        · -- 15: Op.pick t39 t46 (const (Value.bool false))
          intro a wx hT hF K hK
          obtain ⟨f39, f46, _⟩ := hF
          have f39 : a.tmps.getD 39 undef = .bool true := f39
          have f46 : a.tmps.getD 46 undef = .bool true := f46
          refine rely_wp rfl ?_
          exact opr_pick_true rfl f39 (hK _ _ (NewT.refl _) f46)
        · -- 16: Op.move t47
          intro a wx hT hF K hK
          obtain ⟨f47, _⟩ := hF
          have f47 : a.tmps.getD 47 undef = .bool true := f47
          refine rely_wp rfl ?_
          exact opr_move (.inl rfl) (hK _ _ (NewT.refl _) f47)
        · -- 17: Op.load 31 t6
          intro a wx hT hF K hK
          obtain ⟨f6, f48, _⟩ := hF
          have f6 : a.tmps.getD 6 undef = .pointer (some ⟨w.heap.size, 0, none⟩) := f6
          have f48 : a.tmps.getD 48 undef = .bool true := f48
          refine rely_wp (rely_guard f48) ?_
          exact opr_load_hash rfl f6 (hT.row r6) (hK _ _ (NewT.refl _) rfl)
        · -- 18: Op.load 31 t6
          intro a wx hT hF K hK
          obtain ⟨f6, f48, _⟩ := hF
          have f6 : a.tmps.getD 6 undef = .pointer (some ⟨w.heap.size, 0, none⟩) := f6
          have f48 : a.tmps.getD 48 undef = .bool true := f48
          refine rely_wp (rely_guard f48) ?_
          exact opr_load_hash rfl f6 (hT.row r6) (hK _ _ (NewT.refl _) rfl)
        · -- 19: Op.call ( value (Operand.func 29), args := #[t49, t50], argT
          intro a wx hT hF K hK
          obtain ⟨f49, f50, f48, _⟩ := hF
          have f49 : a.tmps.getD 49 undef = .agg (rowA 32 (bF da)) := f49
          have f50 : a.tmps.getD 50 undef = .agg (rowA 32 (bF da)) := f50
          have f48 : a.tmps.getD 48 undef = .bool true := f48
          refine rely_wp (rely_guard f48) ?_
          exact opr_cv (eqH_same da ▸ Equal_cv da da wx) rfl Tryd.func29 (by kernel_rfl) (by kernel_rfl) (by simp only [List.map_toArray, List.map_cons, List.map_nil, eval_tmp, f49, f50]) hK
        · -- 20: Op.pick t48 t51 (const (Value.bool false))
          intro a wx hT hF K hK
          obtain ⟨f48, f51, _⟩ := hF
          have f48 : a.tmps.getD 48 undef = .bool true := f48
          have f51 : a.tmps.getD 51 undef = .bool true := f51
          refine rely_wp rfl ?_
          exact opr_pick_true rfl f48 (hK _ _ (NewT.refl _) f51)
        · intro wx hT
          intro u32 h; have g32 := h (by simp); clear h; replace g32 := show (svRd lk).pred u32 wx from g32
          intro u33 h; have g33 := h (by simp); clear h; replace g33 := show (svParts ls).pred u33 wx from g33
          intro u h; obtain rfl := h (by simp); clear h
          intro u35 h; have g35 := h (by simp); clear h; replace g35 := show (svRd lk).pred u35 wx from g35
          intro u36 h; have g36 := h (by simp); clear h; replace g36 := show (svRd ls.flatten).pred u36 wx from g36
          intro u h; obtain rfl := h (by simp); clear h
          intro u h; obtain rfl := h (by simp); clear h
          intro u h; obtain rfl := h (by simp); clear h
          intro u h; obtain rfl := h (by simp); clear h
          intro u h; obtain rfl := h (by simp); clear h
          intro u h; obtain rfl := h (by simp); clear h
          intro u h; obtain rfl := h (by simp); clear h
          intro u h; obtain rfl := h (by simp); clear h
          intro u h; obtain rfl := h (by simp); clear h
          intro u h; obtain rfl := h (by simp); clear h
          intro u h; obtain rfl := h (by simp); clear h
          intro u h; obtain rfl := h (by simp); clear h
          intro u h; obtain rfl := h (by simp); clear h
          intro u h; obtain rfl := h (by simp); clear h
          intro u h; obtain rfl := h (by simp); clear h
          intro u h; obtain rfl := h (by simp); clear h
          refine relyEnd_nil rfl ?_
          simp only [Act.put, List.setIfInBounds_toArray, List.set_cons_zero, List.set_cons_succ]
          refine opr_move (.inr rfl) ?_
          go_simp
          go_wp2
          go_ret
          exact ⟨rfl, (NewT.trans _ _ _ hB hT).out⟩
end Go.Proofs.YtpoebajpmkcjdaaDoor
