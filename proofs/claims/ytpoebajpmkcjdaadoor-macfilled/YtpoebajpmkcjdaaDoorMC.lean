/- The law MacFilled, walked: a key of at most 64 bytes has the tag that it has with bytes 0 behind, up to 64. -/
import Derived.Test.YtpoebajpmkcjdaaDoorMB
namespace Go.Proofs.YtpoebajpmkcjdaaDoor
open Go Go.RowKit
/-- A key with bytes 0 behind, up to 64. -/
def padL (k : List UInt8) : List UInt8 := (List.range 64).map (bAt k)
theorem tagL_pad (k t : List UInt8) (h : k.length ≤ 64) : tagL (padL k) t = tagL k t := by
  have e1 : keyB (padL k) = bAt (padL k) := by unfold keyB keyOf; rw [if_neg (by simp [padL])]
  have e2 : keyB k = bAt k := by unfold keyB keyOf; rw [if_neg (by omega)]
  have e : ∀ m, maskL (keyB (padL k)) m = maskL (keyB k) m := fun m => by
    rw [e1, e2]
    exact List.map_congr_left fun i hi => by simp at hi; simp [bAt, padL, hi]
  unfold tagL inL
  rw [e, e]
theorem run_sliceAt_to (w : World) (g n : Nat) (hn : n ≤ 64) : (Instr.sliceAt 57 (.pointer (some ⟨g, 0, none⟩)) none (some (.int .i64 (n : Int))) none).run Tryd.prog w = .ok (.slice (some ⟨g, 0, none⟩) n 64) w := by
  have hsz : (sizeOf 5).run Tryd.prog w = .ok 1 w := by
    have hs := info5s
    cases hq : Tryd.prog.info? 5 with
    | none => simp [hq] at hs
    | some i => simp [hq] at hs; simp [sizeOf, typeInfo, hq, hs]
  simp [Instr.sliceAt, run_underlying Tryd.underlying57, Instr.sureAddr, Instr.sliceBounds, Instr.sliceBound, asIntOf, hn, hsz, Addr.add_zero']
theorem rd_row_to {W : World} {g t : Nat} {k : List UInt8} (h : W.rowIs g t 64 (bF (bAt k))) (hk : k.length ≤ 64) : RdV W [] (.slice (some ⟨g, 0, none⟩) k.length 64) k :=
  rdV_lit hk (by unfold maxLen; omega) fun i hi => by
    have := h.cell (i := i) (by omega)
    rwa [bF_at] at this
theorem opr_slice_to {a : Act} {w : World} {o : Oper} {K : Act → World → Prop} {Q : Exit → Act → World → Prop} {x y : Operand} {g t : Nat} {k : List UInt8} (ho : o.op = .slice 57 x none (some y) none) (hx : a.eval x = .pointer (some ⟨g, 0, none⟩)) (hy : a.eval y = .int .i64 (k.length : Int)) (hr : w.rowIs g t 64 (bF (bAt k))) (hk : k.length ≤ 64) (h : ∀ v w', NewT w w' → RdV w' [] v k → K (a.put o.dst v) w') : o.wp Tryd.prog a w K Q := by
  obtain ⟨dst, op, type, pos, after, guard⟩ := o
  simp only at ho
  subst ho
  exact opr_val (s := Instr.sliceAt 57 (a.eval x) none (some (a.eval y)) none) rfl (by rw [hx, hy]; exact run_sliceAt_to w g _ hk) (h _ _ (NewT.refl _) (rd_row_to hr hk))
set_option maxHeartbeats 4000000 in
theorem MacFilled_walk (vk va : Value) (lk la : List UInt8) (w : World) (hT : Tables w) (hk : RdV w [] vk lk) (ha : RdV w [] va la) :
    Calls Tryd.prog 14 #[vk, va] w fun e w' => e = .returned (.bool true) ∧ Below w.heap.size w w' := by
  have HT := Lib.hid hT
  have Hk := Lib.hid hk
  have Ha := Lib.hid ha
  obtain ⟨Ak, ck, rfl⟩ := rdV_form hk
  obtain ⟨Aa, ca, rfl⟩ := rdV_form ha
  clear hT hk ha
  generalize hnk : lk.length = nk
  generalize hna : la.length = na
  by_cases g1 : 64 < nk
  · go_enter Tryd.func14, Tryd.ntmps14
    go_wp2_with fail
    refine (alive2_any w HT.out).mono ?_
    rintro e w1 ⟨rfl, hB⟩
    go_wp2
    go_ret
    exact ⟨rfl, hB⟩
  by_cases g2 : 300 < na
  · go_enter Tryd.func14, Tryd.ntmps14
    go_wp2_with fail
    refine (alive2_any w HT.out).mono ?_
    rintro e w1 ⟨rfl, hB⟩
    go_wp2
    go_ret
    exact ⟨rfl, hB⟩
  rw [hnk] at Hk
  rw [hna] at Ha
  go_enter Tryd.func14, Tryd.ntmps14
  go_wp2_with fail
  refine (alive2_any w HT.out).mono ?_
  rintro e w1 ⟨rfl, hB⟩
  have Rk := Lib.hid (Hk.out.keep (KeepBut.below hB))
  have Ra := Lib.hid (Ha.out.keep (KeepBut.below hB))
  replace HT := Lib.hid (HT.out.below hB)
  clear Hk Ha
  obtain ⟨D, HD⟩ := hid_ex (tagL lk la)
  have HD2 : Hid (tagL (padL lk) la = D) := Lib.hid (by rw [tagL_pad _ _ (by omega)]; exact HD.out)
  go_upto_region 6 with fail
  have r0 := rowIs_box w1 57 64 (bF fun _ => 0)
  have hN := NewT.alloc w1 (.cells (rowA 64 (bF fun _ => 0)) 57)
  change Code.wp _ _ _ _ (w1.alloc (.cells (rowA 64 (bF fun _ => 0)) 57))
  generalize w1.alloc (.cells (rowA 64 (bF fun _ => 0)) 57) = w2 at r0 hN ⊢
  have RK := Rk
  replace Rk := Lib.hid (hN.rd Rk.out)
  refine wp_region_seq NewT [SV.eq (.slice (some ⟨w1.heap.size, 0, none⟩) 64 64), svRd lk] [([(5, none)], none), ([(0, none)], none)] 41 rfl rfl (by kernel_rfl) rfl NewT.trans (NewT.refl _) (Nat.le_of_ble_eq_true rfl) ⟨?_, ?_, trivial⟩ ?_
  · -- 0: Op.slice 57 t5 none none none
    intro a wx hT hF K hK
    obtain ⟨f5, _⟩ := hF
    have f5 : a.tmps.getD 5 undef = .pointer (some ⟨w1.heap.size, 0, none⟩) := f5
    refine rely_wp rfl ?_
    exact opr_slice_64 rfl f5 (hK _ _ (NewT.refl _) rfl)
  · -- 1: Op.move t0
    intro a wx hT hF K hK
    obtain ⟨f0, _⟩ := hF
    have f0 : a.tmps.getD 0 undef = .slice Ak nk ck := f0
    refine rely_wp rfl ?_
    exact opr_move (.inl rfl) (hK _ _ (NewT.refl _) (by rw [eval_tmp, f0]; exact hT.rd Rk.out))
  · intro wx hT
    intro u h; obtain rfl := h (by simp); clear h
    intro u17 h; have g17 := h (by simp); clear h; replace g17 := show (svRd lk).pred u17 wx from g17
    refine relyEnd_nil rfl ?_
    simp only [Act.put, List.setIfInBounds_toArray, List.set_cons_zero, List.set_cons_succ]
    refine opr_copy (B := w1.heap.size) (W := w1) rfl rfl g17 (by omega) (hT.row r0) (hN.out.trans (hT.out.mono hN.out.size)) (Nat.le_refl _) ?_
    intro v w3 hB3 q0
    replace q0 := q0.congr (g := bF (bAt lk)) (fun i _ => by simp only [bF]; by_cases h : i < lk.length <;> simp [h, bAt])
    replace HT := Lib.hid (HT.out.below hB3)
    replace Ra := Lib.hid ((NewT.of hB3).rd Ra.out)
    have Rk0 : RdV w1 [] (.slice Ak nk ck) lk := RK.out
    replace Rk := Lib.hid ((NewT.of hB3).rd RK.out)
    replace hB := hB.trans (hB3.mono hB.size)
    clear hT hN r0 hB3 g17 Rk0 RK
    go_simp
    go_upto_region 7 with fail
    refine wp_region_rely NewT [svRd lk, svRd la, svParts [la], SV.eq (.agg (rowA 32 (bF D))), svRd (padL lk), svRd la, svParts [la], SV.eq (.agg (rowA 32 (bF D))), SV.eq (.bool true), SV.eq (.bool true), svRd lk, svRd la, svParts [la], SV.eq (.agg (rowA 32 (bF D))), svRd lk, SV.eq (.int .i64 (List.length lk : Int)), svRd lk, svRd la, svParts [la], SV.eq (.agg (rowA 32 (bF D))), SV.eq (.bool true), SV.eq (.bool true)] [([(0, none)], none), ([(1, none)], none), ([(20, some 1)], none), ([(19, some 0), (21, some 2)], none), ([(5, none)], none), ([(1, none)], none), ([(24, some 5)], none), ([(23, some 4), (25, some 6)], none), ([(22, some 3), (26, some 7)], none), ([(27, some 8)], none), ([(0, none), (28, some 9)], some (28, true)), ([(1, none), (28, some 9)], some (28, true)), ([(30, some 11), (28, some 9)], some (28, true)), ([(29, some 10), (31, some 12), (28, some 9)], some (28, true)), ([(0, none), (28, some 9)], some (28, true)), ([(33, some 14), (28, some 9)], some (28, true)), ([(5, none), (34, some 15), (28, some 9)], some (28, true)), ([(1, none), (28, some 9)], some (28, true)), ([(36, some 17), (28, some 9)], some (28, true)), ([(35, some 16), (37, some 18), (28, some 9)], some (28, true)), ([(32, some 13), (38, some 19), (28, some 9)], some (28, true)), ([(28, some 9), (39, some 20)], none)] 41 rfl (by kernel_rfl) rfl (by kernel_rfl) (by kernel_rfl) rfl NewT.trans (NewT.drew _) (Nat.le_of_ble_eq_true rfl) ⟨?_, ?_, ?_, ?_, ?_, ?_, ?_, ?_, ?_, ?_, ?_, ?_, ?_, ?_, ?_, ?_, ?_, ?_, ?_, ?_, ?_, ?_, trivial⟩ ?_
    · -- 0: Op.move t0
      intro a wx hT hF K hK
      obtain ⟨f0, _⟩ := hF
      have f0 : a.tmps.getD 0 undef = .slice Ak nk ck := f0
      refine rely_wp rfl ?_
      exact opr_move (.inl rfl) (hK _ _ (NewT.refl _) (by rw [eval_tmp, f0]; exact hT.rd Rk.out))
    · -- 1: Op.move t1
      intro a wx hT hF K hK
      obtain ⟨f1, _⟩ := hF
      have f1 : a.tmps.getD 1 undef = .slice Aa na ca := f1
      refine rely_wp rfl ?_
      exact opr_move (.inl rfl) (hK _ _ (NewT.refl _) (by rw [eval_tmp, f1]; exact hT.rd Ra.out))
    · -- 2: Op.buildSlice 41 1 #[(0, t20)]
      intro a wx hT hF K hK
      obtain ⟨f20, _⟩ := hF
      replace f20 := show (svRd la).pred (a.tmps.getD 20 undef) wx from f20
      refine rely_wp rfl ?_
      exact opr_bs1 rfl f20 hK
    · -- 3: Op.call ( value (Operand.func 27), args := #[t19, t21], argT
      intro a wx hT hF K hK
      obtain ⟨f19, f21, _⟩ := hF
      replace f19 := show (svRd lk).pred (a.tmps.getD 19 undef) wx from f19
      replace f21 := show (svParts [la]).pred (a.tmps.getD 21 undef) wx from f21
      refine rely_wp rfl ?_
      exact opr_cv (Tag_cv _ _ lk [la] D wx (hT.tables HT.out) f19 (by omega) f21 (by simp) (by simp; omega) (by simpa using HD.out)) rfl Tryd.func27 (by kernel_rfl) (by kernel_rfl) (by simp only [List.map_toArray, List.map_cons, List.map_nil, eval_tmp]) hK
    · -- 4: Op.slice 57 t5 none none none
      intro a wx hT hF K hK
      obtain ⟨f5, _⟩ := hF
      have f5 : a.tmps.getD 5 undef = .pointer (some ⟨w1.heap.size, 0, none⟩) := f5
      refine rely_wp rfl ?_
      exact opr_slice_64 rfl f5 (hK _ _ (NewT.refl _) (rd_row (hT.row q0) (by simp) (by omega)))
    · -- 5: Op.move t1
      intro a wx hT hF K hK
      obtain ⟨f1, _⟩ := hF
      have f1 : a.tmps.getD 1 undef = .slice Aa na ca := f1
      refine rely_wp rfl ?_
      exact opr_move (.inl rfl) (hK _ _ (NewT.refl _) (by rw [eval_tmp, f1]; exact hT.rd Ra.out))
    · -- 6: Op.buildSlice 41 1 #[(0, t24)]
      intro a wx hT hF K hK
      obtain ⟨f24, _⟩ := hF
      replace f24 := show (svRd la).pred (a.tmps.getD 24 undef) wx from f24
      refine rely_wp rfl ?_
      exact opr_bs1 rfl f24 hK
    · -- 7: Op.call ( value (Operand.func 27), args := #[t23, t25], argT
      intro a wx hT hF K hK
      obtain ⟨f23, f25, _⟩ := hF
      replace f23 := show (svRd (padL lk)).pred (a.tmps.getD 23 undef) wx from f23
      replace f25 := show (svParts [la]).pred (a.tmps.getD 25 undef) wx from f25
      refine rely_wp rfl ?_
      exact opr_cv (Tag_cv _ _ (padL lk) [la] D wx (hT.tables HT.out) f23 (by simp [padL]) f25 (by simp) (by simp; omega) (by simpa using HD2.out)) rfl Tryd.func27 (by kernel_rfl) (by kernel_rfl) (by simp only [List.map_toArray, List.map_cons, List.map_nil, eval_tmp]) hK
    · -- 8: Op.binOp BinOp.eql 31 t22 t26 31
      intro a wx hT hF K hK
      obtain ⟨f22, f26, _⟩ := hF
      have f22 : a.tmps.getD 22 undef = .agg (rowA 32 (bF D)) := f22
      have f26 : a.tmps.getD 26 undef = .agg (rowA 32 (bF D)) := f26
      refine rely_wp rfl ?_
      exact opr_eql_hash rfl f22 f26 (eqH_same D) (hK _ _ (NewT.refl _) rfl)
    · -- 9: Op.move t27
      intro a wx hT hF K hK
      obtain ⟨f27, _⟩ := hF
      have f27 : a.tmps.getD 27 undef = .bool true := f27
      refine rely_wp rfl ?_
      exact opr_move (.inl rfl) (hK _ _ (NewT.refl _) f27)
    · -- 10: Op.move t0
      intro a wx hT hF K hK
      obtain ⟨f0, f28, _⟩ := hF
      have f0 : a.tmps.getD 0 undef = .slice Ak nk ck := f0
      have f28 : a.tmps.getD 28 undef = .bool true := f28
      refine rely_wp (rely_guard f28) ?_
      exact opr_move (.inl rfl) (hK _ _ (NewT.refl _) (by rw [eval_tmp, f0]; exact hT.rd Rk.out))
    · -- 11: Op.move t1
      intro a wx hT hF K hK
      obtain ⟨f1, f28, _⟩ := hF
      have f1 : a.tmps.getD 1 undef = .slice Aa na ca := f1
      have f28 : a.tmps.getD 28 undef = .bool true := f28
      refine rely_wp (rely_guard f28) ?_
      exact opr_move (.inl rfl) (hK _ _ (NewT.refl _) (by rw [eval_tmp, f1]; exact hT.rd Ra.out))
    · -- 12: Op.buildSlice 41 1 #[(0, t30)]
      intro a wx hT hF K hK
      obtain ⟨f30, f28, _⟩ := hF
      replace f30 := show (svRd la).pred (a.tmps.getD 30 undef) wx from f30
      have f28 : a.tmps.getD 28 undef = .bool true := f28
      refine rely_wp (rely_guard f28) ?_
      exact opr_bs1 rfl f30 hK
    · -- 13: Op.call ( value (Operand.func 27), args := #[t29, t31], argT
      intro a wx hT hF K hK
      obtain ⟨f29, f31, f28, _⟩ := hF
      replace f29 := show (svRd lk).pred (a.tmps.getD 29 undef) wx from f29
      replace f31 := show (svParts [la]).pred (a.tmps.getD 31 undef) wx from f31
      have f28 : a.tmps.getD 28 undef = .bool true := f28
      refine rely_wp (rely_guard f28) ?_
      exact opr_cv (Tag_cv _ _ lk [la] D wx (hT.tables HT.out) f29 (by omega) f31 (by simp) (by simp; omega) (by simpa using HD.out)) rfl Tryd.func27 (by kernel_rfl) (by kernel_rfl) (by simp only [List.map_toArray, List.map_cons, List.map_nil, eval_tmp]) hK
    · -- 14: Op.move t0
      intro a wx hT hF K hK
      obtain ⟨f0, f28, _⟩ := hF
      have f0 : a.tmps.getD 0 undef = .slice Ak nk ck := f0
      have f28 : a.tmps.getD 28 undef = .bool true := f28
      refine rely_wp (rely_guard f28) ?_
      exact opr_move (.inl rfl) (hK _ _ (NewT.refl _) (by rw [eval_tmp, f0]; exact hT.rd Rk.out))
    · -- 15: Op.call ( builtin len, args := #[t33], argTypes := #[24] )
      intro a wx hT hF K hK
      obtain ⟨f33, f28, _⟩ := hF
      replace f33 := show (svRd lk).pred (a.tmps.getD 33 undef) wx from f33
      have f28 : a.tmps.getD 28 undef = .bool true := f28
      refine rely_wp (rely_guard f28) ?_
      exact opr_len_rd rfl f33 (hK _ _ (NewT.refl _) rfl)
    · -- 16: Op.slice 57 t5 none (some t34) none
      intro a wx hT hF K hK
      obtain ⟨f5, f34, f28, _⟩ := hF
      have f5 : a.tmps.getD 5 undef = .pointer (some ⟨w1.heap.size, 0, none⟩) := f5
      have f34 : a.tmps.getD 34 undef = .int .i64 (List.length lk : Int) := f34
      have f28 : a.tmps.getD 28 undef = .bool true := f28
      refine rely_wp (rely_guard f28) ?_
      exact opr_slice_to rfl f5 f34 (hT.row q0) (by omega) hK
    · -- 17: Op.move t1
      intro a wx hT hF K hK
      obtain ⟨f1, f28, _⟩ := hF
      have f1 : a.tmps.getD 1 undef = .slice Aa na ca := f1
      have f28 : a.tmps.getD 28 undef = .bool true := f28
      refine rely_wp (rely_guard f28) ?_
      exact opr_move (.inl rfl) (hK _ _ (NewT.refl _) (by rw [eval_tmp, f1]; exact hT.rd Ra.out))
    · -- 18: Op.buildSlice 41 1 #[(0, t36)]
      intro a wx hT hF K hK
      obtain ⟨f36, f28, _⟩ := hF
      replace f36 := show (svRd la).pred (a.tmps.getD 36 undef) wx from f36
      have f28 : a.tmps.getD 28 undef = .bool true := f28
      refine rely_wp (rely_guard f28) ?_
      exact opr_bs1 rfl f36 hK
    · -- 19: Op.call ( value (Operand.func 27), args := #[t35, t37], argT
      intro a wx hT hF K hK
      obtain ⟨f35, f37, f28, _⟩ := hF
      replace f35 := show (svRd lk).pred (a.tmps.getD 35 undef) wx from f35
      replace f37 := show (svParts [la]).pred (a.tmps.getD 37 undef) wx from f37
      have f28 : a.tmps.getD 28 undef = .bool true := f28
      refine rely_wp (rely_guard f28) ?_
      exact opr_cv (Tag_cv _ _ lk [la] D wx (hT.tables HT.out) f35 (by omega) f37 (by simp) (by simp; omega) (by simpa using HD.out)) rfl Tryd.func27 (by kernel_rfl) (by kernel_rfl) (by simp only [List.map_toArray, List.map_cons, List.map_nil, eval_tmp]) hK
    · -- 20: Op.call ( value (Operand.func 29), args := #[t32, t38], argT
      intro a wx hT hF K hK
      obtain ⟨f32, f38, f28, _⟩ := hF
      have f32 : a.tmps.getD 32 undef = .agg (rowA 32 (bF D)) := f32
      have f38 : a.tmps.getD 38 undef = .agg (rowA 32 (bF D)) := f38
      have f28 : a.tmps.getD 28 undef = .bool true := f28
      refine rely_wp (rely_guard f28) ?_
      exact opr_cv (eqH_same D ▸ Equal_cv D D wx) rfl Tryd.func29 (by kernel_rfl) (by kernel_rfl) (by simp only [List.map_toArray, List.map_cons, List.map_nil, eval_tmp, f32, f38]) hK
    · -- 21: Op.pick t28 t39 (const (Value.bool false))
      intro a wx hT hF K hK
      obtain ⟨f28, f39, _⟩ := hF
      have f28 : a.tmps.getD 28 undef = .bool true := f28
      have f39 : a.tmps.getD 39 undef = .bool true := f39
      refine rely_wp rfl ?_
      exact opr_pick_true rfl f28 (hK _ _ (NewT.refl _) f39)
    · intro wx hT
      intro u19 h; have g19 := h (by simp); clear h; replace g19 := show (svRd lk).pred u19 wx from g19
      intro u20 h; have g20 := h (by simp); clear h; replace g20 := show (svRd la).pred u20 wx from g20
      intro u21 h; have g21 := h (by simp); clear h; replace g21 := show (svParts [la]).pred u21 wx from g21
      intro u h; obtain rfl := h (by simp); clear h
      intro u23 h; have g23 := h (by simp); clear h; replace g23 := show (svRd (padL lk)).pred u23 wx from g23
      intro u24 h; have g24 := h (by simp); clear h; replace g24 := show (svRd la).pred u24 wx from g24
      intro u25 h; have g25 := h (by simp); clear h; replace g25 := show (svParts [la]).pred u25 wx from g25
      intro u h; obtain rfl := h (by simp); clear h
      intro u h; obtain rfl := h (by simp); clear h
      intro u h; obtain rfl := h (by simp); clear h
      intro u29 h; have g29 := h (by simp); clear h; replace g29 := show (svRd lk).pred u29 wx from g29
      intro u30 h; have g30 := h (by simp); clear h; replace g30 := show (svRd la).pred u30 wx from g30
      intro u31 h; have g31 := h (by simp); clear h; replace g31 := show (svParts [la]).pred u31 wx from g31
      intro u h; obtain rfl := h (by simp); clear h
      intro u33 h; have g33 := h (by simp); clear h; replace g33 := show (svRd lk).pred u33 wx from g33
      intro u h; obtain rfl := h (by simp); clear h
      intro u35 h; have g35 := h (by simp); clear h; replace g35 := show (svRd lk).pred u35 wx from g35
      intro u36 h; have g36 := h (by simp); clear h; replace g36 := show (svRd la).pred u36 wx from g36
      intro u37 h; have g37 := h (by simp); clear h; replace g37 := show (svParts [la]).pred u37 wx from g37
      intro u h; obtain rfl := h (by simp); clear h
      intro u h; obtain rfl := h (by simp); clear h
      intro u h; obtain rfl := h (by simp); clear h
      refine relyEnd_nil rfl ?_
      simp only [Act.put, List.setIfInBounds_toArray, List.set_cons_zero, List.set_cons_succ]
      refine opr_move (.inr rfl) ?_
      go_simp
      go_wp2
      go_ret
      exact ⟨rfl, hB.trans (hT.out.mono hB.size)⟩
end Go.Proofs.YtpoebajpmkcjdaaDoor
