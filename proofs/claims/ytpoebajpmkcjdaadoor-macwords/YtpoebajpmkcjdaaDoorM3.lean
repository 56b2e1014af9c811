/- Package mac: the key's block. -/
import Derived.Test.YtpoebajpmkcjdaaDoorM2
namespace Go.Proofs.YtpoebajpmkcjdaaDoor
open Go Go.RowKit
set_option maxHeartbeats 1000000 in
theorem keyBlock_short (A : Option Addr) (n c : Nat) (l : List UInt8) (w : World) (hr : RdV w [] (.slice A n c) l) (hl : l.length ≤ 64) :
    Cv 42 #[.slice A n c] w (.eq (.agg (rowA 64 (bF (keyB l))))) := by
  have hk : keyB l = bAt l := by unfold keyB keyOf; rw [if_neg (by omega)]
  rw [hk]
  unfold Cv
  have hn : l.length = n := by obtain ⟨_, _, hv, _⟩ := hr; cases hv; rfl
  subst hn
  have Hr := Lib.hid hr
  clear hr hk
  have hd : decide ((64 : Int) < (l.length : Int)) = false := by simp; omega
  go_enter Tryd.func42, Tryd.ntmps42
  go_upto_region 2 with fail
  have r0 := (rowIs_box w 57 64 (bF fun _ => 0)).alloc (.cells (rowA 64 (bF fun _ => 0)) 57)
  have r1 := rowIs_box (w.alloc (.cells (rowA 64 (bF fun _ => 0)) 57)) 57 64 (bF fun _ => 0)
  rw [World.size_alloc] at r1
  have hB : Below w.heap.size w ((w.alloc (.cells (rowA 64 (bF fun _ => 0)) 57)).alloc (.cells (rowA 64 (bF fun _ => 0)) 57)) := ((Below.refl _ w).alloc (Nat.le_refl _) _).alloc (by simp) _
  change Code.wp _ _ _ _ ((w.alloc (.cells (rowA 64 (bF fun _ => 0)) 57)).alloc (.cells (rowA 64 (bF fun _ => 0)) 57))
  generalize ((w.alloc (.cells (rowA 64 (bF fun _ => 0)) 57)).alloc (.cells (rowA 64 (bF fun _ => 0)) 57)) = W0 at r0 r1 hB ⊢
  have Hr0 := Lib.hid (Hr.out.keep (KeepBut.below hB))
  go_upto_region 5 with fail
  refine wp_region_seq NewT [SV.eq (.slice (some ⟨w.heap.size + 1, 0, none⟩) 64 64), svRd l] [([(3, none)], none), ([(0, none)], none)] 16 rfl rfl (by kernel_rfl) rfl NewT.trans (NewT.refl _) (Nat.le_of_ble_eq_true rfl) ⟨?_, ?_, trivial⟩ ?_
  · -- 0: Op.slice 57 t3 none none none
    intro a wx hT hF K hK
    obtain ⟨f3, _⟩ := hF
    have f3 : a.tmps.getD 3 undef = .pointer (some ⟨w.heap.size + 1, 0, none⟩) := f3
    refine rely_wp rfl ?_
    exact opr_slice_64 rfl f3 (hK _ _ (NewT.refl _) rfl)
  · -- 1: Op.move t0
    intro a wx hT hF K hK
    obtain ⟨f0, _⟩ := hF
    have f0 : a.tmps.getD 0 undef = .slice A l.length c := f0
    refine rely_wp rfl ?_
    exact opr_move (.inl rfl) (hK _ _ (NewT.refl _) (by rw [eval_tmp, f0]; exact hT.rd Hr0.out))
  · intro wx hT
    intro u h; obtain rfl := h (by simp); clear h
    intro u13 h; have g13 := h (by simp); clear h; replace g13 := show (svRd l).pred u13 wx from g13
    refine relyEnd_nil rfl ?_
    simp only [Act.put, List.setIfInBounds_toArray, List.set_cons_zero, List.set_cons_succ]
    refine opr_copy (B := w.heap.size + 1) (W := W0) rfl rfl g13 hl (hT.row r1) (hT.out.mono (Nat.le_of_lt r1.lt)) (Nat.le_refl _) ?_
    intro v w2 hB2 q1
    replace q1 := q1.congr (g := bF (bAt l)) (fun i _ => by simp only [bF]; by_cases h : i < l.length <;> simp [h, bAt])
    have q0 := rowIs_below r0 hB2 (Nat.lt_succ_self _)
    have hB3 := hB.trans (hB2.mono (Nat.le_succ _))
    clear r0 r1 hB hB2 hT
    go_simp
    go_upto_region 6 with fail
    refine wp_region_seq NewT [SV.eq (.agg (rowA 64 (bF (bAt l))))] [([(3, none)], none)] 16 rfl rfl (by kernel_rfl) rfl NewT.trans (NewT.refl _) (Nat.le_of_ble_eq_true rfl) ⟨?_, trivial⟩ ?_
    · intro a wx hT hF K hK
      obtain ⟨f3, _⟩ := hF
      have f3 : a.tmps.getD 3 undef = .pointer (some ⟨w.heap.size + 1, 0, none⟩) := f3
      refine rely_wp rfl ?_
      exact opr_load_64 rfl f3 (hT.row q1) (hK _ _ (NewT.refl _) rfl)
    · intro wx hT
      intro u h; obtain rfl := h (by simp); clear h
      refine relyEnd_nil rfl ?_
      simp only [Act.put, List.setIfInBounds_toArray, List.set_cons_zero, List.set_cons_succ]
      refine opr_store_new (B := w.heap.size) (W := w) info64 rfl rfl rfl (hT.row q0) (hB3.trans (hT.out.mono hB3.size)) (Nat.le_refl _) ?_
      intro wy hB4 r4
      go_simp
      go_wp2
      exact bodyPost_ret (results_row rfl _ rfl r4 Tryd.underlying57 info64) rfl ⟨_, rfl, hB4, rfl⟩
set_option maxHeartbeats 1000000 in
theorem keyBlock_long (A : Option Addr) (n c : Nat) (l : List UInt8) (w : World) (hT : Tables w) (hr : RdV w [] (.slice A n c) l) (hl : 64 < l.length) (hl2 : l.length ≤ 4611686018427387904) :
    Cv 42 #[.slice A n c] w (.eq (.agg (rowA 64 (bF (keyB l))))) := by
  have hk : keyB l = bAt (digL (shaL Kc Fc l)) := by unfold keyB keyOf; rw [if_pos hl]
  rw [hk]
  obtain ⟨D, HD⟩ := hid_ex (shaL Kc Fc l)
  rw [HD.out]
  have HT := Lib.hid hT
  clear hT
  unfold Cv
  have hn : l.length = n := by obtain ⟨_, _, hv, _⟩ := hr; cases hv; rfl
  subst hn
  have Hr := Lib.hid hr
  clear hr hk
  have hd : decide ((64 : Int) < (l.length : Int)) = true := by simp; omega
  go_enter Tryd.func42, Tryd.ntmps42
  go_upto_region 2 with fail
  have r0 := (rowIs_box w 57 64 (bF fun _ => 0)).alloc (.cells (rowA 64 (bF fun _ => 0)) 57)
  have r1 := rowIs_box (w.alloc (.cells (rowA 64 (bF fun _ => 0)) 57)) 57 64 (bF fun _ => 0)
  rw [World.size_alloc] at r1
  have hB : Below w.heap.size w ((w.alloc (.cells (rowA 64 (bF fun _ => 0)) 57)).alloc (.cells (rowA 64 (bF fun _ => 0)) 57)) := ((Below.refl _ w).alloc (Nat.le_refl _) _).alloc (by simp) _
  change Code.wp _ _ _ _ ((w.alloc (.cells (rowA 64 (bF fun _ => 0)) 57)).alloc (.cells (rowA 64 (bF fun _ => 0)) 57))
  generalize ((w.alloc (.cells (rowA 64 (bF fun _ => 0)) 57)).alloc (.cells (rowA 64 (bF fun _ => 0)) 57)) = W0 at r0 r1 hB ⊢
  have Hr0 := Lib.hid (Hr.out.keep (KeepBut.below hB))
  have HT0 := Lib.hid (HT.out.below hB)
  go_upto_region 3 with fail
  refine wp_region_seq NewT [svRd l, svParts [l], SV.eq (.agg (rowA 32 (bF D))), svNew W0 31 32] [([(0, none)], none), ([(8, some 0)], none), ([(9, some 1)], none), ([], none)] 16 rfl rfl (by kernel_rfl) rfl NewT.trans (NewT.refl _) (Nat.le_of_ble_eq_true rfl) ⟨?_, ?_, ?_, ?_, trivial⟩ ?_
  · -- 0: Op.move t0
    intro a wx hT hF K hK
    obtain ⟨f0, _⟩ := hF
    have f0 : a.tmps.getD 0 undef = .slice A l.length c := f0
    refine rely_wp rfl ?_
    exact opr_move (.inl rfl) (hK _ _ (NewT.refl _) (by rw [eval_tmp, f0]; exact hT.rd Hr0.out))
  · -- 1: Op.buildSlice 41 1 #[(0, t8)]
    intro a wx hT hF K hK
    obtain ⟨f8, _⟩ := hF
    replace f8 := show (svRd l).pred (a.tmps.getD 8 undef) wx from f8
    refine rely_wp rfl ?_
    exact opr_bs1 rfl f8 hK
  · -- 2: Op.call ( value (Operand.func 21), args := #[t9], argTypes :
    intro a wx hT hF K hK
    obtain ⟨f9, _⟩ := hF
    replace f9 := show (svParts [l]).pred (a.tmps.getD 9 undef) wx from f9
    refine rely_wp rfl ?_
    exact opr_cv (Sum_cv _ [l] D wx (hT.tables HT0.out) f9 (by simpa using hl2) (by simp; exact HD.out)) rfl Tryd.func21 (by kernel_rfl) (by kernel_rfl) (by simp only [List.map_toArray, List.map_cons, List.map_nil, eval_tmp]) hK
  · -- 3: Op.alloc 31
    intro a wx hT hF K hK
    refine rely_wp rfl ?_
    exact opr_alloc_hash rfl hT hK
  · intro wx hT
    intro u8 h; have g8 := h (by simp); clear h; replace g8 := show (svRd l).pred u8 wx from g8
    intro u9 h; have g9 := h (by simp); clear h; replace g9 := show (svParts [l]).pred u9 wx from g9
    intro u h; obtain rfl := h (by simp); clear h
    intro u4 h; obtain ⟨p4, hv, hp4, rr4⟩ := svNew_out (h (by simp)); clear h; subst hv
    refine relyEnd_nil rfl ?_
    simp only [Act.put, List.setIfInBounds_toArray, List.set_cons_zero, List.set_cons_succ]
    refine opr_store_new info31 rfl rfl rfl rr4 hT.out hp4 ?_
    clear hT rr4
    intro wy hT rr4
    replace hT := NewT.of hT
    go_simp
    replace r0 := hT.row r0
    replace r1 := hT.row r1
    replace hB := hB.trans (hT.out.mono hB.size)
    have rdD := rd_row (L := []) rr4 (by simp) (by omega)
    change RdV wy [] (.slice (some ⟨p4, 0, none⟩) 32 32) (digL D) at rdD
    have RdD := Lib.hid rdD
    clear rdD rr4 Hr0 HT0 hT g8 g9 hp4
    have rdD := RdD.out
    go_upto_region 5 with fail
    refine wp_region_seq NewT [SV.eq (.slice (some ⟨w.heap.size + 1, 0, none⟩) 64 64), svRd (digL D)] [([(3, none)], none), ([(0, none)], none)] 16 rfl rfl (by kernel_rfl) rfl NewT.trans (NewT.refl _) (Nat.le_of_ble_eq_true rfl) ⟨?_, ?_, trivial⟩ ?_
    · -- 0: Op.slice 57 t3 none none none
      intro a wx hT hF K hK
      obtain ⟨f3, _⟩ := hF
      have f3 : a.tmps.getD 3 undef = .pointer (some ⟨w.heap.size + 1, 0, none⟩) := f3
      refine rely_wp rfl ?_
      exact opr_slice_64 rfl f3 (hK _ _ (NewT.refl _) rfl)
    · -- 1: Op.move t0
      intro a wx hT hF K hK
      obtain ⟨f0, _⟩ := hF
      have f0 : a.tmps.getD 0 undef = .slice (some ⟨p4, 0, none⟩) 32 32 := f0
      refine rely_wp rfl ?_
      exact opr_move (.inl rfl) (hK _ _ (NewT.refl _) (by rw [eval_tmp, f0]; exact hT.rd rdD))
    · intro wx hT
      intro u h; obtain rfl := h (by simp); clear h
      intro u13 h; have g13 := h (by simp); clear h; replace g13 := show (svRd (digL D)).pred u13 wx from g13
      refine relyEnd_nil rfl ?_
      simp only [Act.put, List.setIfInBounds_toArray, List.set_cons_zero, List.set_cons_succ]
      refine opr_copy (B := w.heap.size + 1) (W := wy) rfl rfl g13 (by rw [digL_length]; omega) (hT.row r1) (hT.out.mono (Nat.le_of_lt r1.lt)) (Nat.le_refl _) ?_
      intro v w2 hB2 q1
      replace q1 := q1.congr (g := bF (bAt (digL D))) (fun i _ => by simp only [bF]; by_cases h : i < (digL D).length <;> simp [h, bAt])
      have q0 := rowIs_below r0 hB2 (Nat.lt_succ_self _)
      have hB3 := hB.trans (hB2.mono (Nat.le_succ _))
      clear r0 r1 hB hB2 hT
      go_simp
      go_upto_region 6 with fail
      refine wp_region_seq NewT [SV.eq (.agg (rowA 64 (bF (bAt (digL D)))))] [([(3, none)], none)] 16 rfl rfl (by kernel_rfl) rfl NewT.trans (NewT.refl _) (Nat.le_of_ble_eq_true rfl) ⟨?_, trivial⟩ ?_
      · intro a wx hT hF K hK
        obtain ⟨f3, _⟩ := hF
        have f3 : a.tmps.getD 3 undef = .pointer (some ⟨w.heap.size + 1, 0, none⟩) := f3
        refine rely_wp rfl ?_
        exact opr_load_64 rfl f3 (hT.row q1) (hK _ _ (NewT.refl _) rfl)
      · intro wx hT
        intro u h; obtain rfl := h (by simp); clear h
        refine relyEnd_nil rfl ?_
        simp only [Act.put, List.setIfInBounds_toArray, List.set_cons_zero, List.set_cons_succ]
        refine opr_store_new (B := w.heap.size) (W := w) info64 rfl rfl rfl (hT.row q0) (hB3.trans (hT.out.mono hB3.size)) (Nat.le_refl _) ?_
        intro wy hB4 r4
        go_simp
        go_wp2
        exact bodyPost_ret (results_row rfl _ rfl r4 Tryd.underlying57 info64) rfl ⟨_, rfl, hB4, rfl⟩
theorem keyBlock_cv (v : Value) (l : List UInt8) (w : World) (hT : Tables w) (hr : RdV w [] v l) (hl2 : l.length ≤ 4611686018427387904) : Cv 42 #[v] w (.eq (.agg (rowA 64 (bF (keyB l))))) := by
  have hr0 := hr
  obtain ⟨A, c, rfl, _⟩ := hr0
  by_cases h : l.length ≤ 64
  · exact keyBlock_short A _ c l w hr h
  · exact keyBlock_long A _ c l w hT hr (by omega) hl2
end Go.Proofs.YtpoebajpmkcjdaaDoor
