/- Package mac: the digest of a domain, and the tag of words: what Of and Key return. -/
import Derived.Test.YtpoebajpmkcjdaaDoorM7
namespace Go.Proofs.YtpoebajpmkcjdaaDoor
open Go Go.RowKit
/-- The low byte of a number. -/
def dB (n : Int) : UInt8 := UInt8.ofNat (n % 256).toNat
theorem dB_eq (n : Int) : IntKind.u8.wrap n = bN (dB n) := by rw [wrap_u8, dB, bN, UInt8.toNat_ofNat']; omega
theorem run_bsb1 (x : Int) (w : World) : (Instr.buildSlice 24 1 #[(0, .int .u8 x)]).run Tryd.prog w = .ok (.slice (some ⟨w.heap.size, 0, none⟩) 1 1) (w.alloc (.cells #[.int .u8 x] 5)) := by
  simp [go_sem]
theorem rd_one (b : UInt8) (w : World) : RdV (w.alloc (.cells #[.int .u8 (bN b)] 5)) [] (.slice (some ⟨w.heap.size, 0, none⟩) 1 1) [b] :=
  rdV_lit (l := [b]) (by simp) (by decide) fun i hi => by
    obtain rfl : i = 0 := by simpa using hi
    rw [cell_new_fr _ _ _ _ _ _ rfl]; rfl
/-- A new slice of one byte. -/
theorem opr_bsb1 {a : Act} {w : World} {o : Oper} {K : Act → World → Prop} {Q : Exit → Act → World → Prop} {x : Operand} {b : UInt8} (ho : o.op = .buildSlice 24 1 #[(0, x)]) (hx : a.eval x = .int .u8 (bN b)) (h : ∀ v w', NewT w w' → RdV w' [] v [b] → K (a.put o.dst v) w') : o.wp Tryd.prog a w K Q := by
  obtain ⟨dst, op, type, pos, after, guard⟩ := o
  simp only at ho
  subst ho
  exact opr_val (s := Instr.buildSlice 24 1 #[(0, a.eval x)]) (by simp [execOp]) (by rw [hx]; exact run_bsb1 _ w) (h _ _ (NewT.alloc _ _) (rd_one b w))
/-- The text of a domain and parts. -/
def ofL (n : Int) (ls : List (List UInt8)) : List UInt8 := dB n :: (ls.flatMap cntP).flatten
theorem ofL_length (n : Int) (ls : List (List UInt8)) : (ofL n ls).length = 1 + 4 * ls.length + ls.flatten.length := by
  unfold ofL
  rw [List.length_cons]
  induction ls with
  | nil => rfl
  | cons x ls ih => simp [cntP, hiL_length] at ih ⊢; omega
set_option maxHeartbeats 2000000 in
theorem Of_cv (n : Int) (pv : Value) (ls : List (List UInt8)) (D : Nat → UInt8) (w : World) (hT : Tables w) (hp : Parts w pv ls) (hlen : ls.length ≤ 100000) (htot : ls.flatten.length ≤ 1000000) (hD : shaL Kc Fc (ofL n ls) = D) :
    Cv 30 #[.int .i64 n, pv] w (.eq (.agg (rowA 32 (bF D)))) := by
  unfold Cv
  have HD := Lib.hid hD
  have HT := Lib.hid hT
  have Hp := Lib.hid hp
  have hdb := dB_eq n
  have hol := ofL_length n ls
  have Hol := Lib.hid hol
  clear hT hp hD hol
  go_enter Tryd.func30, Tryd.ntmps30
  go_upto_region 1 with fail
  have r0 := rowIs_box w 31 32 (bF fun _ => 0)
  have hB0 := NewT.alloc w (.cells (rowA 32 (bF fun _ => 0)) 31)
  change Code.wp _ _ _ _ (w.alloc (.cells (rowA 32 (bF fun _ => 0)) 31))
  generalize w.alloc (.cells (rowA 32 (bF fun _ => 0)) 31) = W0 at r0 hB0 ⊢
  replace HT := Lib.hid (hB0.tables HT.out)
  replace Hp := Lib.hid (hB0.partsL Hp.out)
  refine wp_region_seq NewT [SV.eq (.int .i64 n), SV.eq (.int .u8 (bN (dB n))), svRd [dB n], svParts ls, svParts ([dB n] :: ls.flatMap cntP), SV.eq (.agg (rowA 32 (bF D)))] [([(0, none)], none), ([(5, some 0)], none), ([(6, some 1)], none), ([(1, none)], none), ([(7, some 2), (8, some 3)], none), ([(9, some 4)], none)] 11 rfl rfl (by kernel_rfl) rfl NewT.trans (NewT.refl _) (Nat.le_of_ble_eq_true rfl) ⟨?_, ?_, ?_, ?_, ?_, ?_, trivial⟩ ?_
  · -- 0: Op.move t0
    intro a wx hT hF K hK
    obtain ⟨f0, _⟩ := hF
    have f0 : a.tmps.getD 0 undef = .int .i64 n := f0
    refine rely_wp rfl ?_
    exact opr_move (.inl rfl) (hK _ _ (NewT.refl _) f0)
  · -- 1: Op.convert 3 5 t5
    intro a wx hT hF K hK
    obtain ⟨f5, _⟩ := hF
    have f5 : a.tmps.getD 5 undef = .int .i64 n := f5
    refine rely_wp rfl ?_
    simp only [Array.getD_eq_getD_getElem?] at f5
    go_simp
    exact hK _ _ (NewT.refl _) rfl
  · -- 2: Op.buildSlice 24 1 #[(0, t6)]
    intro a wx hT hF K hK
    obtain ⟨f6, _⟩ := hF
    have f6 : a.tmps.getD 6 undef = .int .u8 (bN (dB n)) := f6
    refine rely_wp rfl ?_
    exact opr_bsb1 rfl f6 hK
  · -- 3: Op.move t1
    intro a wx hT hF K hK
    obtain ⟨f1, _⟩ := hF
    have f1 : a.tmps.getD 1 undef = pv := f1
    refine rely_wp rfl ?_
    exact opr_move (.inl rfl) (hK _ _ (NewT.refl _) (by rw [eval_tmp, f1]; exact hT.partsL Hp.out))
  · -- 4: Op.call ( value (Operand.func 43), args := #[t7, Operand.fun
    intro a wx hT hF K hK
    obtain ⟨f7, f8, _⟩ := hF
    replace f7 := show (svRd [dB n]).pred (a.tmps.getD 7 undef) wx from f7
    replace f8 := show (svParts ls).pred (a.tmps.getD 8 undef) wx from f8
    refine rely_wp rfl ?_
    exact opr_cv (text_counted _ _ [dB n] ls wx f7 f8 hlen) rfl Tryd.func43 (by kernel_rfl) (by kernel_rfl) (by simp only [List.map_toArray, List.map_cons, List.map_nil, eval_tmp, eval_func]) hK
  · -- 5: Op.call ( value (Operand.func 21), args := #[t9], argTypes :
    intro a wx hT hF K hK
    obtain ⟨f9, _⟩ := hF
    replace f9 := show (svParts ([dB n] :: ls.flatMap cntP)).pred (a.tmps.getD 9 undef) wx from f9
    refine rely_wp rfl ?_
    exact opr_cv (Sum_cv _ ([dB n] :: ls.flatMap cntP) D wx (hT.tables HT.out) f9 (by show (ofL n ls).length ≤ _; have := Hol.out; omega) (by simpa [ofL] using HD.out)) rfl Tryd.func21 (by kernel_rfl) (by kernel_rfl) (by simp only [List.map_toArray, List.map_cons, List.map_nil, eval_tmp]) hK
  · intro wx hT
    intro u h; obtain rfl := h (by simp); clear h
    intro u h; obtain rfl := h (by simp); clear h
    intro u7 h; have g7 := h (by simp); clear h; replace g7 := show (svRd [dB n]).pred u7 wx from g7
    intro u8 h; have g8 := h (by simp); clear h; replace g8 := show (svParts ls).pred u8 wx from g8
    intro u9 h; have g9 := h (by simp); clear h; replace g9 := show (svParts ([dB n] :: ls.flatMap cntP)).pred u9 wx from g9
    intro u h; obtain rfl := h (by simp); clear h
    refine relyEnd_nil rfl ?_
    simp only [Act.put, List.setIfInBounds_toArray, List.set_cons_zero, List.set_cons_succ]
    refine opr_store_new (B := w.heap.size) (W := w) info31 rfl rfl rfl (hT.row r0) (NewT.trans _ _ _ hB0 hT) (Nat.le_refl _) ?_
    intro w9 hB9 r9
    go_simp
    go_wp2
    exact bodyPost_ret (results_row rfl _ rfl r9 Tryd.underlying31 info31) rfl ⟨_, rfl, hB9, rfl⟩
theorem rd_nil (w : World) (L : List Nat) : RdV w L (.slice none 0 0) [] := ⟨none, 0, rfl, Nat.le_refl _, by unfold maxLen; omega, fun h => absurd h (by simp)⟩
/-- The text of words. -/
def wordsL (is : List Int) : List UInt8 := (is.map fun n => hiL (wN n) 8).flatten
theorem wordsL_length (is : List Int) : (wordsL is).length = 8 * is.length := by
  unfold wordsL
  induction is with
  | nil => rfl
  | cons x is ih => simp [hiL_length] at ih ⊢; omega
set_option maxHeartbeats 2000000 in
theorem Key_cv (d : Nat → UInt8) (iv : Value) (is : List Int) (D : Nat → UInt8) (w : World) (hT : Tables w) (hp : RdI w iv is) (hlen : is.length ≤ 10000) (hD : tagL (digL d) (wordsL is) = D) :
    Cv 32 #[.agg (rowA 32 (bF d)), iv] w (.eq (.agg (rowA 32 (bF D)))) := by
  unfold Cv
  have HD := Lib.hid hD
  have HT := Lib.hid hT
  have Hp := Lib.hid hp
  have Hwl := Lib.hid (wordsL_length is)
  clear hT hp hD
  go_enter Tryd.func32, Tryd.ntmps32
  go_upto_region 1 with fail
  have rk := (rowIs_box w 31 32 (bF d)).alloc (.cells (rowA 32 (bF fun _ => 0)) 31)
  have r0 := rowIs_box (w.alloc (.cells (rowA 32 (bF d)) 31)) 31 32 (bF fun _ => 0)
  rw [World.size_alloc] at r0
  have hB0 := NewT.trans _ _ _ (NewT.alloc w (.cells (rowA 32 (bF d)) 31)) (NewT.alloc (w.alloc (.cells (rowA 32 (bF d)) 31)) (.cells (rowA 32 (bF fun _ => 0)) 31))
  change Code.wp _ _ _ _ ((w.alloc (.cells (rowA 32 (bF d)) 31)).alloc (.cells (rowA 32 (bF fun _ => 0)) 31))
  generalize ((w.alloc (.cells (rowA 32 (bF d)) 31)).alloc (.cells (rowA 32 (bF fun _ => 0)) 31)) = W0 at rk r0 hB0 ⊢
  replace HT := Lib.hid (hB0.tables HT.out)
  replace Hp := Lib.hid (hB0.ints Hp.out)
  refine wp_region_rely NewT [svRd (digL d), svInts is, svParts ([] :: is.map fun n => hiL (wN n) 8), SV.eq (.agg (rowA 32 (bF D)))] [([(2, none)], none), ([(1, none)], none), ([(6, some 1)], none), ([(5, some 0), (7, some 2)], none)] 9 rfl (by kernel_rfl) rfl (by kernel_rfl) (by kernel_rfl) rfl NewT.trans (NewT.drew _) (Nat.le_of_ble_eq_true rfl) ⟨?_, ?_, ?_, ?_, trivial⟩ ?_
  · -- 0: Op.slice 31 t2 none none none
    intro a wx hT hF K hK
    obtain ⟨f2, _⟩ := hF
    have f2 : a.tmps.getD 2 undef = .pointer (some ⟨w.heap.size, 0, none⟩) := f2
    refine rely_wp rfl ?_
    exact opr_slice_hash rfl f2 (hK _ _ (NewT.refl _) (rd_row (hT.row rk) (by simp) (by omega)))
  · -- 1: Op.move t1
    intro a wx hT hF K hK
    obtain ⟨f1, _⟩ := hF
    have f1 : a.tmps.getD 1 undef = iv := f1
    refine rely_wp rfl ?_
    exact opr_move (.inl rfl) (hK _ _ (NewT.refl _) (by rw [eval_tmp, f1]; exact hT.ints Hp.out))
  · -- 2: Op.call ( value (Operand.func 50), args := #[const (Value.sl
    intro a wx hT hF K hK
    obtain ⟨f6, _⟩ := hF
    replace f6 := show (svInts is).pred (a.tmps.getD 6 undef) wx from f6
    refine rely_wp rfl ?_
    exact opr_cv (text_words _ _ [] is wx (rd_nil _ _) f6 (by omega)) rfl Tryd.func50 (by kernel_rfl) (by kernel_rfl) (by simp only [List.map_toArray, List.map_cons, List.map_nil, eval_tmp, eval_const, eval_func]) hK
  · -- 3: Op.call ( value (Operand.func 27), args := #[t5, t7], argTyp
    intro a wx hT hF K hK
    obtain ⟨f5, f7, _⟩ := hF
    replace f5 := show (svRd (digL d)).pred (a.tmps.getD 5 undef) wx from f5
    replace f7 := show (svParts ([] :: is.map fun n => hiL (wN n) 8)).pred (a.tmps.getD 7 undef) wx from f7
    refine rely_wp rfl ?_
    exact opr_cv (Tag_cv _ _ (digL d) ([] :: is.map fun n => hiL (wN n) 8) D wx (hT.tables HT.out) f5 (by rw [digL_length]; omega) f7 (by simp; omega) (by show (wordsL is).length ≤ _; have := Hwl.out; omega) (by simpa [wordsL] using HD.out)) rfl Tryd.func27 (by kernel_rfl) (by kernel_rfl) (by simp only [List.map_toArray, List.map_cons, List.map_nil, eval_tmp]) hK
  · intro wx hT
    intro u5 h; have g5 := h (by simp); clear h; replace g5 := show (svRd (digL d)).pred u5 wx from g5
    intro u6 h; have g6 := h (by simp); clear h; replace g6 := show (svInts is).pred u6 wx from g6
    intro u7 h; have g7 := h (by simp); clear h; replace g7 := show (svParts ([] :: is.map fun n => hiL (wN n) 8)).pred u7 wx from g7
    intro u h; obtain rfl := h (by simp); clear h
    refine relyEnd_nil rfl ?_
    simp only [Act.put, List.setIfInBounds_toArray, List.set_cons_zero, List.set_cons_succ]
    refine opr_store_new (B := w.heap.size) (W := w) info31 rfl rfl rfl (hT.row r0) (NewT.trans _ _ _ hB0 hT) (Nat.le_succ _) ?_
    intro w9 hB9 r9
    go_simp
    go_wp2
    exact bodyPost_ret (results_row rfl _ rfl r9 Tryd.underlying31 info31) rfl ⟨_, rfl, hB9, rfl⟩
end Go.Proofs.YtpoebajpmkcjdaaDoor
