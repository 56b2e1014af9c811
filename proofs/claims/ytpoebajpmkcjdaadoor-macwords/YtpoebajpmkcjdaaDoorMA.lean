/- Layer 2's own example: the law's function alive returns true. -/
import Derived.Test.YtpoebajpmkcjdaaDoorM8
import Derived.Test.YtpoebajpmkcjdaaDoorM9
namespace Go.Proofs.YtpoebajpmkcjdaaDoor
open Go Go.RowKit
def key0 : List UInt8 := [107, 101, 121]
def txtA : List UInt8 := [84, 104, 101, 32, 113, 117, 105, 99, 107, 32, 98, 114, 111, 119, 110, 32, 102, 111, 120, 32]
def txtB : List UInt8 := [106, 117, 109, 112, 115, 32, 111, 118, 101, 114, 32, 116, 104, 101, 32, 108, 97, 122, 121, 32, 100, 111, 103]
theorem hex0 : hexL (tagL key0 (txtA ++ txtB)) 32 = [102, 55, 98, 99, 56, 51, 102, 52, 51, 48, 53, 51, 56, 52, 50, 52, 98, 49, 51, 50, 57, 56, 101, 54, 97, 97, 54, 102, 98, 49, 52, 51, 101, 102, 52, 100, 53, 57, 97, 49, 52, 57, 52, 54, 49, 55, 53, 57, 57, 55, 52, 55, 57, 100, 98, 99, 50, 100, 49, 97, 51, 99, 100, 56] := by decide +kernel
theorem ne0 : eqH (tagL key0 (txtA ++ txtB)) (fun _ => 0) = false := by decide +kernel
theorem ne1 : eqH (shaL Kc Fc (ofL 1 [[]])) (shaL Kc Fc (ofL 2 [[]])) = false := by decide +kernel
theorem ne2 : eqH (tagL (digL (tagL key0 (txtA ++ txtB))) (wordsL [1])) (tagL (digL (tagL key0 (txtA ++ txtB))) (wordsL [2])) = false := by decide +kernel
/-- Bytes that the text lays read as they are. -/
theorem rd_lit (W : World) (l : List UInt8) (fr : Nat × Nat) (hl : l.length ≤ 1000000) : RdV (W.alloc (.cells (l.map fun b => .int .u8 (bN b)).toArray 5 fr)) [] (.slice (some ⟨W.heap.size, 0, none⟩) l.length l.length) l :=
  rdV_lit (Nat.le_refl _) (by unfold maxLen; omega) fun i hi => by
    rw [cell_new_fr _ _ _ _ _ _ rfl, List.getElem?_toArray]
    exact map_at l i hi
theorem run_bsi1 (x : Int) (w : World) : (Instr.buildSlice 47 1 #[(0, .int .i64 x)]).run Tryd.prog w = .ok (.slice (some ⟨w.heap.size, 0, none⟩) 1 1) (w.alloc (.cells #[.int .i64 x] 3)) := by
  simp [go_sem]
theorem rdI_one (x : Int) (w : World) : RdI (w.alloc (.cells #[.int .i64 x] 3)) (.slice (some ⟨w.heap.size, 0, none⟩) 1 1) [x] :=
  ⟨some ⟨w.heap.size, 0, none⟩, 1, rfl, by simp, by unfold maxLen; omega, fun _ => ⟨w.heap.size, 0, rfl, fun i hi => by
    obtain rfl : i = 0 := by simpa using hi
    rw [cell_new_fr _ _ _ _ _ _ rfl]; rfl⟩⟩
theorem opr_bsi1 {a : Act} {w : World} {o : Oper} {K : Act → World → Prop} {Q : Exit → Act → World → Prop} {x : Operand} {b : Int} (ho : o.op = .buildSlice 47 1 #[(0, x)]) (hx : a.eval x = .int .i64 b) (h : ∀ v w', NewT w w' → RdI w' v [b] → K (a.put o.dst v) w') : o.wp Tryd.prog a w K Q := by
  obtain ⟨dst, op, type, pos, after, guard⟩ := o
  simp only at ho
  subst ho
  exact opr_val (s := Instr.buildSlice 47 1 #[(0, a.eval x)]) (by simp [execOp]) (by rw [hx]; exact run_bsi1 _ w) (h _ _ (NewT.alloc _ _) (rdI_one b w))
attribute [local go_sem] conv_bytes
set_option maxHeartbeats 4000000 in
theorem alive2_any (w : World) (hT : Tables w) : Calls Tryd.prog 25 #[] w fun e w' => e = .returned (.bool true) ∧ Below w.heap.size w w' := by
  have HT := Lib.hid hT
  clear hT
  obtain ⟨D0, HD0⟩ := hid_ex (tagL key0 (txtA ++ txtB))
  obtain ⟨D1, HD1⟩ := hid_ex (shaL Kc Fc (ofL 1 [[]]))
  obtain ⟨D2, HD2⟩ := hid_ex (shaL Kc Fc (ofL 2 [[]]))
  obtain ⟨E1, HE1⟩ := hid_ex (tagL (digL D0) (wordsL [1]))
  obtain ⟨E2, HE2⟩ := hid_ex (tagL (digL D0) (wordsL [2]))
  obtain ⟨S, HS⟩ := hid_ex (⟨(hexL D0 32).toArray⟩ : ByteArray)
  have h0 := ne0
  rw [HD0.out] at h0
  have h1 := ne1
  rw [HD1.out, HD2.out] at h1
  have h2 := ne2
  rw [HD0.out, HE1.out, HE2.out] at h2
  have H0 := Lib.hid h0
  have H1 := Lib.hid h1
  have H2 := Lib.hid h2
  have hs : (S.toList == [102, 55, 98, 99, 56, 51, 102, 52, 51, 48, 53, 51, 56, 52, 50, 52, 98, 49, 51, 50, 57, 56, 101, 54, 97, 97, 54, 102, 98, 49, 52, 51, 101, 102, 52, 100, 53, 57, 97, 49, 52, 57, 52, 54, 49, 55, 53, 57, 57, 55, 52, 55, 57, 100, 98, 99, 50, 100, 49, 97, 51, 99, 100, 56]) = true := by rw [← HS.out, ← HD0.out, hex0]; decide +kernel
  clear h0 h1 h2
  go_enter Tryd.func25, Tryd.ntmps25
  go_wp2_with fail
  have rk := rd_lit w key0 (3, 3 + 1) (by decide)
  have ra := rd_lit (w.alloc (.cells (key0.map fun b => .int .u8 (bN b)).toArray 5 (3, 3 + 1))) txtA (20, 20 + 1) (by decide)
  have rb := rd_lit ((w.alloc (.cells (key0.map fun b => .int .u8 (bN b)).toArray 5 (3, 3 + 1))).alloc (.cells (txtA.map fun b => .int .u8 (bN b)).toArray 5 (20, 20 + 1))) txtB (23, 23 + 1) (by decide)
  rw [World.size_alloc] at ra rb
  rw [World.size_alloc] at rb
  replace rk := (NewT.alloc _ (.cells (txtB.map fun b => .int .u8 (bN b)).toArray 5 (23, 23 + 1))).rd ((NewT.alloc _ (.cells (txtA.map fun b => .int .u8 (bN b)).toArray 5 (20, 20 + 1))).rd rk)
  replace ra := (NewT.alloc _ (.cells (txtB.map fun b => .int .u8 (bN b)).toArray 5 (23, 23 + 1))).rd ra
  have hB1 : NewT w (((w.alloc (.cells #[.int .u8 107, .int .u8 101, .int .u8 121] 5 (3, 3 + 1))).alloc (.cells #[.int .u8 84, .int .u8 104, .int .u8 101, .int .u8 32, .int .u8 113, .int .u8 117, .int .u8 105, .int .u8 99, .int .u8 107, .int .u8 32, .int .u8 98, .int .u8 114, .int .u8 111, .int .u8 119, .int .u8 110, .int .u8 32, .int .u8 102, .int .u8 111, .int .u8 120, .int .u8 32] 5 (20, 20 + 1))).alloc (.cells #[.int .u8 106, .int .u8 117, .int .u8 109, .int .u8 112, .int .u8 115, .int .u8 32, .int .u8 111, .int .u8 118, .int .u8 101, .int .u8 114, .int .u8 32, .int .u8 116, .int .u8 104, .int .u8 101, .int .u8 32, .int .u8 108, .int .u8 97, .int .u8 122, .int .u8 121, .int .u8 32, .int .u8 100, .int .u8 111, .int .u8 103] 5 (23, 23 + 1))) := NewT.trans _ _ _ (NewT.trans _ _ _ (NewT.alloc w _) (NewT.alloc _ _)) (NewT.alloc _ _)
  change RdV (((w.alloc (.cells #[.int .u8 107, .int .u8 101, .int .u8 121] 5 (3, 3 + 1))).alloc (.cells #[.int .u8 84, .int .u8 104, .int .u8 101, .int .u8 32, .int .u8 113, .int .u8 117, .int .u8 105, .int .u8 99, .int .u8 107, .int .u8 32, .int .u8 98, .int .u8 114, .int .u8 111, .int .u8 119, .int .u8 110, .int .u8 32, .int .u8 102, .int .u8 111, .int .u8 120, .int .u8 32] 5 (20, 20 + 1))).alloc (.cells #[.int .u8 106, .int .u8 117, .int .u8 109, .int .u8 112, .int .u8 115, .int .u8 32, .int .u8 111, .int .u8 118, .int .u8 101, .int .u8 114, .int .u8 32, .int .u8 116, .int .u8 104, .int .u8 101, .int .u8 32, .int .u8 108, .int .u8 97, .int .u8 122, .int .u8 121, .int .u8 32, .int .u8 100, .int .u8 111, .int .u8 103] 5 (23, 23 + 1))) [] (.slice (some ⟨w.heap.size, 0, none⟩) 3 3) key0 at rk
  change RdV (((w.alloc (.cells #[.int .u8 107, .int .u8 101, .int .u8 121] 5 (3, 3 + 1))).alloc (.cells #[.int .u8 84, .int .u8 104, .int .u8 101, .int .u8 32, .int .u8 113, .int .u8 117, .int .u8 105, .int .u8 99, .int .u8 107, .int .u8 32, .int .u8 98, .int .u8 114, .int .u8 111, .int .u8 119, .int .u8 110, .int .u8 32, .int .u8 102, .int .u8 111, .int .u8 120, .int .u8 32] 5 (20, 20 + 1))).alloc (.cells #[.int .u8 106, .int .u8 117, .int .u8 109, .int .u8 112, .int .u8 115, .int .u8 32, .int .u8 111, .int .u8 118, .int .u8 101, .int .u8 114, .int .u8 32, .int .u8 116, .int .u8 104, .int .u8 101, .int .u8 32, .int .u8 108, .int .u8 97, .int .u8 122, .int .u8 121, .int .u8 32, .int .u8 100, .int .u8 111, .int .u8 103] 5 (23, 23 + 1))) [] (.slice (some ⟨w.heap.size + 1, 0, none⟩) 20 20) txtA at ra
  change RdV (((w.alloc (.cells #[.int .u8 107, .int .u8 101, .int .u8 121] 5 (3, 3 + 1))).alloc (.cells #[.int .u8 84, .int .u8 104, .int .u8 101, .int .u8 32, .int .u8 113, .int .u8 117, .int .u8 105, .int .u8 99, .int .u8 107, .int .u8 32, .int .u8 98, .int .u8 114, .int .u8 111, .int .u8 119, .int .u8 110, .int .u8 32, .int .u8 102, .int .u8 111, .int .u8 120, .int .u8 32] 5 (20, 20 + 1))).alloc (.cells #[.int .u8 106, .int .u8 117, .int .u8 109, .int .u8 112, .int .u8 115, .int .u8 32, .int .u8 111, .int .u8 118, .int .u8 101, .int .u8 114, .int .u8 32, .int .u8 116, .int .u8 104, .int .u8 101, .int .u8 32, .int .u8 108, .int .u8 97, .int .u8 122, .int .u8 121, .int .u8 32, .int .u8 100, .int .u8 111, .int .u8 103] 5 (23, 23 + 1))) [] (.slice (some ⟨w.heap.size + 1 + 1, 0, none⟩) 23 23) txtB at rb
  have hsz : (((w.alloc (.cells #[.int .u8 107, .int .u8 101, .int .u8 121] 5 (3, 3 + 1))).alloc (.cells #[.int .u8 84, .int .u8 104, .int .u8 101, .int .u8 32, .int .u8 113, .int .u8 117, .int .u8 105, .int .u8 99, .int .u8 107, .int .u8 32, .int .u8 98, .int .u8 114, .int .u8 111, .int .u8 119, .int .u8 110, .int .u8 32, .int .u8 102, .int .u8 111, .int .u8 120, .int .u8 32] 5 (20, 20 + 1))).alloc (.cells #[.int .u8 106, .int .u8 117, .int .u8 109, .int .u8 112, .int .u8 115, .int .u8 32, .int .u8 111, .int .u8 118, .int .u8 101, .int .u8 114, .int .u8 32, .int .u8 116, .int .u8 104, .int .u8 101, .int .u8 32, .int .u8 108, .int .u8 97, .int .u8 122, .int .u8 121, .int .u8 32, .int .u8 100, .int .u8 111, .int .u8 103] 5 (23, 23 + 1))).heap.size = w.heap.size + 1 + 1 + 1 := by simp
  generalize ((w.alloc (.cells #[.int .u8 107, .int .u8 101, .int .u8 121] 5 (3, 3 + 1))).alloc (.cells #[.int .u8 84, .int .u8 104, .int .u8 101, .int .u8 32, .int .u8 113, .int .u8 117, .int .u8 105, .int .u8 99, .int .u8 107, .int .u8 32, .int .u8 98, .int .u8 114, .int .u8 111, .int .u8 119, .int .u8 110, .int .u8 32, .int .u8 102, .int .u8 111, .int .u8 120, .int .u8 32] 5 (20, 20 + 1))).alloc (.cells #[.int .u8 106, .int .u8 117, .int .u8 109, .int .u8 112, .int .u8 115, .int .u8 32, .int .u8 111, .int .u8 118, .int .u8 101, .int .u8 114, .int .u8 32, .int .u8 116, .int .u8 104, .int .u8 101, .int .u8 32, .int .u8 108, .int .u8 97, .int .u8 122, .int .u8 121, .int .u8 32, .int .u8 100, .int .u8 111, .int .u8 103] 5 (23, 23 + 1)) = W1 at rk ra rb hB1 hsz ⊢
  have hN := NewT.alloc W1 (.cells #[.slice (some ⟨w.heap.size + 1, 0, none⟩) 20 20, .slice (some ⟨w.heap.size + 1 + 1, 0, none⟩) 23 23] 24)
  have hp : Parts (W1.alloc (.cells #[.slice (some ⟨w.heap.size + 1, 0, none⟩) 20 20, .slice (some ⟨w.heap.size + 1 + 1, 0, none⟩) 23 23] 24)) (.slice (some ⟨w.heap.size + 1 + 1 + 1, 0, none⟩) 2 2) [txtA, txtB] := by
    rw [← hsz]
    exact ⟨[(.slice (some ⟨w.heap.size + 1, 0, none⟩) 20 20, txtA), (.slice (some ⟨w.heap.size + 1 + 1, 0, none⟩) 23 23, txtB)], parts_new [(.slice (some ⟨w.heap.size + 1, 0, none⟩) 20 20, txtA), (.slice (some ⟨w.heap.size + 1 + 1, 0, none⟩) 23 23, txtB)] 24 (by simp) (by simp) (by simp only [List.mem_cons, List.not_mem_nil, or_false]; intro x hx; rcases hx with rfl | rfl; (exact ra); (exact rb)), rfl⟩
  refine (Tag_cv _ _ key0 [txtA, txtB] D0 _ (hN.tables (hB1.tables HT.out)) (hN.rd rk) (by decide) hp (by decide) (by decide) (by simpa using HD0.out)).eq.mono ?_
  rintro e w2 ⟨rfl, hb2⟩
  have hB2 := NewT.trans _ _ _ (NewT.trans _ _ _ hB1 hN) (NewT.of hb2)
  have T2 := Lib.hid (hB2.tables HT.out)
  clear hb2 hB1 hN hp rk ra rb hsz HT
  have rz := rowIs_box w2 31 32 (bF fun _ => 0)
  go_wp2_with (refine wpList_store_mid rfl 31 (.tmp 1) (.tmp 9) rfl w2.heap.size 0 (rowA 32 (bF D0)) rfl rfl (by rw [rowA_size]; exact there_row rz) (by rw [rowA_size]; exact info31) (rowA_one _ _ fun _ => rfl) ?_)
  have r3 := rowIs_setAll rz (bF D0)
  have hB3 : NewT w2 ((w2.alloc (.cells (rowA 32 (bF fun _ => 0)) 31)).setCells w2.heap.size 0 (rowA 32 (bF D0)).toList) := below_setCells w2.heap.size (Nat.le_refl _) _ _ _ (NewT.alloc w2 _)
  change Code.wp _ _ _ _ ((w2.alloc (.cells (rowA 32 (bF fun _ => 0)) 31)).setCells w2.heap.size 0 (rowA 32 (bF D0)).toList)
  generalize ((w2.alloc (.cells (rowA 32 (bF fun _ => 0)) 31)).setCells w2.heap.size 0 (rowA 32 (bF D0)).toList) = w3 at r3 hB3 ⊢
  replace T2 := Lib.hid (hB3.tables T2.out)
  have hB := NewT.trans _ _ _ hB2 hB3
  clear rz hB2 hB3
  refine wp_region_rely NewT [SV.eq (.agg (rowA 32 (bF D0))), SV.eq (.string S), SV.eq (.bool true), SV.eq (.bool true), SV.eq (.agg (rowA 32 (bF D0))), SV.eq (.agg (rowA 32 (bF D0))), SV.eq (.bool true), SV.eq (.bool true), SV.eq (.bool true), SV.eq (.agg (rowA 32 (bF D0))), SV.eq (.agg (rowA 32 (bF fun _ => 0))), SV.eq (.bool false), SV.eq (.bool true), SV.eq (.bool true), SV.eq (.bool true), svParts [[]], SV.eq (.agg (rowA 32 (bF D1))), svParts [[]], SV.eq (.agg (rowA 32 (bF D2))), SV.eq (.bool true), SV.eq (.bool true), SV.eq (.bool true), SV.eq (.agg (rowA 32 (bF D0))), svInts [1], SV.eq (.agg (rowA 32 (bF E1))), SV.eq (.agg (rowA 32 (bF D0))), svInts [2], SV.eq (.agg (rowA 32 (bF E2))), SV.eq (.bool true), SV.eq (.bool true)] [([(1, none)], none), ([(10, some 0)], none), ([(11, some 1)], none), ([(12, some 2)], none), ([(1, none), (13, some 3)], some (13, true)), ([(1, none), (13, some 3)], some (13, true)), ([(14, some 4), (15, some 5), (13, some 3)], some (13, true)), ([(13, some 3), (16, some 6)], none), ([(17, some 7)], none), ([(1, none), (18, some 8)], some (18, true)), ([(18, some 8)], some (18, true)), ([(19, some 9), (20, some 10), (18, some 8)], some (18, true)), ([(21, some 11), (18, some 8)], some (18, true)), ([(18, some 8), (22, some 12)], none), ([(23, some 13)], none), ([(24, some 14)], some (24, true)), ([(25, some 15), (24, some 14)], some (24, true)), ([(24, some 14)], some (24, true)), ([(27, some 17), (24, some 14)], some (24, true)), ([(26, some 16), (28, some 18), (24, some 14)], some (24, true)), ([(24, some 14), (29, some 19)], none), ([(30, some 20)], none), ([(1, none), (31, some 21)], some (31, true)), ([(31, some 21)], some (31, true)), ([(32, some 22), (33, some 23), (31, some 21)], some (31, true)), ([(1, none), (31, some 21)], some (31, true)), ([(31, some 21)], some (31, true)), ([(35, some 25), (36, some 26), (31, some 21)], some (31, true)), ([(34, some 24), (37, some 27), (31, some 21)], some (31, true)), ([(31, some 21), (38, some 28)], none)] 40 rfl (by kernel_rfl) rfl (by kernel_rfl) (by kernel_rfl) rfl NewT.trans (NewT.drew _) (Nat.le_of_ble_eq_true rfl) ⟨?_, ?_, ?_, ?_, ?_, ?_, ?_, ?_, ?_, ?_, ?_, ?_, ?_, ?_, ?_, ?_, ?_, ?_, ?_, ?_, ?_, ?_, ?_, ?_, ?_, ?_, ?_, ?_, ?_, ?_, trivial⟩ ?_
  · -- 0: Op.load 31 t1
    intro a wx hT hF K hK
    obtain ⟨f1, _⟩ := hF
    have f1 : a.tmps.getD 1 undef = .pointer (some ⟨w2.heap.size, 0, none⟩) := f1
    refine rely_wp rfl ?_
    exact opr_load_hash rfl f1 (hT.row r3) (hK _ _ (NewT.refl _) rfl)
  · -- 1: Op.call ( value (Operand.func 23), args := #[t10], argTypes 
    intro a wx hT hF K hK
    obtain ⟨f10, _⟩ := hF
    have f10 : a.tmps.getD 10 undef = .agg (rowA 32 (bF D0)) := f10
    refine rely_wp rfl ?_
    exact opr_cv (Hex_cv D0 S wx HS.out) rfl Tryd.func23 (by kernel_rfl) (by kernel_rfl) (by simp only [List.map_toArray, List.map_cons, List.map_nil, eval_tmp, f10]) hK
  · -- 2: Op.binOp BinOp.eql 9 t11 (const (Value.string ( data := #[10
    intro a wx hT hF K hK
    obtain ⟨f11, _⟩ := hF
    have f11 : a.tmps.getD 11 undef = .string S := f11
    refine rely_wp rfl ?_
    simp only [Array.getD_eq_getD_getElem?] at f11
    go_simp
    exact hK _ _ (NewT.refl _) rfl
  · -- 3: Op.move t12
    intro a wx hT hF K hK
    obtain ⟨f12, _⟩ := hF
    have f12 : a.tmps.getD 12 undef = .bool true := f12
    refine rely_wp rfl ?_
    exact opr_move (.inl rfl) (hK _ _ (NewT.refl _) f12)
  · -- 4: Op.load 31 t1
    intro a wx hT hF K hK
    obtain ⟨f1, f13, _⟩ := hF
    have f1 : a.tmps.getD 1 undef = .pointer (some ⟨w2.heap.size, 0, none⟩) := f1
    have f13 : a.tmps.getD 13 undef = .bool true := f13
    refine rely_wp (rely_guard f13) ?_
    exact opr_load_hash rfl f1 (hT.row r3) (hK _ _ (NewT.refl _) rfl)
  · -- 5: Op.load 31 t1
    intro a wx hT hF K hK
    obtain ⟨f1, f13, _⟩ := hF
    have f1 : a.tmps.getD 1 undef = .pointer (some ⟨w2.heap.size, 0, none⟩) := f1
    have f13 : a.tmps.getD 13 undef = .bool true := f13
    refine rely_wp (rely_guard f13) ?_
    exact opr_load_hash rfl f1 (hT.row r3) (hK _ _ (NewT.refl _) rfl)
  · -- 6: Op.call ( value (Operand.func 29), args := #[t14, t15], argT
    intro a wx hT hF K hK
    obtain ⟨f14, f15, f13, _⟩ := hF
    have f14 : a.tmps.getD 14 undef = .agg (rowA 32 (bF D0)) := f14
    have f15 : a.tmps.getD 15 undef = .agg (rowA 32 (bF D0)) := f15
    have f13 : a.tmps.getD 13 undef = .bool true := f13
    refine rely_wp (rely_guard f13) ?_
    exact opr_cv (eqH_same D0 ▸ Equal_cv D0 D0 wx) rfl Tryd.func29 (by kernel_rfl) (by kernel_rfl) (by simp only [List.map_toArray, List.map_cons, List.map_nil, eval_tmp, f14, f15]) hK
  · -- 7: Op.pick t13 t16 (const (Value.bool false))
    intro a wx hT hF K hK
    obtain ⟨f13, f16, _⟩ := hF
    have f13 : a.tmps.getD 13 undef = .bool true := f13
    have f16 : a.tmps.getD 16 undef = .bool true := f16
    refine rely_wp rfl ?_
    exact opr_pick_true rfl f13 (hK _ _ (NewT.refl _) f16)
  · -- 8: Op.move t17
    intro a wx hT hF K hK
    obtain ⟨f17, _⟩ := hF
    have f17 : a.tmps.getD 17 undef = .bool true := f17
    refine rely_wp rfl ?_
    exact opr_move (.inl rfl) (hK _ _ (NewT.refl _) f17)
  · -- 9: Op.load 31 t1
    intro a wx hT hF K hK
    obtain ⟨f1, f18, _⟩ := hF
    have f1 : a.tmps.getD 1 undef = .pointer (some ⟨w2.heap.size, 0, none⟩) := f1
    have f18 : a.tmps.getD 18 undef = .bool true := f18
    refine rely_wp (rely_guard f18) ?_
    exact opr_load_hash rfl f1 (hT.row r3) (hK _ _ (NewT.refl _) rfl)
  · -- 10: Op.build 31 #[]
    intro a wx hT hF K hK
    obtain ⟨f18, _⟩ := hF
    have f18 : a.tmps.getD 18 undef = .bool true := f18
    refine rely_wp (rely_guard f18) ?_
    simp only [Array.getD_eq_getD_getElem?] at f18
    go_simp
    exact hK _ _ (NewT.refl _) rfl
  · -- 11: Op.call ( value (Operand.func 29), args := #[t19, t20], argT
    intro a wx hT hF K hK
    obtain ⟨f19, f20, f18, _⟩ := hF
    have f19 : a.tmps.getD 19 undef = .agg (rowA 32 (bF D0)) := f19
    have f20 : a.tmps.getD 20 undef = .agg (rowA 32 (bF fun _ => 0)) := f20
    have f18 : a.tmps.getD 18 undef = .bool true := f18
    refine rely_wp (rely_guard f18) ?_
    exact opr_cv (H0.out ▸ Equal_cv D0 (fun _ => 0) wx) rfl Tryd.func29 (by kernel_rfl) (by kernel_rfl) (by simp only [List.map_toArray, List.map_cons, List.map_nil, eval_tmp, f19, f20]) hK
  · -- 12: Op.unOp UnOp.not 4 t21
    intro a wx hT hF K hK
    obtain ⟨f21, f18, _⟩ := hF
    have f21 : a.tmps.getD 21 undef = .bool false := f21
    have f18 : a.tmps.getD 18 undef = .bool true := f18
    refine rely_wp (rely_guard f18) ?_
    simp only [Array.getD_eq_getD_getElem?] at f21
    simp only [Array.getD_eq_getD_getElem?] at f18
    go_simp
    exact hK _ _ (NewT.refl _) rfl
  · -- 13: Op.pick t18 t22 (const (Value.bool false))
    intro a wx hT hF K hK
    obtain ⟨f18, f22, _⟩ := hF
    have f18 : a.tmps.getD 18 undef = .bool true := f18
    have f22 : a.tmps.getD 22 undef = .bool true := f22
    refine rely_wp rfl ?_
    exact opr_pick_true rfl f18 (hK _ _ (NewT.refl _) f22)
  · -- 14: Op.move t23
    intro a wx hT hF K hK
    obtain ⟨f23, _⟩ := hF
    have f23 : a.tmps.getD 23 undef = .bool true := f23
    refine rely_wp rfl ?_
    exact opr_move (.inl rfl) (hK _ _ (NewT.refl _) f23)
  · -- 15: Op.buildSlice 41 1 #[(0, const (Value.slice none 0 0))]
    intro a wx hT hF K hK
    obtain ⟨f24, _⟩ := hF
    have f24 : a.tmps.getD 24 undef = .bool true := f24
    refine rely_wp (rely_guard f24) ?_
    exact opr_bs1 rfl (rd_nil _ _) hK
  · -- 16: Op.call ( value (Operand.func 30), args := #[const (1:i64), 
    intro a wx hT hF K hK
    obtain ⟨f25, f24, _⟩ := hF
    replace f25 := show (svParts [[]]).pred (a.tmps.getD 25 undef) wx from f25
    have f24 : a.tmps.getD 24 undef = .bool true := f24
    refine rely_wp (rely_guard f24) ?_
    exact opr_cv (Of_cv 1 _ [[]] D1 wx (hT.tables T2.out) f25 (by decide) (by decide) HD1.out) rfl Tryd.func30 (by kernel_rfl) (by kernel_rfl) (by simp only [List.map_toArray, List.map_cons, List.map_nil, eval_tmp, eval_const]) hK
  · -- 17: Op.buildSlice 41 1 #[(0, const (Value.slice none 0 0))]
    intro a wx hT hF K hK
    obtain ⟨f24, _⟩ := hF
    have f24 : a.tmps.getD 24 undef = .bool true := f24
    refine rely_wp (rely_guard f24) ?_
    exact opr_bs1 rfl (rd_nil _ _) hK
  · -- 18: Op.call ( value (Operand.func 30), args := #[const (2:i64), 
    intro a wx hT hF K hK
    obtain ⟨f27, f24, _⟩ := hF
    replace f27 := show (svParts [[]]).pred (a.tmps.getD 27 undef) wx from f27
    have f24 : a.tmps.getD 24 undef = .bool true := f24
    refine rely_wp (rely_guard f24) ?_
    exact opr_cv (Of_cv 2 _ [[]] D2 wx (hT.tables T2.out) f27 (by decide) (by decide) HD2.out) rfl Tryd.func30 (by kernel_rfl) (by kernel_rfl) (by simp only [List.map_toArray, List.map_cons, List.map_nil, eval_tmp, eval_const]) hK
  · -- 19: Op.binOp BinOp.neq 31 t26 t28 31
    intro a wx hT hF K hK
    obtain ⟨f26, f28, f24, _⟩ := hF
    have f26 : a.tmps.getD 26 undef = .agg (rowA 32 (bF D1)) := f26
    have f28 : a.tmps.getD 28 undef = .agg (rowA 32 (bF D2)) := f28
    have f24 : a.tmps.getD 24 undef = .bool true := f24
    refine rely_wp (rely_guard f24) ?_
    exact opr_neq_hash rfl f26 f28 (by rw [H1.out]; rfl) (hK _ _ (NewT.refl _) rfl)
  · -- 20: Op.pick t24 t29 (const (Value.bool false))
    intro a wx hT hF K hK
    obtain ⟨f24, f29, _⟩ := hF
    have f24 : a.tmps.getD 24 undef = .bool true := f24
    have f29 : a.tmps.getD 29 undef = .bool true := f29
    refine rely_wp rfl ?_
    exact opr_pick_true rfl f24 (hK _ _ (NewT.refl _) f29)
  · -- 21: Op.move t30
    intro a wx hT hF K hK
    obtain ⟨f30, _⟩ := hF
    have f30 : a.tmps.getD 30 undef = .bool true := f30
    refine rely_wp rfl ?_
    exact opr_move (.inl rfl) (hK _ _ (NewT.refl _) f30)
  · -- 22: Op.load 31 t1
    intro a wx hT hF K hK
    obtain ⟨f1, f31, _⟩ := hF
    have f1 : a.tmps.getD 1 undef = .pointer (some ⟨w2.heap.size, 0, none⟩) := f1
    have f31 : a.tmps.getD 31 undef = .bool true := f31
    refine rely_wp (rely_guard f31) ?_
    exact opr_load_hash rfl f1 (hT.row r3) (hK _ _ (NewT.refl _) rfl)
  · -- 23: Op.buildSlice 47 1 #[(0, const (1:i64))]
    intro a wx hT hF K hK
    obtain ⟨f31, _⟩ := hF
    have f31 : a.tmps.getD 31 undef = .bool true := f31
    refine rely_wp (rely_guard f31) ?_
    exact opr_bsi1 rfl rfl hK
  · -- 24: Op.call ( value (Operand.func 32), args := #[t32, t33], argT
    intro a wx hT hF K hK
    obtain ⟨f32, f33, f31, _⟩ := hF
    have f32 : a.tmps.getD 32 undef = .agg (rowA 32 (bF D0)) := f32
    replace f33 := show (svInts [1]).pred (a.tmps.getD 33 undef) wx from f33
    have f31 : a.tmps.getD 31 undef = .bool true := f31
    refine rely_wp (rely_guard f31) ?_
    exact opr_cv (Key_cv D0 _ [1] E1 wx (hT.tables T2.out) f33 (by decide) HE1.out) rfl Tryd.func32 (by kernel_rfl) (by kernel_rfl) (by simp only [List.map_toArray, List.map_cons, List.map_nil, eval_tmp, f32]) hK
  · -- 25: Op.load 31 t1
    intro a wx hT hF K hK
    obtain ⟨f1, f31, _⟩ := hF
    have f1 : a.tmps.getD 1 undef = .pointer (some ⟨w2.heap.size, 0, none⟩) := f1
    have f31 : a.tmps.getD 31 undef = .bool true := f31
    refine rely_wp (rely_guard f31) ?_
    exact opr_load_hash rfl f1 (hT.row r3) (hK _ _ (NewT.refl _) rfl)
  · -- 26: Op.buildSlice 47 1 #[(0, const (2:i64))]
    intro a wx hT hF K hK
    obtain ⟨f31, _⟩ := hF
    have f31 : a.tmps.getD 31 undef = .bool true := f31
    refine rely_wp (rely_guard f31) ?_
    exact opr_bsi1 rfl rfl hK
  · -- 27: Op.call ( value (Operand.func 32), args := #[t35, t36], argT
    intro a wx hT hF K hK
    obtain ⟨f35, f36, f31, _⟩ := hF
    have f35 : a.tmps.getD 35 undef = .agg (rowA 32 (bF D0)) := f35
    replace f36 := show (svInts [2]).pred (a.tmps.getD 36 undef) wx from f36
    have f31 : a.tmps.getD 31 undef = .bool true := f31
    refine rely_wp (rely_guard f31) ?_
    exact opr_cv (Key_cv D0 _ [2] E2 wx (hT.tables T2.out) f36 (by decide) HE2.out) rfl Tryd.func32 (by kernel_rfl) (by kernel_rfl) (by simp only [List.map_toArray, List.map_cons, List.map_nil, eval_tmp, f35]) hK
  · -- 28: Op.binOp BinOp.neq 31 t34 t37 31
    intro a wx hT hF K hK
    obtain ⟨f34, f37, f31, _⟩ := hF
    have f34 : a.tmps.getD 34 undef = .agg (rowA 32 (bF E1)) := f34
    have f37 : a.tmps.getD 37 undef = .agg (rowA 32 (bF E2)) := f37
    have f31 : a.tmps.getD 31 undef = .bool true := f31
    refine rely_wp (rely_guard f31) ?_
    exact opr_neq_hash rfl f34 f37 (by rw [H2.out]; rfl) (hK _ _ (NewT.refl _) rfl)
  · -- 29: Op.pick t31 t38 (const (Value.bool false))
    intro a wx hT hF K hK
    obtain ⟨f31, f38, _⟩ := hF
    have f31 : a.tmps.getD 31 undef = .bool true := f31
    have f38 : a.tmps.getD 38 undef = .bool true := f38
    refine rely_wp rfl ?_
    exact opr_pick_true rfl f31 (hK _ _ (NewT.refl _) f38)
  · intro wx hT
    intro u h; obtain rfl := h (by simp); clear h
    intro u h; obtain rfl := h (by simp); clear h
    intro u h; obtain rfl := h (by simp); clear h
    intro u h; obtain rfl := h (by simp); clear h
    intro u h; obtain rfl := h (by simp); clear h
    intro u h; obtain rfl := h (by simp); clear h
    intro u h; obtain rfl := h (by simp); clear h
    intro u h; obtain rfl := h (by simp); clear h
    intro u h; obtain rfl := h (by simp); clear h
    intro u h; obtain rfl := h (by simp); clear h
    intro u h; obtain rfl := h (by simp); clear h
    intro u h; obtain rfl := h (by simp); clear h
    intro u h; obtain rfl := h (by simp); clear h
    intro u h; obtain rfl := h (by simp); clear h
    intro u h; obtain rfl := h (by simp); clear h
    intro u25 h; have g25 := h (by simp); clear h; replace g25 := show (svParts [[]]).pred u25 wx from g25
    intro u h; obtain rfl := h (by simp); clear h
    intro u27 h; have g27 := h (by simp); clear h; replace g27 := show (svParts [[]]).pred u27 wx from g27
    intro u h; obtain rfl := h (by simp); clear h
    intro u h; obtain rfl := h (by simp); clear h
    intro u h; obtain rfl := h (by simp); clear h
    intro u h; obtain rfl := h (by simp); clear h
    intro u h; obtain rfl := h (by simp); clear h
    intro u33 h; have g33 := h (by simp); clear h; replace g33 := show (svInts [1]).pred u33 wx from g33
    intro u h; obtain rfl := h (by simp); clear h
    intro u h; obtain rfl := h (by simp); clear h
    intro u36 h; have g36 := h (by simp); clear h; replace g36 := show (svInts [2]).pred u36 wx from g36
    intro u h; obtain rfl := h (by simp); clear h
    intro u h; obtain rfl := h (by simp); clear h
    intro u h; obtain rfl := h (by simp); clear h
    refine relyEnd_nil rfl ?_
    simp only [Act.put, List.setIfInBounds_toArray, List.set_cons_zero, List.set_cons_succ]
    refine opr_move (.inr rfl) ?_
    go_simp
    go_wp2
    go_ret
    exact ⟨rfl, (NewT.trans _ _ _ hB hT).out⟩
end Go.Proofs.YtpoebajpmkcjdaaDoor
