/- Package rec: Same; the reference's Same. -/
import Derived.Test.YthgblcpekhiphaaDoorMc
import Derived.Test.YthgblcpekhiphaaDoorMb
import Derived.Test.YthgblcpekhiphaaDoorMa
namespace Go.Proofs.YthgblcpekhiphaaDoor
open Go Go.RowKit
set_option maxRecDepth 8000
set_option maxHeartbeats 2000000 in
theorem Same_cv (v1 v2 : Value) (x y : Rc) (w : World) (h1 : RecV w v1 x) (h2 : RecV w v2 y) : Cv 18 #[v1, v2] w (.eq (.bool (sameB x y))) := by
  obtain ⟨sv, dv, rfl, hs, hd⟩ := h1
  obtain ⟨su, du, rfl, hu, he⟩ := h2
  unfold Cv
  go_enter Tryd.func18, Tryd.ntmps18
  go_upto_region 1 with fail
  have r1 := (rowIs_box w 27 109 (recF x sv dv)).alloc (.cells (rowA 109 (recF y su du)) 27)
  have r2 := rowIs_box (w.alloc (.cells (rowA 109 (recF x sv dv)) 27)) 27 109 (recF y su du)
  have hN : NewT w ((w.alloc (.cells (rowA 109 (recF x sv dv)) 27)).alloc (.cells (rowA 109 (recF y su du)) 27)) := NewT.trans _ _ _ (NewT.alloc _ _) (NewT.alloc _ _)
  rw [World.size_alloc] at r2
  change Code.wp _ _ _ _ ((w.alloc (.cells (rowA 109 (recF x sv dv)) 27)).alloc (.cells (rowA 109 (recF y su du)) 27))
  generalize (w.alloc (.cells (rowA 109 (recF x sv dv)) 27)).alloc (.cells (rowA 109 (recF y su du)) 27) = W0 at r1 r2 hN ⊢
  have HS := Lib.hid (hN.pairs hs)
  have HD := Lib.hid (hN.rd hd)
  have HU := Lib.hid (hN.pairs hu)
  have HE := Lib.hid (hN.rd he)
  have R1 := Lib.hid r1
  have R2 := Lib.hid r2
  have HN := Lib.hid hN
  clear hs hd hu he r1 r2 hN
  obtain ⟨q1_1, Q1_1⟩ : ∃ q, ((x.kind == y.kind) && (x.saga == y.saga)) = q := ⟨_, rfl⟩
  obtain ⟨q2_1, Q2_1⟩ : ∃ q, ((q1_1 && (x.seq == y.seq)) && (x.step == y.step)) = q := ⟨_, rfl⟩
  obtain ⟨q3_1, Q3_1⟩ : ∃ q, ((q2_1 && (x.tr == y.tr)) && (x.back == y.back)) = q := ⟨_, rfl⟩
  obtain ⟨q4_1, Q4_1⟩ : ∃ q, ((q3_1 && (x.good == y.good)) && (x.nd == y.nd)) = q := ⟨_, rfl⟩
  obtain ⟨q5_1, Q5_1⟩ : ∃ q, ((q4_1 && (x.part == y.part)) && (x.epoch == y.epoch)) = q := ⟨_, rfl⟩
  obtain ⟨q6_1, Q6_1⟩ : ∃ q, ((q5_1 && (eqH (x.tag) (y.tag))) && (decide (x.steps = y.steps))) = q := ⟨_, rfl⟩
  obtain ⟨q7_1, Q7_1⟩ : ∃ q, (q6_1 && (decide (x.data = y.data))) = q := ⟨_, rfl⟩
  obtain ⟨q8_1, Q8_1⟩ : ∃ q, (q7_1 && (eqH (x.salt) (y.salt))) = q := ⟨_, rfl⟩
  obtain ⟨q9_1, Q9_1⟩ : ∃ q, ((q8_1 && (x.gone == y.gone)) && (eqH (x.com) (y.com))) = q := ⟨_, rfl⟩
  refine wp_region_steps0 NewT [SV.eq (.pointer (some ⟨w.heap.size, 0, none⟩)), SV.eq (.int .i64 (x.kind)), SV.eq (.pointer (some ⟨w.heap.size + 1, 0, none⟩)), SV.eq (.int .i64 (y.kind)), SV.eq (.bool (x.kind == y.kind)), SV.eq (.bool (x.kind == y.kind)), svIf (x.kind == y.kind) (SV.eq (.pointer (some ⟨w.heap.size, 1, none⟩))), svIf (x.kind == y.kind) (SV.eq (.int .i64 (x.saga))), svIf (x.kind == y.kind) (SV.eq (.pointer (some ⟨w.heap.size + 1, 1, none⟩))), svIf (x.kind == y.kind) (SV.eq (.int .i64 (y.saga))), svIf (x.kind == y.kind) (SV.eq (.bool (x.saga == y.saga))), SV.eq (.bool (q1_1)), SV.eq (.bool (q1_1)), svIf q1_1 (SV.eq (.pointer (some ⟨w.heap.size, 2, none⟩))), svIf q1_1 (SV.eq (.int .i64 (x.seq))), svIf q1_1 (SV.eq (.pointer (some ⟨w.heap.size + 1, 2, none⟩))), svIf q1_1 (SV.eq (.int .i64 (y.seq))), svIf q1_1 (SV.eq (.bool (x.seq == y.seq))), SV.eq (.bool (q1_1 && (x.seq == y.seq))), SV.eq (.bool (q1_1 && (x.seq == y.seq))), svIf (q1_1 && (x.seq == y.seq)) (SV.eq (.pointer (some ⟨w.heap.size, 3, none⟩))), svIf (q1_1 && (x.seq == y.seq)) (SV.eq (.int .i64 (x.step))), svIf (q1_1 && (x.seq == y.seq)) (SV.eq (.pointer (some ⟨w.heap.size + 1, 3, none⟩))), svIf (q1_1 && (x.seq == y.seq)) (SV.eq (.int .i64 (y.step))), svIf (q1_1 && (x.seq == y.seq)) (SV.eq (.bool (x.step == y.step))), SV.eq (.bool (q2_1)), SV.eq (.bool (q2_1)), svIf q2_1 (SV.eq (.pointer (some ⟨w.heap.size, 4, none⟩))), svIf q2_1 (SV.eq (.int .i64 (x.tr))), svIf q2_1 (SV.eq (.pointer (some ⟨w.heap.size + 1, 4, none⟩))), svIf q2_1 (SV.eq (.int .i64 (y.tr))), svIf q2_1 (SV.eq (.bool (x.tr == y.tr))), SV.eq (.bool (q2_1 && (x.tr == y.tr))), SV.eq (.bool (q2_1 && (x.tr == y.tr))), svIf (q2_1 && (x.tr == y.tr)) (SV.eq (.pointer (some ⟨w.heap.size, 5, none⟩))), svIf (q2_1 && (x.tr == y.tr)) (SV.eq (.bool (x.back))), svIf (q2_1 && (x.tr == y.tr)) (SV.eq (.pointer (some ⟨w.heap.size + 1, 5, none⟩))), svIf (q2_1 && (x.tr == y.tr)) (SV.eq (.bool (y.back))), svIf (q2_1 && (x.tr == y.tr)) (SV.eq (.bool (x.back == y.back))), SV.eq (.bool (q3_1)), SV.eq (.bool (q3_1)), svIf q3_1 (SV.eq (.pointer (some ⟨w.heap.size, 6, none⟩))), svIf q3_1 (SV.eq (.bool (x.good))), svIf q3_1 (SV.eq (.pointer (some ⟨w.heap.size + 1, 6, none⟩))), svIf q3_1 (SV.eq (.bool (y.good))), svIf q3_1 (SV.eq (.bool (x.good == y.good))), SV.eq (.bool (q3_1 && (x.good == y.good))), SV.eq (.bool (q3_1 && (x.good == y.good))), svIf (q3_1 && (x.good == y.good)) (SV.eq (.pointer (some ⟨w.heap.size, 7, none⟩))), svIf (q3_1 && (x.good == y.good)) (SV.eq (.int .i64 (x.nd))), svIf (q3_1 && (x.good == y.good)) (SV.eq (.pointer (some ⟨w.heap.size + 1, 7, none⟩))), svIf (q3_1 && (x.good == y.good)) (SV.eq (.int .i64 (y.nd))), svIf (q3_1 && (x.good == y.good)) (SV.eq (.bool (x.nd == y.nd))), SV.eq (.bool (q4_1)), SV.eq (.bool (q4_1)), svIf q4_1 (SV.eq (.pointer (some ⟨w.heap.size, 8, none⟩))), svIf q4_1 (SV.eq (.int .i64 (x.part))), svIf q4_1 (SV.eq (.pointer (some ⟨w.heap.size + 1, 8, none⟩))), svIf q4_1 (SV.eq (.int .i64 (y.part))), svIf q4_1 (SV.eq (.bool (x.part == y.part))), SV.eq (.bool (q4_1 && (x.part == y.part))), SV.eq (.bool (q4_1 && (x.part == y.part))), svIf (q4_1 && (x.part == y.part)) (SV.eq (.pointer (some ⟨w.heap.size, 9, none⟩))), svIf (q4_1 && (x.part == y.part)) (SV.eq (.int .i64 (x.epoch))), svIf (q4_1 && (x.part == y.part)) (SV.eq (.pointer (some ⟨w.heap.size + 1, 9, none⟩))), svIf (q4_1 && (x.part == y.part)) (SV.eq (.int .i64 (y.epoch))), svIf (q4_1 && (x.part == y.part)) (SV.eq (.bool (x.epoch == y.epoch))), SV.eq (.bool (q5_1)), SV.eq (.bool (q5_1)), svIf q5_1 (SV.eq (.pointer (some ⟨w.heap.size, 10, none⟩))), svIf q5_1 (SV.eq (.agg (rowA 32 (bF (x.tag))))), svIf q5_1 (SV.eq (.pointer (some ⟨w.heap.size + 1, 10, none⟩))), svIf q5_1 (SV.eq (.agg (rowA 32 (bF (y.tag))))), svIf q5_1 (SV.eq (.bool (eqH (x.tag) (y.tag)))), SV.eq (.bool (q5_1 && (eqH (x.tag) (y.tag)))), SV.eq (.bool (q5_1 && (eqH (x.tag) (y.tag)))), svIf (q5_1 && (eqH (x.tag) (y.tag))) (SV.eq (.pointer (some ⟨w.heap.size, 42, none⟩))), svIf (q5_1 && (eqH (x.tag) (y.tag))) (SV.eq (sv)), svIf (q5_1 && (eqH (x.tag) (y.tag))) (SV.eq (.pointer (some ⟨w.heap.size + 1, 42, none⟩))), svIf (q5_1 && (eqH (x.tag) (y.tag))) (SV.eq (su)), svIf (q5_1 && (eqH (x.tag) (y.tag))) (SV.eq (.bool (decide (x.steps = y.steps)))), SV.eq (.bool (q6_1)), SV.eq (.bool (q6_1)), svIf q6_1 (SV.eq (.pointer (some ⟨w.heap.size, 43, none⟩))), svIf q6_1 (SV.eq (dv)), svIf q6_1 (SV.eq (.pointer (some ⟨w.heap.size + 1, 43, none⟩))), svIf q6_1 (SV.eq (du)), svIf q6_1 (SV.eq (.bool (decide (x.data = y.data)))), SV.eq (.bool (q7_1)), SV.eq (.bool (q7_1)), svIf q7_1 (SV.eq (.pointer (some ⟨w.heap.size, 44, none⟩))), svIf q7_1 (SV.eq (.agg (rowA 32 (bF (x.salt))))), svIf q7_1 (SV.eq (.pointer (some ⟨w.heap.size + 1, 44, none⟩))), svIf q7_1 (SV.eq (.agg (rowA 32 (bF (y.salt))))), svIf q7_1 (SV.eq (.bool (eqH (x.salt) (y.salt)))), SV.eq (.bool (q8_1)), SV.eq (.bool (q8_1)), svIf q8_1 (SV.eq (.pointer (some ⟨w.heap.size, 76, none⟩))), svIf q8_1 (SV.eq (.bool (x.gone))), svIf q8_1 (SV.eq (.pointer (some ⟨w.heap.size + 1, 76, none⟩))), svIf q8_1 (SV.eq (.bool (y.gone))), svIf q8_1 (SV.eq (.bool (x.gone == y.gone))), SV.eq (.bool (q8_1 && (x.gone == y.gone))), SV.eq (.bool (q8_1 && (x.gone == y.gone))), svIf (q8_1 && (x.gone == y.gone)) (SV.eq (.pointer (some ⟨w.heap.size, 77, none⟩))), svIf (q8_1 && (x.gone == y.gone)) (SV.eq (.agg (rowA 32 (bF (x.com))))), svIf (q8_1 && (x.gone == y.gone)) (SV.eq (.pointer (some ⟨w.heap.size + 1, 77, none⟩))), svIf (q8_1 && (x.gone == y.gone)) (SV.eq (.agg (rowA 32 (bF (y.com))))), svIf (q8_1 && (x.gone == y.gone)) (SV.eq (.bool (eqH (x.com) (y.com)))), SV.eq (.bool (q9_1))] [([(2, none)], none), ([(5, some 0)], none), ([(3, none)], none), ([(7, some 2)], none), ([(6, some 1), (8, some 3)], none), ([(9, some 4)], none), ([(2, none), (10, some 5)], some (10, true)), ([(11, some 6), (10, some 5)], some (10, true)), ([(3, none), (10, some 5)], some (10, true)), ([(13, some 8), (10, some 5)], some (10, true)), ([(12, some 7), (14, some 9), (10, some 5)], some (10, true)), ([(10, some 5), (15, some 10)], none), ([(16, some 11)], none), ([(2, none), (17, some 12)], some (17, true)), ([(18, some 13), (17, some 12)], some (17, true)), ([(3, none), (17, some 12)], some (17, true)), ([(20, some 15), (17, some 12)], some (17, true)), ([(19, some 14), (21, some 16), (17, some 12)], some (17, true)), ([(17, some 12), (22, some 17)], none), ([(23, some 18)], none), ([(2, none), (24, some 19)], some (24, true)), ([(25, some 20), (24, some 19)], some (24, true)), ([(3, none), (24, some 19)], some (24, true)), ([(27, some 22), (24, some 19)], some (24, true)), ([(26, some 21), (28, some 23), (24, some 19)], some (24, true)), ([(24, some 19), (29, some 24)], none), ([(30, some 25)], none), ([(2, none), (31, some 26)], some (31, true)), ([(32, some 27), (31, some 26)], some (31, true)), ([(3, none), (31, some 26)], some (31, true)), ([(34, some 29), (31, some 26)], some (31, true)), ([(33, some 28), (35, some 30), (31, some 26)], some (31, true)), ([(31, some 26), (36, some 31)], none), ([(37, some 32)], none), ([(2, none), (38, some 33)], some (38, true)), ([(39, some 34), (38, some 33)], some (38, true)), ([(3, none), (38, some 33)], some (38, true)), ([(41, some 36), (38, some 33)], some (38, true)), ([(40, some 35), (42, some 37), (38, some 33)], some (38, true)), ([(38, some 33), (43, some 38)], none), ([(44, some 39)], none), ([(2, none), (45, some 40)], some (45, true)), ([(46, some 41), (45, some 40)], some (45, true)), ([(3, none), (45, some 40)], some (45, true)), ([(48, some 43), (45, some 40)], some (45, true)), ([(47, some 42), (49, some 44), (45, some 40)], some (45, true)), ([(45, some 40), (50, some 45)], none), ([(51, some 46)], none), ([(2, none), (52, some 47)], some (52, true)), ([(53, some 48), (52, some 47)], some (52, true)), ([(3, none), (52, some 47)], some (52, true)), ([(55, some 50), (52, some 47)], some (52, true)), ([(54, some 49), (56, some 51), (52, some 47)], some (52, true)), ([(52, some 47), (57, some 52)], none), ([(58, some 53)], none), ([(2, none), (59, some 54)], some (59, true)), ([(60, some 55), (59, some 54)], some (59, true)), ([(3, none), (59, some 54)], some (59, true)), ([(62, some 57), (59, some 54)], some (59, true)), ([(61, some 56), (63, some 58), (59, some 54)], some (59, true)), ([(59, some 54), (64, some 59)], none), ([(65, some 60)], none), ([(2, none), (66, some 61)], some (66, true)), ([(67, some 62), (66, some 61)], some (66, true)), ([(3, none), (66, some 61)], some (66, true)), ([(69, some 64), (66, some 61)], some (66, true)), ([(68, some 63), (70, some 65), (66, some 61)], some (66, true)), ([(66, some 61), (71, some 66)], none), ([(72, some 67)], none), ([(2, none), (73, some 68)], some (73, true)), ([(74, some 69), (73, some 68)], some (73, true)), ([(3, none), (73, some 68)], some (73, true)), ([(76, some 71), (73, some 68)], some (73, true)), ([(75, some 70), (77, some 72), (73, some 68)], some (73, true)), ([(73, some 68), (78, some 73)], none), ([(79, some 74)], none), ([(2, none), (80, some 75)], some (80, true)), ([(81, some 76), (80, some 75)], some (80, true)), ([(3, none), (80, some 75)], some (80, true)), ([(83, some 78), (80, some 75)], some (80, true)), ([(82, some 77), (84, some 79), (80, some 75)], some (80, true)), ([(80, some 75), (85, some 80)], none), ([(86, some 81)], none), ([(2, none), (87, some 82)], some (87, true)), ([(88, some 83), (87, some 82)], some (87, true)), ([(3, none), (87, some 82)], some (87, true)), ([(90, some 85), (87, some 82)], some (87, true)), ([(89, some 84), (91, some 86), (87, some 82)], some (87, true)), ([(87, some 82), (92, some 87)], none), ([(93, some 88)], none), ([(2, none), (94, some 89)], some (94, true)), ([(95, some 90), (94, some 89)], some (94, true)), ([(3, none), (94, some 89)], some (94, true)), ([(97, some 92), (94, some 89)], some (94, true)), ([(96, some 91), (98, some 93), (94, some 89)], some (94, true)), ([(94, some 89), (99, some 94)], none), ([(100, some 95)], none), ([(2, none), (101, some 96)], some (101, true)), ([(102, some 97), (101, some 96)], some (101, true)), ([(3, none), (101, some 96)], some (101, true)), ([(104, some 99), (101, some 96)], some (101, true)), ([(103, some 98), (105, some 100), (101, some 96)], some (101, true)), ([(101, some 96), (106, some 101)], none), ([(107, some 102)], none), ([(2, none), (108, some 103)], some (108, true)), ([(109, some 104), (108, some 103)], some (108, true)), ([(3, none), (108, some 103)], some (108, true)), ([(111, some 106), (108, some 103)], some (108, true)), ([(110, some 105), (112, some 107), (108, some 103)], some (108, true)), ([(108, some 103), (113, some 108)], none)] 115 110 rfl rfl (by kernel_rfl) NewT.trans (NewT.refl _) (Nat.le_of_ble_eq_true rfl) ⟨?_, ?_, ?_, ?_, ?_, ?_, ?_, ?_, ?_, ?_, ?_, ?_, ?_, ?_, ?_, ?_, ?_, ?_, ?_, ?_, ?_, ?_, ?_, ?_, ?_, ?_, ?_, ?_, ?_, ?_, ?_, ?_, ?_, ?_, ?_, ?_, ?_, ?_, ?_, ?_, ?_, ?_, ?_, ?_, ?_, ?_, ?_, ?_, ?_, ?_, ?_, ?_, ?_, ?_, ?_, ?_, ?_, ?_, ?_, ?_, ?_, ?_, ?_, ?_, ?_, ?_, ?_, ?_, ?_, ?_, ?_, ?_, ?_, ?_, ?_, ?_, ?_, ?_, ?_, ?_, ?_, ?_, ?_, ?_, ?_, ?_, ?_, ?_, ?_, ?_, ?_, ?_, ?_, ?_, ?_, ?_, ?_, ?_, ?_, ?_, ?_, ?_, ?_, ?_, ?_, ?_, ?_, ?_, ?_, ?_, trivial⟩ ?_
  · intro a wx hT hF K hK
    obtain ⟨f2, _⟩ := hF
    have f2 : a.tmps.getD 2 undef = .pointer (some ⟨w.heap.size, 0, none⟩) := f2
    refine rely_wp rfl ?_
    exact opr_fldR (by decide) rfl f2 (hK _ _ (NewT.refl _) rfl)
  · intro a wx hT hF K hK
    obtain ⟨f5, _⟩ := hF
    have f5 : a.tmps.getD 5 undef = .pointer (some ⟨w.heap.size, 0, none⟩) := f5
    refine rely_wp rfl ?_
    exact opr_ldI (hT.row R1.out) (by decide) rfl rfl f5 (hK _ _ (NewT.refl _) rfl)
  · intro a wx hT hF K hK
    obtain ⟨f3, _⟩ := hF
    have f3 : a.tmps.getD 3 undef = .pointer (some ⟨w.heap.size + 1, 0, none⟩) := f3
    refine rely_wp rfl ?_
    exact opr_fldR (by decide) rfl f3 (hK _ _ (NewT.refl _) rfl)
  · intro a wx hT hF K hK
    obtain ⟨f7, _⟩ := hF
    have f7 : a.tmps.getD 7 undef = .pointer (some ⟨w.heap.size + 1, 0, none⟩) := f7
    refine rely_wp rfl ?_
    exact opr_ldI (hT.row R2.out) (by decide) rfl rfl f7 (hK _ _ (NewT.refl _) rfl)
  · intro a wx hT hF K hK
    obtain ⟨f6, f8, _⟩ := hF
    have f6 : a.tmps.getD 6 undef = .int .i64 (x.kind) := f6
    have f8 : a.tmps.getD 8 undef = .int .i64 (y.kind) := f8
    refine rely_wp rfl ?_
    exact opr_cmp (b := x.kind == y.kind) (.inl ⟨rfl, rfl⟩) Tryd.underlying3 rfl f6 f8 (hK _ _ (NewT.refl _) rfl)
  · intro a wx hT hF K hK
    obtain ⟨f9, _⟩ := hF
    have f9 : a.tmps.getD 9 undef = .bool (x.kind == y.kind) := f9
    refine rely_wp rfl ?_
    exact opr_move (.inl rfl) (hK _ _ (NewT.refl _) f9)
  · intro a wx hT hF K hK
    obtain ⟨f2, f10, _⟩ := hF
    have f2 : a.tmps.getD 2 undef = .pointer (some ⟨w.heap.size, 0, none⟩) := f2
    have f10 : a.tmps.getD 10 undef = .bool (x.kind == y.kind) := f10
    refine rely_if (rely_gt f10) (NewT.refl _) hK (fun hE hK => ?_)
    exact opr_fldR (by decide) rfl f2 (hK _ _ (NewT.refl _) rfl)
  · intro a wx hT hF K hK
    obtain ⟨f11, f10, _⟩ := hF
    have f11 : (x.kind == y.kind) = true → a.tmps.getD 11 undef = .pointer (some ⟨w.heap.size, 1, none⟩) := f11
    have f10 : a.tmps.getD 10 undef = .bool (x.kind == y.kind) := f10
    refine rely_if (rely_gt f10) (NewT.refl _) hK (fun hE hK => ?_)
    exact opr_ldI (hT.row R1.out) (by decide) rfl rfl (f11 hE) (hK _ _ (NewT.refl _) rfl)
  · intro a wx hT hF K hK
    obtain ⟨f3, f10, _⟩ := hF
    have f3 : a.tmps.getD 3 undef = .pointer (some ⟨w.heap.size + 1, 0, none⟩) := f3
    have f10 : a.tmps.getD 10 undef = .bool (x.kind == y.kind) := f10
    refine rely_if (rely_gt f10) (NewT.refl _) hK (fun hE hK => ?_)
    exact opr_fldR (by decide) rfl f3 (hK _ _ (NewT.refl _) rfl)
  · intro a wx hT hF K hK
    obtain ⟨f13, f10, _⟩ := hF
    have f13 : (x.kind == y.kind) = true → a.tmps.getD 13 undef = .pointer (some ⟨w.heap.size + 1, 1, none⟩) := f13
    have f10 : a.tmps.getD 10 undef = .bool (x.kind == y.kind) := f10
    refine rely_if (rely_gt f10) (NewT.refl _) hK (fun hE hK => ?_)
    exact opr_ldI (hT.row R2.out) (by decide) rfl rfl (f13 hE) (hK _ _ (NewT.refl _) rfl)
  · intro a wx hT hF K hK
    obtain ⟨f12, f14, f10, _⟩ := hF
    have f12 : (x.kind == y.kind) = true → a.tmps.getD 12 undef = .int .i64 (x.saga) := f12
    have f14 : (x.kind == y.kind) = true → a.tmps.getD 14 undef = .int .i64 (y.saga) := f14
    have f10 : a.tmps.getD 10 undef = .bool (x.kind == y.kind) := f10
    refine rely_if (rely_gt f10) (NewT.refl _) hK (fun hE hK => ?_)
    exact opr_cmp (b := x.saga == y.saga) (.inl ⟨rfl, rfl⟩) Tryd.underlying3 rfl (f12 hE) (f14 hE) (hK _ _ (NewT.refl _) rfl)
  · intro a wx hT hF K hK
    obtain ⟨f10, f15, _⟩ := hF
    have f10 : a.tmps.getD 10 undef = .bool (x.kind == y.kind) := f10
    have f15 : (x.kind == y.kind) = true → a.tmps.getD 15 undef = .bool (x.saga == y.saga) := f15
    refine rely_wp rfl ?_
    exact opr_pick_b rfl f10 (fun hb => hK _ _ (NewT.refl _) (pn_and1 Q1_1 (f15 hb) hb)) (fun hb => hK _ _ (NewT.refl _) (pn_and0 Q1_1 hb))
  · intro a wx hT hF K hK
    obtain ⟨f16, _⟩ := hF
    have f16 : a.tmps.getD 16 undef = .bool (q1_1) := f16
    refine rely_wp rfl ?_
    exact opr_move (.inl rfl) (hK _ _ (NewT.refl _) f16)
  · intro a wx hT hF K hK
    obtain ⟨f2, f17, _⟩ := hF
    have f2 : a.tmps.getD 2 undef = .pointer (some ⟨w.heap.size, 0, none⟩) := f2
    have f17 : a.tmps.getD 17 undef = .bool (q1_1) := f17
    refine rely_if (rely_gt f17) (NewT.refl _) hK (fun hE hK => ?_)
    exact opr_fldR (by decide) rfl f2 (hK _ _ (NewT.refl _) rfl)
  · intro a wx hT hF K hK
    obtain ⟨f18, f17, _⟩ := hF
    have f18 : q1_1 = true → a.tmps.getD 18 undef = .pointer (some ⟨w.heap.size, 2, none⟩) := f18
    have f17 : a.tmps.getD 17 undef = .bool (q1_1) := f17
    refine rely_if (rely_gt f17) (NewT.refl _) hK (fun hE hK => ?_)
    exact opr_ldI (hT.row R1.out) (by decide) rfl rfl (f18 hE) (hK _ _ (NewT.refl _) rfl)
  · intro a wx hT hF K hK
    obtain ⟨f3, f17, _⟩ := hF
    have f3 : a.tmps.getD 3 undef = .pointer (some ⟨w.heap.size + 1, 0, none⟩) := f3
    have f17 : a.tmps.getD 17 undef = .bool (q1_1) := f17
    refine rely_if (rely_gt f17) (NewT.refl _) hK (fun hE hK => ?_)
    exact opr_fldR (by decide) rfl f3 (hK _ _ (NewT.refl _) rfl)
  · intro a wx hT hF K hK
    obtain ⟨f20, f17, _⟩ := hF
    have f20 : q1_1 = true → a.tmps.getD 20 undef = .pointer (some ⟨w.heap.size + 1, 2, none⟩) := f20
    have f17 : a.tmps.getD 17 undef = .bool (q1_1) := f17
    refine rely_if (rely_gt f17) (NewT.refl _) hK (fun hE hK => ?_)
    exact opr_ldI (hT.row R2.out) (by decide) rfl rfl (f20 hE) (hK _ _ (NewT.refl _) rfl)
  · intro a wx hT hF K hK
    obtain ⟨f19, f21, f17, _⟩ := hF
    have f19 : q1_1 = true → a.tmps.getD 19 undef = .int .i64 (x.seq) := f19
    have f21 : q1_1 = true → a.tmps.getD 21 undef = .int .i64 (y.seq) := f21
    have f17 : a.tmps.getD 17 undef = .bool (q1_1) := f17
    refine rely_if (rely_gt f17) (NewT.refl _) hK (fun hE hK => ?_)
    exact opr_cmp (b := x.seq == y.seq) (.inl ⟨rfl, rfl⟩) Tryd.underlying3 rfl (f19 hE) (f21 hE) (hK _ _ (NewT.refl _) rfl)
  · intro a wx hT hF K hK
    obtain ⟨f17, f22, _⟩ := hF
    have f17 : a.tmps.getD 17 undef = .bool (q1_1) := f17
    have f22 : q1_1 = true → a.tmps.getD 22 undef = .bool (x.seq == y.seq) := f22
    refine rely_wp rfl ?_
    exact opr_pick_b rfl f17 (fun hb => hK _ _ (NewT.refl _) (pk_and1 (f22 hb) hb)) (fun hb => hK _ _ (NewT.refl _) (pk_and0 hb))
  · intro a wx hT hF K hK
    obtain ⟨f23, _⟩ := hF
    have f23 : a.tmps.getD 23 undef = .bool (q1_1 && (x.seq == y.seq)) := f23
    refine rely_wp rfl ?_
    exact opr_move (.inl rfl) (hK _ _ (NewT.refl _) f23)
  · intro a wx hT hF K hK
    obtain ⟨f2, f24, _⟩ := hF
    have f2 : a.tmps.getD 2 undef = .pointer (some ⟨w.heap.size, 0, none⟩) := f2
    have f24 : a.tmps.getD 24 undef = .bool (q1_1 && (x.seq == y.seq)) := f24
    refine rely_if (rely_gt f24) (NewT.refl _) hK (fun hE hK => ?_)
    exact opr_fldR (by decide) rfl f2 (hK _ _ (NewT.refl _) rfl)
  · intro a wx hT hF K hK
    obtain ⟨f25, f24, _⟩ := hF
    have f25 : (q1_1 && (x.seq == y.seq)) = true → a.tmps.getD 25 undef = .pointer (some ⟨w.heap.size, 3, none⟩) := f25
    have f24 : a.tmps.getD 24 undef = .bool (q1_1 && (x.seq == y.seq)) := f24
    refine rely_if (rely_gt f24) (NewT.refl _) hK (fun hE hK => ?_)
    exact opr_ldI (hT.row R1.out) (by decide) rfl rfl (f25 hE) (hK _ _ (NewT.refl _) rfl)
  · intro a wx hT hF K hK
    obtain ⟨f3, f24, _⟩ := hF
    have f3 : a.tmps.getD 3 undef = .pointer (some ⟨w.heap.size + 1, 0, none⟩) := f3
    have f24 : a.tmps.getD 24 undef = .bool (q1_1 && (x.seq == y.seq)) := f24
    refine rely_if (rely_gt f24) (NewT.refl _) hK (fun hE hK => ?_)
    exact opr_fldR (by decide) rfl f3 (hK _ _ (NewT.refl _) rfl)
  · intro a wx hT hF K hK
    obtain ⟨f27, f24, _⟩ := hF
    have f27 : (q1_1 && (x.seq == y.seq)) = true → a.tmps.getD 27 undef = .pointer (some ⟨w.heap.size + 1, 3, none⟩) := f27
    have f24 : a.tmps.getD 24 undef = .bool (q1_1 && (x.seq == y.seq)) := f24
    refine rely_if (rely_gt f24) (NewT.refl _) hK (fun hE hK => ?_)
    exact opr_ldI (hT.row R2.out) (by decide) rfl rfl (f27 hE) (hK _ _ (NewT.refl _) rfl)
  · intro a wx hT hF K hK
    obtain ⟨f26, f28, f24, _⟩ := hF
    have f26 : (q1_1 && (x.seq == y.seq)) = true → a.tmps.getD 26 undef = .int .i64 (x.step) := f26
    have f28 : (q1_1 && (x.seq == y.seq)) = true → a.tmps.getD 28 undef = .int .i64 (y.step) := f28
    have f24 : a.tmps.getD 24 undef = .bool (q1_1 && (x.seq == y.seq)) := f24
    refine rely_if (rely_gt f24) (NewT.refl _) hK (fun hE hK => ?_)
    exact opr_cmp (b := x.step == y.step) (.inl ⟨rfl, rfl⟩) Tryd.underlying3 rfl (f26 hE) (f28 hE) (hK _ _ (NewT.refl _) rfl)
  · intro a wx hT hF K hK
    obtain ⟨f24, f29, _⟩ := hF
    have f24 : a.tmps.getD 24 undef = .bool (q1_1 && (x.seq == y.seq)) := f24
    have f29 : (q1_1 && (x.seq == y.seq)) = true → a.tmps.getD 29 undef = .bool (x.step == y.step) := f29
    refine rely_wp rfl ?_
    exact opr_pick_b rfl f24 (fun hb => hK _ _ (NewT.refl _) (pn_and1 Q2_1 (f29 hb) hb)) (fun hb => hK _ _ (NewT.refl _) (pn_and0 Q2_1 hb))
  · intro a wx hT hF K hK
    obtain ⟨f30, _⟩ := hF
    have f30 : a.tmps.getD 30 undef = .bool (q2_1) := f30
    refine rely_wp rfl ?_
    exact opr_move (.inl rfl) (hK _ _ (NewT.refl _) f30)
  · intro a wx hT hF K hK
    obtain ⟨f2, f31, _⟩ := hF
    have f2 : a.tmps.getD 2 undef = .pointer (some ⟨w.heap.size, 0, none⟩) := f2
    have f31 : a.tmps.getD 31 undef = .bool (q2_1) := f31
    refine rely_if (rely_gt f31) (NewT.refl _) hK (fun hE hK => ?_)
    exact opr_fldR (by decide) rfl f2 (hK _ _ (NewT.refl _) rfl)
  · intro a wx hT hF K hK
    obtain ⟨f32, f31, _⟩ := hF
    have f32 : q2_1 = true → a.tmps.getD 32 undef = .pointer (some ⟨w.heap.size, 4, none⟩) := f32
    have f31 : a.tmps.getD 31 undef = .bool (q2_1) := f31
    refine rely_if (rely_gt f31) (NewT.refl _) hK (fun hE hK => ?_)
    exact opr_ldI (hT.row R1.out) (by decide) rfl rfl (f32 hE) (hK _ _ (NewT.refl _) rfl)
  · intro a wx hT hF K hK
    obtain ⟨f3, f31, _⟩ := hF
    have f3 : a.tmps.getD 3 undef = .pointer (some ⟨w.heap.size + 1, 0, none⟩) := f3
    have f31 : a.tmps.getD 31 undef = .bool (q2_1) := f31
    refine rely_if (rely_gt f31) (NewT.refl _) hK (fun hE hK => ?_)
    exact opr_fldR (by decide) rfl f3 (hK _ _ (NewT.refl _) rfl)
  · intro a wx hT hF K hK
    obtain ⟨f34, f31, _⟩ := hF
    have f34 : q2_1 = true → a.tmps.getD 34 undef = .pointer (some ⟨w.heap.size + 1, 4, none⟩) := f34
    have f31 : a.tmps.getD 31 undef = .bool (q2_1) := f31
    refine rely_if (rely_gt f31) (NewT.refl _) hK (fun hE hK => ?_)
    exact opr_ldI (hT.row R2.out) (by decide) rfl rfl (f34 hE) (hK _ _ (NewT.refl _) rfl)
  · intro a wx hT hF K hK
    obtain ⟨f33, f35, f31, _⟩ := hF
    have f33 : q2_1 = true → a.tmps.getD 33 undef = .int .i64 (x.tr) := f33
    have f35 : q2_1 = true → a.tmps.getD 35 undef = .int .i64 (y.tr) := f35
    have f31 : a.tmps.getD 31 undef = .bool (q2_1) := f31
    refine rely_if (rely_gt f31) (NewT.refl _) hK (fun hE hK => ?_)
    exact opr_cmp (b := x.tr == y.tr) (.inl ⟨rfl, rfl⟩) Tryd.underlying3 rfl (f33 hE) (f35 hE) (hK _ _ (NewT.refl _) rfl)
  · intro a wx hT hF K hK
    obtain ⟨f31, f36, _⟩ := hF
    have f31 : a.tmps.getD 31 undef = .bool (q2_1) := f31
    have f36 : q2_1 = true → a.tmps.getD 36 undef = .bool (x.tr == y.tr) := f36
    refine rely_wp rfl ?_
    exact opr_pick_b rfl f31 (fun hb => hK _ _ (NewT.refl _) (pk_and1 (f36 hb) hb)) (fun hb => hK _ _ (NewT.refl _) (pk_and0 hb))
  · intro a wx hT hF K hK
    obtain ⟨f37, _⟩ := hF
    have f37 : a.tmps.getD 37 undef = .bool (q2_1 && (x.tr == y.tr)) := f37
    refine rely_wp rfl ?_
    exact opr_move (.inl rfl) (hK _ _ (NewT.refl _) f37)
  · intro a wx hT hF K hK
    obtain ⟨f2, f38, _⟩ := hF
    have f2 : a.tmps.getD 2 undef = .pointer (some ⟨w.heap.size, 0, none⟩) := f2
    have f38 : a.tmps.getD 38 undef = .bool (q2_1 && (x.tr == y.tr)) := f38
    refine rely_if (rely_gt f38) (NewT.refl _) hK (fun hE hK => ?_)
    exact opr_fldR (by decide) rfl f2 (hK _ _ (NewT.refl _) rfl)
  · intro a wx hT hF K hK
    obtain ⟨f39, f38, _⟩ := hF
    have f39 : (q2_1 && (x.tr == y.tr)) = true → a.tmps.getD 39 undef = .pointer (some ⟨w.heap.size, 5, none⟩) := f39
    have f38 : a.tmps.getD 38 undef = .bool (q2_1 && (x.tr == y.tr)) := f38
    refine rely_if (rely_gt f38) (NewT.refl _) hK (fun hE hK => ?_)
    exact opr_ldQ (hT.row R1.out) (by decide) rfl rfl (f39 hE) (hK _ _ (NewT.refl _) rfl)
  · intro a wx hT hF K hK
    obtain ⟨f3, f38, _⟩ := hF
    have f3 : a.tmps.getD 3 undef = .pointer (some ⟨w.heap.size + 1, 0, none⟩) := f3
    have f38 : a.tmps.getD 38 undef = .bool (q2_1 && (x.tr == y.tr)) := f38
    refine rely_if (rely_gt f38) (NewT.refl _) hK (fun hE hK => ?_)
    exact opr_fldR (by decide) rfl f3 (hK _ _ (NewT.refl _) rfl)
  · intro a wx hT hF K hK
    obtain ⟨f41, f38, _⟩ := hF
    have f41 : (q2_1 && (x.tr == y.tr)) = true → a.tmps.getD 41 undef = .pointer (some ⟨w.heap.size + 1, 5, none⟩) := f41
    have f38 : a.tmps.getD 38 undef = .bool (q2_1 && (x.tr == y.tr)) := f38
    refine rely_if (rely_gt f38) (NewT.refl _) hK (fun hE hK => ?_)
    exact opr_ldQ (hT.row R2.out) (by decide) rfl rfl (f41 hE) (hK _ _ (NewT.refl _) rfl)
  · intro a wx hT hF K hK
    obtain ⟨f40, f42, f38, _⟩ := hF
    have f40 : (q2_1 && (x.tr == y.tr)) = true → a.tmps.getD 40 undef = .bool (x.back) := f40
    have f42 : (q2_1 && (x.tr == y.tr)) = true → a.tmps.getD 42 undef = .bool (y.back) := f42
    have f38 : a.tmps.getD 38 undef = .bool (q2_1 && (x.tr == y.tr)) := f38
    refine rely_if (rely_gt f38) (NewT.refl _) hK (fun hE hK => ?_)
    exact opr_eqlQ (b := x.back == y.back) (rfl) rfl (f40 hE) (f42 hE) (hK _ _ (NewT.refl _) rfl)
  · intro a wx hT hF K hK
    obtain ⟨f38, f43, _⟩ := hF
    have f38 : a.tmps.getD 38 undef = .bool (q2_1 && (x.tr == y.tr)) := f38
    have f43 : (q2_1 && (x.tr == y.tr)) = true → a.tmps.getD 43 undef = .bool (x.back == y.back) := f43
    refine rely_wp rfl ?_
    exact opr_pick_b rfl f38 (fun hb => hK _ _ (NewT.refl _) (pn_and1 Q3_1 (f43 hb) hb)) (fun hb => hK _ _ (NewT.refl _) (pn_and0 Q3_1 hb))
  · intro a wx hT hF K hK
    obtain ⟨f44, _⟩ := hF
    have f44 : a.tmps.getD 44 undef = .bool (q3_1) := f44
    refine rely_wp rfl ?_
    exact opr_move (.inl rfl) (hK _ _ (NewT.refl _) f44)
  · intro a wx hT hF K hK
    obtain ⟨f2, f45, _⟩ := hF
    have f2 : a.tmps.getD 2 undef = .pointer (some ⟨w.heap.size, 0, none⟩) := f2
    have f45 : a.tmps.getD 45 undef = .bool (q3_1) := f45
    refine rely_if (rely_gt f45) (NewT.refl _) hK (fun hE hK => ?_)
    exact opr_fldR (by decide) rfl f2 (hK _ _ (NewT.refl _) rfl)
  · intro a wx hT hF K hK
    obtain ⟨f46, f45, _⟩ := hF
    have f46 : q3_1 = true → a.tmps.getD 46 undef = .pointer (some ⟨w.heap.size, 6, none⟩) := f46
    have f45 : a.tmps.getD 45 undef = .bool (q3_1) := f45
    refine rely_if (rely_gt f45) (NewT.refl _) hK (fun hE hK => ?_)
    exact opr_ldQ (hT.row R1.out) (by decide) rfl rfl (f46 hE) (hK _ _ (NewT.refl _) rfl)
  · intro a wx hT hF K hK
    obtain ⟨f3, f45, _⟩ := hF
    have f3 : a.tmps.getD 3 undef = .pointer (some ⟨w.heap.size + 1, 0, none⟩) := f3
    have f45 : a.tmps.getD 45 undef = .bool (q3_1) := f45
    refine rely_if (rely_gt f45) (NewT.refl _) hK (fun hE hK => ?_)
    exact opr_fldR (by decide) rfl f3 (hK _ _ (NewT.refl _) rfl)
  · intro a wx hT hF K hK
    obtain ⟨f48, f45, _⟩ := hF
    have f48 : q3_1 = true → a.tmps.getD 48 undef = .pointer (some ⟨w.heap.size + 1, 6, none⟩) := f48
    have f45 : a.tmps.getD 45 undef = .bool (q3_1) := f45
    refine rely_if (rely_gt f45) (NewT.refl _) hK (fun hE hK => ?_)
    exact opr_ldQ (hT.row R2.out) (by decide) rfl rfl (f48 hE) (hK _ _ (NewT.refl _) rfl)
  · intro a wx hT hF K hK
    obtain ⟨f47, f49, f45, _⟩ := hF
    have f47 : q3_1 = true → a.tmps.getD 47 undef = .bool (x.good) := f47
    have f49 : q3_1 = true → a.tmps.getD 49 undef = .bool (y.good) := f49
    have f45 : a.tmps.getD 45 undef = .bool (q3_1) := f45
    refine rely_if (rely_gt f45) (NewT.refl _) hK (fun hE hK => ?_)
    exact opr_eqlQ (b := x.good == y.good) (rfl) rfl (f47 hE) (f49 hE) (hK _ _ (NewT.refl _) rfl)
  · intro a wx hT hF K hK
    obtain ⟨f45, f50, _⟩ := hF
    have f45 : a.tmps.getD 45 undef = .bool (q3_1) := f45
    have f50 : q3_1 = true → a.tmps.getD 50 undef = .bool (x.good == y.good) := f50
    refine rely_wp rfl ?_
    exact opr_pick_b rfl f45 (fun hb => hK _ _ (NewT.refl _) (pk_and1 (f50 hb) hb)) (fun hb => hK _ _ (NewT.refl _) (pk_and0 hb))
  · intro a wx hT hF K hK
    obtain ⟨f51, _⟩ := hF
    have f51 : a.tmps.getD 51 undef = .bool (q3_1 && (x.good == y.good)) := f51
    refine rely_wp rfl ?_
    exact opr_move (.inl rfl) (hK _ _ (NewT.refl _) f51)
  · intro a wx hT hF K hK
    obtain ⟨f2, f52, _⟩ := hF
    have f2 : a.tmps.getD 2 undef = .pointer (some ⟨w.heap.size, 0, none⟩) := f2
    have f52 : a.tmps.getD 52 undef = .bool (q3_1 && (x.good == y.good)) := f52
    refine rely_if (rely_gt f52) (NewT.refl _) hK (fun hE hK => ?_)
    exact opr_fldR (by decide) rfl f2 (hK _ _ (NewT.refl _) rfl)
  · intro a wx hT hF K hK
    obtain ⟨f53, f52, _⟩ := hF
    have f53 : (q3_1 && (x.good == y.good)) = true → a.tmps.getD 53 undef = .pointer (some ⟨w.heap.size, 7, none⟩) := f53
    have f52 : a.tmps.getD 52 undef = .bool (q3_1 && (x.good == y.good)) := f52
    refine rely_if (rely_gt f52) (NewT.refl _) hK (fun hE hK => ?_)
    exact opr_ldI (hT.row R1.out) (by decide) rfl rfl (f53 hE) (hK _ _ (NewT.refl _) rfl)
  · intro a wx hT hF K hK
    obtain ⟨f3, f52, _⟩ := hF
    have f3 : a.tmps.getD 3 undef = .pointer (some ⟨w.heap.size + 1, 0, none⟩) := f3
    have f52 : a.tmps.getD 52 undef = .bool (q3_1 && (x.good == y.good)) := f52
    refine rely_if (rely_gt f52) (NewT.refl _) hK (fun hE hK => ?_)
    exact opr_fldR (by decide) rfl f3 (hK _ _ (NewT.refl _) rfl)
  · intro a wx hT hF K hK
    obtain ⟨f55, f52, _⟩ := hF
    have f55 : (q3_1 && (x.good == y.good)) = true → a.tmps.getD 55 undef = .pointer (some ⟨w.heap.size + 1, 7, none⟩) := f55
    have f52 : a.tmps.getD 52 undef = .bool (q3_1 && (x.good == y.good)) := f52
    refine rely_if (rely_gt f52) (NewT.refl _) hK (fun hE hK => ?_)
    exact opr_ldI (hT.row R2.out) (by decide) rfl rfl (f55 hE) (hK _ _ (NewT.refl _) rfl)
  · intro a wx hT hF K hK
    obtain ⟨f54, f56, f52, _⟩ := hF
    have f54 : (q3_1 && (x.good == y.good)) = true → a.tmps.getD 54 undef = .int .i64 (x.nd) := f54
    have f56 : (q3_1 && (x.good == y.good)) = true → a.tmps.getD 56 undef = .int .i64 (y.nd) := f56
    have f52 : a.tmps.getD 52 undef = .bool (q3_1 && (x.good == y.good)) := f52
    refine rely_if (rely_gt f52) (NewT.refl _) hK (fun hE hK => ?_)
    exact opr_cmp (b := x.nd == y.nd) (.inl ⟨rfl, rfl⟩) Tryd.underlying3 rfl (f54 hE) (f56 hE) (hK _ _ (NewT.refl _) rfl)
  · intro a wx hT hF K hK
    obtain ⟨f52, f57, _⟩ := hF
    have f52 : a.tmps.getD 52 undef = .bool (q3_1 && (x.good == y.good)) := f52
    have f57 : (q3_1 && (x.good == y.good)) = true → a.tmps.getD 57 undef = .bool (x.nd == y.nd) := f57
    refine rely_wp rfl ?_
    exact opr_pick_b rfl f52 (fun hb => hK _ _ (NewT.refl _) (pn_and1 Q4_1 (f57 hb) hb)) (fun hb => hK _ _ (NewT.refl _) (pn_and0 Q4_1 hb))
  · intro a wx hT hF K hK
    obtain ⟨f58, _⟩ := hF
    have f58 : a.tmps.getD 58 undef = .bool (q4_1) := f58
    refine rely_wp rfl ?_
    exact opr_move (.inl rfl) (hK _ _ (NewT.refl _) f58)
  · intro a wx hT hF K hK
    obtain ⟨f2, f59, _⟩ := hF
    have f2 : a.tmps.getD 2 undef = .pointer (some ⟨w.heap.size, 0, none⟩) := f2
    have f59 : a.tmps.getD 59 undef = .bool (q4_1) := f59
    refine rely_if (rely_gt f59) (NewT.refl _) hK (fun hE hK => ?_)
    exact opr_fldR (by decide) rfl f2 (hK _ _ (NewT.refl _) rfl)
  · intro a wx hT hF K hK
    obtain ⟨f60, f59, _⟩ := hF
    have f60 : q4_1 = true → a.tmps.getD 60 undef = .pointer (some ⟨w.heap.size, 8, none⟩) := f60
    have f59 : a.tmps.getD 59 undef = .bool (q4_1) := f59
    refine rely_if (rely_gt f59) (NewT.refl _) hK (fun hE hK => ?_)
    exact opr_ldI (hT.row R1.out) (by decide) rfl rfl (f60 hE) (hK _ _ (NewT.refl _) rfl)
  · intro a wx hT hF K hK
    obtain ⟨f3, f59, _⟩ := hF
    have f3 : a.tmps.getD 3 undef = .pointer (some ⟨w.heap.size + 1, 0, none⟩) := f3
    have f59 : a.tmps.getD 59 undef = .bool (q4_1) := f59
    refine rely_if (rely_gt f59) (NewT.refl _) hK (fun hE hK => ?_)
    exact opr_fldR (by decide) rfl f3 (hK _ _ (NewT.refl _) rfl)
  · intro a wx hT hF K hK
    obtain ⟨f62, f59, _⟩ := hF
    have f62 : q4_1 = true → a.tmps.getD 62 undef = .pointer (some ⟨w.heap.size + 1, 8, none⟩) := f62
    have f59 : a.tmps.getD 59 undef = .bool (q4_1) := f59
    refine rely_if (rely_gt f59) (NewT.refl _) hK (fun hE hK => ?_)
    exact opr_ldI (hT.row R2.out) (by decide) rfl rfl (f62 hE) (hK _ _ (NewT.refl _) rfl)
  · intro a wx hT hF K hK
    obtain ⟨f61, f63, f59, _⟩ := hF
    have f61 : q4_1 = true → a.tmps.getD 61 undef = .int .i64 (x.part) := f61
    have f63 : q4_1 = true → a.tmps.getD 63 undef = .int .i64 (y.part) := f63
    have f59 : a.tmps.getD 59 undef = .bool (q4_1) := f59
    refine rely_if (rely_gt f59) (NewT.refl _) hK (fun hE hK => ?_)
    exact opr_cmp (b := x.part == y.part) (.inl ⟨rfl, rfl⟩) Tryd.underlying3 rfl (f61 hE) (f63 hE) (hK _ _ (NewT.refl _) rfl)
  · intro a wx hT hF K hK
    obtain ⟨f59, f64, _⟩ := hF
    have f59 : a.tmps.getD 59 undef = .bool (q4_1) := f59
    have f64 : q4_1 = true → a.tmps.getD 64 undef = .bool (x.part == y.part) := f64
    refine rely_wp rfl ?_
    exact opr_pick_b rfl f59 (fun hb => hK _ _ (NewT.refl _) (pk_and1 (f64 hb) hb)) (fun hb => hK _ _ (NewT.refl _) (pk_and0 hb))
  · intro a wx hT hF K hK
    obtain ⟨f65, _⟩ := hF
    have f65 : a.tmps.getD 65 undef = .bool (q4_1 && (x.part == y.part)) := f65
    refine rely_wp rfl ?_
    exact opr_move (.inl rfl) (hK _ _ (NewT.refl _) f65)
  · intro a wx hT hF K hK
    obtain ⟨f2, f66, _⟩ := hF
    have f2 : a.tmps.getD 2 undef = .pointer (some ⟨w.heap.size, 0, none⟩) := f2
    have f66 : a.tmps.getD 66 undef = .bool (q4_1 && (x.part == y.part)) := f66
    refine rely_if (rely_gt f66) (NewT.refl _) hK (fun hE hK => ?_)
    exact opr_fldR (by decide) rfl f2 (hK _ _ (NewT.refl _) rfl)
  · intro a wx hT hF K hK
    obtain ⟨f67, f66, _⟩ := hF
    have f67 : (q4_1 && (x.part == y.part)) = true → a.tmps.getD 67 undef = .pointer (some ⟨w.heap.size, 9, none⟩) := f67
    have f66 : a.tmps.getD 66 undef = .bool (q4_1 && (x.part == y.part)) := f66
    refine rely_if (rely_gt f66) (NewT.refl _) hK (fun hE hK => ?_)
    exact opr_ldI (hT.row R1.out) (by decide) rfl rfl (f67 hE) (hK _ _ (NewT.refl _) rfl)
  · intro a wx hT hF K hK
    obtain ⟨f3, f66, _⟩ := hF
    have f3 : a.tmps.getD 3 undef = .pointer (some ⟨w.heap.size + 1, 0, none⟩) := f3
    have f66 : a.tmps.getD 66 undef = .bool (q4_1 && (x.part == y.part)) := f66
    refine rely_if (rely_gt f66) (NewT.refl _) hK (fun hE hK => ?_)
    exact opr_fldR (by decide) rfl f3 (hK _ _ (NewT.refl _) rfl)
  · intro a wx hT hF K hK
    obtain ⟨f69, f66, _⟩ := hF
    have f69 : (q4_1 && (x.part == y.part)) = true → a.tmps.getD 69 undef = .pointer (some ⟨w.heap.size + 1, 9, none⟩) := f69
    have f66 : a.tmps.getD 66 undef = .bool (q4_1 && (x.part == y.part)) := f66
    refine rely_if (rely_gt f66) (NewT.refl _) hK (fun hE hK => ?_)
    exact opr_ldI (hT.row R2.out) (by decide) rfl rfl (f69 hE) (hK _ _ (NewT.refl _) rfl)
  · intro a wx hT hF K hK
    obtain ⟨f68, f70, f66, _⟩ := hF
    have f68 : (q4_1 && (x.part == y.part)) = true → a.tmps.getD 68 undef = .int .i64 (x.epoch) := f68
    have f70 : (q4_1 && (x.part == y.part)) = true → a.tmps.getD 70 undef = .int .i64 (y.epoch) := f70
    have f66 : a.tmps.getD 66 undef = .bool (q4_1 && (x.part == y.part)) := f66
    refine rely_if (rely_gt f66) (NewT.refl _) hK (fun hE hK => ?_)
    exact opr_cmp (b := x.epoch == y.epoch) (.inl ⟨rfl, rfl⟩) Tryd.underlying3 rfl (f68 hE) (f70 hE) (hK _ _ (NewT.refl _) rfl)
  · intro a wx hT hF K hK
    obtain ⟨f66, f71, _⟩ := hF
    have f66 : a.tmps.getD 66 undef = .bool (q4_1 && (x.part == y.part)) := f66
    have f71 : (q4_1 && (x.part == y.part)) = true → a.tmps.getD 71 undef = .bool (x.epoch == y.epoch) := f71
    refine rely_wp rfl ?_
    exact opr_pick_b rfl f66 (fun hb => hK _ _ (NewT.refl _) (pn_and1 Q5_1 (f71 hb) hb)) (fun hb => hK _ _ (NewT.refl _) (pn_and0 Q5_1 hb))
  · intro a wx hT hF K hK
    obtain ⟨f72, _⟩ := hF
    have f72 : a.tmps.getD 72 undef = .bool (q5_1) := f72
    refine rely_wp rfl ?_
    exact opr_move (.inl rfl) (hK _ _ (NewT.refl _) f72)
  · intro a wx hT hF K hK
    obtain ⟨f2, f73, _⟩ := hF
    have f2 : a.tmps.getD 2 undef = .pointer (some ⟨w.heap.size, 0, none⟩) := f2
    have f73 : a.tmps.getD 73 undef = .bool (q5_1) := f73
    refine rely_if (rely_gt f73) (NewT.refl _) hK (fun hE hK => ?_)
    exact opr_fldR (by decide) rfl f2 (hK _ _ (NewT.refl _) rfl)
  · intro a wx hT hF K hK
    obtain ⟨f74, f73, _⟩ := hF
    have f74 : q5_1 = true → a.tmps.getD 74 undef = .pointer (some ⟨w.heap.size, 10, none⟩) := f74
    have f73 : a.tmps.getD 73 undef = .bool (q5_1) := f73
    refine rely_if (rely_gt f73) (NewT.refl _) hK (fun hE hK => ?_)
    exact opr_ldH (hT.row R1.out) (by decide) (recF_tag x _ _) rfl (f74 hE) (hK _ _ (NewT.refl _) rfl)
  · intro a wx hT hF K hK
    obtain ⟨f3, f73, _⟩ := hF
    have f3 : a.tmps.getD 3 undef = .pointer (some ⟨w.heap.size + 1, 0, none⟩) := f3
    have f73 : a.tmps.getD 73 undef = .bool (q5_1) := f73
    refine rely_if (rely_gt f73) (NewT.refl _) hK (fun hE hK => ?_)
    exact opr_fldR (by decide) rfl f3 (hK _ _ (NewT.refl _) rfl)
  · intro a wx hT hF K hK
    obtain ⟨f76, f73, _⟩ := hF
    have f76 : q5_1 = true → a.tmps.getD 76 undef = .pointer (some ⟨w.heap.size + 1, 10, none⟩) := f76
    have f73 : a.tmps.getD 73 undef = .bool (q5_1) := f73
    refine rely_if (rely_gt f73) (NewT.refl _) hK (fun hE hK => ?_)
    exact opr_ldH (hT.row R2.out) (by decide) (recF_tag y _ _) rfl (f76 hE) (hK _ _ (NewT.refl _) rfl)
  · intro a wx hT hF K hK
    obtain ⟨f75, f77, f73, _⟩ := hF
    have f75 : q5_1 = true → a.tmps.getD 75 undef = .agg (rowA 32 (bF (x.tag))) := f75
    have f77 : q5_1 = true → a.tmps.getD 77 undef = .agg (rowA 32 (bF (y.tag))) := f77
    have f73 : a.tmps.getD 73 undef = .bool (q5_1) := f73
    refine rely_if (rely_gt f73) (NewT.refl _) hK (fun hE hK => ?_)
    exact opr_eql_hash (b := eqH (x.tag) (y.tag)) rfl (f75 hE) (f77 hE) (rfl) (hK _ _ (NewT.refl _) rfl)
  · intro a wx hT hF K hK
    obtain ⟨f73, f78, _⟩ := hF
    have f73 : a.tmps.getD 73 undef = .bool (q5_1) := f73
    have f78 : q5_1 = true → a.tmps.getD 78 undef = .bool (eqH (x.tag) (y.tag)) := f78
    refine rely_wp rfl ?_
    exact opr_pick_b rfl f73 (fun hb => hK _ _ (NewT.refl _) (pk_and1 (f78 hb) hb)) (fun hb => hK _ _ (NewT.refl _) (pk_and0 hb))
  · intro a wx hT hF K hK
    obtain ⟨f79, _⟩ := hF
    have f79 : a.tmps.getD 79 undef = .bool (q5_1 && (eqH (x.tag) (y.tag))) := f79
    refine rely_wp rfl ?_
    exact opr_move (.inl rfl) (hK _ _ (NewT.refl _) f79)
  · intro a wx hT hF K hK
    obtain ⟨f2, f80, _⟩ := hF
    have f2 : a.tmps.getD 2 undef = .pointer (some ⟨w.heap.size, 0, none⟩) := f2
    have f80 : a.tmps.getD 80 undef = .bool (q5_1 && (eqH (x.tag) (y.tag))) := f80
    refine rely_if (rely_gt f80) (NewT.refl _) hK (fun hE hK => ?_)
    exact opr_fldR (by decide) rfl f2 (hK _ _ (NewT.refl _) rfl)
  · intro a wx hT hF K hK
    obtain ⟨f81, f80, _⟩ := hF
    have f81 : (q5_1 && (eqH (x.tag) (y.tag))) = true → a.tmps.getD 81 undef = .pointer (some ⟨w.heap.size, 42, none⟩) := f81
    have f80 : a.tmps.getD 80 undef = .bool (q5_1 && (eqH (x.tag) (y.tag))) := f80
    refine rely_if (rely_gt f80) (NewT.refl _) hK (fun hE hK => ?_)
    exact opr_ldS (hT.row R1.out) (by decide) rfl rfl (f81 hE) (hK _ _ (NewT.refl _) rfl)
  · intro a wx hT hF K hK
    obtain ⟨f3, f80, _⟩ := hF
    have f3 : a.tmps.getD 3 undef = .pointer (some ⟨w.heap.size + 1, 0, none⟩) := f3
    have f80 : a.tmps.getD 80 undef = .bool (q5_1 && (eqH (x.tag) (y.tag))) := f80
    refine rely_if (rely_gt f80) (NewT.refl _) hK (fun hE hK => ?_)
    exact opr_fldR (by decide) rfl f3 (hK _ _ (NewT.refl _) rfl)
  · intro a wx hT hF K hK
    obtain ⟨f83, f80, _⟩ := hF
    have f83 : (q5_1 && (eqH (x.tag) (y.tag))) = true → a.tmps.getD 83 undef = .pointer (some ⟨w.heap.size + 1, 42, none⟩) := f83
    have f80 : a.tmps.getD 80 undef = .bool (q5_1 && (eqH (x.tag) (y.tag))) := f80
    refine rely_if (rely_gt f80) (NewT.refl _) hK (fun hE hK => ?_)
    exact opr_ldS (hT.row R2.out) (by decide) rfl rfl (f83 hE) (hK _ _ (NewT.refl _) rfl)
  · intro a wx hT hF K hK
    obtain ⟨f82, f84, f80, _⟩ := hF
    have f82 : (q5_1 && (eqH (x.tag) (y.tag))) = true → a.tmps.getD 82 undef = sv := f82
    have f84 : (q5_1 && (eqH (x.tag) (y.tag))) = true → a.tmps.getD 84 undef = su := f84
    have f80 : a.tmps.getD 80 undef = .bool (q5_1 && (eqH (x.tag) (y.tag))) := f80
    refine rely_if (rely_gt f80) (NewT.refl _) hK (fun hE hK => ?_)
    exact opr_cv (Equal_cv _ _ x.steps y.steps wx (hT.pairs HS.out) (hT.pairs HU.out)) rfl Tryd.func36 (by kernel_rfl) (by kernel_rfl) (by simp only [List.map_toArray, List.map_cons, List.map_nil, eval_tmp, (f82 hE), (f84 hE)]) hK
  · intro a wx hT hF K hK
    obtain ⟨f80, f85, _⟩ := hF
    have f80 : a.tmps.getD 80 undef = .bool (q5_1 && (eqH (x.tag) (y.tag))) := f80
    have f85 : (q5_1 && (eqH (x.tag) (y.tag))) = true → a.tmps.getD 85 undef = .bool (decide (x.steps = y.steps)) := f85
    refine rely_wp rfl ?_
    exact opr_pick_b rfl f80 (fun hb => hK _ _ (NewT.refl _) (pn_and1 Q6_1 (f85 hb) hb)) (fun hb => hK _ _ (NewT.refl _) (pn_and0 Q6_1 hb))
  · intro a wx hT hF K hK
    obtain ⟨f86, _⟩ := hF
    have f86 : a.tmps.getD 86 undef = .bool (q6_1) := f86
    refine rely_wp rfl ?_
    exact opr_move (.inl rfl) (hK _ _ (NewT.refl _) f86)
  · intro a wx hT hF K hK
    obtain ⟨f2, f87, _⟩ := hF
    have f2 : a.tmps.getD 2 undef = .pointer (some ⟨w.heap.size, 0, none⟩) := f2
    have f87 : a.tmps.getD 87 undef = .bool (q6_1) := f87
    refine rely_if (rely_gt f87) (NewT.refl _) hK (fun hE hK => ?_)
    exact opr_fldR (by decide) rfl f2 (hK _ _ (NewT.refl _) rfl)
  · intro a wx hT hF K hK
    obtain ⟨f88, f87, _⟩ := hF
    have f88 : q6_1 = true → a.tmps.getD 88 undef = .pointer (some ⟨w.heap.size, 43, none⟩) := f88
    have f87 : a.tmps.getD 87 undef = .bool (q6_1) := f87
    refine rely_if (rely_gt f87) (NewT.refl _) hK (fun hE hK => ?_)
    exact opr_ldB (hT.row R1.out) (by decide) rfl rfl (f88 hE) (hK _ _ (NewT.refl _) rfl)
  · intro a wx hT hF K hK
    obtain ⟨f3, f87, _⟩ := hF
    have f3 : a.tmps.getD 3 undef = .pointer (some ⟨w.heap.size + 1, 0, none⟩) := f3
    have f87 : a.tmps.getD 87 undef = .bool (q6_1) := f87
    refine rely_if (rely_gt f87) (NewT.refl _) hK (fun hE hK => ?_)
    exact opr_fldR (by decide) rfl f3 (hK _ _ (NewT.refl _) rfl)
  · intro a wx hT hF K hK
    obtain ⟨f90, f87, _⟩ := hF
    have f90 : q6_1 = true → a.tmps.getD 90 undef = .pointer (some ⟨w.heap.size + 1, 43, none⟩) := f90
    have f87 : a.tmps.getD 87 undef = .bool (q6_1) := f87
    refine rely_if (rely_gt f87) (NewT.refl _) hK (fun hE hK => ?_)
    exact opr_ldB (hT.row R2.out) (by decide) rfl rfl (f90 hE) (hK _ _ (NewT.refl _) rfl)
  · intro a wx hT hF K hK
    obtain ⟨f89, f91, f87, _⟩ := hF
    have f89 : q6_1 = true → a.tmps.getD 89 undef = dv := f89
    have f91 : q6_1 = true → a.tmps.getD 91 undef = du := f91
    have f87 : a.tmps.getD 87 undef = .bool (q6_1) := f87
    refine rely_if (rely_gt f87) (NewT.refl _) hK (fun hE hK => ?_)
    exact opr_cv (BEqual_cv _ _ x.data y.data wx (hT.rd HD.out) (hT.rd HE.out)) rfl Tryd.func37 (by kernel_rfl) (by kernel_rfl) (by simp only [List.map_toArray, List.map_cons, List.map_nil, eval_tmp, (f89 hE), (f91 hE)]) hK
  · intro a wx hT hF K hK
    obtain ⟨f87, f92, _⟩ := hF
    have f87 : a.tmps.getD 87 undef = .bool (q6_1) := f87
    have f92 : q6_1 = true → a.tmps.getD 92 undef = .bool (decide (x.data = y.data)) := f92
    refine rely_wp rfl ?_
    exact opr_pick_b rfl f87 (fun hb => hK _ _ (NewT.refl _) (pn_and1 Q7_1 (f92 hb) hb)) (fun hb => hK _ _ (NewT.refl _) (pn_and0 Q7_1 hb))
  · intro a wx hT hF K hK
    obtain ⟨f93, _⟩ := hF
    have f93 : a.tmps.getD 93 undef = .bool (q7_1) := f93
    refine rely_wp rfl ?_
    exact opr_move (.inl rfl) (hK _ _ (NewT.refl _) f93)
  · intro a wx hT hF K hK
    obtain ⟨f2, f94, _⟩ := hF
    have f2 : a.tmps.getD 2 undef = .pointer (some ⟨w.heap.size, 0, none⟩) := f2
    have f94 : a.tmps.getD 94 undef = .bool (q7_1) := f94
    refine rely_if (rely_gt f94) (NewT.refl _) hK (fun hE hK => ?_)
    exact opr_fldR (by decide) rfl f2 (hK _ _ (NewT.refl _) rfl)
  · intro a wx hT hF K hK
    obtain ⟨f95, f94, _⟩ := hF
    have f95 : q7_1 = true → a.tmps.getD 95 undef = .pointer (some ⟨w.heap.size, 44, none⟩) := f95
    have f94 : a.tmps.getD 94 undef = .bool (q7_1) := f94
    refine rely_if (rely_gt f94) (NewT.refl _) hK (fun hE hK => ?_)
    exact opr_ldH (hT.row R1.out) (by decide) (recF_salt x _ _) rfl (f95 hE) (hK _ _ (NewT.refl _) rfl)
  · intro a wx hT hF K hK
    obtain ⟨f3, f94, _⟩ := hF
    have f3 : a.tmps.getD 3 undef = .pointer (some ⟨w.heap.size + 1, 0, none⟩) := f3
    have f94 : a.tmps.getD 94 undef = .bool (q7_1) := f94
    refine rely_if (rely_gt f94) (NewT.refl _) hK (fun hE hK => ?_)
    exact opr_fldR (by decide) rfl f3 (hK _ _ (NewT.refl _) rfl)
  · intro a wx hT hF K hK
    obtain ⟨f97, f94, _⟩ := hF
    have f97 : q7_1 = true → a.tmps.getD 97 undef = .pointer (some ⟨w.heap.size + 1, 44, none⟩) := f97
    have f94 : a.tmps.getD 94 undef = .bool (q7_1) := f94
    refine rely_if (rely_gt f94) (NewT.refl _) hK (fun hE hK => ?_)
    exact opr_ldH (hT.row R2.out) (by decide) (recF_salt y _ _) rfl (f97 hE) (hK _ _ (NewT.refl _) rfl)
  · intro a wx hT hF K hK
    obtain ⟨f96, f98, f94, _⟩ := hF
    have f96 : q7_1 = true → a.tmps.getD 96 undef = .agg (rowA 32 (bF (x.salt))) := f96
    have f98 : q7_1 = true → a.tmps.getD 98 undef = .agg (rowA 32 (bF (y.salt))) := f98
    have f94 : a.tmps.getD 94 undef = .bool (q7_1) := f94
    refine rely_if (rely_gt f94) (NewT.refl _) hK (fun hE hK => ?_)
    exact opr_eql_hash (b := eqH (x.salt) (y.salt)) rfl (f96 hE) (f98 hE) (rfl) (hK _ _ (NewT.refl _) rfl)
  · intro a wx hT hF K hK
    obtain ⟨f94, f99, _⟩ := hF
    have f94 : a.tmps.getD 94 undef = .bool (q7_1) := f94
    have f99 : q7_1 = true → a.tmps.getD 99 undef = .bool (eqH (x.salt) (y.salt)) := f99
    refine rely_wp rfl ?_
    exact opr_pick_b rfl f94 (fun hb => hK _ _ (NewT.refl _) (pn_and1 Q8_1 (f99 hb) hb)) (fun hb => hK _ _ (NewT.refl _) (pn_and0 Q8_1 hb))
  · intro a wx hT hF K hK
    obtain ⟨f100, _⟩ := hF
    have f100 : a.tmps.getD 100 undef = .bool (q8_1) := f100
    refine rely_wp rfl ?_
    exact opr_move (.inl rfl) (hK _ _ (NewT.refl _) f100)
  · intro a wx hT hF K hK
    obtain ⟨f2, f101, _⟩ := hF
    have f2 : a.tmps.getD 2 undef = .pointer (some ⟨w.heap.size, 0, none⟩) := f2
    have f101 : a.tmps.getD 101 undef = .bool (q8_1) := f101
    refine rely_if (rely_gt f101) (NewT.refl _) hK (fun hE hK => ?_)
    exact opr_fldR (by decide) rfl f2 (hK _ _ (NewT.refl _) rfl)
  · intro a wx hT hF K hK
    obtain ⟨f102, f101, _⟩ := hF
    have f102 : q8_1 = true → a.tmps.getD 102 undef = .pointer (some ⟨w.heap.size, 76, none⟩) := f102
    have f101 : a.tmps.getD 101 undef = .bool (q8_1) := f101
    refine rely_if (rely_gt f101) (NewT.refl _) hK (fun hE hK => ?_)
    exact opr_ldQ (hT.row R1.out) (by decide) rfl rfl (f102 hE) (hK _ _ (NewT.refl _) rfl)
  · intro a wx hT hF K hK
    obtain ⟨f3, f101, _⟩ := hF
    have f3 : a.tmps.getD 3 undef = .pointer (some ⟨w.heap.size + 1, 0, none⟩) := f3
    have f101 : a.tmps.getD 101 undef = .bool (q8_1) := f101
    refine rely_if (rely_gt f101) (NewT.refl _) hK (fun hE hK => ?_)
    exact opr_fldR (by decide) rfl f3 (hK _ _ (NewT.refl _) rfl)
  · intro a wx hT hF K hK
    obtain ⟨f104, f101, _⟩ := hF
    have f104 : q8_1 = true → a.tmps.getD 104 undef = .pointer (some ⟨w.heap.size + 1, 76, none⟩) := f104
    have f101 : a.tmps.getD 101 undef = .bool (q8_1) := f101
    refine rely_if (rely_gt f101) (NewT.refl _) hK (fun hE hK => ?_)
    exact opr_ldQ (hT.row R2.out) (by decide) rfl rfl (f104 hE) (hK _ _ (NewT.refl _) rfl)
  · intro a wx hT hF K hK
    obtain ⟨f103, f105, f101, _⟩ := hF
    have f103 : q8_1 = true → a.tmps.getD 103 undef = .bool (x.gone) := f103
    have f105 : q8_1 = true → a.tmps.getD 105 undef = .bool (y.gone) := f105
    have f101 : a.tmps.getD 101 undef = .bool (q8_1) := f101
    refine rely_if (rely_gt f101) (NewT.refl _) hK (fun hE hK => ?_)
    exact opr_eqlQ (b := x.gone == y.gone) (rfl) rfl (f103 hE) (f105 hE) (hK _ _ (NewT.refl _) rfl)
  · intro a wx hT hF K hK
    obtain ⟨f101, f106, _⟩ := hF
    have f101 : a.tmps.getD 101 undef = .bool (q8_1) := f101
    have f106 : q8_1 = true → a.tmps.getD 106 undef = .bool (x.gone == y.gone) := f106
    refine rely_wp rfl ?_
    exact opr_pick_b rfl f101 (fun hb => hK _ _ (NewT.refl _) (pk_and1 (f106 hb) hb)) (fun hb => hK _ _ (NewT.refl _) (pk_and0 hb))
  · intro a wx hT hF K hK
    obtain ⟨f107, _⟩ := hF
    have f107 : a.tmps.getD 107 undef = .bool (q8_1 && (x.gone == y.gone)) := f107
    refine rely_wp rfl ?_
    exact opr_move (.inl rfl) (hK _ _ (NewT.refl _) f107)
  · intro a wx hT hF K hK
    obtain ⟨f2, f108, _⟩ := hF
    have f2 : a.tmps.getD 2 undef = .pointer (some ⟨w.heap.size, 0, none⟩) := f2
    have f108 : a.tmps.getD 108 undef = .bool (q8_1 && (x.gone == y.gone)) := f108
    refine rely_if (rely_gt f108) (NewT.refl _) hK (fun hE hK => ?_)
    exact opr_fldR (by decide) rfl f2 (hK _ _ (NewT.refl _) rfl)
  · intro a wx hT hF K hK
    obtain ⟨f109, f108, _⟩ := hF
    have f109 : (q8_1 && (x.gone == y.gone)) = true → a.tmps.getD 109 undef = .pointer (some ⟨w.heap.size, 77, none⟩) := f109
    have f108 : a.tmps.getD 108 undef = .bool (q8_1 && (x.gone == y.gone)) := f108
    refine rely_if (rely_gt f108) (NewT.refl _) hK (fun hE hK => ?_)
    exact opr_ldH (hT.row R1.out) (by decide) (recF_com x _ _) rfl (f109 hE) (hK _ _ (NewT.refl _) rfl)
  · intro a wx hT hF K hK
    obtain ⟨f3, f108, _⟩ := hF
    have f3 : a.tmps.getD 3 undef = .pointer (some ⟨w.heap.size + 1, 0, none⟩) := f3
    have f108 : a.tmps.getD 108 undef = .bool (q8_1 && (x.gone == y.gone)) := f108
    refine rely_if (rely_gt f108) (NewT.refl _) hK (fun hE hK => ?_)
    exact opr_fldR (by decide) rfl f3 (hK _ _ (NewT.refl _) rfl)
  · intro a wx hT hF K hK
    obtain ⟨f111, f108, _⟩ := hF
    have f111 : (q8_1 && (x.gone == y.gone)) = true → a.tmps.getD 111 undef = .pointer (some ⟨w.heap.size + 1, 77, none⟩) := f111
    have f108 : a.tmps.getD 108 undef = .bool (q8_1 && (x.gone == y.gone)) := f108
    refine rely_if (rely_gt f108) (NewT.refl _) hK (fun hE hK => ?_)
    exact opr_ldH (hT.row R2.out) (by decide) (recF_com y _ _) rfl (f111 hE) (hK _ _ (NewT.refl _) rfl)
  · intro a wx hT hF K hK
    obtain ⟨f110, f112, f108, _⟩ := hF
    have f110 : (q8_1 && (x.gone == y.gone)) = true → a.tmps.getD 110 undef = .agg (rowA 32 (bF (x.com))) := f110
    have f112 : (q8_1 && (x.gone == y.gone)) = true → a.tmps.getD 112 undef = .agg (rowA 32 (bF (y.com))) := f112
    have f108 : a.tmps.getD 108 undef = .bool (q8_1 && (x.gone == y.gone)) := f108
    refine rely_if (rely_gt f108) (NewT.refl _) hK (fun hE hK => ?_)
    exact opr_eql_hash (b := eqH (x.com) (y.com)) rfl (f110 hE) (f112 hE) (rfl) (hK _ _ (NewT.refl _) rfl)
  · intro a wx hT hF K hK
    obtain ⟨f108, f113, _⟩ := hF
    have f108 : a.tmps.getD 108 undef = .bool (q8_1 && (x.gone == y.gone)) := f108
    have f113 : (q8_1 && (x.gone == y.gone)) = true → a.tmps.getD 113 undef = .bool (eqH (x.com) (y.com)) := f113
    refine rely_wp rfl ?_
    exact opr_pick_b rfl f108 (fun hb => hK _ _ (NewT.refl _) (pn_and1 Q9_1 (f113 hb) hb)) (fun hb => hK _ _ (NewT.refl _) (pn_and0 Q9_1 hb))
  · intro wx hT
    intro u h; obtain rfl := Eq.symm (h (by simp)); clear h
    intro u h; obtain rfl := Eq.symm (h (by simp)); clear h
    intro u h; obtain rfl := Eq.symm (h (by simp)); clear h
    intro u h; obtain rfl := Eq.symm (h (by simp)); clear h
    intro u h; obtain rfl := Eq.symm (h (by simp)); clear h
    intro u h; obtain rfl := Eq.symm (h (by simp)); clear h
    intro _ _
    intro _ _
    intro _ _
    intro _ _
    intro _ _
    intro u h; obtain rfl := Eq.symm (h (by simp)); clear h
    intro u h; obtain rfl := Eq.symm (h (by simp)); clear h
    intro _ _
    intro _ _
    intro _ _
    intro _ _
    intro _ _
    intro u h; obtain rfl := Eq.symm (h (by simp)); clear h
    intro u h; obtain rfl := Eq.symm (h (by simp)); clear h
    intro _ _
    intro _ _
    intro _ _
    intro _ _
    intro _ _
    intro u h; obtain rfl := Eq.symm (h (by simp)); clear h
    intro u h; obtain rfl := Eq.symm (h (by simp)); clear h
    intro _ _
    intro _ _
    intro _ _
    intro _ _
    intro _ _
    intro u h; obtain rfl := Eq.symm (h (by simp)); clear h
    intro u h; obtain rfl := Eq.symm (h (by simp)); clear h
    intro _ _
    intro _ _
    intro _ _
    intro _ _
    intro _ _
    intro u h; obtain rfl := Eq.symm (h (by simp)); clear h
    intro u h; obtain rfl := Eq.symm (h (by simp)); clear h
    intro _ _
    intro _ _
    intro _ _
    intro _ _
    intro _ _
    intro u h; obtain rfl := Eq.symm (h (by simp)); clear h
    intro u h; obtain rfl := Eq.symm (h (by simp)); clear h
    intro _ _
    intro _ _
    intro _ _
    intro _ _
    intro _ _
    intro u h; obtain rfl := Eq.symm (h (by simp)); clear h
    intro u h; obtain rfl := Eq.symm (h (by simp)); clear h
    intro _ _
    intro _ _
    intro _ _
    intro _ _
    intro _ _
    intro u h; obtain rfl := Eq.symm (h (by simp)); clear h
    intro u h; obtain rfl := Eq.symm (h (by simp)); clear h
    intro _ _
    intro _ _
    intro _ _
    intro _ _
    intro _ _
    intro u h; obtain rfl := Eq.symm (h (by simp)); clear h
    intro u h; obtain rfl := Eq.symm (h (by simp)); clear h
    intro _ _
    intro _ _
    intro _ _
    intro _ _
    intro _ _
    intro u h; obtain rfl := Eq.symm (h (by simp)); clear h
    intro u h; obtain rfl := Eq.symm (h (by simp)); clear h
    intro _ _
    intro _ _
    intro _ _
    intro _ _
    intro _ _
    intro u h; obtain rfl := Eq.symm (h (by simp)); clear h
    intro u h; obtain rfl := Eq.symm (h (by simp)); clear h
    intro _ _
    intro _ _
    intro _ _
    intro _ _
    intro _ _
    intro u h; obtain rfl := Eq.symm (h (by simp)); clear h
    intro u h; obtain rfl := Eq.symm (h (by simp)); clear h
    intro _ _
    intro _ _
    intro _ _
    intro _ _
    intro _ _
    intro u h; obtain rfl := Eq.symm (h (by simp)); clear h
    intro u h; obtain rfl := Eq.symm (h (by simp)); clear h
    intro _ _
    intro _ _
    intro _ _
    intro _ _
    intro _ _
    intro u h; obtain rfl := Eq.symm (h (by simp)); clear h
    intro u h; obtain rfl := Eq.symm (h (by simp)); clear h
    intro _ _
    intro _ _
    intro _ _
    intro _ _
    intro _ _
    intro u h; obtain rfl := Eq.symm (h (by simp)); clear h
    subst Q9_1 Q8_1 Q7_1 Q6_1 Q5_1 Q4_1 Q3_1 Q2_1 Q1_1
    refine relyEnd_nil rfl ?_
    simp only [Act.put, List.setIfInBounds_toArray, List.set_cons_zero, List.set_cons_succ]
    refine wpList_plain rfl (fun K hK => ?_)
    refine opr_move (.inr rfl) (hK _ _ ?_)
    refine wpList_end rfl ?_
    go_simp
    go_wp2
    go_ret
    exact ⟨_, rfl, NewT.trans _ _ _ HN.out hT, rfl⟩
set_option maxHeartbeats 2000000 in
theorem RSame_cv (v1 v2 : Value) (x y : Rc) (w : World) (h1 : RecV w v1 x) (h2 : RecV w v2 y) (hl : x.data.length ≤ 1000000) (hm : y.data.length ≤ 1000000) : Cv 15 #[v1, v2] w (.eq (.bool (sameB x y))) := by
  obtain ⟨sv, dv, rfl, hs, hd⟩ := h1
  obtain ⟨su, du, rfl, hu, he⟩ := h2
  unfold Cv
  go_enter Tryd.func15, Tryd.ntmps15
  go_upto_region 1 with fail
  have r1 := (rowIs_box w 27 109 (recF x sv dv)).alloc (.cells (rowA 109 (recF y su du)) 27)
  have r2 := rowIs_box (w.alloc (.cells (rowA 109 (recF x sv dv)) 27)) 27 109 (recF y su du)
  have hN : NewT w ((w.alloc (.cells (rowA 109 (recF x sv dv)) 27)).alloc (.cells (rowA 109 (recF y su du)) 27)) := NewT.trans _ _ _ (NewT.alloc _ _) (NewT.alloc _ _)
  rw [World.size_alloc] at r2
  change Code.wp _ _ _ _ ((w.alloc (.cells (rowA 109 (recF x sv dv)) 27)).alloc (.cells (rowA 109 (recF y su du)) 27))
  generalize (w.alloc (.cells (rowA 109 (recF x sv dv)) 27)).alloc (.cells (rowA 109 (recF y su du)) 27) = W0 at r1 r2 hN ⊢
  have HS := Lib.hid (hN.pairs hs)
  have HD := Lib.hid (hN.rd hd)
  have HU := Lib.hid (hN.pairs hu)
  have HE := Lib.hid (hN.rd he)
  have R1 := Lib.hid r1
  have R2 := Lib.hid r2
  have HN := Lib.hid hN
  clear hs hd hu he r1 r2 hN
  obtain ⟨q1_1, Q1_1⟩ : ∃ q, ((x.kind == y.kind) && (x.saga == y.saga)) = q := ⟨_, rfl⟩
  obtain ⟨q2_1, Q2_1⟩ : ∃ q, ((q1_1 && (x.seq == y.seq)) && (x.step == y.step)) = q := ⟨_, rfl⟩
  obtain ⟨q3_1, Q3_1⟩ : ∃ q, ((q2_1 && (x.tr == y.tr)) && (x.back == y.back)) = q := ⟨_, rfl⟩
  obtain ⟨q4_1, Q4_1⟩ : ∃ q, ((q3_1 && (x.good == y.good)) && (x.nd == y.nd)) = q := ⟨_, rfl⟩
  obtain ⟨q5_1, Q5_1⟩ : ∃ q, ((q4_1 && (x.part == y.part)) && (x.epoch == y.epoch)) = q := ⟨_, rfl⟩
  obtain ⟨q6_1, Q6_1⟩ : ∃ q, ((q5_1 && (eqH (x.tag) (y.tag))) && (decide (x.steps = y.steps))) = q := ⟨_, rfl⟩
  obtain ⟨q7_1, Q7_1⟩ : ∃ q, (q6_1 && (decide (x.data = y.data))) = q := ⟨_, rfl⟩
  obtain ⟨q8_1, Q8_1⟩ : ∃ q, (q7_1 && (eqH (x.salt) (y.salt))) = q := ⟨_, rfl⟩
  obtain ⟨q9_1, Q9_1⟩ : ∃ q, ((q8_1 && (x.gone == y.gone)) && (eqH (x.com) (y.com))) = q := ⟨_, rfl⟩
  refine wp_region_steps0 NewT [SV.eq (.pointer (some ⟨w.heap.size, 0, none⟩)), SV.eq (.int .i64 (x.kind)), SV.eq (.pointer (some ⟨w.heap.size + 1, 0, none⟩)), SV.eq (.int .i64 (y.kind)), SV.eq (.bool (x.kind == y.kind)), SV.eq (.bool (x.kind == y.kind)), svIf (x.kind == y.kind) (SV.eq (.pointer (some ⟨w.heap.size, 1, none⟩))), svIf (x.kind == y.kind) (SV.eq (.int .i64 (x.saga))), svIf (x.kind == y.kind) (SV.eq (.pointer (some ⟨w.heap.size + 1, 1, none⟩))), svIf (x.kind == y.kind) (SV.eq (.int .i64 (y.saga))), svIf (x.kind == y.kind) (SV.eq (.bool (x.saga == y.saga))), SV.eq (.bool (q1_1)), SV.eq (.bool (q1_1)), svIf q1_1 (SV.eq (.pointer (some ⟨w.heap.size, 2, none⟩))), svIf q1_1 (SV.eq (.int .i64 (x.seq))), svIf q1_1 (SV.eq (.pointer (some ⟨w.heap.size + 1, 2, none⟩))), svIf q1_1 (SV.eq (.int .i64 (y.seq))), svIf q1_1 (SV.eq (.bool (x.seq == y.seq))), SV.eq (.bool (q1_1 && (x.seq == y.seq))), SV.eq (.bool (q1_1 && (x.seq == y.seq))), svIf (q1_1 && (x.seq == y.seq)) (SV.eq (.pointer (some ⟨w.heap.size, 3, none⟩))), svIf (q1_1 && (x.seq == y.seq)) (SV.eq (.int .i64 (x.step))), svIf (q1_1 && (x.seq == y.seq)) (SV.eq (.pointer (some ⟨w.heap.size + 1, 3, none⟩))), svIf (q1_1 && (x.seq == y.seq)) (SV.eq (.int .i64 (y.step))), svIf (q1_1 && (x.seq == y.seq)) (SV.eq (.bool (x.step == y.step))), SV.eq (.bool (q2_1)), SV.eq (.bool (q2_1)), svIf q2_1 (SV.eq (.pointer (some ⟨w.heap.size, 4, none⟩))), svIf q2_1 (SV.eq (.int .i64 (x.tr))), svIf q2_1 (SV.eq (.pointer (some ⟨w.heap.size + 1, 4, none⟩))), svIf q2_1 (SV.eq (.int .i64 (y.tr))), svIf q2_1 (SV.eq (.bool (x.tr == y.tr))), SV.eq (.bool (q2_1 && (x.tr == y.tr))), SV.eq (.bool (q2_1 && (x.tr == y.tr))), svIf (q2_1 && (x.tr == y.tr)) (SV.eq (.pointer (some ⟨w.heap.size, 5, none⟩))), svIf (q2_1 && (x.tr == y.tr)) (SV.eq (.bool (x.back))), svIf (q2_1 && (x.tr == y.tr)) (SV.eq (.pointer (some ⟨w.heap.size + 1, 5, none⟩))), svIf (q2_1 && (x.tr == y.tr)) (SV.eq (.bool (y.back))), svIf (q2_1 && (x.tr == y.tr)) (SV.eq (.bool (x.back == y.back))), SV.eq (.bool (q3_1)), SV.eq (.bool (q3_1)), svIf q3_1 (SV.eq (.pointer (some ⟨w.heap.size, 6, none⟩))), svIf q3_1 (SV.eq (.bool (x.good))), svIf q3_1 (SV.eq (.pointer (some ⟨w.heap.size + 1, 6, none⟩))), svIf q3_1 (SV.eq (.bool (y.good))), svIf q3_1 (SV.eq (.bool (x.good == y.good))), SV.eq (.bool (q3_1 && (x.good == y.good))), SV.eq (.bool (q3_1 && (x.good == y.good))), svIf (q3_1 && (x.good == y.good)) (SV.eq (.pointer (some ⟨w.heap.size, 7, none⟩))), svIf (q3_1 && (x.good == y.good)) (SV.eq (.int .i64 (x.nd))), svIf (q3_1 && (x.good == y.good)) (SV.eq (.pointer (some ⟨w.heap.size + 1, 7, none⟩))), svIf (q3_1 && (x.good == y.good)) (SV.eq (.int .i64 (y.nd))), svIf (q3_1 && (x.good == y.good)) (SV.eq (.bool (x.nd == y.nd))), SV.eq (.bool (q4_1)), SV.eq (.bool (q4_1)), svIf q4_1 (SV.eq (.pointer (some ⟨w.heap.size, 8, none⟩))), svIf q4_1 (SV.eq (.int .i64 (x.part))), svIf q4_1 (SV.eq (.pointer (some ⟨w.heap.size + 1, 8, none⟩))), svIf q4_1 (SV.eq (.int .i64 (y.part))), svIf q4_1 (SV.eq (.bool (x.part == y.part))), SV.eq (.bool (q4_1 && (x.part == y.part))), SV.eq (.bool (q4_1 && (x.part == y.part))), svIf (q4_1 && (x.part == y.part)) (SV.eq (.pointer (some ⟨w.heap.size, 9, none⟩))), svIf (q4_1 && (x.part == y.part)) (SV.eq (.int .i64 (x.epoch))), svIf (q4_1 && (x.part == y.part)) (SV.eq (.pointer (some ⟨w.heap.size + 1, 9, none⟩))), svIf (q4_1 && (x.part == y.part)) (SV.eq (.int .i64 (y.epoch))), svIf (q4_1 && (x.part == y.part)) (SV.eq (.bool (x.epoch == y.epoch))), SV.eq (.bool (q5_1)), SV.eq (.bool (q5_1)), svIf q5_1 (SV.eq (.pointer (some ⟨w.heap.size, 10, none⟩))), svIf q5_1 (SV.eq (.agg (rowA 32 (bF (x.tag))))), svIf q5_1 (SV.eq (.pointer (some ⟨w.heap.size + 1, 10, none⟩))), svIf q5_1 (SV.eq (.agg (rowA 32 (bF (y.tag))))), svIf q5_1 (SV.eq (.bool (eqH (x.tag) (y.tag)))), SV.eq (.bool (q5_1 && (eqH (x.tag) (y.tag)))), SV.eq (.bool (q5_1 && (eqH (x.tag) (y.tag)))), svIf (q5_1 && (eqH (x.tag) (y.tag))) (SV.eq (.pointer (some ⟨w.heap.size, 42, none⟩))), svIf (q5_1 && (eqH (x.tag) (y.tag))) (SV.eq (sv)), svIf (q5_1 && (eqH (x.tag) (y.tag))) (SV.eq (.pointer (some ⟨w.heap.size + 1, 42, none⟩))), svIf (q5_1 && (eqH (x.tag) (y.tag))) (SV.eq (su)), svIf (q5_1 && (eqH (x.tag) (y.tag))) (SV.eq (.bool (decide (x.steps = y.steps)))), SV.eq (.bool (q6_1)), SV.eq (.bool (q6_1)), svIf q6_1 (SV.eq (.pointer (some ⟨w.heap.size, 43, none⟩))), svIf q6_1 (SV.eq (dv)), svIf q6_1 (SV.eq (.pointer (some ⟨w.heap.size + 1, 43, none⟩))), svIf q6_1 (SV.eq (du)), svIf q6_1 (SV.eq (.bool (decide (x.data = y.data)))), SV.eq (.bool (q7_1)), SV.eq (.bool (q7_1)), svIf q7_1 (SV.eq (.pointer (some ⟨w.heap.size, 44, none⟩))), svIf q7_1 (SV.eq (.agg (rowA 32 (bF (x.salt))))), svIf q7_1 (SV.eq (.pointer (some ⟨w.heap.size + 1, 44, none⟩))), svIf q7_1 (SV.eq (.agg (rowA 32 (bF (y.salt))))), svIf q7_1 (SV.eq (.bool (eqH (x.salt) (y.salt)))), SV.eq (.bool (q8_1)), SV.eq (.bool (q8_1)), svIf q8_1 (SV.eq (.pointer (some ⟨w.heap.size, 76, none⟩))), svIf q8_1 (SV.eq (.bool (x.gone))), svIf q8_1 (SV.eq (.pointer (some ⟨w.heap.size + 1, 76, none⟩))), svIf q8_1 (SV.eq (.bool (y.gone))), svIf q8_1 (SV.eq (.bool (x.gone == y.gone))), SV.eq (.bool (q8_1 && (x.gone == y.gone))), SV.eq (.bool (q8_1 && (x.gone == y.gone))), svIf (q8_1 && (x.gone == y.gone)) (SV.eq (.pointer (some ⟨w.heap.size, 77, none⟩))), svIf (q8_1 && (x.gone == y.gone)) (SV.eq (.agg (rowA 32 (bF (x.com))))), svIf (q8_1 && (x.gone == y.gone)) (SV.eq (.pointer (some ⟨w.heap.size + 1, 77, none⟩))), svIf (q8_1 && (x.gone == y.gone)) (SV.eq (.agg (rowA 32 (bF (y.com))))), svIf (q8_1 && (x.gone == y.gone)) (SV.eq (.bool (eqH (x.com) (y.com)))), SV.eq (.bool (q9_1))] [([(2, none)], none), ([(5, some 0)], none), ([(3, none)], none), ([(7, some 2)], none), ([(6, some 1), (8, some 3)], none), ([(9, some 4)], none), ([(2, none), (10, some 5)], some (10, true)), ([(11, some 6), (10, some 5)], some (10, true)), ([(3, none), (10, some 5)], some (10, true)), ([(13, some 8), (10, some 5)], some (10, true)), ([(12, some 7), (14, some 9), (10, some 5)], some (10, true)), ([(10, some 5), (15, some 10)], none), ([(16, some 11)], none), ([(2, none), (17, some 12)], some (17, true)), ([(18, some 13), (17, some 12)], some (17, true)), ([(3, none), (17, some 12)], some (17, true)), ([(20, some 15), (17, some 12)], some (17, true)), ([(19, some 14), (21, some 16), (17, some 12)], some (17, true)), ([(17, some 12), (22, some 17)], none), ([(23, some 18)], none), ([(2, none), (24, some 19)], some (24, true)), ([(25, some 20), (24, some 19)], some (24, true)), ([(3, none), (24, some 19)], some (24, true)), ([(27, some 22), (24, some 19)], some (24, true)), ([(26, some 21), (28, some 23), (24, some 19)], some (24, true)), ([(24, some 19), (29, some 24)], none), ([(30, some 25)], none), ([(2, none), (31, some 26)], some (31, true)), ([(32, some 27), (31, some 26)], some (31, true)), ([(3, none), (31, some 26)], some (31, true)), ([(34, some 29), (31, some 26)], some (31, true)), ([(33, some 28), (35, some 30), (31, some 26)], some (31, true)), ([(31, some 26), (36, some 31)], none), ([(37, some 32)], none), ([(2, none), (38, some 33)], some (38, true)), ([(39, some 34), (38, some 33)], some (38, true)), ([(3, none), (38, some 33)], some (38, true)), ([(41, some 36), (38, some 33)], some (38, true)), ([(40, some 35), (42, some 37), (38, some 33)], some (38, true)), ([(38, some 33), (43, some 38)], none), ([(44, some 39)], none), ([(2, none), (45, some 40)], some (45, true)), ([(46, some 41), (45, some 40)], some (45, true)), ([(3, none), (45, some 40)], some (45, true)), ([(48, some 43), (45, some 40)], some (45, true)), ([(47, some 42), (49, some 44), (45, some 40)], some (45, true)), ([(45, some 40), (50, some 45)], none), ([(51, some 46)], none), ([(2, none), (52, some 47)], some (52, true)), ([(53, some 48), (52, some 47)], some (52, true)), ([(3, none), (52, some 47)], some (52, true)), ([(55, some 50), (52, some 47)], some (52, true)), ([(54, some 49), (56, some 51), (52, some 47)], some (52, true)), ([(52, some 47), (57, some 52)], none), ([(58, some 53)], none), ([(2, none), (59, some 54)], some (59, true)), ([(60, some 55), (59, some 54)], some (59, true)), ([(3, none), (59, some 54)], some (59, true)), ([(62, some 57), (59, some 54)], some (59, true)), ([(61, some 56), (63, some 58), (59, some 54)], some (59, true)), ([(59, some 54), (64, some 59)], none), ([(65, some 60)], none), ([(2, none), (66, some 61)], some (66, true)), ([(67, some 62), (66, some 61)], some (66, true)), ([(3, none), (66, some 61)], some (66, true)), ([(69, some 64), (66, some 61)], some (66, true)), ([(68, some 63), (70, some 65), (66, some 61)], some (66, true)), ([(66, some 61), (71, some 66)], none), ([(72, some 67)], none), ([(2, none), (73, some 68)], some (73, true)), ([(74, some 69), (73, some 68)], some (73, true)), ([(3, none), (73, some 68)], some (73, true)), ([(76, some 71), (73, some 68)], some (73, true)), ([(75, some 70), (77, some 72), (73, some 68)], some (73, true)), ([(73, some 68), (78, some 73)], none), ([(79, some 74)], none), ([(2, none), (80, some 75)], some (80, true)), ([(81, some 76), (80, some 75)], some (80, true)), ([(3, none), (80, some 75)], some (80, true)), ([(83, some 78), (80, some 75)], some (80, true)), ([(82, some 77), (84, some 79), (80, some 75)], some (80, true)), ([(80, some 75), (85, some 80)], none), ([(86, some 81)], none), ([(2, none), (87, some 82)], some (87, true)), ([(88, some 83), (87, some 82)], some (87, true)), ([(3, none), (87, some 82)], some (87, true)), ([(90, some 85), (87, some 82)], some (87, true)), ([(89, some 84), (91, some 86), (87, some 82)], some (87, true)), ([(87, some 82), (92, some 87)], none), ([(93, some 88)], none), ([(2, none), (94, some 89)], some (94, true)), ([(95, some 90), (94, some 89)], some (94, true)), ([(3, none), (94, some 89)], some (94, true)), ([(97, some 92), (94, some 89)], some (94, true)), ([(96, some 91), (98, some 93), (94, some 89)], some (94, true)), ([(94, some 89), (99, some 94)], none), ([(100, some 95)], none), ([(2, none), (101, some 96)], some (101, true)), ([(102, some 97), (101, some 96)], some (101, true)), ([(3, none), (101, some 96)], some (101, true)), ([(104, some 99), (101, some 96)], some (101, true)), ([(103, some 98), (105, some 100), (101, some 96)], some (101, true)), ([(101, some 96), (106, some 101)], none), ([(107, some 102)], none), ([(2, none), (108, some 103)], some (108, true)), ([(109, some 104), (108, some 103)], some (108, true)), ([(3, none), (108, some 103)], some (108, true)), ([(111, some 106), (108, some 103)], some (108, true)), ([(110, some 105), (112, some 107), (108, some 103)], some (108, true)), ([(108, some 103), (113, some 108)], none)] 115 110 rfl rfl (by kernel_rfl) NewT.trans (NewT.refl _) (Nat.le_of_ble_eq_true rfl) ⟨?_, ?_, ?_, ?_, ?_, ?_, ?_, ?_, ?_, ?_, ?_, ?_, ?_, ?_, ?_, ?_, ?_, ?_, ?_, ?_, ?_, ?_, ?_, ?_, ?_, ?_, ?_, ?_, ?_, ?_, ?_, ?_, ?_, ?_, ?_, ?_, ?_, ?_, ?_, ?_, ?_, ?_, ?_, ?_, ?_, ?_, ?_, ?_, ?_, ?_, ?_, ?_, ?_, ?_, ?_, ?_, ?_, ?_, ?_, ?_, ?_, ?_, ?_, ?_, ?_, ?_, ?_, ?_, ?_, ?_, ?_, ?_, ?_, ?_, ?_, ?_, ?_, ?_, ?_, ?_, ?_, ?_, ?_, ?_, ?_, ?_, ?_, ?_, ?_, ?_, ?_, ?_, ?_, ?_, ?_, ?_, ?_, ?_, ?_, ?_, ?_, ?_, ?_, ?_, ?_, ?_, ?_, ?_, ?_, ?_, trivial⟩ ?_
  · intro a wx hT hF K hK
    obtain ⟨f2, _⟩ := hF
    have f2 : a.tmps.getD 2 undef = .pointer (some ⟨w.heap.size, 0, none⟩) := f2
    refine rely_wp rfl ?_
    exact opr_fldR (by decide) rfl f2 (hK _ _ (NewT.refl _) rfl)
  · intro a wx hT hF K hK
    obtain ⟨f5, _⟩ := hF
    have f5 : a.tmps.getD 5 undef = .pointer (some ⟨w.heap.size, 0, none⟩) := f5
    refine rely_wp rfl ?_
    exact opr_ldI (hT.row R1.out) (by decide) rfl rfl f5 (hK _ _ (NewT.refl _) rfl)
  · intro a wx hT hF K hK
    obtain ⟨f3, _⟩ := hF
    have f3 : a.tmps.getD 3 undef = .pointer (some ⟨w.heap.size + 1, 0, none⟩) := f3
    refine rely_wp rfl ?_
    exact opr_fldR (by decide) rfl f3 (hK _ _ (NewT.refl _) rfl)
  · intro a wx hT hF K hK
    obtain ⟨f7, _⟩ := hF
    have f7 : a.tmps.getD 7 undef = .pointer (some ⟨w.heap.size + 1, 0, none⟩) := f7
    refine rely_wp rfl ?_
    exact opr_ldI (hT.row R2.out) (by decide) rfl rfl f7 (hK _ _ (NewT.refl _) rfl)
  · intro a wx hT hF K hK
    obtain ⟨f6, f8, _⟩ := hF
    have f6 : a.tmps.getD 6 undef = .int .i64 (x.kind) := f6
    have f8 : a.tmps.getD 8 undef = .int .i64 (y.kind) := f8
    refine rely_wp rfl ?_
    exact opr_cmp (b := x.kind == y.kind) (.inl ⟨rfl, rfl⟩) Tryd.underlying3 rfl f6 f8 (hK _ _ (NewT.refl _) rfl)
  · intro a wx hT hF K hK
    obtain ⟨f9, _⟩ := hF
    have f9 : a.tmps.getD 9 undef = .bool (x.kind == y.kind) := f9
    refine rely_wp rfl ?_
    exact opr_move (.inl rfl) (hK _ _ (NewT.refl _) f9)
  · intro a wx hT hF K hK
    obtain ⟨f2, f10, _⟩ := hF
    have f2 : a.tmps.getD 2 undef = .pointer (some ⟨w.heap.size, 0, none⟩) := f2
    have f10 : a.tmps.getD 10 undef = .bool (x.kind == y.kind) := f10
    refine rely_if (rely_gt f10) (NewT.refl _) hK (fun hE hK => ?_)
    exact opr_fldR (by decide) rfl f2 (hK _ _ (NewT.refl _) rfl)
  · intro a wx hT hF K hK
    obtain ⟨f11, f10, _⟩ := hF
    have f11 : (x.kind == y.kind) = true → a.tmps.getD 11 undef = .pointer (some ⟨w.heap.size, 1, none⟩) := f11
    have f10 : a.tmps.getD 10 undef = .bool (x.kind == y.kind) := f10
    refine rely_if (rely_gt f10) (NewT.refl _) hK (fun hE hK => ?_)
    exact opr_ldI (hT.row R1.out) (by decide) rfl rfl (f11 hE) (hK _ _ (NewT.refl _) rfl)
  · intro a wx hT hF K hK
    obtain ⟨f3, f10, _⟩ := hF
    have f3 : a.tmps.getD 3 undef = .pointer (some ⟨w.heap.size + 1, 0, none⟩) := f3
    have f10 : a.tmps.getD 10 undef = .bool (x.kind == y.kind) := f10
    refine rely_if (rely_gt f10) (NewT.refl _) hK (fun hE hK => ?_)
    exact opr_fldR (by decide) rfl f3 (hK _ _ (NewT.refl _) rfl)
  · intro a wx hT hF K hK
    obtain ⟨f13, f10, _⟩ := hF
    have f13 : (x.kind == y.kind) = true → a.tmps.getD 13 undef = .pointer (some ⟨w.heap.size + 1, 1, none⟩) := f13
    have f10 : a.tmps.getD 10 undef = .bool (x.kind == y.kind) := f10
    refine rely_if (rely_gt f10) (NewT.refl _) hK (fun hE hK => ?_)
    exact opr_ldI (hT.row R2.out) (by decide) rfl rfl (f13 hE) (hK _ _ (NewT.refl _) rfl)
  · intro a wx hT hF K hK
    obtain ⟨f12, f14, f10, _⟩ := hF
    have f12 : (x.kind == y.kind) = true → a.tmps.getD 12 undef = .int .i64 (x.saga) := f12
    have f14 : (x.kind == y.kind) = true → a.tmps.getD 14 undef = .int .i64 (y.saga) := f14
    have f10 : a.tmps.getD 10 undef = .bool (x.kind == y.kind) := f10
    refine rely_if (rely_gt f10) (NewT.refl _) hK (fun hE hK => ?_)
    exact opr_cmp (b := x.saga == y.saga) (.inl ⟨rfl, rfl⟩) Tryd.underlying3 rfl (f12 hE) (f14 hE) (hK _ _ (NewT.refl _) rfl)
  · intro a wx hT hF K hK
    obtain ⟨f10, f15, _⟩ := hF
    have f10 : a.tmps.getD 10 undef = .bool (x.kind == y.kind) := f10
    have f15 : (x.kind == y.kind) = true → a.tmps.getD 15 undef = .bool (x.saga == y.saga) := f15
    refine rely_wp rfl ?_
    exact opr_pick_b rfl f10 (fun hb => hK _ _ (NewT.refl _) (pn_and1 Q1_1 (f15 hb) hb)) (fun hb => hK _ _ (NewT.refl _) (pn_and0 Q1_1 hb))
  · intro a wx hT hF K hK
    obtain ⟨f16, _⟩ := hF
    have f16 : a.tmps.getD 16 undef = .bool (q1_1) := f16
    refine rely_wp rfl ?_
    exact opr_move (.inl rfl) (hK _ _ (NewT.refl _) f16)
  · intro a wx hT hF K hK
    obtain ⟨f2, f17, _⟩ := hF
    have f2 : a.tmps.getD 2 undef = .pointer (some ⟨w.heap.size, 0, none⟩) := f2
    have f17 : a.tmps.getD 17 undef = .bool (q1_1) := f17
    refine rely_if (rely_gt f17) (NewT.refl _) hK (fun hE hK => ?_)
    exact opr_fldR (by decide) rfl f2 (hK _ _ (NewT.refl _) rfl)
  · intro a wx hT hF K hK
    obtain ⟨f18, f17, _⟩ := hF
    have f18 : q1_1 = true → a.tmps.getD 18 undef = .pointer (some ⟨w.heap.size, 2, none⟩) := f18
    have f17 : a.tmps.getD 17 undef = .bool (q1_1) := f17
    refine rely_if (rely_gt f17) (NewT.refl _) hK (fun hE hK => ?_)
    exact opr_ldI (hT.row R1.out) (by decide) rfl rfl (f18 hE) (hK _ _ (NewT.refl _) rfl)
  · intro a wx hT hF K hK
    obtain ⟨f3, f17, _⟩ := hF
    have f3 : a.tmps.getD 3 undef = .pointer (some ⟨w.heap.size + 1, 0, none⟩) := f3
    have f17 : a.tmps.getD 17 undef = .bool (q1_1) := f17
    refine rely_if (rely_gt f17) (NewT.refl _) hK (fun hE hK => ?_)
    exact opr_fldR (by decide) rfl f3 (hK _ _ (NewT.refl _) rfl)
  · intro a wx hT hF K hK
    obtain ⟨f20, f17, _⟩ := hF
    have f20 : q1_1 = true → a.tmps.getD 20 undef = .pointer (some ⟨w.heap.size + 1, 2, none⟩) := f20
    have f17 : a.tmps.getD 17 undef = .bool (q1_1) := f17
    refine rely_if (rely_gt f17) (NewT.refl _) hK (fun hE hK => ?_)
    exact opr_ldI (hT.row R2.out) (by decide) rfl rfl (f20 hE) (hK _ _ (NewT.refl _) rfl)
  · intro a wx hT hF K hK
    obtain ⟨f19, f21, f17, _⟩ := hF
    have f19 : q1_1 = true → a.tmps.getD 19 undef = .int .i64 (x.seq) := f19
    have f21 : q1_1 = true → a.tmps.getD 21 undef = .int .i64 (y.seq) := f21
    have f17 : a.tmps.getD 17 undef = .bool (q1_1) := f17
    refine rely_if (rely_gt f17) (NewT.refl _) hK (fun hE hK => ?_)
    exact opr_cmp (b := x.seq == y.seq) (.inl ⟨rfl, rfl⟩) Tryd.underlying3 rfl (f19 hE) (f21 hE) (hK _ _ (NewT.refl _) rfl)
  · intro a wx hT hF K hK
    obtain ⟨f17, f22, _⟩ := hF
    have f17 : a.tmps.getD 17 undef = .bool (q1_1) := f17
    have f22 : q1_1 = true → a.tmps.getD 22 undef = .bool (x.seq == y.seq) := f22
    refine rely_wp rfl ?_
    exact opr_pick_b rfl f17 (fun hb => hK _ _ (NewT.refl _) (pk_and1 (f22 hb) hb)) (fun hb => hK _ _ (NewT.refl _) (pk_and0 hb))
  · intro a wx hT hF K hK
    obtain ⟨f23, _⟩ := hF
    have f23 : a.tmps.getD 23 undef = .bool (q1_1 && (x.seq == y.seq)) := f23
    refine rely_wp rfl ?_
    exact opr_move (.inl rfl) (hK _ _ (NewT.refl _) f23)
  · intro a wx hT hF K hK
    obtain ⟨f2, f24, _⟩ := hF
    have f2 : a.tmps.getD 2 undef = .pointer (some ⟨w.heap.size, 0, none⟩) := f2
    have f24 : a.tmps.getD 24 undef = .bool (q1_1 && (x.seq == y.seq)) := f24
    refine rely_if (rely_gt f24) (NewT.refl _) hK (fun hE hK => ?_)
    exact opr_fldR (by decide) rfl f2 (hK _ _ (NewT.refl _) rfl)
  · intro a wx hT hF K hK
    obtain ⟨f25, f24, _⟩ := hF
    have f25 : (q1_1 && (x.seq == y.seq)) = true → a.tmps.getD 25 undef = .pointer (some ⟨w.heap.size, 3, none⟩) := f25
    have f24 : a.tmps.getD 24 undef = .bool (q1_1 && (x.seq == y.seq)) := f24
    refine rely_if (rely_gt f24) (NewT.refl _) hK (fun hE hK => ?_)
    exact opr_ldI (hT.row R1.out) (by decide) rfl rfl (f25 hE) (hK _ _ (NewT.refl _) rfl)
  · intro a wx hT hF K hK
    obtain ⟨f3, f24, _⟩ := hF
    have f3 : a.tmps.getD 3 undef = .pointer (some ⟨w.heap.size + 1, 0, none⟩) := f3
    have f24 : a.tmps.getD 24 undef = .bool (q1_1 && (x.seq == y.seq)) := f24
    refine rely_if (rely_gt f24) (NewT.refl _) hK (fun hE hK => ?_)
    exact opr_fldR (by decide) rfl f3 (hK _ _ (NewT.refl _) rfl)
  · intro a wx hT hF K hK
    obtain ⟨f27, f24, _⟩ := hF
    have f27 : (q1_1 && (x.seq == y.seq)) = true → a.tmps.getD 27 undef = .pointer (some ⟨w.heap.size + 1, 3, none⟩) := f27
    have f24 : a.tmps.getD 24 undef = .bool (q1_1 && (x.seq == y.seq)) := f24
    refine rely_if (rely_gt f24) (NewT.refl _) hK (fun hE hK => ?_)
    exact opr_ldI (hT.row R2.out) (by decide) rfl rfl (f27 hE) (hK _ _ (NewT.refl _) rfl)
  · intro a wx hT hF K hK
    obtain ⟨f26, f28, f24, _⟩ := hF
    have f26 : (q1_1 && (x.seq == y.seq)) = true → a.tmps.getD 26 undef = .int .i64 (x.step) := f26
    have f28 : (q1_1 && (x.seq == y.seq)) = true → a.tmps.getD 28 undef = .int .i64 (y.step) := f28
    have f24 : a.tmps.getD 24 undef = .bool (q1_1 && (x.seq == y.seq)) := f24
    refine rely_if (rely_gt f24) (NewT.refl _) hK (fun hE hK => ?_)
    exact opr_cmp (b := x.step == y.step) (.inl ⟨rfl, rfl⟩) Tryd.underlying3 rfl (f26 hE) (f28 hE) (hK _ _ (NewT.refl _) rfl)
  · intro a wx hT hF K hK
    obtain ⟨f24, f29, _⟩ := hF
    have f24 : a.tmps.getD 24 undef = .bool (q1_1 && (x.seq == y.seq)) := f24
    have f29 : (q1_1 && (x.seq == y.seq)) = true → a.tmps.getD 29 undef = .bool (x.step == y.step) := f29
    refine rely_wp rfl ?_
    exact opr_pick_b rfl f24 (fun hb => hK _ _ (NewT.refl _) (pn_and1 Q2_1 (f29 hb) hb)) (fun hb => hK _ _ (NewT.refl _) (pn_and0 Q2_1 hb))
  · intro a wx hT hF K hK
    obtain ⟨f30, _⟩ := hF
    have f30 : a.tmps.getD 30 undef = .bool (q2_1) := f30
    refine rely_wp rfl ?_
    exact opr_move (.inl rfl) (hK _ _ (NewT.refl _) f30)
  · intro a wx hT hF K hK
    obtain ⟨f2, f31, _⟩ := hF
    have f2 : a.tmps.getD 2 undef = .pointer (some ⟨w.heap.size, 0, none⟩) := f2
    have f31 : a.tmps.getD 31 undef = .bool (q2_1) := f31
    refine rely_if (rely_gt f31) (NewT.refl _) hK (fun hE hK => ?_)
    exact opr_fldR (by decide) rfl f2 (hK _ _ (NewT.refl _) rfl)
  · intro a wx hT hF K hK
    obtain ⟨f32, f31, _⟩ := hF
    have f32 : q2_1 = true → a.tmps.getD 32 undef = .pointer (some ⟨w.heap.size, 4, none⟩) := f32
    have f31 : a.tmps.getD 31 undef = .bool (q2_1) := f31
    refine rely_if (rely_gt f31) (NewT.refl _) hK (fun hE hK => ?_)
    exact opr_ldI (hT.row R1.out) (by decide) rfl rfl (f32 hE) (hK _ _ (NewT.refl _) rfl)
  · intro a wx hT hF K hK
    obtain ⟨f3, f31, _⟩ := hF
    have f3 : a.tmps.getD 3 undef = .pointer (some ⟨w.heap.size + 1, 0, none⟩) := f3
    have f31 : a.tmps.getD 31 undef = .bool (q2_1) := f31
    refine rely_if (rely_gt f31) (NewT.refl _) hK (fun hE hK => ?_)
    exact opr_fldR (by decide) rfl f3 (hK _ _ (NewT.refl _) rfl)
  · intro a wx hT hF K hK
    obtain ⟨f34, f31, _⟩ := hF
    have f34 : q2_1 = true → a.tmps.getD 34 undef = .pointer (some ⟨w.heap.size + 1, 4, none⟩) := f34
    have f31 : a.tmps.getD 31 undef = .bool (q2_1) := f31
    refine rely_if (rely_gt f31) (NewT.refl _) hK (fun hE hK => ?_)
    exact opr_ldI (hT.row R2.out) (by decide) rfl rfl (f34 hE) (hK _ _ (NewT.refl _) rfl)
  · intro a wx hT hF K hK
    obtain ⟨f33, f35, f31, _⟩ := hF
    have f33 : q2_1 = true → a.tmps.getD 33 undef = .int .i64 (x.tr) := f33
    have f35 : q2_1 = true → a.tmps.getD 35 undef = .int .i64 (y.tr) := f35
    have f31 : a.tmps.getD 31 undef = .bool (q2_1) := f31
    refine rely_if (rely_gt f31) (NewT.refl _) hK (fun hE hK => ?_)
    exact opr_cmp (b := x.tr == y.tr) (.inl ⟨rfl, rfl⟩) Tryd.underlying3 rfl (f33 hE) (f35 hE) (hK _ _ (NewT.refl _) rfl)
  · intro a wx hT hF K hK
    obtain ⟨f31, f36, _⟩ := hF
    have f31 : a.tmps.getD 31 undef = .bool (q2_1) := f31
    have f36 : q2_1 = true → a.tmps.getD 36 undef = .bool (x.tr == y.tr) := f36
    refine rely_wp rfl ?_
    exact opr_pick_b rfl f31 (fun hb => hK _ _ (NewT.refl _) (pk_and1 (f36 hb) hb)) (fun hb => hK _ _ (NewT.refl _) (pk_and0 hb))
  · intro a wx hT hF K hK
    obtain ⟨f37, _⟩ := hF
    have f37 : a.tmps.getD 37 undef = .bool (q2_1 && (x.tr == y.tr)) := f37
    refine rely_wp rfl ?_
    exact opr_move (.inl rfl) (hK _ _ (NewT.refl _) f37)
  · intro a wx hT hF K hK
    obtain ⟨f2, f38, _⟩ := hF
    have f2 : a.tmps.getD 2 undef = .pointer (some ⟨w.heap.size, 0, none⟩) := f2
    have f38 : a.tmps.getD 38 undef = .bool (q2_1 && (x.tr == y.tr)) := f38
    refine rely_if (rely_gt f38) (NewT.refl _) hK (fun hE hK => ?_)
    exact opr_fldR (by decide) rfl f2 (hK _ _ (NewT.refl _) rfl)
  · intro a wx hT hF K hK
    obtain ⟨f39, f38, _⟩ := hF
    have f39 : (q2_1 && (x.tr == y.tr)) = true → a.tmps.getD 39 undef = .pointer (some ⟨w.heap.size, 5, none⟩) := f39
    have f38 : a.tmps.getD 38 undef = .bool (q2_1 && (x.tr == y.tr)) := f38
    refine rely_if (rely_gt f38) (NewT.refl _) hK (fun hE hK => ?_)
    exact opr_ldQ (hT.row R1.out) (by decide) rfl rfl (f39 hE) (hK _ _ (NewT.refl _) rfl)
  · intro a wx hT hF K hK
    obtain ⟨f3, f38, _⟩ := hF
    have f3 : a.tmps.getD 3 undef = .pointer (some ⟨w.heap.size + 1, 0, none⟩) := f3
    have f38 : a.tmps.getD 38 undef = .bool (q2_1 && (x.tr == y.tr)) := f38
    refine rely_if (rely_gt f38) (NewT.refl _) hK (fun hE hK => ?_)
    exact opr_fldR (by decide) rfl f3 (hK _ _ (NewT.refl _) rfl)
  · intro a wx hT hF K hK
    obtain ⟨f41, f38, _⟩ := hF
    have f41 : (q2_1 && (x.tr == y.tr)) = true → a.tmps.getD 41 undef = .pointer (some ⟨w.heap.size + 1, 5, none⟩) := f41
    have f38 : a.tmps.getD 38 undef = .bool (q2_1 && (x.tr == y.tr)) := f38
    refine rely_if (rely_gt f38) (NewT.refl _) hK (fun hE hK => ?_)
    exact opr_ldQ (hT.row R2.out) (by decide) rfl rfl (f41 hE) (hK _ _ (NewT.refl _) rfl)
  · intro a wx hT hF K hK
    obtain ⟨f40, f42, f38, _⟩ := hF
    have f40 : (q2_1 && (x.tr == y.tr)) = true → a.tmps.getD 40 undef = .bool (x.back) := f40
    have f42 : (q2_1 && (x.tr == y.tr)) = true → a.tmps.getD 42 undef = .bool (y.back) := f42
    have f38 : a.tmps.getD 38 undef = .bool (q2_1 && (x.tr == y.tr)) := f38
    refine rely_if (rely_gt f38) (NewT.refl _) hK (fun hE hK => ?_)
    exact opr_eqlQ (b := x.back == y.back) (rfl) rfl (f40 hE) (f42 hE) (hK _ _ (NewT.refl _) rfl)
  · intro a wx hT hF K hK
    obtain ⟨f38, f43, _⟩ := hF
    have f38 : a.tmps.getD 38 undef = .bool (q2_1 && (x.tr == y.tr)) := f38
    have f43 : (q2_1 && (x.tr == y.tr)) = true → a.tmps.getD 43 undef = .bool (x.back == y.back) := f43
    refine rely_wp rfl ?_
    exact opr_pick_b rfl f38 (fun hb => hK _ _ (NewT.refl _) (pn_and1 Q3_1 (f43 hb) hb)) (fun hb => hK _ _ (NewT.refl _) (pn_and0 Q3_1 hb))
  · intro a wx hT hF K hK
    obtain ⟨f44, _⟩ := hF
    have f44 : a.tmps.getD 44 undef = .bool (q3_1) := f44
    refine rely_wp rfl ?_
    exact opr_move (.inl rfl) (hK _ _ (NewT.refl _) f44)
  · intro a wx hT hF K hK
    obtain ⟨f2, f45, _⟩ := hF
    have f2 : a.tmps.getD 2 undef = .pointer (some ⟨w.heap.size, 0, none⟩) := f2
    have f45 : a.tmps.getD 45 undef = .bool (q3_1) := f45
    refine rely_if (rely_gt f45) (NewT.refl _) hK (fun hE hK => ?_)
    exact opr_fldR (by decide) rfl f2 (hK _ _ (NewT.refl _) rfl)
  · intro a wx hT hF K hK
    obtain ⟨f46, f45, _⟩ := hF
    have f46 : q3_1 = true → a.tmps.getD 46 undef = .pointer (some ⟨w.heap.size, 6, none⟩) := f46
    have f45 : a.tmps.getD 45 undef = .bool (q3_1) := f45
    refine rely_if (rely_gt f45) (NewT.refl _) hK (fun hE hK => ?_)
    exact opr_ldQ (hT.row R1.out) (by decide) rfl rfl (f46 hE) (hK _ _ (NewT.refl _) rfl)
  · intro a wx hT hF K hK
    obtain ⟨f3, f45, _⟩ := hF
    have f3 : a.tmps.getD 3 undef = .pointer (some ⟨w.heap.size + 1, 0, none⟩) := f3
    have f45 : a.tmps.getD 45 undef = .bool (q3_1) := f45
    refine rely_if (rely_gt f45) (NewT.refl _) hK (fun hE hK => ?_)
    exact opr_fldR (by decide) rfl f3 (hK _ _ (NewT.refl _) rfl)
  · intro a wx hT hF K hK
    obtain ⟨f48, f45, _⟩ := hF
    have f48 : q3_1 = true → a.tmps.getD 48 undef = .pointer (some ⟨w.heap.size + 1, 6, none⟩) := f48
    have f45 : a.tmps.getD 45 undef = .bool (q3_1) := f45
    refine rely_if (rely_gt f45) (NewT.refl _) hK (fun hE hK => ?_)
    exact opr_ldQ (hT.row R2.out) (by decide) rfl rfl (f48 hE) (hK _ _ (NewT.refl _) rfl)
  · intro a wx hT hF K hK
    obtain ⟨f47, f49, f45, _⟩ := hF
    have f47 : q3_1 = true → a.tmps.getD 47 undef = .bool (x.good) := f47
    have f49 : q3_1 = true → a.tmps.getD 49 undef = .bool (y.good) := f49
    have f45 : a.tmps.getD 45 undef = .bool (q3_1) := f45
    refine rely_if (rely_gt f45) (NewT.refl _) hK (fun hE hK => ?_)
    exact opr_eqlQ (b := x.good == y.good) (rfl) rfl (f47 hE) (f49 hE) (hK _ _ (NewT.refl _) rfl)
  · intro a wx hT hF K hK
    obtain ⟨f45, f50, _⟩ := hF
    have f45 : a.tmps.getD 45 undef = .bool (q3_1) := f45
    have f50 : q3_1 = true → a.tmps.getD 50 undef = .bool (x.good == y.good) := f50
    refine rely_wp rfl ?_
    exact opr_pick_b rfl f45 (fun hb => hK _ _ (NewT.refl _) (pk_and1 (f50 hb) hb)) (fun hb => hK _ _ (NewT.refl _) (pk_and0 hb))
  · intro a wx hT hF K hK
    obtain ⟨f51, _⟩ := hF
    have f51 : a.tmps.getD 51 undef = .bool (q3_1 && (x.good == y.good)) := f51
    refine rely_wp rfl ?_
    exact opr_move (.inl rfl) (hK _ _ (NewT.refl _) f51)
  · intro a wx hT hF K hK
    obtain ⟨f2, f52, _⟩ := hF
    have f2 : a.tmps.getD 2 undef = .pointer (some ⟨w.heap.size, 0, none⟩) := f2
    have f52 : a.tmps.getD 52 undef = .bool (q3_1 && (x.good == y.good)) := f52
    refine rely_if (rely_gt f52) (NewT.refl _) hK (fun hE hK => ?_)
    exact opr_fldR (by decide) rfl f2 (hK _ _ (NewT.refl _) rfl)
  · intro a wx hT hF K hK
    obtain ⟨f53, f52, _⟩ := hF
    have f53 : (q3_1 && (x.good == y.good)) = true → a.tmps.getD 53 undef = .pointer (some ⟨w.heap.size, 7, none⟩) := f53
    have f52 : a.tmps.getD 52 undef = .bool (q3_1 && (x.good == y.good)) := f52
    refine rely_if (rely_gt f52) (NewT.refl _) hK (fun hE hK => ?_)
    exact opr_ldI (hT.row R1.out) (by decide) rfl rfl (f53 hE) (hK _ _ (NewT.refl _) rfl)
  · intro a wx hT hF K hK
    obtain ⟨f3, f52, _⟩ := hF
    have f3 : a.tmps.getD 3 undef = .pointer (some ⟨w.heap.size + 1, 0, none⟩) := f3
    have f52 : a.tmps.getD 52 undef = .bool (q3_1 && (x.good == y.good)) := f52
    refine rely_if (rely_gt f52) (NewT.refl _) hK (fun hE hK => ?_)
    exact opr_fldR (by decide) rfl f3 (hK _ _ (NewT.refl _) rfl)
  · intro a wx hT hF K hK
    obtain ⟨f55, f52, _⟩ := hF
    have f55 : (q3_1 && (x.good == y.good)) = true → a.tmps.getD 55 undef = .pointer (some ⟨w.heap.size + 1, 7, none⟩) := f55
    have f52 : a.tmps.getD 52 undef = .bool (q3_1 && (x.good == y.good)) := f52
    refine rely_if (rely_gt f52) (NewT.refl _) hK (fun hE hK => ?_)
    exact opr_ldI (hT.row R2.out) (by decide) rfl rfl (f55 hE) (hK _ _ (NewT.refl _) rfl)
  · intro a wx hT hF K hK
    obtain ⟨f54, f56, f52, _⟩ := hF
    have f54 : (q3_1 && (x.good == y.good)) = true → a.tmps.getD 54 undef = .int .i64 (x.nd) := f54
    have f56 : (q3_1 && (x.good == y.good)) = true → a.tmps.getD 56 undef = .int .i64 (y.nd) := f56
    have f52 : a.tmps.getD 52 undef = .bool (q3_1 && (x.good == y.good)) := f52
    refine rely_if (rely_gt f52) (NewT.refl _) hK (fun hE hK => ?_)
    exact opr_cmp (b := x.nd == y.nd) (.inl ⟨rfl, rfl⟩) Tryd.underlying3 rfl (f54 hE) (f56 hE) (hK _ _ (NewT.refl _) rfl)
  · intro a wx hT hF K hK
    obtain ⟨f52, f57, _⟩ := hF
    have f52 : a.tmps.getD 52 undef = .bool (q3_1 && (x.good == y.good)) := f52
    have f57 : (q3_1 && (x.good == y.good)) = true → a.tmps.getD 57 undef = .bool (x.nd == y.nd) := f57
    refine rely_wp rfl ?_
    exact opr_pick_b rfl f52 (fun hb => hK _ _ (NewT.refl _) (pn_and1 Q4_1 (f57 hb) hb)) (fun hb => hK _ _ (NewT.refl _) (pn_and0 Q4_1 hb))
  · intro a wx hT hF K hK
    obtain ⟨f58, _⟩ := hF
    have f58 : a.tmps.getD 58 undef = .bool (q4_1) := f58
    refine rely_wp rfl ?_
    exact opr_move (.inl rfl) (hK _ _ (NewT.refl _) f58)
  · intro a wx hT hF K hK
    obtain ⟨f2, f59, _⟩ := hF
    have f2 : a.tmps.getD 2 undef = .pointer (some ⟨w.heap.size, 0, none⟩) := f2
    have f59 : a.tmps.getD 59 undef = .bool (q4_1) := f59
    refine rely_if (rely_gt f59) (NewT.refl _) hK (fun hE hK => ?_)
    exact opr_fldR (by decide) rfl f2 (hK _ _ (NewT.refl _) rfl)
  · intro a wx hT hF K hK
    obtain ⟨f60, f59, _⟩ := hF
    have f60 : q4_1 = true → a.tmps.getD 60 undef = .pointer (some ⟨w.heap.size, 8, none⟩) := f60
    have f59 : a.tmps.getD 59 undef = .bool (q4_1) := f59
    refine rely_if (rely_gt f59) (NewT.refl _) hK (fun hE hK => ?_)
    exact opr_ldI (hT.row R1.out) (by decide) rfl rfl (f60 hE) (hK _ _ (NewT.refl _) rfl)
  · intro a wx hT hF K hK
    obtain ⟨f3, f59, _⟩ := hF
    have f3 : a.tmps.getD 3 undef = .pointer (some ⟨w.heap.size + 1, 0, none⟩) := f3
    have f59 : a.tmps.getD 59 undef = .bool (q4_1) := f59
    refine rely_if (rely_gt f59) (NewT.refl _) hK (fun hE hK => ?_)
    exact opr_fldR (by decide) rfl f3 (hK _ _ (NewT.refl _) rfl)
  · intro a wx hT hF K hK
    obtain ⟨f62, f59, _⟩ := hF
    have f62 : q4_1 = true → a.tmps.getD 62 undef = .pointer (some ⟨w.heap.size + 1, 8, none⟩) := f62
    have f59 : a.tmps.getD 59 undef = .bool (q4_1) := f59
    refine rely_if (rely_gt f59) (NewT.refl _) hK (fun hE hK => ?_)
    exact opr_ldI (hT.row R2.out) (by decide) rfl rfl (f62 hE) (hK _ _ (NewT.refl _) rfl)
  · intro a wx hT hF K hK
    obtain ⟨f61, f63, f59, _⟩ := hF
    have f61 : q4_1 = true → a.tmps.getD 61 undef = .int .i64 (x.part) := f61
    have f63 : q4_1 = true → a.tmps.getD 63 undef = .int .i64 (y.part) := f63
    have f59 : a.tmps.getD 59 undef = .bool (q4_1) := f59
    refine rely_if (rely_gt f59) (NewT.refl _) hK (fun hE hK => ?_)
    exact opr_cmp (b := x.part == y.part) (.inl ⟨rfl, rfl⟩) Tryd.underlying3 rfl (f61 hE) (f63 hE) (hK _ _ (NewT.refl _) rfl)
  · intro a wx hT hF K hK
    obtain ⟨f59, f64, _⟩ := hF
    have f59 : a.tmps.getD 59 undef = .bool (q4_1) := f59
    have f64 : q4_1 = true → a.tmps.getD 64 undef = .bool (x.part == y.part) := f64
    refine rely_wp rfl ?_
    exact opr_pick_b rfl f59 (fun hb => hK _ _ (NewT.refl _) (pk_and1 (f64 hb) hb)) (fun hb => hK _ _ (NewT.refl _) (pk_and0 hb))
  · intro a wx hT hF K hK
    obtain ⟨f65, _⟩ := hF
    have f65 : a.tmps.getD 65 undef = .bool (q4_1 && (x.part == y.part)) := f65
    refine rely_wp rfl ?_
    exact opr_move (.inl rfl) (hK _ _ (NewT.refl _) f65)
  · intro a wx hT hF K hK
    obtain ⟨f2, f66, _⟩ := hF
    have f2 : a.tmps.getD 2 undef = .pointer (some ⟨w.heap.size, 0, none⟩) := f2
    have f66 : a.tmps.getD 66 undef = .bool (q4_1 && (x.part == y.part)) := f66
    refine rely_if (rely_gt f66) (NewT.refl _) hK (fun hE hK => ?_)
    exact opr_fldR (by decide) rfl f2 (hK _ _ (NewT.refl _) rfl)
  · intro a wx hT hF K hK
    obtain ⟨f67, f66, _⟩ := hF
    have f67 : (q4_1 && (x.part == y.part)) = true → a.tmps.getD 67 undef = .pointer (some ⟨w.heap.size, 9, none⟩) := f67
    have f66 : a.tmps.getD 66 undef = .bool (q4_1 && (x.part == y.part)) := f66
    refine rely_if (rely_gt f66) (NewT.refl _) hK (fun hE hK => ?_)
    exact opr_ldI (hT.row R1.out) (by decide) rfl rfl (f67 hE) (hK _ _ (NewT.refl _) rfl)
  · intro a wx hT hF K hK
    obtain ⟨f3, f66, _⟩ := hF
    have f3 : a.tmps.getD 3 undef = .pointer (some ⟨w.heap.size + 1, 0, none⟩) := f3
    have f66 : a.tmps.getD 66 undef = .bool (q4_1 && (x.part == y.part)) := f66
    refine rely_if (rely_gt f66) (NewT.refl _) hK (fun hE hK => ?_)
    exact opr_fldR (by decide) rfl f3 (hK _ _ (NewT.refl _) rfl)
  · intro a wx hT hF K hK
    obtain ⟨f69, f66, _⟩ := hF
    have f69 : (q4_1 && (x.part == y.part)) = true → a.tmps.getD 69 undef = .pointer (some ⟨w.heap.size + 1, 9, none⟩) := f69
    have f66 : a.tmps.getD 66 undef = .bool (q4_1 && (x.part == y.part)) := f66
    refine rely_if (rely_gt f66) (NewT.refl _) hK (fun hE hK => ?_)
    exact opr_ldI (hT.row R2.out) (by decide) rfl rfl (f69 hE) (hK _ _ (NewT.refl _) rfl)
  · intro a wx hT hF K hK
    obtain ⟨f68, f70, f66, _⟩ := hF
    have f68 : (q4_1 && (x.part == y.part)) = true → a.tmps.getD 68 undef = .int .i64 (x.epoch) := f68
    have f70 : (q4_1 && (x.part == y.part)) = true → a.tmps.getD 70 undef = .int .i64 (y.epoch) := f70
    have f66 : a.tmps.getD 66 undef = .bool (q4_1 && (x.part == y.part)) := f66
    refine rely_if (rely_gt f66) (NewT.refl _) hK (fun hE hK => ?_)
    exact opr_cmp (b := x.epoch == y.epoch) (.inl ⟨rfl, rfl⟩) Tryd.underlying3 rfl (f68 hE) (f70 hE) (hK _ _ (NewT.refl _) rfl)
  · intro a wx hT hF K hK
    obtain ⟨f66, f71, _⟩ := hF
    have f66 : a.tmps.getD 66 undef = .bool (q4_1 && (x.part == y.part)) := f66
    have f71 : (q4_1 && (x.part == y.part)) = true → a.tmps.getD 71 undef = .bool (x.epoch == y.epoch) := f71
    refine rely_wp rfl ?_
    exact opr_pick_b rfl f66 (fun hb => hK _ _ (NewT.refl _) (pn_and1 Q5_1 (f71 hb) hb)) (fun hb => hK _ _ (NewT.refl _) (pn_and0 Q5_1 hb))
  · intro a wx hT hF K hK
    obtain ⟨f72, _⟩ := hF
    have f72 : a.tmps.getD 72 undef = .bool (q5_1) := f72
    refine rely_wp rfl ?_
    exact opr_move (.inl rfl) (hK _ _ (NewT.refl _) f72)
  · intro a wx hT hF K hK
    obtain ⟨f2, f73, _⟩ := hF
    have f2 : a.tmps.getD 2 undef = .pointer (some ⟨w.heap.size, 0, none⟩) := f2
    have f73 : a.tmps.getD 73 undef = .bool (q5_1) := f73
    refine rely_if (rely_gt f73) (NewT.refl _) hK (fun hE hK => ?_)
    exact opr_fldR (by decide) rfl f2 (hK _ _ (NewT.refl _) rfl)
  · intro a wx hT hF K hK
    obtain ⟨f74, f73, _⟩ := hF
    have f74 : q5_1 = true → a.tmps.getD 74 undef = .pointer (some ⟨w.heap.size, 10, none⟩) := f74
    have f73 : a.tmps.getD 73 undef = .bool (q5_1) := f73
    refine rely_if (rely_gt f73) (NewT.refl _) hK (fun hE hK => ?_)
    exact opr_ldH (hT.row R1.out) (by decide) (recF_tag x _ _) rfl (f74 hE) (hK _ _ (NewT.refl _) rfl)
  · intro a wx hT hF K hK
    obtain ⟨f3, f73, _⟩ := hF
    have f3 : a.tmps.getD 3 undef = .pointer (some ⟨w.heap.size + 1, 0, none⟩) := f3
    have f73 : a.tmps.getD 73 undef = .bool (q5_1) := f73
    refine rely_if (rely_gt f73) (NewT.refl _) hK (fun hE hK => ?_)
    exact opr_fldR (by decide) rfl f3 (hK _ _ (NewT.refl _) rfl)
  · intro a wx hT hF K hK
    obtain ⟨f76, f73, _⟩ := hF
    have f76 : q5_1 = true → a.tmps.getD 76 undef = .pointer (some ⟨w.heap.size + 1, 10, none⟩) := f76
    have f73 : a.tmps.getD 73 undef = .bool (q5_1) := f73
    refine rely_if (rely_gt f73) (NewT.refl _) hK (fun hE hK => ?_)
    exact opr_ldH (hT.row R2.out) (by decide) (recF_tag y _ _) rfl (f76 hE) (hK _ _ (NewT.refl _) rfl)
  · intro a wx hT hF K hK
    obtain ⟨f75, f77, f73, _⟩ := hF
    have f75 : q5_1 = true → a.tmps.getD 75 undef = .agg (rowA 32 (bF (x.tag))) := f75
    have f77 : q5_1 = true → a.tmps.getD 77 undef = .agg (rowA 32 (bF (y.tag))) := f77
    have f73 : a.tmps.getD 73 undef = .bool (q5_1) := f73
    refine rely_if (rely_gt f73) (NewT.refl _) hK (fun hE hK => ?_)
    exact opr_eql_hash (b := eqH (x.tag) (y.tag)) rfl (f75 hE) (f77 hE) (rfl) (hK _ _ (NewT.refl _) rfl)
  · intro a wx hT hF K hK
    obtain ⟨f73, f78, _⟩ := hF
    have f73 : a.tmps.getD 73 undef = .bool (q5_1) := f73
    have f78 : q5_1 = true → a.tmps.getD 78 undef = .bool (eqH (x.tag) (y.tag)) := f78
    refine rely_wp rfl ?_
    exact opr_pick_b rfl f73 (fun hb => hK _ _ (NewT.refl _) (pk_and1 (f78 hb) hb)) (fun hb => hK _ _ (NewT.refl _) (pk_and0 hb))
  · intro a wx hT hF K hK
    obtain ⟨f79, _⟩ := hF
    have f79 : a.tmps.getD 79 undef = .bool (q5_1 && (eqH (x.tag) (y.tag))) := f79
    refine rely_wp rfl ?_
    exact opr_move (.inl rfl) (hK _ _ (NewT.refl _) f79)
  · intro a wx hT hF K hK
    obtain ⟨f2, f80, _⟩ := hF
    have f2 : a.tmps.getD 2 undef = .pointer (some ⟨w.heap.size, 0, none⟩) := f2
    have f80 : a.tmps.getD 80 undef = .bool (q5_1 && (eqH (x.tag) (y.tag))) := f80
    refine rely_if (rely_gt f80) (NewT.refl _) hK (fun hE hK => ?_)
    exact opr_fldR (by decide) rfl f2 (hK _ _ (NewT.refl _) rfl)
  · intro a wx hT hF K hK
    obtain ⟨f81, f80, _⟩ := hF
    have f81 : (q5_1 && (eqH (x.tag) (y.tag))) = true → a.tmps.getD 81 undef = .pointer (some ⟨w.heap.size, 42, none⟩) := f81
    have f80 : a.tmps.getD 80 undef = .bool (q5_1 && (eqH (x.tag) (y.tag))) := f80
    refine rely_if (rely_gt f80) (NewT.refl _) hK (fun hE hK => ?_)
    exact opr_ldS (hT.row R1.out) (by decide) rfl rfl (f81 hE) (hK _ _ (NewT.refl _) rfl)
  · intro a wx hT hF K hK
    obtain ⟨f3, f80, _⟩ := hF
    have f3 : a.tmps.getD 3 undef = .pointer (some ⟨w.heap.size + 1, 0, none⟩) := f3
    have f80 : a.tmps.getD 80 undef = .bool (q5_1 && (eqH (x.tag) (y.tag))) := f80
    refine rely_if (rely_gt f80) (NewT.refl _) hK (fun hE hK => ?_)
    exact opr_fldR (by decide) rfl f3 (hK _ _ (NewT.refl _) rfl)
  · intro a wx hT hF K hK
    obtain ⟨f83, f80, _⟩ := hF
    have f83 : (q5_1 && (eqH (x.tag) (y.tag))) = true → a.tmps.getD 83 undef = .pointer (some ⟨w.heap.size + 1, 42, none⟩) := f83
    have f80 : a.tmps.getD 80 undef = .bool (q5_1 && (eqH (x.tag) (y.tag))) := f80
    refine rely_if (rely_gt f80) (NewT.refl _) hK (fun hE hK => ?_)
    exact opr_ldS (hT.row R2.out) (by decide) rfl rfl (f83 hE) (hK _ _ (NewT.refl _) rfl)
  · intro a wx hT hF K hK
    obtain ⟨f82, f84, f80, _⟩ := hF
    have f82 : (q5_1 && (eqH (x.tag) (y.tag))) = true → a.tmps.getD 82 undef = sv := f82
    have f84 : (q5_1 && (eqH (x.tag) (y.tag))) = true → a.tmps.getD 84 undef = su := f84
    have f80 : a.tmps.getD 80 undef = .bool (q5_1 && (eqH (x.tag) (y.tag))) := f80
    refine rely_if (rely_gt f80) (NewT.refl _) hK (fun hE hK => ?_)
    exact opr_cv (RSteps_cv _ _ x.steps y.steps wx (hT.pairs HS.out) (hT.pairs HU.out)) rfl Tryd.func33 (by kernel_rfl) (by kernel_rfl) (by simp only [List.map_toArray, List.map_cons, List.map_nil, eval_tmp, (f82 hE), (f84 hE)]) hK
  · intro a wx hT hF K hK
    obtain ⟨f80, f85, _⟩ := hF
    have f80 : a.tmps.getD 80 undef = .bool (q5_1 && (eqH (x.tag) (y.tag))) := f80
    have f85 : (q5_1 && (eqH (x.tag) (y.tag))) = true → a.tmps.getD 85 undef = .bool (decide (x.steps = y.steps)) := f85
    refine rely_wp rfl ?_
    exact opr_pick_b rfl f80 (fun hb => hK _ _ (NewT.refl _) (pn_and1 Q6_1 (f85 hb) hb)) (fun hb => hK _ _ (NewT.refl _) (pn_and0 Q6_1 hb))
  · intro a wx hT hF K hK
    obtain ⟨f86, _⟩ := hF
    have f86 : a.tmps.getD 86 undef = .bool (q6_1) := f86
    refine rely_wp rfl ?_
    exact opr_move (.inl rfl) (hK _ _ (NewT.refl _) f86)
  · intro a wx hT hF K hK
    obtain ⟨f2, f87, _⟩ := hF
    have f2 : a.tmps.getD 2 undef = .pointer (some ⟨w.heap.size, 0, none⟩) := f2
    have f87 : a.tmps.getD 87 undef = .bool (q6_1) := f87
    refine rely_if (rely_gt f87) (NewT.refl _) hK (fun hE hK => ?_)
    exact opr_fldR (by decide) rfl f2 (hK _ _ (NewT.refl _) rfl)
  · intro a wx hT hF K hK
    obtain ⟨f88, f87, _⟩ := hF
    have f88 : q6_1 = true → a.tmps.getD 88 undef = .pointer (some ⟨w.heap.size, 43, none⟩) := f88
    have f87 : a.tmps.getD 87 undef = .bool (q6_1) := f87
    refine rely_if (rely_gt f87) (NewT.refl _) hK (fun hE hK => ?_)
    exact opr_ldB (hT.row R1.out) (by decide) rfl rfl (f88 hE) (hK _ _ (NewT.refl _) rfl)
  · intro a wx hT hF K hK
    obtain ⟨f3, f87, _⟩ := hF
    have f3 : a.tmps.getD 3 undef = .pointer (some ⟨w.heap.size + 1, 0, none⟩) := f3
    have f87 : a.tmps.getD 87 undef = .bool (q6_1) := f87
    refine rely_if (rely_gt f87) (NewT.refl _) hK (fun hE hK => ?_)
    exact opr_fldR (by decide) rfl f3 (hK _ _ (NewT.refl _) rfl)
  · intro a wx hT hF K hK
    obtain ⟨f90, f87, _⟩ := hF
    have f90 : q6_1 = true → a.tmps.getD 90 undef = .pointer (some ⟨w.heap.size + 1, 43, none⟩) := f90
    have f87 : a.tmps.getD 87 undef = .bool (q6_1) := f87
    refine rely_if (rely_gt f87) (NewT.refl _) hK (fun hE hK => ?_)
    exact opr_ldB (hT.row R2.out) (by decide) rfl rfl (f90 hE) (hK _ _ (NewT.refl _) rfl)
  · intro a wx hT hF K hK
    obtain ⟨f89, f91, f87, _⟩ := hF
    have f89 : q6_1 = true → a.tmps.getD 89 undef = dv := f89
    have f91 : q6_1 = true → a.tmps.getD 91 undef = du := f91
    have f87 : a.tmps.getD 87 undef = .bool (q6_1) := f87
    refine rely_if (rely_gt f87) (NewT.refl _) hK (fun hE hK => ?_)
    exact opr_cv (Bytes_cv _ _ x.data y.data wx (hT.rd HD.out) (hT.rd HE.out) hl hm) rfl Tryd.func19 (by kernel_rfl) (by kernel_rfl) (by simp only [List.map_toArray, List.map_cons, List.map_nil, eval_tmp, (f89 hE), (f91 hE)]) hK
  · intro a wx hT hF K hK
    obtain ⟨f87, f92, _⟩ := hF
    have f87 : a.tmps.getD 87 undef = .bool (q6_1) := f87
    have f92 : q6_1 = true → a.tmps.getD 92 undef = .bool (decide (x.data = y.data)) := f92
    refine rely_wp rfl ?_
    exact opr_pick_b rfl f87 (fun hb => hK _ _ (NewT.refl _) (pn_and1 Q7_1 (f92 hb) hb)) (fun hb => hK _ _ (NewT.refl _) (pn_and0 Q7_1 hb))
  · intro a wx hT hF K hK
    obtain ⟨f93, _⟩ := hF
    have f93 : a.tmps.getD 93 undef = .bool (q7_1) := f93
    refine rely_wp rfl ?_
    exact opr_move (.inl rfl) (hK _ _ (NewT.refl _) f93)
  · intro a wx hT hF K hK
    obtain ⟨f2, f94, _⟩ := hF
    have f2 : a.tmps.getD 2 undef = .pointer (some ⟨w.heap.size, 0, none⟩) := f2
    have f94 : a.tmps.getD 94 undef = .bool (q7_1) := f94
    refine rely_if (rely_gt f94) (NewT.refl _) hK (fun hE hK => ?_)
    exact opr_fldR (by decide) rfl f2 (hK _ _ (NewT.refl _) rfl)
  · intro a wx hT hF K hK
    obtain ⟨f95, f94, _⟩ := hF
    have f95 : q7_1 = true → a.tmps.getD 95 undef = .pointer (some ⟨w.heap.size, 44, none⟩) := f95
    have f94 : a.tmps.getD 94 undef = .bool (q7_1) := f94
    refine rely_if (rely_gt f94) (NewT.refl _) hK (fun hE hK => ?_)
    exact opr_ldH (hT.row R1.out) (by decide) (recF_salt x _ _) rfl (f95 hE) (hK _ _ (NewT.refl _) rfl)
  · intro a wx hT hF K hK
    obtain ⟨f3, f94, _⟩ := hF
    have f3 : a.tmps.getD 3 undef = .pointer (some ⟨w.heap.size + 1, 0, none⟩) := f3
    have f94 : a.tmps.getD 94 undef = .bool (q7_1) := f94
    refine rely_if (rely_gt f94) (NewT.refl _) hK (fun hE hK => ?_)
    exact opr_fldR (by decide) rfl f3 (hK _ _ (NewT.refl _) rfl)
  · intro a wx hT hF K hK
    obtain ⟨f97, f94, _⟩ := hF
    have f97 : q7_1 = true → a.tmps.getD 97 undef = .pointer (some ⟨w.heap.size + 1, 44, none⟩) := f97
    have f94 : a.tmps.getD 94 undef = .bool (q7_1) := f94
    refine rely_if (rely_gt f94) (NewT.refl _) hK (fun hE hK => ?_)
    exact opr_ldH (hT.row R2.out) (by decide) (recF_salt y _ _) rfl (f97 hE) (hK _ _ (NewT.refl _) rfl)
  · intro a wx hT hF K hK
    obtain ⟨f96, f98, f94, _⟩ := hF
    have f96 : q7_1 = true → a.tmps.getD 96 undef = .agg (rowA 32 (bF (x.salt))) := f96
    have f98 : q7_1 = true → a.tmps.getD 98 undef = .agg (rowA 32 (bF (y.salt))) := f98
    have f94 : a.tmps.getD 94 undef = .bool (q7_1) := f94
    refine rely_if (rely_gt f94) (NewT.refl _) hK (fun hE hK => ?_)
    exact opr_eql_hash (b := eqH (x.salt) (y.salt)) rfl (f96 hE) (f98 hE) (rfl) (hK _ _ (NewT.refl _) rfl)
  · intro a wx hT hF K hK
    obtain ⟨f94, f99, _⟩ := hF
    have f94 : a.tmps.getD 94 undef = .bool (q7_1) := f94
    have f99 : q7_1 = true → a.tmps.getD 99 undef = .bool (eqH (x.salt) (y.salt)) := f99
    refine rely_wp rfl ?_
    exact opr_pick_b rfl f94 (fun hb => hK _ _ (NewT.refl _) (pn_and1 Q8_1 (f99 hb) hb)) (fun hb => hK _ _ (NewT.refl _) (pn_and0 Q8_1 hb))
  · intro a wx hT hF K hK
    obtain ⟨f100, _⟩ := hF
    have f100 : a.tmps.getD 100 undef = .bool (q8_1) := f100
    refine rely_wp rfl ?_
    exact opr_move (.inl rfl) (hK _ _ (NewT.refl _) f100)
  · intro a wx hT hF K hK
    obtain ⟨f2, f101, _⟩ := hF
    have f2 : a.tmps.getD 2 undef = .pointer (some ⟨w.heap.size, 0, none⟩) := f2
    have f101 : a.tmps.getD 101 undef = .bool (q8_1) := f101
    refine rely_if (rely_gt f101) (NewT.refl _) hK (fun hE hK => ?_)
    exact opr_fldR (by decide) rfl f2 (hK _ _ (NewT.refl _) rfl)
  · intro a wx hT hF K hK
    obtain ⟨f102, f101, _⟩ := hF
    have f102 : q8_1 = true → a.tmps.getD 102 undef = .pointer (some ⟨w.heap.size, 76, none⟩) := f102
    have f101 : a.tmps.getD 101 undef = .bool (q8_1) := f101
    refine rely_if (rely_gt f101) (NewT.refl _) hK (fun hE hK => ?_)
    exact opr_ldQ (hT.row R1.out) (by decide) rfl rfl (f102 hE) (hK _ _ (NewT.refl _) rfl)
  · intro a wx hT hF K hK
    obtain ⟨f3, f101, _⟩ := hF
    have f3 : a.tmps.getD 3 undef = .pointer (some ⟨w.heap.size + 1, 0, none⟩) := f3
    have f101 : a.tmps.getD 101 undef = .bool (q8_1) := f101
    refine rely_if (rely_gt f101) (NewT.refl _) hK (fun hE hK => ?_)
    exact opr_fldR (by decide) rfl f3 (hK _ _ (NewT.refl _) rfl)
  · intro a wx hT hF K hK
    obtain ⟨f104, f101, _⟩ := hF
    have f104 : q8_1 = true → a.tmps.getD 104 undef = .pointer (some ⟨w.heap.size + 1, 76, none⟩) := f104
    have f101 : a.tmps.getD 101 undef = .bool (q8_1) := f101
    refine rely_if (rely_gt f101) (NewT.refl _) hK (fun hE hK => ?_)
    exact opr_ldQ (hT.row R2.out) (by decide) rfl rfl (f104 hE) (hK _ _ (NewT.refl _) rfl)
  · intro a wx hT hF K hK
    obtain ⟨f103, f105, f101, _⟩ := hF
    have f103 : q8_1 = true → a.tmps.getD 103 undef = .bool (x.gone) := f103
    have f105 : q8_1 = true → a.tmps.getD 105 undef = .bool (y.gone) := f105
    have f101 : a.tmps.getD 101 undef = .bool (q8_1) := f101
    refine rely_if (rely_gt f101) (NewT.refl _) hK (fun hE hK => ?_)
    exact opr_eqlQ (b := x.gone == y.gone) (rfl) rfl (f103 hE) (f105 hE) (hK _ _ (NewT.refl _) rfl)
  · intro a wx hT hF K hK
    obtain ⟨f101, f106, _⟩ := hF
    have f101 : a.tmps.getD 101 undef = .bool (q8_1) := f101
    have f106 : q8_1 = true → a.tmps.getD 106 undef = .bool (x.gone == y.gone) := f106
    refine rely_wp rfl ?_
    exact opr_pick_b rfl f101 (fun hb => hK _ _ (NewT.refl _) (pk_and1 (f106 hb) hb)) (fun hb => hK _ _ (NewT.refl _) (pk_and0 hb))
  · intro a wx hT hF K hK
    obtain ⟨f107, _⟩ := hF
    have f107 : a.tmps.getD 107 undef = .bool (q8_1 && (x.gone == y.gone)) := f107
    refine rely_wp rfl ?_
    exact opr_move (.inl rfl) (hK _ _ (NewT.refl _) f107)
  · intro a wx hT hF K hK
    obtain ⟨f2, f108, _⟩ := hF
    have f2 : a.tmps.getD 2 undef = .pointer (some ⟨w.heap.size, 0, none⟩) := f2
    have f108 : a.tmps.getD 108 undef = .bool (q8_1 && (x.gone == y.gone)) := f108
    refine rely_if (rely_gt f108) (NewT.refl _) hK (fun hE hK => ?_)
    exact opr_fldR (by decide) rfl f2 (hK _ _ (NewT.refl _) rfl)
  · intro a wx hT hF K hK
    obtain ⟨f109, f108, _⟩ := hF
    have f109 : (q8_1 && (x.gone == y.gone)) = true → a.tmps.getD 109 undef = .pointer (some ⟨w.heap.size, 77, none⟩) := f109
    have f108 : a.tmps.getD 108 undef = .bool (q8_1 && (x.gone == y.gone)) := f108
    refine rely_if (rely_gt f108) (NewT.refl _) hK (fun hE hK => ?_)
    exact opr_ldH (hT.row R1.out) (by decide) (recF_com x _ _) rfl (f109 hE) (hK _ _ (NewT.refl _) rfl)
  · intro a wx hT hF K hK
    obtain ⟨f3, f108, _⟩ := hF
    have f3 : a.tmps.getD 3 undef = .pointer (some ⟨w.heap.size + 1, 0, none⟩) := f3
    have f108 : a.tmps.getD 108 undef = .bool (q8_1 && (x.gone == y.gone)) := f108
    refine rely_if (rely_gt f108) (NewT.refl _) hK (fun hE hK => ?_)
    exact opr_fldR (by decide) rfl f3 (hK _ _ (NewT.refl _) rfl)
  · intro a wx hT hF K hK
    obtain ⟨f111, f108, _⟩ := hF
    have f111 : (q8_1 && (x.gone == y.gone)) = true → a.tmps.getD 111 undef = .pointer (some ⟨w.heap.size + 1, 77, none⟩) := f111
    have f108 : a.tmps.getD 108 undef = .bool (q8_1 && (x.gone == y.gone)) := f108
    refine rely_if (rely_gt f108) (NewT.refl _) hK (fun hE hK => ?_)
    exact opr_ldH (hT.row R2.out) (by decide) (recF_com y _ _) rfl (f111 hE) (hK _ _ (NewT.refl _) rfl)
  · intro a wx hT hF K hK
    obtain ⟨f110, f112, f108, _⟩ := hF
    have f110 : (q8_1 && (x.gone == y.gone)) = true → a.tmps.getD 110 undef = .agg (rowA 32 (bF (x.com))) := f110
    have f112 : (q8_1 && (x.gone == y.gone)) = true → a.tmps.getD 112 undef = .agg (rowA 32 (bF (y.com))) := f112
    have f108 : a.tmps.getD 108 undef = .bool (q8_1 && (x.gone == y.gone)) := f108
    refine rely_if (rely_gt f108) (NewT.refl _) hK (fun hE hK => ?_)
    exact opr_eql_hash (b := eqH (x.com) (y.com)) rfl (f110 hE) (f112 hE) (rfl) (hK _ _ (NewT.refl _) rfl)
  · intro a wx hT hF K hK
    obtain ⟨f108, f113, _⟩ := hF
    have f108 : a.tmps.getD 108 undef = .bool (q8_1 && (x.gone == y.gone)) := f108
    have f113 : (q8_1 && (x.gone == y.gone)) = true → a.tmps.getD 113 undef = .bool (eqH (x.com) (y.com)) := f113
    refine rely_wp rfl ?_
    exact opr_pick_b rfl f108 (fun hb => hK _ _ (NewT.refl _) (pn_and1 Q9_1 (f113 hb) hb)) (fun hb => hK _ _ (NewT.refl _) (pn_and0 Q9_1 hb))
  · intro wx hT
    intro u h; obtain rfl := Eq.symm (h (by simp)); clear h
    intro u h; obtain rfl := Eq.symm (h (by simp)); clear h
    intro u h; obtain rfl := Eq.symm (h (by simp)); clear h
    intro u h; obtain rfl := Eq.symm (h (by simp)); clear h
    intro u h; obtain rfl := Eq.symm (h (by simp)); clear h
    intro u h; obtain rfl := Eq.symm (h (by simp)); clear h
    intro _ _
    intro _ _
    intro _ _
    intro _ _
    intro _ _
    intro u h; obtain rfl := Eq.symm (h (by simp)); clear h
    intro u h; obtain rfl := Eq.symm (h (by simp)); clear h
    intro _ _
    intro _ _
    intro _ _
    intro _ _
    intro _ _
    intro u h; obtain rfl := Eq.symm (h (by simp)); clear h
    intro u h; obtain rfl := Eq.symm (h (by simp)); clear h
    intro _ _
    intro _ _
    intro _ _
    intro _ _
    intro _ _
    intro u h; obtain rfl := Eq.symm (h (by simp)); clear h
    intro u h; obtain rfl := Eq.symm (h (by simp)); clear h
    intro _ _
    intro _ _
    intro _ _
    intro _ _
    intro _ _
    intro u h; obtain rfl := Eq.symm (h (by simp)); clear h
    intro u h; obtain rfl := Eq.symm (h (by simp)); clear h
    intro _ _
    intro _ _
    intro _ _
    intro _ _
    intro _ _
    intro u h; obtain rfl := Eq.symm (h (by simp)); clear h
    intro u h; obtain rfl := Eq.symm (h (by simp)); clear h
    intro _ _
    intro _ _
    intro _ _
    intro _ _
    intro _ _
    intro u h; obtain rfl := Eq.symm (h (by simp)); clear h
    intro u h; obtain rfl := Eq.symm (h (by simp)); clear h
    intro _ _
    intro _ _
    intro _ _
    intro _ _
    intro _ _
    intro u h; obtain rfl := Eq.symm (h (by simp)); clear h
    intro u h; obtain rfl := Eq.symm (h (by simp)); clear h
    intro _ _
    intro _ _
    intro _ _
    intro _ _
    intro _ _
    intro u h; obtain rfl := Eq.symm (h (by simp)); clear h
    intro u h; obtain rfl := Eq.symm (h (by simp)); clear h
    intro _ _
    intro _ _
    intro _ _
    intro _ _
    intro _ _
    intro u h; obtain rfl := Eq.symm (h (by simp)); clear h
    intro u h; obtain rfl := Eq.symm (h (by simp)); clear h
    intro _ _
    intro _ _
    intro _ _
    intro _ _
    intro _ _
    intro u h; obtain rfl := Eq.symm (h (by simp)); clear h
    intro u h; obtain rfl := Eq.symm (h (by simp)); clear h
    intro _ _
    intro _ _
    intro _ _
    intro _ _
    intro _ _
    intro u h; obtain rfl := Eq.symm (h (by simp)); clear h
    intro u h; obtain rfl := Eq.symm (h (by simp)); clear h
    intro _ _
    intro _ _
    intro _ _
    intro _ _
    intro _ _
    intro u h; obtain rfl := Eq.symm (h (by simp)); clear h
    intro u h; obtain rfl := Eq.symm (h (by simp)); clear h
    intro _ _
    intro _ _
    intro _ _
    intro _ _
    intro _ _
    intro u h; obtain rfl := Eq.symm (h (by simp)); clear h
    intro u h; obtain rfl := Eq.symm (h (by simp)); clear h
    intro _ _
    intro _ _
    intro _ _
    intro _ _
    intro _ _
    intro u h; obtain rfl := Eq.symm (h (by simp)); clear h
    intro u h; obtain rfl := Eq.symm (h (by simp)); clear h
    intro _ _
    intro _ _
    intro _ _
    intro _ _
    intro _ _
    intro u h; obtain rfl := Eq.symm (h (by simp)); clear h
    subst Q9_1 Q8_1 Q7_1 Q6_1 Q5_1 Q4_1 Q3_1 Q2_1 Q1_1
    refine relyEnd_nil rfl ?_
    simp only [Act.put, List.setIfInBounds_toArray, List.set_cons_zero, List.set_cons_succ]
    refine wpList_plain rfl (fun K hK => ?_)
    refine opr_move (.inr rfl) (hK _ _ ?_)
    refine wpList_end rfl ?_
    go_simp
    go_wp2
    go_ret
    exact ⟨_, rfl, NewT.trans _ _ _ HN.out hT, rfl⟩
end Go.Proofs.YthgblcpekhiphaaDoor
/- Package rec: inRange. -/
namespace Go.Proofs.YthgblcpekhiphaaDoor
open Go Go.RowKit
set_option maxRecDepth 8000
set_option maxHeartbeats 2000000 in
theorem inRange_cv (v : Value) (x : Rc) (w : World) (h : RecV w v x) : Cv 28 #[v] w (.eq (.bool (inRg x))) := by
  obtain ⟨sv, dv, rfl, hs, hd⟩ := h
  unfold Cv
  have HX : Hid (RecV w (.agg (rowA 109 (recF x sv dv))) x) := Lib.hid ⟨sv, dv, rfl, hs, hd⟩
  have HS := Lib.hid hs
  have HD := Lib.hid hd
  clear hs hd
  by_cases hk : x.kind = 1
  · have hI : inRg x = ((inR x.saga 0 11 && stepsOk x.steps) && decide ((x.data.length : Int) ≤ 60)) := by unfold inRg; simp only [hk]; simp
    rw [hI]
    clear hI
    go_enter Tryd.func28, Tryd.ntmps28
    go_upto_region 1 with fail
    have r1 := rowIs_box w 27 109 (recF x sv dv)
    have hN := NewT.alloc w (.cells (rowA 109 (recF x sv dv)) 27)
    change Code.wp _ _ _ _ (w.alloc (.cells (rowA 109 (recF x sv dv)) 27))
    generalize w.alloc (.cells (rowA 109 (recF x sv dv)) 27) = W0 at r1 hN ⊢
    have R1 := Lib.hid r1
    have HN := Lib.hid hN
    replace HX := Lib.hid (hN.recV HX.out)
    replace HS := Lib.hid (hN.pairs HS.out)
    replace HD := Lib.hid (hN.rd HD.out)
    clear r1 hN
    have c0 : W0.cell? ⟨w.heap.size, 0, none⟩ = some (.int .i64 x.kind) := R1.out.cell (by omega)
    rw [hk] at c0
    go_upto_region 8 with fail
    clear c0
    obtain ⟨q1_8, Q1_8⟩ : ∃ q, ((inR x.saga 0 11) && (stepsOk x.steps)) = q := ⟨_, rfl⟩
    obtain ⟨q2_8, Q2_8⟩ : ∃ q, (q1_8 && (decide (((List.length (x.data) : Int)) ≤ 60))) = q := ⟨_, rfl⟩
    refine wp_region_steps0 NewT [SV.eq (.pointer (some ⟨w.heap.size, 1, none⟩)), SV.eq (.int .i64 (x.saga)), SV.eq (.bool (inR x.saga 0 11)), SV.eq (.bool (inR x.saga 0 11)), svIf (inR x.saga 0 11) (SV.eq (.pointer (some ⟨w.heap.size, 42, none⟩))), svIf (inR x.saga 0 11) (SV.eq (sv)), svIf (inR x.saga 0 11) (SV.eq (.bool (stepsOk x.steps))), SV.eq (.bool (q1_8)), SV.eq (.bool (q1_8)), svIf q1_8 (SV.eq (.pointer (some ⟨w.heap.size, 43, none⟩))), svIf q1_8 (SV.eq (dv)), svIf q1_8 (SV.eq (.int .i64 ((List.length (x.data) : Int)))), svIf q1_8 (SV.eq (.bool (decide (((List.length (x.data) : Int)) ≤ 60)))), SV.eq (.bool (q2_8)), SV.eq (.bool (q2_8))] [([(1, none)], none), ([(16, some 0)], none), ([(17, some 1)], none), ([(18, some 2)], none), ([(1, none), (19, some 3)], some (19, true)), ([(20, some 4), (19, some 3)], some (19, true)), ([(21, some 5), (19, some 3)], some (19, true)), ([(19, some 3), (22, some 6)], none), ([(23, some 7)], none), ([(1, none), (24, some 8)], some (24, true)), ([(25, some 9), (24, some 8)], some (24, true)), ([(26, some 10), (24, some 8)], some (24, true)), ([(27, some 11), (24, some 8)], some (24, true)), ([(24, some 8), (28, some 12)], none), ([(29, some 13)], none)] 79 15 rfl rfl (by kernel_rfl) NewT.trans (NewT.refl _) (Nat.le_of_ble_eq_true rfl) ⟨?_, ?_, ?_, ?_, ?_, ?_, ?_, ?_, ?_, ?_, ?_, ?_, ?_, ?_, ?_, trivial⟩ ?_
    · intro a wx hT hF K hK
      obtain ⟨f1, _⟩ := hF
      have f1 : a.tmps.getD 1 undef = .pointer (some ⟨w.heap.size, 0, none⟩) := f1
      refine rely_wp rfl ?_
      exact opr_fldR (by decide) rfl f1 (hK _ _ (NewT.refl _) rfl)
    · intro a wx hT hF K hK
      obtain ⟨f16, _⟩ := hF
      have f16 : a.tmps.getD 16 undef = .pointer (some ⟨w.heap.size, 1, none⟩) := f16
      refine rely_wp rfl ?_
      exact opr_ldI (hT.row R1.out) (by decide) rfl rfl f16 (hK _ _ (NewT.refl _) rfl)
    · intro a wx hT hF K hK
      obtain ⟨f17, _⟩ := hF
      have f17 : a.tmps.getD 17 undef = .int .i64 (x.saga) := f17
      refine rely_wp rfl ?_
      exact opr_cv (isSaga_cv x.saga wx) rfl Tryd.func48 (by kernel_rfl) (by kernel_rfl) (by simp only [List.map_toArray, List.map_cons, List.map_nil, eval_tmp, f17]) hK
    · intro a wx hT hF K hK
      obtain ⟨f18, _⟩ := hF
      have f18 : a.tmps.getD 18 undef = .bool (inR x.saga 0 11) := f18
      refine rely_wp rfl ?_
      exact opr_move (.inl rfl) (hK _ _ (NewT.refl _) f18)
    · intro a wx hT hF K hK
      obtain ⟨f1, f19, _⟩ := hF
      have f1 : a.tmps.getD 1 undef = .pointer (some ⟨w.heap.size, 0, none⟩) := f1
      have f19 : a.tmps.getD 19 undef = .bool (inR x.saga 0 11) := f19
      refine rely_if (rely_gt f19) (NewT.refl _) hK (fun hE hK => ?_)
      exact opr_fldR (by decide) rfl f1 (hK _ _ (NewT.refl _) rfl)
    · intro a wx hT hF K hK
      obtain ⟨f20, f19, _⟩ := hF
      have f20 : (inR x.saga 0 11) = true → a.tmps.getD 20 undef = .pointer (some ⟨w.heap.size, 42, none⟩) := f20
      have f19 : a.tmps.getD 19 undef = .bool (inR x.saga 0 11) := f19
      refine rely_if (rely_gt f19) (NewT.refl _) hK (fun hE hK => ?_)
      exact opr_ldS (hT.row R1.out) (by decide) rfl rfl (f20 hE) (hK _ _ (NewT.refl _) rfl)
    · intro a wx hT hF K hK
      obtain ⟨f21, f19, _⟩ := hF
      have f21 : (inR x.saga 0 11) = true → a.tmps.getD 21 undef = sv := f21
      have f19 : a.tmps.getD 19 undef = .bool (inR x.saga 0 11) := f19
      refine rely_if (rely_gt f19) (NewT.refl _) hK (fun hE hK => ?_)
      exact opr_cv (areSteps_cv _ x.steps wx (hT.pairs HS.out)) rfl Tryd.func49 (by kernel_rfl) (by kernel_rfl) (by simp only [List.map_toArray, List.map_cons, List.map_nil, eval_tmp, (f21 hE)]) hK
    · intro a wx hT hF K hK
      obtain ⟨f19, f22, _⟩ := hF
      have f19 : a.tmps.getD 19 undef = .bool (inR x.saga 0 11) := f19
      have f22 : (inR x.saga 0 11) = true → a.tmps.getD 22 undef = .bool (stepsOk x.steps) := f22
      refine rely_wp rfl ?_
      exact opr_pick_b rfl f19 (fun hb => hK _ _ (NewT.refl _) (pn_and1 Q1_8 (f22 hb) hb)) (fun hb => hK _ _ (NewT.refl _) (pn_and0 Q1_8 hb))
    · intro a wx hT hF K hK
      obtain ⟨f23, _⟩ := hF
      have f23 : a.tmps.getD 23 undef = .bool (q1_8) := f23
      refine rely_wp rfl ?_
      exact opr_move (.inl rfl) (hK _ _ (NewT.refl _) f23)
    · intro a wx hT hF K hK
      obtain ⟨f1, f24, _⟩ := hF
      have f1 : a.tmps.getD 1 undef = .pointer (some ⟨w.heap.size, 0, none⟩) := f1
      have f24 : a.tmps.getD 24 undef = .bool (q1_8) := f24
      refine rely_if (rely_gt f24) (NewT.refl _) hK (fun hE hK => ?_)
      exact opr_fldR (by decide) rfl f1 (hK _ _ (NewT.refl _) rfl)
    · intro a wx hT hF K hK
      obtain ⟨f25, f24, _⟩ := hF
      have f25 : q1_8 = true → a.tmps.getD 25 undef = .pointer (some ⟨w.heap.size, 43, none⟩) := f25
      have f24 : a.tmps.getD 24 undef = .bool (q1_8) := f24
      refine rely_if (rely_gt f24) (NewT.refl _) hK (fun hE hK => ?_)
      exact opr_ldB (hT.row R1.out) (by decide) rfl rfl (f25 hE) (hK _ _ (NewT.refl _) rfl)
    · intro a wx hT hF K hK
      obtain ⟨f26, f24, _⟩ := hF
      have f26 : q1_8 = true → a.tmps.getD 26 undef = dv := f26
      have f24 : a.tmps.getD 24 undef = .bool (q1_8) := f24
      refine rely_if (rely_gt f24) (NewT.refl _) hK (fun hE hK => ?_)
      exact opr_len_rd rfl (by rw [eval_tmp, (f26 hE)]; exact (hT.rd HD.out)) (hK _ _ (NewT.refl _) rfl)
    · intro a wx hT hF K hK
      obtain ⟨f27, f24, _⟩ := hF
      have f27 : q1_8 = true → a.tmps.getD 27 undef = .int .i64 ((List.length (x.data) : Int)) := f27
      have f24 : a.tmps.getD 24 undef = .bool (q1_8) := f24
      refine rely_if (rely_gt f24) (NewT.refl _) hK (fun hE hK => ?_)
      exact opr_cmp (b := decide (((List.length (x.data) : Int)) ≤ 60)) (.inr (.inr (.inl ⟨rfl, rfl⟩))) Tryd.underlying3 rfl (f27 hE) rfl (hK _ _ (NewT.refl _) rfl)
    · intro a wx hT hF K hK
      obtain ⟨f24, f28, _⟩ := hF
      have f24 : a.tmps.getD 24 undef = .bool (q1_8) := f24
      have f28 : q1_8 = true → a.tmps.getD 28 undef = .bool (decide (((List.length (x.data) : Int)) ≤ 60)) := f28
      refine rely_wp rfl ?_
      exact opr_pick_b rfl f24 (fun hb => hK _ _ (NewT.refl _) (pn_and1 Q2_8 (f28 hb) hb)) (fun hb => hK _ _ (NewT.refl _) (pn_and0 Q2_8 hb))
    · intro a wx hT hF K hK
      obtain ⟨f29, _⟩ := hF
      have f29 : a.tmps.getD 29 undef = .bool (q2_8) := f29
      refine rely_wp rfl ?_
      exact opr_move (.inr rfl) (hK _ _ (NewT.refl _) f29)
    · intro wx hT
      intro u h; obtain rfl := Eq.symm (h (by simp)); clear h
      intro u h; obtain rfl := Eq.symm (h (by simp)); clear h
      intro u h; obtain rfl := Eq.symm (h (by simp)); clear h
      intro u h; obtain rfl := Eq.symm (h (by simp)); clear h
      intro _ _
      intro _ _
      intro _ _
      intro u h; obtain rfl := Eq.symm (h (by simp)); clear h
      intro u h; obtain rfl := Eq.symm (h (by simp)); clear h
      intro _ _
      intro _ _
      intro _ _
      intro _ _
      intro u h; obtain rfl := Eq.symm (h (by simp)); clear h
      intro u h; obtain rfl := Eq.symm (h (by simp)); clear h
      subst Q2_8 Q1_8
      refine relyEnd_nil rfl ?_
      refine wpList_end rfl ?_
      simp only [Act.put, List.setIfInBounds_toArray, List.set_cons_zero, List.set_cons_succ]
      go_simp
      go_wp2
      go_ret
      exact ⟨_, rfl, NewT.trans _ _ _ HN.out hT, rfl⟩
  have k1 := hk
  clear hk
  by_cases hk : x.kind = 3
  · have hI : inRg x = ((!((!inR x.part 0 3) || !inR x.epoch 0 400)) && (((inR x.saga 0 11 && inR x.seq 1 400) && inR x.step 0 5) && inR x.tr 1 9)) := by unfold inRg; simp only [hk]; simp
    rw [hI]
    clear hI
    go_enter Tryd.func28, Tryd.ntmps28
    go_upto_region 1 with fail
    have r1 := rowIs_box w 27 109 (recF x sv dv)
    have hN := NewT.alloc w (.cells (rowA 109 (recF x sv dv)) 27)
    change Code.wp _ _ _ _ (w.alloc (.cells (rowA 109 (recF x sv dv)) 27))
    generalize w.alloc (.cells (rowA 109 (recF x sv dv)) 27) = W0 at r1 hN ⊢
    have R1 := Lib.hid r1
    have HN := Lib.hid hN
    replace HX := Lib.hid (hN.recV HX.out)
    replace HS := Lib.hid (hN.pairs HS.out)
    replace HD := Lib.hid (hN.rd HD.out)
    clear r1 hN
    have c0 : W0.cell? ⟨w.heap.size, 0, none⟩ = some (.int .i64 x.kind) := R1.out.cell (by omega)
    rw [hk] at c0
    go_upto_region 9 with fail
    clear c0
    obtain ⟨q1_9, Q1_9⟩ : ∃ q, ((!(inR x.part 0 3)) || (!(inR x.epoch 0 400))) = q := ⟨_, rfl⟩
    refine wp_region_steps0 NewT [SV.eq (.pointer (some ⟨w.heap.size, 8, none⟩)), SV.eq (.int .i64 (x.part)), SV.eq (.bool (inR x.part 0 3)), SV.eq (.bool (!(inR x.part 0 3))), SV.eq (.bool (!(inR x.part 0 3))), svIf ((!(!(inR x.part 0 3)))) (SV.eq (.pointer (some ⟨w.heap.size, 9, none⟩))), svIf ((!(!(inR x.part 0 3)))) (SV.eq (.int .i64 (x.epoch))), svIf ((!(!(inR x.part 0 3)))) (SV.eq (.bool (inR x.epoch 0 400))), svIf ((!(!(inR x.part 0 3)))) (SV.eq (.bool (!(inR x.epoch 0 400)))), SV.eq (.bool (q1_9))] [([(1, none)], none), ([(30, some 0)], none), ([(31, some 1)], none), ([(32, some 2)], none), ([(33, some 3)], none), ([(1, none), (34, some 4)], some (34, false)), ([(35, some 5), (34, some 4)], some (34, false)), ([(36, some 6), (34, some 4)], some (34, false)), ([(37, some 7), (34, some 4)], some (34, false)), ([(34, some 4), (38, some 8)], none)] 79 10 rfl rfl (by kernel_rfl) NewT.trans (NewT.refl _) (Nat.le_of_ble_eq_true rfl) ⟨?_, ?_, ?_, ?_, ?_, ?_, ?_, ?_, ?_, ?_, trivial⟩ ?_
    · intro a wx hT hF K hK
      obtain ⟨f1, _⟩ := hF
      have f1 : a.tmps.getD 1 undef = .pointer (some ⟨w.heap.size, 0, none⟩) := f1
      refine rely_wp rfl ?_
      exact opr_fldR (by decide) rfl f1 (hK _ _ (NewT.refl _) rfl)
    · intro a wx hT hF K hK
      obtain ⟨f30, _⟩ := hF
      have f30 : a.tmps.getD 30 undef = .pointer (some ⟨w.heap.size, 8, none⟩) := f30
      refine rely_wp rfl ?_
      exact opr_ldI (hT.row R1.out) (by decide) rfl rfl f30 (hK _ _ (NewT.refl _) rfl)
    · intro a wx hT hF K hK
      obtain ⟨f31, _⟩ := hF
      have f31 : a.tmps.getD 31 undef = .int .i64 (x.part) := f31
      refine rely_wp rfl ?_
      exact opr_cv (isPart_cv x.part wx) rfl Tryd.func50 (by kernel_rfl) (by kernel_rfl) (by simp only [List.map_toArray, List.map_cons, List.map_nil, eval_tmp, f31]) hK
    · intro a wx hT hF K hK
      obtain ⟨f32, _⟩ := hF
      have f32 : a.tmps.getD 32 undef = .bool (inR x.part 0 3) := f32
      refine rely_wp rfl ?_
      exact opr_not rfl f32 (hK _ _ (NewT.refl _) rfl)
    · intro a wx hT hF K hK
      obtain ⟨f33, _⟩ := hF
      have f33 : a.tmps.getD 33 undef = .bool (!(inR x.part 0 3)) := f33
      refine rely_wp rfl ?_
      exact opr_move (.inl rfl) (hK _ _ (NewT.refl _) f33)
    · intro a wx hT hF K hK
      obtain ⟨f1, f34, _⟩ := hF
      have f1 : a.tmps.getD 1 undef = .pointer (some ⟨w.heap.size, 0, none⟩) := f1
      have f34 : a.tmps.getD 34 undef = .bool (!(inR x.part 0 3)) := f34
      refine rely_if (rely_gf f34) (NewT.refl _) hK (fun hE hK => ?_)
      exact opr_fldR (by decide) rfl f1 (hK _ _ (NewT.refl _) rfl)
    · intro a wx hT hF K hK
      obtain ⟨f35, f34, _⟩ := hF
      have f35 : ((!(!(inR x.part 0 3)))) = true → a.tmps.getD 35 undef = .pointer (some ⟨w.heap.size, 9, none⟩) := f35
      have f34 : a.tmps.getD 34 undef = .bool (!(inR x.part 0 3)) := f34
      refine rely_if (rely_gf f34) (NewT.refl _) hK (fun hE hK => ?_)
      exact opr_ldI (hT.row R1.out) (by decide) rfl rfl (f35 hE) (hK _ _ (NewT.refl _) rfl)
    · intro a wx hT hF K hK
      obtain ⟨f36, f34, _⟩ := hF
      have f36 : ((!(!(inR x.part 0 3)))) = true → a.tmps.getD 36 undef = .int .i64 (x.epoch) := f36
      have f34 : a.tmps.getD 34 undef = .bool (!(inR x.part 0 3)) := f34
      refine rely_if (rely_gf f34) (NewT.refl _) hK (fun hE hK => ?_)
      exact opr_cv (within_cv x.epoch 0 400 wx) rfl Tryd.func45 (by kernel_rfl) (by kernel_rfl) (by simp only [List.map_toArray, List.map_cons, List.map_nil, eval_tmp, eval_const, (f36 hE)]) hK
    · intro a wx hT hF K hK
      obtain ⟨f37, f34, _⟩ := hF
      have f37 : ((!(!(inR x.part 0 3)))) = true → a.tmps.getD 37 undef = .bool (inR x.epoch 0 400) := f37
      have f34 : a.tmps.getD 34 undef = .bool (!(inR x.part 0 3)) := f34
      refine rely_if (rely_gf f34) (NewT.refl _) hK (fun hE hK => ?_)
      exact opr_not rfl (f37 hE) (hK _ _ (NewT.refl _) rfl)
    · intro a wx hT hF K hK
      obtain ⟨f34, f38, _⟩ := hF
      have f34 : a.tmps.getD 34 undef = .bool (!(inR x.part 0 3)) := f34
      have f38 : ((!(!(inR x.part 0 3)))) = true → a.tmps.getD 38 undef = .bool (!(inR x.epoch 0 400)) := f38
      refine rely_wp rfl ?_
      exact opr_pick_b rfl f34 (fun hb => hK _ _ (NewT.refl _) (pn_or1 Q1_9 hb)) (fun hb => hK _ _ (NewT.refl _) (pn_or0 Q1_9 (f38 (bnot hb)) hb))
    · intro w9 h9
      intro u h; obtain rfl := Eq.symm (h (by simp)); clear h
      intro u h; obtain rfl := Eq.symm (h (by simp)); clear h
      intro u h; obtain rfl := Eq.symm (h (by simp)); clear h
      intro u h; obtain rfl := Eq.symm (h (by simp)); clear h
      intro u h; obtain rfl := Eq.symm (h (by simp)); clear h
      intro _ _
      intro _ _
      intro _ _
      intro _ _
      intro u h; obtain rfl := Eq.symm (h (by simp)); clear h
      subst Q1_9
      refine relyEnd_nil rfl ?_
      refine wpList_end rfl ?_
      simp only [Act.put, List.setIfInBounds_toArray, List.set_cons_zero, List.set_cons_succ]
      go_simp
      cases hb : ((!inR x.part 0 3) || !inR x.epoch 0 400)
      · go_upto_region 11 with fail
        obtain ⟨q1_11, Q1_11⟩ : ∃ q, ((inR x.saga 0 11) && (inR x.seq 1 400)) = q := ⟨_, rfl⟩
        obtain ⟨q2_11, Q2_11⟩ : ∃ q, ((q1_11 && (inR x.step 0 5)) && (inR x.tr 1 9)) = q := ⟨_, rfl⟩
        refine wp_region_steps0 NewT [SV.eq (.pointer (some ⟨w.heap.size, 1, none⟩)), SV.eq (.int .i64 (x.saga)), SV.eq (.bool (inR x.saga 0 11)), SV.eq (.bool (inR x.saga 0 11)), svIf (inR x.saga 0 11) (SV.eq (.pointer (some ⟨w.heap.size, 2, none⟩))), svIf (inR x.saga 0 11) (SV.eq (.int .i64 (x.seq))), svIf (inR x.saga 0 11) (SV.eq (.bool (inR x.seq 1 400))), SV.eq (.bool (q1_11)), SV.eq (.bool (q1_11)), svIf q1_11 (SV.eq (.pointer (some ⟨w.heap.size, 3, none⟩))), svIf q1_11 (SV.eq (.int .i64 (x.step))), svIf q1_11 (SV.eq (.bool (inR x.step 0 5))), SV.eq (.bool (q1_11 && (inR x.step 0 5))), SV.eq (.bool (q1_11 && (inR x.step 0 5))), svIf (q1_11 && (inR x.step 0 5)) (SV.eq (.pointer (some ⟨w.heap.size, 4, none⟩))), svIf (q1_11 && (inR x.step 0 5)) (SV.eq (.int .i64 (x.tr))), svIf (q1_11 && (inR x.step 0 5)) (SV.eq (.bool (inR x.tr 1 9))), SV.eq (.bool (q2_11)), SV.eq (.bool (q2_11))] [([(1, none)], none), ([(40, some 0)], none), ([(41, some 1)], none), ([(42, some 2)], none), ([(1, none), (43, some 3)], some (43, true)), ([(44, some 4), (43, some 3)], some (43, true)), ([(45, some 5), (43, some 3)], some (43, true)), ([(43, some 3), (46, some 6)], none), ([(47, some 7)], none), ([(1, none), (48, some 8)], some (48, true)), ([(49, some 9), (48, some 8)], some (48, true)), ([(50, some 10), (48, some 8)], some (48, true)), ([(48, some 8), (51, some 11)], none), ([(52, some 12)], none), ([(1, none), (53, some 13)], some (53, true)), ([(54, some 14), (53, some 13)], some (53, true)), ([(55, some 15), (53, some 13)], some (53, true)), ([(53, some 13), (56, some 16)], none), ([(57, some 17)], none)] 79 19 rfl rfl (by kernel_rfl) NewT.trans (NewT.refl _) (Nat.le_of_ble_eq_true rfl) ⟨?_, ?_, ?_, ?_, ?_, ?_, ?_, ?_, ?_, ?_, ?_, ?_, ?_, ?_, ?_, ?_, ?_, ?_, ?_, trivial⟩ ?_
        · intro a wx hT hF K hK
          obtain ⟨f1, _⟩ := hF
          have f1 : a.tmps.getD 1 undef = .pointer (some ⟨w.heap.size, 0, none⟩) := f1
          refine rely_wp rfl ?_
          exact opr_fldR (by decide) rfl f1 (hK _ _ (NewT.refl _) rfl)
        · intro a wx hT hF K hK
          obtain ⟨f40, _⟩ := hF
          have f40 : a.tmps.getD 40 undef = .pointer (some ⟨w.heap.size, 1, none⟩) := f40
          refine rely_wp rfl ?_
          exact opr_ldI (hT.row (NewT.row h9 R1.out)) (by decide) rfl rfl f40 (hK _ _ (NewT.refl _) rfl)
        · intro a wx hT hF K hK
          obtain ⟨f41, _⟩ := hF
          have f41 : a.tmps.getD 41 undef = .int .i64 (x.saga) := f41
          refine rely_wp rfl ?_
          exact opr_cv (isSaga_cv x.saga wx) rfl Tryd.func48 (by kernel_rfl) (by kernel_rfl) (by simp only [List.map_toArray, List.map_cons, List.map_nil, eval_tmp, f41]) hK
        · intro a wx hT hF K hK
          obtain ⟨f42, _⟩ := hF
          have f42 : a.tmps.getD 42 undef = .bool (inR x.saga 0 11) := f42
          refine rely_wp rfl ?_
          exact opr_move (.inl rfl) (hK _ _ (NewT.refl _) f42)
        · intro a wx hT hF K hK
          obtain ⟨f1, f43, _⟩ := hF
          have f1 : a.tmps.getD 1 undef = .pointer (some ⟨w.heap.size, 0, none⟩) := f1
          have f43 : a.tmps.getD 43 undef = .bool (inR x.saga 0 11) := f43
          refine rely_if (rely_gt f43) (NewT.refl _) hK (fun hE hK => ?_)
          exact opr_fldR (by decide) rfl f1 (hK _ _ (NewT.refl _) rfl)
        · intro a wx hT hF K hK
          obtain ⟨f44, f43, _⟩ := hF
          have f44 : (inR x.saga 0 11) = true → a.tmps.getD 44 undef = .pointer (some ⟨w.heap.size, 2, none⟩) := f44
          have f43 : a.tmps.getD 43 undef = .bool (inR x.saga 0 11) := f43
          refine rely_if (rely_gt f43) (NewT.refl _) hK (fun hE hK => ?_)
          exact opr_ldI (hT.row (NewT.row h9 R1.out)) (by decide) rfl rfl (f44 hE) (hK _ _ (NewT.refl _) rfl)
        · intro a wx hT hF K hK
          obtain ⟨f45, f43, _⟩ := hF
          have f45 : (inR x.saga 0 11) = true → a.tmps.getD 45 undef = .int .i64 (x.seq) := f45
          have f43 : a.tmps.getD 43 undef = .bool (inR x.saga 0 11) := f43
          refine rely_if (rely_gt f43) (NewT.refl _) hK (fun hE hK => ?_)
          exact opr_cv (isSeq_cv x.seq wx) rfl Tryd.func51 (by kernel_rfl) (by kernel_rfl) (by simp only [List.map_toArray, List.map_cons, List.map_nil, eval_tmp, (f45 hE)]) hK
        · intro a wx hT hF K hK
          obtain ⟨f43, f46, _⟩ := hF
          have f43 : a.tmps.getD 43 undef = .bool (inR x.saga 0 11) := f43
          have f46 : (inR x.saga 0 11) = true → a.tmps.getD 46 undef = .bool (inR x.seq 1 400) := f46
          refine rely_wp rfl ?_
          exact opr_pick_b rfl f43 (fun hb => hK _ _ (NewT.refl _) (pn_and1 Q1_11 (f46 hb) hb)) (fun hb => hK _ _ (NewT.refl _) (pn_and0 Q1_11 hb))
        · intro a wx hT hF K hK
          obtain ⟨f47, _⟩ := hF
          have f47 : a.tmps.getD 47 undef = .bool (q1_11) := f47
          refine rely_wp rfl ?_
          exact opr_move (.inl rfl) (hK _ _ (NewT.refl _) f47)
        · intro a wx hT hF K hK
          obtain ⟨f1, f48, _⟩ := hF
          have f1 : a.tmps.getD 1 undef = .pointer (some ⟨w.heap.size, 0, none⟩) := f1
          have f48 : a.tmps.getD 48 undef = .bool (q1_11) := f48
          refine rely_if (rely_gt f48) (NewT.refl _) hK (fun hE hK => ?_)
          exact opr_fldR (by decide) rfl f1 (hK _ _ (NewT.refl _) rfl)
        · intro a wx hT hF K hK
          obtain ⟨f49, f48, _⟩ := hF
          have f49 : q1_11 = true → a.tmps.getD 49 undef = .pointer (some ⟨w.heap.size, 3, none⟩) := f49
          have f48 : a.tmps.getD 48 undef = .bool (q1_11) := f48
          refine rely_if (rely_gt f48) (NewT.refl _) hK (fun hE hK => ?_)
          exact opr_ldI (hT.row (NewT.row h9 R1.out)) (by decide) rfl rfl (f49 hE) (hK _ _ (NewT.refl _) rfl)
        · intro a wx hT hF K hK
          obtain ⟨f50, f48, _⟩ := hF
          have f50 : q1_11 = true → a.tmps.getD 50 undef = .int .i64 (x.step) := f50
          have f48 : a.tmps.getD 48 undef = .bool (q1_11) := f48
          refine rely_if (rely_gt f48) (NewT.refl _) hK (fun hE hK => ?_)
          exact opr_cv (within_cv x.step 0 5 wx) rfl Tryd.func45 (by kernel_rfl) (by kernel_rfl) (by simp only [List.map_toArray, List.map_cons, List.map_nil, eval_tmp, eval_const, (f50 hE)]) hK
        · intro a wx hT hF K hK
          obtain ⟨f48, f51, _⟩ := hF
          have f48 : a.tmps.getD 48 undef = .bool (q1_11) := f48
          have f51 : q1_11 = true → a.tmps.getD 51 undef = .bool (inR x.step 0 5) := f51
          refine rely_wp rfl ?_
          exact opr_pick_b rfl f48 (fun hb => hK _ _ (NewT.refl _) (pk_and1 (f51 hb) hb)) (fun hb => hK _ _ (NewT.refl _) (pk_and0 hb))
        · intro a wx hT hF K hK
          obtain ⟨f52, _⟩ := hF
          have f52 : a.tmps.getD 52 undef = .bool (q1_11 && (inR x.step 0 5)) := f52
          refine rely_wp rfl ?_
          exact opr_move (.inl rfl) (hK _ _ (NewT.refl _) f52)
        · intro a wx hT hF K hK
          obtain ⟨f1, f53, _⟩ := hF
          have f1 : a.tmps.getD 1 undef = .pointer (some ⟨w.heap.size, 0, none⟩) := f1
          have f53 : a.tmps.getD 53 undef = .bool (q1_11 && (inR x.step 0 5)) := f53
          refine rely_if (rely_gt f53) (NewT.refl _) hK (fun hE hK => ?_)
          exact opr_fldR (by decide) rfl f1 (hK _ _ (NewT.refl _) rfl)
        · intro a wx hT hF K hK
          obtain ⟨f54, f53, _⟩ := hF
          have f54 : (q1_11 && (inR x.step 0 5)) = true → a.tmps.getD 54 undef = .pointer (some ⟨w.heap.size, 4, none⟩) := f54
          have f53 : a.tmps.getD 53 undef = .bool (q1_11 && (inR x.step 0 5)) := f53
          refine rely_if (rely_gt f53) (NewT.refl _) hK (fun hE hK => ?_)
          exact opr_ldI (hT.row (NewT.row h9 R1.out)) (by decide) rfl rfl (f54 hE) (hK _ _ (NewT.refl _) rfl)
        · intro a wx hT hF K hK
          obtain ⟨f55, f53, _⟩ := hF
          have f55 : (q1_11 && (inR x.step 0 5)) = true → a.tmps.getD 55 undef = .int .i64 (x.tr) := f55
          have f53 : a.tmps.getD 53 undef = .bool (q1_11 && (inR x.step 0 5)) := f53
          refine rely_if (rely_gt f53) (NewT.refl _) hK (fun hE hK => ?_)
          exact opr_cv (within_cv x.tr 1 9 wx) rfl Tryd.func45 (by kernel_rfl) (by kernel_rfl) (by simp only [List.map_toArray, List.map_cons, List.map_nil, eval_tmp, eval_const, (f55 hE)]) hK
        · intro a wx hT hF K hK
          obtain ⟨f53, f56, _⟩ := hF
          have f53 : a.tmps.getD 53 undef = .bool (q1_11 && (inR x.step 0 5)) := f53
          have f56 : (q1_11 && (inR x.step 0 5)) = true → a.tmps.getD 56 undef = .bool (inR x.tr 1 9) := f56
          refine rely_wp rfl ?_
          exact opr_pick_b rfl f53 (fun hb => hK _ _ (NewT.refl _) (pn_and1 Q2_11 (f56 hb) hb)) (fun hb => hK _ _ (NewT.refl _) (pn_and0 Q2_11 hb))
        · intro a wx hT hF K hK
          obtain ⟨f57, _⟩ := hF
          have f57 : a.tmps.getD 57 undef = .bool (q2_11) := f57
          refine rely_wp rfl ?_
          exact opr_move (.inr rfl) (hK _ _ (NewT.refl _) f57)
        · intro wx hT
          intro u h; obtain rfl := Eq.symm (h (by simp)); clear h
          intro u h; obtain rfl := Eq.symm (h (by simp)); clear h
          intro u h; obtain rfl := Eq.symm (h (by simp)); clear h
          intro u h; obtain rfl := Eq.symm (h (by simp)); clear h
          intro _ _
          intro _ _
          intro _ _
          intro u h; obtain rfl := Eq.symm (h (by simp)); clear h
          intro u h; obtain rfl := Eq.symm (h (by simp)); clear h
          intro _ _
          intro _ _
          intro _ _
          intro u h; obtain rfl := Eq.symm (h (by simp)); clear h
          intro u h; obtain rfl := Eq.symm (h (by simp)); clear h
          intro _ _
          intro _ _
          intro _ _
          intro u h; obtain rfl := Eq.symm (h (by simp)); clear h
          intro u h; obtain rfl := Eq.symm (h (by simp)); clear h
          subst Q2_11 Q1_11
          refine relyEnd_nil rfl ?_
          refine wpList_end rfl ?_
          simp only [Act.put, List.setIfInBounds_toArray, List.set_cons_zero, List.set_cons_succ]
          go_simp
          go_wp2
          go_ret
          exact ⟨_, rfl, NewT.trans _ _ _ HN.out (NewT.trans _ _ _ h9 hT), rfl⟩
      · go_wp2
        go_ret
        exact ⟨_, rfl, NewT.trans _ _ _ HN.out h9, rfl⟩
  have k3 := hk
  clear hk
  by_cases hk : x.kind = 2
  · have hI : inRg x = (((inR x.saga 0 11 && inR x.seq 1 400) && inR x.step 0 5) && inR x.tr 1 9) := by unfold inRg; simp only [hk]; simp
    rw [hI]
    clear hI
    go_enter Tryd.func28, Tryd.ntmps28
    go_upto_region 1 with fail
    have r1 := rowIs_box w 27 109 (recF x sv dv)
    have hN := NewT.alloc w (.cells (rowA 109 (recF x sv dv)) 27)
    change Code.wp _ _ _ _ (w.alloc (.cells (rowA 109 (recF x sv dv)) 27))
    generalize w.alloc (.cells (rowA 109 (recF x sv dv)) 27) = W0 at r1 hN ⊢
    have R1 := Lib.hid r1
    have HN := Lib.hid hN
    replace HX := Lib.hid (hN.recV HX.out)
    replace HS := Lib.hid (hN.pairs HS.out)
    replace HD := Lib.hid (hN.rd HD.out)
    clear r1 hN
    have c0 : W0.cell? ⟨w.heap.size, 0, none⟩ = some (.int .i64 x.kind) := R1.out.cell (by omega)
    rw [hk] at c0
    go_upto_region 11 with fail
    clear c0
    obtain ⟨q1_11, Q1_11⟩ : ∃ q, ((inR x.saga 0 11) && (inR x.seq 1 400)) = q := ⟨_, rfl⟩
    obtain ⟨q2_11, Q2_11⟩ : ∃ q, ((q1_11 && (inR x.step 0 5)) && (inR x.tr 1 9)) = q := ⟨_, rfl⟩
    refine wp_region_steps0 NewT [SV.eq (.pointer (some ⟨w.heap.size, 1, none⟩)), SV.eq (.int .i64 (x.saga)), SV.eq (.bool (inR x.saga 0 11)), SV.eq (.bool (inR x.saga 0 11)), svIf (inR x.saga 0 11) (SV.eq (.pointer (some ⟨w.heap.size, 2, none⟩))), svIf (inR x.saga 0 11) (SV.eq (.int .i64 (x.seq))), svIf (inR x.saga 0 11) (SV.eq (.bool (inR x.seq 1 400))), SV.eq (.bool (q1_11)), SV.eq (.bool (q1_11)), svIf q1_11 (SV.eq (.pointer (some ⟨w.heap.size, 3, none⟩))), svIf q1_11 (SV.eq (.int .i64 (x.step))), svIf q1_11 (SV.eq (.bool (inR x.step 0 5))), SV.eq (.bool (q1_11 && (inR x.step 0 5))), SV.eq (.bool (q1_11 && (inR x.step 0 5))), svIf (q1_11 && (inR x.step 0 5)) (SV.eq (.pointer (some ⟨w.heap.size, 4, none⟩))), svIf (q1_11 && (inR x.step 0 5)) (SV.eq (.int .i64 (x.tr))), svIf (q1_11 && (inR x.step 0 5)) (SV.eq (.bool (inR x.tr 1 9))), SV.eq (.bool (q2_11)), SV.eq (.bool (q2_11))] [([(1, none)], none), ([(40, some 0)], none), ([(41, some 1)], none), ([(42, some 2)], none), ([(1, none), (43, some 3)], some (43, true)), ([(44, some 4), (43, some 3)], some (43, true)), ([(45, some 5), (43, some 3)], some (43, true)), ([(43, some 3), (46, some 6)], none), ([(47, some 7)], none), ([(1, none), (48, some 8)], some (48, true)), ([(49, some 9), (48, some 8)], some (48, true)), ([(50, some 10), (48, some 8)], some (48, true)), ([(48, some 8), (51, some 11)], none), ([(52, some 12)], none), ([(1, none), (53, some 13)], some (53, true)), ([(54, some 14), (53, some 13)], some (53, true)), ([(55, some 15), (53, some 13)], some (53, true)), ([(53, some 13), (56, some 16)], none), ([(57, some 17)], none)] 79 19 rfl rfl (by kernel_rfl) NewT.trans (NewT.refl _) (Nat.le_of_ble_eq_true rfl) ⟨?_, ?_, ?_, ?_, ?_, ?_, ?_, ?_, ?_, ?_, ?_, ?_, ?_, ?_, ?_, ?_, ?_, ?_, ?_, trivial⟩ ?_
    · intro a wx hT hF K hK
      obtain ⟨f1, _⟩ := hF
      have f1 : a.tmps.getD 1 undef = .pointer (some ⟨w.heap.size, 0, none⟩) := f1
      refine rely_wp rfl ?_
      exact opr_fldR (by decide) rfl f1 (hK _ _ (NewT.refl _) rfl)
    · intro a wx hT hF K hK
      obtain ⟨f40, _⟩ := hF
      have f40 : a.tmps.getD 40 undef = .pointer (some ⟨w.heap.size, 1, none⟩) := f40
      refine rely_wp rfl ?_
      exact opr_ldI (hT.row R1.out) (by decide) rfl rfl f40 (hK _ _ (NewT.refl _) rfl)
    · intro a wx hT hF K hK
      obtain ⟨f41, _⟩ := hF
      have f41 : a.tmps.getD 41 undef = .int .i64 (x.saga) := f41
      refine rely_wp rfl ?_
      exact opr_cv (isSaga_cv x.saga wx) rfl Tryd.func48 (by kernel_rfl) (by kernel_rfl) (by simp only [List.map_toArray, List.map_cons, List.map_nil, eval_tmp, f41]) hK
    · intro a wx hT hF K hK
      obtain ⟨f42, _⟩ := hF
      have f42 : a.tmps.getD 42 undef = .bool (inR x.saga 0 11) := f42
      refine rely_wp rfl ?_
      exact opr_move (.inl rfl) (hK _ _ (NewT.refl _) f42)
    · intro a wx hT hF K hK
      obtain ⟨f1, f43, _⟩ := hF
      have f1 : a.tmps.getD 1 undef = .pointer (some ⟨w.heap.size, 0, none⟩) := f1
      have f43 : a.tmps.getD 43 undef = .bool (inR x.saga 0 11) := f43
      refine rely_if (rely_gt f43) (NewT.refl _) hK (fun hE hK => ?_)
      exact opr_fldR (by decide) rfl f1 (hK _ _ (NewT.refl _) rfl)
    · intro a wx hT hF K hK
      obtain ⟨f44, f43, _⟩ := hF
      have f44 : (inR x.saga 0 11) = true → a.tmps.getD 44 undef = .pointer (some ⟨w.heap.size, 2, none⟩) := f44
      have f43 : a.tmps.getD 43 undef = .bool (inR x.saga 0 11) := f43
      refine rely_if (rely_gt f43) (NewT.refl _) hK (fun hE hK => ?_)
      exact opr_ldI (hT.row R1.out) (by decide) rfl rfl (f44 hE) (hK _ _ (NewT.refl _) rfl)
    · intro a wx hT hF K hK
      obtain ⟨f45, f43, _⟩ := hF
      have f45 : (inR x.saga 0 11) = true → a.tmps.getD 45 undef = .int .i64 (x.seq) := f45
      have f43 : a.tmps.getD 43 undef = .bool (inR x.saga 0 11) := f43
      refine rely_if (rely_gt f43) (NewT.refl _) hK (fun hE hK => ?_)
      exact opr_cv (isSeq_cv x.seq wx) rfl Tryd.func51 (by kernel_rfl) (by kernel_rfl) (by simp only [List.map_toArray, List.map_cons, List.map_nil, eval_tmp, (f45 hE)]) hK
    · intro a wx hT hF K hK
      obtain ⟨f43, f46, _⟩ := hF
      have f43 : a.tmps.getD 43 undef = .bool (inR x.saga 0 11) := f43
      have f46 : (inR x.saga 0 11) = true → a.tmps.getD 46 undef = .bool (inR x.seq 1 400) := f46
      refine rely_wp rfl ?_
      exact opr_pick_b rfl f43 (fun hb => hK _ _ (NewT.refl _) (pn_and1 Q1_11 (f46 hb) hb)) (fun hb => hK _ _ (NewT.refl _) (pn_and0 Q1_11 hb))
    · intro a wx hT hF K hK
      obtain ⟨f47, _⟩ := hF
      have f47 : a.tmps.getD 47 undef = .bool (q1_11) := f47
      refine rely_wp rfl ?_
      exact opr_move (.inl rfl) (hK _ _ (NewT.refl _) f47)
    · intro a wx hT hF K hK
      obtain ⟨f1, f48, _⟩ := hF
      have f1 : a.tmps.getD 1 undef = .pointer (some ⟨w.heap.size, 0, none⟩) := f1
      have f48 : a.tmps.getD 48 undef = .bool (q1_11) := f48
      refine rely_if (rely_gt f48) (NewT.refl _) hK (fun hE hK => ?_)
      exact opr_fldR (by decide) rfl f1 (hK _ _ (NewT.refl _) rfl)
    · intro a wx hT hF K hK
      obtain ⟨f49, f48, _⟩ := hF
      have f49 : q1_11 = true → a.tmps.getD 49 undef = .pointer (some ⟨w.heap.size, 3, none⟩) := f49
      have f48 : a.tmps.getD 48 undef = .bool (q1_11) := f48
      refine rely_if (rely_gt f48) (NewT.refl _) hK (fun hE hK => ?_)
      exact opr_ldI (hT.row R1.out) (by decide) rfl rfl (f49 hE) (hK _ _ (NewT.refl _) rfl)
    · intro a wx hT hF K hK
      obtain ⟨f50, f48, _⟩ := hF
      have f50 : q1_11 = true → a.tmps.getD 50 undef = .int .i64 (x.step) := f50
      have f48 : a.tmps.getD 48 undef = .bool (q1_11) := f48
      refine rely_if (rely_gt f48) (NewT.refl _) hK (fun hE hK => ?_)
      exact opr_cv (within_cv x.step 0 5 wx) rfl Tryd.func45 (by kernel_rfl) (by kernel_rfl) (by simp only [List.map_toArray, List.map_cons, List.map_nil, eval_tmp, eval_const, (f50 hE)]) hK
    · intro a wx hT hF K hK
      obtain ⟨f48, f51, _⟩ := hF
      have f48 : a.tmps.getD 48 undef = .bool (q1_11) := f48
      have f51 : q1_11 = true → a.tmps.getD 51 undef = .bool (inR x.step 0 5) := f51
      refine rely_wp rfl ?_
      exact opr_pick_b rfl f48 (fun hb => hK _ _ (NewT.refl _) (pk_and1 (f51 hb) hb)) (fun hb => hK _ _ (NewT.refl _) (pk_and0 hb))
    · intro a wx hT hF K hK
      obtain ⟨f52, _⟩ := hF
      have f52 : a.tmps.getD 52 undef = .bool (q1_11 && (inR x.step 0 5)) := f52
      refine rely_wp rfl ?_
      exact opr_move (.inl rfl) (hK _ _ (NewT.refl _) f52)
    · intro a wx hT hF K hK
      obtain ⟨f1, f53, _⟩ := hF
      have f1 : a.tmps.getD 1 undef = .pointer (some ⟨w.heap.size, 0, none⟩) := f1
      have f53 : a.tmps.getD 53 undef = .bool (q1_11 && (inR x.step 0 5)) := f53
      refine rely_if (rely_gt f53) (NewT.refl _) hK (fun hE hK => ?_)
      exact opr_fldR (by decide) rfl f1 (hK _ _ (NewT.refl _) rfl)
    · intro a wx hT hF K hK
      obtain ⟨f54, f53, _⟩ := hF
      have f54 : (q1_11 && (inR x.step 0 5)) = true → a.tmps.getD 54 undef = .pointer (some ⟨w.heap.size, 4, none⟩) := f54
      have f53 : a.tmps.getD 53 undef = .bool (q1_11 && (inR x.step 0 5)) := f53
      refine rely_if (rely_gt f53) (NewT.refl _) hK (fun hE hK => ?_)
      exact opr_ldI (hT.row R1.out) (by decide) rfl rfl (f54 hE) (hK _ _ (NewT.refl _) rfl)
    · intro a wx hT hF K hK
      obtain ⟨f55, f53, _⟩ := hF
      have f55 : (q1_11 && (inR x.step 0 5)) = true → a.tmps.getD 55 undef = .int .i64 (x.tr) := f55
      have f53 : a.tmps.getD 53 undef = .bool (q1_11 && (inR x.step 0 5)) := f53
      refine rely_if (rely_gt f53) (NewT.refl _) hK (fun hE hK => ?_)
      exact opr_cv (within_cv x.tr 1 9 wx) rfl Tryd.func45 (by kernel_rfl) (by kernel_rfl) (by simp only [List.map_toArray, List.map_cons, List.map_nil, eval_tmp, eval_const, (f55 hE)]) hK
    · intro a wx hT hF K hK
      obtain ⟨f53, f56, _⟩ := hF
      have f53 : a.tmps.getD 53 undef = .bool (q1_11 && (inR x.step 0 5)) := f53
      have f56 : (q1_11 && (inR x.step 0 5)) = true → a.tmps.getD 56 undef = .bool (inR x.tr 1 9) := f56
      refine rely_wp rfl ?_
      exact opr_pick_b rfl f53 (fun hb => hK _ _ (NewT.refl _) (pn_and1 Q2_11 (f56 hb) hb)) (fun hb => hK _ _ (NewT.refl _) (pn_and0 Q2_11 hb))
    · intro a wx hT hF K hK
      obtain ⟨f57, _⟩ := hF
      have f57 : a.tmps.getD 57 undef = .bool (q2_11) := f57
      refine rely_wp rfl ?_
      exact opr_move (.inr rfl) (hK _ _ (NewT.refl _) f57)
    · intro wx hT
      intro u h; obtain rfl := Eq.symm (h (by simp)); clear h
      intro u h; obtain rfl := Eq.symm (h (by simp)); clear h
      intro u h; obtain rfl := Eq.symm (h (by simp)); clear h
      intro u h; obtain rfl := Eq.symm (h (by simp)); clear h
      intro _ _
      intro _ _
      intro _ _
      intro u h; obtain rfl := Eq.symm (h (by simp)); clear h
      intro u h; obtain rfl := Eq.symm (h (by simp)); clear h
      intro _ _
      intro _ _
      intro _ _
      intro u h; obtain rfl := Eq.symm (h (by simp)); clear h
      intro u h; obtain rfl := Eq.symm (h (by simp)); clear h
      intro _ _
      intro _ _
      intro _ _
      intro u h; obtain rfl := Eq.symm (h (by simp)); clear h
      intro u h; obtain rfl := Eq.symm (h (by simp)); clear h
      subst Q2_11 Q1_11
      refine relyEnd_nil rfl ?_
      refine wpList_end rfl ?_
      simp only [Act.put, List.setIfInBounds_toArray, List.set_cons_zero, List.set_cons_succ]
      go_simp
      go_wp2
      go_ret
      exact ⟨_, rfl, NewT.trans _ _ _ HN.out hT, rfl⟩
  have k2 := hk
  clear hk
  by_cases hk : x.kind = 4
  · have hI : inRg x = (((inR x.saga 0 11 && inR x.seq 1 400) && inR x.step 0 5) && inR x.tr 1 9) := by unfold inRg; simp only [hk]; simp
    rw [hI]
    clear hI
    go_enter Tryd.func28, Tryd.ntmps28
    go_upto_region 1 with fail
    have r1 := rowIs_box w 27 109 (recF x sv dv)
    have hN := NewT.alloc w (.cells (rowA 109 (recF x sv dv)) 27)
    change Code.wp _ _ _ _ (w.alloc (.cells (rowA 109 (recF x sv dv)) 27))
    generalize w.alloc (.cells (rowA 109 (recF x sv dv)) 27) = W0 at r1 hN ⊢
    have R1 := Lib.hid r1
    have HN := Lib.hid hN
    replace HX := Lib.hid (hN.recV HX.out)
    replace HS := Lib.hid (hN.pairs HS.out)
    replace HD := Lib.hid (hN.rd HD.out)
    clear r1 hN
    have c0 : W0.cell? ⟨w.heap.size, 0, none⟩ = some (.int .i64 x.kind) := R1.out.cell (by omega)
    rw [hk] at c0
    go_upto_region 11 with fail
    clear c0
    obtain ⟨q1_11, Q1_11⟩ : ∃ q, ((inR x.saga 0 11) && (inR x.seq 1 400)) = q := ⟨_, rfl⟩
    obtain ⟨q2_11, Q2_11⟩ : ∃ q, ((q1_11 && (inR x.step 0 5)) && (inR x.tr 1 9)) = q := ⟨_, rfl⟩
    refine wp_region_steps0 NewT [SV.eq (.pointer (some ⟨w.heap.size, 1, none⟩)), SV.eq (.int .i64 (x.saga)), SV.eq (.bool (inR x.saga 0 11)), SV.eq (.bool (inR x.saga 0 11)), svIf (inR x.saga 0 11) (SV.eq (.pointer (some ⟨w.heap.size, 2, none⟩))), svIf (inR x.saga 0 11) (SV.eq (.int .i64 (x.seq))), svIf (inR x.saga 0 11) (SV.eq (.bool (inR x.seq 1 400))), SV.eq (.bool (q1_11)), SV.eq (.bool (q1_11)), svIf q1_11 (SV.eq (.pointer (some ⟨w.heap.size, 3, none⟩))), svIf q1_11 (SV.eq (.int .i64 (x.step))), svIf q1_11 (SV.eq (.bool (inR x.step 0 5))), SV.eq (.bool (q1_11 && (inR x.step 0 5))), SV.eq (.bool (q1_11 && (inR x.step 0 5))), svIf (q1_11 && (inR x.step 0 5)) (SV.eq (.pointer (some ⟨w.heap.size, 4, none⟩))), svIf (q1_11 && (inR x.step 0 5)) (SV.eq (.int .i64 (x.tr))), svIf (q1_11 && (inR x.step 0 5)) (SV.eq (.bool (inR x.tr 1 9))), SV.eq (.bool (q2_11)), SV.eq (.bool (q2_11))] [([(1, none)], none), ([(40, some 0)], none), ([(41, some 1)], none), ([(42, some 2)], none), ([(1, none), (43, some 3)], some (43, true)), ([(44, some 4), (43, some 3)], some (43, true)), ([(45, some 5), (43, some 3)], some (43, true)), ([(43, some 3), (46, some 6)], none), ([(47, some 7)], none), ([(1, none), (48, some 8)], some (48, true)), ([(49, some 9), (48, some 8)], some (48, true)), ([(50, some 10), (48, some 8)], some (48, true)), ([(48, some 8), (51, some 11)], none), ([(52, some 12)], none), ([(1, none), (53, some 13)], some (53, true)), ([(54, some 14), (53, some 13)], some (53, true)), ([(55, some 15), (53, some 13)], some (53, true)), ([(53, some 13), (56, some 16)], none), ([(57, some 17)], none)] 79 19 rfl rfl (by kernel_rfl) NewT.trans (NewT.refl _) (Nat.le_of_ble_eq_true rfl) ⟨?_, ?_, ?_, ?_, ?_, ?_, ?_, ?_, ?_, ?_, ?_, ?_, ?_, ?_, ?_, ?_, ?_, ?_, ?_, trivial⟩ ?_
    · intro a wx hT hF K hK
      obtain ⟨f1, _⟩ := hF
      have f1 : a.tmps.getD 1 undef = .pointer (some ⟨w.heap.size, 0, none⟩) := f1
      refine rely_wp rfl ?_
      exact opr_fldR (by decide) rfl f1 (hK _ _ (NewT.refl _) rfl)
    · intro a wx hT hF K hK
      obtain ⟨f40, _⟩ := hF
      have f40 : a.tmps.getD 40 undef = .pointer (some ⟨w.heap.size, 1, none⟩) := f40
      refine rely_wp rfl ?_
      exact opr_ldI (hT.row R1.out) (by decide) rfl rfl f40 (hK _ _ (NewT.refl _) rfl)
    · intro a wx hT hF K hK
      obtain ⟨f41, _⟩ := hF
      have f41 : a.tmps.getD 41 undef = .int .i64 (x.saga) := f41
      refine rely_wp rfl ?_
      exact opr_cv (isSaga_cv x.saga wx) rfl Tryd.func48 (by kernel_rfl) (by kernel_rfl) (by simp only [List.map_toArray, List.map_cons, List.map_nil, eval_tmp, f41]) hK
    · intro a wx hT hF K hK
      obtain ⟨f42, _⟩ := hF
      have f42 : a.tmps.getD 42 undef = .bool (inR x.saga 0 11) := f42
      refine rely_wp rfl ?_
      exact opr_move (.inl rfl) (hK _ _ (NewT.refl _) f42)
    · intro a wx hT hF K hK
      obtain ⟨f1, f43, _⟩ := hF
      have f1 : a.tmps.getD 1 undef = .pointer (some ⟨w.heap.size, 0, none⟩) := f1
      have f43 : a.tmps.getD 43 undef = .bool (inR x.saga 0 11) := f43
      refine rely_if (rely_gt f43) (NewT.refl _) hK (fun hE hK => ?_)
      exact opr_fldR (by decide) rfl f1 (hK _ _ (NewT.refl _) rfl)
    · intro a wx hT hF K hK
      obtain ⟨f44, f43, _⟩ := hF
      have f44 : (inR x.saga 0 11) = true → a.tmps.getD 44 undef = .pointer (some ⟨w.heap.size, 2, none⟩) := f44
      have f43 : a.tmps.getD 43 undef = .bool (inR x.saga 0 11) := f43
      refine rely_if (rely_gt f43) (NewT.refl _) hK (fun hE hK => ?_)
      exact opr_ldI (hT.row R1.out) (by decide) rfl rfl (f44 hE) (hK _ _ (NewT.refl _) rfl)
    · intro a wx hT hF K hK
      obtain ⟨f45, f43, _⟩ := hF
      have f45 : (inR x.saga 0 11) = true → a.tmps.getD 45 undef = .int .i64 (x.seq) := f45
      have f43 : a.tmps.getD 43 undef = .bool (inR x.saga 0 11) := f43
      refine rely_if (rely_gt f43) (NewT.refl _) hK (fun hE hK => ?_)
      exact opr_cv (isSeq_cv x.seq wx) rfl Tryd.func51 (by kernel_rfl) (by kernel_rfl) (by simp only [List.map_toArray, List.map_cons, List.map_nil, eval_tmp, (f45 hE)]) hK
    · intro a wx hT hF K hK
      obtain ⟨f43, f46, _⟩ := hF
      have f43 : a.tmps.getD 43 undef = .bool (inR x.saga 0 11) := f43
      have f46 : (inR x.saga 0 11) = true → a.tmps.getD 46 undef = .bool (inR x.seq 1 400) := f46
      refine rely_wp rfl ?_
      exact opr_pick_b rfl f43 (fun hb => hK _ _ (NewT.refl _) (pn_and1 Q1_11 (f46 hb) hb)) (fun hb => hK _ _ (NewT.refl _) (pn_and0 Q1_11 hb))
    · intro a wx hT hF K hK
      obtain ⟨f47, _⟩ := hF
      have f47 : a.tmps.getD 47 undef = .bool (q1_11) := f47
      refine rely_wp rfl ?_
      exact opr_move (.inl rfl) (hK _ _ (NewT.refl _) f47)
    · intro a wx hT hF K hK
      obtain ⟨f1, f48, _⟩ := hF
      have f1 : a.tmps.getD 1 undef = .pointer (some ⟨w.heap.size, 0, none⟩) := f1
      have f48 : a.tmps.getD 48 undef = .bool (q1_11) := f48
      refine rely_if (rely_gt f48) (NewT.refl _) hK (fun hE hK => ?_)
      exact opr_fldR (by decide) rfl f1 (hK _ _ (NewT.refl _) rfl)
    · intro a wx hT hF K hK
      obtain ⟨f49, f48, _⟩ := hF
      have f49 : q1_11 = true → a.tmps.getD 49 undef = .pointer (some ⟨w.heap.size, 3, none⟩) := f49
      have f48 : a.tmps.getD 48 undef = .bool (q1_11) := f48
      refine rely_if (rely_gt f48) (NewT.refl _) hK (fun hE hK => ?_)
      exact opr_ldI (hT.row R1.out) (by decide) rfl rfl (f49 hE) (hK _ _ (NewT.refl _) rfl)
    · intro a wx hT hF K hK
      obtain ⟨f50, f48, _⟩ := hF
      have f50 : q1_11 = true → a.tmps.getD 50 undef = .int .i64 (x.step) := f50
      have f48 : a.tmps.getD 48 undef = .bool (q1_11) := f48
      refine rely_if (rely_gt f48) (NewT.refl _) hK (fun hE hK => ?_)
      exact opr_cv (within_cv x.step 0 5 wx) rfl Tryd.func45 (by kernel_rfl) (by kernel_rfl) (by simp only [List.map_toArray, List.map_cons, List.map_nil, eval_tmp, eval_const, (f50 hE)]) hK
    · intro a wx hT hF K hK
      obtain ⟨f48, f51, _⟩ := hF
      have f48 : a.tmps.getD 48 undef = .bool (q1_11) := f48
      have f51 : q1_11 = true → a.tmps.getD 51 undef = .bool (inR x.step 0 5) := f51
      refine rely_wp rfl ?_
      exact opr_pick_b rfl f48 (fun hb => hK _ _ (NewT.refl _) (pk_and1 (f51 hb) hb)) (fun hb => hK _ _ (NewT.refl _) (pk_and0 hb))
    · intro a wx hT hF K hK
      obtain ⟨f52, _⟩ := hF
      have f52 : a.tmps.getD 52 undef = .bool (q1_11 && (inR x.step 0 5)) := f52
      refine rely_wp rfl ?_
      exact opr_move (.inl rfl) (hK _ _ (NewT.refl _) f52)
    · intro a wx hT hF K hK
      obtain ⟨f1, f53, _⟩ := hF
      have f1 : a.tmps.getD 1 undef = .pointer (some ⟨w.heap.size, 0, none⟩) := f1
      have f53 : a.tmps.getD 53 undef = .bool (q1_11 && (inR x.step 0 5)) := f53
      refine rely_if (rely_gt f53) (NewT.refl _) hK (fun hE hK => ?_)
      exact opr_fldR (by decide) rfl f1 (hK _ _ (NewT.refl _) rfl)
    · intro a wx hT hF K hK
      obtain ⟨f54, f53, _⟩ := hF
      have f54 : (q1_11 && (inR x.step 0 5)) = true → a.tmps.getD 54 undef = .pointer (some ⟨w.heap.size, 4, none⟩) := f54
      have f53 : a.tmps.getD 53 undef = .bool (q1_11 && (inR x.step 0 5)) := f53
      refine rely_if (rely_gt f53) (NewT.refl _) hK (fun hE hK => ?_)
      exact opr_ldI (hT.row R1.out) (by decide) rfl rfl (f54 hE) (hK _ _ (NewT.refl _) rfl)
    · intro a wx hT hF K hK
      obtain ⟨f55, f53, _⟩ := hF
      have f55 : (q1_11 && (inR x.step 0 5)) = true → a.tmps.getD 55 undef = .int .i64 (x.tr) := f55
      have f53 : a.tmps.getD 53 undef = .bool (q1_11 && (inR x.step 0 5)) := f53
      refine rely_if (rely_gt f53) (NewT.refl _) hK (fun hE hK => ?_)
      exact opr_cv (within_cv x.tr 1 9 wx) rfl Tryd.func45 (by kernel_rfl) (by kernel_rfl) (by simp only [List.map_toArray, List.map_cons, List.map_nil, eval_tmp, eval_const, (f55 hE)]) hK
    · intro a wx hT hF K hK
      obtain ⟨f53, f56, _⟩ := hF
      have f53 : a.tmps.getD 53 undef = .bool (q1_11 && (inR x.step 0 5)) := f53
      have f56 : (q1_11 && (inR x.step 0 5)) = true → a.tmps.getD 56 undef = .bool (inR x.tr 1 9) := f56
      refine rely_wp rfl ?_
      exact opr_pick_b rfl f53 (fun hb => hK _ _ (NewT.refl _) (pn_and1 Q2_11 (f56 hb) hb)) (fun hb => hK _ _ (NewT.refl _) (pn_and0 Q2_11 hb))
    · intro a wx hT hF K hK
      obtain ⟨f57, _⟩ := hF
      have f57 : a.tmps.getD 57 undef = .bool (q2_11) := f57
      refine rely_wp rfl ?_
      exact opr_move (.inr rfl) (hK _ _ (NewT.refl _) f57)
    · intro wx hT
      intro u h; obtain rfl := Eq.symm (h (by simp)); clear h
      intro u h; obtain rfl := Eq.symm (h (by simp)); clear h
      intro u h; obtain rfl := Eq.symm (h (by simp)); clear h
      intro u h; obtain rfl := Eq.symm (h (by simp)); clear h
      intro _ _
      intro _ _
      intro _ _
      intro u h; obtain rfl := Eq.symm (h (by simp)); clear h
      intro u h; obtain rfl := Eq.symm (h (by simp)); clear h
      intro _ _
      intro _ _
      intro _ _
      intro u h; obtain rfl := Eq.symm (h (by simp)); clear h
      intro u h; obtain rfl := Eq.symm (h (by simp)); clear h
      intro _ _
      intro _ _
      intro _ _
      intro u h; obtain rfl := Eq.symm (h (by simp)); clear h
      intro u h; obtain rfl := Eq.symm (h (by simp)); clear h
      subst Q2_11 Q1_11
      refine relyEnd_nil rfl ?_
      refine wpList_end rfl ?_
      simp only [Act.put, List.setIfInBounds_toArray, List.set_cons_zero, List.set_cons_succ]
      go_simp
      go_wp2
      go_ret
      exact ⟨_, rfl, NewT.trans _ _ _ HN.out hT, rfl⟩
  have k4 := hk
  clear hk
  by_cases hk : x.kind = 5
  · have hI : inRg x = ((inR x.saga 0 11 && inR x.seq 1 400) && inR x.nd 2 4) := by unfold inRg; simp only [hk]; simp
    rw [hI]
    clear hI
    go_enter Tryd.func28, Tryd.ntmps28
    go_upto_region 1 with fail
    have r1 := rowIs_box w 27 109 (recF x sv dv)
    have hN := NewT.alloc w (.cells (rowA 109 (recF x sv dv)) 27)
    change Code.wp _ _ _ _ (w.alloc (.cells (rowA 109 (recF x sv dv)) 27))
    generalize w.alloc (.cells (rowA 109 (recF x sv dv)) 27) = W0 at r1 hN ⊢
    have R1 := Lib.hid r1
    have HN := Lib.hid hN
    replace HX := Lib.hid (hN.recV HX.out)
    replace HS := Lib.hid (hN.pairs HS.out)
    replace HD := Lib.hid (hN.rd HD.out)
    clear r1 hN
    have c0 : W0.cell? ⟨w.heap.size, 0, none⟩ = some (.int .i64 x.kind) := R1.out.cell (by omega)
    rw [hk] at c0
    go_upto_region 12 with fail
    clear c0
    obtain ⟨q1_12, Q1_12⟩ : ∃ q, ((inR x.saga 0 11) && (inR x.seq 1 400)) = q := ⟨_, rfl⟩
    refine wp_region_steps0 NewT [SV.eq (.pointer (some ⟨w.heap.size, 1, none⟩)), SV.eq (.int .i64 (x.saga)), SV.eq (.bool (inR x.saga 0 11)), SV.eq (.bool (inR x.saga 0 11)), svIf (inR x.saga 0 11) (SV.eq (.pointer (some ⟨w.heap.size, 2, none⟩))), svIf (inR x.saga 0 11) (SV.eq (.int .i64 (x.seq))), svIf (inR x.saga 0 11) (SV.eq (.bool (inR x.seq 1 400))), SV.eq (.bool (q1_12)), SV.eq (.bool (q1_12)), svIf q1_12 (SV.eq (.pointer (some ⟨w.heap.size, 7, none⟩))), svIf q1_12 (SV.eq (.int .i64 (x.nd))), svIf q1_12 (SV.eq (.bool (inR x.nd 2 4))), SV.eq (.bool (q1_12 && (inR x.nd 2 4))), SV.eq (.bool (q1_12 && (inR x.nd 2 4)))] [([(1, none)], none), ([(58, some 0)], none), ([(59, some 1)], none), ([(60, some 2)], none), ([(1, none), (61, some 3)], some (61, true)), ([(62, some 4), (61, some 3)], some (61, true)), ([(63, some 5), (61, some 3)], some (61, true)), ([(61, some 3), (64, some 6)], none), ([(65, some 7)], none), ([(1, none), (66, some 8)], some (66, true)), ([(67, some 9), (66, some 8)], some (66, true)), ([(68, some 10), (66, some 8)], some (66, true)), ([(66, some 8), (69, some 11)], none), ([(70, some 12)], none)] 79 14 rfl rfl (by kernel_rfl) NewT.trans (NewT.refl _) (Nat.le_of_ble_eq_true rfl) ⟨?_, ?_, ?_, ?_, ?_, ?_, ?_, ?_, ?_, ?_, ?_, ?_, ?_, ?_, trivial⟩ ?_
    · intro a wx hT hF K hK
      obtain ⟨f1, _⟩ := hF
      have f1 : a.tmps.getD 1 undef = .pointer (some ⟨w.heap.size, 0, none⟩) := f1
      refine rely_wp rfl ?_
      exact opr_fldR (by decide) rfl f1 (hK _ _ (NewT.refl _) rfl)
    · intro a wx hT hF K hK
      obtain ⟨f58, _⟩ := hF
      have f58 : a.tmps.getD 58 undef = .pointer (some ⟨w.heap.size, 1, none⟩) := f58
      refine rely_wp rfl ?_
      exact opr_ldI (hT.row R1.out) (by decide) rfl rfl f58 (hK _ _ (NewT.refl _) rfl)
    · intro a wx hT hF K hK
      obtain ⟨f59, _⟩ := hF
      have f59 : a.tmps.getD 59 undef = .int .i64 (x.saga) := f59
      refine rely_wp rfl ?_
      exact opr_cv (isSaga_cv x.saga wx) rfl Tryd.func48 (by kernel_rfl) (by kernel_rfl) (by simp only [List.map_toArray, List.map_cons, List.map_nil, eval_tmp, f59]) hK
    · intro a wx hT hF K hK
      obtain ⟨f60, _⟩ := hF
      have f60 : a.tmps.getD 60 undef = .bool (inR x.saga 0 11) := f60
      refine rely_wp rfl ?_
      exact opr_move (.inl rfl) (hK _ _ (NewT.refl _) f60)
    · intro a wx hT hF K hK
      obtain ⟨f1, f61, _⟩ := hF
      have f1 : a.tmps.getD 1 undef = .pointer (some ⟨w.heap.size, 0, none⟩) := f1
      have f61 : a.tmps.getD 61 undef = .bool (inR x.saga 0 11) := f61
      refine rely_if (rely_gt f61) (NewT.refl _) hK (fun hE hK => ?_)
      exact opr_fldR (by decide) rfl f1 (hK _ _ (NewT.refl _) rfl)
    · intro a wx hT hF K hK
      obtain ⟨f62, f61, _⟩ := hF
      have f62 : (inR x.saga 0 11) = true → a.tmps.getD 62 undef = .pointer (some ⟨w.heap.size, 2, none⟩) := f62
      have f61 : a.tmps.getD 61 undef = .bool (inR x.saga 0 11) := f61
      refine rely_if (rely_gt f61) (NewT.refl _) hK (fun hE hK => ?_)
      exact opr_ldI (hT.row R1.out) (by decide) rfl rfl (f62 hE) (hK _ _ (NewT.refl _) rfl)
    · intro a wx hT hF K hK
      obtain ⟨f63, f61, _⟩ := hF
      have f63 : (inR x.saga 0 11) = true → a.tmps.getD 63 undef = .int .i64 (x.seq) := f63
      have f61 : a.tmps.getD 61 undef = .bool (inR x.saga 0 11) := f61
      refine rely_if (rely_gt f61) (NewT.refl _) hK (fun hE hK => ?_)
      exact opr_cv (isSeq_cv x.seq wx) rfl Tryd.func51 (by kernel_rfl) (by kernel_rfl) (by simp only [List.map_toArray, List.map_cons, List.map_nil, eval_tmp, (f63 hE)]) hK
    · intro a wx hT hF K hK
      obtain ⟨f61, f64, _⟩ := hF
      have f61 : a.tmps.getD 61 undef = .bool (inR x.saga 0 11) := f61
      have f64 : (inR x.saga 0 11) = true → a.tmps.getD 64 undef = .bool (inR x.seq 1 400) := f64
      refine rely_wp rfl ?_
      exact opr_pick_b rfl f61 (fun hb => hK _ _ (NewT.refl _) (pn_and1 Q1_12 (f64 hb) hb)) (fun hb => hK _ _ (NewT.refl _) (pn_and0 Q1_12 hb))
    · intro a wx hT hF K hK
      obtain ⟨f65, _⟩ := hF
      have f65 : a.tmps.getD 65 undef = .bool (q1_12) := f65
      refine rely_wp rfl ?_
      exact opr_move (.inl rfl) (hK _ _ (NewT.refl _) f65)
    · intro a wx hT hF K hK
      obtain ⟨f1, f66, _⟩ := hF
      have f1 : a.tmps.getD 1 undef = .pointer (some ⟨w.heap.size, 0, none⟩) := f1
      have f66 : a.tmps.getD 66 undef = .bool (q1_12) := f66
      refine rely_if (rely_gt f66) (NewT.refl _) hK (fun hE hK => ?_)
      exact opr_fldR (by decide) rfl f1 (hK _ _ (NewT.refl _) rfl)
    · intro a wx hT hF K hK
      obtain ⟨f67, f66, _⟩ := hF
      have f67 : q1_12 = true → a.tmps.getD 67 undef = .pointer (some ⟨w.heap.size, 7, none⟩) := f67
      have f66 : a.tmps.getD 66 undef = .bool (q1_12) := f66
      refine rely_if (rely_gt f66) (NewT.refl _) hK (fun hE hK => ?_)
      exact opr_ldI (hT.row R1.out) (by decide) rfl rfl (f67 hE) (hK _ _ (NewT.refl _) rfl)
    · intro a wx hT hF K hK
      obtain ⟨f68, f66, _⟩ := hF
      have f68 : q1_12 = true → a.tmps.getD 68 undef = .int .i64 (x.nd) := f68
      have f66 : a.tmps.getD 66 undef = .bool (q1_12) := f66
      refine rely_if (rely_gt f66) (NewT.refl _) hK (fun hE hK => ?_)
      exact opr_cv (within_cv x.nd 2 4 wx) rfl Tryd.func45 (by kernel_rfl) (by kernel_rfl) (by simp only [List.map_toArray, List.map_cons, List.map_nil, eval_tmp, eval_const, (f68 hE)]) hK
    · intro a wx hT hF K hK
      obtain ⟨f66, f69, _⟩ := hF
      have f66 : a.tmps.getD 66 undef = .bool (q1_12) := f66
      have f69 : q1_12 = true → a.tmps.getD 69 undef = .bool (inR x.nd 2 4) := f69
      refine rely_wp rfl ?_
      exact opr_pick_b rfl f66 (fun hb => hK _ _ (NewT.refl _) (pk_and1 (f69 hb) hb)) (fun hb => hK _ _ (NewT.refl _) (pk_and0 hb))
    · intro a wx hT hF K hK
      obtain ⟨f70, _⟩ := hF
      have f70 : a.tmps.getD 70 undef = .bool (q1_12 && (inR x.nd 2 4)) := f70
      refine rely_wp rfl ?_
      exact opr_move (.inr rfl) (hK _ _ (NewT.refl _) f70)
    · intro wx hT
      intro u h; obtain rfl := Eq.symm (h (by simp)); clear h
      intro u h; obtain rfl := Eq.symm (h (by simp)); clear h
      intro u h; obtain rfl := Eq.symm (h (by simp)); clear h
      intro u h; obtain rfl := Eq.symm (h (by simp)); clear h
      intro _ _
      intro _ _
      intro _ _
      intro u h; obtain rfl := Eq.symm (h (by simp)); clear h
      intro u h; obtain rfl := Eq.symm (h (by simp)); clear h
      intro _ _
      intro _ _
      intro _ _
      intro u h; obtain rfl := Eq.symm (h (by simp)); clear h
      intro u h; obtain rfl := Eq.symm (h (by simp)); clear h
      subst Q1_12
      refine relyEnd_nil rfl ?_
      refine wpList_end rfl ?_
      simp only [Act.put, List.setIfInBounds_toArray, List.set_cons_zero, List.set_cons_succ]
      go_simp
      go_wp2
      go_ret
      exact ⟨_, rfl, NewT.trans _ _ _ HN.out hT, rfl⟩
  have k5 := hk
  clear hk
  by_cases hk : x.kind = 6
  · have hI : inRg x = (inR x.part 0 3 && inR x.epoch 1 400) := by unfold inRg; simp only [hk]; simp
    rw [hI]
    clear hI
    go_enter Tryd.func28, Tryd.ntmps28
    go_upto_region 1 with fail
    have r1 := rowIs_box w 27 109 (recF x sv dv)
    have hN := NewT.alloc w (.cells (rowA 109 (recF x sv dv)) 27)
    change Code.wp _ _ _ _ (w.alloc (.cells (rowA 109 (recF x sv dv)) 27))
    generalize w.alloc (.cells (rowA 109 (recF x sv dv)) 27) = W0 at r1 hN ⊢
    have R1 := Lib.hid r1
    have HN := Lib.hid hN
    replace HX := Lib.hid (hN.recV HX.out)
    replace HS := Lib.hid (hN.pairs HS.out)
    replace HD := Lib.hid (hN.rd HD.out)
    clear r1 hN
    have c0 : W0.cell? ⟨w.heap.size, 0, none⟩ = some (.int .i64 x.kind) := R1.out.cell (by omega)
    rw [hk] at c0
    go_upto_region 13 with fail
    clear c0
    obtain ⟨q1_13, Q1_13⟩ : ∃ q, ((inR x.part 0 3) && (inR x.epoch 1 400)) = q := ⟨_, rfl⟩
    refine wp_region_steps0 NewT [SV.eq (.pointer (some ⟨w.heap.size, 8, none⟩)), SV.eq (.int .i64 (x.part)), SV.eq (.bool (inR x.part 0 3)), SV.eq (.bool (inR x.part 0 3)), svIf (inR x.part 0 3) (SV.eq (.pointer (some ⟨w.heap.size, 9, none⟩))), svIf (inR x.part 0 3) (SV.eq (.int .i64 (x.epoch))), svIf (inR x.part 0 3) (SV.eq (.bool (inR x.epoch 1 400))), SV.eq (.bool (q1_13)), SV.eq (.bool (q1_13))] [([(1, none)], none), ([(71, some 0)], none), ([(72, some 1)], none), ([(73, some 2)], none), ([(1, none), (74, some 3)], some (74, true)), ([(75, some 4), (74, some 3)], some (74, true)), ([(76, some 5), (74, some 3)], some (74, true)), ([(74, some 3), (77, some 6)], none), ([(78, some 7)], none)] 79 9 rfl rfl (by kernel_rfl) NewT.trans (NewT.refl _) (Nat.le_of_ble_eq_true rfl) ⟨?_, ?_, ?_, ?_, ?_, ?_, ?_, ?_, ?_, trivial⟩ ?_
    · intro a wx hT hF K hK
      obtain ⟨f1, _⟩ := hF
      have f1 : a.tmps.getD 1 undef = .pointer (some ⟨w.heap.size, 0, none⟩) := f1
      refine rely_wp rfl ?_
      exact opr_fldR (by decide) rfl f1 (hK _ _ (NewT.refl _) rfl)
    · intro a wx hT hF K hK
      obtain ⟨f71, _⟩ := hF
      have f71 : a.tmps.getD 71 undef = .pointer (some ⟨w.heap.size, 8, none⟩) := f71
      refine rely_wp rfl ?_
      exact opr_ldI (hT.row R1.out) (by decide) rfl rfl f71 (hK _ _ (NewT.refl _) rfl)
    · intro a wx hT hF K hK
      obtain ⟨f72, _⟩ := hF
      have f72 : a.tmps.getD 72 undef = .int .i64 (x.part) := f72
      refine rely_wp rfl ?_
      exact opr_cv (isPart_cv x.part wx) rfl Tryd.func50 (by kernel_rfl) (by kernel_rfl) (by simp only [List.map_toArray, List.map_cons, List.map_nil, eval_tmp, f72]) hK
    · intro a wx hT hF K hK
      obtain ⟨f73, _⟩ := hF
      have f73 : a.tmps.getD 73 undef = .bool (inR x.part 0 3) := f73
      refine rely_wp rfl ?_
      exact opr_move (.inl rfl) (hK _ _ (NewT.refl _) f73)
    · intro a wx hT hF K hK
      obtain ⟨f1, f74, _⟩ := hF
      have f1 : a.tmps.getD 1 undef = .pointer (some ⟨w.heap.size, 0, none⟩) := f1
      have f74 : a.tmps.getD 74 undef = .bool (inR x.part 0 3) := f74
      refine rely_if (rely_gt f74) (NewT.refl _) hK (fun hE hK => ?_)
      exact opr_fldR (by decide) rfl f1 (hK _ _ (NewT.refl _) rfl)
    · intro a wx hT hF K hK
      obtain ⟨f75, f74, _⟩ := hF
      have f75 : (inR x.part 0 3) = true → a.tmps.getD 75 undef = .pointer (some ⟨w.heap.size, 9, none⟩) := f75
      have f74 : a.tmps.getD 74 undef = .bool (inR x.part 0 3) := f74
      refine rely_if (rely_gt f74) (NewT.refl _) hK (fun hE hK => ?_)
      exact opr_ldI (hT.row R1.out) (by decide) rfl rfl (f75 hE) (hK _ _ (NewT.refl _) rfl)
    · intro a wx hT hF K hK
      obtain ⟨f76, f74, _⟩ := hF
      have f76 : (inR x.part 0 3) = true → a.tmps.getD 76 undef = .int .i64 (x.epoch) := f76
      have f74 : a.tmps.getD 74 undef = .bool (inR x.part 0 3) := f74
      refine rely_if (rely_gt f74) (NewT.refl _) hK (fun hE hK => ?_)
      exact opr_cv (within_cv x.epoch 1 400 wx) rfl Tryd.func45 (by kernel_rfl) (by kernel_rfl) (by simp only [List.map_toArray, List.map_cons, List.map_nil, eval_tmp, eval_const, (f76 hE)]) hK
    · intro a wx hT hF K hK
      obtain ⟨f74, f77, _⟩ := hF
      have f74 : a.tmps.getD 74 undef = .bool (inR x.part 0 3) := f74
      have f77 : (inR x.part 0 3) = true → a.tmps.getD 77 undef = .bool (inR x.epoch 1 400) := f77
      refine rely_wp rfl ?_
      exact opr_pick_b rfl f74 (fun hb => hK _ _ (NewT.refl _) (pn_and1 Q1_13 (f77 hb) hb)) (fun hb => hK _ _ (NewT.refl _) (pn_and0 Q1_13 hb))
    · intro a wx hT hF K hK
      obtain ⟨f78, _⟩ := hF
      have f78 : a.tmps.getD 78 undef = .bool (q1_13) := f78
      refine rely_wp rfl ?_
      exact opr_move (.inr rfl) (hK _ _ (NewT.refl _) f78)
    · intro wx hT
      intro u h; obtain rfl := Eq.symm (h (by simp)); clear h
      intro u h; obtain rfl := Eq.symm (h (by simp)); clear h
      intro u h; obtain rfl := Eq.symm (h (by simp)); clear h
      intro u h; obtain rfl := Eq.symm (h (by simp)); clear h
      intro _ _
      intro _ _
      intro _ _
      intro u h; obtain rfl := Eq.symm (h (by simp)); clear h
      intro u h; obtain rfl := Eq.symm (h (by simp)); clear h
      subst Q1_13
      refine relyEnd_nil rfl ?_
      refine wpList_end rfl ?_
      simp only [Act.put, List.setIfInBounds_toArray, List.set_cons_zero, List.set_cons_succ]
      go_simp
      go_wp2
      go_ret
      exact ⟨_, rfl, NewT.trans _ _ _ HN.out hT, rfl⟩
  have k6 := hk
  clear hk
  have hI : inRg x = false := by unfold inRg; simp [k1, k2, k3, k4, k5, k6]
  rw [hI]
  clear hI
  go_enter Tryd.func28, Tryd.ntmps28
  go_upto_region 1 with fail
  have r1 := rowIs_box w 27 109 (recF x sv dv)
  have hN := NewT.alloc w (.cells (rowA 109 (recF x sv dv)) 27)
  change Code.wp _ _ _ _ (w.alloc (.cells (rowA 109 (recF x sv dv)) 27))
  generalize w.alloc (.cells (rowA 109 (recF x sv dv)) 27) = W0 at r1 hN ⊢
  have R1 := Lib.hid r1
  have HN := Lib.hid hN
  replace HX := Lib.hid (hN.recV HX.out)
  replace HS := Lib.hid (hN.pairs HS.out)
  replace HD := Lib.hid (hN.rd HD.out)
  clear r1 hN
  have c0 : W0.cell? ⟨w.heap.size, 0, none⟩ = some (.int .i64 x.kind) := R1.out.cell (by omega)
  have q1 : (x.kind == 1) = false := by simpa using k1
  have q2 : (x.kind == 2) = false := by simpa using k2
  have q3 : (x.kind == 3) = false := by simpa using k3
  have q4 : (x.kind == 4) = false := by simpa using k4
  have q5 : (x.kind == 5) = false := by simpa using k5
  have q6 : (x.kind == 6) = false := by simpa using k6
  generalize x.kind = kd at c0 q1 q2 q3 q4 q5 q6
  clear k1 k2 k3 k4 k5 k6
  go_wp2
  go_ret
  exact ⟨_, rfl, HN.out, rfl⟩
end Go.Proofs.YthgblcpekhiphaaDoor
/- A region that draws its order and makes two arrays: beside the conditions of single operations a relation on the frame that each step keeps. -/
namespace Go.Proofs.YthgblcpekhiphaaDoor
open Go Go.RowKit
set_option maxRecDepth 8000

def relyStepJ (P : Program) (Q : Exit → Act → World → Prop) (T : World → World → Prop) (V : List (SV T)) (J : Act → World → Prop) (a0 : Act) (w0 : World) (o : Oper) (dp : List (Tmp × Option Nat)) (g : Option (Tmp × Bool)) (c : SV T) : Prop :=
  ∀ (a : Act) (w : World), T w0 w → relyFacts V a0 a w dp → J a w → ∀ K : Act → World → Prop, (∀ v w', T w w' → c.pred v w' → J (a.put o.dst v) w' → K (a.put o.dst v) w') →
    if relyGuard g a then o.wp P a w K Q else K (a.put o.dst undef) w
def relyAllJ (P : Program) (Q : Exit → Act → World → Prop) (T : World → World → Prop) (V : List (SV T)) (J : Act → World → Prop) (a0 : Act) (w0 : World) : List Oper → Deps → List (SV T) → Prop
  | [], _, _ => True
  | o :: r, (dp, g) :: D, c :: C => relyStepJ P Q T V J a0 w0 o dp g c ∧ relyAllJ P Q T V J a0 w0 r D C
  | _, _, _ => False
section
variable {P : Program} {ops : Array Oper} {Q : Exit → Act → World → Prop} {T : World → World → Prop} {V : List (SV T)} {J : Act → World → Prop} {a0 : Act} {w0 : World} {n : Nat} {D : Deps} {init tail : List Oper}
/-- A step that keeps the relation whatever its value is. -/
theorem relyStepJ_of {o : Oper} {dp : List (Tmp × Option Nat)} {g : Option (Tmp × Bool)} {c : SV T} (hj : ∀ a w v w', J a w → T w w' → J (a.put o.dst v) w') (h : relyStep P Q T V a0 w0 o dp g c) : relyStepJ P Q T V J a0 w0 o dp g c :=
  fun a w hT hF hJ K hK => h a w hT hF K fun v w' h1 h2 => hK v w' h1 h2 (hj a w v w' hJ h1)
theorem relyAllJ_at : ∀ (l : List Oper) (D : Deps) (C : List (SV T)) (k : Nat) (o : Oper) dp g, relyAllJ P Q T V J a0 w0 l D C → l[k]? = some o → D[k]? = some (dp, g) → relyStepJ P Q T V J a0 w0 o dp g (C.getD k SV.any)
  | [], _, _, _, _, _, _, _, h, _ => by simp at h
  | x :: r, [], _, _, _, _, _, h, _, _ => h.elim
  | x :: r, y :: D, [], _, _, _, _, h, _, _ => h.elim
  | x :: r, (dp, g) :: D, c :: C, 0, o, dp', g', h, ho, hD => by
    simp at ho hD
    obtain ⟨rfl, rfl⟩ := hD
    subst ho
    exact h.1
  | x :: r, (dp, g) :: D, c :: C, k + 1, o, dp', g', h, ho, hD => by
    have := relyAllJ_at r D C k o dp' g' h.2 (by simpa using ho) (by simpa using hD)
    simpa using this
theorem rely_next (hn : a0.tmps.size = n) (ht : ∀ a b c : World, T a b → T b c → T a c) {i : Nat} {o : Oper} {dp : List (Tmp × Option Nat)} {g : Option (Tmp × Bool)} {listed : Array Bool} {a : Act} {w : World}
    (ho : ops[i]? = some o) (h1 : relyOne ops n i o dp g = true) (h0 : listed.getD i true = false)
    (hall : ∀ e ∈ o.after, Region.binds .any e = true → listed.getD e.on false = true) (inv : RelyInv ops T V a0 w0 listed a w) :
    relyFacts V a0 a w dp ∧ Region.wanted o (yielded ops a.tmps) = relyGuard g a ∧ ∀ v w', T w w' → (V.getD i SV.any).pred v w' → RelyInv ops T V a0 w0 (listed.setIfInBounds i true) (a.put o.dst v) w' := by
  simp only [relyOne, Bool.and_eq_true] at h1
  obtain ⟨⟨⟨hdst, hafter⟩, hdp⟩, hg⟩ := h1
  have waits : ∀ j, Region.waitsFor .any ops i j = true → listed.getD j false = true := fun j hj => by
    obtain ⟨oi, hoi, e, he, hb, hon⟩ := Region.waitsFor_spec hj
    have : oi = o := Option.some.inj (hoi.symm.trans ho)
    subst this
    rw [← hon]
    exact hall e he hb
  have i0 : listed.getD i false = false := getD_both h0
  have hfacts : relyFacts V a0 a w dp := by
      induction dp with
    | nil => trivial
    | cons x r ih2 =>
      simp only [List.all_cons, Bool.and_eq_true] at hdp
      obtain ⟨hx, hr⟩ := hdp
      obtain ⟨d, j⟩ := x
      cases j with
      | some j =>
        simp only [Bool.and_eq_true, beq_iff_eq] at hx
        exact ⟨inv.new j d hx.1 (waits j hx.2), ih2 hr⟩
      | none =>
        refine ⟨inv.old d fun j hj => ?_, ih2 hr⟩
        have hjlt : j < ops.size := by
          unfold relyDst at hj
          cases hoj : ops[j]? with
          | none => simp [hoj] at hj
          | some oj => exact (Array.getElem?_eq_some_iff.1 hoj).1
        have h2 := List.all_eq_true.1 hx j (List.mem_range.2 hjlt)
        simp only [hj, bne_self_eq_false, Bool.false_or, Bool.or_eq_true, decide_eq_true_eq] at h2
        rcases h2 with rfl | h2
        · exact i0
        · cases hlj : listed.getD j false with
          | false => rfl
          | true =>
            obtain ⟨oj, hoj, e, he, hb, hon⟩ := Region.waitsFor_spec h2
            have := inv.closed j oj hoj hlj e he hb
            rw [hon, i0] at this
            cases this
  have hguard : Region.wanted o (yielded ops a.tmps) = relyGuard g a := by
    unfold Region.wanted
    cases hgo : o.guard with
    | none =>
      rw [hgo] at hg
      cases g with
      | none => rfl
      | some x => cases hg
    | some kb =>
      obtain ⟨k, b⟩ := kb
      rw [hgo] at hg
      cases g with
      | none => cases hg
      | some x =>
        obtain ⟨d, b'⟩ := x
        simp only [Bool.and_eq_true, beq_iff_eq, decide_eq_true_eq] at hg
        obtain ⟨⟨⟨rfl, hd⟩, _⟩, hlt⟩ := hg
        have hlt' : d < a.tmps.size := by rw [inv.slots, hn]; exact hlt
        have hd' : (ops[k]?).bind (·.dst) = some d := hd
        simp only [yielded, hd', Option.bind_some, relyGuard, Array.getD_eq_getD_getElem?, Array.getElem?_eq_getElem hlt', Option.getD_some]
        cases a.tmps[d] <;> simp
        all_goals (rename_i x; cases x <;> cases b <;> rfl)
  have next : ∀ v w', T w w' → (V.getD i SV.any).pred v w' → RelyInv ops T V a0 w0 (listed.setIfInBounds i true) (a.put o.dst v) w' := fun v w' hT hv => by
    have hilt : i < listed.size := by rw [inv.size]; exact (Array.getElem?_eq_some_iff.1 ho).1
    refine ⟨by simp [inv.size], fun j oj hj hlj e he hb => ?_, ht _ _ _ inv.now hT, by cases o.dst <;> simp [Act.put, inv.slots], by cases o.dst <;> simp [Act.put, inv.defers], fun j d hj hlj => ?_, fun d hno => ?_⟩
    · by_cases hij : i = j
      · subst hij
        have : oj = o := Option.some.inj (hj.symm.trans ho)
        subst this
        exact getD_set_true (hall e he hb)
      · rw [getD_set_ne false hij] at hlj
        exact getD_set_true (inv.closed j oj hj hlj e he hb)
    · by_cases hij : i = j
      · subst hij
        have hd : o.dst = some d := by simpa [relyDst, ho] using hj
        rw [hd] at hdst
        simp only [Bool.and_eq_true, decide_eq_true_eq] at hdst
        have hlt : d < a.tmps.size := by rw [inv.slots, hn]; exact hdst.1
        rw [hd]
        simpa [Act.put, hlt] using hv
      · rw [getD_set_ne false hij] at hlj
        have h3 := (V.getD j SV.any).stable _ _ _ (inv.new j d hj hlj) hT
        cases hod : o.dst with
        | none => exact h3
        | some d0 =>
          rw [hod] at hdst
          simp only [Bool.and_eq_true, decide_eq_true_eq] at hdst
          have hjlt : j < ops.size := by
            unfold relyDst at hj
            cases hoj : ops[j]? with
            | none => simp [hoj] at hj
            | some oj => exact (Array.getElem?_eq_some_iff.1 hoj).1
          have h4 := List.all_eq_true.1 hdst.2 j (List.mem_range.2 hjlt)
          simp only [Bool.or_eq_true, decide_eq_true_eq, bne_iff_ne, ne_eq] at h4
          have hne : d0 ≠ d := fun e => by
            subst e
            rcases h4 with h4 | h4
            · exact hij h4.symm
            · exact h4 hj
          simpa [Act.put, Array.getElem?_setIfInBounds_ne hne] using h3
    · have hni : o.dst ≠ some d := fun hd => by
        have := hno i (by simp [relyDst, ho, hd])
        simp [hilt] at this
      have hold := inv.old d fun j hj => by
        have hij : i ≠ j := fun e => by subst e; exact hni (by simpa [relyDst, ho] using hj)
        have := hno j hj
        rwa [getD_set_ne false hij] at this
      cases hod : o.dst with
      | none => exact hold
      | some d0 =>
        have hne : d0 ≠ d := fun e => hni (by rw [hod, e])
        simpa [Act.put, Array.getElem?_setIfInBounds_ne hne] using hold
  exact ⟨hfacts, hguard, next⟩
theorem wpAny_relyJ_tail (hsplit : ops.toList = init ++ tail) (hpos : 0 < tail.length) (hn : a0.tmps.size = n) (hB : relyB ops n 0 init D = true) (hsink : Region.sinkB .any ops init.length = true) (htb : tailB ops tail init.length = true) (ht : ∀ a b c : World, T a b → T b c → T a c)
    (hl : init.length ≤ V.length) (hA : relyAllJ P Q T V J a0 w0 init D V) (hE : ∀ w, T w0 w → relyEnd (fun _ a w => J a w → wpList P ops Q tail a w) T init V a0 w) :
    ∀ (fuel : Nat) (listed : Array Bool) (a : Act) (w : World), (unl ops listed).length = fuel → (∀ j, init.length ≤ j → j < ops.size → listed.getD j true = false) → RelyInv ops T V a0 w0 listed a w → J a w → wpAny P .any ops Q fuel listed a w := by
  obtain ⟨hsz, hpre, htl⟩ := split_at hsplit
  have hat : ∀ i o, init[i]? = some o → ∃ dp g, relyOne ops n i o dp g = true ∧ relyStepJ P Q T V J a0 w0 o dp g (V.getD i SV.any) := fun i o hi => by
    obtain ⟨dp, g, hD, h1⟩ := relyB_at init D 0 i o hB hi
    rw [Nat.zero_add] at h1
    exact ⟨dp, g, h1, relyAllJ_at _ _ _ i o dp g hA hi hD⟩
  -- once all of the first ones have come up
  have fin : ∀ (fuel : Nat) (listed : Array Bool) (a : Act) (w : World), (unl ops listed).length = fuel → (∀ j, init.length ≤ j → j < ops.size → listed.getD j true = false) → RelyInv ops T V a0 w0 listed a w → J a w → (∀ j, j < init.length → listed.getD j false = true) → wpAny P .any ops Q fuel listed a w := fun fuel listed a w hu hun inv hJ hdone => by
    have h1 : wpList P ops Q tail a w := rely_all (Q' := fun a w => J a w → wpList P ops Q tail a w) inv
      (fun k o hk => ⟨hpre k o hk, hdone k (List.getElem?_eq_some_iff.1 hk).1⟩) (fun j hj => by
        rcases Nat.lt_or_ge j init.length with h | h
        · exact h
        · rcases Nat.lt_or_ge j ops.size with h' | h'
          · rw [getD_both (hun j h h')] at hj; cases hj
          · have : listed.getD j false = false := by simp [Array.getElem?_eq_none (show listed.size ≤ j by rw [inv.size]; omega)]
            rw [this] at hj; cases hj) hl (hE w inv.now) hJ
    have hf : fuel = tail.length := by
      rw [← hu]
      unfold unl
      have e : (List.range ops.size).filter (fun i => !listed.getD i true) = List.range' init.length tail.length := by
        rw [List.range_eq_range', show ops.size = init.length + tail.length from hsz, ← List.range'_append_1, List.filter_append, List.filter_eq_nil_iff.2, List.filter_eq_self.2]
        · simp
        · intro i hi
          simp only [List.mem_range'_1] at hi
          rw [hun i (by omega) (by omega)]; rfl
        · intro i hi
          simp only [List.mem_range'_1] at hi
          have h2 := hdone i (by omega)
          have h3 : listed.getD i true = true := by
            have hlt : i < listed.size := by rw [inv.size]; omega
            simp [hlt] at h2 ⊢; exact h2
          rw [h3]; simp
      rw [e]; simp
    subst hf
    exact tail_seq hsplit htb tail.length 0 listed a w (by omega) inv.size (by simpa using hdone) (by simpa using hun) (by simpa using h1)
  intro fuel
  induction fuel with
  | zero =>
    intro listed a w hu hun inv hJ
    have : init.length ∈ unl ops listed := by
      unfold unl; rw [List.mem_filter]; exact ⟨List.mem_range.2 (by omega), by rw [hun _ (Nat.le_refl _) (by omega)]; rfl⟩
    rw [List.eq_nil_of_length_eq_zero hu] at this
    cases this
  | succ fuel ih =>
    intro listed a w hu hun inv hJ
    by_cases hdone : ∀ j, j < init.length → listed.getD j false = true
    · exact fin _ listed a w hu hun inv hJ hdone
    · -- none of the last ones may come up yet
      have hlow : ∀ i, i ∈ Region.ready .any ops listed → i < init.length := fun i hi => by
        rcases Nat.lt_or_ge i init.length with h | h
        · exact h
        · exfalso
          obtain ⟨h0, o, ho, hall⟩ := mem_ready.1 hi
          have hilt := (Array.getElem?_eq_some_iff.1 ho).1
          by_cases him : i = init.length
          · subst him
            apply hdone
            have hd : ∀ (d j : Nat), init.length - j = d → j < init.length → listed.getD j false = true := fun d => by
              induction d using Nat.strongRecOn with
              | _ d ihd =>
                intro j hd hj
                have h1 := List.all_eq_true.1 hsink j (List.mem_range.2 hj)
                obtain ⟨t, ht1, ht2⟩ := List.any_eq_true.1 h1
                simp only [Bool.and_eq_true, decide_eq_true_eq] at ht2
                obtain ⟨ot, hot, e, he, hb, hon⟩ := Region.waitsFor_spec ht2.2
                have htle : t ≤ init.length := by have := List.mem_range.1 ht1; omega
                rw [← hon]
                by_cases htm : t = init.length
                · subst htm
                  have : ot = o := Option.some.inj (hot.symm.trans ho)
                  subst this
                  exact hall e he hb
                · exact inv.closed t ot hot (ihd (init.length - t) (by omega) t rfl (by omega)) e he hb
            exact fun j hj => hd _ j rfl hj
          · have h := List.all_eq_true.1 htb (i - init.length) (List.mem_range.2 (by omega))
            simp only [Bool.and_eq_true, Bool.or_eq_true, decide_eq_true_eq] at h
            rw [show init.length + (i - init.length) = i by omega] at h
            rcases h.2 with h | h
            · omega
            · obtain ⟨oi, hoi', e, he, hbe, hon⟩ := Region.waitsFor_spec h
              have : oi = o := Option.some.inj (hoi'.symm.trans ho)
              subst this
              have h1 := hall e he hbe
              rw [hon, getD_both (hun (i - 1) (by omega) (by omega))] at h1
              cases h1
      refine ⟨fun hr => ?_, fun i hi => ?_⟩
      · exfalso
        apply hdone
        intro i
        induction i using Nat.strongRecOn with
        | _ i ih =>
          intro hi
          cases hli : listed.getD i false with
          | true => rfl
          | false =>
            exfalso
            have hmem : i ∈ Region.ready .any ops listed := by
              rw [mem_ready]
              refine ⟨getD_in (by rw [inv.size]; omega) hli, init[i], hpre i _ (List.getElem?_eq_getElem hi), fun e he hb => ?_⟩
              obtain ⟨dp, g, h1, _⟩ := hat i init[i] (List.getElem?_eq_getElem hi)
              simp only [relyOne, Bool.and_eq_true] at h1
              have h2 := (Array.all_eq_true_iff_forall_mem.1 h1.1.1.2) e he
              simp only [hb, Bool.not_true, Bool.false_or, decide_eq_true_eq] at h2
              exact ih e.on h2 (by omega)
            rw [hr] at hmem
            cases hmem
      · have hi' := hlow i hi
        obtain ⟨h0, o, ho, hall⟩ := mem_ready.1 hi
        have hio : init[i]? = some o := by
          have := hpre i init[i] (List.getElem?_eq_getElem hi')
          rw [ho] at this
          rw [List.getElem?_eq_getElem hi', Option.some.inj this]
        obtain ⟨dp, g, h1, hstep⟩ := hat i o hio
        obtain ⟨hfacts, hguard, next⟩ := rely_next hn ht ho h1 h0 hall inv
        have hs := hstep a w inv.now hfacts hJ (fun a' w' => wpAny P .any ops Q fuel (listed.setIfInBounds i true) a' w') (fun v w' hT hv hJ' => ih _ _ w' (by have := unl_set inv.size h0; omega) (fun j hj hj2 => by rw [getD_set_ne true (by omega)]; exact hun j hj hj2) (next v w' hT hv) hJ')
        unfold wpOp
        simp only [ho, hguard]
        split
        · rename_i hw; rw [if_pos hw] at hs; exact .inl hs
        · rename_i hw; rw [if_neg hw] at hs; exact hs
/-- **A region that draws its order, the last operations (from place m on) one behind the other.** -/
theorem wp_region_relyJ_tail {id : Nat} (T : World → World → Prop) (V : List (SV T)) (D : Deps) (n m : Nat) (hm : P.follows .mixedOrders = true) (hn : a0.tmps.size = n) (hlen : (ops.toList.take m).length = m) (hpos : 0 < (ops.toList.drop m).length) (hB : relyB ops n 0 (ops.toList.take m) D = true)
    (hsink : Region.sinkB .any ops m = true) (htb : tailB ops (ops.toList.drop m) m = true) (ht : ∀ a b c : World, T a b → T b c → T a c) (hd : T w0 w0.drew) (hJ0 : J a0 w0.drew) (hl : m ≤ V.length)
    (hA : relyAllJ P Q T V J a0 w0 (ops.toList.take m) D V) (hE : ∀ w, T w0 w → relyEnd (fun _ a w => J a w → wpList P ops Q (ops.toList.drop m) a w) T (ops.toList.take m) V a0 w) : (Code.region id ops true).wp P Q a0 w0 := by
  refine wp_region_any hm ?_
  refine wpAny_relyJ_tail (List.take_append_drop m ops.toList).symm hpos hn hB (by rw [hlen]; exact hsink) (by rw [hlen]; exact htb) ht (by rw [hlen]; exact hl) hA hE ops.size _ a0 w0.drew unl_start (fun j _ hj => by simp [hj]) (rely_start hd) hJ0
end
/-- Two slots hold pointers to different blocks, both there. -/
def TwoPtr (p q : Tmp) (a : Act) (w : World) : Prop :=
  (∀ g, a.tmps.getD p undef = .pointer (some ⟨g, 0, none⟩) → g < w.heap.size) ∧ (∀ g, a.tmps.getD q undef = .pointer (some ⟨g, 0, none⟩) → g < w.heap.size) ∧
    ∀ g g', a.tmps.getD p undef = .pointer (some ⟨g, 0, none⟩) → a.tmps.getD q undef = .pointer (some ⟨g', 0, none⟩) → g ≠ g'
theorem put_other {a : Act} {d : Option Tmp} {p : Tmp} (v : Value) (h : d ≠ some p) : (a.put d v).tmps.getD p undef = a.tmps.getD p undef := by
  cases d with
  | none => rfl
  | some d =>
    have hne : d ≠ p := fun e => h (by rw [e])
    simp [Act.put, Array.getElem?_setIfInBounds_ne hne]
theorem TwoPtr.keep {p q : Tmp} {a : Act} {w w' : World} {d : Option Tmp} {v : Value} (h : TwoPtr p q a w) (hp : d ≠ some p) (hq : d ≠ some q) (hT : NewT w w') : TwoPtr p q (a.put d v) w' := by
  unfold TwoPtr
  rw [put_other v hp, put_other v hq]
  exact ⟨fun g hg => Nat.lt_of_lt_of_le (h.1 g hg) hT.out.size, fun g hg => Nat.lt_of_lt_of_le (h.2.1 g hg) hT.out.size, h.2.2⟩
theorem put_same {a : Act} {p : Tmp} {g g' : Nat} (h : (a.put (some p) (.pointer (some ⟨g, 0, none⟩))).tmps.getD p undef = .pointer (some ⟨g', 0, none⟩)) : g' = g := by
  rcases Nat.lt_or_ge p a.tmps.size with hlt | hge
  · simp [Act.put, hlt] at h; exact h.symm
  · simp [Act.put, undef, Nat.not_lt.2 hge] at h
theorem TwoPtr.first {p q : Tmp} {a : Act} {w : World} {o : Obj} (h : TwoPtr p q a w) (hpq : p ≠ q) : TwoPtr p q (a.put (some p) (.pointer (some ⟨w.heap.size, 0, none⟩))) (w.alloc o) := by
  unfold TwoPtr
  rw [put_other (p := q) (d := some p) _ (by simpa using hpq)]
  refine ⟨fun g hg => by rw [put_same hg]; simp, fun g hg => by have := h.2.1 g hg; simp; omega, fun g g' hg hg' => ?_⟩
  have := h.2.1 g' hg'
  rw [put_same hg]; omega
theorem TwoPtr.second {p q : Tmp} {a : Act} {w : World} {o : Obj} (h : TwoPtr p q a w) (hpq : p ≠ q) : TwoPtr p q (a.put (some q) (.pointer (some ⟨w.heap.size, 0, none⟩))) (w.alloc o) := by
  unfold TwoPtr
  rw [put_other (p := p) (d := some q) _ (by simpa using Ne.symm hpq)]
  refine ⟨fun g hg => by have := h.1 g hg; simp; omega, fun g hg => by rw [put_same hg]; simp, fun g g' hg hg' => ?_⟩
  have := h.1 g hg
  rw [put_same hg']; omega
theorem opr_alloc_at {a : Act} {w : World} {o : Oper} {K : Act → World → Prop} {Q : Exit → Act → World → Prop} (ho : o.op = .alloc 23) (h : K (a.put o.dst (.pointer (some ⟨w.heap.size, 0, none⟩))) (w.alloc (.cells (rowA 32 (bF fun _ => 0)) 23))) : o.wp Tryd.prog a w K Q := by
  obtain ⟨dst, op, type, pos, after, guard⟩ := o
  simp only at ho
  subst ho
  exact opr_val (s := Instr.alloc 23 true (.tuple #[])) rfl (run_alloc_hash w) h
end Go.Proofs.YthgblcpekhiphaaDoor
