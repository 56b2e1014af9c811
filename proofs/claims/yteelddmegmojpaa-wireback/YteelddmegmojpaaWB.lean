/- WireBack, walked: what is put is read again, with what stands behind it left. -/
import Derived.Test.YteelddmegmojpaaWN
import Derived.Test.YteelddmegmojpaaRelyP
namespace Go.Proofs.Yteelddmegmojpaa
open Go Go.RowKit

/-- A new reader of l. -/
def svRdr (W : World) (l : List UInt8) : SV NewT := ⟨fun v w => ∃ R, v = .pointer (some ⟨R, 0, none⟩) ∧ W.heap.size ≤ R ∧ Rdr w R l 0, fun _ _ _ ⟨R, h1, h2, h3⟩ hT => ⟨R, h1, h2, h3.new hT⟩⟩
/-- It reads as l, whatever a reader R does. -/
def svRdR (R : Nat) (l : List UInt8) : SV (RT R) := ⟨fun v w => RdV w [R] v l, fun _ _ _ h hT => hT.rd h⟩
theorem All_rd (pv : Value) (ls : List (List UInt8)) (l : List UInt8) (w : World) (hp : Parts w pv ls) (hl : ls.flatten = l) (ht : l.length ≤ 1000000) : Cv 18 #[pv] w (svRd l) :=
  Calls.mono (All_cv pv ls l w hp hl ht) fun _ _ ⟨v, he, hN, hv⟩ => ⟨v, he, hN, hv [] (by simp)⟩
theorem Read_cv (v : Value) (l : List UInt8) (w W : World) (h : RdV w [] v l) (hl : l.length ≤ 1000000) (hW : W.heap.size ≤ w.heap.size) : Cv 17 #[v] w (svRdr W l) :=
  Calls.mono (Read_any v l w h hl) fun _ _ ⟨R, he, hN, hR, hr⟩ => ⟨_, he, hN, R, rfl, Nat.le_trans hW hR, hr⟩
theorem Left_len (R : Nat) (l : List UInt8) (n : Nat) (w : World) (h : Rdr w R l 0) (hn : l.length = n) : Cv 23 #[.pointer (some ⟨R, 0, none⟩)] w (.eq (.int .i64 (n : Int))) := hn ▸ Left_any R l 0 w h
theorem run_bs5 (v1 v2 v3 v4 v5 : Value) (h1 : ∃ A n c, v1 = .slice A n c) (h2 : ∃ A n c, v2 = .slice A n c) (h3 : ∃ A n c, v3 = .slice A n c) (h4 : ∃ A n c, v4 = .slice A n c) (h5 : ∃ A n c, v5 = .slice A n c) (w : World) : (Instr.buildSlice 48 5 #[(0, v1), (1, v2), (2, v3), (3, v4), (4, v5)]).run Try.prog w = .ok (.slice (some ⟨w.heap.size, 0, none⟩) 5 5) (w.alloc (.cells #[v1, v2, v3, v4, v5] 22)) := by
  obtain ⟨_, _, _, rfl⟩ := h1
  obtain ⟨_, _, _, rfl⟩ := h2
  obtain ⟨_, _, _, rfl⟩ := h3
  obtain ⟨_, _, _, rfl⟩ := h4
  obtain ⟨_, _, _, rfl⟩ := h5
  simp [go_sem]
theorem rd_is {w : World} {L : List Nat} {v : Value} {l : List UInt8} (h : RdV w L v l) : ∃ A n c, v = .slice A n c := by obtain ⟨A, c, hv, _⟩ := h; exact ⟨A, _, c, hv⟩
theorem opr_bs5 {a : Act} {w : World} {o : Oper} {K : Act → World → Prop} {Q : Exit → Act → World → Prop} {x1 x2 x3 x4 x5 : Operand} {l1 l2 l3 l4 l5 : List UInt8} (ho : o.op = .buildSlice 48 5 #[(0, x1), (1, x2), (2, x3), (3, x4), (4, x5)]) (h1 : RdV w [] (a.eval x1) l1) (h2 : RdV w [] (a.eval x2) l2) (h3 : RdV w [] (a.eval x3) l3) (h4 : RdV w [] (a.eval x4) l4) (h5 : RdV w [] (a.eval x5) l5) (h : ∀ v w', NewT w w' → Parts w' v [l1, l2, l3, l4, l5] → K (a.put o.dst v) w') : o.wp Try.prog a w K Q := by
  obtain ⟨dst, op, type, pos, after, guard⟩ := o
  simp only at ho
  subst ho
  exact opr_val (s := Instr.buildSlice 48 5 #[(0, a.eval x1), (1, a.eval x2), (2, a.eval x3), (3, a.eval x4), (4, a.eval x5)]) (by simp [execOp]) (run_bs5 _ _ _ _ _ (rd_is h1) (rd_is h2) (rd_is h3) (rd_is h4) (rd_is h5) w) (h _ _ (NewT.alloc _ _) (parts5 h1 h2 h3 h4 h5))
theorem opr_eql_bool {a : Act} {w : World} {o : Oper} {K : Act → World → Prop} {Q : Exit → Act → World → Prop} {x y : Operand} {t' : TypeId} {q : Bool} (ho : o.op = .binOp .eql 4 x y t') (hx : a.eval x = .bool q) (hy : a.eval y = .bool q) (h : K (a.put o.dst (.bool true)) w) : o.wp Try.prog a w K Q := by
  obtain ⟨dst, op, type, pos, after, guard⟩ := o
  simp only at ho
  subst ho
  refine opr_val (s := do eqGuard .eql 4 x y (a.eval x) (a.eval y); binOp .eql 4 (a.eval x) (a.eval y)) rfl ?_ h
  rw [hx, hy]
  cases q <;> simp [go_sem]
theorem outF_put (q : Bool) (r : List UInt8) : outF (cond q 1 0 :: r) = (q, r, 0) := by cases q <;> rfl
theorem outB_put (l r : List UInt8) (hl : l.length ≤ 1000000) : outB (numL l.length ++ l ++ r) (l.length : Int) = (l, r, 0) := by
  have hg := goN_put l.length (by omega) (l ++ r)
  rw [← List.append_assoc] at hg
  have hd : (numL l.length ++ l ++ r).drop (sz l.length) = l ++ r := by
    rw [List.append_assoc, ← numL_length l.length]; simp
  have hB : goB (numL l.length ++ l ++ r) (l.length : Int) = (l, sz l.length + l.length, 0) := by
    unfold goB
    rw [hg]
    simp only
    rw [if_neg (by simp), if_neg (by omega), if_neg (by simp [numL_length]), hd]
    simp
  unfold outB
  rw [hB]
  simp only [if_true]
  rw [← List.drop_drop, hd]
  simp
theorem outH_put (d : Nat → UInt8) (r : List UInt8) : (outH (digL d ++ r)).2 = (r, 0) ∧ rowA 32 (bF (outH (digL d ++ r)).1) = rowA 32 (bF d) := by
  have hl : ¬ (digL d ++ r).length < 32 := by simp [digL_length]
  unfold outH
  rw [if_neg hl]
  refine ⟨?_, rowA_congr fun i hi => ?_⟩
  · have := digL_length d
    simp [← this]
  · rw [bF_at, bF_at]
    congr 2
    have h1 : i < (digL d).length := by rw [digL_length]; exact hi
    show (digL d ++ r).getD i 0 = d i
    rw [List.getD_eq_getElem?_getD, List.getElem?_append_left h1]
    simp [digL, hi]
set_option maxRecDepth 20000 in
set_option maxHeartbeats 4000000 in
theorem WireBack_in (n : Nat) (q : Bool) (Ab : Option Addr) (m cb : Nat) (lb : List UInt8) (d : Nat → UInt8) (Ar : Option Addr) (mr cr : Nat) (lr : List UInt8) (w : World) (hb : RdV w [] (.slice Ab m cb) lb) (hr : RdV w [] (.slice Ar mr cr) lr) (hm : lb.length = m) (hmr : lr.length = mr) (hs : m ≤ 300) (hsr : mr ≤ 300) (hn : n ≤ 2147483647) :
    Calls Try.prog 4 #[.int .i64 (n : Int), .bool q, .slice Ab m cb, .agg (rowA 32 (bF d)), .slice Ar mr cr] w fun e w' => e = .returned (.bool true) ∧ Below w.heap.size w w' := by
  obtain ⟨y0, e0⟩ : ∃ y0, numI (n : Int) = y0 := ⟨_, rfl⟩
  obtain ⟨y1, e1⟩ : ∃ y1 : List UInt8, [cond q 1 0] = y1 := ⟨_, rfl⟩
  obtain ⟨y2, e2⟩ : ∃ y2, numL lb.length ++ lb = y2 := ⟨_, rfl⟩
  obtain ⟨l3, e3⟩ : ∃ l3, digL d ++ lr = l3 := ⟨_, rfl⟩
  obtain ⟨l2, e4⟩ : ∃ l2, y2 ++ l3 = l2 := ⟨_, rfl⟩
  obtain ⟨l1, e5⟩ : ∃ l1, y1 ++ l2 = l1 := ⟨_, rfl⟩
  obtain ⟨l0, e6⟩ : ∃ l0, y0 ++ l1 = l0 := ⟨_, rfl⟩
  have z2 : y2.length ≤ 305 := by rw [← e2]; simp; have := numL_length lb.length; have := sz_le lb.length; omega
  have z3 : l3.length ≤ 332 := by rw [← e3]; simp [digL_length]; omega
  have hl2 : l2.length ≤ 640 := by rw [← e4]; simp; omega
  have hl1 : l1.length ≤ 641 := by rw [← e5, ← e1]; simp; omega
  have hl0 : l0.length ≤ 1000000 := by rw [← e6, ← e0]; have := numI_length (n : Int); simp; omega
  have EL : Hid (([y0, y1, y2, digL d, lr] : List (List UInt8)).flatten = l0) := Lib.hid (by rw [← e6, ← e5, ← e4, ← e3]; simp)
  have o1 : outN l0 = (n, l1, 0) := by rw [← e6, ← e0, numI_nat n hn]; unfold outN; rw [goN_put n hn]; simp only [if_true]; rw [← numL_length n]; simp
  have o2 : outF l1 = (q, l2, 0) := by rw [← e5, ← e1]; exact outF_put q l2
  have o3 : outB l2 (m : Int) = (lb, l3, 0) := by rw [← e4, ← e2, ← hm]; exact outB_put lb l3 (by omega)
  obtain ⟨o4, o5⟩ := outH_put d lr
  rw [e3] at o4 o5
  have E0 := Lib.hid e0
  have E1 := Lib.hid e1
  have E2 := Lib.hid e2
  have O1 := Lib.hid o1
  have O2 := Lib.hid o2
  have O3 := Lib.hid o3
  have O4 := Lib.hid o4
  have HD := Lib.hid o5
  have Hb := Lib.hid hb
  have Hrr := Lib.hid hr
  have Hm := Lib.hid hm
  have Hmr := Lib.hid hmr
  clear e0 e1 e2 e3 e4 e5 e6 o1 o2 o3 o4 o5 hb hr hm hmr
  have r8 := rowIs_box w 24 32 (bF d)
  have hN0 : NewT w (w.alloc (.cells (rowA 32 (bF d)) 24)) := NewT.alloc _ _
  go_enter Try.func4, Try.ntmps4
  go_wp2_with (go_at_call 9; refine (alive3_any _).mono ?_; rintro _ w1 ⟨rfl, hB1⟩; have rr8 := NewT.row hB1 r8; have hN1 := NewT.trans _ _ _ hN0 hB1)
  have Rb := Lib.hid (NewT.rd hN1 Hb.out)
  have Rr := Lib.hid (NewT.rd hN1 Hrr.out)
  refine wp_region_rely NewT [SV.eq (.int .i64 (n : Int)), svRd y0, SV.eq (.bool q), svRd y1, svRd lb, svRd y2, SV.eq (.agg (rowA 32 (bF d))), svRd (digL d), svRd lr, svParts [y0, y1, y2, (digL d), lr], svRd l0, svRdr w1 l0] [([(0, none)], none), ([(30, some 0)], none), ([(1, none)], none), ([(32, some 2)], none), ([(2, none)], none), ([(34, some 4)], none), ([(8, none)], none), ([(36, some 6)], none), ([(4, none)], none), ([(31, some 1), (33, some 3), (35, some 5), (37, some 7), (38, some 8)], none), ([(39, some 9)], none), ([(40, some 10)], none)] 78 rfl (by kernel_rfl) rfl (by kernel_rfl) (by kernel_rfl) rfl NewT.trans (NewT.drew _) (Nat.le_of_ble_eq_true rfl) ⟨?_, ?_, ?_, ?_, ?_, ?_, ?_, ?_, ?_, ?_, ?_, ?_, trivial⟩ ?_
  · -- 0: Op.move t0
    intro a wx hT hF K hK
    obtain ⟨f0, _⟩ := hF
    have f0 : a.tmps.getD 0 undef = .int .i64 (n : Int) := f0
    refine rely_wp rfl ?_
    exact opr_move (.inl rfl) (hK _ _ (NewT.refl _) f0)
  · -- 1: Op.call ( value (Operand.func 11), args := #[t30], argTypes 
    intro a wx hT hF K hK
    obtain ⟨f30, _⟩ := hF
    have f30 : a.tmps.getD 30 undef = .int .i64 (n : Int) := f30
    refine rely_wp rfl ?_
    exact opr_cv (Num_rd _ y0 wx E0.out) rfl Try.func11 (by kernel_rfl) (by kernel_rfl) (by simp only [List.map_toArray, List.map_cons, List.map_nil, eval_tmp, f30]) hK
  · -- 2: Op.move t1
    intro a wx hT hF K hK
    obtain ⟨f1, _⟩ := hF
    have f1 : a.tmps.getD 1 undef = .bool q := f1
    refine rely_wp rfl ?_
    exact opr_move (.inl rfl) (hK _ _ (NewT.refl _) f1)
  · -- 3: Op.call ( value (Operand.func 13), args := #[t32], argTypes 
    intro a wx hT hF K hK
    obtain ⟨f32, _⟩ := hF
    have f32 : a.tmps.getD 32 undef = .bool q := f32
    refine rely_wp rfl ?_
    exact opr_cv (Flag_rd _ y1 wx E1.out) rfl Try.func13 (by kernel_rfl) (by kernel_rfl) (by simp only [List.map_toArray, List.map_cons, List.map_nil, eval_tmp, f32]) hK
  · -- 4: Op.move t2
    intro a wx hT hF K hK
    obtain ⟨f2, _⟩ := hF
    have f2 : a.tmps.getD 2 undef = .slice Ab m cb := f2
    refine rely_wp rfl ?_
    exact opr_move (.inl rfl) (hK _ _ (NewT.refl _) (by rw [eval_tmp, f2]; exact hT.rd Rb.out))
  · -- 5: Op.call ( value (Operand.func 14), args := #[t34], argTypes 
    intro a wx hT hF K hK
    obtain ⟨f34, _⟩ := hF
    replace f34 := show (svRd lb).pred (a.tmps.getD 34 undef) wx from f34
    refine rely_wp rfl ?_
    exact opr_cv (WBytes_rd _ lb y2 wx f34 (by have := Hm.out; omega) E2.out) rfl Try.func14 (by kernel_rfl) (by kernel_rfl) (by simp only [List.map_toArray, List.map_cons, List.map_nil, eval_tmp]) hK
  · -- 6: Op.load 24 t8
    intro a wx hT hF K hK
    obtain ⟨f8, _⟩ := hF
    have f8 : a.tmps.getD 8 undef = .pointer (some ⟨w.heap.size, 0, none⟩) := f8
    refine rely_wp rfl ?_
    exact opr_load_hash rfl f8 (hT.row rr8) (hK _ _ (NewT.refl _) rfl)
  · -- 7: Op.call ( value (Operand.func 16), args := #[t36], argTypes 
    intro a wx hT hF K hK
    obtain ⟨f36, _⟩ := hF
    have f36 : a.tmps.getD 36 undef = .agg (rowA 32 (bF d)) := f36
    refine rely_wp rfl ?_
    exact opr_cv (WHash_rd d wx) rfl Try.func16 (by kernel_rfl) (by kernel_rfl) (by simp only [List.map_toArray, List.map_cons, List.map_nil, eval_tmp, f36]) hK
  · -- 8: Op.move t4
    intro a wx hT hF K hK
    obtain ⟨f4, _⟩ := hF
    have f4 : a.tmps.getD 4 undef = .slice Ar mr cr := f4
    refine rely_wp rfl ?_
    exact opr_move (.inl rfl) (hK _ _ (NewT.refl _) (by rw [eval_tmp, f4]; exact hT.rd Rr.out))
  · -- 9: Op.buildSlice 48 5 #[(0, t31), (1, t33), (2, t35), (3, t37),
    intro a wx hT hF K hK
    obtain ⟨f31, f33, f35, f37, f38, _⟩ := hF
    replace f31 := show (svRd y0).pred (a.tmps.getD 31 undef) wx from f31
    replace f33 := show (svRd y1).pred (a.tmps.getD 33 undef) wx from f33
    replace f35 := show (svRd y2).pred (a.tmps.getD 35 undef) wx from f35
    replace f37 := show (svRd (digL d)).pred (a.tmps.getD 37 undef) wx from f37
    replace f38 := show (svRd lr).pred (a.tmps.getD 38 undef) wx from f38
    refine rely_wp rfl ?_
    exact opr_bs5 rfl f31 f33 f35 f37 f38 hK
  · -- 10: Op.call ( value (Operand.func 18), args := #[t39], argTypes 
    intro a wx hT hF K hK
    obtain ⟨f39, _⟩ := hF
    replace f39 := show (svParts [y0, y1, y2, (digL d), lr]).pred (a.tmps.getD 39 undef) wx from f39
    refine rely_wp rfl ?_
    exact opr_cv (All_rd _ _ l0 wx f39 EL.out hl0) rfl Try.func18 (by kernel_rfl) (by kernel_rfl) (by simp only [List.map_toArray, List.map_cons, List.map_nil, eval_tmp]) hK
  · -- 11: Op.call ( value (Operand.func 17), args := #[t40], argTypes 
    intro a wx hT hF K hK
    obtain ⟨f40, _⟩ := hF
    replace f40 := show (svRd l0).pred (a.tmps.getD 40 undef) wx from f40
    refine rely_wp rfl ?_
    exact opr_cv (Read_cv _ l0 wx w1 f40 hl0 hT.out.size) rfl Try.func17 (by kernel_rfl) (by kernel_rfl) (by simp only [List.map_toArray, List.map_cons, List.map_nil, eval_tmp]) hK
  · intro wx hT
    intro u h; obtain rfl := h (by simp); clear h
    intro u31 h; have g31 := h (by simp); clear h; replace g31 := show (svRd y0).pred u31 wx from g31
    intro u h; obtain rfl := h (by simp); clear h
    intro u33 h; have g33 := h (by simp); clear h; replace g33 := show (svRd y1).pred u33 wx from g33
    intro u34 h; have g34 := h (by simp); clear h; replace g34 := show (svRd lb).pred u34 wx from g34
    intro u35 h; have g35 := h (by simp); clear h; replace g35 := show (svRd y2).pred u35 wx from g35
    intro u h; obtain rfl := h (by simp); clear h
    intro u37 h; have g37 := h (by simp); clear h; replace g37 := show (svRd (digL d)).pred u37 wx from g37
    intro u38 h; have g38 := h (by simp); clear h; replace g38 := show (svRd lr).pred u38 wx from g38
    intro u39 h; have g39 := h (by simp); clear h; replace g39 := show (svParts [y0, y1, y2, (digL d), lr]).pred u39 wx from g39
    intro u40 h; have g40 := h (by simp); clear h; replace g40 := show (svRd l0).pred u40 wx from g40
    intro u41 h; have g41 := h (by simp); clear h; replace g41 := show (svRdr w1 l0).pred u41 wx from g41
    refine relyEnd_nil rfl ?_
    simp only [Act.put, List.setIfInBounds_toArray, List.set_cons_zero, List.set_cons_succ]
    refine opr_move (.inr rfl) ?_
    go_simp
    obtain ⟨R, rfl, hR, hr⟩ := g41
    have hNx : NewT w wx := NewT.trans _ _ _ hN1 hT
    have hsz : w.heap.size < w1.heap.size := rr8.lt
    have hgR : w.heap.size ≠ R := by omega
    have RbR : Hid (RdV wx [R] (.slice Ab m cb) lb) := Lib.hid ((Rb.out.more (L' := [R]) fun k hk _ => by simp; omega).keep (KeepBut.below hT))
    replace rr8 := hT.row rr8
    have Hr := Lib.hid hr
    have hRl : R < wx.heap.size := hr.lt
    clear hr hT Rb Rr g31 g33 g34 g35 g37 g38 g39 g40 r8 hN0 hN1 hB1 Hb Hrr EL
    go_wp2_with fail
    generalize wx = W5 at *
    refine wp_region_relyP (RT R) (fun k w => Rdr w R (([l0, l1, l1, l1, l2, l2, l2, l2, l3, l3, l3, l3] : List (List UInt8)).getD k lr) 0) [SV.eq (.pointer (some ⟨R, 0, none⟩)), SV.eq (.int .i64 (n : Int)), SV.eq (.int .i64 (n : Int)), SV.eq (.bool true), SV.eq (.bool true), SV.eq (.pointer (some ⟨R, 0, none⟩)), SV.eq (.bool q), SV.eq (.bool q), SV.eq (.bool true), SV.eq (.bool true), SV.eq (.bool true), SV.eq (.pointer (some ⟨R, 0, none⟩)), SV.eq (.slice Ab m cb), SV.eq (.int .i64 (m : Int)), svRdR R lb, SV.eq (.slice Ab m cb), SV.eq (.bool true), SV.eq (.bool true), SV.eq (.bool true), SV.eq (.pointer (some ⟨R, 0, none⟩)), SV.eq (.agg (rowA 32 (bF d))), SV.eq (.agg (rowA 32 (bF d))), SV.eq (.bool true), SV.eq (.bool true), SV.eq (.bool true), SV.eq (.pointer (some ⟨R, 0, none⟩)), SV.eq (.int .i64 (mr : Int)), SV.eq (.slice Ar mr cr), SV.eq (.int .i64 (mr : Int)), SV.eq (.bool true), SV.eq (.bool true), SV.eq (.bool true), SV.eq (.pointer (some ⟨R, 0, none⟩)), SV.eq (.int .i64 0), SV.eq (.bool true), SV.eq (.bool true)] [([(11, none)], none), ([(42, some 0)], none), ([(0, none)], none), ([(43, some 1), (44, some 2)], none), ([(45, some 3)], none), ([(11, none), (46, some 4)], some (46, true)), ([(47, some 5), (46, some 4)], some (46, true)), ([(1, none), (46, some 4)], some (46, true)), ([(48, some 6), (49, some 7), (46, some 4)], some (46, true)), ([(46, some 4), (50, some 8)], none), ([(51, some 9)], none), ([(11, none), (52, some 10)], some (52, true)), ([(2, none), (52, some 10)], some (52, true)), ([(54, some 12), (52, some 10)], some (52, true)), ([(53, some 11), (55, some 13), (52, some 10)], some (52, true)), ([(2, none), (52, some 10)], some (52, true)), ([(56, some 14), (57, some 15), (52, some 10)], some (52, true)), ([(52, some 10), (58, some 16)], none), ([(59, some 17)], none), ([(11, none), (60, some 18)], some (60, true)), ([(61, some 19), (60, some 18)], some (60, true)), ([(8, none), (60, some 18)], some (60, true)), ([(62, some 20), (63, some 21), (60, some 18)], some (60, true)), ([(60, some 18), (64, some 22)], none), ([(65, some 23)], none), ([(11, none), (66, some 24)], some (66, true)), ([(67, some 25), (66, some 24)], some (66, true)), ([(4, none), (66, some 24)], some (66, true)), ([(69, some 27), (66, some 24)], some (66, true)), ([(68, some 26), (70, some 28), (66, some 24)], some (66, true)), ([(66, some 24), (71, some 29)], none), ([(72, some 30)], none), ([(11, none), (73, some 31)], some (73, true)), ([(74, some 32), (73, some 31)], some (73, true)), ([(75, some 33), (73, some 31)], some (73, true)), ([(73, some 31), (76, some 34)], none)] [none, some 0, none, some 1, some 2, none, some 3, none, some 4, some 5, some 6, none, none, none, some 7, none, some 8, some 9, some 10, none, some 11, none, some 12, some 13, some 14, none, some 15, none, none, some 16, some 17, some 18, none, some 19, none, none] [1, 3, 4, 6, 8, 9, 10, 14, 16, 17, 18, 20, 22, 23, 24, 26, 29, 30, 31, 33] 78 rfl (by kernel_rfl) rfl (by kernel_rfl) (by kernel_rfl) rfl (by kernel_rfl) RT.trans (RT.drew _ _) Hr.out.drew (Nat.le_of_ble_eq_true rfl) ⟨?_, ?_, ?_, ?_, ?_, ?_, ?_, ?_, ?_, ?_, ?_, ?_, ?_, ?_, ?_, ?_, ?_, ?_, ?_, ?_, ?_, ?_, ?_, ?_, ?_, ?_, ?_, ?_, ?_, ?_, ?_, ?_, ?_, ?_, ?_, ?_, trivial⟩ ?_
    · -- 0: Op.move t11
      intro a wx hT hF K hK
      have hK' := fun v hv => hK v wx (RT.refl _ _) (fun _ h => h) hv
      have hKn := fun v w' (hN : NewT wx w') hv => hK v w' (RT.new (Nat.lt_of_lt_of_le hRl hT.size) hN) (fun k h => Rdr.new h hN) hv
      obtain ⟨f11, _⟩ := hF
      have f11 : a.tmps.getD 11 undef = .pointer (some ⟨R, 0, none⟩) := f11
      refine rely_wp rfl ?_
      exact opr_move (.inl rfl) (hK' _ f11)
    · -- 1: Op.call ( value (Operand.func 19), args := #[t42], argTypes 
      intro a wx hT hF hJ K hK
      obtain ⟨f42, _⟩ := hF
      have f42 : a.tmps.getD 42 undef = .pointer (some ⟨R, 0, none⟩) := f42
      refine rely_wp rfl ?_
      refine opr_call rfl Try.func19 (by kernel_rfl) (by kernel_rfl) (by simp only [List.map_toArray, List.map_cons, List.map_nil, eval_tmp, f42]) ((RNum_good R l0 wx hJ (by have := hl0; omega)).mono ?_)
      rintro e w' ⟨rfl, hT', hr⟩
      rw [O1.out] at hr ⊢
      exact ⟨_, rfl, hK _ _ hT' hr rfl⟩
    · -- 2: Op.move t0
      intro a wx hT hF K hK
      have hK' := fun v hv => hK v wx (RT.refl _ _) (fun _ h => h) hv
      have hKn := fun v w' (hN : NewT wx w') hv => hK v w' (RT.new (Nat.lt_of_lt_of_le hRl hT.size) hN) (fun k h => Rdr.new h hN) hv
      obtain ⟨f0, _⟩ := hF
      have f0 : a.tmps.getD 0 undef = .int .i64 (n : Int) := f0
      refine rely_wp rfl ?_
      exact opr_move (.inl rfl) (hK' _ f0)
    · -- 3: Op.binOp BinOp.eql 3 t43 t44 3
      intro a wx hT hF hJ K hK
      have hK' := fun v hv => hK v wx (RT.refl _ _) hJ hv
      have hKn := fun v w' (hN : NewT wx w') hv => hK v w' (RT.new (Nat.lt_of_lt_of_le hRl hT.size) hN) (Rdr.new hJ hN) hv
      obtain ⟨f43, f44, _⟩ := hF
      have f43 : a.tmps.getD 43 undef = .int .i64 (n : Int) := f43
      have f44 : a.tmps.getD 44 undef = .int .i64 (n : Int) := f44
      refine rely_wp rfl ?_
      simp only [Array.getD_eq_getD_getElem?] at f43
      simp only [Array.getD_eq_getD_getElem?] at f44
      go_simp
      exact hK' _ rfl
    · -- 4: Op.move t45
      intro a wx hT hF hJ K hK
      have hK' := fun v hv => hK v wx (RT.refl _ _) hJ hv
      have hKn := fun v w' (hN : NewT wx w') hv => hK v w' (RT.new (Nat.lt_of_lt_of_le hRl hT.size) hN) (Rdr.new hJ hN) hv
      obtain ⟨f45, _⟩ := hF
      have f45 : a.tmps.getD 45 undef = .bool true := f45
      refine rely_wp rfl ?_
      exact opr_move (.inl rfl) (hK' _ f45)
    · -- 5: Op.move t11
      intro a wx hT hF K hK
      have hK' := fun v hv => hK v wx (RT.refl _ _) (fun _ h => h) hv
      have hKn := fun v w' (hN : NewT wx w') hv => hK v w' (RT.new (Nat.lt_of_lt_of_le hRl hT.size) hN) (fun k h => Rdr.new h hN) hv
      obtain ⟨f11, f46, _⟩ := hF
      have f11 : a.tmps.getD 11 undef = .pointer (some ⟨R, 0, none⟩) := f11
      have f46 : a.tmps.getD 46 undef = .bool true := f46
      refine rely_wp (rely_guard f46) ?_
      exact opr_move (.inl rfl) (hK' _ f11)
    · -- 6: Op.call ( value (Operand.func 20), args := #[t47], argTypes 
      intro a wx hT hF hJ K hK
      obtain ⟨f47, f46, _⟩ := hF
      have f47 : a.tmps.getD 47 undef = .pointer (some ⟨R, 0, none⟩) := f47
      have f46 : a.tmps.getD 46 undef = .bool true := f46
      refine rely_wp (rely_guard f46) ?_
      refine opr_call rfl Try.func20 (by kernel_rfl) (by kernel_rfl) (by simp only [List.map_toArray, List.map_cons, List.map_nil, eval_tmp, f47]) ((RFlag_good R l1 wx hJ (by have := hl1; omega)).mono ?_)
      rintro e w' ⟨rfl, hT', hr⟩
      rw [O2.out] at hr ⊢
      exact ⟨_, rfl, hK _ _ hT' hr rfl⟩
    · -- 7: Op.move t1
      intro a wx hT hF K hK
      have hK' := fun v hv => hK v wx (RT.refl _ _) (fun _ h => h) hv
      have hKn := fun v w' (hN : NewT wx w') hv => hK v w' (RT.new (Nat.lt_of_lt_of_le hRl hT.size) hN) (fun k h => Rdr.new h hN) hv
      obtain ⟨f1, f46, _⟩ := hF
      have f1 : a.tmps.getD 1 undef = .bool q := f1
      have f46 : a.tmps.getD 46 undef = .bool true := f46
      refine rely_wp (rely_guard f46) ?_
      exact opr_move (.inl rfl) (hK' _ f1)
    · -- 8: Op.binOp BinOp.eql 4 t48 t49 4
      intro a wx hT hF hJ K hK
      have hK' := fun v hv => hK v wx (RT.refl _ _) hJ hv
      have hKn := fun v w' (hN : NewT wx w') hv => hK v w' (RT.new (Nat.lt_of_lt_of_le hRl hT.size) hN) (Rdr.new hJ hN) hv
      obtain ⟨f48, f49, f46, _⟩ := hF
      have f48 : a.tmps.getD 48 undef = .bool q := f48
      have f49 : a.tmps.getD 49 undef = .bool q := f49
      have f46 : a.tmps.getD 46 undef = .bool true := f46
      refine rely_wp (rely_guard f46) ?_
      exact opr_eql_bool rfl f48 f49 (hK' _ rfl)
    · -- 9: Op.pick t46 t50 (const (Value.bool false))
      intro a wx hT hF hJ K hK
      have hK' := fun v hv => hK v wx (RT.refl _ _) hJ hv
      have hKn := fun v w' (hN : NewT wx w') hv => hK v w' (RT.new (Nat.lt_of_lt_of_le hRl hT.size) hN) (Rdr.new hJ hN) hv
      obtain ⟨f46, f50, _⟩ := hF
      have f46 : a.tmps.getD 46 undef = .bool true := f46
      have f50 : a.tmps.getD 50 undef = .bool true := f50
      refine rely_wp rfl ?_
      exact opr_pick_true rfl f46 (hK' _ f50)
    · -- 10: Op.move t51
      intro a wx hT hF hJ K hK
      have hK' := fun v hv => hK v wx (RT.refl _ _) hJ hv
      have hKn := fun v w' (hN : NewT wx w') hv => hK v w' (RT.new (Nat.lt_of_lt_of_le hRl hT.size) hN) (Rdr.new hJ hN) hv
      obtain ⟨f51, _⟩ := hF
      have f51 : a.tmps.getD 51 undef = .bool true := f51
      refine rely_wp rfl ?_
      exact opr_move (.inl rfl) (hK' _ f51)
    · -- 11: Op.move t11
      intro a wx hT hF K hK
      have hK' := fun v hv => hK v wx (RT.refl _ _) (fun _ h => h) hv
      have hKn := fun v w' (hN : NewT wx w') hv => hK v w' (RT.new (Nat.lt_of_lt_of_le hRl hT.size) hN) (fun k h => Rdr.new h hN) hv
      obtain ⟨f11, f52, _⟩ := hF
      have f11 : a.tmps.getD 11 undef = .pointer (some ⟨R, 0, none⟩) := f11
      have f52 : a.tmps.getD 52 undef = .bool true := f52
      refine rely_wp (rely_guard f52) ?_
      exact opr_move (.inl rfl) (hK' _ f11)
    · -- 12: Op.move t2
      intro a wx hT hF K hK
      have hK' := fun v hv => hK v wx (RT.refl _ _) (fun _ h => h) hv
      have hKn := fun v w' (hN : NewT wx w') hv => hK v w' (RT.new (Nat.lt_of_lt_of_le hRl hT.size) hN) (fun k h => Rdr.new h hN) hv
      obtain ⟨f2, f52, _⟩ := hF
      have f2 : a.tmps.getD 2 undef = .slice Ab m cb := f2
      have f52 : a.tmps.getD 52 undef = .bool true := f52
      refine rely_wp (rely_guard f52) ?_
      exact opr_move (.inl rfl) (hK' _ f2)
    · -- 13: Op.call ( builtin len, args := #[t54], argTypes := #[22] )
      intro a wx hT hF K hK
      have hK' := fun v hv => hK v wx (RT.refl _ _) (fun _ h => h) hv
      have hKn := fun v w' (hN : NewT wx w') hv => hK v w' (RT.new (Nat.lt_of_lt_of_le hRl hT.size) hN) (fun k h => Rdr.new h hN) hv
      obtain ⟨f54, f52, _⟩ := hF
      have f54 : a.tmps.getD 54 undef = .slice Ab m cb := f54
      have f52 : a.tmps.getD 52 undef = .bool true := f52
      refine rely_wp (rely_guard f52) ?_
      exact opr_len rfl Try.underlying22 f54 (hK' _ rfl)
    · -- 14: Op.call ( value (Operand.func 21), args := #[t53, t55], argT
      intro a wx hT hF hJ K hK
      obtain ⟨f53, f55, f52, _⟩ := hF
      have f53 : a.tmps.getD 53 undef = .pointer (some ⟨R, 0, none⟩) := f53
      have f55 : a.tmps.getD 55 undef = .int .i64 (m : Int) := f55
      have f52 : a.tmps.getD 52 undef = .bool true := f52
      refine rely_wp (rely_guard f52) ?_
      refine opr_call rfl Try.func21 (by kernel_rfl) (by kernel_rfl) (by simp only [List.map_toArray, List.map_cons, List.map_nil, eval_tmp, f53, f55]) ((RBytes_good R (m : Int) l2 wx hJ (by have := hl2; omega)).mono ?_)
      rintro e w' ⟨u, rfl, hu, hT', hr⟩
      rw [O3.out] at hr hu
      exact ⟨_, rfl, hK _ _ hT' hr (hu [R] (by simpa using Rdr.lt (l := l2) (e := 0) hJ))⟩
    · -- 15: Op.move t2
      intro a wx hT hF K hK
      have hK' := fun v hv => hK v wx (RT.refl _ _) (fun _ h => h) hv
      have hKn := fun v w' (hN : NewT wx w') hv => hK v w' (RT.new (Nat.lt_of_lt_of_le hRl hT.size) hN) (fun k h => Rdr.new h hN) hv
      obtain ⟨f2, f52, _⟩ := hF
      have f2 : a.tmps.getD 2 undef = .slice Ab m cb := f2
      have f52 : a.tmps.getD 52 undef = .bool true := f52
      refine rely_wp (rely_guard f52) ?_
      exact opr_move (.inl rfl) (hK' _ f2)
    · -- 16: Op.call ( value (Operand.func 10), args := #[t56, t57], argT
      intro a wx hT hF hJ K hK
      have hK' := fun v hv => hK v wx (RT.refl _ _) hJ hv
      have hKn := fun v w' (hN : NewT wx w') hv => hK v w' (RT.new (Nat.lt_of_lt_of_le hRl hT.size) hN) (Rdr.new hJ hN) hv
      obtain ⟨f56, f57, f52, _⟩ := hF
      replace f56 := show (svRdR R lb).pred (a.tmps.getD 56 undef) wx from f56
      have f57 : a.tmps.getD 57 undef = .slice Ab m cb := f57
      have f52 : a.tmps.getD 52 undef = .bool true := f52
      refine rely_wp (rely_guard f52) ?_
      exact opr_cv (Bytes_true _ _ lb wx (f56.less (by simp)) ((hT.rd RbR.out).less (by simp)) (by have := Hm.out; omega)) rfl Try.func10 (by kernel_rfl) (by kernel_rfl) (by simp only [List.map_toArray, List.map_cons, List.map_nil, eval_tmp, f57]) hKn
    · -- 17: Op.pick t52 t58 (const (Value.bool false))
      intro a wx hT hF hJ K hK
      have hK' := fun v hv => hK v wx (RT.refl _ _) hJ hv
      have hKn := fun v w' (hN : NewT wx w') hv => hK v w' (RT.new (Nat.lt_of_lt_of_le hRl hT.size) hN) (Rdr.new hJ hN) hv
      obtain ⟨f52, f58, _⟩ := hF
      have f52 : a.tmps.getD 52 undef = .bool true := f52
      have f58 : a.tmps.getD 58 undef = .bool true := f58
      refine rely_wp rfl ?_
      exact opr_pick_true rfl f52 (hK' _ f58)
    · -- 18: Op.move t59
      intro a wx hT hF hJ K hK
      have hK' := fun v hv => hK v wx (RT.refl _ _) hJ hv
      have hKn := fun v w' (hN : NewT wx w') hv => hK v w' (RT.new (Nat.lt_of_lt_of_le hRl hT.size) hN) (Rdr.new hJ hN) hv
      obtain ⟨f59, _⟩ := hF
      have f59 : a.tmps.getD 59 undef = .bool true := f59
      refine rely_wp rfl ?_
      exact opr_move (.inl rfl) (hK' _ f59)
    · -- 19: Op.move t11
      intro a wx hT hF K hK
      have hK' := fun v hv => hK v wx (RT.refl _ _) (fun _ h => h) hv
      have hKn := fun v w' (hN : NewT wx w') hv => hK v w' (RT.new (Nat.lt_of_lt_of_le hRl hT.size) hN) (fun k h => Rdr.new h hN) hv
      obtain ⟨f11, f60, _⟩ := hF
      have f11 : a.tmps.getD 11 undef = .pointer (some ⟨R, 0, none⟩) := f11
      have f60 : a.tmps.getD 60 undef = .bool true := f60
      refine rely_wp (rely_guard f60) ?_
      exact opr_move (.inl rfl) (hK' _ f11)
    · -- 20: Op.call ( value (Operand.func 22), args := #[t61], argTypes 
      intro a wx hT hF hJ K hK
      obtain ⟨f61, f60, _⟩ := hF
      have f61 : a.tmps.getD 61 undef = .pointer (some ⟨R, 0, none⟩) := f61
      have f60 : a.tmps.getD 60 undef = .bool true := f60
      refine rely_wp (rely_guard f60) ?_
      refine opr_call rfl Try.func22 (by kernel_rfl) (by kernel_rfl) (by simp only [List.map_toArray, List.map_cons, List.map_nil, eval_tmp, f61]) ((RHash_good R l3 wx hJ).mono ?_)
      rintro e w' ⟨rfl, hT', hr⟩
      rw [O4.out] at hr
      rw [HD.out]
      exact ⟨_, rfl, hK _ _ hT' hr rfl⟩
    · -- 21: Op.load 24 t8
      intro a wx hT hF K hK
      have hK' := fun v hv => hK v wx (RT.refl _ _) (fun _ h => h) hv
      have hKn := fun v w' (hN : NewT wx w') hv => hK v w' (RT.new (Nat.lt_of_lt_of_le hRl hT.size) hN) (fun k h => Rdr.new h hN) hv
      obtain ⟨f8, f60, _⟩ := hF
      have f8 : a.tmps.getD 8 undef = .pointer (some ⟨w.heap.size, 0, none⟩) := f8
      have f60 : a.tmps.getD 60 undef = .bool true := f60
      refine rely_wp (rely_guard f60) ?_
      exact opr_load_hash rfl f8 (hT.row hgR rr8) (hK' _ rfl)
    · -- 22: Op.binOp BinOp.eql 24 t62 t63 24
      intro a wx hT hF hJ K hK
      have hK' := fun v hv => hK v wx (RT.refl _ _) hJ hv
      have hKn := fun v w' (hN : NewT wx w') hv => hK v w' (RT.new (Nat.lt_of_lt_of_le hRl hT.size) hN) (Rdr.new hJ hN) hv
      obtain ⟨f62, f63, f60, _⟩ := hF
      have f62 : a.tmps.getD 62 undef = .agg (rowA 32 (bF d)) := f62
      have f63 : a.tmps.getD 63 undef = .agg (rowA 32 (bF d)) := f63
      have f60 : a.tmps.getD 60 undef = .bool true := f60
      refine rely_wp (rely_guard f60) ?_
      exact opr_eql_hash (b := true) rfl f62 f63 (eqH_same _) (hK' _ rfl)
    · -- 23: Op.pick t60 t64 (const (Value.bool false))
      intro a wx hT hF hJ K hK
      have hK' := fun v hv => hK v wx (RT.refl _ _) hJ hv
      have hKn := fun v w' (hN : NewT wx w') hv => hK v w' (RT.new (Nat.lt_of_lt_of_le hRl hT.size) hN) (Rdr.new hJ hN) hv
      obtain ⟨f60, f64, _⟩ := hF
      have f60 : a.tmps.getD 60 undef = .bool true := f60
      have f64 : a.tmps.getD 64 undef = .bool true := f64
      refine rely_wp rfl ?_
      exact opr_pick_true rfl f60 (hK' _ f64)
    · -- 24: Op.move t65
      intro a wx hT hF hJ K hK
      have hK' := fun v hv => hK v wx (RT.refl _ _) hJ hv
      have hKn := fun v w' (hN : NewT wx w') hv => hK v w' (RT.new (Nat.lt_of_lt_of_le hRl hT.size) hN) (Rdr.new hJ hN) hv
      obtain ⟨f65, _⟩ := hF
      have f65 : a.tmps.getD 65 undef = .bool true := f65
      refine rely_wp rfl ?_
      exact opr_move (.inl rfl) (hK' _ f65)
    · -- 25: Op.move t11
      intro a wx hT hF K hK
      have hK' := fun v hv => hK v wx (RT.refl _ _) (fun _ h => h) hv
      have hKn := fun v w' (hN : NewT wx w') hv => hK v w' (RT.new (Nat.lt_of_lt_of_le hRl hT.size) hN) (fun k h => Rdr.new h hN) hv
      obtain ⟨f11, f66, _⟩ := hF
      have f11 : a.tmps.getD 11 undef = .pointer (some ⟨R, 0, none⟩) := f11
      have f66 : a.tmps.getD 66 undef = .bool true := f66
      refine rely_wp (rely_guard f66) ?_
      exact opr_move (.inl rfl) (hK' _ f11)
    · -- 26: Op.call ( value (Operand.func 23), args := #[t67], argTypes 
      intro a wx hT hF hJ K hK
      have hK' := fun v hv => hK v wx (RT.refl _ _) hJ hv
      have hKn := fun v w' (hN : NewT wx w') hv => hK v w' (RT.new (Nat.lt_of_lt_of_le hRl hT.size) hN) (Rdr.new hJ hN) hv
      obtain ⟨f67, f66, _⟩ := hF
      have f67 : a.tmps.getD 67 undef = .pointer (some ⟨R, 0, none⟩) := f67
      have f66 : a.tmps.getD 66 undef = .bool true := f66
      refine rely_wp (rely_guard f66) ?_
      exact opr_cv (Left_len R lr mr wx hJ Hmr.out) rfl Try.func23 (by kernel_rfl) (by kernel_rfl) (by simp only [List.map_toArray, List.map_cons, List.map_nil, eval_tmp, f67]) hKn
    · -- 27: Op.move t4
      intro a wx hT hF K hK
      have hK' := fun v hv => hK v wx (RT.refl _ _) (fun _ h => h) hv
      have hKn := fun v w' (hN : NewT wx w') hv => hK v w' (RT.new (Nat.lt_of_lt_of_le hRl hT.size) hN) (fun k h => Rdr.new h hN) hv
      obtain ⟨f4, f66, _⟩ := hF
      have f4 : a.tmps.getD 4 undef = .slice Ar mr cr := f4
      have f66 : a.tmps.getD 66 undef = .bool true := f66
      refine rely_wp (rely_guard f66) ?_
      exact opr_move (.inl rfl) (hK' _ f4)
    · -- 28: Op.call ( builtin len, args := #[t69], argTypes := #[22] )
      intro a wx hT hF K hK
      have hK' := fun v hv => hK v wx (RT.refl _ _) (fun _ h => h) hv
      have hKn := fun v w' (hN : NewT wx w') hv => hK v w' (RT.new (Nat.lt_of_lt_of_le hRl hT.size) hN) (fun k h => Rdr.new h hN) hv
      obtain ⟨f69, f66, _⟩ := hF
      have f69 : a.tmps.getD 69 undef = .slice Ar mr cr := f69
      have f66 : a.tmps.getD 66 undef = .bool true := f66
      refine rely_wp (rely_guard f66) ?_
      exact opr_len rfl Try.underlying22 f69 (hK' _ rfl)
    · -- 29: Op.binOp BinOp.eql 3 t68 t70 3
      intro a wx hT hF hJ K hK
      have hK' := fun v hv => hK v wx (RT.refl _ _) hJ hv
      have hKn := fun v w' (hN : NewT wx w') hv => hK v w' (RT.new (Nat.lt_of_lt_of_le hRl hT.size) hN) (Rdr.new hJ hN) hv
      obtain ⟨f68, f70, f66, _⟩ := hF
      have f68 : a.tmps.getD 68 undef = .int .i64 (mr : Int) := f68
      have f70 : a.tmps.getD 70 undef = .int .i64 (mr : Int) := f70
      have f66 : a.tmps.getD 66 undef = .bool true := f66
      refine rely_wp (rely_guard f66) ?_
      simp only [Array.getD_eq_getD_getElem?] at f68
      simp only [Array.getD_eq_getD_getElem?] at f70
      simp only [Array.getD_eq_getD_getElem?] at f66
      go_simp
      exact hK' _ rfl
    · -- 30: Op.pick t66 t71 (const (Value.bool false))
      intro a wx hT hF hJ K hK
      have hK' := fun v hv => hK v wx (RT.refl _ _) hJ hv
      have hKn := fun v w' (hN : NewT wx w') hv => hK v w' (RT.new (Nat.lt_of_lt_of_le hRl hT.size) hN) (Rdr.new hJ hN) hv
      obtain ⟨f66, f71, _⟩ := hF
      have f66 : a.tmps.getD 66 undef = .bool true := f66
      have f71 : a.tmps.getD 71 undef = .bool true := f71
      refine rely_wp rfl ?_
      exact opr_pick_true rfl f66 (hK' _ f71)
    · -- 31: Op.move t72
      intro a wx hT hF hJ K hK
      have hK' := fun v hv => hK v wx (RT.refl _ _) hJ hv
      have hKn := fun v w' (hN : NewT wx w') hv => hK v w' (RT.new (Nat.lt_of_lt_of_le hRl hT.size) hN) (Rdr.new hJ hN) hv
      obtain ⟨f72, _⟩ := hF
      have f72 : a.tmps.getD 72 undef = .bool true := f72
      refine rely_wp rfl ?_
      exact opr_move (.inl rfl) (hK' _ f72)
    · -- 32: Op.move t11
      intro a wx hT hF K hK
      have hK' := fun v hv => hK v wx (RT.refl _ _) (fun _ h => h) hv
      have hKn := fun v w' (hN : NewT wx w') hv => hK v w' (RT.new (Nat.lt_of_lt_of_le hRl hT.size) hN) (fun k h => Rdr.new h hN) hv
      obtain ⟨f11, f73, _⟩ := hF
      have f11 : a.tmps.getD 11 undef = .pointer (some ⟨R, 0, none⟩) := f11
      have f73 : a.tmps.getD 73 undef = .bool true := f73
      refine rely_wp (rely_guard f73) ?_
      exact opr_move (.inl rfl) (hK' _ f11)
    · -- 33: Op.call ( value (Operand.func 24), args := #[t74], argTypes 
      intro a wx hT hF hJ K hK
      have hK' := fun v hv => hK v wx (RT.refl _ _) hJ hv
      have hKn := fun v w' (hN : NewT wx w') hv => hK v w' (RT.new (Nat.lt_of_lt_of_le hRl hT.size) hN) (Rdr.new hJ hN) hv
      obtain ⟨f74, f73, _⟩ := hF
      have f74 : a.tmps.getD 74 undef = .pointer (some ⟨R, 0, none⟩) := f74
      have f73 : a.tmps.getD 73 undef = .bool true := f73
      refine rely_wp (rely_guard f73) ?_
      exact opr_cv (Bad_any R lr 0 wx hJ) rfl Try.func24 (by kernel_rfl) (by kernel_rfl) (by simp only [List.map_toArray, List.map_cons, List.map_nil, eval_tmp, f74]) hKn
    · -- 34: Op.binOp BinOp.eql 37 t75 (const (0:i64)) 37
      intro a wx hT hF K hK
      have hK' := fun v hv => hK v wx (RT.refl _ _) (fun _ h => h) hv
      have hKn := fun v w' (hN : NewT wx w') hv => hK v w' (RT.new (Nat.lt_of_lt_of_le hRl hT.size) hN) (fun k h => Rdr.new h hN) hv
      obtain ⟨f75, f73, _⟩ := hF
      have f75 : a.tmps.getD 75 undef = .int .i64 0 := f75
      have f73 : a.tmps.getD 73 undef = .bool true := f73
      refine rely_wp (rely_guard f73) ?_
      simp only [Array.getD_eq_getD_getElem?] at f75
      simp only [Array.getD_eq_getD_getElem?] at f73
      go_simp
      exact hK' _ rfl
    · -- 35: Op.pick t73 t76 (const (Value.bool false))
      intro a wx hT hF K hK
      have hK' := fun v hv => hK v wx (RT.refl _ _) (fun _ h => h) hv
      have hKn := fun v w' (hN : NewT wx w') hv => hK v w' (RT.new (Nat.lt_of_lt_of_le hRl hT.size) hN) (fun k h => Rdr.new h hN) hv
      obtain ⟨f73, f76, _⟩ := hF
      have f73 : a.tmps.getD 73 undef = .bool true := f73
      have f76 : a.tmps.getD 76 undef = .bool true := f76
      refine rely_wp rfl ?_
      exact opr_pick_true rfl f73 (hK' _ f76)
    · intro wx hT hJ
      intro u h; obtain rfl := h (by simp); clear h
      intro u h; obtain rfl := h (by simp); clear h
      intro u h; obtain rfl := h (by simp); clear h
      intro u h; obtain rfl := h (by simp); clear h
      intro u h; obtain rfl := h (by simp); clear h
      intro u h; obtain rfl := h (by simp); clear h
      intro u h; obtain rfl := h (by simp); clear h
      intro u h; obtain rfl := h (by simp); clear h
      intro u h; obtain rfl := h (by simp); clear h
      intro u h; obtain rfl := h (by simp); clear h
      intro u h; obtain rfl := h (by simp); clear h
      intro u h; obtain rfl := h (by simp); clear h
      intro u h; obtain rfl := h (by simp); clear h
      intro u h; obtain rfl := h (by simp); clear h
      intro u56 h; have g56 := h (by simp); clear h; replace g56 := show (svRdR R lb).pred u56 wx from g56
      intro u h; obtain rfl := h (by simp); clear h
      intro u h; obtain rfl := h (by simp); clear h
      intro u h; obtain rfl := h (by simp); clear h
      intro u h; obtain rfl := h (by simp); clear h
      intro u h; obtain rfl := h (by simp); clear h
      intro u h; obtain rfl := h (by simp); clear h
      intro u h; obtain rfl := h (by simp); clear h
      intro u h; obtain rfl := h (by simp); clear h
      intro u h; obtain rfl := h (by simp); clear h
      intro u h; obtain rfl := h (by simp); clear h
      intro u h; obtain rfl := h (by simp); clear h
      intro u h; obtain rfl := h (by simp); clear h
      intro u h; obtain rfl := h (by simp); clear h
      intro u h; obtain rfl := h (by simp); clear h
      intro u h; obtain rfl := h (by simp); clear h
      intro u h; obtain rfl := h (by simp); clear h
      intro u h; obtain rfl := h (by simp); clear h
      intro u h; obtain rfl := h (by simp); clear h
      intro u h; obtain rfl := h (by simp); clear h
      intro u h; obtain rfl := h (by simp); clear h
      intro u h; obtain rfl := h (by simp); clear h
      refine relyEnd_nil rfl ?_
      simp only [Act.put, List.setIfInBounds_toArray, List.set_cons_zero, List.set_cons_succ]
      refine opr_move (.inr rfl) ?_
      go_simp
      replace hJ : Rdr wx R lr 0 := hJ
      go_wp2
      go_ret
      exact ⟨rfl, hNx.out.trans (hT.below.mono (by omega))⟩
set_option maxRecDepth 20000 in
set_option maxHeartbeats 1000000 in
theorem WireBack_walk (n : Int) (q : Bool) (vb : Value) (lb : List UInt8) (d : Nat → UInt8) (vr : Value) (lr : List UInt8) (w : World) (hb : RdV w [] vb lb) (hr : RdV w [] vr lr) :
    Calls Try.prog 4 #[.int .i64 n, .bool q, vb, .agg (rowA 32 (bF d)), vr] w fun e w' => e = .returned (.bool true) ∧ Below w.heap.size w w' := by
  have hb0 := hb
  have hr0 := hr
  obtain ⟨Ab, cb, rfl, h1, h2, _⟩ := hb0
  obtain ⟨Ar, cr, rfl, k1, k2, _⟩ := hr0
  unfold maxLen at h2 k2
  have Hb := Lib.hid hb
  have Hr := Lib.hid hr
  have hN0 : NewT w (w.alloc (.cells (rowA 32 (bF d)) 24)) := NewT.alloc _ _
  clear hb hr
  by_cases g1 : 300 < lb.length
  · go_enter Try.func4, Try.ntmps4
    go_wp2_with (go_at_call 9; refine (alive3_any _).mono ?_; rintro _ w1 ⟨rfl, hB1⟩)
    go_ret
    exact ⟨rfl, (NewT.trans _ _ _ hN0 hB1).out⟩
  by_cases g2 : 300 < lr.length
  · go_enter Try.func4, Try.ntmps4
    go_wp2_with (go_at_call 9; refine (alive3_any _).mono ?_; rintro _ w1 ⟨rfl, hB1⟩)
    go_ret
    exact ⟨rfl, (NewT.trans _ _ _ hN0 hB1).out⟩
  by_cases g3 : n < 0
  · go_enter Try.func4, Try.ntmps4
    go_wp2_with (go_at_call 9; refine (alive3_any _).mono ?_; rintro _ w1 ⟨rfl, hB1⟩)
    go_ret
    exact ⟨rfl, (NewT.trans _ _ _ hN0 hB1).out⟩
  by_cases g4 : 2147483647 < n
  · go_enter Try.func4, Try.ntmps4
    go_wp2_with (go_at_call 9; refine (alive3_any _).mono ?_; rintro _ w1 ⟨rfl, hB1⟩)
    go_ret
    exact ⟨rfl, (NewT.trans _ _ _ hN0 hB1).out⟩
  obtain ⟨x, rfl⟩ := Int.eq_ofNat_of_zero_le (show 0 ≤ n by omega)
  exact WireBack_in x q Ab lb.length cb lb d Ar lr.length cr lr w Hb.out Hr.out rfl rfl (by omega) (by omega) (by omega)
end Go.Proofs.Yteelddmegmojpaa
