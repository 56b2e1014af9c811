/- The law ProofHolds, walked: a list's paths come to its root, its proofs to both roots, and neither is too long. -/
import Derived.Test.YtoigjcadncecpaaDoorMe
set_option linter.all false
namespace Go.Proofs.YtoigjcadncecpaaDoor
open Go Go.RowKit
set_option maxRecDepth 8000
set_option linter.all false
theorem opr_neqQ {a : Act} {w : World} {o : Oper} {K : Act → World → Prop} {Q : Exit → Act → World → Prop} {x y : Operand} {p q b : Bool} {t2 : TypeId} (hb : (p != q) = b) (ho : o.op = .binOp .neq 4 x y t2) (hx : a.eval x = .bool p) (hy : a.eval y = .bool q) (h : K (a.put o.dst (.bool b)) w) : o.wp Tryd.prog a w K Q := by
  obtain ⟨dst, op', type, pos, after, guard⟩ := o
  simp only at ho
  subst ho hb
  refine opr_val (s := do eqGuard .neq 4 x y (a.eval x) (a.eval y); binOp .neq 4 (a.eval x) (a.eval y)) rfl ?_ h
  rw [hx, hy]
  simp [go_sem]; cases p <;> cases q <;> rfl
/-- How many binary digits a number has. -/
def digN (n : Nat) : Nat := if h : n = 0 then 0 else digN (n / 2) + 1
  termination_by n
  decreasing_by omega
theorem digN_0 : digN 0 = 0 := by rw [digN]; rfl
theorem digN_pos (n : Nat) (h : 0 < n) : digN n = digN (n / 2) + 1 := by rw [digN, dif_neg (by omega)]
theorem digN_lt (n : Nat) : n < 2 ^ digN n := by
  induction n using Nat.strongRecOn with
  | _ n ih =>
    by_cases h : n = 0
    · subst h; exact Nat.two_pow_pos _
    · rw [digN_pos n (by omega), Nat.pow_succ]
      have := ih (n / 2) (by omega)
      omega
theorem digN_le (n : Nat) : digN n ≤ n := by
  induction n using Nat.strongRecOn with
  | _ n ih =>
    by_cases h : n = 0
    · subst h; rw [digN_0]; exact Nat.le_refl _
    · rw [digN_pos n (by omega)]
      have := ih (n / 2) (by omega)
      omega
set_option maxHeartbeats 16000000 in
theorem ProofHolds_walk (v : Value) (l : List Hs) (i0 m0 : Int) (w : World) (hT : Tables w) (hl : RdH w v l) : Calls Tryd.prog 5 #[v, .int .i64 i0, .int .i64 m0] w fun e w' => e = .returned (.bool true) ∧ Below w.heap.size w w' := by
  by_cases h70 : 70 < l.length
  · have t1 : decide ((70 : Int) < (l.length : Int)) = true := by simp; omega
    obtain ⟨node, z, hX⟩ := tree_ex
    have HT := Lib.hid hT
    have HL := Lib.hid hl
    obtain ⟨A, c, hv⟩ := rdH_form hl
    subst hv
    clear hT hl
    go_enter Tryd.func5, Tryd.ntmps5
    have HN := Lib.hid (NewT.refl w)
    go_upto_region 4 with (go_at_call 10; refine (alive6_any _ HT.out).mono ?_; rintro _ w1 ⟨rfl, hA1⟩)
    go_wp2
    go_ret
    exact ⟨rfl, (NewT.trans _ _ _ HN.out (NewT.of hA1)).out⟩
  have t1 : decide ((70 : Int) < (l.length : Int)) = false := by simp; omega
  have HLEN : Hid (l.length ≤ 70) := Lib.hid (by omega)
  obtain ⟨D, hD⟩ : ∃ D, digN l.length = D := ⟨_, rfl⟩
  have HDE := Lib.hid hD
  have HDD : Hid (l.length < 2 ^ D) := Lib.hid (by rw [← hD]; exact digN_lt _)
  have HDL : Hid (D ≤ 70) := Lib.hid (by have := digN_le l.length; omega)
  clear hD
  obtain ⟨node, z, hX⟩ := tree_ex
  have HT := Lib.hid hT
  have HL := Lib.hid hl
  obtain ⟨A, c, hv⟩ := rdH_form hl
  subst hv
  clear hT hl
  go_enter Tryd.func5, Tryd.ntmps5
  have HN := Lib.hid (NewT.refl w)
  go_upto_region 5 with (go_at_call 10; refine (alive6_any _ HT.out).mono ?_; rintro _ w1 ⟨rfl, hA1⟩)
  have hn1 := NewT.of hA1
  replace HT := Lib.hid (hn1.tables HT.out)
  replace HL := Lib.hid (hn1.hs HL.out)
  replace HN := Lib.hid (NewT.trans _ _ _ HN.out hn1)
  obtain ⟨v, ev⟩ : ∃ v, Value.slice A l.length c = v := ⟨_, rfl⟩
  rw [ev] at HL ⊢
  clear hA1 t1 hn1
  refine wp_region_steps0 NewT [SV.eq (v), SV.eq (.agg (rowA 32 (bF (rootM node z (l)))))] [([(0, none)], none), ([(19, some 0)], none)] 104 2 rfl rfl (by kernel_rfl) NewT.trans (NewT.refl _) (Nat.le_of_ble_eq_true rfl) ⟨?_, ?_, trivial⟩ ?_
  · intro a wx hT hF K hK
    obtain ⟨f0, _⟩ := hF
    have f0 : a.tmps.getD 0 undef = v := f0
    refine rely_wp rfl ?_
    exact opr_move (.inl rfl) (hK _ _ (NewT.refl _) f0)
  · intro a wx hT hF K hK
    obtain ⟨f19, _⟩ := hF
    have f19 : a.tmps.getD 19 undef = v := f19
    refine rely_wp rfl ?_
    exact opr_cv (Root_cv hX _ _ (l) wx (hT.tables HT.out) ((hT.hs HL.out)) (Nat.le_refl _) (by have := HLEN.out; omega)) rfl Tryd.func24 (by kernel_rfl) (by kernel_rfl) (by simp only [List.map_toArray, List.map_cons, List.map_nil, eval_tmp, f19]) hK
  · intro w2 k2
    intro u h; obtain rfl := Eq.symm (h (by simp)); clear h
    intro u h; obtain rfl := Eq.symm (h (by simp)); clear h
    refine relyEnd_nil rfl ?_
    simp only [Act.put, List.setIfInBounds_toArray, List.set_cons_zero, List.set_cons_succ]
    refine wpList_new (n := 32) rfl rfl rfl rfl rfl rfl (by simp) run_alloc_hash info31 (fun _ => rfl) rfl ?_
    intro w3 hn3 r7
    refine wpList_end rfl ?_
    simp only [Act.put, List.setIfInBounds_toArray, List.set_cons_zero, List.set_cons_succ]
    go_simp
    obtain ⟨p7, hp7⟩ : ∃ p, w2.heap.size = p := ⟨_, rfl⟩
    rw [hp7] at r7 ⊢
    have R7 := Lib.hid r7
    have k23 := NewT.trans _ _ _ k2 hn3
    clear k2 hn3 r7 hp7
    replace HL := Lib.hid (k23.hs HL.out)
    replace HT := Lib.hid (k23.tables HT.out)
    replace HN := Lib.hid (NewT.trans _ _ _ HN.out k23)
    clear k23
    by_cases hi : 0 ≤ i0 ∧ i0 < (l.length : Int)
    · skip
      obtain ⟨i, rfl⟩ : ∃ k : Nat, i0 = (k : Int) := ⟨i0.toNat, by omega⟩
      have HI : Hid (i < l.length) := Lib.hid (by omega)
      obtain ⟨e, he⟩ : ∃ e, l[i]? = some e := ⟨_, List.getElem?_eq_getElem (by omega)⟩
      have HE := Lib.hid he
      have HPD : Hid ((pathM node z l i).length ≤ D) := Lib.hid (by rw [pathM_length (node := node) (z := z) _ l i (Nat.le_refl _)]; exact leftsM_le D i l.length (by have := HDD.out; omega))
      have HIN : Hid (∀ (u : Value) (w : World), Tables w → RdH w u (pathM node z l i) → Cv 20 #[.agg (rowA 32 (bF e)), .int .i64 (i : Int), .int .i64 (l.length : Int), u, .agg (rowA 32 (bF (rootM node z l)))] w (.eq (.bool true))) := Lib.hid fun u w hT hu => by
        have h := In_cv hX e (rootM node z l) (i : Int) (l.length : Int) u _ w hT hu (Nat.le_trans (pathM_short _ _ (by have := HLEN.out; omega)) (by omega))
        rw [comes_root (fun _ => 0) l i e HE.out (by have := HLEN.out; omega), (comes_set (node := node) (z := z) (fun _ => 0) l i e HI.out (by have := HLEN.out; omega)).1, eqH_same] at h
        exact h
      clear he
      go_upto_region 6 with fail
      refine wp_region_steps0 NewT [SV.eq (v), SV.eq (.int .i64 ((i : Int))), svPq (pathM node z l i) true, svPq (pathM node z l i) true, svH (pathM node z l i), SV.eq (.bool true), svH (pathM node z l i), SV.eq (.bool true)] [([(0, none)], none), ([(1, none)], none), ([(22, some 0), (23, some 1)], none), ([(24, some 2)], none), ([(21, some 3)], none), ([(21, some 3)], none), ([(25, some 4)], none), ([(26, some 5)], none)] 104 8 rfl rfl (by kernel_rfl) NewT.trans (NewT.refl _) (Nat.le_of_ble_eq_true rfl) ⟨?_, ?_, ?_, ?_, ?_, ?_, ?_, ?_, trivial⟩ ?_
      · intro a wx hT hF K hK
        obtain ⟨f0, _⟩ := hF
        have f0 : a.tmps.getD 0 undef = v := f0
        refine rely_wp rfl ?_
        exact opr_move (.inl rfl) (hK _ _ (NewT.refl _) f0)
      · intro a wx hT hF K hK
        obtain ⟨f1, _⟩ := hF
        have f1 : a.tmps.getD 1 undef = .int .i64 ((i : Int)) := f1
        refine rely_wp rfl ?_
        exact opr_move (.inl rfl) (hK _ _ (NewT.refl _) f1)
      · intro a wx hT hF K hK
        obtain ⟨f22, f23, _⟩ := hF
        have f22 : a.tmps.getD 22 undef = v := f22
        have f23 : a.tmps.getD 23 undef = .int .i64 ((i : Int)) := f23
        refine rely_wp rfl ?_
        exact opr_cv (Path_good hX _ l i wx (hT.tables HT.out) (hT.hs HL.out) HI.out (by have := HLEN.out; omega)) rfl Tryd.func11 (by kernel_rfl) (by kernel_rfl) (by simp only [List.map_toArray, List.map_cons, List.map_nil, eval_tmp, f22, f23]) hK
      · intro a wx hT hF K hK
        obtain ⟨f24, _⟩ := hF
        replace f24 := show (svPq (pathM node z l i) true).pred (a.tmps.getD 24 undef) wx from f24
        refine rely_wp rfl ?_
        exact opr_move (.inl rfl) (hK _ _ (NewT.refl _) f24)
      · intro a wx hT hF K hK
        obtain ⟨f21, _⟩ := hF
        replace f21 := show (svPq (pathM node z l i) true).pred (a.tmps.getD 21 undef) wx from f21
        refine rely_wp rfl ?_
        exact opr_extP0 rfl f21 (fun u hu => hK u _ (NewT.refl _) hu)
      · intro a wx hT hF K hK
        obtain ⟨f21, _⟩ := hF
        replace f21 := show (svPq (pathM node z l i) true).pred (a.tmps.getD 21 undef) wx from f21
        refine rely_wp rfl ?_
        exact opr_extP1 rfl f21 (hK _ _ (NewT.refl _) rfl)
      · intro a wx hT hF K hK
        obtain ⟨f25, _⟩ := hF
        replace f25 := show (svH (pathM node z l i)).pred (a.tmps.getD 25 undef) wx from f25
        refine rely_wp rfl ?_
        exact opr_move (.inr rfl) (hK _ _ (NewT.refl _) f25)
      · intro a wx hT hF K hK
        obtain ⟨f26, _⟩ := hF
        have f26 : a.tmps.getD 26 undef = .bool true := f26
        refine rely_wp rfl ?_
        exact opr_move (.inr rfl) (hK _ _ (NewT.refl _) f26)
      · intro w4 k4
        intro u h; obtain rfl := Eq.symm (h (by simp)); clear h
        intro u h; obtain rfl := Eq.symm (h (by simp)); clear h
        intro _ _
        intro _ _
        intro _ _
        intro u h; obtain rfl := Eq.symm (h (by simp)); clear h
        intro u8 h; have g8 := h (by simp); clear h; replace g8 := show (svH (pathM node z l i)).pred u8 w4 from g8
        intro u h; obtain rfl := Eq.symm (h (by simp)); clear h
        refine relyEnd_nil rfl ?_
        refine wpList_end rfl ?_
        simp only [Act.put, List.setIfInBounds_toArray, List.set_cons_zero, List.set_cons_succ]
        go_simp
        have HU8 := Lib.hid (show RdH w4 u8 (pathM node z l i) from g8)
        clear g8
        replace R7 := Lib.hid (k4.row R7.out)
        replace HL := Lib.hid (k4.hs HL.out)
        replace HT := Lib.hid (k4.tables HT.out)
        replace HN := Lib.hid (NewT.trans _ _ _ HN.out k4)
        clear k4
        subst ev
        go_wp2
        go_loopw [10, 11] (fun a b wr => ∃ x y : Nat, a = .int .i64 (x : Int) ∧ b = .int .i64 (y : Int) ∧ y ≤ 70 ∧ x + digN y = D ∧ w4 = wr) (fun a b _ => (intOf b).toNat)
        case atStart => exact ⟨0, l.length, rfl, rfl, HLEN.out, by rw [Nat.zero_add]; exact HDE.out, rfl⟩
        case round =>
          obtain ⟨x, y, rfl, rfl, hy, hxy, rfl⟩ := hrel
          by_cases hy0 : 0 < y
          · have it : (0 : Int) < (y : Int) := by omega
            have hx70 : x ≤ 70 := by have := HDL.out; omega
            go_wp2
            go_roundw
            case rel => exact ⟨x + 1, y / 2, by go_num, by go_num, by omega, by rw [digN_pos y hy0] at hxy; omega, by first | rfl | trivial⟩
            case measure => simp [intOf]; omega
          · obtain rfl : y = 0 := by omega
            rw [digN_0] at hxy
            obtain rfl : D = x := by omega
            have it : ¬ (0 : Int) < 0 := by omega
            go_upto_region 12 with fail
            obtain ⟨v, ev⟩ : ∃ v, Value.slice A l.length c = v := ⟨_, rfl⟩
            rw [ev] at HL ⊢
            refine wp_region_rely (NewT) [SV.eq (.bool true), SV.eq (.int .i64 ((i : Int))), SV.eq (.bool true), SV.eq (.bool true), SV.eq (.int .i64 ((i : Int))), SV.eq (v), SV.eq (.int .i64 ((List.length (l) : Int))), SV.eq (.bool true), SV.eq (.bool true), SV.eq (.bool false), SV.eq (.bool false), SV.eq (.bool true), SV.eq (.bool true), SV.eq (v), SV.eq (.int .i64 ((i : Int))), svP (e), SV.eq (.agg (rowA 32 (bF (e)))), SV.eq (.int .i64 ((i : Int))), SV.eq (v), SV.eq (.int .i64 ((List.length (l) : Int))), SV.eq (u8), SV.eq (.agg (rowA 32 (bF (rootM node z l)))), SV.eq (.bool true), SV.eq (.bool false), SV.eq (.bool false), SV.eq (u8), SV.eq (.int .i64 ((List.length (pathM node z l i) : Int))), SV.eq (.int .i64 ((D : Int))), SV.eq (.bool false), SV.eq (.bool false), SV.eq (.bool false)] [([(9, none)], none), ([(1, none)], none), ([(36, some 1)], none), ([(37, some 2)], none), ([(1, none), (38, some 3)], some (38, true)), ([(0, none), (38, some 3)], some (38, true)), ([(40, some 5), (38, some 3)], some (38, true)), ([(39, some 4), (41, some 6), (38, some 3)], some (38, true)), ([(38, some 3), (42, some 7)], none), ([(35, some 0), (43, some 8)], none), ([(44, some 9)], none), ([(9, none), (45, some 10)], some (45, false)), ([(46, some 11), (45, some 10)], some (45, false)), ([(0, none), (47, some 12)], some (47, true)), ([(1, none), (47, some 12)], some (47, true)), ([(48, some 13), (49, some 14), (47, some 12)], some (47, true)), ([(50, some 15), (47, some 12)], some (47, true)), ([(1, none), (47, some 12)], some (47, true)), ([(0, none), (47, some 12)], some (47, true)), ([(53, some 18), (47, some 12)], some (47, true)), ([(8, none), (47, some 12)], some (47, true)), ([(7, none), (47, some 12)], some (47, true)), ([(51, some 16), (52, some 17), (54, some 19), (55, some 20), (56, some 21), (47, some 12)], some (47, true)), ([(57, some 22), (47, some 12)], some (47, true)), ([(58, some 23), (47, some 12)], some (47, true)), ([(8, none), (59, some 24)], some (59, false)), ([(60, some 25), (59, some 24)], some (59, false)), ([(10, none), (59, some 24)], some (59, false)), ([(61, some 26), (62, some 27), (59, some 24)], some (59, false)), ([(59, some 24), (63, some 28), (47, some 12)], some (47, true)), ([(47, some 12), (64, some 29), (45, some 10)], some (45, false))] 104 rfl (by kernel_rfl) rfl (by kernel_rfl) (by kernel_rfl) rfl NewT.trans (NewT.drew _) (Nat.le_of_ble_eq_true rfl) ⟨?_, ?_, ?_, ?_, ?_, ?_, ?_, ?_, ?_, ?_, ?_, ?_, ?_, ?_, ?_, ?_, ?_, ?_, ?_, ?_, ?_, ?_, ?_, ?_, ?_, ?_, ?_, ?_, ?_, ?_, ?_, trivial⟩ ?_
            · intro a wx hT hF K hK
              obtain ⟨f9, _⟩ := hF
              have f9 : a.tmps.getD 9 undef = .bool true := f9
              refine rely_wp rfl ?_
              exact opr_move (.inl rfl) (hK _ _ (NewT.refl _) f9)
            · intro a wx hT hF K hK
              obtain ⟨f1, _⟩ := hF
              have f1 : a.tmps.getD 1 undef = .int .i64 ((i : Int)) := f1
              refine rely_wp rfl ?_
              exact opr_move (.inl rfl) (hK _ _ (NewT.refl _) f1)
            · intro a wx hT hF K hK
              obtain ⟨f36, _⟩ := hF
              have f36 : a.tmps.getD 36 undef = .int .i64 ((i : Int)) := f36
              refine rely_wp rfl ?_
              exact opr_cmp (b := true) (.inr (.inr (.inr (.inr (.inr (⟨rfl, (by exact decide_eq_true (by omega))⟩)))))) Tryd.underlying3 rfl f36 rfl (hK _ _ (NewT.refl _) rfl)
            · intro a wx hT hF K hK
              obtain ⟨f37, _⟩ := hF
              have f37 : a.tmps.getD 37 undef = .bool true := f37
              refine rely_wp rfl ?_
              exact opr_move (.inl rfl) (hK _ _ (NewT.refl _) f37)
            · intro a wx hT hF K hK
              obtain ⟨f1, f38, _⟩ := hF
              have f1 : a.tmps.getD 1 undef = .int .i64 ((i : Int)) := f1
              have f38 : a.tmps.getD 38 undef = .bool true := f38
              refine rely_wp (rely_guard f38) ?_
              exact opr_move (.inl rfl) (hK _ _ (NewT.refl _) f1)
            · intro a wx hT hF K hK
              obtain ⟨f0, f38, _⟩ := hF
              have f0 : a.tmps.getD 0 undef = v := f0
              have f38 : a.tmps.getD 38 undef = .bool true := f38
              refine rely_wp (rely_guard f38) ?_
              exact opr_move (.inl rfl) (hK _ _ (NewT.refl _) f0)
            · intro a wx hT hF K hK
              obtain ⟨f40, f38, _⟩ := hF
              have f40 : a.tmps.getD 40 undef = v := f40
              have f38 : a.tmps.getD 38 undef = .bool true := f38
              refine rely_wp (rely_guard f38) ?_
              exact opr_len_h rfl (by rw [eval_tmp, f40]; exact (hT.hs HL.out)) (hK _ _ (NewT.refl _) rfl)
            · intro a wx hT hF K hK
              obtain ⟨f39, f41, f38, _⟩ := hF
              have f39 : a.tmps.getD 39 undef = .int .i64 ((i : Int)) := f39
              have f41 : a.tmps.getD 41 undef = .int .i64 ((List.length (l) : Int)) := f41
              have f38 : a.tmps.getD 38 undef = .bool true := f38
              refine rely_wp (rely_guard f38) ?_
              exact opr_cmp (b := true) (.inr (.inr (.inr (.inl ⟨rfl, (by exact decide_eq_true (by have := HI.out; omega))⟩)))) Tryd.underlying3 rfl f39 f41 (hK _ _ (NewT.refl _) rfl)
            · intro a wx hT hF K hK
              obtain ⟨f38, f42, _⟩ := hF
              have f38 : a.tmps.getD 38 undef = .bool true := f38
              have f42 : a.tmps.getD 42 undef = .bool true := f42
              refine rely_wp rfl ?_
              exact opr_pick_true rfl f38 (hK _ _ (NewT.refl _) f42)
            · intro a wx hT hF K hK
              obtain ⟨f35, f43, _⟩ := hF
              have f35 : a.tmps.getD 35 undef = .bool true := f35
              have f43 : a.tmps.getD 43 undef = .bool true := f43
              refine rely_wp rfl ?_
              exact opr_neqQ (b := false) (rfl) rfl f35 f43 (hK _ _ (NewT.refl _) rfl)
            · intro a wx hT hF K hK
              obtain ⟨f44, _⟩ := hF
              have f44 : a.tmps.getD 44 undef = .bool false := f44
              refine rely_wp rfl ?_
              exact opr_move (.inl rfl) (hK _ _ (NewT.refl _) f44)
            · intro a wx hT hF K hK
              obtain ⟨f9, f45, _⟩ := hF
              have f9 : a.tmps.getD 9 undef = .bool true := f9
              have f45 : a.tmps.getD 45 undef = .bool false := f45
              refine rely_wp (rely_guard f45) ?_
              exact opr_move (.inl rfl) (hK _ _ (NewT.refl _) f9)
            · intro a wx hT hF K hK
              obtain ⟨f46, f45, _⟩ := hF
              have f46 : a.tmps.getD 46 undef = .bool true := f46
              have f45 : a.tmps.getD 45 undef = .bool false := f45
              refine rely_wp (rely_guard f45) ?_
              exact opr_move (.inl rfl) (hK _ _ (NewT.refl _) f46)
            · intro a wx hT hF K hK
              obtain ⟨f0, f47, _⟩ := hF
              have f0 : a.tmps.getD 0 undef = v := f0
              have f47 : a.tmps.getD 47 undef = .bool true := f47
              refine rely_wp (rely_guard f47) ?_
              exact opr_move (.inl rfl) (hK _ _ (NewT.refl _) f0)
            · intro a wx hT hF K hK
              obtain ⟨f1, f47, _⟩ := hF
              have f1 : a.tmps.getD 1 undef = .int .i64 ((i : Int)) := f1
              have f47 : a.tmps.getD 47 undef = .bool true := f47
              refine rely_wp (rely_guard f47) ?_
              exact opr_move (.inl rfl) (hK _ _ (NewT.refl _) f1)
            · intro a wx hT hF K hK
              obtain ⟨f48, f49, f47, _⟩ := hF
              have f48 : a.tmps.getD 48 undef = v := f48
              have f49 : a.tmps.getD 49 undef = .int .i64 ((i : Int)) := f49
              have f47 : a.tmps.getD 47 undef = .bool true := f47
              refine rely_wp (rely_guard f47) ?_
              exact opr_idxH (i := i) (d := e) (HE.out) (rfl) rfl (by rw [eval_tmp, f48]; exact (hT.hs HL.out)) f49 (fun v hv => hK v _ (NewT.refl _) hv)
            · intro a wx hT hF K hK
              obtain ⟨f50, f47, _⟩ := hF
              replace f50 := show (svP (e)).pred (a.tmps.getD 50 undef) wx from f50
              have f47 : a.tmps.getD 47 undef = .bool true := f47
              refine rely_wp (rely_guard f47) ?_
              exact opr_ldP rfl f50 (hK _ _ (NewT.refl _) rfl)
            · intro a wx hT hF K hK
              obtain ⟨f1, f47, _⟩ := hF
              have f1 : a.tmps.getD 1 undef = .int .i64 ((i : Int)) := f1
              have f47 : a.tmps.getD 47 undef = .bool true := f47
              refine rely_wp (rely_guard f47) ?_
              exact opr_move (.inl rfl) (hK _ _ (NewT.refl _) f1)
            · intro a wx hT hF K hK
              obtain ⟨f0, f47, _⟩ := hF
              have f0 : a.tmps.getD 0 undef = v := f0
              have f47 : a.tmps.getD 47 undef = .bool true := f47
              refine rely_wp (rely_guard f47) ?_
              exact opr_move (.inl rfl) (hK _ _ (NewT.refl _) f0)
            · intro a wx hT hF K hK
              obtain ⟨f53, f47, _⟩ := hF
              have f53 : a.tmps.getD 53 undef = v := f53
              have f47 : a.tmps.getD 47 undef = .bool true := f47
              refine rely_wp (rely_guard f47) ?_
              exact opr_len_h rfl (by rw [eval_tmp, f53]; exact (hT.hs HL.out)) (hK _ _ (NewT.refl _) rfl)
            · intro a wx hT hF K hK
              obtain ⟨f8, f47, _⟩ := hF
              have f8 : a.tmps.getD 8 undef = u8 := f8
              have f47 : a.tmps.getD 47 undef = .bool true := f47
              refine rely_wp (rely_guard f47) ?_
              exact opr_move (.inl rfl) (hK _ _ (NewT.refl _) f8)
            · intro a wx hT hF K hK
              obtain ⟨f7, f47, _⟩ := hF
              have f7 : a.tmps.getD 7 undef = .pointer (some ⟨p7, 0, none⟩) := f7
              have f47 : a.tmps.getD 47 undef = .bool true := f47
              refine rely_wp (rely_guard f47) ?_
              exact opr_load_hash rfl f7 (hT.row R7.out) (hK _ _ (NewT.refl _) rfl)
            · intro a wx hT hF K hK
              obtain ⟨f51, f52, f54, f55, f56, f47, _⟩ := hF
              have f51 : a.tmps.getD 51 undef = .agg (rowA 32 (bF (e))) := f51
              have f52 : a.tmps.getD 52 undef = .int .i64 ((i : Int)) := f52
              have f54 : a.tmps.getD 54 undef = .int .i64 ((List.length (l) : Int)) := f54
              have f55 : a.tmps.getD 55 undef = u8 := f55
              have f56 : a.tmps.getD 56 undef = .agg (rowA 32 (bF (rootM node z l))) := f56
              have f47 : a.tmps.getD 47 undef = .bool true := f47
              refine rely_wp (rely_guard f47) ?_
              exact opr_cv (HIN.out u8 wx (hT.tables HT.out) (hT.hs HU8.out)) rfl Tryd.func20 (by kernel_rfl) (by kernel_rfl) (by simp only [List.map_toArray, List.map_cons, List.map_nil, eval_tmp, f51, f52, f54, f55, f56]) hK
            · intro a wx hT hF K hK
              obtain ⟨f57, f47, _⟩ := hF
              have f57 : a.tmps.getD 57 undef = .bool true := f57
              have f47 : a.tmps.getD 47 undef = .bool true := f47
              refine rely_wp (rely_guard f47) ?_
              exact opr_not rfl f57 (hK _ _ (NewT.refl _) rfl)
            · intro a wx hT hF K hK
              obtain ⟨f58, f47, _⟩ := hF
              have f58 : a.tmps.getD 58 undef = .bool false := f58
              have f47 : a.tmps.getD 47 undef = .bool true := f47
              refine rely_wp (rely_guard f47) ?_
              exact opr_move (.inl rfl) (hK _ _ (NewT.refl _) f58)
            · intro a wx hT hF K hK
              obtain ⟨f8, f59, _⟩ := hF
              have f8 : a.tmps.getD 8 undef = u8 := f8
              have f59 : a.tmps.getD 59 undef = .bool false := f59
              refine rely_wp (rely_guard f59) ?_
              exact opr_move (.inl rfl) (hK _ _ (NewT.refl _) f8)
            · intro a wx hT hF K hK
              obtain ⟨f60, f59, _⟩ := hF
              have f60 : a.tmps.getD 60 undef = u8 := f60
              have f59 : a.tmps.getD 59 undef = .bool false := f59
              refine rely_wp (rely_guard f59) ?_
              exact opr_len_h rfl (by rw [eval_tmp, f60]; exact (hT.hs HU8.out)) (hK _ _ (NewT.refl _) rfl)
            · intro a wx hT hF K hK
              obtain ⟨f10, f59, _⟩ := hF
              have f10 : a.tmps.getD 10 undef = .int .i64 ((D : Int)) := f10
              have f59 : a.tmps.getD 59 undef = .bool false := f59
              refine rely_wp (rely_guard f59) ?_
              exact opr_move (.inl rfl) (hK _ _ (NewT.refl _) f10)
            · intro a wx hT hF K hK
              obtain ⟨f61, f62, f59, _⟩ := hF
              have f61 : a.tmps.getD 61 undef = .int .i64 ((List.length (pathM node z l i) : Int)) := f61
              have f62 : a.tmps.getD 62 undef = .int .i64 ((D : Int)) := f62
              have f59 : a.tmps.getD 59 undef = .bool false := f59
              refine rely_wp (rely_guard f59) ?_
              exact opr_cmp (b := false) (.inr (.inr (.inr (.inr (.inl ⟨rfl, (by exact decide_eq_false (by have := HPD.out; omega))⟩))))) Tryd.underlying3 rfl f61 f62 (hK _ _ (NewT.refl _) rfl)
            · intro a wx hT hF K hK
              obtain ⟨f59, f63, f47, _⟩ := hF
              have f59 : a.tmps.getD 59 undef = .bool false := f59
              have f63 : a.tmps.getD 63 undef = .bool false := f63
              have f47 : a.tmps.getD 47 undef = .bool true := f47
              refine rely_wp (rely_guard f47) ?_
              exact opr_pick_false rfl f59 (hK _ _ (NewT.refl _) f63)
            · intro a wx hT hF K hK
              obtain ⟨f47, f64, f45, _⟩ := hF
              have f47 : a.tmps.getD 47 undef = .bool true := f47
              have f64 : a.tmps.getD 64 undef = .bool false := f64
              have f45 : a.tmps.getD 45 undef = .bool false := f45
              refine rely_wp (rely_guard f45) ?_
              exact opr_pick_true rfl f47 (hK _ _ (NewT.refl _) f64)
            · intro w5 k5
              intro u h; obtain rfl := Eq.symm (h (by simp)); clear h
              intro u h; obtain rfl := Eq.symm (h (by simp)); clear h
              intro u h; obtain rfl := Eq.symm (h (by simp)); clear h
              intro u h; obtain rfl := Eq.symm (h (by simp)); clear h
              intro u h; obtain rfl := Eq.symm (h (by simp)); clear h
              intro u h; obtain rfl := Eq.symm (h (by simp)); clear h
              intro u h; obtain rfl := Eq.symm (h (by simp)); clear h
              intro u h; obtain rfl := Eq.symm (h (by simp)); clear h
              intro u h; obtain rfl := Eq.symm (h (by simp)); clear h
              intro u h; obtain rfl := Eq.symm (h (by simp)); clear h
              intro u h; obtain rfl := Eq.symm (h (by simp)); clear h
              intro u h; obtain rfl := Eq.symm (h (by simp)); clear h
              intro u h; obtain rfl := Eq.symm (h (by simp)); clear h
              intro u h; obtain rfl := Eq.symm (h (by simp)); clear h
              intro u h; obtain rfl := Eq.symm (h (by simp)); clear h
              intro _ _
              intro u h; obtain rfl := Eq.symm (h (by simp)); clear h
              intro u h; obtain rfl := Eq.symm (h (by simp)); clear h
              intro u h; obtain rfl := Eq.symm (h (by simp)); clear h
              intro u h; obtain rfl := Eq.symm (h (by simp)); clear h
              intro u h; obtain rfl := Eq.symm (h (by simp)); clear h
              intro u h; obtain rfl := Eq.symm (h (by simp)); clear h
              intro u h; obtain rfl := Eq.symm (h (by simp)); clear h
              intro u h; obtain rfl := Eq.symm (h (by simp)); clear h
              intro u h; obtain rfl := Eq.symm (h (by simp)); clear h
              intro u h; obtain rfl := Eq.symm (h (by simp)); clear h
              intro u h; obtain rfl := Eq.symm (h (by simp)); clear h
              intro u h; obtain rfl := Eq.symm (h (by simp)); clear h
              intro u h; obtain rfl := Eq.symm (h (by simp)); clear h
              intro u h; obtain rfl := Eq.symm (h (by simp)); clear h
              intro u h; obtain rfl := Eq.symm (h (by simp)); clear h
              refine relyEnd_nil rfl ?_
              simp only [Act.put, List.setIfInBounds_toArray, List.set_cons_zero, List.set_cons_succ]
              refine opr_pick_false rfl rfl ?_
              go_simp
              replace R7 := Lib.hid (k5.row R7.out)
              replace HL := Lib.hid (k5.hs HL.out)
              replace HT := Lib.hid (k5.tables HT.out)
              replace HN := Lib.hid (NewT.trans _ _ _ HN.out k5)
              clear k5
              clear ev
              by_cases hm : 1 ≤ m0 ∧ m0 ≤ (l.length : Int)
              · skip
                obtain ⟨m, rfl⟩ : ∃ k : Nat, m0 = (k : Int) := ⟨m0.toNat, by omega⟩
                have HM1 : Hid (1 ≤ m) := Lib.hid (by omega)
                have HML : Hid (m ≤ l.length) := Lib.hid (by omega)
                have HSD : Hid ((subM node z m l true).length ≤ D + 1) := Lib.hid (by rw [subM_length (node := node) (z := z) _ m l true (Nat.le_refl _)]; have := leftsS_le D m l.length (by have := HDD.out; omega); split <;> omega)
                go_upto_region 14 with fail
                refine wp_region_steps0 NewT [SV.eq (v), SV.eq (.int .i64 ((m : Int))), svPq (subM node z m l true) true, svPq (subM node z m l true) true, svH (subM node z m l true), SV.eq (.bool true), svH (subM node z m l true), SV.eq (.bool true)] [([(0, none)], none), ([(2, none)], none), ([(68, some 0), (69, some 1)], none), ([(70, some 2)], none), ([(67, some 3)], none), ([(67, some 3)], none), ([(71, some 4)], none), ([(72, some 5)], none)] 104 8 rfl rfl (by kernel_rfl) NewT.trans (NewT.refl _) (Nat.le_of_ble_eq_true rfl) ⟨?_, ?_, ?_, ?_, ?_, ?_, ?_, ?_, trivial⟩ ?_
                · intro a wx hT hF K hK
                  obtain ⟨f0, _⟩ := hF
                  have f0 : a.tmps.getD 0 undef = v := f0
                  refine rely_wp rfl ?_
                  exact opr_move (.inl rfl) (hK _ _ (NewT.refl _) f0)
                · intro a wx hT hF K hK
                  obtain ⟨f2, _⟩ := hF
                  have f2 : a.tmps.getD 2 undef = .int .i64 ((m : Int)) := f2
                  refine rely_wp rfl ?_
                  exact opr_move (.inl rfl) (hK _ _ (NewT.refl _) f2)
                · intro a wx hT hF K hK
                  obtain ⟨f68, f69, _⟩ := hF
                  have f68 : a.tmps.getD 68 undef = v := f68
                  have f69 : a.tmps.getD 69 undef = .int .i64 ((m : Int)) := f69
                  refine rely_wp rfl ?_
                  exact opr_cv (Prove_good hX _ l m wx (hT.tables HT.out) (hT.hs HL.out) HM1.out HML.out (by have := HLEN.out; omega)) rfl Tryd.func13 (by kernel_rfl) (by kernel_rfl) (by simp only [List.map_toArray, List.map_cons, List.map_nil, eval_tmp, f68, f69]) hK
                · intro a wx hT hF K hK
                  obtain ⟨f70, _⟩ := hF
                  replace f70 := show (svPq (subM node z m l true) true).pred (a.tmps.getD 70 undef) wx from f70
                  refine rely_wp rfl ?_
                  exact opr_move (.inl rfl) (hK _ _ (NewT.refl _) f70)
                · intro a wx hT hF K hK
                  obtain ⟨f67, _⟩ := hF
                  replace f67 := show (svPq (subM node z m l true) true).pred (a.tmps.getD 67 undef) wx from f67
                  refine rely_wp rfl ?_
                  exact opr_extP0 rfl f67 (fun u hu => hK u _ (NewT.refl _) hu)
                · intro a wx hT hF K hK
                  obtain ⟨f67, _⟩ := hF
                  replace f67 := show (svPq (subM node z m l true) true).pred (a.tmps.getD 67 undef) wx from f67
                  refine rely_wp rfl ?_
                  exact opr_extP1 rfl f67 (hK _ _ (NewT.refl _) rfl)
                · intro a wx hT hF K hK
                  obtain ⟨f71, _⟩ := hF
                  replace f71 := show (svH (subM node z m l true)).pred (a.tmps.getD 71 undef) wx from f71
                  refine rely_wp rfl ?_
                  exact opr_move (.inr rfl) (hK _ _ (NewT.refl _) f71)
                · intro a wx hT hF K hK
                  obtain ⟨f72, _⟩ := hF
                  have f72 : a.tmps.getD 72 undef = .bool true := f72
                  refine rely_wp rfl ?_
                  exact opr_move (.inr rfl) (hK _ _ (NewT.refl _) f72)
                · intro w6 k6
                  intro u h; obtain rfl := Eq.symm (h (by simp)); clear h
                  intro u h; obtain rfl := Eq.symm (h (by simp)); clear h
                  intro _ _
                  intro _ _
                  intro _ _
                  intro u h; obtain rfl := Eq.symm (h (by simp)); clear h
                  intro u12 h; have g12 := h (by simp); clear h; replace g12 := show (svH (subM node z m l true)).pred u12 w6 from g12
                  intro u h; obtain rfl := Eq.symm (h (by simp)); clear h
                  refine relyEnd_nil rfl ?_
                  refine wpList_end rfl ?_
                  simp only [Act.put, List.setIfInBounds_toArray, List.set_cons_zero, List.set_cons_succ]
                  go_simp
                  have HU12 := Lib.hid (show RdH w6 u12 (subM node z m l true) from g12)
                  clear g12
                  replace R7 := Lib.hid (k6.row R7.out)
                  replace HL := Lib.hid (k6.hs HL.out)
                  replace HT := Lib.hid (k6.tables HT.out)
                  replace HN := Lib.hid (NewT.trans _ _ _ HN.out k6)
                  clear k6
                  go_upto_region 15 with fail
                  refine wp_region_steps0 NewT [SV.eq (.bool true), SV.eq (.int .i64 ((m : Int))), SV.eq (.bool true), SV.eq (.bool true), SV.eq (.int .i64 ((m : Int))), SV.eq (v), SV.eq (.int .i64 ((List.length (l) : Int))), SV.eq (.bool true), SV.eq (.bool true), SV.eq (.bool false)] [([(13, none)], none), ([(2, none)], none), ([(74, some 1)], none), ([(75, some 2)], none), ([(2, none), (76, some 3)], some (76, true)), ([(0, none), (76, some 3)], some (76, true)), ([(78, some 5), (76, some 3)], some (76, true)), ([(77, some 4), (79, some 6), (76, some 3)], some (76, true)), ([(76, some 3), (80, some 7)], none), ([(73, some 0), (81, some 8)], none)] 104 10 rfl rfl (by kernel_rfl) NewT.trans (NewT.refl _) (Nat.le_of_ble_eq_true rfl) ⟨?_, ?_, ?_, ?_, ?_, ?_, ?_, ?_, ?_, ?_, trivial⟩ ?_
                  · intro a wx hT hF K hK
                    obtain ⟨f13, _⟩ := hF
                    have f13 : a.tmps.getD 13 undef = .bool true := f13
                    refine rely_wp rfl ?_
                    exact opr_move (.inl rfl) (hK _ _ (NewT.refl _) f13)
                  · intro a wx hT hF K hK
                    obtain ⟨f2, _⟩ := hF
                    have f2 : a.tmps.getD 2 undef = .int .i64 ((m : Int)) := f2
                    refine rely_wp rfl ?_
                    exact opr_move (.inl rfl) (hK _ _ (NewT.refl _) f2)
                  · intro a wx hT hF K hK
                    obtain ⟨f74, _⟩ := hF
                    have f74 : a.tmps.getD 74 undef = .int .i64 ((m : Int)) := f74
                    refine rely_wp rfl ?_
                    exact opr_cmp (b := true) (.inr (.inr (.inr (.inr (.inr (⟨rfl, (by exact decide_eq_true (by have := HM1.out; omega))⟩)))))) Tryd.underlying3 rfl f74 rfl (hK _ _ (NewT.refl _) rfl)
                  · intro a wx hT hF K hK
                    obtain ⟨f75, _⟩ := hF
                    have f75 : a.tmps.getD 75 undef = .bool true := f75
                    refine rely_wp rfl ?_
                    exact opr_move (.inl rfl) (hK _ _ (NewT.refl _) f75)
                  · intro a wx hT hF K hK
                    obtain ⟨f2, f76, _⟩ := hF
                    have f2 : a.tmps.getD 2 undef = .int .i64 ((m : Int)) := f2
                    have f76 : a.tmps.getD 76 undef = .bool true := f76
                    refine rely_wp (rely_guard f76) ?_
                    exact opr_move (.inl rfl) (hK _ _ (NewT.refl _) f2)
                  · intro a wx hT hF K hK
                    obtain ⟨f0, f76, _⟩ := hF
                    have f0 : a.tmps.getD 0 undef = v := f0
                    have f76 : a.tmps.getD 76 undef = .bool true := f76
                    refine rely_wp (rely_guard f76) ?_
                    exact opr_move (.inl rfl) (hK _ _ (NewT.refl _) f0)
                  · intro a wx hT hF K hK
                    obtain ⟨f78, f76, _⟩ := hF
                    have f78 : a.tmps.getD 78 undef = v := f78
                    have f76 : a.tmps.getD 76 undef = .bool true := f76
                    refine rely_wp (rely_guard f76) ?_
                    exact opr_len_h rfl (by rw [eval_tmp, f78]; exact (hT.hs HL.out)) (hK _ _ (NewT.refl _) rfl)
                  · intro a wx hT hF K hK
                    obtain ⟨f77, f79, f76, _⟩ := hF
                    have f77 : a.tmps.getD 77 undef = .int .i64 ((m : Int)) := f77
                    have f79 : a.tmps.getD 79 undef = .int .i64 ((List.length (l) : Int)) := f79
                    have f76 : a.tmps.getD 76 undef = .bool true := f76
                    refine rely_wp (rely_guard f76) ?_
                    exact opr_cmp (b := true) (.inr (.inr (.inl ⟨rfl, (by exact decide_eq_true (by have := HML.out; omega))⟩))) Tryd.underlying3 rfl f77 f79 (hK _ _ (NewT.refl _) rfl)
                  · intro a wx hT hF K hK
                    obtain ⟨f76, f80, _⟩ := hF
                    have f76 : a.tmps.getD 76 undef = .bool true := f76
                    have f80 : a.tmps.getD 80 undef = .bool true := f80
                    refine rely_wp rfl ?_
                    exact opr_pick_true rfl f76 (hK _ _ (NewT.refl _) f80)
                  · intro a wx hT hF K hK
                    obtain ⟨f73, f81, _⟩ := hF
                    have f73 : a.tmps.getD 73 undef = .bool true := f73
                    have f81 : a.tmps.getD 81 undef = .bool true := f81
                    refine rely_wp rfl ?_
                    exact opr_neqQ (b := false) (rfl) rfl f73 f81 (hK _ _ (NewT.refl _) rfl)
                  · intro w7 k7
                    intro u h; obtain rfl := Eq.symm (h (by simp)); clear h
                    intro u h; obtain rfl := Eq.symm (h (by simp)); clear h
                    intro u h; obtain rfl := Eq.symm (h (by simp)); clear h
                    intro u h; obtain rfl := Eq.symm (h (by simp)); clear h
                    intro u h; obtain rfl := Eq.symm (h (by simp)); clear h
                    intro u h; obtain rfl := Eq.symm (h (by simp)); clear h
                    intro u h; obtain rfl := Eq.symm (h (by simp)); clear h
                    intro u h; obtain rfl := Eq.symm (h (by simp)); clear h
                    intro u h; obtain rfl := Eq.symm (h (by simp)); clear h
                    intro u h; obtain rfl := Eq.symm (h (by simp)); clear h
                    refine relyEnd_nil rfl ?_
                    refine wpList_end rfl ?_
                    simp only [Act.put, List.setIfInBounds_toArray, List.set_cons_zero, List.set_cons_succ]
                    go_simp
                    replace R7 := Lib.hid (k7.row R7.out)
                    replace HL := Lib.hid (k7.hs HL.out)
                    replace HU12 := Lib.hid (k7.hs HU12.out)
                    replace HT := Lib.hid (k7.tables HT.out)
                    replace HN := Lib.hid (NewT.trans _ _ _ HN.out k7)
                    clear k7
                    go_upto_region 17 with fail
                    refine wp_region_rely (NewT) [SV.eq (.bool true), SV.eq (.bool false), SV.eq (.bool false), SV.eq (.int .i64 ((m : Int))), SV.eq (v), SV.eq (.int .i64 ((List.length (l) : Int))), SV.eq (v), SV.eq (.int .i64 ((m : Int))), svH (List.take m l), SV.eq (.agg (rowA 32 (bF (rootM node z (List.take m l))))), SV.eq (.agg (rowA 32 (bF (rootM node z l)))), SV.eq (u12), SV.eq (.bool true), SV.eq (.bool true), SV.eq (u12), SV.eq (.int .i64 ((List.length (subM node z m l true) : Int))), SV.eq (.int .i64 ((D : Int))), SV.eq (.int .i64 (((D : Int) + 1))), SV.eq (.bool true), SV.eq (.bool true), SV.eq (.bool true)] [([(13, none)], none), ([(83, some 0)], none), ([(84, some 1)], none), ([(2, none), (85, some 2)], some (85, false)), ([(0, none), (85, some 2)], some (85, false)), ([(87, some 4), (85, some 2)], some (85, false)), ([(0, none), (85, some 2)], some (85, false)), ([(2, none), (85, some 2)], some (85, false)), ([(89, some 6), (90, some 7), (85, some 2)], some (85, false)), ([(91, some 8), (85, some 2)], some (85, false)), ([(7, none), (85, some 2)], some (85, false)), ([(12, none), (85, some 2)], some (85, false)), ([(86, some 3), (88, some 5), (92, some 9), (93, some 10), (94, some 11), (85, some 2)], some (85, false)), ([(95, some 12), (85, some 2)], some (85, false)), ([(12, none), (96, some 13)], some (96, true)), ([(97, some 14), (96, some 13)], some (96, true)), ([(10, none), (96, some 13)], some (96, true)), ([(99, some 16), (96, some 13)], some (96, true)), ([(98, some 15), (100, some 17), (96, some 13)], some (96, true)), ([(96, some 13), (101, some 18), (85, some 2)], some (85, false)), ([(85, some 2), (102, some 19)], none)] 104 rfl (by kernel_rfl) rfl (by kernel_rfl) (by kernel_rfl) rfl NewT.trans (NewT.drew _) (Nat.le_of_ble_eq_true rfl) ⟨?_, ?_, ?_, ?_, ?_, ?_, ?_, ?_, ?_, ?_, ?_, ?_, ?_, ?_, ?_, ?_, ?_, ?_, ?_, ?_, ?_, trivial⟩ ?_
                    · intro a wx hT hF K hK
                      obtain ⟨f13, _⟩ := hF
                      have f13 : a.tmps.getD 13 undef = .bool true := f13
                      refine rely_wp rfl ?_
                      exact opr_move (.inl rfl) (hK _ _ (NewT.refl _) f13)
                    · intro a wx hT hF K hK
                      obtain ⟨f83, _⟩ := hF
                      have f83 : a.tmps.getD 83 undef = .bool true := f83
                      refine rely_wp rfl ?_
                      exact opr_not rfl f83 (hK _ _ (NewT.refl _) rfl)
                    · intro a wx hT hF K hK
                      obtain ⟨f84, _⟩ := hF
                      have f84 : a.tmps.getD 84 undef = .bool false := f84
                      refine rely_wp rfl ?_
                      exact opr_move (.inl rfl) (hK _ _ (NewT.refl _) f84)
                    · intro a wx hT hF K hK
                      obtain ⟨f2, f85, _⟩ := hF
                      have f2 : a.tmps.getD 2 undef = .int .i64 ((m : Int)) := f2
                      have f85 : a.tmps.getD 85 undef = .bool false := f85
                      refine rely_wp (rely_guard f85) ?_
                      exact opr_move (.inl rfl) (hK _ _ (NewT.refl _) f2)
                    · intro a wx hT hF K hK
                      obtain ⟨f0, f85, _⟩ := hF
                      have f0 : a.tmps.getD 0 undef = v := f0
                      have f85 : a.tmps.getD 85 undef = .bool false := f85
                      refine rely_wp (rely_guard f85) ?_
                      exact opr_move (.inl rfl) (hK _ _ (NewT.refl _) f0)
                    · intro a wx hT hF K hK
                      obtain ⟨f87, f85, _⟩ := hF
                      have f87 : a.tmps.getD 87 undef = v := f87
                      have f85 : a.tmps.getD 85 undef = .bool false := f85
                      refine rely_wp (rely_guard f85) ?_
                      exact opr_len_h rfl (by rw [eval_tmp, f87]; exact (hT.hs HL.out)) (hK _ _ (NewT.refl _) rfl)
                    · intro a wx hT hF K hK
                      obtain ⟨f0, f85, _⟩ := hF
                      have f0 : a.tmps.getD 0 undef = v := f0
                      have f85 : a.tmps.getD 85 undef = .bool false := f85
                      refine rely_wp (rely_guard f85) ?_
                      exact opr_move (.inl rfl) (hK _ _ (NewT.refl _) f0)
                    · intro a wx hT hF K hK
                      obtain ⟨f2, f85, _⟩ := hF
                      have f2 : a.tmps.getD 2 undef = .int .i64 ((m : Int)) := f2
                      have f85 : a.tmps.getD 85 undef = .bool false := f85
                      refine rely_wp (rely_guard f85) ?_
                      exact opr_move (.inl rfl) (hK _ _ (NewT.refl _) f2)
                    · intro a wx hT hF K hK
                      obtain ⟨f89, f90, f85, _⟩ := hF
                      have f89 : a.tmps.getD 89 undef = v := f89
                      have f90 : a.tmps.getD 90 undef = .int .i64 ((m : Int)) := f90
                      have f85 : a.tmps.getD 85 undef = .bool false := f85
                      refine rely_wp (rely_guard f85) ?_
                      exact opr_toH (k := m) (HML.out) (rfl) rfl (by rw [eval_tmp, f89]; exact (hT.hs HL.out)) f90 (fun v hv => hK v _ (NewT.refl _) hv)
                    · intro a wx hT hF K hK
                      obtain ⟨f91, f85, _⟩ := hF
                      replace f91 := show (svH (List.take m l)).pred (a.tmps.getD 91 undef) wx from f91
                      have f85 : a.tmps.getD 85 undef = .bool false := f85
                      refine rely_wp (rely_guard f85) ?_
                      exact opr_cv (Root_cv hX _ _ (List.take m l) wx (hT.tables HT.out) (f91) (Nat.le_refl _) (by have := HLEN.out; simp; omega)) rfl Tryd.func24 (by kernel_rfl) (by kernel_rfl) (by simp only [List.map_toArray, List.map_cons, List.map_nil, eval_tmp]) hK
                    · intro a wx hT hF K hK
                      obtain ⟨f7, f85, _⟩ := hF
                      have f7 : a.tmps.getD 7 undef = .pointer (some ⟨p7, 0, none⟩) := f7
                      have f85 : a.tmps.getD 85 undef = .bool false := f85
                      refine rely_wp (rely_guard f85) ?_
                      exact opr_load_hash rfl f7 (hT.row R7.out) (hK _ _ (NewT.refl _) rfl)
                    · intro a wx hT hF K hK
                      obtain ⟨f12, f85, _⟩ := hF
                      have f12 : a.tmps.getD 12 undef = u12 := f12
                      have f85 : a.tmps.getD 85 undef = .bool false := f85
                      refine rely_wp (rely_guard f85) ?_
                      exact opr_move (.inl rfl) (hK _ _ (NewT.refl _) f12)
                    · intro a wx hT hF K hK
                      obtain ⟨f86, f88, f92, f93, f94, f85, _⟩ := hF
                      have f86 : a.tmps.getD 86 undef = .int .i64 ((m : Int)) := f86
                      have f88 : a.tmps.getD 88 undef = .int .i64 ((List.length (l) : Int)) := f88
                      have f92 : a.tmps.getD 92 undef = .agg (rowA 32 (bF (rootM node z (List.take m l)))) := f92
                      have f93 : a.tmps.getD 93 undef = .agg (rowA 32 (bF (rootM node z l))) := f93
                      have f94 : a.tmps.getD 94 undef = u12 := f94
                      have f85 : a.tmps.getD 85 undef = .bool false := f85
                      refine rely_wp (rely_guard f85) ?_
                      exact opr_cv (eqH_same (rootM node z l) ▸ Beg_list hX l m (rootM node z l) u12 wx (hT.tables HT.out) HM1.out HML.out (by have := HLEN.out; omega) (hT.hs HU12.out)) rfl Tryd.func22 (by kernel_rfl) (by kernel_rfl) (by simp only [List.map_toArray, List.map_cons, List.map_nil, eval_tmp, f86, f88, f92, f93, f94]) hK
                    · intro a wx hT hF K hK
                      obtain ⟨f95, f85, _⟩ := hF
                      have f95 : a.tmps.getD 95 undef = .bool true := f95
                      have f85 : a.tmps.getD 85 undef = .bool false := f85
                      refine rely_wp (rely_guard f85) ?_
                      exact opr_move (.inl rfl) (hK _ _ (NewT.refl _) f95)
                    · intro a wx hT hF K hK
                      obtain ⟨f12, f96, _⟩ := hF
                      have f12 : a.tmps.getD 12 undef = u12 := f12
                      have f96 : a.tmps.getD 96 undef = .bool true := f96
                      refine rely_wp (rely_guard f96) ?_
                      exact opr_move (.inl rfl) (hK _ _ (NewT.refl _) f12)
                    · intro a wx hT hF K hK
                      obtain ⟨f97, f96, _⟩ := hF
                      have f97 : a.tmps.getD 97 undef = u12 := f97
                      have f96 : a.tmps.getD 96 undef = .bool true := f96
                      refine rely_wp (rely_guard f96) ?_
                      exact opr_len_h rfl (by rw [eval_tmp, f97]; exact (hT.hs HU12.out)) (hK _ _ (NewT.refl _) rfl)
                    · intro a wx hT hF K hK
                      obtain ⟨f10, f96, _⟩ := hF
                      have f10 : a.tmps.getD 10 undef = .int .i64 ((D : Int)) := f10
                      have f96 : a.tmps.getD 96 undef = .bool true := f96
                      refine rely_wp (rely_guard f96) ?_
                      exact opr_move (.inl rfl) (hK _ _ (NewT.refl _) f10)
                    · intro a wx hT hF K hK
                      obtain ⟨f99, f96, _⟩ := hF
                      have f99 : a.tmps.getD 99 undef = .int .i64 ((D : Int)) := f99
                      have f96 : a.tmps.getD 96 undef = .bool true := f96
                      refine rely_wp (rely_guard f96) ?_
                      exact opr_add (r := ((D : Int) + 1)) Tryd.underlying3 (by unfold wrap64; have := HDL.out; omega) rfl f99 rfl (hK _ _ (NewT.refl _) rfl)
                    · intro a wx hT hF K hK
                      obtain ⟨f98, f100, f96, _⟩ := hF
                      have f98 : a.tmps.getD 98 undef = .int .i64 ((List.length (subM node z m l true) : Int)) := f98
                      have f100 : a.tmps.getD 100 undef = .int .i64 (((D : Int) + 1)) := f100
                      have f96 : a.tmps.getD 96 undef = .bool true := f96
                      refine rely_wp (rely_guard f96) ?_
                      exact opr_cmp (b := true) (.inr (.inr (.inl ⟨rfl, (by exact decide_eq_true (by have := HSD.out; omega))⟩))) Tryd.underlying3 rfl f98 f100 (hK _ _ (NewT.refl _) rfl)
                    · intro a wx hT hF K hK
                      obtain ⟨f96, f101, f85, _⟩ := hF
                      have f96 : a.tmps.getD 96 undef = .bool true := f96
                      have f101 : a.tmps.getD 101 undef = .bool true := f101
                      have f85 : a.tmps.getD 85 undef = .bool false := f85
                      refine rely_wp (rely_guard f85) ?_
                      exact opr_pick_true rfl f96 (hK _ _ (NewT.refl _) f101)
                    · intro a wx hT hF K hK
                      obtain ⟨f85, f102, _⟩ := hF
                      have f85 : a.tmps.getD 85 undef = .bool false := f85
                      have f102 : a.tmps.getD 102 undef = .bool true := f102
                      refine rely_wp rfl ?_
                      exact opr_pick_false rfl f85 (hK _ _ (NewT.refl _) f102)
                    · intro we ke
                      intro u h; obtain rfl := Eq.symm (h (by simp)); clear h
                      intro u h; obtain rfl := Eq.symm (h (by simp)); clear h
                      intro u h; obtain rfl := Eq.symm (h (by simp)); clear h
                      intro u h; obtain rfl := Eq.symm (h (by simp)); clear h
                      intro u h; obtain rfl := Eq.symm (h (by simp)); clear h
                      intro u h; obtain rfl := Eq.symm (h (by simp)); clear h
                      intro u h; obtain rfl := Eq.symm (h (by simp)); clear h
                      intro u h; obtain rfl := Eq.symm (h (by simp)); clear h
                      intro _ _
                      intro u h; obtain rfl := Eq.symm (h (by simp)); clear h
                      intro u h; obtain rfl := Eq.symm (h (by simp)); clear h
                      intro u h; obtain rfl := Eq.symm (h (by simp)); clear h
                      intro u h; obtain rfl := Eq.symm (h (by simp)); clear h
                      intro u h; obtain rfl := Eq.symm (h (by simp)); clear h
                      intro u h; obtain rfl := Eq.symm (h (by simp)); clear h
                      intro u h; obtain rfl := Eq.symm (h (by simp)); clear h
                      intro u h; obtain rfl := Eq.symm (h (by simp)); clear h
                      intro u h; obtain rfl := Eq.symm (h (by simp)); clear h
                      intro u h; obtain rfl := Eq.symm (h (by simp)); clear h
                      intro u h; obtain rfl := Eq.symm (h (by simp)); clear h
                      intro u h; obtain rfl := Eq.symm (h (by simp)); clear h
                      refine relyEnd_nil rfl ?_
                      simp only [Act.put, List.setIfInBounds_toArray, List.set_cons_zero, List.set_cons_succ]
                      refine opr_move (.inr rfl) ?_
                      go_simp
                      go_wp2
                      go_ret
                      exact ⟨rfl, (NewT.trans _ _ _ HN.out ke).out⟩
              · skip
                obtain ⟨bm, hbm⟩ : ∃ b, decide (1 ≤ m0) = b := ⟨_, rfl⟩
                have HBM := Lib.hid hbm
                have HM : Hid (m0 < 1 ∨ (l.length : Int) < m0) := Lib.hid (by omega)
                have HM2 : Hid (bm = true → decide (m0 ≤ (l.length : Int)) = false) := Lib.hid fun h => by rw [← hbm] at h; exact decide_eq_false (by have := of_decide_eq_true h; omega)
                clear hbm
                go_upto_region 14 with fail
                refine wp_region_steps0 NewT [SV.eq (v), SV.eq (.int .i64 (m0)), svPq (([] : List Hs)) false, svPq (([] : List Hs)) false, svH (([] : List Hs)), SV.eq (.bool false), svH (([] : List Hs)), SV.eq (.bool false)] [([(0, none)], none), ([(2, none)], none), ([(68, some 0), (69, some 1)], none), ([(70, some 2)], none), ([(67, some 3)], none), ([(67, some 3)], none), ([(71, some 4)], none), ([(72, some 5)], none)] 104 8 rfl rfl (by kernel_rfl) NewT.trans (NewT.refl _) (Nat.le_of_ble_eq_true rfl) ⟨?_, ?_, ?_, ?_, ?_, ?_, ?_, ?_, trivial⟩ ?_
                · intro a wx hT hF K hK
                  obtain ⟨f0, _⟩ := hF
                  have f0 : a.tmps.getD 0 undef = v := f0
                  refine rely_wp rfl ?_
                  exact opr_move (.inl rfl) (hK _ _ (NewT.refl _) f0)
                · intro a wx hT hF K hK
                  obtain ⟨f2, _⟩ := hF
                  have f2 : a.tmps.getD 2 undef = .int .i64 (m0) := f2
                  refine rely_wp rfl ?_
                  exact opr_move (.inl rfl) (hK _ _ (NewT.refl _) f2)
                · intro a wx hT hF K hK
                  obtain ⟨f68, f69, _⟩ := hF
                  have f68 : a.tmps.getD 68 undef = v := f68
                  have f69 : a.tmps.getD 69 undef = .int .i64 (m0) := f69
                  refine rely_wp rfl ?_
                  exact opr_cv (Prove_bad _ l m0 wx (hT.hs HL.out) HM.out) rfl Tryd.func13 (by kernel_rfl) (by kernel_rfl) (by simp only [List.map_toArray, List.map_cons, List.map_nil, eval_tmp, f68, f69]) hK
                · intro a wx hT hF K hK
                  obtain ⟨f70, _⟩ := hF
                  replace f70 := show (svPq (([] : List Hs)) false).pred (a.tmps.getD 70 undef) wx from f70
                  refine rely_wp rfl ?_
                  exact opr_move (.inl rfl) (hK _ _ (NewT.refl _) f70)
                · intro a wx hT hF K hK
                  obtain ⟨f67, _⟩ := hF
                  replace f67 := show (svPq (([] : List Hs)) false).pred (a.tmps.getD 67 undef) wx from f67
                  refine rely_wp rfl ?_
                  exact opr_extP0 rfl f67 (fun u hu => hK u _ (NewT.refl _) hu)
                · intro a wx hT hF K hK
                  obtain ⟨f67, _⟩ := hF
                  replace f67 := show (svPq (([] : List Hs)) false).pred (a.tmps.getD 67 undef) wx from f67
                  refine rely_wp rfl ?_
                  exact opr_extP1 rfl f67 (hK _ _ (NewT.refl _) rfl)
                · intro a wx hT hF K hK
                  obtain ⟨f71, _⟩ := hF
                  replace f71 := show (svH (([] : List Hs))).pred (a.tmps.getD 71 undef) wx from f71
                  refine rely_wp rfl ?_
                  exact opr_move (.inr rfl) (hK _ _ (NewT.refl _) f71)
                · intro a wx hT hF K hK
                  obtain ⟨f72, _⟩ := hF
                  have f72 : a.tmps.getD 72 undef = .bool false := f72
                  refine rely_wp rfl ?_
                  exact opr_move (.inr rfl) (hK _ _ (NewT.refl _) f72)
                · intro w6 k6
                  intro u h; obtain rfl := Eq.symm (h (by simp)); clear h
                  intro u h; obtain rfl := Eq.symm (h (by simp)); clear h
                  intro _ _
                  intro _ _
                  intro _ _
                  intro u h; obtain rfl := Eq.symm (h (by simp)); clear h
                  intro u12 h; have g12 := h (by simp); clear h; replace g12 := show (svH (([] : List Hs))).pred u12 w6 from g12
                  intro u h; obtain rfl := Eq.symm (h (by simp)); clear h
                  refine relyEnd_nil rfl ?_
                  refine wpList_end rfl ?_
                  simp only [Act.put, List.setIfInBounds_toArray, List.set_cons_zero, List.set_cons_succ]
                  go_simp
                  have HU12 := Lib.hid (show RdH w6 u12 ([] : List Hs) from g12)
                  clear g12
                  replace R7 := Lib.hid (k6.row R7.out)
                  replace HL := Lib.hid (k6.hs HL.out)
                  replace HT := Lib.hid (k6.tables HT.out)
                  replace HN := Lib.hid (NewT.trans _ _ _ HN.out k6)
                  clear k6
                  go_upto_region 15 with fail
                  refine wp_region_steps0 NewT [SV.eq (.bool false), SV.eq (.int .i64 (m0)), SV.eq (.bool (bm)), SV.eq (.bool (bm)), svIf bm (SV.eq (.int .i64 (m0))), svIf bm (SV.eq (v)), svIf bm (SV.eq (.int .i64 ((List.length (l) : Int)))), svIf bm (SV.eq (.bool (decide (m0 ≤ ((List.length (l) : Int)))))), SV.eq (.bool false), SV.eq (.bool false)] [([(13, none)], none), ([(2, none)], none), ([(74, some 1)], none), ([(75, some 2)], none), ([(2, none), (76, some 3)], some (76, true)), ([(0, none), (76, some 3)], some (76, true)), ([(78, some 5), (76, some 3)], some (76, true)), ([(77, some 4), (79, some 6), (76, some 3)], some (76, true)), ([(76, some 3), (80, some 7)], none), ([(73, some 0), (81, some 8)], none)] 104 10 rfl rfl (by kernel_rfl) NewT.trans (NewT.refl _) (Nat.le_of_ble_eq_true rfl) ⟨?_, ?_, ?_, ?_, ?_, ?_, ?_, ?_, ?_, ?_, trivial⟩ ?_
                  · intro a wx hT hF K hK
                    obtain ⟨f13, _⟩ := hF
                    have f13 : a.tmps.getD 13 undef = .bool false := f13
                    refine rely_wp rfl ?_
                    exact opr_move (.inl rfl) (hK _ _ (NewT.refl _) f13)
                  · intro a wx hT hF K hK
                    obtain ⟨f2, _⟩ := hF
                    have f2 : a.tmps.getD 2 undef = .int .i64 (m0) := f2
                    refine rely_wp rfl ?_
                    exact opr_move (.inl rfl) (hK _ _ (NewT.refl _) f2)
                  · intro a wx hT hF K hK
                    obtain ⟨f74, _⟩ := hF
                    have f74 : a.tmps.getD 74 undef = .int .i64 (m0) := f74
                    refine rely_wp rfl ?_
                    exact opr_cmp (b := bm) (.inr (.inr (.inr (.inr (.inr (⟨rfl, (by exact HBM.out)⟩)))))) Tryd.underlying3 rfl f74 rfl (hK _ _ (NewT.refl _) rfl)
                  · intro a wx hT hF K hK
                    obtain ⟨f75, _⟩ := hF
                    have f75 : a.tmps.getD 75 undef = .bool (bm) := f75
                    refine rely_wp rfl ?_
                    exact opr_move (.inl rfl) (hK _ _ (NewT.refl _) f75)
                  · intro a wx hT hF K hK
                    obtain ⟨f2, f76, _⟩ := hF
                    have f2 : a.tmps.getD 2 undef = .int .i64 (m0) := f2
                    have f76 : a.tmps.getD 76 undef = .bool (bm) := f76
                    refine rely_if (rely_gt f76) (NewT.refl _) hK (fun hE hK => ?_)
                    exact opr_move (.inl rfl) (hK _ _ (NewT.refl _) f2)
                  · intro a wx hT hF K hK
                    obtain ⟨f0, f76, _⟩ := hF
                    have f0 : a.tmps.getD 0 undef = v := f0
                    have f76 : a.tmps.getD 76 undef = .bool (bm) := f76
                    refine rely_if (rely_gt f76) (NewT.refl _) hK (fun hE hK => ?_)
                    exact opr_move (.inl rfl) (hK _ _ (NewT.refl _) f0)
                  · intro a wx hT hF K hK
                    obtain ⟨f78, f76, _⟩ := hF
                    have f78 : bm = true → a.tmps.getD 78 undef = v := f78
                    have f76 : a.tmps.getD 76 undef = .bool (bm) := f76
                    refine rely_if (rely_gt f76) (NewT.refl _) hK (fun hE hK => ?_)
                    exact opr_len_h rfl (by rw [eval_tmp, (f78 hE)]; exact (hT.hs HL.out)) (hK _ _ (NewT.refl _) rfl)
                  · intro a wx hT hF K hK
                    obtain ⟨f77, f79, f76, _⟩ := hF
                    have f77 : bm = true → a.tmps.getD 77 undef = .int .i64 (m0) := f77
                    have f79 : bm = true → a.tmps.getD 79 undef = .int .i64 ((List.length (l) : Int)) := f79
                    have f76 : a.tmps.getD 76 undef = .bool (bm) := f76
                    refine rely_if (rely_gt f76) (NewT.refl _) hK (fun hE hK => ?_)
                    exact opr_cmp (b := decide (m0 ≤ ((List.length (l) : Int)))) (.inr (.inr (.inl ⟨rfl, rfl⟩))) Tryd.underlying3 rfl (f77 hE) (f79 hE) (hK _ _ (NewT.refl _) rfl)
                  · intro a wx hT hF K hK
                    obtain ⟨f76, f80, _⟩ := hF
                    have f76 : a.tmps.getD 76 undef = .bool (bm) := f76
                    have f80 : bm = true → a.tmps.getD 80 undef = .bool (decide (m0 ≤ ((List.length (l) : Int)))) := f80
                    refine rely_wp rfl ?_
                    exact opr_pick_b rfl f76 (fun hb => hK _ _ (NewT.refl _) (by rw [eval_tmp]; exact (f80 hb).trans (by rw [HM2.out hb]))) (fun hb => hK _ _ (NewT.refl _) rfl)
                  · intro a wx hT hF K hK
                    obtain ⟨f73, f81, _⟩ := hF
                    have f73 : a.tmps.getD 73 undef = .bool false := f73
                    have f81 : a.tmps.getD 81 undef = .bool false := f81
                    refine rely_wp rfl ?_
                    exact opr_neqQ (b := false) (rfl) rfl f73 f81 (hK _ _ (NewT.refl _) rfl)
                  · intro w7 k7
                    intro u h; obtain rfl := Eq.symm (h (by simp)); clear h
                    intro u h; obtain rfl := Eq.symm (h (by simp)); clear h
                    intro u h; obtain rfl := Eq.symm (h (by simp)); clear h
                    intro u h; obtain rfl := Eq.symm (h (by simp)); clear h
                    intro _ _
                    intro _ _
                    intro _ _
                    intro _ _
                    intro u h; obtain rfl := Eq.symm (h (by simp)); clear h
                    intro u h; obtain rfl := Eq.symm (h (by simp)); clear h
                    refine relyEnd_nil rfl ?_
                    refine wpList_end rfl ?_
                    simp only [Act.put, List.setIfInBounds_toArray, List.set_cons_zero, List.set_cons_succ]
                    go_simp
                    replace R7 := Lib.hid (k7.row R7.out)
                    replace HL := Lib.hid (k7.hs HL.out)
                    replace HU12 := Lib.hid (k7.hs HU12.out)
                    replace HT := Lib.hid (k7.tables HT.out)
                    replace HN := Lib.hid (NewT.trans _ _ _ HN.out k7)
                    clear k7
                    go_upto_region 17 with fail
                    refine wp_region_rely (NewT) [SV.eq (.bool false), SV.eq (.bool true), SV.eq (.bool true), SV.eq (undef), SV.eq (undef), SV.eq (undef), SV.eq (undef), SV.eq (undef), SV.eq (undef), SV.eq (undef), SV.eq (undef), SV.eq (undef), SV.eq (undef), SV.eq (undef), SV.eq (undef), SV.eq (undef), SV.eq (undef), SV.eq (undef), SV.eq (undef), SV.eq (undef), SV.eq (.bool true)] [([(13, none)], none), ([(83, some 0)], none), ([(84, some 1)], none), ([(2, none), (85, some 2)], some (85, false)), ([(0, none), (85, some 2)], some (85, false)), ([(87, some 4), (85, some 2)], some (85, false)), ([(0, none), (85, some 2)], some (85, false)), ([(2, none), (85, some 2)], some (85, false)), ([(89, some 6), (90, some 7), (85, some 2)], some (85, false)), ([(91, some 8), (85, some 2)], some (85, false)), ([(7, none), (85, some 2)], some (85, false)), ([(12, none), (85, some 2)], some (85, false)), ([(86, some 3), (88, some 5), (92, some 9), (93, some 10), (94, some 11), (85, some 2)], some (85, false)), ([(95, some 12), (85, some 2)], some (85, false)), ([(12, none), (96, some 13)], some (96, true)), ([(97, some 14), (96, some 13)], some (96, true)), ([(10, none), (96, some 13)], some (96, true)), ([(99, some 16), (96, some 13)], some (96, true)), ([(98, some 15), (100, some 17), (96, some 13)], some (96, true)), ([(96, some 13), (101, some 18), (85, some 2)], some (85, false)), ([(85, some 2), (102, some 19)], none)] 104 rfl (by kernel_rfl) rfl (by kernel_rfl) (by kernel_rfl) rfl NewT.trans (NewT.drew _) (Nat.le_of_ble_eq_true rfl) ⟨?_, ?_, ?_, ?_, ?_, ?_, ?_, ?_, ?_, ?_, ?_, ?_, ?_, ?_, ?_, ?_, ?_, ?_, ?_, ?_, ?_, trivial⟩ ?_
                    · intro a wx hT hF K hK
                      obtain ⟨f13, _⟩ := hF
                      have f13 : a.tmps.getD 13 undef = .bool false := f13
                      refine rely_wp rfl ?_
                      exact opr_move (.inl rfl) (hK _ _ (NewT.refl _) f13)
                    · intro a wx hT hF K hK
                      obtain ⟨f83, _⟩ := hF
                      have f83 : a.tmps.getD 83 undef = .bool false := f83
                      refine rely_wp rfl ?_
                      exact opr_not rfl f83 (hK _ _ (NewT.refl _) rfl)
                    · intro a wx hT hF K hK
                      obtain ⟨f84, _⟩ := hF
                      have f84 : a.tmps.getD 84 undef = .bool true := f84
                      refine rely_wp rfl ?_
                      exact opr_move (.inl rfl) (hK _ _ (NewT.refl _) f84)
                    · intro a wx hT hF K hK
                      obtain ⟨f2, f85, _⟩ := hF
                      have f2 : a.tmps.getD 2 undef = .int .i64 (m0) := f2
                      have f85 : a.tmps.getD 85 undef = .bool true := f85
                      exact rely_skip (rely_guard_no f85 (by decide)) (hK _ _ (NewT.refl _) rfl)
                    · intro a wx hT hF K hK
                      obtain ⟨f0, f85, _⟩ := hF
                      have f0 : a.tmps.getD 0 undef = v := f0
                      have f85 : a.tmps.getD 85 undef = .bool true := f85
                      exact rely_skip (rely_guard_no f85 (by decide)) (hK _ _ (NewT.refl _) rfl)
                    · intro a wx hT hF K hK
                      obtain ⟨f87, f85, _⟩ := hF
                      have f87 : a.tmps.getD 87 undef = undef := f87
                      have f85 : a.tmps.getD 85 undef = .bool true := f85
                      exact rely_skip (rely_guard_no f85 (by decide)) (hK _ _ (NewT.refl _) rfl)
                    · intro a wx hT hF K hK
                      obtain ⟨f0, f85, _⟩ := hF
                      have f0 : a.tmps.getD 0 undef = v := f0
                      have f85 : a.tmps.getD 85 undef = .bool true := f85
                      exact rely_skip (rely_guard_no f85 (by decide)) (hK _ _ (NewT.refl _) rfl)
                    · intro a wx hT hF K hK
                      obtain ⟨f2, f85, _⟩ := hF
                      have f2 : a.tmps.getD 2 undef = .int .i64 (m0) := f2
                      have f85 : a.tmps.getD 85 undef = .bool true := f85
                      exact rely_skip (rely_guard_no f85 (by decide)) (hK _ _ (NewT.refl _) rfl)
                    · intro a wx hT hF K hK
                      obtain ⟨f89, f90, f85, _⟩ := hF
                      have f89 : a.tmps.getD 89 undef = undef := f89
                      have f90 : a.tmps.getD 90 undef = undef := f90
                      have f85 : a.tmps.getD 85 undef = .bool true := f85
                      exact rely_skip (rely_guard_no f85 (by decide)) (hK _ _ (NewT.refl _) rfl)
                    · intro a wx hT hF K hK
                      obtain ⟨f91, f85, _⟩ := hF
                      have f91 : a.tmps.getD 91 undef = undef := f91
                      have f85 : a.tmps.getD 85 undef = .bool true := f85
                      exact rely_skip (rely_guard_no f85 (by decide)) (hK _ _ (NewT.refl _) rfl)
                    · intro a wx hT hF K hK
                      obtain ⟨f7, f85, _⟩ := hF
                      have f7 : a.tmps.getD 7 undef = .pointer (some ⟨p7, 0, none⟩) := f7
                      have f85 : a.tmps.getD 85 undef = .bool true := f85
                      exact rely_skip (rely_guard_no f85 (by decide)) (hK _ _ (NewT.refl _) rfl)
                    · intro a wx hT hF K hK
                      obtain ⟨f12, f85, _⟩ := hF
                      have f12 : a.tmps.getD 12 undef = u12 := f12
                      have f85 : a.tmps.getD 85 undef = .bool true := f85
                      exact rely_skip (rely_guard_no f85 (by decide)) (hK _ _ (NewT.refl _) rfl)
                    · intro a wx hT hF K hK
                      obtain ⟨f86, f88, f92, f93, f94, f85, _⟩ := hF
                      have f86 : a.tmps.getD 86 undef = undef := f86
                      have f88 : a.tmps.getD 88 undef = undef := f88
                      have f92 : a.tmps.getD 92 undef = undef := f92
                      have f93 : a.tmps.getD 93 undef = undef := f93
                      have f94 : a.tmps.getD 94 undef = undef := f94
                      have f85 : a.tmps.getD 85 undef = .bool true := f85
                      exact rely_skip (rely_guard_no f85 (by decide)) (hK _ _ (NewT.refl _) rfl)
                    · intro a wx hT hF K hK
                      obtain ⟨f95, f85, _⟩ := hF
                      have f95 : a.tmps.getD 95 undef = undef := f95
                      have f85 : a.tmps.getD 85 undef = .bool true := f85
                      exact rely_skip (rely_guard_no f85 (by decide)) (hK _ _ (NewT.refl _) rfl)
                    · intro a wx hT hF K hK
                      obtain ⟨f12, f96, _⟩ := hF
                      have f12 : a.tmps.getD 12 undef = u12 := f12
                      have f96 : a.tmps.getD 96 undef = undef := f96
                      exact rely_skip (rely_guard_undef f96) (hK _ _ (NewT.refl _) rfl)
                    · intro a wx hT hF K hK
                      obtain ⟨f97, f96, _⟩ := hF
                      have f97 : a.tmps.getD 97 undef = undef := f97
                      have f96 : a.tmps.getD 96 undef = undef := f96
                      exact rely_skip (rely_guard_undef f96) (hK _ _ (NewT.refl _) rfl)
                    · intro a wx hT hF K hK
                      obtain ⟨f10, f96, _⟩ := hF
                      have f10 : a.tmps.getD 10 undef = .int .i64 ((D : Int)) := f10
                      have f96 : a.tmps.getD 96 undef = undef := f96
                      exact rely_skip (rely_guard_undef f96) (hK _ _ (NewT.refl _) rfl)
                    · intro a wx hT hF K hK
                      obtain ⟨f99, f96, _⟩ := hF
                      have f99 : a.tmps.getD 99 undef = undef := f99
                      have f96 : a.tmps.getD 96 undef = undef := f96
                      exact rely_skip (rely_guard_undef f96) (hK _ _ (NewT.refl _) rfl)
                    · intro a wx hT hF K hK
                      obtain ⟨f98, f100, f96, _⟩ := hF
                      have f98 : a.tmps.getD 98 undef = undef := f98
                      have f100 : a.tmps.getD 100 undef = undef := f100
                      have f96 : a.tmps.getD 96 undef = undef := f96
                      exact rely_skip (rely_guard_undef f96) (hK _ _ (NewT.refl _) rfl)
                    · intro a wx hT hF K hK
                      obtain ⟨f96, f101, f85, _⟩ := hF
                      have f96 : a.tmps.getD 96 undef = undef := f96
                      have f101 : a.tmps.getD 101 undef = undef := f101
                      have f85 : a.tmps.getD 85 undef = .bool true := f85
                      exact rely_skip (rely_guard_no f85 (by decide)) (hK _ _ (NewT.refl _) rfl)
                    · intro a wx hT hF K hK
                      obtain ⟨f85, f102, _⟩ := hF
                      have f85 : a.tmps.getD 85 undef = .bool true := f85
                      have f102 : a.tmps.getD 102 undef = undef := f102
                      refine rely_wp rfl ?_
                      exact opr_pick_true rfl f85 (hK _ _ (NewT.refl _) rfl)
                    · intro we ke
                      intro u h; obtain rfl := Eq.symm (h (by simp)); clear h
                      intro u h; obtain rfl := Eq.symm (h (by simp)); clear h
                      intro u h; obtain rfl := Eq.symm (h (by simp)); clear h
                      intro u h; obtain rfl := Eq.symm (h (by simp)); clear h
                      intro u h; obtain rfl := Eq.symm (h (by simp)); clear h
                      intro u h; obtain rfl := Eq.symm (h (by simp)); clear h
                      intro u h; obtain rfl := Eq.symm (h (by simp)); clear h
                      intro u h; obtain rfl := Eq.symm (h (by simp)); clear h
                      intro u h; obtain rfl := Eq.symm (h (by simp)); clear h
                      intro u h; obtain rfl := Eq.symm (h (by simp)); clear h
                      intro u h; obtain rfl := Eq.symm (h (by simp)); clear h
                      intro u h; obtain rfl := Eq.symm (h (by simp)); clear h
                      intro u h; obtain rfl := Eq.symm (h (by simp)); clear h
                      intro u h; obtain rfl := Eq.symm (h (by simp)); clear h
                      intro u h; obtain rfl := Eq.symm (h (by simp)); clear h
                      intro u h; obtain rfl := Eq.symm (h (by simp)); clear h
                      intro u h; obtain rfl := Eq.symm (h (by simp)); clear h
                      intro u h; obtain rfl := Eq.symm (h (by simp)); clear h
                      intro u h; obtain rfl := Eq.symm (h (by simp)); clear h
                      intro u h; obtain rfl := Eq.symm (h (by simp)); clear h
                      intro u h; obtain rfl := Eq.symm (h (by simp)); clear h
                      refine relyEnd_nil rfl ?_
                      simp only [Act.put, List.setIfInBounds_toArray, List.set_cons_zero, List.set_cons_succ]
                      refine opr_move (.inr rfl) ?_
                      go_simp
                      go_wp2
                      go_ret
                      exact ⟨rfl, (NewT.trans _ _ _ HN.out ke).out⟩
    · skip
      obtain ⟨bi, hbi⟩ : ∃ b, decide (0 ≤ i0) = b := ⟨_, rfl⟩
      have HBI := Lib.hid hbi
      have HI : Hid (i0 < 0 ∨ (l.length : Int) ≤ i0) := Lib.hid (by omega)
      have HI2 : Hid (bi = true → decide (i0 < (l.length : Int)) = false) := Lib.hid fun h => by rw [← hbi] at h; exact decide_eq_false (by have := of_decide_eq_true h; omega)
      clear hbi
      go_upto_region 6 with fail
      refine wp_region_steps0 NewT [SV.eq (v), SV.eq (.int .i64 (i0)), svPq (([] : List Hs)) false, svPq (([] : List Hs)) false, svH (([] : List Hs)), SV.eq (.bool false), svH (([] : List Hs)), SV.eq (.bool false)] [([(0, none)], none), ([(1, none)], none), ([(22, some 0), (23, some 1)], none), ([(24, some 2)], none), ([(21, some 3)], none), ([(21, some 3)], none), ([(25, some 4)], none), ([(26, some 5)], none)] 104 8 rfl rfl (by kernel_rfl) NewT.trans (NewT.refl _) (Nat.le_of_ble_eq_true rfl) ⟨?_, ?_, ?_, ?_, ?_, ?_, ?_, ?_, trivial⟩ ?_
      · intro a wx hT hF K hK
        obtain ⟨f0, _⟩ := hF
        have f0 : a.tmps.getD 0 undef = v := f0
        refine rely_wp rfl ?_
        exact opr_move (.inl rfl) (hK _ _ (NewT.refl _) f0)
      · intro a wx hT hF K hK
        obtain ⟨f1, _⟩ := hF
        have f1 : a.tmps.getD 1 undef = .int .i64 (i0) := f1
        refine rely_wp rfl ?_
        exact opr_move (.inl rfl) (hK _ _ (NewT.refl _) f1)
      · intro a wx hT hF K hK
        obtain ⟨f22, f23, _⟩ := hF
        have f22 : a.tmps.getD 22 undef = v := f22
        have f23 : a.tmps.getD 23 undef = .int .i64 (i0) := f23
        refine rely_wp rfl ?_
        exact opr_cv (Path_bad _ l i0 wx (hT.hs HL.out) HI.out) rfl Tryd.func11 (by kernel_rfl) (by kernel_rfl) (by simp only [List.map_toArray, List.map_cons, List.map_nil, eval_tmp, f22, f23]) hK
      · intro a wx hT hF K hK
        obtain ⟨f24, _⟩ := hF
        replace f24 := show (svPq (([] : List Hs)) false).pred (a.tmps.getD 24 undef) wx from f24
        refine rely_wp rfl ?_
        exact opr_move (.inl rfl) (hK _ _ (NewT.refl _) f24)
      · intro a wx hT hF K hK
        obtain ⟨f21, _⟩ := hF
        replace f21 := show (svPq (([] : List Hs)) false).pred (a.tmps.getD 21 undef) wx from f21
        refine rely_wp rfl ?_
        exact opr_extP0 rfl f21 (fun u hu => hK u _ (NewT.refl _) hu)
      · intro a wx hT hF K hK
        obtain ⟨f21, _⟩ := hF
        replace f21 := show (svPq (([] : List Hs)) false).pred (a.tmps.getD 21 undef) wx from f21
        refine rely_wp rfl ?_
        exact opr_extP1 rfl f21 (hK _ _ (NewT.refl _) rfl)
      · intro a wx hT hF K hK
        obtain ⟨f25, _⟩ := hF
        replace f25 := show (svH (([] : List Hs))).pred (a.tmps.getD 25 undef) wx from f25
        refine rely_wp rfl ?_
        exact opr_move (.inr rfl) (hK _ _ (NewT.refl _) f25)
      · intro a wx hT hF K hK
        obtain ⟨f26, _⟩ := hF
        have f26 : a.tmps.getD 26 undef = .bool false := f26
        refine rely_wp rfl ?_
        exact opr_move (.inr rfl) (hK _ _ (NewT.refl _) f26)
      · intro w4 k4
        intro u h; obtain rfl := Eq.symm (h (by simp)); clear h
        intro u h; obtain rfl := Eq.symm (h (by simp)); clear h
        intro _ _
        intro _ _
        intro _ _
        intro u h; obtain rfl := Eq.symm (h (by simp)); clear h
        intro u8 h; have g8 := h (by simp); clear h; replace g8 := show (svH (([] : List Hs))).pred u8 w4 from g8
        intro u h; obtain rfl := Eq.symm (h (by simp)); clear h
        refine relyEnd_nil rfl ?_
        refine wpList_end rfl ?_
        simp only [Act.put, List.setIfInBounds_toArray, List.set_cons_zero, List.set_cons_succ]
        go_simp
        have HU8 := Lib.hid (show RdH w4 u8 ([] : List Hs) from g8)
        clear g8
        replace R7 := Lib.hid (k4.row R7.out)
        replace HL := Lib.hid (k4.hs HL.out)
        replace HT := Lib.hid (k4.tables HT.out)
        replace HN := Lib.hid (NewT.trans _ _ _ HN.out k4)
        clear k4
        subst ev
        go_wp2
        go_loopw [10, 11] (fun a b wr => ∃ x y : Nat, a = .int .i64 (x : Int) ∧ b = .int .i64 (y : Int) ∧ y ≤ 70 ∧ x + digN y = D ∧ w4 = wr) (fun a b _ => (intOf b).toNat)
        case atStart => exact ⟨0, l.length, rfl, rfl, HLEN.out, by rw [Nat.zero_add]; exact HDE.out, rfl⟩
        case round =>
          obtain ⟨x, y, rfl, rfl, hy, hxy, rfl⟩ := hrel
          by_cases hy0 : 0 < y
          · have it : (0 : Int) < (y : Int) := by omega
            have hx70 : x ≤ 70 := by have := HDL.out; omega
            go_wp2
            go_roundw
            case rel => exact ⟨x + 1, y / 2, by go_num, by go_num, by omega, by rw [digN_pos y hy0] at hxy; omega, by first | rfl | trivial⟩
            case measure => simp [intOf]; omega
          · obtain rfl : y = 0 := by omega
            rw [digN_0] at hxy
            obtain rfl : D = x := by omega
            have it : ¬ (0 : Int) < 0 := by omega
            go_upto_region 12 with fail
            obtain ⟨v, ev⟩ : ∃ v, Value.slice A l.length c = v := ⟨_, rfl⟩
            rw [ev] at HL ⊢
            refine wp_region_rely (NewT) [SV.eq (.bool false), SV.eq (.int .i64 (i0)), SV.eq (.bool (bi)), SV.eq (.bool (bi)), svIf bi (SV.eq (.int .i64 (i0))), svIf bi (SV.eq (v)), svIf bi (SV.eq (.int .i64 ((List.length (l) : Int)))), svIf bi (SV.eq (.bool (decide (i0 < ((List.length (l) : Int)))))), SV.eq (.bool false), SV.eq (.bool false), SV.eq (.bool false), SV.eq (.bool false), SV.eq (.bool false), SV.eq (undef), SV.eq (undef), SV.eq (undef), SV.eq (undef), SV.eq (undef), SV.eq (undef), SV.eq (undef), SV.eq (undef), SV.eq (undef), SV.eq (undef), SV.eq (undef), SV.eq (undef), SV.eq (undef), SV.eq (undef), SV.eq (undef), SV.eq (undef), SV.eq (undef), SV.eq (.bool false)] [([(9, none)], none), ([(1, none)], none), ([(36, some 1)], none), ([(37, some 2)], none), ([(1, none), (38, some 3)], some (38, true)), ([(0, none), (38, some 3)], some (38, true)), ([(40, some 5), (38, some 3)], some (38, true)), ([(39, some 4), (41, some 6), (38, some 3)], some (38, true)), ([(38, some 3), (42, some 7)], none), ([(35, some 0), (43, some 8)], none), ([(44, some 9)], none), ([(9, none), (45, some 10)], some (45, false)), ([(46, some 11), (45, some 10)], some (45, false)), ([(0, none), (47, some 12)], some (47, true)), ([(1, none), (47, some 12)], some (47, true)), ([(48, some 13), (49, some 14), (47, some 12)], some (47, true)), ([(50, some 15), (47, some 12)], some (47, true)), ([(1, none), (47, some 12)], some (47, true)), ([(0, none), (47, some 12)], some (47, true)), ([(53, some 18), (47, some 12)], some (47, true)), ([(8, none), (47, some 12)], some (47, true)), ([(7, none), (47, some 12)], some (47, true)), ([(51, some 16), (52, some 17), (54, some 19), (55, some 20), (56, some 21), (47, some 12)], some (47, true)), ([(57, some 22), (47, some 12)], some (47, true)), ([(58, some 23), (47, some 12)], some (47, true)), ([(8, none), (59, some 24)], some (59, false)), ([(60, some 25), (59, some 24)], some (59, false)), ([(10, none), (59, some 24)], some (59, false)), ([(61, some 26), (62, some 27), (59, some 24)], some (59, false)), ([(59, some 24), (63, some 28), (47, some 12)], some (47, true)), ([(47, some 12), (64, some 29), (45, some 10)], some (45, false))] 104 rfl (by kernel_rfl) rfl (by kernel_rfl) (by kernel_rfl) rfl NewT.trans (NewT.drew _) (Nat.le_of_ble_eq_true rfl) ⟨?_, ?_, ?_, ?_, ?_, ?_, ?_, ?_, ?_, ?_, ?_, ?_, ?_, ?_, ?_, ?_, ?_, ?_, ?_, ?_, ?_, ?_, ?_, ?_, ?_, ?_, ?_, ?_, ?_, ?_, ?_, trivial⟩ ?_
            · intro a wx hT hF K hK
              obtain ⟨f9, _⟩ := hF
              have f9 : a.tmps.getD 9 undef = .bool false := f9
              refine rely_wp rfl ?_
              exact opr_move (.inl rfl) (hK _ _ (NewT.refl _) f9)
            · intro a wx hT hF K hK
              obtain ⟨f1, _⟩ := hF
              have f1 : a.tmps.getD 1 undef = .int .i64 (i0) := f1
              refine rely_wp rfl ?_
              exact opr_move (.inl rfl) (hK _ _ (NewT.refl _) f1)
            · intro a wx hT hF K hK
              obtain ⟨f36, _⟩ := hF
              have f36 : a.tmps.getD 36 undef = .int .i64 (i0) := f36
              refine rely_wp rfl ?_
              exact opr_cmp (b := bi) (.inr (.inr (.inr (.inr (.inr (⟨rfl, (by exact HBI.out)⟩)))))) Tryd.underlying3 rfl f36 rfl (hK _ _ (NewT.refl _) rfl)
            · intro a wx hT hF K hK
              obtain ⟨f37, _⟩ := hF
              have f37 : a.tmps.getD 37 undef = .bool (bi) := f37
              refine rely_wp rfl ?_
              exact opr_move (.inl rfl) (hK _ _ (NewT.refl _) f37)
            · intro a wx hT hF K hK
              obtain ⟨f1, f38, _⟩ := hF
              have f1 : a.tmps.getD 1 undef = .int .i64 (i0) := f1
              have f38 : a.tmps.getD 38 undef = .bool (bi) := f38
              refine rely_if (rely_gt f38) (NewT.refl _) hK (fun hE hK => ?_)
              exact opr_move (.inl rfl) (hK _ _ (NewT.refl _) f1)
            · intro a wx hT hF K hK
              obtain ⟨f0, f38, _⟩ := hF
              have f0 : a.tmps.getD 0 undef = v := f0
              have f38 : a.tmps.getD 38 undef = .bool (bi) := f38
              refine rely_if (rely_gt f38) (NewT.refl _) hK (fun hE hK => ?_)
              exact opr_move (.inl rfl) (hK _ _ (NewT.refl _) f0)
            · intro a wx hT hF K hK
              obtain ⟨f40, f38, _⟩ := hF
              have f40 : bi = true → a.tmps.getD 40 undef = v := f40
              have f38 : a.tmps.getD 38 undef = .bool (bi) := f38
              refine rely_if (rely_gt f38) (NewT.refl _) hK (fun hE hK => ?_)
              exact opr_len_h rfl (by rw [eval_tmp, (f40 hE)]; exact (hT.hs HL.out)) (hK _ _ (NewT.refl _) rfl)
            · intro a wx hT hF K hK
              obtain ⟨f39, f41, f38, _⟩ := hF
              have f39 : bi = true → a.tmps.getD 39 undef = .int .i64 (i0) := f39
              have f41 : bi = true → a.tmps.getD 41 undef = .int .i64 ((List.length (l) : Int)) := f41
              have f38 : a.tmps.getD 38 undef = .bool (bi) := f38
              refine rely_if (rely_gt f38) (NewT.refl _) hK (fun hE hK => ?_)
              exact opr_cmp (b := decide (i0 < ((List.length (l) : Int)))) (.inr (.inr (.inr (.inl ⟨rfl, rfl⟩)))) Tryd.underlying3 rfl (f39 hE) (f41 hE) (hK _ _ (NewT.refl _) rfl)
            · intro a wx hT hF K hK
              obtain ⟨f38, f42, _⟩ := hF
              have f38 : a.tmps.getD 38 undef = .bool (bi) := f38
              have f42 : bi = true → a.tmps.getD 42 undef = .bool (decide (i0 < ((List.length (l) : Int)))) := f42
              refine rely_wp rfl ?_
              exact opr_pick_b rfl f38 (fun hb => hK _ _ (NewT.refl _) (by rw [eval_tmp]; exact (f42 hb).trans (by rw [HI2.out hb]))) (fun hb => hK _ _ (NewT.refl _) rfl)
            · intro a wx hT hF K hK
              obtain ⟨f35, f43, _⟩ := hF
              have f35 : a.tmps.getD 35 undef = .bool false := f35
              have f43 : a.tmps.getD 43 undef = .bool false := f43
              refine rely_wp rfl ?_
              exact opr_neqQ (b := false) (rfl) rfl f35 f43 (hK _ _ (NewT.refl _) rfl)
            · intro a wx hT hF K hK
              obtain ⟨f44, _⟩ := hF
              have f44 : a.tmps.getD 44 undef = .bool false := f44
              refine rely_wp rfl ?_
              exact opr_move (.inl rfl) (hK _ _ (NewT.refl _) f44)
            · intro a wx hT hF K hK
              obtain ⟨f9, f45, _⟩ := hF
              have f9 : a.tmps.getD 9 undef = .bool false := f9
              have f45 : a.tmps.getD 45 undef = .bool false := f45
              refine rely_wp (rely_guard f45) ?_
              exact opr_move (.inl rfl) (hK _ _ (NewT.refl _) f9)
            · intro a wx hT hF K hK
              obtain ⟨f46, f45, _⟩ := hF
              have f46 : a.tmps.getD 46 undef = .bool false := f46
              have f45 : a.tmps.getD 45 undef = .bool false := f45
              refine rely_wp (rely_guard f45) ?_
              exact opr_move (.inl rfl) (hK _ _ (NewT.refl _) f46)
            · intro a wx hT hF K hK
              obtain ⟨f0, f47, _⟩ := hF
              have f0 : a.tmps.getD 0 undef = v := f0
              have f47 : a.tmps.getD 47 undef = .bool false := f47
              exact rely_skip (rely_guard_no f47 (by decide)) (hK _ _ (NewT.refl _) rfl)
            · intro a wx hT hF K hK
              obtain ⟨f1, f47, _⟩ := hF
              have f1 : a.tmps.getD 1 undef = .int .i64 (i0) := f1
              have f47 : a.tmps.getD 47 undef = .bool false := f47
              exact rely_skip (rely_guard_no f47 (by decide)) (hK _ _ (NewT.refl _) rfl)
            · intro a wx hT hF K hK
              obtain ⟨f48, f49, f47, _⟩ := hF
              have f48 : a.tmps.getD 48 undef = undef := f48
              have f49 : a.tmps.getD 49 undef = undef := f49
              have f47 : a.tmps.getD 47 undef = .bool false := f47
              exact rely_skip (rely_guard_no f47 (by decide)) (hK _ _ (NewT.refl _) rfl)
            · intro a wx hT hF K hK
              obtain ⟨f50, f47, _⟩ := hF
              have f50 : a.tmps.getD 50 undef = undef := f50
              have f47 : a.tmps.getD 47 undef = .bool false := f47
              exact rely_skip (rely_guard_no f47 (by decide)) (hK _ _ (NewT.refl _) rfl)
            · intro a wx hT hF K hK
              obtain ⟨f1, f47, _⟩ := hF
              have f1 : a.tmps.getD 1 undef = .int .i64 (i0) := f1
              have f47 : a.tmps.getD 47 undef = .bool false := f47
              exact rely_skip (rely_guard_no f47 (by decide)) (hK _ _ (NewT.refl _) rfl)
            · intro a wx hT hF K hK
              obtain ⟨f0, f47, _⟩ := hF
              have f0 : a.tmps.getD 0 undef = v := f0
              have f47 : a.tmps.getD 47 undef = .bool false := f47
              exact rely_skip (rely_guard_no f47 (by decide)) (hK _ _ (NewT.refl _) rfl)
            · intro a wx hT hF K hK
              obtain ⟨f53, f47, _⟩ := hF
              have f53 : a.tmps.getD 53 undef = undef := f53
              have f47 : a.tmps.getD 47 undef = .bool false := f47
              exact rely_skip (rely_guard_no f47 (by decide)) (hK _ _ (NewT.refl _) rfl)
            · intro a wx hT hF K hK
              obtain ⟨f8, f47, _⟩ := hF
              have f8 : a.tmps.getD 8 undef = u8 := f8
              have f47 : a.tmps.getD 47 undef = .bool false := f47
              exact rely_skip (rely_guard_no f47 (by decide)) (hK _ _ (NewT.refl _) rfl)
            · intro a wx hT hF K hK
              obtain ⟨f7, f47, _⟩ := hF
              have f7 : a.tmps.getD 7 undef = .pointer (some ⟨p7, 0, none⟩) := f7
              have f47 : a.tmps.getD 47 undef = .bool false := f47
              exact rely_skip (rely_guard_no f47 (by decide)) (hK _ _ (NewT.refl _) rfl)
            · intro a wx hT hF K hK
              obtain ⟨f51, f52, f54, f55, f56, f47, _⟩ := hF
              have f51 : a.tmps.getD 51 undef = undef := f51
              have f52 : a.tmps.getD 52 undef = undef := f52
              have f54 : a.tmps.getD 54 undef = undef := f54
              have f55 : a.tmps.getD 55 undef = undef := f55
              have f56 : a.tmps.getD 56 undef = undef := f56
              have f47 : a.tmps.getD 47 undef = .bool false := f47
              exact rely_skip (rely_guard_no f47 (by decide)) (hK _ _ (NewT.refl _) rfl)
            · intro a wx hT hF K hK
              obtain ⟨f57, f47, _⟩ := hF
              have f57 : a.tmps.getD 57 undef = undef := f57
              have f47 : a.tmps.getD 47 undef = .bool false := f47
              exact rely_skip (rely_guard_no f47 (by decide)) (hK _ _ (NewT.refl _) rfl)
            · intro a wx hT hF K hK
              obtain ⟨f58, f47, _⟩ := hF
              have f58 : a.tmps.getD 58 undef = undef := f58
              have f47 : a.tmps.getD 47 undef = .bool false := f47
              exact rely_skip (rely_guard_no f47 (by decide)) (hK _ _ (NewT.refl _) rfl)
            · intro a wx hT hF K hK
              obtain ⟨f8, f59, _⟩ := hF
              have f8 : a.tmps.getD 8 undef = u8 := f8
              have f59 : a.tmps.getD 59 undef = undef := f59
              exact rely_skip (rely_guard_undef f59) (hK _ _ (NewT.refl _) rfl)
            · intro a wx hT hF K hK
              obtain ⟨f60, f59, _⟩ := hF
              have f60 : a.tmps.getD 60 undef = undef := f60
              have f59 : a.tmps.getD 59 undef = undef := f59
              exact rely_skip (rely_guard_undef f59) (hK _ _ (NewT.refl _) rfl)
            · intro a wx hT hF K hK
              obtain ⟨f10, f59, _⟩ := hF
              have f10 : a.tmps.getD 10 undef = .int .i64 ((D : Int)) := f10
              have f59 : a.tmps.getD 59 undef = undef := f59
              exact rely_skip (rely_guard_undef f59) (hK _ _ (NewT.refl _) rfl)
            · intro a wx hT hF K hK
              obtain ⟨f61, f62, f59, _⟩ := hF
              have f61 : a.tmps.getD 61 undef = undef := f61
              have f62 : a.tmps.getD 62 undef = undef := f62
              have f59 : a.tmps.getD 59 undef = undef := f59
              exact rely_skip (rely_guard_undef f59) (hK _ _ (NewT.refl _) rfl)
            · intro a wx hT hF K hK
              obtain ⟨f59, f63, f47, _⟩ := hF
              have f59 : a.tmps.getD 59 undef = undef := f59
              have f63 : a.tmps.getD 63 undef = undef := f63
              have f47 : a.tmps.getD 47 undef = .bool false := f47
              exact rely_skip (rely_guard_no f47 (by decide)) (hK _ _ (NewT.refl _) rfl)
            · intro a wx hT hF K hK
              obtain ⟨f47, f64, f45, _⟩ := hF
              have f47 : a.tmps.getD 47 undef = .bool false := f47
              have f64 : a.tmps.getD 64 undef = undef := f64
              have f45 : a.tmps.getD 45 undef = .bool false := f45
              refine rely_wp (rely_guard f45) ?_
              exact opr_pick_false rfl f47 (hK _ _ (NewT.refl _) rfl)
            · intro w5 k5
              intro u h; obtain rfl := Eq.symm (h (by simp)); clear h
              intro u h; obtain rfl := Eq.symm (h (by simp)); clear h
              intro u h; obtain rfl := Eq.symm (h (by simp)); clear h
              intro u h; obtain rfl := Eq.symm (h (by simp)); clear h
              intro _ _
              intro _ _
              intro _ _
              intro _ _
              intro u h; obtain rfl := Eq.symm (h (by simp)); clear h
              intro u h; obtain rfl := Eq.symm (h (by simp)); clear h
              intro u h; obtain rfl := Eq.symm (h (by simp)); clear h
              intro u h; obtain rfl := Eq.symm (h (by simp)); clear h
              intro u h; obtain rfl := Eq.symm (h (by simp)); clear h
              intro u h; obtain rfl := Eq.symm (h (by simp)); clear h
              intro u h; obtain rfl := Eq.symm (h (by simp)); clear h
              intro u h; obtain rfl := Eq.symm (h (by simp)); clear h
              intro u h; obtain rfl := Eq.symm (h (by simp)); clear h
              intro u h; obtain rfl := Eq.symm (h (by simp)); clear h
              intro u h; obtain rfl := Eq.symm (h (by simp)); clear h
              intro u h; obtain rfl := Eq.symm (h (by simp)); clear h
              intro u h; obtain rfl := Eq.symm (h (by simp)); clear h
              intro u h; obtain rfl := Eq.symm (h (by simp)); clear h
              intro u h; obtain rfl := Eq.symm (h (by simp)); clear h
              intro u h; obtain rfl := Eq.symm (h (by simp)); clear h
              intro u h; obtain rfl := Eq.symm (h (by simp)); clear h
              intro u h; obtain rfl := Eq.symm (h (by simp)); clear h
              intro u h; obtain rfl := Eq.symm (h (by simp)); clear h
              intro u h; obtain rfl := Eq.symm (h (by simp)); clear h
              intro u h; obtain rfl := Eq.symm (h (by simp)); clear h
              intro u h; obtain rfl := Eq.symm (h (by simp)); clear h
              intro u h; obtain rfl := Eq.symm (h (by simp)); clear h
              refine relyEnd_nil rfl ?_
              simp only [Act.put, List.setIfInBounds_toArray, List.set_cons_zero, List.set_cons_succ]
              refine opr_pick_false rfl rfl ?_
              go_simp
              replace R7 := Lib.hid (k5.row R7.out)
              replace HL := Lib.hid (k5.hs HL.out)
              replace HT := Lib.hid (k5.tables HT.out)
              replace HN := Lib.hid (NewT.trans _ _ _ HN.out k5)
              clear k5
              clear ev
              by_cases hm : 1 ≤ m0 ∧ m0 ≤ (l.length : Int)
              · skip
                obtain ⟨m, rfl⟩ : ∃ k : Nat, m0 = (k : Int) := ⟨m0.toNat, by omega⟩
                have HM1 : Hid (1 ≤ m) := Lib.hid (by omega)
                have HML : Hid (m ≤ l.length) := Lib.hid (by omega)
                have HSD : Hid ((subM node z m l true).length ≤ D + 1) := Lib.hid (by rw [subM_length (node := node) (z := z) _ m l true (Nat.le_refl _)]; have := leftsS_le D m l.length (by have := HDD.out; omega); split <;> omega)
                go_upto_region 14 with fail
                refine wp_region_steps0 NewT [SV.eq (v), SV.eq (.int .i64 ((m : Int))), svPq (subM node z m l true) true, svPq (subM node z m l true) true, svH (subM node z m l true), SV.eq (.bool true), svH (subM node z m l true), SV.eq (.bool true)] [([(0, none)], none), ([(2, none)], none), ([(68, some 0), (69, some 1)], none), ([(70, some 2)], none), ([(67, some 3)], none), ([(67, some 3)], none), ([(71, some 4)], none), ([(72, some 5)], none)] 104 8 rfl rfl (by kernel_rfl) NewT.trans (NewT.refl _) (Nat.le_of_ble_eq_true rfl) ⟨?_, ?_, ?_, ?_, ?_, ?_, ?_, ?_, trivial⟩ ?_
                · intro a wx hT hF K hK
                  obtain ⟨f0, _⟩ := hF
                  have f0 : a.tmps.getD 0 undef = v := f0
                  refine rely_wp rfl ?_
                  exact opr_move (.inl rfl) (hK _ _ (NewT.refl _) f0)
                · intro a wx hT hF K hK
                  obtain ⟨f2, _⟩ := hF
                  have f2 : a.tmps.getD 2 undef = .int .i64 ((m : Int)) := f2
                  refine rely_wp rfl ?_
                  exact opr_move (.inl rfl) (hK _ _ (NewT.refl _) f2)
                · intro a wx hT hF K hK
                  obtain ⟨f68, f69, _⟩ := hF
                  have f68 : a.tmps.getD 68 undef = v := f68
                  have f69 : a.tmps.getD 69 undef = .int .i64 ((m : Int)) := f69
                  refine rely_wp rfl ?_
                  exact opr_cv (Prove_good hX _ l m wx (hT.tables HT.out) (hT.hs HL.out) HM1.out HML.out (by have := HLEN.out; omega)) rfl Tryd.func13 (by kernel_rfl) (by kernel_rfl) (by simp only [List.map_toArray, List.map_cons, List.map_nil, eval_tmp, f68, f69]) hK
                · intro a wx hT hF K hK
                  obtain ⟨f70, _⟩ := hF
                  replace f70 := show (svPq (subM node z m l true) true).pred (a.tmps.getD 70 undef) wx from f70
                  refine rely_wp rfl ?_
                  exact opr_move (.inl rfl) (hK _ _ (NewT.refl _) f70)
                · intro a wx hT hF K hK
                  obtain ⟨f67, _⟩ := hF
                  replace f67 := show (svPq (subM node z m l true) true).pred (a.tmps.getD 67 undef) wx from f67
                  refine rely_wp rfl ?_
                  exact opr_extP0 rfl f67 (fun u hu => hK u _ (NewT.refl _) hu)
                · intro a wx hT hF K hK
                  obtain ⟨f67, _⟩ := hF
                  replace f67 := show (svPq (subM node z m l true) true).pred (a.tmps.getD 67 undef) wx from f67
                  refine rely_wp rfl ?_
                  exact opr_extP1 rfl f67 (hK _ _ (NewT.refl _) rfl)
                · intro a wx hT hF K hK
                  obtain ⟨f71, _⟩ := hF
                  replace f71 := show (svH (subM node z m l true)).pred (a.tmps.getD 71 undef) wx from f71
                  refine rely_wp rfl ?_
                  exact opr_move (.inr rfl) (hK _ _ (NewT.refl _) f71)
                · intro a wx hT hF K hK
                  obtain ⟨f72, _⟩ := hF
                  have f72 : a.tmps.getD 72 undef = .bool true := f72
                  refine rely_wp rfl ?_
                  exact opr_move (.inr rfl) (hK _ _ (NewT.refl _) f72)
                · intro w6 k6
                  intro u h; obtain rfl := Eq.symm (h (by simp)); clear h
                  intro u h; obtain rfl := Eq.symm (h (by simp)); clear h
                  intro _ _
                  intro _ _
                  intro _ _
                  intro u h; obtain rfl := Eq.symm (h (by simp)); clear h
                  intro u12 h; have g12 := h (by simp); clear h; replace g12 := show (svH (subM node z m l true)).pred u12 w6 from g12
                  intro u h; obtain rfl := Eq.symm (h (by simp)); clear h
                  refine relyEnd_nil rfl ?_
                  refine wpList_end rfl ?_
                  simp only [Act.put, List.setIfInBounds_toArray, List.set_cons_zero, List.set_cons_succ]
                  go_simp
                  have HU12 := Lib.hid (show RdH w6 u12 (subM node z m l true) from g12)
                  clear g12
                  replace R7 := Lib.hid (k6.row R7.out)
                  replace HL := Lib.hid (k6.hs HL.out)
                  replace HT := Lib.hid (k6.tables HT.out)
                  replace HN := Lib.hid (NewT.trans _ _ _ HN.out k6)
                  clear k6
                  go_upto_region 15 with fail
                  refine wp_region_steps0 NewT [SV.eq (.bool true), SV.eq (.int .i64 ((m : Int))), SV.eq (.bool true), SV.eq (.bool true), SV.eq (.int .i64 ((m : Int))), SV.eq (v), SV.eq (.int .i64 ((List.length (l) : Int))), SV.eq (.bool true), SV.eq (.bool true), SV.eq (.bool false)] [([(13, none)], none), ([(2, none)], none), ([(74, some 1)], none), ([(75, some 2)], none), ([(2, none), (76, some 3)], some (76, true)), ([(0, none), (76, some 3)], some (76, true)), ([(78, some 5), (76, some 3)], some (76, true)), ([(77, some 4), (79, some 6), (76, some 3)], some (76, true)), ([(76, some 3), (80, some 7)], none), ([(73, some 0), (81, some 8)], none)] 104 10 rfl rfl (by kernel_rfl) NewT.trans (NewT.refl _) (Nat.le_of_ble_eq_true rfl) ⟨?_, ?_, ?_, ?_, ?_, ?_, ?_, ?_, ?_, ?_, trivial⟩ ?_
                  · intro a wx hT hF K hK
                    obtain ⟨f13, _⟩ := hF
                    have f13 : a.tmps.getD 13 undef = .bool true := f13
                    refine rely_wp rfl ?_
                    exact opr_move (.inl rfl) (hK _ _ (NewT.refl _) f13)
                  · intro a wx hT hF K hK
                    obtain ⟨f2, _⟩ := hF
                    have f2 : a.tmps.getD 2 undef = .int .i64 ((m : Int)) := f2
                    refine rely_wp rfl ?_
                    exact opr_move (.inl rfl) (hK _ _ (NewT.refl _) f2)
                  · intro a wx hT hF K hK
                    obtain ⟨f74, _⟩ := hF
                    have f74 : a.tmps.getD 74 undef = .int .i64 ((m : Int)) := f74
                    refine rely_wp rfl ?_
                    exact opr_cmp (b := true) (.inr (.inr (.inr (.inr (.inr (⟨rfl, (by exact decide_eq_true (by have := HM1.out; omega))⟩)))))) Tryd.underlying3 rfl f74 rfl (hK _ _ (NewT.refl _) rfl)
                  · intro a wx hT hF K hK
                    obtain ⟨f75, _⟩ := hF
                    have f75 : a.tmps.getD 75 undef = .bool true := f75
                    refine rely_wp rfl ?_
                    exact opr_move (.inl rfl) (hK _ _ (NewT.refl _) f75)
                  · intro a wx hT hF K hK
                    obtain ⟨f2, f76, _⟩ := hF
                    have f2 : a.tmps.getD 2 undef = .int .i64 ((m : Int)) := f2
                    have f76 : a.tmps.getD 76 undef = .bool true := f76
                    refine rely_wp (rely_guard f76) ?_
                    exact opr_move (.inl rfl) (hK _ _ (NewT.refl _) f2)
                  · intro a wx hT hF K hK
                    obtain ⟨f0, f76, _⟩ := hF
                    have f0 : a.tmps.getD 0 undef = v := f0
                    have f76 : a.tmps.getD 76 undef = .bool true := f76
                    refine rely_wp (rely_guard f76) ?_
                    exact opr_move (.inl rfl) (hK _ _ (NewT.refl _) f0)
                  · intro a wx hT hF K hK
                    obtain ⟨f78, f76, _⟩ := hF
                    have f78 : a.tmps.getD 78 undef = v := f78
                    have f76 : a.tmps.getD 76 undef = .bool true := f76
                    refine rely_wp (rely_guard f76) ?_
                    exact opr_len_h rfl (by rw [eval_tmp, f78]; exact (hT.hs HL.out)) (hK _ _ (NewT.refl _) rfl)
                  · intro a wx hT hF K hK
                    obtain ⟨f77, f79, f76, _⟩ := hF
                    have f77 : a.tmps.getD 77 undef = .int .i64 ((m : Int)) := f77
                    have f79 : a.tmps.getD 79 undef = .int .i64 ((List.length (l) : Int)) := f79
                    have f76 : a.tmps.getD 76 undef = .bool true := f76
                    refine rely_wp (rely_guard f76) ?_
                    exact opr_cmp (b := true) (.inr (.inr (.inl ⟨rfl, (by exact decide_eq_true (by have := HML.out; omega))⟩))) Tryd.underlying3 rfl f77 f79 (hK _ _ (NewT.refl _) rfl)
                  · intro a wx hT hF K hK
                    obtain ⟨f76, f80, _⟩ := hF
                    have f76 : a.tmps.getD 76 undef = .bool true := f76
                    have f80 : a.tmps.getD 80 undef = .bool true := f80
                    refine rely_wp rfl ?_
                    exact opr_pick_true rfl f76 (hK _ _ (NewT.refl _) f80)
                  · intro a wx hT hF K hK
                    obtain ⟨f73, f81, _⟩ := hF
                    have f73 : a.tmps.getD 73 undef = .bool true := f73
                    have f81 : a.tmps.getD 81 undef = .bool true := f81
                    refine rely_wp rfl ?_
                    exact opr_neqQ (b := false) (rfl) rfl f73 f81 (hK _ _ (NewT.refl _) rfl)
                  · intro w7 k7
                    intro u h; obtain rfl := Eq.symm (h (by simp)); clear h
                    intro u h; obtain rfl := Eq.symm (h (by simp)); clear h
                    intro u h; obtain rfl := Eq.symm (h (by simp)); clear h
                    intro u h; obtain rfl := Eq.symm (h (by simp)); clear h
                    intro u h; obtain rfl := Eq.symm (h (by simp)); clear h
                    intro u h; obtain rfl := Eq.symm (h (by simp)); clear h
                    intro u h; obtain rfl := Eq.symm (h (by simp)); clear h
                    intro u h; obtain rfl := Eq.symm (h (by simp)); clear h
                    intro u h; obtain rfl := Eq.symm (h (by simp)); clear h
                    intro u h; obtain rfl := Eq.symm (h (by simp)); clear h
                    refine relyEnd_nil rfl ?_
                    refine wpList_end rfl ?_
                    simp only [Act.put, List.setIfInBounds_toArray, List.set_cons_zero, List.set_cons_succ]
                    go_simp
                    replace R7 := Lib.hid (k7.row R7.out)
                    replace HL := Lib.hid (k7.hs HL.out)
                    replace HU12 := Lib.hid (k7.hs HU12.out)
                    replace HT := Lib.hid (k7.tables HT.out)
                    replace HN := Lib.hid (NewT.trans _ _ _ HN.out k7)
                    clear k7
                    go_upto_region 17 with fail
                    refine wp_region_rely (NewT) [SV.eq (.bool true), SV.eq (.bool false), SV.eq (.bool false), SV.eq (.int .i64 ((m : Int))), SV.eq (v), SV.eq (.int .i64 ((List.length (l) : Int))), SV.eq (v), SV.eq (.int .i64 ((m : Int))), svH (List.take m l), SV.eq (.agg (rowA 32 (bF (rootM node z (List.take m l))))), SV.eq (.agg (rowA 32 (bF (rootM node z l)))), SV.eq (u12), SV.eq (.bool true), SV.eq (.bool true), SV.eq (u12), SV.eq (.int .i64 ((List.length (subM node z m l true) : Int))), SV.eq (.int .i64 ((D : Int))), SV.eq (.int .i64 (((D : Int) + 1))), SV.eq (.bool true), SV.eq (.bool true), SV.eq (.bool true)] [([(13, none)], none), ([(83, some 0)], none), ([(84, some 1)], none), ([(2, none), (85, some 2)], some (85, false)), ([(0, none), (85, some 2)], some (85, false)), ([(87, some 4), (85, some 2)], some (85, false)), ([(0, none), (85, some 2)], some (85, false)), ([(2, none), (85, some 2)], some (85, false)), ([(89, some 6), (90, some 7), (85, some 2)], some (85, false)), ([(91, some 8), (85, some 2)], some (85, false)), ([(7, none), (85, some 2)], some (85, false)), ([(12, none), (85, some 2)], some (85, false)), ([(86, some 3), (88, some 5), (92, some 9), (93, some 10), (94, some 11), (85, some 2)], some (85, false)), ([(95, some 12), (85, some 2)], some (85, false)), ([(12, none), (96, some 13)], some (96, true)), ([(97, some 14), (96, some 13)], some (96, true)), ([(10, none), (96, some 13)], some (96, true)), ([(99, some 16), (96, some 13)], some (96, true)), ([(98, some 15), (100, some 17), (96, some 13)], some (96, true)), ([(96, some 13), (101, some 18), (85, some 2)], some (85, false)), ([(85, some 2), (102, some 19)], none)] 104 rfl (by kernel_rfl) rfl (by kernel_rfl) (by kernel_rfl) rfl NewT.trans (NewT.drew _) (Nat.le_of_ble_eq_true rfl) ⟨?_, ?_, ?_, ?_, ?_, ?_, ?_, ?_, ?_, ?_, ?_, ?_, ?_, ?_, ?_, ?_, ?_, ?_, ?_, ?_, ?_, trivial⟩ ?_
                    · intro a wx hT hF K hK
                      obtain ⟨f13, _⟩ := hF
                      have f13 : a.tmps.getD 13 undef = .bool true := f13
                      refine rely_wp rfl ?_
                      exact opr_move (.inl rfl) (hK _ _ (NewT.refl _) f13)
                    · intro a wx hT hF K hK
                      obtain ⟨f83, _⟩ := hF
                      have f83 : a.tmps.getD 83 undef = .bool true := f83
                      refine rely_wp rfl ?_
                      exact opr_not rfl f83 (hK _ _ (NewT.refl _) rfl)
                    · intro a wx hT hF K hK
                      obtain ⟨f84, _⟩ := hF
                      have f84 : a.tmps.getD 84 undef = .bool false := f84
                      refine rely_wp rfl ?_
                      exact opr_move (.inl rfl) (hK _ _ (NewT.refl _) f84)
                    · intro a wx hT hF K hK
                      obtain ⟨f2, f85, _⟩ := hF
                      have f2 : a.tmps.getD 2 undef = .int .i64 ((m : Int)) := f2
                      have f85 : a.tmps.getD 85 undef = .bool false := f85
                      refine rely_wp (rely_guard f85) ?_
                      exact opr_move (.inl rfl) (hK _ _ (NewT.refl _) f2)
                    · intro a wx hT hF K hK
                      obtain ⟨f0, f85, _⟩ := hF
                      have f0 : a.tmps.getD 0 undef = v := f0
                      have f85 : a.tmps.getD 85 undef = .bool false := f85
                      refine rely_wp (rely_guard f85) ?_
                      exact opr_move (.inl rfl) (hK _ _ (NewT.refl _) f0)
                    · intro a wx hT hF K hK
                      obtain ⟨f87, f85, _⟩ := hF
                      have f87 : a.tmps.getD 87 undef = v := f87
                      have f85 : a.tmps.getD 85 undef = .bool false := f85
                      refine rely_wp (rely_guard f85) ?_
                      exact opr_len_h rfl (by rw [eval_tmp, f87]; exact (hT.hs HL.out)) (hK _ _ (NewT.refl _) rfl)
                    · intro a wx hT hF K hK
                      obtain ⟨f0, f85, _⟩ := hF
                      have f0 : a.tmps.getD 0 undef = v := f0
                      have f85 : a.tmps.getD 85 undef = .bool false := f85
                      refine rely_wp (rely_guard f85) ?_
                      exact opr_move (.inl rfl) (hK _ _ (NewT.refl _) f0)
                    · intro a wx hT hF K hK
                      obtain ⟨f2, f85, _⟩ := hF
                      have f2 : a.tmps.getD 2 undef = .int .i64 ((m : Int)) := f2
                      have f85 : a.tmps.getD 85 undef = .bool false := f85
                      refine rely_wp (rely_guard f85) ?_
                      exact opr_move (.inl rfl) (hK _ _ (NewT.refl _) f2)
                    · intro a wx hT hF K hK
                      obtain ⟨f89, f90, f85, _⟩ := hF
                      have f89 : a.tmps.getD 89 undef = v := f89
                      have f90 : a.tmps.getD 90 undef = .int .i64 ((m : Int)) := f90
                      have f85 : a.tmps.getD 85 undef = .bool false := f85
                      refine rely_wp (rely_guard f85) ?_
                      exact opr_toH (k := m) (HML.out) (rfl) rfl (by rw [eval_tmp, f89]; exact (hT.hs HL.out)) f90 (fun v hv => hK v _ (NewT.refl _) hv)
                    · intro a wx hT hF K hK
                      obtain ⟨f91, f85, _⟩ := hF
                      replace f91 := show (svH (List.take m l)).pred (a.tmps.getD 91 undef) wx from f91
                      have f85 : a.tmps.getD 85 undef = .bool false := f85
                      refine rely_wp (rely_guard f85) ?_
                      exact opr_cv (Root_cv hX _ _ (List.take m l) wx (hT.tables HT.out) (f91) (Nat.le_refl _) (by have := HLEN.out; simp; omega)) rfl Tryd.func24 (by kernel_rfl) (by kernel_rfl) (by simp only [List.map_toArray, List.map_cons, List.map_nil, eval_tmp]) hK
                    · intro a wx hT hF K hK
                      obtain ⟨f7, f85, _⟩ := hF
                      have f7 : a.tmps.getD 7 undef = .pointer (some ⟨p7, 0, none⟩) := f7
                      have f85 : a.tmps.getD 85 undef = .bool false := f85
                      refine rely_wp (rely_guard f85) ?_
                      exact opr_load_hash rfl f7 (hT.row R7.out) (hK _ _ (NewT.refl _) rfl)
                    · intro a wx hT hF K hK
                      obtain ⟨f12, f85, _⟩ := hF
                      have f12 : a.tmps.getD 12 undef = u12 := f12
                      have f85 : a.tmps.getD 85 undef = .bool false := f85
                      refine rely_wp (rely_guard f85) ?_
                      exact opr_move (.inl rfl) (hK _ _ (NewT.refl _) f12)
                    · intro a wx hT hF K hK
                      obtain ⟨f86, f88, f92, f93, f94, f85, _⟩ := hF
                      have f86 : a.tmps.getD 86 undef = .int .i64 ((m : Int)) := f86
                      have f88 : a.tmps.getD 88 undef = .int .i64 ((List.length (l) : Int)) := f88
                      have f92 : a.tmps.getD 92 undef = .agg (rowA 32 (bF (rootM node z (List.take m l)))) := f92
                      have f93 : a.tmps.getD 93 undef = .agg (rowA 32 (bF (rootM node z l))) := f93
                      have f94 : a.tmps.getD 94 undef = u12 := f94
                      have f85 : a.tmps.getD 85 undef = .bool false := f85
                      refine rely_wp (rely_guard f85) ?_
                      exact opr_cv (eqH_same (rootM node z l) ▸ Beg_list hX l m (rootM node z l) u12 wx (hT.tables HT.out) HM1.out HML.out (by have := HLEN.out; omega) (hT.hs HU12.out)) rfl Tryd.func22 (by kernel_rfl) (by kernel_rfl) (by simp only [List.map_toArray, List.map_cons, List.map_nil, eval_tmp, f86, f88, f92, f93, f94]) hK
                    · intro a wx hT hF K hK
                      obtain ⟨f95, f85, _⟩ := hF
                      have f95 : a.tmps.getD 95 undef = .bool true := f95
                      have f85 : a.tmps.getD 85 undef = .bool false := f85
                      refine rely_wp (rely_guard f85) ?_
                      exact opr_move (.inl rfl) (hK _ _ (NewT.refl _) f95)
                    · intro a wx hT hF K hK
                      obtain ⟨f12, f96, _⟩ := hF
                      have f12 : a.tmps.getD 12 undef = u12 := f12
                      have f96 : a.tmps.getD 96 undef = .bool true := f96
                      refine rely_wp (rely_guard f96) ?_
                      exact opr_move (.inl rfl) (hK _ _ (NewT.refl _) f12)
                    · intro a wx hT hF K hK
                      obtain ⟨f97, f96, _⟩ := hF
                      have f97 : a.tmps.getD 97 undef = u12 := f97
                      have f96 : a.tmps.getD 96 undef = .bool true := f96
                      refine rely_wp (rely_guard f96) ?_
                      exact opr_len_h rfl (by rw [eval_tmp, f97]; exact (hT.hs HU12.out)) (hK _ _ (NewT.refl _) rfl)
                    · intro a wx hT hF K hK
                      obtain ⟨f10, f96, _⟩ := hF
                      have f10 : a.tmps.getD 10 undef = .int .i64 ((D : Int)) := f10
                      have f96 : a.tmps.getD 96 undef = .bool true := f96
                      refine rely_wp (rely_guard f96) ?_
                      exact opr_move (.inl rfl) (hK _ _ (NewT.refl _) f10)
                    · intro a wx hT hF K hK
                      obtain ⟨f99, f96, _⟩ := hF
                      have f99 : a.tmps.getD 99 undef = .int .i64 ((D : Int)) := f99
                      have f96 : a.tmps.getD 96 undef = .bool true := f96
                      refine rely_wp (rely_guard f96) ?_
                      exact opr_add (r := ((D : Int) + 1)) Tryd.underlying3 (by unfold wrap64; have := HDL.out; omega) rfl f99 rfl (hK _ _ (NewT.refl _) rfl)
                    · intro a wx hT hF K hK
                      obtain ⟨f98, f100, f96, _⟩ := hF
                      have f98 : a.tmps.getD 98 undef = .int .i64 ((List.length (subM node z m l true) : Int)) := f98
                      have f100 : a.tmps.getD 100 undef = .int .i64 (((D : Int) + 1)) := f100
                      have f96 : a.tmps.getD 96 undef = .bool true := f96
                      refine rely_wp (rely_guard f96) ?_
                      exact opr_cmp (b := true) (.inr (.inr (.inl ⟨rfl, (by exact decide_eq_true (by have := HSD.out; omega))⟩))) Tryd.underlying3 rfl f98 f100 (hK _ _ (NewT.refl _) rfl)
                    · intro a wx hT hF K hK
                      obtain ⟨f96, f101, f85, _⟩ := hF
                      have f96 : a.tmps.getD 96 undef = .bool true := f96
                      have f101 : a.tmps.getD 101 undef = .bool true := f101
                      have f85 : a.tmps.getD 85 undef = .bool false := f85
                      refine rely_wp (rely_guard f85) ?_
                      exact opr_pick_true rfl f96 (hK _ _ (NewT.refl _) f101)
                    · intro a wx hT hF K hK
                      obtain ⟨f85, f102, _⟩ := hF
                      have f85 : a.tmps.getD 85 undef = .bool false := f85
                      have f102 : a.tmps.getD 102 undef = .bool true := f102
                      refine rely_wp rfl ?_
                      exact opr_pick_false rfl f85 (hK _ _ (NewT.refl _) f102)
                    · intro we ke
                      intro u h; obtain rfl := Eq.symm (h (by simp)); clear h
                      intro u h; obtain rfl := Eq.symm (h (by simp)); clear h
                      intro u h; obtain rfl := Eq.symm (h (by simp)); clear h
                      intro u h; obtain rfl := Eq.symm (h (by simp)); clear h
                      intro u h; obtain rfl := Eq.symm (h (by simp)); clear h
                      intro u h; obtain rfl := Eq.symm (h (by simp)); clear h
                      intro u h; obtain rfl := Eq.symm (h (by simp)); clear h
                      intro u h; obtain rfl := Eq.symm (h (by simp)); clear h
                      intro _ _
                      intro u h; obtain rfl := Eq.symm (h (by simp)); clear h
                      intro u h; obtain rfl := Eq.symm (h (by simp)); clear h
                      intro u h; obtain rfl := Eq.symm (h (by simp)); clear h
                      intro u h; obtain rfl := Eq.symm (h (by simp)); clear h
                      intro u h; obtain rfl := Eq.symm (h (by simp)); clear h
                      intro u h; obtain rfl := Eq.symm (h (by simp)); clear h
                      intro u h; obtain rfl := Eq.symm (h (by simp)); clear h
                      intro u h; obtain rfl := Eq.symm (h (by simp)); clear h
                      intro u h; obtain rfl := Eq.symm (h (by simp)); clear h
                      intro u h; obtain rfl := Eq.symm (h (by simp)); clear h
                      intro u h; obtain rfl := Eq.symm (h (by simp)); clear h
                      intro u h; obtain rfl := Eq.symm (h (by simp)); clear h
                      refine relyEnd_nil rfl ?_
                      simp only [Act.put, List.setIfInBounds_toArray, List.set_cons_zero, List.set_cons_succ]
                      refine opr_move (.inr rfl) ?_
                      go_simp
                      go_wp2
                      go_ret
                      exact ⟨rfl, (NewT.trans _ _ _ HN.out ke).out⟩
              · skip
                obtain ⟨bm, hbm⟩ : ∃ b, decide (1 ≤ m0) = b := ⟨_, rfl⟩
                have HBM := Lib.hid hbm
                have HM : Hid (m0 < 1 ∨ (l.length : Int) < m0) := Lib.hid (by omega)
                have HM2 : Hid (bm = true → decide (m0 ≤ (l.length : Int)) = false) := Lib.hid fun h => by rw [← hbm] at h; exact decide_eq_false (by have := of_decide_eq_true h; omega)
                clear hbm
                go_upto_region 14 with fail
                refine wp_region_steps0 NewT [SV.eq (v), SV.eq (.int .i64 (m0)), svPq (([] : List Hs)) false, svPq (([] : List Hs)) false, svH (([] : List Hs)), SV.eq (.bool false), svH (([] : List Hs)), SV.eq (.bool false)] [([(0, none)], none), ([(2, none)], none), ([(68, some 0), (69, some 1)], none), ([(70, some 2)], none), ([(67, some 3)], none), ([(67, some 3)], none), ([(71, some 4)], none), ([(72, some 5)], none)] 104 8 rfl rfl (by kernel_rfl) NewT.trans (NewT.refl _) (Nat.le_of_ble_eq_true rfl) ⟨?_, ?_, ?_, ?_, ?_, ?_, ?_, ?_, trivial⟩ ?_
                · intro a wx hT hF K hK
                  obtain ⟨f0, _⟩ := hF
                  have f0 : a.tmps.getD 0 undef = v := f0
                  refine rely_wp rfl ?_
                  exact opr_move (.inl rfl) (hK _ _ (NewT.refl _) f0)
                · intro a wx hT hF K hK
                  obtain ⟨f2, _⟩ := hF
                  have f2 : a.tmps.getD 2 undef = .int .i64 (m0) := f2
                  refine rely_wp rfl ?_
                  exact opr_move (.inl rfl) (hK _ _ (NewT.refl _) f2)
                · intro a wx hT hF K hK
                  obtain ⟨f68, f69, _⟩ := hF
                  have f68 : a.tmps.getD 68 undef = v := f68
                  have f69 : a.tmps.getD 69 undef = .int .i64 (m0) := f69
                  refine rely_wp rfl ?_
                  exact opr_cv (Prove_bad _ l m0 wx (hT.hs HL.out) HM.out) rfl Tryd.func13 (by kernel_rfl) (by kernel_rfl) (by simp only [List.map_toArray, List.map_cons, List.map_nil, eval_tmp, f68, f69]) hK
                · intro a wx hT hF K hK
                  obtain ⟨f70, _⟩ := hF
                  replace f70 := show (svPq (([] : List Hs)) false).pred (a.tmps.getD 70 undef) wx from f70
                  refine rely_wp rfl ?_
                  exact opr_move (.inl rfl) (hK _ _ (NewT.refl _) f70)
                · intro a wx hT hF K hK
                  obtain ⟨f67, _⟩ := hF
                  replace f67 := show (svPq (([] : List Hs)) false).pred (a.tmps.getD 67 undef) wx from f67
                  refine rely_wp rfl ?_
                  exact opr_extP0 rfl f67 (fun u hu => hK u _ (NewT.refl _) hu)
                · intro a wx hT hF K hK
                  obtain ⟨f67, _⟩ := hF
                  replace f67 := show (svPq (([] : List Hs)) false).pred (a.tmps.getD 67 undef) wx from f67
                  refine rely_wp rfl ?_
                  exact opr_extP1 rfl f67 (hK _ _ (NewT.refl _) rfl)
                · intro a wx hT hF K hK
                  obtain ⟨f71, _⟩ := hF
                  replace f71 := show (svH (([] : List Hs))).pred (a.tmps.getD 71 undef) wx from f71
                  refine rely_wp rfl ?_
                  exact opr_move (.inr rfl) (hK _ _ (NewT.refl _) f71)
                · intro a wx hT hF K hK
                  obtain ⟨f72, _⟩ := hF
                  have f72 : a.tmps.getD 72 undef = .bool false := f72
                  refine rely_wp rfl ?_
                  exact opr_move (.inr rfl) (hK _ _ (NewT.refl _) f72)
                · intro w6 k6
                  intro u h; obtain rfl := Eq.symm (h (by simp)); clear h
                  intro u h; obtain rfl := Eq.symm (h (by simp)); clear h
                  intro _ _
                  intro _ _
                  intro _ _
                  intro u h; obtain rfl := Eq.symm (h (by simp)); clear h
                  intro u12 h; have g12 := h (by simp); clear h; replace g12 := show (svH (([] : List Hs))).pred u12 w6 from g12
                  intro u h; obtain rfl := Eq.symm (h (by simp)); clear h
                  refine relyEnd_nil rfl ?_
                  refine wpList_end rfl ?_
                  simp only [Act.put, List.setIfInBounds_toArray, List.set_cons_zero, List.set_cons_succ]
                  go_simp
                  have HU12 := Lib.hid (show RdH w6 u12 ([] : List Hs) from g12)
                  clear g12
                  replace R7 := Lib.hid (k6.row R7.out)
                  replace HL := Lib.hid (k6.hs HL.out)
                  replace HT := Lib.hid (k6.tables HT.out)
                  replace HN := Lib.hid (NewT.trans _ _ _ HN.out k6)
                  clear k6
                  go_upto_region 15 with fail
                  refine wp_region_steps0 NewT [SV.eq (.bool false), SV.eq (.int .i64 (m0)), SV.eq (.bool (bm)), SV.eq (.bool (bm)), svIf bm (SV.eq (.int .i64 (m0))), svIf bm (SV.eq (v)), svIf bm (SV.eq (.int .i64 ((List.length (l) : Int)))), svIf bm (SV.eq (.bool (decide (m0 ≤ ((List.length (l) : Int)))))), SV.eq (.bool false), SV.eq (.bool false)] [([(13, none)], none), ([(2, none)], none), ([(74, some 1)], none), ([(75, some 2)], none), ([(2, none), (76, some 3)], some (76, true)), ([(0, none), (76, some 3)], some (76, true)), ([(78, some 5), (76, some 3)], some (76, true)), ([(77, some 4), (79, some 6), (76, some 3)], some (76, true)), ([(76, some 3), (80, some 7)], none), ([(73, some 0), (81, some 8)], none)] 104 10 rfl rfl (by kernel_rfl) NewT.trans (NewT.refl _) (Nat.le_of_ble_eq_true rfl) ⟨?_, ?_, ?_, ?_, ?_, ?_, ?_, ?_, ?_, ?_, trivial⟩ ?_
                  · intro a wx hT hF K hK
                    obtain ⟨f13, _⟩ := hF
                    have f13 : a.tmps.getD 13 undef = .bool false := f13
                    refine rely_wp rfl ?_
                    exact opr_move (.inl rfl) (hK _ _ (NewT.refl _) f13)
                  · intro a wx hT hF K hK
                    obtain ⟨f2, _⟩ := hF
                    have f2 : a.tmps.getD 2 undef = .int .i64 (m0) := f2
                    refine rely_wp rfl ?_
                    exact opr_move (.inl rfl) (hK _ _ (NewT.refl _) f2)
                  · intro a wx hT hF K hK
                    obtain ⟨f74, _⟩ := hF
                    have f74 : a.tmps.getD 74 undef = .int .i64 (m0) := f74
                    refine rely_wp rfl ?_
                    exact opr_cmp (b := bm) (.inr (.inr (.inr (.inr (.inr (⟨rfl, (by exact HBM.out)⟩)))))) Tryd.underlying3 rfl f74 rfl (hK _ _ (NewT.refl _) rfl)
                  · intro a wx hT hF K hK
                    obtain ⟨f75, _⟩ := hF
                    have f75 : a.tmps.getD 75 undef = .bool (bm) := f75
                    refine rely_wp rfl ?_
                    exact opr_move (.inl rfl) (hK _ _ (NewT.refl _) f75)
                  · intro a wx hT hF K hK
                    obtain ⟨f2, f76, _⟩ := hF
                    have f2 : a.tmps.getD 2 undef = .int .i64 (m0) := f2
                    have f76 : a.tmps.getD 76 undef = .bool (bm) := f76
                    refine rely_if (rely_gt f76) (NewT.refl _) hK (fun hE hK => ?_)
                    exact opr_move (.inl rfl) (hK _ _ (NewT.refl _) f2)
                  · intro a wx hT hF K hK
                    obtain ⟨f0, f76, _⟩ := hF
                    have f0 : a.tmps.getD 0 undef = v := f0
                    have f76 : a.tmps.getD 76 undef = .bool (bm) := f76
                    refine rely_if (rely_gt f76) (NewT.refl _) hK (fun hE hK => ?_)
                    exact opr_move (.inl rfl) (hK _ _ (NewT.refl _) f0)
                  · intro a wx hT hF K hK
                    obtain ⟨f78, f76, _⟩ := hF
                    have f78 : bm = true → a.tmps.getD 78 undef = v := f78
                    have f76 : a.tmps.getD 76 undef = .bool (bm) := f76
                    refine rely_if (rely_gt f76) (NewT.refl _) hK (fun hE hK => ?_)
                    exact opr_len_h rfl (by rw [eval_tmp, (f78 hE)]; exact (hT.hs HL.out)) (hK _ _ (NewT.refl _) rfl)
                  · intro a wx hT hF K hK
                    obtain ⟨f77, f79, f76, _⟩ := hF
                    have f77 : bm = true → a.tmps.getD 77 undef = .int .i64 (m0) := f77
                    have f79 : bm = true → a.tmps.getD 79 undef = .int .i64 ((List.length (l) : Int)) := f79
                    have f76 : a.tmps.getD 76 undef = .bool (bm) := f76
                    refine rely_if (rely_gt f76) (NewT.refl _) hK (fun hE hK => ?_)
                    exact opr_cmp (b := decide (m0 ≤ ((List.length (l) : Int)))) (.inr (.inr (.inl ⟨rfl, rfl⟩))) Tryd.underlying3 rfl (f77 hE) (f79 hE) (hK _ _ (NewT.refl _) rfl)
                  · intro a wx hT hF K hK
                    obtain ⟨f76, f80, _⟩ := hF
                    have f76 : a.tmps.getD 76 undef = .bool (bm) := f76
                    have f80 : bm = true → a.tmps.getD 80 undef = .bool (decide (m0 ≤ ((List.length (l) : Int)))) := f80
                    refine rely_wp rfl ?_
                    exact opr_pick_b rfl f76 (fun hb => hK _ _ (NewT.refl _) (by rw [eval_tmp]; exact (f80 hb).trans (by rw [HM2.out hb]))) (fun hb => hK _ _ (NewT.refl _) rfl)
                  · intro a wx hT hF K hK
                    obtain ⟨f73, f81, _⟩ := hF
                    have f73 : a.tmps.getD 73 undef = .bool false := f73
                    have f81 : a.tmps.getD 81 undef = .bool false := f81
                    refine rely_wp rfl ?_
                    exact opr_neqQ (b := false) (rfl) rfl f73 f81 (hK _ _ (NewT.refl _) rfl)
                  · intro w7 k7
                    intro u h; obtain rfl := Eq.symm (h (by simp)); clear h
                    intro u h; obtain rfl := Eq.symm (h (by simp)); clear h
                    intro u h; obtain rfl := Eq.symm (h (by simp)); clear h
                    intro u h; obtain rfl := Eq.symm (h (by simp)); clear h
                    intro _ _
                    intro _ _
                    intro _ _
                    intro _ _
                    intro u h; obtain rfl := Eq.symm (h (by simp)); clear h
                    intro u h; obtain rfl := Eq.symm (h (by simp)); clear h
                    refine relyEnd_nil rfl ?_
                    refine wpList_end rfl ?_
                    simp only [Act.put, List.setIfInBounds_toArray, List.set_cons_zero, List.set_cons_succ]
                    go_simp
                    replace R7 := Lib.hid (k7.row R7.out)
                    replace HL := Lib.hid (k7.hs HL.out)
                    replace HU12 := Lib.hid (k7.hs HU12.out)
                    replace HT := Lib.hid (k7.tables HT.out)
                    replace HN := Lib.hid (NewT.trans _ _ _ HN.out k7)
                    clear k7
                    go_upto_region 17 with fail
                    refine wp_region_rely (NewT) [SV.eq (.bool false), SV.eq (.bool true), SV.eq (.bool true), SV.eq (undef), SV.eq (undef), SV.eq (undef), SV.eq (undef), SV.eq (undef), SV.eq (undef), SV.eq (undef), SV.eq (undef), SV.eq (undef), SV.eq (undef), SV.eq (undef), SV.eq (undef), SV.eq (undef), SV.eq (undef), SV.eq (undef), SV.eq (undef), SV.eq (undef), SV.eq (.bool true)] [([(13, none)], none), ([(83, some 0)], none), ([(84, some 1)], none), ([(2, none), (85, some 2)], some (85, false)), ([(0, none), (85, some 2)], some (85, false)), ([(87, some 4), (85, some 2)], some (85, false)), ([(0, none), (85, some 2)], some (85, false)), ([(2, none), (85, some 2)], some (85, false)), ([(89, some 6), (90, some 7), (85, some 2)], some (85, false)), ([(91, some 8), (85, some 2)], some (85, false)), ([(7, none), (85, some 2)], some (85, false)), ([(12, none), (85, some 2)], some (85, false)), ([(86, some 3), (88, some 5), (92, some 9), (93, some 10), (94, some 11), (85, some 2)], some (85, false)), ([(95, some 12), (85, some 2)], some (85, false)), ([(12, none), (96, some 13)], some (96, true)), ([(97, some 14), (96, some 13)], some (96, true)), ([(10, none), (96, some 13)], some (96, true)), ([(99, some 16), (96, some 13)], some (96, true)), ([(98, some 15), (100, some 17), (96, some 13)], some (96, true)), ([(96, some 13), (101, some 18), (85, some 2)], some (85, false)), ([(85, some 2), (102, some 19)], none)] 104 rfl (by kernel_rfl) rfl (by kernel_rfl) (by kernel_rfl) rfl NewT.trans (NewT.drew _) (Nat.le_of_ble_eq_true rfl) ⟨?_, ?_, ?_, ?_, ?_, ?_, ?_, ?_, ?_, ?_, ?_, ?_, ?_, ?_, ?_, ?_, ?_, ?_, ?_, ?_, ?_, trivial⟩ ?_
                    · intro a wx hT hF K hK
                      obtain ⟨f13, _⟩ := hF
                      have f13 : a.tmps.getD 13 undef = .bool false := f13
                      refine rely_wp rfl ?_
                      exact opr_move (.inl rfl) (hK _ _ (NewT.refl _) f13)
                    · intro a wx hT hF K hK
                      obtain ⟨f83, _⟩ := hF
                      have f83 : a.tmps.getD 83 undef = .bool false := f83
                      refine rely_wp rfl ?_
                      exact opr_not rfl f83 (hK _ _ (NewT.refl _) rfl)
                    · intro a wx hT hF K hK
                      obtain ⟨f84, _⟩ := hF
                      have f84 : a.tmps.getD 84 undef = .bool true := f84
                      refine rely_wp rfl ?_
                      exact opr_move (.inl rfl) (hK _ _ (NewT.refl _) f84)
                    · intro a wx hT hF K hK
                      obtain ⟨f2, f85, _⟩ := hF
                      have f2 : a.tmps.getD 2 undef = .int .i64 (m0) := f2
                      have f85 : a.tmps.getD 85 undef = .bool true := f85
                      exact rely_skip (rely_guard_no f85 (by decide)) (hK _ _ (NewT.refl _) rfl)
                    · intro a wx hT hF K hK
                      obtain ⟨f0, f85, _⟩ := hF
                      have f0 : a.tmps.getD 0 undef = v := f0
                      have f85 : a.tmps.getD 85 undef = .bool true := f85
                      exact rely_skip (rely_guard_no f85 (by decide)) (hK _ _ (NewT.refl _) rfl)
                    · intro a wx hT hF K hK
                      obtain ⟨f87, f85, _⟩ := hF
                      have f87 : a.tmps.getD 87 undef = undef := f87
                      have f85 : a.tmps.getD 85 undef = .bool true := f85
                      exact rely_skip (rely_guard_no f85 (by decide)) (hK _ _ (NewT.refl _) rfl)
                    · intro a wx hT hF K hK
                      obtain ⟨f0, f85, _⟩ := hF
                      have f0 : a.tmps.getD 0 undef = v := f0
                      have f85 : a.tmps.getD 85 undef = .bool true := f85
                      exact rely_skip (rely_guard_no f85 (by decide)) (hK _ _ (NewT.refl _) rfl)
                    · intro a wx hT hF K hK
                      obtain ⟨f2, f85, _⟩ := hF
                      have f2 : a.tmps.getD 2 undef = .int .i64 (m0) := f2
                      have f85 : a.tmps.getD 85 undef = .bool true := f85
                      exact rely_skip (rely_guard_no f85 (by decide)) (hK _ _ (NewT.refl _) rfl)
                    · intro a wx hT hF K hK
                      obtain ⟨f89, f90, f85, _⟩ := hF
                      have f89 : a.tmps.getD 89 undef = undef := f89
                      have f90 : a.tmps.getD 90 undef = undef := f90
                      have f85 : a.tmps.getD 85 undef = .bool true := f85
                      exact rely_skip (rely_guard_no f85 (by decide)) (hK _ _ (NewT.refl _) rfl)
                    · intro a wx hT hF K hK
                      obtain ⟨f91, f85, _⟩ := hF
                      have f91 : a.tmps.getD 91 undef = undef := f91
                      have f85 : a.tmps.getD 85 undef = .bool true := f85
                      exact rely_skip (rely_guard_no f85 (by decide)) (hK _ _ (NewT.refl _) rfl)
                    · intro a wx hT hF K hK
                      obtain ⟨f7, f85, _⟩ := hF
                      have f7 : a.tmps.getD 7 undef = .pointer (some ⟨p7, 0, none⟩) := f7
                      have f85 : a.tmps.getD 85 undef = .bool true := f85
                      exact rely_skip (rely_guard_no f85 (by decide)) (hK _ _ (NewT.refl _) rfl)
                    · intro a wx hT hF K hK
                      obtain ⟨f12, f85, _⟩ := hF
                      have f12 : a.tmps.getD 12 undef = u12 := f12
                      have f85 : a.tmps.getD 85 undef = .bool true := f85
                      exact rely_skip (rely_guard_no f85 (by decide)) (hK _ _ (NewT.refl _) rfl)
                    · intro a wx hT hF K hK
                      obtain ⟨f86, f88, f92, f93, f94, f85, _⟩ := hF
                      have f86 : a.tmps.getD 86 undef = undef := f86
                      have f88 : a.tmps.getD 88 undef = undef := f88
                      have f92 : a.tmps.getD 92 undef = undef := f92
                      have f93 : a.tmps.getD 93 undef = undef := f93
                      have f94 : a.tmps.getD 94 undef = undef := f94
                      have f85 : a.tmps.getD 85 undef = .bool true := f85
                      exact rely_skip (rely_guard_no f85 (by decide)) (hK _ _ (NewT.refl _) rfl)
                    · intro a wx hT hF K hK
                      obtain ⟨f95, f85, _⟩ := hF
                      have f95 : a.tmps.getD 95 undef = undef := f95
                      have f85 : a.tmps.getD 85 undef = .bool true := f85
                      exact rely_skip (rely_guard_no f85 (by decide)) (hK _ _ (NewT.refl _) rfl)
                    · intro a wx hT hF K hK
                      obtain ⟨f12, f96, _⟩ := hF
                      have f12 : a.tmps.getD 12 undef = u12 := f12
                      have f96 : a.tmps.getD 96 undef = undef := f96
                      exact rely_skip (rely_guard_undef f96) (hK _ _ (NewT.refl _) rfl)
                    · intro a wx hT hF K hK
                      obtain ⟨f97, f96, _⟩ := hF
                      have f97 : a.tmps.getD 97 undef = undef := f97
                      have f96 : a.tmps.getD 96 undef = undef := f96
                      exact rely_skip (rely_guard_undef f96) (hK _ _ (NewT.refl _) rfl)
                    · intro a wx hT hF K hK
                      obtain ⟨f10, f96, _⟩ := hF
                      have f10 : a.tmps.getD 10 undef = .int .i64 ((D : Int)) := f10
                      have f96 : a.tmps.getD 96 undef = undef := f96
                      exact rely_skip (rely_guard_undef f96) (hK _ _ (NewT.refl _) rfl)
                    · intro a wx hT hF K hK
                      obtain ⟨f99, f96, _⟩ := hF
                      have f99 : a.tmps.getD 99 undef = undef := f99
                      have f96 : a.tmps.getD 96 undef = undef := f96
                      exact rely_skip (rely_guard_undef f96) (hK _ _ (NewT.refl _) rfl)
                    · intro a wx hT hF K hK
                      obtain ⟨f98, f100, f96, _⟩ := hF
                      have f98 : a.tmps.getD 98 undef = undef := f98
                      have f100 : a.tmps.getD 100 undef = undef := f100
                      have f96 : a.tmps.getD 96 undef = undef := f96
                      exact rely_skip (rely_guard_undef f96) (hK _ _ (NewT.refl _) rfl)
                    · intro a wx hT hF K hK
                      obtain ⟨f96, f101, f85, _⟩ := hF
                      have f96 : a.tmps.getD 96 undef = undef := f96
                      have f101 : a.tmps.getD 101 undef = undef := f101
                      have f85 : a.tmps.getD 85 undef = .bool true := f85
                      exact rely_skip (rely_guard_no f85 (by decide)) (hK _ _ (NewT.refl _) rfl)
                    · intro a wx hT hF K hK
                      obtain ⟨f85, f102, _⟩ := hF
                      have f85 : a.tmps.getD 85 undef = .bool true := f85
                      have f102 : a.tmps.getD 102 undef = undef := f102
                      refine rely_wp rfl ?_
                      exact opr_pick_true rfl f85 (hK _ _ (NewT.refl _) rfl)
                    · intro we ke
                      intro u h; obtain rfl := Eq.symm (h (by simp)); clear h
                      intro u h; obtain rfl := Eq.symm (h (by simp)); clear h
                      intro u h; obtain rfl := Eq.symm (h (by simp)); clear h
                      intro u h; obtain rfl := Eq.symm (h (by simp)); clear h
                      intro u h; obtain rfl := Eq.symm (h (by simp)); clear h
                      intro u h; obtain rfl := Eq.symm (h (by simp)); clear h
                      intro u h; obtain rfl := Eq.symm (h (by simp)); clear h
                      intro u h; obtain rfl := Eq.symm (h (by simp)); clear h
                      intro u h; obtain rfl := Eq.symm (h (by simp)); clear h
                      intro u h; obtain rfl := Eq.symm (h (by simp)); clear h
                      intro u h; obtain rfl := Eq.symm (h (by simp)); clear h
                      intro u h; obtain rfl := Eq.symm (h (by simp)); clear h
                      intro u h; obtain rfl := Eq.symm (h (by simp)); clear h
                      intro u h; obtain rfl := Eq.symm (h (by simp)); clear h
                      intro u h; obtain rfl := Eq.symm (h (by simp)); clear h
                      intro u h; obtain rfl := Eq.symm (h (by simp)); clear h
                      intro u h; obtain rfl := Eq.symm (h (by simp)); clear h
                      intro u h; obtain rfl := Eq.symm (h (by simp)); clear h
                      intro u h; obtain rfl := Eq.symm (h (by simp)); clear h
                      intro u h; obtain rfl := Eq.symm (h (by simp)); clear h
                      intro u h; obtain rfl := Eq.symm (h (by simp)); clear h
                      refine relyEnd_nil rfl ?_
                      simp only [Act.put, List.setIfInBounds_toArray, List.set_cons_zero, List.set_cons_succ]
                      refine opr_move (.inr rfl) ?_
                      go_simp
                      go_wp2
                      go_ret
                      exact ⟨rfl, (NewT.trans _ _ _ HN.out ke).out⟩
end Go.Proofs.YtoigjcadncecpaaDoor
