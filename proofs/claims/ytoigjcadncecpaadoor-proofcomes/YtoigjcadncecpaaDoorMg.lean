/- The document's answer for layer 6: what a proof comes to, walked. -/
import Derived.Test.YtoigjcadncecpaaDoorMf
import Derived.Test.YtoigjcadncecpaaDoorMd
import Derived.Test.YtoigjcadncecpaaDoorMe
import Derived.Test.YtoigjcadncecpaaDoorMb
import Derived.Carry
set_option linter.all false
namespace Go.Proofs.YtoigjcadncecpaaDoor
open Go Go.RowKit
set_option maxRecDepth 8000
set_option linter.all false
set_option maxHeartbeats 2000000 in
theorem RBoth_bad (old : Hs) (m n : Int) (v : Value) (w : World) (h : m < 1 ∨ n < m ∨ 1048576 < n) : Cv 19 #[.int .i64 m, .int .i64 n, .agg (rowA 32 (bF old)), v] w (svHHq (fun _ => 0) (fun _ => 0) false) := by
  unfold Cv
  by_cases h1 : m < 1
  · clear h
    go_enter Tryd.func19, Tryd.ntmps19
    go_upto_region 2 with fail
    have r8 := (rowIs_box (w.alloc (.cells (rowA 32 (bF old)) 29)) 29 32 (bF fun _ => 0)).alloc (.cells (rowA 32 (bF fun _ => 0)) 29)
    rw [World.size_alloc] at r8
    have r9 := rowIs_box ((w.alloc (.cells (rowA 32 (bF old)) 29)).alloc (.cells (rowA 32 (bF fun _ => 0)) 29)) 29 32 (bF fun _ => 0)
    rw [World.size_alloc, World.size_alloc] at r9
    have hN : NewT w (((w.alloc (.cells (rowA 32 (bF old)) 29)).alloc (.cells (rowA 32 (bF fun _ => 0)) 29)).alloc (.cells (rowA 32 (bF fun _ => 0)) 29)) := (NewT.trans _ _ _ (NewT.trans _ _ _ (NewT.alloc _ _) (NewT.alloc _ _)) (NewT.alloc _ _))
    change Code.wp _ _ _ _ (((w.alloc (.cells (rowA 32 (bF old)) 29)).alloc (.cells (rowA 32 (bF fun _ => 0)) 29)).alloc (.cells (rowA 32 (bF fun _ => 0)) 29))
    generalize (((w.alloc (.cells (rowA 32 (bF old)) 29)).alloc (.cells (rowA 32 (bF fun _ => 0)) 29)).alloc (.cells (rowA 32 (bF fun _ => 0)) 29)) = W0 at r8 r9 hN ⊢
    refine wp_region_lit ?_
    refine wpList_plain rfl (fun K hK => ?_)
    refine opr_build0 rfl (hK _ _ ?_)
    clear hK K
    refine wpList_plain rfl (fun K hK => ?_)
    refine opr_build0 rfl (hK _ _ ?_)
    clear hK K
    simp only [Act.put, List.setIfInBounds_toArray, List.set_cons_zero, List.set_cons_succ]
    refine wpList_plain rfl (fun K hK => ?_)
    refine opr_putm (F := bF (fun _ => 0)) rfl rfl rfl (r8) (by decide) info31 (fun _ => rfl) (fun i hi => by rw [if_pos (by omega), Nat.sub_zero]) ?_
    intro wz1 hz1 rz1
    refine hK _ _ ?_
    clear hK K
    refine wpList_plain rfl (fun K hK => ?_)
    refine opr_putm (F := bF (fun _ => 0)) rfl rfl rfl (hz1.row (by omega) r9) (by decide) info31 (fun _ => rfl) (fun i hi => by rw [if_pos (by omega), Nat.sub_zero]) ?_
    intro wz2 hz2 rz2
    refine hK _ _ ?_
    clear hK K
    refine wpList_plain rfl (fun K hK => ?_)
    refine opr_move (.inr rfl) (hK _ _ ?_)
    refine wpList_end rfl ?_
    simp only [Act.put, List.setIfInBounds_toArray, List.set_cons_zero, List.set_cons_succ]
    go_simp
    go_wp2
    refine bodyPost_ret (results_rrt rfl rfl rfl rfl (hz2.row (by omega) rz1) rz2 Tryd.underlying29 rfl info31) rfl ⟨_, rfl, NewT.rt (NewT.rt hN hz1 (by omega)) hz2 (by omega), ?_⟩
    rfl
  by_cases h2 : n < m
  · clear h
    go_enter Tryd.func19, Tryd.ntmps19
    go_upto_region 2 with fail
    have r8 := (rowIs_box (w.alloc (.cells (rowA 32 (bF old)) 29)) 29 32 (bF fun _ => 0)).alloc (.cells (rowA 32 (bF fun _ => 0)) 29)
    rw [World.size_alloc] at r8
    have r9 := rowIs_box ((w.alloc (.cells (rowA 32 (bF old)) 29)).alloc (.cells (rowA 32 (bF fun _ => 0)) 29)) 29 32 (bF fun _ => 0)
    rw [World.size_alloc, World.size_alloc] at r9
    have hN : NewT w (((w.alloc (.cells (rowA 32 (bF old)) 29)).alloc (.cells (rowA 32 (bF fun _ => 0)) 29)).alloc (.cells (rowA 32 (bF fun _ => 0)) 29)) := (NewT.trans _ _ _ (NewT.trans _ _ _ (NewT.alloc _ _) (NewT.alloc _ _)) (NewT.alloc _ _))
    change Code.wp _ _ _ _ (((w.alloc (.cells (rowA 32 (bF old)) 29)).alloc (.cells (rowA 32 (bF fun _ => 0)) 29)).alloc (.cells (rowA 32 (bF fun _ => 0)) 29))
    generalize (((w.alloc (.cells (rowA 32 (bF old)) 29)).alloc (.cells (rowA 32 (bF fun _ => 0)) 29)).alloc (.cells (rowA 32 (bF fun _ => 0)) 29)) = W0 at r8 r9 hN ⊢
    refine wp_region_lit ?_
    refine wpList_plain rfl (fun K hK => ?_)
    refine opr_build0 rfl (hK _ _ ?_)
    clear hK K
    refine wpList_plain rfl (fun K hK => ?_)
    refine opr_build0 rfl (hK _ _ ?_)
    clear hK K
    simp only [Act.put, List.setIfInBounds_toArray, List.set_cons_zero, List.set_cons_succ]
    refine wpList_plain rfl (fun K hK => ?_)
    refine opr_putm (F := bF (fun _ => 0)) rfl rfl rfl (r8) (by decide) info31 (fun _ => rfl) (fun i hi => by rw [if_pos (by omega), Nat.sub_zero]) ?_
    intro wz1 hz1 rz1
    refine hK _ _ ?_
    clear hK K
    refine wpList_plain rfl (fun K hK => ?_)
    refine opr_putm (F := bF (fun _ => 0)) rfl rfl rfl (hz1.row (by omega) r9) (by decide) info31 (fun _ => rfl) (fun i hi => by rw [if_pos (by omega), Nat.sub_zero]) ?_
    intro wz2 hz2 rz2
    refine hK _ _ ?_
    clear hK K
    refine wpList_plain rfl (fun K hK => ?_)
    refine opr_move (.inr rfl) (hK _ _ ?_)
    refine wpList_end rfl ?_
    simp only [Act.put, List.setIfInBounds_toArray, List.set_cons_zero, List.set_cons_succ]
    go_simp
    go_wp2
    refine bodyPost_ret (results_rrt rfl rfl rfl rfl (hz2.row (by omega) rz1) rz2 Tryd.underlying29 rfl info31) rfl ⟨_, rfl, NewT.rt (NewT.rt hN hz1 (by omega)) hz2 (by omega), ?_⟩
    rfl
  · have h3 : 1048576 < n := by omega
    clear h
    go_enter Tryd.func19, Tryd.ntmps19
    go_upto_region 2 with fail
    have r8 := (rowIs_box (w.alloc (.cells (rowA 32 (bF old)) 29)) 29 32 (bF fun _ => 0)).alloc (.cells (rowA 32 (bF fun _ => 0)) 29)
    rw [World.size_alloc] at r8
    have r9 := rowIs_box ((w.alloc (.cells (rowA 32 (bF old)) 29)).alloc (.cells (rowA 32 (bF fun _ => 0)) 29)) 29 32 (bF fun _ => 0)
    rw [World.size_alloc, World.size_alloc] at r9
    have hN : NewT w (((w.alloc (.cells (rowA 32 (bF old)) 29)).alloc (.cells (rowA 32 (bF fun _ => 0)) 29)).alloc (.cells (rowA 32 (bF fun _ => 0)) 29)) := (NewT.trans _ _ _ (NewT.trans _ _ _ (NewT.alloc _ _) (NewT.alloc _ _)) (NewT.alloc _ _))
    change Code.wp _ _ _ _ (((w.alloc (.cells (rowA 32 (bF old)) 29)).alloc (.cells (rowA 32 (bF fun _ => 0)) 29)).alloc (.cells (rowA 32 (bF fun _ => 0)) 29))
    generalize (((w.alloc (.cells (rowA 32 (bF old)) 29)).alloc (.cells (rowA 32 (bF fun _ => 0)) 29)).alloc (.cells (rowA 32 (bF fun _ => 0)) 29)) = W0 at r8 r9 hN ⊢
    refine wp_region_lit ?_
    refine wpList_plain rfl (fun K hK => ?_)
    refine opr_build0 rfl (hK _ _ ?_)
    clear hK K
    refine wpList_plain rfl (fun K hK => ?_)
    refine opr_build0 rfl (hK _ _ ?_)
    clear hK K
    simp only [Act.put, List.setIfInBounds_toArray, List.set_cons_zero, List.set_cons_succ]
    refine wpList_plain rfl (fun K hK => ?_)
    refine opr_putm (F := bF (fun _ => 0)) rfl rfl rfl (r8) (by decide) info31 (fun _ => rfl) (fun i hi => by rw [if_pos (by omega), Nat.sub_zero]) ?_
    intro wz1 hz1 rz1
    refine hK _ _ ?_
    clear hK K
    refine wpList_plain rfl (fun K hK => ?_)
    refine opr_putm (F := bF (fun _ => 0)) rfl rfl rfl (hz1.row (by omega) r9) (by decide) info31 (fun _ => rfl) (fun i hi => by rw [if_pos (by omega), Nat.sub_zero]) ?_
    intro wz2 hz2 rz2
    refine hK _ _ ?_
    clear hK K
    refine wpList_plain rfl (fun K hK => ?_)
    refine opr_move (.inr rfl) (hK _ _ ?_)
    refine wpList_end rfl ?_
    simp only [Act.put, List.setIfInBounds_toArray, List.set_cons_zero, List.set_cons_succ]
    go_simp
    go_wp2
    refine bodyPost_ret (results_rrt rfl rfl rfl rfl (hz2.row (by omega) rz1) rz2 Tryd.underlying29 rfl info31) rfl ⟨_, rfl, NewT.rt (NewT.rt hN hz1 (by omega)) hz2 (by omega), ?_⟩
    rfl
theorem foldB_next {H : Type} (node : H → H → H) (h : H × H) (fl : List Bool) (path : List H) (j : Nat) (b : Bool) (d : H) (hb : fl[j]? = some b) (hd : path[j]? = some d) : foldB node h (fl.take (j + 1)) (path.take (j + 1)) = if b then ((foldB node h (fl.take j) (path.take j)).1, node (foldB node h (fl.take j) (path.take j)).2 d) else (node d (foldB node h (fl.take j) (path.take j)).1, node d (foldB node h (fl.take j) (path.take j)).2) := by
  have h1 : j < fl.length := (List.getElem?_eq_some_iff.1 hb).1
  have h2 : j < path.length := (List.getElem?_eq_some_iff.1 hd).1
  rw [List.take_add_one, List.take_add_one, hb, hd]
  exact foldB_app node (fl.take j) h (path.take j) b d (by rw [List.length_take, List.length_take]; omega)
set_option maxHeartbeats 32000000 in
theorem RBoth_good {node : Hs → Hs → Hs} {z : Hs} (hX : TreeH node z) (old : Hs) (m0 n0 : Nat) (v : Value) (path : List Hs) (w : World) (hT : Tables w) (hv : RdH w v path) (hpl : path.length ≤ 1000) (h10 : 1 ≤ m0) (hmn0 : m0 ≤ n0) (hn : n0 ≤ 1048576) (X Y : Hs) (b : Bool) (hok : needS true m0 n0 = path.length → (X, Y) = upB node true old m0 n0 path ∧ b = true) (hno : needS true m0 n0 ≠ path.length → (X, Y) = ((fun _ => 0), (fun _ => 0)) ∧ b = false) : Cv 19 #[.int .i64 (m0 : Int), .int .i64 (n0 : Int), .agg (rowA 32 (bF old)), v] w (svHHq X Y b) := by
  unfold Cv
  have HT := Lib.hid hT
  have HV := Lib.hid hv
  have HOK := Lib.hid hok
  have HNO := Lib.hid hno
  have HPL := Lib.hid hpl
  have H10 := Lib.hid h10
  have HMN0 := Lib.hid hmn0
  have HN0 := Lib.hid hn
  have HFL : Hid ((leftsS m0 n0).length ≤ 20) := Lib.hid (leftsS_le 20 m0 n0 (by omega))
  obtain ⟨A, c, hvv⟩ := rdH_form hv
  subst hvv
  have t1 : ¬ (m0 : Int) < 1 := by omega
  have t2 : ¬ (n0 : Int) < (m0 : Int) := by omega
  have t3 : ¬ (1048576 : Int) < (n0 : Int) := by omega
  clear hT hv hpl h10 hmn0 hn hok hno
  go_enter Tryd.func19, Tryd.ntmps19
  go_upto_region 3 with fail
  clear t1 t2 t3
  have r6 := ((rowIs_box w 29 32 (bF old)).alloc (.cells (rowA 32 (bF fun _ => 0)) 29)).alloc (.cells (rowA 32 (bF fun _ => 0)) 29)
  have r8 := (rowIs_box (w.alloc (.cells (rowA 32 (bF old)) 29)) 29 32 (bF fun _ => 0)).alloc (.cells (rowA 32 (bF fun _ => 0)) 29)
  rw [World.size_alloc] at r8
  have r9 := rowIs_box ((w.alloc (.cells (rowA 32 (bF old)) 29)).alloc (.cells (rowA 32 (bF fun _ => 0)) 29)) 29 32 (bF fun _ => 0)
  rw [World.size_alloc, World.size_alloc] at r9
  have hN : NewT w (((w.alloc (.cells (rowA 32 (bF old)) 29)).alloc (.cells (rowA 32 (bF fun _ => 0)) 29)).alloc (.cells (rowA 32 (bF fun _ => 0)) 29)) := (NewT.trans _ _ _ (NewT.trans _ _ _ (NewT.alloc _ _) (NewT.alloc _ _)) (NewT.alloc _ _))
  change Code.wp _ _ _ _ (((w.alloc (.cells (rowA 32 (bF old)) 29)).alloc (.cells (rowA 32 (bF fun _ => 0)) 29)).alloc (.cells (rowA 32 (bF fun _ => 0)) 29))
  generalize (((w.alloc (.cells (rowA 32 (bF old)) 29)).alloc (.cells (rowA 32 (bF fun _ => 0)) 29)).alloc (.cells (rowA 32 (bF fun _ => 0)) 29)) = W0 at r6 r8 r9 hN ⊢
  have R6 := Lib.hid r6
  have R8 := Lib.hid r8
  have R9 := Lib.hid r9
  have HNW := Lib.hid hN
  clear r6 r8 r9 hN
  go_wp2
  go_loopw [0, 1, 11, 12] (fun x y o q wr => ∃ (m n : Nat) (acc : List Bool) (bw : Bool), x = .int .i64 (m : Int) ∧ y = .int .i64 (n : Int) ∧ q = .bool bw ∧ NewT W0 wr ∧ RdQ wr o acc ∧ 1 ≤ m ∧ m ≤ n ∧ n ≤ 1048576 ∧ leftsS m0 n0 = leftsS m n ++ acc ∧ wholeS m0 n0 = (bw && wholeS m n)) (fun _ y _ _ _ => (intOf y).toNat)
  case atStart => exact ⟨m0, n0, [], true, rfl, rfl, rfl, NewT.refl _, rdQ_nil _, H10.out, HMN0.out, HN0.out, by simp, by simp⟩
  case round =>
    obtain ⟨m, n, acc, bw, rfl, rfl, rfl, hN, ho, h1, hmn, hn, heq, hwh⟩ := hrel
    have HN := Lib.hid hN
    have HQ := Lib.hid ho
    have HEQ := Lib.hid heq
    have HWH := Lib.hid hwh
    have HACC : Hid (acc.length ≤ 20) := Lib.hid (by have := HFL.out; rw [heq, List.length_append] at this; omega)
    clear hN ho heq hwh
    by_cases hlt : m < n
    · have h2 : 2 ≤ n := by omega
      obtain ⟨s1, s2, _⟩ := splitN_lt n h2
      obtain ⟨k, hk⟩ : ∃ k, splitN n = k := ⟨_, rfl⟩
      have HK : Hid (∀ w, Cv 26 #[.int .i64 (n : Int)] w (.eq (.int .i64 (k : Int)))) := Lib.hid fun w => by
        have := RSplit_cv (n : Int) (by omega) w
        rwa [Int.toNat_natCast, hk] at this
      rw [hk] at s1 s2
      have it : (m : Int) < (n : Int) := by omega
      go_upto_region 6 with fail
      refine wp_region_steps0 NewT [SV.eq (.int .i64 ((n : Int))), SV.eq (.int .i64 ((k : Int))), SV.eq (.int .i64 ((k : Int)))] [([(1, none)], none), ([(36, some 0)], none), ([(37, some 1)], none)] 103 3 rfl rfl (by kernel_rfl) NewT.trans (NewT.refl _) (Nat.le_of_ble_eq_true rfl) ⟨?_, ?_, ?_, trivial⟩ ?_
      · intro a wx hT hF K hK
        obtain ⟨f1, _⟩ := hF
        have f1 : a.tmps.getD 1 undef = .int .i64 ((n : Int)) := f1
        refine rely_wp rfl ?_
        exact opr_move (.inl rfl) (hK _ _ (NewT.refl _) f1)
      · intro a wx hT hF K hK
        obtain ⟨f36, _⟩ := hF
        have f36 : a.tmps.getD 36 undef = .int .i64 ((n : Int)) := f36
        refine rely_wp rfl ?_
        exact opr_cv (HK.out wx) rfl Tryd.func26 (by kernel_rfl) (by kernel_rfl) (by simp only [List.map_toArray, List.map_cons, List.map_nil, eval_tmp, f36]) hK
      · intro a wx hT hF K hK
        obtain ⟨f37, _⟩ := hF
        have f37 : a.tmps.getD 37 undef = .int .i64 ((k : Int)) := f37
        refine rely_wp rfl ?_
        exact opr_move (.inr rfl) (hK _ _ (NewT.refl _) f37)
      · intro w3 k3
        intro u h; obtain rfl := Eq.symm (h (by simp)); clear h
        intro u h; obtain rfl := Eq.symm (h (by simp)); clear h
        intro u h; obtain rfl := Eq.symm (h (by simp)); clear h
        refine relyEnd_nil rfl ?_
        refine wpList_end rfl ?_
        simp only [Act.put, List.setIfInBounds_toArray, List.set_cons_zero, List.set_cons_succ]
        go_simp
        replace HQ := Lib.hid (k3.qs HQ.out)
        replace HN := Lib.hid (NewT.trans _ _ _ HN.out k3)
        clear k3 HK
        go_upto_region 7 with fail
        by_cases hil : m ≤ k
        · skip
          refine wp_region_lit ?_
          refine wpList_plain rfl (fun K hK => ?_)
          refine opr_move (.inl rfl) (hK _ _ ?_)
          clear hK K
          refine wpList_plain rfl (fun K hK => ?_)
          refine opr_move (.inl rfl) (hK _ _ ?_)
          clear hK K
          simp only [Act.put, List.setIfInBounds_toArray, List.set_cons_zero, List.set_cons_succ]
          refine wpList_plain rfl (fun K hK => ?_)
          refine opr_cmp (b := true) (.inr (.inr (.inl ⟨rfl, decide_eq_true (by omega)⟩))) Tryd.underlying3 rfl rfl rfl (hK _ _ ?_)
          clear hK K
          simp only [Act.put, List.setIfInBounds_toArray, List.set_cons_zero, List.set_cons_succ]
          refine wpList_plain rfl (fun K hK => ?_)
          refine opr_val (s := Instr.buildSlice 48 1 #[(0, .bool true)]) (by simp [execOp]; rfl) (run_bsQ1 _ _) (hK _ _ ?_)
          clear hK K
          have ho := ownQ_one w3 true
          have hn := NewT.alloc w3 (.cells #[.bool true] 4)
          generalize w3.alloc (.cells #[.bool true] 4) = wb at ho hn ⊢
          obtain ⟨vs, evs⟩ : ∃ v, Value.slice (some ⟨w3.heap.size, 0, none⟩) 1 1 = v := ⟨_, rfl⟩
          rw [evs] at ho ⊢
          refine wpList_plain rfl (fun K hK => ?_)
          refine opr_move (.inl rfl) (hK _ _ ?_)
          clear hK K
          simp only [Act.put, List.setIfInBounds_toArray, List.set_cons_zero, List.set_cons_succ]
          refine wpList_plain rfl (fun K hK => ?_)
          obtain ⟨v', w', hrun, h2, h3⟩ := run_appQ ho (hn.qs HQ.out) (by have := HACC.out; simp; omega) hn.out.size 48
          refine opr_append rfl rfl rfl hrun (hK _ _ ?_)
          clear hK K
          refine wpList_plain rfl (fun K hK => ?_)
          refine opr_move (.inr rfl) (hK _ _ ?_)
          refine wpList_end rfl ?_
          simp only [Act.put, List.setIfInBounds_toArray, List.set_cons_zero, List.set_cons_succ]
          go_simp
          have hend : NewT w3 w' := NewT.of (hn.out.trans h3)
          have HU := Lib.hid (show RdQ w' v' (true :: acc) from h2.rd)
          clear hrun h2 h3 ho hn evs
          replace HN := Lib.hid (NewT.trans _ _ _ HN.out hend)
          clear hend
          have t7 : (m : Int) ≤ (k : Int) := by omega
          go_wp2
          go_roundw
          case rel => exact ⟨m, k, _, bw, by first | rfl | go_num, by first | rfl | go_num, rfl, HN.out, HU.out, by omega, by omega, by omega, by rw [HEQ.out, leftsS_l _ _ hlt h2 (by rw [hk]; exact hil), hk]; simp, by rw [HWH.out, wholeS_l _ _ hlt h2 (by rw [hk]; exact hil), hk]⟩
          case measure => simp [intOf]; omega
        · skip
          refine wp_region_lit ?_
          refine wpList_plain rfl (fun K hK => ?_)
          refine opr_move (.inl rfl) (hK _ _ ?_)
          clear hK K
          refine wpList_plain rfl (fun K hK => ?_)
          refine opr_move (.inl rfl) (hK _ _ ?_)
          clear hK K
          simp only [Act.put, List.setIfInBounds_toArray, List.set_cons_zero, List.set_cons_succ]
          refine wpList_plain rfl (fun K hK => ?_)
          refine opr_cmp (b := false) (.inr (.inr (.inl ⟨rfl, decide_eq_false (by omega)⟩))) Tryd.underlying3 rfl rfl rfl (hK _ _ ?_)
          clear hK K
          simp only [Act.put, List.setIfInBounds_toArray, List.set_cons_zero, List.set_cons_succ]
          refine wpList_plain rfl (fun K hK => ?_)
          refine opr_val (s := Instr.buildSlice 48 1 #[(0, .bool false)]) (by simp [execOp]; rfl) (run_bsQ1 _ _) (hK _ _ ?_)
          clear hK K
          have ho := ownQ_one w3 false
          have hn := NewT.alloc w3 (.cells #[.bool false] 4)
          generalize w3.alloc (.cells #[.bool false] 4) = wb at ho hn ⊢
          obtain ⟨vs, evs⟩ : ∃ v, Value.slice (some ⟨w3.heap.size, 0, none⟩) 1 1 = v := ⟨_, rfl⟩
          rw [evs] at ho ⊢
          refine wpList_plain rfl (fun K hK => ?_)
          refine opr_move (.inl rfl) (hK _ _ ?_)
          clear hK K
          simp only [Act.put, List.setIfInBounds_toArray, List.set_cons_zero, List.set_cons_succ]
          refine wpList_plain rfl (fun K hK => ?_)
          obtain ⟨v', w', hrun, h2, h3⟩ := run_appQ ho (hn.qs HQ.out) (by have := HACC.out; simp; omega) hn.out.size 48
          refine opr_append rfl rfl rfl hrun (hK _ _ ?_)
          clear hK K
          refine wpList_plain rfl (fun K hK => ?_)
          refine opr_move (.inr rfl) (hK _ _ ?_)
          refine wpList_end rfl ?_
          simp only [Act.put, List.setIfInBounds_toArray, List.set_cons_zero, List.set_cons_succ]
          go_simp
          have hend : NewT w3 w' := NewT.of (hn.out.trans h3)
          have HU := Lib.hid (show RdQ w' v' (false :: acc) from h2.rd)
          clear hrun h2 h3 ho hn evs
          replace HN := Lib.hid (NewT.trans _ _ _ HN.out hend)
          clear hend
          have t7 : ¬ (m : Int) ≤ (k : Int) := by omega
          go_wp2
          go_roundw
          case rel => exact ⟨m - k, n - k, _, false, by first | rfl | go_num, by first | rfl | go_num, rfl, HN.out, HU.out, by omega, by omega, by omega, by rw [HEQ.out, leftsS_r _ _ hlt h2 (by rw [hk]; exact hil), hk]; simp, by rw [HWH.out, wholeS_r _ _ hlt h2 (by rw [hk]; exact hil)]; simp⟩
          case measure => simp [intOf]; omega
    · obtain rfl : m = n := by omega
      have it : ¬ (m : Int) < (m : Int) := by omega
      have hfl : leftsS m0 n0 = acc := by rw [HEQ.out, leftsS_all _ _ (.inl (Nat.le_refl _)), List.nil_append]
      have HFA := Lib.hid hfl
      have HWW : Hid (bw = wholeS m0 n0) := Lib.hid (by rw [HWH.out, wholeS_all _ _ (.inl (Nat.le_refl _)), Bool.and_true])
      clear hfl HEQ HWH
      replace R6 := Lib.hid (HN.out.row R6.out)
      replace R8 := Lib.hid (HN.out.row R8.out)
      replace R9 := Lib.hid (HN.out.row R9.out)
      replace HNW := Lib.hid (NewT.trans _ _ _ HNW.out HN.out)
      go_upto_region 13 with fail
      refine wp_region_relyJ_tail (J := ManyPtr [15]) (NewT) [SV.eq (.agg (rowA 32 (bF (old)))), svNw wr.heap.size, SV.eq (.int .i64 (0))] [([(6, none)], none), ([], none), ([], none)] 103 3 (by kernel_rfl) rfl rfl (Nat.zero_lt_succ _) (by kernel_rfl) (by kernel_rfl) (by kernel_rfl) NewT.trans (NewT.drew _) ⟨fun p hp g h => (by simp at hp; rcases hp with rfl <;> cases h), fun p hp q hq hpq g g2 h => (by simp at hp; rcases hp with rfl <;> cases h)⟩ (Nat.le_of_ble_eq_true rfl) ⟨?_, ?_, ?_, trivial⟩ ?_
      · refine relyStepJ_of (fun a w v w' h hT => h.keep (by simp) hT) ?_
        intro a wx hT hF K hK
        obtain ⟨f6, _⟩ := hF
        have f6 : a.tmps.getD 6 undef = .pointer (some ⟨w.heap.size, 0, none⟩) := f6
        refine rely_wp rfl ?_
        exact opr_load_hash rfl f6 (hT.row R6.out) (hK _ _ (NewT.refl _) rfl)
      · intro a wx hT hF hJ K hK
        refine rely_wp rfl ?_
        refine opr_alloc_at rfl ?_
        exact hK _ _ (NewT.alloc _ _) ⟨wx.heap.size, rfl, hT.out.size, rowIs_box wx _ 32 _⟩ hJ.make
      · refine relyStepJ_of (fun a w v w' h hT => h.keep (by simp) hT) ?_
        intro a wx hT hF K hK
        refine rely_wp rfl ?_
        exact opr_move (.inr rfl) (hK _ _ (NewT.refl _) rfl)
      · intro w4 k4
        intro u h; obtain rfl := Eq.symm (h (by simp)); clear h
        intro u h; obtain ⟨p15, hv, hp15, rr15⟩ := (h (by simp)); clear h; subst hv
        intro u h; obtain rfl := Eq.symm (h (by simp)); clear h
        refine relyEnd_nil rfl ?_
        intro hJ
        clear hJ
        simp only [Act.put, List.setIfInBounds_toArray, List.set_cons_zero, List.set_cons_succ]
        refine wpList_plain rfl (fun K hK => ?_)
        refine opr_putm (F := bF (old)) rfl rfl rfl (rr15) (by decide) info31 (fun _ => rfl) (fun i hi => by rw [if_pos (by omega), Nat.sub_zero]) ?_
        intro w5 q5 r15
        refine hK _ _ ?_
        clear hK K
        refine wpList_end rfl ?_
        simp only [Act.put, List.setIfInBounds_toArray, List.set_cons_zero, List.set_cons_succ]
        go_simp
        have k5 := NewT.rt k4 q5 hp15
        have R15 := Lib.hid r15
        obtain ⟨A1, c1, hq⟩ := rdQ_form HQ.out
        subst hq
        have HVr := Lib.hid (k5.hs (HNW.out.hs HV.out))
        have HTr := Lib.hid (k5.tables (HNW.out.tables HT.out))
        have HQr := Lib.hid (k5.qs HQ.out)
        have HNr := Lib.hid (NewT.trans _ _ _ HNW.out k5)
        have HV0 := Lib.hid (HNW.out.hs HV.out)
        have HT0 := Lib.hid (HNW.out.tables HT.out)
        have HQ0 := Lib.hid HQ.out
        have HNW0 := Lib.hid HNW.out
        have HK5 := Lib.hid k5
        have HPW15 := Lib.hid hp15
        have HP15 : Hid (w.heap.size + 1 + 1 < p15) := Lib.hid (by have := R9.out.lt; omega)
        replace R8 := Lib.hid (k5.row R8.out)
        replace R9 := Lib.hid (k5.row R9.out)
        clear k4 k5 q5 rr15 r15 hp15 HQ HV HT HNW R6
        cases bw
        · by_cases hp0 : path.length = 0
          · obtain ⟨hXY, hb1⟩ := HNO.out (by unfold needS; rw [HFA.out, ← HWW.out]; simp; omega)
            have HXY := Lib.hid hXY
            have HB1 := Lib.hid hb1
            have t15 : ((path.length : Int) == 0) = true := beq_iff_eq.2 (by omega)
            clear hXY hb1
            go_upto_region 16 with fail
            clear t15
            refine wp_region_lit ?_
            refine wpList_plain rfl (fun K hK => ?_)
            refine opr_build0 rfl (hK _ _ ?_)
            clear hK K
            refine wpList_plain rfl (fun K hK => ?_)
            refine opr_build0 rfl (hK _ _ ?_)
            clear hK K
            simp only [Act.put, List.setIfInBounds_toArray, List.set_cons_zero, List.set_cons_succ]
            refine wpList_plain rfl (fun K hK => ?_)
            refine opr_putm (F := bF (fun _ => 0)) rfl rfl rfl (R8.out) (by decide) info31 (fun _ => rfl) (fun i hi => by rw [if_pos (by omega), Nat.sub_zero]) ?_
            intro wz1 hz1 rz1
            refine hK _ _ ?_
            clear hK K
            refine wpList_plain rfl (fun K hK => ?_)
            refine opr_putm (F := bF (fun _ => 0)) rfl rfl rfl (hz1.row (by omega) R9.out) (by decide) info31 (fun _ => rfl) (fun i hi => by rw [if_pos (by omega), Nat.sub_zero]) ?_
            intro wz2 hz2 rz2
            refine hK _ _ ?_
            clear hK K
            refine wpList_plain rfl (fun K hK => ?_)
            refine opr_move (.inr rfl) (hK _ _ ?_)
            refine wpList_end rfl ?_
            simp only [Act.put, List.setIfInBounds_toArray, List.set_cons_zero, List.set_cons_succ]
            go_simp
            go_wp2
            refine bodyPost_ret (results_rrt rfl rfl rfl rfl (hz2.row (by omega) rz1) rz2 Tryd.underlying29 rfl info31) rfl ⟨_, rfl, NewT.rt (NewT.rt HNr.out hz1 (by omega)) hz2 (by omega), ?_⟩
            show _ = _
            have e := HXY.out
            injection e with e1 e2
            rw [e1, e2, HB1.out]
            rfl
          · obtain ⟨p0, hq0⟩ : ∃ d, path[0]? = some d := ⟨_, List.getElem?_eq_getElem (by omega)⟩
            have HP0 := Lib.hid hq0
            have t15 : ((path.length : Int) == 0) = false := beq_eq_false_iff_ne.2 (by omega)
            clear hq0
            go_upto_region 17 with fail
            obtain ⟨v, ev⟩ : ∃ v, Value.slice A path.length c = v := ⟨_, rfl⟩
            rw [ev] at HVr ⊢
            refine wp_region_steps0 NewT [SV.eq (v), svP (p0), SV.eq (.agg (rowA 32 (bF (p0))))] [([(3, none)], none), ([(62, some 0)], none), ([(63, some 1)], none)] 103 3 rfl rfl (by kernel_rfl) NewT.trans (NewT.refl _) (Nat.le_of_ble_eq_true rfl) ⟨?_, ?_, ?_, trivial⟩ ?_
            · intro a wx hT hF K hK
              obtain ⟨f3, _⟩ := hF
              have f3 : a.tmps.getD 3 undef = v := f3
              refine rely_wp rfl ?_
              exact opr_move (.inl rfl) (hK _ _ (NewT.refl _) f3)
            · intro a wx hT hF K hK
              obtain ⟨f62, _⟩ := hF
              have f62 : a.tmps.getD 62 undef = v := f62
              refine rely_wp rfl ?_
              exact opr_idxH (i := 0) (d := p0) (HP0.out) (rfl) rfl (by rw [eval_tmp, f62]; exact (hT.hs HVr.out)) rfl (fun v hv => hK v _ (NewT.refl _) hv)
            · intro a wx hT hF K hK
              obtain ⟨f63, _⟩ := hF
              replace f63 := show (svP (p0)).pred (a.tmps.getD 63 undef) wx from f63
              refine rely_wp rfl ?_
              exact opr_ldP rfl f63 (hK _ _ (NewT.refl _) rfl)
            · intro w6 k6
              intro u h; obtain rfl := Eq.symm (h (by simp)); clear h
              intro _ _
              intro u h; obtain rfl := Eq.symm (h (by simp)); clear h
              refine relyEnd_nil rfl ?_
              simp only [Act.put, List.setIfInBounds_toArray, List.set_cons_zero, List.set_cons_succ]
              refine wpList_plain rfl (fun K hK => ?_)
              refine opr_putm (F := bF (p0)) rfl rfl rfl (k6.row R15.out) (by decide) info31 (fun _ => rfl) (fun i hi => by rw [if_pos (by omega), Nat.sub_zero]) ?_
              intro wy q7 r15
              refine hK _ _ ?_
              clear hK K
              refine wpList_end rfl ?_
              simp only [Act.put, List.setIfInBounds_toArray, List.set_cons_zero, List.set_cons_succ]
              go_simp
              subst ev
              have k7 : NewT wr wy := NewT.rt (NewT.trans _ _ _ HK5.out k6) q7 HPW15.out
              replace R15 := Lib.hid r15
              replace R8 := Lib.hid (q7.row (by have := HP15.out; omega) (k6.row R8.out))
              replace R9 := Lib.hid (q7.row (by have := HP15.out; omega) (k6.row R9.out))
              replace HVr := Lib.hid (k7.hs HV0.out)
              replace HQr := Lib.hid (k7.qs HQ0.out)
              replace HTr := Lib.hid (k7.tables HT0.out)
              replace HNr := Lib.hid (NewT.trans _ _ _ HNW0.out k7)
              clear k7 q7 k6 r15 t15
              have HN15 := Lib.hid R15.out.lt
              by_cases hlen : path.length = acc.length + 1
              · obtain ⟨hXY, hb1⟩ := HOK.out (by unfold needS; rw [HFA.out, ← HWW.out]; simp; omega)
                have HXY := Lib.hid hXY
                have HB1 := Lib.hid hb1
                have HLN := Lib.hid hlen
                have t19 : ((path.length : Int) - 1 != (acc.length : Int)) = false := bne_eq_false_iff_eq.2 (by omega)
                clear hXY hb1 hlen
                go_upto_region 19 with fail
                refine wp_region_lit ?_
                refine wpList_plain rfl (fun K hK => ?_)
                refine opr_move (.inl rfl) (hK _ _ ?_)
                clear hK K
                refine wpList_plain rfl (fun K hK => ?_)
                refine opr_len rfl Tryd.underlying22 rfl (hK _ _ ?_)
                clear hK K
                refine wpList_plain rfl (fun K hK => ?_)
                refine opr_move (.inl rfl) (hK _ _ ?_)
                clear hK K
                simp only [Act.put, List.setIfInBounds_toArray, List.set_cons_zero, List.set_cons_succ]
                refine wpList_plain rfl (fun K hK => ?_)
                refine opr_sub (r := ((path.length : Int) - 1)) Tryd.underlying3 (by unfold wrap64; have := HPL.out; omega) rfl rfl rfl (hK _ _ ?_)
                clear hK K
                refine wpList_plain rfl (fun K hK => ?_)
                refine opr_move (.inl rfl) (hK _ _ ?_)
                clear hK K
                refine wpList_plain rfl (fun K hK => ?_)
                refine opr_len rfl Tryd.underlying48 rfl (hK _ _ ?_)
                clear hK K
                simp only [Act.put, List.setIfInBounds_toArray, List.set_cons_zero, List.set_cons_succ]
                refine wpList_plain rfl (fun K hK => ?_)
                refine opr_cmp (b := false) (.inr (.inl ⟨rfl, t19⟩)) Tryd.underlying3 rfl rfl rfl (hK _ _ ?_)
                clear hK K
                refine wpList_end rfl ?_
                simp only [Act.put, List.setIfInBounds_toArray, List.set_cons_zero, List.set_cons_succ]
                go_simp
                clear t19
                go_upto_region 21 with fail
                refine wp_region_relyA0 (TB wy.heap.size) (fun j a w1 => VarsAt wy.heap.size [(16, match j with | 0 => (fun _ => 0) | 1 => (fun _ => 0) | _ => p0), (17, (fun _ => 0))] a w1) [SV.eq (.agg (rowA 32 (bF (p0)))), SV.eq (.agg (rowA 32 (bF (p0)))), svPt, svPt, SV.any] [([(15, none)], none), ([(15, none)], none), ([], none), ([], none), ([(16, some 2), (74, some 0)], none)] [none, none, some 0, none, some 1] [2, 4] 103 rfl (by kernel_rfl) rfl (by kernel_rfl) (by kernel_rfl) rfl (by kernel_rfl) TB.trans (TB.drew _ _) ⟨⟨fun p hp g h => (by simp at hp; rcases hp with rfl | rfl <;> cases h), fun p hp q hq hpq g g2 h => (by simp at hp; rcases hp with rfl | rfl <;> cases h)⟩, fun p hp g h => (by simp at hp; rcases hp with rfl | rfl <;> cases h)⟩ (Nat.le_of_ble_eq_true rfl) ⟨?_, ?_, ?_, ?_, ?_, trivial⟩ ?_
                · intro a wx hT hF K hK
                  replace hK := fun v w' (hN : NewT wx w') hv => hK v w' (TB.of_new (hT.size) hN) (fun k h => VarsAt.keep h (by simp) hN) hv
                  obtain ⟨f15, _⟩ := hF
                  have f15 : a.tmps.getD 15 undef = .pointer (some ⟨p15, 0, none⟩) := f15
                  refine rely_wp rfl ?_
                  exact opr_load_hash rfl f15 ((hT.out (Nat.le_refl _)).row R15.out) (hK _ _ (NewT.refl _) rfl)
                · intro a wx hT hF K hK
                  replace hK := fun v w' (hN : NewT wx w') hv => hK v w' (TB.of_new (hT.size) hN) (fun k h => VarsAt.keep h (by simp) hN) hv
                  obtain ⟨f15, _⟩ := hF
                  have f15 : a.tmps.getD 15 undef = .pointer (some ⟨p15, 0, none⟩) := f15
                  refine rely_wp rfl ?_
                  exact opr_load_hash rfl f15 ((hT.out (Nat.le_refl _)).row R15.out) (hK _ _ (NewT.refl _) rfl)
                · intro a wx hT hF hJ K hK
                  refine rely_wp rfl ?_
                  refine opr_alloc_at rfl ?_
                  exact hK _ _ (TB.of_new (hT.size) (NewT.alloc _ _)) (VarsAt.make hJ hT.size (by simp)) ⟨_, rfl⟩
                · intro a wx hT hF K hK
                  refine rely_wp rfl ?_
                  refine opr_alloc_at rfl ?_
                  exact hK _ _ (TB.of_new (hT.size) (NewT.alloc _ _)) (fun k hJ => VarsAt.make hJ hT.size (by simp)) ⟨_, rfl⟩
                · intro a wx hT hF hJ K hK
                  obtain ⟨f16, f74, _⟩ := hF
                  replace f16 := show (svPt).pred (a.tmps.getD 16 undef) wx from f16
                  have f74 : a.tmps.getD 74 undef = .agg (rowA 32 (bF (p0))) := f74
                  refine rely_wp rfl ?_
                  obtain ⟨g, hg⟩ := f16
                  obtain ⟨hb, hr⟩ := hJ.2 (16, (fun _ => 0)) (by simp) g hg
                  refine opr_putm (F := bF (p0)) rfl hg f74 hr (by decide) info31 (fun _ => rfl) (fun i hi => by rw [if_pos (by omega), Nat.sub_zero]) ?_
                  intro w' hR r'
                  exact hK undef w' (TB.of_rt hR hb hr r') (VarsAt.put hJ rfl hg (by simp) hR r' (by simp)) trivial
                · intro w7 k7
                  intro u h; obtain rfl := Eq.symm (h (by simp)); clear h
                  intro u h; obtain rfl := Eq.symm (h (by simp)); clear h
                  intro u h; obtain ⟨p16, hv⟩ := (h (by simp)); clear h; subst hv
                  intro u h; obtain ⟨p17, hv⟩ := (h (by simp)); clear h; subst hv
                  intro _ _
                  refine relyEnd_nil rfl ?_
                  intro hJ
                  simp only [Act.put, List.setIfInBounds_toArray, List.set_cons_zero, List.set_cons_succ]
                  have hr16 := hJ.2 (16, p0) (by simp) p16 (by kernel_rfl)
                  have hr17 := hJ.2 (17, (fun _ => 0)) (by simp) p17 (by kernel_rfl)
                  have hne := hJ.1.2 16 (by simp) 17 (by simp) (by decide) p16 p17 (by kernel_rfl) (by kernel_rfl)
                  refine opr_putm (F := bF (p0)) rfl rfl rfl hr17.2 (by decide) info31 (fun _ => rfl) (fun i hi => by rw [if_pos (by omega), Nat.sub_zero]) ?_
                  intro w8 q8 r17
                  go_simp
                  have HNs : Hid (NewT wy w8) := Lib.hid (NewT.rt (k7.out (Nat.le_refl _)) q8 hr17.1)
                  have HR16 := Lib.hid (q8.row hne hr16.2)
                  have HR17 := Lib.hid r17
                  have HP6 : Hid (w.heap.size + 1 + 1 < p16 ∧ wy.heap.size ≤ p16) := Lib.hid ⟨by have := R9.out.lt; have := hr16.1; omega, hr16.1⟩
                  have HP7 : Hid (w.heap.size + 1 + 1 < p17 ∧ wy.heap.size ≤ p17) := Lib.hid ⟨by have := R9.out.lt; have := hr17.1; omega, hr17.1⟩
                  have HNE := Lib.hid hne
                  clear hr16 hr17 hne r17 q8 k7
                  go_wp2
                  go_loopw [18] (fun x ws => ∃ j : Nat, j ≤ acc.length ∧ x = .int .i64 (j : Int) ∧ NewT wy ws ∧ ws.rowIs p16 29 32 (bF ((foldB node (p0, p0) (List.take j acc) (List.take j (List.drop 1 path))).1)) ∧ ws.rowIs p17 29 32 (bF ((foldB node (p0, p0) (List.take j acc) (List.take j (List.drop 1 path))).2))) (fun x _ => acc.length - (intOf x).toNat)
                  case atStart => exact ⟨0, by omega, rfl, HNs.out, HR16.out, HR17.out⟩
                  case round =>
                    obtain ⟨j, hj, rfl, hN2, h16, h17⟩ := hrel
                    have HN2 := Lib.hid hN2
                    have R16 := Lib.hid h16
                    have R17 := Lib.hid h17
                    have HVs := Lib.hid (hN2.hs HVr.out)
                    have HQs := Lib.hid (hN2.qs HQr.out)
                    have HTs := Lib.hid (hN2.tables HTr.out)
                    have R8s := Lib.hid (hN2.row R8.out)
                    have R9s := Lib.hid (hN2.row R9.out)
                    clear hN2 h16 h17 HNs HR16 HR17
                    by_cases hjl : j < acc.length
                    · have it : (j : Int) < (acc.length : Int) := by omega
                      have hjb : acc.length ≤ 1000 := by have := HPL.out; have := HLN.out; omega
                      obtain ⟨d, hd⟩ : ∃ d, path[1 + j]? = some d := ⟨_, List.getElem?_eq_getElem (by have := HLN.out; omega)⟩
                      have HDJ := Lib.hid hd
                      have HDD : Hid ((List.drop 1 path)[j]? = some d) := Lib.hid (by rw [List.getElem?_drop]; exact hd)
                      obtain ⟨bj, hbj⟩ : ∃ b, acc[j]? = some b := ⟨_, List.getElem?_eq_getElem hjl⟩
                      have HFJ := Lib.hid hbj
                      clear hd hbj
                      go_upto_region 25 with fail
                      obtain ⟨v, ev⟩ : ∃ v, Value.slice A path.length c = v := ⟨_, rfl⟩
                      rw [ev] at HVs ⊢
                      refine wp_region_steps0 NewT [SV.eq (v), SV.eq (.int .i64 (1)), SV.eq (.int .i64 ((j : Int))), SV.eq (.int .i64 ((1 + (j : Int)))), svP (d), SV.eq (.agg (rowA 32 (bF (d))))] [([(3, none)], none), ([(14, none)], none), ([(18, none)], none), ([(83, some 1), (84, some 2)], none), ([(82, some 0), (85, some 3)], none), ([(86, some 4)], none)] 103 6 rfl rfl (by kernel_rfl) NewT.trans (NewT.refl _) (Nat.le_of_ble_eq_true rfl) ⟨?_, ?_, ?_, ?_, ?_, ?_, trivial⟩ ?_
                      · intro a wx hT hF K hK
                        obtain ⟨f3, _⟩ := hF
                        have f3 : a.tmps.getD 3 undef = v := f3
                        refine rely_wp rfl ?_
                        exact opr_move (.inl rfl) (hK _ _ (NewT.refl _) f3)
                      · intro a wx hT hF K hK
                        obtain ⟨f14, _⟩ := hF
                        have f14 : a.tmps.getD 14 undef = .int .i64 (1) := f14
                        refine rely_wp rfl ?_
                        exact opr_move (.inl rfl) (hK _ _ (NewT.refl _) f14)
                      · intro a wx hT hF K hK
                        obtain ⟨f18, _⟩ := hF
                        have f18 : a.tmps.getD 18 undef = .int .i64 ((j : Int)) := f18
                        refine rely_wp rfl ?_
                        exact opr_move (.inl rfl) (hK _ _ (NewT.refl _) f18)
                      · intro a wx hT hF K hK
                        obtain ⟨f83, f84, _⟩ := hF
                        have f83 : a.tmps.getD 83 undef = .int .i64 (1) := f83
                        have f84 : a.tmps.getD 84 undef = .int .i64 ((j : Int)) := f84
                        refine rely_wp rfl ?_
                        exact opr_add (r := (1 + (j : Int))) Tryd.underlying3 (by unfold wrap64; have := HPL.out; have := HLN.out; omega) rfl f83 f84 (hK _ _ (NewT.refl _) rfl)
                      · intro a wx hT hF K hK
                        obtain ⟨f82, f85, _⟩ := hF
                        have f82 : a.tmps.getD 82 undef = v := f82
                        have f85 : a.tmps.getD 85 undef = .int .i64 ((1 + (j : Int))) := f85
                        refine rely_wp rfl ?_
                        exact opr_idxH (i := (1 + j)) (d := d) (HDJ.out) (by omega) rfl (by rw [eval_tmp, f82]; exact (hT.hs HVs.out)) f85 (fun v hv => hK v _ (NewT.refl _) hv)
                      · intro a wx hT hF K hK
                        obtain ⟨f86, _⟩ := hF
                        replace f86 := show (svP (d)).pred (a.tmps.getD 86 undef) wx from f86
                        refine rely_wp rfl ?_
                        exact opr_ldP rfl f86 (hK _ _ (NewT.refl _) rfl)
                      · intro wb kb
                        intro u h; obtain rfl := Eq.symm (h (by simp)); clear h
                        intro u h; obtain rfl := Eq.symm (h (by simp)); clear h
                        intro u h; obtain rfl := Eq.symm (h (by simp)); clear h
                        intro u h; obtain rfl := Eq.symm (h (by simp)); clear h
                        intro _ _
                        intro u h; obtain rfl := Eq.symm (h (by simp)); clear h
                        refine relyEnd_nil rfl ?_
                        simp only [Act.put, List.setIfInBounds_toArray, List.set_cons_zero, List.set_cons_succ]
                        refine wpList_new (n := 32) rfl rfl rfl rfl rfl rfl (by simp) run_alloc_hash info31 (fun _ => rfl) rfl ?_
                        intro wc hnc r19
                        refine wpList_end rfl ?_
                        simp only [Act.put, List.setIfInBounds_toArray, List.set_cons_zero, List.set_cons_succ]
                        go_simp
                        subst ev
                        obtain ⟨p19, hp19⟩ : ∃ p, wb.heap.size = p := ⟨_, rfl⟩
                        rw [hp19] at r19 ⊢
                        have kc := NewT.trans _ _ _ kb hnc
                        have HP19 : Hid (p16 < p19 ∧ p17 < p19) := Lib.hid ⟨by have := (kb.row R16.out).lt; omega, by have := (kb.row R17.out).lt; omega⟩
                        have R19 := Lib.hid r19
                        replace R16 := Lib.hid (kc.row R16.out)
                        replace R17 := Lib.hid (kc.row R17.out)
                        replace HQs := Lib.hid (kc.qs HQs.out)
                        replace HTs := Lib.hid (kc.tables HTs.out)
                        replace HN2 := Lib.hid (NewT.trans _ _ _ HN2.out kc)
                        clear r19 hp19 kb hnc kc HVs R8s R9s
                        go_upto_region 26 with fail
                        refine wp_region_lit ?_
                        refine wpList_plain rfl (fun K hK => ?_)
                        refine opr_move (.inl rfl) (hK _ _ ?_)
                        clear hK K
                        refine wpList_plain rfl (fun K hK => ?_)
                        refine opr_move (.inl rfl) (hK _ _ ?_)
                        clear hK K
                        simp only [Act.put, List.setIfInBounds_toArray, List.set_cons_zero, List.set_cons_succ]
                        refine wp_idxQ HFJ.out rfl rfl rfl rfl (by simp) rfl HQs.out rfl ?_
                        intro p90
                        refine wpList_end rfl ?_
                        simp only [Act.put, List.setIfInBounds_toArray, List.set_cons_zero, List.set_cons_succ]
                        go_simp
                        cases bj
                        · go_upto_region 28 with fail
                          refine wp_region_steps0 NewT [SV.eq (.agg (rowA 32 (bF (d)))), SV.eq (.agg (rowA 32 (bF ((foldB node (p0, p0) (List.take j acc) (List.take j (List.drop 1 path))).1)))), SV.eq (.agg (rowA 32 (bF (node (d) ((foldB node (p0, p0) (List.take j acc) (List.take j (List.drop 1 path))).1)))))] [([(19, none)], none), ([(16, none)], none), ([(95, some 0), (96, some 1)], none)] 103 3 rfl rfl (by kernel_rfl) NewT.trans (NewT.refl _) (Nat.le_of_ble_eq_true rfl) ⟨?_, ?_, ?_, trivial⟩ ?_
                          · intro a wx hT hF K hK
                            obtain ⟨f19, _⟩ := hF
                            have f19 : a.tmps.getD 19 undef = .pointer (some ⟨p19, 0, none⟩) := f19
                            refine rely_wp rfl ?_
                            exact opr_load_hash rfl f19 (hT.row R19.out) (hK _ _ (NewT.refl _) rfl)
                          · intro a wx hT hF K hK
                            obtain ⟨f16, _⟩ := hF
                            have f16 : a.tmps.getD 16 undef = .pointer (some ⟨p16, 0, none⟩) := f16
                            refine rely_wp rfl ?_
                            exact opr_load_hash rfl f16 (hT.row R16.out) (hK _ _ (NewT.refl _) rfl)
                          · intro a wx hT hF K hK
                            obtain ⟨f95, f96, _⟩ := hF
                            have f95 : a.tmps.getD 95 undef = .agg (rowA 32 (bF (d))) := f95
                            have f96 : a.tmps.getD 96 undef = .agg (rowA 32 (bF ((foldB node (p0, p0) (List.take j acc) (List.take j (List.drop 1 path))).1))) := f96
                            refine rely_wp rfl ?_
                            exact opr_cv (RNode_cv hX (d) ((foldB node (p0, p0) (List.take j acc) (List.take j (List.drop 1 path))).1) wx (hT.tables HTs.out)) rfl Tryd.func32 (by kernel_rfl) (by kernel_rfl) (by simp only [List.map_toArray, List.map_cons, List.map_nil, eval_tmp, f95, f96]) hK
                          · intro wd kd
                            intro u h; obtain rfl := Eq.symm (h (by simp)); clear h
                            intro u h; obtain rfl := Eq.symm (h (by simp)); clear h
                            intro u h; obtain rfl := Eq.symm (h (by simp)); clear h
                            refine relyEnd_nil rfl ?_
                            simp only [Act.put, List.setIfInBounds_toArray, List.set_cons_zero, List.set_cons_succ]
                            refine wpList_plain rfl (fun K hK => ?_)
                            refine opr_putm (F := bF (node d ((foldB node (p0, p0) (List.take j acc) (List.take j (List.drop 1 path))).1))) rfl rfl rfl (kd.row R16.out) (by decide) info31 (fun _ => rfl) (fun i hi => by rw [if_pos (by omega), Nat.sub_zero]) ?_
                            intro we qe re
                            refine hK _ _ ?_
                            clear hK K
                            refine wpList_end rfl ?_
                            simp only [Act.put, List.setIfInBounds_toArray, List.set_cons_zero, List.set_cons_succ]
                            go_simp
                            have kde := NewT.rt (NewT.trans _ _ _ HN2.out kd) qe HP6.out.2
                            replace R19 := Lib.hid (qe.row (by have := HP19.out; omega) (kd.row R19.out))
                            replace R17 := Lib.hid (qe.row (Ne.symm HNE.out) (kd.row R17.out))
                            have R16n := Lib.hid re
                            replace HTs := Lib.hid (kde.tables HTr.out)
                            replace HN2 := Lib.hid kde
                            clear kde qe re kd
                            go_upto_region 29 with fail
                            refine wp_region_steps0 NewT [SV.eq (.agg (rowA 32 (bF (d)))), SV.eq (.agg (rowA 32 (bF ((foldB node (p0, p0) (List.take j acc) (List.take j (List.drop 1 path))).2)))), SV.eq (.agg (rowA 32 (bF (node (d) ((foldB node (p0, p0) (List.take j acc) (List.take j (List.drop 1 path))).2)))))] [([(19, none)], none), ([(17, none)], none), ([(98, some 0), (99, some 1)], none)] 103 3 rfl rfl (by kernel_rfl) NewT.trans (NewT.refl _) (Nat.le_of_ble_eq_true rfl) ⟨?_, ?_, ?_, trivial⟩ ?_
                            · intro a wx hT hF K hK
                              obtain ⟨f19, _⟩ := hF
                              have f19 : a.tmps.getD 19 undef = .pointer (some ⟨p19, 0, none⟩) := f19
                              refine rely_wp rfl ?_
                              exact opr_load_hash rfl f19 (hT.row R19.out) (hK _ _ (NewT.refl _) rfl)
                            · intro a wx hT hF K hK
                              obtain ⟨f17, _⟩ := hF
                              have f17 : a.tmps.getD 17 undef = .pointer (some ⟨p17, 0, none⟩) := f17
                              refine rely_wp rfl ?_
                              exact opr_load_hash rfl f17 (hT.row R17.out) (hK _ _ (NewT.refl _) rfl)
                            · intro a wx hT hF K hK
                              obtain ⟨f98, f99, _⟩ := hF
                              have f98 : a.tmps.getD 98 undef = .agg (rowA 32 (bF (d))) := f98
                              have f99 : a.tmps.getD 99 undef = .agg (rowA 32 (bF ((foldB node (p0, p0) (List.take j acc) (List.take j (List.drop 1 path))).2))) := f99
                              refine rely_wp rfl ?_
                              exact opr_cv (RNode_cv hX (d) ((foldB node (p0, p0) (List.take j acc) (List.take j (List.drop 1 path))).2) wx (hT.tables HTs.out)) rfl Tryd.func32 (by kernel_rfl) (by kernel_rfl) (by simp only [List.map_toArray, List.map_cons, List.map_nil, eval_tmp, f98, f99]) hK
                            · intro wf kf
                              intro u h; obtain rfl := Eq.symm (h (by simp)); clear h
                              intro u h; obtain rfl := Eq.symm (h (by simp)); clear h
                              intro u h; obtain rfl := Eq.symm (h (by simp)); clear h
                              refine relyEnd_nil rfl ?_
                              simp only [Act.put, List.setIfInBounds_toArray, List.set_cons_zero, List.set_cons_succ]
                              refine wpList_plain rfl (fun K hK => ?_)
                              refine opr_putm (F := bF (node d ((foldB node (p0, p0) (List.take j acc) (List.take j (List.drop 1 path))).2))) rfl rfl rfl (kf.row R17.out) (by decide) info31 (fun _ => rfl) (fun i hi => by rw [if_pos (by omega), Nat.sub_zero]) ?_
                              intro wg qg rg
                              refine hK _ _ ?_
                              clear hK K
                              refine wpList_end rfl ?_
                              simp only [Act.put, List.setIfInBounds_toArray, List.set_cons_zero, List.set_cons_succ]
                              go_simp
                              have kfg := NewT.rt (NewT.trans _ _ _ HN2.out kf) qg HP7.out.2
                              have r16' := qg.row HNE.out (kf.row R16n.out)
                              go_wp2
                              go_roundw
                              case rel => exact ⟨j + 1, by omega, by go_num, kfg, by rw [foldB_next node (p0, p0) acc (List.drop 1 path) j false d HFJ.out HDD.out]; exact r16', by rw [foldB_next node (p0, p0) acc (List.drop 1 path) j false d HFJ.out HDD.out]; exact rg⟩
                              case measure => simp [intOf]; omega
                        · go_upto_region 27 with fail
                          refine wp_region_steps0 NewT [SV.eq (.agg (rowA 32 (bF ((foldB node (p0, p0) (List.take j acc) (List.take j (List.drop 1 path))).2)))), SV.eq (.agg (rowA 32 (bF (d)))), SV.eq (.agg (rowA 32 (bF (node ((foldB node (p0, p0) (List.take j acc) (List.take j (List.drop 1 path))).2) (d)))))] [([(17, none)], none), ([(19, none)], none), ([(92, some 0), (93, some 1)], none)] 103 3 rfl rfl (by kernel_rfl) NewT.trans (NewT.refl _) (Nat.le_of_ble_eq_true rfl) ⟨?_, ?_, ?_, trivial⟩ ?_
                          · intro a wx hT hF K hK
                            obtain ⟨f17, _⟩ := hF
                            have f17 : a.tmps.getD 17 undef = .pointer (some ⟨p17, 0, none⟩) := f17
                            refine rely_wp rfl ?_
                            exact opr_load_hash rfl f17 (hT.row R17.out) (hK _ _ (NewT.refl _) rfl)
                          · intro a wx hT hF K hK
                            obtain ⟨f19, _⟩ := hF
                            have f19 : a.tmps.getD 19 undef = .pointer (some ⟨p19, 0, none⟩) := f19
                            refine rely_wp rfl ?_
                            exact opr_load_hash rfl f19 (hT.row R19.out) (hK _ _ (NewT.refl _) rfl)
                          · intro a wx hT hF K hK
                            obtain ⟨f92, f93, _⟩ := hF
                            have f92 : a.tmps.getD 92 undef = .agg (rowA 32 (bF ((foldB node (p0, p0) (List.take j acc) (List.take j (List.drop 1 path))).2))) := f92
                            have f93 : a.tmps.getD 93 undef = .agg (rowA 32 (bF (d))) := f93
                            refine rely_wp rfl ?_
                            exact opr_cv (RNode_cv hX ((foldB node (p0, p0) (List.take j acc) (List.take j (List.drop 1 path))).2) (d) wx (hT.tables HTs.out)) rfl Tryd.func32 (by kernel_rfl) (by kernel_rfl) (by simp only [List.map_toArray, List.map_cons, List.map_nil, eval_tmp, f92, f93]) hK
                          · intro wd kd
                            intro u h; obtain rfl := Eq.symm (h (by simp)); clear h
                            intro u h; obtain rfl := Eq.symm (h (by simp)); clear h
                            intro u h; obtain rfl := Eq.symm (h (by simp)); clear h
                            refine relyEnd_nil rfl ?_
                            simp only [Act.put, List.setIfInBounds_toArray, List.set_cons_zero, List.set_cons_succ]
                            refine wpList_plain rfl (fun K hK => ?_)
                            refine opr_putm (F := bF (node ((foldB node (p0, p0) (List.take j acc) (List.take j (List.drop 1 path))).2) d)) rfl rfl rfl (kd.row R17.out) (by decide) info31 (fun _ => rfl) (fun i hi => by rw [if_pos (by omega), Nat.sub_zero]) ?_
                            intro we qe re
                            refine hK _ _ ?_
                            clear hK K
                            refine wpList_end rfl ?_
                            simp only [Act.put, List.setIfInBounds_toArray, List.set_cons_zero, List.set_cons_succ]
                            go_simp
                            have kde := NewT.rt (NewT.trans _ _ _ HN2.out kd) qe HP7.out.2
                            have r16' := qe.row HNE.out (kd.row R16.out)
                            go_wp2
                            go_roundw
                            case rel => exact ⟨j + 1, by omega, by go_num, kde, by rw [foldB_next node (p0, p0) acc (List.drop 1 path) j true d HFJ.out HDD.out]; exact r16', by rw [foldB_next node (p0, p0) acc (List.drop 1 path) j true d HFJ.out HDD.out]; exact re⟩
                            case measure => simp [intOf]; omega
                    · obtain rfl : j = acc.length := by omega
                      have it : ¬ (acc.length : Int) < (acc.length : Int) := by omega
                      have hX0 : foldB node (p0, p0) (List.take acc.length acc) (List.take acc.length (List.drop 1 path)) = (X, Y) := by
                        rw [HXY.out, List.take_length, List.take_of_length_le (by rw [List.length_drop]; have := HLN.out; omega)]
                        unfold upB
                        rw [HFA.out, ← HWW.out]
                        have hne : path ≠ [] := (by intro h; have := HLN.out; rw [h] at this; simp at this)
                        obtain ⟨x, xs, hx⟩ := List.exists_cons_of_ne_nil hne
                        have hp := HP0.out
                        rw [hx] at hp ⊢
                        simp at hp
                        subst hp
                        rfl
                      rw [hX0] at R16 R17
                      replace HNr := Lib.hid (NewT.trans _ _ _ HNr.out HN2.out)
                      have HNs := HNr
                      go_upto_region 30 with fail
                      refine wp_region_relyP (RW (w.heap.size + 1) (w.heap.size + 1 + 1)) (fun j w1 => TwoAt w1 (w.heap.size + 1) (w.heap.size + 1 + 1) (match j with | 0 => (fun _ => 0) | _ => X) (match j with | 0 => (fun _ => 0) | 1 => (fun _ => 0) | _ => Y)) [SV.eq (.agg (rowA 32 (bF (X)))), SV.eq (.agg (rowA 32 (bF (Y)))), SV.any, SV.any] [([(16, none)], none), ([(17, none)], none), ([(8, none), (101, some 0)], none), ([(9, none), (102, some 1)], none)] [none, none, some 0, some 1] [2, 3] 103 rfl (by kernel_rfl) rfl (by kernel_rfl) (by kernel_rfl) rfl (by kernel_rfl) RW.trans (RW.drew _ _ _) (TwoAt.new ⟨R8s.out, R9s.out⟩ (NewT.drew _)) (Nat.le_of_ble_eq_true rfl) ⟨?_, ?_, ?_, ?_, trivial⟩ ?_
                      · intro a wx hT hF K hK
                        replace hK := fun v w' (hN : NewT wx w') hv => hK v w' (RW.new (Nat.lt_of_lt_of_le R8s.out.lt hT.size) hN) (fun k h => TwoAt.new h hN) hv
                        obtain ⟨f16, _⟩ := hF
                        have f16 : a.tmps.getD 16 undef = .pointer (some ⟨p16, 0, none⟩) := f16
                        refine rely_wp rfl ?_
                        exact opr_load_hash rfl f16 (hT.row (by have := HP6.out; have := HP7.out; omega) R16.out) (hK _ _ (NewT.refl _) rfl)
                      · intro a wx hT hF K hK
                        replace hK := fun v w' (hN : NewT wx w') hv => hK v w' (RW.new (Nat.lt_of_lt_of_le R8s.out.lt hT.size) hN) (fun k h => TwoAt.new h hN) hv
                        obtain ⟨f17, _⟩ := hF
                        have f17 : a.tmps.getD 17 undef = .pointer (some ⟨p17, 0, none⟩) := f17
                        refine rely_wp rfl ?_
                        exact opr_load_hash rfl f17 (hT.row (by have := HP6.out; have := HP7.out; omega) R17.out) (hK _ _ (NewT.refl _) rfl)
                      · intro a wx hT hF hJ K hK
                        obtain ⟨f8, f101, _⟩ := hF
                        have f8 : a.tmps.getD 8 undef = .pointer (some ⟨w.heap.size + 1, 0, none⟩) := f8
                        have f101 : a.tmps.getD 101 undef = .agg (rowA 32 (bF (X))) := f101
                        refine rely_wp rfl ?_
                        refine opr_putm (F := bF X) rfl f8 f101 hJ.1 (by decide) info31 (fun _ => rfl) (fun i hi => by rw [if_pos (by omega), Nat.sub_zero]) ?_
                        intro w' hR r'
                        exact hK undef w' (RW.fst hR) ⟨r', hR.row (by omega) hJ.2⟩ trivial
                      · intro a wx hT hF hJ K hK
                        obtain ⟨f9, f102, _⟩ := hF
                        have f9 : a.tmps.getD 9 undef = .pointer (some ⟨w.heap.size + 1 + 1, 0, none⟩) := f9
                        have f102 : a.tmps.getD 102 undef = .agg (rowA 32 (bF (Y))) := f102
                        refine rely_wp rfl ?_
                        refine opr_putm (F := bF Y) rfl f9 f102 hJ.2 (by decide) info31 (fun _ => rfl) (fun i hi => by rw [if_pos (by omega), Nat.sub_zero]) ?_
                        intro w' hR r'
                        exact hK undef w' (RW.snd hR) ⟨hR.row (by omega) hJ.1, r'⟩ trivial
                      · intro w9 k9 hJ
                        intro u h; obtain rfl := Eq.symm (h (by simp)); clear h
                        intro u h; obtain rfl := Eq.symm (h (by simp)); clear h
                        intro _ _
                        intro _ _
                        refine relyEnd_nil rfl ?_
                        simp only [Act.put, List.setIfInBounds_toArray, List.set_cons_zero, List.set_cons_succ]
                        refine opr_move (.inr rfl) ?_
                        go_simp
                        go_wp2
                        refine bodyPost_ret (results_rrt rfl rfl rfl rfl hJ.1 hJ.2 Tryd.underlying29 rfl info31) rfl ⟨_, rfl, NewT.rw HNs.out k9 (by omega) (by omega), ?_⟩
                        show _ = _
                        rw [HB1.out]
                        rfl
              · obtain ⟨hXY, hb1⟩ := HNO.out (by unfold needS; rw [HFA.out, ← HWW.out]; simp; omega)
                have HXY := Lib.hid hXY
                have HB1 := Lib.hid hb1
                have t19 : ((path.length : Int) - 1 != (acc.length : Int)) = true := by rw [bne_iff_ne]; omega
                clear hXY hb1 hlen
                go_upto_region 19 with fail
                refine wp_region_lit ?_
                refine wpList_plain rfl (fun K hK => ?_)
                refine opr_move (.inl rfl) (hK _ _ ?_)
                clear hK K
                refine wpList_plain rfl (fun K hK => ?_)
                refine opr_len rfl Tryd.underlying22 rfl (hK _ _ ?_)
                clear hK K
                refine wpList_plain rfl (fun K hK => ?_)
                refine opr_move (.inl rfl) (hK _ _ ?_)
                clear hK K
                simp only [Act.put, List.setIfInBounds_toArray, List.set_cons_zero, List.set_cons_succ]
                refine wpList_plain rfl (fun K hK => ?_)
                refine opr_sub (r := ((path.length : Int) - 1)) Tryd.underlying3 (by unfold wrap64; have := HPL.out; omega) rfl rfl rfl (hK _ _ ?_)
                clear hK K
                refine wpList_plain rfl (fun K hK => ?_)
                refine opr_move (.inl rfl) (hK _ _ ?_)
                clear hK K
                refine wpList_plain rfl (fun K hK => ?_)
                refine opr_len rfl Tryd.underlying48 rfl (hK _ _ ?_)
                clear hK K
                simp only [Act.put, List.setIfInBounds_toArray, List.set_cons_zero, List.set_cons_succ]
                refine wpList_plain rfl (fun K hK => ?_)
                refine opr_cmp (b := true) (.inr (.inl ⟨rfl, t19⟩)) Tryd.underlying3 rfl rfl rfl (hK _ _ ?_)
                clear hK K
                refine wpList_end rfl ?_
                simp only [Act.put, List.setIfInBounds_toArray, List.set_cons_zero, List.set_cons_succ]
                go_simp
                clear t19
                go_upto_region 20 with fail
                refine wp_region_lit ?_
                refine wpList_plain rfl (fun K hK => ?_)
                refine opr_build0 rfl (hK _ _ ?_)
                clear hK K
                refine wpList_plain rfl (fun K hK => ?_)
                refine opr_build0 rfl (hK _ _ ?_)
                clear hK K
                simp only [Act.put, List.setIfInBounds_toArray, List.set_cons_zero, List.set_cons_succ]
                refine wpList_plain rfl (fun K hK => ?_)
                refine opr_putm (F := bF (fun _ => 0)) rfl rfl rfl (R8.out) (by decide) info31 (fun _ => rfl) (fun i hi => by rw [if_pos (by omega), Nat.sub_zero]) ?_
                intro wz1 hz1 rz1
                refine hK _ _ ?_
                clear hK K
                refine wpList_plain rfl (fun K hK => ?_)
                refine opr_putm (F := bF (fun _ => 0)) rfl rfl rfl (hz1.row (by omega) R9.out) (by decide) info31 (fun _ => rfl) (fun i hi => by rw [if_pos (by omega), Nat.sub_zero]) ?_
                intro wz2 hz2 rz2
                refine hK _ _ ?_
                clear hK K
                refine wpList_plain rfl (fun K hK => ?_)
                refine opr_move (.inr rfl) (hK _ _ ?_)
                refine wpList_end rfl ?_
                simp only [Act.put, List.setIfInBounds_toArray, List.set_cons_zero, List.set_cons_succ]
                go_simp
                go_wp2
                refine bodyPost_ret (results_rrt rfl rfl rfl rfl (hz2.row (by omega) rz1) rz2 Tryd.underlying29 rfl info31) rfl ⟨_, rfl, NewT.rt (NewT.rt HNr.out hz1 (by omega)) hz2 (by omega), ?_⟩
                show _ = _
                have e := HXY.out
                injection e with e1 e2
                rw [e1, e2, HB1.out]
                rfl
        · obtain ⟨wq, hwq⟩ : ∃ W, w5 = W := ⟨_, rfl⟩
          subst hwq
          have HN15 := Lib.hid R15.out.lt
          by_cases hlen : path.length = acc.length + 0
          · obtain ⟨hXY, hb1⟩ := HOK.out (by unfold needS; rw [HFA.out, ← HWW.out]; simp; omega)
            have HXY := Lib.hid hXY
            have HB1 := Lib.hid hb1
            have HLN := Lib.hid hlen
            have t19 : ((path.length : Int) != (acc.length : Int)) = false := bne_eq_false_iff_eq.2 (by omega)
            clear hXY hb1 hlen
            go_upto_region 19 with fail
            refine wp_region_lit ?_
            refine wpList_plain rfl (fun K hK => ?_)
            refine opr_move (.inl rfl) (hK _ _ ?_)
            clear hK K
            refine wpList_plain rfl (fun K hK => ?_)
            refine opr_len rfl Tryd.underlying22 rfl (hK _ _ ?_)
            clear hK K
            refine wpList_plain rfl (fun K hK => ?_)
            refine opr_move (.inl rfl) (hK _ _ ?_)
            clear hK K
            simp only [Act.put, List.setIfInBounds_toArray, List.set_cons_zero, List.set_cons_succ]
            refine wpList_plain rfl (fun K hK => ?_)
            refine opr_sub (r := (path.length : Int)) Tryd.underlying3 (by unfold wrap64; have := HPL.out; omega) rfl rfl rfl (hK _ _ ?_)
            clear hK K
            refine wpList_plain rfl (fun K hK => ?_)
            refine opr_move (.inl rfl) (hK _ _ ?_)
            clear hK K
            refine wpList_plain rfl (fun K hK => ?_)
            refine opr_len rfl Tryd.underlying48 rfl (hK _ _ ?_)
            clear hK K
            simp only [Act.put, List.setIfInBounds_toArray, List.set_cons_zero, List.set_cons_succ]
            refine wpList_plain rfl (fun K hK => ?_)
            refine opr_cmp (b := false) (.inr (.inl ⟨rfl, t19⟩)) Tryd.underlying3 rfl rfl rfl (hK _ _ ?_)
            clear hK K
            refine wpList_end rfl ?_
            simp only [Act.put, List.setIfInBounds_toArray, List.set_cons_zero, List.set_cons_succ]
            go_simp
            clear t19
            go_upto_region 21 with fail
            refine wp_region_relyA0 (TB w5.heap.size) (fun j a w1 => VarsAt w5.heap.size [(16, match j with | 0 => (fun _ => 0) | 1 => (fun _ => 0) | _ => old), (17, (fun _ => 0))] a w1) [SV.eq (.agg (rowA 32 (bF (old)))), SV.eq (.agg (rowA 32 (bF (old)))), svPt, svPt, SV.any] [([(15, none)], none), ([(15, none)], none), ([], none), ([], none), ([(16, some 2), (74, some 0)], none)] [none, none, some 0, none, some 1] [2, 4] 103 rfl (by kernel_rfl) rfl (by kernel_rfl) (by kernel_rfl) rfl (by kernel_rfl) TB.trans (TB.drew _ _) ⟨⟨fun p hp g h => (by simp at hp; rcases hp with rfl | rfl <;> cases h), fun p hp q hq hpq g g2 h => (by simp at hp; rcases hp with rfl | rfl <;> cases h)⟩, fun p hp g h => (by simp at hp; rcases hp with rfl | rfl <;> cases h)⟩ (Nat.le_of_ble_eq_true rfl) ⟨?_, ?_, ?_, ?_, ?_, trivial⟩ ?_
            · intro a wx hT hF K hK
              replace hK := fun v w' (hN : NewT wx w') hv => hK v w' (TB.of_new (hT.size) hN) (fun k h => VarsAt.keep h (by simp) hN) hv
              obtain ⟨f15, _⟩ := hF
              have f15 : a.tmps.getD 15 undef = .pointer (some ⟨p15, 0, none⟩) := f15
              refine rely_wp rfl ?_
              exact opr_load_hash rfl f15 ((hT.out (Nat.le_refl _)).row R15.out) (hK _ _ (NewT.refl _) rfl)
            · intro a wx hT hF K hK
              replace hK := fun v w' (hN : NewT wx w') hv => hK v w' (TB.of_new (hT.size) hN) (fun k h => VarsAt.keep h (by simp) hN) hv
              obtain ⟨f15, _⟩ := hF
              have f15 : a.tmps.getD 15 undef = .pointer (some ⟨p15, 0, none⟩) := f15
              refine rely_wp rfl ?_
              exact opr_load_hash rfl f15 ((hT.out (Nat.le_refl _)).row R15.out) (hK _ _ (NewT.refl _) rfl)
            · intro a wx hT hF hJ K hK
              refine rely_wp rfl ?_
              refine opr_alloc_at rfl ?_
              exact hK _ _ (TB.of_new (hT.size) (NewT.alloc _ _)) (VarsAt.make hJ hT.size (by simp)) ⟨_, rfl⟩
            · intro a wx hT hF K hK
              refine rely_wp rfl ?_
              refine opr_alloc_at rfl ?_
              exact hK _ _ (TB.of_new (hT.size) (NewT.alloc _ _)) (fun k hJ => VarsAt.make hJ hT.size (by simp)) ⟨_, rfl⟩
            · intro a wx hT hF hJ K hK
              obtain ⟨f16, f74, _⟩ := hF
              replace f16 := show (svPt).pred (a.tmps.getD 16 undef) wx from f16
              have f74 : a.tmps.getD 74 undef = .agg (rowA 32 (bF (old))) := f74
              refine rely_wp rfl ?_
              obtain ⟨g, hg⟩ := f16
              obtain ⟨hb, hr⟩ := hJ.2 (16, (fun _ => 0)) (by simp) g hg
              refine opr_putm (F := bF (old)) rfl hg f74 hr (by decide) info31 (fun _ => rfl) (fun i hi => by rw [if_pos (by omega), Nat.sub_zero]) ?_
              intro w' hR r'
              exact hK undef w' (TB.of_rt hR hb hr r') (VarsAt.put hJ rfl hg (by simp) hR r' (by simp)) trivial
            · intro w7 k7
              intro u h; obtain rfl := Eq.symm (h (by simp)); clear h
              intro u h; obtain rfl := Eq.symm (h (by simp)); clear h
              intro u h; obtain ⟨p16, hv⟩ := (h (by simp)); clear h; subst hv
              intro u h; obtain ⟨p17, hv⟩ := (h (by simp)); clear h; subst hv
              intro _ _
              refine relyEnd_nil rfl ?_
              intro hJ
              simp only [Act.put, List.setIfInBounds_toArray, List.set_cons_zero, List.set_cons_succ]
              have hr16 := hJ.2 (16, old) (by simp) p16 (by kernel_rfl)
              have hr17 := hJ.2 (17, (fun _ => 0)) (by simp) p17 (by kernel_rfl)
              have hne := hJ.1.2 16 (by simp) 17 (by simp) (by decide) p16 p17 (by kernel_rfl) (by kernel_rfl)
              refine opr_putm (F := bF (old)) rfl rfl rfl hr17.2 (by decide) info31 (fun _ => rfl) (fun i hi => by rw [if_pos (by omega), Nat.sub_zero]) ?_
              intro w8 q8 r17
              go_simp
              have HNs : Hid (NewT w5 w8) := Lib.hid (NewT.rt (k7.out (Nat.le_refl _)) q8 hr17.1)
              have HR16 := Lib.hid (q8.row hne hr16.2)
              have HR17 := Lib.hid r17
              have HP6 : Hid (w.heap.size + 1 + 1 < p16 ∧ w5.heap.size ≤ p16) := Lib.hid ⟨by have := R9.out.lt; have := hr16.1; omega, hr16.1⟩
              have HP7 : Hid (w.heap.size + 1 + 1 < p17 ∧ w5.heap.size ≤ p17) := Lib.hid ⟨by have := R9.out.lt; have := hr17.1; omega, hr17.1⟩
              have HNE := Lib.hid hne
              clear hr16 hr17 hne r17 q8 k7
              go_wp2
              go_loopw [18] (fun x ws => ∃ j : Nat, j ≤ acc.length ∧ x = .int .i64 (j : Int) ∧ NewT w5 ws ∧ ws.rowIs p16 29 32 (bF ((foldB node (old, old) (List.take j acc) (List.take j (List.drop 0 path))).1)) ∧ ws.rowIs p17 29 32 (bF ((foldB node (old, old) (List.take j acc) (List.take j (List.drop 0 path))).2))) (fun x _ => acc.length - (intOf x).toNat)
              case atStart => exact ⟨0, by omega, rfl, HNs.out, HR16.out, HR17.out⟩
              case round =>
                obtain ⟨j, hj, rfl, hN2, h16, h17⟩ := hrel
                have HN2 := Lib.hid hN2
                have R16 := Lib.hid h16
                have R17 := Lib.hid h17
                have HVs := Lib.hid (hN2.hs HVr.out)
                have HQs := Lib.hid (hN2.qs HQr.out)
                have HTs := Lib.hid (hN2.tables HTr.out)
                have R8s := Lib.hid (hN2.row R8.out)
                have R9s := Lib.hid (hN2.row R9.out)
                clear hN2 h16 h17 HNs HR16 HR17
                by_cases hjl : j < acc.length
                · have it : (j : Int) < (acc.length : Int) := by omega
                  have hjb : acc.length ≤ 1000 := by have := HPL.out; have := HLN.out; omega
                  obtain ⟨d, hd⟩ : ∃ d, path[0 + j]? = some d := ⟨_, List.getElem?_eq_getElem (by have := HLN.out; omega)⟩
                  have HDJ := Lib.hid hd
                  have HDD : Hid ((List.drop 0 path)[j]? = some d) := Lib.hid (by rw [List.getElem?_drop]; exact hd)
                  obtain ⟨bj, hbj⟩ : ∃ b, acc[j]? = some b := ⟨_, List.getElem?_eq_getElem hjl⟩
                  have HFJ := Lib.hid hbj
                  clear hd hbj
                  go_upto_region 25 with fail
                  obtain ⟨v, ev⟩ : ∃ v, Value.slice A path.length c = v := ⟨_, rfl⟩
                  rw [ev] at HVs ⊢
                  refine wp_region_steps0 NewT [SV.eq (v), SV.eq (.int .i64 (0)), SV.eq (.int .i64 ((j : Int))), SV.eq (.int .i64 ((0 + (j : Int)))), svP (d), SV.eq (.agg (rowA 32 (bF (d))))] [([(3, none)], none), ([(14, none)], none), ([(18, none)], none), ([(83, some 1), (84, some 2)], none), ([(82, some 0), (85, some 3)], none), ([(86, some 4)], none)] 103 6 rfl rfl (by kernel_rfl) NewT.trans (NewT.refl _) (Nat.le_of_ble_eq_true rfl) ⟨?_, ?_, ?_, ?_, ?_, ?_, trivial⟩ ?_
                  · intro a wx hT hF K hK
                    obtain ⟨f3, _⟩ := hF
                    have f3 : a.tmps.getD 3 undef = v := f3
                    refine rely_wp rfl ?_
                    exact opr_move (.inl rfl) (hK _ _ (NewT.refl _) f3)
                  · intro a wx hT hF K hK
                    obtain ⟨f14, _⟩ := hF
                    have f14 : a.tmps.getD 14 undef = .int .i64 (0) := f14
                    refine rely_wp rfl ?_
                    exact opr_move (.inl rfl) (hK _ _ (NewT.refl _) f14)
                  · intro a wx hT hF K hK
                    obtain ⟨f18, _⟩ := hF
                    have f18 : a.tmps.getD 18 undef = .int .i64 ((j : Int)) := f18
                    refine rely_wp rfl ?_
                    exact opr_move (.inl rfl) (hK _ _ (NewT.refl _) f18)
                  · intro a wx hT hF K hK
                    obtain ⟨f83, f84, _⟩ := hF
                    have f83 : a.tmps.getD 83 undef = .int .i64 (0) := f83
                    have f84 : a.tmps.getD 84 undef = .int .i64 ((j : Int)) := f84
                    refine rely_wp rfl ?_
                    exact opr_add (r := (0 + (j : Int))) Tryd.underlying3 (by unfold wrap64; have := HPL.out; have := HLN.out; omega) rfl f83 f84 (hK _ _ (NewT.refl _) rfl)
                  · intro a wx hT hF K hK
                    obtain ⟨f82, f85, _⟩ := hF
                    have f82 : a.tmps.getD 82 undef = v := f82
                    have f85 : a.tmps.getD 85 undef = .int .i64 ((0 + (j : Int))) := f85
                    refine rely_wp rfl ?_
                    exact opr_idxH (i := (0 + j)) (d := d) (HDJ.out) (by omega) rfl (by rw [eval_tmp, f82]; exact (hT.hs HVs.out)) f85 (fun v hv => hK v _ (NewT.refl _) hv)
                  · intro a wx hT hF K hK
                    obtain ⟨f86, _⟩ := hF
                    replace f86 := show (svP (d)).pred (a.tmps.getD 86 undef) wx from f86
                    refine rely_wp rfl ?_
                    exact opr_ldP rfl f86 (hK _ _ (NewT.refl _) rfl)
                  · intro wb kb
                    intro u h; obtain rfl := Eq.symm (h (by simp)); clear h
                    intro u h; obtain rfl := Eq.symm (h (by simp)); clear h
                    intro u h; obtain rfl := Eq.symm (h (by simp)); clear h
                    intro u h; obtain rfl := Eq.symm (h (by simp)); clear h
                    intro _ _
                    intro u h; obtain rfl := Eq.symm (h (by simp)); clear h
                    refine relyEnd_nil rfl ?_
                    simp only [Act.put, List.setIfInBounds_toArray, List.set_cons_zero, List.set_cons_succ]
                    refine wpList_new (n := 32) rfl rfl rfl rfl rfl rfl (by simp) run_alloc_hash info31 (fun _ => rfl) rfl ?_
                    intro wc hnc r19
                    refine wpList_end rfl ?_
                    simp only [Act.put, List.setIfInBounds_toArray, List.set_cons_zero, List.set_cons_succ]
                    go_simp
                    subst ev
                    obtain ⟨p19, hp19⟩ : ∃ p, wb.heap.size = p := ⟨_, rfl⟩
                    rw [hp19] at r19 ⊢
                    have kc := NewT.trans _ _ _ kb hnc
                    have HP19 : Hid (p16 < p19 ∧ p17 < p19) := Lib.hid ⟨by have := (kb.row R16.out).lt; omega, by have := (kb.row R17.out).lt; omega⟩
                    have R19 := Lib.hid r19
                    replace R16 := Lib.hid (kc.row R16.out)
                    replace R17 := Lib.hid (kc.row R17.out)
                    replace HQs := Lib.hid (kc.qs HQs.out)
                    replace HTs := Lib.hid (kc.tables HTs.out)
                    replace HN2 := Lib.hid (NewT.trans _ _ _ HN2.out kc)
                    clear r19 hp19 kb hnc kc HVs R8s R9s
                    go_upto_region 26 with fail
                    refine wp_region_lit ?_
                    refine wpList_plain rfl (fun K hK => ?_)
                    refine opr_move (.inl rfl) (hK _ _ ?_)
                    clear hK K
                    refine wpList_plain rfl (fun K hK => ?_)
                    refine opr_move (.inl rfl) (hK _ _ ?_)
                    clear hK K
                    simp only [Act.put, List.setIfInBounds_toArray, List.set_cons_zero, List.set_cons_succ]
                    refine wp_idxQ HFJ.out rfl rfl rfl rfl (by simp) rfl HQs.out rfl ?_
                    intro p90
                    refine wpList_end rfl ?_
                    simp only [Act.put, List.setIfInBounds_toArray, List.set_cons_zero, List.set_cons_succ]
                    go_simp
                    cases bj
                    · go_upto_region 28 with fail
                      refine wp_region_steps0 NewT [SV.eq (.agg (rowA 32 (bF (d)))), SV.eq (.agg (rowA 32 (bF ((foldB node (old, old) (List.take j acc) (List.take j (List.drop 0 path))).1)))), SV.eq (.agg (rowA 32 (bF (node (d) ((foldB node (old, old) (List.take j acc) (List.take j (List.drop 0 path))).1)))))] [([(19, none)], none), ([(16, none)], none), ([(95, some 0), (96, some 1)], none)] 103 3 rfl rfl (by kernel_rfl) NewT.trans (NewT.refl _) (Nat.le_of_ble_eq_true rfl) ⟨?_, ?_, ?_, trivial⟩ ?_
                      · intro a wx hT hF K hK
                        obtain ⟨f19, _⟩ := hF
                        have f19 : a.tmps.getD 19 undef = .pointer (some ⟨p19, 0, none⟩) := f19
                        refine rely_wp rfl ?_
                        exact opr_load_hash rfl f19 (hT.row R19.out) (hK _ _ (NewT.refl _) rfl)
                      · intro a wx hT hF K hK
                        obtain ⟨f16, _⟩ := hF
                        have f16 : a.tmps.getD 16 undef = .pointer (some ⟨p16, 0, none⟩) := f16
                        refine rely_wp rfl ?_
                        exact opr_load_hash rfl f16 (hT.row R16.out) (hK _ _ (NewT.refl _) rfl)
                      · intro a wx hT hF K hK
                        obtain ⟨f95, f96, _⟩ := hF
                        have f95 : a.tmps.getD 95 undef = .agg (rowA 32 (bF (d))) := f95
                        have f96 : a.tmps.getD 96 undef = .agg (rowA 32 (bF ((foldB node (old, old) (List.take j acc) (List.take j (List.drop 0 path))).1))) := f96
                        refine rely_wp rfl ?_
                        exact opr_cv (RNode_cv hX (d) ((foldB node (old, old) (List.take j acc) (List.take j (List.drop 0 path))).1) wx (hT.tables HTs.out)) rfl Tryd.func32 (by kernel_rfl) (by kernel_rfl) (by simp only [List.map_toArray, List.map_cons, List.map_nil, eval_tmp, f95, f96]) hK
                      · intro wd kd
                        intro u h; obtain rfl := Eq.symm (h (by simp)); clear h
                        intro u h; obtain rfl := Eq.symm (h (by simp)); clear h
                        intro u h; obtain rfl := Eq.symm (h (by simp)); clear h
                        refine relyEnd_nil rfl ?_
                        simp only [Act.put, List.setIfInBounds_toArray, List.set_cons_zero, List.set_cons_succ]
                        refine wpList_plain rfl (fun K hK => ?_)
                        refine opr_putm (F := bF (node d ((foldB node (old, old) (List.take j acc) (List.take j (List.drop 0 path))).1))) rfl rfl rfl (kd.row R16.out) (by decide) info31 (fun _ => rfl) (fun i hi => by rw [if_pos (by omega), Nat.sub_zero]) ?_
                        intro we qe re
                        refine hK _ _ ?_
                        clear hK K
                        refine wpList_end rfl ?_
                        simp only [Act.put, List.setIfInBounds_toArray, List.set_cons_zero, List.set_cons_succ]
                        go_simp
                        have kde := NewT.rt (NewT.trans _ _ _ HN2.out kd) qe HP6.out.2
                        replace R19 := Lib.hid (qe.row (by have := HP19.out; omega) (kd.row R19.out))
                        replace R17 := Lib.hid (qe.row (Ne.symm HNE.out) (kd.row R17.out))
                        have R16n := Lib.hid re
                        replace HTs := Lib.hid (kde.tables HTr.out)
                        replace HN2 := Lib.hid kde
                        clear kde qe re kd
                        go_upto_region 29 with fail
                        refine wp_region_steps0 NewT [SV.eq (.agg (rowA 32 (bF (d)))), SV.eq (.agg (rowA 32 (bF ((foldB node (old, old) (List.take j acc) (List.take j (List.drop 0 path))).2)))), SV.eq (.agg (rowA 32 (bF (node (d) ((foldB node (old, old) (List.take j acc) (List.take j (List.drop 0 path))).2)))))] [([(19, none)], none), ([(17, none)], none), ([(98, some 0), (99, some 1)], none)] 103 3 rfl rfl (by kernel_rfl) NewT.trans (NewT.refl _) (Nat.le_of_ble_eq_true rfl) ⟨?_, ?_, ?_, trivial⟩ ?_
                        · intro a wx hT hF K hK
                          obtain ⟨f19, _⟩ := hF
                          have f19 : a.tmps.getD 19 undef = .pointer (some ⟨p19, 0, none⟩) := f19
                          refine rely_wp rfl ?_
                          exact opr_load_hash rfl f19 (hT.row R19.out) (hK _ _ (NewT.refl _) rfl)
                        · intro a wx hT hF K hK
                          obtain ⟨f17, _⟩ := hF
                          have f17 : a.tmps.getD 17 undef = .pointer (some ⟨p17, 0, none⟩) := f17
                          refine rely_wp rfl ?_
                          exact opr_load_hash rfl f17 (hT.row R17.out) (hK _ _ (NewT.refl _) rfl)
                        · intro a wx hT hF K hK
                          obtain ⟨f98, f99, _⟩ := hF
                          have f98 : a.tmps.getD 98 undef = .agg (rowA 32 (bF (d))) := f98
                          have f99 : a.tmps.getD 99 undef = .agg (rowA 32 (bF ((foldB node (old, old) (List.take j acc) (List.take j (List.drop 0 path))).2))) := f99
                          refine rely_wp rfl ?_
                          exact opr_cv (RNode_cv hX (d) ((foldB node (old, old) (List.take j acc) (List.take j (List.drop 0 path))).2) wx (hT.tables HTs.out)) rfl Tryd.func32 (by kernel_rfl) (by kernel_rfl) (by simp only [List.map_toArray, List.map_cons, List.map_nil, eval_tmp, f98, f99]) hK
                        · intro wf kf
                          intro u h; obtain rfl := Eq.symm (h (by simp)); clear h
                          intro u h; obtain rfl := Eq.symm (h (by simp)); clear h
                          intro u h; obtain rfl := Eq.symm (h (by simp)); clear h
                          refine relyEnd_nil rfl ?_
                          simp only [Act.put, List.setIfInBounds_toArray, List.set_cons_zero, List.set_cons_succ]
                          refine wpList_plain rfl (fun K hK => ?_)
                          refine opr_putm (F := bF (node d ((foldB node (old, old) (List.take j acc) (List.take j (List.drop 0 path))).2))) rfl rfl rfl (kf.row R17.out) (by decide) info31 (fun _ => rfl) (fun i hi => by rw [if_pos (by omega), Nat.sub_zero]) ?_
                          intro wg qg rg
                          refine hK _ _ ?_
                          clear hK K
                          refine wpList_end rfl ?_
                          simp only [Act.put, List.setIfInBounds_toArray, List.set_cons_zero, List.set_cons_succ]
                          go_simp
                          have kfg := NewT.rt (NewT.trans _ _ _ HN2.out kf) qg HP7.out.2
                          have r16' := qg.row HNE.out (kf.row R16n.out)
                          go_wp2
                          go_roundw
                          case rel => exact ⟨j + 1, by omega, by go_num, kfg, by rw [foldB_next node (old, old) acc (List.drop 0 path) j false d HFJ.out HDD.out]; exact r16', by rw [foldB_next node (old, old) acc (List.drop 0 path) j false d HFJ.out HDD.out]; exact rg⟩
                          case measure => simp [intOf]; omega
                    · go_upto_region 27 with fail
                      refine wp_region_steps0 NewT [SV.eq (.agg (rowA 32 (bF ((foldB node (old, old) (List.take j acc) (List.take j (List.drop 0 path))).2)))), SV.eq (.agg (rowA 32 (bF (d)))), SV.eq (.agg (rowA 32 (bF (node ((foldB node (old, old) (List.take j acc) (List.take j (List.drop 0 path))).2) (d)))))] [([(17, none)], none), ([(19, none)], none), ([(92, some 0), (93, some 1)], none)] 103 3 rfl rfl (by kernel_rfl) NewT.trans (NewT.refl _) (Nat.le_of_ble_eq_true rfl) ⟨?_, ?_, ?_, trivial⟩ ?_
                      · intro a wx hT hF K hK
                        obtain ⟨f17, _⟩ := hF
                        have f17 : a.tmps.getD 17 undef = .pointer (some ⟨p17, 0, none⟩) := f17
                        refine rely_wp rfl ?_
                        exact opr_load_hash rfl f17 (hT.row R17.out) (hK _ _ (NewT.refl _) rfl)
                      · intro a wx hT hF K hK
                        obtain ⟨f19, _⟩ := hF
                        have f19 : a.tmps.getD 19 undef = .pointer (some ⟨p19, 0, none⟩) := f19
                        refine rely_wp rfl ?_
                        exact opr_load_hash rfl f19 (hT.row R19.out) (hK _ _ (NewT.refl _) rfl)
                      · intro a wx hT hF K hK
                        obtain ⟨f92, f93, _⟩ := hF
                        have f92 : a.tmps.getD 92 undef = .agg (rowA 32 (bF ((foldB node (old, old) (List.take j acc) (List.take j (List.drop 0 path))).2))) := f92
                        have f93 : a.tmps.getD 93 undef = .agg (rowA 32 (bF (d))) := f93
                        refine rely_wp rfl ?_
                        exact opr_cv (RNode_cv hX ((foldB node (old, old) (List.take j acc) (List.take j (List.drop 0 path))).2) (d) wx (hT.tables HTs.out)) rfl Tryd.func32 (by kernel_rfl) (by kernel_rfl) (by simp only [List.map_toArray, List.map_cons, List.map_nil, eval_tmp, f92, f93]) hK
                      · intro wd kd
                        intro u h; obtain rfl := Eq.symm (h (by simp)); clear h
                        intro u h; obtain rfl := Eq.symm (h (by simp)); clear h
                        intro u h; obtain rfl := Eq.symm (h (by simp)); clear h
                        refine relyEnd_nil rfl ?_
                        simp only [Act.put, List.setIfInBounds_toArray, List.set_cons_zero, List.set_cons_succ]
                        refine wpList_plain rfl (fun K hK => ?_)
                        refine opr_putm (F := bF (node ((foldB node (old, old) (List.take j acc) (List.take j (List.drop 0 path))).2) d)) rfl rfl rfl (kd.row R17.out) (by decide) info31 (fun _ => rfl) (fun i hi => by rw [if_pos (by omega), Nat.sub_zero]) ?_
                        intro we qe re
                        refine hK _ _ ?_
                        clear hK K
                        refine wpList_end rfl ?_
                        simp only [Act.put, List.setIfInBounds_toArray, List.set_cons_zero, List.set_cons_succ]
                        go_simp
                        have kde := NewT.rt (NewT.trans _ _ _ HN2.out kd) qe HP7.out.2
                        have r16' := qe.row HNE.out (kd.row R16.out)
                        go_wp2
                        go_roundw
                        case rel => exact ⟨j + 1, by omega, by go_num, kde, by rw [foldB_next node (old, old) acc (List.drop 0 path) j true d HFJ.out HDD.out]; exact r16', by rw [foldB_next node (old, old) acc (List.drop 0 path) j true d HFJ.out HDD.out]; exact re⟩
                        case measure => simp [intOf]; omega
                · obtain rfl : j = acc.length := by omega
                  have it : ¬ (acc.length : Int) < (acc.length : Int) := by omega
                  have hX0 : foldB node (old, old) (List.take acc.length acc) (List.take acc.length (List.drop 0 path)) = (X, Y) := by
                    rw [HXY.out, List.take_length, List.take_of_length_le (by rw [List.length_drop]; have := HLN.out; omega)]
                    unfold upB
                    rw [HFA.out, ← HWW.out]
                    rfl
                  rw [hX0] at R16 R17
                  replace HNr := Lib.hid (NewT.trans _ _ _ HNr.out HN2.out)
                  have HNs := HNr
                  go_upto_region 30 with fail
                  refine wp_region_relyP (RW (w.heap.size + 1) (w.heap.size + 1 + 1)) (fun j w1 => TwoAt w1 (w.heap.size + 1) (w.heap.size + 1 + 1) (match j with | 0 => (fun _ => 0) | _ => X) (match j with | 0 => (fun _ => 0) | 1 => (fun _ => 0) | _ => Y)) [SV.eq (.agg (rowA 32 (bF (X)))), SV.eq (.agg (rowA 32 (bF (Y)))), SV.any, SV.any] [([(16, none)], none), ([(17, none)], none), ([(8, none), (101, some 0)], none), ([(9, none), (102, some 1)], none)] [none, none, some 0, some 1] [2, 3] 103 rfl (by kernel_rfl) rfl (by kernel_rfl) (by kernel_rfl) rfl (by kernel_rfl) RW.trans (RW.drew _ _ _) (TwoAt.new ⟨R8s.out, R9s.out⟩ (NewT.drew _)) (Nat.le_of_ble_eq_true rfl) ⟨?_, ?_, ?_, ?_, trivial⟩ ?_
                  · intro a wx hT hF K hK
                    replace hK := fun v w' (hN : NewT wx w') hv => hK v w' (RW.new (Nat.lt_of_lt_of_le R8s.out.lt hT.size) hN) (fun k h => TwoAt.new h hN) hv
                    obtain ⟨f16, _⟩ := hF
                    have f16 : a.tmps.getD 16 undef = .pointer (some ⟨p16, 0, none⟩) := f16
                    refine rely_wp rfl ?_
                    exact opr_load_hash rfl f16 (hT.row (by have := HP6.out; have := HP7.out; omega) R16.out) (hK _ _ (NewT.refl _) rfl)
                  · intro a wx hT hF K hK
                    replace hK := fun v w' (hN : NewT wx w') hv => hK v w' (RW.new (Nat.lt_of_lt_of_le R8s.out.lt hT.size) hN) (fun k h => TwoAt.new h hN) hv
                    obtain ⟨f17, _⟩ := hF
                    have f17 : a.tmps.getD 17 undef = .pointer (some ⟨p17, 0, none⟩) := f17
                    refine rely_wp rfl ?_
                    exact opr_load_hash rfl f17 (hT.row (by have := HP6.out; have := HP7.out; omega) R17.out) (hK _ _ (NewT.refl _) rfl)
                  · intro a wx hT hF hJ K hK
                    obtain ⟨f8, f101, _⟩ := hF
                    have f8 : a.tmps.getD 8 undef = .pointer (some ⟨w.heap.size + 1, 0, none⟩) := f8
                    have f101 : a.tmps.getD 101 undef = .agg (rowA 32 (bF (X))) := f101
                    refine rely_wp rfl ?_
                    refine opr_putm (F := bF X) rfl f8 f101 hJ.1 (by decide) info31 (fun _ => rfl) (fun i hi => by rw [if_pos (by omega), Nat.sub_zero]) ?_
                    intro w' hR r'
                    exact hK undef w' (RW.fst hR) ⟨r', hR.row (by omega) hJ.2⟩ trivial
                  · intro a wx hT hF hJ K hK
                    obtain ⟨f9, f102, _⟩ := hF
                    have f9 : a.tmps.getD 9 undef = .pointer (some ⟨w.heap.size + 1 + 1, 0, none⟩) := f9
                    have f102 : a.tmps.getD 102 undef = .agg (rowA 32 (bF (Y))) := f102
                    refine rely_wp rfl ?_
                    refine opr_putm (F := bF Y) rfl f9 f102 hJ.2 (by decide) info31 (fun _ => rfl) (fun i hi => by rw [if_pos (by omega), Nat.sub_zero]) ?_
                    intro w' hR r'
                    exact hK undef w' (RW.snd hR) ⟨hR.row (by omega) hJ.1, r'⟩ trivial
                  · intro w9 k9 hJ
                    intro u h; obtain rfl := Eq.symm (h (by simp)); clear h
                    intro u h; obtain rfl := Eq.symm (h (by simp)); clear h
                    intro _ _
                    intro _ _
                    refine relyEnd_nil rfl ?_
                    simp only [Act.put, List.setIfInBounds_toArray, List.set_cons_zero, List.set_cons_succ]
                    refine opr_move (.inr rfl) ?_
                    go_simp
                    go_wp2
                    refine bodyPost_ret (results_rrt rfl rfl rfl rfl hJ.1 hJ.2 Tryd.underlying29 rfl info31) rfl ⟨_, rfl, NewT.rw HNs.out k9 (by omega) (by omega), ?_⟩
                    show _ = _
                    rw [HB1.out]
                    rfl
          · obtain ⟨hXY, hb1⟩ := HNO.out (by unfold needS; rw [HFA.out, ← HWW.out]; simp; omega)
            have HXY := Lib.hid hXY
            have HB1 := Lib.hid hb1
            have t19 : ((path.length : Int) != (acc.length : Int)) = true := by rw [bne_iff_ne]; omega
            clear hXY hb1 hlen
            go_upto_region 19 with fail
            refine wp_region_lit ?_
            refine wpList_plain rfl (fun K hK => ?_)
            refine opr_move (.inl rfl) (hK _ _ ?_)
            clear hK K
            refine wpList_plain rfl (fun K hK => ?_)
            refine opr_len rfl Tryd.underlying22 rfl (hK _ _ ?_)
            clear hK K
            refine wpList_plain rfl (fun K hK => ?_)
            refine opr_move (.inl rfl) (hK _ _ ?_)
            clear hK K
            simp only [Act.put, List.setIfInBounds_toArray, List.set_cons_zero, List.set_cons_succ]
            refine wpList_plain rfl (fun K hK => ?_)
            refine opr_sub (r := (path.length : Int)) Tryd.underlying3 (by unfold wrap64; have := HPL.out; omega) rfl rfl rfl (hK _ _ ?_)
            clear hK K
            refine wpList_plain rfl (fun K hK => ?_)
            refine opr_move (.inl rfl) (hK _ _ ?_)
            clear hK K
            refine wpList_plain rfl (fun K hK => ?_)
            refine opr_len rfl Tryd.underlying48 rfl (hK _ _ ?_)
            clear hK K
            simp only [Act.put, List.setIfInBounds_toArray, List.set_cons_zero, List.set_cons_succ]
            refine wpList_plain rfl (fun K hK => ?_)
            refine opr_cmp (b := true) (.inr (.inl ⟨rfl, t19⟩)) Tryd.underlying3 rfl rfl rfl (hK _ _ ?_)
            clear hK K
            refine wpList_end rfl ?_
            simp only [Act.put, List.setIfInBounds_toArray, List.set_cons_zero, List.set_cons_succ]
            go_simp
            clear t19
            go_upto_region 20 with fail
            refine wp_region_lit ?_
            refine wpList_plain rfl (fun K hK => ?_)
            refine opr_build0 rfl (hK _ _ ?_)
            clear hK K
            refine wpList_plain rfl (fun K hK => ?_)
            refine opr_build0 rfl (hK _ _ ?_)
            clear hK K
            simp only [Act.put, List.setIfInBounds_toArray, List.set_cons_zero, List.set_cons_succ]
            refine wpList_plain rfl (fun K hK => ?_)
            refine opr_putm (F := bF (fun _ => 0)) rfl rfl rfl (R8.out) (by decide) info31 (fun _ => rfl) (fun i hi => by rw [if_pos (by omega), Nat.sub_zero]) ?_
            intro wz1 hz1 rz1
            refine hK _ _ ?_
            clear hK K
            refine wpList_plain rfl (fun K hK => ?_)
            refine opr_putm (F := bF (fun _ => 0)) rfl rfl rfl (hz1.row (by omega) R9.out) (by decide) info31 (fun _ => rfl) (fun i hi => by rw [if_pos (by omega), Nat.sub_zero]) ?_
            intro wz2 hz2 rz2
            refine hK _ _ ?_
            clear hK K
            refine wpList_plain rfl (fun K hK => ?_)
            refine opr_move (.inr rfl) (hK _ _ ?_)
            refine wpList_end rfl ?_
            simp only [Act.put, List.setIfInBounds_toArray, List.set_cons_zero, List.set_cons_succ]
            go_simp
            go_wp2
            refine bodyPost_ret (results_rrt rfl rfl rfl rfl (hz2.row (by omega) rz1) rz2 Tryd.underlying29 rfl info31) rfl ⟨_, rfl, NewT.rt (NewT.rt HNr.out hz1 (by omega)) hz2 (by omega), ?_⟩
            show _ = _
            have e := HXY.out
            injection e with e1 e2
            rw [e1, e2, HB1.out]
            rfl
end Go.Proofs.YtoigjcadncecpaaDoor
/- The document's answer for layer 6: Both and Begins. -/
namespace Go.Proofs.YtoigjcadncecpaaDoor
open Go Go.RowKit
set_option maxRecDepth 8000
set_option linter.all false
theorem RBoth_cv {node : Hs → Hs → Hs} {z : Hs} (hX : TreeH node z) (old : Hs) (m n : Int) (v : Value) (path : List Hs) (w : World) (hT : Tables w) (hv : RdH w v path) (hpl : path.length ≤ 1000) : Cv 19 #[.int .i64 m, .int .i64 n, .agg (rowA 32 (bF old)), v] w (svHHq (bothM node (fun _ => 0) old m n path).1 (bothM node (fun _ => 0) old m n path).2 (okB m n path.length)) := by
  by_cases h : m < 1 ∨ n < m ∨ 1048576 < n
  · have e : okB m n path.length = false := by
      unfold okB
      rcases h with h | h | h
      · simp [show ¬ 1 ≤ m by omega]
      · simp [show ¬ m ≤ n by omega]
      · simp [show ¬ n ≤ 1048576 by omega]
    unfold bothM
    rw [e, if_neg (by decide)]
    exact RBoth_bad old m n v w h
  · obtain ⟨m, rfl⟩ : ∃ k : Nat, m = (k : Int) := ⟨m.toNat, by omega⟩
    obtain ⟨n, rfl⟩ : ∃ k : Nat, n = (k : Int) := ⟨n.toNat, by omega⟩
    have e : okB (m : Int) (n : Int) path.length = decide (needS true m n = path.length) := by
      unfold okB; rw [Int.toNat_natCast, Int.toNat_natCast]; simp [show (1 : Int) ≤ m by omega, show (m : Int) ≤ n by omega, show (n : Int) ≤ 1048576 by omega]
    refine RBoth_good hX old m n v path w hT hv hpl (by omega) (by omega) (by omega) _ _ _ (fun h1 => ?_) (fun h1 => ?_)
    · unfold bothM; rw [e, decide_eq_true h1, Int.toNat_natCast, Int.toNat_natCast]; exact ⟨rfl, rfl⟩
    · unfold bothM; rw [e, decide_eq_false h1]; exact ⟨rfl, rfl⟩
set_option maxHeartbeats 2000000 in
theorem RBegins_0 {node : Hs → Hs → Hs} {z : Hs} (hX : TreeH node z) (old all : Hs) (n : Int) (v : Value) (path : List Hs) (w : World) (hT : Tables w) (hv : RdH w v path) : Cv 23 #[.int .i64 0, .int .i64 n, .agg (rowA 32 (bF old)), .agg (rowA 32 (bF all)), v] w (.eq (.bool (beg0 n path.length old z))) := by
  unfold Cv
  have HT := Lib.hid hT
  have HV := Lib.hid hv
  clear hT hv
  go_enter Tryd.func23, Tryd.ntmps23
  go_upto_region 2 with fail
  have r7 := (rowIs_box w 29 32 (bF old)).alloc (.cells (rowA 32 (bF all)) 29)
  have r8 := rowIs_box (w.alloc (.cells (rowA 32 (bF old)) 29)) 29 32 (bF all)
  rw [World.size_alloc] at r8
  have hN : NewT w ((w.alloc (.cells (rowA 32 (bF old)) 29)).alloc (.cells (rowA 32 (bF all)) 29)) := (NewT.trans _ _ _ (NewT.alloc _ _) (NewT.alloc _ _))
  change Code.wp _ _ _ _ ((w.alloc (.cells (rowA 32 (bF old)) 29)).alloc (.cells (rowA 32 (bF all)) 29))
  generalize ((w.alloc (.cells (rowA 32 (bF old)) 29)).alloc (.cells (rowA 32 (bF all)) 29)) = W0 at r7 r8 hN ⊢
  have R7 := Lib.hid r7
  have HN := Lib.hid hN
  replace HT := Lib.hid (hN.tables HT.out)
  replace HV := Lib.hid (hN.hs HV.out)
  clear r7 r8 hN
  obtain ⟨q1_2, Q1_2⟩ : ∃ bq_, ((decide (0 ≤ n)) && (decide (n ≤ 1048576))) = bq_ := ⟨_, rfl⟩
  obtain ⟨q2_2, Q2_2⟩ : ∃ bq_, (q1_2 && (((List.length (path) : Int)) == 0)) = bq_ := ⟨_, rfl⟩
  refine wp_region_rely (NewT) [SV.eq (.int .i64 (n)), SV.eq (.bool (decide (0 ≤ n))), SV.eq (.bool (decide (0 ≤ n))), svIf (decide (0 ≤ n)) (SV.eq (.int .i64 (n))), svIf (decide (0 ≤ n)) (SV.eq (.bool (decide (n ≤ 1048576)))), SV.eq (.bool (q1_2)), SV.eq (.bool (q1_2)), svIf q1_2 (SV.eq (v)), svIf q1_2 (SV.eq (.int .i64 ((List.length (path) : Int)))), svIf q1_2 (SV.eq (.bool (((List.length (path) : Int)) == 0))), SV.eq (.bool (q2_2)), SV.eq (.bool (q2_2)), svIf q2_2 (SV.eq (.agg (rowA 32 (bF (old))))), svIf q2_2 (SV.eq (.agg (rowA 32 (bF (z))))), svIf q2_2 (SV.eq (.bool (eqH (old) (z)))), SV.eq (.bool (q2_2 && (eqH (old) (z))))] [([(1, none)], none), ([(16, some 0)], none), ([(17, some 1)], none), ([(1, none), (18, some 2)], some (18, true)), ([(19, some 3), (18, some 2)], some (18, true)), ([(18, some 2), (20, some 4)], none), ([(21, some 5)], none), ([(4, none), (22, some 6)], some (22, true)), ([(23, some 7), (22, some 6)], some (22, true)), ([(24, some 8), (22, some 6)], some (22, true)), ([(22, some 6), (25, some 9)], none), ([(26, some 10)], none), ([(7, none), (27, some 11)], some (27, true)), ([(27, some 11)], some (27, true)), ([(28, some 12), (29, some 13), (27, some 11)], some (27, true)), ([(27, some 11), (30, some 14)], none)] 52 rfl (by kernel_rfl) rfl (by kernel_rfl) (by kernel_rfl) rfl NewT.trans (NewT.drew _) (Nat.le_of_ble_eq_true rfl) ⟨?_, ?_, ?_, ?_, ?_, ?_, ?_, ?_, ?_, ?_, ?_, ?_, ?_, ?_, ?_, ?_, trivial⟩ ?_
  · intro a wx hT hF K hK
    obtain ⟨f1, _⟩ := hF
    have f1 : a.tmps.getD 1 undef = .int .i64 (n) := f1
    refine rely_wp rfl ?_
    exact opr_move (.inl rfl) (hK _ _ (NewT.refl _) f1)
  · intro a wx hT hF K hK
    obtain ⟨f16, _⟩ := hF
    have f16 : a.tmps.getD 16 undef = .int .i64 (n) := f16
    refine rely_wp rfl ?_
    exact opr_cmp (b := decide (0 ≤ n)) (.inr (.inr (.inr (.inr (.inr (⟨rfl, rfl⟩)))))) Tryd.underlying3 rfl f16 rfl (hK _ _ (NewT.refl _) rfl)
  · intro a wx hT hF K hK
    obtain ⟨f17, _⟩ := hF
    have f17 : a.tmps.getD 17 undef = .bool (decide (0 ≤ n)) := f17
    refine rely_wp rfl ?_
    exact opr_move (.inl rfl) (hK _ _ (NewT.refl _) f17)
  · intro a wx hT hF K hK
    obtain ⟨f1, f18, _⟩ := hF
    have f1 : a.tmps.getD 1 undef = .int .i64 (n) := f1
    have f18 : a.tmps.getD 18 undef = .bool (decide (0 ≤ n)) := f18
    refine rely_if (rely_gt f18) (NewT.refl _) hK (fun hE hK => ?_)
    exact opr_move (.inl rfl) (hK _ _ (NewT.refl _) f1)
  · intro a wx hT hF K hK
    obtain ⟨f19, f18, _⟩ := hF
    have f19 : (decide (0 ≤ n)) = true → a.tmps.getD 19 undef = .int .i64 (n) := f19
    have f18 : a.tmps.getD 18 undef = .bool (decide (0 ≤ n)) := f18
    refine rely_if (rely_gt f18) (NewT.refl _) hK (fun hE hK => ?_)
    exact opr_cmp (b := decide (n ≤ 1048576)) (.inr (.inr (.inl ⟨rfl, rfl⟩))) Tryd.underlying3 rfl (f19 hE) rfl (hK _ _ (NewT.refl _) rfl)
  · intro a wx hT hF K hK
    obtain ⟨f18, f20, _⟩ := hF
    have f18 : a.tmps.getD 18 undef = .bool (decide (0 ≤ n)) := f18
    have f20 : (decide (0 ≤ n)) = true → a.tmps.getD 20 undef = .bool (decide (n ≤ 1048576)) := f20
    refine rely_wp rfl ?_
    exact opr_pick_b rfl f18 (fun hb => hK _ _ (NewT.refl _) (pn_and1 Q1_2 (f20 hb) hb)) (fun hb => hK _ _ (NewT.refl _) (pn_and0 Q1_2 hb))
  · intro a wx hT hF K hK
    obtain ⟨f21, _⟩ := hF
    have f21 : a.tmps.getD 21 undef = .bool (q1_2) := f21
    refine rely_wp rfl ?_
    exact opr_move (.inl rfl) (hK _ _ (NewT.refl _) f21)
  · intro a wx hT hF K hK
    obtain ⟨f4, f22, _⟩ := hF
    have f4 : a.tmps.getD 4 undef = v := f4
    have f22 : a.tmps.getD 22 undef = .bool (q1_2) := f22
    refine rely_if (rely_gt f22) (NewT.refl _) hK (fun hE hK => ?_)
    exact opr_move (.inl rfl) (hK _ _ (NewT.refl _) f4)
  · intro a wx hT hF K hK
    obtain ⟨f23, f22, _⟩ := hF
    have f23 : q1_2 = true → a.tmps.getD 23 undef = v := f23
    have f22 : a.tmps.getD 22 undef = .bool (q1_2) := f22
    refine rely_if (rely_gt f22) (NewT.refl _) hK (fun hE hK => ?_)
    exact opr_len_h rfl (by rw [eval_tmp, (f23 hE)]; exact (hT.hs HV.out)) (hK _ _ (NewT.refl _) rfl)
  · intro a wx hT hF K hK
    obtain ⟨f24, f22, _⟩ := hF
    have f24 : q1_2 = true → a.tmps.getD 24 undef = .int .i64 ((List.length (path) : Int)) := f24
    have f22 : a.tmps.getD 22 undef = .bool (q1_2) := f22
    refine rely_if (rely_gt f22) (NewT.refl _) hK (fun hE hK => ?_)
    exact opr_cmp (b := ((List.length (path) : Int)) == 0) (.inl ⟨rfl, rfl⟩) Tryd.underlying3 rfl (f24 hE) rfl (hK _ _ (NewT.refl _) rfl)
  · intro a wx hT hF K hK
    obtain ⟨f22, f25, _⟩ := hF
    have f22 : a.tmps.getD 22 undef = .bool (q1_2) := f22
    have f25 : q1_2 = true → a.tmps.getD 25 undef = .bool (((List.length (path) : Int)) == 0) := f25
    refine rely_wp rfl ?_
    exact opr_pick_b rfl f22 (fun hb => hK _ _ (NewT.refl _) (pn_and1 Q2_2 (f25 hb) hb)) (fun hb => hK _ _ (NewT.refl _) (pn_and0 Q2_2 hb))
  · intro a wx hT hF K hK
    obtain ⟨f26, _⟩ := hF
    have f26 : a.tmps.getD 26 undef = .bool (q2_2) := f26
    refine rely_wp rfl ?_
    exact opr_move (.inl rfl) (hK _ _ (NewT.refl _) f26)
  · intro a wx hT hF K hK
    obtain ⟨f7, f27, _⟩ := hF
    have f7 : a.tmps.getD 7 undef = .pointer (some ⟨w.heap.size, 0, none⟩) := f7
    have f27 : a.tmps.getD 27 undef = .bool (q2_2) := f27
    refine rely_if (rely_gt f27) (NewT.refl _) hK (fun hE hK => ?_)
    exact opr_load_hash rfl f7 (hT.row R7.out) (hK _ _ (NewT.refl _) rfl)
  · intro a wx hT hF K hK
    obtain ⟨f27, _⟩ := hF
    have f27 : a.tmps.getD 27 undef = .bool (q2_2) := f27
    refine rely_if (rely_gt f27) (NewT.refl _) hK (fun hE hK => ?_)
    exact opr_cv (RSumB_cv _ [] z wx (hT.tables HT.out) (rdV_nil0 wx) (by simp) hX.zero) rfl Tryd.func38 (by kernel_rfl) (by kernel_rfl) (by simp only [List.map_toArray, List.map_cons, List.map_nil, eval_const]) hK
  · intro a wx hT hF K hK
    obtain ⟨f28, f29, f27, _⟩ := hF
    have f28 : q2_2 = true → a.tmps.getD 28 undef = .agg (rowA 32 (bF (old))) := f28
    have f29 : q2_2 = true → a.tmps.getD 29 undef = .agg (rowA 32 (bF (z))) := f29
    have f27 : a.tmps.getD 27 undef = .bool (q2_2) := f27
    refine rely_if (rely_gt f27) (NewT.refl _) hK (fun hE hK => ?_)
    exact opr_eql_hash (b := eqH (old) (z)) rfl (f28 hE) (f29 hE) (rfl) (hK _ _ (NewT.refl _) rfl)
  · intro a wx hT hF K hK
    obtain ⟨f27, f30, _⟩ := hF
    have f27 : a.tmps.getD 27 undef = .bool (q2_2) := f27
    have f30 : q2_2 = true → a.tmps.getD 30 undef = .bool (eqH (old) (z)) := f30
    refine rely_wp rfl ?_
    exact opr_pick_b rfl f27 (fun hb => hK _ _ (NewT.refl _) (pk_and1 (f30 hb) hb)) (fun hb => hK _ _ (NewT.refl _) (pk_and0 hb))
  · intro w6 k6
    intro u h; obtain rfl := Eq.symm (h (by simp)); clear h
    intro u h; obtain rfl := Eq.symm (h (by simp)); clear h
    intro u h; obtain rfl := Eq.symm (h (by simp)); clear h
    intro _ _
    intro _ _
    intro u h; obtain rfl := Eq.symm (h (by simp)); clear h
    intro u h; obtain rfl := Eq.symm (h (by simp)); clear h
    intro _ _
    intro _ _
    intro _ _
    intro u h; obtain rfl := Eq.symm (h (by simp)); clear h
    intro u h; obtain rfl := Eq.symm (h (by simp)); clear h
    intro _ _
    intro _ _
    intro _ _
    intro u h; obtain rfl := Eq.symm (h (by simp)); clear h
    subst Q2_2 Q1_2
    refine relyEnd_nil rfl ?_
    simp only [Act.put, List.setIfInBounds_toArray, List.set_cons_zero, List.set_cons_succ]
    refine opr_move (.inr rfl) ?_
    go_simp
    go_wp2
    go_ret
    exact ⟨_, rfl, NewT.trans _ _ _ HN.out k6, rfl⟩
set_option maxHeartbeats 4000000 in
theorem RBegins_of (old all x y : Hs) (b : Bool) (m n : Int) (v : Value) (w : World) (hm : m ≠ 0) (hc : ∀ w', NewT w w' → Cv 19 #[.int .i64 m, .int .i64 n, .agg (rowA 32 (bF old)), v] w' (svHHq x y b)) : Cv 23 #[.int .i64 m, .int .i64 n, .agg (rowA 32 (bF old)), .agg (rowA 32 (bF all)), v] w (.eq (.bool ((b && eqH x old) && eqH y all))) := by
  unfold Cv
  have HC := Lib.hid hc
  have t1 : (m == 0) = false := beq_eq_false_iff_ne.2 hm
  clear hc
  go_enter Tryd.func23, Tryd.ntmps23
  go_upto_region 3 with fail
  clear t1
  have r7 := (rowIs_box w 29 32 (bF old)).alloc (.cells (rowA 32 (bF all)) 29)
  have r8 := rowIs_box (w.alloc (.cells (rowA 32 (bF old)) 29)) 29 32 (bF all)
  rw [World.size_alloc] at r8
  have hN : NewT w ((w.alloc (.cells (rowA 32 (bF old)) 29)).alloc (.cells (rowA 32 (bF all)) 29)) := (NewT.trans _ _ _ (NewT.alloc _ _) (NewT.alloc _ _))
  change Code.wp _ _ _ _ ((w.alloc (.cells (rowA 32 (bF old)) 29)).alloc (.cells (rowA 32 (bF all)) 29))
  generalize ((w.alloc (.cells (rowA 32 (bF old)) 29)).alloc (.cells (rowA 32 (bF all)) 29)) = W0 at r7 r8 hN ⊢
  have R7 := Lib.hid r7
  have R8 := Lib.hid r8
  have HN := Lib.hid hN
  have h18 := HC.out W0 hN
  unfold Cv at h18
  clear hN HC r8
  refine wp_region_lit ?_
  refine wpList_plain rfl (fun K hK => ?_)
  refine opr_move (.inl rfl) (hK _ _ ?_)
  clear hK K
  refine wpList_plain rfl (fun K hK => ?_)
  refine opr_move (.inl rfl) (hK _ _ ?_)
  clear hK K
  refine wpList_plain rfl (fun K hK => ?_)
  refine opr_load_hash rfl rfl r7 (hK _ _ ?_)
  clear hK K
  refine wpList_plain rfl (fun K hK => ?_)
  refine opr_move (.inl rfl) (hK _ _ ?_)
  clear hK K
  simp only [Act.put, List.setIfInBounds_toArray, List.set_cons_zero, List.set_cons_succ]
  refine wpList_plain rfl (fun K hK => ?_)
  refine opr_call (vs := #[.int .i64 m, .int .i64 n, .agg (rowA 32 (bF old)), v]) rfl Tryd.func19 (by kernel_rfl) (by kernel_rfl) (by simp only [List.map_toArray, List.map_cons, List.map_nil]; rfl) (h18.mono ?_)
  clear h18
  rintro e w4 ⟨_, rfl, hN4, rfl⟩
  refine ⟨_, rfl, hK _ _ ?_⟩
  clear hK K
  refine wpList_plain rfl (fun K hK => ?_)
  refine opr_move (.inl rfl) (hK _ _ ?_)
  clear hK K
  refine wpList_plain rfl (fun K hK => ?_)
  refine opr_ext rfl rfl rfl (hK _ _ ?_)
  clear hK K
  refine wpList_plain rfl (fun K hK => ?_)
  refine opr_ext rfl rfl rfl (hK _ _ ?_)
  clear hK K
  refine wpList_plain rfl (fun K hK => ?_)
  refine opr_ext rfl rfl rfl (hK _ _ ?_)
  clear hK K
  simp only [Act.put, List.setIfInBounds_toArray, List.set_cons_zero, List.set_cons_succ]
  refine wpList_plain rfl (fun K hK => ?_)
  refine opr_val (s := Instr.alloc 29 true (.tuple #[])) rfl (run_alloc_hash _) (hK _ _ ?_)
  clear hK K
  refine wpList_plain rfl (fun K hK => ?_)
  refine opr_val (s := Instr.alloc 29 true (.tuple #[])) rfl (run_alloc_hash _) (hK _ _ ?_)
  clear hK K
  have r11 := (rowIs_box w4 29 32 (bF fun _ => 0)).alloc (.cells (rowA 32 (bF fun _ => 0)) 29)
  have r12 := rowIs_box (w4.alloc (.cells (rowA 32 (bF fun _ => 0)) 29)) 29 32 (bF fun _ => 0)
  rw [World.size_alloc] at r12
  have hn5 : NewT w4 ((w4.alloc (.cells (rowA 32 (bF fun _ => 0)) 29)).alloc (.cells (rowA 32 (bF fun _ => 0)) 29)) := (NewT.trans _ _ _ (NewT.alloc _ _) (NewT.alloc _ _))
  simp only [World.size_alloc]
  generalize (w4.alloc (.cells (rowA 32 (bF fun _ => 0)) 29)).alloc (.cells (rowA 32 (bF fun _ => 0)) 29) = w5 at r11 r12 hn5 ⊢
  obtain ⟨p11, hp11⟩ : ∃ p, w4.heap.size = p := ⟨_, rfl⟩
  rw [hp11] at r11 r12 ⊢
  simp only [Act.put, List.setIfInBounds_toArray, List.set_cons_zero, List.set_cons_succ]
  refine wpList_plain rfl (fun K hK => ?_)
  refine opr_putm (F := bF (x)) rfl rfl rfl (r11) (by decide) info31 (fun _ => rfl) (fun i hi => by rw [if_pos (by omega), Nat.sub_zero]) ?_
  intro w6 hR6 r11'
  refine hK _ _ ?_
  clear hK K
  refine wpList_plain rfl (fun K hK => ?_)
  refine opr_putm (F := bF (y)) rfl rfl rfl (hR6.row (by omega) r12) (by decide) info31 (fun _ => rfl) (fun i hi => by rw [if_pos (by omega), Nat.sub_zero]) ?_
  intro w7 hR7 r12'
  refine hK _ _ ?_
  clear hK K
  refine wpList_plain rfl (fun K hK => ?_)
  refine opr_move (.inr rfl) (hK _ _ ?_)
  refine wpList_end rfl ?_
  simp only [Act.put, List.setIfInBounds_toArray, List.set_cons_zero, List.set_cons_succ]
  go_simp
  have hN5 := NewT.trans _ _ _ hN4 hn5
  have hlt : W0.heap.size ≤ p11 := by have := hN4.out.size; omega
  have hN7 : NewT W0 w7 := NewT.rt (NewT.rt hN5 hR6 hlt) hR7 (by omega)
  have R11 := Lib.hid (hR7.row (by omega) r11')
  have R12 := Lib.hid r12'
  replace R7 := Lib.hid (hN7.row R7.out)
  replace R8 := Lib.hid (hN7.row R8.out)
  replace HN := Lib.hid (NewT.trans _ _ _ HN.out hN7)
  clear r7 r11 r12 r11' r12' hR6 hR7 hN5 hN7 hN4 hn5 hp11
  go_upto_region 4 with fail
  obtain ⟨q1_4, Q1_4⟩ : ∃ bq_, ((b && (eqH (x) (old))) && (eqH (y) (all))) = bq_ := ⟨_, rfl⟩
  refine wp_region_steps0 NewT [SV.eq (.bool (b)), SV.eq (.bool (b)), svIf b (SV.eq (.agg (rowA 32 (bF (x))))), svIf b (SV.eq (.agg (rowA 32 (bF (old))))), svIf b (SV.eq (.bool (eqH (x) (old)))), SV.eq (.bool (b && (eqH (x) (old)))), SV.eq (.bool (b && (eqH (x) (old)))), svIf (b && (eqH (x) (old))) (SV.eq (.agg (rowA 32 (bF (y))))), svIf (b && (eqH (x) (old))) (SV.eq (.agg (rowA 32 (bF (all))))), svIf (b && (eqH (x) (old))) (SV.eq (.bool (eqH (y) (all)))), SV.eq (.bool (q1_4)), SV.eq (.bool (q1_4))] [([(13, none)], none), ([(41, some 0)], none), ([(11, none), (42, some 1)], some (42, true)), ([(7, none), (42, some 1)], some (42, true)), ([(43, some 2), (44, some 3), (42, some 1)], some (42, true)), ([(42, some 1), (45, some 4)], none), ([(46, some 5)], none), ([(12, none), (47, some 6)], some (47, true)), ([(8, none), (47, some 6)], some (47, true)), ([(48, some 7), (49, some 8), (47, some 6)], some (47, true)), ([(47, some 6), (50, some 9)], none), ([(51, some 10)], none)] 52 12 rfl rfl (by kernel_rfl) NewT.trans (NewT.refl _) (Nat.le_of_ble_eq_true rfl) ⟨?_, ?_, ?_, ?_, ?_, ?_, ?_, ?_, ?_, ?_, ?_, ?_, trivial⟩ ?_
  · intro a wx hT hF K hK
    obtain ⟨f13, _⟩ := hF
    have f13 : a.tmps.getD 13 undef = .bool (b) := f13
    refine rely_wp rfl ?_
    exact opr_move (.inl rfl) (hK _ _ (NewT.refl _) f13)
  · intro a wx hT hF K hK
    obtain ⟨f41, _⟩ := hF
    have f41 : a.tmps.getD 41 undef = .bool (b) := f41
    refine rely_wp rfl ?_
    exact opr_move (.inl rfl) (hK _ _ (NewT.refl _) f41)
  · intro a wx hT hF K hK
    obtain ⟨f11, f42, _⟩ := hF
    have f11 : a.tmps.getD 11 undef = .pointer (some ⟨p11, 0, none⟩) := f11
    have f42 : a.tmps.getD 42 undef = .bool (b) := f42
    refine rely_if (rely_gt f42) (NewT.refl _) hK (fun hE hK => ?_)
    exact opr_load_hash rfl f11 (hT.row R11.out) (hK _ _ (NewT.refl _) rfl)
  · intro a wx hT hF K hK
    obtain ⟨f7, f42, _⟩ := hF
    have f7 : a.tmps.getD 7 undef = .pointer (some ⟨w.heap.size, 0, none⟩) := f7
    have f42 : a.tmps.getD 42 undef = .bool (b) := f42
    refine rely_if (rely_gt f42) (NewT.refl _) hK (fun hE hK => ?_)
    exact opr_load_hash rfl f7 (hT.row R7.out) (hK _ _ (NewT.refl _) rfl)
  · intro a wx hT hF K hK
    obtain ⟨f43, f44, f42, _⟩ := hF
    have f43 : b = true → a.tmps.getD 43 undef = .agg (rowA 32 (bF (x))) := f43
    have f44 : b = true → a.tmps.getD 44 undef = .agg (rowA 32 (bF (old))) := f44
    have f42 : a.tmps.getD 42 undef = .bool (b) := f42
    refine rely_if (rely_gt f42) (NewT.refl _) hK (fun hE hK => ?_)
    exact opr_eql_hash (b := eqH (x) (old)) rfl (f43 hE) (f44 hE) (rfl) (hK _ _ (NewT.refl _) rfl)
  · intro a wx hT hF K hK
    obtain ⟨f42, f45, _⟩ := hF
    have f42 : a.tmps.getD 42 undef = .bool (b) := f42
    have f45 : b = true → a.tmps.getD 45 undef = .bool (eqH (x) (old)) := f45
    refine rely_wp rfl ?_
    exact opr_pick_b rfl f42 (fun hb => hK _ _ (NewT.refl _) (pk_and1 (f45 hb) hb)) (fun hb => hK _ _ (NewT.refl _) (pk_and0 hb))
  · intro a wx hT hF K hK
    obtain ⟨f46, _⟩ := hF
    have f46 : a.tmps.getD 46 undef = .bool (b && (eqH (x) (old))) := f46
    refine rely_wp rfl ?_
    exact opr_move (.inl rfl) (hK _ _ (NewT.refl _) f46)
  · intro a wx hT hF K hK
    obtain ⟨f12, f47, _⟩ := hF
    have f12 : a.tmps.getD 12 undef = .pointer (some ⟨p11 + 1, 0, none⟩) := f12
    have f47 : a.tmps.getD 47 undef = .bool (b && (eqH (x) (old))) := f47
    refine rely_if (rely_gt f47) (NewT.refl _) hK (fun hE hK => ?_)
    exact opr_load_hash rfl f12 (hT.row R12.out) (hK _ _ (NewT.refl _) rfl)
  · intro a wx hT hF K hK
    obtain ⟨f8, f47, _⟩ := hF
    have f8 : a.tmps.getD 8 undef = .pointer (some ⟨w.heap.size + 1, 0, none⟩) := f8
    have f47 : a.tmps.getD 47 undef = .bool (b && (eqH (x) (old))) := f47
    refine rely_if (rely_gt f47) (NewT.refl _) hK (fun hE hK => ?_)
    exact opr_load_hash rfl f8 (hT.row R8.out) (hK _ _ (NewT.refl _) rfl)
  · intro a wx hT hF K hK
    obtain ⟨f48, f49, f47, _⟩ := hF
    have f48 : (b && (eqH (x) (old))) = true → a.tmps.getD 48 undef = .agg (rowA 32 (bF (y))) := f48
    have f49 : (b && (eqH (x) (old))) = true → a.tmps.getD 49 undef = .agg (rowA 32 (bF (all))) := f49
    have f47 : a.tmps.getD 47 undef = .bool (b && (eqH (x) (old))) := f47
    refine rely_if (rely_gt f47) (NewT.refl _) hK (fun hE hK => ?_)
    exact opr_eql_hash (b := eqH (y) (all)) rfl (f48 hE) (f49 hE) (rfl) (hK _ _ (NewT.refl _) rfl)
  · intro a wx hT hF K hK
    obtain ⟨f47, f50, _⟩ := hF
    have f47 : a.tmps.getD 47 undef = .bool (b && (eqH (x) (old))) := f47
    have f50 : (b && (eqH (x) (old))) = true → a.tmps.getD 50 undef = .bool (eqH (y) (all)) := f50
    refine rely_wp rfl ?_
    exact opr_pick_b rfl f47 (fun hb => hK _ _ (NewT.refl _) (pn_and1 Q1_4 (f50 hb) hb)) (fun hb => hK _ _ (NewT.refl _) (pn_and0 Q1_4 hb))
  · intro a wx hT hF K hK
    obtain ⟨f51, _⟩ := hF
    have f51 : a.tmps.getD 51 undef = .bool (q1_4) := f51
    refine rely_wp rfl ?_
    exact opr_move (.inr rfl) (hK _ _ (NewT.refl _) f51)
  · intro w9 k9
    intro u h; obtain rfl := Eq.symm (h (by simp)); clear h
    intro u h; obtain rfl := Eq.symm (h (by simp)); clear h
    intro _ _
    intro _ _
    intro _ _
    intro u h; obtain rfl := Eq.symm (h (by simp)); clear h
    intro u h; obtain rfl := Eq.symm (h (by simp)); clear h
    intro _ _
    intro _ _
    intro _ _
    intro u h; obtain rfl := Eq.symm (h (by simp)); clear h
    intro u h; obtain rfl := Eq.symm (h (by simp)); clear h
    subst Q1_4
    refine relyEnd_nil rfl ?_
    refine wpList_end rfl ?_
    simp only [Act.put, List.setIfInBounds_toArray, List.set_cons_zero, List.set_cons_succ]
    go_simp
    go_wp2
    go_ret
    exact ⟨_, rfl, NewT.trans _ _ _ HN.out k9, rfl⟩
theorem RBegins_cv {node : Hs → Hs → Hs} {z : Hs} (hX : TreeH node z) (old all : Hs) (m n : Int) (v : Value) (path : List Hs) (w : World) (hT : Tables w) (hv : RdH w v path) (hpl : path.length ≤ 1000) : Cv 23 #[.int .i64 m, .int .i64 n, .agg (rowA 32 (bF old)), .agg (rowA 32 (bF all)), v] w (.eq (.bool (begM node z m n old all path))) := by
  unfold begM
  by_cases h : m = 0
  · subst h; rw [if_pos rfl]; exact RBegins_0 hX old all n v path w hT hv
  · rw [if_neg h]; exact RBegins_of old all _ _ _ m n v w h fun w' hN => RBoth_cv hX old m n v path w' (hN.tables hT) (hN.hs hv) hpl
end Go.Proofs.YtoigjcadncecpaaDoor
/- The law ProofComes, walked: what a path and a proof come to is the document's, and so are In and Begins. -/
namespace Go.Proofs.YtoigjcadncecpaaDoor
open Go Go.RowKit
set_option maxRecDepth 8000
set_option linter.all false
set_option maxHeartbeats 16000000 in
theorem ProofComes_walk (leaf root : Hs) (i m n : Int) (v : Value) (l : List Hs) (w : World) (hT : Tables w) (hl : RdH w v l) : Calls Tryd.prog 4 #[.agg (rowA 32 (bF leaf)), .agg (rowA 32 (bF root)), .int .i64 i, .int .i64 m, .int .i64 n, v] w fun e w' => e = .returned (.bool true) ∧ Below w.heap.size w w' := by
  obtain ⟨node, z, hX⟩ := tree_ex
  have HT := Lib.hid hT
  have HL := Lib.hid hl
  obtain ⟨A, c, hv⟩ := rdH_form hl
  subst hv
  clear hT hl
  go_enter Tryd.func4, Tryd.ntmps4
  go_upto_region 1 with fail
  have ra := (rowIs_box w 29 32 (bF leaf)).alloc (.cells (rowA 32 (bF root)) 29)
  have rb := rowIs_box (w.alloc (.cells (rowA 32 (bF leaf)) 29)) 29 32 (bF root)
  rw [World.size_alloc] at rb
  have hN : NewT w ((w.alloc (.cells (rowA 32 (bF leaf)) 29)).alloc (.cells (rowA 32 (bF root)) 29)) := (NewT.trans _ _ _ (NewT.alloc _ _) (NewT.alloc _ _))
  change Code.wp _ _ _ _ ((w.alloc (.cells (rowA 32 (bF leaf)) 29)).alloc (.cells (rowA 32 (bF root)) 29))
  generalize ((w.alloc (.cells (rowA 32 (bF leaf)) 29)).alloc (.cells (rowA 32 (bF root)) 29)) = W0 at ra rb hN ⊢
  have RA := Lib.hid ra
  have RB := Lib.hid rb
  have HN := Lib.hid hN
  replace HT := Lib.hid (hN.tables HT.out)
  replace HL := Lib.hid (hN.hs HL.out)
  clear ra rb hN
  by_cases h60 : 60 < l.length
  · have t1 : decide ((60 : Int) < (l.length : Int)) = true := by simp; omega
    go_upto_region 4 with (go_at_call 10; refine (alive6_any _ HT.out).mono ?_; rintro _ w1 ⟨rfl, hA1⟩)
    go_wp2
    go_ret
    exact ⟨rfl, (NewT.trans _ _ _ HN.out (NewT.of hA1)).out⟩
  have t1 : decide ((60 : Int) < (l.length : Int)) = false := by simp; omega
  have hc1 : ∀ (v : Value) (w : World), Tables w → RdH w v l → Cv 16 #[.agg (rowA 32 (bF leaf)), .int .i64 i, .int .i64 n, v] w (svHq (comesM node (fun _ => 0) leaf i n l) (okP i n l.length)) := fun v w hT hl => Comes_cv hX leaf i n v l w hT hl (by omega)
  have hc2 : ∀ (v : Value) (w : World), Tables w → RdH w v l → Cv 17 #[.agg (rowA 32 (bF leaf)), .int .i64 i, .int .i64 n, v] w (svHq (comesM node (fun _ => 0) leaf i n l) (okP i n l.length)) := fun v w hT hl => RComes_cv hX leaf i n v l w hT hl (by omega)
  have hb1 : ∀ (v : Value) (w : World), Tables w → RdH w v l → Cv 18 #[.int .i64 m, .int .i64 n, .agg (rowA 32 (bF leaf)), v] w (svHHq (bothM node (fun _ => 0) leaf m n l).1 (bothM node (fun _ => 0) leaf m n l).2 (okB m n l.length)) := fun v w hT hl => Both_cv hX leaf m n v l w hT hl (by omega)
  have hb2 : ∀ (v : Value) (w : World), Tables w → RdH w v l → Cv 19 #[.int .i64 m, .int .i64 n, .agg (rowA 32 (bF leaf)), v] w (svHHq (bothM node (fun _ => 0) leaf m n l).1 (bothM node (fun _ => 0) leaf m n l).2 (okB m n l.length)) := fun v w hT hl => RBoth_cv hX leaf m n v l w hT hl (by omega)
  have hi1 : ∀ (v : Value) (w : World), Tables w → RdH w v l → Cv 20 #[.agg (rowA 32 (bF leaf)), .int .i64 i, .int .i64 n, v, .agg (rowA 32 (bF root))] w (.eq (.bool (okP i n l.length && eqH (comesM node (fun _ => 0) leaf i n l) root))) := fun v w hT hl => In_cv hX leaf root i n v l w hT hl (by omega)
  have hi2 : ∀ (v : Value) (w : World), Tables w → RdH w v l → Cv 21 #[.agg (rowA 32 (bF leaf)), .int .i64 i, .int .i64 n, v, .agg (rowA 32 (bF root))] w (.eq (.bool (okP i n l.length && eqH (comesM node (fun _ => 0) leaf i n l) root))) := fun v w hT hl => RIn_cv hX leaf root i n v l w hT hl (by omega)
  have hg1 : ∀ (v : Value) (w : World), Tables w → RdH w v l → Cv 22 #[.int .i64 m, .int .i64 n, .agg (rowA 32 (bF leaf)), .agg (rowA 32 (bF root)), v] w (.eq (.bool (begM node z m n leaf root l))) := fun v w hT hl => Begins_cv hX leaf root m n v l w hT hl (by omega)
  have hg2 : ∀ (v : Value) (w : World), Tables w → RdH w v l → Cv 23 #[.int .i64 m, .int .i64 n, .agg (rowA 32 (bF leaf)), .agg (rowA 32 (bF root)), v] w (.eq (.bool (begM node z m n leaf root l))) := fun v w hT hl => RBegins_cv hX leaf root m n v l w hT hl (by omega)
  obtain ⟨bi, e1⟩ : ∃ b, (okP i n l.length && eqH (comesM node (fun _ => 0) leaf i n l) root) = b := ⟨_, rfl⟩
  rw [e1] at hi1 hi2
  obtain ⟨bg, e2⟩ : ∃ b, begM node z m n leaf root l = b := ⟨_, rfl⟩
  rw [e2] at hg1 hg2
  obtain ⟨X, e3⟩ : ∃ x, comesM node (fun _ => 0) leaf i n l = x := ⟨_, rfl⟩
  rw [e3] at hc1 hc2
  obtain ⟨bx, e4⟩ : ∃ b, okP i n l.length = b := ⟨_, rfl⟩
  rw [e4] at hc1 hc2
  obtain ⟨Y, e5⟩ : ∃ x, (bothM node (fun _ => 0) leaf m n l).1 = x := ⟨_, rfl⟩
  obtain ⟨Z, e6⟩ : ∃ x, (bothM node (fun _ => 0) leaf m n l).2 = x := ⟨_, rfl⟩
  obtain ⟨by_, e7⟩ : ∃ b, okB m n l.length = b := ⟨_, rfl⟩
  rw [e5, e6, e7] at hb1 hb2
  have HC1 := Lib.hid hc1
  have HC2 := Lib.hid hc2
  have HB1 := Lib.hid hb1
  have HB2 := Lib.hid hb2
  have HI1 := Lib.hid hi1
  have HI2 := Lib.hid hi2
  have HG1 := Lib.hid hg1
  have HG2 := Lib.hid hg2
  clear e1 e2 e3 e4 e5 e6 e7 hc1 hc2 hb1 hb2 hi1 hi2 hg1 hg2 h60
  go_upto_region 5 with (go_at_call 10; refine (alive6_any _ HT.out).mono ?_; rintro _ w1 ⟨rfl, hA1⟩)
  replace RA := Lib.hid ((NewT.of hA1).row RA.out)
  replace RB := Lib.hid ((NewT.of hA1).row RB.out)
  have hn1 := NewT.of hA1
  replace HT := Lib.hid (hn1.tables HT.out)
  replace HL := Lib.hid (hn1.hs HL.out)
  replace HN := Lib.hid (NewT.trans _ _ _ HN.out hn1)
  obtain ⟨v, ev⟩ : ∃ v, Value.slice A l.length c = v := ⟨_, rfl⟩
  rw [ev] at HL ⊢
  clear ev hA1
  clear t1 hn1
  refine wp_region_steps0 NewT [SV.eq (.agg (rowA 32 (bF (leaf)))), SV.eq (.int .i64 (i)), SV.eq (.int .i64 (n)), SV.eq (v), SV.eq ((.tuple #[.agg (rowA 32 (bF X)), .bool bx])), SV.eq ((.tuple #[.agg (rowA 32 (bF X)), .bool bx])), SV.eq (.agg (rowA 32 (bF (X)))), SV.eq (.bool (bx))] [([(6, none)], none), ([(2, none)], none), ([(4, none)], none), ([(5, none)], none), ([(29, some 0), (30, some 1), (31, some 2), (32, some 3)], none), ([(33, some 4)], none), ([(28, some 5)], none), ([(28, some 5)], none)] 115 8 rfl rfl (by kernel_rfl) NewT.trans (NewT.refl _) (Nat.le_of_ble_eq_true rfl) ⟨?_, ?_, ?_, ?_, ?_, ?_, ?_, ?_, trivial⟩ ?_
  · intro a wx hT hF K hK
    obtain ⟨f6, _⟩ := hF
    have f6 : a.tmps.getD 6 undef = .pointer (some ⟨w.heap.size, 0, none⟩) := f6
    refine rely_wp rfl ?_
    exact opr_load_hash rfl f6 (hT.row RA.out) (hK _ _ (NewT.refl _) rfl)
  · intro a wx hT hF K hK
    obtain ⟨f2, _⟩ := hF
    have f2 : a.tmps.getD 2 undef = .int .i64 (i) := f2
    refine rely_wp rfl ?_
    exact opr_move (.inl rfl) (hK _ _ (NewT.refl _) f2)
  · intro a wx hT hF K hK
    obtain ⟨f4, _⟩ := hF
    have f4 : a.tmps.getD 4 undef = .int .i64 (n) := f4
    refine rely_wp rfl ?_
    exact opr_move (.inl rfl) (hK _ _ (NewT.refl _) f4)
  · intro a wx hT hF K hK
    obtain ⟨f5, _⟩ := hF
    have f5 : a.tmps.getD 5 undef = v := f5
    refine rely_wp rfl ?_
    exact opr_move (.inl rfl) (hK _ _ (NewT.refl _) f5)
  · intro a wx hT hF K hK
    obtain ⟨f29, f30, f31, f32, _⟩ := hF
    have f29 : a.tmps.getD 29 undef = .agg (rowA 32 (bF (leaf))) := f29
    have f30 : a.tmps.getD 30 undef = .int .i64 (i) := f30
    have f31 : a.tmps.getD 31 undef = .int .i64 (n) := f31
    have f32 : a.tmps.getD 32 undef = v := f32
    refine rely_wp rfl ?_
    exact opr_cv (HC1.out _ wx (hT.tables HT.out) (hT.hs HL.out)) rfl Tryd.func16 (by kernel_rfl) (by kernel_rfl) (by simp only [List.map_toArray, List.map_cons, List.map_nil, eval_tmp, f29, f30, f31, f32]) hK
  · intro a wx hT hF K hK
    obtain ⟨f33, _⟩ := hF
    have f33 : a.tmps.getD 33 undef = (.tuple #[.agg (rowA 32 (bF X)), .bool bx]) := f33
    refine rely_wp rfl ?_
    exact opr_move (.inl rfl) (hK _ _ (NewT.refl _) f33)
  · intro a wx hT hF K hK
    obtain ⟨f28, _⟩ := hF
    have f28 : a.tmps.getD 28 undef = (.tuple #[.agg (rowA 32 (bF X)), .bool bx]) := f28
    refine rely_wp rfl ?_
    exact opr_ext rfl f28 rfl (hK _ _ (NewT.refl _) rfl)
  · intro a wx hT hF K hK
    obtain ⟨f28, _⟩ := hF
    have f28 : a.tmps.getD 28 undef = (.tuple #[.agg (rowA 32 (bF X)), .bool bx]) := f28
    refine rely_wp rfl ?_
    exact opr_ext rfl f28 rfl (hK _ _ (NewT.refl _) rfl)
  · intro w2 k2
    intro u h; obtain rfl := Eq.symm (h (by simp)); clear h
    intro u h; obtain rfl := Eq.symm (h (by simp)); clear h
    intro u h; obtain rfl := Eq.symm (h (by simp)); clear h
    intro u h; obtain rfl := Eq.symm (h (by simp)); clear h
    intro u h; obtain rfl := Eq.symm (h (by simp)); clear h
    intro u h; obtain rfl := Eq.symm (h (by simp)); clear h
    intro u h; obtain rfl := Eq.symm (h (by simp)); clear h
    intro u h; obtain rfl := Eq.symm (h (by simp)); clear h
    refine relyEnd_nil rfl ?_
    simp only [Act.put, List.setIfInBounds_toArray, List.set_cons_zero, List.set_cons_succ]
    refine wpList_new (n := 32) rfl rfl rfl rfl rfl rfl (by simp) run_alloc_hash info31 (fun _ => rfl) rfl ?_
    intro w3 hn3 r13
    refine wpList_plain rfl (fun K hK => ?_)
    refine opr_move (.inr rfl) (hK _ _ ?_)
    refine wpList_end rfl ?_
    simp only [Act.put, List.setIfInBounds_toArray, List.set_cons_zero, List.set_cons_succ]
    go_simp
    obtain ⟨p13, hp13⟩ : ∃ p, w2.heap.size = p := ⟨_, rfl⟩
    rw [hp13] at r13 ⊢
    have R13 := Lib.hid r13
    have k23 := NewT.trans _ _ _ k2 hn3
    clear k2 hn3 r13 hp13 HC1
    replace RA := Lib.hid (k23.row RA.out)
    replace RB := Lib.hid (k23.row RB.out)
    replace HL := Lib.hid (k23.hs HL.out)
    replace HT := Lib.hid (k23.tables HT.out)
    replace HN := Lib.hid (NewT.trans _ _ _ HN.out k23)
    clear k23
    go_upto_region 6 with fail
    refine wp_region_steps0 NewT [SV.eq (.agg (rowA 32 (bF (leaf)))), SV.eq (.int .i64 (i)), SV.eq (.int .i64 (n)), SV.eq (v), SV.eq ((.tuple #[.agg (rowA 32 (bF X)), .bool bx])), SV.eq ((.tuple #[.agg (rowA 32 (bF X)), .bool bx])), SV.eq (.agg (rowA 32 (bF (X)))), SV.eq (.bool (bx))] [([(6, none)], none), ([(2, none)], none), ([(4, none)], none), ([(5, none)], none), ([(37, some 0), (38, some 1), (39, some 2), (40, some 3)], none), ([(41, some 4)], none), ([(36, some 5)], none), ([(36, some 5)], none)] 115 8 rfl rfl (by kernel_rfl) NewT.trans (NewT.refl _) (Nat.le_of_ble_eq_true rfl) ⟨?_, ?_, ?_, ?_, ?_, ?_, ?_, ?_, trivial⟩ ?_
    · intro a wx hT hF K hK
      obtain ⟨f6, _⟩ := hF
      have f6 : a.tmps.getD 6 undef = .pointer (some ⟨w.heap.size, 0, none⟩) := f6
      refine rely_wp rfl ?_
      exact opr_load_hash rfl f6 (hT.row RA.out) (hK _ _ (NewT.refl _) rfl)
    · intro a wx hT hF K hK
      obtain ⟨f2, _⟩ := hF
      have f2 : a.tmps.getD 2 undef = .int .i64 (i) := f2
      refine rely_wp rfl ?_
      exact opr_move (.inl rfl) (hK _ _ (NewT.refl _) f2)
    · intro a wx hT hF K hK
      obtain ⟨f4, _⟩ := hF
      have f4 : a.tmps.getD 4 undef = .int .i64 (n) := f4
      refine rely_wp rfl ?_
      exact opr_move (.inl rfl) (hK _ _ (NewT.refl _) f4)
    · intro a wx hT hF K hK
      obtain ⟨f5, _⟩ := hF
      have f5 : a.tmps.getD 5 undef = v := f5
      refine rely_wp rfl ?_
      exact opr_move (.inl rfl) (hK _ _ (NewT.refl _) f5)
    · intro a wx hT hF K hK
      obtain ⟨f37, f38, f39, f40, _⟩ := hF
      have f37 : a.tmps.getD 37 undef = .agg (rowA 32 (bF (leaf))) := f37
      have f38 : a.tmps.getD 38 undef = .int .i64 (i) := f38
      have f39 : a.tmps.getD 39 undef = .int .i64 (n) := f39
      have f40 : a.tmps.getD 40 undef = v := f40
      refine rely_wp rfl ?_
      exact opr_cv (HC2.out _ wx (hT.tables HT.out) (hT.hs HL.out)) rfl Tryd.func17 (by kernel_rfl) (by kernel_rfl) (by simp only [List.map_toArray, List.map_cons, List.map_nil, eval_tmp, f37, f38, f39, f40]) hK
    · intro a wx hT hF K hK
      obtain ⟨f41, _⟩ := hF
      have f41 : a.tmps.getD 41 undef = (.tuple #[.agg (rowA 32 (bF X)), .bool bx]) := f41
      refine rely_wp rfl ?_
      exact opr_move (.inl rfl) (hK _ _ (NewT.refl _) f41)
    · intro a wx hT hF K hK
      obtain ⟨f36, _⟩ := hF
      have f36 : a.tmps.getD 36 undef = (.tuple #[.agg (rowA 32 (bF X)), .bool bx]) := f36
      refine rely_wp rfl ?_
      exact opr_ext rfl f36 rfl (hK _ _ (NewT.refl _) rfl)
    · intro a wx hT hF K hK
      obtain ⟨f36, _⟩ := hF
      have f36 : a.tmps.getD 36 undef = (.tuple #[.agg (rowA 32 (bF X)), .bool bx]) := f36
      refine rely_wp rfl ?_
      exact opr_ext rfl f36 rfl (hK _ _ (NewT.refl _) rfl)
    · intro w4 k4
      intro u h; obtain rfl := Eq.symm (h (by simp)); clear h
      intro u h; obtain rfl := Eq.symm (h (by simp)); clear h
      intro u h; obtain rfl := Eq.symm (h (by simp)); clear h
      intro u h; obtain rfl := Eq.symm (h (by simp)); clear h
      intro u h; obtain rfl := Eq.symm (h (by simp)); clear h
      intro u h; obtain rfl := Eq.symm (h (by simp)); clear h
      intro u h; obtain rfl := Eq.symm (h (by simp)); clear h
      intro u h; obtain rfl := Eq.symm (h (by simp)); clear h
      refine relyEnd_nil rfl ?_
      simp only [Act.put, List.setIfInBounds_toArray, List.set_cons_zero, List.set_cons_succ]
      refine wpList_new (n := 32) rfl rfl rfl rfl rfl rfl (by simp) run_alloc_hash info31 (fun _ => rfl) rfl ?_
      intro w5 hn5 r15
      refine wpList_plain rfl (fun K hK => ?_)
      refine opr_move (.inr rfl) (hK _ _ ?_)
      refine wpList_end rfl ?_
      simp only [Act.put, List.setIfInBounds_toArray, List.set_cons_zero, List.set_cons_succ]
      go_simp
      obtain ⟨p15, hp15⟩ : ∃ p, w4.heap.size = p := ⟨_, rfl⟩
      rw [hp15] at r15 ⊢
      have R15 := Lib.hid r15
      have k45 := NewT.trans _ _ _ k4 hn5
      clear k4 hn5 r15 hp15 HC2
      replace RA := Lib.hid (k45.row RA.out)
      replace RB := Lib.hid (k45.row RB.out)
      replace R13 := Lib.hid (k45.row R13.out)
      replace HL := Lib.hid (k45.hs HL.out)
      replace HT := Lib.hid (k45.tables HT.out)
      replace HN := Lib.hid (NewT.trans _ _ _ HN.out k45)
      clear k45
      go_upto_region 7 with fail
      refine wp_region_steps0 NewT [SV.eq (.int .i64 (m)), SV.eq (.int .i64 (n)), SV.eq (.agg (rowA 32 (bF (leaf)))), SV.eq (v), SV.eq ((.tuple #[.agg (rowA 32 (bF Y)), .agg (rowA 32 (bF Z)), .bool by_])), SV.eq ((.tuple #[.agg (rowA 32 (bF Y)), .agg (rowA 32 (bF Z)), .bool by_])), SV.eq (.agg (rowA 32 (bF (Y)))), SV.eq (.agg (rowA 32 (bF (Z)))), SV.eq (.bool (by_))] [([(3, none)], none), ([(4, none)], none), ([(6, none)], none), ([(5, none)], none), ([(45, some 0), (46, some 1), (47, some 2), (48, some 3)], none), ([(49, some 4)], none), ([(44, some 5)], none), ([(44, some 5)], none), ([(44, some 5)], none)] 115 9 rfl rfl (by kernel_rfl) NewT.trans (NewT.refl _) (Nat.le_of_ble_eq_true rfl) ⟨?_, ?_, ?_, ?_, ?_, ?_, ?_, ?_, ?_, trivial⟩ ?_
      · intro a wx hT hF K hK
        obtain ⟨f3, _⟩ := hF
        have f3 : a.tmps.getD 3 undef = .int .i64 (m) := f3
        refine rely_wp rfl ?_
        exact opr_move (.inl rfl) (hK _ _ (NewT.refl _) f3)
      · intro a wx hT hF K hK
        obtain ⟨f4, _⟩ := hF
        have f4 : a.tmps.getD 4 undef = .int .i64 (n) := f4
        refine rely_wp rfl ?_
        exact opr_move (.inl rfl) (hK _ _ (NewT.refl _) f4)
      · intro a wx hT hF K hK
        obtain ⟨f6, _⟩ := hF
        have f6 : a.tmps.getD 6 undef = .pointer (some ⟨w.heap.size, 0, none⟩) := f6
        refine rely_wp rfl ?_
        exact opr_load_hash rfl f6 (hT.row RA.out) (hK _ _ (NewT.refl _) rfl)
      · intro a wx hT hF K hK
        obtain ⟨f5, _⟩ := hF
        have f5 : a.tmps.getD 5 undef = v := f5
        refine rely_wp rfl ?_
        exact opr_move (.inl rfl) (hK _ _ (NewT.refl _) f5)
      · intro a wx hT hF K hK
        obtain ⟨f45, f46, f47, f48, _⟩ := hF
        have f45 : a.tmps.getD 45 undef = .int .i64 (m) := f45
        have f46 : a.tmps.getD 46 undef = .int .i64 (n) := f46
        have f47 : a.tmps.getD 47 undef = .agg (rowA 32 (bF (leaf))) := f47
        have f48 : a.tmps.getD 48 undef = v := f48
        refine rely_wp rfl ?_
        exact opr_cv (HB1.out _ wx (hT.tables HT.out) (hT.hs HL.out)) rfl Tryd.func18 (by kernel_rfl) (by kernel_rfl) (by simp only [List.map_toArray, List.map_cons, List.map_nil, eval_tmp, f45, f46, f47, f48]) hK
      · intro a wx hT hF K hK
        obtain ⟨f49, _⟩ := hF
        have f49 : a.tmps.getD 49 undef = (.tuple #[.agg (rowA 32 (bF Y)), .agg (rowA 32 (bF Z)), .bool by_]) := f49
        refine rely_wp rfl ?_
        exact opr_move (.inl rfl) (hK _ _ (NewT.refl _) f49)
      · intro a wx hT hF K hK
        obtain ⟨f44, _⟩ := hF
        have f44 : a.tmps.getD 44 undef = (.tuple #[.agg (rowA 32 (bF Y)), .agg (rowA 32 (bF Z)), .bool by_]) := f44
        refine rely_wp rfl ?_
        exact opr_ext rfl f44 rfl (hK _ _ (NewT.refl _) rfl)
      · intro a wx hT hF K hK
        obtain ⟨f44, _⟩ := hF
        have f44 : a.tmps.getD 44 undef = (.tuple #[.agg (rowA 32 (bF Y)), .agg (rowA 32 (bF Z)), .bool by_]) := f44
        refine rely_wp rfl ?_
        exact opr_ext rfl f44 rfl (hK _ _ (NewT.refl _) rfl)
      · intro a wx hT hF K hK
        obtain ⟨f44, _⟩ := hF
        have f44 : a.tmps.getD 44 undef = (.tuple #[.agg (rowA 32 (bF Y)), .agg (rowA 32 (bF Z)), .bool by_]) := f44
        refine rely_wp rfl ?_
        exact opr_ext rfl f44 rfl (hK _ _ (NewT.refl _) rfl)
      · intro w6 k6
        intro u h; obtain rfl := Eq.symm (h (by simp)); clear h
        intro u h; obtain rfl := Eq.symm (h (by simp)); clear h
        intro u h; obtain rfl := Eq.symm (h (by simp)); clear h
        intro u h; obtain rfl := Eq.symm (h (by simp)); clear h
        intro u h; obtain rfl := Eq.symm (h (by simp)); clear h
        intro u h; obtain rfl := Eq.symm (h (by simp)); clear h
        intro u h; obtain rfl := Eq.symm (h (by simp)); clear h
        intro u h; obtain rfl := Eq.symm (h (by simp)); clear h
        intro u h; obtain rfl := Eq.symm (h (by simp)); clear h
        refine relyEnd_nil rfl ?_
        simp only [Act.put, List.setIfInBounds_toArray, List.set_cons_zero, List.set_cons_succ]
        refine wpList_plain rfl (fun K hK => ?_)
        refine opr_val (s := Instr.alloc 29 true (.tuple #[])) rfl (run_alloc_hash _) (hK _ _ ?_)
        clear hK K
        refine wpList_plain rfl (fun K hK => ?_)
        refine opr_val (s := Instr.alloc 29 true (.tuple #[])) rfl (run_alloc_hash _) (hK _ _ ?_)
        clear hK K
        have ra := (rowIs_box w6 29 32 (bF fun _ => 0)).alloc (.cells (rowA 32 (bF fun _ => 0)) 29)
        have rb := rowIs_box (w6.alloc (.cells (rowA 32 (bF fun _ => 0)) 29)) 29 32 (bF fun _ => 0)
        rw [World.size_alloc] at rb
        have hn5 : NewT w6 ((w6.alloc (.cells (rowA 32 (bF fun _ => 0)) 29)).alloc (.cells (rowA 32 (bF fun _ => 0)) 29)) := (NewT.trans _ _ _ (NewT.alloc _ _) (NewT.alloc _ _))
        simp only [World.size_alloc]
        generalize (w6.alloc (.cells (rowA 32 (bF fun _ => 0)) 29)).alloc (.cells (rowA 32 (bF fun _ => 0)) 29) = wq at ra rb hn5 ⊢
        obtain ⟨p17, hp⟩ : ∃ p, w6.heap.size = p := ⟨_, rfl⟩
        rw [hp] at ra rb ⊢
        simp only [Act.put, List.setIfInBounds_toArray, List.set_cons_zero, List.set_cons_succ]
        refine wpList_plain rfl (fun K hK => ?_)
        refine opr_putm (F := bF (Y)) rfl rfl rfl (ra) (by decide) info31 (fun _ => rfl) (fun i hi => by rw [if_pos (by omega), Nat.sub_zero]) ?_
        intro wq1 hq1 ra1
        refine hK _ _ ?_
        clear hK K
        refine wpList_plain rfl (fun K hK => ?_)
        refine opr_putm (F := bF (Z)) rfl rfl rfl (hq1.row (by omega) rb) (by decide) info31 (fun _ => rfl) (fun i hi => by rw [if_pos (by omega), Nat.sub_zero]) ?_
        intro wq2 hq2 rb1
        refine hK _ _ ?_
        clear hK K
        refine wpList_plain rfl (fun K hK => ?_)
        refine opr_move (.inr rfl) (hK _ _ ?_)
        refine wpList_end rfl ?_
        simp only [Act.put, List.setIfInBounds_toArray, List.set_cons_zero, List.set_cons_succ]
        go_simp
        have kk := NewT.rt (NewT.rt (NewT.trans _ _ _ k6 hn5) hq1 (by have := k6.out.size; omega)) hq2 (by have := k6.out.size; omega)
        replace ra1 := hq2.row (by omega) ra1
        clear ra rb hn5 hq1 hq2 hp k6
        have R17 := Lib.hid ra1
        have R18 := Lib.hid rb1
        clear ra1 rb1 HB1
        replace RA := Lib.hid (kk.row RA.out)
        replace RB := Lib.hid (kk.row RB.out)
        replace R13 := Lib.hid (kk.row R13.out)
        replace R15 := Lib.hid (kk.row R15.out)
        replace HL := Lib.hid (kk.hs HL.out)
        replace HT := Lib.hid (kk.tables HT.out)
        replace HN := Lib.hid (NewT.trans _ _ _ HN.out kk)
        clear kk
        go_upto_region 8 with fail
        refine wp_region_steps0 NewT [SV.eq (.int .i64 (m)), SV.eq (.int .i64 (n)), SV.eq (.agg (rowA 32 (bF (leaf)))), SV.eq (v), SV.eq ((.tuple #[.agg (rowA 32 (bF Y)), .agg (rowA 32 (bF Z)), .bool by_])), SV.eq ((.tuple #[.agg (rowA 32 (bF Y)), .agg (rowA 32 (bF Z)), .bool by_])), SV.eq (.agg (rowA 32 (bF (Y)))), SV.eq (.agg (rowA 32 (bF (Z)))), SV.eq (.bool (by_))] [([(3, none)], none), ([(4, none)], none), ([(6, none)], none), ([(5, none)], none), ([(54, some 0), (55, some 1), (56, some 2), (57, some 3)], none), ([(58, some 4)], none), ([(53, some 5)], none), ([(53, some 5)], none), ([(53, some 5)], none)] 115 9 rfl rfl (by kernel_rfl) NewT.trans (NewT.refl _) (Nat.le_of_ble_eq_true rfl) ⟨?_, ?_, ?_, ?_, ?_, ?_, ?_, ?_, ?_, trivial⟩ ?_
        · intro a wx hT hF K hK
          obtain ⟨f3, _⟩ := hF
          have f3 : a.tmps.getD 3 undef = .int .i64 (m) := f3
          refine rely_wp rfl ?_
          exact opr_move (.inl rfl) (hK _ _ (NewT.refl _) f3)
        · intro a wx hT hF K hK
          obtain ⟨f4, _⟩ := hF
          have f4 : a.tmps.getD 4 undef = .int .i64 (n) := f4
          refine rely_wp rfl ?_
          exact opr_move (.inl rfl) (hK _ _ (NewT.refl _) f4)
        · intro a wx hT hF K hK
          obtain ⟨f6, _⟩ := hF
          have f6 : a.tmps.getD 6 undef = .pointer (some ⟨w.heap.size, 0, none⟩) := f6
          refine rely_wp rfl ?_
          exact opr_load_hash rfl f6 (hT.row RA.out) (hK _ _ (NewT.refl _) rfl)
        · intro a wx hT hF K hK
          obtain ⟨f5, _⟩ := hF
          have f5 : a.tmps.getD 5 undef = v := f5
          refine rely_wp rfl ?_
          exact opr_move (.inl rfl) (hK _ _ (NewT.refl _) f5)
        · intro a wx hT hF K hK
          obtain ⟨f54, f55, f56, f57, _⟩ := hF
          have f54 : a.tmps.getD 54 undef = .int .i64 (m) := f54
          have f55 : a.tmps.getD 55 undef = .int .i64 (n) := f55
          have f56 : a.tmps.getD 56 undef = .agg (rowA 32 (bF (leaf))) := f56
          have f57 : a.tmps.getD 57 undef = v := f57
          refine rely_wp rfl ?_
          exact opr_cv (HB2.out _ wx (hT.tables HT.out) (hT.hs HL.out)) rfl Tryd.func19 (by kernel_rfl) (by kernel_rfl) (by simp only [List.map_toArray, List.map_cons, List.map_nil, eval_tmp, f54, f55, f56, f57]) hK
        · intro a wx hT hF K hK
          obtain ⟨f58, _⟩ := hF
          have f58 : a.tmps.getD 58 undef = (.tuple #[.agg (rowA 32 (bF Y)), .agg (rowA 32 (bF Z)), .bool by_]) := f58
          refine rely_wp rfl ?_
          exact opr_move (.inl rfl) (hK _ _ (NewT.refl _) f58)
        · intro a wx hT hF K hK
          obtain ⟨f53, _⟩ := hF
          have f53 : a.tmps.getD 53 undef = (.tuple #[.agg (rowA 32 (bF Y)), .agg (rowA 32 (bF Z)), .bool by_]) := f53
          refine rely_wp rfl ?_
          exact opr_ext rfl f53 rfl (hK _ _ (NewT.refl _) rfl)
        · intro a wx hT hF K hK
          obtain ⟨f53, _⟩ := hF
          have f53 : a.tmps.getD 53 undef = (.tuple #[.agg (rowA 32 (bF Y)), .agg (rowA 32 (bF Z)), .bool by_]) := f53
          refine rely_wp rfl ?_
          exact opr_ext rfl f53 rfl (hK _ _ (NewT.refl _) rfl)
        · intro a wx hT hF K hK
          obtain ⟨f53, _⟩ := hF
          have f53 : a.tmps.getD 53 undef = (.tuple #[.agg (rowA 32 (bF Y)), .agg (rowA 32 (bF Z)), .bool by_]) := f53
          refine rely_wp rfl ?_
          exact opr_ext rfl f53 rfl (hK _ _ (NewT.refl _) rfl)
        · intro w7 k7
          intro u h; obtain rfl := Eq.symm (h (by simp)); clear h
          intro u h; obtain rfl := Eq.symm (h (by simp)); clear h
          intro u h; obtain rfl := Eq.symm (h (by simp)); clear h
          intro u h; obtain rfl := Eq.symm (h (by simp)); clear h
          intro u h; obtain rfl := Eq.symm (h (by simp)); clear h
          intro u h; obtain rfl := Eq.symm (h (by simp)); clear h
          intro u h; obtain rfl := Eq.symm (h (by simp)); clear h
          intro u h; obtain rfl := Eq.symm (h (by simp)); clear h
          intro u h; obtain rfl := Eq.symm (h (by simp)); clear h
          refine relyEnd_nil rfl ?_
          simp only [Act.put, List.setIfInBounds_toArray, List.set_cons_zero, List.set_cons_succ]
          refine wpList_plain rfl (fun K hK => ?_)
          refine opr_val (s := Instr.alloc 29 true (.tuple #[])) rfl (run_alloc_hash _) (hK _ _ ?_)
          clear hK K
          refine wpList_plain rfl (fun K hK => ?_)
          refine opr_val (s := Instr.alloc 29 true (.tuple #[])) rfl (run_alloc_hash _) (hK _ _ ?_)
          clear hK K
          have ra := (rowIs_box w7 29 32 (bF fun _ => 0)).alloc (.cells (rowA 32 (bF fun _ => 0)) 29)
          have rb := rowIs_box (w7.alloc (.cells (rowA 32 (bF fun _ => 0)) 29)) 29 32 (bF fun _ => 0)
          rw [World.size_alloc] at rb
          have hn5 : NewT w7 ((w7.alloc (.cells (rowA 32 (bF fun _ => 0)) 29)).alloc (.cells (rowA 32 (bF fun _ => 0)) 29)) := (NewT.trans _ _ _ (NewT.alloc _ _) (NewT.alloc _ _))
          simp only [World.size_alloc]
          generalize (w7.alloc (.cells (rowA 32 (bF fun _ => 0)) 29)).alloc (.cells (rowA 32 (bF fun _ => 0)) 29) = wv at ra rb hn5 ⊢
          obtain ⟨p20, hp⟩ : ∃ p, w7.heap.size = p := ⟨_, rfl⟩
          rw [hp] at ra rb ⊢
          simp only [Act.put, List.setIfInBounds_toArray, List.set_cons_zero, List.set_cons_succ]
          refine wpList_plain rfl (fun K hK => ?_)
          refine opr_putm (F := bF (Y)) rfl rfl rfl (ra) (by decide) info31 (fun _ => rfl) (fun i hi => by rw [if_pos (by omega), Nat.sub_zero]) ?_
          intro wv1 hq1 ra1
          refine hK _ _ ?_
          clear hK K
          refine wpList_plain rfl (fun K hK => ?_)
          refine opr_putm (F := bF (Z)) rfl rfl rfl (hq1.row (by omega) rb) (by decide) info31 (fun _ => rfl) (fun i hi => by rw [if_pos (by omega), Nat.sub_zero]) ?_
          intro wv2 hq2 rb1
          refine hK _ _ ?_
          clear hK K
          refine wpList_plain rfl (fun K hK => ?_)
          refine opr_move (.inr rfl) (hK _ _ ?_)
          refine wpList_end rfl ?_
          simp only [Act.put, List.setIfInBounds_toArray, List.set_cons_zero, List.set_cons_succ]
          go_simp
          have kk := NewT.rt (NewT.rt (NewT.trans _ _ _ k7 hn5) hq1 (by have := k7.out.size; omega)) hq2 (by have := k7.out.size; omega)
          replace ra1 := hq2.row (by omega) ra1
          clear ra rb hn5 hq1 hq2 hp k7
          have R20 := Lib.hid ra1
          have R21 := Lib.hid rb1
          clear ra1 rb1 HB2
          replace RA := Lib.hid (kk.row RA.out)
          replace RB := Lib.hid (kk.row RB.out)
          replace R13 := Lib.hid (kk.row R13.out)
          replace R15 := Lib.hid (kk.row R15.out)
          replace R17 := Lib.hid (kk.row R17.out)
          replace R18 := Lib.hid (kk.row R18.out)
          replace HL := Lib.hid (kk.hs HL.out)
          replace HT := Lib.hid (kk.tables HT.out)
          replace HN := Lib.hid (NewT.trans _ _ _ HN.out kk)
          clear kk
          go_upto_region 9 with fail
          refine wp_region_rely (NewT) [SV.eq (.agg (rowA 32 (bF (X)))), SV.eq (.agg (rowA 32 (bF (X)))), SV.eq (.bool true), SV.eq (.bool true), SV.eq (.bool (bx)), SV.eq (.bool (bx)), SV.eq (.bool true), SV.eq (.bool true), SV.eq (.bool true), SV.eq (.agg (rowA 32 (bF (Y)))), SV.eq (.agg (rowA 32 (bF (Y)))), SV.eq (.bool true), SV.eq (.bool true), SV.eq (.bool true), SV.eq (.agg (rowA 32 (bF (Z)))), SV.eq (.agg (rowA 32 (bF (Z)))), SV.eq (.bool true), SV.eq (.bool true), SV.eq (.bool true), SV.eq (.bool (by_)), SV.eq (.bool (by_)), SV.eq (.bool true), SV.eq (.bool true), SV.eq (.bool true), SV.eq (.agg (rowA 32 (bF (leaf)))), SV.eq (.int .i64 (i)), SV.eq (.int .i64 (n)), SV.eq (v), SV.eq (.agg (rowA 32 (bF (root)))), SV.eq (.bool (bi)), SV.eq (.agg (rowA 32 (bF (leaf)))), SV.eq (.int .i64 (i)), SV.eq (.int .i64 (n)), SV.eq (v), SV.eq (.agg (rowA 32 (bF (root)))), SV.eq (.bool (bi)), SV.eq (.bool true), SV.eq (.bool true), SV.eq (.bool true), SV.eq (.int .i64 (m)), SV.eq (.int .i64 (n)), SV.eq (.agg (rowA 32 (bF (leaf)))), SV.eq (.agg (rowA 32 (bF (root)))), SV.eq (v), SV.eq (.bool (bg)), SV.eq (.int .i64 (m)), SV.eq (.int .i64 (n)), SV.eq (.agg (rowA 32 (bF (leaf)))), SV.eq (.agg (rowA 32 (bF (root)))), SV.eq (v), SV.eq (.bool (bg)), SV.eq (.bool true), SV.eq (.bool true)] [([(13, none)], none), ([(15, none)], none), ([(62, some 0), (63, some 1)], none), ([(64, some 2)], none), ([(14, none), (65, some 3)], some (65, true)), ([(16, none), (65, some 3)], some (65, true)), ([(66, some 4), (67, some 5), (65, some 3)], some (65, true)), ([(65, some 3), (68, some 6)], none), ([(69, some 7)], none), ([(17, none), (70, some 8)], some (70, true)), ([(20, none), (70, some 8)], some (70, true)), ([(71, some 9), (72, some 10), (70, some 8)], some (70, true)), ([(70, some 8), (73, some 11)], none), ([(74, some 12)], none), ([(18, none), (75, some 13)], some (75, true)), ([(21, none), (75, some 13)], some (75, true)), ([(76, some 14), (77, some 15), (75, some 13)], some (75, true)), ([(75, some 13), (78, some 16)], none), ([(79, some 17)], none), ([(19, none), (80, some 18)], some (80, true)), ([(22, none), (80, some 18)], some (80, true)), ([(81, some 19), (82, some 20), (80, some 18)], some (80, true)), ([(80, some 18), (83, some 21)], none), ([(84, some 22)], none), ([(6, none), (85, some 23)], some (85, true)), ([(2, none), (85, some 23)], some (85, true)), ([(4, none), (85, some 23)], some (85, true)), ([(5, none), (85, some 23)], some (85, true)), ([(7, none), (85, some 23)], some (85, true)), ([(86, some 24), (87, some 25), (88, some 26), (89, some 27), (90, some 28), (85, some 23)], some (85, true)), ([(6, none), (85, some 23)], some (85, true)), ([(2, none), (85, some 23)], some (85, true)), ([(4, none), (85, some 23)], some (85, true)), ([(5, none), (85, some 23)], some (85, true)), ([(7, none), (85, some 23)], some (85, true)), ([(92, some 30), (93, some 31), (94, some 32), (95, some 33), (96, some 34), (85, some 23)], some (85, true)), ([(91, some 29), (97, some 35), (85, some 23)], some (85, true)), ([(85, some 23), (98, some 36)], none), ([(99, some 37)], none), ([(3, none), (100, some 38)], some (100, true)), ([(4, none), (100, some 38)], some (100, true)), ([(6, none), (100, some 38)], some (100, true)), ([(7, none), (100, some 38)], some (100, true)), ([(5, none), (100, some 38)], some (100, true)), ([(101, some 39), (102, some 40), (103, some 41), (104, some 42), (105, some 43), (100, some 38)], some (100, true)), ([(3, none), (100, some 38)], some (100, true)), ([(4, none), (100, some 38)], some (100, true)), ([(6, none), (100, some 38)], some (100, true)), ([(7, none), (100, some 38)], some (100, true)), ([(5, none), (100, some 38)], some (100, true)), ([(107, some 45), (108, some 46), (109, some 47), (110, some 48), (111, some 49), (100, some 38)], some (100, true)), ([(106, some 44), (112, some 50), (100, some 38)], some (100, true)), ([(100, some 38), (113, some 51)], none)] 115 rfl (by kernel_rfl) rfl (by kernel_rfl) (by kernel_rfl) rfl NewT.trans (NewT.drew _) (Nat.le_of_ble_eq_true rfl) ⟨?_, ?_, ?_, ?_, ?_, ?_, ?_, ?_, ?_, ?_, ?_, ?_, ?_, ?_, ?_, ?_, ?_, ?_, ?_, ?_, ?_, ?_, ?_, ?_, ?_, ?_, ?_, ?_, ?_, ?_, ?_, ?_, ?_, ?_, ?_, ?_, ?_, ?_, ?_, ?_, ?_, ?_, ?_, ?_, ?_, ?_, ?_, ?_, ?_, ?_, ?_, ?_, ?_, trivial⟩ ?_
          · intro a wx hT hF K hK
            obtain ⟨f13, _⟩ := hF
            have f13 : a.tmps.getD 13 undef = .pointer (some ⟨p13, 0, none⟩) := f13
            refine rely_wp rfl ?_
            exact opr_load_hash rfl f13 (hT.row R13.out) (hK _ _ (NewT.refl _) rfl)
          · intro a wx hT hF K hK
            obtain ⟨f15, _⟩ := hF
            have f15 : a.tmps.getD 15 undef = .pointer (some ⟨p15, 0, none⟩) := f15
            refine rely_wp rfl ?_
            exact opr_load_hash rfl f15 (hT.row R15.out) (hK _ _ (NewT.refl _) rfl)
          · intro a wx hT hF K hK
            obtain ⟨f62, f63, _⟩ := hF
            have f62 : a.tmps.getD 62 undef = .agg (rowA 32 (bF (X))) := f62
            have f63 : a.tmps.getD 63 undef = .agg (rowA 32 (bF (X))) := f63
            refine rely_wp rfl ?_
            exact opr_eql_hash (b := true) rfl f62 f63 (eqH_same _) (hK _ _ (NewT.refl _) rfl)
          · intro a wx hT hF K hK
            obtain ⟨f64, _⟩ := hF
            have f64 : a.tmps.getD 64 undef = .bool true := f64
            refine rely_wp rfl ?_
            exact opr_move (.inl rfl) (hK _ _ (NewT.refl _) f64)
          · intro a wx hT hF K hK
            obtain ⟨f14, f65, _⟩ := hF
            have f14 : a.tmps.getD 14 undef = .bool (bx) := f14
            have f65 : a.tmps.getD 65 undef = .bool true := f65
            refine rely_wp (rely_guard f65) ?_
            exact opr_move (.inl rfl) (hK _ _ (NewT.refl _) f14)
          · intro a wx hT hF K hK
            obtain ⟨f16, f65, _⟩ := hF
            have f16 : a.tmps.getD 16 undef = .bool (bx) := f16
            have f65 : a.tmps.getD 65 undef = .bool true := f65
            refine rely_wp (rely_guard f65) ?_
            exact opr_move (.inl rfl) (hK _ _ (NewT.refl _) f16)
          · intro a wx hT hF K hK
            obtain ⟨f66, f67, f65, _⟩ := hF
            have f66 : a.tmps.getD 66 undef = .bool (bx) := f66
            have f67 : a.tmps.getD 67 undef = .bool (bx) := f67
            have f65 : a.tmps.getD 65 undef = .bool true := f65
            refine rely_wp (rely_guard f65) ?_
            exact opr_eqlQ (b := true) (beq_self_eq_true _) rfl f66 f67 (hK _ _ (NewT.refl _) rfl)
          · intro a wx hT hF K hK
            obtain ⟨f65, f68, _⟩ := hF
            have f65 : a.tmps.getD 65 undef = .bool true := f65
            have f68 : a.tmps.getD 68 undef = .bool true := f68
            refine rely_wp rfl ?_
            exact opr_pick_true rfl f65 (hK _ _ (NewT.refl _) f68)
          · intro a wx hT hF K hK
            obtain ⟨f69, _⟩ := hF
            have f69 : a.tmps.getD 69 undef = .bool true := f69
            refine rely_wp rfl ?_
            exact opr_move (.inl rfl) (hK _ _ (NewT.refl _) f69)
          · intro a wx hT hF K hK
            obtain ⟨f17, f70, _⟩ := hF
            have f17 : a.tmps.getD 17 undef = .pointer (some ⟨p17, 0, none⟩) := f17
            have f70 : a.tmps.getD 70 undef = .bool true := f70
            refine rely_wp (rely_guard f70) ?_
            exact opr_load_hash rfl f17 (hT.row R17.out) (hK _ _ (NewT.refl _) rfl)
          · intro a wx hT hF K hK
            obtain ⟨f20, f70, _⟩ := hF
            have f20 : a.tmps.getD 20 undef = .pointer (some ⟨p20, 0, none⟩) := f20
            have f70 : a.tmps.getD 70 undef = .bool true := f70
            refine rely_wp (rely_guard f70) ?_
            exact opr_load_hash rfl f20 (hT.row R20.out) (hK _ _ (NewT.refl _) rfl)
          · intro a wx hT hF K hK
            obtain ⟨f71, f72, f70, _⟩ := hF
            have f71 : a.tmps.getD 71 undef = .agg (rowA 32 (bF (Y))) := f71
            have f72 : a.tmps.getD 72 undef = .agg (rowA 32 (bF (Y))) := f72
            have f70 : a.tmps.getD 70 undef = .bool true := f70
            refine rely_wp (rely_guard f70) ?_
            exact opr_eql_hash (b := true) rfl f71 f72 (eqH_same _) (hK _ _ (NewT.refl _) rfl)
          · intro a wx hT hF K hK
            obtain ⟨f70, f73, _⟩ := hF
            have f70 : a.tmps.getD 70 undef = .bool true := f70
            have f73 : a.tmps.getD 73 undef = .bool true := f73
            refine rely_wp rfl ?_
            exact opr_pick_true rfl f70 (hK _ _ (NewT.refl _) f73)
          · intro a wx hT hF K hK
            obtain ⟨f74, _⟩ := hF
            have f74 : a.tmps.getD 74 undef = .bool true := f74
            refine rely_wp rfl ?_
            exact opr_move (.inl rfl) (hK _ _ (NewT.refl _) f74)
          · intro a wx hT hF K hK
            obtain ⟨f18, f75, _⟩ := hF
            have f18 : a.tmps.getD 18 undef = .pointer (some ⟨p17 + 1, 0, none⟩) := f18
            have f75 : a.tmps.getD 75 undef = .bool true := f75
            refine rely_wp (rely_guard f75) ?_
            exact opr_load_hash rfl f18 (hT.row R18.out) (hK _ _ (NewT.refl _) rfl)
          · intro a wx hT hF K hK
            obtain ⟨f21, f75, _⟩ := hF
            have f21 : a.tmps.getD 21 undef = .pointer (some ⟨p20 + 1, 0, none⟩) := f21
            have f75 : a.tmps.getD 75 undef = .bool true := f75
            refine rely_wp (rely_guard f75) ?_
            exact opr_load_hash rfl f21 (hT.row R21.out) (hK _ _ (NewT.refl _) rfl)
          · intro a wx hT hF K hK
            obtain ⟨f76, f77, f75, _⟩ := hF
            have f76 : a.tmps.getD 76 undef = .agg (rowA 32 (bF (Z))) := f76
            have f77 : a.tmps.getD 77 undef = .agg (rowA 32 (bF (Z))) := f77
            have f75 : a.tmps.getD 75 undef = .bool true := f75
            refine rely_wp (rely_guard f75) ?_
            exact opr_eql_hash (b := true) rfl f76 f77 (eqH_same _) (hK _ _ (NewT.refl _) rfl)
          · intro a wx hT hF K hK
            obtain ⟨f75, f78, _⟩ := hF
            have f75 : a.tmps.getD 75 undef = .bool true := f75
            have f78 : a.tmps.getD 78 undef = .bool true := f78
            refine rely_wp rfl ?_
            exact opr_pick_true rfl f75 (hK _ _ (NewT.refl _) f78)
          · intro a wx hT hF K hK
            obtain ⟨f79, _⟩ := hF
            have f79 : a.tmps.getD 79 undef = .bool true := f79
            refine rely_wp rfl ?_
            exact opr_move (.inl rfl) (hK _ _ (NewT.refl _) f79)
          · intro a wx hT hF K hK
            obtain ⟨f19, f80, _⟩ := hF
            have f19 : a.tmps.getD 19 undef = .bool (by_) := f19
            have f80 : a.tmps.getD 80 undef = .bool true := f80
            refine rely_wp (rely_guard f80) ?_
            exact opr_move (.inl rfl) (hK _ _ (NewT.refl _) f19)
          · intro a wx hT hF K hK
            obtain ⟨f22, f80, _⟩ := hF
            have f22 : a.tmps.getD 22 undef = .bool (by_) := f22
            have f80 : a.tmps.getD 80 undef = .bool true := f80
            refine rely_wp (rely_guard f80) ?_
            exact opr_move (.inl rfl) (hK _ _ (NewT.refl _) f22)
          · intro a wx hT hF K hK
            obtain ⟨f81, f82, f80, _⟩ := hF
            have f81 : a.tmps.getD 81 undef = .bool (by_) := f81
            have f82 : a.tmps.getD 82 undef = .bool (by_) := f82
            have f80 : a.tmps.getD 80 undef = .bool true := f80
            refine rely_wp (rely_guard f80) ?_
            exact opr_eqlQ (b := true) (beq_self_eq_true _) rfl f81 f82 (hK _ _ (NewT.refl _) rfl)
          · intro a wx hT hF K hK
            obtain ⟨f80, f83, _⟩ := hF
            have f80 : a.tmps.getD 80 undef = .bool true := f80
            have f83 : a.tmps.getD 83 undef = .bool true := f83
            refine rely_wp rfl ?_
            exact opr_pick_true rfl f80 (hK _ _ (NewT.refl _) f83)
          · intro a wx hT hF K hK
            obtain ⟨f84, _⟩ := hF
            have f84 : a.tmps.getD 84 undef = .bool true := f84
            refine rely_wp rfl ?_
            exact opr_move (.inl rfl) (hK _ _ (NewT.refl _) f84)
          · intro a wx hT hF K hK
            obtain ⟨f6, f85, _⟩ := hF
            have f6 : a.tmps.getD 6 undef = .pointer (some ⟨w.heap.size, 0, none⟩) := f6
            have f85 : a.tmps.getD 85 undef = .bool true := f85
            refine rely_wp (rely_guard f85) ?_
            exact opr_load_hash rfl f6 (hT.row RA.out) (hK _ _ (NewT.refl _) rfl)
          · intro a wx hT hF K hK
            obtain ⟨f2, f85, _⟩ := hF
            have f2 : a.tmps.getD 2 undef = .int .i64 (i) := f2
            have f85 : a.tmps.getD 85 undef = .bool true := f85
            refine rely_wp (rely_guard f85) ?_
            exact opr_move (.inl rfl) (hK _ _ (NewT.refl _) f2)
          · intro a wx hT hF K hK
            obtain ⟨f4, f85, _⟩ := hF
            have f4 : a.tmps.getD 4 undef = .int .i64 (n) := f4
            have f85 : a.tmps.getD 85 undef = .bool true := f85
            refine rely_wp (rely_guard f85) ?_
            exact opr_move (.inl rfl) (hK _ _ (NewT.refl _) f4)
          · intro a wx hT hF K hK
            obtain ⟨f5, f85, _⟩ := hF
            have f5 : a.tmps.getD 5 undef = v := f5
            have f85 : a.tmps.getD 85 undef = .bool true := f85
            refine rely_wp (rely_guard f85) ?_
            exact opr_move (.inl rfl) (hK _ _ (NewT.refl _) f5)
          · intro a wx hT hF K hK
            obtain ⟨f7, f85, _⟩ := hF
            have f7 : a.tmps.getD 7 undef = .pointer (some ⟨w.heap.size + 1, 0, none⟩) := f7
            have f85 : a.tmps.getD 85 undef = .bool true := f85
            refine rely_wp (rely_guard f85) ?_
            exact opr_load_hash rfl f7 (hT.row RB.out) (hK _ _ (NewT.refl _) rfl)
          · intro a wx hT hF K hK
            obtain ⟨f86, f87, f88, f89, f90, f85, _⟩ := hF
            have f86 : a.tmps.getD 86 undef = .agg (rowA 32 (bF (leaf))) := f86
            have f87 : a.tmps.getD 87 undef = .int .i64 (i) := f87
            have f88 : a.tmps.getD 88 undef = .int .i64 (n) := f88
            have f89 : a.tmps.getD 89 undef = v := f89
            have f90 : a.tmps.getD 90 undef = .agg (rowA 32 (bF (root))) := f90
            have f85 : a.tmps.getD 85 undef = .bool true := f85
            refine rely_wp (rely_guard f85) ?_
            exact opr_cv (HI1.out _ wx (hT.tables HT.out) (hT.hs HL.out)) rfl Tryd.func20 (by kernel_rfl) (by kernel_rfl) (by simp only [List.map_toArray, List.map_cons, List.map_nil, eval_tmp, f86, f87, f88, f89, f90]) hK
          · intro a wx hT hF K hK
            obtain ⟨f6, f85, _⟩ := hF
            have f6 : a.tmps.getD 6 undef = .pointer (some ⟨w.heap.size, 0, none⟩) := f6
            have f85 : a.tmps.getD 85 undef = .bool true := f85
            refine rely_wp (rely_guard f85) ?_
            exact opr_load_hash rfl f6 (hT.row RA.out) (hK _ _ (NewT.refl _) rfl)
          · intro a wx hT hF K hK
            obtain ⟨f2, f85, _⟩ := hF
            have f2 : a.tmps.getD 2 undef = .int .i64 (i) := f2
            have f85 : a.tmps.getD 85 undef = .bool true := f85
            refine rely_wp (rely_guard f85) ?_
            exact opr_move (.inl rfl) (hK _ _ (NewT.refl _) f2)
          · intro a wx hT hF K hK
            obtain ⟨f4, f85, _⟩ := hF
            have f4 : a.tmps.getD 4 undef = .int .i64 (n) := f4
            have f85 : a.tmps.getD 85 undef = .bool true := f85
            refine rely_wp (rely_guard f85) ?_
            exact opr_move (.inl rfl) (hK _ _ (NewT.refl _) f4)
          · intro a wx hT hF K hK
            obtain ⟨f5, f85, _⟩ := hF
            have f5 : a.tmps.getD 5 undef = v := f5
            have f85 : a.tmps.getD 85 undef = .bool true := f85
            refine rely_wp (rely_guard f85) ?_
            exact opr_move (.inl rfl) (hK _ _ (NewT.refl _) f5)
          · intro a wx hT hF K hK
            obtain ⟨f7, f85, _⟩ := hF
            have f7 : a.tmps.getD 7 undef = .pointer (some ⟨w.heap.size + 1, 0, none⟩) := f7
            have f85 : a.tmps.getD 85 undef = .bool true := f85
            refine rely_wp (rely_guard f85) ?_
            exact opr_load_hash rfl f7 (hT.row RB.out) (hK _ _ (NewT.refl _) rfl)
          · intro a wx hT hF K hK
            obtain ⟨f92, f93, f94, f95, f96, f85, _⟩ := hF
            have f92 : a.tmps.getD 92 undef = .agg (rowA 32 (bF (leaf))) := f92
            have f93 : a.tmps.getD 93 undef = .int .i64 (i) := f93
            have f94 : a.tmps.getD 94 undef = .int .i64 (n) := f94
            have f95 : a.tmps.getD 95 undef = v := f95
            have f96 : a.tmps.getD 96 undef = .agg (rowA 32 (bF (root))) := f96
            have f85 : a.tmps.getD 85 undef = .bool true := f85
            refine rely_wp (rely_guard f85) ?_
            exact opr_cv (HI2.out _ wx (hT.tables HT.out) (hT.hs HL.out)) rfl Tryd.func21 (by kernel_rfl) (by kernel_rfl) (by simp only [List.map_toArray, List.map_cons, List.map_nil, eval_tmp, f92, f93, f94, f95, f96]) hK
          · intro a wx hT hF K hK
            obtain ⟨f91, f97, f85, _⟩ := hF
            have f91 : a.tmps.getD 91 undef = .bool (bi) := f91
            have f97 : a.tmps.getD 97 undef = .bool (bi) := f97
            have f85 : a.tmps.getD 85 undef = .bool true := f85
            refine rely_wp (rely_guard f85) ?_
            exact opr_eqlQ (b := true) (beq_self_eq_true _) rfl f91 f97 (hK _ _ (NewT.refl _) rfl)
          · intro a wx hT hF K hK
            obtain ⟨f85, f98, _⟩ := hF
            have f85 : a.tmps.getD 85 undef = .bool true := f85
            have f98 : a.tmps.getD 98 undef = .bool true := f98
            refine rely_wp rfl ?_
            exact opr_pick_true rfl f85 (hK _ _ (NewT.refl _) f98)
          · intro a wx hT hF K hK
            obtain ⟨f99, _⟩ := hF
            have f99 : a.tmps.getD 99 undef = .bool true := f99
            refine rely_wp rfl ?_
            exact opr_move (.inl rfl) (hK _ _ (NewT.refl _) f99)
          · intro a wx hT hF K hK
            obtain ⟨f3, f100, _⟩ := hF
            have f3 : a.tmps.getD 3 undef = .int .i64 (m) := f3
            have f100 : a.tmps.getD 100 undef = .bool true := f100
            refine rely_wp (rely_guard f100) ?_
            exact opr_move (.inl rfl) (hK _ _ (NewT.refl _) f3)
          · intro a wx hT hF K hK
            obtain ⟨f4, f100, _⟩ := hF
            have f4 : a.tmps.getD 4 undef = .int .i64 (n) := f4
            have f100 : a.tmps.getD 100 undef = .bool true := f100
            refine rely_wp (rely_guard f100) ?_
            exact opr_move (.inl rfl) (hK _ _ (NewT.refl _) f4)
          · intro a wx hT hF K hK
            obtain ⟨f6, f100, _⟩ := hF
            have f6 : a.tmps.getD 6 undef = .pointer (some ⟨w.heap.size, 0, none⟩) := f6
            have f100 : a.tmps.getD 100 undef = .bool true := f100
            refine rely_wp (rely_guard f100) ?_
            exact opr_load_hash rfl f6 (hT.row RA.out) (hK _ _ (NewT.refl _) rfl)
          · intro a wx hT hF K hK
            obtain ⟨f7, f100, _⟩ := hF
            have f7 : a.tmps.getD 7 undef = .pointer (some ⟨w.heap.size + 1, 0, none⟩) := f7
            have f100 : a.tmps.getD 100 undef = .bool true := f100
            refine rely_wp (rely_guard f100) ?_
            exact opr_load_hash rfl f7 (hT.row RB.out) (hK _ _ (NewT.refl _) rfl)
          · intro a wx hT hF K hK
            obtain ⟨f5, f100, _⟩ := hF
            have f5 : a.tmps.getD 5 undef = v := f5
            have f100 : a.tmps.getD 100 undef = .bool true := f100
            refine rely_wp (rely_guard f100) ?_
            exact opr_move (.inl rfl) (hK _ _ (NewT.refl _) f5)
          · intro a wx hT hF K hK
            obtain ⟨f101, f102, f103, f104, f105, f100, _⟩ := hF
            have f101 : a.tmps.getD 101 undef = .int .i64 (m) := f101
            have f102 : a.tmps.getD 102 undef = .int .i64 (n) := f102
            have f103 : a.tmps.getD 103 undef = .agg (rowA 32 (bF (leaf))) := f103
            have f104 : a.tmps.getD 104 undef = .agg (rowA 32 (bF (root))) := f104
            have f105 : a.tmps.getD 105 undef = v := f105
            have f100 : a.tmps.getD 100 undef = .bool true := f100
            refine rely_wp (rely_guard f100) ?_
            exact opr_cv (HG1.out _ wx (hT.tables HT.out) (hT.hs HL.out)) rfl Tryd.func22 (by kernel_rfl) (by kernel_rfl) (by simp only [List.map_toArray, List.map_cons, List.map_nil, eval_tmp, f101, f102, f103, f104, f105]) hK
          · intro a wx hT hF K hK
            obtain ⟨f3, f100, _⟩ := hF
            have f3 : a.tmps.getD 3 undef = .int .i64 (m) := f3
            have f100 : a.tmps.getD 100 undef = .bool true := f100
            refine rely_wp (rely_guard f100) ?_
            exact opr_move (.inl rfl) (hK _ _ (NewT.refl _) f3)
          · intro a wx hT hF K hK
            obtain ⟨f4, f100, _⟩ := hF
            have f4 : a.tmps.getD 4 undef = .int .i64 (n) := f4
            have f100 : a.tmps.getD 100 undef = .bool true := f100
            refine rely_wp (rely_guard f100) ?_
            exact opr_move (.inl rfl) (hK _ _ (NewT.refl _) f4)
          · intro a wx hT hF K hK
            obtain ⟨f6, f100, _⟩ := hF
            have f6 : a.tmps.getD 6 undef = .pointer (some ⟨w.heap.size, 0, none⟩) := f6
            have f100 : a.tmps.getD 100 undef = .bool true := f100
            refine rely_wp (rely_guard f100) ?_
            exact opr_load_hash rfl f6 (hT.row RA.out) (hK _ _ (NewT.refl _) rfl)
          · intro a wx hT hF K hK
            obtain ⟨f7, f100, _⟩ := hF
            have f7 : a.tmps.getD 7 undef = .pointer (some ⟨w.heap.size + 1, 0, none⟩) := f7
            have f100 : a.tmps.getD 100 undef = .bool true := f100
            refine rely_wp (rely_guard f100) ?_
            exact opr_load_hash rfl f7 (hT.row RB.out) (hK _ _ (NewT.refl _) rfl)
          · intro a wx hT hF K hK
            obtain ⟨f5, f100, _⟩ := hF
            have f5 : a.tmps.getD 5 undef = v := f5
            have f100 : a.tmps.getD 100 undef = .bool true := f100
            refine rely_wp (rely_guard f100) ?_
            exact opr_move (.inl rfl) (hK _ _ (NewT.refl _) f5)
          · intro a wx hT hF K hK
            obtain ⟨f107, f108, f109, f110, f111, f100, _⟩ := hF
            have f107 : a.tmps.getD 107 undef = .int .i64 (m) := f107
            have f108 : a.tmps.getD 108 undef = .int .i64 (n) := f108
            have f109 : a.tmps.getD 109 undef = .agg (rowA 32 (bF (leaf))) := f109
            have f110 : a.tmps.getD 110 undef = .agg (rowA 32 (bF (root))) := f110
            have f111 : a.tmps.getD 111 undef = v := f111
            have f100 : a.tmps.getD 100 undef = .bool true := f100
            refine rely_wp (rely_guard f100) ?_
            exact opr_cv (HG2.out _ wx (hT.tables HT.out) (hT.hs HL.out)) rfl Tryd.func23 (by kernel_rfl) (by kernel_rfl) (by simp only [List.map_toArray, List.map_cons, List.map_nil, eval_tmp, f107, f108, f109, f110, f111]) hK
          · intro a wx hT hF K hK
            obtain ⟨f106, f112, f100, _⟩ := hF
            have f106 : a.tmps.getD 106 undef = .bool (bg) := f106
            have f112 : a.tmps.getD 112 undef = .bool (bg) := f112
            have f100 : a.tmps.getD 100 undef = .bool true := f100
            refine rely_wp (rely_guard f100) ?_
            exact opr_eqlQ (b := true) (beq_self_eq_true _) rfl f106 f112 (hK _ _ (NewT.refl _) rfl)
          · intro a wx hT hF K hK
            obtain ⟨f100, f113, _⟩ := hF
            have f100 : a.tmps.getD 100 undef = .bool true := f100
            have f113 : a.tmps.getD 113 undef = .bool true := f113
            refine rely_wp rfl ?_
            exact opr_pick_true rfl f100 (hK _ _ (NewT.refl _) f113)
          · intro we ke
            intro u h; obtain rfl := Eq.symm (h (by simp)); clear h
            intro u h; obtain rfl := Eq.symm (h (by simp)); clear h
            intro u h; obtain rfl := Eq.symm (h (by simp)); clear h
            intro u h; obtain rfl := Eq.symm (h (by simp)); clear h
            intro u h; obtain rfl := Eq.symm (h (by simp)); clear h
            intro u h; obtain rfl := Eq.symm (h (by simp)); clear h
            intro u h; obtain rfl := Eq.symm (h (by simp)); clear h
            intro u h; obtain rfl := Eq.symm (h (by simp)); clear h
            intro u h; obtain rfl := Eq.symm (h (by simp)); clear h
            intro u h; obtain rfl := Eq.symm (h (by simp)); clear h
            intro u h; obtain rfl := Eq.symm (h (by simp)); clear h
            intro u h; obtain rfl := Eq.symm (h (by simp)); clear h
            intro u h; obtain rfl := Eq.symm (h (by simp)); clear h
            intro u h; obtain rfl := Eq.symm (h (by simp)); clear h
            intro u h; obtain rfl := Eq.symm (h (by simp)); clear h
            intro u h; obtain rfl := Eq.symm (h (by simp)); clear h
            intro u h; obtain rfl := Eq.symm (h (by simp)); clear h
            intro u h; obtain rfl := Eq.symm (h (by simp)); clear h
            intro u h; obtain rfl := Eq.symm (h (by simp)); clear h
            intro u h; obtain rfl := Eq.symm (h (by simp)); clear h
            intro u h; obtain rfl := Eq.symm (h (by simp)); clear h
            intro u h; obtain rfl := Eq.symm (h (by simp)); clear h
            intro u h; obtain rfl := Eq.symm (h (by simp)); clear h
            intro u h; obtain rfl := Eq.symm (h (by simp)); clear h
            intro u h; obtain rfl := Eq.symm (h (by simp)); clear h
            intro u h; obtain rfl := Eq.symm (h (by simp)); clear h
            intro u h; obtain rfl := Eq.symm (h (by simp)); clear h
            intro u h; obtain rfl := Eq.symm (h (by simp)); clear h
            intro u h; obtain rfl := Eq.symm (h (by simp)); clear h
            intro u h; obtain rfl := Eq.symm (h (by simp)); clear h
            intro u h; obtain rfl := Eq.symm (h (by simp)); clear h
            intro u h; obtain rfl := Eq.symm (h (by simp)); clear h
            intro u h; obtain rfl := Eq.symm (h (by simp)); clear h
            intro u h; obtain rfl := Eq.symm (h (by simp)); clear h
            intro u h; obtain rfl := Eq.symm (h (by simp)); clear h
            intro u h; obtain rfl := Eq.symm (h (by simp)); clear h
            intro u h; obtain rfl := Eq.symm (h (by simp)); clear h
            intro u h; obtain rfl := Eq.symm (h (by simp)); clear h
            intro u h; obtain rfl := Eq.symm (h (by simp)); clear h
            intro u h; obtain rfl := Eq.symm (h (by simp)); clear h
            intro u h; obtain rfl := Eq.symm (h (by simp)); clear h
            intro u h; obtain rfl := Eq.symm (h (by simp)); clear h
            intro u h; obtain rfl := Eq.symm (h (by simp)); clear h
            intro u h; obtain rfl := Eq.symm (h (by simp)); clear h
            intro u h; obtain rfl := Eq.symm (h (by simp)); clear h
            intro u h; obtain rfl := Eq.symm (h (by simp)); clear h
            intro u h; obtain rfl := Eq.symm (h (by simp)); clear h
            intro u h; obtain rfl := Eq.symm (h (by simp)); clear h
            intro u h; obtain rfl := Eq.symm (h (by simp)); clear h
            intro u h; obtain rfl := Eq.symm (h (by simp)); clear h
            intro u h; obtain rfl := Eq.symm (h (by simp)); clear h
            intro u h; obtain rfl := Eq.symm (h (by simp)); clear h
            intro u h; obtain rfl := Eq.symm (h (by simp)); clear h
            refine relyEnd_nil rfl ?_
            simp only [Act.put, List.setIfInBounds_toArray, List.set_cons_zero, List.set_cons_succ]
            refine opr_move (.inr rfl) ?_
            go_simp
            go_wp2
            go_ret
            exact ⟨rfl, (NewT.trans _ _ _ HN.out ke).out⟩
end Go.Proofs.YtoigjcadncecpaaDoor
/- Laws of five and of six arguments: each of them read. No program is named. -/
namespace Go.Proofs.YtoigjcadncecpaaDoor
open Go Go.ChangeShapes Go.RowKit
set_option maxRecDepth 8000
set_option linter.all false
section
variable {H : Type} {enc : TypeId × Value → H} {P : Program} {w : World} {base : Nat} {spare : Nat → Bool} {held : Bool}
theorem trodAll_five {t0 t1 t2 t3 t4 : TypeId} {args : Array Value} {ds : List (DataW H)} {ps : List MemPlace} (h : DataW.TrodAll enc P w base spare held [t0, t1, t2, t3, t4] args.toList ds ps) :
    ∃ v0 v1 v2 v3 v4 d0 d1 d2 d3 d4 p0 p1 p2 p3 p4, args = #[v0, v1, v2, v3, v4] ∧ ds = [d0, d1, d2, d3, d4] ∧ ps = p0 ++ p1 ++ p2 ++ p3 ++ p4 ∧ DataW.Trod enc P w base spare held t0 v0 d0 p0 ∧ DataW.Trod enc P w base spare held t1 v1 d1 p1 ∧ DataW.Trod enc P w base spare held t2 v2 d2 p2 ∧ DataW.Trod enc P w base spare held t3 v3 d3 p3 ∧ DataW.Trod enc P w base spare held t4 v4 d4 p4 := by
  obtain ⟨v0, vs0, d0, ds0, p0, q0, hargs, rfl, rfl, hd0, hr0⟩ := trodAll_cons h
  obtain ⟨v1, vs1, d1, ds1, p1, q1, rfl, rfl, rfl, hd1, hr1⟩ := trodAll_cons hr0
  obtain ⟨v2, vs2, d2, ds2, p2, q2, rfl, rfl, rfl, hd2, hr2⟩ := trodAll_cons hr1
  obtain ⟨v3, vs3, d3, ds3, p3, q3, rfl, rfl, rfl, hd3, hr3⟩ := trodAll_cons hr2
  obtain ⟨v4, vs4, d4, ds4, p4, q4, rfl, rfl, rfl, hd4, hr4⟩ := trodAll_cons hr3
  obtain ⟨rfl, rfl, rfl⟩ := trodAll_nil hr4
  exact ⟨v0, v1, v2, v3, v4, d0, d1, d2, d3, d4, p0, p1, p2, p3, p4, by cases args; simp_all, rfl, by simp, hd0, hd1, hd2, hd3, hd4⟩
theorem trodAll_six {t0 t1 t2 t3 t4 t5 : TypeId} {args : Array Value} {ds : List (DataW H)} {ps : List MemPlace} (h : DataW.TrodAll enc P w base spare held [t0, t1, t2, t3, t4, t5] args.toList ds ps) :
    ∃ v0 v1 v2 v3 v4 v5 d0 d1 d2 d3 d4 d5 p0 p1 p2 p3 p4 p5, args = #[v0, v1, v2, v3, v4, v5] ∧ ds = [d0, d1, d2, d3, d4, d5] ∧ ps = p0 ++ p1 ++ p2 ++ p3 ++ p4 ++ p5 ∧ DataW.Trod enc P w base spare held t0 v0 d0 p0 ∧ DataW.Trod enc P w base spare held t1 v1 d1 p1 ∧ DataW.Trod enc P w base spare held t2 v2 d2 p2 ∧ DataW.Trod enc P w base spare held t3 v3 d3 p3 ∧ DataW.Trod enc P w base spare held t4 v4 d4 p4 ∧ DataW.Trod enc P w base spare held t5 v5 d5 p5 := by
  obtain ⟨v0, vs0, d0, ds0, p0, q0, hargs, rfl, rfl, hd0, hr0⟩ := trodAll_cons h
  obtain ⟨v1, vs1, d1, ds1, p1, q1, rfl, rfl, rfl, hd1, hr1⟩ := trodAll_cons hr0
  obtain ⟨v2, vs2, d2, ds2, p2, q2, rfl, rfl, rfl, hd2, hr2⟩ := trodAll_cons hr1
  obtain ⟨v3, vs3, d3, ds3, p3, q3, rfl, rfl, rfl, hd3, hr3⟩ := trodAll_cons hr2
  obtain ⟨v4, vs4, d4, ds4, p4, q4, rfl, rfl, rfl, hd4, hr4⟩ := trodAll_cons hr3
  obtain ⟨v5, vs5, d5, ds5, p5, q5, rfl, rfl, rfl, hd5, hr5⟩ := trodAll_cons hr4
  obtain ⟨rfl, rfl, rfl⟩ := trodAll_nil hr5
  exact ⟨v0, v1, v2, v3, v4, v5, d0, d1, d2, d3, d4, d5, p0, p1, p2, p3, p4, p5, by cases args; simp_all, rfl, by simp, hd0, hd1, hd2, hd3, hd4, hd5⟩
end
end Go.Proofs.YtoigjcadncecpaaDoor
