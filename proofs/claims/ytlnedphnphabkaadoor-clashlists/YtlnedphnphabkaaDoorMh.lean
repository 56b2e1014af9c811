/- The document's answers for layer 5: Root, Trees and Same, walked. -/
import Derived.Test.YtlnedphnphabkaaDoorMc
import Derived.Test.YtlnedphnphabkaaDoorMg
set_option linter.all false
namespace Go.Proofs.YtlnedphnphabkaaDoor
open Go Go.RowKit
set_option maxRecDepth 8000
set_option linter.all false
set_option maxHeartbeats 1000000 in
theorem RRoot_0 {node : Hs → Hs → Hs} {z : Hs} (hX : TreeH node z) (A : Option Addr) (c : Nat) (w : World) (hT : Tables w) : Cv 32 #[.slice A 0 c] w (.eq (.agg (rowA 32 (bF z)))) := by
  unfold Cv
  have HT := Lib.hid hT
  clear hT
  go_enter Tryd.func32, Tryd.ntmps32
  go_upto_region 2 with fail
  have r0 := rowIs_box w 30 32 (bF fun _ => 0)
  have hN := NewT.alloc w (.cells (rowA 32 (bF fun _ => 0)) 30)
  change Code.wp _ _ _ _ (w.alloc (.cells (rowA 32 (bF fun _ => 0)) 30))
  generalize w.alloc (.cells (rowA 32 (bF fun _ => 0)) 30) = W0 at r0 hN ⊢
  have R0 := Lib.hid r0
  have HN := Lib.hid hN
  replace HT := Lib.hid (hN.tables HT.out)
  clear r0 hN
  refine wp_region_steps0 NewT [SV.eq (.agg (rowA 32 (bF (z))))] [([], none)] 27 1 rfl rfl (by kernel_rfl) NewT.trans (NewT.refl _) (Nat.le_of_ble_eq_true rfl) ⟨?_, trivial⟩ ?_
  · intro a wx hT hF K hK
    refine rely_wp rfl ?_
    exact opr_cv (RSumB_cv _ [] z wx (hT.tables HT.out) (rdV_nil0 wx) (by simp) hX.zero) rfl Tryd.func35 (by kernel_rfl) (by kernel_rfl) (by simp only [List.map_toArray, List.map_cons, List.map_nil, eval_const]) hK
  · intro wx hT
    intro u h; obtain rfl := Eq.symm (h (by simp)); clear h
    refine relyEnd_nil rfl ?_
    simp only [Act.put, List.setIfInBounds_toArray, List.set_cons_zero, List.set_cons_succ]
    refine wpList_plain rfl (fun K hK => ?_)
    refine opr_store_new (B := w.heap.size) (W := w) info31 rfl rfl rfl (hT.row R0.out) (NewT.trans _ _ _ HN.out hT) (Nat.le_refl _) ?_
    intro w9 hB9 r9
    refine hK _ _ ?_
    refine wpList_end rfl ?_
    simp only [Act.put]
    go_simp
    go_wp2
    exact bodyPost_ret (results_row rfl _ rfl r9 Tryd.underlying30 info31) rfl ⟨_, rfl, hB9, rfl⟩
set_option maxHeartbeats 1000000 in
theorem RRoot_1 {node : Hs → Hs → Hs} {z : Hs} (hX : TreeH node z) (v : Value) (d : Hs) (w : World) (hT : Tables w) (hl : RdH w v [d]) : Cv 32 #[v] w (.eq (.agg (rowA 32 (bF d)))) := by
  unfold Cv
  have HT := Lib.hid hT
  have HL := Lib.hid hl
  obtain ⟨A, c, hv⟩ := rdH_form hl
  have hv : v = .slice A 1 c := hv
  subst hv
  clear hT hl
  go_enter Tryd.func32, Tryd.ntmps32
  go_upto_region 4 with fail
  obtain ⟨v, ev⟩ : ∃ v, Value.slice A 1 c = v := ⟨_, rfl⟩
  rw [ev] at HL ⊢
  clear ev
  have r0 := rowIs_box w 30 32 (bF fun _ => 0)
  have hN := NewT.alloc w (.cells (rowA 32 (bF fun _ => 0)) 30)
  change Code.wp _ _ _ _ (w.alloc (.cells (rowA 32 (bF fun _ => 0)) 30))
  generalize w.alloc (.cells (rowA 32 (bF fun _ => 0)) 30) = W0 at r0 hN ⊢
  have R0 := Lib.hid r0
  have HN := Lib.hid hN
  replace HT := Lib.hid (hN.tables HT.out)
  replace HL := Lib.hid (hN.hs HL.out)
  clear r0 hN
  refine wp_region_steps0 NewT [SV.eq (v), svP (d), SV.eq (.agg (rowA 32 (bF (d))))] [([(0, none)], none), ([(11, some 0)], none), ([(12, some 1)], none)] 27 3 rfl rfl (by kernel_rfl) NewT.trans (NewT.refl _) (Nat.le_of_ble_eq_true rfl) ⟨?_, ?_, ?_, trivial⟩ ?_
  · intro a wx hT hF K hK
    obtain ⟨f0, _⟩ := hF
    have f0 : a.tmps.getD 0 undef = v := f0
    refine rely_wp rfl ?_
    exact opr_move (.inl rfl) (hK _ _ (NewT.refl _) f0)
  · intro a wx hT hF K hK
    obtain ⟨f11, _⟩ := hF
    have f11 : a.tmps.getD 11 undef = v := f11
    refine rely_wp rfl ?_
    exact opr_idxH (i := 0) (d := d) (rfl) (rfl) rfl (by rw [eval_tmp, f11]; exact (hT.hs HL.out)) rfl (fun v hv => hK v _ (NewT.refl _) hv)
  · intro a wx hT hF K hK
    obtain ⟨f12, _⟩ := hF
    replace f12 := show (svP (d)).pred (a.tmps.getD 12 undef) wx from f12
    refine rely_wp rfl ?_
    exact opr_ldP rfl f12 (hK _ _ (NewT.refl _) rfl)
  · intro wx hT
    intro u h; obtain rfl := Eq.symm (h (by simp)); clear h
    intro _ _
    intro u h; obtain rfl := Eq.symm (h (by simp)); clear h
    refine relyEnd_nil rfl ?_
    simp only [Act.put, List.setIfInBounds_toArray, List.set_cons_zero, List.set_cons_succ]
    refine wpList_plain rfl (fun K hK => ?_)
    refine opr_store_new (B := w.heap.size) (W := w) info31 rfl rfl rfl (hT.row R0.out) (NewT.trans _ _ _ HN.out hT) (Nat.le_refl _) ?_
    intro w9 hB9 r9
    refine hK _ _ ?_
    refine wpList_end rfl ?_
    simp only [Act.put]
    go_simp
    go_wp2
    exact bodyPost_ret (results_row rfl _ rfl r9 Tryd.underlying30 info31) rfl ⟨_, rfl, hB9, rfl⟩
set_option maxRecDepth 20000 in
set_option maxHeartbeats 1000000 in
theorem RRoot_2 {node : Hs → Hs → Hs} {z : Hs} (hX : TreeH node z) (v : Value) (l : List Hs) (k : Nat) (w : World) (hT : Tables w) (hl : RdH w v l) (hn : 2 ≤ l.length) (hk : k < l.length) (hk0 : 0 < k) (hs : ∀ w, Cv 28 #[.int .i64 (l.length : Int)] w (.eq (.int .i64 (k : Int))))
    (ih : ∀ (v : Value) (m : List Hs) (w : World), Tables w → RdH w v m → m.length < l.length → Cv 32 #[v] w (.eq (.agg (rowA 32 (bF (rootM node z m)))))) : Cv 32 #[v] w (.eq (.agg (rowA 32 (bF (node (rootM node z (l.take k)) (rootM node z (l.drop k))))))) := by
  unfold Cv
  have HT := Lib.hid hT
  have HL := Lib.hid hl
  have HK := Lib.hid hs
  obtain ⟨A, c, hv⟩ := rdH_form hl
  have t0 : ((l.length : Int) == 0) = false := beq_eq_false_iff_ne.2 (by omega)
  have t1 : ((l.length : Int) == 1) = false := beq_eq_false_iff_ne.2 (by omega)
  subst hv
  clear hT hl hs
  go_enter Tryd.func32, Tryd.ntmps32
  go_upto_region 5 with fail
  obtain ⟨v, ev⟩ : ∃ v, Value.slice A l.length c = v := ⟨_, rfl⟩
  rw [ev] at HL ⊢
  clear ev
  have r0 := rowIs_box w 30 32 (bF fun _ => 0)
  have hN := NewT.alloc w (.cells (rowA 32 (bF fun _ => 0)) 30)
  change Code.wp _ _ _ _ (w.alloc (.cells (rowA 32 (bF fun _ => 0)) 30))
  generalize w.alloc (.cells (rowA 32 (bF fun _ => 0)) 30) = W0 at r0 hN ⊢
  have R0 := Lib.hid r0
  have HN := Lib.hid hN
  replace HT := Lib.hid (hN.tables HT.out)
  replace HL := Lib.hid (hN.hs HL.out)
  clear r0 hN
  clear t0 t1
  refine wp_region_steps0 NewT [SV.eq (v), SV.eq (.int .i64 ((List.length (l) : Int))), SV.eq (.int .i64 ((k : Int))), SV.eq (.int .i64 ((k : Int)))] [([(0, none)], none), ([(14, some 0)], none), ([(15, some 1)], none), ([(16, some 2)], none)] 27 4 rfl rfl (by kernel_rfl) NewT.trans (NewT.refl _) (Nat.le_of_ble_eq_true rfl) ⟨?_, ?_, ?_, ?_, trivial⟩ ?_
  · intro a wx hT hF K hK
    obtain ⟨f0, _⟩ := hF
    have f0 : a.tmps.getD 0 undef = v := f0
    refine rely_wp rfl ?_
    exact opr_move (.inl rfl) (hK _ _ (NewT.refl _) f0)
  · intro a wx hT hF K hK
    obtain ⟨f14, _⟩ := hF
    have f14 : a.tmps.getD 14 undef = v := f14
    refine rely_wp rfl ?_
    exact opr_len_h rfl (by rw [eval_tmp, f14]; exact (hT.hs HL.out)) (hK _ _ (NewT.refl _) rfl)
  · intro a wx hT hF K hK
    obtain ⟨f15, _⟩ := hF
    have f15 : a.tmps.getD 15 undef = .int .i64 ((List.length (l) : Int)) := f15
    refine rely_wp rfl ?_
    exact opr_cv (HK.out wx) rfl Tryd.func28 (by kernel_rfl) (by kernel_rfl) (by simp only [List.map_toArray, List.map_cons, List.map_nil, eval_tmp, f15]) hK
  · intro a wx hT hF K hK
    obtain ⟨f16, _⟩ := hF
    have f16 : a.tmps.getD 16 undef = .int .i64 ((k : Int)) := f16
    refine rely_wp rfl ?_
    exact opr_move (.inr rfl) (hK _ _ (NewT.refl _) f16)
  · intro w6 k6
    intro u h; obtain rfl := Eq.symm (h (by simp)); clear h
    intro u h; obtain rfl := Eq.symm (h (by simp)); clear h
    intro u h; obtain rfl := Eq.symm (h (by simp)); clear h
    intro u h; obtain rfl := Eq.symm (h (by simp)); clear h
    refine relyEnd_nil rfl ?_
    refine wpList_end rfl ?_
    simp only [Act.put, List.setIfInBounds_toArray, List.set_cons_zero, List.set_cons_succ]
    go_simp
    replace R0 := Lib.hid (k6.row R0.out)
    replace HT := Lib.hid (k6.tables HT.out)
    replace HL := Lib.hid (k6.hs HL.out)
    replace HN := Lib.hid (NewT.trans _ _ _ HN.out k6)
    clear HK k6
    go_upto_region 6 with fail
    refine wp_region_rely (NewT) [SV.eq (v), SV.eq (.int .i64 ((k : Int))), svH (List.take k l), SV.eq (.agg (rowA 32 (bF (rootM node z (List.take k l))))), SV.eq (v), SV.eq (.int .i64 ((k : Int))), svH (List.drop k l), SV.eq (.agg (rowA 32 (bF (rootM node z (List.drop k l))))), svRd ((1 :: digL (rootM node z (List.take k l))) ++ digL (rootM node z (List.drop k l))), SV.eq (.agg (rowA 32 (bF (node (rootM node z (List.take k l)) (rootM node z (List.drop k l))))))] [([(0, none)], none), ([(3, none)], none), ([(17, some 0), (18, some 1)], none), ([(19, some 2)], none), ([(0, none)], none), ([(3, none)], none), ([(21, some 4), (22, some 5)], none), ([(23, some 6)], none), ([(20, some 3), (24, some 7)], none), ([(25, some 8)], none)] 27 rfl (by kernel_rfl) rfl (by kernel_rfl) (by kernel_rfl) rfl NewT.trans (NewT.drew _) (Nat.le_of_ble_eq_true rfl) ⟨?_, ?_, ?_, ?_, ?_, ?_, ?_, ?_, ?_, ?_, trivial⟩ ?_
    · intro a wx hT hF K hK
      obtain ⟨f0, _⟩ := hF
      have f0 : a.tmps.getD 0 undef = v := f0
      refine rely_wp rfl ?_
      exact opr_move (.inl rfl) (hK _ _ (NewT.refl _) f0)
    · intro a wx hT hF K hK
      obtain ⟨f3, _⟩ := hF
      have f3 : a.tmps.getD 3 undef = .int .i64 ((k : Int)) := f3
      refine rely_wp rfl ?_
      exact opr_move (.inl rfl) (hK _ _ (NewT.refl _) f3)
    · intro a wx hT hF K hK
      obtain ⟨f17, f18, _⟩ := hF
      have f17 : a.tmps.getD 17 undef = v := f17
      have f18 : a.tmps.getD 18 undef = .int .i64 ((k : Int)) := f18
      refine rely_wp rfl ?_
      exact opr_toH (k := k) (by omega) (rfl) rfl (by rw [eval_tmp, f17]; exact (hT.hs HL.out)) f18 (fun v hv => hK v _ (NewT.refl _) hv)
    · intro a wx hT hF K hK
      obtain ⟨f19, _⟩ := hF
      replace f19 := show (svH (List.take k l)).pred (a.tmps.getD 19 undef) wx from f19
      refine rely_wp rfl ?_
      exact opr_cv (ih _ (List.take k l) wx (hT.tables HT.out) f19 (by rw [List.length_take]; omega)) rfl Tryd.func32 (by kernel_rfl) (by kernel_rfl) (by simp only [List.map_toArray, List.map_cons, List.map_nil, eval_tmp]) hK
    · intro a wx hT hF K hK
      obtain ⟨f0, _⟩ := hF
      have f0 : a.tmps.getD 0 undef = v := f0
      refine rely_wp rfl ?_
      exact opr_move (.inl rfl) (hK _ _ (NewT.refl _) f0)
    · intro a wx hT hF K hK
      obtain ⟨f3, _⟩ := hF
      have f3 : a.tmps.getD 3 undef = .int .i64 ((k : Int)) := f3
      refine rely_wp rfl ?_
      exact opr_move (.inl rfl) (hK _ _ (NewT.refl _) f3)
    · intro a wx hT hF K hK
      obtain ⟨f21, f22, _⟩ := hF
      have f21 : a.tmps.getD 21 undef = v := f21
      have f22 : a.tmps.getD 22 undef = .int .i64 ((k : Int)) := f22
      refine rely_wp rfl ?_
      exact opr_fromH (k := k) (by omega) (rfl) rfl (by rw [eval_tmp, f21]; exact (hT.hs HL.out)) f22 (fun v hv => hK v _ (NewT.refl _) hv)
    · intro a wx hT hF K hK
      obtain ⟨f23, _⟩ := hF
      replace f23 := show (svH (List.drop k l)).pred (a.tmps.getD 23 undef) wx from f23
      refine rely_wp rfl ?_
      exact opr_cv (ih _ (List.drop k l) wx (hT.tables HT.out) f23 (by rw [List.length_drop]; omega)) rfl Tryd.func32 (by kernel_rfl) (by kernel_rfl) (by simp only [List.map_toArray, List.map_cons, List.map_nil, eval_tmp]) hK
    · intro a wx hT hF K hK
      obtain ⟨f20, f24, _⟩ := hF
      have f20 : a.tmps.getD 20 undef = .agg (rowA 32 (bF (rootM node z (List.take k l)))) := f20
      have f24 : a.tmps.getD 24 undef = .agg (rowA 32 (bF (rootM node z (List.drop k l)))) := f24
      refine rely_wp rfl ?_
      exact opr_cv (RPair_cv (rootM node z (List.take k l)) (rootM node z (List.drop k l)) wx) rfl Tryd.func29 (by kernel_rfl) (by kernel_rfl) (by simp only [List.map_toArray, List.map_cons, List.map_nil, eval_tmp, f20, f24]) hK
    · intro a wx hT hF K hK
      obtain ⟨f25, _⟩ := hF
      replace f25 := show (svRd ((1 :: digL (rootM node z (List.take k l))) ++ digL (rootM node z (List.drop k l)))).pred (a.tmps.getD 25 undef) wx from f25
      refine rely_wp rfl ?_
      exact opr_cv (RSumB_cv _ ((1 :: digL (rootM node z (List.take k l))) ++ digL (rootM node z (List.drop k l))) (node (rootM node z (List.take k l)) (rootM node z (List.drop k l))) wx (hT.tables HT.out) f25 (by simp [digL_length]) (by simpa using hX.node (rootM node z (List.take k l)) (rootM node z (List.drop k l)))) rfl Tryd.func35 (by kernel_rfl) (by kernel_rfl) (by simp only [List.map_toArray, List.map_cons, List.map_nil, eval_tmp]) hK
    · intro wx hT
      intro u h; obtain rfl := Eq.symm (h (by simp)); clear h
      intro u h; obtain rfl := Eq.symm (h (by simp)); clear h
      intro _ _
      intro u h; obtain rfl := Eq.symm (h (by simp)); clear h
      intro u h; obtain rfl := Eq.symm (h (by simp)); clear h
      intro u h; obtain rfl := Eq.symm (h (by simp)); clear h
      intro _ _
      intro u h; obtain rfl := Eq.symm (h (by simp)); clear h
      intro _ _
      intro u h; obtain rfl := Eq.symm (h (by simp)); clear h
      refine relyEnd_nil rfl ?_
      simp only [Act.put, List.setIfInBounds_toArray, List.set_cons_zero, List.set_cons_succ]
      refine opr_store_new (B := w.heap.size) (W := w) info31 rfl rfl rfl (hT.row R0.out) (NewT.trans _ _ _ HN.out hT) (Nat.le_refl _) ?_
      intro w9 hB9 r9
      go_simp
      go_wp2
      exact bodyPost_ret (results_row rfl _ rfl r9 Tryd.underlying30 info31) rfl ⟨_, rfl, hB9, rfl⟩
theorem RRoot_cv {node : Hs → Hs → Hs} {z : Hs} (hX : TreeH node z) : ∀ (n : Nat) (v : Value) (l : List Hs) (w : World), Tables w → RdH w v l → l.length ≤ n → n ≤ 1000000 → Cv 32 #[v] w (.eq (.agg (rowA 32 (bF (rootM node z l))))) := by
  intro n
  induction n with
  | zero =>
    intro v l w hT hl hn _
    obtain rfl : l = [] := List.eq_nil_of_length_eq_zero (by omega)
    obtain ⟨A, c, rfl⟩ := rdH_form hl
    rw [rootM_nil]; exact RRoot_0 hX A c w hT
  | succ n ih =>
    intro v l w hT hl hn hb
    match l, hl, hn with
    | [], hl, _ => obtain ⟨A, c, rfl⟩ := rdH_form hl
                   rw [rootM_nil]; exact RRoot_0 hX A c w hT
    | [d], hl, _ => rw [rootM_one]; exact RRoot_1 hX v d w hT hl
    | d :: e :: l, hl, hn =>
      have h2 : 2 ≤ (d :: e :: l).length := by simp
      generalize d :: e :: l = m at hl hn h2 ⊢
      obtain ⟨s1, s2, _⟩ := splitN_lt m.length h2
      rw [rootM_split node z m h2]
      refine RRoot_2 hX v m _ w hT hl h2 s1 s2 (fun w => ?_) (fun v m' w hT' hl' hm => ih v m' w hT' hl' (by omega) (by omega))
      exact RSplit_cv (m.length : Int) (by omega) w
end Go.Proofs.YtlnedphnphabkaaDoor
/- The document's answers for layer 7: the root of leaves; is it a clash? -/
namespace Go.Proofs.YtlnedphnphabkaaDoor
open Go Go.RowKit
set_option maxRecDepth 8000
set_option linter.all false
theorem RLeafK {node : Hs → Hs → Hs} {z : Hs} {lf : List UInt8 → Hs} {sm : Tx → Tx} (hC : ClashH node z lf sm) (v : Value) (l : List UInt8) (w : World) (hT : Tables w) (hl : RdV w [] v l) (hn : l.length ≤ 10000) : Cv 31 #[v] w (.eq (.agg (rowA 32 (bF (lf l))))) :=
  RLeaf_cv v l (lf l) w hT hl hn (hC.leaf l)
set_option maxHeartbeats 2000000 in
theorem RRoot7_cv {node : Hs → Hs → Hs} {z : Hs} {lf : List UInt8 → Hs} {sm : Tx → Tx} (hC : ClashH node z lf sm) (v : Value) (x : List Tx) (w : World) (hT : Tables w) (hl : Parts w v x) (hf : Fine x) : Cv 15 #[v] w (.eq (.agg (rowA 32 (bF (rootM node z (List.map lf x)))))) := by
  unfold Cv
  have hX : TreeH node z := hC.tree
  have HFx := Lib.hid hf
  have HT := Lib.hid hT
  have HA0 := Lib.hid hl
  obtain ⟨A, c, e, _⟩ := parts_form hl
  subst e
  clear hT hl hf
  go_enter Tryd.func15, Tryd.ntmps15
  go_upto_region 1 with fail
  have r0 := rowIs_box w 30 32 (bF fun _ => 0)
  have hN := NewT.alloc w (.cells (rowA 32 (bF fun _ => 0)) 30)
  change Code.wp _ _ _ _ (w.alloc (.cells (rowA 32 (bF fun _ => 0)) 30))
  generalize w.alloc (.cells (rowA 32 (bF fun _ => 0)) 30) = W0 at r0 hN ⊢
  have R0 := Lib.hid r0
  have HN0 := Lib.hid hN
  replace HT := Lib.hid (hN.tables HT.out)
  replace HA0 := Lib.hid (hN.partsL HA0.out)
  clear r0 hN
  go_wp2
  go_loopw [3, 4] (fun v i wr => ∃ k : Nat, k ≤ x.length ∧ i = .int .i64 (k : Int) ∧ Hid (OwnH wr W0.heap.size v (List.take k (List.map lf x))) ∧ NewT W0 wr) (fun _ i _ => x.length - (intOf i).toNat)
  case atStart => exact ⟨0, by omega, rfl, Lib.hid (by rw [List.take_zero]; exact ownH_nil _ _), NewT.refl _⟩
  case round =>
    obtain ⟨k, hk, rfl, HO, hN⟩ := hrel
    have HN := Lib.hid hN
    clear hN
    by_cases hlt : k < x.length
    · have HA := Lib.hid (HN.out.partsL HA0.out)
      have it : (k : Int) < (x.length : Int) := by omega
      have hxl : x.length ≤ 1000 := HFx.out.len
      obtain ⟨s, hx⟩ : ∃ d, x[k]? = some d := ⟨_, List.getElem?_eq_getElem (by omega)⟩
      have HX := Lib.hid hx
      have HX2 := Lib.hid (HFx.out.each s (List.mem_of_getElem? hx))
      clear hx
      go_upto_region 5 with fail
      obtain ⟨va, ea⟩ : ∃ v, Value.slice A x.length c = v := ⟨_, rfl⟩
      rw [ea] at HA ⊢
      obtain ⟨v9, e9⟩ : ∃ v, u3 = v := ⟨_, rfl⟩
      rw [e9] at HO ⊢
      clear e9
      refine wp_region_steps0 NewT [SV.eq (v9), SV.eq (va), SV.eq (.int .i64 ((k : Int))), svPT (s), svRd (s), SV.eq (.agg (rowA 32 (bF (lf (s))))), svH ([lf (s)])] [([(3, none)], none), ([(0, none)], none), ([(4, none)], none), ([(12, some 1), (13, some 2)], none), ([(14, some 3)], none), ([(15, some 4)], none), ([(16, some 5)], none)] 21 7 rfl rfl (by kernel_rfl) NewT.trans (NewT.refl _) (Nat.le_of_ble_eq_true rfl) ⟨?_, ?_, ?_, ?_, ?_, ?_, ?_, trivial⟩ ?_
      · intro a wx hT hF K hK
        obtain ⟨f3, _⟩ := hF
        have f3 : a.tmps.getD 3 undef = v9 := f3
        refine rely_wp rfl ?_
        exact opr_move (.inl rfl) (hK _ _ (NewT.refl _) f3)
      · intro a wx hT hF K hK
        obtain ⟨f0, _⟩ := hF
        have f0 : a.tmps.getD 0 undef = va := f0
        refine rely_wp rfl ?_
        exact opr_move (.inl rfl) (hK _ _ (NewT.refl _) f0)
      · intro a wx hT hF K hK
        obtain ⟨f4, _⟩ := hF
        have f4 : a.tmps.getD 4 undef = .int .i64 ((k : Int)) := f4
        refine rely_wp rfl ?_
        exact opr_move (.inl rfl) (hK _ _ (NewT.refl _) f4)
      · intro a wx hT hF K hK
        obtain ⟨f12, f13, _⟩ := hF
        have f12 : a.tmps.getD 12 undef = va := f12
        have f13 : a.tmps.getD 13 undef = .int .i64 ((k : Int)) := f13
        refine rely_wp rfl ?_
        exact opr_idxT (i := k) (l := s) (HX.out) (rfl) rfl (by rw [eval_tmp, f12]; exact (hT.partsL HA.out)) f13 (fun v hv => hK v _ (NewT.refl _) hv)
      · intro a wx hT hF K hK
        obtain ⟨f14, _⟩ := hF
        replace f14 := show (svPT (s)).pred (a.tmps.getD 14 undef) wx from f14
        refine rely_wp rfl ?_
        exact opr_ldT rfl f14 (fun u hu => hK u _ (NewT.refl _) hu)
      · intro a wx hT hF K hK
        obtain ⟨f15, _⟩ := hF
        replace f15 := show (svRd (s)).pred (a.tmps.getD 15 undef) wx from f15
        refine rely_wp rfl ?_
        exact opr_cv (RLeafK hC _ s wx ((NewT.trans _ _ _ HN.out hT).tables HT.out) f15 HX2.out) rfl Tryd.func31 (by kernel_rfl) (by kernel_rfl) (by simp only [List.map_toArray, List.map_cons, List.map_nil, eval_tmp]) hK
      · intro a wx hT hF K hK
        obtain ⟨f16, _⟩ := hF
        have f16 : a.tmps.getD 16 undef = .agg (rowA 32 (bF (lf (s)))) := f16
        refine rely_wp rfl ?_
        exact opr_bsH1 rfl f16 hK
      · intro wl kl
        intro u h; obtain rfl := Eq.symm (h (by simp)); clear h
        intro u h; obtain rfl := Eq.symm (h (by simp)); clear h
        intro u h; obtain rfl := Eq.symm (h (by simp)); clear h
        intro _ _
        intro _ _
        intro u h; obtain rfl := Eq.symm (h (by simp)); clear h
        intro u17 h; have g17 := h (by simp); clear h; replace g17 := show (svH ([lf (s)])).pred u17 wl from g17
        refine relyEnd_nil rfl ?_
        simp only [Act.put, List.setIfInBounds_toArray, List.set_cons_zero, List.set_cons_succ]
        refine wpList_plain rfl (fun K hK => ?_)
        have hO := HO.out.new kl
        obtain ⟨v', w', hrun, h2, h3⟩ := run_appH hO g17 (by rw [List.length_take, List.length_map]; have := HFx.out.len; simp; omega) (Nat.le_trans HN.out.out.size kl.out.size) 33
        refine opr_append rfl rfl rfl hrun (hK _ _ ?_)
        clear hK K
        simp only [Act.put, List.setIfInBounds_toArray, List.set_cons_zero, List.set_cons_succ]
        refine wpList_plain rfl (fun K hK => ?_)
        refine opr_move (.inr rfl) (hK _ _ ?_)
        refine wpList_end rfl ?_
        simp only [Act.put, List.setIfInBounds_toArray, List.set_cons_zero, List.set_cons_succ]
        go_simp
        have hend := app_below (NewT.trans _ _ _ HN.out kl) rfl hO h3
        rw [show List.take k (List.map lf x) ++ [lf s] = List.take (k + 1) (List.map lf x) from by rw [List.take_add_one, map_at_k HX.out]; rfl] at h2
        have HO2 := Lib.hid h2
        have HN2 := Lib.hid hend
        clear h2 h3 hend hO kl hrun HO HN HA
        subst ea
        go_wp2
        go_roundw
        case rel => exact ⟨k + 1, by omega, by go_num, HO2, HN2.out⟩
        case measure => simp [intOf]; omega
    · obtain rfl : k = x.length := by omega
      have hO9 := HO.out
      rw [List.take_of_length_le (by rw [List.length_map]; exact Nat.le_refl _)] at hO9
      have HO9 := Lib.hid hO9.rd
      clear hO9 HO
      go_upto_region 6 with fail
      refine wp_region_steps0 NewT [SV.eq (u3), SV.eq (.agg (rowA 32 (bF (rootM node z (List.map lf x)))))] [([(3, none)], none), ([(19, some 0)], none)] 21 2 rfl rfl (by kernel_rfl) NewT.trans (NewT.refl _) (Nat.le_of_ble_eq_true rfl) ⟨?_, ?_, trivial⟩ ?_
      · intro a wx hT hF K hK
        obtain ⟨f3, _⟩ := hF
        have f3 : a.tmps.getD 3 undef = u3 := f3
        refine rely_wp rfl ?_
        exact opr_move (.inl rfl) (hK _ _ (NewT.refl _) f3)
      · intro a wx hT hF K hK
        obtain ⟨f19, _⟩ := hF
        have f19 : a.tmps.getD 19 undef = u3 := f19
        refine rely_wp rfl ?_
        exact opr_cv (RRoot_cv hX _ _ (List.map lf x) wx ((NewT.trans _ _ _ HN.out hT).tables HT.out) ((hT.hs HO9.out)) (Nat.le_refl _) (by rw [List.length_map]; have := HFx.out.len; omega)) rfl Tryd.func32 (by kernel_rfl) (by kernel_rfl) (by simp only [List.map_toArray, List.map_cons, List.map_nil, eval_tmp, f19]) hK
      · intro wz kz
        intro u h; obtain rfl := Eq.symm (h (by simp)); clear h
        intro u h; obtain rfl := Eq.symm (h (by simp)); clear h
        refine relyEnd_nil rfl ?_
        simp only [Act.put, List.setIfInBounds_toArray, List.set_cons_zero, List.set_cons_succ]
        refine wpList_plain rfl (fun K hK => ?_)
        refine opr_store_new (B := w.heap.size) (W := w) info31 rfl rfl rfl (kz.row (HN.out.row R0.out)) (NewT.trans _ _ _ HN0.out (NewT.trans _ _ _ HN.out kz)).out (Nat.le_refl _) ?_
        intro w9 hB9 r9
        refine hK _ _ ?_
        refine wpList_end rfl ?_
        simp only [Act.put]
        go_simp
        go_wp2
        exact bodyPost_ret (results_row rfl _ rfl r9 Tryd.underlying30 info31) rfl ⟨_, rfl, hB9, rfl⟩
set_option maxHeartbeats 1000000 in
theorem RIs7_cv {node : Hs → Hs → Hs} {z : Hs} {lf : List UInt8 → Hs} {sm : Tx → Tx} (hC : ClashH node z lf sm) (v u : Value) (x y : Tx) (w : World) (hT : Tables w) (ha : RdV w [] v x) (hb : RdV w [] u y) (hx : x.length ≤ 900000) (hy : y.length ≤ 900000) : Cv 17 #[v, u] w (.eq (.bool (isB sm x y))) := by
  unfold Cv
  obtain ⟨dx, hdx⟩ := hid_ex (shaL Kc Fc x)
  obtain ⟨dy, hdy⟩ := hid_ex (shaL Kc Fc y)
  have Hdx := hdx
  have Hdy := hdy
  have HdxN := Lib.hid hx
  have HdyN := Lib.hid hy
  have HE : Hid (eqH dx dy = decide (sm x = sm y)) := Lib.hid (by
    rw [← hC.sum x, ← hC.sum y, hdx.out, hdy.out]
    by_cases e : eqH dx dy = true
    · rw [e, decide_eq_true ((eqH_dig _ _).1 e)]
    · rw [decide_eq_false (fun e' => e ((eqH_dig _ _).2 e'))]
      exact Bool.eq_false_iff.2 e)
  clear hdx hdy
  have HT := Lib.hid hT
  have HA := Lib.hid ha
  have HB := Lib.hid hb
  clear hT ha hb hx hy
  go_enter Tryd.func17, Tryd.ntmps17
  go_upto_region 1 with fail
  obtain ⟨q1_1, Q1_1⟩ : ∃ bq_, ((!(decide (x = y))) && (eqH (dx) (dy))) = bq_ := ⟨_, rfl⟩
  refine wp_region_steps0 NewT [SV.eq (v), SV.eq (u), SV.eq (.bool (decide (x = y))), SV.eq (.bool (!(decide (x = y)))), SV.eq (.bool (!(decide (x = y)))), svIf (!(decide (x = y))) (svRd (x)), svIf (!(decide (x = y))) (SV.eq (.agg (rowA 32 (bF (dx))))), svIf (!(decide (x = y))) (svRd (y)), svIf (!(decide (x = y))) (SV.eq (.agg (rowA 32 (bF (dy))))), svIf (!(decide (x = y))) (SV.eq (.bool (eqH (dx) (dy)))), SV.eq (.bool (q1_1)), SV.eq (.bool (q1_1))] [([(0, none)], none), ([(1, none)], none), ([(5, some 0), (6, some 1)], none), ([(7, some 2)], none), ([(8, some 3)], none), ([(0, none), (9, some 4)], some (9, true)), ([(10, some 5), (9, some 4)], some (9, true)), ([(1, none), (9, some 4)], some (9, true)), ([(12, some 7), (9, some 4)], some (9, true)), ([(11, some 6), (13, some 8), (9, some 4)], some (9, true)), ([(9, some 4), (14, some 9)], none), ([(15, some 10)], none)] 16 12 rfl rfl (by kernel_rfl) NewT.trans (NewT.refl _) (Nat.le_of_ble_eq_true rfl) ⟨?_, ?_, ?_, ?_, ?_, ?_, ?_, ?_, ?_, ?_, ?_, ?_, trivial⟩ ?_
  · intro a wx hT hF K hK
    obtain ⟨f0, _⟩ := hF
    have f0 : a.tmps.getD 0 undef = v := f0
    refine rely_wp rfl ?_
    exact opr_move (.inl rfl) (hK _ _ (NewT.refl _) f0)
  · intro a wx hT hF K hK
    obtain ⟨f1, _⟩ := hF
    have f1 : a.tmps.getD 1 undef = u := f1
    refine rely_wp rfl ?_
    exact opr_move (.inl rfl) (hK _ _ (NewT.refl _) f1)
  · intro a wx hT hF K hK
    obtain ⟨f5, f6, _⟩ := hF
    have f5 : a.tmps.getD 5 undef = v := f5
    have f6 : a.tmps.getD 6 undef = u := f6
    refine rely_wp rfl ?_
    exact opr_cv (Bytes_cv _ _ x y wx (hT.rd HA.out) (hT.rd HB.out) (by have := HdxN.out; omega) (by have := HdyN.out; omega)) rfl Tryd.func13 (by kernel_rfl) (by kernel_rfl) (by simp only [List.map_toArray, List.map_cons, List.map_nil, eval_tmp, f5, f6]) hK
  · intro a wx hT hF K hK
    obtain ⟨f7, _⟩ := hF
    have f7 : a.tmps.getD 7 undef = .bool (decide (x = y)) := f7
    refine rely_wp rfl ?_
    exact opr_not rfl f7 (hK _ _ (NewT.refl _) rfl)
  · intro a wx hT hF K hK
    obtain ⟨f8, _⟩ := hF
    have f8 : a.tmps.getD 8 undef = .bool (!(decide (x = y))) := f8
    refine rely_wp rfl ?_
    exact opr_move (.inl rfl) (hK _ _ (NewT.refl _) f8)
  · intro a wx hT hF K hK
    obtain ⟨f0, f9, _⟩ := hF
    have f0 : a.tmps.getD 0 undef = v := f0
    have f9 : a.tmps.getD 9 undef = .bool (!(decide (x = y))) := f9
    refine rely_if (rely_gt f9) (NewT.refl _) hK (fun hE hK => ?_)
    exact opr_move (.inl rfl) (hK _ _ (NewT.refl _) (by rw [eval_tmp, f0]; exact hT.rd HA.out))
  · intro a wx hT hF K hK
    obtain ⟨f10, f9, _⟩ := hF
    replace f10 := show (!(decide (x = y))) = true → (svRd (x)).pred (a.tmps.getD 10 undef) wx from f10
    have f9 : a.tmps.getD 9 undef = .bool (!(decide (x = y))) := f9
    refine rely_if (rely_gt f9) (NewT.refl _) hK (fun hE hK => ?_)
    exact opr_cv (RSumB_cv _ x dx wx (hT.tables HT.out) (f10 hE) (by have := HdxN.out; omega) Hdx.out) rfl Tryd.func35 (by kernel_rfl) (by kernel_rfl) (by simp only [List.map_toArray, List.map_cons, List.map_nil, eval_tmp]) hK
  · intro a wx hT hF K hK
    obtain ⟨f1, f9, _⟩ := hF
    have f1 : a.tmps.getD 1 undef = u := f1
    have f9 : a.tmps.getD 9 undef = .bool (!(decide (x = y))) := f9
    refine rely_if (rely_gt f9) (NewT.refl _) hK (fun hE hK => ?_)
    exact opr_move (.inl rfl) (hK _ _ (NewT.refl _) (by rw [eval_tmp, f1]; exact hT.rd HB.out))
  · intro a wx hT hF K hK
    obtain ⟨f12, f9, _⟩ := hF
    replace f12 := show (!(decide (x = y))) = true → (svRd (y)).pred (a.tmps.getD 12 undef) wx from f12
    have f9 : a.tmps.getD 9 undef = .bool (!(decide (x = y))) := f9
    refine rely_if (rely_gt f9) (NewT.refl _) hK (fun hE hK => ?_)
    exact opr_cv (RSumB_cv _ y dy wx (hT.tables HT.out) (f12 hE) (by have := HdyN.out; omega) Hdy.out) rfl Tryd.func35 (by kernel_rfl) (by kernel_rfl) (by simp only [List.map_toArray, List.map_cons, List.map_nil, eval_tmp]) hK
  · intro a wx hT hF K hK
    obtain ⟨f11, f13, f9, _⟩ := hF
    have f11 : (!(decide (x = y))) = true → a.tmps.getD 11 undef = .agg (rowA 32 (bF (dx))) := f11
    have f13 : (!(decide (x = y))) = true → a.tmps.getD 13 undef = .agg (rowA 32 (bF (dy))) := f13
    have f9 : a.tmps.getD 9 undef = .bool (!(decide (x = y))) := f9
    refine rely_if (rely_gt f9) (NewT.refl _) hK (fun hE hK => ?_)
    exact opr_eql_hash (b := eqH (dx) (dy)) rfl (f11 hE) (f13 hE) (rfl) (hK _ _ (NewT.refl _) rfl)
  · intro a wx hT hF K hK
    obtain ⟨f9, f14, _⟩ := hF
    have f9 : a.tmps.getD 9 undef = .bool (!(decide (x = y))) := f9
    have f14 : (!(decide (x = y))) = true → a.tmps.getD 14 undef = .bool (eqH (dx) (dy)) := f14
    refine rely_wp rfl ?_
    exact opr_pick_b rfl f9 (fun hb => hK _ _ (NewT.refl _) (pn_and1 Q1_1 (f14 hb) hb)) (fun hb => hK _ _ (NewT.refl _) (pn_and0 Q1_1 hb))
  · intro a wx hT hF K hK
    obtain ⟨f15, _⟩ := hF
    have f15 : a.tmps.getD 15 undef = .bool (q1_1) := f15
    refine rely_wp rfl ?_
    exact opr_move (.inr rfl) (hK _ _ (NewT.refl _) f15)
  · intro wa ka
    intro u h; obtain rfl := Eq.symm (h (by simp)); clear h
    intro u h; obtain rfl := Eq.symm (h (by simp)); clear h
    intro u h; obtain rfl := Eq.symm (h (by simp)); clear h
    intro u h; obtain rfl := Eq.symm (h (by simp)); clear h
    intro u h; obtain rfl := Eq.symm (h (by simp)); clear h
    intro _ _
    intro _ _
    intro _ _
    intro _ _
    intro _ _
    intro u h; obtain rfl := Eq.symm (h (by simp)); clear h
    intro u h; obtain rfl := Eq.symm (h (by simp)); clear h
    subst Q1_1
    refine relyEnd_nil rfl ?_
    refine wpList_end rfl ?_
    simp only [Act.put, List.setIfInBounds_toArray, List.set_cons_zero, List.set_cons_succ]
    go_simp
    go_wp2
    go_ret
    exact ⟨_, rfl, ka, by unfold isB; rw [← HE.out]; rfl⟩
end Go.Proofs.YtlnedphnphabkaaDoor
/- The document's answer for layer 7: the clash of two lists. -/
namespace Go.Proofs.YtlnedphnphabkaaDoor
open Go Go.RowKit
set_option maxRecDepth 8000
set_option linter.all false
theorem run_appB0 {W : World} {B : Nat} {b : UInt8} {v u : Value} (h : (svB1 B b).pred v W) (hr : RdV W [] u []) (ty : TypeId) : (Builtin.append_ #[23, 23] ty #[v, u]).run Tryd.prog W = .ok v W := by
  obtain ⟨g, rfl, ho⟩ := h
  obtain ⟨A, c, rfl, _, _, _⟩ := hr
  obtain ⟨i0, hi, hz0, hz1, hz2⟩ := info_parts info5
  cases A with
  | none => simp [Builtin.append_, run_underlying Tryd.underlying23, sizeOf, typeInfo, hi, Builtin.lenOf, Builtin.firstCells, storeCells]
  | some a => simp [Builtin.append_, run_underlying Tryd.underlying23, sizeOf, typeInfo, hi, Builtin.lenOf, Builtin.firstCells, storeCells, loadCells, loadCellsFrom]
theorem run_appBK {W : World} {B : Nat} {b : UInt8} {v u : Value} {m : List UInt8} (h : (svB1 B b).pred v W) (hr : RdV W [] u m) (hn : 1 + m.length ≤ 1000000) (hB : B ≤ W.heap.size) (ty : TypeId) :
    ∃ v' w', (Builtin.append_ #[23, 23] ty #[v, u]).run Tryd.prog W = .ok v' w' ∧ RdV w' [] v' (b :: m) ∧ NewT W w' := by
  by_cases hm : 0 < m.length
  · obtain ⟨v', w', h1, h2, h3⟩ := run_appB1 h hr hm hn hB ty
    exact ⟨v', w', h1, h2.rd, h3⟩
  · obtain rfl : m = [] := List.eq_nil_of_length_eq_zero (by omega)
    have h0 := h
    obtain ⟨g, hv, ho⟩ := h0
    exact ⟨v, W, run_appB0 h hr ty, ho.rd, NewT.refl _⟩
set_option maxRecDepth 20000 in
set_option maxHeartbeats 8000000 in
theorem RExt_step {node : Hs → Hs → Hs} {z : Hs} {lf : List UInt8 → Hs} {sm : Tx → Tx} (hC : ClashH node z lf sm) (va vb : Value) (x y : List Tx) (w : World) (hT : Tables w) (ha : Parts w va x) (hb : Parts w vb y) (hx : Fine x) (hy : Fine y)
    (ih : ∀ (va vb : Value) (x' y' : List Tx) (w : World), Tables w → Parts w va x' → Parts w vb y' → Fine x' → Fine y' → x'.length < x.length → Cv 12 #[va, vb] w (svT2 (e1 (extM sm x' y')) (e2 (extM sm x' y')) (extM sm x' y').isSome)) : Cv 12 #[va, vb] w (svT2 (e1 (extM sm x y)) (e2 (extM sm x y)) (extM sm x y).isSome) := by
  unfold Cv
  have HT := Lib.hid hT
  have HA := Lib.hid ha
  have HB := Lib.hid hb
  have HFx := Lib.hid hx
  have HFy := Lib.hid hy
  have IH := Lib.hid ih
  have HN := Lib.hid (NewT.refl w)
  clear hT ha hb hx hy ih
  go_enter Tryd.func12, Tryd.ntmps12
  go_upto_region 1 with fail
  obtain ⟨q1_1, Q1_1⟩ : ∃ bq_, ((((List.length (x) : Int)) != ((List.length (y) : Int))) || (decide (x = y))) = bq_ := ⟨_, rfl⟩
  obtain ⟨q2_1, Q2_1⟩ : ∃ bq_, (q1_1 || (!(eqH (rootM node z (List.map lf x)) (rootM node z (List.map lf y))))) = bq_ := ⟨_, rfl⟩
  refine wp_region_steps0 NewT [SV.eq (va), SV.eq (.int .i64 ((List.length (x) : Int))), SV.eq (vb), SV.eq (.int .i64 ((List.length (y) : Int))), SV.eq (.bool (((List.length (x) : Int)) != ((List.length (y) : Int)))), SV.eq (.bool (((List.length (x) : Int)) != ((List.length (y) : Int)))), svIf ((!(((List.length (x) : Int)) != ((List.length (y) : Int))))) (SV.eq (va)), svIf ((!(((List.length (x) : Int)) != ((List.length (y) : Int))))) (SV.eq (vb)), svIf ((!(((List.length (x) : Int)) != ((List.length (y) : Int))))) (SV.eq (.bool (decide (x = y)))), SV.eq (.bool (q1_1)), SV.eq (.bool (q1_1)), svIf ((!q1_1)) (SV.eq (va)), svIf ((!q1_1)) (SV.eq (.agg (rowA 32 (bF (rootM node z (List.map lf x)))))), svIf ((!q1_1)) (SV.eq (vb)), svIf ((!q1_1)) (SV.eq (.agg (rowA 32 (bF (rootM node z (List.map lf y)))))), svIf ((!q1_1)) (SV.eq (.bool (!(eqH (rootM node z (List.map lf x)) (rootM node z (List.map lf y)))))), SV.eq (.bool (q2_1))] [([(0, none)], none), ([(12, some 0)], none), ([(1, none)], none), ([(14, some 2)], none), ([(13, some 1), (15, some 3)], none), ([(16, some 4)], none), ([(0, none), (17, some 5)], some (17, false)), ([(1, none), (17, some 5)], some (17, false)), ([(18, some 6), (19, some 7), (17, some 5)], some (17, false)), ([(17, some 5), (20, some 8)], none), ([(21, some 9)], none), ([(0, none), (22, some 10)], some (22, false)), ([(23, some 11), (22, some 10)], some (22, false)), ([(1, none), (22, some 10)], some (22, false)), ([(25, some 13), (22, some 10)], some (22, false)), ([(24, some 12), (26, some 14), (22, some 10)], some (22, false)), ([(22, some 10), (27, some 15)], none)] 103 17 rfl rfl (by kernel_rfl) NewT.trans (NewT.refl _) (Nat.le_of_ble_eq_true rfl) ⟨?_, ?_, ?_, ?_, ?_, ?_, ?_, ?_, ?_, ?_, ?_, ?_, ?_, ?_, ?_, ?_, ?_, trivial⟩ ?_
  · intro a wx hT hF K hK
    obtain ⟨f0, _⟩ := hF
    have f0 : a.tmps.getD 0 undef = va := f0
    refine rely_wp rfl ?_
    exact opr_move (.inl rfl) (hK _ _ (NewT.refl _) f0)
  · intro a wx hT hF K hK
    obtain ⟨f12, _⟩ := hF
    have f12 : a.tmps.getD 12 undef = va := f12
    refine rely_wp rfl ?_
    exact opr_len_parts rfl (by rw [eval_tmp, f12]; exact (hT.partsL HA.out)) (hK _ _ (NewT.refl _) rfl)
  · intro a wx hT hF K hK
    obtain ⟨f1, _⟩ := hF
    have f1 : a.tmps.getD 1 undef = vb := f1
    refine rely_wp rfl ?_
    exact opr_move (.inl rfl) (hK _ _ (NewT.refl _) f1)
  · intro a wx hT hF K hK
    obtain ⟨f14, _⟩ := hF
    have f14 : a.tmps.getD 14 undef = vb := f14
    refine rely_wp rfl ?_
    exact opr_len_parts rfl (by rw [eval_tmp, f14]; exact (hT.partsL HB.out)) (hK _ _ (NewT.refl _) rfl)
  · intro a wx hT hF K hK
    obtain ⟨f13, f15, _⟩ := hF
    have f13 : a.tmps.getD 13 undef = .int .i64 ((List.length (x) : Int)) := f13
    have f15 : a.tmps.getD 15 undef = .int .i64 ((List.length (y) : Int)) := f15
    refine rely_wp rfl ?_
    exact opr_cmp (b := ((List.length (x) : Int)) != ((List.length (y) : Int))) (.inr (.inl ⟨rfl, rfl⟩)) Tryd.underlying3 rfl f13 f15 (hK _ _ (NewT.refl _) rfl)
  · intro a wx hT hF K hK
    obtain ⟨f16, _⟩ := hF
    have f16 : a.tmps.getD 16 undef = .bool (((List.length (x) : Int)) != ((List.length (y) : Int))) := f16
    refine rely_wp rfl ?_
    exact opr_move (.inl rfl) (hK _ _ (NewT.refl _) f16)
  · intro a wx hT hF K hK
    obtain ⟨f0, f17, _⟩ := hF
    have f0 : a.tmps.getD 0 undef = va := f0
    have f17 : a.tmps.getD 17 undef = .bool (((List.length (x) : Int)) != ((List.length (y) : Int))) := f17
    refine rely_if (rely_gf f17) (NewT.refl _) hK (fun hE hK => ?_)
    exact opr_move (.inl rfl) (hK _ _ (NewT.refl _) f0)
  · intro a wx hT hF K hK
    obtain ⟨f1, f17, _⟩ := hF
    have f1 : a.tmps.getD 1 undef = vb := f1
    have f17 : a.tmps.getD 17 undef = .bool (((List.length (x) : Int)) != ((List.length (y) : Int))) := f17
    refine rely_if (rely_gf f17) (NewT.refl _) hK (fun hE hK => ?_)
    exact opr_move (.inl rfl) (hK _ _ (NewT.refl _) f1)
  · intro a wx hT hF K hK
    obtain ⟨f18, f19, f17, _⟩ := hF
    have f18 : ((!(((List.length (x) : Int)) != ((List.length (y) : Int))))) = true → a.tmps.getD 18 undef = va := f18
    have f19 : ((!(((List.length (x) : Int)) != ((List.length (y) : Int))))) = true → a.tmps.getD 19 undef = vb := f19
    have f17 : a.tmps.getD 17 undef = .bool (((List.length (x) : Int)) != ((List.length (y) : Int))) := f17
    refine rely_if (rely_gf f17) (NewT.refl _) hK (fun hE hK => ?_)
    exact opr_cv (RSame7_cv _ _ x y wx (hT.partsL HA.out) (hT.partsL HB.out) (HFx.out) (HFy.out)) rfl Tryd.func20 (by kernel_rfl) (by kernel_rfl) (by simp only [List.map_toArray, List.map_cons, List.map_nil, eval_tmp, (f18 hE), (f19 hE)]) hK
  · intro a wx hT hF K hK
    obtain ⟨f17, f20, _⟩ := hF
    have f17 : a.tmps.getD 17 undef = .bool (((List.length (x) : Int)) != ((List.length (y) : Int))) := f17
    have f20 : ((!(((List.length (x) : Int)) != ((List.length (y) : Int))))) = true → a.tmps.getD 20 undef = .bool (decide (x = y)) := f20
    refine rely_wp rfl ?_
    exact opr_pick_b rfl f17 (fun hb => hK _ _ (NewT.refl _) (pn_or1 Q1_1 hb)) (fun hb => hK _ _ (NewT.refl _) (pn_or0 Q1_1 (f20 (bnot hb)) hb))
  · intro a wx hT hF K hK
    obtain ⟨f21, _⟩ := hF
    have f21 : a.tmps.getD 21 undef = .bool (q1_1) := f21
    refine rely_wp rfl ?_
    exact opr_move (.inl rfl) (hK _ _ (NewT.refl _) f21)
  · intro a wx hT hF K hK
    obtain ⟨f0, f22, _⟩ := hF
    have f0 : a.tmps.getD 0 undef = va := f0
    have f22 : a.tmps.getD 22 undef = .bool (q1_1) := f22
    refine rely_if (rely_gf f22) (NewT.refl _) hK (fun hE hK => ?_)
    exact opr_move (.inl rfl) (hK _ _ (NewT.refl _) f0)
  · intro a wx hT hF K hK
    obtain ⟨f23, f22, _⟩ := hF
    have f23 : ((!q1_1)) = true → a.tmps.getD 23 undef = va := f23
    have f22 : a.tmps.getD 22 undef = .bool (q1_1) := f22
    refine rely_if (rely_gf f22) (NewT.refl _) hK (fun hE hK => ?_)
    exact opr_cv (RRoot7_cv hC _ x wx (hT.tables HT.out) (hT.partsL HA.out) (HFx.out)) rfl Tryd.func15 (by kernel_rfl) (by kernel_rfl) (by simp only [List.map_toArray, List.map_cons, List.map_nil, eval_tmp, (f23 hE)]) hK
  · intro a wx hT hF K hK
    obtain ⟨f1, f22, _⟩ := hF
    have f1 : a.tmps.getD 1 undef = vb := f1
    have f22 : a.tmps.getD 22 undef = .bool (q1_1) := f22
    refine rely_if (rely_gf f22) (NewT.refl _) hK (fun hE hK => ?_)
    exact opr_move (.inl rfl) (hK _ _ (NewT.refl _) f1)
  · intro a wx hT hF K hK
    obtain ⟨f25, f22, _⟩ := hF
    have f25 : ((!q1_1)) = true → a.tmps.getD 25 undef = vb := f25
    have f22 : a.tmps.getD 22 undef = .bool (q1_1) := f22
    refine rely_if (rely_gf f22) (NewT.refl _) hK (fun hE hK => ?_)
    exact opr_cv (RRoot7_cv hC _ y wx (hT.tables HT.out) (hT.partsL HB.out) (HFy.out)) rfl Tryd.func15 (by kernel_rfl) (by kernel_rfl) (by simp only [List.map_toArray, List.map_cons, List.map_nil, eval_tmp, (f25 hE)]) hK
  · intro a wx hT hF K hK
    obtain ⟨f24, f26, f22, _⟩ := hF
    have f24 : ((!q1_1)) = true → a.tmps.getD 24 undef = .agg (rowA 32 (bF (rootM node z (List.map lf x)))) := f24
    have f26 : ((!q1_1)) = true → a.tmps.getD 26 undef = .agg (rowA 32 (bF (rootM node z (List.map lf y)))) := f26
    have f22 : a.tmps.getD 22 undef = .bool (q1_1) := f22
    refine rely_if (rely_gf f22) (NewT.refl _) hK (fun hE hK => ?_)
    exact opr_neq_hash (b := !(eqH (rootM node z (List.map lf x)) (rootM node z (List.map lf y)))) rfl (f24 hE) (f26 hE) (rfl) (hK _ _ (NewT.refl _) rfl)
  · intro a wx hT hF K hK
    obtain ⟨f22, f27, _⟩ := hF
    have f22 : a.tmps.getD 22 undef = .bool (q1_1) := f22
    have f27 : ((!q1_1)) = true → a.tmps.getD 27 undef = .bool (!(eqH (rootM node z (List.map lf x)) (rootM node z (List.map lf y)))) := f27
    refine rely_wp rfl ?_
    exact opr_pick_b rfl f22 (fun hb => hK _ _ (NewT.refl _) (pn_or1 Q2_1 hb)) (fun hb => hK _ _ (NewT.refl _) (pn_or0 Q2_1 (f27 (bnot hb)) hb))
  · intro w1 k1
    intro u h; obtain rfl := Eq.symm (h (by simp)); clear h
    intro u h; obtain rfl := Eq.symm (h (by simp)); clear h
    intro u h; obtain rfl := Eq.symm (h (by simp)); clear h
    intro u h; obtain rfl := Eq.symm (h (by simp)); clear h
    intro u h; obtain rfl := Eq.symm (h (by simp)); clear h
    intro u h; obtain rfl := Eq.symm (h (by simp)); clear h
    intro _ _
    intro _ _
    intro _ _
    intro u h; obtain rfl := Eq.symm (h (by simp)); clear h
    intro u h; obtain rfl := Eq.symm (h (by simp)); clear h
    intro _ _
    intro _ _
    intro _ _
    intro _ _
    intro _ _
    intro u h; obtain rfl := Eq.symm (h (by simp)); clear h
    subst Q2_1 Q1_1
    refine relyEnd_nil rfl ?_
    refine wpList_end rfl ?_
    simp only [Act.put, List.setIfInBounds_toArray, List.set_cons_zero, List.set_cons_succ]
    go_simp
    replace HA := Lib.hid (k1.partsL HA.out)
    replace HB := Lib.hid (k1.partsL HB.out)
    replace HT := Lib.hid (k1.tables HT.out)
    replace HN := Lib.hid (NewT.trans _ _ _ HN.out k1)
    clear k1
    obtain ⟨q, hq⟩ : ∃ b_, ((((((List.length (x) : Int)) != ((List.length (y) : Int))) || (decide (x = y))) || (!(eqH (rootM node z (List.map lf x)) (rootM node z (List.map lf y)))))) = b_ := ⟨_, rfl⟩
    rw [hq]
    have HQ := Lib.hid hq
    clear hq
    cases q
    rotate_left
    · have hno : (extM sm x y) = none := ext_none (by
        have hq := HQ.out
        rw [hC.eqRoot] at hq
        by_cases h1 : x.length = y.length
        · by_cases h2 : x = y
          · exact .inr (.inl h2)
          · refine .inr (.inr fun h3 => ?_)
            rw [decide_eq_true h3, decide_eq_false h2, h1] at hq
            simp at hq
        · exact .inl h1)
      have HNO := Lib.hid hno
      clear hno
      go_wp2
      exact bodyPost_ret (results_ttt rfl rfl rfl rfl) rfl ⟨_, rfl, HN.out, _, _, by rw [HNO.out]; rfl, by rw [HNO.out]; exact rd_nil _, by rw [HNO.out]; exact rd_nil _⟩
    have hAP : Apart sm x y := by
      have hq := HQ.out
      rw [hC.eqRoot] at hq
      simp at hq
      obtain ⟨⟨q1, q2⟩, q3⟩ := hq
      have h1 : x.length = y.length := by omega
      refine ⟨h1, ?_, q2, q3⟩
      rcases Nat.eq_zero_or_pos x.length with h0 | h0
      · exact absurd (by rw [List.eq_nil_of_length_eq_zero h0, List.eq_nil_of_length_eq_zero (h1.symm.trans h0)]) q2
      · exact h0
    have HAP := Lib.hid hAP
    clear HQ
    by_cases h2 : x.length < 2
    · obtain ⟨s, t, rfl, rfl, hne⟩ := apart_one hAP h2
      have HL1 : Hid (((List.length [s] : Int) == 1) = true) := Lib.hid rfl
      have HSN := Lib.hid (HFx.out.each s (by simp))
      have HTN := Lib.hid (HFy.out.each t (by simp))
      have HXX : Hid (extM sm [s] [t] = some (0 :: s, 0 :: t)) := Lib.hid (by rw [extM, if_neg (ext_apart hAP), dif_pos (by simp)]; rfl)
      clear hAP h2 hne
      go_upto_region 3 with fail
      refine wp_region_steps0 NewT [SV.eq (va), SV.eq (.int .i64 ((List.length ([s]) : Int))), SV.eq (.bool true)] [([(0, none)], none), ([(29, some 0)], none), ([(30, some 1)], none)] 103 3 rfl rfl (by kernel_rfl) NewT.trans (NewT.refl _) (Nat.le_of_ble_eq_true rfl) ⟨?_, ?_, ?_, trivial⟩ ?_
      · intro a wx hT hF K hK
        obtain ⟨f0, _⟩ := hF
        have f0 : a.tmps.getD 0 undef = va := f0
        refine rely_wp rfl ?_
        exact opr_move (.inl rfl) (hK _ _ (NewT.refl _) f0)
      · intro a wx hT hF K hK
        obtain ⟨f29, _⟩ := hF
        have f29 : a.tmps.getD 29 undef = va := f29
        refine rely_wp rfl ?_
        exact opr_len_parts rfl (by rw [eval_tmp, f29]; exact (hT.partsL HA.out)) (hK _ _ (NewT.refl _) rfl)
      · intro a wx hT hF K hK
        obtain ⟨f30, _⟩ := hF
        have f30 : a.tmps.getD 30 undef = .int .i64 ((List.length ([s]) : Int)) := f30
        refine rely_wp rfl ?_
        exact opr_cmp (b := true) (.inl ⟨rfl, (by exact HL1.out)⟩) Tryd.underlying3 rfl f30 rfl (hK _ _ (NewT.refl _) rfl)
      · intro w2 k2
        intro u h; obtain rfl := Eq.symm (h (by simp)); clear h
        intro u h; obtain rfl := Eq.symm (h (by simp)); clear h
        intro u h; obtain rfl := Eq.symm (h (by simp)); clear h
        refine relyEnd_nil rfl ?_
        refine wpList_end rfl ?_
        simp only [Act.put, List.setIfInBounds_toArray, List.set_cons_zero, List.set_cons_succ]
        go_simp
        replace HA := Lib.hid (k2.partsL HA.out)
        replace HB := Lib.hid (k2.partsL HB.out)
        replace HT := Lib.hid (k2.tables HT.out)
        replace HN := Lib.hid (NewT.trans _ _ _ HN.out k2)
        clear k2
        go_upto_region 4 with fail
        refine wp_region_rely (NewT) [svB1 w2.heap.size 0, SV.eq (va), svPT (s), svRd (s), svRd (0 :: s), svB1 w2.heap.size 0, SV.eq (vb), svPT (t), svRd (t), svRd (0 :: t), svRd (0 :: s), svRd (0 :: t)] [([], none), ([(0, none)], none), ([(33, some 1)], none), ([(34, some 2)], none), ([(32, some 0), (35, some 3)], none), ([], none), ([(1, none)], none), ([(38, some 6)], none), ([(39, some 7)], none), ([(37, some 5), (40, some 8)], none), ([(36, some 4)], none), ([(41, some 9)], none)] 103 rfl (by kernel_rfl) rfl (by kernel_rfl) (by kernel_rfl) rfl NewT.trans (NewT.drew _) (Nat.le_of_ble_eq_true rfl) ⟨?_, ?_, ?_, ?_, ?_, ?_, ?_, ?_, ?_, ?_, ?_, ?_, trivial⟩ ?_
        · intro a wx hT hF K hK
          refine rely_wp rfl ?_
          exact opr_bsB1 (B := w2.heap.size) (b := 0) rfl rfl hT.out.size hK
        · intro a wx hT hF K hK
          obtain ⟨f0, _⟩ := hF
          have f0 : a.tmps.getD 0 undef = va := f0
          refine rely_wp rfl ?_
          exact opr_move (.inl rfl) (hK _ _ (NewT.refl _) f0)
        · intro a wx hT hF K hK
          obtain ⟨f33, _⟩ := hF
          have f33 : a.tmps.getD 33 undef = va := f33
          refine rely_wp rfl ?_
          exact opr_idxT (i := 0) (l := s) (rfl) (rfl) rfl (by rw [eval_tmp, f33]; exact (hT.partsL HA.out)) rfl (fun v hv => hK v _ (NewT.refl _) hv)
        · intro a wx hT hF K hK
          obtain ⟨f34, _⟩ := hF
          replace f34 := show (svPT (s)).pred (a.tmps.getD 34 undef) wx from f34
          refine rely_wp rfl ?_
          exact opr_ldT rfl f34 (fun u hu => hK u _ (NewT.refl _) hu)
        · intro a wx hT hF K hK
          obtain ⟨f32, f35, _⟩ := hF
          replace f32 := show (svB1 w2.heap.size 0).pred (a.tmps.getD 32 undef) wx from f32
          replace f35 := show (svRd (s)).pred (a.tmps.getD 35 undef) wx from f35
          refine rely_wp rfl ?_
          obtain ⟨v', w', hrun, h2, h3⟩ := run_appBK f32 f35 (by have := HSN.out; omega) hT.out.size _
          exact opr_append rfl rfl rfl hrun (hK _ _ h3 h2)
        · intro a wx hT hF K hK
          refine rely_wp rfl ?_
          exact opr_bsB1 (B := w2.heap.size) (b := 0) rfl rfl hT.out.size hK
        · intro a wx hT hF K hK
          obtain ⟨f1, _⟩ := hF
          have f1 : a.tmps.getD 1 undef = vb := f1
          refine rely_wp rfl ?_
          exact opr_move (.inl rfl) (hK _ _ (NewT.refl _) f1)
        · intro a wx hT hF K hK
          obtain ⟨f38, _⟩ := hF
          have f38 : a.tmps.getD 38 undef = vb := f38
          refine rely_wp rfl ?_
          exact opr_idxT (i := 0) (l := t) (rfl) (rfl) rfl (by rw [eval_tmp, f38]; exact (hT.partsL HB.out)) rfl (fun v hv => hK v _ (NewT.refl _) hv)
        · intro a wx hT hF K hK
          obtain ⟨f39, _⟩ := hF
          replace f39 := show (svPT (t)).pred (a.tmps.getD 39 undef) wx from f39
          refine rely_wp rfl ?_
          exact opr_ldT rfl f39 (fun u hu => hK u _ (NewT.refl _) hu)
        · intro a wx hT hF K hK
          obtain ⟨f37, f40, _⟩ := hF
          replace f37 := show (svB1 w2.heap.size 0).pred (a.tmps.getD 37 undef) wx from f37
          replace f40 := show (svRd (t)).pred (a.tmps.getD 40 undef) wx from f40
          refine rely_wp rfl ?_
          obtain ⟨v', w', hrun, h2, h3⟩ := run_appBK f37 f40 (by have := HTN.out; omega) hT.out.size _
          exact opr_append rfl rfl rfl hrun (hK _ _ h3 h2)
        · intro a wx hT hF K hK
          obtain ⟨f36, _⟩ := hF
          replace f36 := show (svRd (0 :: s)).pred (a.tmps.getD 36 undef) wx from f36
          refine rely_wp rfl ?_
          exact opr_move (.inr rfl) (hK _ _ (NewT.refl _) f36)
        · intro a wx hT hF K hK
          obtain ⟨f41, _⟩ := hF
          replace f41 := show (svRd (0 :: t)).pred (a.tmps.getD 41 undef) wx from f41
          refine rely_wp rfl ?_
          exact opr_move (.inr rfl) (hK _ _ (NewT.refl _) f41)
        · intro w3 k3
          intro _ _
          intro u h; obtain rfl := Eq.symm (h (by simp)); clear h
          intro _ _
          intro _ _
          intro _ _
          intro _ _
          intro u h; obtain rfl := Eq.symm (h (by simp)); clear h
          intro _ _
          intro _ _
          intro _ _
          intro u4 h; have g4 := h (by simp); clear h; replace g4 := show (svRd (0 :: s)).pred u4 w3 from g4
          intro u5 h; have g5 := h (by simp); clear h; replace g5 := show (svRd (0 :: t)).pred u5 w3 from g5
          refine relyEnd_nil rfl ?_
          simp only [Act.put, List.setIfInBounds_toArray, List.set_cons_zero, List.set_cons_succ]
          refine opr_move (.inr rfl) ?_
          go_simp
          go_wp2
          exact bodyPost_ret (results_ttt rfl rfl rfl rfl) rfl ⟨_, rfl, NewT.trans _ _ _ HN.out k3, _, _, by rw [HXX.out]; rfl, by rw [HXX.out]; exact g4, by rw [HXX.out]; exact g5⟩
    · have h2' : 2 ≤ x.length := by omega
      have hs := splitN_lt x.length h2'
      have HL1 : Hid (((x.length : Int) == 1) = false) := Lib.hid (beq_eq_false_iff_ne.2 (by omega))
      obtain ⟨k, hk⟩ : ∃ k, splitN x.length = k := ⟨_, rfl⟩
      have HK := Lib.hid hk
      have HSP : Hid (∀ w, Cv 28 #[.int .i64 (x.length : Int)] w (.eq (.int .i64 (k : Int)))) := Lib.hid (fun w => by rw [← hk]; exact RSplit_cv (x.length : Int) (by have := HFx.out.len; omega) w)
      rw [hk] at hs
      have HKX : Hid (k ≤ x.length) := Lib.hid (by omega)
      have HKY : Hid (k ≤ y.length) := Lib.hid (by rw [← hAP.len]; omega)
      have HKL : Hid (0 < k ∧ k < x.length) := Lib.hid ⟨hs.2.1, hs.1⟩
      have H2 := Lib.hid h2
      obtain ⟨ra, Hra⟩ := hid_ex (rootM node z (List.map lf (List.take k x)))
      obtain ⟨rb, Hrb⟩ := hid_ex (rootM node z (List.map lf (List.drop k x)))
      obtain ⟨rc, Hrc⟩ := hid_ex (rootM node z (List.map lf (List.take k y)))
      obtain ⟨rd, Hrd⟩ := hid_ex (rootM node z (List.map lf (List.drop k y)))
      have Cra : Hid (∀ w v, Tables w → Parts w v (List.take k x) → Cv 15 #[v] w (.eq (.agg (rowA 32 (bF ra))))) := Lib.hid fun w v hT hv => by rw [← Hra.out]; exact RRoot7_cv hC v _ w hT hv (HFx.out.take _)
      have Crb : Hid (∀ w v, Tables w → Parts w v (List.drop k x) → Cv 15 #[v] w (.eq (.agg (rowA 32 (bF rb))))) := Lib.hid fun w v hT hv => by rw [← Hrb.out]; exact RRoot7_cv hC v _ w hT hv (HFx.out.drop _)
      have Crc : Hid (∀ w v, Tables w → Parts w v (List.take k y) → Cv 15 #[v] w (.eq (.agg (rowA 32 (bF rc))))) := Lib.hid fun w v hT hv => by rw [← Hrc.out]; exact RRoot7_cv hC v _ w hT hv (HFy.out.take _)
      have Crd : Hid (∀ w v, Tables w → Parts w v (List.drop k y) → Cv 15 #[v] w (.eq (.agg (rowA 32 (bF rd))))) := Lib.hid fun w v hT hv => by rw [← Hrd.out]; exact RRoot7_cv hC v _ w hT hv (HFy.out.drop _)
      have eac : eqH ra rc = decide (rootS sm (List.take k x) = rootS sm (List.take k y)) := by rw [← Hra.out, ← Hrc.out, hC.eqRoot]
      have ebd : eqH rb rd = decide (rootS sm (List.drop k x) = rootS sm (List.drop k y)) := by rw [← Hrb.out, ← Hrd.out, hC.eqRoot]
      have HEE := Lib.hid (And.intro eac ebd)
      clear hAP h2 h2' hs hk eac ebd
      go_upto_region 3 with fail
      refine wp_region_steps0 NewT [SV.eq (va), SV.eq (.int .i64 ((List.length (x) : Int))), SV.eq (.bool false)] [([(0, none)], none), ([(29, some 0)], none), ([(30, some 1)], none)] 103 3 rfl rfl (by kernel_rfl) NewT.trans (NewT.refl _) (Nat.le_of_ble_eq_true rfl) ⟨?_, ?_, ?_, trivial⟩ ?_
      · intro a wx hT hF K hK
        obtain ⟨f0, _⟩ := hF
        have f0 : a.tmps.getD 0 undef = va := f0
        refine rely_wp rfl ?_
        exact opr_move (.inl rfl) (hK _ _ (NewT.refl _) f0)
      · intro a wx hT hF K hK
        obtain ⟨f29, _⟩ := hF
        have f29 : a.tmps.getD 29 undef = va := f29
        refine rely_wp rfl ?_
        exact opr_len_parts rfl (by rw [eval_tmp, f29]; exact (hT.partsL HA.out)) (hK _ _ (NewT.refl _) rfl)
      · intro a wx hT hF K hK
        obtain ⟨f30, _⟩ := hF
        have f30 : a.tmps.getD 30 undef = .int .i64 ((List.length (x) : Int)) := f30
        refine rely_wp rfl ?_
        exact opr_cmp (b := false) (.inl ⟨rfl, (by exact HL1.out)⟩) Tryd.underlying3 rfl f30 rfl (hK _ _ (NewT.refl _) rfl)
      · intro w2 k2
        intro u h; obtain rfl := Eq.symm (h (by simp)); clear h
        intro u h; obtain rfl := Eq.symm (h (by simp)); clear h
        intro u h; obtain rfl := Eq.symm (h (by simp)); clear h
        refine relyEnd_nil rfl ?_
        refine wpList_end rfl ?_
        simp only [Act.put, List.setIfInBounds_toArray, List.set_cons_zero, List.set_cons_succ]
        go_simp
        replace HA := Lib.hid (k2.partsL HA.out)
        replace HB := Lib.hid (k2.partsL HB.out)
        replace HT := Lib.hid (k2.tables HT.out)
        replace HN := Lib.hid (NewT.trans _ _ _ HN.out k2)
        clear k2
        go_upto_region 5 with fail
        refine wp_region_steps0 NewT [SV.eq (va), SV.eq (.int .i64 ((List.length (x) : Int))), SV.eq (.int .i64 ((k : Int))), SV.eq (.int .i64 ((k : Int)))] [([(0, none)], none), ([(42, some 0)], none), ([(43, some 1)], none), ([(44, some 2)], none)] 103 4 rfl rfl (by kernel_rfl) NewT.trans (NewT.refl _) (Nat.le_of_ble_eq_true rfl) ⟨?_, ?_, ?_, ?_, trivial⟩ ?_
        · intro a wx hT hF K hK
          obtain ⟨f0, _⟩ := hF
          have f0 : a.tmps.getD 0 undef = va := f0
          refine rely_wp rfl ?_
          exact opr_move (.inl rfl) (hK _ _ (NewT.refl _) f0)
        · intro a wx hT hF K hK
          obtain ⟨f42, _⟩ := hF
          have f42 : a.tmps.getD 42 undef = va := f42
          refine rely_wp rfl ?_
          exact opr_len_parts rfl (by rw [eval_tmp, f42]; exact (hT.partsL HA.out)) (hK _ _ (NewT.refl _) rfl)
        · intro a wx hT hF K hK
          obtain ⟨f43, _⟩ := hF
          have f43 : a.tmps.getD 43 undef = .int .i64 ((List.length (x) : Int)) := f43
          refine rely_wp rfl ?_
          exact opr_cv (HSP.out wx) rfl Tryd.func28 (by kernel_rfl) (by kernel_rfl) (by simp only [List.map_toArray, List.map_cons, List.map_nil, eval_tmp, f43]) hK
        · intro a wx hT hF K hK
          obtain ⟨f44, _⟩ := hF
          have f44 : a.tmps.getD 44 undef = .int .i64 ((k : Int)) := f44
          refine rely_wp rfl ?_
          exact opr_move (.inr rfl) (hK _ _ (NewT.refl _) f44)
        · intro w3 k3
          intro u h; obtain rfl := Eq.symm (h (by simp)); clear h
          intro u h; obtain rfl := Eq.symm (h (by simp)); clear h
          intro u h; obtain rfl := Eq.symm (h (by simp)); clear h
          intro u h; obtain rfl := Eq.symm (h (by simp)); clear h
          refine relyEnd_nil rfl ?_
          refine wpList_end rfl ?_
          simp only [Act.put, List.setIfInBounds_toArray, List.set_cons_zero, List.set_cons_succ]
          go_simp
          replace HA := Lib.hid (k3.partsL HA.out)
          replace HB := Lib.hid (k3.partsL HB.out)
          replace HT := Lib.hid (k3.tables HT.out)
          replace HN := Lib.hid (NewT.trans _ _ _ HN.out k3)
          clear k3
          go_upto_region 6 with fail
          refine wp_region_relyA0 (TB w3.heap.size) (fun j a w1 => VarsAt w3.heap.size [(8, match j with | 0 => (fun _ => 0) | 1 => (fun _ => 0) | _ => ra), (9, (fun _ => 0))] a w1) [SV.eq (va), SV.eq (.int .i64 ((k : Int))), svPs w3 (List.take k x), SV.eq (.agg (rowA 32 (bF (ra)))), SV.eq (va), SV.eq (.int .i64 ((k : Int))), svPs w3 (List.drop k x), SV.eq (.agg (rowA 32 (bF (rb)))), svPt, svPt, SV.any] [([(0, none)], none), ([(7, none)], none), ([(45, some 0), (46, some 1)], none), ([(47, some 2)], none), ([(0, none)], none), ([(7, none)], none), ([(49, some 4), (50, some 5)], none), ([(51, some 6)], none), ([], none), ([], none), ([(8, some 8), (48, some 3)], none)] [none, none, none, none, none, none, none, none, some 0, none, some 1] [8, 10] 103 rfl (by kernel_rfl) rfl (by kernel_rfl) (by kernel_rfl) rfl (by kernel_rfl) TB.trans (TB.drew _ _) ⟨⟨fun p hp g h => (by simp at hp; rcases hp with rfl | rfl <;> cases h), fun p hp q hq hpq g g2 h => (by simp at hp; rcases hp with rfl | rfl <;> cases h)⟩, fun p hp g h => (by simp at hp; rcases hp with rfl | rfl <;> cases h)⟩ (Nat.le_of_ble_eq_true rfl) ⟨?_, ?_, ?_, ?_, ?_, ?_, ?_, ?_, ?_, ?_, ?_, trivial⟩ ?_
          · intro a wx hT hF K hK
            replace hK := fun v w' (hN : NewT wx w') hv => hK v w' (TB.of_new (hT.size) hN) (fun k h => VarsAt.keep h (by simp) hN) hv
            obtain ⟨f0, _⟩ := hF
            have f0 : a.tmps.getD 0 undef = va := f0
            refine rely_wp rfl ?_
            exact opr_move (.inl rfl) (hK _ _ (NewT.refl _) f0)
          · intro a wx hT hF K hK
            replace hK := fun v w' (hN : NewT wx w') hv => hK v w' (TB.of_new (hT.size) hN) (fun k h => VarsAt.keep h (by simp) hN) hv
            obtain ⟨f7, _⟩ := hF
            have f7 : a.tmps.getD 7 undef = .int .i64 ((k : Int)) := f7
            refine rely_wp rfl ?_
            exact opr_move (.inl rfl) (hK _ _ (NewT.refl _) f7)
          · intro a wx hT hF K hK
            replace hK := fun v w' (hN : NewT wx w') hv => hK v w' (TB.of_new (hT.size) hN) (fun k h => VarsAt.keep h (by simp) hN) hv
            obtain ⟨f45, f46, _⟩ := hF
            have f45 : a.tmps.getD 45 undef = va := f45
            have f46 : a.tmps.getD 46 undef = .int .i64 ((k : Int)) := f46
            refine rely_wp rfl ?_
            exact opr_toT0 (W := w3) (k := k) (HKX.out) rfl rfl (by rw [eval_tmp, f45]; exact HA.out) f46 (fun v hv => hK v _ (NewT.refl _) hv)
          · intro a wx hT hF K hK
            replace hK := fun v w' (hN : NewT wx w') hv => hK v w' (TB.of_new (hT.size) hN) (fun k h => VarsAt.keep h (by simp) hN) hv
            obtain ⟨f47, _⟩ := hF
            replace f47 := show (svPs w3 (List.take k x)).pred (a.tmps.getD 47 undef) wx from f47
            refine rely_wp rfl ?_
            exact opr_cv (Cra.out wx _ ((hT.out (Nat.le_refl _)).tables HT.out) ((hT.out (Nat.le_refl _)).partsL f47)) rfl Tryd.func15 (by kernel_rfl) (by kernel_rfl) (by simp only [List.map_toArray, List.map_cons, List.map_nil, eval_tmp]) hK
          · intro a wx hT hF K hK
            replace hK := fun v w' (hN : NewT wx w') hv => hK v w' (TB.of_new (hT.size) hN) (fun k h => VarsAt.keep h (by simp) hN) hv
            obtain ⟨f0, _⟩ := hF
            have f0 : a.tmps.getD 0 undef = va := f0
            refine rely_wp rfl ?_
            exact opr_move (.inl rfl) (hK _ _ (NewT.refl _) f0)
          · intro a wx hT hF K hK
            replace hK := fun v w' (hN : NewT wx w') hv => hK v w' (TB.of_new (hT.size) hN) (fun k h => VarsAt.keep h (by simp) hN) hv
            obtain ⟨f7, _⟩ := hF
            have f7 : a.tmps.getD 7 undef = .int .i64 ((k : Int)) := f7
            refine rely_wp rfl ?_
            exact opr_move (.inl rfl) (hK _ _ (NewT.refl _) f7)
          · intro a wx hT hF K hK
            replace hK := fun v w' (hN : NewT wx w') hv => hK v w' (TB.of_new (hT.size) hN) (fun k h => VarsAt.keep h (by simp) hN) hv
            obtain ⟨f49, f50, _⟩ := hF
            have f49 : a.tmps.getD 49 undef = va := f49
            have f50 : a.tmps.getD 50 undef = .int .i64 ((k : Int)) := f50
            refine rely_wp rfl ?_
            exact opr_fromT0 (W := w3) (k := k) (HKX.out) rfl rfl (by rw [eval_tmp, f49]; exact HA.out) f50 (fun v hv => hK v _ (NewT.refl _) hv)
          · intro a wx hT hF K hK
            replace hK := fun v w' (hN : NewT wx w') hv => hK v w' (TB.of_new (hT.size) hN) (fun k h => VarsAt.keep h (by simp) hN) hv
            obtain ⟨f51, _⟩ := hF
            replace f51 := show (svPs w3 (List.drop k x)).pred (a.tmps.getD 51 undef) wx from f51
            refine rely_wp rfl ?_
            exact opr_cv (Crb.out wx _ ((hT.out (Nat.le_refl _)).tables HT.out) ((hT.out (Nat.le_refl _)).partsL f51)) rfl Tryd.func15 (by kernel_rfl) (by kernel_rfl) (by simp only [List.map_toArray, List.map_cons, List.map_nil, eval_tmp]) hK
          · intro a wx hT hF hJ K hK
            refine rely_wp rfl ?_
            refine opr_alloc_at rfl ?_
            exact hK _ _ (TB.of_new (hT.size) (NewT.alloc _ _)) (VarsAt.make hJ hT.size (by simp)) ⟨_, rfl⟩
          · intro a wx hT hF K hK
            refine rely_wp rfl ?_
            refine opr_alloc_at rfl ?_
            exact hK _ _ (TB.of_new (hT.size) (NewT.alloc _ _)) (fun k hJ => VarsAt.make hJ hT.size (by simp)) ⟨_, rfl⟩
          · intro a wx hT hF hJ K hK
            obtain ⟨f8, f48, _⟩ := hF
            replace f8 := show (svPt).pred (a.tmps.getD 8 undef) wx from f8
            have f48 : a.tmps.getD 48 undef = .agg (rowA 32 (bF (ra))) := f48
            refine rely_wp rfl ?_
            obtain ⟨g, hg⟩ := f8
            obtain ⟨hb, hr⟩ := hJ.2 (8, (fun _ => 0)) (by simp) g hg
            refine opr_putm (F := bF ra) rfl hg f48 hr (by decide) info31 (fun _ => rfl) (fun i hi => by rw [if_pos (by omega), Nat.sub_zero]) ?_
            intro w' hR r'
            exact hK undef w' (TB.of_rt hR hb hr r') (VarsAt.put hJ rfl hg (by simp) hR r' (by simp)) trivial
          · intro w4 k4
            intro u h; obtain rfl := Eq.symm (h (by simp)); clear h
            intro u h; obtain rfl := Eq.symm (h (by simp)); clear h
            intro _ _
            intro u h; obtain rfl := Eq.symm (h (by simp)); clear h
            intro u h; obtain rfl := Eq.symm (h (by simp)); clear h
            intro u h; obtain rfl := Eq.symm (h (by simp)); clear h
            intro _ _
            intro u h; obtain rfl := Eq.symm (h (by simp)); clear h
            intro u h; obtain ⟨p8, hv⟩ := (h (by simp)); clear h; subst hv
            intro u h; obtain ⟨p9, hv⟩ := (h (by simp)); clear h; subst hv
            intro _ _
            refine relyEnd_nil rfl ?_
            intro hJ
            simp only [Act.put, List.setIfInBounds_toArray, List.set_cons_zero, List.set_cons_succ]
            have hr1 := hJ.2 (8, ra) (by simp) p8 (by kernel_rfl)
            have hr2 := hJ.2 (9, (fun _ => 0)) (by simp) p9 (by kernel_rfl)
            have hne := hJ.1.2 8 (by simp) 9 (by simp) (by decide) p8 p9 (by kernel_rfl) (by kernel_rfl)
            refine opr_putm (F := bF rb) rfl rfl rfl hr2.2 (by decide) info31 (fun _ => rfl) (fun i hi => by rw [if_pos (by omega), Nat.sub_zero]) ?_
            intro w4_ q8 r17
            go_simp
            have R8 : Hid (w4_.rowIs p8 30 32 (bF ra)) := Lib.hid (q8.row hne hr1.2)
            have R9 := Lib.hid r17
            replace k4 : NewT w3 w4_ := NewT.rt (k4.out (Nat.le_refl _)) q8 hr2.1
            clear hr1 hr2 hne q8 r17 hJ
            replace HA := Lib.hid (k4.partsL HA.out)
            replace HB := Lib.hid (k4.partsL HB.out)
            replace HT := Lib.hid (k4.tables HT.out)
            replace HN := Lib.hid (NewT.trans _ _ _ HN.out k4)
            clear k4
            go_upto_region 7 with fail
            refine wp_region_relyA0 (TB w4_.heap.size) (fun j a w1 => VarsAt w4_.heap.size [(10, match j with | 0 => (fun _ => 0) | 1 => (fun _ => 0) | _ => rc), (11, (fun _ => 0))] a w1) [SV.eq (vb), SV.eq (.int .i64 ((k : Int))), svPs w4_ (List.take k y), SV.eq (.agg (rowA 32 (bF (rc)))), SV.eq (vb), SV.eq (.int .i64 ((k : Int))), svPs w4_ (List.drop k y), SV.eq (.agg (rowA 32 (bF (rd)))), svPt, svPt, SV.any] [([(1, none)], none), ([(7, none)], none), ([(53, some 0), (54, some 1)], none), ([(55, some 2)], none), ([(1, none)], none), ([(7, none)], none), ([(57, some 4), (58, some 5)], none), ([(59, some 6)], none), ([], none), ([], none), ([(10, some 8), (56, some 3)], none)] [none, none, none, none, none, none, none, none, some 0, none, some 1] [8, 10] 103 rfl (by kernel_rfl) rfl (by kernel_rfl) (by kernel_rfl) rfl (by kernel_rfl) TB.trans (TB.drew _ _) ⟨⟨fun p hp g h => (by simp at hp; rcases hp with rfl | rfl <;> cases h), fun p hp q hq hpq g g2 h => (by simp at hp; rcases hp with rfl | rfl <;> cases h)⟩, fun p hp g h => (by simp at hp; rcases hp with rfl | rfl <;> cases h)⟩ (Nat.le_of_ble_eq_true rfl) ⟨?_, ?_, ?_, ?_, ?_, ?_, ?_, ?_, ?_, ?_, ?_, trivial⟩ ?_
            · intro a wx hT hF K hK
              replace hK := fun v w' (hN : NewT wx w') hv => hK v w' (TB.of_new (hT.size) hN) (fun k h => VarsAt.keep h (by simp) hN) hv
              obtain ⟨f1, _⟩ := hF
              have f1 : a.tmps.getD 1 undef = vb := f1
              refine rely_wp rfl ?_
              exact opr_move (.inl rfl) (hK _ _ (NewT.refl _) f1)
            · intro a wx hT hF K hK
              replace hK := fun v w' (hN : NewT wx w') hv => hK v w' (TB.of_new (hT.size) hN) (fun k h => VarsAt.keep h (by simp) hN) hv
              obtain ⟨f7, _⟩ := hF
              have f7 : a.tmps.getD 7 undef = .int .i64 ((k : Int)) := f7
              refine rely_wp rfl ?_
              exact opr_move (.inl rfl) (hK _ _ (NewT.refl _) f7)
            · intro a wx hT hF K hK
              replace hK := fun v w' (hN : NewT wx w') hv => hK v w' (TB.of_new (hT.size) hN) (fun k h => VarsAt.keep h (by simp) hN) hv
              obtain ⟨f53, f54, _⟩ := hF
              have f53 : a.tmps.getD 53 undef = vb := f53
              have f54 : a.tmps.getD 54 undef = .int .i64 ((k : Int)) := f54
              refine rely_wp rfl ?_
              exact opr_toT0 (W := w4_) (k := k) (HKY.out) rfl rfl (by rw [eval_tmp, f53]; exact HB.out) f54 (fun v hv => hK v _ (NewT.refl _) hv)
            · intro a wx hT hF K hK
              replace hK := fun v w' (hN : NewT wx w') hv => hK v w' (TB.of_new (hT.size) hN) (fun k h => VarsAt.keep h (by simp) hN) hv
              obtain ⟨f55, _⟩ := hF
              replace f55 := show (svPs w4_ (List.take k y)).pred (a.tmps.getD 55 undef) wx from f55
              refine rely_wp rfl ?_
              exact opr_cv (Crc.out wx _ ((hT.out (Nat.le_refl _)).tables HT.out) ((hT.out (Nat.le_refl _)).partsL f55)) rfl Tryd.func15 (by kernel_rfl) (by kernel_rfl) (by simp only [List.map_toArray, List.map_cons, List.map_nil, eval_tmp]) hK
            · intro a wx hT hF K hK
              replace hK := fun v w' (hN : NewT wx w') hv => hK v w' (TB.of_new (hT.size) hN) (fun k h => VarsAt.keep h (by simp) hN) hv
              obtain ⟨f1, _⟩ := hF
              have f1 : a.tmps.getD 1 undef = vb := f1
              refine rely_wp rfl ?_
              exact opr_move (.inl rfl) (hK _ _ (NewT.refl _) f1)
            · intro a wx hT hF K hK
              replace hK := fun v w' (hN : NewT wx w') hv => hK v w' (TB.of_new (hT.size) hN) (fun k h => VarsAt.keep h (by simp) hN) hv
              obtain ⟨f7, _⟩ := hF
              have f7 : a.tmps.getD 7 undef = .int .i64 ((k : Int)) := f7
              refine rely_wp rfl ?_
              exact opr_move (.inl rfl) (hK _ _ (NewT.refl _) f7)
            · intro a wx hT hF K hK
              replace hK := fun v w' (hN : NewT wx w') hv => hK v w' (TB.of_new (hT.size) hN) (fun k h => VarsAt.keep h (by simp) hN) hv
              obtain ⟨f57, f58, _⟩ := hF
              have f57 : a.tmps.getD 57 undef = vb := f57
              have f58 : a.tmps.getD 58 undef = .int .i64 ((k : Int)) := f58
              refine rely_wp rfl ?_
              exact opr_fromT0 (W := w4_) (k := k) (HKY.out) rfl rfl (by rw [eval_tmp, f57]; exact HB.out) f58 (fun v hv => hK v _ (NewT.refl _) hv)
            · intro a wx hT hF K hK
              replace hK := fun v w' (hN : NewT wx w') hv => hK v w' (TB.of_new (hT.size) hN) (fun k h => VarsAt.keep h (by simp) hN) hv
              obtain ⟨f59, _⟩ := hF
              replace f59 := show (svPs w4_ (List.drop k y)).pred (a.tmps.getD 59 undef) wx from f59
              refine rely_wp rfl ?_
              exact opr_cv (Crd.out wx _ ((hT.out (Nat.le_refl _)).tables HT.out) ((hT.out (Nat.le_refl _)).partsL f59)) rfl Tryd.func15 (by kernel_rfl) (by kernel_rfl) (by simp only [List.map_toArray, List.map_cons, List.map_nil, eval_tmp]) hK
            · intro a wx hT hF hJ K hK
              refine rely_wp rfl ?_
              refine opr_alloc_at rfl ?_
              exact hK _ _ (TB.of_new (hT.size) (NewT.alloc _ _)) (VarsAt.make hJ hT.size (by simp)) ⟨_, rfl⟩
            · intro a wx hT hF K hK
              refine rely_wp rfl ?_
              refine opr_alloc_at rfl ?_
              exact hK _ _ (TB.of_new (hT.size) (NewT.alloc _ _)) (fun k hJ => VarsAt.make hJ hT.size (by simp)) ⟨_, rfl⟩
            · intro a wx hT hF hJ K hK
              obtain ⟨f10, f56, _⟩ := hF
              replace f10 := show (svPt).pred (a.tmps.getD 10 undef) wx from f10
              have f56 : a.tmps.getD 56 undef = .agg (rowA 32 (bF (rc))) := f56
              refine rely_wp rfl ?_
              obtain ⟨g, hg⟩ := f10
              obtain ⟨hb, hr⟩ := hJ.2 (10, (fun _ => 0)) (by simp) g hg
              refine opr_putm (F := bF rc) rfl hg f56 hr (by decide) info31 (fun _ => rfl) (fun i hi => by rw [if_pos (by omega), Nat.sub_zero]) ?_
              intro w' hR r'
              exact hK undef w' (TB.of_rt hR hb hr r') (VarsAt.put hJ rfl hg (by simp) hR r' (by simp)) trivial
            · intro w5 k5
              intro u h; obtain rfl := Eq.symm (h (by simp)); clear h
              intro u h; obtain rfl := Eq.symm (h (by simp)); clear h
              intro _ _
              intro u h; obtain rfl := Eq.symm (h (by simp)); clear h
              intro u h; obtain rfl := Eq.symm (h (by simp)); clear h
              intro u h; obtain rfl := Eq.symm (h (by simp)); clear h
              intro _ _
              intro u h; obtain rfl := Eq.symm (h (by simp)); clear h
              intro u h; obtain ⟨p10, hv⟩ := (h (by simp)); clear h; subst hv
              intro u h; obtain ⟨p11, hv⟩ := (h (by simp)); clear h; subst hv
              intro _ _
              refine relyEnd_nil rfl ?_
              intro hJ
              simp only [Act.put, List.setIfInBounds_toArray, List.set_cons_zero, List.set_cons_succ]
              have hr1 := hJ.2 (10, rc) (by simp) p10 (by kernel_rfl)
              have hr2 := hJ.2 (11, (fun _ => 0)) (by simp) p11 (by kernel_rfl)
              have hne := hJ.1.2 10 (by simp) 11 (by simp) (by decide) p10 p11 (by kernel_rfl) (by kernel_rfl)
              refine opr_putm (F := bF rd) rfl rfl rfl hr2.2 (by decide) info31 (fun _ => rfl) (fun i hi => by rw [if_pos (by omega), Nat.sub_zero]) ?_
              intro w5_ q8 r17
              go_simp
              have R10 : Hid (w5_.rowIs p10 30 32 (bF rc)) := Lib.hid (q8.row hne hr1.2)
              have R11 := Lib.hid r17
              replace k5 : NewT w4_ w5_ := NewT.rt (k5.out (Nat.le_refl _)) q8 hr2.1
              clear hr1 hr2 hne q8 r17 hJ
              replace R8 := Lib.hid (k5.row R8.out)
              replace R9 := Lib.hid (k5.row R9.out)
              replace HA := Lib.hid (k5.partsL HA.out)
              replace HB := Lib.hid (k5.partsL HB.out)
              replace HT := Lib.hid (k5.tables HT.out)
              replace HN := Lib.hid (NewT.trans _ _ _ HN.out k5)
              clear k5
              go_upto_region 8 with fail
              obtain ⟨q1_8, Q1_8⟩ : ∃ bq_, ((!(eqH (ra) (rc))) || (!(eqH (rb) (rd)))) = bq_ := ⟨_, rfl⟩
              refine wp_region_steps0 NewT [SV.eq (.agg (rowA 32 (bF (ra)))), SV.eq (.agg (rowA 32 (bF (rc)))), SV.eq (.bool (!(eqH (ra) (rc)))), SV.eq (.bool (!(eqH (ra) (rc)))), svIf ((!(!(eqH (ra) (rc))))) (SV.eq (.agg (rowA 32 (bF (rb))))), svIf ((!(!(eqH (ra) (rc))))) (SV.eq (.agg (rowA 32 (bF (rd))))), svIf ((!(!(eqH (ra) (rc))))) (SV.eq (.bool (!(eqH (rb) (rd))))), SV.eq (.bool (q1_8))] [([(8, none)], none), ([(10, none)], none), ([(61, some 0), (62, some 1)], none), ([(63, some 2)], none), ([(9, none), (64, some 3)], some (64, false)), ([(11, none), (64, some 3)], some (64, false)), ([(65, some 4), (66, some 5), (64, some 3)], some (64, false)), ([(64, some 3), (67, some 6)], none)] 103 8 rfl rfl (by kernel_rfl) NewT.trans (NewT.refl _) (Nat.le_of_ble_eq_true rfl) ⟨?_, ?_, ?_, ?_, ?_, ?_, ?_, ?_, trivial⟩ ?_
              · intro a wx hT hF K hK
                obtain ⟨f8, _⟩ := hF
                have f8 : a.tmps.getD 8 undef = .pointer (some ⟨p8, 0, none⟩) := f8
                refine rely_wp rfl ?_
                exact opr_load_hash rfl f8 (hT.row R8.out) (hK _ _ (NewT.refl _) rfl)
              · intro a wx hT hF K hK
                obtain ⟨f10, _⟩ := hF
                have f10 : a.tmps.getD 10 undef = .pointer (some ⟨p10, 0, none⟩) := f10
                refine rely_wp rfl ?_
                exact opr_load_hash rfl f10 (hT.row R10.out) (hK _ _ (NewT.refl _) rfl)
              · intro a wx hT hF K hK
                obtain ⟨f61, f62, _⟩ := hF
                have f61 : a.tmps.getD 61 undef = .agg (rowA 32 (bF (ra))) := f61
                have f62 : a.tmps.getD 62 undef = .agg (rowA 32 (bF (rc))) := f62
                refine rely_wp rfl ?_
                exact opr_neq_hash (b := !(eqH (ra) (rc))) rfl f61 f62 (rfl) (hK _ _ (NewT.refl _) rfl)
              · intro a wx hT hF K hK
                obtain ⟨f63, _⟩ := hF
                have f63 : a.tmps.getD 63 undef = .bool (!(eqH (ra) (rc))) := f63
                refine rely_wp rfl ?_
                exact opr_move (.inl rfl) (hK _ _ (NewT.refl _) f63)
              · intro a wx hT hF K hK
                obtain ⟨f9, f64, _⟩ := hF
                have f9 : a.tmps.getD 9 undef = .pointer (some ⟨p9, 0, none⟩) := f9
                have f64 : a.tmps.getD 64 undef = .bool (!(eqH (ra) (rc))) := f64
                refine rely_if (rely_gf f64) (NewT.refl _) hK (fun hE hK => ?_)
                exact opr_load_hash rfl f9 (hT.row R9.out) (hK _ _ (NewT.refl _) rfl)
              · intro a wx hT hF K hK
                obtain ⟨f11, f64, _⟩ := hF
                have f11 : a.tmps.getD 11 undef = .pointer (some ⟨p11, 0, none⟩) := f11
                have f64 : a.tmps.getD 64 undef = .bool (!(eqH (ra) (rc))) := f64
                refine rely_if (rely_gf f64) (NewT.refl _) hK (fun hE hK => ?_)
                exact opr_load_hash rfl f11 (hT.row R11.out) (hK _ _ (NewT.refl _) rfl)
              · intro a wx hT hF K hK
                obtain ⟨f65, f66, f64, _⟩ := hF
                have f65 : ((!(!(eqH (ra) (rc))))) = true → a.tmps.getD 65 undef = .agg (rowA 32 (bF (rb))) := f65
                have f66 : ((!(!(eqH (ra) (rc))))) = true → a.tmps.getD 66 undef = .agg (rowA 32 (bF (rd))) := f66
                have f64 : a.tmps.getD 64 undef = .bool (!(eqH (ra) (rc))) := f64
                refine rely_if (rely_gf f64) (NewT.refl _) hK (fun hE hK => ?_)
                exact opr_neq_hash (b := !(eqH (rb) (rd))) rfl (f65 hE) (f66 hE) (rfl) (hK _ _ (NewT.refl _) rfl)
              · intro a wx hT hF K hK
                obtain ⟨f64, f67, _⟩ := hF
                have f64 : a.tmps.getD 64 undef = .bool (!(eqH (ra) (rc))) := f64
                have f67 : ((!(!(eqH (ra) (rc))))) = true → a.tmps.getD 67 undef = .bool (!(eqH (rb) (rd))) := f67
                refine rely_wp rfl ?_
                exact opr_pick_b rfl f64 (fun hb => hK _ _ (NewT.refl _) (pn_or1 Q1_8 hb)) (fun hb => hK _ _ (NewT.refl _) (pn_or0 Q1_8 (f67 (bnot hb)) hb))
              · intro w6 k6
                intro u h; obtain rfl := Eq.symm (h (by simp)); clear h
                intro u h; obtain rfl := Eq.symm (h (by simp)); clear h
                intro u h; obtain rfl := Eq.symm (h (by simp)); clear h
                intro u h; obtain rfl := Eq.symm (h (by simp)); clear h
                intro _ _
                intro _ _
                intro _ _
                intro u h; obtain rfl := Eq.symm (h (by simp)); clear h
                subst Q1_8
                refine relyEnd_nil rfl ?_
                refine wpList_end rfl ?_
                simp only [Act.put, List.setIfInBounds_toArray, List.set_cons_zero, List.set_cons_succ]
                go_simp
                replace R8 := Lib.hid (k6.row R8.out)
                replace R9 := Lib.hid (k6.row R9.out)
                replace R10 := Lib.hid (k6.row R10.out)
                replace R11 := Lib.hid (k6.row R11.out)
                replace HA := Lib.hid (k6.partsL HA.out)
                replace HB := Lib.hid (k6.partsL HB.out)
                replace HT := Lib.hid (k6.tables HT.out)
                replace HN := Lib.hid (NewT.trans _ _ _ HN.out k6)
                clear k6
                obtain ⟨q, hq⟩ : ∃ b_, (((!(eqH (ra) (rc))) || (!(eqH (rb) (rd))))) = b_ := ⟨_, rfl⟩
                rw [hq]
                have HQ := Lib.hid hq
                clear hq
                cases q
                rotate_left
                · have HXX : Hid (extM sm x y = some (1 :: (digL ra ++ digL rb), 1 :: (digL rc ++ digL rd))) := Lib.hid (by
                    rw [extM, if_neg (ext_apart HAP.out), dif_neg H2.out, HK.out, if_pos, ← Hra.out, ← Hrb.out, ← Hrc.out, ← Hrd.out, hC.digRoot, hC.digRoot, hC.digRoot, hC.digRoot]
                    have hq := HQ.out
                    rw [HEE.out.1, HEE.out.2] at hq
                    simp at hq
                    exact hq)
                  go_upto_region 9 with fail
                  refine wp_region_rely (NewT) [SV.eq (.agg (rowA 32 (bF (ra)))), SV.eq (.agg (rowA 32 (bF (rb)))), svRd ((1 :: digL (ra)) ++ digL (rb)), SV.eq (.agg (rowA 32 (bF (rc)))), SV.eq (.agg (rowA 32 (bF (rd)))), svRd ((1 :: digL (rc)) ++ digL (rd)), svRd ((1 :: digL (ra)) ++ digL (rb)), svRd ((1 :: digL (rc)) ++ digL (rd))] [([(8, none)], none), ([(9, none)], none), ([(69, some 0), (70, some 1)], none), ([(10, none)], none), ([(11, none)], none), ([(72, some 3), (73, some 4)], none), ([(71, some 2)], none), ([(74, some 5)], none)] 103 rfl (by kernel_rfl) rfl (by kernel_rfl) (by kernel_rfl) rfl NewT.trans (NewT.drew _) (Nat.le_of_ble_eq_true rfl) ⟨?_, ?_, ?_, ?_, ?_, ?_, ?_, ?_, trivial⟩ ?_
                  · intro a wx hT hF K hK
                    obtain ⟨f8, _⟩ := hF
                    have f8 : a.tmps.getD 8 undef = .pointer (some ⟨p8, 0, none⟩) := f8
                    refine rely_wp rfl ?_
                    exact opr_load_hash rfl f8 (hT.row R8.out) (hK _ _ (NewT.refl _) rfl)
                  · intro a wx hT hF K hK
                    obtain ⟨f9, _⟩ := hF
                    have f9 : a.tmps.getD 9 undef = .pointer (some ⟨p9, 0, none⟩) := f9
                    refine rely_wp rfl ?_
                    exact opr_load_hash rfl f9 (hT.row R9.out) (hK _ _ (NewT.refl _) rfl)
                  · intro a wx hT hF K hK
                    obtain ⟨f69, f70, _⟩ := hF
                    have f69 : a.tmps.getD 69 undef = .agg (rowA 32 (bF (ra))) := f69
                    have f70 : a.tmps.getD 70 undef = .agg (rowA 32 (bF (rb))) := f70
                    refine rely_wp rfl ?_
                    exact opr_cv (RPair_cv (ra) (rb) wx) rfl Tryd.func29 (by kernel_rfl) (by kernel_rfl) (by simp only [List.map_toArray, List.map_cons, List.map_nil, eval_tmp, f69, f70]) hK
                  · intro a wx hT hF K hK
                    obtain ⟨f10, _⟩ := hF
                    have f10 : a.tmps.getD 10 undef = .pointer (some ⟨p10, 0, none⟩) := f10
                    refine rely_wp rfl ?_
                    exact opr_load_hash rfl f10 (hT.row R10.out) (hK _ _ (NewT.refl _) rfl)
                  · intro a wx hT hF K hK
                    obtain ⟨f11, _⟩ := hF
                    have f11 : a.tmps.getD 11 undef = .pointer (some ⟨p11, 0, none⟩) := f11
                    refine rely_wp rfl ?_
                    exact opr_load_hash rfl f11 (hT.row R11.out) (hK _ _ (NewT.refl _) rfl)
                  · intro a wx hT hF K hK
                    obtain ⟨f72, f73, _⟩ := hF
                    have f72 : a.tmps.getD 72 undef = .agg (rowA 32 (bF (rc))) := f72
                    have f73 : a.tmps.getD 73 undef = .agg (rowA 32 (bF (rd))) := f73
                    refine rely_wp rfl ?_
                    exact opr_cv (RPair_cv (rc) (rd) wx) rfl Tryd.func29 (by kernel_rfl) (by kernel_rfl) (by simp only [List.map_toArray, List.map_cons, List.map_nil, eval_tmp, f72, f73]) hK
                  · intro a wx hT hF K hK
                    obtain ⟨f71, _⟩ := hF
                    replace f71 := show (svRd ((1 :: digL (ra)) ++ digL (rb))).pred (a.tmps.getD 71 undef) wx from f71
                    refine rely_wp rfl ?_
                    exact opr_move (.inr rfl) (hK _ _ (NewT.refl _) f71)
                  · intro a wx hT hF K hK
                    obtain ⟨f74, _⟩ := hF
                    replace f74 := show (svRd ((1 :: digL (rc)) ++ digL (rd))).pred (a.tmps.getD 74 undef) wx from f74
                    refine rely_wp rfl ?_
                    exact opr_move (.inr rfl) (hK _ _ (NewT.refl _) f74)
                  · intro w7 k7
                    intro u h; obtain rfl := Eq.symm (h (by simp)); clear h
                    intro u h; obtain rfl := Eq.symm (h (by simp)); clear h
                    intro _ _
                    intro u h; obtain rfl := Eq.symm (h (by simp)); clear h
                    intro u h; obtain rfl := Eq.symm (h (by simp)); clear h
                    intro _ _
                    intro u4 h; have g4 := h (by simp); clear h; replace g4 := show (svRd ((1 :: digL (ra)) ++ digL (rb))).pred u4 w7 from g4
                    intro u5 h; have g5 := h (by simp); clear h; replace g5 := show (svRd ((1 :: digL (rc)) ++ digL (rd))).pred u5 w7 from g5
                    refine relyEnd_nil rfl ?_
                    simp only [Act.put, List.setIfInBounds_toArray, List.set_cons_zero, List.set_cons_succ]
                    refine opr_move (.inr rfl) ?_
                    go_simp
                    go_wp2
                    exact bodyPost_ret (results_ttt rfl rfl rfl rfl) rfl ⟨_, rfl, NewT.trans _ _ _ HN.out k7, _, _, by rw [HXX.out]; rfl, by rw [HXX.out]; exact g4, by rw [HXX.out]; exact g5⟩
                · have hse : rootS sm (List.take k x) = rootS sm (List.take k y) ∧ rootS sm (List.drop k x) = rootS sm (List.drop k y) := by
                    have hq := HQ.out
                    rw [HEE.out.1, HEE.out.2] at hq
                    simpa using hq
                  have hte : txL sm x = txL sm y := by
                    unfold txL
                    rw [← HAP.out.len, if_neg H2.out, if_neg H2.out, HK.out, hse.1, hse.2]
                  obtain ⟨bq, hbq⟩ : ∃ b_, decide (List.take k x = List.take k y) = b_ := ⟨_, rfl⟩
                  have HBQ := Lib.hid hbq
                  have HTE := Lib.hid hte
                  clear hbq hse hte R8 R9 R10 R11 HQ
                  go_upto_region 10 with fail
                  refine wp_region_rely (NewT) [SV.eq (va), SV.eq (.int .i64 ((k : Int))), svParts (List.take k x), SV.eq (vb), SV.eq (.int .i64 ((k : Int))), svParts (List.take k y), SV.eq (.bool (bq))] [([(0, none)], none), ([(7, none)], none), ([(75, some 0), (76, some 1)], none), ([(1, none)], none), ([(7, none)], none), ([(78, some 3), (79, some 4)], none), ([(77, some 2), (80, some 5)], none)] 103 rfl (by kernel_rfl) rfl (by kernel_rfl) (by kernel_rfl) rfl NewT.trans (NewT.drew _) (Nat.le_of_ble_eq_true rfl) ⟨?_, ?_, ?_, ?_, ?_, ?_, ?_, trivial⟩ ?_
                  · intro a wx hT hF K hK
                    obtain ⟨f0, _⟩ := hF
                    have f0 : a.tmps.getD 0 undef = va := f0
                    refine rely_wp rfl ?_
                    exact opr_move (.inl rfl) (hK _ _ (NewT.refl _) f0)
                  · intro a wx hT hF K hK
                    obtain ⟨f7, _⟩ := hF
                    have f7 : a.tmps.getD 7 undef = .int .i64 ((k : Int)) := f7
                    refine rely_wp rfl ?_
                    exact opr_move (.inl rfl) (hK _ _ (NewT.refl _) f7)
                  · intro a wx hT hF K hK
                    obtain ⟨f75, f76, _⟩ := hF
                    have f75 : a.tmps.getD 75 undef = va := f75
                    have f76 : a.tmps.getD 76 undef = .int .i64 ((k : Int)) := f76
                    refine rely_wp rfl ?_
                    exact opr_toT (k := k) (HKX.out) (rfl) rfl (by rw [eval_tmp, f75]; exact (hT.partsL HA.out)) f76 (fun v hv => hK v _ (NewT.refl _) hv)
                  · intro a wx hT hF K hK
                    obtain ⟨f1, _⟩ := hF
                    have f1 : a.tmps.getD 1 undef = vb := f1
                    refine rely_wp rfl ?_
                    exact opr_move (.inl rfl) (hK _ _ (NewT.refl _) f1)
                  · intro a wx hT hF K hK
                    obtain ⟨f7, _⟩ := hF
                    have f7 : a.tmps.getD 7 undef = .int .i64 ((k : Int)) := f7
                    refine rely_wp rfl ?_
                    exact opr_move (.inl rfl) (hK _ _ (NewT.refl _) f7)
                  · intro a wx hT hF K hK
                    obtain ⟨f78, f79, _⟩ := hF
                    have f78 : a.tmps.getD 78 undef = vb := f78
                    have f79 : a.tmps.getD 79 undef = .int .i64 ((k : Int)) := f79
                    refine rely_wp rfl ?_
                    exact opr_toT (k := k) (HKY.out) (rfl) rfl (by rw [eval_tmp, f78]; exact (hT.partsL HB.out)) f79 (fun v hv => hK v _ (NewT.refl _) hv)
                  · intro a wx hT hF K hK
                    obtain ⟨f77, f80, _⟩ := hF
                    replace f77 := show (svParts (List.take k x)).pred (a.tmps.getD 77 undef) wx from f77
                    replace f80 := show (svParts (List.take k y)).pred (a.tmps.getD 80 undef) wx from f80
                    refine rely_wp rfl ?_
                    exact opr_cv (by rw [← HBQ.out]; exact RSame7_cv _ _ (List.take k x) (List.take k y) wx f77 f80 (HFx.out.take _) (HFy.out.take _)) rfl Tryd.func20 (by kernel_rfl) (by kernel_rfl) (by simp only [List.map_toArray, List.map_cons, List.map_nil, eval_tmp]) hK
                  · intro w7 k7
                    intro u h; obtain rfl := Eq.symm (h (by simp)); clear h
                    intro u h; obtain rfl := Eq.symm (h (by simp)); clear h
                    intro _ _
                    intro u h; obtain rfl := Eq.symm (h (by simp)); clear h
                    intro u h; obtain rfl := Eq.symm (h (by simp)); clear h
                    intro _ _
                    intro u h; obtain rfl := Eq.symm (h (by simp)); clear h
                    refine relyEnd_nil rfl ?_
                    simp only [Act.put, List.setIfInBounds_toArray, List.set_cons_zero, List.set_cons_succ]
                    refine opr_not rfl rfl ?_
                    go_simp
                    replace HA := Lib.hid (k7.partsL HA.out)
                    replace HB := Lib.hid (k7.partsL HB.out)
                    replace HT := Lib.hid (k7.tables HT.out)
                    replace HN := Lib.hid (NewT.trans _ _ _ HN.out k7)
                    clear k7
                    cases bq
                    · have hx := apart_take hC.len HAP.out HTE.out (by rw [HK.out]; exact of_decide_eq_false HBQ.out)
                      rw [HK.out] at hx
                      obtain ⟨XX, HXX⟩ := hid_ex (extM sm (List.take k x) (List.take k y))
                      have HXE : Hid (extM sm x y = XX) := Lib.hid (by rw [← HXX.out, hx.2])
                      clear hx
                      go_upto_region 11 with fail
                      refine wp_region_rely (NewT) [SV.eq (va), SV.eq (.int .i64 ((k : Int))), svParts (List.take k x), SV.eq (vb), SV.eq (.int .i64 ((k : Int))), svParts (List.take k y), svT2 (e1 XX) (e2 XX) XX.isSome, svRd (e1 XX), svRd (e2 XX), SV.eq (.bool (XX.isSome)), svRd (e1 XX), svRd (e2 XX)] [([(0, none)], none), ([(7, none)], none), ([(83, some 0), (84, some 1)], none), ([(1, none)], none), ([(7, none)], none), ([(86, some 3), (87, some 4)], none), ([(85, some 2), (88, some 5)], none), ([(89, some 6)], none), ([(89, some 6)], none), ([(89, some 6)], none), ([(90, some 7)], none), ([(91, some 8)], none)] 103 rfl (by kernel_rfl) rfl (by kernel_rfl) (by kernel_rfl) rfl NewT.trans (NewT.drew _) (Nat.le_of_ble_eq_true rfl) ⟨?_, ?_, ?_, ?_, ?_, ?_, ?_, ?_, ?_, ?_, ?_, ?_, trivial⟩ ?_
                      · intro a wx hT hF K hK
                        obtain ⟨f0, _⟩ := hF
                        have f0 : a.tmps.getD 0 undef = va := f0
                        refine rely_wp rfl ?_
                        exact opr_move (.inl rfl) (hK _ _ (NewT.refl _) f0)
                      · intro a wx hT hF K hK
                        obtain ⟨f7, _⟩ := hF
                        have f7 : a.tmps.getD 7 undef = .int .i64 ((k : Int)) := f7
                        refine rely_wp rfl ?_
                        exact opr_move (.inl rfl) (hK _ _ (NewT.refl _) f7)
                      · intro a wx hT hF K hK
                        obtain ⟨f83, f84, _⟩ := hF
                        have f83 : a.tmps.getD 83 undef = va := f83
                        have f84 : a.tmps.getD 84 undef = .int .i64 ((k : Int)) := f84
                        refine rely_wp rfl ?_
                        exact opr_toT (k := k) (HKX.out) (rfl) rfl (by rw [eval_tmp, f83]; exact (hT.partsL HA.out)) f84 (fun v hv => hK v _ (NewT.refl _) hv)
                      · intro a wx hT hF K hK
                        obtain ⟨f1, _⟩ := hF
                        have f1 : a.tmps.getD 1 undef = vb := f1
                        refine rely_wp rfl ?_
                        exact opr_move (.inl rfl) (hK _ _ (NewT.refl _) f1)
                      · intro a wx hT hF K hK
                        obtain ⟨f7, _⟩ := hF
                        have f7 : a.tmps.getD 7 undef = .int .i64 ((k : Int)) := f7
                        refine rely_wp rfl ?_
                        exact opr_move (.inl rfl) (hK _ _ (NewT.refl _) f7)
                      · intro a wx hT hF K hK
                        obtain ⟨f86, f87, _⟩ := hF
                        have f86 : a.tmps.getD 86 undef = vb := f86
                        have f87 : a.tmps.getD 87 undef = .int .i64 ((k : Int)) := f87
                        refine rely_wp rfl ?_
                        exact opr_toT (k := k) (HKY.out) (rfl) rfl (by rw [eval_tmp, f86]; exact (hT.partsL HB.out)) f87 (fun v hv => hK v _ (NewT.refl _) hv)
                      · intro a wx hT hF K hK
                        obtain ⟨f85, f88, _⟩ := hF
                        replace f85 := show (svParts (List.take k x)).pred (a.tmps.getD 85 undef) wx from f85
                        replace f88 := show (svParts (List.take k y)).pred (a.tmps.getD 88 undef) wx from f88
                        refine rely_wp rfl ?_
                        exact opr_cv (by rw [← HXX.out]; exact IH.out _ _ (List.take k x) (List.take k y) wx (hT.tables HT.out) f85 f88 (HFx.out.take _) (HFy.out.take _) (by first | (rw [List.length_take]; have := HKL.out; omega) | (rw [List.length_drop]; have := HKL.out; omega))) rfl Tryd.func12 (by kernel_rfl) (by kernel_rfl) (by simp only [List.map_toArray, List.map_cons, List.map_nil, eval_tmp]) hK
                      · intro a wx hT hF K hK
                        obtain ⟨f89, _⟩ := hF
                        replace f89 := show (svT2 (e1 XX) (e2 XX) XX.isSome).pred (a.tmps.getD 89 undef) wx from f89
                        refine rely_wp rfl ?_
                        exact opr_extT0 rfl f89 (fun u hu => hK u _ (NewT.refl _) hu)
                      · intro a wx hT hF K hK
                        obtain ⟨f89, _⟩ := hF
                        replace f89 := show (svT2 (e1 XX) (e2 XX) XX.isSome).pred (a.tmps.getD 89 undef) wx from f89
                        refine rely_wp rfl ?_
                        exact opr_extT1 rfl f89 (fun u hu => hK u _ (NewT.refl _) hu)
                      · intro a wx hT hF K hK
                        obtain ⟨f89, _⟩ := hF
                        replace f89 := show (svT2 (e1 XX) (e2 XX) XX.isSome).pred (a.tmps.getD 89 undef) wx from f89
                        refine rely_wp rfl ?_
                        exact opr_extT2 rfl f89 (hK _ _ (NewT.refl _) rfl)
                      · intro a wx hT hF K hK
                        obtain ⟨f90, _⟩ := hF
                        replace f90 := show (svRd (e1 XX)).pred (a.tmps.getD 90 undef) wx from f90
                        refine rely_wp rfl ?_
                        exact opr_move (.inr rfl) (hK _ _ (NewT.refl _) f90)
                      · intro a wx hT hF K hK
                        obtain ⟨f91, _⟩ := hF
                        replace f91 := show (svRd (e2 XX)).pred (a.tmps.getD 91 undef) wx from f91
                        refine rely_wp rfl ?_
                        exact opr_move (.inr rfl) (hK _ _ (NewT.refl _) f91)
                      · intro w9 k9
                        intro u h; obtain rfl := Eq.symm (h (by simp)); clear h
                        intro u h; obtain rfl := Eq.symm (h (by simp)); clear h
                        intro _ _
                        intro u h; obtain rfl := Eq.symm (h (by simp)); clear h
                        intro u h; obtain rfl := Eq.symm (h (by simp)); clear h
                        intro _ _
                        intro _ _
                        intro _ _
                        intro _ _
                        intro u h; obtain rfl := Eq.symm (h (by simp)); clear h
                        intro u4 h; have g4 := h (by simp); clear h; replace g4 := show (svRd (e1 XX)).pred u4 w9 from g4
                        intro u5 h; have g5 := h (by simp); clear h; replace g5 := show (svRd (e2 XX)).pred u5 w9 from g5
                        refine relyEnd_nil rfl ?_
                        simp only [Act.put, List.setIfInBounds_toArray, List.set_cons_zero, List.set_cons_succ]
                        refine opr_move (.inr rfl) ?_
                        go_simp
                        go_wp2
                        exact bodyPost_ret (results_ttt rfl rfl rfl rfl) rfl ⟨_, rfl, NewT.trans _ _ _ HN.out k9, _, _, by rw [HXE.out]; rfl, by rw [HXE.out]; exact g4, by rw [HXE.out]; exact g5⟩
                    · have hx := apart_drop hC.len HAP.out HTE.out (by rw [HK.out]; exact of_decide_eq_true HBQ.out)
                      rw [HK.out] at hx
                      obtain ⟨XX, HXX⟩ := hid_ex (extM sm (List.drop k x) (List.drop k y))
                      have HXE : Hid (extM sm x y = XX) := Lib.hid (by rw [← HXX.out, hx.2])
                      clear hx
                      go_upto_region 12 with fail
                      refine wp_region_rely (NewT) [SV.eq (va), SV.eq (.int .i64 ((k : Int))), svParts (List.drop k x), SV.eq (vb), SV.eq (.int .i64 ((k : Int))), svParts (List.drop k y), svT2 (e1 XX) (e2 XX) XX.isSome, svRd (e1 XX), svRd (e2 XX), SV.eq (.bool (XX.isSome)), svRd (e1 XX), svRd (e2 XX)] [([(0, none)], none), ([(7, none)], none), ([(93, some 0), (94, some 1)], none), ([(1, none)], none), ([(7, none)], none), ([(96, some 3), (97, some 4)], none), ([(95, some 2), (98, some 5)], none), ([(99, some 6)], none), ([(99, some 6)], none), ([(99, some 6)], none), ([(100, some 7)], none), ([(101, some 8)], none)] 103 rfl (by kernel_rfl) rfl (by kernel_rfl) (by kernel_rfl) rfl NewT.trans (NewT.drew _) (Nat.le_of_ble_eq_true rfl) ⟨?_, ?_, ?_, ?_, ?_, ?_, ?_, ?_, ?_, ?_, ?_, ?_, trivial⟩ ?_
                      · intro a wx hT hF K hK
                        obtain ⟨f0, _⟩ := hF
                        have f0 : a.tmps.getD 0 undef = va := f0
                        refine rely_wp rfl ?_
                        exact opr_move (.inl rfl) (hK _ _ (NewT.refl _) f0)
                      · intro a wx hT hF K hK
                        obtain ⟨f7, _⟩ := hF
                        have f7 : a.tmps.getD 7 undef = .int .i64 ((k : Int)) := f7
                        refine rely_wp rfl ?_
                        exact opr_move (.inl rfl) (hK _ _ (NewT.refl _) f7)
                      · intro a wx hT hF K hK
                        obtain ⟨f93, f94, _⟩ := hF
                        have f93 : a.tmps.getD 93 undef = va := f93
                        have f94 : a.tmps.getD 94 undef = .int .i64 ((k : Int)) := f94
                        refine rely_wp rfl ?_
                        exact opr_fromT (k := k) (HKX.out) (rfl) rfl (by rw [eval_tmp, f93]; exact (hT.partsL HA.out)) f94 (fun v hv => hK v _ (NewT.refl _) hv)
                      · intro a wx hT hF K hK
                        obtain ⟨f1, _⟩ := hF
                        have f1 : a.tmps.getD 1 undef = vb := f1
                        refine rely_wp rfl ?_
                        exact opr_move (.inl rfl) (hK _ _ (NewT.refl _) f1)
                      · intro a wx hT hF K hK
                        obtain ⟨f7, _⟩ := hF
                        have f7 : a.tmps.getD 7 undef = .int .i64 ((k : Int)) := f7
                        refine rely_wp rfl ?_
                        exact opr_move (.inl rfl) (hK _ _ (NewT.refl _) f7)
                      · intro a wx hT hF K hK
                        obtain ⟨f96, f97, _⟩ := hF
                        have f96 : a.tmps.getD 96 undef = vb := f96
                        have f97 : a.tmps.getD 97 undef = .int .i64 ((k : Int)) := f97
                        refine rely_wp rfl ?_
                        exact opr_fromT (k := k) (HKY.out) (rfl) rfl (by rw [eval_tmp, f96]; exact (hT.partsL HB.out)) f97 (fun v hv => hK v _ (NewT.refl _) hv)
                      · intro a wx hT hF K hK
                        obtain ⟨f95, f98, _⟩ := hF
                        replace f95 := show (svParts (List.drop k x)).pred (a.tmps.getD 95 undef) wx from f95
                        replace f98 := show (svParts (List.drop k y)).pred (a.tmps.getD 98 undef) wx from f98
                        refine rely_wp rfl ?_
                        exact opr_cv (by rw [← HXX.out]; exact IH.out _ _ (List.drop k x) (List.drop k y) wx (hT.tables HT.out) f95 f98 (HFx.out.drop _) (HFy.out.drop _) (by first | (rw [List.length_take]; have := HKL.out; omega) | (rw [List.length_drop]; have := HKL.out; omega))) rfl Tryd.func12 (by kernel_rfl) (by kernel_rfl) (by simp only [List.map_toArray, List.map_cons, List.map_nil, eval_tmp]) hK
                      · intro a wx hT hF K hK
                        obtain ⟨f99, _⟩ := hF
                        replace f99 := show (svT2 (e1 XX) (e2 XX) XX.isSome).pred (a.tmps.getD 99 undef) wx from f99
                        refine rely_wp rfl ?_
                        exact opr_extT0 rfl f99 (fun u hu => hK u _ (NewT.refl _) hu)
                      · intro a wx hT hF K hK
                        obtain ⟨f99, _⟩ := hF
                        replace f99 := show (svT2 (e1 XX) (e2 XX) XX.isSome).pred (a.tmps.getD 99 undef) wx from f99
                        refine rely_wp rfl ?_
                        exact opr_extT1 rfl f99 (fun u hu => hK u _ (NewT.refl _) hu)
                      · intro a wx hT hF K hK
                        obtain ⟨f99, _⟩ := hF
                        replace f99 := show (svT2 (e1 XX) (e2 XX) XX.isSome).pred (a.tmps.getD 99 undef) wx from f99
                        refine rely_wp rfl ?_
                        exact opr_extT2 rfl f99 (hK _ _ (NewT.refl _) rfl)
                      · intro a wx hT hF K hK
                        obtain ⟨f100, _⟩ := hF
                        replace f100 := show (svRd (e1 XX)).pred (a.tmps.getD 100 undef) wx from f100
                        refine rely_wp rfl ?_
                        exact opr_move (.inr rfl) (hK _ _ (NewT.refl _) f100)
                      · intro a wx hT hF K hK
                        obtain ⟨f101, _⟩ := hF
                        replace f101 := show (svRd (e2 XX)).pred (a.tmps.getD 101 undef) wx from f101
                        refine rely_wp rfl ?_
                        exact opr_move (.inr rfl) (hK _ _ (NewT.refl _) f101)
                      · intro w9 k9
                        intro u h; obtain rfl := Eq.symm (h (by simp)); clear h
                        intro u h; obtain rfl := Eq.symm (h (by simp)); clear h
                        intro _ _
                        intro u h; obtain rfl := Eq.symm (h (by simp)); clear h
                        intro u h; obtain rfl := Eq.symm (h (by simp)); clear h
                        intro _ _
                        intro _ _
                        intro _ _
                        intro _ _
                        intro u h; obtain rfl := Eq.symm (h (by simp)); clear h
                        intro u4 h; have g4 := h (by simp); clear h; replace g4 := show (svRd (e1 XX)).pred u4 w9 from g4
                        intro u5 h; have g5 := h (by simp); clear h; replace g5 := show (svRd (e2 XX)).pred u5 w9 from g5
                        refine relyEnd_nil rfl ?_
                        simp only [Act.put, List.setIfInBounds_toArray, List.set_cons_zero, List.set_cons_succ]
                        refine opr_move (.inr rfl) ?_
                        go_simp
                        go_wp2
                        exact bodyPost_ret (results_ttt rfl rfl rfl rfl) rfl ⟨_, rfl, NewT.trans _ _ _ HN.out k9, _, _, by rw [HXE.out]; rfl, by rw [HXE.out]; exact g4, by rw [HXE.out]; exact g5⟩
theorem RExt_cv {node : Hs → Hs → Hs} {z : Hs} {lf : List UInt8 → Hs} {sm : Tx → Tx} (hC : ClashH node z lf sm) : ∀ (n : Nat) (va vb : Value) (x y : List Tx) (w : World), Tables w → Parts w va x → Parts w vb y → Fine x → Fine y → x.length ≤ n → Cv 12 #[va, vb] w (svT2 (e1 (extM sm x y)) (e2 (extM sm x y)) (extM sm x y).isSome) := by
  intro n
  induction n with
  | zero => intro va vb x y w hT ha hb hx hy hn; exact RExt_step hC va vb x y w hT ha hb hx hy (fun _ _ _ _ _ _ _ _ _ _ h => by omega)
  | succ n ih => intro va vb x y w hT ha hb hx hy hn; exact RExt_step hC va vb x y w hT ha hb hx hy (fun va vb x' y' w hT ha hb hx hy h => ih va vb x' y' w hT ha hb hx hy (by omega))
end Go.Proofs.YtlnedphnphabkaaDoor
/- The law ClashLists, walked: the clash of all lists, their roots, and whether all texts are one, are the document's. -/
namespace Go.Proofs.YtlnedphnphabkaaDoor
open Go Go.RowKit
set_option maxRecDepth 8000
set_option linter.all false
set_option maxHeartbeats 4000000 in
theorem ClashLists_walk (va vb vx vy : Value) (x y : List Tx) (s t : Tx) (w : World) (hT : Tables w) (ha : Parts w va x) (hb : Parts w vb y) (hs : RdV w [] vx s) (ht : RdV w [] vy t) : Calls Tryd.prog 3 #[va, vb, vx, vy] w fun e w' => e = .returned (.bool true) ∧ Below w.heap.size w w' := by
  obtain ⟨node, z, lf, sm, hC⟩ := clash_ex
  have HT := Lib.hid hT
  have HA := Lib.hid ha
  have HB := Lib.hid hb
  have HS := Lib.hid hs
  have HTT := Lib.hid ht
  have HN := Lib.hid (NewT.refl w)
  have HBY : Hid (∀ w (va vb : Value) (l : List UInt8), RdV w [] va l → RdV w [] vb l → l.length ≤ 1000000 → Cv 13 #[va, vb] w (.eq (.bool true))) := Lib.hid fun w va vb l h1 h2 hl => by
    have h := Bytes_cv va vb l l w h1 h2 hl hl
    rw [decide_eq_true rfl] at h; exact h
  clear hT ha hb hs ht
  go_enter Tryd.func3, Tryd.ntmps3
  go_upto_region 3 with (go_at_call 9; refine (alive7_any _ HT.out).mono ?_; rintro _ w1 ⟨rfl, hA1⟩)
  have hn1 := NewT.of hA1
  replace HA := Lib.hid (hn1.partsL HA.out)
  replace HB := Lib.hid (hn1.partsL HB.out)
  replace HS := Lib.hid (hn1.rd HS.out)
  replace HTT := Lib.hid (hn1.rd HTT.out)
  replace HT := Lib.hid (hn1.tables HT.out)
  replace HN := Lib.hid (NewT.trans _ _ _ HN.out hn1)
  clear hn1
  clear hA1
  obtain ⟨q1_3, Q1_3⟩ : ∃ bq_, (((greatB x) || (greatB y)) || (decide (300 < ((List.length (s) : Int))))) = bq_ := ⟨_, rfl⟩
  obtain ⟨q2_3, Q2_3⟩ : ∃ bq_, (q1_3 || (decide (300 < ((List.length (t) : Int))))) = bq_ := ⟨_, rfl⟩
  refine wp_region_steps0 NewT [SV.eq (va), SV.eq (.bool (greatB x)), SV.eq (.bool (greatB x)), svIf ((!(greatB x))) (SV.eq (vb)), svIf ((!(greatB x))) (SV.eq (.bool (greatB y))), SV.eq (.bool ((greatB x) || (greatB y))), SV.eq (.bool ((greatB x) || (greatB y))), svIf ((!((greatB x) || (greatB y)))) (SV.eq (vx)), svIf ((!((greatB x) || (greatB y)))) (SV.eq (.int .i64 ((List.length (s) : Int)))), svIf ((!((greatB x) || (greatB y)))) (SV.eq (.bool (decide (300 < ((List.length (s) : Int)))))), SV.eq (.bool (q1_3)), SV.eq (.bool (q1_3)), svIf ((!q1_3)) (SV.eq (vy)), svIf ((!q1_3)) (SV.eq (.int .i64 ((List.length (t) : Int)))), svIf ((!q1_3)) (SV.eq (.bool (decide (300 < ((List.length (t) : Int)))))), SV.eq (.bool (q2_3))] [([(0, none)], none), ([(17, some 0)], none), ([(18, some 1)], none), ([(1, none), (19, some 2)], some (19, false)), ([(20, some 3), (19, some 2)], some (19, false)), ([(19, some 2), (21, some 4)], none), ([(22, some 5)], none), ([(2, none), (23, some 6)], some (23, false)), ([(24, some 7), (23, some 6)], some (23, false)), ([(25, some 8), (23, some 6)], some (23, false)), ([(23, some 6), (26, some 9)], none), ([(27, some 10)], none), ([(3, none), (28, some 11)], some (28, false)), ([(29, some 12), (28, some 11)], some (28, false)), ([(30, some 13), (28, some 11)], some (28, false)), ([(28, some 11), (31, some 14)], none)] 76 16 rfl rfl (by kernel_rfl) NewT.trans (NewT.refl _) (Nat.le_of_ble_eq_true rfl) ⟨?_, ?_, ?_, ?_, ?_, ?_, ?_, ?_, ?_, ?_, ?_, ?_, ?_, ?_, ?_, ?_, trivial⟩ ?_
  · intro a wx hT hF K hK
    obtain ⟨f0, _⟩ := hF
    have f0 : a.tmps.getD 0 undef = va := f0
    refine rely_wp rfl ?_
    exact opr_move (.inl rfl) (hK _ _ (NewT.refl _) f0)
  · intro a wx hT hF K hK
    obtain ⟨f17, _⟩ := hF
    have f17 : a.tmps.getD 17 undef = va := f17
    refine rely_wp rfl ?_
    exact opr_cv (great_cv _ x wx (hT.partsL HA.out)) rfl Tryd.func10 (by kernel_rfl) (by kernel_rfl) (by simp only [List.map_toArray, List.map_cons, List.map_nil, eval_tmp, f17]) hK
  · intro a wx hT hF K hK
    obtain ⟨f18, _⟩ := hF
    have f18 : a.tmps.getD 18 undef = .bool (greatB x) := f18
    refine rely_wp rfl ?_
    exact opr_move (.inl rfl) (hK _ _ (NewT.refl _) f18)
  · intro a wx hT hF K hK
    obtain ⟨f1, f19, _⟩ := hF
    have f1 : a.tmps.getD 1 undef = vb := f1
    have f19 : a.tmps.getD 19 undef = .bool (greatB x) := f19
    refine rely_if (rely_gf f19) (NewT.refl _) hK (fun hE hK => ?_)
    exact opr_move (.inl rfl) (hK _ _ (NewT.refl _) f1)
  · intro a wx hT hF K hK
    obtain ⟨f20, f19, _⟩ := hF
    have f20 : ((!(greatB x))) = true → a.tmps.getD 20 undef = vb := f20
    have f19 : a.tmps.getD 19 undef = .bool (greatB x) := f19
    refine rely_if (rely_gf f19) (NewT.refl _) hK (fun hE hK => ?_)
    exact opr_cv (great_cv _ y wx (hT.partsL HB.out)) rfl Tryd.func10 (by kernel_rfl) (by kernel_rfl) (by simp only [List.map_toArray, List.map_cons, List.map_nil, eval_tmp, (f20 hE)]) hK
  · intro a wx hT hF K hK
    obtain ⟨f19, f21, _⟩ := hF
    have f19 : a.tmps.getD 19 undef = .bool (greatB x) := f19
    have f21 : ((!(greatB x))) = true → a.tmps.getD 21 undef = .bool (greatB y) := f21
    refine rely_wp rfl ?_
    exact opr_pick_b rfl f19 (fun hb => hK _ _ (NewT.refl _) (pk_or1 hb)) (fun hb => hK _ _ (NewT.refl _) (pk_or0 (f21 (bnot hb)) hb))
  · intro a wx hT hF K hK
    obtain ⟨f22, _⟩ := hF
    have f22 : a.tmps.getD 22 undef = .bool ((greatB x) || (greatB y)) := f22
    refine rely_wp rfl ?_
    exact opr_move (.inl rfl) (hK _ _ (NewT.refl _) f22)
  · intro a wx hT hF K hK
    obtain ⟨f2, f23, _⟩ := hF
    have f2 : a.tmps.getD 2 undef = vx := f2
    have f23 : a.tmps.getD 23 undef = .bool ((greatB x) || (greatB y)) := f23
    refine rely_if (rely_gf f23) (NewT.refl _) hK (fun hE hK => ?_)
    exact opr_move (.inl rfl) (hK _ _ (NewT.refl _) f2)
  · intro a wx hT hF K hK
    obtain ⟨f24, f23, _⟩ := hF
    have f24 : ((!((greatB x) || (greatB y)))) = true → a.tmps.getD 24 undef = vx := f24
    have f23 : a.tmps.getD 23 undef = .bool ((greatB x) || (greatB y)) := f23
    refine rely_if (rely_gf f23) (NewT.refl _) hK (fun hE hK => ?_)
    exact opr_len_rd rfl (by rw [eval_tmp, (f24 hE)]; exact (hT.rd HS.out)) (hK _ _ (NewT.refl _) rfl)
  · intro a wx hT hF K hK
    obtain ⟨f25, f23, _⟩ := hF
    have f25 : ((!((greatB x) || (greatB y)))) = true → a.tmps.getD 25 undef = .int .i64 ((List.length (s) : Int)) := f25
    have f23 : a.tmps.getD 23 undef = .bool ((greatB x) || (greatB y)) := f23
    refine rely_if (rely_gf f23) (NewT.refl _) hK (fun hE hK => ?_)
    exact opr_cmp (b := decide (300 < ((List.length (s) : Int)))) (.inr (.inr (.inr (.inr (.inl ⟨rfl, rfl⟩))))) Tryd.underlying3 rfl (f25 hE) rfl (hK _ _ (NewT.refl _) rfl)
  · intro a wx hT hF K hK
    obtain ⟨f23, f26, _⟩ := hF
    have f23 : a.tmps.getD 23 undef = .bool ((greatB x) || (greatB y)) := f23
    have f26 : ((!((greatB x) || (greatB y)))) = true → a.tmps.getD 26 undef = .bool (decide (300 < ((List.length (s) : Int)))) := f26
    refine rely_wp rfl ?_
    exact opr_pick_b rfl f23 (fun hb => hK _ _ (NewT.refl _) (pn_or1 Q1_3 hb)) (fun hb => hK _ _ (NewT.refl _) (pn_or0 Q1_3 (f26 (bnot hb)) hb))
  · intro a wx hT hF K hK
    obtain ⟨f27, _⟩ := hF
    have f27 : a.tmps.getD 27 undef = .bool (q1_3) := f27
    refine rely_wp rfl ?_
    exact opr_move (.inl rfl) (hK _ _ (NewT.refl _) f27)
  · intro a wx hT hF K hK
    obtain ⟨f3, f28, _⟩ := hF
    have f3 : a.tmps.getD 3 undef = vy := f3
    have f28 : a.tmps.getD 28 undef = .bool (q1_3) := f28
    refine rely_if (rely_gf f28) (NewT.refl _) hK (fun hE hK => ?_)
    exact opr_move (.inl rfl) (hK _ _ (NewT.refl _) f3)
  · intro a wx hT hF K hK
    obtain ⟨f29, f28, _⟩ := hF
    have f29 : ((!q1_3)) = true → a.tmps.getD 29 undef = vy := f29
    have f28 : a.tmps.getD 28 undef = .bool (q1_3) := f28
    refine rely_if (rely_gf f28) (NewT.refl _) hK (fun hE hK => ?_)
    exact opr_len_rd rfl (by rw [eval_tmp, (f29 hE)]; exact (hT.rd HTT.out)) (hK _ _ (NewT.refl _) rfl)
  · intro a wx hT hF K hK
    obtain ⟨f30, f28, _⟩ := hF
    have f30 : ((!q1_3)) = true → a.tmps.getD 30 undef = .int .i64 ((List.length (t) : Int)) := f30
    have f28 : a.tmps.getD 28 undef = .bool (q1_3) := f28
    refine rely_if (rely_gf f28) (NewT.refl _) hK (fun hE hK => ?_)
    exact opr_cmp (b := decide (300 < ((List.length (t) : Int)))) (.inr (.inr (.inr (.inr (.inl ⟨rfl, rfl⟩))))) Tryd.underlying3 rfl (f30 hE) rfl (hK _ _ (NewT.refl _) rfl)
  · intro a wx hT hF K hK
    obtain ⟨f28, f31, _⟩ := hF
    have f28 : a.tmps.getD 28 undef = .bool (q1_3) := f28
    have f31 : ((!q1_3)) = true → a.tmps.getD 31 undef = .bool (decide (300 < ((List.length (t) : Int)))) := f31
    refine rely_wp rfl ?_
    exact opr_pick_b rfl f28 (fun hb => hK _ _ (NewT.refl _) (pn_or1 Q2_3 hb)) (fun hb => hK _ _ (NewT.refl _) (pn_or0 Q2_3 (f31 (bnot hb)) hb))
  · intro w2 k2
    intro u h; obtain rfl := Eq.symm (h (by simp)); clear h
    intro u h; obtain rfl := Eq.symm (h (by simp)); clear h
    intro u h; obtain rfl := Eq.symm (h (by simp)); clear h
    intro _ _
    intro _ _
    intro u h; obtain rfl := Eq.symm (h (by simp)); clear h
    intro u h; obtain rfl := Eq.symm (h (by simp)); clear h
    intro _ _
    intro _ _
    intro _ _
    intro u h; obtain rfl := Eq.symm (h (by simp)); clear h
    intro u h; obtain rfl := Eq.symm (h (by simp)); clear h
    intro _ _
    intro _ _
    intro _ _
    intro u h; obtain rfl := Eq.symm (h (by simp)); clear h
    subst Q2_3 Q1_3
    refine relyEnd_nil rfl ?_
    refine wpList_end rfl ?_
    simp only [Act.put, List.setIfInBounds_toArray, List.set_cons_zero, List.set_cons_succ]
    go_simp
    replace HA := Lib.hid (k2.partsL HA.out)
    replace HB := Lib.hid (k2.partsL HB.out)
    replace HS := Lib.hid (k2.rd HS.out)
    replace HTT := Lib.hid (k2.rd HTT.out)
    replace HT := Lib.hid (k2.tables HT.out)
    replace HN := Lib.hid (NewT.trans _ _ _ HN.out k2)
    clear k2
    obtain ⟨qq, hqq⟩ : ∃ b_, (((((greatB x) || (greatB y)) || (decide (300 < ((List.length (s) : Int))))) || (decide (300 < ((List.length (t) : Int)))))) = b_ := ⟨_, rfl⟩
    rw [hqq]
    cases qq
    rotate_left
    · clear hqq
      go_wp2
      go_ret
      exact ⟨rfl, HN.out.out⟩
    · have hg : greatB x = false ∧ greatB y = false ∧ s.length ≤ 300 ∧ t.length ≤ 300 := by
        cases hgb : greatB x
        · cases hgc : greatB y
          · rw [hgb, hgc] at hqq; simp at hqq; refine ⟨rfl, rfl, ?_, ?_⟩ <;> omega
          · rw [hgb, hgc] at hqq; simp at hqq
        · rw [hgb] at hqq; simp at hqq
      have HFx := Lib.hid (great_Fine hg.1)
      have HFy := Lib.hid (great_Fine hg.2.1)
      have HSN := Lib.hid hg.2.2
      obtain ⟨c1, hc1⟩ : ∃ c, e1 (extM sm x y) = c := ⟨_, rfl⟩
      obtain ⟨c2, hc2⟩ : ∃ c, e2 (extM sm x y) = c := ⟨_, rfl⟩
      obtain ⟨q, hq⟩ : ∃ c, (extM sm x y).isSome = c := ⟨_, rfl⟩
      have HL : Hid (c1.length ≤ 1000000 ∧ c2.length ≤ 1000000) := Lib.hid (by
        rw [← hc1, ← hc2]
        cases he : extM sm x y with
        | none => exact ⟨by simp [e1], by simp [e2]⟩
        | some cc =>
          have := extM_len hC.len _ x y cc.1 cc.2 (Nat.le_refl _) HFx.out HFy.out he
          exact ⟨by show cc.1.length ≤ _; omega, by show cc.2.length ≤ _; omega⟩)
      have HEX : Hid (∀ w, Tables w → ∀ va vb, Parts w va x → Parts w vb y → Cv 11 #[va, vb] w (svT2 c1 c2 q)) := Lib.hid fun w hT va vb h1 h2 => by
        have h := Extract_cv hC w hT va vb x y h1 h2 HFx.out HFy.out
        rw [hc1, hc2, hq] at h; exact h
      have HEY : Hid (∀ w, Tables w → ∀ va vb, Parts w va x → Parts w vb y → Cv 12 #[va, vb] w (svT2 c1 c2 q)) := Lib.hid fun w hT va vb h1 h2 => by
        have h := RExt_cv hC _ va vb x y w hT h1 h2 HFx.out HFy.out (Nat.le_refl _)
        rw [hc1, hc2, hq] at h; exact h
      clear hqq hg hc1 hc2 hq
      go_upto_region 5 with fail
      refine wp_region_steps0 NewT [SV.eq (va), SV.eq (vb), svT2 c1 c2 q, svT2 c1 c2 q, svRd (c1), svRd (c2), SV.eq (.bool (q)), svRd (c1), svRd (c2), SV.eq (.bool (q))] [([(0, none)], none), ([(1, none)], none), ([(34, some 0), (35, some 1)], none), ([(36, some 2)], none), ([(33, some 3)], none), ([(33, some 3)], none), ([(33, some 3)], none), ([(37, some 4)], none), ([(38, some 5)], none), ([(39, some 6)], none)] 76 10 rfl rfl (by kernel_rfl) NewT.trans (NewT.refl _) (Nat.le_of_ble_eq_true rfl) ⟨?_, ?_, ?_, ?_, ?_, ?_, ?_, ?_, ?_, ?_, trivial⟩ ?_
      · intro a wx hT hF K hK
        obtain ⟨f0, _⟩ := hF
        have f0 : a.tmps.getD 0 undef = va := f0
        refine rely_wp rfl ?_
        exact opr_move (.inl rfl) (hK _ _ (NewT.refl _) f0)
      · intro a wx hT hF K hK
        obtain ⟨f1, _⟩ := hF
        have f1 : a.tmps.getD 1 undef = vb := f1
        refine rely_wp rfl ?_
        exact opr_move (.inl rfl) (hK _ _ (NewT.refl _) f1)
      · intro a wx hT hF K hK
        obtain ⟨f34, f35, _⟩ := hF
        have f34 : a.tmps.getD 34 undef = va := f34
        have f35 : a.tmps.getD 35 undef = vb := f35
        refine rely_wp rfl ?_
        exact opr_cv (HEX.out wx (hT.tables HT.out) va vb (hT.partsL HA.out) (hT.partsL HB.out)) rfl Tryd.func11 (by kernel_rfl) (by kernel_rfl) (by simp only [List.map_toArray, List.map_cons, List.map_nil, eval_tmp, f34, f35]) hK
      · intro a wx hT hF K hK
        obtain ⟨f36, _⟩ := hF
        replace f36 := show (svT2 c1 c2 q).pred (a.tmps.getD 36 undef) wx from f36
        refine rely_wp rfl ?_
        exact opr_move (.inl rfl) (hK _ _ (NewT.refl _) f36)
      · intro a wx hT hF K hK
        obtain ⟨f33, _⟩ := hF
        replace f33 := show (svT2 c1 c2 q).pred (a.tmps.getD 33 undef) wx from f33
        refine rely_wp rfl ?_
        exact opr_extT0 rfl f33 (fun u hu => hK u _ (NewT.refl _) hu)
      · intro a wx hT hF K hK
        obtain ⟨f33, _⟩ := hF
        replace f33 := show (svT2 c1 c2 q).pred (a.tmps.getD 33 undef) wx from f33
        refine rely_wp rfl ?_
        exact opr_extT1 rfl f33 (fun u hu => hK u _ (NewT.refl _) hu)
      · intro a wx hT hF K hK
        obtain ⟨f33, _⟩ := hF
        replace f33 := show (svT2 c1 c2 q).pred (a.tmps.getD 33 undef) wx from f33
        refine rely_wp rfl ?_
        exact opr_extT2 rfl f33 (hK _ _ (NewT.refl _) rfl)
      · intro a wx hT hF K hK
        obtain ⟨f37, _⟩ := hF
        replace f37 := show (svRd (c1)).pred (a.tmps.getD 37 undef) wx from f37
        refine rely_wp rfl ?_
        exact opr_move (.inr rfl) (hK _ _ (NewT.refl _) f37)
      · intro a wx hT hF K hK
        obtain ⟨f38, _⟩ := hF
        replace f38 := show (svRd (c2)).pred (a.tmps.getD 38 undef) wx from f38
        refine rely_wp rfl ?_
        exact opr_move (.inr rfl) (hK _ _ (NewT.refl _) f38)
      · intro a wx hT hF K hK
        obtain ⟨f39, _⟩ := hF
        have f39 : a.tmps.getD 39 undef = .bool (q) := f39
        refine rely_wp rfl ?_
        exact opr_move (.inr rfl) (hK _ _ (NewT.refl _) f39)
      · intro w3 k3
        intro u h; obtain rfl := Eq.symm (h (by simp)); clear h
        intro u h; obtain rfl := Eq.symm (h (by simp)); clear h
        intro _ _
        intro _ _
        intro _ _
        intro _ _
        intro u h; obtain rfl := Eq.symm (h (by simp)); clear h
        intro u9 h; have g9 := h (by simp); clear h; replace g9 := show (svRd (c1)).pred u9 w3 from g9
        intro u10 h; have g10 := h (by simp); clear h; replace g10 := show (svRd (c2)).pred u10 w3 from g10
        intro u h; obtain rfl := Eq.symm (h (by simp)); clear h
        refine relyEnd_nil rfl ?_
        refine wpList_end rfl ?_
        simp only [Act.put, List.setIfInBounds_toArray, List.set_cons_zero, List.set_cons_succ]
        go_simp
        have H9 := Lib.hid g9
        have H10 := Lib.hid g10
        clear g9 g10
        replace HA := Lib.hid (k3.partsL HA.out)
        replace HB := Lib.hid (k3.partsL HB.out)
        replace HS := Lib.hid (k3.rd HS.out)
        replace HTT := Lib.hid (k3.rd HTT.out)
        replace HT := Lib.hid (k3.tables HT.out)
        replace HN := Lib.hid (NewT.trans _ _ _ HN.out k3)
        clear k3
        go_upto_region 6 with fail
        refine wp_region_steps0 NewT [SV.eq (va), SV.eq (vb), svT2 c1 c2 q, svT2 c1 c2 q, svRd (c1), svRd (c2), SV.eq (.bool (q)), svRd (c1), svRd (c2), SV.eq (.bool (q))] [([(0, none)], none), ([(1, none)], none), ([(41, some 0), (42, some 1)], none), ([(43, some 2)], none), ([(40, some 3)], none), ([(40, some 3)], none), ([(40, some 3)], none), ([(44, some 4)], none), ([(45, some 5)], none), ([(46, some 6)], none)] 76 10 rfl rfl (by kernel_rfl) NewT.trans (NewT.refl _) (Nat.le_of_ble_eq_true rfl) ⟨?_, ?_, ?_, ?_, ?_, ?_, ?_, ?_, ?_, ?_, trivial⟩ ?_
        · intro a wx hT hF K hK
          obtain ⟨f0, _⟩ := hF
          have f0 : a.tmps.getD 0 undef = va := f0
          refine rely_wp rfl ?_
          exact opr_move (.inl rfl) (hK _ _ (NewT.refl _) f0)
        · intro a wx hT hF K hK
          obtain ⟨f1, _⟩ := hF
          have f1 : a.tmps.getD 1 undef = vb := f1
          refine rely_wp rfl ?_
          exact opr_move (.inl rfl) (hK _ _ (NewT.refl _) f1)
        · intro a wx hT hF K hK
          obtain ⟨f41, f42, _⟩ := hF
          have f41 : a.tmps.getD 41 undef = va := f41
          have f42 : a.tmps.getD 42 undef = vb := f42
          refine rely_wp rfl ?_
          exact opr_cv (HEY.out wx (hT.tables HT.out) va vb (hT.partsL HA.out) (hT.partsL HB.out)) rfl Tryd.func12 (by kernel_rfl) (by kernel_rfl) (by simp only [List.map_toArray, List.map_cons, List.map_nil, eval_tmp, f41, f42]) hK
        · intro a wx hT hF K hK
          obtain ⟨f43, _⟩ := hF
          replace f43 := show (svT2 c1 c2 q).pred (a.tmps.getD 43 undef) wx from f43
          refine rely_wp rfl ?_
          exact opr_move (.inl rfl) (hK _ _ (NewT.refl _) f43)
        · intro a wx hT hF K hK
          obtain ⟨f40, _⟩ := hF
          replace f40 := show (svT2 c1 c2 q).pred (a.tmps.getD 40 undef) wx from f40
          refine rely_wp rfl ?_
          exact opr_extT0 rfl f40 (fun u hu => hK u _ (NewT.refl _) hu)
        · intro a wx hT hF K hK
          obtain ⟨f40, _⟩ := hF
          replace f40 := show (svT2 c1 c2 q).pred (a.tmps.getD 40 undef) wx from f40
          refine rely_wp rfl ?_
          exact opr_extT1 rfl f40 (fun u hu => hK u _ (NewT.refl _) hu)
        · intro a wx hT hF K hK
          obtain ⟨f40, _⟩ := hF
          replace f40 := show (svT2 c1 c2 q).pred (a.tmps.getD 40 undef) wx from f40
          refine rely_wp rfl ?_
          exact opr_extT2 rfl f40 (hK _ _ (NewT.refl _) rfl)
        · intro a wx hT hF K hK
          obtain ⟨f44, _⟩ := hF
          replace f44 := show (svRd (c1)).pred (a.tmps.getD 44 undef) wx from f44
          refine rely_wp rfl ?_
          exact opr_move (.inr rfl) (hK _ _ (NewT.refl _) f44)
        · intro a wx hT hF K hK
          obtain ⟨f45, _⟩ := hF
          replace f45 := show (svRd (c2)).pred (a.tmps.getD 45 undef) wx from f45
          refine rely_wp rfl ?_
          exact opr_move (.inr rfl) (hK _ _ (NewT.refl _) f45)
        · intro a wx hT hF K hK
          obtain ⟨f46, _⟩ := hF
          have f46 : a.tmps.getD 46 undef = .bool (q) := f46
          refine rely_wp rfl ?_
          exact opr_move (.inr rfl) (hK _ _ (NewT.refl _) f46)
        · intro w4 k4
          intro u h; obtain rfl := Eq.symm (h (by simp)); clear h
          intro u h; obtain rfl := Eq.symm (h (by simp)); clear h
          intro _ _
          intro _ _
          intro _ _
          intro _ _
          intro u h; obtain rfl := Eq.symm (h (by simp)); clear h
          intro u12 h; have g12 := h (by simp); clear h; replace g12 := show (svRd (c1)).pred u12 w4 from g12
          intro u13 h; have g13 := h (by simp); clear h; replace g13 := show (svRd (c2)).pred u13 w4 from g13
          intro u h; obtain rfl := Eq.symm (h (by simp)); clear h
          refine relyEnd_nil rfl ?_
          refine wpList_end rfl ?_
          simp only [Act.put, List.setIfInBounds_toArray, List.set_cons_zero, List.set_cons_succ]
          go_simp
          have H12 := Lib.hid g12
          have H13 := Lib.hid g13
          clear g12 g13
          replace HA := Lib.hid (k4.partsL HA.out)
          replace HB := Lib.hid (k4.partsL HB.out)
          replace HS := Lib.hid (k4.rd HS.out)
          replace HTT := Lib.hid (k4.rd HTT.out)
          replace H9 := Lib.hid (k4.rd H9.out)
          replace H10 := Lib.hid (k4.rd H10.out)
          replace HT := Lib.hid (k4.tables HT.out)
          replace HN := Lib.hid (NewT.trans _ _ _ HN.out k4)
          clear k4
          go_upto_region 7 with fail
          refine wp_region_steps0 NewT [SV.eq (.bool (q)), SV.eq (.bool (q)), SV.eq (.bool true), SV.eq (.bool true), SV.eq (u9), SV.eq (u12), SV.eq (.bool true), SV.eq (.bool true), SV.eq (.bool true), SV.eq (u10), SV.eq (u13), SV.eq (.bool true), SV.eq (.bool true), SV.eq (.bool true), SV.eq (va), SV.eq (.agg (rowA 32 (bF (rootM node z (List.map lf x))))), SV.eq (va), SV.eq (.agg (rowA 32 (bF (rootM node z (List.map lf x))))), SV.eq (.bool true), SV.eq (.bool true), SV.eq (.bool true), SV.eq (vx), SV.eq (vy), SV.eq (.bool (isB sm s t)), SV.eq (vx), SV.eq (vy), SV.eq (.bool (isB sm s t)), SV.eq (.bool true), SV.eq (.bool true), SV.eq (.bool true)] [([(11, none)], none), ([(14, none)], none), ([(47, some 0), (48, some 1)], none), ([(49, some 2)], none), ([(9, none), (50, some 3)], some (50, true)), ([(12, none), (50, some 3)], some (50, true)), ([(51, some 4), (52, some 5), (50, some 3)], some (50, true)), ([(50, some 3), (53, some 6)], none), ([(54, some 7)], none), ([(10, none), (55, some 8)], some (55, true)), ([(13, none), (55, some 8)], some (55, true)), ([(56, some 9), (57, some 10), (55, some 8)], some (55, true)), ([(55, some 8), (58, some 11)], none), ([(59, some 12)], none), ([(0, none), (60, some 13)], some (60, true)), ([(61, some 14), (60, some 13)], some (60, true)), ([(0, none), (60, some 13)], some (60, true)), ([(63, some 16), (60, some 13)], some (60, true)), ([(62, some 15), (64, some 17), (60, some 13)], some (60, true)), ([(60, some 13), (65, some 18)], none), ([(66, some 19)], none), ([(2, none), (67, some 20)], some (67, true)), ([(3, none), (67, some 20)], some (67, true)), ([(68, some 21), (69, some 22), (67, some 20)], some (67, true)), ([(2, none), (67, some 20)], some (67, true)), ([(3, none), (67, some 20)], some (67, true)), ([(71, some 24), (72, some 25), (67, some 20)], some (67, true)), ([(70, some 23), (73, some 26), (67, some 20)], some (67, true)), ([(67, some 20), (74, some 27)], none), ([(75, some 28)], none)] 76 30 rfl rfl (by kernel_rfl) NewT.trans (NewT.refl _) (Nat.le_of_ble_eq_true rfl) ⟨?_, ?_, ?_, ?_, ?_, ?_, ?_, ?_, ?_, ?_, ?_, ?_, ?_, ?_, ?_, ?_, ?_, ?_, ?_, ?_, ?_, ?_, ?_, ?_, ?_, ?_, ?_, ?_, ?_, ?_, trivial⟩ ?_
          · intro a wx hT hF K hK
            obtain ⟨f11, _⟩ := hF
            have f11 : a.tmps.getD 11 undef = .bool (q) := f11
            refine rely_wp rfl ?_
            exact opr_move (.inl rfl) (hK _ _ (NewT.refl _) f11)
          · intro a wx hT hF K hK
            obtain ⟨f14, _⟩ := hF
            have f14 : a.tmps.getD 14 undef = .bool (q) := f14
            refine rely_wp rfl ?_
            exact opr_move (.inl rfl) (hK _ _ (NewT.refl _) f14)
          · intro a wx hT hF K hK
            obtain ⟨f47, f48, _⟩ := hF
            have f47 : a.tmps.getD 47 undef = .bool (q) := f47
            have f48 : a.tmps.getD 48 undef = .bool (q) := f48
            refine rely_wp rfl ?_
            exact opr_eqlQ (b := true) (beq_self_eq_true _) rfl f47 f48 (hK _ _ (NewT.refl _) rfl)
          · intro a wx hT hF K hK
            obtain ⟨f49, _⟩ := hF
            have f49 : a.tmps.getD 49 undef = .bool true := f49
            refine rely_wp rfl ?_
            exact opr_move (.inl rfl) (hK _ _ (NewT.refl _) f49)
          · intro a wx hT hF K hK
            obtain ⟨f9, f50, _⟩ := hF
            have f9 : a.tmps.getD 9 undef = u9 := f9
            have f50 : a.tmps.getD 50 undef = .bool true := f50
            refine rely_wp (rely_guard f50) ?_
            exact opr_move (.inl rfl) (hK _ _ (NewT.refl _) f9)
          · intro a wx hT hF K hK
            obtain ⟨f12, f50, _⟩ := hF
            have f12 : a.tmps.getD 12 undef = u12 := f12
            have f50 : a.tmps.getD 50 undef = .bool true := f50
            refine rely_wp (rely_guard f50) ?_
            exact opr_move (.inl rfl) (hK _ _ (NewT.refl _) f12)
          · intro a wx hT hF K hK
            obtain ⟨f51, f52, f50, _⟩ := hF
            have f51 : a.tmps.getD 51 undef = u9 := f51
            have f52 : a.tmps.getD 52 undef = u12 := f52
            have f50 : a.tmps.getD 50 undef = .bool true := f50
            refine rely_wp (rely_guard f50) ?_
            exact opr_cv (HBY.out wx _ _ c1 (hT.rd H9.out) (hT.rd H12.out) HL.out.1) rfl Tryd.func13 (by kernel_rfl) (by kernel_rfl) (by simp only [List.map_toArray, List.map_cons, List.map_nil, eval_tmp, f51, f52]) hK
          · intro a wx hT hF K hK
            obtain ⟨f50, f53, _⟩ := hF
            have f50 : a.tmps.getD 50 undef = .bool true := f50
            have f53 : a.tmps.getD 53 undef = .bool true := f53
            refine rely_wp rfl ?_
            exact opr_pick_true rfl f50 (hK _ _ (NewT.refl _) f53)
          · intro a wx hT hF K hK
            obtain ⟨f54, _⟩ := hF
            have f54 : a.tmps.getD 54 undef = .bool true := f54
            refine rely_wp rfl ?_
            exact opr_move (.inl rfl) (hK _ _ (NewT.refl _) f54)
          · intro a wx hT hF K hK
            obtain ⟨f10, f55, _⟩ := hF
            have f10 : a.tmps.getD 10 undef = u10 := f10
            have f55 : a.tmps.getD 55 undef = .bool true := f55
            refine rely_wp (rely_guard f55) ?_
            exact opr_move (.inl rfl) (hK _ _ (NewT.refl _) f10)
          · intro a wx hT hF K hK
            obtain ⟨f13, f55, _⟩ := hF
            have f13 : a.tmps.getD 13 undef = u13 := f13
            have f55 : a.tmps.getD 55 undef = .bool true := f55
            refine rely_wp (rely_guard f55) ?_
            exact opr_move (.inl rfl) (hK _ _ (NewT.refl _) f13)
          · intro a wx hT hF K hK
            obtain ⟨f56, f57, f55, _⟩ := hF
            have f56 : a.tmps.getD 56 undef = u10 := f56
            have f57 : a.tmps.getD 57 undef = u13 := f57
            have f55 : a.tmps.getD 55 undef = .bool true := f55
            refine rely_wp (rely_guard f55) ?_
            exact opr_cv (HBY.out wx _ _ c2 (hT.rd H10.out) (hT.rd H13.out) HL.out.2) rfl Tryd.func13 (by kernel_rfl) (by kernel_rfl) (by simp only [List.map_toArray, List.map_cons, List.map_nil, eval_tmp, f56, f57]) hK
          · intro a wx hT hF K hK
            obtain ⟨f55, f58, _⟩ := hF
            have f55 : a.tmps.getD 55 undef = .bool true := f55
            have f58 : a.tmps.getD 58 undef = .bool true := f58
            refine rely_wp rfl ?_
            exact opr_pick_true rfl f55 (hK _ _ (NewT.refl _) f58)
          · intro a wx hT hF K hK
            obtain ⟨f59, _⟩ := hF
            have f59 : a.tmps.getD 59 undef = .bool true := f59
            refine rely_wp rfl ?_
            exact opr_move (.inl rfl) (hK _ _ (NewT.refl _) f59)
          · intro a wx hT hF K hK
            obtain ⟨f0, f60, _⟩ := hF
            have f0 : a.tmps.getD 0 undef = va := f0
            have f60 : a.tmps.getD 60 undef = .bool true := f60
            refine rely_wp (rely_guard f60) ?_
            exact opr_move (.inl rfl) (hK _ _ (NewT.refl _) f0)
          · intro a wx hT hF K hK
            obtain ⟨f61, f60, _⟩ := hF
            have f61 : a.tmps.getD 61 undef = va := f61
            have f60 : a.tmps.getD 60 undef = .bool true := f60
            refine rely_wp (rely_guard f60) ?_
            exact opr_cv (Roots_cv hC _ x wx (hT.tables HT.out) (hT.partsL HA.out) (HFx.out)) rfl Tryd.func14 (by kernel_rfl) (by kernel_rfl) (by simp only [List.map_toArray, List.map_cons, List.map_nil, eval_tmp, f61]) hK
          · intro a wx hT hF K hK
            obtain ⟨f0, f60, _⟩ := hF
            have f0 : a.tmps.getD 0 undef = va := f0
            have f60 : a.tmps.getD 60 undef = .bool true := f60
            refine rely_wp (rely_guard f60) ?_
            exact opr_move (.inl rfl) (hK _ _ (NewT.refl _) f0)
          · intro a wx hT hF K hK
            obtain ⟨f63, f60, _⟩ := hF
            have f63 : a.tmps.getD 63 undef = va := f63
            have f60 : a.tmps.getD 60 undef = .bool true := f60
            refine rely_wp (rely_guard f60) ?_
            exact opr_cv (RRoot7_cv hC _ x wx (hT.tables HT.out) (hT.partsL HA.out) (HFx.out)) rfl Tryd.func15 (by kernel_rfl) (by kernel_rfl) (by simp only [List.map_toArray, List.map_cons, List.map_nil, eval_tmp, f63]) hK
          · intro a wx hT hF K hK
            obtain ⟨f62, f64, f60, _⟩ := hF
            have f62 : a.tmps.getD 62 undef = .agg (rowA 32 (bF (rootM node z (List.map lf x)))) := f62
            have f64 : a.tmps.getD 64 undef = .agg (rowA 32 (bF (rootM node z (List.map lf x)))) := f64
            have f60 : a.tmps.getD 60 undef = .bool true := f60
            refine rely_wp (rely_guard f60) ?_
            exact opr_eql_hash (b := true) rfl f62 f64 (eqH_same _) (hK _ _ (NewT.refl _) rfl)
          · intro a wx hT hF K hK
            obtain ⟨f60, f65, _⟩ := hF
            have f60 : a.tmps.getD 60 undef = .bool true := f60
            have f65 : a.tmps.getD 65 undef = .bool true := f65
            refine rely_wp rfl ?_
            exact opr_pick_true rfl f60 (hK _ _ (NewT.refl _) f65)
          · intro a wx hT hF K hK
            obtain ⟨f66, _⟩ := hF
            have f66 : a.tmps.getD 66 undef = .bool true := f66
            refine rely_wp rfl ?_
            exact opr_move (.inl rfl) (hK _ _ (NewT.refl _) f66)
          · intro a wx hT hF K hK
            obtain ⟨f2, f67, _⟩ := hF
            have f2 : a.tmps.getD 2 undef = vx := f2
            have f67 : a.tmps.getD 67 undef = .bool true := f67
            refine rely_wp (rely_guard f67) ?_
            exact opr_move (.inl rfl) (hK _ _ (NewT.refl _) f2)
          · intro a wx hT hF K hK
            obtain ⟨f3, f67, _⟩ := hF
            have f3 : a.tmps.getD 3 undef = vy := f3
            have f67 : a.tmps.getD 67 undef = .bool true := f67
            refine rely_wp (rely_guard f67) ?_
            exact opr_move (.inl rfl) (hK _ _ (NewT.refl _) f3)
          · intro a wx hT hF K hK
            obtain ⟨f68, f69, f67, _⟩ := hF
            have f68 : a.tmps.getD 68 undef = vx := f68
            have f69 : a.tmps.getD 69 undef = vy := f69
            have f67 : a.tmps.getD 67 undef = .bool true := f67
            refine rely_wp (rely_guard f67) ?_
            exact opr_cv (Is_cv hC _ _ s t wx (hT.tables HT.out) (hT.rd HS.out) (hT.rd HTT.out) (by have := HSN.out; omega) (by have := HSN.out; omega)) rfl Tryd.func16 (by kernel_rfl) (by kernel_rfl) (by simp only [List.map_toArray, List.map_cons, List.map_nil, eval_tmp, f68, f69]) hK
          · intro a wx hT hF K hK
            obtain ⟨f2, f67, _⟩ := hF
            have f2 : a.tmps.getD 2 undef = vx := f2
            have f67 : a.tmps.getD 67 undef = .bool true := f67
            refine rely_wp (rely_guard f67) ?_
            exact opr_move (.inl rfl) (hK _ _ (NewT.refl _) f2)
          · intro a wx hT hF K hK
            obtain ⟨f3, f67, _⟩ := hF
            have f3 : a.tmps.getD 3 undef = vy := f3
            have f67 : a.tmps.getD 67 undef = .bool true := f67
            refine rely_wp (rely_guard f67) ?_
            exact opr_move (.inl rfl) (hK _ _ (NewT.refl _) f3)
          · intro a wx hT hF K hK
            obtain ⟨f71, f72, f67, _⟩ := hF
            have f71 : a.tmps.getD 71 undef = vx := f71
            have f72 : a.tmps.getD 72 undef = vy := f72
            have f67 : a.tmps.getD 67 undef = .bool true := f67
            refine rely_wp (rely_guard f67) ?_
            exact opr_cv (RIs7_cv hC _ _ s t wx (hT.tables HT.out) (hT.rd HS.out) (hT.rd HTT.out) (by have := HSN.out; omega) (by have := HSN.out; omega)) rfl Tryd.func17 (by kernel_rfl) (by kernel_rfl) (by simp only [List.map_toArray, List.map_cons, List.map_nil, eval_tmp, f71, f72]) hK
          · intro a wx hT hF K hK
            obtain ⟨f70, f73, f67, _⟩ := hF
            have f70 : a.tmps.getD 70 undef = .bool (isB sm s t) := f70
            have f73 : a.tmps.getD 73 undef = .bool (isB sm s t) := f73
            have f67 : a.tmps.getD 67 undef = .bool true := f67
            refine rely_wp (rely_guard f67) ?_
            exact opr_eqlQ (b := true) (beq_self_eq_true _) rfl f70 f73 (hK _ _ (NewT.refl _) rfl)
          · intro a wx hT hF K hK
            obtain ⟨f67, f74, _⟩ := hF
            have f67 : a.tmps.getD 67 undef = .bool true := f67
            have f74 : a.tmps.getD 74 undef = .bool true := f74
            refine rely_wp rfl ?_
            exact opr_pick_true rfl f67 (hK _ _ (NewT.refl _) f74)
          · intro a wx hT hF K hK
            obtain ⟨f75, _⟩ := hF
            have f75 : a.tmps.getD 75 undef = .bool true := f75
            refine rely_wp rfl ?_
            exact opr_move (.inr rfl) (hK _ _ (NewT.refl _) f75)
          · intro w5 k5
            intro u h; obtain rfl := Eq.symm (h (by simp)); clear h
            intro u h; obtain rfl := Eq.symm (h (by simp)); clear h
            intro u h; obtain rfl := Eq.symm (h (by simp)); clear h
            intro u h; obtain rfl := Eq.symm (h (by simp)); clear h
            intro u h; obtain rfl := Eq.symm (h (by simp)); clear h
            intro u h; obtain rfl := Eq.symm (h (by simp)); clear h
            intro u h; obtain rfl := Eq.symm (h (by simp)); clear h
            intro u h; obtain rfl := Eq.symm (h (by simp)); clear h
            intro u h; obtain rfl := Eq.symm (h (by simp)); clear h
            intro u h; obtain rfl := Eq.symm (h (by simp)); clear h
            intro u h; obtain rfl := Eq.symm (h (by simp)); clear h
            intro u h; obtain rfl := Eq.symm (h (by simp)); clear h
            intro u h; obtain rfl := Eq.symm (h (by simp)); clear h
            intro u h; obtain rfl := Eq.symm (h (by simp)); clear h
            intro u h; obtain rfl := Eq.symm (h (by simp)); clear h
            intro u h; obtain rfl := Eq.symm (h (by simp)); clear h
            intro u h; obtain rfl := Eq.symm (h (by simp)); clear h
            intro u h; obtain rfl := Eq.symm (h (by simp)); clear h
            intro u h; obtain rfl := Eq.symm (h (by simp)); clear h
            intro u h; obtain rfl := Eq.symm (h (by simp)); clear h
            intro u h; obtain rfl := Eq.symm (h (by simp)); clear h
            intro u h; obtain rfl := Eq.symm (h (by simp)); clear h
            intro u h; obtain rfl := Eq.symm (h (by simp)); clear h
            intro u h; obtain rfl := Eq.symm (h (by simp)); clear h
            intro u h; obtain rfl := Eq.symm (h (by simp)); clear h
            intro u h; obtain rfl := Eq.symm (h (by simp)); clear h
            intro u h; obtain rfl := Eq.symm (h (by simp)); clear h
            intro u h; obtain rfl := Eq.symm (h (by simp)); clear h
            intro u h; obtain rfl := Eq.symm (h (by simp)); clear h
            intro u h; obtain rfl := Eq.symm (h (by simp)); clear h
            refine relyEnd_nil rfl ?_
            refine wpList_end rfl ?_
            simp only [Act.put, List.setIfInBounds_toArray, List.set_cons_zero, List.set_cons_succ]
            go_simp
            go_wp2
            go_ret
            exact ⟨rfl, (NewT.trans _ _ _ HN.out k5).out⟩
end Go.Proofs.YtlnedphnphabkaaDoor
