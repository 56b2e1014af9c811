/- The document's answers for layer 5: Root, Trees and Same, walked. -/
import Derived.Test.YtlnedphnphabkaaDoorMc
import Derived.Test.YtlnedphnphabkaaDoorMg
set_option linter.all false
namespace Go.Proofs.YtlnedphnphabkaaDoor
open Go Go.RowKit
set_option maxRecDepth 8000
set_option linter.all false
set_option maxHeartbeats 1000000 in
theorem RRoot_0 {node : Hs → Hs → Hs} {z : Hs} (hX : TreeH node z) (A : Option Addr) (c : Nat) (w : World) (hT : Tables w) : Cv 32 #[.slice A 0 c] w (.eq (.agg (rowA 32 (bF z)))) := by
  unfold Cv
  have HT := Lib.hid hT
  clear hT
  go_enter Tryd.func32, Tryd.ntmps32
  go_upto_region 2 with fail
  have r0 := rowIs_box w 30 32 (bF fun _ => 0)
  have hN := NewT.alloc w (.cells (rowA 32 (bF fun _ => 0)) 30)
  change Code.wp _ _ _ _ (w.alloc (.cells (rowA 32 (bF fun _ => 0)) 30))
  generalize w.alloc (.cells (rowA 32 (bF fun _ => 0)) 30) = W0 at r0 hN ⊢
  have R0 := Lib.hid r0
  have HN := Lib.hid hN
  replace HT := Lib.hid (hN.tables HT.out)
  clear r0 hN
  refine wp_region_steps0 NewT [SV.eq (.agg (rowA 32 (bF (z))))] [([], none)] 27 1 rfl rfl (by kernel_rfl) NewT.trans (NewT.refl _) (Nat.le_of_ble_eq_true rfl) ⟨?_, trivial⟩ ?_
  · intro a wx hT hF K hK
    refine rely_wp rfl ?_
    exact opr_cv (RSumB_cv _ [] z wx (hT.tables HT.out) (rdV_nil0 wx) (by simp) hX.zero) rfl Tryd.func35 (by kernel_rfl) (by kernel_rfl) (by simp only [List.map_toArray, List.map_cons, List.map_nil, eval_const]) hK
  · intro wx hT
    intro u h; obtain rfl := Eq.symm (h (by simp)); clear h
    refine relyEnd_nil rfl ?_
    simp only [Act.put, List.setIfInBounds_toArray, List.set_cons_zero, List.set_cons_succ]
    refine wpList_plain rfl (fun K hK => ?_)
    refine opr_store_new (B := w.heap.size) (W := w) info31 rfl rfl rfl (hT.row R0.out) (NewT.trans _ _ _ HN.out hT) (Nat.le_refl _) ?_
    intro w9 hB9 r9
    refine hK _ _ ?_
    refine wpList_end rfl ?_
    simp only [Act.put]
    go_simp
    go_wp2
    exact bodyPost_ret (results_row rfl _ rfl r9 Tryd.underlying30 info31) rfl ⟨_, rfl, hB9, rfl⟩
set_option maxHeartbeats 1000000 in
theorem RRoot_1 {node : Hs → Hs → Hs} {z : Hs} (hX : TreeH node z) (v : Value) (d : Hs) (w : World) (hT : Tables w) (hl : RdH w v [d]) : Cv 32 #[v] w (.eq (.agg (rowA 32 (bF d)))) := by
  unfold Cv
  have HT := Lib.hid hT
  have HL := Lib.hid hl
  obtain ⟨A, c, hv⟩ := rdH_form hl
  have hv : v = .slice A 1 c := hv
  subst hv
  clear hT hl
  go_enter Tryd.func32, Tryd.ntmps32
  go_upto_region 4 with fail
  obtain ⟨v, ev⟩ : ∃ v, Value.slice A 1 c = v := ⟨_, rfl⟩
  rw [ev] at HL ⊢
  clear ev
  have r0 := rowIs_box w 30 32 (bF fun _ => 0)
  have hN := NewT.alloc w (.cells (rowA 32 (bF fun _ => 0)) 30)
  change Code.wp _ _ _ _ (w.alloc (.cells (rowA 32 (bF fun _ => 0)) 30))
  generalize w.alloc (.cells (rowA 32 (bF fun _ => 0)) 30) = W0 at r0 hN ⊢
  have R0 := Lib.hid r0
  have HN := Lib.hid hN
  replace HT := Lib.hid (hN.tables HT.out)
  replace HL := Lib.hid (hN.hs HL.out)
  clear r0 hN
  refine wp_region_steps0 NewT [SV.eq (v), svP (d), SV.eq (.agg (rowA 32 (bF (d))))] [([(0, none)], none), ([(11, some 0)], none), ([(12, some 1)], none)] 27 3 rfl rfl (by kernel_rfl) NewT.trans (NewT.refl _) (Nat.le_of_ble_eq_true rfl) ⟨?_, ?_, ?_, trivial⟩ ?_
  · intro a wx hT hF K hK
    obtain ⟨f0, _⟩ := hF
    have f0 : a.tmps.getD 0 undef = v := f0
    refine rely_wp rfl ?_
    exact opr_move (.inl rfl) (hK _ _ (NewT.refl _) f0)
  · intro a wx hT hF K hK
    obtain ⟨f11, _⟩ := hF
    have f11 : a.tmps.getD 11 undef = v := f11
    refine rely_wp rfl ?_
    exact opr_idxH (i := 0) (d := d) (rfl) (rfl) rfl (by rw [eval_tmp, f11]; exact (hT.hs HL.out)) rfl (fun v hv => hK v _ (NewT.refl _) hv)
  · intro a wx hT hF K hK
    obtain ⟨f12, _⟩ := hF
    replace f12 := show (svP (d)).pred (a.tmps.getD 12 undef) wx from f12
    refine rely_wp rfl ?_
    exact opr_ldP rfl f12 (hK _ _ (NewT.refl _) rfl)
  · intro wx hT
    intro u h; obtain rfl := Eq.symm (h (by simp)); clear h
    intro _ _
    intro u h; obtain rfl := Eq.symm (h (by simp)); clear h
    refine relyEnd_nil rfl ?_
    simp only [Act.put, List.setIfInBounds_toArray, List.set_cons_zero, List.set_cons_succ]
    refine wpList_plain rfl (fun K hK => ?_)
    refine opr_store_new (B := w.heap.size) (W := w) info31 rfl rfl rfl (hT.row R0.out) (NewT.trans _ _ _ HN.out hT) (Nat.le_refl _) ?_
    intro w9 hB9 r9
    refine hK _ _ ?_
    refine wpList_end rfl ?_
    simp only [Act.put]
    go_simp
    go_wp2
    exact bodyPost_ret (results_row rfl _ rfl r9 Tryd.underlying30 info31) rfl ⟨_, rfl, hB9, rfl⟩
set_option maxRecDepth 20000 in
set_option maxHeartbeats 1000000 in
theorem RRoot_2 {node : Hs → Hs → Hs} {z : Hs} (hX : TreeH node z) (v : Value) (l : List Hs) (k : Nat) (w : World) (hT : Tables w) (hl : RdH w v l) (hn : 2 ≤ l.length) (hk : k < l.length) (hk0 : 0 < k) (hs : ∀ w, Cv 28 #[.int .i64 (l.length : Int)] w (.eq (.int .i64 (k : Int))))
    (ih : ∀ (v : Value) (m : List Hs) (w : World), Tables w → RdH w v m → m.length < l.length → Cv 32 #[v] w (.eq (.agg (rowA 32 (bF (rootM node z m)))))) : Cv 32 #[v] w (.eq (.agg (rowA 32 (bF (node (rootM node z (l.take k)) (rootM node z (l.drop k))))))) := by
  unfold Cv
  have HT := Lib.hid hT
  have HL := Lib.hid hl
  have HK := Lib.hid hs
  obtain ⟨A, c, hv⟩ := rdH_form hl
  have t0 : ((l.length : Int) == 0) = false := beq_eq_false_iff_ne.2 (by omega)
  have t1 : ((l.length : Int) == 1) = false := beq_eq_false_iff_ne.2 (by omega)
  subst hv
  clear hT hl hs
  go_enter Tryd.func32, Tryd.ntmps32
  go_upto_region 5 with fail
  obtain ⟨v, ev⟩ : ∃ v, Value.slice A l.length c = v := ⟨_, rfl⟩
  rw [ev] at HL ⊢
  clear ev
  have r0 := rowIs_box w 30 32 (bF fun _ => 0)
  have hN := NewT.alloc w (.cells (rowA 32 (bF fun _ => 0)) 30)
  change Code.wp _ _ _ _ (w.alloc (.cells (rowA 32 (bF fun _ => 0)) 30))
  generalize w.alloc (.cells (rowA 32 (bF fun _ => 0)) 30) = W0 at r0 hN ⊢
  have R0 := Lib.hid r0
  have HN := Lib.hid hN
  replace HT := Lib.hid (hN.tables HT.out)
  replace HL := Lib.hid (hN.hs HL.out)
  clear r0 hN
  clear t0 t1
  refine wp_region_steps0 NewT [SV.eq (v), SV.eq (.int .i64 ((List.length (l) : Int))), SV.eq (.int .i64 ((k : Int))), SV.eq (.int .i64 ((k : Int)))] [([(0, none)], none), ([(14, some 0)], none), ([(15, some 1)], none), ([(16, some 2)], none)] 27 4 rfl rfl (by kernel_rfl) NewT.trans (NewT.refl _) (Nat.le_of_ble_eq_true rfl) ⟨?_, ?_, ?_, ?_, trivial⟩ ?_
  · intro a wx hT hF K hK
    obtain ⟨f0, _⟩ := hF
    have f0 : a.tmps.getD 0 undef = v := f0
    refine rely_wp rfl ?_
    exact opr_move (.inl rfl) (hK _ _ (NewT.refl _) f0)
  · intro a wx hT hF K hK
    obtain ⟨f14, _⟩ := hF
    have f14 : a.tmps.getD 14 undef = v := f14
    refine rely_wp rfl ?_
    exact opr_len_h rfl (by rw [eval_tmp, f14]; exact (hT.hs HL.out)) (hK _ _ (NewT.refl _) rfl)
  · intro a wx hT hF K hK
    obtain ⟨f15, _⟩ := hF
    have f15 : a.tmps.getD 15 undef = .int .i64 ((List.length (l) : Int)) := f15
    refine rely_wp rfl ?_
    exact opr_cv (HK.out wx) rfl Tryd.func28 (by kernel_rfl) (by kernel_rfl) (by simp only [List.map_toArray, List.map_cons, List.map_nil, eval_tmp, f15]) hK
  · intro a wx hT hF K hK
    obtain ⟨f16, _⟩ := hF
    have f16 : a.tmps.getD 16 undef = .int .i64 ((k : Int)) := f16
    refine rely_wp rfl ?_
    exact opr_move (.inr rfl) (hK _ _ (NewT.refl _) f16)
  · intro w6 k6
    intro u h; obtain rfl := Eq.symm (h (by simp)); clear h
    intro u h; obtain rfl := Eq.symm (h (by simp)); clear h
    intro u h; obtain rfl := Eq.symm (h (by simp)); clear h
    intro u h; obtain rfl := Eq.symm (h (by simp)); clear h
    refine relyEnd_nil rfl ?_
    refine wpList_end rfl ?_
    simp only [Act.put, List.setIfInBounds_toArray, List.set_cons_zero, List.set_cons_succ]
    go_simp
    replace R0 := Lib.hid (k6.row R0.out)
    replace HT := Lib.hid (k6.tables HT.out)
    replace HL := Lib.hid (k6.hs HL.out)
    replace HN := Lib.hid (NewT.trans _ _ _ HN.out k6)
    clear HK k6
    go_upto_region 6 with fail
    refine wp_region_rely (NewT) [SV.eq (v), SV.eq (.int .i64 ((k : Int))), svH (List.take k l), SV.eq (.agg (rowA 32 (bF (rootM node z (List.take k l))))), SV.eq (v), SV.eq (.int .i64 ((k : Int))), svH (List.drop k l), SV.eq (.agg (rowA 32 (bF (rootM node z (List.drop k l))))), svRd ((1 :: digL (rootM node z (List.take k l))) ++ digL (rootM node z (List.drop k l))), SV.eq (.agg (rowA 32 (bF (node (rootM node z (List.take k l)) (rootM node z (List.drop k l))))))] [([(0, none)], none), ([(3, none)], none), ([(17, some 0), (18, some 1)], none), ([(19, some 2)], none), ([(0, none)], none), ([(3, none)], none), ([(21, some 4), (22, some 5)], none), ([(23, some 6)], none), ([(20, some 3), (24, some 7)], none), ([(25, some 8)], none)] 27 rfl (by kernel_rfl) rfl (by kernel_rfl) (by kernel_rfl) rfl NewT.trans (NewT.drew _) (Nat.le_of_ble_eq_true rfl) ⟨?_, ?_, ?_, ?_, ?_, ?_, ?_, ?_, ?_, ?_, trivial⟩ ?_
    · intro a wx hT hF K hK
      obtain ⟨f0, _⟩ := hF
      have f0 : a.tmps.getD 0 undef = v := f0
      refine rely_wp rfl ?_
      exact opr_move (.inl rfl) (hK _ _ (NewT.refl _) f0)
    · intro a wx hT hF K hK
      obtain ⟨f3, _⟩ := hF
      have f3 : a.tmps.getD 3 undef = .int .i64 ((k : Int)) := f3
      refine rely_wp rfl ?_
      exact opr_move (.inl rfl) (hK _ _ (NewT.refl _) f3)
    · intro a wx hT hF K hK
      obtain ⟨f17, f18, _⟩ := hF
      have f17 : a.tmps.getD 17 undef = v := f17
      have f18 : a.tmps.getD 18 undef = .int .i64 ((k : Int)) := f18
      refine rely_wp rfl ?_
      exact opr_toH (k := k) (by omega) (rfl) rfl (by rw [eval_tmp, f17]; exact (hT.hs HL.out)) f18 (fun v hv => hK v _ (NewT.refl _) hv)
    · intro a wx hT hF K hK
      obtain ⟨f19, _⟩ := hF
      replace f19 := show (svH (List.take k l)).pred (a.tmps.getD 19 undef) wx from f19
      refine rely_wp rfl ?_
      exact opr_cv (ih _ (List.take k l) wx (hT.tables HT.out) f19 (by rw [List.length_take]; omega)) rfl Tryd.func32 (by kernel_rfl) (by kernel_rfl) (by simp only [List.map_toArray, List.map_cons, List.map_nil, eval_tmp]) hK
    · intro a wx hT hF K hK
      obtain ⟨f0, _⟩ := hF
      have f0 : a.tmps.getD 0 undef = v := f0
      refine rely_wp rfl ?_
      exact opr_move (.inl rfl) (hK _ _ (NewT.refl _) f0)
    · intro a wx hT hF K hK
      obtain ⟨f3, _⟩ := hF
      have f3 : a.tmps.getD 3 undef = .int .i64 ((k : Int)) := f3
      refine rely_wp rfl ?_
      exact opr_move (.inl rfl) (hK _ _ (NewT.refl _) f3)
    · intro a wx hT hF K hK
      obtain ⟨f21, f22, _⟩ := hF
      have f21 : a.tmps.getD 21 undef = v := f21
      have f22 : a.tmps.getD 22 undef = .int .i64 ((k : Int)) := f22
      refine rely_wp rfl ?_
      exact opr_fromH (k := k) (by omega) (rfl) rfl (by rw [eval_tmp, f21]; exact (hT.hs HL.out)) f22 (fun v hv => hK v _ (NewT.refl _) hv)
    · intro a wx hT hF K hK
      obtain ⟨f23, _⟩ := hF
      replace f23 := show (svH (List.drop k l)).pred (a.tmps.getD 23 undef) wx from f23
      refine rely_wp rfl ?_
      exact opr_cv (ih _ (List.drop k l) wx (hT.tables HT.out) f23 (by rw [List.length_drop]; omega)) rfl Tryd.func32 (by kernel_rfl) (by kernel_rfl) (by simp only [List.map_toArray, List.map_cons, List.map_nil, eval_tmp]) hK
    · intro a wx hT hF K hK
      obtain ⟨f20, f24, _⟩ := hF
      have f20 : a.tmps.getD 20 undef = .agg (rowA 32 (bF (rootM node z (List.take k l)))) := f20
      have f24 : a.tmps.getD 24 undef = .agg (rowA 32 (bF (rootM node z (List.drop k l)))) := f24
      refine rely_wp rfl ?_
      exact opr_cv (RPair_cv (rootM node z (List.take k l)) (rootM node z (List.drop k l)) wx) rfl Tryd.func29 (by kernel_rfl) (by kernel_rfl) (by simp only [List.map_toArray, List.map_cons, List.map_nil, eval_tmp, f20, f24]) hK
    · intro a wx hT hF K hK
      obtain ⟨f25, _⟩ := hF
      replace f25 := show (svRd ((1 :: digL (rootM node z (List.take k l))) ++ digL (rootM node z (List.drop k l)))).pred (a.tmps.getD 25 undef) wx from f25
      refine rely_wp rfl ?_
      exact opr_cv (RSumB_cv _ ((1 :: digL (rootM node z (List.take k l))) ++ digL (rootM node z (List.drop k l))) (node (rootM node z (List.take k l)) (rootM node z (List.drop k l))) wx (hT.tables HT.out) f25 (by simp [digL_length]) (by simpa using hX.node (rootM node z (List.take k l)) (rootM node z (List.drop k l)))) rfl Tryd.func35 (by kernel_rfl) (by kernel_rfl) (by simp only [List.map_toArray, List.map_cons, List.map_nil, eval_tmp]) hK
    · intro wx hT
      intro u h; obtain rfl := Eq.symm (h (by simp)); clear h
      intro u h; obtain rfl := Eq.symm (h (by simp)); clear h
      intro _ _
      intro u h; obtain rfl := Eq.symm (h (by simp)); clear h
      intro u h; obtain rfl := Eq.symm (h (by simp)); clear h
      intro u h; obtain rfl := Eq.symm (h (by simp)); clear h
      intro _ _
      intro u h; obtain rfl := Eq.symm (h (by simp)); clear h
      intro _ _
      intro u h; obtain rfl := Eq.symm (h (by simp)); clear h
      refine relyEnd_nil rfl ?_
      simp only [Act.put, List.setIfInBounds_toArray, List.set_cons_zero, List.set_cons_succ]
      refine opr_store_new (B := w.heap.size) (W := w) info31 rfl rfl rfl (hT.row R0.out) (NewT.trans _ _ _ HN.out hT) (Nat.le_refl _) ?_
      intro w9 hB9 r9
      go_simp
      go_wp2
      exact bodyPost_ret (results_row rfl _ rfl r9 Tryd.underlying30 info31) rfl ⟨_, rfl, hB9, rfl⟩
theorem RRoot_cv {node : Hs → Hs → Hs} {z : Hs} (hX : TreeH node z) : ∀ (n : Nat) (v : Value) (l : List Hs) (w : World), Tables w → RdH w v l → l.length ≤ n → n ≤ 1000000 → Cv 32 #[v] w (.eq (.agg (rowA 32 (bF (rootM node z l))))) := by
  intro n
  induction n with
  | zero =>
    intro v l w hT hl hn _
    obtain rfl : l = [] := List.eq_nil_of_length_eq_zero (by omega)
    obtain ⟨A, c, rfl⟩ := rdH_form hl
    rw [rootM_nil]; exact RRoot_0 hX A c w hT
  | succ n ih =>
    intro v l w hT hl hn hb
    match l, hl, hn with
    | [], hl, _ => obtain ⟨A, c, rfl⟩ := rdH_form hl
                   rw [rootM_nil]; exact RRoot_0 hX A c w hT
    | [d], hl, _ => rw [rootM_one]; exact RRoot_1 hX v d w hT hl
    | d :: e :: l, hl, hn =>
      have h2 : 2 ≤ (d :: e :: l).length := by simp
      generalize d :: e :: l = m at hl hn h2 ⊢
      obtain ⟨s1, s2, _⟩ := splitN_lt m.length h2
      rw [rootM_split node z m h2]
      refine RRoot_2 hX v m _ w hT hl h2 s1 s2 (fun w => ?_) (fun v m' w hT' hl' hm => ih v m' w hT' hl' (by omega) (by omega))
      exact RSplit_cv (m.length : Int) (by omega) w
end Go.Proofs.YtlnedphnphabkaaDoor
/- The document's answers for layer 7: the root of leaves; is it a clash? -/
namespace Go.Proofs.YtlnedphnphabkaaDoor
open Go Go.RowKit
set_option maxRecDepth 8000
set_option linter.all false
theorem RLeafK {node : Hs → Hs → Hs} {z : Hs} {lf : List UInt8 → Hs} {sm : Tx → Tx} (hC : ClashH node z lf sm) (v : Value) (l : List UInt8) (w : World) (hT : Tables w) (hl : RdV w [] v l) (hn : l.length ≤ 10000) : Cv 31 #[v] w (.eq (.agg (rowA 32 (bF (lf l))))) :=
  RLeaf_cv v l (lf l) w hT hl hn (hC.leaf l)
set_option maxHeartbeats 2000000 in
theorem RRoot7_cv {node : Hs → Hs → Hs} {z : Hs} {lf : List UInt8 → Hs} {sm : Tx → Tx} (hC : ClashH node z lf sm) (v : Value) (x : List Tx) (w : World) (hT : Tables w) (hl : Parts w v x) (hf : Fine x) : Cv 15 #[v] w (.eq (.agg (rowA 32 (bF (rootM node z (List.map lf x)))))) := by
  unfold Cv
  have hX : TreeH node z := hC.tree
  have HFx := Lib.hid hf
  have HT := Lib.hid hT
  have HA0 := Lib.hid hl
  obtain ⟨A, c, e, _⟩ := parts_form hl
  subst e
  clear hT hl hf
  go_enter Tryd.func15, Tryd.ntmps15
  go_upto_region 1 with fail
  have r0 := rowIs_box w 30 32 (bF fun _ => 0)
  have hN := NewT.alloc w (.cells (rowA 32 (bF fun _ => 0)) 30)
  change Code.wp _ _ _ _ (w.alloc (.cells (rowA 32 (bF fun _ => 0)) 30))
  generalize w.alloc (.cells (rowA 32 (bF fun _ => 0)) 30) = W0 at r0 hN ⊢
  have R0 := Lib.hid r0
  have HN0 := Lib.hid hN
  replace HT := Lib.hid (hN.tables HT.out)
  replace HA0 := Lib.hid (hN.partsL HA0.out)
  clear r0 hN
  go_wp2
  go_loopw [3, 4] (fun v i wr => ∃ k : Nat, k ≤ x.length ∧ i = .int .i64 (k : Int) ∧ Hid (OwnH wr W0.heap.size v (List.take k (List.map lf x))) ∧ NewT W0 wr) (fun _ i _ => x.length - (intOf i).toNat)
  case atStart => exact ⟨0, by omega, rfl, Lib.hid (by rw [List.take_zero]; exact ownH_nil _ _), NewT.refl _⟩
  case round =>
    obtain ⟨k, hk, rfl, HO, hN⟩ := hrel
    have HN := Lib.hid hN
    clear hN
    by_cases hlt : k < x.length
    · have HA := Lib.hid (HN.out.partsL HA0.out)
      have it : (k : Int) < (x.length : Int) := by omega
      have hxl : x.length ≤ 1000 := HFx.out.len
      obtain ⟨s, hx⟩ : ∃ d, x[k]? = some d := ⟨_, List.getElem?_eq_getElem (by omega)⟩
      have HX := Lib.hid hx
      have HX2 := Lib.hid (HFx.out.each s (List.mem_of_getElem? hx))
      clear hx
      go_upto_region 5 with fail
      obtain ⟨va, ea⟩ : ∃ v, Value.slice A x.length c = v := ⟨_, rfl⟩
      rw [ea] at HA ⊢
      obtain ⟨v9, e9⟩ : ∃ v, u3 = v := ⟨_, rfl⟩
      rw [e9] at HO ⊢
      clear e9
      refine wp_region_steps0 NewT [SV.eq (v9), SV.eq (va), SV.eq (.int .i64 ((k : Int))), svPT (s), svRd (s), SV.eq (.agg (rowA 32 (bF (lf (s))))), svH ([lf (s)])] [([(3, none)], none), ([(0, none)], none), ([(4, none)], none), ([(12, some 1), (13, some 2)], none), ([(14, some 3)], none), ([(15, some 4)], none), ([(16, some 5)], none)] 21 7 rfl rfl (by kernel_rfl) NewT.trans (NewT.refl _) (Nat.le_of_ble_eq_true rfl) ⟨?_, ?_, ?_, ?_, ?_, ?_, ?_, trivial⟩ ?_
      · intro a wx hT hF K hK
        obtain ⟨f3, _⟩ := hF
        have f3 : a.tmps.getD 3 undef = v9 := f3
        refine rely_wp rfl ?_
        exact opr_move (.inl rfl) (hK _ _ (NewT.refl _) f3)
      · intro a wx hT hF K hK
        obtain ⟨f0, _⟩ := hF
        have f0 : a.tmps.getD 0 undef = va := f0
        refine rely_wp rfl ?_
        exact opr_move (.inl rfl) (hK _ _ (NewT.refl _) f0)
      · intro a wx hT hF K hK
        obtain ⟨f4, _⟩ := hF
        have f4 : a.tmps.getD 4 undef = .int .i64 ((k : Int)) := f4
        refine rely_wp rfl ?_
        exact opr_move (.inl rfl) (hK _ _ (NewT.refl _) f4)
      · intro a wx hT hF K hK
        obtain ⟨f12, f13, _⟩ := hF
        have f12 : a.tmps.getD 12 undef = va := f12
        have f13 : a.tmps.getD 13 undef = .int .i64 ((k : Int)) := f13
        refine rely_wp rfl ?_
        exact opr_idxT (i := k) (l := s) (HX.out) (rfl) rfl (by rw [eval_tmp, f12]; exact (hT.partsL HA.out)) f13 (fun v hv => hK v _ (NewT.refl _) hv)
      · intro a wx hT hF K hK
        obtain ⟨f14, _⟩ := hF
        replace f14 := show (svPT (s)).pred (a.tmps.getD 14 undef) wx from f14
        refine rely_wp rfl ?_
        exact opr_ldT rfl f14 (fun u hu => hK u _ (NewT.refl _) hu)
      · intro a wx hT hF K hK
        obtain ⟨f15, _⟩ := hF
        replace f15 := show (svRd (s)).pred (a.tmps.getD 15 undef) wx from f15
        refine rely_wp rfl ?_
        exact opr_cv (RLeafK hC _ s wx ((NewT.trans _ _ _ HN.out hT).tables HT.out) f15 HX2.out) rfl Tryd.func31 (by kernel_rfl) (by kernel_rfl) (by simp only [List.map_toArray, List.map_cons, List.map_nil, eval_tmp]) hK
      · intro a wx hT hF K hK
        obtain ⟨f16, _⟩ := hF
        have f16 : a.tmps.getD 16 undef = .agg (rowA 32 (bF (lf (s)))) := f16
        refine rely_wp rfl ?_
        exact opr_bsH1 rfl f16 hK
      · intro wl kl
        intro u h; obtain rfl := Eq.symm (h (by simp)); clear h
        intro u h; obtain rfl := Eq.symm (h (by simp)); clear h
        intro u h; obtain rfl := Eq.symm (h (by simp)); clear h
        intro _ _
        intro _ _
        intro u h; obtain rfl := Eq.symm (h (by simp)); clear h
        intro u17 h; have g17 := h (by simp); clear h; replace g17 := show (svH ([lf (s)])).pred u17 wl from g17
        refine relyEnd_nil rfl ?_
        simp only [Act.put, List.setIfInBounds_toArray, List.set_cons_zero, List.set_cons_succ]
        refine wpList_plain rfl (fun K hK => ?_)
        have hO := HO.out.new kl
        obtain ⟨v', w', hrun, h2, h3⟩ := run_appH hO g17 (by rw [List.length_take, List.length_map]; have := HFx.out.len; simp; omega) (Nat.le_trans HN.out.out.size kl.out.size) 33
        refine opr_append rfl rfl rfl hrun (hK _ _ ?_)
        clear hK K
        simp only [Act.put, List.setIfInBounds_toArray, List.set_cons_zero, List.set_cons_succ]
        refine wpList_plain rfl (fun K hK => ?_)
        refine opr_move (.inr rfl) (hK _ _ ?_)
        refine wpList_end rfl ?_
        simp only [Act.put, List.setIfInBounds_toArray, List.set_cons_zero, List.set_cons_succ]
        go_simp
        have hend := app_below (NewT.trans _ _ _ HN.out kl) rfl hO h3
        rw [show List.take k (List.map lf x) ++ [lf s] = List.take (k + 1) (List.map lf x) from by rw [List.take_add_one, map_at_k HX.out]; rfl] at h2
        have HO2 := Lib.hid h2
        have HN2 := Lib.hid hend
        clear h2 h3 hend hO kl hrun HO HN HA
        subst ea
        go_wp2
        go_roundw
        case rel => exact ⟨k + 1, by omega, by go_num, HO2, HN2.out⟩
        case measure => simp [intOf]; omega
    · obtain rfl : k = x.length := by omega
      have hO9 := HO.out
      rw [List.take_of_length_le (by rw [List.length_map]; exact Nat.le_refl _)] at hO9
      have HO9 := Lib.hid hO9.rd
      clear hO9 HO
      go_upto_region 6 with fail
      refine wp_region_steps0 NewT [SV.eq (u3), SV.eq (.agg (rowA 32 (bF (rootM node z (List.map lf x)))))] [([(3, none)], none), ([(19, some 0)], none)] 21 2 rfl rfl (by kernel_rfl) NewT.trans (NewT.refl _) (Nat.le_of_ble_eq_true rfl) ⟨?_, ?_, trivial⟩ ?_
      · intro a wx hT hF K hK
        obtain ⟨f3, _⟩ := hF
        have f3 : a.tmps.getD 3 undef = u3 := f3
        refine rely_wp rfl ?_
        exact opr_move (.inl rfl) (hK _ _ (NewT.refl _) f3)
      · intro a wx hT hF K hK
        obtain ⟨f19, _⟩ := hF
        have f19 : a.tmps.getD 19 undef = u3 := f19
        refine rely_wp rfl ?_
        exact opr_cv (RRoot_cv hX _ _ (List.map lf x) wx ((NewT.trans _ _ _ HN.out hT).tables HT.out) ((hT.hs HO9.out)) (Nat.le_refl _) (by rw [List.length_map]; have := HFx.out.len; omega)) rfl Tryd.func32 (by kernel_rfl) (by kernel_rfl) (by simp only [List.map_toArray, List.map_cons, List.map_nil, eval_tmp, f19]) hK
      · intro wz kz
        intro u h; obtain rfl := Eq.symm (h (by simp)); clear h
        intro u h; obtain rfl := Eq.symm (h (by simp)); clear h
        refine relyEnd_nil rfl ?_
        simp only [Act.put, List.setIfInBounds_toArray, List.set_cons_zero, List.set_cons_succ]
        refine wpList_plain rfl (fun K hK => ?_)
        refine opr_store_new (B := w.heap.size) (W := w) info31 rfl rfl rfl (kz.row (HN.out.row R0.out)) (NewT.trans _ _ _ HN0.out (NewT.trans _ _ _ HN.out kz)).out (Nat.le_refl _) ?_
        intro w9 hB9 r9
        refine hK _ _ ?_
        refine wpList_end rfl ?_
        simp only [Act.put]
        go_simp
        go_wp2
        exact bodyPost_ret (results_row rfl _ rfl r9 Tryd.underlying30 info31) rfl ⟨_, rfl, hB9, rfl⟩
set_option maxHeartbeats 1000000 in
theorem RIs7_cv {node : Hs → Hs → Hs} {z : Hs} {lf : List UInt8 → Hs} {sm : Tx → Tx} (hC : ClashH node z lf sm) (v u : Value) (x y : Tx) (w : World) (hT : Tables w) (ha : RdV w [] v x) (hb : RdV w [] u y) (hx : x.length ≤ 900000) (hy : y.length ≤ 900000) : Cv 17 #[v, u] w (.eq (.bool (isB sm x y))) := by
  unfold Cv
  obtain ⟨dx, hdx⟩ := hid_ex (shaL Kc Fc x)
  obtain ⟨dy, hdy⟩ := hid_ex (shaL Kc Fc y)
  have Hdx := hdx
  have Hdy := hdy
  have HdxN := Lib.hid hx
  have HdyN := Lib.hid hy
  have HE : Hid (eqH dx dy = decide (sm x = sm y)) := Lib.hid (by
    rw [← hC.sum x, ← hC.sum y, hdx.out, hdy.out]
    by_cases e : eqH dx dy = true
    · rw [e, decide_eq_true ((eqH_dig _ _).1 e)]
    · rw [decide_eq_false (fun e' => e ((eqH_dig _ _).2 e'))]
      exact Bool.eq_false_iff.2 e)
  clear hdx hdy
  have HT := Lib.hid hT
  have HA := Lib.hid ha
  have HB := Lib.hid hb
  clear hT ha hb hx hy
  go_enter Tryd.func17, Tryd.ntmps17
  go_upto_region 1 with fail
  obtain ⟨q1_1, Q1_1⟩ : ∃ bq_, ((!(decide (x = y))) && (eqH (dx) (dy))) = bq_ := ⟨_, rfl⟩
  refine wp_region_steps0 NewT [SV.eq (v), SV.eq (u), SV.eq (.bool (decide (x = y))), SV.eq (.bool (!(decide (x = y)))), SV.eq (.bool (!(decide (x = y)))), svIf (!(decide (x = y))) (svRd (x)), svIf (!(decide (x = y))) (SV.eq (.agg (rowA 32 (bF (dx))))), svIf (!(decide (x = y))) (svRd (y)), svIf (!(decide (x = y))) (SV.eq (.agg (rowA 32 (bF (dy))))), svIf (!(decide (x = y))) (SV.eq (.bool (eqH (dx) (dy)))), SV.eq (.bool (q1_1)), SV.eq (.bool (q1_1))] [([(0, none)], none), ([(1, none)], none), ([(5, some 0), (6, some 1)], none), ([(7, some 2)], none), ([(8, some 3)], none), ([(0, none), (9, some 4)], some (9, true)), ([(10, some 5), (9, some 4)], some (9, true)), ([(1, none), (9, some 4)], some (9, true)), ([(12, some 7), (9, some 4)], some (9, true)), ([(11, some 6), (13, some 8), (9, some 4)], some (9, true)), ([(9, some 4), (14, some 9)], none), ([(15, some 10)], none)] 16 12 rfl rfl (by kernel_rfl) NewT.trans (NewT.refl _) (Nat.le_of_ble_eq_true rfl) ⟨?_, ?_, ?_, ?_, ?_, ?_, ?_, ?_, ?_, ?_, ?_, ?_, trivial⟩ ?_
  · intro a wx hT hF K hK
    obtain ⟨f0, _⟩ := hF
    have f0 : a.tmps.getD 0 undef = v := f0
    refine rely_wp rfl ?_
    exact opr_move (.inl rfl) (hK _ _ (NewT.refl _) f0)
  · intro a wx hT hF K hK
    obtain ⟨f1, _⟩ := hF
    have f1 : a.tmps.getD 1 undef = u := f1
    refine rely_wp rfl ?_
    exact opr_move (.inl rfl) (hK _ _ (NewT.refl _) f1)
  · intro a wx hT hF K hK
    obtain ⟨f5, f6, _⟩ := hF
    have f5 : a.tmps.getD 5 undef = v := f5
    have f6 : a.tmps.getD 6 undef = u := f6
    refine rely_wp rfl ?_
    exact opr_cv (Bytes_cv _ _ x y wx (hT.rd HA.out) (hT.rd HB.out) (by have := HdxN.out; omega) (by have := HdyN.out; omega)) rfl Tryd.func13 (by kernel_rfl) (by kernel_rfl) (by simp only [List.map_toArray, List.map_cons, List.map_nil, eval_tmp, f5, f6]) hK
  · intro a wx hT hF K hK
    obtain ⟨f7, _⟩ := hF
    have f7 : a.tmps.getD 7 undef = .bool (decide (x = y)) := f7
    refine rely_wp rfl ?_
    exact opr_not rfl f7 (hK _ _ (NewT.refl _) rfl)
  · intro a wx hT hF K hK
    obtain ⟨f8, _⟩ := hF
    have f8 : a.tmps.getD 8 undef = .bool (!(decide (x = y))) := f8
    refine rely_wp rfl ?_
    exact opr_move (.inl rfl) (hK _ _ (NewT.refl _) f8)
  · intro a wx hT hF K hK
    obtain ⟨f0, f9, _⟩ := hF
    have f0 : a.tmps.getD 0 undef = v := f0
    have f9 : a.tmps.getD 9 undef = .bool (!(decide (x = y))) := f9
    refine rely_if (rely_gt f9) (NewT.refl _) hK (fun hE hK => ?_)
    exact opr_move (.inl rfl) (hK _ _ (NewT.refl _) (by rw [eval_tmp, f0]; exact hT.rd HA.out))
  · intro a wx hT hF K hK
    obtain ⟨f10, f9, _⟩ := hF
    replace f10 := show (!(decide (x = y))) = true → (svRd (x)).pred (a.tmps.getD 10 undef) wx from f10
    have f9 : a.tmps.getD 9 undef = .bool (!(decide (x = y))) := f9
    refine rely_if (rely_gt f9) (NewT.refl _) hK (fun hE hK => ?_)
    exact opr_cv (RSumB_cv _ x dx wx (hT.tables HT.out) (f10 hE) (by have := HdxN.out; omega) Hdx.out) rfl Tryd.func35 (by kernel_rfl) (by kernel_rfl) (by simp only [List.map_toArray, List.map_cons, List.map_nil, eval_tmp]) hK
  · intro a wx hT hF K hK
    obtain ⟨f1, f9, _⟩ := hF
    have f1 : a.tmps.getD 1 undef = u := f1
    have f9 : a.tmps.getD 9 undef = .bool (!(decide (x = y))) := f9
    refine rely_if (rely_gt f9) (NewT.refl _) hK (fun hE hK => ?_)
    exact opr_move (.inl rfl) (hK _ _ (NewT.refl _) (by rw [eval_tmp, f1]; exact hT.rd HB.out))
  · intro a wx hT hF K hK
    obtain ⟨f12, f9, _⟩ := hF
    replace f12 := show (!(decide (x = y))) = true → (svRd (y)).pred (a.tmps.getD 12 undef) wx from f12
    have f9 : a.tmps.getD 9 undef = .bool (!(decide (x = y))) := f9
    refine rely_if (rely_gt f9) (NewT.refl _) hK (fun hE hK => ?_)
    exact opr_cv (RSumB_cv _ y dy wx (hT.tables HT.out) (f12 hE) (by have := HdyN.out; omega) Hdy.out) rfl Tryd.func35 (by kernel_rfl) (by kernel_rfl) (by simp only [List.map_toArray, List.map_cons, List.map_nil, eval_tmp]) hK
  · intro a wx hT hF K hK
    obtain ⟨f11, f13, f9, _⟩ := hF
    have f11 : (!(decide (x = y))) = true → a.tmps.getD 11 undef = .agg (rowA 32 (bF (dx))) := f11
    have f13 : (!(decide (x = y))) = true → a.tmps.getD 13 undef = .agg (rowA 32 (bF (dy))) := f13
    have f9 : a.tmps.getD 9 undef = .bool (!(decide (x = y))) := f9
    refine rely_if (rely_gt f9) (NewT.refl _) hK (fun hE hK => ?_)
    exact opr_eql_hash (b := eqH (dx) (dy)) rfl (f11 hE) (f13 hE) (rfl) (hK _ _ (NewT.refl _) rfl)
  · intro a wx hT hF K hK
    obtain ⟨f9, f14, _⟩ := hF
    have f9 : a.tmps.getD 9 undef = .bool (!(decide (x = y))) := f9
    have f14 : (!(decide (x = y))) = true → a.tmps.getD 14 undef = .bool (eqH (dx) (dy)) := f14
    refine rely_wp rfl ?_
    exact opr_pick_b rfl f9 (fun hb => hK _ _ (NewT.refl _) (pn_and1 Q1_1 (f14 hb) hb)) (fun hb => hK _ _ (NewT.refl _) (pn_and0 Q1_1 hb))
  · intro a wx hT hF K hK
    obtain ⟨f15, _⟩ := hF
    have f15 : a.tmps.getD 15 undef = .bool (q1_1) := f15
    refine rely_wp rfl ?_
    exact opr_move (.inr rfl) (hK _ _ (NewT.refl _) f15)
  · intro wa ka
    intro u h; obtain rfl := Eq.symm (h (by simp)); clear h
    intro u h; obtain rfl := Eq.symm (h (by simp)); clear h
    intro u h; obtain rfl := Eq.symm (h (by simp)); clear h
    intro u h; obtain rfl := Eq.symm (h (by simp)); clear h
    intro u h; obtain rfl := Eq.symm (h (by simp)); clear h
    intro _ _
    intro _ _
    intro _ _
    intro _ _
    intro _ _
    intro u h; obtain rfl := Eq.symm (h (by simp)); clear h
    intro u h; obtain rfl := Eq.symm (h (by simp)); clear h
    subst Q1_1
    refine relyEnd_nil rfl ?_
    refine wpList_end rfl ?_
    simp only [Act.put, List.setIfInBounds_toArray, List.set_cons_zero, List.set_cons_succ]
    go_simp
    go_wp2
    go_ret
    exact ⟨_, rfl, ka, by unfold isB; rw [← HE.out]; rfl⟩
end Go.Proofs.YtlnedphnphabkaaDoor
/- The law ClashNone, walked: a list has no clash with itself, no text with itself, and Is goes both ways. -/
namespace Go.Proofs.YtlnedphnphabkaaDoor
open Go Go.RowKit
set_option maxRecDepth 8000
set_option linter.all false
theorem opr_quo2 {a : Act} {w : World} {o : Oper} {K : Act → World → Prop} {Q : Exit → Act → World → Prop} {x : Operand} {t t2 : TypeId} {m : Nat} (ht : Tryd.prog.underlying t = some (.int .i64)) (hm : m ≤ 9223372036854775807) (ho : o.op = .binOp .quo t x (.const (.int .i64 2)) t2) (hx : a.eval x = .int .i64 (m : Int)) (h : K (a.put o.dst (.int .i64 ((m / 2 : Nat) : Int))) w) : o.wp Tryd.prog a w K Q := by
  obtain ⟨dst, op', type, pos, after, guard⟩ := o
  simp only at ho
  subst ho
  refine opr_val (s := do eqGuard .quo t x (.const (.int .i64 2)) (a.eval x) (.int .i64 2); binOp .quo t (a.eval x) (.int .i64 2)) rfl ?_ h
  rw [hx]
  have e : (m : Int).tdiv 2 = ((m / 2 : Nat) : Int) := by rw [Int.tdiv_eq_ediv_of_nonneg (by omega)]; omega
  simp [go_sem, e]
  rw [IntKind.wrap_i64]; omega
set_option maxHeartbeats 4000000 in
theorem ClashNone_walk (va vx vy : Value) (x : List Tx) (s t : Tx) (w : World) (hT : Tables w) (ha : Parts w va x) (hs : RdV w [] vx s) (ht : RdV w [] vy t) : Calls Tryd.prog 7 #[va, vx, vy] w fun e w' => e = .returned (.bool true) ∧ Below w.heap.size w w' := by
  obtain ⟨node, z, lf, sm, hC⟩ := clash_ex
  have HT := Lib.hid hT
  have HA := Lib.hid ha
  have HS := Lib.hid hs
  have HTT := Lib.hid ht
  have HN := Lib.hid (NewT.refl w)
  have HI0 : Hid (isB sm s s = false) := Lib.hid (by unfold isB; simp)
  have HI1 : Hid (isB sm s t = isB sm t s) := Lib.hid (by
    cases h : isB sm s t
    · cases h2 : isB sm t s
      · rfl
      · have h3 := (isB_iff _ _ _).1 h2
        rw [(isB_iff sm s t).2 ⟨Ne.symm h3.1, h3.2.symm⟩] at h; cases h
    · have h3 := (isB_iff _ _ _).1 h
      rw [(isB_iff sm t s).2 ⟨Ne.symm h3.1, h3.2.symm⟩])
  clear hT ha hs ht
  go_enter Tryd.func7, Tryd.ntmps7
  go_upto_region 3 with (go_at_call 9; refine (alive7_any _ HT.out).mono ?_; rintro _ w1 ⟨rfl, hA1⟩)
  have hn1 := NewT.of hA1
  replace HA := Lib.hid (hn1.partsL HA.out)
  replace HS := Lib.hid (hn1.rd HS.out)
  replace HTT := Lib.hid (hn1.rd HTT.out)
  replace HT := Lib.hid (hn1.tables HT.out)
  replace HN := Lib.hid (NewT.trans _ _ _ HN.out hn1)
  clear hn1
  clear hA1
  obtain ⟨q1_3, Q1_3⟩ : ∃ bq_, ((greatB x) || (decide (300 < ((List.length (s) : Int))))) = bq_ := ⟨_, rfl⟩
  obtain ⟨q2_3, Q2_3⟩ : ∃ bq_, (q1_3 || (decide (300 < ((List.length (t) : Int))))) = bq_ := ⟨_, rfl⟩
  refine wp_region_steps0 NewT [SV.eq (va), SV.eq (.bool (greatB x)), SV.eq (.bool (greatB x)), svIf ((!(greatB x))) (SV.eq (vx)), svIf ((!(greatB x))) (SV.eq (.int .i64 ((List.length (s) : Int)))), svIf ((!(greatB x))) (SV.eq (.bool (decide (300 < ((List.length (s) : Int)))))), SV.eq (.bool (q1_3)), SV.eq (.bool (q1_3)), svIf ((!q1_3)) (SV.eq (vy)), svIf ((!q1_3)) (SV.eq (.int .i64 ((List.length (t) : Int)))), svIf ((!q1_3)) (SV.eq (.bool (decide (300 < ((List.length (t) : Int)))))), SV.eq (.bool (q2_3))] [([(0, none)], none), ([(12, some 0)], none), ([(13, some 1)], none), ([(1, none), (14, some 2)], some (14, false)), ([(15, some 3), (14, some 2)], some (14, false)), ([(16, some 4), (14, some 2)], some (14, false)), ([(14, some 2), (17, some 5)], none), ([(18, some 6)], none), ([(2, none), (19, some 7)], some (19, false)), ([(20, some 8), (19, some 7)], some (19, false)), ([(21, some 9), (19, some 7)], some (19, false)), ([(19, some 7), (22, some 10)], none)] 63 12 rfl rfl (by kernel_rfl) NewT.trans (NewT.refl _) (Nat.le_of_ble_eq_true rfl) ⟨?_, ?_, ?_, ?_, ?_, ?_, ?_, ?_, ?_, ?_, ?_, ?_, trivial⟩ ?_
  · intro a wx hT hF K hK
    obtain ⟨f0, _⟩ := hF
    have f0 : a.tmps.getD 0 undef = va := f0
    refine rely_wp rfl ?_
    exact opr_move (.inl rfl) (hK _ _ (NewT.refl _) f0)
  · intro a wx hT hF K hK
    obtain ⟨f12, _⟩ := hF
    have f12 : a.tmps.getD 12 undef = va := f12
    refine rely_wp rfl ?_
    exact opr_cv (great_cv _ x wx (hT.partsL HA.out)) rfl Tryd.func10 (by kernel_rfl) (by kernel_rfl) (by simp only [List.map_toArray, List.map_cons, List.map_nil, eval_tmp, f12]) hK
  · intro a wx hT hF K hK
    obtain ⟨f13, _⟩ := hF
    have f13 : a.tmps.getD 13 undef = .bool (greatB x) := f13
    refine rely_wp rfl ?_
    exact opr_move (.inl rfl) (hK _ _ (NewT.refl _) f13)
  · intro a wx hT hF K hK
    obtain ⟨f1, f14, _⟩ := hF
    have f1 : a.tmps.getD 1 undef = vx := f1
    have f14 : a.tmps.getD 14 undef = .bool (greatB x) := f14
    refine rely_if (rely_gf f14) (NewT.refl _) hK (fun hE hK => ?_)
    exact opr_move (.inl rfl) (hK _ _ (NewT.refl _) f1)
  · intro a wx hT hF K hK
    obtain ⟨f15, f14, _⟩ := hF
    have f15 : ((!(greatB x))) = true → a.tmps.getD 15 undef = vx := f15
    have f14 : a.tmps.getD 14 undef = .bool (greatB x) := f14
    refine rely_if (rely_gf f14) (NewT.refl _) hK (fun hE hK => ?_)
    exact opr_len_rd rfl (by rw [eval_tmp, (f15 hE)]; exact (hT.rd HS.out)) (hK _ _ (NewT.refl _) rfl)
  · intro a wx hT hF K hK
    obtain ⟨f16, f14, _⟩ := hF
    have f16 : ((!(greatB x))) = true → a.tmps.getD 16 undef = .int .i64 ((List.length (s) : Int)) := f16
    have f14 : a.tmps.getD 14 undef = .bool (greatB x) := f14
    refine rely_if (rely_gf f14) (NewT.refl _) hK (fun hE hK => ?_)
    exact opr_cmp (b := decide (300 < ((List.length (s) : Int)))) (.inr (.inr (.inr (.inr (.inl ⟨rfl, rfl⟩))))) Tryd.underlying3 rfl (f16 hE) rfl (hK _ _ (NewT.refl _) rfl)
  · intro a wx hT hF K hK
    obtain ⟨f14, f17, _⟩ := hF
    have f14 : a.tmps.getD 14 undef = .bool (greatB x) := f14
    have f17 : ((!(greatB x))) = true → a.tmps.getD 17 undef = .bool (decide (300 < ((List.length (s) : Int)))) := f17
    refine rely_wp rfl ?_
    exact opr_pick_b rfl f14 (fun hb => hK _ _ (NewT.refl _) (pn_or1 Q1_3 hb)) (fun hb => hK _ _ (NewT.refl _) (pn_or0 Q1_3 (f17 (bnot hb)) hb))
  · intro a wx hT hF K hK
    obtain ⟨f18, _⟩ := hF
    have f18 : a.tmps.getD 18 undef = .bool (q1_3) := f18
    refine rely_wp rfl ?_
    exact opr_move (.inl rfl) (hK _ _ (NewT.refl _) f18)
  · intro a wx hT hF K hK
    obtain ⟨f2, f19, _⟩ := hF
    have f2 : a.tmps.getD 2 undef = vy := f2
    have f19 : a.tmps.getD 19 undef = .bool (q1_3) := f19
    refine rely_if (rely_gf f19) (NewT.refl _) hK (fun hE hK => ?_)
    exact opr_move (.inl rfl) (hK _ _ (NewT.refl _) f2)
  · intro a wx hT hF K hK
    obtain ⟨f20, f19, _⟩ := hF
    have f20 : ((!q1_3)) = true → a.tmps.getD 20 undef = vy := f20
    have f19 : a.tmps.getD 19 undef = .bool (q1_3) := f19
    refine rely_if (rely_gf f19) (NewT.refl _) hK (fun hE hK => ?_)
    exact opr_len_rd rfl (by rw [eval_tmp, (f20 hE)]; exact (hT.rd HTT.out)) (hK _ _ (NewT.refl _) rfl)
  · intro a wx hT hF K hK
    obtain ⟨f21, f19, _⟩ := hF
    have f21 : ((!q1_3)) = true → a.tmps.getD 21 undef = .int .i64 ((List.length (t) : Int)) := f21
    have f19 : a.tmps.getD 19 undef = .bool (q1_3) := f19
    refine rely_if (rely_gf f19) (NewT.refl _) hK (fun hE hK => ?_)
    exact opr_cmp (b := decide (300 < ((List.length (t) : Int)))) (.inr (.inr (.inr (.inr (.inl ⟨rfl, rfl⟩))))) Tryd.underlying3 rfl (f21 hE) rfl (hK _ _ (NewT.refl _) rfl)
  · intro a wx hT hF K hK
    obtain ⟨f19, f22, _⟩ := hF
    have f19 : a.tmps.getD 19 undef = .bool (q1_3) := f19
    have f22 : ((!q1_3)) = true → a.tmps.getD 22 undef = .bool (decide (300 < ((List.length (t) : Int)))) := f22
    refine rely_wp rfl ?_
    exact opr_pick_b rfl f19 (fun hb => hK _ _ (NewT.refl _) (pn_or1 Q2_3 hb)) (fun hb => hK _ _ (NewT.refl _) (pn_or0 Q2_3 (f22 (bnot hb)) hb))
  · intro w2 k2
    intro u h; obtain rfl := Eq.symm (h (by simp)); clear h
    intro u h; obtain rfl := Eq.symm (h (by simp)); clear h
    intro u h; obtain rfl := Eq.symm (h (by simp)); clear h
    intro _ _
    intro _ _
    intro _ _
    intro u h; obtain rfl := Eq.symm (h (by simp)); clear h
    intro u h; obtain rfl := Eq.symm (h (by simp)); clear h
    intro _ _
    intro _ _
    intro _ _
    intro u h; obtain rfl := Eq.symm (h (by simp)); clear h
    subst Q2_3 Q1_3
    refine relyEnd_nil rfl ?_
    refine wpList_end rfl ?_
    simp only [Act.put, List.setIfInBounds_toArray, List.set_cons_zero, List.set_cons_succ]
    go_simp
    replace HA := Lib.hid (k2.partsL HA.out)
    replace HS := Lib.hid (k2.rd HS.out)
    replace HTT := Lib.hid (k2.rd HTT.out)
    replace HT := Lib.hid (k2.tables HT.out)
    replace HN := Lib.hid (NewT.trans _ _ _ HN.out k2)
    clear k2
    obtain ⟨qq, hqq⟩ : ∃ q, ((((greatB x) || (decide (300 < ((List.length (s) : Int))))) || (decide (300 < ((List.length (t) : Int)))))) = q := ⟨_, rfl⟩
    rw [hqq]
    cases qq
    rotate_left
    · clear hqq
      go_wp2
      go_ret
      exact ⟨rfl, HN.out.out⟩
    · have hg : greatB x = false ∧ s.length ≤ 300 ∧ t.length ≤ 300 := by
        cases hgb : greatB x
        · rw [hgb] at hqq; simp at hqq; refine ⟨rfl, ?_, ?_⟩ <;> omega
        · rw [hgb] at hqq; simp at hqq
      have HFx := Lib.hid (great_Fine hg.1)
      have HSN := Lib.hid hg.2
      have HEX : Hid (∀ w, Tables w → ∀ va, Parts w va x → Cv 11 #[va, va] w (svT2 ([] : List UInt8) ([] : List UInt8) false)) := Lib.hid fun w hT va h1 => by
        have h := Extract_cv hC w hT va va x x h1 h1 HFx.out HFx.out
        rw [ext_none (.inr (.inl rfl))] at h; exact h
      clear hqq hg
      go_upto_region 5 with fail
      refine wp_region_steps0 NewT [SV.eq (va), SV.eq (va), svT2 (([] : List UInt8)) (([] : List UInt8)) false, svT2 (([] : List UInt8)) (([] : List UInt8)) false, svRd (([] : List UInt8)), svRd (([] : List UInt8)), SV.eq (.bool false), svRd (([] : List UInt8)), svRd (([] : List UInt8)), SV.eq (.bool false)] [([(0, none)], none), ([(0, none)], none), ([(25, some 0), (26, some 1)], none), ([(27, some 2)], none), ([(24, some 3)], none), ([(24, some 3)], none), ([(24, some 3)], none), ([(28, some 4)], none), ([(29, some 5)], none), ([(30, some 6)], none)] 63 10 rfl rfl (by kernel_rfl) NewT.trans (NewT.refl _) (Nat.le_of_ble_eq_true rfl) ⟨?_, ?_, ?_, ?_, ?_, ?_, ?_, ?_, ?_, ?_, trivial⟩ ?_
      · intro a wx hT hF K hK
        obtain ⟨f0, _⟩ := hF
        have f0 : a.tmps.getD 0 undef = va := f0
        refine rely_wp rfl ?_
        exact opr_move (.inl rfl) (hK _ _ (NewT.refl _) f0)
      · intro a wx hT hF K hK
        obtain ⟨f0, _⟩ := hF
        have f0 : a.tmps.getD 0 undef = va := f0
        refine rely_wp rfl ?_
        exact opr_move (.inl rfl) (hK _ _ (NewT.refl _) f0)
      · intro a wx hT hF K hK
        obtain ⟨f25, f26, _⟩ := hF
        have f25 : a.tmps.getD 25 undef = va := f25
        have f26 : a.tmps.getD 26 undef = va := f26
        refine rely_wp rfl ?_
        exact opr_cv (HEX.out wx (hT.tables HT.out) va (hT.partsL HA.out)) rfl Tryd.func11 (by kernel_rfl) (by kernel_rfl) (by simp only [List.map_toArray, List.map_cons, List.map_nil, eval_tmp, f25, f26]) hK
      · intro a wx hT hF K hK
        obtain ⟨f27, _⟩ := hF
        replace f27 := show (svT2 (([] : List UInt8)) (([] : List UInt8)) false).pred (a.tmps.getD 27 undef) wx from f27
        refine rely_wp rfl ?_
        exact opr_move (.inl rfl) (hK _ _ (NewT.refl _) f27)
      · intro a wx hT hF K hK
        obtain ⟨f24, _⟩ := hF
        replace f24 := show (svT2 (([] : List UInt8)) (([] : List UInt8)) false).pred (a.tmps.getD 24 undef) wx from f24
        refine rely_wp rfl ?_
        exact opr_extT0 rfl f24 (fun u hu => hK u _ (NewT.refl _) hu)
      · intro a wx hT hF K hK
        obtain ⟨f24, _⟩ := hF
        replace f24 := show (svT2 (([] : List UInt8)) (([] : List UInt8)) false).pred (a.tmps.getD 24 undef) wx from f24
        refine rely_wp rfl ?_
        exact opr_extT1 rfl f24 (fun u hu => hK u _ (NewT.refl _) hu)
      · intro a wx hT hF K hK
        obtain ⟨f24, _⟩ := hF
        replace f24 := show (svT2 (([] : List UInt8)) (([] : List UInt8)) false).pred (a.tmps.getD 24 undef) wx from f24
        refine rely_wp rfl ?_
        exact opr_extT2 rfl f24 (hK _ _ (NewT.refl _) rfl)
      · intro a wx hT hF K hK
        obtain ⟨f28, _⟩ := hF
        replace f28 := show (svRd (([] : List UInt8))).pred (a.tmps.getD 28 undef) wx from f28
        refine rely_wp rfl ?_
        exact opr_move (.inr rfl) (hK _ _ (NewT.refl _) f28)
      · intro a wx hT hF K hK
        obtain ⟨f29, _⟩ := hF
        replace f29 := show (svRd (([] : List UInt8))).pred (a.tmps.getD 29 undef) wx from f29
        refine rely_wp rfl ?_
        exact opr_move (.inr rfl) (hK _ _ (NewT.refl _) f29)
      · intro a wx hT hF K hK
        obtain ⟨f30, _⟩ := hF
        have f30 : a.tmps.getD 30 undef = .bool false := f30
        refine rely_wp rfl ?_
        exact opr_move (.inr rfl) (hK _ _ (NewT.refl _) f30)
      · intro w3 k3
        intro u h; obtain rfl := Eq.symm (h (by simp)); clear h
        intro u h; obtain rfl := Eq.symm (h (by simp)); clear h
        intro _ _
        intro _ _
        intro _ _
        intro _ _
        intro u h; obtain rfl := Eq.symm (h (by simp)); clear h
        intro _ _
        intro _ _
        intro u h; obtain rfl := Eq.symm (h (by simp)); clear h
        refine relyEnd_nil rfl ?_
        refine wpList_end rfl ?_
        simp only [Act.put, List.setIfInBounds_toArray, List.set_cons_zero, List.set_cons_succ]
        go_simp
        replace HA := Lib.hid (k3.partsL HA.out)
        replace HS := Lib.hid (k3.rd HS.out)
        replace HTT := Lib.hid (k3.rd HTT.out)
        replace HT := Lib.hid (k3.tables HT.out)
        replace HN := Lib.hid (NewT.trans _ _ _ HN.out k3)
        clear k3
        go_upto_region 6 with fail
        refine wp_region_rely (NewT) [SV.eq (.bool false), SV.eq (.bool true), SV.eq (.bool true), SV.eq (vx), SV.eq (vx), SV.eq (.bool false), SV.eq (.bool true), SV.eq (.bool true), SV.eq (.bool true), SV.eq (vx), SV.eq (vy), SV.eq (.bool (isB sm s t)), SV.eq (vy), SV.eq (vx), SV.eq (.bool (isB sm s t)), SV.eq (.bool true), SV.eq (.bool true), SV.eq (.bool true), SV.eq (va), SV.eq (va), SV.eq (.int .i64 ((List.length (x) : Int))), SV.eq (.int .i64 (((x.length / 2 : Nat) : Int))), svParts (List.take (x.length / 2) x), SV.eq (.agg (rowA 32 (bF (rootM node z (List.map lf (List.take (x.length / 2) x)))))), SV.eq (va), SV.eq (va), SV.eq (.int .i64 ((List.length (x) : Int))), SV.eq (.int .i64 (((x.length / 2 : Nat) : Int))), svParts (List.take (x.length / 2) x), SV.eq (.agg (rowA 32 (bF (rootM node z (List.map lf (List.take (x.length / 2) x)))))), SV.eq (.bool true), SV.eq (.bool true)] [([(9, none)], none), ([(31, some 0)], none), ([(32, some 1)], none), ([(1, none), (33, some 2)], some (33, true)), ([(1, none), (33, some 2)], some (33, true)), ([(34, some 3), (35, some 4), (33, some 2)], some (33, true)), ([(36, some 5), (33, some 2)], some (33, true)), ([(33, some 2), (37, some 6)], none), ([(38, some 7)], none), ([(1, none), (39, some 8)], some (39, true)), ([(2, none), (39, some 8)], some (39, true)), ([(40, some 9), (41, some 10), (39, some 8)], some (39, true)), ([(2, none), (39, some 8)], some (39, true)), ([(1, none), (39, some 8)], some (39, true)), ([(43, some 12), (44, some 13), (39, some 8)], some (39, true)), ([(42, some 11), (45, some 14), (39, some 8)], some (39, true)), ([(39, some 8), (46, some 15)], none), ([(47, some 16)], none), ([(0, none), (48, some 17)], some (48, true)), ([(0, none), (48, some 17)], some (48, true)), ([(50, some 19), (48, some 17)], some (48, true)), ([(51, some 20), (48, some 17)], some (48, true)), ([(49, some 18), (52, some 21), (48, some 17)], some (48, true)), ([(53, some 22), (48, some 17)], some (48, true)), ([(0, none), (48, some 17)], some (48, true)), ([(0, none), (48, some 17)], some (48, true)), ([(56, some 25), (48, some 17)], some (48, true)), ([(57, some 26), (48, some 17)], some (48, true)), ([(55, some 24), (58, some 27), (48, some 17)], some (48, true)), ([(59, some 28), (48, some 17)], some (48, true)), ([(54, some 23), (60, some 29), (48, some 17)], some (48, true)), ([(48, some 17), (61, some 30)], none)] 63 rfl (by kernel_rfl) rfl (by kernel_rfl) (by kernel_rfl) rfl NewT.trans (NewT.drew _) (Nat.le_of_ble_eq_true rfl) ⟨?_, ?_, ?_, ?_, ?_, ?_, ?_, ?_, ?_, ?_, ?_, ?_, ?_, ?_, ?_, ?_, ?_, ?_, ?_, ?_, ?_, ?_, ?_, ?_, ?_, ?_, ?_, ?_, ?_, ?_, ?_, ?_, trivial⟩ ?_
        · intro a wx hT hF K hK
          obtain ⟨f9, _⟩ := hF
          have f9 : a.tmps.getD 9 undef = .bool false := f9
          refine rely_wp rfl ?_
          exact opr_move (.inl rfl) (hK _ _ (NewT.refl _) f9)
        · intro a wx hT hF K hK
          obtain ⟨f31, _⟩ := hF
          have f31 : a.tmps.getD 31 undef = .bool false := f31
          refine rely_wp rfl ?_
          exact opr_not rfl f31 (hK _ _ (NewT.refl _) rfl)
        · intro a wx hT hF K hK
          obtain ⟨f32, _⟩ := hF
          have f32 : a.tmps.getD 32 undef = .bool true := f32
          refine rely_wp rfl ?_
          exact opr_move (.inl rfl) (hK _ _ (NewT.refl _) f32)
        · intro a wx hT hF K hK
          obtain ⟨f1, f33, _⟩ := hF
          have f1 : a.tmps.getD 1 undef = vx := f1
          have f33 : a.tmps.getD 33 undef = .bool true := f33
          refine rely_wp (rely_guard f33) ?_
          exact opr_move (.inl rfl) (hK _ _ (NewT.refl _) f1)
        · intro a wx hT hF K hK
          obtain ⟨f1, f33, _⟩ := hF
          have f1 : a.tmps.getD 1 undef = vx := f1
          have f33 : a.tmps.getD 33 undef = .bool true := f33
          refine rely_wp (rely_guard f33) ?_
          exact opr_move (.inl rfl) (hK _ _ (NewT.refl _) f1)
        · intro a wx hT hF K hK
          obtain ⟨f34, f35, f33, _⟩ := hF
          have f34 : a.tmps.getD 34 undef = vx := f34
          have f35 : a.tmps.getD 35 undef = vx := f35
          have f33 : a.tmps.getD 33 undef = .bool true := f33
          refine rely_wp (rely_guard f33) ?_
          exact opr_cv (by rw [← HI0.out]; exact Is_cv hC _ _ s s wx (hT.tables HT.out) (hT.rd HS.out) (hT.rd HS.out) (by have := HSN.out; omega) (by have := HSN.out; omega)) rfl Tryd.func16 (by kernel_rfl) (by kernel_rfl) (by simp only [List.map_toArray, List.map_cons, List.map_nil, eval_tmp, f34, f35]) hK
        · intro a wx hT hF K hK
          obtain ⟨f36, f33, _⟩ := hF
          have f36 : a.tmps.getD 36 undef = .bool false := f36
          have f33 : a.tmps.getD 33 undef = .bool true := f33
          refine rely_wp (rely_guard f33) ?_
          exact opr_not rfl f36 (hK _ _ (NewT.refl _) rfl)
        · intro a wx hT hF K hK
          obtain ⟨f33, f37, _⟩ := hF
          have f33 : a.tmps.getD 33 undef = .bool true := f33
          have f37 : a.tmps.getD 37 undef = .bool true := f37
          refine rely_wp rfl ?_
          exact opr_pick_true rfl f33 (hK _ _ (NewT.refl _) f37)
        · intro a wx hT hF K hK
          obtain ⟨f38, _⟩ := hF
          have f38 : a.tmps.getD 38 undef = .bool true := f38
          refine rely_wp rfl ?_
          exact opr_move (.inl rfl) (hK _ _ (NewT.refl _) f38)
        · intro a wx hT hF K hK
          obtain ⟨f1, f39, _⟩ := hF
          have f1 : a.tmps.getD 1 undef = vx := f1
          have f39 : a.tmps.getD 39 undef = .bool true := f39
          refine rely_wp (rely_guard f39) ?_
          exact opr_move (.inl rfl) (hK _ _ (NewT.refl _) f1)
        · intro a wx hT hF K hK
          obtain ⟨f2, f39, _⟩ := hF
          have f2 : a.tmps.getD 2 undef = vy := f2
          have f39 : a.tmps.getD 39 undef = .bool true := f39
          refine rely_wp (rely_guard f39) ?_
          exact opr_move (.inl rfl) (hK _ _ (NewT.refl _) f2)
        · intro a wx hT hF K hK
          obtain ⟨f40, f41, f39, _⟩ := hF
          have f40 : a.tmps.getD 40 undef = vx := f40
          have f41 : a.tmps.getD 41 undef = vy := f41
          have f39 : a.tmps.getD 39 undef = .bool true := f39
          refine rely_wp (rely_guard f39) ?_
          exact opr_cv (Is_cv hC _ _ s t wx (hT.tables HT.out) (hT.rd HS.out) (hT.rd HTT.out) (by have := HSN.out; omega) (by have := HSN.out; omega)) rfl Tryd.func16 (by kernel_rfl) (by kernel_rfl) (by simp only [List.map_toArray, List.map_cons, List.map_nil, eval_tmp, f40, f41]) hK
        · intro a wx hT hF K hK
          obtain ⟨f2, f39, _⟩ := hF
          have f2 : a.tmps.getD 2 undef = vy := f2
          have f39 : a.tmps.getD 39 undef = .bool true := f39
          refine rely_wp (rely_guard f39) ?_
          exact opr_move (.inl rfl) (hK _ _ (NewT.refl _) f2)
        · intro a wx hT hF K hK
          obtain ⟨f1, f39, _⟩ := hF
          have f1 : a.tmps.getD 1 undef = vx := f1
          have f39 : a.tmps.getD 39 undef = .bool true := f39
          refine rely_wp (rely_guard f39) ?_
          exact opr_move (.inl rfl) (hK _ _ (NewT.refl _) f1)
        · intro a wx hT hF K hK
          obtain ⟨f43, f44, f39, _⟩ := hF
          have f43 : a.tmps.getD 43 undef = vy := f43
          have f44 : a.tmps.getD 44 undef = vx := f44
          have f39 : a.tmps.getD 39 undef = .bool true := f39
          refine rely_wp (rely_guard f39) ?_
          exact opr_cv (by rw [HI1.out]; exact Is_cv hC _ _ t s wx (hT.tables HT.out) (hT.rd HTT.out) (hT.rd HS.out) (by have := HSN.out; omega) (by have := HSN.out; omega)) rfl Tryd.func16 (by kernel_rfl) (by kernel_rfl) (by simp only [List.map_toArray, List.map_cons, List.map_nil, eval_tmp, f43, f44]) hK
        · intro a wx hT hF K hK
          obtain ⟨f42, f45, f39, _⟩ := hF
          have f42 : a.tmps.getD 42 undef = .bool (isB sm s t) := f42
          have f45 : a.tmps.getD 45 undef = .bool (isB sm s t) := f45
          have f39 : a.tmps.getD 39 undef = .bool true := f39
          refine rely_wp (rely_guard f39) ?_
          exact opr_eqlQ (b := true) (beq_self_eq_true _) rfl f42 f45 (hK _ _ (NewT.refl _) rfl)
        · intro a wx hT hF K hK
          obtain ⟨f39, f46, _⟩ := hF
          have f39 : a.tmps.getD 39 undef = .bool true := f39
          have f46 : a.tmps.getD 46 undef = .bool true := f46
          refine rely_wp rfl ?_
          exact opr_pick_true rfl f39 (hK _ _ (NewT.refl _) f46)
        · intro a wx hT hF K hK
          obtain ⟨f47, _⟩ := hF
          have f47 : a.tmps.getD 47 undef = .bool true := f47
          refine rely_wp rfl ?_
          exact opr_move (.inl rfl) (hK _ _ (NewT.refl _) f47)
        · intro a wx hT hF K hK
          obtain ⟨f0, f48, _⟩ := hF
          have f0 : a.tmps.getD 0 undef = va := f0
          have f48 : a.tmps.getD 48 undef = .bool true := f48
          refine rely_wp (rely_guard f48) ?_
          exact opr_move (.inl rfl) (hK _ _ (NewT.refl _) f0)
        · intro a wx hT hF K hK
          obtain ⟨f0, f48, _⟩ := hF
          have f0 : a.tmps.getD 0 undef = va := f0
          have f48 : a.tmps.getD 48 undef = .bool true := f48
          refine rely_wp (rely_guard f48) ?_
          exact opr_move (.inl rfl) (hK _ _ (NewT.refl _) f0)
        · intro a wx hT hF K hK
          obtain ⟨f50, f48, _⟩ := hF
          have f50 : a.tmps.getD 50 undef = va := f50
          have f48 : a.tmps.getD 48 undef = .bool true := f48
          refine rely_wp (rely_guard f48) ?_
          exact opr_len_parts rfl (by rw [eval_tmp, f50]; exact (hT.partsL HA.out)) (hK _ _ (NewT.refl _) rfl)
        · intro a wx hT hF K hK
          obtain ⟨f51, f48, _⟩ := hF
          have f51 : a.tmps.getD 51 undef = .int .i64 ((List.length (x) : Int)) := f51
          have f48 : a.tmps.getD 48 undef = .bool true := f48
          refine rely_wp (rely_guard f48) ?_
          exact opr_quo2 Tryd.underlying3 (by have := HFx.out.len; omega) rfl f51 (hK _ _ (NewT.refl _) rfl)
        · intro a wx hT hF K hK
          obtain ⟨f49, f52, f48, _⟩ := hF
          have f49 : a.tmps.getD 49 undef = va := f49
          have f52 : a.tmps.getD 52 undef = .int .i64 (((x.length / 2 : Nat) : Int)) := f52
          have f48 : a.tmps.getD 48 undef = .bool true := f48
          refine rely_wp (rely_guard f48) ?_
          exact opr_toT (k := (x.length / 2)) (by omega) (rfl) rfl (by rw [eval_tmp, f49]; exact (hT.partsL HA.out)) f52 (fun v hv => hK v _ (NewT.refl _) hv)
        · intro a wx hT hF K hK
          obtain ⟨f53, f48, _⟩ := hF
          replace f53 := show (svParts (List.take (x.length / 2) x)).pred (a.tmps.getD 53 undef) wx from f53
          have f48 : a.tmps.getD 48 undef = .bool true := f48
          refine rely_wp (rely_guard f48) ?_
          exact opr_cv (Roots_cv hC _ (List.take (x.length / 2) x) wx (hT.tables HT.out) f53 (HFx.out.take _)) rfl Tryd.func14 (by kernel_rfl) (by kernel_rfl) (by simp only [List.map_toArray, List.map_cons, List.map_nil, eval_tmp]) hK
        · intro a wx hT hF K hK
          obtain ⟨f0, f48, _⟩ := hF
          have f0 : a.tmps.getD 0 undef = va := f0
          have f48 : a.tmps.getD 48 undef = .bool true := f48
          refine rely_wp (rely_guard f48) ?_
          exact opr_move (.inl rfl) (hK _ _ (NewT.refl _) f0)
        · intro a wx hT hF K hK
          obtain ⟨f0, f48, _⟩ := hF
          have f0 : a.tmps.getD 0 undef = va := f0
          have f48 : a.tmps.getD 48 undef = .bool true := f48
          refine rely_wp (rely_guard f48) ?_
          exact opr_move (.inl rfl) (hK _ _ (NewT.refl _) f0)
        · intro a wx hT hF K hK
          obtain ⟨f56, f48, _⟩ := hF
          have f56 : a.tmps.getD 56 undef = va := f56
          have f48 : a.tmps.getD 48 undef = .bool true := f48
          refine rely_wp (rely_guard f48) ?_
          exact opr_len_parts rfl (by rw [eval_tmp, f56]; exact (hT.partsL HA.out)) (hK _ _ (NewT.refl _) rfl)
        · intro a wx hT hF K hK
          obtain ⟨f57, f48, _⟩ := hF
          have f57 : a.tmps.getD 57 undef = .int .i64 ((List.length (x) : Int)) := f57
          have f48 : a.tmps.getD 48 undef = .bool true := f48
          refine rely_wp (rely_guard f48) ?_
          exact opr_quo2 Tryd.underlying3 (by have := HFx.out.len; omega) rfl f57 (hK _ _ (NewT.refl _) rfl)
        · intro a wx hT hF K hK
          obtain ⟨f55, f58, f48, _⟩ := hF
          have f55 : a.tmps.getD 55 undef = va := f55
          have f58 : a.tmps.getD 58 undef = .int .i64 (((x.length / 2 : Nat) : Int)) := f58
          have f48 : a.tmps.getD 48 undef = .bool true := f48
          refine rely_wp (rely_guard f48) ?_
          exact opr_toT (k := (x.length / 2)) (by omega) (rfl) rfl (by rw [eval_tmp, f55]; exact (hT.partsL HA.out)) f58 (fun v hv => hK v _ (NewT.refl _) hv)
        · intro a wx hT hF K hK
          obtain ⟨f59, f48, _⟩ := hF
          replace f59 := show (svParts (List.take (x.length / 2) x)).pred (a.tmps.getD 59 undef) wx from f59
          have f48 : a.tmps.getD 48 undef = .bool true := f48
          refine rely_wp (rely_guard f48) ?_
          exact opr_cv (RRoot7_cv hC _ (List.take (x.length / 2) x) wx (hT.tables HT.out) f59 (HFx.out.take _)) rfl Tryd.func15 (by kernel_rfl) (by kernel_rfl) (by simp only [List.map_toArray, List.map_cons, List.map_nil, eval_tmp]) hK
        · intro a wx hT hF K hK
          obtain ⟨f54, f60, f48, _⟩ := hF
          have f54 : a.tmps.getD 54 undef = .agg (rowA 32 (bF (rootM node z (List.map lf (List.take (x.length / 2) x))))) := f54
          have f60 : a.tmps.getD 60 undef = .agg (rowA 32 (bF (rootM node z (List.map lf (List.take (x.length / 2) x))))) := f60
          have f48 : a.tmps.getD 48 undef = .bool true := f48
          refine rely_wp (rely_guard f48) ?_
          exact opr_eql_hash (b := true) rfl f54 f60 (eqH_same _) (hK _ _ (NewT.refl _) rfl)
        · intro a wx hT hF K hK
          obtain ⟨f48, f61, _⟩ := hF
          have f48 : a.tmps.getD 48 undef = .bool true := f48
          have f61 : a.tmps.getD 61 undef = .bool true := f61
          refine rely_wp rfl ?_
          exact opr_pick_true rfl f48 (hK _ _ (NewT.refl _) f61)
        · intro w4 k4
          intro u h; obtain rfl := Eq.symm (h (by simp)); clear h
          intro u h; obtain rfl := Eq.symm (h (by simp)); clear h
          intro u h; obtain rfl := Eq.symm (h (by simp)); clear h
          intro u h; obtain rfl := Eq.symm (h (by simp)); clear h
          intro u h; obtain rfl := Eq.symm (h (by simp)); clear h
          intro u h; obtain rfl := Eq.symm (h (by simp)); clear h
          intro u h; obtain rfl := Eq.symm (h (by simp)); clear h
          intro u h; obtain rfl := Eq.symm (h (by simp)); clear h
          intro u h; obtain rfl := Eq.symm (h (by simp)); clear h
          intro u h; obtain rfl := Eq.symm (h (by simp)); clear h
          intro u h; obtain rfl := Eq.symm (h (by simp)); clear h
          intro u h; obtain rfl := Eq.symm (h (by simp)); clear h
          intro u h; obtain rfl := Eq.symm (h (by simp)); clear h
          intro u h; obtain rfl := Eq.symm (h (by simp)); clear h
          intro u h; obtain rfl := Eq.symm (h (by simp)); clear h
          intro u h; obtain rfl := Eq.symm (h (by simp)); clear h
          intro u h; obtain rfl := Eq.symm (h (by simp)); clear h
          intro u h; obtain rfl := Eq.symm (h (by simp)); clear h
          intro u h; obtain rfl := Eq.symm (h (by simp)); clear h
          intro u h; obtain rfl := Eq.symm (h (by simp)); clear h
          intro u h; obtain rfl := Eq.symm (h (by simp)); clear h
          intro u h; obtain rfl := Eq.symm (h (by simp)); clear h
          intro _ _
          intro u h; obtain rfl := Eq.symm (h (by simp)); clear h
          intro u h; obtain rfl := Eq.symm (h (by simp)); clear h
          intro u h; obtain rfl := Eq.symm (h (by simp)); clear h
          intro u h; obtain rfl := Eq.symm (h (by simp)); clear h
          intro u h; obtain rfl := Eq.symm (h (by simp)); clear h
          intro _ _
          intro u h; obtain rfl := Eq.symm (h (by simp)); clear h
          intro u h; obtain rfl := Eq.symm (h (by simp)); clear h
          intro u h; obtain rfl := Eq.symm (h (by simp)); clear h
          refine relyEnd_nil rfl ?_
          simp only [Act.put, List.setIfInBounds_toArray, List.set_cons_zero, List.set_cons_succ]
          refine opr_move (.inr rfl) ?_
          go_simp
          go_wp2
          go_ret
          exact ⟨rfl, (NewT.trans _ _ _ HN.out k4).out⟩
end Go.Proofs.YtlnedphnphabkaaDoor
