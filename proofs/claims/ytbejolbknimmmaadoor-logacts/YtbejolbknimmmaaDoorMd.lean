/- What a log's calls do: Count, Chain, Size, Put, Append. -/
import Derived.Test.YtbejolbknimmmaaDoorMc
set_option linter.all false
namespace Go.Proofs.YtbejolbknimmmaaDoor
open Go Go.RowKit
set_option maxRecDepth 8000
set_option linter.all false
variable {nx : (Nat → UInt8) → List UInt8 → Nat → UInt8}
set_option maxHeartbeats 400000 in
theorem Count_c (g dk : Nat) (v : Value) (room : Nat) (es : List (List UInt8)) (n : Nat) (w : World) (h : LogAt nx w g dk v room es n) : Cv 21 #[.pointer (some ⟨g, 0, none⟩)] w (.eq (.int .i64 (es.length : Int))) := by
  have c1 : w.cell? ⟨g, 1, none⟩ = some (.int .i64 (es.length : Int)) := h.row.cell (i := 1) (by omega)
  clear h
  unfold Cv
  go_enter Tryd.func21, Tryd.ntmps21
  go_wp2
  go_ret
  exact ⟨_, rfl, NewT.refl _, rfl⟩
set_option maxHeartbeats 400000 in
theorem LSize_cv (u : Value) (n : Int) (w : World) : Cv 28 #[u, .int .i64 n] w (.eq (.int .i64 (esz n))) := by
  unfold Cv
  go_enter Tryd.func28, Tryd.ntmps28
  go_wp2_with (go_at_call 43; refine (Size_cv n _).eq.mono ?_; rintro _ w1 ⟨rfl, hN⟩)
  go_ret
  exact ⟨_, rfl, hN, rfl⟩
set_option maxHeartbeats 400000 in
theorem Open_nil (w : World) : Cv 11 #[.pointer none] w (.eq (.tuple #[.pointer none, .slice none 0 0, .int .i64 1])) := by
  unfold Cv
  go_enter Tryd.func11, Tryd.ntmps11
  go_wp2
  refine bodyPost_ret (results_3v rfl rfl rfl rfl) rfl ⟨_, rfl, NewT.refl _, rfl⟩
set_option maxHeartbeats 400000 in
theorem Chain_c (g dk : Nat) (v : Value) (room : Nat) (es : List (List UInt8)) (n : Nat) (w : World) (h : LogAt nx w g dk v room es n) : Cv 22 #[.pointer (some ⟨g, 0, none⟩)] w (.eq (.agg (rowA 32 (bF (chL nx hash0 es))))) := by
  unfold Cv
  have hN := NewT.alloc w (.cells (rowA 32 (bF fun _ => 0)) 48)
  have H := Lib.hid (hN.row h.row)
  have r0 := rowIs_box w 48 32 (bF fun _ => 0)
  have hlt := h.row.lt
  clear h
  go_enter Tryd.func22, Tryd.ntmps22
  go_upto_region 3 with fail
  change Code.wp _ _ _ _ (w.alloc (.cells (rowA 32 (bF fun _ => 0)) 48))
  generalize w.alloc (.cells (rowA 32 (bF fun _ => 0)) 48) = W0 at r0 hN H ⊢
  refine wp_region_lit ?_
  refine wpList_plain rfl (fun K hK => ?_)
  refine opr_move (.inl rfl) (hK _ _ ?_)
  clear hK K
  simp only [Act.put, List.setIfInBounds_toArray, List.set_cons_zero, List.set_cons_succ]
  refine wpList_plain rfl (fun K hK => ?_)
  refine opr_nilc rfl rfl (hK _ _ ?_)
  clear hK K
  simp only [Act.put, List.setIfInBounds_toArray, List.set_cons_zero, List.set_cons_succ]
  refine wpList_plain rfl (fun K hK => ?_)
  refine opr_fldG0 rfl rfl (hK _ _ ?_)
  clear hK K
  simp only [Act.put, List.setIfInBounds_toArray, List.set_cons_zero, List.set_cons_succ]
  refine wpList_plain rfl (fun K hK => ?_)
  refine opr_fldE2 rfl rfl (hK _ _ ?_)
  clear hK K
  simp only [Act.put, List.setIfInBounds_toArray, List.set_cons_zero, List.set_cons_succ]
  refine wpList_plain rfl (fun K hK => ?_)
  refine opr_ldH H.out (by decide) (fun j hj => lgF_h _ _ _ _ j hj) rfl rfl (hK _ _ ?_)
  clear hK K
  simp only [Act.put, List.setIfInBounds_toArray, List.set_cons_zero, List.set_cons_succ]
  refine wpList_plain rfl (fun K hK => ?_)
  refine opr_putm (g := w.heap.size) (o0 := 0) (m := 32) (f := bF (chL nx hash0 es)) (F := bF (chL nx hash0 es)) rfl rfl rfl r0 (by decide) info31 (fun _ => rfl) (fun i hi => by rw [if_pos (by omega), Nat.sub_zero]) ?_
  intro w9 hR9 r9
  refine hK _ _ ?_
  refine wpList_end rfl ?_
  simp only [Act.put, List.setIfInBounds_toArray, List.set_cons_zero, List.set_cons_succ]
  go_simp
  go_wp2
  exact bodyPost_ret (results_row rfl _ rfl r9 Tryd.underlying48 info31) rfl ⟨_, rfl, NewT.rt hN hR9 (Nat.le_refl _), rfl⟩
end Go.Proofs.YtbejolbknimmmaaDoor
/- What a log's calls do: Put, Append. -/
namespace Go.Proofs.YtbejolbknimmmaaDoor
open Go Go.RowKit
set_option maxRecDepth 8000
set_option linter.all false
variable {nx : (Nat → UInt8) → List UInt8 → Nat → UInt8}
set_option maxHeartbeats 400000 in
theorem Put_arg (g : Nat) (u : Value) (w : World) (hu : RdV w [] u []) : Cv 14 #[.pointer (some ⟨g, 0, none⟩), u] w (.eq (.int .i64 1)) := by
  obtain ⟨A, c, rfl, _⟩ := hu
  unfold Cv
  go_enter Tryd.func14, Tryd.ntmps14
  go_wp2
  go_ret
  exact ⟨_, rfl, NewT.refl _, rfl⟩
set_option maxHeartbeats 400000 in
theorem Put_long (g : Nat) (u : Value) (b : List UInt8) (w : World) (hu : RdV w [] u b) (hb : 2000 < b.length) : Cv 14 #[.pointer (some ⟨g, 0, none⟩), u] w (.eq (.int .i64 4)) := by
  obtain ⟨A, c, rfl, _⟩ := hu
  have h0 : ((b.length : Int) == 0) = false := beq_eq_false_iff_ne.2 (by omega)
  have h1 : (2000 : Int) < (b.length : Int) := by omega
  clear hb
  generalize b.length = m at *
  unfold Cv
  go_enter Tryd.func14, Tryd.ntmps14
  go_wp2
  go_ret
  exact ⟨_, rfl, NewT.refl _, rfl⟩
set_option maxHeartbeats 4000000 in
theorem Put_full (hX : LogH nx) (g dk : Nat) (v : Value) (room : Nat) (es : List (List UInt8)) (n : Nat) (u : Value) (b : List UInt8) (w : World) (hT : Tables w) (h : LogAt nx w g dk v room es n) (hu : RdV w [] u b) (hb : okE b) (hr : room < (encL nx mkL hash0 (es ++ [b])).length) : Cv 14 #[.pointer (some ⟨g, 0, none⟩), u] w (.eq (.int .i64 5)) := by
  unfold Cv
  have HR := Lib.hid hr
  clear hr
  obtain ⟨p, hp⟩ := hid_ex (encL nx mkL hash0 es).length
  obtain ⟨d, hd⟩ := hid_ex (chL nx hash0 es)
  have hrow := h.row
  rw [hp.out, hd.out] at hrow
  have hpb : p ≤ 65536 := by have := h.disk.fits; have := h.disk.room2; have := hp.out; omega
  have hcb : es.length ≤ 65536 := by have := encL_count nx hash0 es; have := hp.out; omega
  have HB := Lib.hid (⟨hpb, hcb⟩ : p ≤ 65536 ∧ es.length ≤ 65536)
  have HOK := Lib.hid hb
  have HT := Lib.hid hT
  have H := Lib.hid h
  have RG := Lib.hid hrow
  have hgl := h.lt
  have HU := Lib.hid hu
  obtain ⟨A1, c1, hu1⟩ := rdV_form hu
  subst hu1
  have h0 : ((b.length : Int) == 0) = false := beq_eq_false_iff_ne.2 (by have := hb.1; omega)
  have h1 : ¬ (2000 : Int) < (b.length : Int) := by have := hb.2; omega
  clear hT h hrow hpb hcb hu hb
  go_enter Tryd.func14, Tryd.ntmps14
  go_upto_region 5 with fail
  refine wp_region_lit ?_
  refine wpList_plain rfl (fun K hK => ?_)
  refine opr_move (.inl rfl) (hK _ _ ?_)
  clear hK K
  simp only [Act.put, List.setIfInBounds_toArray, List.set_cons_zero, List.set_cons_succ]
  refine wpList_plain rfl (fun K hK => ?_)
  refine opr_nilc rfl rfl (hK _ _ ?_)
  clear hK K
  simp only [Act.put, List.setIfInBounds_toArray, List.set_cons_zero, List.set_cons_succ]
  refine wpList_plain rfl (fun K hK => ?_)
  refine opr_fldG0 rfl rfl (hK _ _ ?_)
  clear hK K
  simp only [Act.put, List.setIfInBounds_toArray, List.set_cons_zero, List.set_cons_succ]
  refine wpList_plain rfl (fun K hK => ?_)
  refine opr_ldE (p := (p : Int)) (c := (es.length : Int)) (d := d) RG.out (by decide) (fun j hj => lgF_low _ _ _ _ j hj) rfl rfl (hK _ _ ?_)
  clear hK K
  simp only [Act.put, List.setIfInBounds_toArray, List.set_cons_zero, List.set_cons_succ]
  refine wpList_plain rfl (fun K hK => ?_)
  refine opr_move (.inl rfl) (hK _ _ ?_)
  clear hK K
  simp only [Act.put, List.setIfInBounds_toArray, List.set_cons_zero, List.set_cons_succ]
  refine wpList_plain rfl (fun K hK => ?_)
  refine opr_cv (Behind_cv hX _ b (p : Int) (es.length : Int) d w HT.out HU.out (by have := HOK.out.2; omega) (by have := HB.out; omega) (by have := HB.out; omega)) rfl Tryd.func36 (by kernel_rfl) (by kernel_rfl) (by simp only [List.map_toArray, List.map_cons, List.map_nil, eval_tmp]; rfl) ?_
  intro v24 w1 hN1 e24
  obtain rfl : v24 = .agg (rowA 34 (enF ((p : Int) + esz (List.length b : Int)) ((es.length : Int) + 1) (nx d b))) := e24
  refine hK _ _ ?_
  clear hK K
  simp only [Act.put, List.setIfInBounds_toArray, List.set_cons_zero, List.set_cons_succ]
  refine wpList_new (n := 34) rfl rfl rfl rfl rfl rfl (by simp) run_alloc_en infoE' (fun _ => enF_one _ _ _ _) rfl ?_
  intro w2 hn2 r8
  refine wpList_end rfl ?_
  simp only [Act.put, List.setIfInBounds_toArray, List.set_cons_zero, List.set_cons_succ]
  obtain ⟨g8, hg8⟩ : ∃ g8, w1.heap.size = g8 := ⟨_, rfl⟩
  have hg8w : w.heap.size ≤ g8 := by rw [← hg8]; exact hN1.out.size
  rw [hg8] at r8 ⊢
  have R8 := Lib.hid r8
  have HN2 := Lib.hid (NewT.trans _ _ _ hN1 hn2)
  have HU5 := Lib.hid (HN2.out.rd HU.out)
  have RG5 := Lib.hid (HN2.out.row RG.out)
  obtain ⟨zz, HZ⟩ := hid_ex (numL b.length ++ b ++ mkL (nx d b))
  have HZE : Hid (entL nx mkL d b = zz) := Lib.hid HZ.out
  clear hN1 hn2 r8 hg8
  go_simp
  go_upto_region 6 with fail
  refine wp_region_rely_tail (NewT) [SV.eq (.pointer (some ⟨g, 0, none⟩)), SV.eq (.pointer (some ⟨g, 0, none⟩)), SV.eq (.pointer (some ⟨g, 34, none⟩)), SV.eq (.pointer (some ⟨dk, 0, none⟩)), SV.eq (.agg (rowA 34 (enF (((p : Int) + esz (List.length b : Int))) (((es.length : Int) + 1)) (nx d b)))), svRd (b), svRd (zz)] [([(0, none)], none), ([(25, some 0)], none), ([(26, some 1)], none), ([(27, some 2)], none), ([(5, none)], none), ([(1, none)], none), ([(29, some 4), (30, some 5)], none)] 40 7 (by kernel_rfl) rfl rfl (Nat.zero_lt_succ _) (by kernel_rfl) (by kernel_rfl) (by kernel_rfl) NewT.trans (NewT.drew _) (Nat.le_of_ble_eq_true rfl) ⟨?_, ?_, ?_, ?_, ?_, ?_, ?_, trivial⟩ ?_
  · exact fun a wx hT hF K hK => rely_wp rfl (opr_move (.inl rfl) (hK _ _ (NewT.refl _) hF.1))
  · exact fun a wx hT hF K hK => rely_wp rfl (opr_nilc rfl hF.1 (hK _ _ (NewT.refl _) rfl))
  · exact fun a wx hT hF K hK => rely_wp rfl (opr_fldG1 rfl hF.1 (hK _ _ (NewT.refl _) rfl))
  · exact fun a wx hT hF K hK => rely_wp rfl (opr_ldPD (hT.row RG5.out) (by decide) rfl rfl hF.1 (hK _ _ (NewT.refl _) rfl))
  · exact fun a wx hT hF K hK => rely_wp rfl ((fun hr => opr_ldE hr (Nat.le_refl _) (fun _ _ => rfl)) (hT.row R8.out) rfl hF.1 (hK _ _ (NewT.refl _) rfl))
  · intro a wx hT hF K hK
    obtain ⟨f1, _⟩ := hF
    have f1 : a.tmps.getD 1 undef = (.slice A1 b.length c1) := f1
    refine rely_wp rfl ?_
    exact opr_move (.inl rfl) (hK _ _ (NewT.refl _) (by rw [eval_tmp, f1]; exact hT.rd HU5.out))
  · exact fun a wx hT hF K hK => rely_wp rfl (opr_cv (Stored_cv _ b zz ((p : Int) + esz (List.length b : Int)) ((es.length : Int) + 1) (nx d b) wx hF.2.1 (by have := HOK.out.2; omega) HZ.out) rfl Tryd.func37 (by kernel_rfl) (by kernel_rfl) (evs2 hF.1 rfl) hK)
  · intro wb kb
    iterate 5 (intro u h; obtain rfl := Eq.symm (h (by simp)); clear h)
    intro _ _
    intro u31 h; have g31 := h (by simp); clear h; replace g31 := show (svRd (zz)).pred u31 wb from g31
    refine relyEnd_nil rfl ?_
    simp only [Act.put, List.setIfInBounds_toArray, List.set_cons_zero, List.set_cons_succ]
    refine wpList_plain rfl (fun K hK => ?_)
    refine opr_cv (Write_full dk v room (encL nx mkL hash0 es) n _ zz wb (H.out.disk.new (NewT.trans _ _ _ HN2.out kb)) g31 (by have := HR.out; rw [encL_snoc, hd.out, HZE.out, List.length_append] at this; exact this)) rfl Tryd.func27 (by kernel_rfl) (by kernel_rfl) (by simp only [List.map_toArray, List.map_cons, List.map_nil, eval_tmp]; rfl) ?_
    intro v32 w3 hN3 e32
    obtain rfl : v32 = .int .i64 5 := e32
    refine hK _ _ ?_
    clear hK K
    simp only [Act.put, List.setIfInBounds_toArray, List.set_cons_zero, List.set_cons_succ]
    refine wpList_plain rfl (fun K hK => ?_)
    refine opr_move (.inr rfl) (hK _ _ ?_)
    clear hK K
    refine wpList_end rfl ?_
    simp only [Act.put, List.setIfInBounds_toArray, List.set_cons_zero, List.set_cons_succ]
    go_simp
    go_wp2
    go_ret
    exact ⟨_, rfl, NewT.trans _ _ _ HN2.out (NewT.trans _ _ _ kb hN3), rfl⟩
set_option maxHeartbeats 4000000 in
theorem Put_ok (hX : LogH nx) (g dk : Nat) (v : Value) (room : Nat) (es : List (List UInt8)) (n : Nat) (u : Value) (b : List UInt8) (w : World) (hT : Tables w) (h : LogAt nx w g dk v room es n) (hu : RdV w [] u b) (hb : okE b) (hr : (encL nx mkL hash0 (es ++ [b])).length ≤ room) : Calls Tryd.prog 14 #[.pointer (some ⟨g, 0, none⟩), u] w fun e w' => e = .returned (.int .i64 0) ∧ ∃ v', LStep g dk v w w' v' ∧ LogAt nx w' g dk v' room (es ++ [b]) n := by
  have HR := Lib.hid hr
  clear hr
  obtain ⟨p, hp⟩ := hid_ex (encL nx mkL hash0 es).length
  obtain ⟨d, hd⟩ := hid_ex (chL nx hash0 es)
  have hrow := h.row
  rw [hp.out, hd.out] at hrow
  have hpb : p ≤ 65536 := by have := h.disk.fits; have := h.disk.room2; have := hp.out; omega
  have hcb : es.length ≤ 65536 := by have := encL_count nx hash0 es; have := hp.out; omega
  have HB := Lib.hid (⟨hpb, hcb⟩ : p ≤ 65536 ∧ es.length ≤ 65536)
  have HOK := Lib.hid hb
  have HT := Lib.hid hT
  have H := Lib.hid h
  have RG := Lib.hid hrow
  have hgl := h.lt
  have HU := Lib.hid hu
  obtain ⟨A1, c1, hu1⟩ := rdV_form hu
  subst hu1
  have h0 : ((b.length : Int) == 0) = false := beq_eq_false_iff_ne.2 (by have := hb.1; omega)
  have h1 : ¬ (2000 : Int) < (b.length : Int) := by have := hb.2; omega
  clear hT h hrow hpb hcb hu hb
  go_enter Tryd.func14, Tryd.ntmps14
  go_upto_region 5 with fail
  refine wp_region_lit ?_
  refine wpList_plain rfl (fun K hK => ?_)
  refine opr_move (.inl rfl) (hK _ _ ?_)
  clear hK K
  simp only [Act.put, List.setIfInBounds_toArray, List.set_cons_zero, List.set_cons_succ]
  refine wpList_plain rfl (fun K hK => ?_)
  refine opr_nilc rfl rfl (hK _ _ ?_)
  clear hK K
  simp only [Act.put, List.setIfInBounds_toArray, List.set_cons_zero, List.set_cons_succ]
  refine wpList_plain rfl (fun K hK => ?_)
  refine opr_fldG0 rfl rfl (hK _ _ ?_)
  clear hK K
  simp only [Act.put, List.setIfInBounds_toArray, List.set_cons_zero, List.set_cons_succ]
  refine wpList_plain rfl (fun K hK => ?_)
  refine opr_ldE (p := (p : Int)) (c := (es.length : Int)) (d := d) RG.out (by decide) (fun j hj => lgF_low _ _ _ _ j hj) rfl rfl (hK _ _ ?_)
  clear hK K
  simp only [Act.put, List.setIfInBounds_toArray, List.set_cons_zero, List.set_cons_succ]
  refine wpList_plain rfl (fun K hK => ?_)
  refine opr_move (.inl rfl) (hK _ _ ?_)
  clear hK K
  simp only [Act.put, List.setIfInBounds_toArray, List.set_cons_zero, List.set_cons_succ]
  refine wpList_plain rfl (fun K hK => ?_)
  refine opr_cv (Behind_cv hX _ b (p : Int) (es.length : Int) d w HT.out HU.out (by have := HOK.out.2; omega) (by have := HB.out; omega) (by have := HB.out; omega)) rfl Tryd.func36 (by kernel_rfl) (by kernel_rfl) (by simp only [List.map_toArray, List.map_cons, List.map_nil, eval_tmp]; rfl) ?_
  intro v24 w1 hN1 e24
  obtain rfl : v24 = .agg (rowA 34 (enF ((p : Int) + esz (List.length b : Int)) ((es.length : Int) + 1) (nx d b))) := e24
  refine hK _ _ ?_
  clear hK K
  simp only [Act.put, List.setIfInBounds_toArray, List.set_cons_zero, List.set_cons_succ]
  refine wpList_new (n := 34) rfl rfl rfl rfl rfl rfl (by simp) run_alloc_en infoE' (fun _ => enF_one _ _ _ _) rfl ?_
  intro w2 hn2 r8
  refine wpList_end rfl ?_
  simp only [Act.put, List.setIfInBounds_toArray, List.set_cons_zero, List.set_cons_succ]
  obtain ⟨g8, hg8⟩ : ∃ g8, w1.heap.size = g8 := ⟨_, rfl⟩
  have hg8w : w.heap.size ≤ g8 := by rw [← hg8]; exact hN1.out.size
  rw [hg8] at r8 ⊢
  have R8 := Lib.hid r8
  have HN2 := Lib.hid (NewT.trans _ _ _ hN1 hn2)
  have HU5 := Lib.hid (HN2.out.rd HU.out)
  have RG5 := Lib.hid (HN2.out.row RG.out)
  obtain ⟨zz, HZ⟩ := hid_ex (numL b.length ++ b ++ mkL (nx d b))
  have HZE : Hid (entL nx mkL d b = zz) := Lib.hid HZ.out
  clear hN1 hn2 r8 hg8
  go_simp
  go_upto_region 6 with fail
  refine wp_region_rely_tail (NewT) [SV.eq (.pointer (some ⟨g, 0, none⟩)), SV.eq (.pointer (some ⟨g, 0, none⟩)), SV.eq (.pointer (some ⟨g, 34, none⟩)), SV.eq (.pointer (some ⟨dk, 0, none⟩)), SV.eq (.agg (rowA 34 (enF (((p : Int) + esz (List.length b : Int))) (((es.length : Int) + 1)) (nx d b)))), svRd (b), svRd (zz)] [([(0, none)], none), ([(25, some 0)], none), ([(26, some 1)], none), ([(27, some 2)], none), ([(5, none)], none), ([(1, none)], none), ([(29, some 4), (30, some 5)], none)] 40 7 (by kernel_rfl) rfl rfl (Nat.zero_lt_succ _) (by kernel_rfl) (by kernel_rfl) (by kernel_rfl) NewT.trans (NewT.drew _) (Nat.le_of_ble_eq_true rfl) ⟨?_, ?_, ?_, ?_, ?_, ?_, ?_, trivial⟩ ?_
  · exact fun a wx hT hF K hK => rely_wp rfl (opr_move (.inl rfl) (hK _ _ (NewT.refl _) hF.1))
  · exact fun a wx hT hF K hK => rely_wp rfl (opr_nilc rfl hF.1 (hK _ _ (NewT.refl _) rfl))
  · exact fun a wx hT hF K hK => rely_wp rfl (opr_fldG1 rfl hF.1 (hK _ _ (NewT.refl _) rfl))
  · exact fun a wx hT hF K hK => rely_wp rfl (opr_ldPD (hT.row RG5.out) (by decide) rfl rfl hF.1 (hK _ _ (NewT.refl _) rfl))
  · exact fun a wx hT hF K hK => rely_wp rfl ((fun hr => opr_ldE hr (Nat.le_refl _) (fun _ _ => rfl)) (hT.row R8.out) rfl hF.1 (hK _ _ (NewT.refl _) rfl))
  · intro a wx hT hF K hK
    obtain ⟨f1, _⟩ := hF
    have f1 : a.tmps.getD 1 undef = (.slice A1 b.length c1) := f1
    refine rely_wp rfl ?_
    exact opr_move (.inl rfl) (hK _ _ (NewT.refl _) (by rw [eval_tmp, f1]; exact hT.rd HU5.out))
  · exact fun a wx hT hF K hK => rely_wp rfl (opr_cv (Stored_cv _ b zz ((p : Int) + esz (List.length b : Int)) ((es.length : Int) + 1) (nx d b) wx hF.2.1 (by have := HOK.out.2; omega) HZ.out) rfl Tryd.func37 (by kernel_rfl) (by kernel_rfl) (evs2 hF.1 rfl) hK)
  · intro wb kb
    iterate 5 (intro u h; obtain rfl := Eq.symm (h (by simp)); clear h)
    intro _ _
    intro u31 h; have g31 := h (by simp); clear h; replace g31 := show (svRd (zz)).pred u31 wb from g31
    refine relyEnd_nil rfl ?_
    simp only [Act.put, List.setIfInBounds_toArray, List.set_cons_zero, List.set_cons_succ]
    refine wpList_plain rfl (fun K hK => ?_)
    refine opr_call rfl Tryd.func27 (by kernel_rfl) (by kernel_rfl) (by simp only [List.map_toArray, List.map_cons, List.map_nil, eval_tmp]; rfl) ((Write_ok dk v room (encL nx mkL hash0 es) n _ zz wb (H.out.disk.new (NewT.trans _ _ _ HN2.out kb)) g31 (by have := HR.out; rw [encL_snoc, hd.out, HZE.out, List.length_append] at this; exact this)).mono ?_)
    rintro _ w3 ⟨rfl, v', hD3, hA3⟩
    refine ⟨_, rfl, hK _ _ ?_⟩
    clear hK K
    simp only [Act.put, List.setIfInBounds_toArray, List.set_cons_zero, List.set_cons_succ]
    refine wpList_plain rfl (fun K hK => ?_)
    refine opr_move (.inr rfl) (hK _ _ ?_)
    clear hK K
    refine wpList_end rfl ?_
    simp only [Act.put, List.setIfInBounds_toArray, List.set_cons_zero, List.set_cons_succ]
    go_simp
    have h8n : g8 ∉ dk :: v.ownBlock.toList := by
      simp
      refine ⟨by omega, fun h => ?_⟩
      have := (H.out.disk.own.lt _ h).2
      omega
    have RG3 := Lib.hid (hD3.row H.out.apart (kb.row RG5.out))
    have R83 := Lib.hid (hD3.row h8n (kb.row R8.out))
    have HA3 := Lib.hid hA3
    have HD3 := Lib.hid hD3
    clear hA3 hD3
    go_upto_region 9 with fail
    refine wp_region_lit ?_
    refine wpList_plain rfl (fun K hK => ?_)
    refine opr_move (.inl rfl) (hK _ _ ?_)
    clear hK K
    simp only [Act.put, List.setIfInBounds_toArray, List.set_cons_zero, List.set_cons_succ]
    refine wpList_plain rfl (fun K hK => ?_)
    refine opr_ldE R83.out (Nat.le_refl _) (fun _ _ => rfl) rfl rfl (hK _ _ ?_)
    clear hK K
    simp only [Act.put, List.setIfInBounds_toArray, List.set_cons_zero, List.set_cons_succ]
    refine wpList_plain rfl (fun K hK => ?_)
    refine opr_nilc rfl rfl (hK _ _ ?_)
    clear hK K
    simp only [Act.put, List.setIfInBounds_toArray, List.set_cons_zero, List.set_cons_succ]
    refine wpList_plain rfl (fun K hK => ?_)
    refine opr_fldG0 rfl rfl (hK _ _ ?_)
    clear hK K
    simp only [Act.put, List.setIfInBounds_toArray, List.set_cons_zero, List.set_cons_succ]
    refine wpList_plain rfl (fun K hK => ?_)
    refine opr_putm (g := g) (o0 := 0) (m := 34) (f := enF ((p : Int) + esz (List.length b : Int)) ((es.length : Int) + 1) (nx d b)) (F := lgF ((p : Int) + esz (List.length b : Int)) ((es.length : Int) + 1) (nx d b) (.pointer (some ⟨dk, 0, none⟩))) rfl rfl rfl RG3.out (by decide) infoE' (fun _ => enF_one _ _ _ _) (fun i hi => lgF_set _ _ _ _ _ _ _ i hi) ?_
    intro w4 hR4 r4
    refine hK _ _ ?_
    clear hK K
    refine wpList_end rfl ?_
    simp only [Act.put, List.setIfInBounds_toArray, List.set_cons_zero, List.set_cons_succ]
    go_simp
    go_wp2
    go_ret
    have hlate := H.out.late
    refine ⟨rfl, v', (LStep.new hgl.1 (NewT.trans _ _ _ HN2.out kb)).trans ((LStep.of_d HD3.out).trans (LStep.of_rt hlate hR4)), ?_, ?_, ?_, ?_, hlate⟩
    · have e1 : ((encL nx mkL hash0 (es ++ [b])).length : Int) = (p : Int) + esz (b.length : Int) := by
        rw [encL_snoc, List.length_append, hp.out, esz_ok HOK.out nx (chL nx hash0 es)]; omega
      have e2 : ((es ++ [b]).length : Int) = (es.length : Int) + 1 := by rw [List.length_append]; rfl
      have e3 : chL nx hash0 (es ++ [b]) = nx d b := by rw [chL_snoc, hd.out]
      rw [e1, e2, e3]
      exact r4
    · have := HA3.out.keep hR4.keep (L := [g]) (by simp; omega) (fun k hk hm => by
        have h5 := HD3.out.apart (kb.row RG5.out).lt H.out.apart
        simp at hm h5
        subst hm
        exact h5.2 hk)
      rw [encL_snoc, hd.out, HZE.out]
      exact this
    · intro e he
      rcases List.mem_append.1 he with he | he
      · exact H.out.ok e he
      · simp at he; subst he; exact HOK.out
    · exact HD3.out.apart (kb.row RG5.out).lt H.out.apart
set_option maxHeartbeats 400000 in
theorem Append_arg (g : Nat) (u : Value) (w : World) (hu : RdV w [] u []) : Cv 17 #[.pointer (some ⟨g, 0, none⟩), u] w (.eq (.int .i64 1)) := by
  unfold Cv
  have HU := Lib.hid hu
  clear hu
  go_enter Tryd.func17, Tryd.ntmps17
  go_wp2_with (go_at_call 14; refine (Put_arg g _ w HU.out).eq.mono ?_; rintro _ w1 ⟨rfl, hN⟩)
  go_ret
  exact ⟨_, rfl, hN, rfl⟩
set_option maxHeartbeats 400000 in
theorem Append_long (g : Nat) (u : Value) (b : List UInt8) (w : World) (hu : RdV w [] u b) (hb : 2000 < b.length) : Cv 17 #[.pointer (some ⟨g, 0, none⟩), u] w (.eq (.int .i64 4)) := by
  unfold Cv
  have HU := Lib.hid hu
  have HB := Lib.hid hb
  clear hu hb
  go_enter Tryd.func17, Tryd.ntmps17
  go_wp2_with (go_at_call 14; refine (Put_long g _ b w HU.out HB.out).eq.mono ?_; rintro _ w1 ⟨rfl, hN⟩)
  go_ret
  exact ⟨_, rfl, hN, rfl⟩
set_option maxHeartbeats 400000 in
theorem Append_full (hX : LogH nx) (g dk : Nat) (v : Value) (room : Nat) (es : List (List UInt8)) (n : Nat) (u : Value) (b : List UInt8) (w : World) (hT : Tables w) (h : LogAt nx w g dk v room es n) (hu : RdV w [] u b) (hb : okE b) (hr : room < (encL nx mkL hash0 (es ++ [b])).length) : Cv 17 #[.pointer (some ⟨g, 0, none⟩), u] w (.eq (.int .i64 5)) := by
  unfold Cv
  have HU := Lib.hid hu
  have HB := Lib.hid hb
  have HT := Lib.hid hT
  have H := Lib.hid h
  have HR := Lib.hid hr
  clear hT h hu hb hr
  go_enter Tryd.func17, Tryd.ntmps17
  go_wp2_with (go_at_call 14; refine (Put_full hX g dk v room es n _ b w HT.out H.out HU.out HB.out HR.out).eq.mono ?_; rintro _ w1 ⟨rfl, hN⟩)
  go_ret
  exact ⟨_, rfl, hN, rfl⟩
set_option maxHeartbeats 4000000 in
theorem Append_ok (hX : LogH nx) (g dk : Nat) (v : Value) (room : Nat) (es : List (List UInt8)) (n : Nat) (u : Value) (b : List UInt8) (w : World) (hT : Tables w) (h : LogAt nx w g dk v room es n) (hu : RdV w [] u b) (hb : okE b) (hr : (encL nx mkL hash0 (es ++ [b])).length ≤ room) : Calls Tryd.prog 17 #[.pointer (some ⟨g, 0, none⟩), u] w fun e w' => e = .returned (.int .i64 0) ∧ ∃ v', LStep g dk v w w' v' ∧ LogAt nx w' g dk v' room (es ++ [b]) (encL nx mkL hash0 (es ++ [b])).length := by
  have HU := Lib.hid hu
  have HB := Lib.hid hb
  have HT := Lib.hid hT
  have H := Lib.hid h
  have HR := Lib.hid hr
  clear hT h hu hb hr
  go_enter Tryd.func17, Tryd.ntmps17
  go_wp2_with (first
    | (go_at_call 14
       refine (Put_ok hX g dk v room es n _ b w HT.out H.out HU.out HB.out HR.out).mono ?_
       rintro _ w1 ⟨rfl, v1, hS1, hA1⟩
       have HS1 := Lib.hid hS1
       have HA1 := Lib.hid hA1
       have c34 : w1.cell? ⟨g, 34, none⟩ = some (.pointer (some ⟨dk, 0, none⟩)) := HA1.out.row.cell (i := 34) (by omega)
       clear hS1 hA1)
    | (go_at_call 30
       refine (Sync_c dk v1 room _ n w1 HA1.out.disk).mono ?_
       rintro _ w2 ⟨rfl, v2, hD2, hA2⟩))
  go_ret
  have hA := HA1.out
  exact ⟨rfl, v2, HS1.out.trans (LStep.of_d hD2), hD2.row hA.apart hA.row, hA2, hA.ok, hD2.apart hA.row.lt hA.apart, hA.late⟩
end Go.Proofs.YtbejolbknimmmaaDoor
/- The laws' question whether the log answers as the document's example. -/
namespace Go.Proofs.YtbejolbknimmmaaDoor
open Go Go.RowKit
set_option maxRecDepth 8000
set_option linter.all false
attribute [local go_sem] conv_bytes
theorem lit_a (w : World) : RdV (w.alloc (.cells #[.int .u8 97] 5 (1, 2))) [] (.slice (some ⟨w.heap.size, 0, none⟩) 1 1) [97] :=
  rdV_lit (l := [97]) (by simp) (by unfold maxLen; simp) fun i hi => by
    rw [cell_new_fr _ _ _ _ _ _ rfl]
    match i, hi with
    | 0, _ => rfl
theorem lit_bc (w : World) : RdV (w.alloc (.cells #[.int .u8 98, .int .u8 99] 5 (2, 3))) [] (.slice (some ⟨w.heap.size, 0, none⟩) 2 2) [98, 99] :=
  rdV_lit (l := [98, 99]) (by simp) (by unfold maxLen; simp) fun i hi => by
    rw [cell_new_fr _ _ _ _ _ _ rfl]
    match i, hi with
    | 0, _ => rfl
    | 1, _ => rfl
theorem ne9 : eqH (shaL Kc Fc (ofL 5 [digL hash0, [97]])) (fun _ => 0) = false := by decide +kernel
section
variable {nx : (Nat → UInt8) → List UInt8 → Nat → UInt8}
theorem len_a : (encL nx mkL hash0 [[97]]).length = 10 := by simp [encL, entL_length, sz]
theorem len_abc : (encL nx mkL hash0 [[97], [98, 99]]).length = 21 := by simp [encL, entL_length, sz]
theorem whole_a : whole nx mkL 20 hash0 [[97], [98, 99]] = 1 := by simp [whole, entL_length, sz]
theorem ok_a : okE [97] := by unfold okE; simp
theorem ok_bc : okE [98, 99] := by unfold okE; simp
theorem torn_a : IsLog nx mkL hash0 ((encL nx mkL hash0 [[97], [98, 99]]).take 20) [[97]] := by
  have h := torn nx mkL hash0 [[97], [98, 99]] 20 (by rw [len_abc]; omega) (by intro e he; simp at he; rcases he with rfl | rfl; exact ok_a; exact ok_bc)
  rwa [whole_a] at h
end
/-- A list of entries that is answered. -/
theorem parts_es {w : World} {L : List Nat} {lv : Value} {ps : List (Value × List UInt8)} {es : List (List UInt8)} (h : PartsAt w L lv ps) (he : ps.map (·.2) = es) : ∃ A c, lv = .slice A es.length c ∧ es.length ≤ c := by
  obtain ⟨A, c, hv, h1, _⟩ := h
  refine ⟨A, c, ?_, ?_⟩
  · rw [hv, ← he, List.length_map]
  · rw [← he, List.length_map]; exact h1
theorem parts_one {w : World} {L : List Nat} {A : Option Addr} {n c : Nat} {ps : List (Value × List UInt8)} {e : List UInt8} (h : PartsAt w L (.slice A n c) ps) (he : ps.map (·.2) = [e]) : ∃ b o u, A = some ⟨b, o, none⟩ ∧ w.cell? ⟨b, o, none⟩ = some u ∧ RdV w L u e := by
  obtain ⟨A', c', hv, h1, h2, h3, h4⟩ := h
  cases hv
  match ps, he, h3, h4 with
  | [x], he, h3, h4 =>
    obtain ⟨b, o, hA, _, hc⟩ := h3 (by simp)
    have := hc 0 x rfl
    rw [Nat.add_zero] at this
    simp at he
    exact ⟨b, o, x.1, hA, this, he ▸ h4 x (by simp)⟩
theorem run_eqH0 {d : Nat → UInt8} (h : eqH d (fun _ => 0) = false) (w : World) : (Op.equalIn 10000 48 (.agg (rowA 32 (bF d))) (.agg #[.int .u8 0, .int .u8 0, .int .u8 0, .int .u8 0, .int .u8 0, .int .u8 0, .int .u8 0, .int .u8 0, .int .u8 0, .int .u8 0, .int .u8 0, .int .u8 0, .int .u8 0, .int .u8 0, .int .u8 0, .int .u8 0, .int .u8 0, .int .u8 0, .int .u8 0, .int .u8 0, .int .u8 0, .int .u8 0, .int .u8 0, .int .u8 0, .int .u8 0, .int .u8 0, .int .u8 0, .int .u8 0, .int .u8 0, .int .u8 0, .int .u8 0, .int .u8 0])).run Tryd.prog w = .ok false w := by
  have := equalIn_hash w d (fun _ => 0)
  rw [h] at this
  exact this
set_option maxHeartbeats 4000000 in
theorem alive9_c (w : World) (hT : Tables w) : Cv 9 #[] w (.eq (.bool true)) := by
  obtain ⟨nx, hX⟩ := logH_ex
  unfold Cv
  have HT := Lib.hid hT
  have H1L : Hid (1 < w.heap.size) := Lib.hid hT.size
  clear hT
  obtain ⟨dd, HNE⟩ : ∃ dd, Hid (eqH dd (fun _ => 0) = false ∧ chL nx hash0 [[97]] = dd) := ⟨_, Lib.hid ⟨by rw [show chL nx hash0 [[97]] = nx hash0 [97] from rfl, ← hX.of]; exact ne9, rfl⟩⟩
  have hneq := run_eqH0 HNE.out.1
  have t0 : Hid True := Lib.hid trivial
  go_enter Tryd.func9, Tryd.ntmps9
  go_wp2_with (first
    | (go_at_call 12; clear t0; refine (New_c 100 (by omega) (by omega) w).mono ?_; rintro _ w1 ⟨rfl, hN1, hD1⟩; have H1 := Lib.hid hD1; have N1 := Lib.hid hN1; clear hD1 hN1; have t1 : Hid True := Lib.hid trivial)
    | (go_at_call 11
       clear t1
       refine (Open_c hX w.heap.size _ 100 [] 0 w1 (HT.out.below N1.out.out) H1.out [] (again nx mkL hash0 [] (by simp)) H1L.out).mono ?_
       rintro _ w2 ⟨g, v2, lv, ps, rfl, hg, hD2, hL2, hps, hP⟩
       obtain ⟨A2, c2, rfl, _⟩ := parts_es (hP [] (by simp)) hps
       have H2 := Lib.hid hL2
       have N2 := Lib.hid (hD2.newT N1.out (Nat.le_refl _))
       clear hD2 hL2 hps hP hg
       have t2 : Hid True := Lib.hid trivial)
    | (go_at_call 17
       refine (Append_ok hX g w.heap.size v2 100 [] 0 _ [97] _ (HT.out.below (NewT.trans _ _ _ N2.out (NewT.alloc _ _)).out) (H2.out.new (NewT.alloc _ _)) (lit_a w2) ok_a (by rw [List.nil_append, len_a]; omega)).mono ?_
       rintro _ w3 ⟨rfl, v3, hS3, hL3⟩
       have H3 : Hid (LogAt nx w3 g w.heap.size v3 100 [[97]] 10) := Lib.hid (by rw [List.nil_append, len_a] at hL3; exact hL3)
       have N3 := Lib.hid (hS3.newT (NewT.trans _ _ _ N2.out (NewT.alloc _ _)) (Nat.le_refl _))
       clear hS3 hL3)
    | (go_at_call 14
       refine (Put_ok hX g w.heap.size v3 100 [[97]] 10 _ [98, 99] _ (HT.out.below (NewT.trans _ _ _ N3.out (NewT.alloc _ _)).out) (H3.out.new (NewT.alloc _ _)) (lit_bc w3) ok_bc (by rw [show [[(97 : UInt8)]] ++ [[98, 99]] = [[97], [98, 99]] from rfl, len_abc]; omega)).mono ?_
       rintro _ w4 ⟨rfl, v4, hS4, hL4⟩
       have H4 : Hid (LogAt nx w4 g w.heap.size v4 100 [[97], [98, 99]] 10) := Lib.hid hL4
       have N4 := Lib.hid (hS4.newT (NewT.trans _ _ _ N3.out (NewT.alloc _ _)) (Nat.le_refl _))
       clear hS4 hL4)
    | (go_at_call 21
       clear t2
       refine (Count_c g w.heap.size v4 100 [[97], [98, 99]] 10 w4 H4.out).eq.mono ?_
       rintro _ w5 ⟨rfl, hN5⟩
       have H5 := Lib.hid (H4.out.new hN5)
       have N5 := Lib.hid (NewT.trans _ _ _ N4.out hN5)
       clear hN5)
    | (go_at_call 18
       refine (Crash_c w.heap.size v4 100 _ 10 10 w5 H5.out.disk).mono ?_
       rintro _ w6 ⟨rfl, v6, hD6, hA6⟩
       have H6 : Hid (DiskAt w6 w.heap.size v6 100 ((encL nx mkL hash0 [[97], [98, 99]]).take 20) 20) := Lib.hid (by rw [len_abc] at hA6; exact hA6)
       have N6 := Lib.hid (hD6.newT N5.out (Nat.le_refl _))
       clear hD6 hA6)
    | (go_at_call 11
       refine (Open_c hX w.heap.size v6 100 _ 20 w6 (HT.out.below N6.out.out) H6.out [[97]] torn_a H1L.out).mono ?_
       rintro _ w7 ⟨g7, v7, lv7, ps7, rfl, hg7, hD7, hL7, hps7, hP7⟩
       have hP70 := hP7 [] (by simp)
       obtain ⟨A7, c7, rfl, _⟩ := parts_es hP70 hps7
       obtain ⟨b7, o7, u7, rfl, hc7, hu7⟩ := parts_one hP70 hps7
       obtain ⟨Au, cu, rfl⟩ := rdV_form hu7
       have hcv : (convert 33 9 (.slice Au 1 cu)).run Tryd.prog w7 = .ok (.string ⟨#[97]⟩) w7 := conv_rdQ hu7
       have H7 : Hid (LogAt nx w7 g7 w.heap.size v7 100 [[97]] 10) := Lib.hid (by rw [len_a] at hL7; exact hL7)
       have N7 := Lib.hid (hD7.newT N6.out (Nat.le_refl _))
       clear hD7 hL7 hps7 hP7 hP70 hg7 hu7)
    | (go_at_call 21
       refine (Count_c g7 w.heap.size v7 100 [[97]] 10 w7 H7.out).eq.mono ?_
       rintro _ w8 ⟨rfl, hN8⟩
       have H8 := Lib.hid (H7.out.new hN8)
       have N8 := Lib.hid (NewT.trans _ _ _ N7.out hN8)
       clear hN8)
    | (go_at_call 25
       refine Calls.mono (DBytes_c w.heap.size v7 100 _ 10 w8 H8.out.disk) ?_
       rintro _ w9 ⟨v9, rfl, hN9, hv9⟩
       obtain ⟨A9, c9, rfl⟩ := rdV_form (FreshB.rd hv9)
       rw [len_a]
       have H9 := Lib.hid (H8.out.new hN9)
       have N9 := Lib.hid (NewT.trans _ _ _ N8.out hN9)
       clear hN9 hv9)
    | (go_at_call 28
       refine (LSize_cv _ 1 w9).eq.mono ?_
       rintro _ w10 ⟨rfl, hN10⟩
       rw [show esz 1 = 10 from by decide]
       have H10 := Lib.hid (H9.out.new hN10)
       have N10 := Lib.hid (NewT.trans _ _ _ N9.out hN10)
       clear hN10)
    | (go_at_call 22
       refine (Chain_c g7 w.heap.size v7 100 [[97]] 10 w10 H10.out).eq.mono ?_
       rintro _ w11 ⟨rfl, hN11⟩
       rw [HNE.out.2]
       have N11 := Lib.hid (NewT.trans _ _ _ N10.out hN11)
       clear hN11))
  go_ret
  exact ⟨_, rfl, N11.out, rfl⟩
end Go.Proofs.YtbejolbknimmmaaDoor
