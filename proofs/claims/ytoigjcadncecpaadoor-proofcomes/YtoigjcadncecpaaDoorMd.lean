/- Two roots above a beginning: as many hashes as it takes, and fewer. -/
import Derived.Test.YtoigjcadncecpaaDoorMc
import Derived.Test.YtoigjcadncecpaaDoorMa
import Derived.Test.YtoigjcadncecpaaDoorMb
set_option linter.all false
namespace Go.Proofs.YtoigjcadncecpaaDoor
open Go Go.RowKit
set_option maxRecDepth 8000
set_option linter.all false
set_option maxHeartbeats 1000000 in
theorem told_c (old : Hs) (bo : Nat) (w : World) (h : w.rowIs bo 29 32 (bF old)) : Calls Tryd.prog 36 #[.pointer (some ⟨bo, 0, none⟩)] w fun e w' => e = .returned (.agg (rowA 32 (bF old))) ∧ NewT w w' := by
  have RB := Lib.hid h
  clear h
  go_enter Tryd.func36, Tryd.ntmps36
  go_upto_region 1 with fail
  have r0 := rowIs_box w 29 32 (bF fun _ => 0)
  have hN : NewT w (w.alloc (.cells (rowA 32 (bF fun _ => 0)) 29)) := (NewT.alloc _ _)
  change Code.wp _ _ _ _ (w.alloc (.cells (rowA 32 (bF fun _ => 0)) 29))
  generalize (w.alloc (.cells (rowA 32 (bF fun _ => 0)) 29)) = W0 at r0 hN ⊢
  have R0 := Lib.hid r0
  have HN := Lib.hid hN
  replace RB := Lib.hid (hN.row RB.out)
  clear r0 hN
  refine wp_region_steps0 NewT [SV.eq (.agg (rowA 32 (bF (old))))] [([(0, none)], none)] 3 1 rfl rfl (by kernel_rfl) NewT.trans (NewT.refl _) (Nat.le_of_ble_eq_true rfl) ⟨?_, trivial⟩ ?_
  · intro a wx hT hF K hK
    obtain ⟨f0, _⟩ := hF
    have f0 : a.tmps.getD 0 undef = .pointer (some ⟨bo, 0, none⟩) := f0
    refine rely_wp rfl ?_
    exact opr_load_hash rfl f0 (hT.row RB.out) (hK _ _ (NewT.refl _) rfl)
  · intro wx hT
    intro u h; obtain rfl := Eq.symm (h (by simp)); clear h
    refine relyEnd_nil rfl ?_
    simp only [Act.put, List.setIfInBounds_toArray, List.set_cons_zero, List.set_cons_succ]
    refine wpList_plain rfl (fun K hK => ?_)
    refine opr_store_new (B := w.heap.size) (W := w) info31 rfl rfl rfl (hT.row R0.out) (NewT.trans _ _ _ HN.out hT) (by omega) ?_
    intro w9 hB9 r9
    refine hK _ _ ?_
    refine wpList_end rfl ?_
    simp only [Act.put]
    go_simp
    go_wp2
    exact bodyPost_ret (results_row rfl _ rfl r9 Tryd.underlying29 info31) rfl ⟨rfl, NewT.of hB9⟩
set_option maxHeartbeats 1000000 in
theorem rootsAbove_told (old : Hs) (n g bo k : Nat) (path : List Hs) (w : World) (h : TkAt w g path k) (hbo : w.rowIs bo 29 32 (bF old)) :
    Calls Tryd.prog 35 #[.int .i64 (n : Int), .int .i64 (n : Int), .func (.func 36) #[] #[.pointer (some ⟨bo, 0, none⟩)], .func (.func 46) #[] #[.pointer (some ⟨g, 0, none⟩)]] w fun e w' => e = .returned (.agg (rowA 64 (rtF old old))) ∧ RT g w w' ∧ TkAt w' g path k := by
  have HB := Lib.hid hbo
  clear hbo
  have HG := Lib.hid h.lt
  have HTK := Lib.hid h
  clear h
  go_enter Tryd.func35, Tryd.ntmps35
  go_upto_region 2 with fail
  have r8 := rowIs_box w 51 64 (rtF (fun _ => 0) (fun _ => 0))
  have hN : NewT w (w.alloc (.cells (rowA 64 (rtF (fun _ => 0) (fun _ => 0))) 51)) := (NewT.alloc _ _)
  change Code.wp _ _ _ _ (w.alloc (.cells (rowA 64 (rtF (fun _ => 0) (fun _ => 0))) 51))
  generalize (w.alloc (.cells (rowA 64 (rtF (fun _ => 0) (fun _ => 0))) 51)) = W0 at r8 hN ⊢
  have R8 := Lib.hid r8
  have HR := Lib.hid (RT.new HG.out hN)
  replace HTK := Lib.hid (HTK.out.new hN)
  refine wp_region_lit ?_
  refine wpList_plain rfl (fun K hK => ?_)
  refine opr_move (.inl rfl) (hK _ _ ?_)
  clear hK K
  refine wpList_plain rfl (fun K hK => ?_)
  refine opr_callv (cap := #[.pointer (some ⟨bo, 0, none⟩)]) rfl rfl Tryd.func36 (by kernel_rfl) (by kernel_rfl) (vs := #[.pointer (some ⟨bo, 0, none⟩)]) (by simp only [List.map_toArray, List.map_nil]; rfl) ((told_c old bo _ (hN.row HB.out)).mono ?_)
  rintro e w4 ⟨rfl, hN4⟩
  have hR4 := RT.new (R := g) HTK.out.lt hN4
  have hk4 := HTK.out.new hN4
  refine ⟨_, rfl, hK _ _ ?_⟩
  clear hK K
  simp only [Act.put, List.setIfInBounds_toArray, List.set_cons_zero, List.set_cons_succ]
  refine wpList_new (n := 32) rfl rfl rfl rfl rfl rfl (by simp) run_alloc_hash info31 (fun _ => rfl) rfl ?_
  intro w5 hn5 r5
  refine wpList_end rfl ?_
  simp only [Act.put, List.setIfInBounds_toArray, List.set_cons_zero, List.set_cons_succ]
  go_simp
  have hg := HG.out
  obtain ⟨p9, hp9⟩ : ∃ p, w4.heap.size = p := ⟨_, rfl⟩
  rw [hp9] at r5 ⊢
  have R9 := Lib.hid r5
  replace R8 := Lib.hid (hn5.row (hR4.row (by omega) R8.out))
  replace HTK := Lib.hid (hk4.new hn5)
  replace HR := Lib.hid (RT.trans _ _ _ HR.out (RT.trans _ _ _ hR4 (RT.new hk4.lt hn5)))
  clear hk4 hR4 r5 hn5 hp9 r8 hN
  go_upto_region 3 with fail
  refine wp_region_steps0 NewT [SV.eq (.agg (rowA 32 (bF (old)))), SV.eq (.agg (rowA 32 (bF (old)))), SV.eq ((.agg (rowA 64 (rtF (old) (old)))))] [([(9, none)], none), ([(9, none)], none), ([(19, some 0), (20, some 1)], none)] 59 3 rfl rfl (by kernel_rfl) NewT.trans (NewT.refl _) (Nat.le_of_ble_eq_true rfl) ⟨?_, ?_, ?_, trivial⟩ ?_
  · intro a wx hT hF K hK
    obtain ⟨f9, _⟩ := hF
    have f9 : a.tmps.getD 9 undef = .pointer (some ⟨p9, 0, none⟩) := f9
    refine rely_wp rfl ?_
    exact opr_load_hash rfl f9 (hT.row R9.out) (hK _ _ (NewT.refl _) rfl)
  · intro a wx hT hF K hK
    obtain ⟨f9, _⟩ := hF
    have f9 : a.tmps.getD 9 undef = .pointer (some ⟨p9, 0, none⟩) := f9
    refine rely_wp rfl ?_
    exact opr_load_hash rfl f9 (hT.row R9.out) (hK _ _ (NewT.refl _) rfl)
  · intro a wx hT hF K hK
    obtain ⟨f19, f20, _⟩ := hF
    have f19 : a.tmps.getD 19 undef = .agg (rowA 32 (bF (old))) := f19
    have f20 : a.tmps.getD 20 undef = .agg (rowA 32 (bF (old))) := f20
    refine rely_wp rfl ?_
    exact opr_bldB rfl f19 f20 (hK _ _ (NewT.refl _) rfl)
  · intro w8 hT
    intro u h; obtain rfl := Eq.symm (h (by simp)); clear h
    intro u h; obtain rfl := Eq.symm (h (by simp)); clear h
    intro u h; obtain rfl := Eq.symm (h (by simp)); clear h
    refine relyEnd_nil rfl ?_
    simp only [Act.put, List.setIfInBounds_toArray, List.set_cons_zero, List.set_cons_succ]
    refine wpList_plain rfl (fun K hK => ?_)
    refine opr_putm (F := rtF old old) rfl rfl rfl (hT.row R8.out) (by decide) infoB (rtF_one _ _) (fun i hi => by rw [if_pos (by omega), Nat.sub_zero]) ?_
    intro w9 hR9 r9
    refine hK _ _ ?_
    refine wpList_end rfl ?_
    simp only [Act.put]
    go_simp
    go_wp2
    exact bodyPost_ret (results_agg rfl _ rfl r9 Tryd.underlying51 rfl infoB) rfl ⟨rfl, RT.late2 (RT.trans _ _ _ HR.out (RT.new (by have := HTK.out.lt; omega) hT)) (Nat.le_refl _) HG.out hR9, TkAt.late (HTK.out.new hT) hR9 HG.out⟩
set_option maxHeartbeats 1000000 in
theorem rootsAbove_take (d : Hs) (n g k : Nat) (path : List Hs) (w : World) (h : TkAt w g path (k + 1)) (hd : path[k]? = some d) (hk : k ≤ 1000000) :
    Calls Tryd.prog 35 #[.int .i64 (n : Int), .int .i64 (n : Int), .func (.func 46) #[] #[.pointer (some ⟨g, 0, none⟩)], .func (.func 46) #[] #[.pointer (some ⟨g, 0, none⟩)]] w fun e w' => e = .returned (.agg (rowA 64 (rtF d d))) ∧ RT g w w' ∧ TkAt w' g path k := by
  have HD := Lib.hid hd
  have HK := Lib.hid hk
  clear hd hk
  have HG := Lib.hid h.lt
  have HTK := Lib.hid h
  clear h
  go_enter Tryd.func35, Tryd.ntmps35
  go_upto_region 2 with fail
  have r8 := rowIs_box w 51 64 (rtF (fun _ => 0) (fun _ => 0))
  have hN : NewT w (w.alloc (.cells (rowA 64 (rtF (fun _ => 0) (fun _ => 0))) 51)) := (NewT.alloc _ _)
  change Code.wp _ _ _ _ (w.alloc (.cells (rowA 64 (rtF (fun _ => 0) (fun _ => 0))) 51))
  generalize (w.alloc (.cells (rowA 64 (rtF (fun _ => 0) (fun _ => 0))) 51)) = W0 at r8 hN ⊢
  have R8 := Lib.hid r8
  have HR := Lib.hid (RT.new HG.out hN)
  replace HTK := Lib.hid (HTK.out.new hN)
  refine wp_region_lit ?_
  refine wpList_plain rfl (fun K hK => ?_)
  refine opr_move (.inl rfl) (hK _ _ ?_)
  clear hK K
  refine wpList_plain rfl (fun K hK => ?_)
  refine opr_callv (cap := #[.pointer (some ⟨g, 0, none⟩)]) rfl rfl Tryd.func46 (by kernel_rfl) (by kernel_rfl) (vs := #[.pointer (some ⟨g, 0, none⟩)]) (by simp only [List.map_toArray, List.map_nil]; rfl) ((takeB_ok g k path d _ HTK.out HD.out HK.out).mono ?_)
  rintro e w4 ⟨rfl, hR4, hk4⟩
  
  
  refine ⟨_, rfl, hK _ _ ?_⟩
  clear hK K
  simp only [Act.put, List.setIfInBounds_toArray, List.set_cons_zero, List.set_cons_succ]
  refine wpList_new (n := 32) rfl rfl rfl rfl rfl rfl (by simp) run_alloc_hash info31 (fun _ => rfl) rfl ?_
  intro w5 hn5 r5
  refine wpList_end rfl ?_
  simp only [Act.put, List.setIfInBounds_toArray, List.set_cons_zero, List.set_cons_succ]
  go_simp
  have hg := HG.out
  obtain ⟨p9, hp9⟩ : ∃ p, w4.heap.size = p := ⟨_, rfl⟩
  rw [hp9] at r5 ⊢
  have R9 := Lib.hid r5
  replace R8 := Lib.hid (hn5.row (hR4.row (by omega) R8.out))
  replace HTK := Lib.hid (hk4.new hn5)
  replace HR := Lib.hid (RT.trans _ _ _ HR.out (RT.trans _ _ _ hR4 (RT.new hk4.lt hn5)))
  clear hk4 hR4 r5 hn5 hp9 r8 hN
  go_upto_region 3 with fail
  refine wp_region_steps0 NewT [SV.eq (.agg (rowA 32 (bF (d)))), SV.eq (.agg (rowA 32 (bF (d)))), SV.eq ((.agg (rowA 64 (rtF (d) (d)))))] [([(9, none)], none), ([(9, none)], none), ([(19, some 0), (20, some 1)], none)] 59 3 rfl rfl (by kernel_rfl) NewT.trans (NewT.refl _) (Nat.le_of_ble_eq_true rfl) ⟨?_, ?_, ?_, trivial⟩ ?_
  · intro a wx hT hF K hK
    obtain ⟨f9, _⟩ := hF
    have f9 : a.tmps.getD 9 undef = .pointer (some ⟨p9, 0, none⟩) := f9
    refine rely_wp rfl ?_
    exact opr_load_hash rfl f9 (hT.row R9.out) (hK _ _ (NewT.refl _) rfl)
  · intro a wx hT hF K hK
    obtain ⟨f9, _⟩ := hF
    have f9 : a.tmps.getD 9 undef = .pointer (some ⟨p9, 0, none⟩) := f9
    refine rely_wp rfl ?_
    exact opr_load_hash rfl f9 (hT.row R9.out) (hK _ _ (NewT.refl _) rfl)
  · intro a wx hT hF K hK
    obtain ⟨f19, f20, _⟩ := hF
    have f19 : a.tmps.getD 19 undef = .agg (rowA 32 (bF (d))) := f19
    have f20 : a.tmps.getD 20 undef = .agg (rowA 32 (bF (d))) := f20
    refine rely_wp rfl ?_
    exact opr_bldB rfl f19 f20 (hK _ _ (NewT.refl _) rfl)
  · intro w8 hT
    intro u h; obtain rfl := Eq.symm (h (by simp)); clear h
    intro u h; obtain rfl := Eq.symm (h (by simp)); clear h
    intro u h; obtain rfl := Eq.symm (h (by simp)); clear h
    refine relyEnd_nil rfl ?_
    simp only [Act.put, List.setIfInBounds_toArray, List.set_cons_zero, List.set_cons_succ]
    refine wpList_plain rfl (fun K hK => ?_)
    refine opr_putm (F := rtF d d) rfl rfl rfl (hT.row R8.out) (by decide) infoB (rtF_one _ _) (fun i hi => by rw [if_pos (by omega), Nat.sub_zero]) ?_
    intro w9 hR9 r9
    refine hK _ _ ?_
    refine wpList_end rfl ?_
    simp only [Act.put]
    go_simp
    go_wp2
    exact bodyPost_ret (results_agg rfl _ rfl r9 Tryd.underlying51 rfl infoB) rfl ⟨rfl, RT.late2 (RT.trans _ _ _ HR.out (RT.new (by have := HTK.out.lt; omega) hT)) (Nat.le_refl _) HG.out hR9, TkAt.late (HTK.out.new hT) hR9 HG.out⟩
set_option maxHeartbeats 1000000 in
theorem rootsAbove_taken (n g : Nat) (path : List Hs) (w : World) (h : TkAt w g path 0) : Calls Tryd.prog 35 #[.int .i64 (n : Int), .int .i64 (n : Int), .func (.func 46) #[] #[.pointer (some ⟨g, 0, none⟩)], .func (.func 46) #[] #[.pointer (some ⟨g, 0, none⟩)]] w fun e w' => e = .panicked fewP ∧ RT g w w' := by
  have HG := Lib.hid h.lt
  have HTK := Lib.hid h
  clear h
  go_enter Tryd.func35, Tryd.ntmps35
  go_upto_region 2 with fail
  have r8 := rowIs_box w 51 64 (rtF (fun _ => 0) (fun _ => 0))
  have hN : NewT w (w.alloc (.cells (rowA 64 (rtF (fun _ => 0) (fun _ => 0))) 51)) := (NewT.alloc _ _)
  change Code.wp _ _ _ _ (w.alloc (.cells (rowA 64 (rtF (fun _ => 0) (fun _ => 0))) 51))
  generalize (w.alloc (.cells (rowA 64 (rtF (fun _ => 0) (fun _ => 0))) 51)) = W0 at r8 hN ⊢
  have R8 := Lib.hid r8
  have HR := Lib.hid (RT.new HG.out hN)
  replace HTK := Lib.hid (HTK.out.new hN)
  refine wp_region_lit ?_
  refine wpList_plain rfl (fun K hK => ?_)
  refine opr_move (.inl rfl) (hK _ _ ?_)
  clear hK K
  refine wpList_plain rfl (fun K hK => ?_)
  refine opr_callvP (cap := #[.pointer (some ⟨g, 0, none⟩)]) rfl rfl Tryd.func46 (by kernel_rfl) (by kernel_rfl) (vs := #[.pointer (some ⟨g, 0, none⟩)]) (by simp only [List.map_toArray, List.map_nil]; rfl) ((takeB_no g path _ HTK.out).mono ?_)
  rintro e w4 ⟨rfl, hR4⟩
  exact ⟨_, rfl, rfl, rfl, RT.trans _ _ _ HR.out hR4⟩
theorem rootsAbove_okf {node : Hs → Hs → Hs} {z : Hs} (hX : TreeH node z) (old : Hs) (g : Nat) (path : List Hs) (hl : path.length ≤ 1000000) : ∀ (b n m k : Nat) (w : World), n ≤ b → 1 ≤ m → m ≤ n → n ≤ 1048576 → TkAt w g path k → needS false m n ≤ k →
    Calls Tryd.prog 35 #[.int .i64 (m : Int), .int .i64 (n : Int), .func (.func 46) #[] #[.pointer (some ⟨g, 0, none⟩)], .func (.func 46) #[] #[.pointer (some ⟨g, 0, none⟩)]] w fun e w' => e = .returned (.agg (rowA 64 (rtF (upB node false old m n (winM path k (needS false m n))).1 (upB node false old m n (winM path k (needS false m n))).2))) ∧ RT g w w' ∧ TkAt w' g path (k - needS false m n) := by
  intro b
  induction b with
  | zero => intro n m k w h1 h2 h3; omega
  | succ b ih =>
    intro n m k w hb1 hm1 hmn hn h hc
    by_cases h1 : m = n
    · subst h1
      rw [needS_all, if_neg (by decide)] at hc ⊢
      obtain ⟨k, rfl⟩ : ∃ k', k = k' + 1 := ⟨k - 1, by omega⟩
      have hkl := h.le
      have hd : path[k]? = some path[k] := List.getElem?_eq_getElem (by omega)
      rw [winM_succ path k 0 _ (by omega) hd, winM_none, List.nil_append, upB_own, Nat.add_sub_cancel]
      exact rootsAbove_take _ m g k path w h hd (by omega)
    · have h2 : 2 ≤ n := by omega
      have hlt : m < n := by omega
      obtain ⟨s1, s2, _⟩ := splitN_lt n h2
      have hs : ∀ w, Cv 40 #[.int .i64 (n : Int)] w (.eq (.int .i64 ((splitN n : Nat) : Int))) := fun w => Split_cv (n : Int) (by omega) (by omega) w
      by_cases hil : m ≤ splitN n
      · rw [needS_l _ _ _ hlt h2 hil] at hc ⊢
        obtain ⟨k, rfl⟩ : ∃ k', k = k' + 1 := ⟨k - 1, by omega⟩
        have hkl := h.le
        have hd : path[k]? = some path[k] := List.getElem?_eq_getElem (by omega)
        have hlen := winM_length path k (needS false m (splitN n)) (by omega) (by omega)
        rw [winM_succ path k _ _ (by omega) hd, upB_l node false old m n _ _ hlt h2 hil hlen, show k + 1 - (needS false m (splitN n) + 1) = k - needS false m (splitN n) by omega]
        exact rootsAbove_lk hX _ _ _ m n (splitN n) g k _ _ path w hlt hn s1 hil hs h hd (by omega) (fun w' hR h' => ih (splitN n) m k w' (by omega) hm1 hil (by omega) h' (by omega))
      · rw [needS_r _ _ _ hlt h2 hil] at hc ⊢
        obtain ⟨k, rfl⟩ : ∃ k', k = k' + 1 := ⟨k - 1, by omega⟩
        have hkl := h.le
        have hd : path[k]? = some path[k] := List.getElem?_eq_getElem (by omega)
        have hlen := winM_length path k (needS false (m - splitN n) (n - splitN n)) (by omega) (by omega)
        rw [winM_succ path k _ _ (by omega) hd, upB_r node false old m n _ _ hlt h2 hil hlen, show k + 1 - (needS false (m - splitN n) (n - splitN n) + 1) = k - needS false (m - splitN n) (n - splitN n) by omega]
        exact rootsAbove_rk hX _ _ _ m n (splitN n) g k _ _ path w hlt hn s1 hil hs h hd (by omega) (fun w' hR h' => ih (n - splitN n) (m - splitN n) k w' (by omega) (by omega) (by omega) (by omega) h' (by omega))
theorem rootsAbove_nof {node : Hs → Hs → Hs} {z : Hs} (hX : TreeH node z) (g : Nat) (path : List Hs) (hl : path.length ≤ 1000000) : ∀ (b n m k : Nat) (w : World), n ≤ b → 1 ≤ m → m ≤ n → n ≤ 1048576 → TkAt w g path k → k < needS false m n →
    Calls Tryd.prog 35 #[.int .i64 (m : Int), .int .i64 (n : Int), .func (.func 46) #[] #[.pointer (some ⟨g, 0, none⟩)], .func (.func 46) #[] #[.pointer (some ⟨g, 0, none⟩)]] w fun e w' => e = .panicked fewP ∧ RT g w w' := by
  intro b
  induction b with
  | zero => intro n m k w h1 h2 h3; omega
  | succ b ih =>
    intro n m k w hb1 hm1 hmn hn h hc
    by_cases h1 : m = n
    · subst h1
      rw [needS_all, if_neg (by decide)] at hc
      obtain rfl : k = 0 := by omega
      exact rootsAbove_taken m g path w h
    · have h2 : 2 ≤ n := by omega
      have hlt : m < n := by omega
      obtain ⟨s1, s2, _⟩ := splitN_lt n h2
      have hs : ∀ w, Cv 40 #[.int .i64 (n : Int)] w (.eq (.int .i64 ((splitN n : Nat) : Int))) := fun w => Split_cv (n : Int) (by omega) (by omega) w
      match k, h, hc with
      | 0, h, _ => exact rootsAbove_0n m n (splitN n) g _ path w hlt hs h
      | k + 1, h, hc =>
        have hkl := h.le
        have hd : path[k]? = some path[k] := List.getElem?_eq_getElem (by omega)
        by_cases hil : m ≤ splitN n
        · rw [needS_l _ _ _ hlt h2 hil] at hc
          exact rootsAbove_ln _ m n (splitN n) g k _ path w hlt hn s1 hil hs h hd (by omega) (fun w' hR h' => ih (splitN n) m k w' (by omega) hm1 hil (by omega) h' (by omega))
        · rw [needS_r _ _ _ hlt h2 hil] at hc
          exact rootsAbove_rn _ m n (splitN n) g k _ path w hlt hn s1 hil hs h hd (by omega) (fun w' hR h' => ih (n - splitN n) (m - splitN n) k w' (by omega) (by omega) (by omega) (by omega) h' (by omega))
theorem rootsAbove_okt {node : Hs → Hs → Hs} {z : Hs} (hX : TreeH node z) (old : Hs) (g bo : Nat) (hbg : bo < g) (path : List Hs) (hl : path.length ≤ 1000000) : ∀ (b n m k : Nat) (w : World), n ≤ b → 1 ≤ m → m ≤ n → n ≤ 1048576 → TkAt w g path k → needS true m n ≤ k → w.rowIs bo 29 32 (bF old) →
    Calls Tryd.prog 35 #[.int .i64 (m : Int), .int .i64 (n : Int), .func (.func 36) #[] #[.pointer (some ⟨bo, 0, none⟩)], .func (.func 46) #[] #[.pointer (some ⟨g, 0, none⟩)]] w fun e w' => e = .returned (.agg (rowA 64 (rtF (upB node true old m n (winM path k (needS true m n))).1 (upB node true old m n (winM path k (needS true m n))).2))) ∧ RT g w w' ∧ TkAt w' g path (k - needS true m n) := by
  intro b
  induction b with
  | zero => intro n m k w h1 h2 h3; omega
  | succ b ih =>
    intro n m k w hb1 hm1 hmn hn h hc hb
    by_cases h1 : m = n
    · subst h1
      rw [needS_all, if_pos rfl, winM_none, upB_told]
      exact rootsAbove_told old m g bo k path w h hb
    · have h2 : 2 ≤ n := by omega
      have hlt : m < n := by omega
      obtain ⟨s1, s2, _⟩ := splitN_lt n h2
      have hs : ∀ w, Cv 40 #[.int .i64 (n : Int)] w (.eq (.int .i64 ((splitN n : Nat) : Int))) := fun w => Split_cv (n : Int) (by omega) (by omega) w
      by_cases hil : m ≤ splitN n
      · rw [needS_l _ _ _ hlt h2 hil] at hc ⊢
        obtain ⟨k, rfl⟩ : ∃ k', k = k' + 1 := ⟨k - 1, by omega⟩
        have hkl := h.le
        have hd : path[k]? = some path[k] := List.getElem?_eq_getElem (by omega)
        have hlen := winM_length path k (needS true m (splitN n)) (by omega) (by omega)
        rw [winM_succ path k _ _ (by omega) hd, upB_l node true old m n _ _ hlt h2 hil hlen, show k + 1 - (needS true m (splitN n) + 1) = k - needS true m (splitN n) by omega]
        exact rootsAbove_lk hX _ _ _ m n (splitN n) g k _ _ path w hlt hn s1 hil hs h hd (by omega) (fun w' hR h' => ih (splitN n) m k w' (by omega) hm1 hil (by omega) h' (by omega) (hR.row (by omega) hb))
      · rw [needS_r _ _ _ hlt h2 hil] at hc ⊢
        obtain ⟨k, rfl⟩ : ∃ k', k = k' + 1 := ⟨k - 1, by omega⟩
        have hkl := h.le
        have hd : path[k]? = some path[k] := List.getElem?_eq_getElem (by omega)
        have hlen := winM_length path k (needS false (m - splitN n) (n - splitN n)) (by omega) (by omega)
        rw [winM_succ path k _ _ (by omega) hd, upB_r node true old m n _ _ hlt h2 hil hlen, show k + 1 - (needS false (m - splitN n) (n - splitN n) + 1) = k - needS false (m - splitN n) (n - splitN n) by omega]
        exact rootsAbove_rk hX _ _ _ m n (splitN n) g k _ _ path w hlt hn s1 hil hs h hd (by omega) (fun w' hR h' => rootsAbove_okf hX old g path hl (n - splitN n) (n - splitN n) (m - splitN n) k w' (Nat.le_refl _) (by omega) (by omega) (by omega) h' (by omega))
theorem rootsAbove_not {node : Hs → Hs → Hs} {z : Hs} (hX : TreeH node z) (old : Hs) (g bo : Nat) (hbg : bo < g) (path : List Hs) (hl : path.length ≤ 1000000) : ∀ (b n m k : Nat) (w : World), n ≤ b → 1 ≤ m → m ≤ n → n ≤ 1048576 → TkAt w g path k → k < needS true m n → w.rowIs bo 29 32 (bF old) →
    Calls Tryd.prog 35 #[.int .i64 (m : Int), .int .i64 (n : Int), .func (.func 36) #[] #[.pointer (some ⟨bo, 0, none⟩)], .func (.func 46) #[] #[.pointer (some ⟨g, 0, none⟩)]] w fun e w' => e = .panicked fewP ∧ RT g w w' := by
  intro b
  induction b with
  | zero => intro n m k w h1 h2 h3; omega
  | succ b ih =>
    intro n m k w hb1 hm1 hmn hn h hc hb
    by_cases h1 : m = n
    · subst h1
      rw [needS_all, if_pos rfl] at hc; omega
    · have h2 : 2 ≤ n := by omega
      have hlt : m < n := by omega
      obtain ⟨s1, s2, _⟩ := splitN_lt n h2
      have hs : ∀ w, Cv 40 #[.int .i64 (n : Int)] w (.eq (.int .i64 ((splitN n : Nat) : Int))) := fun w => Split_cv (n : Int) (by omega) (by omega) w
      match k, h, hc with
      | 0, h, _ => exact rootsAbove_0n m n (splitN n) g _ path w hlt hs h
      | k + 1, h, hc =>
        have hkl := h.le
        have hd : path[k]? = some path[k] := List.getElem?_eq_getElem (by omega)
        by_cases hil : m ≤ splitN n
        · rw [needS_l _ _ _ hlt h2 hil] at hc
          exact rootsAbove_ln _ m n (splitN n) g k _ path w hlt hn s1 hil hs h hd (by omega) (fun w' hR h' => ih (splitN n) m k w' (by omega) hm1 hil (by omega) h' (by omega) (hR.row (by omega) hb))
        · rw [needS_r _ _ _ hlt h2 hil] at hc
          exact rootsAbove_rn _ m n (splitN n) g k _ path w hlt hn s1 hil hs h hd (by omega) (fun w' hR h' => rootsAbove_nof hX g path hl (n - splitN n) (n - splitN n) (m - splitN n) k w' (Nat.le_refl _) (by omega) (by omega) (by omega) h' (by omega))
end Go.Proofs.YtoigjcadncecpaaDoor
/- What a proof's work comes to, and what is made of all its hashes. -/
namespace Go.Proofs.YtoigjcadncecpaaDoor
open Go Go.RowKit
set_option maxRecDepth 8000
set_option linter.all false
set_option maxHeartbeats 1000000 in
theorem Both1_ok {node : Hs → Hs → Hs} {z : Hs} (hX : TreeH node z) (old : Hs) (m n g k bm bn bo : Nat) (path : List Hs) (w : World) (hpl : path.length ≤ 1000000) (hm1 : 1 ≤ m) (hmn : m ≤ n) (hn : n ≤ 1048576) (h : TkAt w g path k) (hc : needS true m n ≤ k) (hbg : bo < g)
    (h1 : w.rowIs bm 3 1 (fun _ => .int .i64 ((m : Int)))) (h2 : w.rowIs bn 3 1 (fun _ => .int .i64 ((n : Int)))) (h3 : w.rowIs bo 29 32 (bF old)) :
    Calls Tryd.prog 34 #[.func (.func 46) #[] #[.pointer (some ⟨g, 0, none⟩)], .pointer (some ⟨bm, 0, none⟩), .pointer (some ⟨bn, 0, none⟩), .pointer (some ⟨bo, 0, none⟩)] w fun e w' => e = .returned (.agg (rowA 64 (rtF (upB node true old m n (winM path k (needS true m n))).1 (upB node true old m n (winM path k (needS true m n))).2))) ∧ RT g w w' ∧ TkAt w' g path (k - needS true m n) := by
  have hg := h.lt
  have HG := Lib.hid h.lt
  have HPL := Lib.hid hpl
  have HM1 := Lib.hid hm1
  have HMN := Lib.hid hmn
  have HN := Lib.hid hn
  have HC := Lib.hid hc
  have HBG := Lib.hid hbg
  have HTK := Lib.hid h
  have R1 := Lib.hid h1
  have R2 := Lib.hid h2
  have R3 := Lib.hid h3
  clear hpl hm1 hmn hn hc h h1 h2 h3 hbg
  go_enter Tryd.func34, Tryd.ntmps34
  go_upto_region 1 with fail
  have r0 := rowIs_box w 51 64 (rtF (fun _ => 0) (fun _ => 0))
  have hN : NewT w (w.alloc (.cells (rowA 64 (rtF (fun _ => 0) (fun _ => 0))) 51)) := (NewT.alloc _ _)
  change Code.wp _ _ _ _ (w.alloc (.cells (rowA 64 (rtF (fun _ => 0) (fun _ => 0))) 51))
  generalize (w.alloc (.cells (rowA 64 (rtF (fun _ => 0) (fun _ => 0))) 51)) = W0 at r0 hN ⊢
  have R0 := Lib.hid r0
  have HR := Lib.hid (RT.new HG.out hN)
  replace R1 := Lib.hid (hN.row R1.out)
  replace R2 := Lib.hid (hN.row R2.out)
  replace R3 := Lib.hid (hN.row R3.out)
  replace HTK := Lib.hid (HTK.out.new hN)
  clear r0 hN
  refine wp_region_lit ?_
  refine wpList_plain rfl (fun K hK => ?_)
  refine opr_ldI R1.out (by decide) rfl rfl rfl (hK _ _ ?_)
  clear hK K
  refine wpList_plain rfl (fun K hK => ?_)
  refine opr_ldI R2.out (by decide) rfl rfl rfl (hK _ _ ?_)
  clear hK K
  refine wpList_plain rfl (fun K hK => ?_)
  refine opr_mkf (cap := #[.pointer (some ⟨bo, 0, none⟩)]) rfl (by simp only [List.map_toArray, List.map_cons, List.map_nil]; rfl) (hK _ _ ?_)
  clear hK K
  refine wpList_plain rfl (fun K hK => ?_)
  refine opr_move (.inl rfl) (hK _ _ ?_)
  clear hK K
  simp only [Act.put, List.setIfInBounds_toArray, List.set_cons_zero, List.set_cons_succ]
  refine wpList_plain rfl (fun K hK => ?_)
  refine opr_call rfl Tryd.func35 (by kernel_rfl) (by kernel_rfl) (vs := #[.int .i64 (m : Int), .int .i64 (n : Int), .func (.func 36) #[] #[.pointer (some ⟨bo, 0, none⟩)], .func (.func 46) #[] #[.pointer (some ⟨g, 0, none⟩)]]) (by simp only [List.map_toArray, List.map_cons, List.map_nil]; rfl) ((rootsAbove_okt hX old g bo HBG.out path HPL.out _ n m k W0 (Nat.le_refl _) HM1.out HMN.out HN.out HTK.out HC.out R3.out).mono ?_)
  rintro e w4 ⟨rfl, hR4, hk4⟩
  refine ⟨_, rfl, hK _ _ ?_⟩
  clear hK K
  refine wpList_plain rfl (fun K hK => ?_)
  refine opr_putm (F := rtF _ _) rfl rfl rfl (hR4.row (by omega) R0.out) (by decide) infoB (rtF_one _ _) (fun i hi => by rw [if_pos (by omega), Nat.sub_zero]) ?_
  intro w9 hR9 r9
  refine hK _ _ ?_
  refine wpList_end rfl ?_
  simp only [Act.put]
  go_simp
  go_wp2
  exact bodyPost_ret (results_agg rfl _ rfl r9 Tryd.underlying51 rfl infoB) rfl ⟨rfl, RT.late2 (RT.trans _ _ _ HR.out hR4) (Nat.le_refl _) HG.out hR9, TkAt.late hk4 hR9 (by omega)⟩
set_option maxHeartbeats 1000000 in
theorem Both1_no {node : Hs → Hs → Hs} {z : Hs} (hX : TreeH node z) (old : Hs) (m n g k bm bn bo : Nat) (path : List Hs) (w : World) (hpl : path.length ≤ 1000000) (hm1 : 1 ≤ m) (hmn : m ≤ n) (hn : n ≤ 1048576) (h : TkAt w g path k) (hc : k < needS true m n) (hbg : bo < g)
    (h1 : w.rowIs bm 3 1 (fun _ => .int .i64 ((m : Int)))) (h2 : w.rowIs bn 3 1 (fun _ => .int .i64 ((n : Int)))) (h3 : w.rowIs bo 29 32 (bF old)) :
    Calls Tryd.prog 34 #[.func (.func 46) #[] #[.pointer (some ⟨g, 0, none⟩)], .pointer (some ⟨bm, 0, none⟩), .pointer (some ⟨bn, 0, none⟩), .pointer (some ⟨bo, 0, none⟩)] w fun e w' => e = .panicked fewP ∧ RT g w w' := by
  have hg := h.lt
  have HG := Lib.hid h.lt
  have HPL := Lib.hid hpl
  have HM1 := Lib.hid hm1
  have HMN := Lib.hid hmn
  have HN := Lib.hid hn
  have HC := Lib.hid hc
  have HBG := Lib.hid hbg
  have HTK := Lib.hid h
  have R1 := Lib.hid h1
  have R2 := Lib.hid h2
  have R3 := Lib.hid h3
  clear hpl hm1 hmn hn hc h h1 h2 h3 hbg
  go_enter Tryd.func34, Tryd.ntmps34
  go_upto_region 1 with fail
  have r0 := rowIs_box w 51 64 (rtF (fun _ => 0) (fun _ => 0))
  have hN : NewT w (w.alloc (.cells (rowA 64 (rtF (fun _ => 0) (fun _ => 0))) 51)) := (NewT.alloc _ _)
  change Code.wp _ _ _ _ (w.alloc (.cells (rowA 64 (rtF (fun _ => 0) (fun _ => 0))) 51))
  generalize (w.alloc (.cells (rowA 64 (rtF (fun _ => 0) (fun _ => 0))) 51)) = W0 at r0 hN ⊢
  have R0 := Lib.hid r0
  have HR := Lib.hid (RT.new HG.out hN)
  replace R1 := Lib.hid (hN.row R1.out)
  replace R2 := Lib.hid (hN.row R2.out)
  replace R3 := Lib.hid (hN.row R3.out)
  replace HTK := Lib.hid (HTK.out.new hN)
  clear r0 hN
  refine wp_region_lit ?_
  refine wpList_plain rfl (fun K hK => ?_)
  refine opr_ldI R1.out (by decide) rfl rfl rfl (hK _ _ ?_)
  clear hK K
  refine wpList_plain rfl (fun K hK => ?_)
  refine opr_ldI R2.out (by decide) rfl rfl rfl (hK _ _ ?_)
  clear hK K
  refine wpList_plain rfl (fun K hK => ?_)
  refine opr_mkf (cap := #[.pointer (some ⟨bo, 0, none⟩)]) rfl (by simp only [List.map_toArray, List.map_cons, List.map_nil]; rfl) (hK _ _ ?_)
  clear hK K
  refine wpList_plain rfl (fun K hK => ?_)
  refine opr_move (.inl rfl) (hK _ _ ?_)
  clear hK K
  simp only [Act.put, List.setIfInBounds_toArray, List.set_cons_zero, List.set_cons_succ]
  refine wpList_plain rfl (fun K hK => ?_)
  refine opr_callP rfl Tryd.func35 (by kernel_rfl) (by kernel_rfl) (vs := #[.int .i64 (m : Int), .int .i64 (n : Int), .func (.func 36) #[] #[.pointer (some ⟨bo, 0, none⟩)], .func (.func 46) #[] #[.pointer (some ⟨g, 0, none⟩)]]) (by simp only [List.map_toArray, List.map_cons, List.map_nil]; rfl) ((rootsAbove_not hX old g bo HBG.out path HPL.out _ n m k W0 (Nat.le_refl _) HM1.out HMN.out HN.out HTK.out HC.out R3.out).mono ?_)
  rintro e w4 ⟨rfl, hR4⟩
  exact ⟨_, rfl, rfl, rfl, RT.trans _ _ _ HR.out hR4⟩
set_option maxHeartbeats 2000000 in
theorem ofAllB_ok (cap : Array Value) (v : Value) (path : List Hs) (p q : Hs) (w : World) (hT : Tables w) (hv : RdH w v path)
    (hwork : ∀ w' g, NewT w w' → w.heap.size ≤ g → TkAt w' g path path.length → Calls Tryd.prog 34 (#[.func (.func 46) #[] #[.pointer (some ⟨g, 0, none⟩)]] ++ cap) w' fun e w'' => e = .returned (.agg (rowA 64 (rtF p q))) ∧ RT g w' w'' ∧ TkAt w'' g path (0)) : Calls Tryd.prog 33 #[v, .func (.func 34) #[] cap] w fun e w' => e = .returned (.tuple #[.agg (rowA 64 (rtF p q)), .bool true]) ∧ NewT w w' := by
  have hmf : ∀ (fn : Fn) (first cap : Array Value) (w : World), (Instr.makeFunc fn first cap).run Tryd.prog w = .ok (.func fn first cap) w := fun _ _ _ _ => rfl
  have HV := Lib.hid hv
  have HT := Lib.hid hT
  have HW := Lib.hid hwork
  obtain ⟨A, c, hvv⟩ := rdH_form hv
  subst hvv
  clear hv hT hwork
  go_enter_defers Tryd.func33, Tryd.ntmps33
  go_upto_region 2 with fail
  clear hmf
  obtain ⟨g, hg⟩ : ∃ g, w.heap.size = g := ⟨_, rfl⟩
  have r2 := ((rowIs_one w 22 (.slice A path.length c)).alloc (.cells (rowA 64 (rtF (fun _ => 0) (fun _ => 0))) 51)).alloc (.cells #[.bool false] 4)
  have r4 := (rowIs_box (w.alloc (.cells #[.slice A path.length c] 22)) 51 64 (rtF (fun _ => 0) (fun _ => 0))).alloc (.cells #[.bool false] 4)
  have r5 := rowIs_one ((w.alloc (.cells #[.slice A path.length c] 22)).alloc (.cells (rowA 64 (rtF (fun _ => 0) (fun _ => 0))) 51)) 4 (.bool false)
  rw [World.size_alloc] at r4
  rw [World.size_alloc, World.size_alloc] at r5
  have hN : NewT w (((w.alloc (.cells #[.slice A path.length c] 22)).alloc (.cells (rowA 64 (rtF (fun _ => 0) (fun _ => 0))) 51)).alloc (.cells #[.bool false] 4)) := NewT.trans _ _ _ (NewT.trans _ _ _ (NewT.alloc _ _) (NewT.alloc _ _)) (NewT.alloc _ _)
  change Code.wp _ _ _ _ (((w.alloc (.cells #[.slice A path.length c] 22)).alloc (.cells (rowA 64 (rtF (fun _ => 0) (fun _ => 0))) 51)).alloc (.cells #[.bool false] 4))
  generalize (((w.alloc (.cells #[.slice A path.length c] 22)).alloc (.cells (rowA 64 (rtF (fun _ => 0) (fun _ => 0))) 51)).alloc (.cells #[.bool false] 4)) = W0 at r2 r4 r5 hN ⊢
  rw [hg] at r2 r4 r5 ⊢
  have HTK : Hid (TkAt W0 g path path.length) := Lib.hid ⟨A, c, w, r2, HT.out, hN, by omega, HV.out, Nat.le_refl _⟩
  have R4 := Lib.hid r4
  have R5 := Lib.hid r5
  have HN := Lib.hid hN
  have HGW : Hid (w.heap.size ≤ g) := Lib.hid (by omega)
  clear r2 r4 r5 hN HV
  refine wp_region_lit ?_
  refine wpList_plain rfl (fun K hK => ?_)
  refine opr_move (.inl rfl) (hK _ _ ?_)
  clear hK K
  refine wpList_plain rfl (fun K hK => ?_)
  refine opr_mkf (cap := #[.pointer (some ⟨g, 0, none⟩)]) rfl (by simp only [List.map_toArray, List.map_cons, List.map_nil]; rfl) (hK _ _ ?_)
  clear hK K
  refine wpList_plain rfl (fun K hK => ?_)
  have hwk := HW.out W0 g HN.out HGW.out HTK.out
  obtain ⟨VS, hVS⟩ : ∃ VS, (#[.func (.func 46) #[] #[.pointer (some ⟨g, 0, none⟩)]] ++ cap : Array Value) = VS := ⟨_, rfl⟩
  rw [hVS] at hwk
  refine opr_callv (f := 34) (cap := cap) (vs := VS) rfl rfl Tryd.func34 (by kernel_rfl) (by kernel_rfl) (hVS ▸ congrArg (fun u : Array Value => u ++ cap) (a₂ := #[.func (.func 46) #[] #[.pointer (some ⟨g, 0, none⟩)]]) (by simp only [List.map_toArray, List.map_cons, List.map_nil]; rfl)) (hwk.mono ?_)
  clear hwk
  rintro e w4 ⟨rfl, hR4, hk4⟩
  refine ⟨_, rfl, hK _ _ ?_⟩
  clear hK K
  simp only [Act.put, List.setIfInBounds_toArray, List.set_cons_zero, List.set_cons_succ]
  refine wpList_new (n := 64) rfl rfl rfl rfl rfl rfl (by simp) run_alloc_roots infoB (rtF_one _ _) rfl ?_
  intro w5 hn5 r6
  refine wpList_end rfl ?_
  simp only [Act.put, List.setIfInBounds_toArray, List.set_cons_zero, List.set_cons_succ]
  go_simp
  obtain ⟨p6, hp6⟩ : ∃ p, w4.heap.size = p := ⟨_, rfl⟩
  rw [hp6] at r6 ⊢
  have hge : g + 1 + 1 < p6 := by have := (hR4.row (by omega) R5.out).lt; omega
  have R6 := Lib.hid r6
  replace R4 := Lib.hid (hn5.row (hR4.row (by omega) R4.out))
  replace R5 := Lib.hid (hn5.row (hR4.row (by omega) R5.out))
  replace HN := Lib.hid (NewT.trans _ _ _ (NewT.rt HN.out hR4 HGW.out) hn5)
  replace hk4 := hk4.new hn5
  obtain ⟨A1, c1, W1, rg, hTW, hNW, hWg, hrd, hkl⟩ := hk4
  have RG := Lib.hid rg
  have HS := Lib.hid (rdH_take (hNW.hs hrd) hkl)
  clear hR4 hn5 r6 hp6 rg hTW hNW hWg HTK HW
  have t3 : ¬ (0 : Int) < ((List.take 0 path).length : Int) := by rw [List.length_take]; omega
  go_upto_region 3 with fail
  refine wp_region_steps0 NewT [SV.eq ((.slice A1 (0) c1)), SV.eq (.int .i64 ((List.length ((List.take 0 path)) : Int))), SV.eq (.bool (decide (0 < ((List.length ((List.take 0 path)) : Int)))))] [([(2, none)], none), ([(11, some 0)], none), ([(12, some 1)], none)] 16 3 rfl rfl (by kernel_rfl) NewT.trans (NewT.refl _) (Nat.le_of_ble_eq_true rfl) ⟨?_, ?_, ?_, trivial⟩ ?_
  · intro a wx hT hF K hK
    obtain ⟨f2, _⟩ := hF
    have f2 : a.tmps.getD 2 undef = .pointer (some ⟨g, 0, none⟩) := f2
    refine rely_wp rfl ?_
    exact opr_ldHs (hT.row RG.out) (by decide) rfl rfl f2 (hK _ _ (NewT.refl _) rfl)
  · intro a wx hT hF K hK
    obtain ⟨f11, _⟩ := hF
    have f11 : a.tmps.getD 11 undef = (.slice A1 (0) c1) := f11
    refine rely_wp rfl ?_
    exact opr_len_h rfl (by rw [eval_tmp, f11]; exact (hT.hs HS.out)) (hK _ _ (NewT.refl _) rfl)
  · intro a wx hT hF K hK
    obtain ⟨f12, _⟩ := hF
    have f12 : a.tmps.getD 12 undef = .int .i64 ((List.length ((List.take 0 path)) : Int)) := f12
    refine rely_wp rfl ?_
    exact opr_cmp (b := decide (0 < ((List.length ((List.take 0 path)) : Int)))) (.inr (.inr (.inr (.inr (.inl ⟨rfl, rfl⟩))))) Tryd.underlying3 rfl f12 rfl (hK _ _ (NewT.refl _) rfl)
  · intro w6 k6
    intro u h; obtain rfl := Eq.symm (h (by simp)); clear h
    intro u h; obtain rfl := Eq.symm (h (by simp)); clear h
    intro u h; obtain rfl := Eq.symm (h (by simp)); clear h
    refine relyEnd_nil rfl ?_
    refine wpList_end rfl ?_
    simp only [Act.put, List.setIfInBounds_toArray, List.set_cons_zero, List.set_cons_succ]
    go_simp
    replace R4 := Lib.hid (k6.row R4.out)
    replace R5 := Lib.hid (k6.row R5.out)
    replace R6 := Lib.hid (k6.row R6.out)
    replace HN := Lib.hid (NewT.trans _ _ _ HN.out k6)
    clear k6 RG HS hrd
    go_upto_region 5 with fail
    refine wp_region_lit ?_
    refine wpList_plain rfl (fun K hK => ?_)
    refine opr_ldAg rfl rfl R6.out (hK _ _ ?_)
    clear hK K
    simp only [Act.put, List.setIfInBounds_toArray, List.set_cons_zero, List.set_cons_succ]
    refine wpList_plain rfl (fun K hK => ?_)
    refine opr_putm (F := rtF p q) rfl rfl rfl R4.out (by decide) infoB (rtF_one _ _) (fun i hi => by rw [if_pos (by omega), Nat.sub_zero]) ?_
    intro w8 hR8 r4'
    refine hK _ _ ?_
    clear hK K
    simp only [Act.put, List.setIfInBounds_toArray, List.set_cons_zero, List.set_cons_succ]
    refine wpList_plain rfl (fun K hK => ?_)
    refine opr_put1 (F := fun _ => .bool true) rfl rfl rfl (hR8.row (by omega) R5.out) (by decide) info_bool rfl (fun i hi => by rw [if_pos (by omega)]; rfl) ?_
    intro w9 hR9 r5'
    refine hK _ _ ?_
    refine wpList_end rfl ?_
    simp only [Act.put]
    go_simp
    replace r4' := hR9.row (by omega) r4'
    have HN9 := NewT.rt (NewT.rt HN.out hR8 (by have := HGW.out; omega)) hR9 (by have := HGW.out; omega)
    go_wp2
    refine leaves_cons (f := 45) (args := #[.pointer (some ⟨g + 1 + 1, 0, none⟩)]) (by simp) (by simp [go_sem]) ?_
    refine (catchB_idle ⟨g + 1 + 1, 0, none⟩ _).mono ?_
    rintro e u' w'' ⟨rfl, rfl, rfl⟩
    exact ⟨_, results_rv rfl rfl rfl r4' r5' Tryd.underlying51 rfl infoB Tryd.underlying4 rfl, rfl, HN9⟩
set_option maxHeartbeats 2000000 in
theorem ofAllB_many (cap : Array Value) (v : Value) (path : List Hs) (p q : Hs) (kk : Nat) (w : World) (hT : Tables w) (hv : RdH w v path)
    (hwork : ∀ w' g, NewT w w' → w.heap.size ≤ g → TkAt w' g path path.length → Calls Tryd.prog 34 (#[.func (.func 46) #[] #[.pointer (some ⟨g, 0, none⟩)]] ++ cap) w' fun e w'' => e = .returned (.agg (rowA 64 (rtF p q))) ∧ RT g w' w'' ∧ TkAt w'' g path (kk + 1)) : Calls Tryd.prog 33 #[v, .func (.func 34) #[] cap] w fun e w' => e = .returned (.tuple #[.agg (rowA 64 (rtF (fun _ => 0) (fun _ => 0))), .bool false]) ∧ NewT w w' := by
  have hmf : ∀ (fn : Fn) (first cap : Array Value) (w : World), (Instr.makeFunc fn first cap).run Tryd.prog w = .ok (.func fn first cap) w := fun _ _ _ _ => rfl
  have HV := Lib.hid hv
  have HT := Lib.hid hT
  have HW := Lib.hid hwork
  obtain ⟨A, c, hvv⟩ := rdH_form hv
  subst hvv
  clear hv hT hwork
  go_enter_defers Tryd.func33, Tryd.ntmps33
  go_upto_region 2 with fail
  clear hmf
  obtain ⟨g, hg⟩ : ∃ g, w.heap.size = g := ⟨_, rfl⟩
  have r2 := ((rowIs_one w 22 (.slice A path.length c)).alloc (.cells (rowA 64 (rtF (fun _ => 0) (fun _ => 0))) 51)).alloc (.cells #[.bool false] 4)
  have r4 := (rowIs_box (w.alloc (.cells #[.slice A path.length c] 22)) 51 64 (rtF (fun _ => 0) (fun _ => 0))).alloc (.cells #[.bool false] 4)
  have r5 := rowIs_one ((w.alloc (.cells #[.slice A path.length c] 22)).alloc (.cells (rowA 64 (rtF (fun _ => 0) (fun _ => 0))) 51)) 4 (.bool false)
  rw [World.size_alloc] at r4
  rw [World.size_alloc, World.size_alloc] at r5
  have hN : NewT w (((w.alloc (.cells #[.slice A path.length c] 22)).alloc (.cells (rowA 64 (rtF (fun _ => 0) (fun _ => 0))) 51)).alloc (.cells #[.bool false] 4)) := NewT.trans _ _ _ (NewT.trans _ _ _ (NewT.alloc _ _) (NewT.alloc _ _)) (NewT.alloc _ _)
  change Code.wp _ _ _ _ (((w.alloc (.cells #[.slice A path.length c] 22)).alloc (.cells (rowA 64 (rtF (fun _ => 0) (fun _ => 0))) 51)).alloc (.cells #[.bool false] 4))
  generalize (((w.alloc (.cells #[.slice A path.length c] 22)).alloc (.cells (rowA 64 (rtF (fun _ => 0) (fun _ => 0))) 51)).alloc (.cells #[.bool false] 4)) = W0 at r2 r4 r5 hN ⊢
  rw [hg] at r2 r4 r5 ⊢
  have HTK : Hid (TkAt W0 g path path.length) := Lib.hid ⟨A, c, w, r2, HT.out, hN, by omega, HV.out, Nat.le_refl _⟩
  have R4 := Lib.hid r4
  have R5 := Lib.hid r5
  have HN := Lib.hid hN
  have HGW : Hid (w.heap.size ≤ g) := Lib.hid (by omega)
  clear r2 r4 r5 hN HV
  refine wp_region_lit ?_
  refine wpList_plain rfl (fun K hK => ?_)
  refine opr_move (.inl rfl) (hK _ _ ?_)
  clear hK K
  refine wpList_plain rfl (fun K hK => ?_)
  refine opr_mkf (cap := #[.pointer (some ⟨g, 0, none⟩)]) rfl (by simp only [List.map_toArray, List.map_cons, List.map_nil]; rfl) (hK _ _ ?_)
  clear hK K
  refine wpList_plain rfl (fun K hK => ?_)
  have hwk := HW.out W0 g HN.out HGW.out HTK.out
  obtain ⟨VS, hVS⟩ : ∃ VS, (#[.func (.func 46) #[] #[.pointer (some ⟨g, 0, none⟩)]] ++ cap : Array Value) = VS := ⟨_, rfl⟩
  rw [hVS] at hwk
  refine opr_callv (f := 34) (cap := cap) (vs := VS) rfl rfl Tryd.func34 (by kernel_rfl) (by kernel_rfl) (hVS ▸ congrArg (fun u : Array Value => u ++ cap) (a₂ := #[.func (.func 46) #[] #[.pointer (some ⟨g, 0, none⟩)]]) (by simp only [List.map_toArray, List.map_cons, List.map_nil]; rfl)) (hwk.mono ?_)
  clear hwk
  rintro e w4 ⟨rfl, hR4, hk4⟩
  refine ⟨_, rfl, hK _ _ ?_⟩
  clear hK K
  simp only [Act.put, List.setIfInBounds_toArray, List.set_cons_zero, List.set_cons_succ]
  refine wpList_new (n := 64) rfl rfl rfl rfl rfl rfl (by simp) run_alloc_roots infoB (rtF_one _ _) rfl ?_
  intro w5 hn5 r6
  refine wpList_end rfl ?_
  simp only [Act.put, List.setIfInBounds_toArray, List.set_cons_zero, List.set_cons_succ]
  go_simp
  obtain ⟨p6, hp6⟩ : ∃ p, w4.heap.size = p := ⟨_, rfl⟩
  rw [hp6] at r6 ⊢
  have hge : g + 1 + 1 < p6 := by have := (hR4.row (by omega) R5.out).lt; omega
  have R6 := Lib.hid r6
  replace R4 := Lib.hid (hn5.row (hR4.row (by omega) R4.out))
  replace R5 := Lib.hid (hn5.row (hR4.row (by omega) R5.out))
  replace HN := Lib.hid (NewT.trans _ _ _ (NewT.rt HN.out hR4 HGW.out) hn5)
  replace hk4 := hk4.new hn5
  obtain ⟨A1, c1, W1, rg, hTW, hNW, hWg, hrd, hkl⟩ := hk4
  have RG := Lib.hid rg
  have HS := Lib.hid (rdH_take (hNW.hs hrd) hkl)
  clear hR4 hn5 r6 hp6 rg hTW hNW hWg HTK HW
  have t3 : (0 : Int) < ((List.take (kk + 1) path).length : Int) := by rw [List.length_take]; omega
  go_upto_region 3 with fail
  refine wp_region_steps0 NewT [SV.eq ((.slice A1 (kk + 1) c1)), SV.eq (.int .i64 ((List.length ((List.take (kk + 1) path)) : Int))), SV.eq (.bool (decide (0 < ((List.length ((List.take (kk + 1) path)) : Int)))))] [([(2, none)], none), ([(11, some 0)], none), ([(12, some 1)], none)] 16 3 rfl rfl (by kernel_rfl) NewT.trans (NewT.refl _) (Nat.le_of_ble_eq_true rfl) ⟨?_, ?_, ?_, trivial⟩ ?_
  · intro a wx hT hF K hK
    obtain ⟨f2, _⟩ := hF
    have f2 : a.tmps.getD 2 undef = .pointer (some ⟨g, 0, none⟩) := f2
    refine rely_wp rfl ?_
    exact opr_ldHs (hT.row RG.out) (by decide) rfl rfl f2 (hK _ _ (NewT.refl _) rfl)
  · intro a wx hT hF K hK
    obtain ⟨f11, _⟩ := hF
    have f11 : a.tmps.getD 11 undef = (.slice A1 (kk + 1) c1) := f11
    refine rely_wp rfl ?_
    exact opr_len_h rfl (by rw [eval_tmp, f11]; exact (hT.hs HS.out)) (hK _ _ (NewT.refl _) rfl)
  · intro a wx hT hF K hK
    obtain ⟨f12, _⟩ := hF
    have f12 : a.tmps.getD 12 undef = .int .i64 ((List.length ((List.take (kk + 1) path)) : Int)) := f12
    refine rely_wp rfl ?_
    exact opr_cmp (b := decide (0 < ((List.length ((List.take (kk + 1) path)) : Int)))) (.inr (.inr (.inr (.inr (.inl ⟨rfl, rfl⟩))))) Tryd.underlying3 rfl f12 rfl (hK _ _ (NewT.refl _) rfl)
  · intro w6 k6
    intro u h; obtain rfl := Eq.symm (h (by simp)); clear h
    intro u h; obtain rfl := Eq.symm (h (by simp)); clear h
    intro u h; obtain rfl := Eq.symm (h (by simp)); clear h
    refine relyEnd_nil rfl ?_
    refine wpList_end rfl ?_
    simp only [Act.put, List.setIfInBounds_toArray, List.set_cons_zero, List.set_cons_succ]
    go_simp
    replace R4 := Lib.hid (k6.row R4.out)
    replace R5 := Lib.hid (k6.row R5.out)
    replace R6 := Lib.hid (k6.row R6.out)
    replace HN := Lib.hid (NewT.trans _ _ _ HN.out k6)
    clear k6 RG HS hrd
    go_upto_region 4 with fail
    refine wp_region_lit ?_
    refine wpList_plain rfl (fun K hK => ?_)
    refine opr_ldAg rfl rfl R4.out (hK _ _ ?_)
    clear hK K
    simp only [Act.put, List.setIfInBounds_toArray, List.set_cons_zero, List.set_cons_succ]
    refine wpList_plain rfl (fun K hK => ?_)
    refine opr_putm (F := rtF (fun _ => 0) (fun _ => 0)) rfl rfl rfl R4.out (by decide) infoB (rtF_one _ _) (fun i hi => by rw [if_pos (by omega), Nat.sub_zero]) ?_
    intro w8 hR8 r4'
    refine hK _ _ ?_
    clear hK K
    simp only [Act.put, List.setIfInBounds_toArray, List.set_cons_zero, List.set_cons_succ]
    refine wpList_plain rfl (fun K hK => ?_)
    refine opr_put1 (F := fun _ => .bool false) rfl rfl rfl (hR8.row (by omega) R5.out) (by decide) info_bool rfl (fun i hi => by rw [if_pos (by omega)]; rfl) ?_
    intro w9 hR9 r5'
    refine hK _ _ ?_
    refine wpList_end rfl ?_
    simp only [Act.put]
    go_simp
    replace r4' := hR9.row (by omega) r4'
    have HN9 := NewT.rt (NewT.rt HN.out hR8 (by have := HGW.out; omega)) hR9 (by have := HGW.out; omega)
    go_wp2
    refine leaves_cons (f := 45) (args := #[.pointer (some ⟨g + 1 + 1, 0, none⟩)]) (by simp) (by simp [go_sem]) ?_
    refine (catchB_idle ⟨g + 1 + 1, 0, none⟩ _).mono ?_
    rintro e u' w'' ⟨rfl, rfl, rfl⟩
    exact ⟨_, results_rv rfl rfl rfl r4' r5' Tryd.underlying51 rfl infoB Tryd.underlying4 rfl, rfl, HN9⟩
set_option maxHeartbeats 2000000 in
theorem ofAllB_few (cap : Array Value) (v : Value) (path : List Hs) (w : World) (hT : Tables w) (hv : RdH w v path)
    (hwork : ∀ w' g, NewT w w' → w.heap.size ≤ g → TkAt w' g path path.length → Calls Tryd.prog 34 (#[.func (.func 46) #[] #[.pointer (some ⟨g, 0, none⟩)]] ++ cap) w' fun e w'' => e = .panicked fewP ∧ RT g w' w'') : Calls Tryd.prog 33 #[v, .func (.func 34) #[] cap] w fun e w' => e = .returned (.tuple #[.agg (rowA 64 (rtF (fun _ => 0) (fun _ => 0))), .bool false]) ∧ NewT w w' := by
  have hmf : ∀ (fn : Fn) (first cap : Array Value) (w : World), (Instr.makeFunc fn first cap).run Tryd.prog w = .ok (.func fn first cap) w := fun _ _ _ _ => rfl
  have HV := Lib.hid hv
  have HT := Lib.hid hT
  have HW := Lib.hid hwork
  obtain ⟨A, c, hvv⟩ := rdH_form hv
  subst hvv
  clear hv hT hwork
  go_enter_defers Tryd.func33, Tryd.ntmps33
  go_upto_region 2 with fail
  clear hmf
  obtain ⟨g, hg⟩ : ∃ g, w.heap.size = g := ⟨_, rfl⟩
  have r2 := ((rowIs_one w 22 (.slice A path.length c)).alloc (.cells (rowA 64 (rtF (fun _ => 0) (fun _ => 0))) 51)).alloc (.cells #[.bool false] 4)
  have r4 := (rowIs_box (w.alloc (.cells #[.slice A path.length c] 22)) 51 64 (rtF (fun _ => 0) (fun _ => 0))).alloc (.cells #[.bool false] 4)
  have r5 := rowIs_one ((w.alloc (.cells #[.slice A path.length c] 22)).alloc (.cells (rowA 64 (rtF (fun _ => 0) (fun _ => 0))) 51)) 4 (.bool false)
  rw [World.size_alloc] at r4
  rw [World.size_alloc, World.size_alloc] at r5
  have hN : NewT w (((w.alloc (.cells #[.slice A path.length c] 22)).alloc (.cells (rowA 64 (rtF (fun _ => 0) (fun _ => 0))) 51)).alloc (.cells #[.bool false] 4)) := NewT.trans _ _ _ (NewT.trans _ _ _ (NewT.alloc _ _) (NewT.alloc _ _)) (NewT.alloc _ _)
  change Code.wp _ _ _ _ (((w.alloc (.cells #[.slice A path.length c] 22)).alloc (.cells (rowA 64 (rtF (fun _ => 0) (fun _ => 0))) 51)).alloc (.cells #[.bool false] 4))
  generalize (((w.alloc (.cells #[.slice A path.length c] 22)).alloc (.cells (rowA 64 (rtF (fun _ => 0) (fun _ => 0))) 51)).alloc (.cells #[.bool false] 4)) = W0 at r2 r4 r5 hN ⊢
  rw [hg] at r2 r4 r5 ⊢
  have HTK : Hid (TkAt W0 g path path.length) := Lib.hid ⟨A, c, w, r2, HT.out, hN, by omega, HV.out, Nat.le_refl _⟩
  have R4 := Lib.hid r4
  have R5 := Lib.hid r5
  have HN := Lib.hid hN
  have HGW : Hid (w.heap.size ≤ g) := Lib.hid (by omega)
  clear r2 r4 r5 hN HV
  refine wp_region_lit ?_
  refine wpList_plain rfl (fun K hK => ?_)
  refine opr_move (.inl rfl) (hK _ _ ?_)
  clear hK K
  refine wpList_plain rfl (fun K hK => ?_)
  refine opr_mkf (cap := #[.pointer (some ⟨g, 0, none⟩)]) rfl (by simp only [List.map_toArray, List.map_cons, List.map_nil]; rfl) (hK _ _ ?_)
  clear hK K
  refine wpList_plain rfl (fun K hK => ?_)
  have hwk := HW.out W0 g HN.out HGW.out HTK.out
  obtain ⟨VS, hVS⟩ : ∃ VS, (#[.func (.func 46) #[] #[.pointer (some ⟨g, 0, none⟩)]] ++ cap : Array Value) = VS := ⟨_, rfl⟩
  rw [hVS] at hwk
  refine opr_callvP (f := 34) (cap := cap) (vs := VS) rfl rfl Tryd.func34 (by kernel_rfl) (by kernel_rfl) (hVS ▸ congrArg (fun u : Array Value => u ++ cap) (a₂ := #[.func (.func 46) #[] #[.pointer (some ⟨g, 0, none⟩)]]) (by simp only [List.map_toArray, List.map_cons, List.map_nil]; rfl)) (hwk.mono ?_)
  clear hwk
  rintro e w4 ⟨rfl, hR4⟩
  refine ⟨_, rfl, ?_⟩
  have r4 := hR4.row (by omega) R4.out
  have r5 := hR4.row (by omega) R5.out
  refine leaves_cons (f := 45) (args := #[.pointer (some ⟨g + 1 + 1, 0, none⟩)]) (by simp) (by simp [go_sem]) ?_
  refine (catchB_panics ⟨g + 1 + 1, 0, none⟩ false _ _ [] w4 (r5.cell (i := 0) (by omega)) (r5.frozen 0)).mono ?_
  rintro e u' w'' ⟨rfl, rfl, rfl⟩
  have hR9 := RT.setCell (R := g + 1 + 1) w4 0 (.bool false)
  exact ⟨_, results_rv rfl rfl rfl (hR9.row (by omega) r4) ((r5.set 0 (.bool false)).congr (g := fun _ => .bool false) fun i hi => by simp [show i = 0 by omega]) Tryd.underlying51 rfl infoB Tryd.underlying4 rfl, rfl, NewT.rt (NewT.rt HN.out hR4 HGW.out) hR9 (by have := HGW.out; omega)⟩
end Go.Proofs.YtoigjcadncecpaaDoor
/- Numbers of 64 bits that hold numbers of 32, as the reference computes; and the reference's turns and shifts. -/
namespace Go.Proofs.YtoigjcadncecpaaDoor
open Go.RowKit
set_option maxRecDepth 8000
set_option linter.all false

theorem wrap_u64 (n : Int) : IntKind.u64.wrap n = n % 18446744073709551616 := by simp [IntKind.wrap, IntKind.bits, IntKind.signed]
theorem wrap64_uN (x : BitVec 32) : IntKind.u64.wrap (uN x) = uN x := by rw [wrap_u64]; have := uN_lt x; omega
theorem wrap64_bN (x : UInt8) : IntKind.u64.wrap (bN x) = bN x := by rw [wrap_u64]; have := bN_lt x; omega
theorem or64 (a b : Nat) (ha : a < 2 ^ 64) (hb : b < 2 ^ 64) : bits .or .u64 (a : Int) (b : Int) = ((a ||| b : Nat) : Int) := by
  show IntKind.u64.wrap (((BitVec.ofInt 64 (a : Int) ||| BitVec.ofInt 64 (b : Int)).toNat : Nat) : Int) = _
  rw [BitVec.ofInt_natCast, BitVec.ofInt_natCast, BitVec.toNat_or, BitVec.toNat_ofNat, BitVec.toNat_ofNat, Nat.mod_eq_of_lt ha, Nat.mod_eq_of_lt hb, wrap_u64]
  have := Nat.or_lt_two_pow ha hb
  omega
theorem xor64 (a b : Nat) (ha : a < 2 ^ 64) (hb : b < 2 ^ 64) : bits .xor .u64 (a : Int) (b : Int) = ((a ^^^ b : Nat) : Int) := by
  show IntKind.u64.wrap (((BitVec.ofInt 64 (a : Int) ^^^ BitVec.ofInt 64 (b : Int)).toNat : Nat) : Int) = _
  rw [BitVec.ofInt_natCast, BitVec.ofInt_natCast, BitVec.toNat_xor, BitVec.toNat_ofNat, BitVec.toNat_ofNat, Nat.mod_eq_of_lt ha, Nat.mod_eq_of_lt hb, wrap_u64]
  have := Nat.xor_lt_two_pow ha hb
  omega
theorem and64 (a b : Nat) (ha : a < 2 ^ 64) (hb : b < 2 ^ 64) : bits .and .u64 (a : Int) (b : Int) = ((a &&& b : Nat) : Int) := by
  show IntKind.u64.wrap (((BitVec.ofInt 64 (a : Int) &&& BitVec.ofInt 64 (b : Int)).toNat : Nat) : Int) = _
  rw [BitVec.ofInt_natCast, BitVec.ofInt_natCast, BitVec.toNat_and, BitVec.toNat_ofNat, BitVec.toNat_ofNat, Nat.mod_eq_of_lt ha, Nat.mod_eq_of_lt hb, wrap_u64]
  have := Nat.and_lt_two_pow a hb
  omega
theorem lt64 (x : BitVec 32) : x.toNat < 2 ^ 64 := by omega
theorem u64_xor (x y : BitVec 32) : bits .xor .u64 (uN x) (uN y) = uN (x ^^^ y) := by
  unfold uN; rw [xor64 _ _ (lt64 x) (lt64 y), BitVec.toNat_xor]
theorem u64_and (x y : BitVec 32) : bits .and .u64 (uN x) (uN y) = uN (x &&& y) := by
  unfold uN; rw [and64 _ _ (lt64 x) (lt64 y), BitVec.toNat_and]
theorem u64_not (x : BitVec 32) : IntKind.u64.wrap ((4294967295 : Int) - uN x) = uN (~~~x) := by
  rw [wrap_u64]; unfold uN; rw [BitVec.toNat_not]; omega
/-- A sum of numbers of 32 bits, not cut. -/
def tN (l : List (BitVec 32)) : Int := ((l.map BitVec.toNat).sum : Nat)
theorem u64_add2 (a b : BitVec 32) : IntKind.u64.wrap (uN a + uN b) = tN [a, b] := by rw [wrap_u64]; simp [uN, tN]; omega
theorem u64_add3 (a b c : BitVec 32) : IntKind.u64.wrap (tN [a, b] + uN c) = tN [a, b, c] := by rw [wrap_u64]; simp [uN, tN]; omega
theorem u64_add4 (a b c d : BitVec 32) : IntKind.u64.wrap (tN [a, b, c] + uN d) = tN [a, b, c, d] := by rw [wrap_u64]; simp [uN, tN]; omega
theorem u64_add5 (a b c d e : BitVec 32) : IntKind.u64.wrap (tN [a, b, c, d] + uN e) = tN [a, b, c, d, e] := by rw [wrap_u64]; simp [uN, tN]; omega
theorem mod_t2 (a b : BitVec 32) : tN [a, b] % (4294967296 : Int) = uN (a + b) := by simp [uN, tN, BitVec.toNat_add]
theorem mod_t4 (a b c d : BitVec 32) : tN [a, b, c, d] % (4294967296 : Int) = uN (a + b + c + d) := by simp [uN, tN, BitVec.toNat_add]; omega
theorem mod_t5 (a b c d e : BitVec 32) : tN [a, b, c, d, e] % (4294967296 : Int) = uN (a + b + c + d + e) := by simp [uN, tN, BitVec.toNat_add]; omega
theorem u64_rot (x : BitVec 32) (m k : Nat) (hm : m < 32) (hk : k = 32 - m) : bits .or .u64 (uN (x >>> m)) (IntKind.u64.wrap (uN x * 2 ^ k)) % (4294967296 : Int) = uN (x.rotateRight m) := by
  have h1 : IntKind.u64.wrap (uN x * 2 ^ k) = ((x.toNat * 2 ^ k % 2 ^ 64 : Nat) : Int) := by rw [wrap_u64]; unfold uN; simp
  rw [h1]
  unfold uN
  rw [or64 _ _ (lt64 _) (Nat.mod_lt _ (by omega)), BitVec.rotateRight_def, Nat.mod_eq_of_lt hm, BitVec.toNat_or, ← hk]
  have h2 : ((x >>> m).toNat ||| x.toNat * 2 ^ k % 2 ^ 64) % 2 ^ 32 = (x >>> m).toNat ||| (x <<< k).toNat := by
    rw [Nat.or_mod_two_pow, Nat.mod_eq_of_lt (x >>> m).isLt, Nat.mod_mod_of_dvd _ (by decide), BitVec.toNat_shiftLeft, Nat.shiftLeft_eq]
  omega
theorem tN_nonneg (l : List (BitVec 32)) : 0 ≤ tN l := by unfold tN; omega
theorem tmod_t2 (a b : BitVec 32) : (tN [a, b]).tmod (4294967296 : Int) = uN (a + b) := by rw [Int.tmod_eq_emod_of_nonneg (tN_nonneg _), mod_t2]
theorem tmod_t4 (a b c d : BitVec 32) : (tN [a, b, c, d]).tmod (4294967296 : Int) = uN (a + b + c + d) := by rw [Int.tmod_eq_emod_of_nonneg (tN_nonneg _), mod_t4]
theorem tmod_t5 (a b c d e : BitVec 32) : (tN [a, b, c, d, e]).tmod (4294967296 : Int) = uN (a + b + c + d + e) := by rw [Int.tmod_eq_emod_of_nonneg (tN_nonneg _), mod_t5]
theorem u64_rott (x : BitVec 32) (m k : Nat) (hm : m < 32) (hk : k = 32 - m) : (bits .or .u64 (uN (x >>> m)) (IntKind.u64.wrap (uN x * 2 ^ k))).tmod (4294967296 : Int) = uN (x.rotateRight m) := by
  have h1 : IntKind.u64.wrap (uN x * 2 ^ k) = ((x.toNat * 2 ^ k % 2 ^ 64 : Nat) : Int) := by rw [wrap_u64]; unfold uN; simp
  have h0 : 0 ≤ bits .or .u64 (uN (x >>> m)) (IntKind.u64.wrap (uN x * 2 ^ k)) := by
    rw [h1]; unfold uN; rw [or64 _ _ (lt64 _) (Nat.mod_lt _ (by omega))]; omega
  rw [Int.tmod_eq_emod_of_nonneg h0, u64_rot x m k hm hk]
attribute [local go_sem] u32_shr wrap64_uN
set_option maxHeartbeats 400000 in
theorem right_any (x : BitVec 32) (n : Int) (hn : 0 < n) (hn2 : n < 32) (w : World) :
    Calls Tryd.prog 55 #[.int .u64 (uN x), .int .i64 n] w fun e w' => e = .returned (.int .u64 (uN (x.rotateRight n.toNat))) ∧ w = w' := by
  obtain ⟨m, rfl⟩ := Int.eq_ofNat_of_zero_le (Int.le_of_lt hn)
  rw [Int.toNat_natCast]
  have e32 : (32 : Int) - (m : Int) = ((32 - m : Nat) : Int) := by omega
  obtain ⟨k, hk⟩ : ∃ k, k = 32 - m := ⟨_, rfl⟩
  rw [← hk] at e32
  have hr := u64_rott x m k (by omega) hk
  have hk1 : k < 32 := by omega
  have Hk := Lib.hid hk
  clear hk
  go_enter Tryd.func55, Tryd.ntmps55
  go_wp2
  go_ret
  exact ⟨rfl, rfl⟩
set_option maxHeartbeats 400000 in
theorem shift_any (x : BitVec 32) (n : Int) (hn : 0 < n) (hn2 : n < 32) (w : World) :
    Calls Tryd.prog 56 #[.int .u64 (uN x), .int .i64 n] w fun e w' => e = .returned (.int .u64 (uN (x >>> n.toNat))) ∧ w = w' := by
  obtain ⟨m, rfl⟩ := Int.eq_ofNat_of_zero_le (Int.le_of_lt hn)
  rw [Int.toNat_natCast]
  go_enter Tryd.func56, Tryd.ntmps56
  go_wp2
  go_ret
  exact ⟨rfl, rfl⟩
end Go.Proofs.YtoigjcadncecpaaDoor
/- Package mac, alone: are two hashes the same: what Equal returns, by a closure over all bytes. -/
namespace Go.Proofs.YtoigjcadncecpaaDoor
open Go Go.RowKit
set_option maxRecDepth 8000
set_option linter.all false
theorem u8_xor (x y : UInt8) : bits .xor .u8 (bN x) (bN y) = bN (x ^^^ y) := by
  have h : ∀ a b : BitVec 8, bits .xor .u8 ((a.toNat : Nat) : Int) ((b.toNat : Nat) : Int) = (((a ^^^ b).toNat : Nat) : Int) := by
    intro a b
    show IntKind.u8.wrap ((BitVec.ofInt 8 ((a.toNat : Nat) : Int) ^^^ BitVec.ofInt 8 ((b.toNat : Nat) : Int)).toNat : Int) = _
    simp only [BitVec.ofInt_natCast, BitVec.ofNat_toNat, BitVec.setWidth_eq]
    rw [wrap_u8]; have := (a ^^^ b).isLt; omega
  exact h x.toBitVec y.toBitVec
theorem u8_or (x y : UInt8) : bits .or .u8 (bN x) (bN y) = bN (x ||| y) := by
  have h : ∀ a b : BitVec 8, bits .or .u8 ((a.toNat : Nat) : Int) ((b.toNat : Nat) : Int) = (((a ||| b).toNat : Nat) : Int) := by
    intro a b
    show IntKind.u8.wrap ((BitVec.ofInt 8 ((a.toNat : Nat) : Int) ||| BitVec.ofInt 8 ((b.toNat : Nat) : Int)).toNat : Int) = _
    simp only [BitVec.ofInt_natCast, BitVec.ofNat_toNat, BitVec.setWidth_eq]
    rw [wrap_u8]; have := (a ||| b).isLt; omega
  exact h x.toBitVec y.toBitVec
attribute [local go_sem] bF_at u8_xor u8_or
theorem Eq1_any (x y d : UInt8) (g : Nat) (w : World) (hr : w.rowIs g 5 1 (bF fun _ => d)) :
    Calls Tryd.prog 48 #[.int .u8 (bN x), .int .u8 (bN y), .pointer (some ⟨g, 0, none⟩)] w fun e w' => ∃ v, e = .returned v ∧ w.setCell ⟨g, 0, none⟩ (.int .u8 (bN (d ||| (x ^^^ y)))) = w' := by
  have c0 := hr.cell (i := 0) (by omega)
  have f0 := hr.frozen 0
  go_enter Tryd.func48, Tryd.ntmps48
  go_wp2
  go_end0
  exact ⟨_, rfl, rfl⟩
theorem row1_set {w : World} {g : Nat} {t : TypeId} {d d' : UInt8} (h : w.rowIs g t 1 (bF fun _ => d)) : (w.setCell ⟨g, 0, none⟩ (.int .u8 (bN d'))).rowIs g t 1 (bF fun _ => d') :=
  (h.set 0 _).congr fun i hi => by
    obtain rfl : i = 0 := by omega
    rw [if_pos rfl]; rfl
/-- What the closure has found behind k pairs. -/
def orTo (a b : Nat → UInt8) : Nat → UInt8
  | 0 => 0
  | k + 1 => orTo a b k ||| (a k ^^^ b k)
theorem u8_or_zero (x y : UInt8) : (x ||| y) = 0 ↔ x = 0 ∧ y = 0 := by
  rw [← UInt8.toBitVec_inj, ← UInt8.toBitVec_inj, ← UInt8.toBitVec_inj]
  simp [BitVec.or_eq_zero_iff]
theorem u8_xor_zero (x y : UInt8) : (x ^^^ y) = 0 ↔ x = y := by
  rw [← UInt8.toBitVec_inj, ← UInt8.toBitVec_inj]
  simp [BitVec.xor_eq_zero_iff]
theorem orTo_zero (a b : Nat → UInt8) (k : Nat) : orTo a b k = 0 ↔ ∀ i, i < k → a i = b i := by
  induction k with
  | zero => simp [orTo]
  | succ k ih =>
    rw [orTo, u8_or_zero, ih, u8_xor_zero]
    constructor
    · rintro ⟨h1, h2⟩ i hi
      rcases Nat.lt_succ_iff_lt_or_eq.1 hi with h | rfl
      · exact h1 i h
      · exact h2
    · intro h
      exact ⟨fun i hi => h i (by omega), h k (by omega)⟩
theorem orTo_eqH (a b : Nat → UInt8) : ((bN (orTo a b 32) == 0) : Bool) = eqH a b := by
  rw [Bool.eq_iff_iff, eqH_iff, ← orTo_zero]
  simp only [beq_iff_eq]
  constructor
  · intro h; exact bN_inj (h.trans rfl)
  · intro h; rw [h]; rfl
set_option maxHeartbeats 2000000 in
theorem eachPair_any (a b : Nat → UInt8) (g : Nat) (w : World) (hr : w.rowIs g 5 1 (bF fun _ => 0)) :
    Calls Tryd.prog 47 #[.agg (rowA 32 (bF a)), .agg (rowA 32 (bF b)), .func (.func 48) #[] #[.pointer (some ⟨g, 0, none⟩)]] w fun e w' => ∃ v, e = .returned v ∧ w'.rowIs g 5 1 (bF fun _ => orTo a b 32) ∧ Below g w w' := by
  have hg := hr.lt
  go_enter Tryd.func47, Tryd.ntmps47
  go_upto_region 1 with fail
  have r0 := (rowIs_box w 29 32 (bF a)).alloc (.cells (rowA 32 (bF b)) 29)
  have r1 := rowIs_box (w.alloc (.cells (rowA 32 (bF a)) 29)) 29 32 (bF b)
  rw [World.size_alloc] at r1
  have hB := NewT.trans _ _ _ (NewT.alloc w (.cells (rowA 32 (bF a)) 29)) (NewT.alloc (w.alloc (.cells (rowA 32 (bF a)) 29)) (.cells (rowA 32 (bF b)) 29))
  change Code.wp _ _ _ _ ((w.alloc (.cells (rowA 32 (bF a)) 29)).alloc (.cells (rowA 32 (bF b)) 29))
  generalize ((w.alloc (.cells (rowA 32 (bF a)) 29)).alloc (.cells (rowA 32 (bF b)) 29)) = W0 at r0 r1 hB ⊢
  replace hr := hB.row hr
  have hB0 : Below g w W0 := hB.out.mono (Nat.le_of_lt hg)
  clear hB
  go_wp2
  go_loopw [7] (fun i wr => ∃ k : Nat, k ≤ 32 ∧ i = .int .i64 k ∧ wr.rowIs w.heap.size 29 32 (bF a) ∧ wr.rowIs (w.heap.size + 1) 29 32 (bF b) ∧ wr.rowIs g 5 1 (bF fun _ => orTo a b k) ∧ Below g w wr) (fun i _ => 32 - (intOf i).toNat)
  case atStart => exact ⟨0, by omega, rfl, r0, r1, hr, hB0⟩
  case round =>
    obtain ⟨k, hk, rfl, q0, q1, qr, qB⟩ := hrel
    clear r0 r1 hr hB0
    by_cases hlt : k < 32
    · have hki : (k : Int) < 32 := by omega
      go_upto_region 4 with fail
      refine wp_region_rely NewT [SV.eq (.func (.func 48) #[] #[.pointer (some ⟨g, 0, none⟩)]), SV.eq (.int .i64 (k : Int)), SV.eq (.pointer (some ⟨w.heap.size, k, none⟩)), SV.eq (.int .u8 (bN (a k))), SV.eq (.int .i64 (k : Int)), SV.eq (.pointer (some ⟨w.heap.size + 1, k, none⟩)), SV.eq (.int .u8 (bN (b k)))] [([(2, none)], none), ([(6, none)], none), ([(3, none), (11, some 1)], none), ([(12, some 2)], none), ([(6, none)], none), ([(4, none), (14, some 4)], none), ([(15, some 5)], none)] 19 rfl (by kernel_rfl) rfl (by kernel_rfl) (by kernel_rfl) rfl NewT.trans (NewT.drew _) (Nat.le_of_ble_eq_true rfl) ⟨?_, ?_, ?_, ?_, ?_, ?_, ?_, trivial⟩ ?_
      · -- 0: Op.move t2
        intro a wx hT hF K hK
        obtain ⟨f2, _⟩ := hF
        have f2 : a.tmps.getD 2 undef = .func (.func 48) #[] #[.pointer (some ⟨g, 0, none⟩)] := f2
        refine rely_wp rfl ?_
        exact opr_move (.inl rfl) (hK _ _ (NewT.refl _) f2)
      · -- 1: Op.move t6
        intro a wx hT hF K hK
        obtain ⟨f6, _⟩ := hF
        have f6 : a.tmps.getD 6 undef = .int .i64 (k : Int) := f6
        refine rely_wp rfl ?_
        exact opr_move (.inl rfl) (hK _ _ (NewT.refl _) f6)
      · -- 2: Op.indexAddr 31 t3 t11
        intro a wx hT hF K hK
        obtain ⟨f3, f11, _⟩ := hF
        have f3 : a.tmps.getD 3 undef = .pointer (some ⟨w.heap.size, 0, none⟩) := f3
        have f11 : a.tmps.getD 11 undef = .int .i64 (k : Int) := f11
        refine rely_wp rfl ?_
        simp only [Array.getD_eq_getD_getElem?] at f3
        simp only [Array.getD_eq_getD_getElem?] at f11
        go_simp
        exact hK _ _ (NewT.refl _) rfl
      · -- 3: Op.load 5 t12
        intro a wx hT hF K hK
        obtain ⟨f12, _⟩ := hF
        have f12 : a.tmps.getD 12 undef = .pointer (some ⟨w.heap.size, k, none⟩) := f12
        refine rely_wp rfl ?_
        simp only [Array.getD_eq_getD_getElem?] at f12
        have c := (hT.row q0).cell (i := k) hlt
        rw [bF_at] at c
        go_simp
        exact hK _ _ (NewT.refl _) rfl
      · -- 4: Op.move t6
        intro a wx hT hF K hK
        obtain ⟨f6, _⟩ := hF
        have f6 : a.tmps.getD 6 undef = .int .i64 (k : Int) := f6
        refine rely_wp rfl ?_
        exact opr_move (.inl rfl) (hK _ _ (NewT.refl _) f6)
      · -- 5: Op.indexAddr 31 t4 t14
        intro a wx hT hF K hK
        obtain ⟨f4, f14, _⟩ := hF
        have f4 : a.tmps.getD 4 undef = .pointer (some ⟨w.heap.size + 1, 0, none⟩) := f4
        have f14 : a.tmps.getD 14 undef = .int .i64 (k : Int) := f14
        refine rely_wp rfl ?_
        simp only [Array.getD_eq_getD_getElem?] at f4
        simp only [Array.getD_eq_getD_getElem?] at f14
        go_simp
        exact hK _ _ (NewT.refl _) rfl
      · -- 6: Op.load 5 t15
        intro a wx hT hF K hK
        obtain ⟨f15, _⟩ := hF
        have f15 : a.tmps.getD 15 undef = .pointer (some ⟨w.heap.size + 1, k, none⟩) := f15
        refine rely_wp rfl ?_
        simp only [Array.getD_eq_getD_getElem?] at f15
        have c := (hT.row q1).cell (i := k) hlt
        rw [bF_at] at c
        go_simp
        exact hK _ _ (NewT.refl _) rfl
      · intro wx hT
        intro u h; obtain rfl := h (by simp); clear h
        intro u h; obtain rfl := h (by simp); clear h
        intro u h; obtain rfl := h (by simp); clear h
        intro u h; obtain rfl := h (by simp); clear h
        intro u h; obtain rfl := h (by simp); clear h
        intro u h; obtain rfl := h (by simp); clear h
        intro u h; obtain rfl := h (by simp); clear h
        refine relyEnd_nil rfl ?_
        simp only [Act.put, List.setIfInBounds_toArray, List.set_cons_zero, List.set_cons_succ]
        refine opr_callv rfl rfl Tryd.func48 (by kernel_rfl) (by kernel_rfl) (by simp only [List.map_toArray, List.map_cons, List.map_nil]; rfl) ((Eq1_any (a k) (b k) (orTo a b k) g wx (hT.row qr)).mono ?_)
        rintro e w2 ⟨v, rfl, rfl⟩
        refine ⟨v, rfl, ?_⟩
        have n0 := (hT.row q0).setOther (a := ⟨g, 0, none⟩) (show w.heap.size ≠ g by omega) (.int .u8 (bN (orTo a b k ||| (a k ^^^ b k))))
        have n1 := (hT.row q1).setOther (a := ⟨g, 0, none⟩) (show w.heap.size + 1 ≠ g by omega) (.int .u8 (bN (orTo a b k ||| (a k ^^^ b k))))
        have nr : (wx.setCell ⟨g, 0, none⟩ (.int .u8 (bN (orTo a b k ||| (a k ^^^ b k))))).rowIs g 5 1 (bF fun _ => orTo a b (k + 1)) := row1_set (hT.row qr)
        have nB := (qB.trans (hT.out.mono (by have := qB.size; omega))).setCell (p := ⟨g, 0, none⟩) (Nat.le_refl _) (.int .u8 (bN (orTo a b k ||| (a k ^^^ b k))))
        generalize wx.setCell ⟨g, 0, none⟩ (.int .u8 (bN (orTo a b k ||| (a k ^^^ b k)))) = w3 at n0 n1 nr nB ⊢
        clear q0 q1 qr qB hT
        go_simp
        go_wp2
        go_roundw
        case rel => exact ⟨k + 1, by omega, by go_num, n0, n1, nr, nB⟩
        case measure => simp [intOf]; omega
    · obtain rfl : k = 32 := by omega
      go_wp2
      go_end0
      exact ⟨_, rfl, qr, qB⟩
set_option maxHeartbeats 2000000 in
theorem Equal_cv (a b : Nat → UInt8) (w : World) : Cv 37 #[.agg (rowA 32 (bF a)), .agg (rowA 32 (bF b))] w (.eq (.bool (eqH a b))) := by
  unfold Cv
  go_enter Tryd.func37, Tryd.ntmps37
  go_upto_region 2 with fail
  have hB : NewT w (((w.alloc (.cells (rowA 32 (bF a)) 29)).alloc (.cells (rowA 32 (bF b)) 29)).alloc (.cells #[.int .u8 0] 5)) := NewT.trans _ _ _ (NewT.trans _ _ _ (NewT.alloc w _) (NewT.alloc _ _)) (NewT.alloc _ _)
  have r0 := ((rowIs_box w 29 32 (bF a)).alloc (.cells (rowA 32 (bF b)) 29)).alloc (.cells #[.int .u8 0] 5)
  have r1 := (rowIs_box (w.alloc (.cells (rowA 32 (bF a)) 29)) 29 32 (bF b)).alloc (.cells #[.int .u8 0] 5)
  have r2 := World.rowIs_alloc ((w.alloc (.cells (rowA 32 (bF a)) 29)).alloc (.cells (rowA 32 (bF b)) 29)) #[.int .u8 0] 5 (bF fun _ => 0) (fun i hi => by
    obtain rfl : i = 0 := by simpa using hi
    rfl)
  rw [World.size_alloc] at r1 r2
  rw [World.size_alloc] at r2
  change Code.wp _ _ _ _ (((w.alloc (.cells (rowA 32 (bF a)) 29)).alloc (.cells (rowA 32 (bF b)) 29)).alloc (.cells #[.int .u8 0] 5))
  generalize (((w.alloc (.cells (rowA 32 (bF a)) 29)).alloc (.cells (rowA 32 (bF b)) 29)).alloc (.cells #[.int .u8 0] 5)) = W0 at r0 r1 r2 hB ⊢
  change W0.rowIs (w.heap.size + 1 + 1) 5 1 (bF fun _ => 0) at r2
  refine wp_region_seq NewT [SV.eq (.agg (rowA 32 (bF a))), SV.eq (.agg (rowA 32 (bF b))), SV.eq (.func (.func 48) #[] #[.pointer (some ⟨w.heap.size + 1 + 1, 0, none⟩)])] [([(2, none)], none), ([(3, none)], none), ([(5, none)], none)] 12 rfl rfl (by kernel_rfl) rfl NewT.trans (NewT.refl _) (Nat.le_of_ble_eq_true rfl) ⟨?_, ?_, ?_, trivial⟩ ?_
  · -- 0: Op.load 31 t2
    intro a wx hT hF K hK
    obtain ⟨f2, _⟩ := hF
    have f2 : a.tmps.getD 2 undef = .pointer (some ⟨w.heap.size, 0, none⟩) := f2
    refine rely_wp rfl ?_
    exact opr_load_hash rfl f2 (hT.row r0) (hK _ _ (NewT.refl _) rfl)
  · -- 1: Op.load 31 t3
    intro a wx hT hF K hK
    obtain ⟨f3, _⟩ := hF
    have f3 : a.tmps.getD 3 undef = .pointer (some ⟨w.heap.size + 1, 0, none⟩) := f3
    refine rely_wp rfl ?_
    exact opr_load_hash rfl f3 (hT.row r1) (hK _ _ (NewT.refl _) rfl)
  · -- 2: Op.makeFunc (Fn.func 48) #[] #[t5]
    intro a wx hT hF K hK
    obtain ⟨f5, _⟩ := hF
    have f5 : a.tmps.getD 5 undef = .pointer (some ⟨w.heap.size + 1 + 1, 0, none⟩) := f5
    refine rely_wp rfl ?_
    simp only [Array.getD_eq_getD_getElem?] at f5
    go_simp
    exact hK _ _ (NewT.refl _) rfl
  · intro wx hT
    intro u h; obtain rfl := h (by simp); clear h
    intro u h; obtain rfl := h (by simp); clear h
    intro u h; obtain rfl := h (by simp); clear h
    refine relyEnd_nil rfl ?_
    simp only [Act.put, List.setIfInBounds_toArray, List.set_cons_zero, List.set_cons_succ]
    refine opr_call rfl Tryd.func47 (by kernel_rfl) (by kernel_rfl) (by simp only [List.map_toArray, List.map_cons, List.map_nil]; rfl) ((eachPair_any a b (w.heap.size + 1 + 1) wx (hT.row r2)).mono ?_)
    rintro e w2 ⟨v, rfl, q2, hB2⟩
    refine ⟨v, rfl, ?_⟩
    have hB3 := (NewT.trans _ _ _ hB hT).out.trans (hB2.mono (by omega))
    have c2 := q2.cell (i := 0) (by omega)
    rw [bF_at] at c2
    have he := orTo_eqH a b
    clear hT hB hB2 r0 r1 r2
    generalize bN (orTo a b 32) = z at c2 he
    go_simp
    go_wp2
    go_ret
    exact ⟨_, rfl, hB3, rfl⟩
end Go.Proofs.YtoigjcadncecpaaDoor
/- What a path comes to: Comes, In. -/
namespace Go.Proofs.YtoigjcadncecpaaDoor
open Go Go.RowKit
set_option maxRecDepth 8000
set_option linter.all false
theorem run_build0 (w : World) : (Instr.build 29 #[]).run Tryd.prog w = .ok (.agg (rowA 32 (bF fun _ => 0))) w := by kernel_rfl
theorem opr_build0 {a : Act} {w : World} {o : Oper} {K : Act → World → Prop} {Q : Exit → Act → World → Prop} (ho : o.op = .build 29 #[]) (h : K (a.put o.dst (.agg (rowA 32 (bF fun _ => 0)))) w) : o.wp Tryd.prog a w K Q := by
  obtain ⟨dst, op, type, pos, after, guard⟩ := o
  simp only at ho
  subst ho
  exact opr_val (s := Instr.build 29 #[]) (by simp [execOp]) (run_build0 w) h
/-- What is known of Comes's answer. -/
abbrev svHq (d : Hs) (b : Bool) : SV NewT := .eq (.tuple #[.agg (rowA 32 (bF d)), .bool b])
set_option maxHeartbeats 2000000 in
theorem Comes_bad (leaf : Hs) (i n : Int) (v : Value) (w : World) (h : i < 0 ∨ n ≤ i ∨ 1048576 < n) : Cv 16 #[.agg (rowA 32 (bF leaf)), .int .i64 i, .int .i64 n, v] w (svHq (fun _ => 0) false) := by
  unfold Cv
  by_cases h1 : i < 0
  · clear h
    go_enter Tryd.func16, Tryd.ntmps16
    go_upto_region 2 with fail
    have r8 := rowIs_box (((w.alloc (.cells (rowA 32 (bF leaf)) 29)).alloc (.cells #[.int .i64 i] 3)).alloc (.cells #[.int .i64 n] 3)) 29 32 (bF fun _ => 0)
    rw [World.size_alloc, World.size_alloc, World.size_alloc] at r8
    have hN : NewT w ((((w.alloc (.cells (rowA 32 (bF leaf)) 29)).alloc (.cells #[.int .i64 i] 3)).alloc (.cells #[.int .i64 n] 3)).alloc (.cells (rowA 32 (bF fun _ => 0)) 29)) := (NewT.trans _ _ _ (NewT.trans _ _ _ (NewT.trans _ _ _ (NewT.alloc _ _) (NewT.alloc _ _)) (NewT.alloc _ _)) (NewT.alloc _ _))
    change Code.wp _ _ _ _ ((((w.alloc (.cells (rowA 32 (bF leaf)) 29)).alloc (.cells #[.int .i64 i] 3)).alloc (.cells #[.int .i64 n] 3)).alloc (.cells (rowA 32 (bF fun _ => 0)) 29))
    generalize ((((w.alloc (.cells (rowA 32 (bF leaf)) 29)).alloc (.cells #[.int .i64 i] 3)).alloc (.cells #[.int .i64 n] 3)).alloc (.cells (rowA 32 (bF fun _ => 0)) 29)) = W0 at r8 hN ⊢
    refine wp_region_lit ?_
    refine wpList_plain rfl (fun K hK => ?_)
    refine opr_build0 rfl (hK _ _ ?_)
    clear hK K
    simp only [Act.put, List.setIfInBounds_toArray, List.set_cons_zero, List.set_cons_succ]
    refine wpList_plain rfl (fun K hK => ?_)
    refine opr_putm (F := bF fun _ => 0) rfl rfl rfl r8 (by decide) info31 (fun _ => rfl) (fun i hi => by rw [if_pos (by omega), Nat.sub_zero]) ?_
    intro w9 hR9 r9
    refine hK _ _ ?_
    clear hK K
    refine wpList_plain rfl (fun K hK => ?_)
    refine opr_move (.inr rfl) (hK _ _ ?_)
    refine wpList_end rfl ?_
    simp only [Act.put, List.setIfInBounds_toArray, List.set_cons_zero, List.set_cons_succ]
    go_simp
    go_wp2
    exact bodyPost_ret (results_rt rfl rfl rfl r9 Tryd.underlying29 rfl info31) rfl ⟨_, rfl, NewT.rt hN hR9 (by omega), rfl⟩
  by_cases h2 : n ≤ i
  · clear h
    go_enter Tryd.func16, Tryd.ntmps16
    go_upto_region 2 with fail
    have r8 := rowIs_box (((w.alloc (.cells (rowA 32 (bF leaf)) 29)).alloc (.cells #[.int .i64 i] 3)).alloc (.cells #[.int .i64 n] 3)) 29 32 (bF fun _ => 0)
    rw [World.size_alloc, World.size_alloc, World.size_alloc] at r8
    have hN : NewT w ((((w.alloc (.cells (rowA 32 (bF leaf)) 29)).alloc (.cells #[.int .i64 i] 3)).alloc (.cells #[.int .i64 n] 3)).alloc (.cells (rowA 32 (bF fun _ => 0)) 29)) := (NewT.trans _ _ _ (NewT.trans _ _ _ (NewT.trans _ _ _ (NewT.alloc _ _) (NewT.alloc _ _)) (NewT.alloc _ _)) (NewT.alloc _ _))
    change Code.wp _ _ _ _ ((((w.alloc (.cells (rowA 32 (bF leaf)) 29)).alloc (.cells #[.int .i64 i] 3)).alloc (.cells #[.int .i64 n] 3)).alloc (.cells (rowA 32 (bF fun _ => 0)) 29))
    generalize ((((w.alloc (.cells (rowA 32 (bF leaf)) 29)).alloc (.cells #[.int .i64 i] 3)).alloc (.cells #[.int .i64 n] 3)).alloc (.cells (rowA 32 (bF fun _ => 0)) 29)) = W0 at r8 hN ⊢
    refine wp_region_lit ?_
    refine wpList_plain rfl (fun K hK => ?_)
    refine opr_build0 rfl (hK _ _ ?_)
    clear hK K
    simp only [Act.put, List.setIfInBounds_toArray, List.set_cons_zero, List.set_cons_succ]
    refine wpList_plain rfl (fun K hK => ?_)
    refine opr_putm (F := bF fun _ => 0) rfl rfl rfl r8 (by decide) info31 (fun _ => rfl) (fun i hi => by rw [if_pos (by omega), Nat.sub_zero]) ?_
    intro w9 hR9 r9
    refine hK _ _ ?_
    clear hK K
    refine wpList_plain rfl (fun K hK => ?_)
    refine opr_move (.inr rfl) (hK _ _ ?_)
    refine wpList_end rfl ?_
    simp only [Act.put, List.setIfInBounds_toArray, List.set_cons_zero, List.set_cons_succ]
    go_simp
    go_wp2
    exact bodyPost_ret (results_rt rfl rfl rfl r9 Tryd.underlying29 rfl info31) rfl ⟨_, rfl, NewT.rt hN hR9 (by omega), rfl⟩
  · have h3 : 1048576 < n := by omega
    clear h
    go_enter Tryd.func16, Tryd.ntmps16
    go_upto_region 2 with fail
    have r8 := rowIs_box (((w.alloc (.cells (rowA 32 (bF leaf)) 29)).alloc (.cells #[.int .i64 i] 3)).alloc (.cells #[.int .i64 n] 3)) 29 32 (bF fun _ => 0)
    rw [World.size_alloc, World.size_alloc, World.size_alloc] at r8
    have hN : NewT w ((((w.alloc (.cells (rowA 32 (bF leaf)) 29)).alloc (.cells #[.int .i64 i] 3)).alloc (.cells #[.int .i64 n] 3)).alloc (.cells (rowA 32 (bF fun _ => 0)) 29)) := (NewT.trans _ _ _ (NewT.trans _ _ _ (NewT.trans _ _ _ (NewT.alloc _ _) (NewT.alloc _ _)) (NewT.alloc _ _)) (NewT.alloc _ _))
    change Code.wp _ _ _ _ ((((w.alloc (.cells (rowA 32 (bF leaf)) 29)).alloc (.cells #[.int .i64 i] 3)).alloc (.cells #[.int .i64 n] 3)).alloc (.cells (rowA 32 (bF fun _ => 0)) 29))
    generalize ((((w.alloc (.cells (rowA 32 (bF leaf)) 29)).alloc (.cells #[.int .i64 i] 3)).alloc (.cells #[.int .i64 n] 3)).alloc (.cells (rowA 32 (bF fun _ => 0)) 29)) = W0 at r8 hN ⊢
    refine wp_region_lit ?_
    refine wpList_plain rfl (fun K hK => ?_)
    refine opr_build0 rfl (hK _ _ ?_)
    clear hK K
    simp only [Act.put, List.setIfInBounds_toArray, List.set_cons_zero, List.set_cons_succ]
    refine wpList_plain rfl (fun K hK => ?_)
    refine opr_putm (F := bF fun _ => 0) rfl rfl rfl r8 (by decide) info31 (fun _ => rfl) (fun i hi => by rw [if_pos (by omega), Nat.sub_zero]) ?_
    intro w9 hR9 r9
    refine hK _ _ ?_
    clear hK K
    refine wpList_plain rfl (fun K hK => ?_)
    refine opr_move (.inr rfl) (hK _ _ ?_)
    refine wpList_end rfl ?_
    simp only [Act.put, List.setIfInBounds_toArray, List.set_cons_zero, List.set_cons_succ]
    go_simp
    go_wp2
    exact bodyPost_ret (results_rt rfl rfl rfl r9 Tryd.underlying29 rfl info31) rfl ⟨_, rfl, NewT.rt hN hR9 (by omega), rfl⟩
set_option maxHeartbeats 2000000 in
theorem Comes_ok {node : Hs → Hs → Hs} {z : Hs} (hX : TreeH node z) (leaf : Hs) (i n : Nat) (v : Value) (path : List Hs) (w : World) (hT : Tables w) (hv : RdH w v path) (hpl : path.length ≤ 1000000) (hi : i < n) (hn : n ≤ 1048576) (hc : (leftsM i n).length = path.length) : Cv 16 #[.agg (rowA 32 (bF leaf)), .int .i64 (i : Int), .int .i64 (n : Int), v] w (svHq (upP node leaf i n (winM path path.length (leftsM i n).length)) true) := by
  unfold Cv
  have HC := Lib.hid hc
  have HT := Lib.hid hT
  have HV := Lib.hid hv
  have HPL := Lib.hid hpl
  have HI := Lib.hid hi
  have HNN := Lib.hid hn
  have t1 : ¬ (i : Int) < 0 := by omega
  have t2 : ¬ (n : Int) ≤ (i : Int) := by omega
  have t3 : ¬ (1048576 : Int) < (n : Int) := by omega
  clear hT hv hpl hi hn hc
  go_enter Tryd.func16, Tryd.ntmps16
  go_upto_region 3 with fail
  clear t1 t2 t3
  have r1 := (((rowIs_box w 29 32 (bF leaf)).alloc (.cells #[.int .i64 (i : Int)] 3)).alloc (.cells #[.int .i64 (n : Int)] 3)).alloc (.cells (rowA 32 (bF fun _ => 0)) 29)
  have r2 := ((rowIs_one (w.alloc (.cells (rowA 32 (bF leaf)) 29)) 3 (.int .i64 (i : Int))).alloc (.cells #[.int .i64 (n : Int)] 3)).alloc (.cells (rowA 32 (bF fun _ => 0)) 29)
  rw [World.size_alloc] at r2
  have r3 := (rowIs_one ((w.alloc (.cells (rowA 32 (bF leaf)) 29)).alloc (.cells #[.int .i64 (i : Int)] 3)) 3 (.int .i64 (n : Int))).alloc (.cells (rowA 32 (bF fun _ => 0)) 29)
  rw [World.size_alloc, World.size_alloc] at r3
  have r8 := rowIs_box (((w.alloc (.cells (rowA 32 (bF leaf)) 29)).alloc (.cells #[.int .i64 (i : Int)] 3)).alloc (.cells #[.int .i64 (n : Int)] 3)) 29 32 (bF fun _ => 0)
  rw [World.size_alloc, World.size_alloc, World.size_alloc] at r8
  have hN : NewT w ((((w.alloc (.cells (rowA 32 (bF leaf)) 29)).alloc (.cells #[.int .i64 (i : Int)] 3)).alloc (.cells #[.int .i64 (n : Int)] 3)).alloc (.cells (rowA 32 (bF fun _ => 0)) 29)) := (NewT.trans _ _ _ (NewT.trans _ _ _ (NewT.trans _ _ _ (NewT.alloc _ _) (NewT.alloc _ _)) (NewT.alloc _ _)) (NewT.alloc _ _))
  change Code.wp _ _ _ _ ((((w.alloc (.cells (rowA 32 (bF leaf)) 29)).alloc (.cells #[.int .i64 (i : Int)] 3)).alloc (.cells #[.int .i64 (n : Int)] 3)).alloc (.cells (rowA 32 (bF fun _ => 0)) 29))
  generalize ((((w.alloc (.cells (rowA 32 (bF leaf)) 29)).alloc (.cells #[.int .i64 (i : Int)] 3)).alloc (.cells #[.int .i64 (n : Int)] 3)).alloc (.cells (rowA 32 (bF fun _ => 0)) 29)) = W0 at r1 r2 r3 r8 hN ⊢
  have R8 := Lib.hid r8
  have HN := Lib.hid hN
  have h29 := ofAllP_ok #[.pointer (some ⟨w.heap.size, 0, none⟩), .pointer (some ⟨w.heap.size + 1, 0, none⟩), .pointer (some ⟨w.heap.size + 1 + 1, 0, none⟩)] v path (upP node leaf i n (winM path path.length (leftsM i n).length)) W0 (hN.tables HT.out) (hN.hs HV.out) (fun w' g hN' hg hk => by rw [show (#[.func (.func 44) #[] #[.pointer (some ⟨g, 0, none⟩)]] ++ #[.pointer (some ⟨w.heap.size, 0, none⟩), .pointer (some ⟨w.heap.size + 1, 0, none⟩), .pointer (some ⟨w.heap.size + 1 + 1, 0, none⟩)] : Array Value) = #[.func (.func 44) #[] #[.pointer (some ⟨g, 0, none⟩)], .pointer (some ⟨w.heap.size, 0, none⟩), .pointer (some ⟨w.heap.size + 1, 0, none⟩), .pointer (some ⟨w.heap.size + 1 + 1, 0, none⟩)] from rfl]; have h := Comes1_ok hX leaf i n g path.length w.heap.size (w.heap.size + 1) (w.heap.size + 1 + 1) path w' HPL.out HI.out HNN.out hk (by have := HC.out; omega) (hN'.row r1) (hN'.row r2) (hN'.row r3); rw [show path.length - (leftsM i n).length = 0 by have := HC.out; omega] at h; exact h)
  clear r1 r2 r3 r8
  refine wp_region_lit ?_
  refine wpList_plain rfl (fun K hK => ?_)
  refine opr_move (.inl rfl) (hK _ _ ?_)
  clear hK K
  refine wpList_plain rfl (fun K hK => ?_)
  refine opr_mkf (cap := #[.pointer (some ⟨w.heap.size, 0, none⟩), .pointer (some ⟨w.heap.size + 1, 0, none⟩), .pointer (some ⟨w.heap.size + 1 + 1, 0, none⟩)]) rfl (by simp only [List.map_toArray, List.map_cons, List.map_nil]; rfl) (hK _ _ ?_)
  clear hK K
  simp only [Act.put, List.setIfInBounds_toArray, List.set_cons_zero, List.set_cons_succ]
  refine wpList_plain rfl (fun K hK => ?_)
  refine opr_call (vs := #[v, .func (.func 30) #[] #[.pointer (some ⟨w.heap.size, 0, none⟩), .pointer (some ⟨w.heap.size + 1, 0, none⟩), .pointer (some ⟨w.heap.size + 1 + 1, 0, none⟩)]]) rfl Tryd.func29 (by kernel_rfl) (by kernel_rfl) (by simp only [List.map_toArray, List.map_cons, List.map_nil]; rfl) (h29.mono ?_)
  clear h29
  rintro e w4 ⟨rfl, hN4⟩
  refine ⟨_, rfl, hK _ _ ?_⟩
  clear hK K
  refine wpList_plain rfl (fun K hK => ?_)
  refine opr_ext rfl rfl rfl (hK _ _ ?_)
  clear hK K
  refine wpList_plain rfl (fun K hK => ?_)
  refine opr_ext rfl rfl rfl (hK _ _ ?_)
  clear hK K
  simp only [Act.put, List.setIfInBounds_toArray, List.set_cons_zero, List.set_cons_succ]
  refine wpList_plain rfl (fun K hK => ?_)
  refine opr_putm (F := bF (upP node leaf i n (winM path path.length (leftsM i n).length))) rfl rfl rfl (hN4.row R8.out) (by decide) info31 (fun _ => rfl) (fun i hi => by rw [if_pos (by omega), Nat.sub_zero]) ?_
  intro w9 hR9 r9
  refine hK _ _ ?_
  clear hK K
  refine wpList_plain rfl (fun K hK => ?_)
  refine opr_move (.inr rfl) (hK _ _ ?_)
  refine wpList_end rfl ?_
  simp only [Act.put, List.setIfInBounds_toArray, List.set_cons_zero, List.set_cons_succ]
  go_simp
  go_wp2
  exact bodyPost_ret (results_rt rfl rfl rfl r9 Tryd.underlying29 rfl info31) rfl ⟨_, rfl, NewT.rt (NewT.trans _ _ _ HN.out hN4) hR9 (by omega), rfl⟩
set_option maxHeartbeats 2000000 in
theorem Comes_many {node : Hs → Hs → Hs} {z : Hs} (hX : TreeH node z) (leaf : Hs) (i n : Nat) (v : Value) (path : List Hs) (w : World) (hT : Tables w) (hv : RdH w v path) (hpl : path.length ≤ 1000000) (hi : i < n) (hn : n ≤ 1048576) (hc : (leftsM i n).length < path.length) : Cv 16 #[.agg (rowA 32 (bF leaf)), .int .i64 (i : Int), .int .i64 (n : Int), v] w (svHq (fun _ => 0) false) := by
  unfold Cv
  have HC := Lib.hid hc
  have HT := Lib.hid hT
  have HV := Lib.hid hv
  have HPL := Lib.hid hpl
  have HI := Lib.hid hi
  have HNN := Lib.hid hn
  have t1 : ¬ (i : Int) < 0 := by omega
  have t2 : ¬ (n : Int) ≤ (i : Int) := by omega
  have t3 : ¬ (1048576 : Int) < (n : Int) := by omega
  clear hT hv hpl hi hn hc
  go_enter Tryd.func16, Tryd.ntmps16
  go_upto_region 3 with fail
  clear t1 t2 t3
  have r1 := (((rowIs_box w 29 32 (bF leaf)).alloc (.cells #[.int .i64 (i : Int)] 3)).alloc (.cells #[.int .i64 (n : Int)] 3)).alloc (.cells (rowA 32 (bF fun _ => 0)) 29)
  have r2 := ((rowIs_one (w.alloc (.cells (rowA 32 (bF leaf)) 29)) 3 (.int .i64 (i : Int))).alloc (.cells #[.int .i64 (n : Int)] 3)).alloc (.cells (rowA 32 (bF fun _ => 0)) 29)
  rw [World.size_alloc] at r2
  have r3 := (rowIs_one ((w.alloc (.cells (rowA 32 (bF leaf)) 29)).alloc (.cells #[.int .i64 (i : Int)] 3)) 3 (.int .i64 (n : Int))).alloc (.cells (rowA 32 (bF fun _ => 0)) 29)
  rw [World.size_alloc, World.size_alloc] at r3
  have r8 := rowIs_box (((w.alloc (.cells (rowA 32 (bF leaf)) 29)).alloc (.cells #[.int .i64 (i : Int)] 3)).alloc (.cells #[.int .i64 (n : Int)] 3)) 29 32 (bF fun _ => 0)
  rw [World.size_alloc, World.size_alloc, World.size_alloc] at r8
  have hN : NewT w ((((w.alloc (.cells (rowA 32 (bF leaf)) 29)).alloc (.cells #[.int .i64 (i : Int)] 3)).alloc (.cells #[.int .i64 (n : Int)] 3)).alloc (.cells (rowA 32 (bF fun _ => 0)) 29)) := (NewT.trans _ _ _ (NewT.trans _ _ _ (NewT.trans _ _ _ (NewT.alloc _ _) (NewT.alloc _ _)) (NewT.alloc _ _)) (NewT.alloc _ _))
  change Code.wp _ _ _ _ ((((w.alloc (.cells (rowA 32 (bF leaf)) 29)).alloc (.cells #[.int .i64 (i : Int)] 3)).alloc (.cells #[.int .i64 (n : Int)] 3)).alloc (.cells (rowA 32 (bF fun _ => 0)) 29))
  generalize ((((w.alloc (.cells (rowA 32 (bF leaf)) 29)).alloc (.cells #[.int .i64 (i : Int)] 3)).alloc (.cells #[.int .i64 (n : Int)] 3)).alloc (.cells (rowA 32 (bF fun _ => 0)) 29)) = W0 at r1 r2 r3 r8 hN ⊢
  have R8 := Lib.hid r8
  have HN := Lib.hid hN
  have h29 := ofAllP_many #[.pointer (some ⟨w.heap.size, 0, none⟩), .pointer (some ⟨w.heap.size + 1, 0, none⟩), .pointer (some ⟨w.heap.size + 1 + 1, 0, none⟩)] v path (upP node leaf i n (winM path path.length (leftsM i n).length)) (path.length - (leftsM i n).length - 1) W0 (hN.tables HT.out) (hN.hs HV.out) (by have e : path.length - (leftsM i n).length - 1 + 1 = path.length - (leftsM i n).length := (by have := HC.out; omega); rw [e]; exact (fun w' g hN' hg hk => by rw [show (#[.func (.func 44) #[] #[.pointer (some ⟨g, 0, none⟩)]] ++ #[.pointer (some ⟨w.heap.size, 0, none⟩), .pointer (some ⟨w.heap.size + 1, 0, none⟩), .pointer (some ⟨w.heap.size + 1 + 1, 0, none⟩)] : Array Value) = #[.func (.func 44) #[] #[.pointer (some ⟨g, 0, none⟩)], .pointer (some ⟨w.heap.size, 0, none⟩), .pointer (some ⟨w.heap.size + 1, 0, none⟩), .pointer (some ⟨w.heap.size + 1 + 1, 0, none⟩)] from rfl]; exact Comes1_ok hX leaf i n g path.length w.heap.size (w.heap.size + 1) (w.heap.size + 1 + 1) path w' HPL.out HI.out HNN.out hk (by have := HC.out; omega) (hN'.row r1) (hN'.row r2) (hN'.row r3)))
  clear r1 r2 r3 r8
  refine wp_region_lit ?_
  refine wpList_plain rfl (fun K hK => ?_)
  refine opr_move (.inl rfl) (hK _ _ ?_)
  clear hK K
  refine wpList_plain rfl (fun K hK => ?_)
  refine opr_mkf (cap := #[.pointer (some ⟨w.heap.size, 0, none⟩), .pointer (some ⟨w.heap.size + 1, 0, none⟩), .pointer (some ⟨w.heap.size + 1 + 1, 0, none⟩)]) rfl (by simp only [List.map_toArray, List.map_cons, List.map_nil]; rfl) (hK _ _ ?_)
  clear hK K
  simp only [Act.put, List.setIfInBounds_toArray, List.set_cons_zero, List.set_cons_succ]
  refine wpList_plain rfl (fun K hK => ?_)
  refine opr_call (vs := #[v, .func (.func 30) #[] #[.pointer (some ⟨w.heap.size, 0, none⟩), .pointer (some ⟨w.heap.size + 1, 0, none⟩), .pointer (some ⟨w.heap.size + 1 + 1, 0, none⟩)]]) rfl Tryd.func29 (by kernel_rfl) (by kernel_rfl) (by simp only [List.map_toArray, List.map_cons, List.map_nil]; rfl) (h29.mono ?_)
  clear h29
  rintro e w4 ⟨rfl, hN4⟩
  refine ⟨_, rfl, hK _ _ ?_⟩
  clear hK K
  refine wpList_plain rfl (fun K hK => ?_)
  refine opr_ext rfl rfl rfl (hK _ _ ?_)
  clear hK K
  refine wpList_plain rfl (fun K hK => ?_)
  refine opr_ext rfl rfl rfl (hK _ _ ?_)
  clear hK K
  simp only [Act.put, List.setIfInBounds_toArray, List.set_cons_zero, List.set_cons_succ]
  refine wpList_plain rfl (fun K hK => ?_)
  refine opr_putm (F := bF (fun _ => 0)) rfl rfl rfl (hN4.row R8.out) (by decide) info31 (fun _ => rfl) (fun i hi => by rw [if_pos (by omega), Nat.sub_zero]) ?_
  intro w9 hR9 r9
  refine hK _ _ ?_
  clear hK K
  refine wpList_plain rfl (fun K hK => ?_)
  refine opr_move (.inr rfl) (hK _ _ ?_)
  refine wpList_end rfl ?_
  simp only [Act.put, List.setIfInBounds_toArray, List.set_cons_zero, List.set_cons_succ]
  go_simp
  go_wp2
  exact bodyPost_ret (results_rt rfl rfl rfl r9 Tryd.underlying29 rfl info31) rfl ⟨_, rfl, NewT.rt (NewT.trans _ _ _ HN.out hN4) hR9 (by omega), rfl⟩
set_option maxHeartbeats 2000000 in
theorem Comes_few {node : Hs → Hs → Hs} {z : Hs} (hX : TreeH node z) (leaf : Hs) (i n : Nat) (v : Value) (path : List Hs) (w : World) (hT : Tables w) (hv : RdH w v path) (hpl : path.length ≤ 1000000) (hi : i < n) (hn : n ≤ 1048576) (hc : path.length < (leftsM i n).length) : Cv 16 #[.agg (rowA 32 (bF leaf)), .int .i64 (i : Int), .int .i64 (n : Int), v] w (svHq (fun _ => 0) false) := by
  unfold Cv
  have HC := Lib.hid hc
  have HT := Lib.hid hT
  have HV := Lib.hid hv
  have HPL := Lib.hid hpl
  have HI := Lib.hid hi
  have HNN := Lib.hid hn
  have t1 : ¬ (i : Int) < 0 := by omega
  have t2 : ¬ (n : Int) ≤ (i : Int) := by omega
  have t3 : ¬ (1048576 : Int) < (n : Int) := by omega
  clear hT hv hpl hi hn hc
  go_enter Tryd.func16, Tryd.ntmps16
  go_upto_region 3 with fail
  clear t1 t2 t3
  have r1 := (((rowIs_box w 29 32 (bF leaf)).alloc (.cells #[.int .i64 (i : Int)] 3)).alloc (.cells #[.int .i64 (n : Int)] 3)).alloc (.cells (rowA 32 (bF fun _ => 0)) 29)
  have r2 := ((rowIs_one (w.alloc (.cells (rowA 32 (bF leaf)) 29)) 3 (.int .i64 (i : Int))).alloc (.cells #[.int .i64 (n : Int)] 3)).alloc (.cells (rowA 32 (bF fun _ => 0)) 29)
  rw [World.size_alloc] at r2
  have r3 := (rowIs_one ((w.alloc (.cells (rowA 32 (bF leaf)) 29)).alloc (.cells #[.int .i64 (i : Int)] 3)) 3 (.int .i64 (n : Int))).alloc (.cells (rowA 32 (bF fun _ => 0)) 29)
  rw [World.size_alloc, World.size_alloc] at r3
  have r8 := rowIs_box (((w.alloc (.cells (rowA 32 (bF leaf)) 29)).alloc (.cells #[.int .i64 (i : Int)] 3)).alloc (.cells #[.int .i64 (n : Int)] 3)) 29 32 (bF fun _ => 0)
  rw [World.size_alloc, World.size_alloc, World.size_alloc] at r8
  have hN : NewT w ((((w.alloc (.cells (rowA 32 (bF leaf)) 29)).alloc (.cells #[.int .i64 (i : Int)] 3)).alloc (.cells #[.int .i64 (n : Int)] 3)).alloc (.cells (rowA 32 (bF fun _ => 0)) 29)) := (NewT.trans _ _ _ (NewT.trans _ _ _ (NewT.trans _ _ _ (NewT.alloc _ _) (NewT.alloc _ _)) (NewT.alloc _ _)) (NewT.alloc _ _))
  change Code.wp _ _ _ _ ((((w.alloc (.cells (rowA 32 (bF leaf)) 29)).alloc (.cells #[.int .i64 (i : Int)] 3)).alloc (.cells #[.int .i64 (n : Int)] 3)).alloc (.cells (rowA 32 (bF fun _ => 0)) 29))
  generalize ((((w.alloc (.cells (rowA 32 (bF leaf)) 29)).alloc (.cells #[.int .i64 (i : Int)] 3)).alloc (.cells #[.int .i64 (n : Int)] 3)).alloc (.cells (rowA 32 (bF fun _ => 0)) 29)) = W0 at r1 r2 r3 r8 hN ⊢
  have R8 := Lib.hid r8
  have HN := Lib.hid hN
  have h29 := ofAllP_few #[.pointer (some ⟨w.heap.size, 0, none⟩), .pointer (some ⟨w.heap.size + 1, 0, none⟩), .pointer (some ⟨w.heap.size + 1 + 1, 0, none⟩)] v path W0 (hN.tables HT.out) (hN.hs HV.out) (fun w' g hN' hg hk => by rw [show (#[.func (.func 44) #[] #[.pointer (some ⟨g, 0, none⟩)]] ++ #[.pointer (some ⟨w.heap.size, 0, none⟩), .pointer (some ⟨w.heap.size + 1, 0, none⟩), .pointer (some ⟨w.heap.size + 1 + 1, 0, none⟩)] : Array Value) = #[.func (.func 44) #[] #[.pointer (some ⟨g, 0, none⟩)], .pointer (some ⟨w.heap.size, 0, none⟩), .pointer (some ⟨w.heap.size + 1, 0, none⟩), .pointer (some ⟨w.heap.size + 1 + 1, 0, none⟩)] from rfl]; exact Comes1_no hX leaf i n g path.length w.heap.size (w.heap.size + 1) (w.heap.size + 1 + 1) path w' HPL.out HI.out HNN.out hk HC.out (hN'.row r1) (hN'.row r2) (hN'.row r3))
  clear r1 r2 r3 r8
  refine wp_region_lit ?_
  refine wpList_plain rfl (fun K hK => ?_)
  refine opr_move (.inl rfl) (hK _ _ ?_)
  clear hK K
  refine wpList_plain rfl (fun K hK => ?_)
  refine opr_mkf (cap := #[.pointer (some ⟨w.heap.size, 0, none⟩), .pointer (some ⟨w.heap.size + 1, 0, none⟩), .pointer (some ⟨w.heap.size + 1 + 1, 0, none⟩)]) rfl (by simp only [List.map_toArray, List.map_cons, List.map_nil]; rfl) (hK _ _ ?_)
  clear hK K
  simp only [Act.put, List.setIfInBounds_toArray, List.set_cons_zero, List.set_cons_succ]
  refine wpList_plain rfl (fun K hK => ?_)
  refine opr_call (vs := #[v, .func (.func 30) #[] #[.pointer (some ⟨w.heap.size, 0, none⟩), .pointer (some ⟨w.heap.size + 1, 0, none⟩), .pointer (some ⟨w.heap.size + 1 + 1, 0, none⟩)]]) rfl Tryd.func29 (by kernel_rfl) (by kernel_rfl) (by simp only [List.map_toArray, List.map_cons, List.map_nil]; rfl) (h29.mono ?_)
  clear h29
  rintro e w4 ⟨rfl, hN4⟩
  refine ⟨_, rfl, hK _ _ ?_⟩
  clear hK K
  refine wpList_plain rfl (fun K hK => ?_)
  refine opr_ext rfl rfl rfl (hK _ _ ?_)
  clear hK K
  refine wpList_plain rfl (fun K hK => ?_)
  refine opr_ext rfl rfl rfl (hK _ _ ?_)
  clear hK K
  simp only [Act.put, List.setIfInBounds_toArray, List.set_cons_zero, List.set_cons_succ]
  refine wpList_plain rfl (fun K hK => ?_)
  refine opr_putm (F := bF (fun _ => 0)) rfl rfl rfl (hN4.row R8.out) (by decide) info31 (fun _ => rfl) (fun i hi => by rw [if_pos (by omega), Nat.sub_zero]) ?_
  intro w9 hR9 r9
  refine hK _ _ ?_
  clear hK K
  refine wpList_plain rfl (fun K hK => ?_)
  refine opr_move (.inr rfl) (hK _ _ ?_)
  refine wpList_end rfl ?_
  simp only [Act.put, List.setIfInBounds_toArray, List.set_cons_zero, List.set_cons_succ]
  go_simp
  go_wp2
  exact bodyPost_ret (results_rt rfl rfl rfl r9 Tryd.underlying29 rfl info31) rfl ⟨_, rfl, NewT.rt (NewT.trans _ _ _ HN.out hN4) hR9 (by omega), rfl⟩
theorem Comes_cv {node : Hs → Hs → Hs} {z : Hs} (hX : TreeH node z) (leaf : Hs) (i n : Int) (v : Value) (path : List Hs) (w : World) (hT : Tables w) (hv : RdH w v path) (hpl : path.length ≤ 1000000) : Cv 16 #[.agg (rowA 32 (bF leaf)), .int .i64 i, .int .i64 n, v] w (svHq (comesM node (fun _ => 0) leaf i n path) (okP i n path.length)) := by
  by_cases h : i < 0 ∨ n ≤ i ∨ 1048576 < n
  · have e : okP i n path.length = false := by
      unfold okP
      rcases h with h | h | h
      · simp [show ¬ 0 ≤ i by omega]
      · simp [show ¬ i < n by omega]
      · simp [show ¬ n ≤ 1048576 by omega]
    unfold comesM
    rw [e, if_neg (by decide)]
    exact Comes_bad leaf i n v w h
  · obtain ⟨i, rfl⟩ : ∃ k : Nat, i = (k : Int) := ⟨i.toNat, by omega⟩
    obtain ⟨n, rfl⟩ : ∃ k : Nat, n = (k : Int) := ⟨n.toNat, by omega⟩
    have e : okP (i : Int) (n : Int) path.length = decide ((leftsM i n).length = path.length) := by
      unfold okP; rw [Int.toNat_natCast, Int.toNat_natCast]; simp [show (i : Int) < n by omega, show (n : Int) ≤ 1048576 by omega]
    unfold comesM
    rw [e, Int.toNat_natCast, Int.toNat_natCast]
    rcases Nat.lt_trichotomy (leftsM i n).length path.length with h3 | h3 | h3
    · rw [decide_eq_false (by omega), if_neg (by decide)]
      exact Comes_many hX leaf i n v path w hT hv hpl (by omega) (by omega) h3
    · have := Comes_ok hX leaf i n v path w hT hv hpl (by omega) (by omega) h3
      rw [h3, winM_all] at this
      rw [decide_eq_true h3, if_pos rfl]
      exact this
    · rw [decide_eq_false (by omega), if_neg (by decide)]
      exact Comes_few hX leaf i n v path w hT hv hpl (by omega) (by omega) h3
end Go.Proofs.YtoigjcadncecpaaDoor
/- A step that writes two blocks alone; two rows of hashes that are written one behind the other. -/
namespace Go.Proofs.YtoigjcadncecpaaDoor
open Go Go.RowKit
set_option maxRecDepth 8000
set_option linter.all false
/-- A step that writes blocks b and c, and new memory, alone. -/
structure RW (b c : Nat) (w w' : World) : Prop where
  below : Below (min b c) w w'
  keep : KeepBut [b, c] w w'
theorem RW.trans {b c : Nat} (x y z : World) (h : RW b c x y) (k : RW b c y z) : RW b c x z := ⟨h.below.trans k.below, h.keep.trans k.keep⟩
theorem RW.drew (b c : Nat) (w : World) : RW b c w w.drew := ⟨(Below.refl _ _).drew, KeepBut.drew _⟩
theorem RW.size {b c : Nat} {w w' : World} (h : RW b c w w') : w.heap.size ≤ w'.heap.size := h.below.size
theorem RW.new {b c : Nat} {w w' : World} (hb : b < w.heap.size) (h : NewT w w') : RW b c w w' := ⟨h.out.mono (by omega), KeepBut.below h⟩
theorem RW.fst {b c : Nat} {w w' : World} (h : RT b w w') : RW b c w w' := ⟨h.below.mono (by omega), h.keep.1, fun k o hk => h.keep.2 k o (by simp at hk ⊢; exact hk.1)⟩
theorem RW.snd {b c : Nat} {w w' : World} (h : RT c w w') : RW b c w w' := ⟨h.below.mono (by omega), h.keep.1, fun k o hk => h.keep.2 k o (by simp at hk ⊢; exact hk.2)⟩
theorem RW.row {b c : Nat} {w w' : World} (h : RW b c w w') {k n : Nat} {t : TypeId} {f : Nat → Value} (hk : k ≠ b ∧ k ≠ c) (hr : w.rowIs k t n f) : w'.rowIs k t n f := h.keep.row (by simpa using hk) hr
theorem NewT.rw {w w1 w2 : World} {b c : Nat} (h : NewT w w1) (hR : RW b c w1 w2) (hb : w.heap.size ≤ b) (hc : w.heap.size ≤ c) : NewT w w2 := NewT.of (h.out.trans (hR.below.mono (by omega)))
def TwoAt (w : World) (b c : Nat) (d e : Hs) : Prop := w.rowIs b 29 32 (bF d) ∧ w.rowIs c 29 32 (bF e)
theorem TwoAt.new {w w' : World} {b c : Nat} {d e : Hs} (h : TwoAt w b c d e) (hN : NewT w w') : TwoAt w' b c d e := ⟨hN.row h.1, hN.row h.2⟩
end Go.Proofs.YtoigjcadncecpaaDoor
/- What a proof comes to: Both. -/
namespace Go.Proofs.YtoigjcadncecpaaDoor
open Go Go.RowKit
set_option maxRecDepth 8000
set_option linter.all false
/-- What is known of Both's answer. -/
abbrev svHHq (d e : Hs) (b : Bool) : SV NewT := .eq (.tuple #[.agg (rowA 32 (bF d)), .agg (rowA 32 (bF e)), .bool b])
set_option maxHeartbeats 2000000 in
theorem Both_bad (old : Hs) (m n : Int) (v : Value) (w : World) (h : m < 1 ∨ n < m ∨ 1048576 < n) : Cv 18 #[.int .i64 m, .int .i64 n, .agg (rowA 32 (bF old)), v] w (svHHq (fun _ => 0) (fun _ => 0) false) := by
  unfold Cv
  by_cases h1 : m < 1
  · clear h
    go_enter Tryd.func18, Tryd.ntmps18
    go_upto_region 2 with fail
    have r8 := (rowIs_box (((w.alloc (.cells #[.int .i64 m] 3)).alloc (.cells #[.int .i64 n] 3)).alloc (.cells (rowA 32 (bF old)) 29)) 29 32 (bF fun _ => 0)).alloc (.cells (rowA 32 (bF fun _ => 0)) 29)
    rw [World.size_alloc, World.size_alloc, World.size_alloc] at r8
    have r9 := rowIs_box ((((w.alloc (.cells #[.int .i64 m] 3)).alloc (.cells #[.int .i64 n] 3)).alloc (.cells (rowA 32 (bF old)) 29)).alloc (.cells (rowA 32 (bF fun _ => 0)) 29)) 29 32 (bF fun _ => 0)
    rw [World.size_alloc, World.size_alloc, World.size_alloc, World.size_alloc] at r9
    have hN : NewT w (((((w.alloc (.cells #[.int .i64 m] 3)).alloc (.cells #[.int .i64 n] 3)).alloc (.cells (rowA 32 (bF old)) 29)).alloc (.cells (rowA 32 (bF fun _ => 0)) 29)).alloc (.cells (rowA 32 (bF fun _ => 0)) 29)) := (NewT.trans _ _ _ (NewT.trans _ _ _ (NewT.trans _ _ _ (NewT.trans _ _ _ (NewT.alloc _ _) (NewT.alloc _ _)) (NewT.alloc _ _)) (NewT.alloc _ _)) (NewT.alloc _ _))
    change Code.wp _ _ _ _ (((((w.alloc (.cells #[.int .i64 m] 3)).alloc (.cells #[.int .i64 n] 3)).alloc (.cells (rowA 32 (bF old)) 29)).alloc (.cells (rowA 32 (bF fun _ => 0)) 29)).alloc (.cells (rowA 32 (bF fun _ => 0)) 29))
    generalize (((((w.alloc (.cells #[.int .i64 m] 3)).alloc (.cells #[.int .i64 n] 3)).alloc (.cells (rowA 32 (bF old)) 29)).alloc (.cells (rowA 32 (bF fun _ => 0)) 29)).alloc (.cells (rowA 32 (bF fun _ => 0)) 29)) = W0 at r8 r9 hN ⊢
    refine wp_region_lit ?_
    refine wpList_plain rfl (fun K hK => ?_)
    refine opr_build0 rfl (hK _ _ ?_)
    clear hK K
    refine wpList_plain rfl (fun K hK => ?_)
    refine opr_build0 rfl (hK _ _ ?_)
    clear hK K
    simp only [Act.put, List.setIfInBounds_toArray, List.set_cons_zero, List.set_cons_succ]
    refine wpList_plain rfl (fun K hK => ?_)
    refine opr_putm (F := bF (fun _ => 0)) rfl rfl rfl (r8) (by decide) info31 (fun _ => rfl) (fun i hi => by rw [if_pos (by omega), Nat.sub_zero]) ?_
    intro w5 hR5 r5
    refine hK _ _ ?_
    clear hK K
    refine wpList_plain rfl (fun K hK => ?_)
    refine opr_putm (F := bF (fun _ => 0)) rfl rfl rfl (hR5.row (by omega) r9) (by decide) info31 (fun _ => rfl) (fun i hi => by rw [if_pos (by omega), Nat.sub_zero]) ?_
    intro w6 hR6 r6
    refine hK _ _ ?_
    clear hK K
    refine wpList_plain rfl (fun K hK => ?_)
    refine opr_move (.inr rfl) (hK _ _ ?_)
    refine wpList_end rfl ?_
    simp only [Act.put, List.setIfInBounds_toArray, List.set_cons_zero, List.set_cons_succ]
    go_simp
    go_wp2
    exact bodyPost_ret (results_rrt rfl rfl rfl rfl (hR6.row (by omega) r5) r6 Tryd.underlying29 rfl info31) rfl ⟨_, rfl, NewT.rt (NewT.rt hN hR5 (by omega)) hR6 (by omega), rfl⟩
  by_cases h2 : n < m
  · clear h
    go_enter Tryd.func18, Tryd.ntmps18
    go_upto_region 2 with fail
    have r8 := (rowIs_box (((w.alloc (.cells #[.int .i64 m] 3)).alloc (.cells #[.int .i64 n] 3)).alloc (.cells (rowA 32 (bF old)) 29)) 29 32 (bF fun _ => 0)).alloc (.cells (rowA 32 (bF fun _ => 0)) 29)
    rw [World.size_alloc, World.size_alloc, World.size_alloc] at r8
    have r9 := rowIs_box ((((w.alloc (.cells #[.int .i64 m] 3)).alloc (.cells #[.int .i64 n] 3)).alloc (.cells (rowA 32 (bF old)) 29)).alloc (.cells (rowA 32 (bF fun _ => 0)) 29)) 29 32 (bF fun _ => 0)
    rw [World.size_alloc, World.size_alloc, World.size_alloc, World.size_alloc] at r9
    have hN : NewT w (((((w.alloc (.cells #[.int .i64 m] 3)).alloc (.cells #[.int .i64 n] 3)).alloc (.cells (rowA 32 (bF old)) 29)).alloc (.cells (rowA 32 (bF fun _ => 0)) 29)).alloc (.cells (rowA 32 (bF fun _ => 0)) 29)) := (NewT.trans _ _ _ (NewT.trans _ _ _ (NewT.trans _ _ _ (NewT.trans _ _ _ (NewT.alloc _ _) (NewT.alloc _ _)) (NewT.alloc _ _)) (NewT.alloc _ _)) (NewT.alloc _ _))
    change Code.wp _ _ _ _ (((((w.alloc (.cells #[.int .i64 m] 3)).alloc (.cells #[.int .i64 n] 3)).alloc (.cells (rowA 32 (bF old)) 29)).alloc (.cells (rowA 32 (bF fun _ => 0)) 29)).alloc (.cells (rowA 32 (bF fun _ => 0)) 29))
    generalize (((((w.alloc (.cells #[.int .i64 m] 3)).alloc (.cells #[.int .i64 n] 3)).alloc (.cells (rowA 32 (bF old)) 29)).alloc (.cells (rowA 32 (bF fun _ => 0)) 29)).alloc (.cells (rowA 32 (bF fun _ => 0)) 29)) = W0 at r8 r9 hN ⊢
    refine wp_region_lit ?_
    refine wpList_plain rfl (fun K hK => ?_)
    refine opr_build0 rfl (hK _ _ ?_)
    clear hK K
    refine wpList_plain rfl (fun K hK => ?_)
    refine opr_build0 rfl (hK _ _ ?_)
    clear hK K
    simp only [Act.put, List.setIfInBounds_toArray, List.set_cons_zero, List.set_cons_succ]
    refine wpList_plain rfl (fun K hK => ?_)
    refine opr_putm (F := bF (fun _ => 0)) rfl rfl rfl (r8) (by decide) info31 (fun _ => rfl) (fun i hi => by rw [if_pos (by omega), Nat.sub_zero]) ?_
    intro w5 hR5 r5
    refine hK _ _ ?_
    clear hK K
    refine wpList_plain rfl (fun K hK => ?_)
    refine opr_putm (F := bF (fun _ => 0)) rfl rfl rfl (hR5.row (by omega) r9) (by decide) info31 (fun _ => rfl) (fun i hi => by rw [if_pos (by omega), Nat.sub_zero]) ?_
    intro w6 hR6 r6
    refine hK _ _ ?_
    clear hK K
    refine wpList_plain rfl (fun K hK => ?_)
    refine opr_move (.inr rfl) (hK _ _ ?_)
    refine wpList_end rfl ?_
    simp only [Act.put, List.setIfInBounds_toArray, List.set_cons_zero, List.set_cons_succ]
    go_simp
    go_wp2
    exact bodyPost_ret (results_rrt rfl rfl rfl rfl (hR6.row (by omega) r5) r6 Tryd.underlying29 rfl info31) rfl ⟨_, rfl, NewT.rt (NewT.rt hN hR5 (by omega)) hR6 (by omega), rfl⟩
  · have h3 : 1048576 < n := by omega
    clear h
    go_enter Tryd.func18, Tryd.ntmps18
    go_upto_region 2 with fail
    have r8 := (rowIs_box (((w.alloc (.cells #[.int .i64 m] 3)).alloc (.cells #[.int .i64 n] 3)).alloc (.cells (rowA 32 (bF old)) 29)) 29 32 (bF fun _ => 0)).alloc (.cells (rowA 32 (bF fun _ => 0)) 29)
    rw [World.size_alloc, World.size_alloc, World.size_alloc] at r8
    have r9 := rowIs_box ((((w.alloc (.cells #[.int .i64 m] 3)).alloc (.cells #[.int .i64 n] 3)).alloc (.cells (rowA 32 (bF old)) 29)).alloc (.cells (rowA 32 (bF fun _ => 0)) 29)) 29 32 (bF fun _ => 0)
    rw [World.size_alloc, World.size_alloc, World.size_alloc, World.size_alloc] at r9
    have hN : NewT w (((((w.alloc (.cells #[.int .i64 m] 3)).alloc (.cells #[.int .i64 n] 3)).alloc (.cells (rowA 32 (bF old)) 29)).alloc (.cells (rowA 32 (bF fun _ => 0)) 29)).alloc (.cells (rowA 32 (bF fun _ => 0)) 29)) := (NewT.trans _ _ _ (NewT.trans _ _ _ (NewT.trans _ _ _ (NewT.trans _ _ _ (NewT.alloc _ _) (NewT.alloc _ _)) (NewT.alloc _ _)) (NewT.alloc _ _)) (NewT.alloc _ _))
    change Code.wp _ _ _ _ (((((w.alloc (.cells #[.int .i64 m] 3)).alloc (.cells #[.int .i64 n] 3)).alloc (.cells (rowA 32 (bF old)) 29)).alloc (.cells (rowA 32 (bF fun _ => 0)) 29)).alloc (.cells (rowA 32 (bF fun _ => 0)) 29))
    generalize (((((w.alloc (.cells #[.int .i64 m] 3)).alloc (.cells #[.int .i64 n] 3)).alloc (.cells (rowA 32 (bF old)) 29)).alloc (.cells (rowA 32 (bF fun _ => 0)) 29)).alloc (.cells (rowA 32 (bF fun _ => 0)) 29)) = W0 at r8 r9 hN ⊢
    refine wp_region_lit ?_
    refine wpList_plain rfl (fun K hK => ?_)
    refine opr_build0 rfl (hK _ _ ?_)
    clear hK K
    refine wpList_plain rfl (fun K hK => ?_)
    refine opr_build0 rfl (hK _ _ ?_)
    clear hK K
    simp only [Act.put, List.setIfInBounds_toArray, List.set_cons_zero, List.set_cons_succ]
    refine wpList_plain rfl (fun K hK => ?_)
    refine opr_putm (F := bF (fun _ => 0)) rfl rfl rfl (r8) (by decide) info31 (fun _ => rfl) (fun i hi => by rw [if_pos (by omega), Nat.sub_zero]) ?_
    intro w5 hR5 r5
    refine hK _ _ ?_
    clear hK K
    refine wpList_plain rfl (fun K hK => ?_)
    refine opr_putm (F := bF (fun _ => 0)) rfl rfl rfl (hR5.row (by omega) r9) (by decide) info31 (fun _ => rfl) (fun i hi => by rw [if_pos (by omega), Nat.sub_zero]) ?_
    intro w6 hR6 r6
    refine hK _ _ ?_
    clear hK K
    refine wpList_plain rfl (fun K hK => ?_)
    refine opr_move (.inr rfl) (hK _ _ ?_)
    refine wpList_end rfl ?_
    simp only [Act.put, List.setIfInBounds_toArray, List.set_cons_zero, List.set_cons_succ]
    go_simp
    go_wp2
    exact bodyPost_ret (results_rrt rfl rfl rfl rfl (hR6.row (by omega) r5) r6 Tryd.underlying29 rfl info31) rfl ⟨_, rfl, NewT.rt (NewT.rt hN hR5 (by omega)) hR6 (by omega), rfl⟩
set_option maxHeartbeats 4000000 in
theorem Both_good (old p q : Hs) (bq : Bool) (m n : Nat) (v : Value) (w : World) (hm1 : 1 ≤ m) (hmn : m ≤ n) (hn : n ≤ 1048576)
    (h33 : ∀ W, NewT w W → W.rowIs w.heap.size 3 1 (fun _ => .int .i64 ((m : Int))) → W.rowIs (w.heap.size + 1) 3 1 (fun _ => .int .i64 ((n : Int))) → W.rowIs (w.heap.size + 1 + 1) 29 32 (bF old) → w.heap.size + 1 + 1 < W.heap.size →
      Calls Tryd.prog 33 #[v, .func (.func 34) #[] #[.pointer (some ⟨w.heap.size, 0, none⟩), .pointer (some ⟨w.heap.size + 1, 0, none⟩), .pointer (some ⟨w.heap.size + 1 + 1, 0, none⟩)]] W fun e w' => e = .returned (.tuple #[.agg (rowA 64 (rtF p q)), .bool bq]) ∧ NewT W w') :
    Cv 18 #[.int .i64 (m : Int), .int .i64 (n : Int), .agg (rowA 32 (bF old)), v] w (svHHq p q bq) := by
  unfold Cv
  have H33 := Lib.hid h33
  have t1 : ¬ (m : Int) < 1 := by omega
  have t2 : ¬ (n : Int) < (m : Int) := by omega
  have t3 : ¬ (1048576 : Int) < (n : Int) := by omega
  clear hm1 hmn hn h33
  go_enter Tryd.func18, Tryd.ntmps18
  go_upto_region 3 with fail
  clear t1 t2 t3
  have r1 := ((((rowIs_one w 3 (.int .i64 (m : Int))).alloc (.cells #[.int .i64 (n : Int)] 3)).alloc (.cells (rowA 32 (bF old)) 29)).alloc (.cells (rowA 32 (bF fun _ => 0)) 29)).alloc (.cells (rowA 32 (bF fun _ => 0)) 29)
  have r2 := (((rowIs_one (w.alloc (.cells #[.int .i64 (m : Int)] 3)) 3 (.int .i64 (n : Int))).alloc (.cells (rowA 32 (bF old)) 29)).alloc (.cells (rowA 32 (bF fun _ => 0)) 29)).alloc (.cells (rowA 32 (bF fun _ => 0)) 29)
  rw [World.size_alloc] at r2
  have r3 := ((rowIs_box ((w.alloc (.cells #[.int .i64 (m : Int)] 3)).alloc (.cells #[.int .i64 (n : Int)] 3)) 29 32 (bF old)).alloc (.cells (rowA 32 (bF fun _ => 0)) 29)).alloc (.cells (rowA 32 (bF fun _ => 0)) 29)
  rw [World.size_alloc, World.size_alloc] at r3
  have r8 := (rowIs_box (((w.alloc (.cells #[.int .i64 (m : Int)] 3)).alloc (.cells #[.int .i64 (n : Int)] 3)).alloc (.cells (rowA 32 (bF old)) 29)) 29 32 (bF fun _ => 0)).alloc (.cells (rowA 32 (bF fun _ => 0)) 29)
  rw [World.size_alloc, World.size_alloc, World.size_alloc] at r8
  have r9 := rowIs_box ((((w.alloc (.cells #[.int .i64 (m : Int)] 3)).alloc (.cells #[.int .i64 (n : Int)] 3)).alloc (.cells (rowA 32 (bF old)) 29)).alloc (.cells (rowA 32 (bF fun _ => 0)) 29)) 29 32 (bF fun _ => 0)
  rw [World.size_alloc, World.size_alloc, World.size_alloc, World.size_alloc] at r9
  have hN : NewT w (((((w.alloc (.cells #[.int .i64 (m : Int)] 3)).alloc (.cells #[.int .i64 (n : Int)] 3)).alloc (.cells (rowA 32 (bF old)) 29)).alloc (.cells (rowA 32 (bF fun _ => 0)) 29)).alloc (.cells (rowA 32 (bF fun _ => 0)) 29)) := (NewT.trans _ _ _ (NewT.trans _ _ _ (NewT.trans _ _ _ (NewT.trans _ _ _ (NewT.alloc _ _) (NewT.alloc _ _)) (NewT.alloc _ _)) (NewT.alloc _ _)) (NewT.alloc _ _))
  change Code.wp _ _ _ _ (((((w.alloc (.cells #[.int .i64 (m : Int)] 3)).alloc (.cells #[.int .i64 (n : Int)] 3)).alloc (.cells (rowA 32 (bF old)) 29)).alloc (.cells (rowA 32 (bF fun _ => 0)) 29)).alloc (.cells (rowA 32 (bF fun _ => 0)) 29))
  generalize (((((w.alloc (.cells #[.int .i64 (m : Int)] 3)).alloc (.cells #[.int .i64 (n : Int)] 3)).alloc (.cells (rowA 32 (bF old)) 29)).alloc (.cells (rowA 32 (bF fun _ => 0)) 29)).alloc (.cells (rowA 32 (bF fun _ => 0)) 29)) = W0 at r1 r2 r3 r8 r9 hN ⊢
  have R8 := Lib.hid r8
  have R9 := Lib.hid r9
  have HR9 := Lib.hid r9
  have HN := Lib.hid hN
  have hc := H33.out W0 hN r1 r2 r3 r3.lt
  clear r1 r2 r3 r8 r9 hN H33
  refine wp_region_lit ?_
  refine wpList_plain rfl (fun K hK => ?_)
  refine opr_move (.inl rfl) (hK _ _ ?_)
  clear hK K
  refine wpList_plain rfl (fun K hK => ?_)
  refine opr_mkf (cap := #[.pointer (some ⟨w.heap.size, 0, none⟩), .pointer (some ⟨w.heap.size + 1, 0, none⟩), .pointer (some ⟨w.heap.size + 1 + 1, 0, none⟩)]) rfl (by simp only [List.map_toArray, List.map_cons, List.map_nil]; rfl) (hK _ _ ?_)
  clear hK K
  simp only [Act.put, List.setIfInBounds_toArray, List.set_cons_zero, List.set_cons_succ]
  refine wpList_plain rfl (fun K hK => ?_)
  refine opr_call (vs := #[v, .func (.func 34) #[] #[.pointer (some ⟨w.heap.size, 0, none⟩), .pointer (some ⟨w.heap.size + 1, 0, none⟩), .pointer (some ⟨w.heap.size + 1 + 1, 0, none⟩)]]) rfl Tryd.func33 (by kernel_rfl) (by kernel_rfl) (by simp only [List.map_toArray, List.map_cons, List.map_nil]; rfl) (hc.mono ?_)
  clear hc
  rintro e w4 ⟨rfl, hN4⟩
  refine ⟨_, rfl, hK _ _ ?_⟩
  clear hK K
  refine wpList_plain rfl (fun K hK => ?_)
  refine opr_move (.inl rfl) (hK _ _ ?_)
  clear hK K
  refine wpList_plain rfl (fun K hK => ?_)
  refine opr_ext rfl rfl rfl (hK _ _ ?_)
  clear hK K
  refine wpList_plain rfl (fun K hK => ?_)
  refine opr_ext rfl rfl rfl (hK _ _ ?_)
  clear hK K
  simp only [Act.put, List.setIfInBounds_toArray, List.set_cons_zero, List.set_cons_succ]
  refine wpList_new (n := 64) rfl rfl rfl rfl rfl rfl (by simp) run_alloc_roots infoB (rtF_one _ _) rfl ?_
  intro w5 hn5 r11
  refine wpList_plain rfl (fun K hK => ?_)
  refine opr_move (.inr rfl) (hK _ _ ?_)
  refine wpList_end rfl ?_
  simp only [Act.put, List.setIfInBounds_toArray, List.set_cons_zero, List.set_cons_succ]
  go_simp
  obtain ⟨p11, hp11⟩ : ∃ p, w4.heap.size = p := ⟨_, rfl⟩
  rw [hp11] at r11 ⊢
  have R11 := Lib.hid r11
  replace R8 := Lib.hid (hn5.row (hN4.row R8.out))
  replace R9 := Lib.hid (hn5.row (hN4.row R9.out))
  replace HN := Lib.hid (NewT.trans _ _ _ HN.out (NewT.trans _ _ _ hN4 hn5))
  have hp : w.heap.size + 1 + 1 + 1 + 1 < p11 := by have := (hN4.row HR9.out).lt; omega
  clear r11 hN4 hn5 hp11 HR9
  go_upto_region 4 with fail
  refine wp_region_relyP (RW (w.heap.size + 1 + 1 + 1) (w.heap.size + 1 + 1 + 1 + 1)) (fun j w1 => TwoAt w1 (w.heap.size + 1 + 1 + 1) (w.heap.size + 1 + 1 + 1 + 1) (match j with | 0 => (fun _ => 0) | _ => p) (match j with | 0 => (fun _ => 0) | 1 => (fun _ => 0) | _ => q)) [SV.eq (.pointer (some ⟨p11, 0, none⟩)), SV.eq (.agg (rowA 32 (bF (p)))), SV.eq (.pointer (some ⟨p11, 32, none⟩)), SV.eq (.agg (rowA 32 (bF (q)))), SV.eq (.bool (bq)), SV.any, SV.any] [([(11, none)], none), ([(32, some 0)], none), ([(11, none)], none), ([(34, some 2)], none), ([(12, none)], none), ([(8, none), (33, some 1)], none), ([(9, none), (35, some 3)], none)] [none, none, none, none, none, some 0, some 1] [5, 6] 37 rfl (by kernel_rfl) rfl (by kernel_rfl) (by kernel_rfl) rfl (by kernel_rfl) RW.trans (RW.drew _ _ _) (TwoAt.new ⟨R8.out, R9.out⟩ (NewT.drew _)) (Nat.le_of_ble_eq_true rfl) ⟨?_, ?_, ?_, ?_, ?_, ?_, ?_, trivial⟩ ?_
  · intro a wx hT hF K hK
    replace hK := fun v w' (hN : NewT wx w') hv => hK v w' (RW.new (Nat.lt_of_lt_of_le R8.out.lt hT.size) hN) (fun k h => TwoAt.new h hN) hv
    obtain ⟨f11, _⟩ := hF
    have f11 : a.tmps.getD 11 undef = .pointer (some ⟨p11, 0, none⟩) := f11
    refine rely_wp rfl ?_
    exact opr_fldB0 rfl f11 (hK _ _ (NewT.refl _) rfl)
  · intro a wx hT hF K hK
    replace hK := fun v w' (hN : NewT wx w') hv => hK v w' (RW.new (Nat.lt_of_lt_of_le R8.out.lt hT.size) hN) (fun k h => TwoAt.new h hN) hv
    obtain ⟨f32, _⟩ := hF
    have f32 : a.tmps.getD 32 undef = .pointer (some ⟨p11, 0, none⟩) := f32
    refine rely_wp rfl ?_
    exact opr_ldH (hT.row (by omega) R11.out) (by decide) (rtF_0 _ _) rfl f32 (hK _ _ (NewT.refl _) rfl)
  · intro a wx hT hF K hK
    replace hK := fun v w' (hN : NewT wx w') hv => hK v w' (RW.new (Nat.lt_of_lt_of_le R8.out.lt hT.size) hN) (fun k h => TwoAt.new h hN) hv
    obtain ⟨f11, _⟩ := hF
    have f11 : a.tmps.getD 11 undef = .pointer (some ⟨p11, 0, none⟩) := f11
    refine rely_wp rfl ?_
    exact opr_fldB1 rfl f11 (hK _ _ (NewT.refl _) rfl)
  · intro a wx hT hF K hK
    replace hK := fun v w' (hN : NewT wx w') hv => hK v w' (RW.new (Nat.lt_of_lt_of_le R8.out.lt hT.size) hN) (fun k h => TwoAt.new h hN) hv
    obtain ⟨f34, _⟩ := hF
    have f34 : a.tmps.getD 34 undef = .pointer (some ⟨p11, 32, none⟩) := f34
    refine rely_wp rfl ?_
    exact opr_ldH (hT.row (by omega) R11.out) (by decide) (rtF_1 _ _) rfl f34 (hK _ _ (NewT.refl _) rfl)
  · intro a wx hT hF K hK
    replace hK := fun v w' (hN : NewT wx w') hv => hK v w' (RW.new (Nat.lt_of_lt_of_le R8.out.lt hT.size) hN) (fun k h => TwoAt.new h hN) hv
    obtain ⟨f12, _⟩ := hF
    have f12 : a.tmps.getD 12 undef = .bool (bq) := f12
    refine rely_wp rfl ?_
    exact opr_move (.inl rfl) (hK _ _ (NewT.refl _) f12)
  · intro a wx hT hF hJ K hK
    obtain ⟨f8, f33, _⟩ := hF
    have f8 : a.tmps.getD 8 undef = .pointer (some ⟨w.heap.size + 1 + 1 + 1, 0, none⟩) := f8
    have f33 : a.tmps.getD 33 undef = .agg (rowA 32 (bF (p))) := f33
    refine rely_wp rfl ?_
    refine opr_putm (F := bF p) rfl f8 f33 hJ.1 (by decide) info31 (fun _ => rfl) (fun i hi => by rw [if_pos (by omega), Nat.sub_zero]) ?_
    intro w' hR r'
    exact hK undef w' (RW.fst hR) ⟨r', hR.row (by omega) hJ.2⟩ trivial
  · intro a wx hT hF hJ K hK
    obtain ⟨f9, f35, _⟩ := hF
    have f9 : a.tmps.getD 9 undef = .pointer (some ⟨w.heap.size + 1 + 1 + 1 + 1, 0, none⟩) := f9
    have f35 : a.tmps.getD 35 undef = .agg (rowA 32 (bF (q))) := f35
    refine rely_wp rfl ?_
    refine opr_putm (F := bF q) rfl f9 f35 hJ.2 (by decide) info31 (fun _ => rfl) (fun i hi => by rw [if_pos (by omega), Nat.sub_zero]) ?_
    intro w' hR r'
    exact hK undef w' (RW.snd hR) ⟨hR.row (by omega) hJ.1, r'⟩ trivial
  · intro w7 k7 hJ
    intro u h; obtain rfl := Eq.symm (h (by simp)); clear h
    intro u h; obtain rfl := Eq.symm (h (by simp)); clear h
    intro u h; obtain rfl := Eq.symm (h (by simp)); clear h
    intro u h; obtain rfl := Eq.symm (h (by simp)); clear h
    intro u h; obtain rfl := Eq.symm (h (by simp)); clear h
    intro _ _
    intro _ _
    refine relyEnd_nil rfl ?_
    simp only [Act.put, List.setIfInBounds_toArray, List.set_cons_zero, List.set_cons_succ]
    refine opr_move (.inr rfl) ?_
    go_simp
    go_wp2
    exact bodyPost_ret (results_rrt rfl rfl rfl rfl hJ.1 hJ.2 Tryd.underlying29 rfl info31) rfl ⟨_, rfl, NewT.rw HN.out k7 (by omega) (by omega), rfl⟩
theorem Both_cv {node : Hs → Hs → Hs} {z : Hs} (hX : TreeH node z) (old : Hs) (m n : Int) (v : Value) (path : List Hs) (w : World) (hT : Tables w) (hv : RdH w v path) (hpl : path.length ≤ 1000000) : Cv 18 #[.int .i64 m, .int .i64 n, .agg (rowA 32 (bF old)), v] w (svHHq (bothM node (fun _ => 0) old m n path).1 (bothM node (fun _ => 0) old m n path).2 (okB m n path.length)) := by
  by_cases h : m < 1 ∨ n < m ∨ 1048576 < n
  · have e : okB m n path.length = false := by
      unfold okB
      rcases h with h | h | h
      · simp [show ¬ 1 ≤ m by omega]
      · simp [show ¬ m ≤ n by omega]
      · simp [show ¬ n ≤ 1048576 by omega]
    unfold bothM
    rw [e, if_neg (by decide)]
    exact Both_bad old m n v w h
  · obtain ⟨m, rfl⟩ : ∃ k : Nat, m = (k : Int) := ⟨m.toNat, by omega⟩
    obtain ⟨n, rfl⟩ : ∃ k : Nat, n = (k : Int) := ⟨n.toNat, by omega⟩
    have hm1 : 1 ≤ m := by omega
    have hmn : m ≤ n := by omega
    have hn : n ≤ 1048576 := by omega
    have e : okB (m : Int) (n : Int) path.length = decide (needS true m n = path.length) := by
      unfold okB; rw [Int.toNat_natCast, Int.toNat_natCast]; simp [show (1 : Int) ≤ m by omega, show (m : Int) ≤ n by omega, show (n : Int) ≤ 1048576 by omega]
    unfold bothM
    rw [e, Int.toNat_natCast, Int.toNat_natCast]
    rcases Nat.lt_trichotomy (needS true m n) path.length with h3 | h3 | h3
    · rw [decide_eq_false (by omega), if_neg (by decide)]
      exact Both_good old _ _ _ m n v w hm1 hmn hn fun W hN r1 r2 r3 hlt => ofAllB_many #[.pointer (some ⟨w.heap.size, 0, none⟩), .pointer (some ⟨w.heap.size + 1, 0, none⟩), .pointer (some ⟨w.heap.size + 1 + 1, 0, none⟩)] v path _ _ (path.length - needS true m n - 1) W (hN.tables hT) (hN.hs hv) (fun w' g hN' hg hk => by rw [show (#[.func (.func 46) #[] #[.pointer (some ⟨g, 0, none⟩)]] ++ #[.pointer (some ⟨w.heap.size, 0, none⟩), .pointer (some ⟨w.heap.size + 1, 0, none⟩), .pointer (some ⟨w.heap.size + 1 + 1, 0, none⟩)] : Array Value) = #[.func (.func 46) #[] #[.pointer (some ⟨g, 0, none⟩)], .pointer (some ⟨w.heap.size, 0, none⟩), .pointer (some ⟨w.heap.size + 1, 0, none⟩), .pointer (some ⟨w.heap.size + 1 + 1, 0, none⟩)] from rfl]; have h := Both1_ok hX old m n g path.length w.heap.size (w.heap.size + 1) (w.heap.size + 1 + 1) path w' hpl hm1 hmn hn hk (by omega) (by omega) (hN'.row r1) (hN'.row r2) (hN'.row r3); rw [show path.length - needS true m n = path.length - needS true m n - 1 + 1 by omega] at h; exact h)
    · rw [decide_eq_true h3, if_pos rfl]
      exact Both_good old _ _ _ m n v w hm1 hmn hn fun W hN r1 r2 r3 hlt => ofAllB_ok #[.pointer (some ⟨w.heap.size, 0, none⟩), .pointer (some ⟨w.heap.size + 1, 0, none⟩), .pointer (some ⟨w.heap.size + 1 + 1, 0, none⟩)] v path _ _ W (hN.tables hT) (hN.hs hv) (fun w' g hN' hg hk => by rw [show (#[.func (.func 46) #[] #[.pointer (some ⟨g, 0, none⟩)]] ++ #[.pointer (some ⟨w.heap.size, 0, none⟩), .pointer (some ⟨w.heap.size + 1, 0, none⟩), .pointer (some ⟨w.heap.size + 1 + 1, 0, none⟩)] : Array Value) = #[.func (.func 46) #[] #[.pointer (some ⟨g, 0, none⟩)], .pointer (some ⟨w.heap.size, 0, none⟩), .pointer (some ⟨w.heap.size + 1, 0, none⟩), .pointer (some ⟨w.heap.size + 1 + 1, 0, none⟩)] from rfl]; have h := Both1_ok hX old m n g path.length w.heap.size (w.heap.size + 1) (w.heap.size + 1 + 1) path w' hpl hm1 hmn hn hk (by omega) (by omega) (hN'.row r1) (hN'.row r2) (hN'.row r3); rw [h3, winM_all, Nat.sub_self] at h; exact h)
    · rw [decide_eq_false (by omega), if_neg (by decide)]
      exact Both_good old _ _ _ m n v w hm1 hmn hn fun W hN r1 r2 r3 hlt => ofAllB_few #[.pointer (some ⟨w.heap.size, 0, none⟩), .pointer (some ⟨w.heap.size + 1, 0, none⟩), .pointer (some ⟨w.heap.size + 1 + 1, 0, none⟩)] v path W (hN.tables hT) (hN.hs hv) (fun w' g hN' hg hk => by rw [show (#[.func (.func 46) #[] #[.pointer (some ⟨g, 0, none⟩)]] ++ #[.pointer (some ⟨w.heap.size, 0, none⟩), .pointer (some ⟨w.heap.size + 1, 0, none⟩), .pointer (some ⟨w.heap.size + 1 + 1, 0, none⟩)] : Array Value) = #[.func (.func 46) #[] #[.pointer (some ⟨g, 0, none⟩)], .pointer (some ⟨w.heap.size, 0, none⟩), .pointer (some ⟨w.heap.size + 1, 0, none⟩), .pointer (some ⟨w.heap.size + 1 + 1, 0, none⟩)] from rfl]; have h := Both1_no hX old m n g path.length w.heap.size (w.heap.size + 1) (w.heap.size + 1 + 1) path w' hpl hm1 hmn hn hk h3 (by omega) (hN'.row r1) (hN'.row r2) (hN'.row r3); exact h)
end Go.Proofs.YtoigjcadncecpaaDoor
/- Does a path come to a root: In. -/
namespace Go.Proofs.YtoigjcadncecpaaDoor
open Go Go.RowKit
set_option maxRecDepth 8000
set_option linter.all false
set_option maxHeartbeats 2000000 in
theorem In_of (leaf root d : Hs) (b : Bool) (i n : Int) (v : Value) (w : World) (hc : ∀ w', NewT w w' → Cv 16 #[.agg (rowA 32 (bF leaf)), .int .i64 i, .int .i64 n, v] w' (svHq d b)) : Cv 20 #[.agg (rowA 32 (bF leaf)), .int .i64 i, .int .i64 n, v, .agg (rowA 32 (bF root))] w (.eq (.bool (b && eqH d root))) := by
  unfold Cv
  have HC := Lib.hid hc
  clear hc
  go_enter Tryd.func20, Tryd.ntmps20
  go_upto_region 1 with fail
  have r5 := (rowIs_box w 29 32 (bF leaf)).alloc (.cells (rowA 32 (bF root)) 29)
  have r9 := rowIs_box (w.alloc (.cells (rowA 32 (bF leaf)) 29)) 29 32 (bF root)
  rw [World.size_alloc] at r9
  have hN : NewT w ((w.alloc (.cells (rowA 32 (bF leaf)) 29)).alloc (.cells (rowA 32 (bF root)) 29)) := (NewT.trans _ _ _ (NewT.alloc _ _) (NewT.alloc _ _))
  change Code.wp _ _ _ _ ((w.alloc (.cells (rowA 32 (bF leaf)) 29)).alloc (.cells (rowA 32 (bF root)) 29))
  generalize ((w.alloc (.cells (rowA 32 (bF leaf)) 29)).alloc (.cells (rowA 32 (bF root)) 29)) = W0 at r5 r9 hN ⊢
  have R9 := Lib.hid r9
  have HN := Lib.hid hN
  have h16 := HC.out W0 hN
  unfold Cv at h16
  clear hN HC r9
  refine wp_region_lit ?_
  refine wpList_plain rfl (fun K hK => ?_)
  refine opr_load_hash rfl rfl r5 (hK _ _ ?_)
  clear hK K
  refine wpList_plain rfl (fun K hK => ?_)
  refine opr_move (.inl rfl) (hK _ _ ?_)
  clear hK K
  refine wpList_plain rfl (fun K hK => ?_)
  refine opr_move (.inl rfl) (hK _ _ ?_)
  clear hK K
  refine wpList_plain rfl (fun K hK => ?_)
  refine opr_move (.inl rfl) (hK _ _ ?_)
  clear hK K
  simp only [Act.put, List.setIfInBounds_toArray, List.set_cons_zero, List.set_cons_succ]
  refine wpList_plain rfl (fun K hK => ?_)
  refine opr_call (vs := #[.agg (rowA 32 (bF leaf)), .int .i64 i, .int .i64 n, v]) rfl Tryd.func16 (by kernel_rfl) (by kernel_rfl) (by simp only [List.map_toArray, List.map_cons, List.map_nil]; rfl) (h16.mono ?_)
  clear h16
  rintro e w4 ⟨_, rfl, hN4, rfl⟩
  refine ⟨_, rfl, hK _ _ ?_⟩
  clear hK K
  refine wpList_plain rfl (fun K hK => ?_)
  refine opr_move (.inl rfl) (hK _ _ ?_)
  clear hK K
  refine wpList_plain rfl (fun K hK => ?_)
  refine opr_ext rfl rfl rfl (hK _ _ ?_)
  clear hK K
  refine wpList_plain rfl (fun K hK => ?_)
  refine opr_ext rfl rfl rfl (hK _ _ ?_)
  clear hK K
  simp only [Act.put, List.setIfInBounds_toArray, List.set_cons_zero, List.set_cons_succ]
  refine wpList_new (n := 32) rfl rfl rfl rfl rfl rfl (by simp) run_alloc_hash info31 (fun _ => rfl) rfl ?_
  intro w5 hn5 r11
  refine wpList_plain rfl (fun K hK => ?_)
  refine opr_move (.inr rfl) (hK _ _ ?_)
  refine wpList_end rfl ?_
  simp only [Act.put, List.setIfInBounds_toArray, List.set_cons_zero, List.set_cons_succ]
  go_simp
  obtain ⟨p11, hp11⟩ : ∃ p, w4.heap.size = p := ⟨_, rfl⟩
  rw [hp11] at r11 ⊢
  have R11 := Lib.hid r11
  replace R9 := Lib.hid (hn5.row (hN4.row R9.out))
  replace HN := Lib.hid (NewT.trans _ _ _ HN.out (NewT.trans _ _ _ hN4 hn5))
  clear r11 hN4 hn5 hp11 r5
  go_upto_region 2 with fail
  refine wp_region_steps0 NewT [SV.eq (.bool (b)), SV.eq (.bool (b)), svIf b (SV.eq (.agg (rowA 32 (bF (d))))), svIf b (SV.eq (.agg (rowA 32 (bF (root))))), svIf b (SV.eq (.bool (eqH (d) (root)))), SV.eq (.bool (b && (eqH (d) (root)))), SV.eq (.bool (b && (eqH (d) (root))))] [([(12, none)], none), ([(21, some 0)], none), ([(11, none), (22, some 1)], some (22, true)), ([(9, none), (22, some 1)], some (22, true)), ([(23, some 2), (24, some 3), (22, some 1)], some (22, true)), ([(22, some 1), (25, some 4)], none), ([(26, some 5)], none)] 27 7 rfl rfl (by kernel_rfl) NewT.trans (NewT.refl _) (Nat.le_of_ble_eq_true rfl) ⟨?_, ?_, ?_, ?_, ?_, ?_, ?_, trivial⟩ ?_
  · intro a wx hT hF K hK
    obtain ⟨f12, _⟩ := hF
    have f12 : a.tmps.getD 12 undef = .bool (b) := f12
    refine rely_wp rfl ?_
    exact opr_move (.inl rfl) (hK _ _ (NewT.refl _) f12)
  · intro a wx hT hF K hK
    obtain ⟨f21, _⟩ := hF
    have f21 : a.tmps.getD 21 undef = .bool (b) := f21
    refine rely_wp rfl ?_
    exact opr_move (.inl rfl) (hK _ _ (NewT.refl _) f21)
  · intro a wx hT hF K hK
    obtain ⟨f11, f22, _⟩ := hF
    have f11 : a.tmps.getD 11 undef = .pointer (some ⟨p11, 0, none⟩) := f11
    have f22 : a.tmps.getD 22 undef = .bool (b) := f22
    refine rely_if (rely_gt f22) (NewT.refl _) hK (fun hE hK => ?_)
    exact opr_load_hash rfl f11 (hT.row R11.out) (hK _ _ (NewT.refl _) rfl)
  · intro a wx hT hF K hK
    obtain ⟨f9, f22, _⟩ := hF
    have f9 : a.tmps.getD 9 undef = .pointer (some ⟨w.heap.size + 1, 0, none⟩) := f9
    have f22 : a.tmps.getD 22 undef = .bool (b) := f22
    refine rely_if (rely_gt f22) (NewT.refl _) hK (fun hE hK => ?_)
    exact opr_load_hash rfl f9 (hT.row R9.out) (hK _ _ (NewT.refl _) rfl)
  · intro a wx hT hF K hK
    obtain ⟨f23, f24, f22, _⟩ := hF
    have f23 : b = true → a.tmps.getD 23 undef = .agg (rowA 32 (bF (d))) := f23
    have f24 : b = true → a.tmps.getD 24 undef = .agg (rowA 32 (bF (root))) := f24
    have f22 : a.tmps.getD 22 undef = .bool (b) := f22
    refine rely_if (rely_gt f22) (NewT.refl _) hK (fun hE hK => ?_)
    exact opr_cv (Equal_cv (d) (root) wx) rfl Tryd.func37 (by kernel_rfl) (by kernel_rfl) (by simp only [List.map_toArray, List.map_cons, List.map_nil, eval_tmp, (f23 hE), (f24 hE)]) hK
  · intro a wx hT hF K hK
    obtain ⟨f22, f25, _⟩ := hF
    have f22 : a.tmps.getD 22 undef = .bool (b) := f22
    have f25 : b = true → a.tmps.getD 25 undef = .bool (eqH (d) (root)) := f25
    refine rely_wp rfl ?_
    exact opr_pick_b rfl f22 (fun hb => hK _ _ (NewT.refl _) (pk_and1 (f25 hb) hb)) (fun hb => hK _ _ (NewT.refl _) (pk_and0 hb))
  · intro a wx hT hF K hK
    obtain ⟨f26, _⟩ := hF
    have f26 : a.tmps.getD 26 undef = .bool (b && (eqH (d) (root))) := f26
    refine rely_wp rfl ?_
    exact opr_move (.inr rfl) (hK _ _ (NewT.refl _) f26)
  · intro w6 k6
    intro u h; obtain rfl := Eq.symm (h (by simp)); clear h
    intro u h; obtain rfl := Eq.symm (h (by simp)); clear h
    intro _ _
    intro _ _
    intro _ _
    intro u h; obtain rfl := Eq.symm (h (by simp)); clear h
    intro u h; obtain rfl := Eq.symm (h (by simp)); clear h
    refine relyEnd_nil rfl ?_
    refine wpList_end rfl ?_
    simp only [Act.put, List.setIfInBounds_toArray, List.set_cons_zero, List.set_cons_succ]
    go_simp
    go_wp2
    go_ret
    exact ⟨_, rfl, NewT.trans _ _ _ HN.out k6, rfl⟩
theorem In_cv {node : Hs → Hs → Hs} {z : Hs} (hX : TreeH node z) (leaf root : Hs) (i n : Int) (v : Value) (path : List Hs) (w : World) (hT : Tables w) (hv : RdH w v path) (hpl : path.length ≤ 1000000) : Cv 20 #[.agg (rowA 32 (bF leaf)), .int .i64 i, .int .i64 n, v, .agg (rowA 32 (bF root))] w (.eq (.bool (okP i n path.length && eqH (comesM node (fun _ => 0) leaf i n path) root))) :=
  In_of leaf root _ _ i n v w fun w' hN => Comes_cv hX leaf i n v path w' (hN.tables hT) (hN.hs hv) hpl
end Go.Proofs.YtoigjcadncecpaaDoor
/- Does a proof come to two roots: Begins. -/
namespace Go.Proofs.YtoigjcadncecpaaDoor
open Go Go.RowKit
set_option maxRecDepth 8000
set_option linter.all false
/-- Begins, of nothing. -/
def beg0 (n : Int) (c : Nat) (old z : Hs) : Bool := ((decide (0 ≤ n) && decide (n ≤ 1048576)) && ((c : Int) == 0)) && eqH old z
set_option maxHeartbeats 2000000 in
theorem Begins_0 {node : Hs → Hs → Hs} {z : Hs} (hX : TreeH node z) (old all : Hs) (n : Int) (v : Value) (path : List Hs) (w : World) (hT : Tables w) (hv : RdH w v path) : Cv 22 #[.int .i64 0, .int .i64 n, .agg (rowA 32 (bF old)), .agg (rowA 32 (bF all)), v] w (.eq (.bool (beg0 n path.length old z))) := by
  unfold Cv
  have HT := Lib.hid hT
  have HV := Lib.hid hv
  clear hT hv
  go_enter Tryd.func22, Tryd.ntmps22
  go_upto_region 2 with fail
  have r7 := (rowIs_box w 29 32 (bF old)).alloc (.cells (rowA 32 (bF all)) 29)
  have r8 := rowIs_box (w.alloc (.cells (rowA 32 (bF old)) 29)) 29 32 (bF all)
  rw [World.size_alloc] at r8
  have hN : NewT w ((w.alloc (.cells (rowA 32 (bF old)) 29)).alloc (.cells (rowA 32 (bF all)) 29)) := (NewT.trans _ _ _ (NewT.alloc _ _) (NewT.alloc _ _))
  change Code.wp _ _ _ _ ((w.alloc (.cells (rowA 32 (bF old)) 29)).alloc (.cells (rowA 32 (bF all)) 29))
  generalize ((w.alloc (.cells (rowA 32 (bF old)) 29)).alloc (.cells (rowA 32 (bF all)) 29)) = W0 at r7 r8 hN ⊢
  have R7 := Lib.hid r7
  have HN := Lib.hid hN
  replace HT := Lib.hid (hN.tables HT.out)
  replace HV := Lib.hid (hN.hs HV.out)
  clear r7 r8 hN
  obtain ⟨q1_2, Q1_2⟩ : ∃ bq_, ((decide (0 ≤ n)) && (decide (n ≤ 1048576))) = bq_ := ⟨_, rfl⟩
  obtain ⟨q2_2, Q2_2⟩ : ∃ bq_, (q1_2 && (((List.length (path) : Int)) == 0)) = bq_ := ⟨_, rfl⟩
  refine wp_region_rely (NewT) [SV.eq (.int .i64 (n)), SV.eq (.bool (decide (0 ≤ n))), SV.eq (.bool (decide (0 ≤ n))), svIf (decide (0 ≤ n)) (SV.eq (.int .i64 (n))), svIf (decide (0 ≤ n)) (SV.eq (.bool (decide (n ≤ 1048576)))), SV.eq (.bool (q1_2)), SV.eq (.bool (q1_2)), svIf q1_2 (SV.eq (v)), svIf q1_2 (SV.eq (.int .i64 ((List.length (path) : Int)))), svIf q1_2 (SV.eq (.bool (((List.length (path) : Int)) == 0))), SV.eq (.bool (q2_2)), SV.eq (.bool (q2_2)), svIf q2_2 (SV.eq (.agg (rowA 32 (bF (old))))), svIf q2_2 (SV.eq (.agg (rowA 32 (bF (z))))), svIf q2_2 (SV.eq (.bool (eqH (old) (z)))), SV.eq (.bool (q2_2 && (eqH (old) (z))))] [([(1, none)], none), ([(16, some 0)], none), ([(17, some 1)], none), ([(1, none), (18, some 2)], some (18, true)), ([(19, some 3), (18, some 2)], some (18, true)), ([(18, some 2), (20, some 4)], none), ([(21, some 5)], none), ([(4, none), (22, some 6)], some (22, true)), ([(23, some 7), (22, some 6)], some (22, true)), ([(24, some 8), (22, some 6)], some (22, true)), ([(22, some 6), (25, some 9)], none), ([(26, some 10)], none), ([(7, none), (27, some 11)], some (27, true)), ([(27, some 11)], some (27, true)), ([(28, some 12), (29, some 13), (27, some 11)], some (27, true)), ([(27, some 11), (30, some 14)], none)] 52 rfl (by kernel_rfl) rfl (by kernel_rfl) (by kernel_rfl) rfl NewT.trans (NewT.drew _) (Nat.le_of_ble_eq_true rfl) ⟨?_, ?_, ?_, ?_, ?_, ?_, ?_, ?_, ?_, ?_, ?_, ?_, ?_, ?_, ?_, ?_, trivial⟩ ?_
  · intro a wx hT hF K hK
    obtain ⟨f1, _⟩ := hF
    have f1 : a.tmps.getD 1 undef = .int .i64 (n) := f1
    refine rely_wp rfl ?_
    exact opr_move (.inl rfl) (hK _ _ (NewT.refl _) f1)
  · intro a wx hT hF K hK
    obtain ⟨f16, _⟩ := hF
    have f16 : a.tmps.getD 16 undef = .int .i64 (n) := f16
    refine rely_wp rfl ?_
    exact opr_cmp (b := decide (0 ≤ n)) (.inr (.inr (.inr (.inr (.inr (⟨rfl, rfl⟩)))))) Tryd.underlying3 rfl f16 rfl (hK _ _ (NewT.refl _) rfl)
  · intro a wx hT hF K hK
    obtain ⟨f17, _⟩ := hF
    have f17 : a.tmps.getD 17 undef = .bool (decide (0 ≤ n)) := f17
    refine rely_wp rfl ?_
    exact opr_move (.inl rfl) (hK _ _ (NewT.refl _) f17)
  · intro a wx hT hF K hK
    obtain ⟨f1, f18, _⟩ := hF
    have f1 : a.tmps.getD 1 undef = .int .i64 (n) := f1
    have f18 : a.tmps.getD 18 undef = .bool (decide (0 ≤ n)) := f18
    refine rely_if (rely_gt f18) (NewT.refl _) hK (fun hE hK => ?_)
    exact opr_move (.inl rfl) (hK _ _ (NewT.refl _) f1)
  · intro a wx hT hF K hK
    obtain ⟨f19, f18, _⟩ := hF
    have f19 : (decide (0 ≤ n)) = true → a.tmps.getD 19 undef = .int .i64 (n) := f19
    have f18 : a.tmps.getD 18 undef = .bool (decide (0 ≤ n)) := f18
    refine rely_if (rely_gt f18) (NewT.refl _) hK (fun hE hK => ?_)
    exact opr_cmp (b := decide (n ≤ 1048576)) (.inr (.inr (.inl ⟨rfl, rfl⟩))) Tryd.underlying3 rfl (f19 hE) rfl (hK _ _ (NewT.refl _) rfl)
  · intro a wx hT hF K hK
    obtain ⟨f18, f20, _⟩ := hF
    have f18 : a.tmps.getD 18 undef = .bool (decide (0 ≤ n)) := f18
    have f20 : (decide (0 ≤ n)) = true → a.tmps.getD 20 undef = .bool (decide (n ≤ 1048576)) := f20
    refine rely_wp rfl ?_
    exact opr_pick_b rfl f18 (fun hb => hK _ _ (NewT.refl _) (pn_and1 Q1_2 (f20 hb) hb)) (fun hb => hK _ _ (NewT.refl _) (pn_and0 Q1_2 hb))
  · intro a wx hT hF K hK
    obtain ⟨f21, _⟩ := hF
    have f21 : a.tmps.getD 21 undef = .bool (q1_2) := f21
    refine rely_wp rfl ?_
    exact opr_move (.inl rfl) (hK _ _ (NewT.refl _) f21)
  · intro a wx hT hF K hK
    obtain ⟨f4, f22, _⟩ := hF
    have f4 : a.tmps.getD 4 undef = v := f4
    have f22 : a.tmps.getD 22 undef = .bool (q1_2) := f22
    refine rely_if (rely_gt f22) (NewT.refl _) hK (fun hE hK => ?_)
    exact opr_move (.inl rfl) (hK _ _ (NewT.refl _) f4)
  · intro a wx hT hF K hK
    obtain ⟨f23, f22, _⟩ := hF
    have f23 : q1_2 = true → a.tmps.getD 23 undef = v := f23
    have f22 : a.tmps.getD 22 undef = .bool (q1_2) := f22
    refine rely_if (rely_gt f22) (NewT.refl _) hK (fun hE hK => ?_)
    exact opr_len_h rfl (by rw [eval_tmp, (f23 hE)]; exact (hT.hs HV.out)) (hK _ _ (NewT.refl _) rfl)
  · intro a wx hT hF K hK
    obtain ⟨f24, f22, _⟩ := hF
    have f24 : q1_2 = true → a.tmps.getD 24 undef = .int .i64 ((List.length (path) : Int)) := f24
    have f22 : a.tmps.getD 22 undef = .bool (q1_2) := f22
    refine rely_if (rely_gt f22) (NewT.refl _) hK (fun hE hK => ?_)
    exact opr_cmp (b := ((List.length (path) : Int)) == 0) (.inl ⟨rfl, rfl⟩) Tryd.underlying3 rfl (f24 hE) rfl (hK _ _ (NewT.refl _) rfl)
  · intro a wx hT hF K hK
    obtain ⟨f22, f25, _⟩ := hF
    have f22 : a.tmps.getD 22 undef = .bool (q1_2) := f22
    have f25 : q1_2 = true → a.tmps.getD 25 undef = .bool (((List.length (path) : Int)) == 0) := f25
    refine rely_wp rfl ?_
    exact opr_pick_b rfl f22 (fun hb => hK _ _ (NewT.refl _) (pn_and1 Q2_2 (f25 hb) hb)) (fun hb => hK _ _ (NewT.refl _) (pn_and0 Q2_2 hb))
  · intro a wx hT hF K hK
    obtain ⟨f26, _⟩ := hF
    have f26 : a.tmps.getD 26 undef = .bool (q2_2) := f26
    refine rely_wp rfl ?_
    exact opr_move (.inl rfl) (hK _ _ (NewT.refl _) f26)
  · intro a wx hT hF K hK
    obtain ⟨f7, f27, _⟩ := hF
    have f7 : a.tmps.getD 7 undef = .pointer (some ⟨w.heap.size, 0, none⟩) := f7
    have f27 : a.tmps.getD 27 undef = .bool (q2_2) := f27
    refine rely_if (rely_gt f27) (NewT.refl _) hK (fun hE hK => ?_)
    exact opr_load_hash rfl f7 (hT.row R7.out) (hK _ _ (NewT.refl _) rfl)
  · intro a wx hT hF K hK
    obtain ⟨f27, _⟩ := hF
    have f27 : a.tmps.getD 27 undef = .bool (q2_2) := f27
    refine rely_if (rely_gt f27) (NewT.refl _) hK (fun hE hK => ?_)
    exact opr_cv (Root_nil hX wx (hT.tables HT.out)) rfl Tryd.func24 (by kernel_rfl) (by kernel_rfl) (by simp only [List.map_toArray, List.map_cons, List.map_nil, eval_const]) hK
  · intro a wx hT hF K hK
    obtain ⟨f28, f29, f27, _⟩ := hF
    have f28 : q2_2 = true → a.tmps.getD 28 undef = .agg (rowA 32 (bF (old))) := f28
    have f29 : q2_2 = true → a.tmps.getD 29 undef = .agg (rowA 32 (bF (z))) := f29
    have f27 : a.tmps.getD 27 undef = .bool (q2_2) := f27
    refine rely_if (rely_gt f27) (NewT.refl _) hK (fun hE hK => ?_)
    exact opr_cv (Equal_cv (old) (z) wx) rfl Tryd.func37 (by kernel_rfl) (by kernel_rfl) (by simp only [List.map_toArray, List.map_cons, List.map_nil, eval_tmp, (f28 hE), (f29 hE)]) hK
  · intro a wx hT hF K hK
    obtain ⟨f27, f30, _⟩ := hF
    have f27 : a.tmps.getD 27 undef = .bool (q2_2) := f27
    have f30 : q2_2 = true → a.tmps.getD 30 undef = .bool (eqH (old) (z)) := f30
    refine rely_wp rfl ?_
    exact opr_pick_b rfl f27 (fun hb => hK _ _ (NewT.refl _) (pk_and1 (f30 hb) hb)) (fun hb => hK _ _ (NewT.refl _) (pk_and0 hb))
  · intro w6 k6
    intro u h; obtain rfl := Eq.symm (h (by simp)); clear h
    intro u h; obtain rfl := Eq.symm (h (by simp)); clear h
    intro u h; obtain rfl := Eq.symm (h (by simp)); clear h
    intro _ _
    intro _ _
    intro u h; obtain rfl := Eq.symm (h (by simp)); clear h
    intro u h; obtain rfl := Eq.symm (h (by simp)); clear h
    intro _ _
    intro _ _
    intro _ _
    intro u h; obtain rfl := Eq.symm (h (by simp)); clear h
    intro u h; obtain rfl := Eq.symm (h (by simp)); clear h
    intro _ _
    intro _ _
    intro _ _
    intro u h; obtain rfl := Eq.symm (h (by simp)); clear h
    subst Q2_2 Q1_2
    refine relyEnd_nil rfl ?_
    simp only [Act.put, List.setIfInBounds_toArray, List.set_cons_zero, List.set_cons_succ]
    refine opr_move (.inr rfl) ?_
    go_simp
    go_wp2
    go_ret
    exact ⟨_, rfl, NewT.trans _ _ _ HN.out k6, rfl⟩
set_option maxHeartbeats 4000000 in
theorem Begins_of (old all x y : Hs) (b : Bool) (m n : Int) (v : Value) (w : World) (hm : m ≠ 0) (hc : ∀ w', NewT w w' → Cv 18 #[.int .i64 m, .int .i64 n, .agg (rowA 32 (bF old)), v] w' (svHHq x y b)) : Cv 22 #[.int .i64 m, .int .i64 n, .agg (rowA 32 (bF old)), .agg (rowA 32 (bF all)), v] w (.eq (.bool ((b && eqH x old) && eqH y all))) := by
  unfold Cv
  have HC := Lib.hid hc
  have t1 : (m == 0) = false := beq_eq_false_iff_ne.2 hm
  clear hc
  go_enter Tryd.func22, Tryd.ntmps22
  go_upto_region 3 with fail
  clear t1
  have r7 := (rowIs_box w 29 32 (bF old)).alloc (.cells (rowA 32 (bF all)) 29)
  have r8 := rowIs_box (w.alloc (.cells (rowA 32 (bF old)) 29)) 29 32 (bF all)
  rw [World.size_alloc] at r8
  have hN : NewT w ((w.alloc (.cells (rowA 32 (bF old)) 29)).alloc (.cells (rowA 32 (bF all)) 29)) := (NewT.trans _ _ _ (NewT.alloc _ _) (NewT.alloc _ _))
  change Code.wp _ _ _ _ ((w.alloc (.cells (rowA 32 (bF old)) 29)).alloc (.cells (rowA 32 (bF all)) 29))
  generalize ((w.alloc (.cells (rowA 32 (bF old)) 29)).alloc (.cells (rowA 32 (bF all)) 29)) = W0 at r7 r8 hN ⊢
  have R7 := Lib.hid r7
  have R8 := Lib.hid r8
  have HN := Lib.hid hN
  have h18 := HC.out W0 hN
  unfold Cv at h18
  clear hN HC r8
  refine wp_region_lit ?_
  refine wpList_plain rfl (fun K hK => ?_)
  refine opr_move (.inl rfl) (hK _ _ ?_)
  clear hK K
  refine wpList_plain rfl (fun K hK => ?_)
  refine opr_move (.inl rfl) (hK _ _ ?_)
  clear hK K
  refine wpList_plain rfl (fun K hK => ?_)
  refine opr_load_hash rfl rfl r7 (hK _ _ ?_)
  clear hK K
  refine wpList_plain rfl (fun K hK => ?_)
  refine opr_move (.inl rfl) (hK _ _ ?_)
  clear hK K
  simp only [Act.put, List.setIfInBounds_toArray, List.set_cons_zero, List.set_cons_succ]
  refine wpList_plain rfl (fun K hK => ?_)
  refine opr_call (vs := #[.int .i64 m, .int .i64 n, .agg (rowA 32 (bF old)), v]) rfl Tryd.func18 (by kernel_rfl) (by kernel_rfl) (by simp only [List.map_toArray, List.map_cons, List.map_nil]; rfl) (h18.mono ?_)
  clear h18
  rintro e w4 ⟨_, rfl, hN4, rfl⟩
  refine ⟨_, rfl, hK _ _ ?_⟩
  clear hK K
  refine wpList_plain rfl (fun K hK => ?_)
  refine opr_move (.inl rfl) (hK _ _ ?_)
  clear hK K
  refine wpList_plain rfl (fun K hK => ?_)
  refine opr_ext rfl rfl rfl (hK _ _ ?_)
  clear hK K
  refine wpList_plain rfl (fun K hK => ?_)
  refine opr_ext rfl rfl rfl (hK _ _ ?_)
  clear hK K
  refine wpList_plain rfl (fun K hK => ?_)
  refine opr_ext rfl rfl rfl (hK _ _ ?_)
  clear hK K
  simp only [Act.put, List.setIfInBounds_toArray, List.set_cons_zero, List.set_cons_succ]
  refine wpList_plain rfl (fun K hK => ?_)
  refine opr_val (s := Instr.alloc 29 true (.tuple #[])) rfl (run_alloc_hash _) (hK _ _ ?_)
  clear hK K
  refine wpList_plain rfl (fun K hK => ?_)
  refine opr_val (s := Instr.alloc 29 true (.tuple #[])) rfl (run_alloc_hash _) (hK _ _ ?_)
  clear hK K
  have r11 := (rowIs_box w4 29 32 (bF fun _ => 0)).alloc (.cells (rowA 32 (bF fun _ => 0)) 29)
  have r12 := rowIs_box (w4.alloc (.cells (rowA 32 (bF fun _ => 0)) 29)) 29 32 (bF fun _ => 0)
  rw [World.size_alloc] at r12
  have hn5 : NewT w4 ((w4.alloc (.cells (rowA 32 (bF fun _ => 0)) 29)).alloc (.cells (rowA 32 (bF fun _ => 0)) 29)) := (NewT.trans _ _ _ (NewT.alloc _ _) (NewT.alloc _ _))
  simp only [World.size_alloc]
  generalize (w4.alloc (.cells (rowA 32 (bF fun _ => 0)) 29)).alloc (.cells (rowA 32 (bF fun _ => 0)) 29) = w5 at r11 r12 hn5 ⊢
  obtain ⟨p11, hp11⟩ : ∃ p, w4.heap.size = p := ⟨_, rfl⟩
  rw [hp11] at r11 r12 ⊢
  simp only [Act.put, List.setIfInBounds_toArray, List.set_cons_zero, List.set_cons_succ]
  refine wpList_plain rfl (fun K hK => ?_)
  refine opr_putm (F := bF (x)) rfl rfl rfl (r11) (by decide) info31 (fun _ => rfl) (fun i hi => by rw [if_pos (by omega), Nat.sub_zero]) ?_
  intro w6 hR6 r11'
  refine hK _ _ ?_
  clear hK K
  refine wpList_plain rfl (fun K hK => ?_)
  refine opr_putm (F := bF (y)) rfl rfl rfl (hR6.row (by omega) r12) (by decide) info31 (fun _ => rfl) (fun i hi => by rw [if_pos (by omega), Nat.sub_zero]) ?_
  intro w7 hR7 r12'
  refine hK _ _ ?_
  clear hK K
  refine wpList_plain rfl (fun K hK => ?_)
  refine opr_move (.inr rfl) (hK _ _ ?_)
  refine wpList_end rfl ?_
  simp only [Act.put, List.setIfInBounds_toArray, List.set_cons_zero, List.set_cons_succ]
  go_simp
  have hN5 := NewT.trans _ _ _ hN4 hn5
  have hlt : W0.heap.size ≤ p11 := by have := hN4.out.size; omega
  have hN7 : NewT W0 w7 := NewT.rt (NewT.rt hN5 hR6 hlt) hR7 (by omega)
  have R11 := Lib.hid (hR7.row (by omega) r11')
  have R12 := Lib.hid r12'
  replace R7 := Lib.hid (hN7.row R7.out)
  replace R8 := Lib.hid (hN7.row R8.out)
  replace HN := Lib.hid (NewT.trans _ _ _ HN.out hN7)
  clear r7 r11 r12 r11' r12' hR6 hR7 hN5 hN7 hN4 hn5 hp11
  go_upto_region 4 with fail
  obtain ⟨q1_4, Q1_4⟩ : ∃ bq_, ((b && (eqH (x) (old))) && (eqH (y) (all))) = bq_ := ⟨_, rfl⟩
  refine wp_region_steps0 NewT [SV.eq (.bool (b)), SV.eq (.bool (b)), svIf b (SV.eq (.agg (rowA 32 (bF (x))))), svIf b (SV.eq (.agg (rowA 32 (bF (old))))), svIf b (SV.eq (.bool (eqH (x) (old)))), SV.eq (.bool (b && (eqH (x) (old)))), SV.eq (.bool (b && (eqH (x) (old)))), svIf (b && (eqH (x) (old))) (SV.eq (.agg (rowA 32 (bF (y))))), svIf (b && (eqH (x) (old))) (SV.eq (.agg (rowA 32 (bF (all))))), svIf (b && (eqH (x) (old))) (SV.eq (.bool (eqH (y) (all)))), SV.eq (.bool (q1_4)), SV.eq (.bool (q1_4))] [([(13, none)], none), ([(41, some 0)], none), ([(11, none), (42, some 1)], some (42, true)), ([(7, none), (42, some 1)], some (42, true)), ([(43, some 2), (44, some 3), (42, some 1)], some (42, true)), ([(42, some 1), (45, some 4)], none), ([(46, some 5)], none), ([(12, none), (47, some 6)], some (47, true)), ([(8, none), (47, some 6)], some (47, true)), ([(48, some 7), (49, some 8), (47, some 6)], some (47, true)), ([(47, some 6), (50, some 9)], none), ([(51, some 10)], none)] 52 12 rfl rfl (by kernel_rfl) NewT.trans (NewT.refl _) (Nat.le_of_ble_eq_true rfl) ⟨?_, ?_, ?_, ?_, ?_, ?_, ?_, ?_, ?_, ?_, ?_, ?_, trivial⟩ ?_
  · intro a wx hT hF K hK
    obtain ⟨f13, _⟩ := hF
    have f13 : a.tmps.getD 13 undef = .bool (b) := f13
    refine rely_wp rfl ?_
    exact opr_move (.inl rfl) (hK _ _ (NewT.refl _) f13)
  · intro a wx hT hF K hK
    obtain ⟨f41, _⟩ := hF
    have f41 : a.tmps.getD 41 undef = .bool (b) := f41
    refine rely_wp rfl ?_
    exact opr_move (.inl rfl) (hK _ _ (NewT.refl _) f41)
  · intro a wx hT hF K hK
    obtain ⟨f11, f42, _⟩ := hF
    have f11 : a.tmps.getD 11 undef = .pointer (some ⟨p11, 0, none⟩) := f11
    have f42 : a.tmps.getD 42 undef = .bool (b) := f42
    refine rely_if (rely_gt f42) (NewT.refl _) hK (fun hE hK => ?_)
    exact opr_load_hash rfl f11 (hT.row R11.out) (hK _ _ (NewT.refl _) rfl)
  · intro a wx hT hF K hK
    obtain ⟨f7, f42, _⟩ := hF
    have f7 : a.tmps.getD 7 undef = .pointer (some ⟨w.heap.size, 0, none⟩) := f7
    have f42 : a.tmps.getD 42 undef = .bool (b) := f42
    refine rely_if (rely_gt f42) (NewT.refl _) hK (fun hE hK => ?_)
    exact opr_load_hash rfl f7 (hT.row R7.out) (hK _ _ (NewT.refl _) rfl)
  · intro a wx hT hF K hK
    obtain ⟨f43, f44, f42, _⟩ := hF
    have f43 : b = true → a.tmps.getD 43 undef = .agg (rowA 32 (bF (x))) := f43
    have f44 : b = true → a.tmps.getD 44 undef = .agg (rowA 32 (bF (old))) := f44
    have f42 : a.tmps.getD 42 undef = .bool (b) := f42
    refine rely_if (rely_gt f42) (NewT.refl _) hK (fun hE hK => ?_)
    exact opr_cv (Equal_cv (x) (old) wx) rfl Tryd.func37 (by kernel_rfl) (by kernel_rfl) (by simp only [List.map_toArray, List.map_cons, List.map_nil, eval_tmp, (f43 hE), (f44 hE)]) hK
  · intro a wx hT hF K hK
    obtain ⟨f42, f45, _⟩ := hF
    have f42 : a.tmps.getD 42 undef = .bool (b) := f42
    have f45 : b = true → a.tmps.getD 45 undef = .bool (eqH (x) (old)) := f45
    refine rely_wp rfl ?_
    exact opr_pick_b rfl f42 (fun hb => hK _ _ (NewT.refl _) (pk_and1 (f45 hb) hb)) (fun hb => hK _ _ (NewT.refl _) (pk_and0 hb))
  · intro a wx hT hF K hK
    obtain ⟨f46, _⟩ := hF
    have f46 : a.tmps.getD 46 undef = .bool (b && (eqH (x) (old))) := f46
    refine rely_wp rfl ?_
    exact opr_move (.inl rfl) (hK _ _ (NewT.refl _) f46)
  · intro a wx hT hF K hK
    obtain ⟨f12, f47, _⟩ := hF
    have f12 : a.tmps.getD 12 undef = .pointer (some ⟨p11 + 1, 0, none⟩) := f12
    have f47 : a.tmps.getD 47 undef = .bool (b && (eqH (x) (old))) := f47
    refine rely_if (rely_gt f47) (NewT.refl _) hK (fun hE hK => ?_)
    exact opr_load_hash rfl f12 (hT.row R12.out) (hK _ _ (NewT.refl _) rfl)
  · intro a wx hT hF K hK
    obtain ⟨f8, f47, _⟩ := hF
    have f8 : a.tmps.getD 8 undef = .pointer (some ⟨w.heap.size + 1, 0, none⟩) := f8
    have f47 : a.tmps.getD 47 undef = .bool (b && (eqH (x) (old))) := f47
    refine rely_if (rely_gt f47) (NewT.refl _) hK (fun hE hK => ?_)
    exact opr_load_hash rfl f8 (hT.row R8.out) (hK _ _ (NewT.refl _) rfl)
  · intro a wx hT hF K hK
    obtain ⟨f48, f49, f47, _⟩ := hF
    have f48 : (b && (eqH (x) (old))) = true → a.tmps.getD 48 undef = .agg (rowA 32 (bF (y))) := f48
    have f49 : (b && (eqH (x) (old))) = true → a.tmps.getD 49 undef = .agg (rowA 32 (bF (all))) := f49
    have f47 : a.tmps.getD 47 undef = .bool (b && (eqH (x) (old))) := f47
    refine rely_if (rely_gt f47) (NewT.refl _) hK (fun hE hK => ?_)
    exact opr_cv (Equal_cv (y) (all) wx) rfl Tryd.func37 (by kernel_rfl) (by kernel_rfl) (by simp only [List.map_toArray, List.map_cons, List.map_nil, eval_tmp, (f48 hE), (f49 hE)]) hK
  · intro a wx hT hF K hK
    obtain ⟨f47, f50, _⟩ := hF
    have f47 : a.tmps.getD 47 undef = .bool (b && (eqH (x) (old))) := f47
    have f50 : (b && (eqH (x) (old))) = true → a.tmps.getD 50 undef = .bool (eqH (y) (all)) := f50
    refine rely_wp rfl ?_
    exact opr_pick_b rfl f47 (fun hb => hK _ _ (NewT.refl _) (pn_and1 Q1_4 (f50 hb) hb)) (fun hb => hK _ _ (NewT.refl _) (pn_and0 Q1_4 hb))
  · intro a wx hT hF K hK
    obtain ⟨f51, _⟩ := hF
    have f51 : a.tmps.getD 51 undef = .bool (q1_4) := f51
    refine rely_wp rfl ?_
    exact opr_move (.inr rfl) (hK _ _ (NewT.refl _) f51)
  · intro w9 k9
    intro u h; obtain rfl := Eq.symm (h (by simp)); clear h
    intro u h; obtain rfl := Eq.symm (h (by simp)); clear h
    intro _ _
    intro _ _
    intro _ _
    intro u h; obtain rfl := Eq.symm (h (by simp)); clear h
    intro u h; obtain rfl := Eq.symm (h (by simp)); clear h
    intro _ _
    intro _ _
    intro _ _
    intro u h; obtain rfl := Eq.symm (h (by simp)); clear h
    intro u h; obtain rfl := Eq.symm (h (by simp)); clear h
    subst Q1_4
    refine relyEnd_nil rfl ?_
    refine wpList_end rfl ?_
    simp only [Act.put, List.setIfInBounds_toArray, List.set_cons_zero, List.set_cons_succ]
    go_simp
    go_wp2
    go_ret
    exact ⟨_, rfl, NewT.trans _ _ _ HN.out k9, rfl⟩
/-- What Begins says. -/
def begM (node : Hs → Hs → Hs) (z : Hs) (m n : Int) (old all : Hs) (path : List Hs) : Bool := if m = 0 then beg0 n path.length old z else (okB m n path.length && eqH (bothM node (fun _ => 0) old m n path).1 old) && eqH (bothM node (fun _ => 0) old m n path).2 all
theorem Begins_cv {node : Hs → Hs → Hs} {z : Hs} (hX : TreeH node z) (old all : Hs) (m n : Int) (v : Value) (path : List Hs) (w : World) (hT : Tables w) (hv : RdH w v path) (hpl : path.length ≤ 1000000) : Cv 22 #[.int .i64 m, .int .i64 n, .agg (rowA 32 (bF old)), .agg (rowA 32 (bF all)), v] w (.eq (.bool (begM node z m n old all path))) := by
  unfold begM
  by_cases h : m = 0
  · subst h; rw [if_pos rfl]; exact Begins_0 hX old all n v path w hT hv
  · rw [if_neg h]; exact Begins_of old all _ _ _ m n v w h fun w' hN => Both_cv hX old m n v path w' (hN.tables hT) (hN.hs hv) hpl
end Go.Proofs.YtoigjcadncecpaaDoor
/- Rows of hashes that a call makes and hands back. -/
namespace Go.Proofs.YtoigjcadncecpaaDoor
open Go Go.RowKit
set_option maxRecDepth 8000
set_option linter.all false
theorem OwnH.mono {W : World} {B C : Nat} {v : Value} {l : List Hs} (h : OwnH W C v l) (hB : B ≤ C) : OwnH W B v l := by
  refine ⟨h.1, ?_⟩
  rcases h.2 with h2 | ⟨g, cap, cur, hv, hb, r⟩
  · exact .inl h2
  · exact .inr ⟨g, cap, cur, hv, by omega, r⟩
/-- A row of the call's own, in blocks from B on. -/
def svOw (B : Nat) (l : List Hs) : SV NewT := ⟨fun v w => OwnH w B v l, fun _ _ _ h hT => h.new hT⟩
theorem Cv_own {f : Nat} {vs : Array Value} {w : World} {B : Nat} {l : List Hs} (h : Cv f vs w (svOw w.heap.size l)) (hB : B ≤ w.heap.size) : Cv f vs w (svOw B l) := by
  unfold Cv at *
  refine h.mono ?_
  rintro e w' ⟨u, rfl, hN, ho⟩
  exact ⟨u, rfl, hN, OwnH.mono ho hB⟩
theorem ownH_one (w : World) (B : Nat) (d : Hs) (hB : B ≤ w.heap.size) : OwnH (w.alloc (.cells (rowA 32 (bF d)) 29)) B (.slice (some ⟨w.heap.size, 0, none⟩) 1 1) [d] := by
  refine ⟨hcs_length _, .inr ⟨w.heap.size, 1, rowA 32 (bF d), rfl, hB, heap_alloc_new w _, by simp, by unfold maxLen; omega, by simp [rowA_size], ?_⟩⟩
  rw [hcs_one, rowA_toList]
  exact List.take_of_length_le (by simp)
/-- A slice of hashes, and whether there is one. -/
def svPq (l : List Hs) (b : Bool) : SV NewT := ⟨fun v w => ∃ u, v = .tuple #[u, .bool b] ∧ RdH w u l, fun _ _ _ ⟨u, h1, h2⟩ hT => ⟨u, h1, hT.hs h2⟩⟩
section
variable {P : Program} {a : Act} {w : World} {o : Oper} {K : Act → World → Prop} {Q : Exit → Act → World → Prop} {x y : Operand}
theorem opr_extP0 {l : List Hs} {b : Bool} (ho : o.op = .extract x 0) (hx : (svPq l b).pred (a.eval x) w) (h : ∀ u, RdH w u l → K (a.put o.dst u) w) : o.wp P a w K Q := by
  obtain ⟨dst, op, type, pos, after, guard⟩ := o
  simp only at ho
  subst ho
  obtain ⟨u, hv, hu⟩ := hx
  exact opr_val (s := Instr.extract (a.eval x) 0) (by simp [execOp]) (by rw [hv]; simp [Instr.extract]) (h u hu)
theorem opr_extP1 {l : List Hs} {b : Bool} (ho : o.op = .extract x 1) (hx : (svPq l b).pred (a.eval x) w) (h : K (a.put o.dst (.bool b)) w) : o.wp P a w K Q := by
  obtain ⟨dst, op, type, pos, after, guard⟩ := o
  simp only at ho
  subst ho
  obtain ⟨u, hv, hu⟩ := hx
  exact opr_val (s := Instr.extract (a.eval x) 1) (by simp [execOp]) (by rw [hv]; simp [Instr.extract]) h
end
/-- An append onto a row of the own, at a function's end. -/
theorem app_below {B : Nat} {w wa w' : World} {v : Value} {l : List Hs} (hN : NewT w wa) (hB : B = w.heap.size) (ho : OwnH wa B v l) (h3 : wa.grownBy w' v.ownBlock) : NewT w w' := by
  subst hB
  exact NewT.of (hN.out.trans ((Below.refl _ wa).grown h3 hN.out.size (fun k hk => (ho.lt k hk).1)))
end Go.Proofs.YtoigjcadncecpaaDoor
/- A leaf's path: what pathUp makes, and Path hands back. -/
namespace Go.Proofs.YtoigjcadncecpaaDoor
open Go Go.RowKit
set_option maxRecDepth 8000
set_option linter.all false
set_option maxHeartbeats 1000000 in
theorem pathUp_1 (v : Value) (l : List Hs) (i : Int) (w : World) (hl : RdH w v l) (h1 : l.length = 1) : Cv 25 #[v, .int .i64 i] w (svOw w.heap.size []) := by
  unfold Cv
  obtain ⟨A, c, hv⟩ := rdH_form hl
  rw [h1] at hv
  subst hv
  clear hl
  go_enter Tryd.func25, Tryd.ntmps25
  go_wp2
  go_ret
  exact ⟨_, rfl, NewT.refl _, ownH_nil _ _⟩
set_option maxRecDepth 20000 in
set_option maxHeartbeats 2000000 in
theorem pathUp_l {node : Hs → Hs → Hs} {z : Hs} (hX : TreeH node z) (v : Value) (l : List Hs) (i k : Nat) (w : World) (hT : Tables w) (hl : RdH w v l) (hn : 2 ≤ l.length) (hll : l.length ≤ 1000000) (hk : k < l.length) (hx : i < l.length) (hkx : i < k) (hlb : (pathM node z (List.take k l) i).length ≤ 900000) (hs : ∀ w, Cv 40 #[.int .i64 (l.length : Int)] w (.eq (.int .i64 (k : Int))))
    (ih : ∀ (u : Value) (w : World), Tables w → RdH w u (List.take k l) → Cv 25 #[u, .int .i64 (i : Int)] w (svOw w.heap.size (pathM node z (List.take k l) i))) : Cv 25 #[v, .int .i64 (i : Int)] w (svOw w.heap.size (pathM node z (List.take k l) i ++ [rootM node z (List.drop k l)])) := by
  unfold Cv
  have HT := Lib.hid hT
  have HL := Lib.hid hl
  have HK := Lib.hid hs
  have HLB := Lib.hid hlb
  have HLL := Lib.hid hll
  have HKL := Lib.hid hk
  have HKX := Lib.hid hkx
  have HXL := Lib.hid hx
  have IH := Lib.hid ih
  obtain ⟨A, c, hv⟩ := rdH_form hl
  have t1 : ((l.length : Int) == 1) = false := beq_eq_false_iff_ne.2 (by omega)
  have t2 : (i : Int) < (k : Int) := by omega
  subst hv
  clear hT hl hs hlb ih
  go_enter Tryd.func25, Tryd.ntmps25
  go_upto_region 3 with fail
  obtain ⟨v, ev⟩ : ∃ v, Value.slice A l.length c = v := ⟨_, rfl⟩
  rw [ev] at HL ⊢
  clear ev t1
  refine wp_region_steps0 NewT [SV.eq (v), SV.eq (.int .i64 ((List.length (l) : Int))), SV.eq (.int .i64 ((k : Int))), SV.eq (.int .i64 ((k : Int)))] [([(0, none)], none), ([(9, some 0)], none), ([(10, some 1)], none), ([(11, some 2)], none)] 39 4 rfl rfl (by kernel_rfl) NewT.trans (NewT.refl _) (Nat.le_of_ble_eq_true rfl) ⟨?_, ?_, ?_, ?_, trivial⟩ ?_
  · intro a wx hT hF K hK
    obtain ⟨f0, _⟩ := hF
    have f0 : a.tmps.getD 0 undef = v := f0
    refine rely_wp rfl ?_
    exact opr_move (.inl rfl) (hK _ _ (NewT.refl _) f0)
  · intro a wx hT hF K hK
    obtain ⟨f9, _⟩ := hF
    have f9 : a.tmps.getD 9 undef = v := f9
    refine rely_wp rfl ?_
    exact opr_len_h rfl (by rw [eval_tmp, f9]; exact (hT.hs HL.out)) (hK _ _ (NewT.refl _) rfl)
  · intro a wx hT hF K hK
    obtain ⟨f10, _⟩ := hF
    have f10 : a.tmps.getD 10 undef = .int .i64 ((List.length (l) : Int)) := f10
    refine rely_wp rfl ?_
    exact opr_cv (HK.out wx) rfl Tryd.func40 (by kernel_rfl) (by kernel_rfl) (by simp only [List.map_toArray, List.map_cons, List.map_nil, eval_tmp, f10]) hK
  · intro a wx hT hF K hK
    obtain ⟨f11, _⟩ := hF
    have f11 : a.tmps.getD 11 undef = .int .i64 ((k : Int)) := f11
    refine rely_wp rfl ?_
    exact opr_move (.inr rfl) (hK _ _ (NewT.refl _) f11)
  · intro w3 k3
    intro u h; obtain rfl := Eq.symm (h (by simp)); clear h
    intro u h; obtain rfl := Eq.symm (h (by simp)); clear h
    intro u h; obtain rfl := Eq.symm (h (by simp)); clear h
    intro u h; obtain rfl := Eq.symm (h (by simp)); clear h
    refine relyEnd_nil rfl ?_
    refine wpList_end rfl ?_
    simp only [Act.put, List.setIfInBounds_toArray, List.set_cons_zero, List.set_cons_succ]
    go_simp
    replace HT := Lib.hid (k3.tables HT.out)
    replace HL := Lib.hid (k3.hs HL.out)
    have HSZ := Lib.hid k3.out.size
    have HN := Lib.hid k3
    clear HK k3 hn hll hk hx hkx
    go_upto_region 5 with fail
    refine wp_region_rely_tail (NewT) [SV.eq (v), SV.eq (.int .i64 ((k : Int))), svH (List.take k l), SV.eq (.int .i64 ((i : Int))), svOw w.heap.size (pathM node z (List.take k l) i), SV.eq (v), SV.eq (.int .i64 ((k : Int))), svH (List.drop k l), SV.eq (.agg (rowA 32 (bF (rootM node z (List.drop k l))))), svH ([rootM node z (List.drop k l)])] [([(0, none)], none), ([(5, none)], none), ([(15, some 0), (16, some 1)], none), ([(1, none)], none), ([(17, some 2), (18, some 3)], none), ([(0, none)], none), ([(5, none)], none), ([(20, some 5), (21, some 6)], none), ([(22, some 7)], none), ([(23, some 8)], none)] 39 10 (by kernel_rfl) rfl rfl (Nat.zero_lt_succ _) (by kernel_rfl) (by kernel_rfl) (by kernel_rfl) NewT.trans (NewT.drew _) (Nat.le_of_ble_eq_true rfl) ⟨?_, ?_, ?_, ?_, ?_, ?_, ?_, ?_, ?_, ?_, trivial⟩ ?_
    · intro a wx hT hF K hK
      obtain ⟨f0, _⟩ := hF
      have f0 : a.tmps.getD 0 undef = v := f0
      refine rely_wp rfl ?_
      exact opr_move (.inl rfl) (hK _ _ (NewT.refl _) f0)
    · intro a wx hT hF K hK
      obtain ⟨f5, _⟩ := hF
      have f5 : a.tmps.getD 5 undef = .int .i64 ((k : Int)) := f5
      refine rely_wp rfl ?_
      exact opr_move (.inl rfl) (hK _ _ (NewT.refl _) f5)
    · intro a wx hT hF K hK
      obtain ⟨f15, f16, _⟩ := hF
      have f15 : a.tmps.getD 15 undef = v := f15
      have f16 : a.tmps.getD 16 undef = .int .i64 ((k : Int)) := f16
      refine rely_wp rfl ?_
      exact opr_toH (k := k) (by have := HKL.out; omega) (rfl) rfl (by rw [eval_tmp, f15]; exact (hT.hs HL.out)) f16 (fun v hv => hK v _ (NewT.refl _) hv)
    · intro a wx hT hF K hK
      obtain ⟨f1, _⟩ := hF
      have f1 : a.tmps.getD 1 undef = .int .i64 ((i : Int)) := f1
      refine rely_wp rfl ?_
      exact opr_move (.inl rfl) (hK _ _ (NewT.refl _) f1)
    · intro a wx hT hF K hK
      obtain ⟨f17, f18, _⟩ := hF
      replace f17 := show (svH (List.take k l)).pred (a.tmps.getD 17 undef) wx from f17
      have f18 : a.tmps.getD 18 undef = .int .i64 ((i : Int)) := f18
      refine rely_wp rfl ?_
      exact opr_cv (Cv_own (IH.out _ wx (hT.tables HT.out) f17) (Nat.le_trans HSZ.out hT.out.size)) rfl Tryd.func25 (by kernel_rfl) (by kernel_rfl) (by simp only [List.map_toArray, List.map_cons, List.map_nil, eval_tmp, f18]) hK
    · intro a wx hT hF K hK
      obtain ⟨f0, _⟩ := hF
      have f0 : a.tmps.getD 0 undef = v := f0
      refine rely_wp rfl ?_
      exact opr_move (.inl rfl) (hK _ _ (NewT.refl _) f0)
    · intro a wx hT hF K hK
      obtain ⟨f5, _⟩ := hF
      have f5 : a.tmps.getD 5 undef = .int .i64 ((k : Int)) := f5
      refine rely_wp rfl ?_
      exact opr_move (.inl rfl) (hK _ _ (NewT.refl _) f5)
    · intro a wx hT hF K hK
      obtain ⟨f20, f21, _⟩ := hF
      have f20 : a.tmps.getD 20 undef = v := f20
      have f21 : a.tmps.getD 21 undef = .int .i64 ((k : Int)) := f21
      refine rely_wp rfl ?_
      exact opr_fromH (k := k) (by have := HKL.out; omega) (rfl) rfl (by rw [eval_tmp, f20]; exact (hT.hs HL.out)) f21 (fun v hv => hK v _ (NewT.refl _) hv)
    · intro a wx hT hF K hK
      obtain ⟨f22, _⟩ := hF
      replace f22 := show (svH (List.drop k l)).pred (a.tmps.getD 22 undef) wx from f22
      refine rely_wp rfl ?_
      exact opr_cv (Root_cv hX _ _ _ wx (hT.tables HT.out) f22 (Nat.le_refl _) (by have := HLL.out; simp; omega)) rfl Tryd.func24 (by kernel_rfl) (by kernel_rfl) (by simp only [List.map_toArray, List.map_cons, List.map_nil, eval_tmp]) hK
    · intro a wx hT hF K hK
      obtain ⟨f23, _⟩ := hF
      have f23 : a.tmps.getD 23 undef = .agg (rowA 32 (bF (rootM node z (List.drop k l)))) := f23
      refine rely_wp rfl ?_
      exact opr_bsH1 rfl f23 hK
    · intro wa ka
      intro u h; obtain rfl := Eq.symm (h (by simp)); clear h
      intro u h; obtain rfl := Eq.symm (h (by simp)); clear h
      intro _ _
      intro u h; obtain rfl := Eq.symm (h (by simp)); clear h
      intro u19 h; have g19 := h (by simp); clear h; replace g19 := show (svOw w.heap.size (pathM node z (List.take k l) i)).pred u19 wa from g19
      intro u h; obtain rfl := Eq.symm (h (by simp)); clear h
      intro u h; obtain rfl := Eq.symm (h (by simp)); clear h
      intro _ _
      intro u h; obtain rfl := Eq.symm (h (by simp)); clear h
      intro u24 h; have g24 := h (by simp); clear h; replace g24 := show (svH ([rootM node z (List.drop k l)])).pred u24 wa from g24
      refine relyEnd_nil rfl ?_
      simp only [Act.put, List.setIfInBounds_toArray, List.set_cons_zero, List.set_cons_succ]
      refine wpList_plain rfl (fun K hK => ?_)
      have hO : OwnH wa w.heap.size u19 (pathM node z (List.take k l) i) := g19
      have hR : RdH wa u24 [rootM node z (List.drop k l)] := g24
      obtain ⟨v', w', hrun, h2, h3⟩ := run_appH hO hR (by have := HLB.out; simp; omega) (Nat.le_trans HSZ.out ka.out.size) 22
      refine opr_append rfl rfl rfl hrun (hK _ _ ?_)
      clear hK K
      refine wpList_plain rfl (fun K hK => ?_)
      refine opr_move (.inr rfl) (hK _ _ ?_)
      refine wpList_end rfl ?_
      simp only [Act.put, List.setIfInBounds_toArray, List.set_cons_zero, List.set_cons_succ]
      go_simp
      have hend := app_below (NewT.trans _ _ _ HN.out ka) rfl hO h3
      go_wp2
      go_ret
      exact ⟨_, rfl, hend, h2⟩
set_option maxRecDepth 20000 in
set_option maxHeartbeats 2000000 in
theorem pathUp_r {node : Hs → Hs → Hs} {z : Hs} (hX : TreeH node z) (v : Value) (l : List Hs) (i k : Nat) (w : World) (hT : Tables w) (hl : RdH w v l) (hn : 2 ≤ l.length) (hll : l.length ≤ 1000000) (hk : k < l.length) (hx : i < l.length) (hkx : ¬ i < k) (hlb : (pathM node z (List.drop k l) (i - k)).length ≤ 900000) (hs : ∀ w, Cv 40 #[.int .i64 (l.length : Int)] w (.eq (.int .i64 (k : Int))))
    (ih : ∀ (u : Value) (w : World), Tables w → RdH w u (List.drop k l) → Cv 25 #[u, .int .i64 ((i - k : Nat) : Int)] w (svOw w.heap.size (pathM node z (List.drop k l) (i - k)))) : Cv 25 #[v, .int .i64 (i : Int)] w (svOw w.heap.size (pathM node z (List.drop k l) (i - k) ++ [rootM node z (List.take k l)])) := by
  unfold Cv
  have HT := Lib.hid hT
  have HL := Lib.hid hl
  have HK := Lib.hid hs
  have HLB := Lib.hid hlb
  have HLL := Lib.hid hll
  have HKL := Lib.hid hk
  have HKX := Lib.hid hkx
  have HXL := Lib.hid hx
  have IH := Lib.hid ih
  obtain ⟨A, c, hv⟩ := rdH_form hl
  have t1 : ((l.length : Int) == 1) = false := beq_eq_false_iff_ne.2 (by omega)
  have t2 : ¬ (i : Int) < (k : Int) := by omega
  subst hv
  clear hT hl hs hlb ih
  go_enter Tryd.func25, Tryd.ntmps25
  go_upto_region 3 with fail
  obtain ⟨v, ev⟩ : ∃ v, Value.slice A l.length c = v := ⟨_, rfl⟩
  rw [ev] at HL ⊢
  clear ev t1
  refine wp_region_steps0 NewT [SV.eq (v), SV.eq (.int .i64 ((List.length (l) : Int))), SV.eq (.int .i64 ((k : Int))), SV.eq (.int .i64 ((k : Int)))] [([(0, none)], none), ([(9, some 0)], none), ([(10, some 1)], none), ([(11, some 2)], none)] 39 4 rfl rfl (by kernel_rfl) NewT.trans (NewT.refl _) (Nat.le_of_ble_eq_true rfl) ⟨?_, ?_, ?_, ?_, trivial⟩ ?_
  · intro a wx hT hF K hK
    obtain ⟨f0, _⟩ := hF
    have f0 : a.tmps.getD 0 undef = v := f0
    refine rely_wp rfl ?_
    exact opr_move (.inl rfl) (hK _ _ (NewT.refl _) f0)
  · intro a wx hT hF K hK
    obtain ⟨f9, _⟩ := hF
    have f9 : a.tmps.getD 9 undef = v := f9
    refine rely_wp rfl ?_
    exact opr_len_h rfl (by rw [eval_tmp, f9]; exact (hT.hs HL.out)) (hK _ _ (NewT.refl _) rfl)
  · intro a wx hT hF K hK
    obtain ⟨f10, _⟩ := hF
    have f10 : a.tmps.getD 10 undef = .int .i64 ((List.length (l) : Int)) := f10
    refine rely_wp rfl ?_
    exact opr_cv (HK.out wx) rfl Tryd.func40 (by kernel_rfl) (by kernel_rfl) (by simp only [List.map_toArray, List.map_cons, List.map_nil, eval_tmp, f10]) hK
  · intro a wx hT hF K hK
    obtain ⟨f11, _⟩ := hF
    have f11 : a.tmps.getD 11 undef = .int .i64 ((k : Int)) := f11
    refine rely_wp rfl ?_
    exact opr_move (.inr rfl) (hK _ _ (NewT.refl _) f11)
  · intro w3 k3
    intro u h; obtain rfl := Eq.symm (h (by simp)); clear h
    intro u h; obtain rfl := Eq.symm (h (by simp)); clear h
    intro u h; obtain rfl := Eq.symm (h (by simp)); clear h
    intro u h; obtain rfl := Eq.symm (h (by simp)); clear h
    refine relyEnd_nil rfl ?_
    refine wpList_end rfl ?_
    simp only [Act.put, List.setIfInBounds_toArray, List.set_cons_zero, List.set_cons_succ]
    go_simp
    replace HT := Lib.hid (k3.tables HT.out)
    replace HL := Lib.hid (k3.hs HL.out)
    have HSZ := Lib.hid k3.out.size
    have HN := Lib.hid k3
    clear HK k3 hn hll hk hx hkx
    go_upto_region 6 with fail
    refine wp_region_rely_tail (NewT) [SV.eq (v), SV.eq (.int .i64 ((k : Int))), svH (List.drop k l), SV.eq (.int .i64 ((i : Int))), SV.eq (.int .i64 ((k : Int))), SV.eq (.int .i64 (((i - k : Nat) : Int))), svOw w.heap.size (pathM node z (List.drop k l) (i - k)), SV.eq (v), SV.eq (.int .i64 ((k : Int))), svH (List.take k l), SV.eq (.agg (rowA 32 (bF (rootM node z (List.take k l))))), svH ([rootM node z (List.take k l)])] [([(0, none)], none), ([(5, none)], none), ([(26, some 0), (27, some 1)], none), ([(1, none)], none), ([(5, none)], none), ([(29, some 3), (30, some 4)], none), ([(28, some 2), (31, some 5)], none), ([(0, none)], none), ([(5, none)], none), ([(33, some 7), (34, some 8)], none), ([(35, some 9)], none), ([(36, some 10)], none)] 39 12 (by kernel_rfl) rfl rfl (Nat.zero_lt_succ _) (by kernel_rfl) (by kernel_rfl) (by kernel_rfl) NewT.trans (NewT.drew _) (Nat.le_of_ble_eq_true rfl) ⟨?_, ?_, ?_, ?_, ?_, ?_, ?_, ?_, ?_, ?_, ?_, ?_, trivial⟩ ?_
    · intro a wx hT hF K hK
      obtain ⟨f0, _⟩ := hF
      have f0 : a.tmps.getD 0 undef = v := f0
      refine rely_wp rfl ?_
      exact opr_move (.inl rfl) (hK _ _ (NewT.refl _) f0)
    · intro a wx hT hF K hK
      obtain ⟨f5, _⟩ := hF
      have f5 : a.tmps.getD 5 undef = .int .i64 ((k : Int)) := f5
      refine rely_wp rfl ?_
      exact opr_move (.inl rfl) (hK _ _ (NewT.refl _) f5)
    · intro a wx hT hF K hK
      obtain ⟨f26, f27, _⟩ := hF
      have f26 : a.tmps.getD 26 undef = v := f26
      have f27 : a.tmps.getD 27 undef = .int .i64 ((k : Int)) := f27
      refine rely_wp rfl ?_
      exact opr_fromH (k := k) (by have := HKL.out; omega) (rfl) rfl (by rw [eval_tmp, f26]; exact (hT.hs HL.out)) f27 (fun v hv => hK v _ (NewT.refl _) hv)
    · intro a wx hT hF K hK
      obtain ⟨f1, _⟩ := hF
      have f1 : a.tmps.getD 1 undef = .int .i64 ((i : Int)) := f1
      refine rely_wp rfl ?_
      exact opr_move (.inl rfl) (hK _ _ (NewT.refl _) f1)
    · intro a wx hT hF K hK
      obtain ⟨f5, _⟩ := hF
      have f5 : a.tmps.getD 5 undef = .int .i64 ((k : Int)) := f5
      refine rely_wp rfl ?_
      exact opr_move (.inl rfl) (hK _ _ (NewT.refl _) f5)
    · intro a wx hT hF K hK
      obtain ⟨f29, f30, _⟩ := hF
      have f29 : a.tmps.getD 29 undef = .int .i64 ((i : Int)) := f29
      have f30 : a.tmps.getD 30 undef = .int .i64 ((k : Int)) := f30
      refine rely_wp rfl ?_
      exact opr_sub (r := ((i - k : Nat) : Int)) Tryd.underlying3 (by unfold wrap64; have := HKX.out; have := HXL.out; have := HLL.out; omega) rfl f29 f30 (hK _ _ (NewT.refl _) rfl)
    · intro a wx hT hF K hK
      obtain ⟨f28, f31, _⟩ := hF
      replace f28 := show (svH (List.drop k l)).pred (a.tmps.getD 28 undef) wx from f28
      have f31 : a.tmps.getD 31 undef = .int .i64 (((i - k : Nat) : Int)) := f31
      refine rely_wp rfl ?_
      exact opr_cv (Cv_own (IH.out _ wx (hT.tables HT.out) f28) (Nat.le_trans HSZ.out hT.out.size)) rfl Tryd.func25 (by kernel_rfl) (by kernel_rfl) (by simp only [List.map_toArray, List.map_cons, List.map_nil, eval_tmp, f31]) hK
    · intro a wx hT hF K hK
      obtain ⟨f0, _⟩ := hF
      have f0 : a.tmps.getD 0 undef = v := f0
      refine rely_wp rfl ?_
      exact opr_move (.inl rfl) (hK _ _ (NewT.refl _) f0)
    · intro a wx hT hF K hK
      obtain ⟨f5, _⟩ := hF
      have f5 : a.tmps.getD 5 undef = .int .i64 ((k : Int)) := f5
      refine rely_wp rfl ?_
      exact opr_move (.inl rfl) (hK _ _ (NewT.refl _) f5)
    · intro a wx hT hF K hK
      obtain ⟨f33, f34, _⟩ := hF
      have f33 : a.tmps.getD 33 undef = v := f33
      have f34 : a.tmps.getD 34 undef = .int .i64 ((k : Int)) := f34
      refine rely_wp rfl ?_
      exact opr_toH (k := k) (by have := HKL.out; omega) (rfl) rfl (by rw [eval_tmp, f33]; exact (hT.hs HL.out)) f34 (fun v hv => hK v _ (NewT.refl _) hv)
    · intro a wx hT hF K hK
      obtain ⟨f35, _⟩ := hF
      replace f35 := show (svH (List.take k l)).pred (a.tmps.getD 35 undef) wx from f35
      refine rely_wp rfl ?_
      exact opr_cv (Root_cv hX _ _ _ wx (hT.tables HT.out) f35 (Nat.le_refl _) (by have := HLL.out; simp; omega)) rfl Tryd.func24 (by kernel_rfl) (by kernel_rfl) (by simp only [List.map_toArray, List.map_cons, List.map_nil, eval_tmp]) hK
    · intro a wx hT hF K hK
      obtain ⟨f36, _⟩ := hF
      have f36 : a.tmps.getD 36 undef = .agg (rowA 32 (bF (rootM node z (List.take k l)))) := f36
      refine rely_wp rfl ?_
      exact opr_bsH1 rfl f36 hK
    · intro wa ka
      intro u h; obtain rfl := Eq.symm (h (by simp)); clear h
      intro u h; obtain rfl := Eq.symm (h (by simp)); clear h
      intro _ _
      intro u h; obtain rfl := Eq.symm (h (by simp)); clear h
      intro u h; obtain rfl := Eq.symm (h (by simp)); clear h
      intro u h; obtain rfl := Eq.symm (h (by simp)); clear h
      intro u32 h; have g32 := h (by simp); clear h; replace g32 := show (svOw w.heap.size (pathM node z (List.drop k l) (i - k))).pred u32 wa from g32
      intro u h; obtain rfl := Eq.symm (h (by simp)); clear h
      intro u h; obtain rfl := Eq.symm (h (by simp)); clear h
      intro _ _
      intro u h; obtain rfl := Eq.symm (h (by simp)); clear h
      intro u37 h; have g37 := h (by simp); clear h; replace g37 := show (svH ([rootM node z (List.take k l)])).pred u37 wa from g37
      refine relyEnd_nil rfl ?_
      simp only [Act.put, List.setIfInBounds_toArray, List.set_cons_zero, List.set_cons_succ]
      refine wpList_plain rfl (fun K hK => ?_)
      have hO : OwnH wa w.heap.size u32 (pathM node z (List.drop k l) (i - k)) := g32
      have hR : RdH wa u37 [rootM node z (List.take k l)] := g37
      obtain ⟨v', w', hrun, h2, h3⟩ := run_appH hO hR (by have := HLB.out; simp; omega) (Nat.le_trans HSZ.out ka.out.size) 22
      refine opr_append rfl rfl rfl hrun (hK _ _ ?_)
      clear hK K
      refine wpList_plain rfl (fun K hK => ?_)
      refine opr_move (.inr rfl) (hK _ _ ?_)
      refine wpList_end rfl ?_
      simp only [Act.put, List.setIfInBounds_toArray, List.set_cons_zero, List.set_cons_succ]
      go_simp
      have hend := app_below (NewT.trans _ _ _ HN.out ka) rfl hO h3
      go_wp2
      go_ret
      exact ⟨_, rfl, hend, h2⟩
theorem pathM_short {node : Hs → Hs → Hs} {z : Hs} (l : List Hs) (i : Nat) (hl : l.length ≤ 1000000) : (pathM node z l i).length ≤ 20 := by
  rw [pathM_length (node := node) (z := z) _ l i (Nat.le_refl _)]
  exact leftsM_le 20 i l.length (by omega)
theorem pathUp_cv {node : Hs → Hs → Hs} {z : Hs} (hX : TreeH node z) : ∀ (b : Nat) (v : Value) (l : List Hs) (i : Nat) (w : World), Tables w → RdH w v l → l.length ≤ b → i < l.length → l.length ≤ 1000000 → Cv 25 #[v, .int .i64 (i : Int)] w (svOw w.heap.size (pathM node z l i)) := by
  intro b
  induction b with
  | zero => intro v l i w _ _ h1 h2; omega
  | succ b ih =>
    intro v l i w hT hl hb hi hll
    by_cases h1 : l.length < 2
    · rw [pathM_few _ _ _ _ h1]; exact pathUp_1 v l i w hl (by omega)
    · have h2 : 2 ≤ l.length := by omega
      obtain ⟨s1, s2, _⟩ := splitN_lt l.length h2
      have hs : ∀ w, Cv 40 #[.int .i64 (l.length : Int)] w (.eq (.int .i64 ((splitN l.length : Nat) : Int))) := fun w => Split_cv (l.length : Int) (by omega) (by omega) w
      by_cases hil : i < splitN l.length
      · rw [pathM_l _ _ _ _ h2 hil]
        refine pathUp_l hX v l i _ w hT hl h2 hll s1 hi hil (Nat.le_trans (pathM_short _ _ (by rw [List.length_take]; omega)) (by omega)) hs (fun u w hT hu => ih u _ i w hT hu (by rw [List.length_take]; omega) (by rw [List.length_take]; omega) (by rw [List.length_take]; omega))
      · rw [pathM_r _ _ _ _ h2 hil]
        refine pathUp_r hX v l i _ w hT hl h2 hll s1 hi hil (Nat.le_trans (pathM_short _ _ (by rw [List.length_drop]; omega)) (by omega)) hs (fun u w hT hu => ih u _ (i - splitN l.length) w hT hu (by rw [List.length_drop]; omega) (by rw [List.length_drop]; omega) (by rw [List.length_drop]; omega))
/-- Is there such a leaf? -/
def okI (i : Int) (c : Nat) : Bool := decide (0 ≤ i) && decide (i < c)
set_option maxHeartbeats 1000000 in
theorem Path_bad (v : Value) (l : List Hs) (i : Int) (w : World) (hl : RdH w v l) (h : i < 0 ∨ (l.length : Int) ≤ i) : Cv 11 #[v, .int .i64 i] w (svPq [] false) := by
  unfold Cv
  obtain ⟨A, c, hv⟩ := rdH_form hl
  subst hv
  clear hl
  by_cases h1 : i < 0
  · clear h
    go_enter Tryd.func11, Tryd.ntmps11
    go_wp2
    refine bodyPost_ret (results_tmp2 rfl _ _ _) rfl ⟨_, rfl, NewT.refl _, _, rfl, rdH_nil _⟩
  · have h2 : (l.length : Int) ≤ i := by omega
    clear h
    go_enter Tryd.func11, Tryd.ntmps11
    go_wp2
    refine bodyPost_ret (results_tmp2 rfl _ _ _) rfl ⟨_, rfl, NewT.refl _, _, rfl, rdH_nil _⟩
set_option maxHeartbeats 1000000 in
theorem Path_good {node : Hs → Hs → Hs} {z : Hs} (hX : TreeH node z) (v : Value) (l : List Hs) (i : Nat) (w : World) (hT : Tables w) (hl : RdH w v l) (hi : i < l.length) (hll : l.length ≤ 1000000) : Cv 11 #[v, .int .i64 (i : Int)] w (svPq (pathM node z l i) true) := by
  unfold Cv
  have hc := pathUp_cv hX l.length v l i w hT hl (Nat.le_refl _) hi hll
  unfold Cv at hc
  have HC := Lib.hid hc
  obtain ⟨A, c, hv⟩ := rdH_form hl
  subst hv
  have t1 : ¬ (i : Int) < 0 := by omega
  have t2 : ¬ (l.length : Int) ≤ (i : Int) := by omega
  clear hl hc hT
  go_enter Tryd.func11, Tryd.ntmps11
  go_wp2_with (go_at_call 25; refine HC.out.mono ?_; rintro _ w4 ⟨u, rfl, hN4, ho4⟩)
  exact bodyPost_ret (results_tmp2 rfl _ _ _) rfl ⟨_, rfl, hN4, _, rfl, OwnH.rd ho4⟩
theorem Path_cv {node : Hs → Hs → Hs} {z : Hs} (hX : TreeH node z) (v : Value) (l : List Hs) (i : Int) (w : World) (hT : Tables w) (hl : RdH w v l) (hll : l.length ≤ 1000000) : Cv 11 #[v, .int .i64 i] w (svPq (if okI i l.length then pathM node z l i.toNat else []) (okI i l.length)) := by
  by_cases h : i < 0 ∨ (l.length : Int) ≤ i
  · have e : okI i l.length = false := by
      unfold okI
      rcases h with h | h
      · simp [show ¬ 0 ≤ i by omega]
      · simp [show ¬ i < (l.length : Int) by omega]
    rw [e, if_neg (by decide)]
    exact Path_bad v l i w hl h
  · obtain ⟨i, rfl⟩ : ∃ k : Nat, i = (k : Int) := ⟨i.toNat, by omega⟩
    have e : okI (i : Int) l.length = true := by unfold okI; simp; omega
    rw [e, if_pos rfl, Int.toNat_natCast]
    exact Path_good hX v l i w hT hl (by omega) hll
end Go.Proofs.YtoigjcadncecpaaDoor
/- A beginning's proof: what proofUp makes, and Prove hands back. -/
namespace Go.Proofs.YtoigjcadncecpaaDoor
open Go Go.RowKit
set_option maxRecDepth 8000
set_option linter.all false
set_option maxHeartbeats 1000000 in
theorem proofUp_t (v : Value) (l : List Hs) (w : World) (hl : RdH w v l) : Cv 28 #[v, .int .i64 (l.length : Int), .bool true] w (svOw w.heap.size []) := by
  unfold Cv
  obtain ⟨A, c, hv⟩ := rdH_form hl
  subst hv
  clear hl
  go_enter Tryd.func28, Tryd.ntmps28
  go_wp2
  go_ret
  exact ⟨_, rfl, NewT.refl _, ownH_nil _ _⟩
set_option maxHeartbeats 1000000 in
theorem proofUp_f {node : Hs → Hs → Hs} {z : Hs} (hX : TreeH node z) (v : Value) (l : List Hs) (w : World) (hT : Tables w) (hl : RdH w v l) (hll : l.length ≤ 1000000) : Cv 28 #[v, .int .i64 (l.length : Int), .bool false] w (svOw w.heap.size [rootM node z l]) := by
  unfold Cv
  have HT := Lib.hid hT
  have HL := Lib.hid hl
  have HLL := Lib.hid hll
  obtain ⟨A, c, hv⟩ := rdH_form hl
  subst hv
  clear hl hT hll
  go_enter Tryd.func28, Tryd.ntmps28
  go_upto_region 4 with fail
  obtain ⟨v, ev⟩ : ∃ v, Value.slice A l.length c = v := ⟨_, rfl⟩
  rw [ev] at HL ⊢
  clear ev
  refine wp_region_steps0 NewT [SV.eq (v), SV.eq (.agg (rowA 32 (bF (rootM node z (l)))))] [([(0, none)], none), ([(13, some 0)], none)] 47 2 rfl rfl (by kernel_rfl) NewT.trans (NewT.refl _) (Nat.le_of_ble_eq_true rfl) ⟨?_, ?_, trivial⟩ ?_
  · intro a wx hT hF K hK
    obtain ⟨f0, _⟩ := hF
    have f0 : a.tmps.getD 0 undef = v := f0
    refine rely_wp rfl ?_
    exact opr_move (.inl rfl) (hK _ _ (NewT.refl _) f0)
  · intro a wx hT hF K hK
    obtain ⟨f13, _⟩ := hF
    have f13 : a.tmps.getD 13 undef = v := f13
    refine rely_wp rfl ?_
    exact opr_cv (Root_cv hX _ _ (l) wx (hT.tables HT.out) ((hT.hs HL.out)) (Nat.le_refl _) (HLL.out)) rfl Tryd.func24 (by kernel_rfl) (by kernel_rfl) (by simp only [List.map_toArray, List.map_cons, List.map_nil, eval_tmp, f13]) hK
  · intro wa ka
    intro u h; obtain rfl := Eq.symm (h (by simp)); clear h
    intro u h; obtain rfl := Eq.symm (h (by simp)); clear h
    refine relyEnd_nil rfl ?_
    simp only [Act.put, List.setIfInBounds_toArray, List.set_cons_zero, List.set_cons_succ]
    refine wpList_plain rfl (fun K hK => ?_)
    refine opr_val (s := Instr.buildSlice 22 1 #[(0, .agg (rowA 32 (bF (rootM node z l))))]) (by simp [execOp]; rfl) (run_bsH1 _ _) (hK _ _ ?_)
    clear hK K
    have ho := ownH_one wa w.heap.size (rootM node z l) ka.out.size
    have hn := NewT.alloc wa (.cells (rowA 32 (bF (rootM node z l))) 29)
    refine wpList_plain rfl (fun K hK => ?_)
    refine opr_move (.inr rfl) (hK _ _ ?_)
    refine wpList_end rfl ?_
    simp only [Act.put, List.setIfInBounds_toArray, List.set_cons_zero, List.set_cons_succ]
    go_simp
    go_wp2
    go_ret
    exact ⟨_, rfl, NewT.trans _ _ _ ka hn, ho⟩
set_option maxRecDepth 20000 in
set_option maxHeartbeats 2000000 in
theorem proofUp_l {node : Hs → Hs → Hs} {z : Hs} (hX : TreeH node z) (v : Value) (l : List Hs) (m k : Nat) (b : Bool) (w : World) (hT : Tables w) (hl : RdH w v l) (hn : 2 ≤ l.length) (hll : l.length ≤ 1000000) (hk : k < l.length) (hx : m < l.length) (hkx : m ≤ k) (hlb : (subM node z m (List.take k l) b).length ≤ 900000) (hs : ∀ w, Cv 40 #[.int .i64 (l.length : Int)] w (.eq (.int .i64 (k : Int))))
    (ih : ∀ (u : Value) (w : World), Tables w → RdH w u (List.take k l) → Cv 28 #[u, .int .i64 (m : Int), .bool b] w (svOw w.heap.size (subM node z m (List.take k l) b))) : Cv 28 #[v, .int .i64 (m : Int), .bool b] w (svOw w.heap.size (subM node z m (List.take k l) b ++ [rootM node z (List.drop k l)])) := by
  unfold Cv
  have HT := Lib.hid hT
  have HL := Lib.hid hl
  have HK := Lib.hid hs
  have HLB := Lib.hid hlb
  have HLL := Lib.hid hll
  have HKL := Lib.hid hk
  have HKX := Lib.hid hkx
  have HXL := Lib.hid hx
  have IH := Lib.hid ih
  obtain ⟨A, c, hv⟩ := rdH_form hl
  have t1 : ((m : Int) == (l.length : Int)) = false := beq_eq_false_iff_ne.2 (by omega)
  have t2 : (m : Int) ≤ (k : Int) := by omega
  subst hv
  clear hT hl hs hlb ih
  go_enter Tryd.func28, Tryd.ntmps28
  go_upto_region 5 with fail
  obtain ⟨v, ev⟩ : ∃ v, Value.slice A l.length c = v := ⟨_, rfl⟩
  rw [ev] at HL ⊢
  clear ev t1
  refine wp_region_steps0 NewT [SV.eq (v), SV.eq (.int .i64 ((List.length (l) : Int))), SV.eq (.int .i64 ((k : Int))), SV.eq (.int .i64 ((k : Int)))] [([(0, none)], none), ([(16, some 0)], none), ([(17, some 1)], none), ([(18, some 2)], none)] 47 4 rfl rfl (by kernel_rfl) NewT.trans (NewT.refl _) (Nat.le_of_ble_eq_true rfl) ⟨?_, ?_, ?_, ?_, trivial⟩ ?_
  · intro a wx hT hF K hK
    obtain ⟨f0, _⟩ := hF
    have f0 : a.tmps.getD 0 undef = v := f0
    refine rely_wp rfl ?_
    exact opr_move (.inl rfl) (hK _ _ (NewT.refl _) f0)
  · intro a wx hT hF K hK
    obtain ⟨f16, _⟩ := hF
    have f16 : a.tmps.getD 16 undef = v := f16
    refine rely_wp rfl ?_
    exact opr_len_h rfl (by rw [eval_tmp, f16]; exact (hT.hs HL.out)) (hK _ _ (NewT.refl _) rfl)
  · intro a wx hT hF K hK
    obtain ⟨f17, _⟩ := hF
    have f17 : a.tmps.getD 17 undef = .int .i64 ((List.length (l) : Int)) := f17
    refine rely_wp rfl ?_
    exact opr_cv (HK.out wx) rfl Tryd.func40 (by kernel_rfl) (by kernel_rfl) (by simp only [List.map_toArray, List.map_cons, List.map_nil, eval_tmp, f17]) hK
  · intro a wx hT hF K hK
    obtain ⟨f18, _⟩ := hF
    have f18 : a.tmps.getD 18 undef = .int .i64 ((k : Int)) := f18
    refine rely_wp rfl ?_
    exact opr_move (.inr rfl) (hK _ _ (NewT.refl _) f18)
  · intro w3 k3
    intro u h; obtain rfl := Eq.symm (h (by simp)); clear h
    intro u h; obtain rfl := Eq.symm (h (by simp)); clear h
    intro u h; obtain rfl := Eq.symm (h (by simp)); clear h
    intro u h; obtain rfl := Eq.symm (h (by simp)); clear h
    refine relyEnd_nil rfl ?_
    refine wpList_end rfl ?_
    simp only [Act.put, List.setIfInBounds_toArray, List.set_cons_zero, List.set_cons_succ]
    go_simp
    replace HT := Lib.hid (k3.tables HT.out)
    replace HL := Lib.hid (k3.hs HL.out)
    have HSZ := Lib.hid k3.out.size
    have HN := Lib.hid k3
    clear HK k3 hn hll hk hx hkx
    go_upto_region 7 with fail
    refine wp_region_rely_tail (NewT) [SV.eq (v), SV.eq (.int .i64 ((k : Int))), svH (List.take k l), SV.eq (.int .i64 ((m : Int))), SV.eq (.bool (b)), svOw w.heap.size (subM node z m (List.take k l) b), SV.eq (v), SV.eq (.int .i64 ((k : Int))), svH (List.drop k l), SV.eq (.agg (rowA 32 (bF (rootM node z (List.drop k l))))), svH ([rootM node z (List.drop k l)])] [([(0, none)], none), ([(7, none)], none), ([(22, some 0), (23, some 1)], none), ([(1, none)], none), ([(2, none)], none), ([(24, some 2), (25, some 3), (26, some 4)], none), ([(0, none)], none), ([(7, none)], none), ([(28, some 6), (29, some 7)], none), ([(30, some 8)], none), ([(31, some 9)], none)] 47 11 (by kernel_rfl) rfl rfl (Nat.zero_lt_succ _) (by kernel_rfl) (by kernel_rfl) (by kernel_rfl) NewT.trans (NewT.drew _) (Nat.le_of_ble_eq_true rfl) ⟨?_, ?_, ?_, ?_, ?_, ?_, ?_, ?_, ?_, ?_, ?_, trivial⟩ ?_
    · intro a wx hT hF K hK
      obtain ⟨f0, _⟩ := hF
      have f0 : a.tmps.getD 0 undef = v := f0
      refine rely_wp rfl ?_
      exact opr_move (.inl rfl) (hK _ _ (NewT.refl _) f0)
    · intro a wx hT hF K hK
      obtain ⟨f7, _⟩ := hF
      have f7 : a.tmps.getD 7 undef = .int .i64 ((k : Int)) := f7
      refine rely_wp rfl ?_
      exact opr_move (.inl rfl) (hK _ _ (NewT.refl _) f7)
    · intro a wx hT hF K hK
      obtain ⟨f22, f23, _⟩ := hF
      have f22 : a.tmps.getD 22 undef = v := f22
      have f23 : a.tmps.getD 23 undef = .int .i64 ((k : Int)) := f23
      refine rely_wp rfl ?_
      exact opr_toH (k := k) (by have := HKL.out; omega) (rfl) rfl (by rw [eval_tmp, f22]; exact (hT.hs HL.out)) f23 (fun v hv => hK v _ (NewT.refl _) hv)
    · intro a wx hT hF K hK
      obtain ⟨f1, _⟩ := hF
      have f1 : a.tmps.getD 1 undef = .int .i64 ((m : Int)) := f1
      refine rely_wp rfl ?_
      exact opr_move (.inl rfl) (hK _ _ (NewT.refl _) f1)
    · intro a wx hT hF K hK
      obtain ⟨f2, _⟩ := hF
      have f2 : a.tmps.getD 2 undef = .bool (b) := f2
      refine rely_wp rfl ?_
      exact opr_move (.inl rfl) (hK _ _ (NewT.refl _) f2)
    · intro a wx hT hF K hK
      obtain ⟨f24, f25, f26, _⟩ := hF
      replace f24 := show (svH (List.take k l)).pred (a.tmps.getD 24 undef) wx from f24
      have f25 : a.tmps.getD 25 undef = .int .i64 ((m : Int)) := f25
      have f26 : a.tmps.getD 26 undef = .bool (b) := f26
      refine rely_wp rfl ?_
      exact opr_cv (Cv_own (IH.out _ wx (hT.tables HT.out) f24) (Nat.le_trans HSZ.out hT.out.size)) rfl Tryd.func28 (by kernel_rfl) (by kernel_rfl) (by simp only [List.map_toArray, List.map_cons, List.map_nil, eval_tmp, f25, f26]) hK
    · intro a wx hT hF K hK
      obtain ⟨f0, _⟩ := hF
      have f0 : a.tmps.getD 0 undef = v := f0
      refine rely_wp rfl ?_
      exact opr_move (.inl rfl) (hK _ _ (NewT.refl _) f0)
    · intro a wx hT hF K hK
      obtain ⟨f7, _⟩ := hF
      have f7 : a.tmps.getD 7 undef = .int .i64 ((k : Int)) := f7
      refine rely_wp rfl ?_
      exact opr_move (.inl rfl) (hK _ _ (NewT.refl _) f7)
    · intro a wx hT hF K hK
      obtain ⟨f28, f29, _⟩ := hF
      have f28 : a.tmps.getD 28 undef = v := f28
      have f29 : a.tmps.getD 29 undef = .int .i64 ((k : Int)) := f29
      refine rely_wp rfl ?_
      exact opr_fromH (k := k) (by have := HKL.out; omega) (rfl) rfl (by rw [eval_tmp, f28]; exact (hT.hs HL.out)) f29 (fun v hv => hK v _ (NewT.refl _) hv)
    · intro a wx hT hF K hK
      obtain ⟨f30, _⟩ := hF
      replace f30 := show (svH (List.drop k l)).pred (a.tmps.getD 30 undef) wx from f30
      refine rely_wp rfl ?_
      exact opr_cv (Root_cv hX _ _ _ wx (hT.tables HT.out) f30 (Nat.le_refl _) (by have := HLL.out; simp; omega)) rfl Tryd.func24 (by kernel_rfl) (by kernel_rfl) (by simp only [List.map_toArray, List.map_cons, List.map_nil, eval_tmp]) hK
    · intro a wx hT hF K hK
      obtain ⟨f31, _⟩ := hF
      have f31 : a.tmps.getD 31 undef = .agg (rowA 32 (bF (rootM node z (List.drop k l)))) := f31
      refine rely_wp rfl ?_
      exact opr_bsH1 rfl f31 hK
    · intro wa ka
      intro u h; obtain rfl := Eq.symm (h (by simp)); clear h
      intro u h; obtain rfl := Eq.symm (h (by simp)); clear h
      intro _ _
      intro u h; obtain rfl := Eq.symm (h (by simp)); clear h
      intro u h; obtain rfl := Eq.symm (h (by simp)); clear h
      intro u27 h; have g27 := h (by simp); clear h; replace g27 := show (svOw w.heap.size (subM node z m (List.take k l) b)).pred u27 wa from g27
      intro u h; obtain rfl := Eq.symm (h (by simp)); clear h
      intro u h; obtain rfl := Eq.symm (h (by simp)); clear h
      intro _ _
      intro u h; obtain rfl := Eq.symm (h (by simp)); clear h
      intro u32 h; have g32 := h (by simp); clear h; replace g32 := show (svH ([rootM node z (List.drop k l)])).pred u32 wa from g32
      refine relyEnd_nil rfl ?_
      simp only [Act.put, List.setIfInBounds_toArray, List.set_cons_zero, List.set_cons_succ]
      refine wpList_plain rfl (fun K hK => ?_)
      have hO : OwnH wa w.heap.size u27 (subM node z m (List.take k l) b) := g27
      have hR : RdH wa u32 [rootM node z (List.drop k l)] := g32
      obtain ⟨v', w', hrun, h2, h3⟩ := run_appH hO hR (by have := HLB.out; simp; omega) (Nat.le_trans HSZ.out ka.out.size) 22
      refine opr_append rfl rfl rfl hrun (hK _ _ ?_)
      clear hK K
      refine wpList_plain rfl (fun K hK => ?_)
      refine opr_move (.inr rfl) (hK _ _ ?_)
      refine wpList_end rfl ?_
      simp only [Act.put, List.setIfInBounds_toArray, List.set_cons_zero, List.set_cons_succ]
      go_simp
      have hend := app_below (NewT.trans _ _ _ HN.out ka) rfl hO h3
      go_wp2
      go_ret
      exact ⟨_, rfl, hend, h2⟩
set_option maxRecDepth 20000 in
set_option maxHeartbeats 2000000 in
theorem proofUp_r {node : Hs → Hs → Hs} {z : Hs} (hX : TreeH node z) (v : Value) (l : List Hs) (m k : Nat) (b : Bool) (w : World) (hT : Tables w) (hl : RdH w v l) (hn : 2 ≤ l.length) (hll : l.length ≤ 1000000) (hk : k < l.length) (hx : m < l.length) (hkx : ¬ m ≤ k) (hlb : (subM node z (m - k) (List.drop k l) false).length ≤ 900000) (hs : ∀ w, Cv 40 #[.int .i64 (l.length : Int)] w (.eq (.int .i64 (k : Int))))
    (ih : ∀ (u : Value) (w : World), Tables w → RdH w u (List.drop k l) → Cv 28 #[u, .int .i64 ((m - k : Nat) : Int), .bool false] w (svOw w.heap.size (subM node z (m - k) (List.drop k l) false))) : Cv 28 #[v, .int .i64 (m : Int), .bool b] w (svOw w.heap.size (subM node z (m - k) (List.drop k l) false ++ [rootM node z (List.take k l)])) := by
  unfold Cv
  have HT := Lib.hid hT
  have HL := Lib.hid hl
  have HK := Lib.hid hs
  have HLB := Lib.hid hlb
  have HLL := Lib.hid hll
  have HKL := Lib.hid hk
  have HKX := Lib.hid hkx
  have HXL := Lib.hid hx
  have IH := Lib.hid ih
  obtain ⟨A, c, hv⟩ := rdH_form hl
  have t1 : ((m : Int) == (l.length : Int)) = false := beq_eq_false_iff_ne.2 (by omega)
  have t2 : ¬ (m : Int) ≤ (k : Int) := by omega
  subst hv
  clear hT hl hs hlb ih
  go_enter Tryd.func28, Tryd.ntmps28
  go_upto_region 5 with fail
  obtain ⟨v, ev⟩ : ∃ v, Value.slice A l.length c = v := ⟨_, rfl⟩
  rw [ev] at HL ⊢
  clear ev t1
  refine wp_region_steps0 NewT [SV.eq (v), SV.eq (.int .i64 ((List.length (l) : Int))), SV.eq (.int .i64 ((k : Int))), SV.eq (.int .i64 ((k : Int)))] [([(0, none)], none), ([(16, some 0)], none), ([(17, some 1)], none), ([(18, some 2)], none)] 47 4 rfl rfl (by kernel_rfl) NewT.trans (NewT.refl _) (Nat.le_of_ble_eq_true rfl) ⟨?_, ?_, ?_, ?_, trivial⟩ ?_
  · intro a wx hT hF K hK
    obtain ⟨f0, _⟩ := hF
    have f0 : a.tmps.getD 0 undef = v := f0
    refine rely_wp rfl ?_
    exact opr_move (.inl rfl) (hK _ _ (NewT.refl _) f0)
  · intro a wx hT hF K hK
    obtain ⟨f16, _⟩ := hF
    have f16 : a.tmps.getD 16 undef = v := f16
    refine rely_wp rfl ?_
    exact opr_len_h rfl (by rw [eval_tmp, f16]; exact (hT.hs HL.out)) (hK _ _ (NewT.refl _) rfl)
  · intro a wx hT hF K hK
    obtain ⟨f17, _⟩ := hF
    have f17 : a.tmps.getD 17 undef = .int .i64 ((List.length (l) : Int)) := f17
    refine rely_wp rfl ?_
    exact opr_cv (HK.out wx) rfl Tryd.func40 (by kernel_rfl) (by kernel_rfl) (by simp only [List.map_toArray, List.map_cons, List.map_nil, eval_tmp, f17]) hK
  · intro a wx hT hF K hK
    obtain ⟨f18, _⟩ := hF
    have f18 : a.tmps.getD 18 undef = .int .i64 ((k : Int)) := f18
    refine rely_wp rfl ?_
    exact opr_move (.inr rfl) (hK _ _ (NewT.refl _) f18)
  · intro w3 k3
    intro u h; obtain rfl := Eq.symm (h (by simp)); clear h
    intro u h; obtain rfl := Eq.symm (h (by simp)); clear h
    intro u h; obtain rfl := Eq.symm (h (by simp)); clear h
    intro u h; obtain rfl := Eq.symm (h (by simp)); clear h
    refine relyEnd_nil rfl ?_
    refine wpList_end rfl ?_
    simp only [Act.put, List.setIfInBounds_toArray, List.set_cons_zero, List.set_cons_succ]
    go_simp
    replace HT := Lib.hid (k3.tables HT.out)
    replace HL := Lib.hid (k3.hs HL.out)
    have HSZ := Lib.hid k3.out.size
    have HN := Lib.hid k3
    clear HK k3 hn hll hk hx hkx
    go_upto_region 8 with fail
    refine wp_region_rely_tail (NewT) [SV.eq (v), SV.eq (.int .i64 ((k : Int))), svH (List.drop k l), SV.eq (.int .i64 ((m : Int))), SV.eq (.int .i64 ((k : Int))), SV.eq (.int .i64 (((m - k : Nat) : Int))), svOw w.heap.size (subM node z (m - k) (List.drop k l) false), SV.eq (v), SV.eq (.int .i64 ((k : Int))), svH (List.take k l), SV.eq (.agg (rowA 32 (bF (rootM node z (List.take k l))))), svH ([rootM node z (List.take k l)])] [([(0, none)], none), ([(7, none)], none), ([(34, some 0), (35, some 1)], none), ([(1, none)], none), ([(7, none)], none), ([(37, some 3), (38, some 4)], none), ([(36, some 2), (39, some 5)], none), ([(0, none)], none), ([(7, none)], none), ([(41, some 7), (42, some 8)], none), ([(43, some 9)], none), ([(44, some 10)], none)] 47 12 (by kernel_rfl) rfl rfl (Nat.zero_lt_succ _) (by kernel_rfl) (by kernel_rfl) (by kernel_rfl) NewT.trans (NewT.drew _) (Nat.le_of_ble_eq_true rfl) ⟨?_, ?_, ?_, ?_, ?_, ?_, ?_, ?_, ?_, ?_, ?_, ?_, trivial⟩ ?_
    · intro a wx hT hF K hK
      obtain ⟨f0, _⟩ := hF
      have f0 : a.tmps.getD 0 undef = v := f0
      refine rely_wp rfl ?_
      exact opr_move (.inl rfl) (hK _ _ (NewT.refl _) f0)
    · intro a wx hT hF K hK
      obtain ⟨f7, _⟩ := hF
      have f7 : a.tmps.getD 7 undef = .int .i64 ((k : Int)) := f7
      refine rely_wp rfl ?_
      exact opr_move (.inl rfl) (hK _ _ (NewT.refl _) f7)
    · intro a wx hT hF K hK
      obtain ⟨f34, f35, _⟩ := hF
      have f34 : a.tmps.getD 34 undef = v := f34
      have f35 : a.tmps.getD 35 undef = .int .i64 ((k : Int)) := f35
      refine rely_wp rfl ?_
      exact opr_fromH (k := k) (by have := HKL.out; omega) (rfl) rfl (by rw [eval_tmp, f34]; exact (hT.hs HL.out)) f35 (fun v hv => hK v _ (NewT.refl _) hv)
    · intro a wx hT hF K hK
      obtain ⟨f1, _⟩ := hF
      have f1 : a.tmps.getD 1 undef = .int .i64 ((m : Int)) := f1
      refine rely_wp rfl ?_
      exact opr_move (.inl rfl) (hK _ _ (NewT.refl _) f1)
    · intro a wx hT hF K hK
      obtain ⟨f7, _⟩ := hF
      have f7 : a.tmps.getD 7 undef = .int .i64 ((k : Int)) := f7
      refine rely_wp rfl ?_
      exact opr_move (.inl rfl) (hK _ _ (NewT.refl _) f7)
    · intro a wx hT hF K hK
      obtain ⟨f37, f38, _⟩ := hF
      have f37 : a.tmps.getD 37 undef = .int .i64 ((m : Int)) := f37
      have f38 : a.tmps.getD 38 undef = .int .i64 ((k : Int)) := f38
      refine rely_wp rfl ?_
      exact opr_sub (r := ((m - k : Nat) : Int)) Tryd.underlying3 (by unfold wrap64; have := HKX.out; have := HXL.out; have := HLL.out; omega) rfl f37 f38 (hK _ _ (NewT.refl _) rfl)
    · intro a wx hT hF K hK
      obtain ⟨f36, f39, _⟩ := hF
      replace f36 := show (svH (List.drop k l)).pred (a.tmps.getD 36 undef) wx from f36
      have f39 : a.tmps.getD 39 undef = .int .i64 (((m - k : Nat) : Int)) := f39
      refine rely_wp rfl ?_
      exact opr_cv (Cv_own (IH.out _ wx (hT.tables HT.out) f36) (Nat.le_trans HSZ.out hT.out.size)) rfl Tryd.func28 (by kernel_rfl) (by kernel_rfl) (by simp only [List.map_toArray, List.map_cons, List.map_nil, eval_tmp, eval_const, f39]) hK
    · intro a wx hT hF K hK
      obtain ⟨f0, _⟩ := hF
      have f0 : a.tmps.getD 0 undef = v := f0
      refine rely_wp rfl ?_
      exact opr_move (.inl rfl) (hK _ _ (NewT.refl _) f0)
    · intro a wx hT hF K hK
      obtain ⟨f7, _⟩ := hF
      have f7 : a.tmps.getD 7 undef = .int .i64 ((k : Int)) := f7
      refine rely_wp rfl ?_
      exact opr_move (.inl rfl) (hK _ _ (NewT.refl _) f7)
    · intro a wx hT hF K hK
      obtain ⟨f41, f42, _⟩ := hF
      have f41 : a.tmps.getD 41 undef = v := f41
      have f42 : a.tmps.getD 42 undef = .int .i64 ((k : Int)) := f42
      refine rely_wp rfl ?_
      exact opr_toH (k := k) (by have := HKL.out; omega) (rfl) rfl (by rw [eval_tmp, f41]; exact (hT.hs HL.out)) f42 (fun v hv => hK v _ (NewT.refl _) hv)
    · intro a wx hT hF K hK
      obtain ⟨f43, _⟩ := hF
      replace f43 := show (svH (List.take k l)).pred (a.tmps.getD 43 undef) wx from f43
      refine rely_wp rfl ?_
      exact opr_cv (Root_cv hX _ _ _ wx (hT.tables HT.out) f43 (Nat.le_refl _) (by have := HLL.out; simp; omega)) rfl Tryd.func24 (by kernel_rfl) (by kernel_rfl) (by simp only [List.map_toArray, List.map_cons, List.map_nil, eval_tmp]) hK
    · intro a wx hT hF K hK
      obtain ⟨f44, _⟩ := hF
      have f44 : a.tmps.getD 44 undef = .agg (rowA 32 (bF (rootM node z (List.take k l)))) := f44
      refine rely_wp rfl ?_
      exact opr_bsH1 rfl f44 hK
    · intro wa ka
      intro u h; obtain rfl := Eq.symm (h (by simp)); clear h
      intro u h; obtain rfl := Eq.symm (h (by simp)); clear h
      intro _ _
      intro u h; obtain rfl := Eq.symm (h (by simp)); clear h
      intro u h; obtain rfl := Eq.symm (h (by simp)); clear h
      intro u h; obtain rfl := Eq.symm (h (by simp)); clear h
      intro u40 h; have g40 := h (by simp); clear h; replace g40 := show (svOw w.heap.size (subM node z (m - k) (List.drop k l) false)).pred u40 wa from g40
      intro u h; obtain rfl := Eq.symm (h (by simp)); clear h
      intro u h; obtain rfl := Eq.symm (h (by simp)); clear h
      intro _ _
      intro u h; obtain rfl := Eq.symm (h (by simp)); clear h
      intro u45 h; have g45 := h (by simp); clear h; replace g45 := show (svH ([rootM node z (List.take k l)])).pred u45 wa from g45
      refine relyEnd_nil rfl ?_
      simp only [Act.put, List.setIfInBounds_toArray, List.set_cons_zero, List.set_cons_succ]
      refine wpList_plain rfl (fun K hK => ?_)
      have hO : OwnH wa w.heap.size u40 (subM node z (m - k) (List.drop k l) false) := g40
      have hR : RdH wa u45 [rootM node z (List.take k l)] := g45
      obtain ⟨v', w', hrun, h2, h3⟩ := run_appH hO hR (by have := HLB.out; simp; omega) (Nat.le_trans HSZ.out ka.out.size) 22
      refine opr_append rfl rfl rfl hrun (hK _ _ ?_)
      clear hK K
      refine wpList_plain rfl (fun K hK => ?_)
      refine opr_move (.inr rfl) (hK _ _ ?_)
      refine wpList_end rfl ?_
      simp only [Act.put, List.setIfInBounds_toArray, List.set_cons_zero, List.set_cons_succ]
      go_simp
      have hend := app_below (NewT.trans _ _ _ HN.out ka) rfl hO h3
      go_wp2
      go_ret
      exact ⟨_, rfl, hend, h2⟩
theorem subM_short {node : Hs → Hs → Hs} {z : Hs} (m : Nat) (l : List Hs) (b : Bool) (hl : l.length ≤ 1000000) : (subM node z m l b).length ≤ 21 := by
  rw [subM_length (node := node) (z := z) _ m l b (Nat.le_refl _)]
  have := leftsS_le 20 m l.length (by omega)
  split <;> omega
theorem proofUp_cv {node : Hs → Hs → Hs} {z : Hs} (hX : TreeH node z) : ∀ (c : Nat) (v : Value) (l : List Hs) (m : Nat) (b : Bool) (w : World), Tables w → RdH w v l → l.length ≤ c → 1 ≤ m → m ≤ l.length → l.length ≤ 1000000 → Cv 28 #[v, .int .i64 (m : Int), .bool b] w (svOw w.heap.size (subM node z m l b)) := by
  intro c
  induction c with
  | zero => intro v l m b w _ _ h1 h2; omega
  | succ c ih =>
    intro v l m b w hT hl hb h1 hml hll
    by_cases h0 : m = l.length
    · subst h0
      rw [subM_all _ _ _ _ _ (.inl (Nat.le_refl _))]
      cases b
      · exact proofUp_f hX v l w hT hl hll
      · exact proofUp_t v l w hl
    · have h2 : 2 ≤ l.length := by omega
      have hlt : m < l.length := by omega
      obtain ⟨s1, s2, _⟩ := splitN_lt l.length h2
      have hs : ∀ w, Cv 40 #[.int .i64 (l.length : Int)] w (.eq (.int .i64 ((splitN l.length : Nat) : Int))) := fun w => Split_cv (l.length : Int) (by omega) (by omega) w
      by_cases hil : m ≤ splitN l.length
      · rw [subM_l _ _ _ _ _ hlt h2 hil]
        exact proofUp_l hX v l m _ b w hT hl h2 hll s1 hlt hil (Nat.le_trans (subM_short _ _ _ (by rw [List.length_take]; omega)) (by omega)) hs (fun u w hT hu => ih u _ m b w hT hu (by rw [List.length_take]; omega) h1 (by rw [List.length_take]; omega) (by rw [List.length_take]; omega))
      · rw [subM_r _ _ _ _ _ hlt h2 hil]
        exact proofUp_r hX v l m _ b w hT hl h2 hll s1 hlt hil (Nat.le_trans (subM_short _ _ _ (by rw [List.length_drop]; omega)) (by omega)) hs (fun u w hT hu => ih u _ (m - splitN l.length) false w hT hu (by rw [List.length_drop]; omega) (by omega) (by rw [List.length_drop]; omega) (by rw [List.length_drop]; omega))
/-- Is there such a beginning? -/
def okM (m : Int) (c : Nat) : Bool := decide (1 ≤ m) && decide (m ≤ c)
set_option maxHeartbeats 1000000 in
theorem Prove_bad (v : Value) (l : List Hs) (m : Int) (w : World) (hl : RdH w v l) (h : m < 1 ∨ (l.length : Int) < m) : Cv 13 #[v, .int .i64 m] w (svPq [] false) := by
  unfold Cv
  obtain ⟨A, c, hv⟩ := rdH_form hl
  subst hv
  clear hl
  by_cases h1 : m < 1
  · clear h
    go_enter Tryd.func13, Tryd.ntmps13
    go_wp2
    refine bodyPost_ret (results_tmp2 rfl _ _ _) rfl ⟨_, rfl, NewT.refl _, _, rfl, rdH_nil _⟩
  · have h2 : (l.length : Int) < m := by omega
    clear h
    go_enter Tryd.func13, Tryd.ntmps13
    go_wp2
    refine bodyPost_ret (results_tmp2 rfl _ _ _) rfl ⟨_, rfl, NewT.refl _, _, rfl, rdH_nil _⟩
set_option maxHeartbeats 1000000 in
theorem Prove_good {node : Hs → Hs → Hs} {z : Hs} (hX : TreeH node z) (v : Value) (l : List Hs) (m : Nat) (w : World) (hT : Tables w) (hl : RdH w v l) (h1 : 1 ≤ m) (hml : m ≤ l.length) (hll : l.length ≤ 1000000) : Cv 13 #[v, .int .i64 (m : Int)] w (svPq (subM node z m l true) true) := by
  unfold Cv
  have hc := proofUp_cv hX l.length v l m true w hT hl (Nat.le_refl _) h1 hml hll
  unfold Cv at hc
  have HC := Lib.hid hc
  obtain ⟨A, c, hv⟩ := rdH_form hl
  subst hv
  have t1 : ¬ (m : Int) < 1 := by omega
  have t2 : ¬ (l.length : Int) < (m : Int) := by omega
  clear hl hc hT
  go_enter Tryd.func13, Tryd.ntmps13
  go_wp2_with (go_at_call 28; refine HC.out.mono ?_; rintro _ w4 ⟨u, rfl, hN4, ho4⟩)
  exact bodyPost_ret (results_tmp2 rfl _ _ _) rfl ⟨_, rfl, hN4, _, rfl, OwnH.rd ho4⟩
theorem Prove_cv {node : Hs → Hs → Hs} {z : Hs} (hX : TreeH node z) (v : Value) (l : List Hs) (m : Int) (w : World) (hT : Tables w) (hl : RdH w v l) (hll : l.length ≤ 1000000) : Cv 13 #[v, .int .i64 m] w (svPq (if okM m l.length then subM node z m.toNat l true else []) (okM m l.length)) := by
  by_cases h : m < 1 ∨ (l.length : Int) < m
  · have e : okM m l.length = false := by
      unfold okM
      rcases h with h | h
      · simp [show ¬ 1 ≤ m by omega]
      · simp [show ¬ m ≤ (l.length : Int) by omega]
    rw [e, if_neg (by decide)]
    exact Prove_bad v l m w hl h
  · obtain ⟨m, rfl⟩ : ∃ k : Nat, m = (k : Int) := ⟨m.toNat, by omega⟩
    have e : okM (m : Int) l.length = true := by unfold okM; simp; omega
    rw [e, if_pos rfl, Int.toNat_natCast]
    exact Prove_good hX v l m w hT hl (by omega) (by omega) hll
end Go.Proofs.YtoigjcadncecpaaDoor
