/- The reference's log: Open. -/
import Derived.Test.YtbejolbknimmmaaDoorMe
import Derived.Test.YtbejolbknimmmaaDoorMb
import Derived.Test.YtbejolbknimmmaaDoorMa
import Derived.Deep.SlicePairs
import Derived.Deep.Slices
import Derived.Deep.Cut
import Derived.Test.YtbejolbknimmmaaDoorMc
import Derived.Test.YtbejolbknimmmaaDoorMd
set_option linter.all false
namespace Go.Proofs.YtbejolbknimmmaaDoor
open Go Go.RowKit
set_option maxRecDepth 8000
set_option linter.all false
variable {nx : (Nat → UInt8) → List UInt8 → Nat → UInt8}
set_option maxRecDepth 20000 in
set_option maxHeartbeats 4000000 in
theorem ROpen_c (hX : LogH nx) (gr : Nat) (M : List Nat) (vd vl : Value) (room : Nat) (D L : List UInt8) (ES : List (List UInt8)) (w : World) (hT : Tables w) (h : RefAt w gr M vd vl room D L) (hM : ∀ k ∈ gr :: M, k < w.heap.size) (hE : IsLog nx mkL hash0 (D ++ L) ES) :
    Calls Tryd.prog 13 #[.pointer (some ⟨gr, 0, none⟩)] w fun e w' => ∃ gy, e = .returned (.pointer (some ⟨gy, 0, none⟩)) ∧ RT gr w w' ∧ w.heap.size ≤ gy ∧ (∃ vd' vL ps, RLogAt w' gy gr M vd' (.slice none 0 0) room (encL nx mkL hash0 ES) [] vL ps ∧ ps.map (·.2) = ES) := by
  have HT := Lib.hid hT
  have H := Lib.hid h
  have HM := Lib.hid hM
  have hl : (D ++ L).length ≤ 65536 := by rw [List.length_append]; exact h.fits
  obtain ⟨S, hS⟩ := hid_ex (D ++ L)
  rw [hS.out] at hE hl
  have HE := Lib.hid hE
  have Hl := Lib.hid hl
  clear hT h hM hE hl
  go_enter Tryd.func13, Tryd.ntmps13
  go_upto_region 2 with (go_at_call 26; refine Calls.mono (RBytes_cv gr M vd vl room D L w H.out) ?_; rw [hS.out]; rintro _ w1 ⟨v1, rfl, hN, hv⟩; obtain ⟨A1, c1, rfl⟩ := rdV_form (FreshB.rd hv); have HS1 : Hid (∀ J : List Nat, (∀ k ∈ J, k < w.heap.size) → RdV w1 J (.slice A1 S.length c1) S) := Lib.hid (fun J hJ => FreshB.rdL (show FreshB w.heap.size w1 _ S from hv) hJ); have N1 : Hid (NewT w w1) := Lib.hid hN; clear hv hN)
  go_wp2
  go_loopw [4, 5] (fun l i wr => ∃ (B : Option Addr) (n c k : Nat) (ps : List (Value × List UInt8)), l = .slice B n c ∧ i = .int .i64 (k : Int) ∧ k ≤ S.length ∧ Hid (NewT w1 wr) ∧ Hid (PartsAt wr (gr :: M) (.slice B n c) ps) ∧ Hid ((∀ e ∈ ps.map (·.2), okE e) ∧ encL nx mkL hash0 (ps.map (·.2)) <+: S ∧ k = (encL nx mkL hash0 (ps.map (·.2))).length)) (fun _ i _ => S.length - (intOf i).toNat)
  case atStart => exact ⟨none, 0, 0, 0, [], rfl, rfl, by omega, Lib.hid (NewT.refl _), Lib.hid ⟨none, 0, rfl, Nat.le_refl _, by unfold maxLen; omega, fun h => absurd h (by simp), fun x hx => by simp at hx⟩, Lib.hid ⟨by simp, by simp [encL], by simp [encL]⟩⟩
  case round =>
    obtain ⟨B, n, c, k, ps, rfl, rfl, hk, HN, HP, HI⟩ := hrel
    have Hk := Lib.hid hk
    have hll := Hl.out
    go_upto_region 4 with fail
    refine wp_region_lit ?_
    refine wpList_plain rfl (fun K hK => ?_)
    refine opr_move (.inl rfl) (hK _ _ ?_)
    clear hK K
    simp only [Act.put, List.setIfInBounds_toArray, List.set_cons_zero, List.set_cons_succ]
    refine wpList_plain rfl (fun K hK => ?_)
    refine opr_move (.inl rfl) (hK _ _ ?_)
    clear hK K
    simp only [Act.put, List.setIfInBounds_toArray, List.set_cons_zero, List.set_cons_succ]
    refine wpList_plain rfl (fun K hK => ?_)
    refine opr_bldRR rfl rfl rfl (hK _ _ ?_)
    clear hK K
    simp only [Act.put, List.setIfInBounds_toArray, List.set_cons_zero, List.set_cons_succ]
    refine wpList_plain rfl (fun K hK => ?_)
    refine opr_boxN rfl rfl (fun w2 hN2 r2 => hK _ _ ?_)
    clear hK K
    simp only [Act.put, List.setIfInBounds_toArray, List.set_cons_zero, List.set_cons_succ]
    refine wpList_plain rfl (fun K hK => ?_)
    refine opr_move (.inr rfl) (hK _ _ ?_)
    clear hK K
    refine wpList_end rfl ?_
    simp only [Act.put, List.setIfInBounds_toArray, List.set_cons_zero, List.set_cons_succ]
    obtain ⟨g, hg⟩ : ∃ g, wr.heap.size = g := ⟨_, rfl⟩
    rw [hg] at r2 ⊢
    have HR2 := Lib.hid r2
    have Hg := Lib.hid hg
    have hgw : gr < wr.heap.size ∧ ∀ j ∈ M, j < wr.heap.size := by
      have h1 := N1.out.out.size
      have h2 := HN.out.out.size
      exact ⟨by have := HM.out gr (by simp); omega, fun j hj => by have := HM.out j (by simp [hj]); omega⟩
    have HGW := Lib.hid hgw
    have HS2 : Hid (RdV w2 [g] (.slice A1 S.length c1) S) := Lib.hid (hN2.rd ((HN.out.rd (HS1.out [] (by simp))).more (L' := [g]) (fun j hj _ => by simp; omega)))
    have HN2 := Lib.hid hN2
    obtain ⟨x, hx⟩ := hid_ex (goB (S.drop k) 2000).1
    obtain ⟨er, her⟩ := hid_ex (goB (S.drop k) 2000).2.2
    clear hN2 r2 hg hgw
    go_simp
    go_upto_region 6 with (go_at_call 33; refine (RBytes9_c g _ S k w2 HR2.out HS2.out Hk.out Hl.out).mono ?_; rw [hx.out, her.out]; rintro _ w3 ⟨u, rfl, hR3, ⟨q, hr3⟩, hx3⟩; obtain ⟨A3, c3, rfl⟩ := rdV_form (show RdV w3 [] u x from hx3 [] (by simp)); have HX3 : Hid (∀ J : List Nat, (∀ k ∈ J, k < w2.heap.size) → RdV w3 J (.slice A3 x.length c3) x) := Lib.hid hx3; have c2 := rrF_c2 hr3; have f2 := hr3.frozen 2; have HN3 : Hid (NewT wr w3) := Lib.hid (NewT.rt HN2.out hR3 (by rw [Hg.out]; exact Nat.le_refl _)); clear hR3 hr3 hx3)
    by_cases he : er = 0
    rotate_left
    · have hne : ((er : Int) != 0) = true := by simp; omega
      have HNt := Lib.hid (NewT.trans _ _ _ N1.out (NewT.trans _ _ _ HN.out HN3.out))
      have HPt := Lib.hid (HP.out.keep (KeepBut.below HN3.out))
      have hend := isLog_end HI.out.1 HI.out.2.1 (nextR_none (.inl (by rw [← HI.out.2.2, her.out]; exact he)))
      have hES := IsLog.unique nx mkL hend HE.out
      have HES := Lib.hid hES
      clear hend hES
      go_upto_region 13 with (go_at_call 35; refine (RCut_ok gr M vd vl room D L k w3 (H.out.new HNt.out) (fun j hj => Nat.lt_of_lt_of_le (HM.out j hj) HNt.out.out.size) (by rw [hS.out]; exact Hk.out)).mono ?_; rw [hS.out]; rintro _ wu ⟨rfl, vd', hRu, hAu⟩; have HRu := Lib.hid hRu; have HAu := Lib.hid hAu; clear hRu hAu)
      refine wp_region_lit ?_
      refine wpList_plain rfl (fun K hK => ?_)
      refine opr_move (.inl rfl) (hK _ _ ?_)
      clear hK K
      simp only [Act.put, List.setIfInBounds_toArray, List.set_cons_zero, List.set_cons_succ]
      refine wpList_plain rfl (fun K hK => ?_)
      refine opr_move (.inl rfl) (hK _ _ ?_)
      clear hK K
      simp only [Act.put, List.setIfInBounds_toArray, List.set_cons_zero, List.set_cons_succ]
      refine wpList_plain rfl (fun K hK => ?_)
      refine opr_bldRL rfl rfl rfl (hK _ _ ?_)
      clear hK K
      simp only [Act.put, List.setIfInBounds_toArray, List.set_cons_zero, List.set_cons_succ]
      refine wpList_plain rfl (fun K hK => ?_)
      refine opr_boxN rfl rfl (fun wv hNv rv => hK _ _ ?_)
      clear hK K
      simp only [Act.put, List.setIfInBounds_toArray, List.set_cons_zero, List.set_cons_succ]
      refine wpList_plain rfl (fun K hK => ?_)
      refine opr_move (.inr rfl) (hK _ _ ?_)
      clear hK K
      refine wpList_end rfl ?_
      simp only [Act.put, List.setIfInBounds_toArray, List.set_cons_zero, List.set_cons_succ]
      go_simp
      go_wp2
      go_ret
      have hgr := HM.out gr (by simp)
      have hs1 := HNt.out.out.size
      have hs2 := HRu.out.below.size
      refine ⟨_, rfl, RT.trans _ _ _ (RT.new hgr HNt.out) (RT.trans _ _ _ HRu.out (RT.new (by omega) hNv)), by omega, vd', _, ps, ⟨rv, ?_, ?_, by omega⟩, HES.out⟩
      · have e1 : S.take k = encL nx mkL hash0 ES := by
          rw [← HES.out, HI.out.2.2]; exact (List.prefix_iff_eq_take.1 HI.out.2.1).symm
        have := HAu.out
        rw [e1] at this
        exact (this.wider (Nat.le_refl _)).new hNv
      · exact ((HPt.out.keep (HRu.out.keep.more (by simp))).wider (Nat.le_refl _)).keep (KeepBut.below hNv)
    have hne : ((er : Int) != 0) = false := by simp [he]
    by_cases h0 : x = []
    · have hz : ((x.length : Int) == 0) = true := by simp [h0]
      have HNt := Lib.hid (NewT.trans _ _ _ N1.out (NewT.trans _ _ _ HN.out HN3.out))
      have HPt := Lib.hid (HP.out.keep (KeepBut.below HN3.out))
      have hend := isLog_end HI.out.1 HI.out.2.1 (nextR_none (.inr (.inl (by rw [← HI.out.2.2, hx.out]; exact h0))))
      have hES := IsLog.unique nx mkL hend HE.out
      have HES := Lib.hid hES
      clear hend hES
      go_upto_region 13 with (go_at_call 35; refine (RCut_ok gr M vd vl room D L k w3 (H.out.new HNt.out) (fun j hj => Nat.lt_of_lt_of_le (HM.out j hj) HNt.out.out.size) (by rw [hS.out]; exact Hk.out)).mono ?_; rw [hS.out]; rintro _ wu ⟨rfl, vd', hRu, hAu⟩; have HRu := Lib.hid hRu; have HAu := Lib.hid hAu; clear hRu hAu)
      refine wp_region_lit ?_
      refine wpList_plain rfl (fun K hK => ?_)
      refine opr_move (.inl rfl) (hK _ _ ?_)
      clear hK K
      simp only [Act.put, List.setIfInBounds_toArray, List.set_cons_zero, List.set_cons_succ]
      refine wpList_plain rfl (fun K hK => ?_)
      refine opr_move (.inl rfl) (hK _ _ ?_)
      clear hK K
      simp only [Act.put, List.setIfInBounds_toArray, List.set_cons_zero, List.set_cons_succ]
      refine wpList_plain rfl (fun K hK => ?_)
      refine opr_bldRL rfl rfl rfl (hK _ _ ?_)
      clear hK K
      simp only [Act.put, List.setIfInBounds_toArray, List.set_cons_zero, List.set_cons_succ]
      refine wpList_plain rfl (fun K hK => ?_)
      refine opr_boxN rfl rfl (fun wv hNv rv => hK _ _ ?_)
      clear hK K
      simp only [Act.put, List.setIfInBounds_toArray, List.set_cons_zero, List.set_cons_succ]
      refine wpList_plain rfl (fun K hK => ?_)
      refine opr_move (.inr rfl) (hK _ _ ?_)
      clear hK K
      refine wpList_end rfl ?_
      simp only [Act.put, List.setIfInBounds_toArray, List.set_cons_zero, List.set_cons_succ]
      go_simp
      go_wp2
      go_ret
      have hgr := HM.out gr (by simp)
      have hs1 := HNt.out.out.size
      have hs2 := HRu.out.below.size
      refine ⟨_, rfl, RT.trans _ _ _ (RT.new hgr HNt.out) (RT.trans _ _ _ HRu.out (RT.new (by omega) hNv)), by omega, vd', _, ps, ⟨rv, ?_, ?_, by omega⟩, HES.out⟩
      · have e1 : S.take k = encL nx mkL hash0 ES := by
          rw [← HES.out, HI.out.2.2]; exact (List.prefix_iff_eq_take.1 HI.out.2.1).symm
        have := HAu.out
        rw [e1] at this
        exact (this.wider (Nat.le_refl _)).new hNv
      · exact ((HPt.out.keep (HRu.out.keep.more (by simp))).wider (Nat.le_refl _)).keep (KeepBut.below hNv)
    have hxl : 0 < x.length := List.length_pos_iff.2 h0
    have hz : ((x.length : Int) == 0) = false := beq_eq_false_iff_ne.2 (by omega)
    have hx2 : x.length ≤ 2000 := by rw [← hx.out]; exact goB_most _
    have HOK : Hid (okE x) := Lib.hid ⟨hxl, hx2⟩
    have HC : Hid (ps.length ≤ 65536) := Lib.hid (by
      have h1 := encL_count nx hash0 (ps.map (·.2))
      have h2 := HI.out.2.1.length_le
      rw [List.length_map] at h1
      omega)
    go_upto_region 7 with fail
    refine wp_region_lit ?_
    refine wpList_plain rfl (fun K hK => ?_)
    refine opr_bs0V rfl (fun v28 w4 hN4 hO4 => hK _ _ ?_)
    clear hK K
    simp only [Act.put, List.setIfInBounds_toArray, List.set_cons_zero, List.set_cons_succ]
    refine wpList_plain rfl (fun K hK => ?_)
    refine opr_move (.inl rfl) (hK _ _ ?_)
    clear hK K
    simp only [Act.put, List.setIfInBounds_toArray, List.set_cons_zero, List.set_cons_succ]
    refine wpList_plain rfl (fun K hK => ?_)
    obtain ⟨v30, w5, hrun, hO5, hG5⟩ := run_appP hO4 ((HP.out.keep (KeepBut.below HN3.out)).keep (KeepBut.below hN4)) (by have := HC.out; omega) hN4.out.size 26
    refine opr_append rfl rfl rfl hrun (hK _ _ ?_)
    clear hrun
    clear hK K
    simp only [Act.put, List.setIfInBounds_toArray, List.set_cons_zero, List.set_cons_succ]
    have hN5 : NewT w3 w5 := NewT.of (hN4.out.grown hG5 hN4.out.size (fun k e => (hO4.lt k e).1))
    have hF5 := hN5.rd ((HX3.out (gr :: M) (fun j hj => by
      have := HN2.out.out.size
      rcases List.mem_cons.1 hj with rfl | hj
      · have := HGW.out.1; omega
      · have := HGW.out.2 j hj; omega)).more (L' := v30.ownBlock.toList ++ (gr :: M)) (fun j hj hn hm => by
        rcases List.mem_append.1 hm with hm | hm
        · have := (hO5.lt j (by simpa using hm)).1; omega
        · exact hn hm))
    refine wpList_plain rfl (fun K hK => ?_)
    refine opr_move (.inl rfl) (hK _ _ ?_)
    clear hK K
    simp only [Act.put, List.setIfInBounds_toArray, List.set_cons_zero, List.set_cons_succ]
    refine wpList_plain rfl (fun K hK => ?_)
    refine opr_bs1V rfl rfl (fun v32 w6 hN6 hv6 => hK _ _ ?_)
    clear hK K
    simp only [Act.put, List.setIfInBounds_toArray, List.set_cons_zero, List.set_cons_succ]
    refine wpList_plain rfl (fun K hK => ?_)
    obtain ⟨v33, w7, hrun, hO7, hG7⟩ := run_app1 (hO5.keep hN6) hv6 (by have := HC.out; simp; omega) (NewT.trans _ _ _ hN5 hN6).out.size 26
    refine opr_append rfl rfl rfl hrun (hK _ _ ?_)
    clear hrun
    clear hK K
    simp only [Act.put, List.setIfInBounds_toArray, List.set_cons_zero, List.set_cons_succ]
    refine wpList_plain rfl (fun K hK => ?_)
    refine opr_move (.inr rfl) (hK _ _ ?_)
    clear hK K
    refine wpList_end rfl ?_
    simp only [Act.put, List.setIfInBounds_toArray, List.set_cons_zero, List.set_cons_succ]
    have hN7 : NewT w3 w7 := NewT.of ((NewT.trans _ _ _ hN5 hN6).out.grown hG7 (NewT.trans _ _ _ hN5 hN6).out.size (fun k e => (hO5.lt k e).1))
    have hP7 := parts_snoc (HP.out.keep (KeepBut.below HN3.out)) hN7 hO7 (parts_grow (hN6.rd hF5) hG7) (fun j hj => by
      have := HN3.out.out.size
      rcases List.mem_cons.1 hj with rfl | hj
      · have := HGW.out.1; omega
      · have := HGW.out.2 j hj; omega)
    obtain ⟨A7, c7, e7, _⟩ := hO7.cap
    rw [show (List.map (fun x : Value × List UInt8 => x.1) ps ++ [Value.slice A3 x.length c3]).length = ps.length + 1 by simp] at e7
    subst e7
    have HP7 := Lib.hid hP7
    have HN7 := Lib.hid (NewT.trans _ _ _ HN3.out hN7)
    have HPS : Hid (Parts w7 (.slice A7 (ps.length + 1) c7) (ps.map (·.2) ++ [x])) := Lib.hid ⟨_, ⟨hP7.more (fun k _ _ => by simp), by simp⟩⟩
    obtain ⟨n7, hn7⟩ := hid_ex (ps.length + 1)
    rw [hn7.out] at HP7 HPS ⊢
    obtain ⟨zz, HZ⟩ := hid_ex (entL nx mkL (chL nx hash0 (ps.map (·.2))) x)
    have hzl : zz.length ≤ 3000 := by rw [← HZ.out, entL_length]; have := sz_le x.length; omega
    have hzp : 0 < zz.length := by rw [← HZ.out]; exact entL_pos nx mkL _ _
    have HLL : Hid (∀ l ∈ ps.map (·.2) ++ [x], l.length ≤ 2000) := Lib.hid (fun l hl' => by
      rcases List.mem_append.1 hl' with h' | h'
      · exact (HI.out.1 l h').2
      · simp at h'; subst h'; exact hx2)
    clear hN4 hO4 hG5 hN5 hF5 hN6 hv6 hO7 hG7 hN7 hP7 hO5
    go_simp
    go_upto_region 9 with (go_at_call 34; refine Calls.mono (RLaid_cv hX _ (ps.map (·.2)) x w7 (HN7.out.tables (HN.out.tables (N1.out.tables HT.out))) HPS.out (by have := HC.out; simp; omega) HLL.out) ?_; rw [HZ.out]; rintro _ w8 ⟨v9, rfl, hN8, hv9⟩; obtain ⟨A9, c9, rfl⟩ := rdV_form (show RdV w8 [] v9 zz from hv9); have HY : Hid (RdV w8 [] (.slice A9 zz.length c9) zz) := Lib.hid hv9; have HN8 := Lib.hid (NewT.trans _ _ _ HN7.out hN8); have HN78 := Lib.hid hN8; clear hN8 hv9)
    by_cases hlen : zz.length ≤ S.length - k
    rotate_left
    · have hlt : (S.length : Int) - (k : Int) < (zz.length : Int) := by omega
      have HNt := Lib.hid (NewT.trans _ _ _ N1.out (NewT.trans _ _ _ HN.out HN8.out))
      have HPt := Lib.hid (HP.out.keep (KeepBut.below HN8.out))
      have hend := isLog_end HI.out.1 HI.out.2.1 (nextR_none (.inr (.inr (by rw [← HI.out.2.2, hx.out, HZ.out]; intro hp; have := hp.length_le; rw [List.length_drop] at this; exact hlen this))))
      have hES := IsLog.unique nx mkL hend HE.out
      have HES := Lib.hid hES
      clear hend hES
      go_upto_region 13 with (go_at_call 35; refine (RCut_ok gr M vd vl room D L k w8 (H.out.new HNt.out) (fun j hj => Nat.lt_of_lt_of_le (HM.out j hj) HNt.out.out.size) (by rw [hS.out]; exact Hk.out)).mono ?_; rw [hS.out]; rintro _ wu ⟨rfl, vd', hRu, hAu⟩; have HRu := Lib.hid hRu; have HAu := Lib.hid hAu; clear hRu hAu)
      refine wp_region_lit ?_
      refine wpList_plain rfl (fun K hK => ?_)
      refine opr_move (.inl rfl) (hK _ _ ?_)
      clear hK K
      simp only [Act.put, List.setIfInBounds_toArray, List.set_cons_zero, List.set_cons_succ]
      refine wpList_plain rfl (fun K hK => ?_)
      refine opr_move (.inl rfl) (hK _ _ ?_)
      clear hK K
      simp only [Act.put, List.setIfInBounds_toArray, List.set_cons_zero, List.set_cons_succ]
      refine wpList_plain rfl (fun K hK => ?_)
      refine opr_bldRL rfl rfl rfl (hK _ _ ?_)
      clear hK K
      simp only [Act.put, List.setIfInBounds_toArray, List.set_cons_zero, List.set_cons_succ]
      refine wpList_plain rfl (fun K hK => ?_)
      refine opr_boxN rfl rfl (fun wv hNv rv => hK _ _ ?_)
      clear hK K
      simp only [Act.put, List.setIfInBounds_toArray, List.set_cons_zero, List.set_cons_succ]
      refine wpList_plain rfl (fun K hK => ?_)
      refine opr_move (.inr rfl) (hK _ _ ?_)
      clear hK K
      refine wpList_end rfl ?_
      simp only [Act.put, List.setIfInBounds_toArray, List.set_cons_zero, List.set_cons_succ]
      go_simp
      go_wp2
      go_ret
      have hgr := HM.out gr (by simp)
      have hs1 := HNt.out.out.size
      have hs2 := HRu.out.below.size
      refine ⟨_, rfl, RT.trans _ _ _ (RT.new hgr HNt.out) (RT.trans _ _ _ HRu.out (RT.new (by omega) hNv)), by omega, vd', _, ps, ⟨rv, ?_, ?_, by omega⟩, HES.out⟩
      · have e1 : S.take k = encL nx mkL hash0 ES := by
          rw [← HES.out, HI.out.2.2]; exact (List.prefix_iff_eq_take.1 HI.out.2.1).symm
        have := HAu.out
        rw [e1] at this
        exact (this.wider (Nat.le_refl _)).new hNv
      · exact ((HPt.out.keep (HRu.out.keep.more (by simp))).wider (Nat.le_refl _)).keep (KeepBut.below hNv)
    have hlt : ¬ (S.length : Int) - (k : Int) < (zz.length : Int) := by omega
    have hrd := (NewT.trans _ _ _ HN.out HN8.out).rd (HS1.out [] (by simp))
    have hcap := rd_cap hrd
    obtain ⟨b, o, rfl⟩ : ∃ b o, A1 = some ⟨b, o, none⟩ := by
      obtain ⟨A', c', hv', h1', h2', h3'⟩ := hrd
      obtain ⟨b, o, hA, _⟩ := h3' (by omega)
      cases hv'
      exact ⟨b, o, hA⟩
    have hs := slice_mid b o S.length c1 k zz.length (by omega)
    have hmid := rd_mid (m := zz.length) hrd (by omega : k + zz.length ≤ S.length)
    obtain ⟨u9, hu9⟩ : ∃ u9, Value.slice (some (if c1 = k then ⟨b, o, none⟩ else (⟨b, o, none⟩ : Addr).add k)) zz.length (c1 - k) = u9 := ⟨_, rfl⟩
    rw [hu9] at hmid
    simp only [hu9] at hs
    have HMID := Lib.hid hmid
    clear hrd hcap hmid hu9
    by_cases heq : (S.drop k).take zz.length = zz
    rotate_left
    · have HEQ := Lib.hid heq
      clear heq
      go_upto_region 12 with (go_at_call 24; refine (Bytes_cv _ _ _ _ _ HMID.out HY.out (by rw [List.length_take]; omega) (by omega)).eq.mono ?_; rintro _ w10 ⟨rfl, hN10⟩; rw [decide_eq_false HEQ.out]; have HN10 := Lib.hid (NewT.trans _ _ _ HN8.out hN10); clear hN10)
      have HNt := Lib.hid (NewT.trans _ _ _ N1.out (NewT.trans _ _ _ HN.out HN10.out))
      have HPt := Lib.hid (HP.out.keep (KeepBut.below HN10.out))
      have hend := isLog_end HI.out.1 HI.out.2.1 (nextR_none (.inr (.inr (by rw [← HI.out.2.2, hx.out, HZ.out]; intro hp; exact HEQ.out (pre_take.1 hp)))))
      have hES := IsLog.unique nx mkL hend HE.out
      have HES := Lib.hid hES
      clear hend hES
      go_upto_region 13 with (go_at_call 35; refine (RCut_ok gr M vd vl room D L k w10 (H.out.new HNt.out) (fun j hj => Nat.lt_of_lt_of_le (HM.out j hj) HNt.out.out.size) (by rw [hS.out]; exact Hk.out)).mono ?_; rw [hS.out]; rintro _ wu ⟨rfl, vd', hRu, hAu⟩; have HRu := Lib.hid hRu; have HAu := Lib.hid hAu; clear hRu hAu)
      refine wp_region_lit ?_
      refine wpList_plain rfl (fun K hK => ?_)
      refine opr_move (.inl rfl) (hK _ _ ?_)
      clear hK K
      simp only [Act.put, List.setIfInBounds_toArray, List.set_cons_zero, List.set_cons_succ]
      refine wpList_plain rfl (fun K hK => ?_)
      refine opr_move (.inl rfl) (hK _ _ ?_)
      clear hK K
      simp only [Act.put, List.setIfInBounds_toArray, List.set_cons_zero, List.set_cons_succ]
      refine wpList_plain rfl (fun K hK => ?_)
      refine opr_bldRL rfl rfl rfl (hK _ _ ?_)
      clear hK K
      simp only [Act.put, List.setIfInBounds_toArray, List.set_cons_zero, List.set_cons_succ]
      refine wpList_plain rfl (fun K hK => ?_)
      refine opr_boxN rfl rfl (fun wv hNv rv => hK _ _ ?_)
      clear hK K
      simp only [Act.put, List.setIfInBounds_toArray, List.set_cons_zero, List.set_cons_succ]
      refine wpList_plain rfl (fun K hK => ?_)
      refine opr_move (.inr rfl) (hK _ _ ?_)
      clear hK K
      refine wpList_end rfl ?_
      simp only [Act.put, List.setIfInBounds_toArray, List.set_cons_zero, List.set_cons_succ]
      go_simp
      go_wp2
      go_ret
      have hgr := HM.out gr (by simp)
      have hs1 := HNt.out.out.size
      have hs2 := HRu.out.below.size
      refine ⟨_, rfl, RT.trans _ _ _ (RT.new hgr HNt.out) (RT.trans _ _ _ HRu.out (RT.new (by omega) hNv)), by omega, vd', _, ps, ⟨rv, ?_, ?_, by omega⟩, HES.out⟩
      · have e1 : S.take k = encL nx mkL hash0 ES := by
          rw [← HES.out, HI.out.2.2]; exact (List.prefix_iff_eq_take.1 HI.out.2.1).symm
        have := HAu.out
        rw [e1] at this
        exact (this.wider (Nat.le_refl _)).new hNv
      · exact ((HPt.out.keep (HRu.out.keep.more (by simp))).wider (Nat.le_refl _)).keep (KeepBut.below hNv)
    · have HEQ := Lib.hid heq
      clear heq
      go_wp2_with (go_at_call 24; refine (Bytes_cv _ _ _ _ _ HMID.out HY.out (by rw [List.length_take]; omega) (by omega)).eq.mono ?_; rintro _ w10 ⟨rfl, hN10⟩; rw [decide_eq_true HEQ.out]; have HN10 := Lib.hid (NewT.trans _ _ _ HN8.out hN10); have HN710 := Lib.hid (NewT.trans _ _ _ HN78.out hN10); clear hN10)
      go_roundw
      case rel => exact ⟨A7, n7, c7, k + zz.length, ps ++ [(Value.slice A3 x.length c3, x)], rfl, by go_num, by omega, Lib.hid (NewT.trans _ _ _ HN.out HN10.out), Lib.hid (HP7.out.keep (KeepBut.below HN710.out)), Lib.hid ⟨fun e he' => by
          rw [List.map_append] at he'
          rcases List.mem_append.1 he' with h' | h'
          · exact HI.out.1 e h'
          · simp at h'; subst h'; exact HOK.out, by
          rw [List.map_append]
          exact encL_more HI.out.2.1 (by rw [← HI.out.2.2, HZ.out]; exact pre_take.2 HEQ.out), by
          rw [List.map_append]
          show _ = (encL nx mkL hash0 (ps.map (·.2) ++ [x])).length
          rw [encL_snoc, List.length_append, HZ.out, ← HI.out.2.2]⟩⟩
      case measure => simp [intOf]; omega
end Go.Proofs.YtbejolbknimmmaaDoor
/- Two disks, the program's and the reference's, that go alike. -/
namespace Go.Proofs.YtbejolbknimmmaaDoor
open Go Go.RowKit
set_option maxRecDepth 8000
set_option linter.all false
theorem DStep.rd2 {g0 g : Nat} {v v' : Value} {w w' : World} (h : DStep g v w w' v') {u : Value} {l : List UInt8} (hr : RdV w (g0 :: g :: v.ownBlock.toList) u l) (hne : g0 ∉ g :: v.ownBlock.toList) (h0 : g0 < w.heap.size) : RdV w' (g0 :: g :: v'.ownBlock.toList) u l := by
  obtain ⟨A, cap, hv, h2, h3, h4⟩ := hr
  refine ⟨A, cap, hv, h2, h3, fun hl => ?_⟩
  obtain ⟨b, o, hA, hb, hc⟩ := h4 hl
  rw [List.mem_cons, not_or] at hb
  refine ⟨b, o, hA, ?_, fun i hi => h.keep.cell hb.2 (hc i hi)⟩
  rw [List.mem_cons, not_or]
  exact ⟨hb.1, own_apart (World.block_lt_of_cell? _ _ (hc 0 hl)) h.own hb.2⟩
/-- Two disks in memory: the program's (gd) has S, of which n last; the reference's (g) has D that last, and L. -/
def St8 (gd g room : Nat) (S : List UInt8) (n : Nat) (D L : List UInt8) (w : World) : Prop :=
  ∃ v vd vl, DiskAt w gd v room S n ∧ RefAt w g (gd :: v.ownBlock.toList) vd vl room D L ∧ g ∉ gd :: v.ownBlock.toList
theorem St8.new {gd g room : Nat} {S : List UInt8} {n : Nat} {D L : List UInt8} {w w' : World} (h : St8 gd g room S n D L w) (hN : NewT w w') : St8 gd g room S n D L w' := by
  obtain ⟨v, vd, vl, h1, h2, h3⟩ := h
  exact ⟨v, vd, vl, h1.new hN, h2.new hN, h3⟩
theorem St8.lt {gd g room : Nat} {S : List UInt8} {n : Nat} {D L : List UInt8} {w : World} (h : St8 gd g room S n D L w) : gd < w.heap.size ∧ g < w.heap.size := by
  obtain ⟨v, vd, vl, h1, h2, _⟩ := h
  exact ⟨h1.lt, h2.row.lt⟩
/-- A step of two disks that lie from block B on: a row x that is neither's stays. -/
structure KT (B x : Nat) (w w' : World) : Prop where
  below : Below B w w'
  size : w.heap.size ≤ w'.heap.size
  row : ∀ t n f, w.rowIs x t n f → w'.rowIs x t n f
theorem KT.trans {B x : Nat} (a b c : World) (h : KT B x a b) (k : KT B x b c) : KT B x a c := ⟨h.below.trans k.below, Nat.le_trans h.size k.size, fun t n f r => k.row t n f (h.row t n f r)⟩
theorem KT.refl {B x : Nat} (w : World) : KT B x w w := ⟨Below.refl _ w, Nat.le_refl _, fun _ _ _ r => r⟩
theorem KT.new {B x : Nat} {w w' : World} (hB : B ≤ w.heap.size) (h : NewT w w') : KT B x w w' := ⟨h.out.mono hB, h.out.size, fun _ _ _ r => h.row r⟩
theorem KT.drew {B x : Nat} (w : World) : KT B x w w.drew := ⟨(Below.refl _ w).drew, Nat.le_refl _, fun _ _ _ r => (NewT.drew w).row r⟩
theorem KT.of_d {B x gd : Nat} {v v' : Value} {w w' : World} (h : DStep gd v w w' v') (hB : B ≤ gd) (hx : x ∉ gd :: v.ownBlock.toList) : KT B x w w' := ⟨h.below.mono hB, h.below.size, fun _ _ _ r => h.row hx r⟩
theorem KT.of_r {B x g : Nat} {w w' : World} (h : RT g w w') (hB : B ≤ g) (hx : x ≠ g) : KT B x w w' := ⟨h.below.mono hB, h.size, fun _ _ _ r => h.row hx r⟩
/-- A row that is neither disk's. -/
def Beside (gd g x : Nat) (w : World) : Prop := x ≠ g ∧ ∀ v room S n, DiskAt w gd v room S n → x ∉ gd :: v.ownBlock.toList
section
variable {gd g room B x : Nat} {S D L : List UInt8} {n : Nat} {w : World}
theorem St8.dstep {w' : World} {v v' vd vl : Value} {S' : List UInt8} {n' : Nat} (h2 : RefAt w g (gd :: v.ownBlock.toList) vd vl room D L) (h3 : g ∉ gd :: v.ownBlock.toList) (hD : DStep gd v w w' v') (hA : DiskAt w' gd v' room S' n') : St8 gd g room S' n' D L w' :=
  ⟨v', vd, vl, hA, ⟨hD.row h3 h2.row, hD.rd2 h2.done h3 h2.row.lt, hD.rd2 h2.late h3 h2.row.lt, h2.fits, h2.room⟩, hD.apart h2.row.lt h3⟩
theorem St8.blocks {v vd vl : Value} (h1 : DiskAt w gd v room S n) (h2 : RefAt w g (gd :: v.ownBlock.toList) vd vl room D L) : ∀ k ∈ g :: gd :: v.ownBlock.toList, k < w.heap.size := fun k hk => by
  rcases List.mem_cons.1 hk with rfl | hk
  · exact h2.row.lt
  · rcases List.mem_cons.1 hk with rfl | hk
    · exact h1.lt
    · exact (h1.own.lt k (by simpa using hk)).2
theorem St8.rstep {w' : World} {v vd' vl' : Value} {D' L' : List UInt8} (h1 : DiskAt w gd v room S n) (h3 : g ∉ gd :: v.ownBlock.toList) (hR : RT g w w') (hA : RefAt w' g (gd :: v.ownBlock.toList) vd' vl' room D' L') : St8 gd g room S n D' L' w' :=
  ⟨v, vd', vl', h1.keep hR.keep (by simp at h3 ⊢; omega) (fun k hk => by simp [hk] at h3 ⊢; omega), hA, h3⟩
end
/-- The row x lies beside both disks. -/
def StX (gd g x B room : Nat) (S : List UInt8) (n : Nat) (D L : List UInt8) (w : World) : Prop :=
  ∃ v vd vl, DiskAt w gd v room S n ∧ RefAt w g (gd :: v.ownBlock.toList) vd vl room D L ∧ g ∉ gd :: v.ownBlock.toList ∧ x ∉ gd :: v.ownBlock.toList ∧ x ≠ g ∧ B ≤ gd ∧ B ≤ g ∧ x < w.heap.size
theorem StX.st {gd g x B room : Nat} {S : List UInt8} {n : Nat} {D L : List UInt8} {w : World} (h : StX gd g x B room S n D L w) : St8 gd g room S n D L w := by
  obtain ⟨v, vd, vl, h1, h2, h3, _⟩ := h
  exact ⟨v, vd, vl, h1, h2, h3⟩
theorem StX.new {gd g x B room : Nat} {S : List UInt8} {n : Nat} {D L : List UInt8} {w w' : World} (h : StX gd g x B room S n D L w) (hN : NewT w w') : StX gd g x B room S n D L w' := by
  obtain ⟨v, vd, vl, h1, h2, h3, h4, h5, h6, h7, h8⟩ := h
  exact ⟨v, vd, vl, h1.new hN, h2.new hN, h3, h4, h5, h6, h7, Nat.lt_of_lt_of_le h8 hN.out.size⟩
/-- A row that is new lies beside both. -/
theorem St8.beside {gd g B room : Nat} {S : List UInt8} {n : Nat} {D L : List UInt8} {w w' : World} (h : St8 gd g room S n D L w) (hB : B ≤ gd) (hB2 : B ≤ g) (hN : NewT w w') (hx : w.heap.size < w'.heap.size) : StX gd g w.heap.size B room S n D L w' := by
  obtain ⟨v, vd, vl, h1, h2, h3⟩ := h
  refine ⟨v, vd, vl, h1.new hN, h2.new hN, h3, fun hm => ?_, ?_, hB, hB2, hx⟩
  · have := St8.blocks h1 h2 _ (List.mem_cons_of_mem _ hm); omega
  · have := h2.row.lt; omega
section
variable {gd g x B room : Nat} {S D L : List UInt8} {n : Nat} {w : World}
theorem StX.d {f : FuncId} {args : Array Value} {e0 : Value} {S' : List UInt8} {n' : Nat} (h : StX gd g x B room S n D L w)
    (hc : ∀ v, DiskAt w gd v room S n → Calls Tryd.prog f args w fun e w' => e = .returned e0 ∧ ∃ v', DStep gd v w w' v' ∧ DiskAt w' gd v' room S' n') :
    Calls Tryd.prog f args w fun e w' => e = .returned e0 ∧ KT B x w w' ∧ StX gd g x B room S' n' D L w' := by
  obtain ⟨v, vd, vl, h1, h2, h3, h4, h5, h6, h7, h8⟩ := h
  refine (hc v h1).mono ?_
  rintro e w' ⟨rfl, v', hD, hA⟩
  obtain ⟨vv, vd', vl', a1, a2, a3⟩ := St8.dstep h2 h3 hD hA
  exact ⟨rfl, KT.of_d hD h6 h4, v', vd, vl, hA, ⟨hD.row h3 h2.row, hD.rd2 h2.done h3 h2.row.lt, hD.rd2 h2.late h3 h2.row.lt, h2.fits, h2.room⟩, hD.apart h2.row.lt h3, hD.apart h8 h4, h5, h6, h7, Nat.lt_of_lt_of_le h8 hD.below.size⟩
theorem StX.r {f : FuncId} {args : Array Value} {e0 : Value} {D' L' : List UInt8} (h : StX gd g x B room S n D L w)
    (hc : ∀ M vd vl, RefAt w g M vd vl room D L → (∀ k ∈ g :: M, k < w.heap.size) → Calls Tryd.prog f args w fun e w' => e = .returned e0 ∧ ∃ vd' vl', RT g w w' ∧ RefAt w' g M vd' vl' room D' L') :
    Calls Tryd.prog f args w fun e w' => e = .returned e0 ∧ KT B x w w' ∧ StX gd g x B room S n D' L' w' := by
  obtain ⟨v, vd, vl, h1, h2, h3, h4, h5, h6, h7, h8⟩ := h
  refine (hc _ vd vl h2 (St8.blocks h1 h2)).mono ?_
  rintro e w' ⟨rfl, vd', vl', hR, hA⟩
  exact ⟨rfl, KT.of_r hR h7 h5, v, vd', vl', h1.keep hR.keep (by simp at h3 ⊢; omega) (fun k hk => by simp [hk] at h3 ⊢; omega), hA, h3, h4, h5, h6, h7, Nat.lt_of_lt_of_le h8 hR.size⟩
theorem StX.eq {f : FuncId} {args : Array Value} {e0 : Value} (h : StX gd g x B room S n D L w) (hc : Cv f args w (.eq e0)) (hB : B ≤ w.heap.size) :
    Calls Tryd.prog f args w fun e w' => e = .returned e0 ∧ KT B x w w' ∧ StX gd g x B room S n D L w' :=
  hc.eq.mono fun e w' ⟨he, hN⟩ => ⟨he, KT.new hB hN, h.new hN⟩
/-- Write: the error's number, and what there is then. -/
def wrE (room : Nat) (S l : List UInt8) : Int := if S.length + l.length ≤ room then 0 else 5
def wrL (room k : Nat) (L l : List UInt8) : List UInt8 := if k + l.length ≤ room then L ++ l else L
theorem dWrite (h : StX gd g x B room S n D L w) (u : Value) (l : List UInt8) (hu : RdV w [] u l) : Calls Tryd.prog 27 #[.pointer (some ⟨gd, 0, none⟩), u] w fun e w' => e = .returned (.int .i64 (wrE room S l)) ∧ KT B x w w' ∧ StX gd g x B room (wrL room S.length S l) n D L w' := by
  unfold wrE wrL
  by_cases hl : S.length + l.length ≤ room
  · rw [if_pos hl, if_pos hl]
    exact h.d fun v hv => Write_ok gd v room S n u l w hv hu hl
  · rw [if_neg hl, if_neg hl]
    obtain ⟨v, vd, vl, h1, _, _, _, _, h6, _⟩ := id h
    exact h.eq (Write_full gd v room S n u l w h1 hu (by omega)) (by have := h1.lt; omega)
theorem rWrite {S0 : List UInt8} (h : StX gd g x B room S n D L w) (u : Value) (l : List UInt8) (hu : RdV w [] u l) (hl : l.length ≤ 1000) (e : D ++ L = S0) : Calls Tryd.prog 38 #[.pointer (some ⟨g, 0, none⟩), u] w fun e w' => e = .returned (.int .i64 (wrE room S0 l)) ∧ KT B x w w' ∧ StX gd g x B room S n D (wrL room S0.length L l) w' := by
  unfold wrE wrL
  have eL : S0.length = D.length + L.length := by rw [← e]; simp
  by_cases hl2 : S0.length + l.length ≤ room
  · rw [if_pos hl2, if_pos hl2]
    exact h.r fun M vd vl hr hM => (RWrite_ok g M vd vl u room D L l w hr hM hu (by omega)).mono fun e w' ⟨he, vl', hh⟩ => ⟨he, vd, vl', hh⟩
  · rw [if_neg hl2, if_neg hl2]
    obtain ⟨v, vd, vl, h1, h2, _, _, _, h6, _⟩ := id h
    exact h.eq (RWrite_full g _ vd vl u room D L l w h2 hu (by omega) (by omega)) (by have := h1.lt; omega)
theorem dSync (h : StX gd g x B room S n D L w) : Calls Tryd.prog 30 #[.pointer (some ⟨gd, 0, none⟩)] w fun e w' => e = .returned (.tuple #[]) ∧ KT B x w w' ∧ StX gd g x B room S S.length D L w' :=
  h.d fun v hv => Sync_c gd v room S n w hv
theorem rSync (h : StX gd g x B room S n D L w) : Calls Tryd.prog 16 #[.pointer (some ⟨g, 0, none⟩)] w fun e w' => e = .returned (.tuple #[]) ∧ KT B x w w' ∧ StX gd g x B room S n (D ++ L) [] w' :=
  h.r fun M vd vl hr hM => (RSync_c g M vd vl room D L w hr hM).mono fun e w' ⟨he, vd', hh⟩ => ⟨he, vd', _, hh⟩
theorem dCrash (h : StX gd g x B room S n D L w) (k : Int) : Calls Tryd.prog 18 #[.pointer (some ⟨gd, 0, none⟩), .int .i64 k] w fun e w' => e = .returned (.tuple #[]) ∧ KT B x w w' ∧ StX gd g x B room (S.take (crashN k n S.length)) (crashN k n S.length) D L w' :=
  h.d fun v hv => Crash_c gd v room S n k w hv
theorem rCrash (h : StX gd g x B room S n D L w) (k : Int) : Calls Tryd.prog 19 #[.pointer (some ⟨g, 0, none⟩), .int .i64 k] w fun e w' => e = .returned (.tuple #[]) ∧ KT B x w w' ∧ StX gd g x B room S n (D ++ L.take k.toNat) [] w' :=
  h.r fun M vd vl hr hM => (RCrash_c g M vd vl room D L k w hr hM).mono fun e w' ⟨he, vd', hh⟩ => ⟨he, vd', _, hh⟩
/-- Cut: the error's number, and what there is then. -/
def ctE (S : List UInt8) (k : Int) : Int := if k < 0 ∨ (S.length : Int) < k then 1 else 0
def ctL {α : Type} (S : List UInt8) (k : Int) (a b : α) : α := if k < 0 ∨ (S.length : Int) < k then a else b
theorem dCut (h : StX gd g x B room S n D L w) (k : Int) : Calls Tryd.prog 32 #[.pointer (some ⟨gd, 0, none⟩), .int .i64 k] w fun e w' => e = .returned (.int .i64 (ctE S k)) ∧ KT B x w w' ∧ StX gd g x B room (ctL S k S (S.take k.toNat)) (ctL S k n k.toNat) D L w' := by
  unfold ctE ctL
  by_cases hk : k < 0 ∨ (S.length : Int) < k
  · simp only [if_pos hk]
    obtain ⟨v, vd, vl, h1, _, _, _, _, h6, _⟩ := id h
    exact h.eq (Cut_bad gd v room S n k w h1 hk) (by have := h1.lt; omega)
  · simp only [if_neg hk]
    obtain ⟨q, rfl⟩ : ∃ q : Nat, k = q := ⟨k.toNat, by omega⟩
    exact h.d fun v hv => Cut_ok gd v room S n q w hv (by omega)
theorem rCut {S0 : List UInt8} (h : StX gd g x B room S n D L w) (k : Int) (e : D ++ L = S0) : Calls Tryd.prog 35 #[.pointer (some ⟨g, 0, none⟩), .int .i64 k] w fun e w' => e = .returned (.int .i64 (ctE S0 k)) ∧ KT B x w w' ∧ StX gd g x B room S n (ctL S0 k D (S0.take k.toNat)) (ctL S0 k L []) w' := by
  unfold ctE ctL
  subst e
  by_cases hk : k < 0 ∨ ((D ++ L).length : Int) < k
  · simp only [if_pos hk]
    obtain ⟨v, vd, vl, h1, h2, _, _, _, h6, _⟩ := id h
    exact h.eq (RCut_bad g _ vd vl room D L k w h2 hk) (by have := h1.lt; omega)
  · simp only [if_neg hk]
    obtain ⟨q, rfl⟩ : ∃ q : Nat, k = q := ⟨k.toNat, by omega⟩
    exact h.r fun M vd vl hr hM => (RCut_ok g M vd vl room D L q w hr hM (by omega)).mono fun e w' ⟨he, vd', hh⟩ => ⟨he, vd', _, hh⟩
end
end Go.Proofs.YtbejolbknimmmaaDoor
/- A log, the program's, and the reference's, that go alike. -/
namespace Go.Proofs.YtbejolbknimmmaaDoor
open Go Go.RowKit
set_option maxRecDepth 8000
set_option linter.all false
variable {nx : (Nat → UInt8) → List UInt8 → Nat → UInt8}
theorem LStep.rdM {J : List Nat} {g dk : Nat} {v v' : Value} {w w' : World} (h : LStep g dk v w w' v') {u : Value} {l : List UInt8} (hr : RdV w (J ++ g :: dk :: v.ownBlock.toList) u l) : RdV w' (J ++ g :: dk :: v'.ownBlock.toList) u l := by
  obtain ⟨A, cap, hv, h2, h3, h4⟩ := hr
  refine ⟨A, cap, hv, h2, h3, fun hl => ?_⟩
  obtain ⟨b, o, hA, hb, hc⟩ := h4 hl
  rw [List.mem_append, not_or] at hb
  refine ⟨b, o, hA, ?_, fun i hi => h.keep.cell hb.2 (hc i hi)⟩
  rw [List.mem_append, not_or]
  exact ⟨hb.1, own_apart2 (World.block_lt_of_cell? _ _ (hc 0 hl)) h.own hb.2⟩
theorem LStep.partsM {J : List Nat} {g dk : Nat} {v v' : Value} {w w' : World} (h : LStep g dk v w w' v') {u : Value} {ps : List (Value × List UInt8)} (hr : PartsAt w (J ++ g :: dk :: v.ownBlock.toList) u ps) : PartsAt w' (J ++ g :: dk :: v'.ownBlock.toList) u ps := by
  obtain ⟨A, cap, hv, h2, h3, h4, h5⟩ := hr
  refine ⟨A, cap, hv, h2, h3, fun hl => ?_, fun x hx => h.rdM (h5 x hx)⟩
  obtain ⟨b, o, hA, hb, hc⟩ := h4 hl
  rw [List.mem_append, not_or] at hb
  refine ⟨b, o, hA, ?_, fun i x hi => h.keep.cell hb.2 (hc i x hi)⟩
  rw [List.mem_append, not_or]
  exact ⟨hb.1, own_apart2 (World.block_lt_of_cell? _ _ (hc 0 ps[0] (List.getElem?_eq_getElem hl))) h.own hb.2⟩
/-- The program's log over its disk, and the reference's over its own, lie apart, from block B on. -/
structure L9 (nx : (Nat → UInt8) → List UInt8 → Nat → UInt8) (gd gr gx gy B room : Nat) (esP : List (List UInt8)) (n : Nat) (esR : List (List UInt8)) (D L : List UInt8) (w : World) (v vd vl vL : Value) (ps : List (Value × List UInt8)) : Prop where
  log : LogAt nx w gx gd v room esP n
  ref : RLogAt w gy gr (gx :: gd :: v.ownBlock.toList) vd vl room D L vL ps
  es : ps.map (·.2) = esR
  ay : gy ∉ gx :: gd :: v.ownBlock.toList
  ar : gr ∉ gx :: gd :: v.ownBlock.toList
  bd : B ≤ gd
  br : B ≤ gr
  by' : B ≤ gy
def L0 (nx : (Nat → UInt8) → List UInt8 → Nat → UInt8) (gd gr gx gy B room : Nat) (esP : List (List UInt8)) (n : Nat) (esR : List (List UInt8)) (D L : List UInt8) (w : World) : Prop :=
  ∃ v vd vl vL ps, L9 nx gd gr gx gy B room esP n esR D L w v vd vl vL ps
/-- The row x lies beside both. -/
def LX (nx : (Nat → UInt8) → List UInt8 → Nat → UInt8) (gd gr gx gy x B room : Nat) (esP : List (List UInt8)) (n : Nat) (esR : List (List UInt8)) (D L : List UInt8) (w : World) : Prop :=
  ∃ v vd vl vL ps, L9 nx gd gr gx gy B room esP n esR D L w v vd vl vL ps ∧ x ∉ gx :: gd :: v.ownBlock.toList ∧ x ≠ gy ∧ x ≠ gr ∧ x < w.heap.size
section
variable {gd gr gx gy x B room n n' : Nat} {esP esR esP' esR' : List (List UInt8)} {D L D' L' : List UInt8} {w w' : World} {v vd vl vL : Value} {ps : List (Value × List UInt8)}
theorem RLogAt.new {M : List Nat} (h : RLogAt w gy gr M vd vl room D L vL ps) (hN : NewT w w') : RLogAt w' gy gr M vd vl room D L vL ps :=
  ⟨hN.row h.row, h.disk.new hN, h.parts.keep (KeepBut.below hN), h.ne⟩
theorem L9.new (h : L9 nx gd gr gx gy B room esP n esR D L w v vd vl vL ps) (hN : NewT w w') : L9 nx gd gr gx gy B room esP n esR D L w' v vd vl vL ps :=
  ⟨h.log.new hN, h.ref.new hN, h.es, h.ay, h.ar, h.bd, h.br, h.by'⟩
theorem LX.new (h : LX nx gd gr gx gy x B room esP n esR D L w) (hN : NewT w w') : LX nx gd gr gx gy x B room esP n esR D L w' := by
  obtain ⟨v, vd, vl, vL, ps, h, h1, h2, h3, h4⟩ := h
  exact ⟨v, vd, vl, vL, ps, h.new hN, h1, h2, h3, Nat.lt_of_lt_of_le h4 hN.out.size⟩
theorem LX.out (h : LX nx gd gr gx gy x B room esP n esR D L w) : L0 nx gd gr gx gy B room esP n esR D L w := by
  obtain ⟨v, vd, vl, vL, ps, h, _⟩ := h
  exact ⟨v, vd, vl, vL, ps, h⟩
theorem L0.new (h : L0 nx gd gr gx gy B room esP n esR D L w) (hN : NewT w w') : L0 nx gd gr gx gy B room esP n esR D L w' := by
  obtain ⟨v, vd, vl, vL, ps, h⟩ := h
  exact ⟨v, vd, vl, vL, ps, h.new hN⟩
theorem L9.blocks (h : L9 nx gd gr gx gy B room esP n esR D L w v vd vl vL ps) : ∀ k ∈ gy :: gr :: gx :: gd :: v.ownBlock.toList, B ≤ k ∧ k < w.heap.size := fun k hk => by
  have hl := h.log.late
  have hb := h.bd
  rcases List.mem_cons.1 hk with rfl | hk
  · exact ⟨h.by', h.ref.row.lt⟩
  · rcases List.mem_cons.1 hk with rfl | hk
    · exact ⟨h.br, h.ref.disk.row.lt⟩
    · rcases List.mem_cons.1 hk with rfl | hk
      · exact ⟨by omega, h.log.row.lt⟩
      · rcases List.mem_cons.1 hk with rfl | hk
        · exact ⟨h.bd, h.log.disk.lt⟩
        · have := h.log.disk.own.lt k (by simpa using hk)
          exact ⟨by omega, this.2⟩
theorem L0.beside (h : L0 nx gd gr gx gy B room esP n esR D L w) (hN : NewT w w') (hx : w.heap.size < w'.heap.size) : LX nx gd gr gx gy w.heap.size B room esP n esR D L w' := by
  obtain ⟨v, vd, vl, vL, ps, h⟩ := h
  have hb := h.blocks
  refine ⟨v, vd, vl, vL, ps, h.new hN, fun hm => ?_, fun e => ?_, fun e => ?_, hx⟩
  · have := (hb _ (List.mem_cons_of_mem _ (List.mem_cons_of_mem _ hm))).2; omega
  · have := (hb gy (by simp)).2; omega
  · have := (hb gr (by simp)).2; omega
theorem LX.p {f : FuncId} {args : Array Value} {e0 : Value} (h : LX nx gd gr gx gy x B room esP n esR D L w)
    (hc : ∀ v, LogAt nx w gx gd v room esP n → Calls Tryd.prog f args w fun e w' => e = .returned e0 ∧ ∃ v', LStep gx gd v w w' v' ∧ LogAt nx w' gx gd v' room esP' n') :
    Calls Tryd.prog f args w fun e w' => e = .returned e0 ∧ KT B x w w' ∧ LX nx gd gr gx gy x B room esP' n' esR D L w' := by
  obtain ⟨v, vd, vl, vL, ps, h, hx, hxy, hxr, hxl⟩ := h
  refine (hc v h.log).mono ?_
  rintro e w' ⟨rfl, v', hS, hA⟩
  refine ⟨rfl, ⟨hS.below.mono h.bd, hS.below.size, fun t n f r => hS.keep.row hx r⟩, v', vd, vl, vL, ps, ⟨hA, ⟨hS.keep.row h.ay h.ref.row, ⟨hS.keep.row h.ar h.ref.disk.row, ?_, ?_, h.ref.disk.fits, h.ref.disk.room⟩, ?_, h.ref.ne⟩, h.es, own_apart2 h.ref.row.lt hS.own h.ay, own_apart2 h.ref.disk.row.lt hS.own h.ar, h.bd, h.br, h.by'⟩, own_apart2 hxl hS.own hx, hxy, hxr, Nat.lt_of_lt_of_le hxl hS.below.size⟩
  · exact hS.rdM (J := [gr, gy]) h.ref.disk.done
  · exact hS.rdM (J := [gr, gy]) h.ref.disk.late
  · exact hS.partsM (J := [gy, gr]) h.ref.parts
theorem LX.r {f : FuncId} {args : Array Value} {e0 : Value} (h : LX nx gd gr gx gy x B room esP n esR D L w)
    (hc : ∀ M vd vl vL ps, RLogAt w gy gr M vd vl room D L vL ps → ps.map (·.2) = esR → (∀ k ∈ gy :: gr :: M, B ≤ k ∧ k < w.heap.size) → Calls Tryd.prog f args w fun e w' => e = .returned e0 ∧ RW gy gr w w' ∧ ∃ vd' vl' vL' ps', RLogAt w' gy gr M vd' vl' room D' L' vL' ps' ∧ ps'.map (·.2) = esR') :
    Calls Tryd.prog f args w fun e w' => e = .returned e0 ∧ KT B x w w' ∧ LX nx gd gr gx gy x B room esP n esR' D' L' w' := by
  obtain ⟨v, vd, vl, vL, ps, h, hx, hxy, hxr, hxl⟩ := h
  refine (hc _ vd vl vL ps h.ref h.es h.blocks).mono ?_
  rintro e w' ⟨rfl, hR, vd', vl', vL', ps', hA, he⟩
  have hb := h.br
  have hb' := h.by'
  refine ⟨rfl, ⟨hR.below.mono (by omega), hR.size, fun t n f r => hR.row ⟨hxy, hxr⟩ r⟩, v, vd', vl', vL', ps', ⟨h.log.keep hR.keep (fun k hk hm => ?_), hA, he, h.ay, h.ar, h.bd, h.br, h.by'⟩, hx, hxy, hxr, Nat.lt_of_lt_of_le hxl hR.size⟩
  simp only [List.mem_cons, List.not_mem_nil, or_false] at hm
  rcases hm with rfl | rfl
  · exact h.ay hk
  · exact h.ar hk
theorem LX.le (h : LX nx gd gr gx gy x B room esP n esR D L w) : B ≤ w.heap.size := by
  obtain ⟨v, vd, vl, vL, ps, h, _⟩ := h
  have := h.bd; have := h.log.disk.lt; omega
theorem LX.eq {f : FuncId} {args : Array Value} {e0 : Value} (h : LX nx gd gr gx gy x B room esP n esR D L w) (hc : Cv f args w (.eq e0)) :
    Calls Tryd.prog f args w fun e w' => e = .returned e0 ∧ KT B x w w' ∧ LX nx gd gr gx gy x B room esP n esR D L w' :=
  hc.eq.mono fun e w' ⟨he, hN⟩ => ⟨he, KT.new h.le hN, h.new hN⟩
/-- What an entry's call answers, and what there is then. -/
def ptE (nx : (Nat → UInt8) → List UInt8 → Nat → UInt8) (room : Nat) (es : List (List UInt8)) (b : List UInt8) : Int := if b = [] then 1 else if (encL nx mkL hash0 (es ++ [b])).length ≤ room then 0 else 5
def ptS {α : Type} (nx : (Nat → UInt8) → List UInt8 → Nat → UInt8) (room : Nat) (es : List (List UInt8)) (b : List UInt8) (yes no : α) : α := if b = [] then no else if (encL nx mkL hash0 (es ++ [b])).length ≤ room then yes else no
theorem pPut (hX : LogH nx) (hT : Tables w) {es : List (List UInt8)} (h : LX nx gd gr gx gy x B room es n esR D L w) (u : Value) (b : List UInt8) (hu : RdV w [] u b) (hb : b.length ≤ 2000) : Calls Tryd.prog 14 #[.pointer (some ⟨gx, 0, none⟩), u] w fun e w' => e = .returned (.int .i64 (ptE nx room es b)) ∧ KT B x w w' ∧ LX nx gd gr gx gy x B room (ptS nx room es b (es ++ [b]) es) n esR D L w' := by
  unfold ptE ptS
  by_cases h0 : b = []
  · subst h0
    simp only [if_pos]
    exact h.eq (Put_arg gx u w hu)
  have hok : okE b := ⟨List.length_pos_iff.2 h0, hb⟩
  by_cases hl : (encL nx mkL hash0 (es ++ [b])).length ≤ room
  · simp only [if_neg h0, if_pos hl]
    exact h.p fun v hv => Put_ok hX gx gd v room es n u b w hT hv hu hok hl
  · simp only [if_neg h0, if_neg hl]
    obtain ⟨v, _, _, _, _, h9, _⟩ := id h
    exact h.eq (Put_full hX gx gd v room es n u b w hT h9.log hu hok (by omega))
theorem pAppend (hX : LogH nx) (hT : Tables w) {es : List (List UInt8)} (h : LX nx gd gr gx gy x B room es n esR D L w) (u : Value) (b : List UInt8) (hu : RdV w [] u b) (hb : b.length ≤ 2000) : Calls Tryd.prog 17 #[.pointer (some ⟨gx, 0, none⟩), u] w fun e w' => e = .returned (.int .i64 (ptE nx room es b)) ∧ KT B x w w' ∧ LX nx gd gr gx gy x B room (ptS nx room es b (es ++ [b]) es) (ptS nx room es b (encL nx mkL hash0 (es ++ [b])).length n) esR D L w' := by
  unfold ptE ptS
  by_cases h0 : b = []
  · subst h0
    simp only [if_pos]
    exact h.eq (Append_arg gx u w hu)
  have hok : okE b := ⟨List.length_pos_iff.2 h0, hb⟩
  by_cases hl : (encL nx mkL hash0 (es ++ [b])).length ≤ room
  · simp only [if_neg h0, if_pos hl]
    exact h.p fun v hv => Append_ok hX gx gd v room es n u b w hT hv hu hok hl
  · simp only [if_neg h0, if_neg hl]
    obtain ⟨v, _, _, _, _, h9, _⟩ := id h
    exact h.eq (Append_full hX gx gd v room es n u b w hT h9.log hu hok (by omega))
theorem rPut (hX : LogH nx) (hT : Tables w) {es : List (List UInt8)} (h : LX nx gd gr gx gy x B room esP n es D L w) (u : Value) (b : List UInt8) (hu : ∀ J : List Nat, (∀ k ∈ J, B ≤ k) → RdV w J u b) (hb : b.length ≤ 2000) (he : D ++ L = encL nx mkL hash0 es) (hF : (∀ e ∈ es, okE e) ∧ es.length ≤ 65536) :
    Calls Tryd.prog 15 #[.pointer (some ⟨gy, 0, none⟩), u] w fun e w' => e = .returned (.int .i64 (ptE nx room es b)) ∧ KT B x w w' ∧ LX nx gd gr gx gy x B room esP n (ptS nx room es b (es ++ [b]) es) D (ptS nx room es b (L ++ entL nx mkL (chL nx hash0 es) b) L) w' := by
  unfold ptE ptS
  by_cases h0 : b = []
  · subst h0
    simp only [if_pos]
    exact h.eq (RPut_arg gy u w (hu [] (by simp)))
  have hok : okE b := ⟨List.length_pos_iff.2 h0, hb⟩
  have hlen : (encL nx mkL hash0 (es ++ [b])).length = D.length + L.length + (entL nx mkL (chL nx hash0 es) b).length := by
    rw [encL_snoc, List.length_append, ← he, List.length_append]
  rw [hlen]
  have side : ∀ ps : List (Value × List UInt8), ps.map (·.2) = es → ps.length ≤ 65536 ∧ ∀ x ∈ ps, x.2.length ≤ 2000 := fun ps hp => by
    refine ⟨by rw [← hp, List.length_map] at hF; exact hF.2, fun y hy => (hF.1 y.2 ?_).2⟩
    rw [← hp]
    exact List.mem_map.2 ⟨y, hy, rfl⟩
  by_cases hl : D.length + L.length + (entL nx mkL (chL nx hash0 es) b).length ≤ room
  · simp only [if_neg h0, if_pos hl]
    refine h.r fun M vd vl vL ps hr hp hM => ?_
    have hs := side ps hp
    refine (RPut_ok hX gy gr M vd vl room D L vL ps u b w hT hr (fun k hk => (hM k hk).2) (hu _ (fun k hk => (hM k hk).1)) hok hs.1 hs.2 (by rw [hp]; exact hl)).mono ?_
    rintro e w' ⟨rfl, hR, vl', vL', y, hA⟩
    rw [hp] at hA
    exact ⟨rfl, hR, vd, vl', vL', _, hA, by rw [List.map_append, hp]; rfl⟩
  · simp only [if_neg h0, if_neg hl]
    obtain ⟨v, vd, vl, vL, ps, h9, _⟩ := id h
    have hs := side ps h9.es
    have hM := h9.blocks
    exact h.eq (RPut_full hX gy gr _ vd vl room D L vL ps u b w hT h9.ref (fun k hk => (hM k hk).2) (hu _ (fun k hk => (hM k hk).1)) hok hs.1 hs.2 (by rw [h9.es]; omega))
theorem rSync9 (h : LX nx gd gr gx gy x B room esP n esR D L w) : Calls Tryd.prog 16 #[.pointer (some ⟨gr, 0, none⟩)] w fun e w' => e = .returned (.tuple #[]) ∧ KT B x w w' ∧ LX nx gd gr gx gy x B room esP n esR (D ++ L) [] w' :=
  h.r fun M vd vl vL ps hr hp hM => (RSync_c gr (gy :: M) vd vl room D L w hr.disk (fun k hk => (hM k (by simp at hk ⊢; rcases hk with h | h | h <;> simp [h])).2)).mono fun e w' ⟨he, vd', hR, hA⟩ => ⟨he, RW.snd hR, vd', _, vL, ps, ⟨hR.keep.row (by simpa using hr.ne) hr.row, hA, hr.parts.keep (hR.keep.more (by simp)), hr.ne⟩, hp⟩
theorem LX.stx (h : LX nx gd gr gx gy x B room esP n esR D L w) : StX gd gr x B room (encL nx mkL hash0 esP) n D L w := by
  obtain ⟨v, vd, vl, vL, ps, h, hx, hxy, hxr, hxl⟩ := h
  refine ⟨v, vd, vl, h.log.disk, ⟨h.ref.disk.row, h.ref.disk.done.less ?_, h.ref.disk.late.less ?_, h.ref.disk.fits, h.ref.disk.room⟩, fun hm => h.ar (List.mem_cons_of_mem _ hm), fun hm => hx (List.mem_cons_of_mem _ hm), hxr, h.bd, h.br, hxl⟩
  all_goals simp +contextual
/-- The program's log is opened, the reference's isn't yet. -/
def OX (nx : (Nat → UInt8) → List UInt8 → Nat → UInt8) (gd gr gx x B room : Nat) (es : List (List UInt8)) (n : Nat) (D L : List UInt8) (lv : Value) (w : World) : Prop :=
  ∃ v vd vl ps, LogAt nx w gx gd v room es n ∧ RefAt w gr (gx :: gd :: v.ownBlock.toList) vd vl room D L ∧ gr ∉ gx :: gd :: v.ownBlock.toList ∧ x ∉ gx :: gd :: v.ownBlock.toList ∧ x ≠ gr ∧ B ≤ gd ∧ B ≤ gr ∧ x < w.heap.size ∧ PartsAt w (gr :: gx :: gd :: v.ownBlock.toList) lv ps ∧ ps.map (·.2) = es
theorem pOpen (hX : LogH nx) (hT : Tables w) {S : List UInt8} {es : List (List UInt8)} (h : StX gd gr x B room S n D L w) (he : IsLog nx mkL hash0 S es) (hB : 1 < B) : Calls Tryd.prog 11 #[.pointer (some ⟨gd, 0, none⟩)] w fun e w' => ∃ gx lv, e = .returned (.tuple #[.pointer (some ⟨gx, 0, none⟩), lv, .int .i64 0]) ∧ KT B x w w' ∧ OX nx gd gr gx x B room es (encL nx mkL hash0 es).length D L lv w' := by
  obtain ⟨v, vd, vl, h1, h2, h3, h4, h5, h6, h7, h8⟩ := h
  refine (Open_c hX gd v room S n w hT h1 es he (by omega)).mono ?_
  rintro e w' ⟨g, v', lv, ps, rfl, hg, hD, hA, hps, hP⟩
  have e1 := hD.apart h2.row.lt h3
  have e2 := hD.apart h8 h4
  have hgr : gr < w.heap.size := h2.row.lt
  refine ⟨g, lv, rfl, KT.of_d hD h6 h4, v', vd, vl, ps, hA, ⟨hD.row h3 h2.row, ?_, ?_, h2.fits, h2.room⟩, ?_, ?_, h5, h6, h7, Nat.lt_of_lt_of_le h8 hD.below.size, hP _ ?_, hps⟩
  · exact (LStep.of_d (g := g) hD).rdM (J := [gr]) (h2.done.more fun k hk hn => by simp at hn ⊢; exact ⟨hn.1, by omega, hn.2⟩)
  · exact (LStep.of_d (g := g) hD).rdM (J := [gr]) (h2.late.more fun k hk hn => by simp at hn ⊢; exact ⟨hn.1, by omega, hn.2⟩)
  · rw [List.mem_cons, not_or]; exact ⟨by omega, e1⟩
  · rw [List.mem_cons, not_or]; exact ⟨by omega, e2⟩
  · intro k hk
    rcases List.mem_cons.1 hk with rfl | hk
    · exact .inl hgr
    · rcases List.mem_cons.1 hk with rfl | hk
      · exact .inr (.inl rfl)
      · rcases List.mem_cons.1 hk with rfl | hk
        · exact .inl h1.lt
        · exact .inr (.inr (by simpa using hk))
theorem rOpen (hX : LogH nx) (hT : Tables w) {es : List (List UInt8)} {lv : Value} (h : OX nx gd gr gx x B room es n D L lv w) (he : IsLog nx mkL hash0 (D ++ L) es) : Calls Tryd.prog 13 #[.pointer (some ⟨gr, 0, none⟩)] w fun e w' => ∃ gy, e = .returned (.pointer (some ⟨gy, 0, none⟩)) ∧ KT B x w w' ∧ LX nx gd gr gx gy x B room es n es (encL nx mkL hash0 es) [] w' ∧ Parts w' lv es := by
  obtain ⟨v, vd, vl, ps, h1, h2, h3, h4, h5, h6, h7, h8, h9, h10⟩ := h
  have hM : ∀ k ∈ gr :: gx :: gd :: v.ownBlock.toList, k < w.heap.size := fun k hk => by
    rcases List.mem_cons.1 hk with rfl | hk
    · exact h2.row.lt
    · rcases List.mem_cons.1 hk with rfl | hk
      · exact h1.row.lt
      · rcases List.mem_cons.1 hk with rfl | hk
        · exact h1.disk.lt
        · exact (h1.disk.own.lt k (by simpa using hk)).2
  refine (ROpen_c hX gr _ vd vl room D L es w hT h2 hM he).mono ?_
  rintro e w' ⟨gy, rfl, hR, hgy, vd', vL, qs, hA, hqs⟩
  have hB : B ≤ w.heap.size := by have := hM gr (by simp); omega
  refine ⟨gy, rfl, KT.of_r hR h7 h5, ⟨v, vd', .slice none 0 0, vL, qs, ⟨h1.keep hR.keep (fun k hk hm => ?_), hA, hqs, fun hm => ?_, h3, h6, h7, by omega⟩, h4, by omega, h5, Nat.lt_of_lt_of_le h8 hR.size⟩, ⟨ps, (h9.keep (hR.keep.more (by simp))).more (fun k _ _ => by simp), h10⟩⟩
  · simp only [List.mem_cons, List.not_mem_nil, or_false] at hm
    subst hm; exact h3 hk
  · have := hM gy (List.mem_cons_of_mem _ hm); omega
end
end Go.Proofs.YtbejolbknimmmaaDoor
/- Records, on lists: which are right, their bytes, sealed and open; that sealed bytes tell right records apart, but for what redacting leaves out. No program is named here; the commitment is whatever function cm is. -/
namespace Go.Proofs.YtbejolbknimmmaaDoor
open Go
set_option maxRecDepth 8000
set_option linter.all false

/-- A record: its numbers, flags, hashes (their first 32 places), steps and payload. -/
structure Rc where
  kind : Int
  saga : Int
  seq : Int
  step : Int
  tr : Int
  back : Bool
  good : Bool
  nd : Int
  part : Int
  epoch : Int
  tag : Nat → UInt8
  steps : List (Int × Int)
  data : List UInt8
  salt : Nat → UInt8
  gone : Bool
  com : Nat → UInt8
/-- A hash as bytes. -/
def hL (d : Nat → UInt8) : List UInt8 := (List.range 32).map d
theorem hL_length (d : Nat → UInt8) : (hL d).length = 32 := by simp [hL]
def hZ (d : Nat → UInt8) : Bool := (List.range 32).all fun i => d i == 0
theorem hZ_hL (d : Nat → UInt8) (h : hZ d = true) : hL d = hL fun _ => 0 := by
  unfold hL
  exact List.map_congr_left fun i hi => by simpa using List.all_eq_true.1 h i hi
def inR (n lo hi : Int) : Bool := decide (lo ≤ n) && decide (n ≤ hi)
theorem inR_iff (n lo hi : Int) : inR n lo hi = true ↔ lo ≤ n ∧ n ≤ hi := by simp [inR]
def stepOk (s : Int × Int) : Bool := inR s.1 0 3 && inR s.2 1 3
/-- What a kind of record hasn't, of those that are no Begin. -/
def noBegin (x : Rc) : Bool := x.steps.isEmpty && x.data.isEmpty && hZ x.salt && !x.gone && hZ x.com
def noCall (x : Rc) : Bool := x.step == 0 && x.tr == 0 && !x.back
def noReceipt (x : Rc) : Bool := !x.good && hZ x.tag
def isCall (x : Rc) : Bool := inR x.seq 1 400 && inR x.step 0 5 && inR x.tr 1 9
/-- Is it right? -/
def rightB (x : Rc) : Bool :=
  if x.kind = 1 then inR x.saga 0 11 && x.seq == 0 && noCall x && noReceipt x && x.nd == 0 && x.part == 0 && x.epoch == 0 && inR x.steps.length 1 6 && x.steps.all stepOk && decide (x.data.length ≤ 60) && (if x.gone then x.data.isEmpty && hZ x.salt else hZ x.com)
  else if x.kind = 2 ∨ x.kind = 4 then inR x.saga 0 11 && isCall x && noReceipt x && x.nd == 0 && x.part == 0 && x.epoch == 0 && noBegin x
  else if x.kind = 3 then inR x.saga 0 11 && isCall x && x.nd == 0 && inR x.part 0 3 && inR x.epoch 0 400 && noBegin x
  else if x.kind = 5 then inR x.saga 0 11 && inR x.seq 1 400 && noCall x && noReceipt x && inR x.nd 2 4 && x.part == 0 && x.epoch == 0 && noBegin x
  else if x.kind = 6 then x.saga == 0 && x.seq == 0 && noCall x && noReceipt x && x.nd == 0 && inR x.part 0 3 && inR x.epoch 1 400 && noBegin x
  else false
section
variable (cm : (Nat → UInt8) → List UInt8 → Nat → UInt8)
/-- A Begin's commitment. -/
def comR (x : Rc) : Nat → UInt8 := if x.gone then x.com else cm x.salt x.data
def redact (x : Rc) : Rc := if x.kind = 1 then { x with gone := true, com := comR cm x, data := [], salt := fun _ => 0 } else x
def fB (b : Bool) : UInt8 := cond b 1 0
def stepsL (l : List (Int × Int)) : List UInt8 := l.flatMap fun s => numI s.1 ++ numI s.2
/-- What all calls' records begin with. -/
def callL (x : Rc) : List UInt8 := numI x.saga ++ (numI x.seq ++ (numI x.step ++ (numI x.tr ++ [fB x.back])))
def tailL (x : Rc) (com : List UInt8) : List UInt8 :=
  if x.kind = 1 then numI x.saga ++ (numI x.steps.length ++ (stepsL x.steps ++ com))
  else if x.kind = 2 ∨ x.kind = 4 then callL x
  else if x.kind = 3 then callL x ++ (fB x.good :: (numI x.part ++ (numI x.epoch ++ hL x.tag)))
  else if x.kind = 5 then numI x.saga ++ (numI x.seq ++ numI x.nd)
  else numI x.part ++ numI x.epoch
/-- Sealed bytes. -/
def sealedL (x : Rc) : List UInt8 := numI x.kind ++ tailL x (hL (comR cm x))
def payL (x : Rc) : List UInt8 := fB x.gone :: (if x.gone then hL x.com else hL x.salt ++ (numI x.data.length ++ x.data))
/-- Open bytes. -/
def openL (x : Rc) : List UInt8 := numI x.kind ++ tailL x (payL x)
/-- The same all through. -/
structure SameR (x y : Rc) : Prop where
  kind : x.kind = y.kind
  saga : x.saga = y.saga
  seq : x.seq = y.seq
  step : x.step = y.step
  tr : x.tr = y.tr
  back : x.back = y.back
  good : x.good = y.good
  nd : x.nd = y.nd
  part : x.part = y.part
  epoch : x.epoch = y.epoch
  tag : hL x.tag = hL y.tag
  steps : x.steps = y.steps
  data : x.data = y.data
  salt : hL x.salt = hL y.salt
  gone : x.gone = y.gone
  com : hL x.com = hL y.com
theorem num_cancel {m n : Int} {r s : List UInt8} (hm : 0 ≤ m ∧ m ≤ 2147483647) (hn : 0 ≤ n ∧ n ≤ 2147483647) (h : numI m ++ r = numI n ++ s) : m = n ∧ r = s := by
  obtain ⟨a, rfl⟩ := Int.eq_ofNat_of_zero_le hm.1
  obtain ⟨b, rfl⟩ := Int.eq_ofNat_of_zero_le hn.1
  rw [numI_nat a (by omega), numI_nat b (by omega)] at h
  have h1 := goN_put a (by omega) r
  rw [h, goN_put b (by omega) s] at h1
  simp only [Prod.mk.injEq] at h1
  obtain ⟨rfl, _⟩ := h1
  exact ⟨rfl, List.append_cancel_left h⟩
theorem fB_inj {a b : Bool} (h : fB a = fB b) : a = b := by cases a <;> cases b <;> first | rfl | (exact absurd h (by decide))
theorem steps_cancel : ∀ {l m : List (Int × Int)} {r s : List UInt8}, l.length = m.length → l.all stepOk = true → m.all stepOk = true → stepsL l ++ r = stepsL m ++ s → l = m ∧ r = s
  | [], [], r, s, _, _, _, h => ⟨rfl, h⟩
  | [], _ :: _, _, _, hl, _, _, _ => by simp at hl
  | _ :: _, [], _, _, hl, _, _, _ => by simp at hl
  | (a, b) :: l, (c, d) :: m, r, s, hl, h1, h2, h => by
    simp only [List.all_cons, Bool.and_eq_true, stepOk, inR_iff] at h1 h2
    simp only [stepsL, List.flatMap_cons, List.append_assoc] at h
    obtain ⟨e1, h⟩ := num_cancel (by omega) (by omega) h
    obtain ⟨e2, h⟩ := num_cancel (by omega) (by omega) h
    obtain ⟨e3, h⟩ := steps_cancel (by simpa using hl) h1.2 h2.2 h
    rw [e1, e2, e3]
    exact ⟨rfl, h⟩
theorem right_kind (x : Rc) (h : rightB x = true) : 1 ≤ x.kind ∧ x.kind ≤ 6 := by
  unfold rightB at h
  split at h
  · omega
  · split at h
    · omega
    · split at h
      · omega
      · split at h
        · omega
        · split at h
          · omega
          · cases h
theorem comR_redact (x : Rc) (h : x.kind = 1) : comR cm (redact cm x) = comR cm x := by
  unfold redact
  rw [if_pos h]
  show (if true = true then comR cm x else _) = _
  rw [if_pos rfl]
/-- What is redacted has the same sealed bytes. -/
theorem sealed_redact (x : Rc) : sealedL cm (redact cm x) = sealedL cm x := by
  by_cases h : x.kind = 1
  · unfold sealedL
    rw [comR_redact cm x h]
    unfold redact
    rw [if_pos h]
    rfl
  · unfold redact
    rw [if_neg h]
theorem redact_redact (x : Rc) : SameR (redact cm (redact cm x)) (redact cm x) := by
  by_cases h : x.kind = 1
  · have h2 : (redact cm x).kind = 1 := by unfold redact; rw [if_pos h]; exact h
    have e : redact cm (redact cm x) = { redact cm x with gone := true, com := comR cm (redact cm x), data := [], salt := fun _ => 0 } := by rw [redact, if_pos h2]
    rw [e, comR_redact cm x h]
    unfold redact
    rw [if_pos h]
    exact ⟨rfl, rfl, rfl, rfl, rfl, rfl, rfl, rfl, rfl, rfl, rfl, rfl, rfl, rfl, rfl, rfl⟩
  · have e : redact cm x = x := by unfold redact; rw [if_neg h]
    rw [e, e]
    exact ⟨rfl, rfl, rfl, rfl, rfl, rfl, rfl, rfl, rfl, rfl, rfl, rfl, rfl, rfl, rfl, rfl⟩
theorem right_redact (x : Rc) (h : rightB x = true) : rightB (redact cm x) = true := by
  unfold redact
  by_cases h1 : x.kind = 1
  · rw [if_pos h1]
    unfold rightB at h ⊢
    rw [if_pos h1] at h
    rw [if_pos h1]
    simp only [Bool.and_eq_true] at h ⊢
    obtain ⟨⟨h, _⟩, _⟩ := h
    refine ⟨⟨h, by simp⟩, ?_⟩
    simp [hZ]
  · rw [if_neg h1]; exact h
/-- Sealed bytes hang on the redacted record alone. -/
theorem sealed_same {x y : Rc} (h : SameR (redact cm x) (redact cm y)) : sealedL cm x = sealedL cm y := by
  rw [← sealed_redact cm x, ← sealed_redact cm y]
  have hk := h.kind
  have hc : x.kind = y.kind := by
    have a : ∀ z : Rc, (redact cm z).kind = z.kind := fun z => by unfold redact; split <;> rfl
    rw [a, a] at hk; exact hk
  have hcom : (redact cm x).kind = 1 → hL (comR cm (redact cm x)) = hL (comR cm (redact cm y)) := fun h1 => by
    have hx1 : x.kind = 1 := by
      have a : (redact cm x).kind = x.kind := by unfold redact; split <;> rfl
      rw [← a]; exact h1
    have a : ∀ z : Rc, z.kind = 1 → (redact cm z).com = comR cm (redact cm z) := fun z hz => by
      rw [comR_redact cm z hz]; unfold redact; rw [if_pos hz]
    rw [← a x hx1, ← a y (hc ▸ hx1)]
    exact h.com
  generalize redact cm x = u at *
  generalize redact cm y = v at *
  unfold sealedL tailL callL
  rw [h.kind, h.saga, h.seq, h.step, h.tr, h.back, h.good, h.nd, h.part, h.epoch, h.tag, h.steps]
  by_cases h1 : v.kind = 1
  · rw [if_pos h1, if_pos h1, hcom (h.kind ▸ h1)]
  · rw [if_neg h1, if_neg h1]
theorem open_same {x y : Rc} (h : SameR x y) : openL x = openL y := by
  unfold openL tailL callL payL
  rw [h.kind, h.saga, h.seq, h.step, h.tr, h.back, h.good, h.nd, h.part, h.epoch, h.tag, h.steps, h.gone, h.com, h.salt, h.data]
/-- Sealed bytes tell right records apart, but for what redacting leaves out. -/
theorem sealed_inj {x y : Rc} (hx : rightB x = true) (hy : rightB y = true) (h : sealedL cm x = sealedL cm y) : SameR (redact cm x) (redact cm y) := by
  have kx := right_kind x hx
  have ky := right_kind y hy
  unfold sealedL at h
  obtain ⟨ek, h⟩ := num_cancel (by omega) (by omega) h
  unfold tailL at h
  unfold rightB at hx hy
  unfold redact
  rw [← ek] at h hy ⊢
  by_cases k1 : x.kind = 1
  · rw [if_pos k1] at h hx hy
    rw [if_pos k1] at h
    rw [if_pos k1, if_pos k1]
    simp only [Bool.and_eq_true, inR_iff, noCall, noReceipt, beq_iff_eq, decide_eq_true_eq, Bool.not_eq_true'] at hx hy
    obtain ⟨⟨⟨⟨⟨⟨⟨⟨⟨⟨a1, a2⟩, ⟨a3, a4⟩, a5⟩, a6, a7⟩, a8⟩, a9⟩, a10⟩, a11⟩, a12⟩, a13⟩, a14⟩ := hx
    obtain ⟨⟨⟨⟨⟨⟨⟨⟨⟨⟨b1, b2⟩, ⟨b3, b4⟩, b5⟩, b6, b7⟩, b8⟩, b9⟩, b10⟩, b11⟩, b12⟩, b13⟩, b14⟩ := hy
    obtain ⟨e1, h⟩ := num_cancel (by omega) (by omega) h
    obtain ⟨e2, h⟩ := num_cancel (by omega) (by omega) h
    obtain ⟨e3, h⟩ := steps_cancel (by omega) a12 b12 h
    exact ⟨rfl, e1, a2.trans b2.symm, a3.trans b3.symm, a4.trans b4.symm, a5.trans b5.symm, a6.trans b6.symm, a8.trans b8.symm, a9.trans b9.symm, a10.trans b10.symm, (hZ_hL _ a7).trans (hZ_hL _ b7).symm, e3, rfl, rfl, rfl, h⟩
  rw [if_neg k1] at h hx hy
  rw [if_neg k1] at h
  rw [if_neg k1, if_neg k1]
  by_cases k2 : x.kind = 2 ∨ x.kind = 4
  · rw [if_pos k2] at h hx hy
    rw [if_pos k2] at h
    simp only [Bool.and_eq_true, inR_iff, isCall, noReceipt, noBegin, beq_iff_eq, Bool.not_eq_true', List.isEmpty_iff] at hx hy
    obtain ⟨⟨⟨⟨⟨⟨a1, ⟨a2, a3⟩, a4⟩, a5, a6⟩, a7⟩, a8⟩, a9⟩, ⟨⟨⟨a10, a11⟩, a12⟩, a13⟩, a14⟩ := hx
    obtain ⟨⟨⟨⟨⟨⟨b1, ⟨b2, b3⟩, b4⟩, b5, b6⟩, b7⟩, b8⟩, b9⟩, ⟨⟨⟨b10, b11⟩, b12⟩, b13⟩, b14⟩ := hy
    unfold callL at h
    obtain ⟨e1, h⟩ := num_cancel (by omega) (by omega) h
    obtain ⟨e2, h⟩ := num_cancel (by omega) (by omega) h
    obtain ⟨e3, h⟩ := num_cancel (by omega) (by omega) h
    obtain ⟨e4, h⟩ := num_cancel (by omega) (by omega) h
    exact ⟨ek, e1, e2, e3, e4, fB_inj (by simpa using h), a5.trans b5.symm, a7.trans b7.symm, a8.trans b8.symm, a9.trans b9.symm, (hZ_hL _ a6).trans (hZ_hL _ b6).symm, a10.trans b10.symm, a11.trans b11.symm, (hZ_hL _ a12).trans (hZ_hL _ b12).symm, a13.trans b13.symm, (hZ_hL _ a14).trans (hZ_hL _ b14).symm⟩
  rw [if_neg k2] at h hx hy
  rw [if_neg k2] at h
  by_cases k3 : x.kind = 3
  · rw [if_pos k3] at h hx hy
    rw [if_pos k3] at h
    simp only [Bool.and_eq_true, inR_iff, isCall, noBegin, beq_iff_eq, Bool.not_eq_true', List.isEmpty_iff] at hx hy
    obtain ⟨⟨⟨⟨⟨a1, ⟨a2, a3⟩, a4⟩, a7⟩, a8⟩, a9⟩, ⟨⟨⟨a10, a11⟩, a12⟩, a13⟩, a14⟩ := hx
    obtain ⟨⟨⟨⟨⟨b1, ⟨b2, b3⟩, b4⟩, b7⟩, b8⟩, b9⟩, ⟨⟨⟨b10, b11⟩, b12⟩, b13⟩, b14⟩ := hy
    unfold callL at h
    simp only [List.append_assoc] at h
    obtain ⟨e1, h⟩ := num_cancel (by omega) (by omega) h
    obtain ⟨e2, h⟩ := num_cancel (by omega) (by omega) h
    obtain ⟨e3, h⟩ := num_cancel (by omega) (by omega) h
    obtain ⟨e4, h⟩ := num_cancel (by omega) (by omega) h
    simp only [List.cons_append, List.nil_append, List.cons.injEq] at h
    obtain ⟨e5, e6, h⟩ := h
    obtain ⟨e7, h⟩ := num_cancel (by omega) (by omega) h
    obtain ⟨e8, h⟩ := num_cancel (by omega) (by omega) h
    exact ⟨ek, e1, e2, e3, e4, fB_inj e5, fB_inj e6, a7.trans b7.symm, e7, e8, h, a10.trans b10.symm, a11.trans b11.symm, (hZ_hL _ a12).trans (hZ_hL _ b12).symm, a13.trans b13.symm, (hZ_hL _ a14).trans (hZ_hL _ b14).symm⟩
  rw [if_neg k3] at h hx hy
  rw [if_neg k3] at h
  by_cases k5 : x.kind = 5
  · rw [if_pos k5] at h hx hy
    rw [if_pos k5] at h
    simp only [Bool.and_eq_true, inR_iff, noCall, noReceipt, noBegin, beq_iff_eq, Bool.not_eq_true', List.isEmpty_iff] at hx hy
    obtain ⟨⟨⟨⟨⟨⟨⟨a1, a2⟩, ⟨a3, a4⟩, a5⟩, a6, a7⟩, a8⟩, a9⟩, aA⟩, ⟨⟨⟨a10, a11⟩, a12⟩, a13⟩, a14⟩ := hx
    obtain ⟨⟨⟨⟨⟨⟨⟨b1, b2⟩, ⟨b3, b4⟩, b5⟩, b6, b7⟩, b8⟩, b9⟩, bA⟩, ⟨⟨⟨b10, b11⟩, b12⟩, b13⟩, b14⟩ := hy
    obtain ⟨e1, h⟩ := num_cancel (by omega) (by omega) h
    obtain ⟨e2, h⟩ := num_cancel (by omega) (by omega) h
    obtain ⟨e3, _⟩ := num_cancel (r := []) (s := []) (m := x.nd) (n := y.nd) (by omega) (by omega) (by simpa using h)
    exact ⟨ek, e1, e2, a3.trans b3.symm, a4.trans b4.symm, a5.trans b5.symm, a6.trans b6.symm, e3, a9.trans b9.symm, aA.trans bA.symm, (hZ_hL _ a7).trans (hZ_hL _ b7).symm, a10.trans b10.symm, a11.trans b11.symm, (hZ_hL _ a12).trans (hZ_hL _ b12).symm, a13.trans b13.symm, (hZ_hL _ a14).trans (hZ_hL _ b14).symm⟩
  rw [if_neg k5] at h hx hy
  rw [if_neg k5] at h
  have k6 : x.kind = 6 := by omega
  rw [if_pos k6] at hx hy
  simp only [Bool.and_eq_true, inR_iff, noCall, noReceipt, noBegin, beq_iff_eq, Bool.not_eq_true', List.isEmpty_iff] at hx hy
  obtain ⟨⟨⟨⟨⟨⟨⟨a1, a2⟩, ⟨a3, a4⟩, a5⟩, a6, a7⟩, a8⟩, a9⟩, aA⟩, ⟨⟨⟨a10, a11⟩, a12⟩, a13⟩, a14⟩ := hx
  obtain ⟨⟨⟨⟨⟨⟨⟨b1, b2⟩, ⟨b3, b4⟩, b5⟩, b6, b7⟩, b8⟩, b9⟩, bA⟩, ⟨⟨⟨b10, b11⟩, b12⟩, b13⟩, b14⟩ := hy
  obtain ⟨e1, h⟩ := num_cancel (by omega) (by omega) h
  obtain ⟨e3, _⟩ := num_cancel (r := []) (s := []) (m := x.epoch) (n := y.epoch) (by omega) (by omega) (by simpa using h)
  exact ⟨ek, a1.trans b1.symm, a2.trans b2.symm, a3.trans b3.symm, a4.trans b4.symm, a5.trans b5.symm, a6.trans b6.symm, a8.trans b8.symm, e1, e3, (hZ_hL _ a7).trans (hZ_hL _ b7).symm, a10.trans b10.symm, a11.trans b11.symm, (hZ_hL _ a12).trans (hZ_hL _ b12).symm, a13.trans b13.symm, (hZ_hL _ a14).trans (hZ_hL _ b14).symm⟩
theorem sealed_iff {x y : Rc} (hx : rightB x = true) (hy : rightB y = true) : sealedL cm x = sealedL cm y ↔ SameR (redact cm x) (redact cm y) := ⟨sealed_inj cm hx hy, sealed_same cm⟩
theorem numI_small (k : Int) (h : 0 ≤ k) (h2 : k < 128) : numI k = [uB k.toNat] := by
  unfold numI numL
  rw [if_pos (by omega), if_pos (by omega)]
theorem open_other (x : Rc) (h : x.kind ≠ 1) : openL x = sealedL cm x := by
  unfold openL sealedL tailL
  rw [if_neg h, if_neg h]
theorem open_length (x : Rc) (h : x.kind = 1) : (openL x).length = (sealedL cm x).length + (if x.gone then 1 else 1 + (numI x.data.length).length + x.data.length) := by
  unfold openL sealedL tailL payL
  rw [if_pos h, if_pos h]
  cases x.gone
  · simp [hL_length]; omega
  · simp [hL_length]; omega
theorem numI_pos (n : Nat) (h : n ≤ 2147483647) : 1 ≤ (numI (n : Int)).length := by rw [numI_nat n h, numL_length]; exact sz_pos n
end
end Go.Proofs.YtbejolbknimmmaaDoor
/- A record that came in, opened: a struct by value of 109 cells, read as a record on lists. No program is named here but by its facts on types. -/
namespace Go.Proofs.YtbejolbknimmmaaDoor
open Go Go.ChangeShapes Go.WideShapes Go.ChangeAt Go.WideMaps Go.WideElems Go.RowKit
set_option maxRecDepth 8000
set_option linter.all false

section
variable {H : Type} {enc : TypeId × Value → H} {P : Program} {w : World} {base : Nat} {spare : Nat → Bool} {held : Bool}
theorem open_fields {r : Reach} {b0 : Nat} {t : TypeId} {fs : Array Field} {v : Value} {d : DataW H} {p : List MemPlace} (hs : P.underlying t = some (.struct fs)) (hv : Value.okWide P w r b0 t v) (h : DataW.Trod enc P w base spare held t v d p) :
    ∃ (cs : Array Value) (n : Nat), v = .agg cs ∧ cs.size = P.cellsOf t ∧ ∀ (i : Nat) (f : Field), fs[i]? = some f → ∃ y, DataW.trod enc P w base spare held n f.type ((cs.toList.drop f.offset).take (P.cellsOf f.type)) = some y := by
  obtain ⟨cs, rfl, hsz⟩ := okWide_struct hs hv
  obtain ⟨fuel, hf⟩ := h
  obtain ⟨xs, n, _, _, _, hl, hx⟩ := DataW.trod_struct hs hf
  refine ⟨cs, n, rfl, hsz, fun i f hi => ?_⟩
  have hlt : i < xs.length := by rw [hl]; exact (Array.getElem?_eq_some_iff.1 hi).1
  exact ⟨xs[i], by rw [← List.getElem?_eq_getElem hlt]; exact hx i f hi⟩
theorem take_one {cs : Array Value} {o : Nat} {c : Value} (h : (cs.toList.drop o).take 1 = [c]) : cs[o]? = some c := by
  have := congrArg (·[0]?) h
  simpa using this
variable {n : Nat} {ty : TypeId} {o : Nat} {cs : Array Value}
theorem field_int {k : IntKind} (hT : P.underlying ty = some (.int k)) (hc : P.cellsOf ty = 1) (h : ∃ y, DataW.trod enc P w base spare held n ty ((cs.toList.drop o).take (P.cellsOf ty)) = some y) : ∃ z, cs[o]? = some (.int k z) ∧ (Lit.int k z).wf = true := by
  obtain ⟨y, h⟩ := h
  obtain ⟨z, hz, _, hw⟩ := DataW.trod_int hT h
  rw [hc] at hz
  exact ⟨z, take_one hz, hw⟩
theorem field_bool (hT : P.underlying ty = some .bool) (hc : P.cellsOf ty = 1) (h : ∃ y, DataW.trod enc P w base spare held n ty ((cs.toList.drop o).take (P.cellsOf ty)) = some y) : ∃ b, cs[o]? = some (.bool b) := by
  obtain ⟨y, h⟩ := h
  obtain ⟨b, hb, _⟩ := DataW.trod_bool hT h
  rw [hc] at hb
  exact ⟨b, take_one hb⟩
theorem field_hash {e : TypeId} {m : Nat} (hT : P.underlying ty = some (.array m e)) (he : P.underlying e = some (.int .u8)) (hc : P.cellsOf ty = m) (hce : P.cellsOf e = 1) (h : ∃ y, DataW.trod enc P w base spare held n ty ((cs.toList.drop o).take (P.cellsOf ty)) = some y) : ∃ d : Nat → UInt8, ∀ i, i < m → cs[o + i]? = some (.int .u8 (bN (d i))) := by
  obtain ⟨y, h⟩ := h
  obtain ⟨xs, n', _, _, hl, hxl, hel⟩ := DataW.trod_array hT h
  have hall : ∀ i, i < m → ∃ z, cs[o + i]? = some (.int .u8 z) ∧ (Lit.int .u8 z).wf = true := fun i hi => by
    have h1 := hel i hi
    rw [hce, Nat.mul_one, List.getElem?_eq_getElem (by omega)] at h1
    obtain ⟨z, hz, _, hw⟩ := DataW.trod_int he h1
    refine ⟨z, ?_, hw⟩
    have := congrArg (·[0]?) hz
    rw [hc] at this
    simpa [List.getElem?_take, List.getElem?_drop, hi] using this
  refine ⟨fun i => match cs[o + i]? with | some (.int _ z) => UInt8.ofNat z.toNat | _ => 0, fun i hi => ?_⟩
  obtain ⟨z, hz, hw⟩ := hall i hi
  have hb := bounds_u8 hw
  simp only [hz]
  unfold bN
  rw [UInt8.toNat_ofNat']
  congr 2
  omega
theorem field_bytes {e : TypeId} (hT : P.underlying ty = some (.slice e)) (he : P.underlying e = some (.int .u8)) (hc : P.cellsOf ty = 1) (hce : P.cellsOf e = 1) (h : ∃ y, DataW.trod enc P w base spare held n ty ((cs.toList.drop o).take (P.cellsOf ty)) = some y) : ∃ v l, cs[o]? = some v ∧ RdV w [] v l := by
  obtain ⟨y, h⟩ := h
  rw [hc] at h
  rcases open_ints hT he hce h with ⟨hcs, _⟩ | ⟨a, len, cap, zs, hcs, _, hl, hm, hz, _, hcell, hwz⟩
  · exact ⟨_, [], take_one hcs, none, 0, rfl, by simp, by unfold maxLen; omega, fun h0 => absurd h0 (by simp)⟩
  · have hlz : len ≤ zs.length := by rw [hz]; split <;> omega
    have hlen : ((zs.take len).map fun z => UInt8.ofNat z.toNat).length = len := by simp; omega
    refine ⟨_, (zs.take len).map fun z => UInt8.ofNat z.toNat, take_one hcs, some a, cap, by rw [hlen], by rw [hlen]; exact hl, hm, fun h0 => ?_⟩
    rw [hlen] at h0
    obtain ⟨b, off, rfl, hc⟩ := ints_at hcell (by omega)
    refine ⟨b, off, rfl, by simp, fun i hi => ?_⟩
    rw [hlen] at hi
    rw [hc i (by omega)]
    have hzi : zs[i]? = some zs[i] := List.getElem?_eq_getElem (by omega)
    have hb := bounds_u8 (hwz zs[i] (List.getElem_mem (by omega)))
    have e1 : bAt ((zs.take len).map fun z => UInt8.ofNat z.toNat) i = UInt8.ofNat zs[i].toNat := by simp [bAt, hi, hzi]
    rw [e1]
    unfold bN
    rw [UInt8.toNat_ofNat']
    simp [List.getD, hzi]
    omega
/-- A slice of pairs of numbers reads as l. -/
def RdP (W : World) (v : Value) (l : List (Int × Int)) : Prop :=
  ∃ A cap, v = .slice A l.length cap ∧ l.length ≤ cap ∧ cap ≤ maxLen ∧ (0 < l.length → ∃ b o, A = some ⟨b, o, none⟩ ∧ ∀ i, i < l.length → W.cell? ⟨b, o + 2 * i, none⟩ = some (.int .i64 (l.getD i (0, 0)).1) ∧ W.cell? ⟨b, o + 2 * i + 1, none⟩ = some (.int .i64 (l.getD i (0, 0)).2))
theorem NewT.pairs {w w' : World} (h : NewT w w') {v : Value} {l : List (Int × Int)} (hr : RdP w v l) : RdP w' v l := by
  obtain ⟨A, cap, hv, h1, h2, h3⟩ := hr
  refine ⟨A, cap, hv, h1, h2, fun h0 => ?_⟩
  obtain ⟨b, o, hA, hc⟩ := h3 h0
  refine ⟨b, o, hA, fun i hi => ⟨?_, ?_⟩⟩
  · exact (h.out.cell (p := ⟨b, o + 2 * i, none⟩) (World.block_lt_of_cell? _ _ (hc i hi).1)).trans (hc i hi).1
  · exact (h.out.cell (p := ⟨b, o + 2 * i + 1, none⟩) (World.block_lt_of_cell? _ _ (hc i hi).2)).trans (hc i hi).2
theorem field_pairs {e : TypeId} {f0 f1 : Field} (hT : P.underlying ty = some (.slice e)) (he : P.underlying e = some (.struct #[f0, f1])) (ce : P.cellsOf e = 2) (o0 : f0.offset = 0) (o1 : f1.offset = 1) (c0 : P.cellsOf f0.type = 1) (c1 : P.cellsOf f1.type = 1)
    (t0 : P.underlying f0.type = some (.int .i64)) (t1 : P.underlying f1.type = some (.int .i64)) (hc : P.cellsOf ty = 1) (h : ∃ y, DataW.trod enc P w base spare held n ty ((cs.toList.drop o).take (P.cellsOf ty)) = some y) : ∃ v l, cs[o]? = some v ∧ RdP w v l := by
  obtain ⟨y, h⟩ := h
  rw [hc] at h
  rcases Go.Deep.open_slice_pairs hT he ce o0 o1 c0 c1 h with ⟨hcs, _⟩ | ⟨a, len, cap, m, n', V0, V1, D0, D1, P0, P1, hcs, _, hl, hm, hmm, _, hx⟩
  · exact ⟨_, [], take_one hcs, none, 0, rfl, by simp, by unfold maxLen; omega, fun h0 => absurd h0 (by simp)⟩
  · have hlm : len ≤ m := by rw [hmm]; split <;> omega
    have hi : ∀ i, i < len → ∃ z0 z1, V0 i = .int .i64 z0 ∧ V1 i = .int .i64 z1 := fun i hi => by
      obtain ⟨_, _, h0, h1⟩ := hx i (by omega)
      obtain ⟨z0, e0, _⟩ := DataW.trod_int t0 h0
      obtain ⟨z1, e1, _⟩ := DataW.trod_int t1 h1
      exact ⟨z0, z1, by simpa using e0, by simpa using e1⟩
    let g : Nat → Int × Int := fun i => (match V0 i with | .int _ z => z | _ => 0, match V1 i with | .int _ z => z | _ => 0)
    have hlen : ((List.range len).map g).length = len := by simp
    refine ⟨_, (List.range len).map g, take_one hcs, some a, cap, by rw [hlen], by rw [hlen]; exact hl, hm, fun h0 => ?_⟩
    rw [hlen] at h0
    obtain ⟨b, off, spot⟩ := a
    have hspot : spot = none := by simpa [Addr.add] using World.cell?_spot (hx 0 (by omega)).1
    subst hspot
    refine ⟨b, off, rfl, fun i hil => ?_⟩
    rw [hlen] at hil
    obtain ⟨k0, k1, _, _⟩ := hx i (by omega)
    obtain ⟨z0, z1, e0, e1⟩ := hi i hil
    have hg : ((List.range len).map g).getD i (0, 0) = (z0, z1) := by simp [hil, g, e0, e1]
    rw [hg]
    rw [Go.WideShapes.add_plain, e0] at k0
    rw [Go.WideShapes.add_plain, e1] at k1
    refine ⟨by rw [Nat.mul_comm 2 i]; exact k0, by rw [Nat.mul_comm 2 i, Nat.add_assoc]; exact k1⟩
end
/-- The cells of a record. -/
def recF (x : Rc) (sv dv : Value) (i : Nat) : Value :=
  if i < 10 then (if i = 0 then .int .i64 x.kind else if i = 1 then .int .i64 x.saga else if i = 2 then .int .i64 x.seq else if i = 3 then .int .i64 x.step else if i = 4 then .int .i64 x.tr else if i = 5 then .bool x.back else if i = 6 then .bool x.good else if i = 7 then .int .i64 x.nd else if i = 8 then .int .i64 x.part else .int .i64 x.epoch)
  else if i < 42 then bF x.tag (i - 10) else if i = 42 then sv else if i = 43 then dv else if i < 76 then bF x.salt (i - 44) else if i = 76 then .bool x.gone else bF x.com (i - 77)
/-- A value that is a record. -/
def RecV (w : World) (v : Value) (x : Rc) : Prop := ∃ sv dv, v = .agg (rowA 109 (recF x sv dv)) ∧ RdP w sv x.steps ∧ RdV w [] dv x.data
theorem NewT.recV {w w' : World} (h : NewT w w') {v : Value} {x : Rc} (hr : RecV w v x) : RecV w' v x := by
  obtain ⟨sv, dv, h1, h2, h3⟩ := hr
  exact ⟨sv, dv, h1, h.pairs h2, h.rd h3⟩
/-- What a program's types must say of a record's 16 fields. -/
structure RecTy (P : Program) (t : TypeId) : Prop where
  fields : ∃ fs : Array Field, P.underlying t = some (.struct fs) ∧ P.cellsOf t = 109 ∧
    (∀ i, i ∈ [0, 1, 2, 3, 4, 7, 8, 9] → ∃ f, fs[i]? = some f ∧ f.offset = i ∧ P.underlying f.type = some (.int .i64) ∧ P.cellsOf f.type = 1) ∧
    (∀ i, i ∈ [(5, 5), (6, 6), (14, 76)] → ∃ f, fs[i.1]? = some f ∧ f.offset = i.2 ∧ P.underlying f.type = some .bool ∧ P.cellsOf f.type = 1) ∧
    (∀ i, i ∈ [(10, 10), (13, 44), (15, 77)] → ∃ f e, fs[i.1]? = some f ∧ f.offset = i.2 ∧ P.underlying f.type = some (.array 32 e) ∧ P.underlying e = some (.int .u8) ∧ P.cellsOf f.type = 32 ∧ P.cellsOf e = 1) ∧
    (∃ f e f0 f1, fs[11]? = some f ∧ f.offset = 42 ∧ P.underlying f.type = some (.slice e) ∧ P.underlying e = some (.struct #[f0, f1]) ∧ P.cellsOf e = 2 ∧ f0.offset = 0 ∧ f1.offset = 1 ∧ P.cellsOf f0.type = 1 ∧ P.cellsOf f1.type = 1 ∧ P.underlying f0.type = some (.int .i64) ∧ P.underlying f1.type = some (.int .i64) ∧ P.cellsOf f.type = 1) ∧
    (∃ f e, fs[12]? = some f ∧ f.offset = 43 ∧ P.underlying f.type = some (.slice e) ∧ P.underlying e = some (.int .u8) ∧ P.cellsOf f.type = 1 ∧ P.cellsOf e = 1)
set_option maxHeartbeats 1000000 in
theorem open_rec {H : Type} {enc : TypeId × Value → H} {P : Program} {w : World} {base : Nat} {spare : Nat → Bool} {held : Bool} {r : Reach} {b0 : Nat} {t : TypeId} {v : Value} {d : DataW H} {p : List MemPlace} (ht : RecTy P t) (hv : Value.okWide P w r b0 t v) (h : DataW.Trod enc P w base spare held t v d p) :
    ∃ x : Rc, RecV w v x ∧ ∀ z, z ∈ [x.kind, x.saga, x.seq, x.step, x.tr, x.nd, x.part, x.epoch] → (Lit.int .i64 z).wf = true := by
  obtain ⟨fs, hs, hct, hint, hbool, hhash, ⟨fS, eS, f0, f1, iS, oS, tS, teS, ceS, o0, o1, c0, c1, t0, t1, cS⟩, ⟨fD, eD, iD, oD, tD, teD, cD, ceD⟩⟩ := ht.fields
  obtain ⟨cs, n, rfl, hsz, hf⟩ := open_fields hs hv h
  rw [hct] at hsz
  have gi : ∀ i, i ∈ [0, 1, 2, 3, 4, 7, 8, 9] → ∃ z, cs[i]? = some (.int .i64 z) ∧ (Lit.int .i64 z).wf = true := fun i hi => by
    obtain ⟨f, h1, h2, h3, h4⟩ := hint i hi
    have := hf i f h1
    rw [h2] at this
    exact field_int h3 h4 this
  have gb : ∀ i, i ∈ [(5, 5), (6, 6), (14, 76)] → ∃ b, cs[i.2]? = some (.bool b) := fun i hi => by
    obtain ⟨f, h1, h2, h3, h4⟩ := hbool i hi
    have := hf i.1 f h1
    rw [h2] at this
    exact field_bool h3 h4 this
  have gh : ∀ i, i ∈ [(10, 10), (13, 44), (15, 77)] → ∃ d : Nat → UInt8, ∀ j, j < 32 → cs[i.2 + j]? = some (.int .u8 (bN (d j))) := fun i hi => by
    obtain ⟨f, e, h1, h2, h3, h4, h5, h6⟩ := hhash i hi
    have := hf i.1 f h1
    rw [h2] at this
    exact field_hash h3 h4 h5 h6 this
  have gS := hf 11 fS iS
  rw [oS] at gS
  obtain ⟨sv, ls, hS, rS⟩ := field_pairs tS teS ceS o0 o1 c0 c1 t0 t1 cS gS
  have gD := hf 12 fD iD
  rw [oD] at gD
  obtain ⟨dv, ld, hD, rD⟩ := field_bytes tD teD cD ceD gD
  obtain ⟨z0, k0, w0⟩ := gi 0 (by simp)
  obtain ⟨z1, k1, w1⟩ := gi 1 (by simp)
  obtain ⟨z2, k2, w2⟩ := gi 2 (by simp)
  obtain ⟨z3, k3, w3⟩ := gi 3 (by simp)
  obtain ⟨z4, k4, w4⟩ := gi 4 (by simp)
  obtain ⟨z7, k7, w7⟩ := gi 7 (by simp)
  obtain ⟨z8, k8, w8⟩ := gi 8 (by simp)
  obtain ⟨z9, k9, w9⟩ := gi 9 (by simp)
  obtain ⟨b5, k5⟩ := gb (5, 5) (by simp)
  obtain ⟨b6, k6⟩ := gb (6, 6) (by simp)
  obtain ⟨bg, kg⟩ := gb (14, 76) (by simp)
  obtain ⟨d1, kd1⟩ := gh (10, 10) (by simp)
  obtain ⟨d2, kd2⟩ := gh (13, 44) (by simp)
  obtain ⟨d3, kd3⟩ := gh (15, 77) (by simp)
  refine ⟨⟨z0, z1, z2, z3, z4, b5, b6, z7, z8, z9, d1, ls, ld, d2, bg, d3⟩, ⟨sv, dv, ?_, rS, rD⟩, fun z hz => ?_⟩
  · congr 1
    apply Array.ext_getElem?
    intro i
    by_cases hi : i < 109
    · rw [rowA_at _ _ _ hi]
      unfold recF
      by_cases h10 : i < 10
      · rw [if_pos h10]
        have : i = 0 ∨ i = 1 ∨ i = 2 ∨ i = 3 ∨ i = 4 ∨ i = 5 ∨ i = 6 ∨ i = 7 ∨ i = 8 ∨ i = 9 := by omega
        rcases this with rfl | rfl | rfl | rfl | rfl | rfl | rfl | rfl | rfl | rfl <;> simpa
      rw [if_neg h10]
      by_cases h42 : i < 42
      · rw [if_pos h42]
        have := kd1 (i - 10) (by omega)
        rw [show (10, 10).2 + (i - 10) = i by simp; omega] at this
        exact this
      rw [if_neg h42]
      by_cases e42 : i = 42
      · subst e42; rw [if_pos rfl]; exact hS
      rw [if_neg e42]
      by_cases e43 : i = 43
      · subst e43; rw [if_pos rfl]; exact hD
      rw [if_neg e43]
      by_cases h76 : i < 76
      · rw [if_pos h76]
        have := kd2 (i - 44) (by omega)
        rw [show (13, 44).2 + (i - 44) = i by simp; omega] at this
        exact this
      rw [if_neg h76]
      by_cases e76 : i = 76
      · subst e76; rw [if_pos rfl]; exact kg
      rw [if_neg e76]
      have := kd3 (i - 77) (by omega)
      rw [show (15, 77).2 + (i - 77) = i by simp; omega] at this
      exact this
    · rw [Array.getElem?_eq_none (by omega), Array.getElem?_eq_none (by rw [rowA_size]; omega)]
  · simp only [List.mem_cons, List.not_mem_nil, or_false] at hz
    rcases hz with rfl | rfl | rfl | rfl | rfl | rfl | rfl | rfl <;> assumption
end Go.Proofs.YtbejolbknimmmaaDoor
/- An argument that is a slice of structs of two numbers and bytes, opened (the acts of layers 8 and 9). No program is named here but by its facts on types. -/
namespace Go.Proofs.YtbejolbknimmmaaDoor
open Go Go.ChangeShapes Go.WideShapes Go.ChangeAt Go.WideMaps Go.WideElems Go.RowKit
set_option maxRecDepth 8000
set_option linter.all false
/-- What the program's types must say. -/
structure ActTy (P : Program) (t e b8 : TypeId) (f0 f1 f2 : Field) : Prop where
  sl : P.underlying t = some (.slice e)
  st : P.underlying e = some (.struct #[f0, f1, f2])
  ce : P.cellsOf e = 3
  i0 : P.underlying f0.type = some (.int .i64)
  i1 : P.underlying f1.type = some (.int .i64)
  s2 : P.underlying f2.type = some (.slice b8)
  u8 : P.underlying b8 = some (.int .u8)
  c0 : P.cellsOf f0.type = 1
  c1 : P.cellsOf f1.type = 1
  c2 : P.cellsOf f2.type = 1
  c8 : P.cellsOf b8 = 1
  o0 : f0.offset = 0
  o1 : f1.offset = 1
  o2 : f2.offset = 2
/-- A slice of acts: a kind, a number, bytes. -/
def ActsAt (w : World) (v : Value) (l : List (Int × Int × List UInt8)) : Prop :=
  ∃ A cap, v = .slice A l.length cap ∧ l.length ≤ cap ∧ cap ≤ maxLen ∧ (0 < l.length → ∃ b o, A = some ⟨b, o, none⟩ ∧ ∀ i x, l[i]? = some x →
    w.cell? ⟨b, o + i * 3, none⟩ = some (.int .i64 x.1) ∧ w.cell? ⟨b, o + i * 3 + 1, none⟩ = some (.int .i64 x.2.1) ∧ ∃ u, w.cell? ⟨b, o + i * 3 + 2, none⟩ = some u ∧ RdV w [] u x.2.2)
/-- Slices of acts that came in read as lists; their numbers are numbers of 64 bits. -/
theorem open_acts {H : Type} {enc : TypeId × Value → H} {P : Program} {w : World} {base : Nat} {spare : Nat → Bool} {held : Bool} {r : Reach} {b0 : Nat} {t e b8 : TypeId} {f0 f1 f2 : Field} {v : Value} {d : DataW H} {p : List MemPlace} (T : ActTy P t e b8 f0 f1 f2)
    (hv : Value.okWide P w r b0 t v) (h : DataW.Trod enc P w base spare held t v d p) : ∃ l : List (Int × Int × List UInt8), ActsAt w v l ∧ ∀ x ∈ l, (Lit.int .i64 x.1).wf = true ∧ (Lit.int .i64 x.2.1).wf = true := by
  obtain ⟨a0, len, cap, rfl⟩ := okWide_slice T.sl hv
  obtain ⟨fuel, hf⟩ := h
  rcases Go.Deep.open_slice T.sl hf with ⟨hcs, _⟩ | ⟨a, len', cap', m, n, D, Pl, hcs, _, hl, hm, hmm, _, hx⟩
  · simp [Value.cells] at hcs
    obtain ⟨rfl, rfl, rfl⟩ := hcs
    exact ⟨[], ⟨none, 0, rfl, by simp, by unfold maxLen; omega, fun h0 => absurd h0 (by simp)⟩, fun x hx => by simp at hx⟩
  · simp [Value.cells] at hcs
    obtain ⟨rfl, rfl, rfl⟩ := hcs
    have hlm : len ≤ m := by rw [hmm]; split <;> omega
    have each : ∀ i, i < len → ∃ x : Int × Int × List UInt8, (w.cell? (a.add (i * 3)) = some (.int .i64 x.1) ∧ w.cell? (a.add (i * 3 + 1)) = some (.int .i64 x.2.1) ∧ ∃ u, w.cell? (a.add (i * 3 + 2)) = some u ∧ RdV w [] u x.2.2) ∧ (Lit.int .i64 x.1).wf = true ∧ (Lit.int .i64 x.2.1).wf = true := fun i hi => by
      obtain ⟨cs', h1, h2⟩ := hx i (by omega)
      rw [T.ce] at h1
      obtain ⟨_, hlen, hcell⟩ := World.cells?_some h1
      obtain ⟨xs, k, _, _, _, hxl, hel⟩ := DataW.trod_struct T.st h2
      have fld : ∀ (j : Nat) (f : Field), #[f0, f1, f2][j]? = some f → ∃ y, DataW.trod enc P w base spare held k f.type ((cs'.toArray.toList.drop f.offset).take (P.cellsOf f.type)) = some y := fun j f hj => by
        have hlt : j < xs.length := by rw [hxl]; exact (Array.getElem?_eq_some_iff.1 hj).1
        exact ⟨xs[j], by rw [← List.getElem?_eq_getElem hlt]; simpa using hel j f hj⟩
      obtain ⟨z0, e0, w0⟩ := field_int T.i0 T.c0 (fld 0 f0 rfl)
      obtain ⟨z1, e1', w1⟩ := field_int T.i1 T.c1 (fld 1 f1 rfl)
      obtain ⟨u, l, e2', hr⟩ := field_bytes T.s2 T.u8 T.c2 T.c8 (fld 2 f2 rfl)
      rw [T.o0] at e0
      rw [T.o1] at e1'
      rw [T.o2] at e2'
      have c0 := hcell 0 (by omega)
      have c1 := hcell 1 (by omega)
      have c2 := hcell 2 (by omega)
      rw [Go.Deep.add_add] at c0 c1 c2
      refine ⟨(z0, z1, l), ⟨?_, ?_, u, ?_, hr⟩, w0, w1⟩
      · rw [Nat.add_zero] at c0; rw [c0]; simpa using e0
      · rw [c1]; simpa using e1'
      · rw [c2]; simpa using e2'
    obtain ⟨q, hq⟩ := Go.Deep.choose_lt each
    have hlen : ((List.range len).map q).length = len := by simp
    refine ⟨(List.range len).map q, ⟨some a, cap, by rw [hlen], by rw [hlen]; exact hl, hm, fun h0 => ?_⟩, fun x hx' => ?_⟩
    · rw [hlen] at h0
      obtain ⟨b, off, spot⟩ := a
      have hspot : spot = none := by simpa [Addr.add] using World.cell?_spot (hq 0 h0).1.1
      subst hspot
      refine ⟨b, off, rfl, fun i x hx' => ?_⟩
      have hi : i < len := by have := (List.getElem?_eq_some_iff.1 hx').1; simpa using this
      simp [hi] at hx'
      subst hx'
      obtain ⟨h1, h2, u, h3, h4⟩ := (hq i hi).1
      rw [Go.WideShapes.add_plain] at h1 h2 h3
      exact ⟨h1, by rw [Nat.add_assoc]; exact h2, u, by rw [Nat.add_assoc]; exact h3, h4⟩
    · obtain ⟨i, hi, rfl⟩ := List.mem_map.1 hx'
      exact (hq i (by simpa using hi)).2
end Go.Proofs.YtbejolbknimmmaaDoor
/- The law's question whether acts may be looked at. -/
namespace Go.Proofs.YtbejolbknimmmaaDoor
open Go Go.RowKit
set_option maxRecDepth 8000
set_option linter.all false
theorem actTy : ∃ f0 f1 f2, ActTy Tryd.prog 22 39 5 f0 f1 f2 := by
  refine ⟨_, _, _, Tryd.underlying22, Tryd.underlying39, ?_, Tryd.underlying3, Tryd.underlying3, Tryd.underlying33, Tryd.underlying5, ?_, ?_, ?_, ?_, rfl, rfl, rfl⟩
  all_goals kernel_rfl
theorem open_acts8 {H : Type} {enc : TypeId × Value → H} {w : World} {base : Nat} {spare : Nat → Bool} {held : Bool} {r : Reach} {b0 : Nat} {v : Value} {d : DataW H} {p : List MemPlace}
    (hv : Value.okWide Tryd.prog w r b0 22 v) (h : DataW.Trod enc Tryd.prog w base spare held 22 v d p) : ∃ l : List (Int × Int × List UInt8), ActsAt w v l ∧ ∀ x ∈ l, (Lit.int .i64 x.1).wf = true ∧ (Lit.int .i64 x.2.1).wf = true := by
  obtain ⟨_, _, _, aT⟩ := actTy
  exact open_acts aT hv h
def fewB (l : List (Int × Int × List UInt8)) : Bool := decide (l.length ≤ 60) && l.all fun x => decide (x.2.2.length ≤ 200)
theorem few_not {l : List (Int × Int × List UInt8)} {k : Nat} {kd n : Int} {B : List UInt8} (h : l[k]? = some (kd, n, B)) (hb : 200 < B.length) : fewB l = false := by
  unfold fewB
  rw [Bool.and_eq_false_iff]
  right
  rw [List.all_eq_false]
  exact ⟨_, List.mem_of_getElem? h, by simpa using hb⟩
theorem few_yes {l : List (Int × Int × List UInt8)} (h : l.length ≤ 60) (hb : ∀ x ∈ l, x.2.2.length ≤ 200) : fewB l = true := by
  unfold fewB
  rw [Bool.and_eq_true, List.all_eq_true]
  exact ⟨decide_eq_true h, fun x hx => decide_eq_true (hb x hx)⟩
end Go.Proofs.YtbejolbknimmmaaDoor
/- A region that draws its order and makes two arrays: beside the conditions of single operations a relation on the frame that each step keeps. -/
namespace Go.Proofs.YtbejolbknimmmaaDoor
open Go Go.RowKit
set_option maxRecDepth 8000
set_option linter.all false

def relyStepJ (P : Program) (Q : Exit → Act → World → Prop) (T : World → World → Prop) (V : List (SV T)) (J : Act → World → Prop) (a0 : Act) (w0 : World) (o : Oper) (dp : List (Tmp × Option Nat)) (g : Option (Tmp × Bool)) (c : SV T) : Prop :=
  ∀ (a : Act) (w : World), T w0 w → relyFacts V a0 a w dp → J a w → ∀ K : Act → World → Prop, (∀ v w', T w w' → c.pred v w' → J (a.put o.dst v) w' → K (a.put o.dst v) w') →
    if relyGuard g a then o.wp P a w K Q else K (a.put o.dst undef) w
def relyAllJ (P : Program) (Q : Exit → Act → World → Prop) (T : World → World → Prop) (V : List (SV T)) (J : Act → World → Prop) (a0 : Act) (w0 : World) : List Oper → Deps → List (SV T) → Prop
  | [], _, _ => True
  | o :: r, (dp, g) :: D, c :: C => relyStepJ P Q T V J a0 w0 o dp g c ∧ relyAllJ P Q T V J a0 w0 r D C
  | _, _, _ => False
section
variable {P : Program} {ops : Array Oper} {Q : Exit → Act → World → Prop} {T : World → World → Prop} {V : List (SV T)} {J : Act → World → Prop} {a0 : Act} {w0 : World} {n : Nat} {D : Deps} {init tail : List Oper}
/-- A step that keeps the relation whatever its value is. -/
theorem relyStepJ_of {o : Oper} {dp : List (Tmp × Option Nat)} {g : Option (Tmp × Bool)} {c : SV T} (hj : ∀ a w v w', J a w → T w w' → J (a.put o.dst v) w') (h : relyStep P Q T V a0 w0 o dp g c) : relyStepJ P Q T V J a0 w0 o dp g c :=
  fun a w hT hF hJ K hK => h a w hT hF K fun v w' h1 h2 => hK v w' h1 h2 (hj a w v w' hJ h1)
theorem relyAllJ_at : ∀ (l : List Oper) (D : Deps) (C : List (SV T)) (k : Nat) (o : Oper) dp g, relyAllJ P Q T V J a0 w0 l D C → l[k]? = some o → D[k]? = some (dp, g) → relyStepJ P Q T V J a0 w0 o dp g (C.getD k SV.any)
  | [], _, _, _, _, _, _, _, h, _ => by simp at h
  | x :: r, [], _, _, _, _, _, h, _, _ => h.elim
  | x :: r, y :: D, [], _, _, _, _, h, _, _ => h.elim
  | x :: r, (dp, g) :: D, c :: C, 0, o, dp', g', h, ho, hD => by
    simp at ho hD
    obtain ⟨rfl, rfl⟩ := hD
    subst ho
    exact h.1
  | x :: r, (dp, g) :: D, c :: C, k + 1, o, dp', g', h, ho, hD => by
    have := relyAllJ_at r D C k o dp' g' h.2 (by simpa using ho) (by simpa using hD)
    simpa using this
theorem rely_next (hn : a0.tmps.size = n) (ht : ∀ a b c : World, T a b → T b c → T a c) {i : Nat} {o : Oper} {dp : List (Tmp × Option Nat)} {g : Option (Tmp × Bool)} {listed : Array Bool} {a : Act} {w : World}
    (ho : ops[i]? = some o) (h1 : relyOne ops n i o dp g = true) (h0 : listed.getD i true = false)
    (hall : ∀ e ∈ o.after, Region.binds .any e = true → listed.getD e.on false = true) (inv : RelyInv ops T V a0 w0 listed a w) :
    relyFacts V a0 a w dp ∧ Region.wanted o (yielded ops a.tmps) = relyGuard g a ∧ ∀ v w', T w w' → (V.getD i SV.any).pred v w' → RelyInv ops T V a0 w0 (listed.setIfInBounds i true) (a.put o.dst v) w' := by
  simp only [relyOne, Bool.and_eq_true] at h1
  obtain ⟨⟨⟨hdst, hafter⟩, hdp⟩, hg⟩ := h1
  have waits : ∀ j, Region.waitsFor .any ops i j = true → listed.getD j false = true := fun j hj => by
    obtain ⟨oi, hoi, e, he, hb, hon⟩ := Region.waitsFor_spec hj
    have : oi = o := Option.some.inj (hoi.symm.trans ho)
    subst this
    rw [← hon]
    exact hall e he hb
  have i0 : listed.getD i false = false := getD_both h0
  have hfacts : relyFacts V a0 a w dp := by
      induction dp with
    | nil => trivial
    | cons x r ih2 =>
      simp only [List.all_cons, Bool.and_eq_true] at hdp
      obtain ⟨hx, hr⟩ := hdp
      obtain ⟨d, j⟩ := x
      cases j with
      | some j =>
        simp only [Bool.and_eq_true, beq_iff_eq] at hx
        exact ⟨inv.new j d hx.1 (waits j hx.2), ih2 hr⟩
      | none =>
        refine ⟨inv.old d fun j hj => ?_, ih2 hr⟩
        have hjlt : j < ops.size := by
          unfold relyDst at hj
          cases hoj : ops[j]? with
          | none => simp [hoj] at hj
          | some oj => exact (Array.getElem?_eq_some_iff.1 hoj).1
        have h2 := List.all_eq_true.1 hx j (List.mem_range.2 hjlt)
        simp only [hj, bne_self_eq_false, Bool.false_or, Bool.or_eq_true, decide_eq_true_eq] at h2
        rcases h2 with rfl | h2
        · exact i0
        · cases hlj : listed.getD j false with
          | false => rfl
          | true =>
            obtain ⟨oj, hoj, e, he, hb, hon⟩ := Region.waitsFor_spec h2
            have := inv.closed j oj hoj hlj e he hb
            rw [hon, i0] at this
            cases this
  have hguard : Region.wanted o (yielded ops a.tmps) = relyGuard g a := by
    unfold Region.wanted
    cases hgo : o.guard with
    | none =>
      rw [hgo] at hg
      cases g with
      | none => rfl
      | some x => cases hg
    | some kb =>
      obtain ⟨k, b⟩ := kb
      rw [hgo] at hg
      cases g with
      | none => cases hg
      | some x =>
        obtain ⟨d, b'⟩ := x
        simp only [Bool.and_eq_true, beq_iff_eq, decide_eq_true_eq] at hg
        obtain ⟨⟨⟨rfl, hd⟩, _⟩, hlt⟩ := hg
        have hlt' : d < a.tmps.size := by rw [inv.slots, hn]; exact hlt
        have hd' : (ops[k]?).bind (·.dst) = some d := hd
        simp only [yielded, hd', Option.bind_some, relyGuard, Array.getD_eq_getD_getElem?, Array.getElem?_eq_getElem hlt', Option.getD_some]
        cases a.tmps[d] <;> simp
        all_goals (rename_i x; cases x <;> cases b <;> rfl)
  have next : ∀ v w', T w w' → (V.getD i SV.any).pred v w' → RelyInv ops T V a0 w0 (listed.setIfInBounds i true) (a.put o.dst v) w' := fun v w' hT hv => by
    have hilt : i < listed.size := by rw [inv.size]; exact (Array.getElem?_eq_some_iff.1 ho).1
    refine ⟨by simp [inv.size], fun j oj hj hlj e he hb => ?_, ht _ _ _ inv.now hT, by cases o.dst <;> simp [Act.put, inv.slots], by cases o.dst <;> simp [Act.put, inv.defers], fun j d hj hlj => ?_, fun d hno => ?_⟩
    · by_cases hij : i = j
      · subst hij
        have : oj = o := Option.some.inj (hj.symm.trans ho)
        subst this
        exact getD_set_true (hall e he hb)
      · rw [getD_set_ne false hij] at hlj
        exact getD_set_true (inv.closed j oj hj hlj e he hb)
    · by_cases hij : i = j
      · subst hij
        have hd : o.dst = some d := by simpa [relyDst, ho] using hj
        rw [hd] at hdst
        simp only [Bool.and_eq_true, decide_eq_true_eq] at hdst
        have hlt : d < a.tmps.size := by rw [inv.slots, hn]; exact hdst.1
        rw [hd]
        simpa [Act.put, hlt] using hv
      · rw [getD_set_ne false hij] at hlj
        have h3 := (V.getD j SV.any).stable _ _ _ (inv.new j d hj hlj) hT
        cases hod : o.dst with
        | none => exact h3
        | some d0 =>
          rw [hod] at hdst
          simp only [Bool.and_eq_true, decide_eq_true_eq] at hdst
          have hjlt : j < ops.size := by
            unfold relyDst at hj
            cases hoj : ops[j]? with
            | none => simp [hoj] at hj
            | some oj => exact (Array.getElem?_eq_some_iff.1 hoj).1
          have h4 := List.all_eq_true.1 hdst.2 j (List.mem_range.2 hjlt)
          simp only [Bool.or_eq_true, decide_eq_true_eq, bne_iff_ne, ne_eq] at h4
          have hne : d0 ≠ d := fun e => by
            subst e
            rcases h4 with h4 | h4
            · exact hij h4.symm
            · exact h4 hj
          simpa [Act.put, Array.getElem?_setIfInBounds_ne hne] using h3
    · have hni : o.dst ≠ some d := fun hd => by
        have := hno i (by simp [relyDst, ho, hd])
        simp [hilt] at this
      have hold := inv.old d fun j hj => by
        have hij : i ≠ j := fun e => by subst e; exact hni (by simpa [relyDst, ho] using hj)
        have := hno j hj
        rwa [getD_set_ne false hij] at this
      cases hod : o.dst with
      | none => exact hold
      | some d0 =>
        have hne : d0 ≠ d := fun e => hni (by rw [hod, e])
        simpa [Act.put, Array.getElem?_setIfInBounds_ne hne] using hold
  exact ⟨hfacts, hguard, next⟩
theorem wpAny_relyJ_tail (hsplit : ops.toList = init ++ tail) (hpos : 0 < tail.length) (hn : a0.tmps.size = n) (hB : relyB ops n 0 init D = true) (hsink : Region.sinkB .any ops init.length = true) (htb : tailB ops tail init.length = true) (ht : ∀ a b c : World, T a b → T b c → T a c)
    (hl : init.length ≤ V.length) (hA : relyAllJ P Q T V J a0 w0 init D V) (hE : ∀ w, T w0 w → relyEnd (fun _ a w => J a w → wpList P ops Q tail a w) T init V a0 w) :
    ∀ (fuel : Nat) (listed : Array Bool) (a : Act) (w : World), (unl ops listed).length = fuel → (∀ j, init.length ≤ j → j < ops.size → listed.getD j true = false) → RelyInv ops T V a0 w0 listed a w → J a w → wpAny P .any ops Q fuel listed a w := by
  obtain ⟨hsz, hpre, htl⟩ := split_at hsplit
  have hat : ∀ i o, init[i]? = some o → ∃ dp g, relyOne ops n i o dp g = true ∧ relyStepJ P Q T V J a0 w0 o dp g (V.getD i SV.any) := fun i o hi => by
    obtain ⟨dp, g, hD, h1⟩ := relyB_at init D 0 i o hB hi
    rw [Nat.zero_add] at h1
    exact ⟨dp, g, h1, relyAllJ_at _ _ _ i o dp g hA hi hD⟩
  -- once all of the first ones have come up
  have fin : ∀ (fuel : Nat) (listed : Array Bool) (a : Act) (w : World), (unl ops listed).length = fuel → (∀ j, init.length ≤ j → j < ops.size → listed.getD j true = false) → RelyInv ops T V a0 w0 listed a w → J a w → (∀ j, j < init.length → listed.getD j false = true) → wpAny P .any ops Q fuel listed a w := fun fuel listed a w hu hun inv hJ hdone => by
    have h1 : wpList P ops Q tail a w := rely_all (Q' := fun a w => J a w → wpList P ops Q tail a w) inv
      (fun k o hk => ⟨hpre k o hk, hdone k (List.getElem?_eq_some_iff.1 hk).1⟩) (fun j hj => by
        rcases Nat.lt_or_ge j init.length with h | h
        · exact h
        · rcases Nat.lt_or_ge j ops.size with h' | h'
          · rw [getD_both (hun j h h')] at hj; cases hj
          · have : listed.getD j false = false := by simp [Array.getElem?_eq_none (show listed.size ≤ j by rw [inv.size]; omega)]
            rw [this] at hj; cases hj) hl (hE w inv.now) hJ
    have hf : fuel = tail.length := by
      rw [← hu]
      unfold unl
      have e : (List.range ops.size).filter (fun i => !listed.getD i true) = List.range' init.length tail.length := by
        rw [List.range_eq_range', show ops.size = init.length + tail.length from hsz, ← List.range'_append_1, List.filter_append, List.filter_eq_nil_iff.2, List.filter_eq_self.2]
        · simp
        · intro i hi
          simp only [List.mem_range'_1] at hi
          rw [hun i (by omega) (by omega)]; rfl
        · intro i hi
          simp only [List.mem_range'_1] at hi
          have h2 := hdone i (by omega)
          have h3 : listed.getD i true = true := by
            have hlt : i < listed.size := by rw [inv.size]; omega
            simp [hlt] at h2 ⊢; exact h2
          rw [h3]; simp
      rw [e]; simp
    subst hf
    exact tail_seq hsplit htb tail.length 0 listed a w (by omega) inv.size (by simpa using hdone) (by simpa using hun) (by simpa using h1)
  intro fuel
  induction fuel with
  | zero =>
    intro listed a w hu hun inv hJ
    have : init.length ∈ unl ops listed := by
      unfold unl; rw [List.mem_filter]; exact ⟨List.mem_range.2 (by omega), by rw [hun _ (Nat.le_refl _) (by omega)]; rfl⟩
    rw [List.eq_nil_of_length_eq_zero hu] at this
    cases this
  | succ fuel ih =>
    intro listed a w hu hun inv hJ
    by_cases hdone : ∀ j, j < init.length → listed.getD j false = true
    · exact fin _ listed a w hu hun inv hJ hdone
    · -- none of the last ones may come up yet
      have hlow : ∀ i, i ∈ Region.ready .any ops listed → i < init.length := fun i hi => by
        rcases Nat.lt_or_ge i init.length with h | h
        · exact h
        · exfalso
          obtain ⟨h0, o, ho, hall⟩ := mem_ready.1 hi
          have hilt := (Array.getElem?_eq_some_iff.1 ho).1
          by_cases him : i = init.length
          · subst him
            apply hdone
            have hd : ∀ (d j : Nat), init.length - j = d → j < init.length → listed.getD j false = true := fun d => by
              induction d using Nat.strongRecOn with
              | _ d ihd =>
                intro j hd hj
                have h1 := List.all_eq_true.1 hsink j (List.mem_range.2 hj)
                obtain ⟨t, ht1, ht2⟩ := List.any_eq_true.1 h1
                simp only [Bool.and_eq_true, decide_eq_true_eq] at ht2
                obtain ⟨ot, hot, e, he, hb, hon⟩ := Region.waitsFor_spec ht2.2
                have htle : t ≤ init.length := by have := List.mem_range.1 ht1; omega
                rw [← hon]
                by_cases htm : t = init.length
                · subst htm
                  have : ot = o := Option.some.inj (hot.symm.trans ho)
                  subst this
                  exact hall e he hb
                · exact inv.closed t ot hot (ihd (init.length - t) (by omega) t rfl (by omega)) e he hb
            exact fun j hj => hd _ j rfl hj
          · have h := List.all_eq_true.1 htb (i - init.length) (List.mem_range.2 (by omega))
            simp only [Bool.and_eq_true, Bool.or_eq_true, decide_eq_true_eq] at h
            rw [show init.length + (i - init.length) = i by omega] at h
            rcases h.2 with h | h
            · omega
            · obtain ⟨oi, hoi', e, he, hbe, hon⟩ := Region.waitsFor_spec h
              have : oi = o := Option.some.inj (hoi'.symm.trans ho)
              subst this
              have h1 := hall e he hbe
              rw [hon, getD_both (hun (i - 1) (by omega) (by omega))] at h1
              cases h1
      refine ⟨fun hr => ?_, fun i hi => ?_⟩
      · exfalso
        apply hdone
        intro i
        induction i using Nat.strongRecOn with
        | _ i ih =>
          intro hi
          cases hli : listed.getD i false with
          | true => rfl
          | false =>
            exfalso
            have hmem : i ∈ Region.ready .any ops listed := by
              rw [mem_ready]
              refine ⟨getD_in (by rw [inv.size]; omega) hli, init[i], hpre i _ (List.getElem?_eq_getElem hi), fun e he hb => ?_⟩
              obtain ⟨dp, g, h1, _⟩ := hat i init[i] (List.getElem?_eq_getElem hi)
              simp only [relyOne, Bool.and_eq_true] at h1
              have h2 := (Array.all_eq_true_iff_forall_mem.1 h1.1.1.2) e he
              simp only [hb, Bool.not_true, Bool.false_or, decide_eq_true_eq] at h2
              exact ih e.on h2 (by omega)
            rw [hr] at hmem
            cases hmem
      · have hi' := hlow i hi
        obtain ⟨h0, o, ho, hall⟩ := mem_ready.1 hi
        have hio : init[i]? = some o := by
          have := hpre i init[i] (List.getElem?_eq_getElem hi')
          rw [ho] at this
          rw [List.getElem?_eq_getElem hi', Option.some.inj this]
        obtain ⟨dp, g, h1, hstep⟩ := hat i o hio
        obtain ⟨hfacts, hguard, next⟩ := rely_next hn ht ho h1 h0 hall inv
        have hs := hstep a w inv.now hfacts hJ (fun a' w' => wpAny P .any ops Q fuel (listed.setIfInBounds i true) a' w') (fun v w' hT hv hJ' => ih _ _ w' (by have := unl_set inv.size h0; omega) (fun j hj hj2 => by rw [getD_set_ne true (by omega)]; exact hun j hj hj2) (next v w' hT hv) hJ')
        unfold wpOp
        simp only [ho, hguard]
        split
        · rename_i hw; rw [if_pos hw] at hs; exact .inl hs
        · rename_i hw; rw [if_neg hw] at hs; exact hs
/-- **A region that draws its order, the last operations (from place m on) one behind the other.** -/
theorem wp_region_relyJ_tail {id : Nat} (T : World → World → Prop) (V : List (SV T)) (D : Deps) (n m : Nat) (hm : P.follows .mixedOrders = true) (hn : a0.tmps.size = n) (hlen : (ops.toList.take m).length = m) (hpos : 0 < (ops.toList.drop m).length) (hB : relyB ops n 0 (ops.toList.take m) D = true)
    (hsink : Region.sinkB .any ops m = true) (htb : tailB ops (ops.toList.drop m) m = true) (ht : ∀ a b c : World, T a b → T b c → T a c) (hd : T w0 w0.drew) (hJ0 : J a0 w0.drew) (hl : m ≤ V.length)
    (hA : relyAllJ P Q T V J a0 w0 (ops.toList.take m) D V) (hE : ∀ w, T w0 w → relyEnd (fun _ a w => J a w → wpList P ops Q (ops.toList.drop m) a w) T (ops.toList.take m) V a0 w) : (Code.region id ops true).wp P Q a0 w0 := by
  refine wp_region_any hm ?_
  refine wpAny_relyJ_tail (List.take_append_drop m ops.toList).symm hpos hn hB (by rw [hlen]; exact hsink) (by rw [hlen]; exact htb) ht (by rw [hlen]; exact hl) hA hE ops.size _ a0 w0.drew unl_start (fun j _ hj => by simp [hj]) (rely_start hd) hJ0
end
/-- Two slots hold pointers to different blocks, both there. -/
def TwoPtr (p q : Tmp) (a : Act) (w : World) : Prop :=
  (∀ g, a.tmps.getD p undef = .pointer (some ⟨g, 0, none⟩) → g < w.heap.size) ∧ (∀ g, a.tmps.getD q undef = .pointer (some ⟨g, 0, none⟩) → g < w.heap.size) ∧
    ∀ g g', a.tmps.getD p undef = .pointer (some ⟨g, 0, none⟩) → a.tmps.getD q undef = .pointer (some ⟨g', 0, none⟩) → g ≠ g'
theorem put_other {a : Act} {d : Option Tmp} {p : Tmp} (v : Value) (h : d ≠ some p) : (a.put d v).tmps.getD p undef = a.tmps.getD p undef := by
  cases d with
  | none => rfl
  | some d =>
    have hne : d ≠ p := fun e => h (by rw [e])
    simp [Act.put, Array.getElem?_setIfInBounds_ne hne]
theorem TwoPtr.keep {p q : Tmp} {a : Act} {w w' : World} {d : Option Tmp} {v : Value} (h : TwoPtr p q a w) (hp : d ≠ some p) (hq : d ≠ some q) (hT : NewT w w') : TwoPtr p q (a.put d v) w' := by
  unfold TwoPtr
  rw [put_other v hp, put_other v hq]
  exact ⟨fun g hg => Nat.lt_of_lt_of_le (h.1 g hg) hT.out.size, fun g hg => Nat.lt_of_lt_of_le (h.2.1 g hg) hT.out.size, h.2.2⟩
theorem put_same {a : Act} {p : Tmp} {g g' : Nat} (h : (a.put (some p) (.pointer (some ⟨g, 0, none⟩))).tmps.getD p undef = .pointer (some ⟨g', 0, none⟩)) : g' = g := by
  rcases Nat.lt_or_ge p a.tmps.size with hlt | hge
  · simp [Act.put, hlt] at h; exact h.symm
  · simp [Act.put, undef, Nat.not_lt.2 hge] at h
theorem TwoPtr.first {p q : Tmp} {a : Act} {w : World} {o : Obj} (h : TwoPtr p q a w) (hpq : p ≠ q) : TwoPtr p q (a.put (some p) (.pointer (some ⟨w.heap.size, 0, none⟩))) (w.alloc o) := by
  unfold TwoPtr
  rw [put_other (p := q) (d := some p) _ (by simpa using hpq)]
  refine ⟨fun g hg => by rw [put_same hg]; simp, fun g hg => by have := h.2.1 g hg; simp; omega, fun g g' hg hg' => ?_⟩
  have := h.2.1 g' hg'
  rw [put_same hg]; omega
theorem TwoPtr.second {p q : Tmp} {a : Act} {w : World} {o : Obj} (h : TwoPtr p q a w) (hpq : p ≠ q) : TwoPtr p q (a.put (some q) (.pointer (some ⟨w.heap.size, 0, none⟩))) (w.alloc o) := by
  unfold TwoPtr
  rw [put_other (p := p) (d := some q) _ (by simpa using Ne.symm hpq)]
  refine ⟨fun g hg => by have := h.1 g hg; simp; omega, fun g hg => by rw [put_same hg]; simp, fun g g' hg hg' => ?_⟩
  have := h.1 g hg
  rw [put_same hg']; omega
theorem opr_alloc_at {a : Act} {w : World} {o : Oper} {K : Act → World → Prop} {Q : Exit → Act → World → Prop} (ho : o.op = .alloc 48) (h : K (a.put o.dst (.pointer (some ⟨w.heap.size, 0, none⟩))) (w.alloc (.cells (rowA 32 (bF fun _ => 0)) 48))) : o.wp Tryd.prog a w K Q := by
  obtain ⟨dst, op, type, pos, after, guard⟩ := o
  simp only at ho
  subst ho
  exact opr_val (s := Instr.alloc 48 true (.tuple #[])) rfl (run_alloc_hash w) h
end Go.Proofs.YtbejolbknimmmaaDoor
/- A region that draws its order, some of whose operations turn a state one behind the other (each waits for the one ahead): beside the conditions of single operations a statement on the world for each phase. No program is named here. -/
namespace Go.Proofs.YtbejolbknimmmaaDoor
open Go Go.RowKit
set_option maxRecDepth 8000
set_option linter.all false

/-- One operation: it turns phase k into the next one (some k), or keeps whatever phase there is (none). -/
def relyStepP (P : Program) (Q : Exit → Act → World → Prop) (T : World → World → Prop) (V : List (SV T)) (J : Nat → World → Prop) (a0 : Act) (w0 : World) (o : Oper) (dp : List (Tmp × Option Nat)) (g : Option (Tmp × Bool)) (c : SV T) : Option Nat → Prop
  | none => ∀ (a : Act) (w : World), T w0 w → relyFacts V a0 a w dp → ∀ K : Act → World → Prop, (∀ v w', T w w' → (∀ k, J k w → J k w') → c.pred v w' → K (a.put o.dst v) w') →
    if relyGuard g a then o.wp P a w K Q else K (a.put o.dst undef) w
  | some k => ∀ (a : Act) (w : World), T w0 w → relyFacts V a0 a w dp → J k w → ∀ K : Act → World → Prop, (∀ v w', T w w' → J (k + 1) w' → c.pred v w' → K (a.put o.dst v) w') →
    if relyGuard g a then o.wp P a w K Q else K (a.put o.dst undef) w
def relyAllP (P : Program) (Q : Exit → Act → World → Prop) (T : World → World → Prop) (V : List (SV T)) (J : Nat → World → Prop) (a0 : Act) (w0 : World) : List Oper → Deps → List (SV T) → List (Option Nat) → Prop
  | [], _, _, _ => True
  | o :: r, (dp, g) :: D, c :: C, s :: S => relyStepP P Q T V J a0 w0 o dp g c s ∧ relyAllP P Q T V J a0 w0 r D C S
  | _, _, _, _ => False
/-- Each of the path's operations waits for the one ahead. -/
def pathB (ops : Array Oper) : List Nat → Bool
  | i :: j :: r => Region.waitsFor .any ops j i && pathB ops (j :: r)
  | _ => true
def placesB (path : List Nat) (S : List (Option Nat)) : Bool := decide path.Nodup && (List.range S.length).all fun i => S.getD i none == path.findIdx? (· == i)
section
variable {P : Program} {ops : Array Oper} {Q : Exit → Act → World → Prop} {T : World → World → Prop} {V : List (SV T)} {J : Nat → World → Prop} {a0 : Act} {w0 : World} {n : Nat} {D : Deps} {S : List (Option Nat)} {path : List Nat} {init : List Oper} {last : Oper}
theorem pathB_at : ∀ (path : List Nat) (j i i' : Nat), pathB ops path = true → path[j]? = some i → path[j + 1]? = some i' → Region.waitsFor .any ops i' i = true
  | [], _, _, _, _, h, _ => by simp at h
  | [x], j, _, _, _, _, h => by simp at h
  | x :: y :: r, 0, i, i', h, h1, h2 => by
    simp only [pathB, Bool.and_eq_true] at h
    simp at h1 h2
    subst h1 h2
    exact h.1
  | x :: y :: r, j + 1, i, i', h, h1, h2 => by
    simp only [pathB, Bool.and_eq_true] at h
    exact pathB_at (y :: r) j i i' h.2 (by simpa using h1) (by simpa using h2)
theorem relyAllP_at : ∀ (l : List Oper) (D : Deps) (C : List (SV T)) (S : List (Option Nat)) (k : Nat) (o : Oper) dp g, relyAllP P Q T V J a0 w0 l D C S → l[k]? = some o → D[k]? = some (dp, g) → relyStepP P Q T V J a0 w0 o dp g (C.getD k SV.any) (S.getD k none)
  | [], _, _, _, _, _, _, _, _, h, _ => by simp at h
  | x :: r, [], _, _, _, _, _, _, h, _, _ => h.elim
  | x :: r, y :: D, [], _, _, _, _, _, h, _, _ => h.elim
  | x :: r, y :: D, c :: C, [], _, _, _, _, h, _, _ => h.elim
  | x :: r, (dp, g) :: D, c :: C, s :: S, 0, o, dp', g', h, ho, hD => by
    simp at ho hD
    obtain ⟨rfl, rfl⟩ := hD
    subst ho
    exact h.1
  | x :: r, (dp, g) :: D, c :: C, s :: S, k + 1, o, dp', g', h, ho, hD => by
    have := relyAllP_at r D C S k o dp' g' h.2 (by simpa using ho) (by simpa using hD)
    simpa using this
/-- So many of the path's operations have come up. -/
structure PhInv (path : List Nat) (J : Nat → World → Prop) (listed : Array Bool) (w : World) (k : Nat) : Prop where
  le : k ≤ path.length
  done : ∀ j i, j < k → path[j]? = some i → listed.getD i false = true
  left : ∀ j i, k ≤ j → path[j]? = some i → listed.getD i false = false
  now : J k w
theorem ph_other {listed : Array Bool} {w w' : World} {k i : Nat} (h : PhInv path J listed w k) (hi : i ∉ path) (hJ : J k w') : PhInv path J (listed.setIfInBounds i true) w' k := by
  have hne : ∀ (j x : Nat), path[j]? = some x → i ≠ x := fun j x hx e => hi (e ▸ List.mem_of_getElem? hx)
  exact ⟨h.le, fun j x hj hx => by rw [getD_set_ne false (hne j x hx)]; exact h.done j x hj hx, fun j x hj hx => by rw [getD_set_ne false (hne j x hx)]; exact h.left j x hj hx, hJ⟩
theorem ph_own (hnd : path.Nodup) {listed : Array Bool} {w w' : World} {k i : Nat} (hlt : i < listed.size) (h : PhInv path J listed w k) (hi : path[k]? = some i) (hJ : J (k + 1) w') : PhInv path J (listed.setIfInBounds i true) w' (k + 1) := by
  have hk : k < path.length := (List.getElem?_eq_some_iff.1 hi).1
  have hinj : ∀ (j x : Nat), path[j]? = some x → j ≠ k → i ≠ x := fun j x hx hjk e => by
    subst e
    obtain ⟨h1, h2⟩ := List.getElem?_eq_some_iff.1 hx
    obtain ⟨h3, h4⟩ := List.getElem?_eq_some_iff.1 hi
    exact hjk ((List.getElem_inj hnd).1 (h2.trans h4.symm))
  refine ⟨hk, fun j x hj hx => ?_, fun j x hj hx => ?_, hJ⟩
  · by_cases e : j = k
    · subst e
      rw [hi] at hx
      cases hx
      simp [hlt]
    · rw [getD_set_ne false (hinj j x hx e)]; exact h.done j x (by omega) hx
  · rw [getD_set_ne false (hinj j x hx (by omega))]; exact h.left j x (by omega) hx
theorem wpAny_relyP {Q2 : Exit → Act → World → Prop} (hQ : ∀ (o : Oper) (a : Act) (w : World) (K : Act → World → Prop), a.defers = a0.defers → o.wp P a w K Q2 → o.wp P a w K Q) (hsplit : ops.toList = init ++ [last]) (hn : a0.tmps.size = n) (hB : relyB ops n 0 init D = true) (hlast : lastB ops last init.length = true) (hg : last.guard = none) (ht : ∀ a b c : World, T a b → T b c → T a c)
    (hpath : pathB ops path = true) (hplace : placesB path S = true) (hSl : S.length = init.length) (hpl : ∀ i ∈ path, i < init.length)
    (hl : init.length ≤ V.length) (hA : relyAllP P Q2 T V J a0 w0 init D V S) (hE : ∀ w, T w0 w → J path.length w → relyEnd (fun _ a w => last.wp P a w (fun a' w' => Q .normal a' w') Q) T init V a0 w) :
    ∀ (fuel : Nat) (listed : Array Bool) (a : Act) (w : World) (k : Nat), (unl ops listed).length = fuel → listed.getD init.length true = false → RelyInv ops T V a0 w0 listed a w → PhInv path J listed w k → wpAny P .any ops Q fuel listed a w := by
  obtain ⟨hlo, hsz, hpre⟩ := last_at hsplit
  simp only [lastB, Bool.and_eq_true] at hlast
  simp only [placesB, Bool.and_eq_true, decide_eq_true_eq] at hplace
  obtain ⟨hnd, hpos⟩ := hplace
  have hS : ∀ i, i < init.length → S.getD i none = path.findIdx? (· == i) := fun i hi => by
    have := List.all_eq_true.1 hpos i (List.mem_range.2 (by omega))
    simpa using this
  have hat : ∀ i o, init[i]? = some o → ∃ dp g, relyOne ops n i o dp g = true ∧ relyStepP P Q2 T V J a0 w0 o dp g (V.getD i SV.any) (path.findIdx? (· == i)) := fun i o hi => by
    obtain ⟨dp, g, hD, h1⟩ := relyB_at init D 0 i o hB hi
    rw [Nat.zero_add] at h1
    refine ⟨dp, g, h1, ?_⟩
    rw [← hS i (List.getElem?_eq_some_iff.1 hi).1]
    exact relyAllP_at _ _ _ _ i o dp g hA hi hD
  intro fuel
  induction fuel with
  | zero =>
    intro listed a w k hu hun inv _
    have : init.length ∈ unl ops listed := by
      unfold unl; rw [List.mem_filter]; exact ⟨List.mem_range.2 (by omega), by rw [hun]; rfl⟩
    rw [List.eq_nil_of_length_eq_zero hu] at this
    cases this
  | succ fuel ih =>
    intro listed a w k hu hun inv ph
    refine ⟨fun hr => ?_, fun i hi => ?_⟩
    · exfalso
      have all : ∀ i, i < init.length → listed.getD i false = true := fun i => by
        induction i using Nat.strongRecOn with
        | _ i ih =>
          intro hi
          cases hli : listed.getD i false with
          | true => rfl
          | false =>
            exfalso
            have hmem : i ∈ Region.ready .any ops listed := by
              rw [mem_ready]
              refine ⟨getD_in (by rw [inv.size]; omega) hli, init[i], hpre i _ (List.getElem?_eq_getElem hi), fun e he hb => ?_⟩
              obtain ⟨dp, g, h1, _⟩ := hat i init[i] (List.getElem?_eq_getElem hi)
              simp only [relyOne, Bool.and_eq_true] at h1
              have h2 := (Array.all_eq_true_iff_forall_mem.1 h1.1.1.2) e he
              simp only [hb, Bool.not_true, Bool.false_or, decide_eq_true_eq] at h2
              exact ih e.on h2 (by omega)
            rw [hr] at hmem
            cases hmem
      have hmem : init.length ∈ Region.ready .any ops listed := by
        rw [mem_ready]
        refine ⟨hun, last, hlo, fun e he hb => ?_⟩
        have h2 := (Array.all_eq_true_iff_forall_mem.1 hlast.2) e he
        simp only [hb, Bool.not_true, Bool.false_or, decide_eq_true_eq] at h2
        exact all e.on h2
      rw [hr] at hmem
      cases hmem
    · obtain ⟨h0, o, ho, hall⟩ := mem_ready.1 hi
      have hilt := (Array.getElem?_eq_some_iff.1 ho).1
      by_cases him : i = init.length
      · subst him
        have hol : o = last := Option.some.inj (ho.symm.trans hlo)
        subst hol
        have hdone : ∀ (d j : Nat), init.length - j = d → j < init.length → listed.getD j false = true := fun d => by
          induction d using Nat.strongRecOn with
          | _ d ihd =>
            intro j hd hj
            have h1 := List.all_eq_true.1 hlast.1 j (List.mem_range.2 hj)
            obtain ⟨t, ht1, ht2⟩ := List.any_eq_true.1 h1
            simp only [Bool.and_eq_true, decide_eq_true_eq] at ht2
            obtain ⟨ot, hot, e, he, hb, hon⟩ := Region.waitsFor_spec ht2.2
            have htle : t ≤ init.length := by have := List.mem_range.1 ht1; omega
            rw [← hon]
            by_cases htm : t = init.length
            · subst htm
              have : ot = o := Option.some.inj (hot.symm.trans ho)
              subst this
              exact hall e he hb
            · exact inv.closed t ot hot (ihd (init.length - t) (by omega) t rfl (by omega)) e he hb
        replace hdone : ∀ j, j < init.length → listed.getD j false = true := fun j hj => hdone _ j rfl hj
        have hk : k = path.length := by
          rcases Nat.lt_or_ge k path.length with h | h
          · exfalso
            have h1 := ph.left k path[k] (Nat.le_refl _) (List.getElem?_eq_getElem h)
            rw [hdone _ (hpl _ (List.getElem_mem h))] at h1
            cases h1
          · have := ph.le; omega
        subst hk
        have hJ := ph.now
        have h1 : o.wp P a w (fun a' w' => Q .normal a' w') Q := rely_all (Q' := fun a w => o.wp P a w (fun a' w' => Q .normal a' w') Q) inv
          (fun k o hk => ⟨hpre k o hk, hdone k (List.getElem?_eq_some_iff.1 hk).1⟩) (fun j hj => by
            rcases Nat.lt_or_ge j init.length with h | h
            · exact h
            · rcases Nat.eq_or_lt_of_le h with h | h
              · subst h; rw [getD_both hun] at hj; cases hj
              · have : listed.getD j false = false := by simp [Array.getElem?_eq_none (show listed.size ≤ j by rw [inv.size]; omega)]
                rw [this] at hj; cases hj) hl (hE w inv.now hJ)
        have hK : ∀ a' w', Q .normal a' w' → wpAny P .any ops Q fuel (listed.setIfInBounds init.length true) a' w' := fun a' w' h => wpAny_done (ready_none fun j hj => by
          by_cases hj2 : j = init.length
          · subst hj2; simp [show init.length < listed.size by rw [inv.size]; exact hj]
          · exact getD_set_true (hdone j (by omega))) h _
        unfold wpOp
        simp only [hlo, Region.wanted, hg, if_true]
        exact .inl (Oper.wp_mono hK h1)
      · have hi' : i < init.length := by omega
        have hio : init[i]? = some o := by
          have := hpre i init[i] (List.getElem?_eq_getElem hi')
          rw [ho] at this
          rw [List.getElem?_eq_getElem hi', Option.some.inj this]
        obtain ⟨dp, g, h1, hstep⟩ := hat i o hio
        obtain ⟨hfacts, hguard, next⟩ := rely_next hn ht ho h1 h0 hall inv
        have i0 : listed.getD i false = false := getD_both h0
        have hs : if relyGuard g a then o.wp P a w (fun a' w' => wpAny P .any ops Q fuel (listed.setIfInBounds i true) a' w') Q2 else wpAny P .any ops Q fuel (listed.setIfInBounds i true) (a.put o.dst undef) w := by
          cases hf : path.findIdx? (· == i) with
          | none =>
            rw [hf] at hstep
            have hni : i ∉ path := fun hm => by
              rw [List.findIdx?_eq_none_iff] at hf
              have := hf i hm
              simp at this
            exact hstep a w inv.now hfacts (fun a' w' => wpAny P .any ops Q fuel (listed.setIfInBounds i true) a' w') (fun v w' hT hJ hv => ih _ _ w' k (by have := unl_set inv.size h0; omega) (by rw [getD_set_ne true him]; exact hun) (next v w' hT hv) (ph_other ph hni (hJ k ph.now)))
          | some j =>
            rw [hf] at hstep
            have hpj : path[j]? = some i := by
              obtain ⟨h1, h2, _⟩ := List.findIdx?_eq_some_iff_getElem.1 hf
              rw [List.getElem?_eq_getElem h1]
              simpa using h2
            have hkj : k = j := by
              rcases Nat.lt_trichotomy j k with h | h | h
              · have := ph.done j i h hpj
                rw [i0] at this; cases this
              · exact h.symm
              · exfalso
                obtain ⟨j', rfl⟩ : ∃ j', j = j' + 1 := ⟨j - 1, by omega⟩
                have hlj : j' < path.length := by have := (List.getElem?_eq_some_iff.1 hpj).1; omega
                have hw := pathB_at path j' path[j'] i hpath (List.getElem?_eq_getElem hlj) hpj
                obtain ⟨oi, hoi, e, he, hb, hon⟩ := Region.waitsFor_spec hw
                have : oi = o := Option.some.inj (hoi.symm.trans ho)
                subst this
                have h2 := hall e he hb
                rw [hon, ph.left j' _ (by omega) (List.getElem?_eq_getElem hlj)] at h2
                cases h2
            subst hkj
            exact hstep a w inv.now hfacts ph.now (fun a' w' => wpAny P .any ops Q fuel (listed.setIfInBounds i true) a' w') (fun v w' hT hJ hv => ih _ _ w' (k + 1) (by have := unl_set inv.size h0; omega) (by rw [getD_set_ne true him]; exact hun) (next v w' hT hv) (ph_own hnd (by rw [inv.size]; exact hilt) ph hpj hJ))
        unfold wpOp
        simp only [ho, hguard]
        split
        · rename_i hw; rw [if_pos hw] at hs; exact .inl (hQ _ _ _ _ inv.defers hs)
        · rename_i hw; rw [if_neg hw] at hs; exact hs
/-- **A region that draws its order and turns a state step by step.** -/
theorem wp_region_relyQ {id : Nat} {Q2 : Exit → Act → World → Prop} (hQ : ∀ (o : Oper) (a : Act) (w : World) (K : Act → World → Prop), a.defers = a0.defers → o.wp P a w K Q2 → o.wp P a w K Q) (T : World → World → Prop) (J : Nat → World → Prop) (V : List (SV T)) (D : Deps) (S : List (Option Nat)) (path : List Nat) (n : Nat) (hla : ops.toList.getLast? = some last) (hm : P.follows .mixedOrders = true) (hn : a0.tmps.size = n) (hB : relyB ops n 0 ops.toList.dropLast D = true)
    (hlast : lastB ops last ops.toList.dropLast.length = true) (hg : last.guard = none) (hpath : (pathB ops path && placesB path S && decide (S.length = ops.toList.dropLast.length) && path.all fun i => decide (i < ops.toList.dropLast.length)) = true)
    (ht : ∀ a b c : World, T a b → T b c → T a c) (hd : T w0 w0.drew) (hJ : J 0 w0.drew) (hl : ops.toList.dropLast.length ≤ V.length)
    (hA : relyAllP P Q2 T V J a0 w0 ops.toList.dropLast D V S) (hE : ∀ w, T w0 w → J path.length w → relyEnd (fun _ a w => last.wp P a w (fun a' w' => Q .normal a' w') Q) T ops.toList.dropLast V a0 w) : (Code.region id ops true).wp P Q a0 w0 := by
  have hsplit := split_last hla
  obtain ⟨_, hsz, _⟩ := last_at hsplit
  simp only [Bool.and_eq_true, decide_eq_true_eq] at hpath
  obtain ⟨⟨⟨h1, h2⟩, h3⟩, h4⟩ := hpath
  refine wp_region_any hm ?_
  exact wpAny_relyP hQ hsplit hn hB hlast hg ht h1 h2 h3 (fun i hi => by simpa using List.all_eq_true.1 h4 i hi) hl hA hE ops.size _ a0 w0.drew 0 unl_start (by
    have hlt : ops.toList.dropLast.length < ops.size := by omega
    generalize ops.toList.dropLast.length = m at hlt
    simp [hlt]) (rely_start hd) ⟨Nat.zero_le _, fun j i hj => by omega, fun j i _ _ => getD_replicate_false .., hJ⟩
theorem wp_region_relyP {id : Nat} (T : World → World → Prop) (J : Nat → World → Prop) (V : List (SV T)) (D : Deps) (S : List (Option Nat)) (path : List Nat) (n : Nat) (hla : ops.toList.getLast? = some last) (hm : P.follows .mixedOrders = true) (hn : a0.tmps.size = n) (hB : relyB ops n 0 ops.toList.dropLast D = true)
    (hlast : lastB ops last ops.toList.dropLast.length = true) (hg : last.guard = none) (hpath : (pathB ops path && placesB path S && decide (S.length = ops.toList.dropLast.length) && path.all fun i => decide (i < ops.toList.dropLast.length)) = true)
    (ht : ∀ a b c : World, T a b → T b c → T a c) (hd : T w0 w0.drew) (hJ : J 0 w0.drew) (hl : ops.toList.dropLast.length ≤ V.length)
    (hA : relyAllP P Q T V J a0 w0 ops.toList.dropLast D V S) (hE : ∀ w, T w0 w → J path.length w → relyEnd (fun _ a w => last.wp P a w (fun a' w' => Q .normal a' w') Q) T ops.toList.dropLast V a0 w) : (Code.region id ops true).wp P Q a0 w0 :=
  wp_region_relyQ (fun _ _ _ _ _ h => h) T J V D S path n hla hm hn hB hlast hg hpath ht hd hJ hl hA hE
/-- What a panic out of a region may lean on: nothing was deferred since. -/
def Qx (d : List Deferred) (Q : Exit → Act → World → Prop) : Exit → Act → World → Prop
  | .panic ch, a, w => a.defers = d → Q (.panic ch) a w
  | e, a, w => Q e a w
theorem wp_Qx {o : Oper} {a : Act} {w : World} {K : Act → World → Prop} {d : List Deferred} (hd : a.defers = d) (hh : o.wp P a w K (Qx d Q)) : o.wp P a w K Q := by
  unfold Oper.wp at *
  generalize (execOp a.eval o).run P w = r at *
  cases r with
  | ok n w' =>
    cases n <;> simp only [Oper.upon] at hh ⊢ <;>
      first
        | exact hh
        | exact Calls.mono hh (fun e w'' he => by cases e <;> first | exact he hd | exact he)
        | exact Rows.mono hh (fun _ _ he => he)
  | halt x w' => cases x <;> simp only [Oper.upon] at hh ⊢ <;> first | exact hh hd | exact hh
/-- Such a region out of which an operation may panic. -/
theorem wp_region_relyX {id : Nat} (T : World → World → Prop) (J : Nat → World → Prop) (V : List (SV T)) (D : Deps) (S : List (Option Nat)) (path : List Nat) (n : Nat) (hla : ops.toList.getLast? = some last) (hm : P.follows .mixedOrders = true) (hn : a0.tmps.size = n) (hB : relyB ops n 0 ops.toList.dropLast D = true)
    (hlast : lastB ops last ops.toList.dropLast.length = true) (hg : last.guard = none) (hpath : (pathB ops path && placesB path S && decide (S.length = ops.toList.dropLast.length) && path.all fun i => decide (i < ops.toList.dropLast.length)) = true)
    (ht : ∀ a b c : World, T a b → T b c → T a c) (hd : T w0 w0.drew) (hJ : J 0 w0.drew) (hl : ops.toList.dropLast.length ≤ V.length)
    (hA : relyAllP P (Qx a0.defers Q) T V J a0 w0 ops.toList.dropLast D V S) (hE : ∀ w, T w0 w → J path.length w → relyEnd (fun _ a w => last.wp P a w (fun a' w' => Q .normal a' w') Q) T ops.toList.dropLast V a0 w) : (Code.region id ops true).wp P Q a0 w0 :=
  wp_region_relyQ (fun _ _ _ _ hd h => wp_Qx hd h) T J V D S path n hla hm hn hB hlast hg hpath ht hd hJ hl hA hE
end
theorem liftK {T : World → World → Prop} {J : Nat → World → Prop} {c : SV T} {G : Value → World → Prop} {wx : World} (hK : ∀ v w', T wx w' → (∀ k, J k wx → J k w') → c.pred v w' → G v w') (h1 : ∀ w', NewT wx w' → T wx w') (h2 : ∀ k w', J k wx → NewT wx w' → J k w') : ∀ v w', NewT wx w' → c.pred v w' → G v w' :=
  fun v w' hN hv => hK v w' (h1 w' hN) (fun k h => h2 k w' h hN) hv
end Go.Proofs.YtbejolbknimmmaaDoor
/- What the laws on acts share: acts in memory, an act's row, crashes. -/
namespace Go.Proofs.YtbejolbknimmmaaDoor
open Go Go.RowKit
set_option maxRecDepth 8000
set_option linter.all false
theorem acts_cell {w w' : World} {A : Option Addr} {n c : Nat} {l : List (Int × Int × List UInt8)} (h : ActsAt w (.slice A n c) l) (hN : NewT w w') {k : Nat} {kd m : Int} {B : List UInt8} (hx : l[k]? = some (kd, m, B)) :
    ∃ b o u, A = some ⟨b, o, none⟩ ∧ w'.cell? ⟨b, o + k * 3, none⟩ = some (.int .i64 kd) ∧ w'.cell? ⟨b, o + k * 3 + 1, none⟩ = some (.int .i64 m) ∧ w'.cell? ⟨b, o + k * 3 + 2, none⟩ = some u ∧ RdV w [] u B := by
  obtain ⟨A', c', hv, _, _, h3⟩ := h
  cases hv
  have hk := (List.getElem?_eq_some_iff.1 hx).1
  obtain ⟨b, o, hA, hc⟩ := h3 (by omega)
  obtain ⟨h1, h2, u, h4, h5⟩ := hc k _ hx
  have hb : b < w.heap.size := World.block_lt_of_cell? _ _ h1
  exact ⟨b, o, u, hA, cell_new hN hb h1, cell_new hN hb h2, cell_new hN hb h4, h5⟩
theorem ActsAt.new {w w' : World} {v : Value} {l : List (Int × Int × List UInt8)} (h : ActsAt w v l) (hN : NewT w w') : ActsAt w' v l := by
  obtain ⟨A, c, hv, h1, h2, h3⟩ := h
  refine ⟨A, c, hv, h1, h2, fun h0 => ?_⟩
  obtain ⟨b, o, hA, hc⟩ := h3 h0
  refine ⟨b, o, hA, fun i x hx => ?_⟩
  obtain ⟨k1, k2, u, k3, k4⟩ := hc i x hx
  have hb : b < w.heap.size := World.block_lt_of_cell? _ _ k1
  exact ⟨cell_new hN hb k1, cell_new hN hb k2, u, cell_new hN hb k3, hN.rd k4⟩
/-- A statement at a block's end: what follows is what follows the block. -/
theorem wp_unblock {P : Program} {s : Code} {id : Nat} {K : Act → World → Prop} {Q : Exit → Act → World → Prop} {a : Act} {w : World} (h : s.wp P (Exit.then K (Exit.inBlock id (Exit.then K Q))) a w) : s.wp P (Exit.inBlock id (Exit.then K Q)) a w :=
  wp_mono h fun e a w hq => by cases e <;> exact hq
theorem RBytes_rd (g : Nat) (M : List Nat) (vd vl : Value) (z : Nat) (D L S : List UInt8) (w : World) (h : RefAt w g M vd vl z D L) (e : D ++ L = S) : Cv 26 #[.pointer (some ⟨g, 0, none⟩)] w (svRd S) := by
  subst e
  exact Calls.mono (RBytes_cv g M vd vl z D L w h) fun _ _ ⟨v, he, hN, hv⟩ => ⟨v, he, hN, FreshB.rd hv⟩
theorem Bytes_same (v1 v2 : Value) (l : List UInt8) (w : World) (h1 : RdV w [] v1 l) (h2 : RdV w [] v2 l) (hl : l.length ≤ 65536) : Cv 24 #[v1, v2] w (.eq (.bool true)) := by
  have := Bytes_cv v1 v2 l l w h1 h2 (by omega) (by omega)
  rwa [show decide (l = l) = true by simp] at this
section
variable {a : Act} {w : World} {o : Oper} {K : Act → World → Prop} {Q : Exit → Act → World → Prop} {x y : Operand} {g : Nat}
theorem opr_fldA0 (ho : o.op = .fieldAddr 39 x 0) (hx : a.eval x = .pointer (some ⟨g, 0, none⟩)) (h : K (a.put o.dst (.pointer (some ⟨g, 0, none⟩))) w) : o.wp Tryd.prog a w K Q :=
  opr_fld Tryd.underlying39 rfl info_int ho hx (by rfl) h
theorem opr_fldA1 (ho : o.op = .fieldAddr 39 x 1) (hx : a.eval x = .pointer (some ⟨g, 0, none⟩)) (h : K (a.put o.dst (.pointer (some ⟨g, 1, none⟩))) w) : o.wp Tryd.prog a w K Q :=
  opr_fld Tryd.underlying39 rfl info_int ho hx (by rfl) h
theorem opr_fldA2 (ho : o.op = .fieldAddr 39 x 2) (hx : a.eval x = .pointer (some ⟨g, 0, none⟩)) (h : K (a.put o.dst (.pointer (some ⟨g, 2, none⟩))) w) : o.wp Tryd.prog a w K Q :=
  opr_fld Tryd.underlying39 rfl info_sb1 ho hx (by rfl) h
end
/-- Crash, of the program's disk and of the reference's. -/
theorem crash_same (D L : List UInt8) (k : Int) : (D ++ L).take (crashN k D.length (D ++ L).length) = D ++ L.take k.toNat ∧ crashN k D.length (D ++ L).length = (D ++ L.take k.toNat).length := by
  unfold crashN
  have e : D.length + min k.toNat ((D ++ L).length - D.length) = D.length + min k.toNat L.length := by simp
  rw [e]
  constructor
  · rw [List.take_append, List.take_of_length_le (by omega), Nat.add_sub_cancel_left]
    congr 1
    rcases Nat.le_total k.toNat L.length with h | h
    · rw [Nat.min_eq_left h]
    · rw [Nat.min_eq_right h, List.take_length, List.take_of_length_le h]
  · simp
/-- A value of the frame that is known is moved. -/
theorem opr_moveV {P : Program} {a : Act} {w : World} {o : Oper} {K : Act → World → Prop} {Q : Exit → Act → World → Prop} {x : Operand} {v : Value} (ho : o.op = .move x ∨ o.op = .assign x) (hv : a.eval x = v) (h : K (a.put o.dst v) w) : o.wp P a w K Q := by
  subst hv; exact opr_move ho h
/-- An act's three cells. -/
def acF (kd n : Int) (u : Value) (i : Nat) : Value := if i = 0 then .int .i64 kd else if i = 1 then .int .i64 n else u
end Go.Proofs.YtbejolbknimmmaaDoor
/- Every bytes have a log. -/
namespace Go.Proofs.YtbejolbknimmmaaDoor
open Go Go.RowKit
set_option maxRecDepth 8000
set_option linter.all false
/-- Every bytes have a log. -/
theorem isLog_ex (nx : (Nat → UInt8) → List UInt8 → Nat → UInt8) : ∀ (n : Nat) (c : Nat → UInt8) (S : List UInt8), S.length ≤ n → ∃ es, IsLog nx mkL c S es
  | 0, c, S, h => ⟨[], IsLog.none nx mkL fun e he hp => by
    have := hp.length_le
    have := entL_pos nx mkL c e
    omega⟩
  | n + 1, c, S, h => by
    by_cases hex : ∃ e, okE e ∧ entL nx mkL c e <+: S
    · obtain ⟨e, he, r, rfl⟩ := hex
      have := entL_pos nx mkL c e
      obtain ⟨es, hes⟩ := isLog_ex nx n (nx c e) r (by rw [List.length_append] at h; omega)
      exact ⟨e :: es, IsLog.next nx mkL he hes⟩
    · exact ⟨[], IsLog.none nx mkL fun e he hp => hex ⟨e, he, hp⟩⟩
end Go.Proofs.YtbejolbknimmmaaDoor
/- LogSize, walked. -/
namespace Go.Proofs.YtbejolbknimmmaaDoor
open Go Go.RowKit
set_option maxRecDepth 8000
set_option linter.all false
theorem made_row1 (n : Nat) : madeCells (Value.int .u8 0).cells n = rowA n (fun _ => .int .u8 0) := by
  apply Array.ext_getElem?
  intro i
  by_cases h : i < n
  · rw [rowA_at _ _ _ h]
    simp only [madeCells, Array.getElem?_map, Array.getElem?_range, h, if_true, Option.map_some]
    rw [show i % (Value.int .u8 0).cells.size = 0 from Nat.mod_one i]
    rfl
  · rw [Array.getElem?_eq_none (by rw [size_madeCells]; omega), Array.getElem?_eq_none (by rw [rowA_size]; omega)]
theorem run_makeB (m : Nat) (hm : m ≤ 1000000) (W : World) : (Instr.makeSlice 33 (.int .i64 (m : Int)) (.int .i64 (m : Int))).run Tryd.prog W = .ok (.slice (some ⟨W.heap.size, 0, none⟩) m m) (W.alloc (.cells (rowA m fun _ => .int .u8 0) 5)) := by
  obtain ⟨i0, hi, hz0, hz1, hz2⟩ := info_parts info5
  have := run_make (P := Tryd.prog) W 33 5 i0 _ Tryd.underlying33 hi hz0 .i64 .i64 (m : Int) (m : Int) (by omega) (by omega) (by rw [hz2]; omega) (by omega)
  rw [this, hz1, Int.toNat_natCast, Nat.mul_one, made_row1]
theorem rd_made (m : Nat) (hm : m ≤ 1000000) (W : World) : RdV (W.alloc (.cells (rowA m fun _ => .int .u8 0) 5)) [] (.slice (some ⟨W.heap.size, 0, none⟩) m m) (List.replicate m 0) := by
  refine ⟨some ⟨W.heap.size, 0, none⟩, m, by simp, by simp, by unfold maxLen; omega, fun _ => ⟨W.heap.size, 0, rfl, by simp, fun i hi => ?_⟩⟩
  rw [List.length_replicate] at hi
  rw [Nat.zero_add, (rowIs_box W 5 m (fun _ => .int .u8 0)).cell hi]
  simp [bAt, hi]
  rfl
theorem encL_bound (nx : (Nat → UInt8) → List UInt8 → Nat → UInt8) (m : Nat) (hm : m ≤ 2000) : ∀ (c : Nat → UInt8) (es : List (List UInt8)), (∀ e ∈ es, e.length ≤ m) → (encL nx mkL c es).length ≤ (m + 10) * es.length
  | _, [], _ => by simp [encL]
  | c, e :: es, h => by
    have h1 := encL_bound nx m hm (nx c e) es fun x hx => h x (by simp [hx])
    have h2 := h e (by simp)
    have h3 := sz_small (n := e.length) (by omega)
    have h4 := entL_length nx c e
    rw [encL, List.length_append, List.length_cons, Nat.mul_add, Nat.mul_one]
    omega
set_option maxRecDepth 20000 in
set_option maxHeartbeats 4000000 in
theorem LogSize_walk (v0 : Value) (ls : List (List UInt8)) (w : World) (hT : Tables w) (h1 : Parts w v0 ls) : Calls Tryd.prog 6 #[v0] w fun e w' => e = .returned (.bool true) ∧ Below w.heap.size w w' := by
  obtain ⟨nx, hX⟩ := logH_ex
  obtain ⟨ps, h1, hps⟩ := h1
  have HT := Lib.hid hT
  have H1L : Hid (1 < w.heap.size) := Lib.hid hT.size
  have R1 := Lib.hid h1
  obtain ⟨A1, c1, rfl, _⟩ := h1
  clear hT
  by_cases g1 : 15 < (ps.length : Int)
  · go_enter Tryd.func6, Tryd.ntmps6
    go_wp2_with (go_at_call 9; refine (alive9_c w HT.out).eq.mono ?_; rintro _ w1 ⟨rfl, hN1⟩)
    go_ret
    exact ⟨rfl, hN1⟩
  have hmax : ps.length ≤ 15 := by omega
  have HMAX := Lib.hid hmax
  go_enter Tryd.func6, Tryd.ntmps6
  go_wp2_with (first
    | (go_at_call 9; refine (alive9_c w HT.out).eq.mono ?_; rintro _ w1 ⟨rfl, hN1⟩; have N1 : Hid (NewT w w1) := Lib.hid hN1; clear hN1)
    | (go_at_call 12; refine (New_c 9000 (by omega) (by omega) w1).mono ?_; rintro _ w2 ⟨rfl, hN, hD⟩; have H2 := Lib.hid hD; have N2 := Lib.hid (NewT.trans _ _ _ N1.out hN); have Q1 := Lib.hid N1.out.out.size; clear hN hD)
    | (go_at_call 11
       refine (Open_c hX w1.heap.size _ 9000 [] 0 w2 (HT.out.below N2.out.out) H2.out [] (again nx mkL hash0 [] (by simp)) (Nat.lt_of_lt_of_le H1L.out Q1.out)).mono ?_
       rintro _ w3 ⟨g, v3, lv, ps3, rfl, hg, hD3, hL3, hps3, hP⟩
       obtain ⟨A3, c3, rfl, _⟩ := parts_es (hP [] (by simp)) hps3
       have H3 := Lib.hid hL3
       have N3 := Lib.hid (hD3.newT N2.out Q1.out)
       clear hD3 hL3 hps3 hP hg))
  go_loopw [7, 8] (fun n i wr => ∃ (k : Nat) (es : List (List UInt8)) (v : Value) (m : Nat), k ≤ ps.length ∧ n = .int .i64 (m : Int) ∧ i = .int .i64 (k : Int) ∧ Hid (LogAt nx wr g w1.heap.size v 9000 es m) ∧ Hid (m = (encL nx mkL hash0 es).length ∧ es.length ≤ k ∧ (∀ e ∈ es, e.length ≤ 300)) ∧ Hid (NewT w wr)) (fun _ i _ => ps.length - (intOf i).toNat)
  case atStart => exact ⟨0, [], v3, 0, by omega, rfl, rfl, H3, Lib.hid ⟨rfl, by simp, by simp⟩, N3⟩
  case round =>
    obtain ⟨k, es, v, m, hk, rfl, rfl, HL, HE, HN⟩ := hrel
    clear H2 N2 H3 N3
    by_cases hlt : k < ps.length
    · have it : (k : Int) < (ps.length : Int) := by omega
      obtain ⟨b, o, rfl, hb, hc⟩ := parts_cell R1.out (by omega)
      obtain ⟨x, hx⟩ : ∃ x, ps[k]? = some x := ⟨_, List.getElem?_eq_getElem hlt⟩
      obtain ⟨u, l⟩ := x
      have hxr : RdV w [] u l := parts_rd R1.out (List.mem_of_getElem? hx)
      have hc : w.cell? ⟨b, o + k, none⟩ = some u := hc k _ hx
      obtain ⟨A4, c4, rfl⟩ := rdV_form hxr
      have HX := Lib.hid hxr
      have HC := Lib.hid hc
      have HB := Lib.hid hb
      have hcell := cell_new HN.out hb hc
      clear hxr hc hx hb
      by_cases h3 : 300 < (l.length : Int)
      · go_wp2
        go_ret
        exact ⟨rfl, HN.out⟩
      by_cases h0 : l = []
      · subst h0
        clear h3
        go_wp2_with (first
          | (go_at_call 17; refine (Append_arg g _ wr (HN.out.rd HX.out)).eq.mono ?_; rintro _ w4 ⟨rfl, hN⟩; have H4 := Lib.hid (HL.out.new hN); have N4 := Lib.hid (NewT.trans _ _ _ HN.out hN); have hcell4 := cell_new N4.out HB.out HC.out; clear hN hcell)
          | (go_at_call 25; clear hcell4; refine Calls.mono (DBytes_c _ v 9000 _ m _ H4.out.disk) ?_; rintro _ w5 ⟨v5, rfl, hN, hv⟩; have H5 := Lib.hid (H4.out.new hN); have N5 := Lib.hid (NewT.trans _ _ _ N4.out hN); obtain ⟨A5, c5, rfl⟩ := rdV_form (FreshB.rd hv); rw [← HE.out.1]; clear hN hv)
          | (go_at_call 29; refine (Lasts_c _ v 9000 _ m _ H5.out.disk).eq.mono ?_; rintro _ w6 ⟨rfl, hN⟩; have H6 := Lib.hid (H5.out.new hN); have N6 := Lib.hid (NewT.trans _ _ _ N5.out hN); clear hN))
        go_roundw
        case rel => exact ⟨k + 1, es, v, m, by omega, rfl, by go_num, H6, Lib.hid ⟨HE.out.1, by have := HE.out.2.1; omega, HE.out.2.2⟩, N6⟩
        case measure => simp [intOf]; omega
      · have hl0 : 0 < l.length := List.length_pos_iff.2 h0
        have hok : okE l := ⟨hl0, by omega⟩
        have h300 : l.length ≤ 300 := by omega
        obtain ⟨q, hq⟩ := hid_ex (encL nx mkL hash0 (es ++ [l])).length
        have hall : ∀ e ∈ es ++ [l], e.length ≤ 300 := fun e he => by
          rcases List.mem_append.1 he with he | he
          · exact HE.out.2.2 e he
          · simp at he; subst he; exact h300
        have hqb : q ≤ 4960 := by
          have hbd := encL_bound nx 300 (by omega) hash0 (es ++ [l]) hall
          rw [hq.out, List.length_append] at hbd
          have := HE.out.2.1
          have := Nat.mul_le_mul_left 310 (show es.length + 1 ≤ 16 by omega)
          simp at hbd
          omega
        obtain ⟨z, hz⟩ := hid_ex (entL nx mkL (chL nx hash0 es) l).length
        have hmz : m + z = q := by rw [← hq.out, encL_snoc, List.length_append, HE.out.1, hz.out]
        have HZ : Hid (esz (l.length : Int) = (z : Int)) := Lib.hid (by rw [esz_ok hok nx (chL nx hash0 es), hz.out])
        have HW : Hid (wrap64 ((m : Int) + (z : Int)) = (q : Int)) := Lib.hid (by unfold wrap64; omega)
        have HOK := Lib.hid hok
        have HALL := Lib.hid hall
        have HQB := Lib.hid hqb
        have il : (0 : Int) < (l.length : Int) := by omega
        have hd0 : decide (0 < l.length) = true := decide_eq_true hl0
        clear h0 hok h300 hall hqb hmz
        go_wp2_with (first
          | (go_at_call 17; refine (Append_ok hX g _ v 9000 es m _ l wr (HT.out.below HN.out.out) HL.out (HN.out.rd HX.out) HOK.out (by rw [hq.out]; have := HQB.out; omega)).mono ?_; rintro _ w4 ⟨rfl, v4, hS, hA⟩; rw [hq.out] at hA; have H4 := Lib.hid hA; have N4 := Lib.hid (hS.newT HN.out Q1.out); have hcell4 := cell_new N4.out HB.out HC.out; clear hS hA hcell)
          | (go_at_call 28; refine (LSize_cv _ (l.length : Int) w4).eq.mono ?_; rintro _ w7 ⟨rfl, hN⟩; rw [HZ.out]; have hws := HW.out; have H7 := Lib.hid (H4.out.new hN); have N7 := Lib.hid (NewT.trans _ _ _ N4.out hN); clear hN)
          | (go_at_call 25; rw [hws]; clear hcell4 hws; refine Calls.mono (DBytes_c _ v4 9000 _ q _ H7.out.disk) ?_; rintro _ w5 ⟨v5, rfl, hN, hv⟩; have H5 := Lib.hid (H7.out.new hN); have N5 := Lib.hid (NewT.trans _ _ _ N7.out hN); obtain ⟨A5, c5, rfl⟩ := rdV_form (FreshB.rd hv); rw [hq.out]; clear hN hv)
          | (go_at_call 29; refine (Lasts_c _ v4 9000 _ q _ H5.out.disk).eq.mono ?_; rintro _ w6 ⟨rfl, hN⟩; have H6 := Lib.hid (H5.out.new hN); have N6 := Lib.hid (NewT.trans _ _ _ N5.out hN); clear hN))
        go_roundw
        case rel => exact ⟨k + 1, es ++ [l], v4, q, by omega, rfl, by go_num, H6, Lib.hid ⟨hq.out.symm, by rw [List.length_append]; have := HE.out.2.1; simp; omega, HALL.out⟩, N6⟩
        case measure => simp [intOf]; omega
    · obtain rfl : k = ps.length := by omega
      have hmk : ∀ W : World, (Instr.makeSlice 33 (.int .i64 2001) (.int .i64 2001)).run Tryd.prog W = .ok (.slice (some ⟨W.heap.size, 0, none⟩) 2001 2001) (W.alloc (.cells (rowA 2001 fun _ => .int .u8 0) 5)) := run_makeB 2001 (by omega)
      have t0 : Hid True := Lib.hid trivial
      go_wp2_with (first
        | (go_at_call 14; clear t0; refine (Put_long g _ (List.replicate 2001 0) _ (rd_made 2001 (by omega) wr) (by rw [List.length_replicate]; omega)).eq.mono ?_; rintro _ w4 ⟨rfl, hN⟩; have N0 := Lib.hid (NewT.trans _ _ _ (NewT.alloc wr _) hN); have H4 := Lib.hid (HL.out.new N0.out); have N4 := Lib.hid (NewT.trans _ _ _ HN.out N0.out); have t1 : Hid True := Lib.hid trivial; clear hN)
        | (go_at_call 14; clear t1; refine (Put_arg g _ w4 (rdV_nil _ _)).eq.mono ?_; rintro _ w5 ⟨rfl, hN⟩; have H5 := Lib.hid (H4.out.new hN); have N5 := Lib.hid (NewT.trans _ _ _ N4.out hN); clear hN)
        | (go_at_call 25; refine Calls.mono (DBytes_c _ v 9000 _ m _ H5.out.disk) ?_; rintro _ w6 ⟨v6, rfl, hN, hv⟩; have N6 := Lib.hid (NewT.trans _ _ _ N5.out hN); obtain ⟨A6, c6, rfl⟩ := rdV_form (FreshB.rd hv); rw [← HE.out.1]; clear hN hv))
      go_ret
      exact ⟨rfl, N6.out⟩
end Go.Proofs.YtbejolbknimmmaaDoor
/- A row of numbers of the law's own beside a log. -/
namespace Go.Proofs.YtbejolbknimmmaaDoor
open Go Go.RowKit
set_option maxRecDepth 8000
set_option linter.all false
theorem inTy : ∃ i, ValTy Tryd.prog 59 3 i (.int .i64 0) := by
  have h : (Tryd.prog.info? 3).map (fun i => (i.zero.isSome, i.size, decide (i.bytes ≤ 64))) = some (true, 1, true) := by kernel_rfl
  have hz : (Tryd.prog.info? 3).bind (·.zero) = some (.int .i64 0) := by kernel_rfl
  cases hq : Tryd.prog.info? 3 with
  | none => rw [hq] at h; cases h
  | some i =>
    rw [hq] at h hz
    simp at h hz
    exact ⟨i, Tryd.underlying59, hq, hz, h.2.1, rfl, h.2.2⟩
theorem int_ne : 3 ≠ 64 ∧ 3 ≠ 70 ∧ 3 ≠ 5 := by decide
/-- An append of one number onto the row. -/
theorem app_int {W : World} {B : Nat} {va u : Value} {vs : List Value} {x : Int} (h : OwnV W B 3 va vs) (hu : ValsAt W [] u [.int .i64 x]) (hn : vs.length ≤ 1000) (hB : B ≤ W.heap.size) :
    ∃ v' w', (Builtin.append_ #[59, 59] 59 #[va, u]).run Tryd.prog W = .ok v' w' ∧ OwnV w' B 3 v' (vs ++ [.int .i64 x]) ∧ W.grownBy w' va.ownBlock := by
  obtain ⟨i0, hTy⟩ := inTy
  obtain ⟨v', w', h1, h2, _, h3⟩ := run_appV_T (P := Tryd.prog) (ty := 59) hTy h hu (by intro y hy; simp at hy; subst hy; rfl) (C := vs ++ [.int .i64 x]) (List.prefix_refl _) (by simp; omega) hB
  exact ⟨v', w', h1, h2, h3⟩
theorem vals_int (w : World) (x : Int) : ValsAt (w.alloc (.cells #[.int .i64 x] 3)) [] (.slice (some ⟨w.heap.size, 0, none⟩) 1 1) [.int .i64 x] :=
  ⟨some ⟨w.heap.size, 0, none⟩, 1, rfl, by simp, by unfold maxLen; omega, fun _ => ⟨w.heap.size, 0, rfl, by simp, fun i y hy => by
    have h0 : i = 0 := by have := (List.getElem?_eq_some_iff.1 hy).1; simpa using this
    subst h0
    simp at hy
    subst hy
    exact (rowIs_one w 3 (.int .i64 x)).cell (i := 0) (by omega)⟩⟩
theorem own_int (w : World) (x : Int) : OwnV (w.alloc (.cells #[.int .i64 x] 3)) w.heap.size 3 (.slice (some ⟨w.heap.size, 0, none⟩) 1 1) [.int .i64 x] :=
  ownsRow_row (rowIs_one w 3 (.int .i64 x)) w.heap.size 1 (by omega) (by unfold maxLen; omega) (Nat.le_refl _)
theorem OwnV.cells_at {w : World} {B : Nat} {e : TypeId} {v : Value} {vs : List Value} (h : OwnV w B e v vs) (h0 : 0 < vs.length) : ∃ g c, v = .slice (some ⟨g, 0, none⟩) vs.length c ∧ g < w.heap.size ∧ ∀ i x, vs[i]? = some x → w.cell? ⟨g, i, none⟩ = some x := by
  rcases h.2 with ⟨_, h1⟩ | ⟨g, cap, cur, hv, hb, hg, hc, hm, hs, hx⟩
  · omega
  · refine ⟨g, cap, hv, (Array.getElem?_eq_some_iff.1 hg).1, fun i x hi => ?_⟩
    obtain ⟨A, c, hv', _, _, h3⟩ := h.at' (L := []) (by simp)
    rw [hv] at hv'
    cases hv'
    obtain ⟨b, o, hA, _, hcell⟩ := h3 h0
    cases hA
    have := hcell i x hi
    rwa [Nat.zero_add] at this
theorem DBytes_9 (g : Nat) (v : Value) (room : Nat) (S : List UInt8) (n : Nat) (w : World) (h : DiskAt w g v room S n) : Cv 25 #[.pointer (some ⟨g, 0, none⟩)] w (svRd S) :=
  Calls.mono (DBytes_c g v room S n w h) fun _ _ ⟨v, he, hN, hv⟩ => ⟨v, he, hN, FreshB.rd hv⟩
theorem run_size_i (w : World) : (sizeOf 3).run Tryd.prog w = .ok 1 w := by
  have hs := info_int
  cases hq : Tryd.prog.info? 3 with
  | none => simp [hq] at hs
  | some i => simp [hq] at hs; simp [sizeOf, typeInfo, hq, hs]
theorem opr_idxI {a : Act} {w : World} {o : Oper} {K : Act → World → Prop} {Q : Exit → Act → World → Prop} {x y : Operand} {b n c i : Nat} (hi : i < n) (ho : o.op = .indexAddr 59 x y) (hx : a.eval x = .slice (some ⟨b, 0, none⟩) n c) (hy : a.eval y = .int .i64 (i : Int)) (h : K (a.put o.dst (.pointer (some ⟨b, i, none⟩))) w) : o.wp Tryd.prog a w K Q := by
  obtain ⟨dst, op, type, pos, after, guard⟩ := o
  simp only at ho
  subst ho
  exact opr_val (s := Instr.indexAt 59 (a.eval x) (a.eval y)) rfl (by rw [hx, hy]; simp [Instr.indexAt, asIntOf, run_underlying Tryd.underlying59, run_size_i, hi, Addr.add_mid]) h
theorem RSame9_same (va vb : Value) (x : List (List UInt8)) (w : World) (ha : Parts w va x) (hb : Parts w vb x) (hx : Fine9 x) : Cv 20 #[va, vb] w (.eq (.bool true)) := by
  have := RSame9_cv va vb x x w ha hb hx hx
  rwa [decide_eq_true rfl] at this
/-- Where the entries end. -/
def endsV (nx : (Nat → UInt8) → List UInt8 → Nat → UInt8) (es : List (List UInt8)) (k : Nat) : List Value := (List.range (k + 1)).map fun j => .int .i64 ((encL nx mkL hash0 (es.take j)).length : Int)
theorem endsV_zero (nx : (Nat → UInt8) → List UInt8 → Nat → UInt8) (es : List (List UInt8)) : endsV nx es 0 = [.int .i64 0] := rfl
theorem endsV_succ (nx : (Nat → UInt8) → List UInt8 → Nat → UInt8) (es : List (List UInt8)) (k : Nat) : endsV nx es (k + 1) = endsV nx es k ++ [.int .i64 ((encL nx mkL hash0 (es.take (k + 1))).length : Int)] := by
  unfold endsV
  rw [List.range_succ, List.map_append]
  rfl
theorem endsV_length (nx : (Nat → UInt8) → List UInt8 → Nat → UInt8) (es : List (List UInt8)) (k : Nat) : (endsV nx es k).length = k + 1 := by simp [endsV]
theorem endsV_at (nx : (Nat → UInt8) → List UInt8 → Nat → UInt8) (es : List (List UInt8)) (k j : Nat) (h : j ≤ k) : (endsV nx es k)[j]? = some (.int .i64 ((encL nx mkL hash0 (es.take j)).length : Int)) := by
  unfold endsV
  rw [List.getElem?_map, List.getElem?_range (by omega)]
  rfl
/-- The last of the entries' ends that is no more than n: as many are whole there. -/
theorem whole_last (nx : (Nat → UInt8) → List UInt8 → Nat → UInt8) (es : List (List UInt8)) (n j : Nat) (hj : j ≤ es.length) (h1 : (encL nx mkL hash0 (es.take j)).length ≤ n) (h2 : ∀ i, i ≤ es.length → (encL nx mkL hash0 (es.take i)).length ≤ n → i ≤ j) : whole nx mkL n hash0 es = j :=
  Nat.le_antisymm (h2 _ (whole_le nx mkL es n hash0) (whole_fits nx mkL es n hash0)) (whole_most nx mkL es n j hash0 hj h1)
end Go.Proofs.YtbejolbknimmmaaDoor
/- LogActs: may the acts be looked at; what two calls leave. -/
namespace Go.Proofs.YtbejolbknimmmaaDoor
open Go Go.RowKit
set_option maxRecDepth 8000
set_option linter.all false
def fewC (l : List (Int × Int × List UInt8)) : Bool := decide (l.length ≤ 40) && l.all fun x => decide (x.2.2.length ≤ 300)
theorem fewC_not {l : List (Int × Int × List UInt8)} {k : Nat} {kd n : Int} {B : List UInt8} (h : l[k]? = some (kd, n, B)) (hb : 300 < B.length) : fewC l = false := by
  unfold fewC
  rw [Bool.and_eq_false_iff]
  right
  rw [List.all_eq_false]
  exact ⟨_, List.mem_of_getElem? h, by simpa using hb⟩
theorem fewC_yes {l : List (Int × Int × List UInt8)} (h : l.length ≤ 40) (hb : ∀ x ∈ l, x.2.2.length ≤ 300) : fewC l = true := by
  unfold fewC
  rw [Bool.and_eq_true, List.all_eq_true]
  exact ⟨decide_eq_true h, fun x hx => decide_eq_true (hb x hx)⟩
set_option maxHeartbeats 1000000 in
theorem fewC_cv (v : Value) (l : List (Int × Int × List UInt8)) (w : World) (h : ActsAt w v l) : Cv 10 #[v] w (.eq (.bool (fewC l))) := by
  unfold Cv
  obtain ⟨A, c, rfl, h1, h2, h3⟩ := h
  have H3 := Lib.hid h3
  clear h3
  by_cases hl : 40 < (l.length : Int)
  · go_enter Tryd.func10, Tryd.ntmps10
    go_wp2
    go_ret
    exact ⟨_, rfl, NewT.refl _, by rw [show fewC l = false by unfold fewC; rw [decide_eq_false (by omega)]; rfl]; rfl⟩
  have hl40 : l.length ≤ 40 := by omega
  go_enter Tryd.func10, Tryd.ntmps10
  go_wp2
  go_loopw [3] (fun i wr => ∃ k : Nat, k ≤ l.length ∧ i = .int .i64 (k : Int) ∧ wr = w ∧ Hid (∀ x ∈ l.take k, x.2.2.length ≤ 300)) (fun i _ => l.length - (intOf i).toNat)
  case atStart => exact ⟨0, by omega, rfl, rfl, Lib.hid (by simp)⟩
  case round =>
    obtain ⟨k, hk, rfl, rfl, HT⟩ := hrel
    by_cases hlt : k < l.length
    · have it : (k : Int) < (l.length : Int) := by omega
      obtain ⟨b, o, rfl, hc⟩ := H3.out (by omega)
      obtain ⟨⟨kd, n, B⟩, hx⟩ : ∃ x, l[k]? = some x := ⟨_, List.getElem?_eq_getElem hlt⟩
      obtain ⟨-, -, u, hu, hr⟩ := hc k _ hx
      obtain ⟨A2, c2, rfl⟩ := rdV_form hr
      have HX := Lib.hid hx
      clear hc hr hx
      by_cases hb : 300 < (B.length : Int)
      · go_wp2
        go_ret
        exact ⟨_, rfl, NewT.refl _, by rw [show fewC l = false from fewC_not HX.out (by omega)]; rfl⟩
      · go_wp2
        go_roundw
        case rel => exact ⟨k + 1, by omega, by go_num, trivial, Lib.hid (by
          intro x hx
          rw [List.take_add_one, HX.out] at hx
          rcases List.mem_append.1 hx with hx | hx
          · exact HT.out x hx
          · simp at hx; subst hx; show B.length ≤ 300; omega)⟩
        case measure => simp [intOf]; omega
    · obtain rfl : k = l.length := by omega
      go_wp2
      go_ret
      exact ⟨_, rfl, NewT.refl _, by rw [show fewC l = true from fewC_yes hl40 (fun x hx => HT.out x (by rw [List.take_length]; exact hx))]; rfl⟩
theorem fewC_of {l : List (Int × Int × List UInt8)} (h : fewC l = true) : l.length ≤ 40 ∧ ∀ x ∈ l, x.2.2.length ≤ 300 := by
  unfold fewC at h
  rw [Bool.and_eq_true, List.all_eq_true] at h
  exact ⟨of_decide_eq_true h.1, fun x hx => of_decide_eq_true (h.2 x hx)⟩
section
variable {nx : (Nat → UInt8) → List UInt8 → Nat → UInt8} {gd gr gx gy x B room n : Nat} {es es1 : List (List UInt8)} {D L D1 L1 b : List UInt8} {w w' : World}
def JL (nx : (Nat → UInt8) → List UInt8 → Nat → UInt8) (gd gr gx gy x B room : Nat) (es : List (List UInt8)) (n : Nat) (D L : List UInt8) (es1 : List (List UInt8)) (L1 : List UInt8) (k : Nat) (w : World) : Prop :=
  (k = 0 → LX nx gd gr gx gy x B room es n es D L w) ∧ (k = 1 → LX nx gd gr gx gy x B room es1 n es D L w) ∧ (k = 2 → LX nx gd gr gx gy x B room es1 n es1 D L1 w)
theorem JL.new {k : Nat} (h : JL nx gd gr gx gy x B room es n D L es1 L1 k w) (hN : NewT w w') : JL nx gd gr gx gy x B room es n D L es1 L1 k w' :=
  ⟨fun e => (h.1 e).new hN, fun e => (h.2.1 e).new hN, fun e => (h.2.2 e).new hN⟩
theorem pt_ok {α : Type} {yes no : α} (h : ptE nx room es b = 0) : ptS nx room es b yes no = yes := by
  unfold ptE at h; unfold ptS
  by_cases h0 : b = []
  · rw [if_pos h0] at h; exact absurd h (by decide)
  · rw [if_neg h0] at h ⊢
    by_cases h1 : (encL nx mkL hash0 (es ++ [b])).length ≤ room
    · rw [if_pos h1]
    · rw [if_neg h1] at h; exact absurd h (by decide)
theorem pt_no {α : Type} {yes no : α} (h : ptE nx room es b ≠ 0) : ptS nx room es b yes no = no := by
  unfold ptE at h; unfold ptS
  by_cases h0 : b = []
  · rw [if_pos h0]
  · rw [if_neg h0] at h ⊢
    by_cases h1 : (encL nx mkL hash0 (es ++ [b])).length ≤ room
    · rw [if_pos h1] at h; exact absurd rfl h
    · rw [if_neg h1]
theorem pt_enc (h : D ++ L = encL nx mkL hash0 es) : D ++ ptS nx room es b (L ++ entL nx mkL (chL nx hash0 es) b) L = encL nx mkL hash0 (ptS nx room es b (es ++ [b]) es) := by
  by_cases h0 : ptE nx room es b = 0
  · rw [pt_ok h0, pt_ok h0, ← List.append_assoc, h, encL_snoc]
  · rw [pt_no h0, pt_no h0, h]
theorem L0.fine (h : L0 nx gd gr gx gy B room es n es D L w) : (∀ e ∈ es, okE e) ∧ es.length ≤ 65536 ∧ (encL nx mkL hash0 es).length ≤ 65536 := by
  obtain ⟨v, _, _, _, _, h⟩ := h
  have h1 := h.log.disk.fits
  have h2 := h.log.disk.room2
  have h3 := encL_count nx hash0 es
  exact ⟨h.log.ok, by omega, by omega⟩
end
end Go.Proofs.YtbejolbknimmmaaDoor
/- LogActs, walked. -/
namespace Go.Proofs.YtbejolbknimmmaaDoor
open Go Go.RowKit
set_option maxRecDepth 8000
set_option linter.all false
set_option maxRecDepth 20000 in
set_option maxHeartbeats 8000000 in
theorem LogActs_walk (room : Int) (v : Value) (l : List (Int × Int × List UInt8)) (w : World) (hT : Tables w) (h : ActsAt w v l) : Calls Tryd.prog 3 #[.int .i64 room, v] w fun e w' => e = .returned (.bool true) ∧ Below w.heap.size w w' := by
  obtain ⟨nx, hX⟩ := logH_ex
  have HT := Lib.hid hT
  have H1L : Hid (1 < w.heap.size) := Lib.hid hT.size
  have HA := Lib.hid h
  obtain ⟨A, c, rfl, _⟩ := h
  obtain ⟨fb, hfb⟩ := hid_ex (fewC l)
  clear hT
  cases fb with
  | false =>
    go_enter Tryd.func3, Tryd.ntmps3
    go_wp2_with (first
      | (go_at_call 9; refine (alive9_c w HT.out).eq.mono ?_; rintro _ w1 ⟨rfl, hN1⟩; have N1 : Hid (NewT w w1) := Lib.hid hN1; clear hN1)
      | (go_at_call 10; refine (fewC_cv _ l w1 (HA.out.new N1.out)).eq.mono ?_; rw [hfb.out]; rintro _ w2 ⟨rfl, hN2⟩; have N2 : Hid (NewT w w2) := Lib.hid (NewT.trans _ _ _ N1.out hN2); clear hN2)
      | (go_at_call 11; refine (Open_nil _).eq.mono ?_; rintro _ w3 ⟨rfl, hN3⟩; have N3 : Hid (NewT w w3) := Lib.hid (NewT.trans _ _ _ N2.out hN3); clear hN3))
    go_ret
    exact ⟨rfl, N3.out.out⟩
  | true =>
    by_cases hr : room < 1 ∨ 3000 < room
    · by_cases r1 : room < 1
      · clear hr
        go_enter Tryd.func3, Tryd.ntmps3
        go_wp2_with (first
          | (go_at_call 9; refine (alive9_c w HT.out).eq.mono ?_; rintro _ w1 ⟨rfl, hN1⟩; have N1 : Hid (NewT w w1) := Lib.hid hN1; clear hN1)
          | (go_at_call 10; refine (fewC_cv _ l w1 (HA.out.new N1.out)).eq.mono ?_; rw [hfb.out]; rintro _ w2 ⟨rfl, hN2⟩; have N2 : Hid (NewT w w2) := Lib.hid (NewT.trans _ _ _ N1.out hN2); clear hN2)
          | (go_at_call 11; refine (Open_nil _).eq.mono ?_; rintro _ w3 ⟨rfl, hN3⟩; have N3 : Hid (NewT w w3) := Lib.hid (NewT.trans _ _ _ N2.out hN3); clear hN3))
        go_ret
        exact ⟨rfl, N3.out.out⟩
      · have r2 : 3000 < room := by omega
        clear hr
        go_enter Tryd.func3, Tryd.ntmps3
        go_wp2_with (first
          | (go_at_call 9; refine (alive9_c w HT.out).eq.mono ?_; rintro _ w1 ⟨rfl, hN1⟩; have N1 : Hid (NewT w w1) := Lib.hid hN1; clear hN1)
          | (go_at_call 10; refine (fewC_cv _ l w1 (HA.out.new N1.out)).eq.mono ?_; rw [hfb.out]; rintro _ w2 ⟨rfl, hN2⟩; have N2 : Hid (NewT w w2) := Lib.hid (NewT.trans _ _ _ N1.out hN2); clear hN2)
          | (go_at_call 11; refine (Open_nil _).eq.mono ?_; rintro _ w3 ⟨rfl, hN3⟩; have N3 : Hid (NewT w w3) := Lib.hid (NewT.trans _ _ _ N2.out hN3); clear hN3))
        go_ret
        exact ⟨rfl, N3.out.out⟩
    · obtain ⟨r, rfl⟩ : ∃ r : Nat, room = r := ⟨room.toNat, by omega⟩
      have bnd : Hid (1 ≤ r ∧ r ≤ 3000) := Lib.hid (by omega)
      have r1 : ¬ (r : Int) < 1 := by omega
      have r2 : ¬ 3000 < (r : Int) := by omega
      have hlen : Hid (l.length ≤ 40 ∧ ∀ x ∈ l, x.2.2.length ≤ 300) := Lib.hid (fewC_of hfb.out)
      have hl40 : l.length ≤ 40 := hlen.out.1
      clear hr
      go_enter Tryd.func3, Tryd.ntmps3
      go_upto_region 7 with (first
        | (go_at_call 9; refine (alive9_c w HT.out).eq.mono ?_; rintro _ w1 ⟨rfl, hN1⟩; have N1 : Hid (NewT w w1) := Lib.hid hN1; clear hN1)
        | (go_at_call 10; refine (fewC_cv _ l w1 (HA.out.new N1.out)).eq.mono ?_; rw [hfb.out]; rintro _ w2 ⟨rfl, hN2⟩; have N2 : Hid (NewT w w2) := Lib.hid (NewT.trans _ _ _ N1.out hN2); clear hN2)
        | (go_at_call 12; refine (New_c r bnd.out.1 (by have := bnd.out.2; omega) w2).mono ?_; rintro _ w3 ⟨rfl, hN, hD⟩; have H3 := Lib.hid hD; have N3 : Hid (NewT w w3) := Lib.hid (NewT.trans _ _ _ N2.out hN); have HQ : Hid (w2.heap.size < w3.heap.size) := Lib.hid hD.lt; clear hN hD))
      have r4 := rowIs_box w3 35 3 (rdF (.slice none 0 0) (.slice none 0 0) r)
      have hN4 := NewT.alloc w3 (.cells (rowA 3 (rdF (.slice none 0 0) (.slice none 0 0) r)) 35)
      change Code.wp _ _ _ _ (w3.alloc (.cells (rowA 3 (rdF (.slice none 0 0) (.slice none 0 0) r)) 35))
      generalize w3.alloc (.cells (rowA 3 (rdF (.slice none 0 0) (.slice none 0 0) r)) 35) = w4 at r4 hN4 ⊢
      have H4 : Hid (StX w2.heap.size w3.heap.size 0 w.heap.size r [] 0 [] [] w4) := Lib.hid (by
        have q1 := HQ.out
        have q2 := N2.out.out.size
        have q3 := N3.out.out.size
        have q4 := H1L.out
        exact ⟨_, .slice none 0 0, .slice none 0 0, H3.out.new hN4, ⟨r4, rdV_nil _ _, rdV_nil _ _, by simp, by have := bnd.out.2; omega⟩, by simp [Value.ownBlock]; omega, by simp [Value.ownBlock]; omega, by omega, q2, q3, by have := r4.lt; omega⟩)
      have N4 := Lib.hid (NewT.trans _ _ _ N3.out hN4)
      clear r4 hN4
      go_upto_region 9 with (first
        | (go_at_call 11; refine (pOpen hX (N4.out.tables HT.out) H4.out (again nx mkL hash0 [] (by simp)) H1L.out).mono ?_; rintro _ w5 ⟨gx0, lv, rfl, hK5, hO5⟩; have O5 := Lib.hid hO5; have N5 : Hid (NewT w w5) := Lib.hid (NewT.of (N4.out.out.trans hK5.below)); clear hK5 hO5)
        | (go_at_call 13; refine (rOpen hX (N5.out.tables HT.out) O5.out (again nx mkL hash0 [] (by simp))).mono ?_; rintro _ w6 ⟨gy0, rfl, hK6, hL6, _⟩; have L6 := Lib.hid (LX.out hL6); have N6 : Hid (NewT w w6) := Lib.hid (NewT.of (N5.out.out.trans hK6.below)); clear hK6 hL6))
      go_wp2
      go_loopw [10, 13, 14] (fun x y i wr => ∃ (gx gy k : Nat) (es : List (List UInt8)) (D L : List UInt8), k ≤ l.length ∧ x = .pointer (some ⟨gx, 0, none⟩) ∧ y = .pointer (some ⟨gy, 0, none⟩) ∧ i = .int .i64 (k : Int) ∧ Hid (L0 nx w2.heap.size w3.heap.size gx gy w.heap.size r es D.length es D L wr) ∧ Hid (D ++ L = encL nx mkL hash0 es) ∧ Hid (NewT w wr)) (fun _ _ i _ => l.length - (intOf i).toNat)
      case atStart => exact ⟨gx0, gy0, 0, [], [], [], by omega, rfl, rfl, rfl, L6, Lib.hid rfl, N6⟩
      case round =>
        obtain ⟨gx, gy, k, es, D, L, hk, rfl, rfl, rfl, HS, HDL, HN⟩ := hrel
        clear H4 O5 L6 N4 N5 N6
        by_cases hlt : k < l.length
        · have it : (k : Int) < (l.length : Int) := by omega
          obtain ⟨⟨kd, n, B⟩, hx⟩ : ∃ x, l[k]? = some x := ⟨_, List.getElem?_eq_getElem (by omega)⟩
          have hB : Hid (B.length ≤ 300) := Lib.hid (hlen.out.2 _ (List.mem_of_getElem? hx))
          obtain ⟨b, o, u, rfl, c0, c1, c2, hu⟩ := acts_cell HA.out HN.out hx
          obtain ⟨A2, k2, rfl⟩ := rdV_form hu
          have HU := Lib.hid hu
          have HUJ : Hid (∀ J : List Nat, (∀ k ∈ J, w.heap.size ≤ k) → RdV w J (.slice A2 B.length k2) B) := Lib.hid (fun J hJ => hu.more (fun k hk _ hm => by have := hJ k hm; omega))
          clear hu hx
          have HX : Hid (LX nx w2.heap.size w3.heap.size gx gy wr.heap.size w.heap.size r es D.length es D L (wr.alloc (.cells #[.int .i64 kd, .int .i64 n, .slice A2 B.length k2] 39))) := Lib.hid (HS.out.beside (NewT.alloc _ _) (by simp))
          have HR : Hid ((wr.alloc (.cells #[.int .i64 kd, .int .i64 n, .slice A2 B.length k2] 39)).rowIs wr.heap.size 39 3 (acF kd n (.slice A2 B.length k2))) := Lib.hid (rowIs_box wr 39 3 (acF kd n (.slice A2 B.length k2)))
          have HNa : Hid (NewT w (wr.alloc (.cells #[.int .i64 kd, .int .i64 n, .slice A2 B.length k2] 39))) := Lib.hid (NewT.trans _ _ _ HN.out (NewT.alloc _ _))
          have HFE := Lib.hid (L0.fine HS.out)
          obtain ⟨pe, HPE⟩ := hid_ex (ptE nx r es B)
          go_upto_if 69 with fail
          clear c0 c1 c2
          generalize wr.alloc (.cells #[.int .i64 kd, .int .i64 n, .slice A2 B.length k2] 39) = wa at *
          refine wp_unblock ?_
          go_cut [10, 13, 16, 17, 18] from 57 (fun x y v _ _ wc => v = .bool true ∧ ∃ (gx' gy' : Nat) (es' : List (List UInt8)) (D' L' : List UInt8), x = .pointer (some ⟨gx', 0, none⟩) ∧ y = .pointer (some ⟨gy', 0, none⟩) ∧ Hid (L0 nx w2.heap.size w3.heap.size gx' gy' w.heap.size r es' D'.length es' D' L' wc) ∧ Hid (D' ++ L' = encL nx mkL hash0 es') ∧ Hid (NewT w wc))
          case rest =>
            clear HS HX HR HNa HU HN HUJ HFE HPE HDL
            obtain ⟨rfl, gx, gy, es, D, L, rfl, rfl, HS, HDL, HN⟩ := hcut
            have HFE := Lib.hid (L0.fine HS.out)
            obtain ⟨v, vd, vl, vL, ps, h9⟩ := id HS.out
            have HD := Lib.hid h9.log
            have HF := Lib.hid h9.ref
            have HPS := Lib.hid (⟨ps, h9.ref.parts.more (fun k _ _ => by simp), h9.es⟩ : Parts _ vL es)
            obtain ⟨S, hS'⟩ := hid_ex (encL nx mkL hash0 es)
            obtain ⟨d, hd⟩ := hid_ex (chL nx hash0 es)
            have HDk : Hid (DiskAt _ _ _ _ S _) := Lib.hid (by have := h9.log.disk; rw [hS'.out] at this; exact this)
            have hS : Hid (D ++ L = S) := Lib.hid (by rw [HDL.out, hS'.out])
            have HSL : Hid (S.length ≤ 65536) := Lib.hid (by rw [← hS'.out]; exact HFE.out.2.2)
            clear h9
            go_upto_region 29 with fail
            refine wp_region_rely (NewT) [SV.eq (.bool true), SV.eq (.bool false), SV.eq (.bool false), SV.eq (.pointer (some ⟨gx, 0, none⟩)), SV.eq (.int .i64 ((List.length es : Int))), SV.eq (.pointer (some ⟨gy, 0, none⟩)), SV.eq (.pointer (some ⟨gy, 0, none⟩)), SV.eq (.pointer (some ⟨gy, 1, none⟩)), SV.eq (vL), SV.eq (.int .i64 ((List.length (es) : Int))), SV.eq (.bool false), SV.eq (.bool false), SV.eq (.bool false), SV.eq (.pointer (some ⟨gx, 0, none⟩)), SV.eq (.agg (rowA 32 (bF (d)))), SV.eq (.pointer (some ⟨gy, 0, none⟩)), SV.eq (.pointer (some ⟨gy, 0, none⟩)), SV.eq (.pointer (some ⟨gy, 1, none⟩)), SV.eq (vL), SV.eq (.agg (rowA 32 (bF (d)))), SV.eq (.bool false), SV.eq (.bool false), SV.eq (.bool false), SV.eq (.pointer (some ⟨w2.heap.size, 0, none⟩)), svRd (S), SV.eq (.pointer (some ⟨w3.heap.size, 0, none⟩)), svRd (S), SV.eq (.bool true), SV.eq (.bool false)] [([(16, none)], none), ([(120, some 0)], none), ([(121, some 1)], none), ([(10, none), (122, some 2)], some (122, false)), ([(123, some 3), (122, some 2)], some (122, false)), ([(13, none), (122, some 2)], some (122, false)), ([(125, some 5), (122, some 2)], some (122, false)), ([(126, some 6), (122, some 2)], some (122, false)), ([(127, some 7), (122, some 2)], some (122, false)), ([(128, some 8), (122, some 2)], some (122, false)), ([(124, some 4), (129, some 9), (122, some 2)], some (122, false)), ([(122, some 2), (130, some 10)], none), ([(131, some 11)], none), ([(10, none), (132, some 12)], some (132, false)), ([(133, some 13), (132, some 12)], some (132, false)), ([(13, none), (132, some 12)], some (132, false)), ([(135, some 15), (132, some 12)], some (132, false)), ([(136, some 16), (132, some 12)], some (132, false)), ([(137, some 17), (132, some 12)], some (132, false)), ([(138, some 18), (132, some 12)], some (132, false)), ([(134, some 14), (139, some 19), (132, some 12)], some (132, false)), ([(132, some 12), (140, some 20)], none), ([(141, some 21)], none), ([(8, none), (142, some 22)], some (142, false)), ([(143, some 23), (142, some 22)], some (142, false)), ([(9, none), (142, some 22)], some (142, false)), ([(145, some 25), (142, some 22)], some (142, false)), ([(144, some 24), (146, some 26), (142, some 22)], some (142, false)), ([(147, some 27), (142, some 22)], some (142, false))] 150 rfl (by kernel_rfl) rfl (by kernel_rfl) (by kernel_rfl) rfl NewT.trans (NewT.drew _) (Nat.le_of_ble_eq_true rfl) ⟨?_, ?_, ?_, ?_, ?_, ?_, ?_, ?_, ?_, ?_, ?_, ?_, ?_, ?_, ?_, ?_, ?_, ?_, ?_, ?_, ?_, ?_, ?_, ?_, ?_, ?_, ?_, ?_, ?_, trivial⟩ ?_
            · exact fun a wx hT hF K hK => rely_wp rfl (opr_move (.inl rfl) (hK _ _ (NewT.refl _) hF.1))
            · exact fun a wx hT hF K hK => rely_wp rfl (opr_not rfl hF.1 (hK _ _ (NewT.refl _) rfl))
            · exact fun a wx hT hF K hK => rely_wp rfl (opr_move (.inl rfl) (hK _ _ (NewT.refl _) hF.1))
            · exact fun a wx hT hF K hK => rely_wp (rely_guard hF.2.1) (opr_move (.inl rfl) (hK _ _ (NewT.refl _) hF.1))
            · exact fun a wx hT hF K hK => rely_wp (rely_guard hF.2.1) (opr_cv (Count_c _ _ _ _ es _ wx (HD.out.new hT)) rfl Tryd.func21 (by kernel_rfl) (by kernel_rfl) (evs1 hF.1) hK)
            · exact fun a wx hT hF K hK => rely_wp (rely_guard hF.2.1) (opr_move (.inl rfl) (hK _ _ (NewT.refl _) hF.1))
            · exact fun a wx hT hF K hK => rely_wp (rely_guard hF.2.1) (opr_nilc rfl hF.1 (hK _ _ (NewT.refl _) rfl))
            · exact fun a wx hT hF K hK => rely_wp (rely_guard hF.2.1) (opr_fldL1 rfl hF.1 (hK _ _ (NewT.refl _) rfl))
            · exact fun a wx hT hF K hK => rely_wp (rely_guard hF.2.1) (opr_ldSs (hT.row HF.out.row) (by decide) rfl rfl hF.1 (hK _ _ (NewT.refl _) rfl))
            · intro a wx hT hF K hK
              obtain ⟨f128, f122, _⟩ := hF
              have f128 : a.tmps.getD 128 undef = vL := f128
              have f122 : a.tmps.getD 122 undef = .bool false := f122
              refine rely_wp (rely_guard f122) ?_
              exact opr_len_parts rfl (by rw [eval_tmp, f128]; exact (hT.partsL HPS.out)) (hK _ _ (NewT.refl _) rfl)
            · exact fun a wx hT hF K hK => rely_wp (rely_guard hF.2.2.1) (opr_cmp (b := false) (.inr (.inl ⟨rfl, (by simp)⟩)) Tryd.underlying3 rfl hF.1 hF.2.1 (hK _ _ (NewT.refl _) rfl))
            · exact fun a wx hT hF K hK => rely_wp rfl (opr_pick_false rfl hF.1 (hK _ _ (NewT.refl _) hF.2.1))
            · exact fun a wx hT hF K hK => rely_wp rfl (opr_move (.inl rfl) (hK _ _ (NewT.refl _) hF.1))
            · exact fun a wx hT hF K hK => rely_wp (rely_guard hF.2.1) (opr_move (.inl rfl) (hK _ _ (NewT.refl _) hF.1))
            · exact fun a wx hT hF K hK => rely_wp (rely_guard hF.2.1) (opr_cv ((by have := Chain_c _ _ _ _ es _ wx (HD.out.new hT); rw [hd.out] at this; exact this)) rfl Tryd.func22 (by kernel_rfl) (by kernel_rfl) (evs1 hF.1) hK)
            · exact fun a wx hT hF K hK => rely_wp (rely_guard hF.2.1) (opr_move (.inl rfl) (hK _ _ (NewT.refl _) hF.1))
            · exact fun a wx hT hF K hK => rely_wp (rely_guard hF.2.1) (opr_nilc rfl hF.1 (hK _ _ (NewT.refl _) rfl))
            · exact fun a wx hT hF K hK => rely_wp (rely_guard hF.2.1) (opr_fldL1 rfl hF.1 (hK _ _ (NewT.refl _) rfl))
            · exact fun a wx hT hF K hK => rely_wp (rely_guard hF.2.1) (opr_ldSs (hT.row HF.out.row) (by decide) rfl rfl hF.1 (hK _ _ (NewT.refl _) rfl))
            · exact fun a wx hT hF K hK => rely_wp (rely_guard hF.2.1) (opr_cv ((by have := RChain_cv hX _ es wx (hT.tables (HN.out.tables HT.out)) (hT.partsL HPS.out) (by have := HFE.out.2.1; omega) (fun l hl => (HFE.out.1 l hl).2); rw [hd.out] at this; exact this)) rfl Tryd.func23 (by kernel_rfl) (by kernel_rfl) (evs1 hF.1) hK)
            · exact fun a wx hT hF K hK => rely_wp (rely_guard hF.2.2.1) (opr_neq_hash (b := false) rfl hF.1 hF.2.1 (by rw [eqH_same]; rfl) (hK _ _ (NewT.refl _) rfl))
            · exact fun a wx hT hF K hK => rely_wp rfl (opr_pick_false rfl hF.1 (hK _ _ (NewT.refl _) hF.2.1))
            · exact fun a wx hT hF K hK => rely_wp rfl (opr_move (.inl rfl) (hK _ _ (NewT.refl _) hF.1))
            · exact fun a wx hT hF K hK => rely_wp (rely_guard hF.2.1) (opr_move (.inl rfl) (hK _ _ (NewT.refl _) hF.1))
            · exact fun a wx hT hF K hK => rely_wp (rely_guard hF.2.1) (opr_cv (DBytes_9 _ _ _ _ _ wx (HDk.out.new hT)) rfl Tryd.func25 (by kernel_rfl) (by kernel_rfl) (evs1 hF.1) hK)
            · exact fun a wx hT hF K hK => rely_wp (rely_guard hF.2.1) (opr_move (.inl rfl) (hK _ _ (NewT.refl _) hF.1))
            · exact fun a wx hT hF K hK => rely_wp (rely_guard hF.2.1) (opr_cv (RBytes_rd _ _ _ _ _ D L S wx (HF.out.disk.new hT) hS.out) rfl Tryd.func26 (by kernel_rfl) (by kernel_rfl) (evs1 hF.1) hK)
            · exact fun a wx hT hF K hK => rely_wp (rely_guard hF.2.2.1) (opr_cv (Bytes_same _ _ S wx hF.1 hF.2.1 HSL.out) rfl Tryd.func24 (by kernel_rfl) (by kernel_rfl) (evs2 rfl rfl) hK)
            · exact fun a wx hT hF K hK => rely_wp (rely_guard hF.2.1) (opr_not rfl hF.1 (hK _ _ (NewT.refl _) rfl))
            · intro wx hT
              iterate 24 (intro u h; obtain rfl := Eq.symm (h (by simp)); clear h)
              intro _ _
              intro u h; obtain rfl := Eq.symm (h (by simp)); clear h
              intro _ _
              iterate 2 (intro u h; obtain rfl := Eq.symm (h (by simp)); clear h)
              refine relyEnd_nil rfl ?_
              simp only [Act.put, List.setIfInBounds_toArray, List.set_cons_zero, List.set_cons_succ]
              refine opr_pick_false rfl rfl ?_
              go_simp
              go_wp2
              go_roundw
              case rel => exact ⟨gx, gy, k + 1, es, D, L, by omega, rfl, rfl, by go_num, Lib.hid (L0.new HS.out hT), HDL, Lib.hid (NewT.trans _ _ _ HN.out hT)⟩
              case measure => simp [intOf]; omega
          case first =>
            have cw0 := HR.out.cell (i := 0) (by omega)
            by_cases k0 : kd = 0
            · subst k0
              have HL : Hid (w.heap.size < wa.heap.size) := Lib.hid (by have := HX.out; obtain ⟨_, _, _, _, _, h9, _⟩ := this; have := h9.bd; have := h9.log.disk.lt; omega)
              go_upto_region 16 with fail
              refine wp_region_relyP (KT w.heap.size wr.heap.size) (JL nx w2.heap.size w3.heap.size gx gy wr.heap.size w.heap.size r es D.length D L (ptS nx r es B (es ++ [B]) es) (ptS nx r es B (L ++ entL nx mkL (chL nx hash0 es) B) L)) [SV.eq (.pointer (some ⟨gx, 0, none⟩)), SV.eq (.pointer (some ⟨wr.heap.size, 2, none⟩)), SV.eq ((.slice A2 B.length k2)), SV.eq (.int .i64 (pe)), SV.eq (.pointer (some ⟨gy, 0, none⟩)), SV.eq (.pointer (some ⟨wr.heap.size, 2, none⟩)), SV.eq ((.slice A2 B.length k2)), SV.eq (.int .i64 (pe)), SV.eq (.bool true)] [([(10, none)], none), ([(15, none)], none), ([(72, some 1)], none), ([(71, some 0), (73, some 2)], none), ([(13, none)], none), ([(15, none)], none), ([(76, some 5)], none), ([(75, some 4), (77, some 6)], none), ([(74, some 3), (78, some 7)], none)] [none, none, none, some 0, none, none, none, some 1, none] [3, 7] 150 rfl (by kernel_rfl) rfl (by kernel_rfl) (by kernel_rfl) rfl (by kernel_rfl) KT.trans (KT.drew _) ⟨fun _ => HX.out.new (NewT.drew _), fun e => absurd e (by decide), fun e => absurd e (by decide)⟩ (Nat.le_of_ble_eq_true rfl) ⟨?_, ?_, ?_, ?_, ?_, ?_, ?_, ?_, ?_, trivial⟩ ?_
              · exact fun a wx hT hF K hK => have hK := fun v w' (hN : NewT wx w') hv => hK v w' ((fun h => KT.new (Nat.le_of_lt h)) (Nat.lt_of_lt_of_le HL.out hT.size) hN) (fun k h => JL.new h hN) hv; rely_wp rfl (opr_move (.inl rfl) (hK _ _ (NewT.refl _) hF.1))
              · exact fun a wx hT hF K hK => have hK := fun v w' (hN : NewT wx w') hv => hK v w' ((fun h => KT.new (Nat.le_of_lt h)) (Nat.lt_of_lt_of_le HL.out hT.size) hN) (fun k h => JL.new h hN) hv; rely_wp rfl (opr_fldA2 rfl hF.1 (hK _ _ (NewT.refl _) rfl))
              · exact fun a wx hT hF K hK => have hK := fun v w' (hN : NewT wx w') hv => hK v w' ((fun h => KT.new (Nat.le_of_lt h)) (Nat.lt_of_lt_of_le HL.out hT.size) hN) (fun k h => JL.new h hN) hv; rely_wp rfl (opr_ldB (hT.row _ _ _ HR.out) (by decide) rfl rfl hF.1 (hK _ _ (NewT.refl _) rfl))
              · intro a wx hT hF hJ K hK
                obtain ⟨f71, f73, _⟩ := hF
                have f71 : a.tmps.getD 71 undef = .pointer (some ⟨gx, 0, none⟩) := f71
                have f73 : a.tmps.getD 73 undef = (.slice A2 B.length k2) := f73
                refine rely_wp rfl ?_
                refine opr_call rfl Tryd.func14 (by kernel_rfl) (by kernel_rfl) (by simp only [List.map_toArray, List.map_cons, List.map_nil, eval_tmp, f71, f73]) ((pPut hX ((NewT.of (HNa.out.out.trans hT.below)).tables HT.out) (hJ.1 rfl) _ B ((NewT.of (HNa.out.out.trans hT.below)).rd HU.out) (by have := hB.out; omega)).mono ?_)
                rw [HPE.out]
                rintro e w' ⟨rfl, q1, q2⟩
                exact ⟨_, rfl, hK _ _ q1 ⟨fun e => absurd e (by decide), fun _ => q2, fun e => absurd e (by decide)⟩ rfl⟩
              · exact fun a wx hT hF K hK => have hK := fun v w' (hN : NewT wx w') hv => hK v w' ((fun h => KT.new (Nat.le_of_lt h)) (Nat.lt_of_lt_of_le HL.out hT.size) hN) (fun k h => JL.new h hN) hv; rely_wp rfl (opr_move (.inl rfl) (hK _ _ (NewT.refl _) hF.1))
              · exact fun a wx hT hF K hK => have hK := fun v w' (hN : NewT wx w') hv => hK v w' ((fun h => KT.new (Nat.le_of_lt h)) (Nat.lt_of_lt_of_le HL.out hT.size) hN) (fun k h => JL.new h hN) hv; rely_wp rfl (opr_fldA2 rfl hF.1 (hK _ _ (NewT.refl _) rfl))
              · exact fun a wx hT hF K hK => have hK := fun v w' (hN : NewT wx w') hv => hK v w' ((fun h => KT.new (Nat.le_of_lt h)) (Nat.lt_of_lt_of_le HL.out hT.size) hN) (fun k h => JL.new h hN) hv; rely_wp rfl (opr_ldB (hT.row _ _ _ HR.out) (by decide) rfl rfl hF.1 (hK _ _ (NewT.refl _) rfl))
              · intro a wx hT hF hJ K hK
                obtain ⟨f75, f77, _⟩ := hF
                have f75 : a.tmps.getD 75 undef = .pointer (some ⟨gy, 0, none⟩) := f75
                have f77 : a.tmps.getD 77 undef = (.slice A2 B.length k2) := f77
                refine rely_wp rfl ?_
                refine opr_call rfl Tryd.func15 (by kernel_rfl) (by kernel_rfl) (by simp only [List.map_toArray, List.map_cons, List.map_nil, eval_tmp, f75, f77]) ((rPut hX ((NewT.of (HNa.out.out.trans hT.below)).tables HT.out) (hJ.2.1 rfl) _ B (fun J hJ9 => (NewT.of (HNa.out.out.trans hT.below)).rd (HUJ.out J hJ9)) (by have := hB.out; omega) HDL.out ⟨HFE.out.1, HFE.out.2.1⟩).mono ?_)
                rw [HPE.out]
                rintro e w' ⟨rfl, q1, q2⟩
                exact ⟨_, rfl, hK _ _ q1 ⟨fun e => absurd e (by decide), fun e => absurd e (by decide), fun _ => q2⟩ rfl⟩
              · exact fun a wx hT hF K hK => have hK := fun v w' (hN : NewT wx w') hv => hK v w' ((fun h => KT.new (Nat.le_of_lt h)) (Nat.lt_of_lt_of_le HL.out hT.size) hN) (fun k h => JL.new h hN) hv; rely_wp rfl (opr_cmp (b := true) (.inl ⟨rfl, (by simp)⟩) Tryd.underlying3 rfl hF.1 hF.2.1 (hK _ _ (NewT.refl _) rfl))
              · intro w5 k5 hJ
                iterate 9 (intro u h; obtain rfl := Eq.symm (h (by simp)); clear h)
                refine relyEnd_nil rfl ?_
                simp only [Act.put, List.setIfInBounds_toArray, List.set_cons_zero, List.set_cons_succ]
                refine opr_moveV (v := .bool true) (.inr rfl) (by kernel_rfl) ?_
                go_simp
                go_step
                go_meet
                case rel => exact ⟨rfl, gx, gy, _, D, _, rfl, rfl, Lib.hid (hJ.2.2 rfl).out, Lib.hid (pt_enc HDL.out), Lib.hid (NewT.of (HNa.out.out.trans k5.below))⟩
            by_cases k1 : kd = 1
            · subst k1
              have cw2 := HR.out.cell (i := 2) (by omega)
              go_upto_region 19 with (go_at_call 15; refine (rPut hX (HNa.out.tables HT.out) HX.out _ B (fun J hJ => HNa.out.rd (HUJ.out J hJ)) (by have := hB.out; omega) HDL.out ⟨HFE.out.1, HFE.out.2.1⟩).mono ?_; rw [HPE.out]; rintro _ w5 ⟨rfl, hK5, hX5⟩; have X5 := Lib.hid hX5; have N5 : Hid (NewT w w5) := Lib.hid (NewT.of (HNa.out.out.trans hK5.below)); have R5 := Lib.hid (hK5.row _ _ _ HR.out); have cw5 := R5.out.cell (i := 2) (by omega); clear hX5 hK5)
              by_cases p0 : pe = 0
              · have hp : (pe == 0) = true := by simp [p0]
                have X5' : Hid (LX nx w2.heap.size w3.heap.size gx gy wr.heap.size w.heap.size r es D.length (es ++ [B]) D (L ++ entL nx mkL (chL nx hash0 es) B) w5) := Lib.hid (by have := X5.out; rw [pt_ok (HPE.out.trans p0), pt_ok (HPE.out.trans p0)] at this; exact this)
                have HP0 := Lib.hid p0
                clear X5 p0
                go_wp2_with (first
                  | (go_at_call 16; refine (rSync9 X5'.out).mono ?_; rintro _ w6 ⟨rfl, hK6, hX6⟩; have X6 := Lib.hid hX6; have N6 : Hid (NewT w w6) := Lib.hid (NewT.of (N5.out.out.trans hK6.below)); have cw6 := (hK6.row _ _ _ R5.out).cell (i := 2) (by omega); clear hX6 hK6)
                  | (go_at_call 17; refine (pAppend hX (N6.out.tables HT.out) X6.out _ B (N6.out.rd HU.out) (by have := hB.out; omega)).mono ?_; rw [HPE.out]; rintro _ w7 ⟨rfl, hK7, hX7⟩; have X7 := Lib.hid hX7; have N7 : Hid (NewT w w7) := Lib.hid (NewT.of (N6.out.out.trans hK7.below)); clear hX7 hK7))
                go_meet
                case rel =>
                  have e0 := HPE.out.trans HP0.out
                  have e1 : D ++ (L ++ entL nx mkL (chL nx hash0 es) B) = encL nx mkL hash0 (es ++ [B]) := by rw [← List.append_assoc, HDL.out, encL_snoc]
                  have q := X7.out.out
                  rw [pt_ok e0, pt_ok e0, ← e1] at q
                  exact ⟨by simp, gx, gy, _, _, [], rfl, rfl, Lib.hid q, Lib.hid (by rw [List.append_nil]; exact e1), N7⟩
              · have hp : (pe == 0) = false := by simp [p0]
                have X5' : Hid (LX nx w2.heap.size w3.heap.size gx gy wr.heap.size w.heap.size r es D.length es D L w5) := Lib.hid (by have := X5.out; rw [pt_no (fun e => p0 (HPE.out.symm.trans e)), pt_no (fun e => p0 (HPE.out.symm.trans e))] at this; exact this)
                have HP0 := Lib.hid p0
                clear X5 p0
                go_wp2_with (go_at_call 17; refine (pAppend hX (N5.out.tables HT.out) X5'.out _ B (N5.out.rd HU.out) (by have := hB.out; omega)).mono ?_; rw [HPE.out]; rintro _ w7 ⟨rfl, hK7, hX7⟩; have X7 := Lib.hid hX7; have N7 : Hid (NewT w w7) := Lib.hid (NewT.of (N5.out.out.trans hK7.below)); clear hX7 hK7)
                go_meet
                case rel =>
                  have q := X7.out.out
                  rw [pt_no (fun e => HP0.out (HPE.out.symm.trans e)), pt_no (fun e => HP0.out (HPE.out.symm.trans e))] at q
                  exact ⟨by simp, gx, gy, _, _, _, rfl, rfl, Lib.hid q, HDL, N7⟩
            by_cases k2' : kd = 2
            · subst k2'
              have cw1 := HR.out.cell (i := 1) (by omega)
              have ccS := crash_same D L n
              have H5 : Hid (StX w2.heap.size w3.heap.size wr.heap.size w.heap.size r (D ++ L) D.length D L wa) := Lib.hid (by have := HX.out.stx; rw [← HDL.out] at this; exact this)
              obtain ⟨Z, hZ⟩ := hid_ex (D ++ L.take n.toNat)
              rw [hZ.out] at ccS
              obtain ⟨ez, hez⟩ := isLog_ex nx Z.length hash0 Z (Nat.le_refl _)
              have HEZ := Lib.hid hez
              clear hez
              go_upto_region 28 with (first
                | (go_at_call 18; refine (dCrash H5.out n).mono ?_; rintro _ w5 ⟨rfl, hK5, hX5⟩; rw [ccS.1, ccS.2] at hX5; have X5 := Lib.hid hX5; have N5 : Hid (NewT w w5) := Lib.hid (NewT.of (HNa.out.out.trans hK5.below)); have cw5 := (hK5.row _ _ _ HR.out).cell (i := 1) (by omega); clear hX5 hK5)
                | (go_at_call 19; refine (rCrash X5.out n).mono ?_; rw [hZ.out]; rintro _ w6 ⟨rfl, hK6, hX6⟩; have X6 := Lib.hid hX6; have N6 : Hid (NewT w w6) := Lib.hid (NewT.of (N5.out.out.trans hK6.below)); clear hX6 hK6)
                | (go_at_call 11; refine (pOpen hX (N6.out.tables HT.out) X6.out HEZ.out H1L.out).mono ?_; rintro _ w7 ⟨gx', lv', rfl, hK7, hO7⟩; have O7 := Lib.hid hO7; have N7 : Hid (NewT w w7) := Lib.hid (NewT.of (N6.out.out.trans hK7.below)); clear hK7 hO7)
                | (go_at_call 13; refine (rOpen hX (N7.out.tables HT.out) O7.out (by rw [List.append_nil]; exact HEZ.out)).mono ?_; rintro _ w8 ⟨gy', rfl, hK8, hL8, hP8⟩; have L8 := Lib.hid hL8; have P8 := Lib.hid hP8; have N8 : Hid (NewT w w8) := Lib.hid (NewT.of (N7.out.out.trans hK8.below)); clear hK8 hL8 hP8))
              obtain ⟨v, vd, vl, vL, ps, h9⟩ := id (LX.out L8.out)
              have HPS := Lib.hid (⟨ps, h9.ref.parts.more (fun k _ _ => by simp), h9.es⟩ : Parts _ vL ez)
              have cy := h9.ref.row.cell (i := 1) (by omega)
              have HFZ := Lib.hid (L0.fine (⟨_, _, _, _, _, h9⟩ : L0 nx w2.heap.size w3.heap.size gx' gy' w.heap.size r ez _ ez (encL nx mkL hash0 ez) [] w8))
              clear h9
              go_wp2_with (go_at_call 20; refine (RSame9_same _ _ ez _ P8.out HPS.out ⟨by have := HFZ.out.2.1; omega, fun t ht => by have := (HFZ.out.1 t ht).2; omega⟩).eq.mono ?_; rintro _ w9 ⟨rfl, hN9⟩; have N9 := Lib.hid hN9; clear hN9)
              go_meet
              case rel => exact ⟨rfl, gx', gy', ez, encL nx mkL hash0 ez, [], rfl, rfl, Lib.hid ((LX.out L8.out).new N9.out), Lib.hid (by rw [List.append_nil]), Lib.hid (NewT.trans _ _ _ N8.out N9.out)⟩
            have k0' : (kd == 0) = false := by simpa using k0
            have k1' : (kd == 1) = false := by simpa using k1
            have k2'' : (kd == 2) = false := by simpa using k2'
            clear k0 k1 k2'
            go_wp2
            go_meet
            case rel => exact ⟨rfl, gx, gy, es, D, L, rfl, rfl, Lib.hid HX.out.out, HDL, HNa⟩
        · obtain rfl : k = l.length := by omega
          go_wp2
          go_ret
          exact ⟨rfl, HN.out.out⟩
end Go.Proofs.YtbejolbknimmmaaDoor
