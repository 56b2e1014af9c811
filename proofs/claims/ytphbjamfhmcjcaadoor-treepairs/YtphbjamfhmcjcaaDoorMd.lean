/- The law TreePairs, walked: a list of twice as many leaves as a power of two has the root of its pairs' nodes. -/
import Derived.Test.YtphbjamfhmcjcaaDoorMc
set_option linter.all false
namespace Go.Proofs.YtphbjamfhmcjcaaDoor
open Go Go.RowKit
set_option maxRecDepth 8000
set_option linter.all false
theorem pairs_next {node : Hs → Hs → Hs} (l : List Hs) (i j : Nat) (p q : Hs) (hi : i = 2 * j) (hp : l[i]? = some p) (hq : l[i + 1]? = some q) : pairsM node (l.take (i + 2)) = pairsM node (l.take i) ++ [node p q] := by
  have e : l.take (i + 2) = l.take i ++ [p, q] := by
    rw [List.take_add_one, List.take_add_one, hp, hq]; simp
  have hlt : i + 1 < l.length := (List.getElem?_eq_some_iff.1 hq).1
  rw [e, pairsM_app j (l.take i) [p, q] (by rw [List.length_take]; omega)]
  rfl
set_option maxHeartbeats 4000000 in
theorem TreePairs_walk (v : Value) (l : List Hs) (w : World) (hT : Tables w) (hl : RdH w v l) : Calls Tryd.prog 8 #[v] w fun e w' => e = .returned (.bool true) ∧ Below w.heap.size w w' := by
  by_cases h64 : 64 < l.length
  · have t1 : decide ((64 : Int) < (l.length : Int)) = true := by simp; omega
    obtain ⟨node, z, hX⟩ := tree_ex
    have HT := Lib.hid hT
    have HL := Lib.hid hl
    obtain ⟨A, c, hv⟩ := rdH_form hl
    have HV := Lib.hid hv
    subst hv
    clear hT hl
    go_enter Tryd.func8, Tryd.ntmps8
    go_upto_region 3 with (go_at_call 9; refine (alive5_any _ HT.out).mono ?_; rintro _ w1 ⟨rfl, hA1⟩)
    go_wp2
    go_ret
    exact ⟨rfl, hA1⟩
  have t1 : decide ((64 : Int) < (l.length : Int)) = false := by simp; omega
  have hlen : l.length ≤ 64 := by omega
  obtain ⟨node, z, hX⟩ := tree_ex
  have HT := Lib.hid hT
  have HL := Lib.hid hl
  obtain ⟨A, c, hv⟩ := rdH_form hl
  have HV := Lib.hid hv
  subst hv
  clear hT hl
  go_enter Tryd.func8, Tryd.ntmps8
  go_upto_region 5 with (go_at_call 9; refine (alive5_any _ HT.out).mono ?_; rintro _ w1 ⟨rfl, hA1⟩)
  have HNr := Lib.hid (NewT.of hA1)
  clear hA1 t1
  go_wp2
  go_loopw [3] (fun i wr => ∃ e n : Nat, n = 2 ^ (e + 1) ∧ i = .int .i64 (n : Int) ∧ (e = 0 ∨ n ≤ l.length) ∧ w1 = wr) (fun i _ => l.length - (intOf i).toNat)
  case atStart => exact ⟨0, 2, rfl, rfl, .inl rfl, rfl⟩
  case round =>
    obtain ⟨e, n, hn, rfl, hor, rfl⟩ := hrel
    have hpos : 2 ≤ n := by rw [hn, Nat.pow_succ]; have := Nat.two_pow_pos e; omega
    have hn64 : n ≤ 64 := by
      rcases hor with rfl | h
      · rw [hn]; decide
      · omega
    have HE := Lib.hid hn
    have HOR := Lib.hid hor
    clear hn hor
    by_cases h2n : 2 * n ≤ l.length
    · have it : (2 : Int) * (n : Int) ≤ (l.length : Int) := by omega
      go_wp2
      go_roundw
      case rel => exact ⟨e + 1, 2 * n, by rw [HE.out, Nat.pow_succ 2 (e + 1)]; omega, by go_num, .inr h2n, by first | rfl | trivial⟩
      case measure => simp [intOf]; omega
    · have it : ¬ (2 : Int) * (n : Int) ≤ (l.length : Int) := by omega
      by_cases h2 : l.length < 2
      · have t2 : (l.length : Int) < 2 := by omega
        go_wp2
        go_ret
        exact ⟨rfl, HNr.out.out⟩
      · have t2 : ¬ (l.length : Int) < 2 := by omega
        have hnl : n ≤ l.length := by
          rcases HOR.out with h | h
          · rw [HE.out, h]; simp; omega
          · exact h
        have HLl := Lib.hid (HNr.out.hs HL.out)
        have HC : Hid (l.length ≤ c) := Lib.hid (by obtain ⟨A', c', e1, e2, _⟩ := HLl.out; injection e1 with _ _ e3; omega)
        go_upto_region 10 with fail
        refine wp_region_lit ?_
        refine wpList_plain rfl (fun K hK => ?_)
        refine opr_move (.inl rfl) (hK _ _ ?_)
        clear hK K
        refine wpList_plain rfl (fun K hK => ?_)
        refine opr_move (.inl rfl) (hK _ _ ?_)
        clear hK K
        refine wpList_plain rfl (fun K hK => ?_)
        refine opr_toV (k := n) hnl HC.out rfl rfl rfl (hK _ _ ?_)
        clear hK K
        refine wpList_plain rfl (fun K hK => ?_)
        refine opr_move (.inr rfl) (hK _ _ ?_)
        clear hK K
        refine wpList_end rfl ?_
        simp only [Act.put, List.setIfInBounds_toArray, List.set_cons_zero, List.set_cons_succ]
        go_simp
        have HLt : Hid (RdH w (.slice A n c) (l.take n)) := Lib.hid (rdH_take HL.out hnl)
        have hl2 : (l.take n).length = n := by rw [List.length_take]; omega
        obtain ⟨l2, el2⟩ : ∃ l2, l.take n = l2 := ⟨_, rfl⟩
        rw [el2] at HLt hl2
        have HL2 := Lib.hid hl2
        obtain ⟨B, hB⟩ : ∃ B, w1.heap.size = B := ⟨_, rfl⟩
        have HBw : Hid (w.heap.size ≤ B) := Lib.hid (by have := HNr.out.out.size; omega)
        have HN1 := Lib.hid HNr.out
        have HB1 : Hid (B ≤ w1.heap.size) := Lib.hid (by omega)
        have HN64 := Lib.hid hn64
        clear el2 hl2 HL HLl HNr hB hnl h2 t2 it h2n
        go_wp2
        go_loopw [4, 5] (fun u i wr => ∃ j : Nat, 2 * j ≤ n ∧ i = .int .i64 ((2 * j : Nat) : Int) ∧ NewT w wr ∧ B ≤ wr.heap.size ∧ OwnH wr B u (pairsM node (l2.take (2 * j)))) (fun _ i _ => n - (intOf i).toNat)
        case atStart => exact ⟨0, by omega, rfl, HN1.out, HB1.out, by simp [pairsM]; exact ownH_nil _ _⟩
        case round =>
          obtain ⟨j, hj, rfl, hN, hBr, hO⟩ := hrel
          have HNr := Lib.hid hN
          have HLr := Lib.hid (hN.hs HLt.out)
          have HTr := Lib.hid (hN.tables HT.out)
          have HB := Lib.hid hBr
          have HPL : Hid ((pairsM node (l2.take (2 * j))).length = j) := Lib.hid (pairsM_length j _ (by rw [List.length_take, HL2.out]; omega))
          by_cases hlt : 2 * j < n
          · obtain ⟨i, hi⟩ : ∃ i, 2 * j = i := ⟨_, rfl⟩
            have heven : i + 1 < n := by
              have h1 : n % 2 = 0 := by rw [HE.out, Nat.pow_succ]; omega
              omega
            rw [hi] at hO hlt HPL ⊢
            have HI : Hid (i < n ∧ n ≤ 64 ∧ j ≤ 64) := Lib.hid ⟨by omega, hn64, by omega⟩
            have hl2 := HL2.out
            obtain ⟨p, hp⟩ : ∃ p, l2[i]? = some p := ⟨_, List.getElem?_eq_getElem (by omega)⟩
            obtain ⟨q, hq⟩ : ∃ q, l2[i + 1]? = some q := ⟨_, List.getElem?_eq_getElem (by omega)⟩
            have HP := Lib.hid hp
            have HQ := Lib.hid hq
            have HNX := Lib.hid (pairs_next (node := node) l2 i j p q hi.symm hp hq)
            have HO := Lib.hid hO
            have it : (i : Int) < (n : Int) := by omega
            clear hN hBr hO hp hq hl2
            go_upto_region 15 with fail
            obtain ⟨v2, ev⟩ : ∃ v, Value.slice A n c = v := ⟨_, rfl⟩
            rw [ev] at HLr HLt ⊢
            refine wp_region_rely_tail (NewT) [SV.eq (u4), SV.eq (v2), SV.eq (.int .i64 ((i : Int))), svP (p), SV.eq (.agg (rowA 32 (bF (p)))), SV.eq (v2), SV.eq (.int .i64 ((i : Int))), SV.eq (.int .i64 (((i : Int) + 1))), svP (q), SV.eq (.agg (rowA 32 (bF (q)))), SV.eq (.agg (rowA 32 (bF (node (p) (q))))), svH ([node (p) (q)])] [([(4, none)], none), ([(0, none)], none), ([(5, none)], none), ([(30, some 1), (31, some 2)], none), ([(32, some 3)], none), ([(0, none)], none), ([(5, none)], none), ([(35, some 6)], none), ([(34, some 5), (36, some 7)], none), ([(37, some 8)], none), ([(33, some 4), (38, some 9)], none), ([(39, some 10)], none)] 47 12 (by kernel_rfl) rfl rfl (Nat.zero_lt_succ _) (by kernel_rfl) (by kernel_rfl) (by kernel_rfl) NewT.trans (NewT.drew _) (Nat.le_of_ble_eq_true rfl) ⟨?_, ?_, ?_, ?_, ?_, ?_, ?_, ?_, ?_, ?_, ?_, ?_, trivial⟩ ?_
            · intro a wx hT hF K hK
              obtain ⟨f4, _⟩ := hF
              have f4 : a.tmps.getD 4 undef = u4 := f4
              refine rely_wp rfl ?_
              exact opr_move (.inl rfl) (hK _ _ (NewT.refl _) f4)
            · intro a wx hT hF K hK
              obtain ⟨f0, _⟩ := hF
              have f0 : a.tmps.getD 0 undef = v2 := f0
              refine rely_wp rfl ?_
              exact opr_move (.inl rfl) (hK _ _ (NewT.refl _) f0)
            · intro a wx hT hF K hK
              obtain ⟨f5, _⟩ := hF
              have f5 : a.tmps.getD 5 undef = .int .i64 ((i : Int)) := f5
              refine rely_wp rfl ?_
              exact opr_move (.inl rfl) (hK _ _ (NewT.refl _) f5)
            · intro a wx hT hF K hK
              obtain ⟨f30, f31, _⟩ := hF
              have f30 : a.tmps.getD 30 undef = v2 := f30
              have f31 : a.tmps.getD 31 undef = .int .i64 ((i : Int)) := f31
              refine rely_wp rfl ?_
              exact opr_idxH (i := i) (d := p) (HP.out) (rfl) rfl (by rw [eval_tmp, f30]; exact (hT.hs HLr.out)) f31 (fun v hv => hK v _ (NewT.refl _) hv)
            · intro a wx hT hF K hK
              obtain ⟨f32, _⟩ := hF
              replace f32 := show (svP (p)).pred (a.tmps.getD 32 undef) wx from f32
              refine rely_wp rfl ?_
              exact opr_ldP rfl f32 (hK _ _ (NewT.refl _) rfl)
            · intro a wx hT hF K hK
              obtain ⟨f0, _⟩ := hF
              have f0 : a.tmps.getD 0 undef = v2 := f0
              refine rely_wp rfl ?_
              exact opr_move (.inl rfl) (hK _ _ (NewT.refl _) f0)
            · intro a wx hT hF K hK
              obtain ⟨f5, _⟩ := hF
              have f5 : a.tmps.getD 5 undef = .int .i64 ((i : Int)) := f5
              refine rely_wp rfl ?_
              exact opr_move (.inl rfl) (hK _ _ (NewT.refl _) f5)
            · intro a wx hT hF K hK
              obtain ⟨f35, _⟩ := hF
              have f35 : a.tmps.getD 35 undef = .int .i64 ((i : Int)) := f35
              refine rely_wp rfl ?_
              exact opr_add (r := ((i : Int) + 1)) Tryd.underlying3 (by unfold wrap64; have := HI.out; omega) rfl f35 rfl (hK _ _ (NewT.refl _) rfl)
            · intro a wx hT hF K hK
              obtain ⟨f34, f36, _⟩ := hF
              have f34 : a.tmps.getD 34 undef = v2 := f34
              have f36 : a.tmps.getD 36 undef = .int .i64 (((i : Int) + 1)) := f36
              refine rely_wp rfl ?_
              exact opr_idxH (i := (i + 1)) (d := q) (HQ.out) (by omega) rfl (by rw [eval_tmp, f34]; exact (hT.hs HLr.out)) f36 (fun v hv => hK v _ (NewT.refl _) hv)
            · intro a wx hT hF K hK
              obtain ⟨f37, _⟩ := hF
              replace f37 := show (svP (q)).pred (a.tmps.getD 37 undef) wx from f37
              refine rely_wp rfl ?_
              exact opr_ldP rfl f37 (hK _ _ (NewT.refl _) rfl)
            · intro a wx hT hF K hK
              obtain ⟨f33, f38, _⟩ := hF
              have f33 : a.tmps.getD 33 undef = .agg (rowA 32 (bF (p))) := f33
              have f38 : a.tmps.getD 38 undef = .agg (rowA 32 (bF (q))) := f38
              refine rely_wp rfl ?_
              exact opr_cv (Node_cv hX (p) (q) wx (hT.tables HTr.out)) rfl Tryd.func12 (by kernel_rfl) (by kernel_rfl) (by simp only [List.map_toArray, List.map_cons, List.map_nil, eval_tmp, f33, f38]) hK
            · intro a wx hT hF K hK
              obtain ⟨f39, _⟩ := hF
              have f39 : a.tmps.getD 39 undef = .agg (rowA 32 (bF (node (p) (q)))) := f39
              refine rely_wp rfl ?_
              exact opr_bsH1 rfl f39 hK
            · intro wa ka
              intro u h; obtain rfl := Eq.symm (h (by simp)); clear h
              intro u h; obtain rfl := Eq.symm (h (by simp)); clear h
              intro u h; obtain rfl := Eq.symm (h (by simp)); clear h
              intro _ _
              intro u h; obtain rfl := Eq.symm (h (by simp)); clear h
              intro u h; obtain rfl := Eq.symm (h (by simp)); clear h
              intro u h; obtain rfl := Eq.symm (h (by simp)); clear h
              intro u h; obtain rfl := Eq.symm (h (by simp)); clear h
              intro _ _
              intro u h; obtain rfl := Eq.symm (h (by simp)); clear h
              intro u h; obtain rfl := Eq.symm (h (by simp)); clear h
              intro u40 h; have g40 := h (by simp); clear h; replace g40 := show (svH ([node (p) (q)])).pred u40 wa from g40
              refine relyEnd_nil rfl ?_
              simp only [Act.put, List.setIfInBounds_toArray, List.set_cons_zero, List.set_cons_succ]
              refine wpList_plain rfl (fun K hK => ?_)
              have hO := HO.out.new ka
              have hR : RdH wa u40 [node p q] := g40
              obtain ⟨v', w', hrun, h2, h3⟩ := run_appH hO hR (by have := HPL.out; have := HI.out; simp; omega) (Nat.le_trans HB.out ka.out.size) 31
              refine opr_append rfl rfl rfl hrun (hK _ _ ?_)
              refine wpList_plain rfl (fun K hK => ?_)
              refine opr_move (.inr rfl) (hK _ _ ?_)
              refine wpList_end rfl ?_
              simp only [Act.put, List.setIfInBounds_toArray, List.set_cons_zero, List.set_cons_succ]
              go_simp
              have hbl : Below B wa w' := (Below.refl _ wa).grown h3 (Nat.le_trans HB.out ka.out.size) (fun k hk => (hO.lt k hk).1)
              have HNb : Hid (NewT w w') := Lib.hid (NewT.of (HNr.out.out.trans ((ka.out.mono HNr.out.out.size).trans (hbl.mono HBw.out))))
              have HOb := Lib.hid h2
              have HBb : Hid (B ≤ w'.heap.size) := Lib.hid (Nat.le_trans HB.out (Nat.le_trans ka.out.size hbl.size))
              clear hbl h2 h3 hrun hO hR g40 ka
              go_wp2
              go_roundw
              case rel => exact ⟨j + 1, by omega, by omega, HNb.out, HBb.out, by rw [show 2 * (j + 1) = i + 2 by omega, HNX.out]; exact HOb.out⟩
              case measure => simp [intOf]; have := HI.out; omega
          · obtain rfl : 2 * j = n := by omega
            have it : ¬ ((2 * j : Nat) : Int) < ((2 * j : Nat) : Int) := by omega
            rw [List.take_of_length_le (by rw [HL2.out]; omega)] at hO HPL
            have HU := Lib.hid hO.rd
            have HPL2 := Lib.hid HPL.out
            have HRP := Lib.hid (rootM_pairs (node := node) (z := z) e l2 (by rw [HL2.out]; exact HE.out))
            clear hN hBr hO HPL
            go_upto_region 16 with fail
            obtain ⟨v2, ev⟩ : ∃ v, Value.slice A (2 * j) c = v := ⟨_, rfl⟩
            rw [ev] at HLr HLt ⊢
            refine wp_region_steps0 NewT [SV.eq (v2), SV.eq (.agg (rowA 32 (bF (rootM node z (l2))))), SV.eq (u4), SV.eq (.agg (rowA 32 (bF (rootM node z ((pairsM node l2)))))), SV.eq (.bool true), SV.eq (.bool true)] [([(0, none)], none), ([(42, some 0)], none), ([(4, none)], none), ([(44, some 2)], none), ([(43, some 1), (45, some 3)], none), ([(46, some 4)], none)] 47 6 rfl rfl (by kernel_rfl) NewT.trans (NewT.refl _) (Nat.le_of_ble_eq_true rfl) ⟨?_, ?_, ?_, ?_, ?_, ?_, trivial⟩ ?_
            · intro a wx hT hF K hK
              obtain ⟨f0, _⟩ := hF
              have f0 : a.tmps.getD 0 undef = v2 := f0
              refine rely_wp rfl ?_
              exact opr_move (.inl rfl) (hK _ _ (NewT.refl _) f0)
            · intro a wx hT hF K hK
              obtain ⟨f42, _⟩ := hF
              have f42 : a.tmps.getD 42 undef = v2 := f42
              refine rely_wp rfl ?_
              exact opr_cv (Root_cv hX _ _ (l2) wx (hT.tables HTr.out) ((hT.hs HLr.out)) (Nat.le_refl _) (by first | (rw [HPL2.out]; have := HN64.out; omega) | (rw [HL2.out]; have := HN64.out; omega))) rfl Tryd.func25 (by kernel_rfl) (by kernel_rfl) (by simp only [List.map_toArray, List.map_cons, List.map_nil, eval_tmp, f42]) hK
            · intro a wx hT hF K hK
              obtain ⟨f4, _⟩ := hF
              have f4 : a.tmps.getD 4 undef = u4 := f4
              refine rely_wp rfl ?_
              exact opr_move (.inl rfl) (hK _ _ (NewT.refl _) f4)
            · intro a wx hT hF K hK
              obtain ⟨f44, _⟩ := hF
              have f44 : a.tmps.getD 44 undef = u4 := f44
              refine rely_wp rfl ?_
              exact opr_cv (Root_cv hX _ _ ((pairsM node l2)) wx (hT.tables HTr.out) ((hT.hs HU.out)) (Nat.le_refl _) (by first | (rw [HPL2.out]; have := HN64.out; omega) | (rw [HL2.out]; have := HN64.out; omega))) rfl Tryd.func25 (by kernel_rfl) (by kernel_rfl) (by simp only [List.map_toArray, List.map_cons, List.map_nil, eval_tmp, f44]) hK
            · intro a wx hT hF K hK
              obtain ⟨f43, f45, _⟩ := hF
              have f43 : a.tmps.getD 43 undef = .agg (rowA 32 (bF (rootM node z (l2)))) := f43
              have f45 : a.tmps.getD 45 undef = .agg (rowA 32 (bF (rootM node z ((pairsM node l2))))) := f45
              refine rely_wp rfl ?_
              exact opr_eql_hash (b := true) rfl f43 f45 ((by rw [HRP.out]; exact eqH_same _)) (hK _ _ (NewT.refl _) rfl)
            · intro a wx hT hF K hK
              obtain ⟨f46, _⟩ := hF
              have f46 : a.tmps.getD 46 undef = .bool true := f46
              refine rely_wp rfl ?_
              exact opr_move (.inr rfl) (hK _ _ (NewT.refl _) f46)
            · intro we ke
              intro u h; obtain rfl := Eq.symm (h (by simp)); clear h
              intro u h; obtain rfl := Eq.symm (h (by simp)); clear h
              intro u h; obtain rfl := Eq.symm (h (by simp)); clear h
              intro u h; obtain rfl := Eq.symm (h (by simp)); clear h
              intro u h; obtain rfl := Eq.symm (h (by simp)); clear h
              intro u h; obtain rfl := Eq.symm (h (by simp)); clear h
              refine relyEnd_nil rfl ?_
              refine wpList_end rfl ?_
              simp only [Act.put, List.setIfInBounds_toArray, List.set_cons_zero, List.set_cons_succ]
              go_simp
              go_wp2
              go_ret
              exact ⟨rfl, (NewT.trans _ _ _ HNr.out ke).out⟩
end Go.Proofs.YtphbjamfhmcjcaaDoor
