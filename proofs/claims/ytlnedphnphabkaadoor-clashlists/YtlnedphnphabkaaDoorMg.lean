/- Layer 7's own example: the law's function alive returns true. -/
import Derived.Test.YtlnedphnphabkaaDoorMe
import Derived.Test.YtlnedphnphabkaaDoorMf
import Derived.Test.YtlnedphnphabkaaDoorMa
set_option linter.all false
namespace Go.Proofs.YtlnedphnphabkaaDoor
open Go Go.RowKit
set_option maxRecDepth 8000
set_option linter.all false
section
variable {a : Act} {w : World} {o : Oper} {K : Act → World → Prop} {Q : Exit → Act → World → Prop} {x y : Operand} {t t' : List UInt8} {q : Bool}
theorem opr_extT0 (ho : o.op = .extract x 0) (hx : (svT2 t t' q).pred (a.eval x) w) (h : ∀ u, RdV w [] u t → K (a.put o.dst u) w) : o.wp Tryd.prog a w K Q := by
  obtain ⟨u, v, e, h1, _⟩ := hx
  exact opr_ext ho e rfl (h u h1)
theorem opr_extT1 (ho : o.op = .extract x 1) (hx : (svT2 t t' q).pred (a.eval x) w) (h : ∀ u, RdV w [] u t' → K (a.put o.dst u) w) : o.wp Tryd.prog a w K Q := by
  obtain ⟨u, v, e, _, h1⟩ := hx
  exact opr_ext ho e rfl (h v h1)
theorem opr_extT2 (ho : o.op = .extract x 2) (hx : (svT2 t t' q).pred (a.eval x) w) (h : K (a.put o.dst (.bool q)) w) : o.wp Tryd.prog a w K Q := by
  obtain ⟨u, v, e, _, _⟩ := hx
  exact opr_ext ho e rfl h
/-- '[]byte("..")' of one letter. -/
theorem wpList_lit1 {P2 : Array Oper} {rest : List Oper} {o1 o2 : Oper} {d1 : Nat} {b : UInt8} (hg1 : o1.guard = none) (hg2 : o2.guard = none) (h1 : o1.op = .buildSlice 23 1 #[(0, .const (.int .u8 (bN b)))]) (hd : o1.dst = some d1) (h2 : o2.op = .convert 23 23 (.tmp d1)) (hlt : d1 < a.tmps.size)
    (h : ∀ v w', NewT w w' → RdV w' [] v [b] → wpList Tryd.prog P2 Q rest ((a.put (some d1) v).put o2.dst v) w') : wpList Tryd.prog P2 Q (o1 :: o2 :: rest) a w := by
  refine wpList_plain hg1 fun K hK => ?_
  obtain ⟨dst, op, type, pos, after, guard⟩ := o1
  simp only at h1 hd
  subst h1 hd
  refine opr_val (s := Instr.buildSlice 23 1 #[(0, .int .u8 (bN b))]) (by simp [execOp, eval_const]) (run_bsb1 _ w) (hK _ _ ?_)
  clear hK K
  refine wpList_plain hg2 fun K2 hK2 => ?_
  obtain ⟨dst2, op2, type2, pos2, after2, guard2⟩ := o2
  simp only at h2
  subst h2
  refine opr_val (s := convert 23 23 (.slice (some ⟨w.heap.size, 0, none⟩) 1 1)) ?_ (conv_bytes w #[.int .u8 (bN b)] w.heap.size 1 1 rfl) (hK2 _ _ ?_)
  · simp [execOp, eval_tmp, Act.put, hlt]
  refine h _ _ (NewT.alloc _ _) (rdV_lit (l := [b]) (by simp) (by decide) fun i hi => ?_)
  obtain rfl : i = 0 := by simpa using hi
  rw [cell_new_fr _ _ _ _ _ _ rfl]; rfl
theorem opr_eqlS {t2 : TypeId} {S1 S2 : ByteArray} {b : Bool} (hb : (S1.toList == S2.toList) = b) (ho : o.op = .binOp .eql 9 x y t2) (hx : a.eval x = .string S1) (hy : a.eval y = .string S2) (h : K (a.put o.dst (.bool b)) w) : o.wp Tryd.prog a w K Q := by
  obtain ⟨dst, op', type, pos, after, guard⟩ := o
  simp only at ho
  subst ho hb
  refine opr_val (s := do eqGuard .eql 9 x y (a.eval x) (a.eval y); binOp .eql 9 (a.eval x) (a.eval y)) rfl ?_ h
  rw [hx, hy]
  simp [go_sem]
end
theorem rootM_2 {node : Hs → Hs → Hs} {z : Hs} (p q : Hs) : rootM node z [p, q] = node p q := by
  have := rootM_app node z [p] [q] 0 rfl (by simp) (by simp)
  simpa [rootM_one] using this
theorem path_20 {node : Hs → Hs → Hs} {z : Hs} (p q : Hs) : pathM node z [p, q] 0 = [q] := by
  have e : splitN 2 = 1 := by decide +kernel
  rw [pathM_l _ _ _ _ (by simp) (by show 0 < splitN 2; rw [e]; omega)]
  show pathM node z (List.take (splitN 2) [p, q]) 0 ++ [rootM node z (List.drop (splitN 2) [p, q])] = _
  rw [e, pathM_few _ _ _ _ (by simp), List.nil_append, show List.drop 1 [p, q] = [q] from rfl, rootM_one]
theorem leafA_is : digL (shaL Kc Fc (0 :: [97])) = [2, 42, 105, 121, 230, 218, 183, 170, 90, 228, 195, 229, 228, 95, 126, 151, 113, 18, 167, 230, 53, 147, 130, 13, 190, 193, 236, 115, 138, 36, 249, 60] := by decide +kernel
theorem leafB_is : digL (shaL Kc Fc (0 :: [98])) = [87, 235, 53, 97, 93, 71, 243, 78, 199, 20, 202, 205, 245, 253, 116, 96, 138, 94, 142, 16, 39, 36, 232, 11, 36, 178, 135, 192, 194, 123, 106, 49] := by decide +kernel
theorem root_hex : (⟨(hexL (shaL Kc Fc ([1] ++ ([2, 42, 105, 121, 230, 218, 183, 170, 90, 228, 195, 229, 228, 95, 126, 151, 113, 18, 167, 230, 53, 147, 130, 13, 190, 193, 236, 115, 138, 36, 249, 60] ++ ([87, 235, 53, 97, 93, 71, 243, 78, 199, 20, 202, 205, 245, 253, 116, 96, 138, 94, 142, 16, 39, 36, 232, 11, 36, 178, 135, 192, 194, 123, 106, 49] ++ [])))) 32).toArray⟩ : ByteArray) = ⟨#[98, 49, 51, 55, 57, 56, 53, 102, 102, 52, 56, 52, 102, 98, 54, 48, 48, 100, 98, 57, 51, 49, 48, 55, 99, 55, 55, 98, 48, 51, 54, 53, 99, 56, 48, 100, 55, 56, 102, 53, 98, 52, 50, 57, 100, 101, 100, 48, 102, 100, 57, 55, 51, 54, 49, 100, 48, 55, 55, 57, 57, 57, 101, 98]⟩ := by decide +kernel
theorem text_ne : eqH (shaL Kc Fc [97]) (shaL Kc Fc [98]) = false := by decide +kernel
set_option maxHeartbeats 8000000 in
theorem alive7_any (w : World) (hT : Tables w) : Calls Tryd.prog 9 #[] w fun e w' => e = .returned (.bool true) ∧ Below w.heap.size w w' := by
  obtain ⟨node, z, lf, sm, hC⟩ := clash_ex
  have hY : LeafH lf := hC.leaf
  have hX : TreeH node z := hC.tree
  obtain ⟨S0, HS0⟩ := hid_ex (⟨(hexL (rootM node z (List.map lf ([[97], [98]]))) 32).toArray⟩ : ByteArray)
  have HS1 : Hid ((S0.toList == (⟨#[98, 49, 51, 55, 57, 56, 53, 102, 102, 52, 56, 52, 102, 98, 54, 48, 48, 100, 98, 57, 51, 49, 48, 55, 99, 55, 55, 98, 48, 51, 54, 53, 99, 56, 48, 100, 55, 56, 102, 53, 98, 52, 50, 57, 100, 101, 100, 48, 102, 100, 57, 55, 51, 54, 49, 100, 48, 55, 55, 57, 57, 57, 101, 98]⟩ : ByteArray).toList) = true) := Lib.hid (by
    rw [← HS0.out, show List.map lf [[97], [98]] = [lf [97], lf [98]] from rfl, rootM_2, ← hX.node, ← hY [97], ← hY [98], leafA_is, leafB_is, root_hex]; decide +kernel)
  have HFI : Hid (Fine [[97], [98]]) := Lib.hid ⟨by simp, fun t ht => by simp at ht; rcases ht with rfl | rfl <;> simp⟩
  have HX : Hid (∀ w, Tables w → ∀ v, Parts w v [[97], [98]] → Cv 11 #[v, v] w (svT2 ([] : List UInt8) ([] : List UInt8) false)) := Lib.hid fun w hT v hv => by
    have h := Extract_cv hC w hT v v _ _ hv hv HFI.out HFI.out
    rw [ext_none (.inr (.inl rfl))] at h; exact h
  have HPH : Hid (∀ w, Tables w → ∀ v, RdH w v [lf [97], lf [98]] → Cv 22 #[v, .int .i64 0] w (svPq [lf [98]] true)) := Lib.hid fun w hT v hv => by
    have h := Path_good hX v [lf [97], lf [98]] 0 w hT hv (by simp) (by simp)
    rw [path_20] at h; exact h
  have HPA : Hid (∀ w, Tables w → ∀ va vb vp vq, RdV w [] va [97] → RdV w [] vb [97] → RdH w vp [lf [98]] → RdH w vq [lf [98]] → Cv 18 #[va, vb, .int .i64 0, .int .i64 2, vp, vq] w (svT2 ([] : List UInt8) ([] : List UInt8) false)) := Lib.hid fun w hT va vb vp vq h1 h2 h3 h4 => by
    have h := Paths_cv hC w hT va vb vp vq [97] [97] 0 2 _ _ h1 h2 h3 h4 (by simp) (by simp) (by simp) (by simp)
    rw [show pathX node lf sm (fun _ => 0) [97] [97] 0 2 [lf [98]] [lf [98]] = none from by unfold pathX; exact if_pos (.inl rfl)] at h; exact h
  have HI1 : Hid (∀ w, Tables w → ∀ va vb, RdV w [] va [97] → RdV w [] vb [98] → Cv 16 #[va, vb] w (.eq (.bool false))) := Lib.hid fun w hT va vb h1 h2 => by
    have h := Is_cv hC va vb [97] [98] w hT h1 h2 (by simp) (by simp)
    have e : isB sm [97] [98] = false := by
      unfold isB
      rw [decide_eq_false (p := sm [97] = sm [98]) (by rw [← hC.sum, ← hC.sum]; exact fun e => by have := (eqH_dig _ _).2 e; rw [text_ne] at this; cases this)]
      simp
    rw [e] at h; exact h
  have HI2 : Hid (∀ w, Tables w → ∀ va vb, RdV w [] va [97] → RdV w [] vb [97] → Cv 16 #[va, vb] w (.eq (.bool false))) := Lib.hid fun w hT va vb h1 h2 => by
    have h := Is_cv hC va vb [97] [97] w hT h1 h2 (by simp) (by simp)
    have e : isB sm [97] [97] = false := by unfold isB; simp
    rw [e] at h; exact h
  have HT := Lib.hid hT
  clear hT
  go_enter Tryd.func9, Tryd.ntmps9
  go_upto_region 1 with fail
  refine wp_region_lit ?_
  refine wpList_lit1 (b := 97) rfl rfl rfl rfl rfl (by simp) ?_
  intro v5 w1 n1 q1
  simp only [Act.put, List.setIfInBounds_toArray, List.set_cons_zero, List.set_cons_succ]
  refine wpList_lit1 (b := 98) rfl rfl rfl rfl rfl (by simp) ?_
  intro v6 w2 n2 q2
  simp only [Act.put, List.setIfInBounds_toArray, List.set_cons_zero, List.set_cons_succ]
  refine wpList_plain rfl (fun K hK => ?_)
  refine opr_bs2 (l := [97]) (m := [98]) rfl (show RdV w2 [] v5 [97] from n2.rd q1) (show RdV w2 [] v6 [98] from q2) ?_
  intro v w3 n3 hv
  refine hK _ _ ?_
  clear hK K
  simp only [Act.put, List.setIfInBounds_toArray, List.set_cons_zero, List.set_cons_succ]
  refine wpList_plain rfl (fun K hK => ?_)
  refine opr_move (.inr rfl) (hK _ _ ?_)
  refine wpList_end rfl ?_
  simp only [Act.put, List.setIfInBounds_toArray, List.set_cons_zero, List.set_cons_succ]
  go_simp
  have HN := Lib.hid (NewT.trans _ _ _ n1 (NewT.trans _ _ _ n2 n3))
  have HA := Lib.hid hv
  replace HT := Lib.hid (HN.out.tables HT.out)
  clear n1 n2 n3 q1 q2 hv
  go_upto_region 2 with fail
  refine wp_region_steps0 NewT [SV.eq (v), SV.eq (v), svT2 (([] : List UInt8)) (([] : List UInt8)) false, svT2 (([] : List UInt8)) (([] : List UInt8)) false, svRd (([] : List UInt8)), svRd (([] : List UInt8)), SV.eq (.bool false), svRd (([] : List UInt8)), svRd (([] : List UInt8)), SV.eq (.bool false)] [([(1, none)], none), ([(1, none)], none), ([(16, some 0), (17, some 1)], none), ([(18, some 2)], none), ([(15, some 3)], none), ([(15, some 3)], none), ([(15, some 3)], none), ([(19, some 4)], none), ([(20, some 5)], none), ([(21, some 6)], none)] 102 10 rfl rfl (by kernel_rfl) NewT.trans (NewT.refl _) (Nat.le_of_ble_eq_true rfl) ⟨?_, ?_, ?_, ?_, ?_, ?_, ?_, ?_, ?_, ?_, trivial⟩ ?_
  · intro a wx hT hF K hK
    obtain ⟨f1, _⟩ := hF
    have f1 : a.tmps.getD 1 undef = v := f1
    refine rely_wp rfl ?_
    exact opr_move (.inl rfl) (hK _ _ (NewT.refl _) f1)
  · intro a wx hT hF K hK
    obtain ⟨f1, _⟩ := hF
    have f1 : a.tmps.getD 1 undef = v := f1
    refine rely_wp rfl ?_
    exact opr_move (.inl rfl) (hK _ _ (NewT.refl _) f1)
  · intro a wx hT hF K hK
    obtain ⟨f16, f17, _⟩ := hF
    have f16 : a.tmps.getD 16 undef = v := f16
    have f17 : a.tmps.getD 17 undef = v := f17
    refine rely_wp rfl ?_
    exact opr_cv (HX.out wx (hT.tables HT.out) v (hT.partsL HA.out)) rfl Tryd.func11 (by kernel_rfl) (by kernel_rfl) (by simp only [List.map_toArray, List.map_cons, List.map_nil, eval_tmp, f16, f17]) hK
  · intro a wx hT hF K hK
    obtain ⟨f18, _⟩ := hF
    replace f18 := show (svT2 (([] : List UInt8)) (([] : List UInt8)) false).pred (a.tmps.getD 18 undef) wx from f18
    refine rely_wp rfl ?_
    exact opr_move (.inl rfl) (hK _ _ (NewT.refl _) f18)
  · intro a wx hT hF K hK
    obtain ⟨f15, _⟩ := hF
    replace f15 := show (svT2 (([] : List UInt8)) (([] : List UInt8)) false).pred (a.tmps.getD 15 undef) wx from f15
    refine rely_wp rfl ?_
    exact opr_extT0 rfl f15 (fun u hu => hK u _ (NewT.refl _) hu)
  · intro a wx hT hF K hK
    obtain ⟨f15, _⟩ := hF
    replace f15 := show (svT2 (([] : List UInt8)) (([] : List UInt8)) false).pred (a.tmps.getD 15 undef) wx from f15
    refine rely_wp rfl ?_
    exact opr_extT1 rfl f15 (fun u hu => hK u _ (NewT.refl _) hu)
  · intro a wx hT hF K hK
    obtain ⟨f15, _⟩ := hF
    replace f15 := show (svT2 (([] : List UInt8)) (([] : List UInt8)) false).pred (a.tmps.getD 15 undef) wx from f15
    refine rely_wp rfl ?_
    exact opr_extT2 rfl f15 (hK _ _ (NewT.refl _) rfl)
  · intro a wx hT hF K hK
    obtain ⟨f19, _⟩ := hF
    replace f19 := show (svRd (([] : List UInt8))).pred (a.tmps.getD 19 undef) wx from f19
    refine rely_wp rfl ?_
    exact opr_move (.inr rfl) (hK _ _ (NewT.refl _) f19)
  · intro a wx hT hF K hK
    obtain ⟨f20, _⟩ := hF
    replace f20 := show (svRd (([] : List UInt8))).pred (a.tmps.getD 20 undef) wx from f20
    refine rely_wp rfl ?_
    exact opr_move (.inr rfl) (hK _ _ (NewT.refl _) f20)
  · intro a wx hT hF K hK
    obtain ⟨f21, _⟩ := hF
    have f21 : a.tmps.getD 21 undef = .bool false := f21
    refine rely_wp rfl ?_
    exact opr_move (.inr rfl) (hK _ _ (NewT.refl _) f21)
  · intro w2 k2
    intro u h; obtain rfl := Eq.symm (h (by simp)); clear h
    intro u h; obtain rfl := Eq.symm (h (by simp)); clear h
    intro _ _
    intro _ _
    intro _ _
    intro _ _
    intro u h; obtain rfl := Eq.symm (h (by simp)); clear h
    intro u2 h; have g2 := h (by simp); clear h; replace g2 := show (svRd (([] : List UInt8))).pred u2 w2 from g2
    intro u3 h; have g3 := h (by simp); clear h; replace g3 := show (svRd (([] : List UInt8))).pred u3 w2 from g3
    intro u h; obtain rfl := Eq.symm (h (by simp)); clear h
    refine relyEnd_nil rfl ?_
    refine wpList_end rfl ?_
    simp only [Act.put, List.setIfInBounds_toArray, List.set_cons_zero, List.set_cons_succ]
    go_simp
    have HU2 := Lib.hid g2
    have HU3 := Lib.hid g3
    replace HT := Lib.hid (k2.tables HT.out)
    replace HA := Lib.hid (k2.partsL HA.out)
    replace HN := Lib.hid (NewT.trans _ _ _ HN.out k2)
    clear g2 g3 k2
    go_upto_region 3 with fail
    refine wp_region_rely (NewT) [SV.eq (v), svPT ([97]), svRd ([97]), SV.eq (.agg (rowA 32 (bF (lf ([97]))))), SV.eq (v), svPT ([98]), svRd ([98]), SV.eq (.agg (rowA 32 (bF (lf ([98]))))), svH ([lf ([97]), lf ([98])]), svPq [lf [98]] true, svPq [lf [98]] true, svH ([lf [98]]), SV.eq (.bool true), svH ([lf [98]])] [([(1, none)], none), ([(23, some 0)], none), ([(24, some 1)], none), ([(25, some 2)], none), ([(1, none)], none), ([(27, some 4)], none), ([(28, some 5)], none), ([(29, some 6)], none), ([(26, some 3), (30, some 7)], none), ([(31, some 8)], none), ([(32, some 9)], none), ([(22, some 10)], none), ([(22, some 10)], none), ([(33, some 11)], none)] 102 rfl (by kernel_rfl) rfl (by kernel_rfl) (by kernel_rfl) rfl NewT.trans (NewT.drew _) (Nat.le_of_ble_eq_true rfl) ⟨?_, ?_, ?_, ?_, ?_, ?_, ?_, ?_, ?_, ?_, ?_, ?_, ?_, ?_, trivial⟩ ?_
    · intro a wx hT hF K hK
      obtain ⟨f1, _⟩ := hF
      have f1 : a.tmps.getD 1 undef = v := f1
      refine rely_wp rfl ?_
      exact opr_move (.inl rfl) (hK _ _ (NewT.refl _) f1)
    · intro a wx hT hF K hK
      obtain ⟨f23, _⟩ := hF
      have f23 : a.tmps.getD 23 undef = v := f23
      refine rely_wp rfl ?_
      exact opr_idxT (i := 0) (l := [97]) (rfl) (rfl) rfl (by rw [eval_tmp, f23]; exact (hT.partsL HA.out)) rfl (fun v hv => hK v _ (NewT.refl _) hv)
    · intro a wx hT hF K hK
      obtain ⟨f24, _⟩ := hF
      replace f24 := show (svPT ([97])).pred (a.tmps.getD 24 undef) wx from f24
      refine rely_wp rfl ?_
      exact opr_ldT rfl f24 (fun u hu => hK u _ (NewT.refl _) hu)
    · intro a wx hT hF K hK
      obtain ⟨f25, _⟩ := hF
      replace f25 := show (svRd ([97])).pred (a.tmps.getD 25 undef) wx from f25
      refine rely_wp rfl ?_
      exact opr_cv (LeafK hY _ ([97]) wx (hT.tables HT.out) f25 (by simp)) rfl Tryd.func21 (by kernel_rfl) (by kernel_rfl) (by simp only [List.map_toArray, List.map_cons, List.map_nil, eval_tmp]) hK
    · intro a wx hT hF K hK
      obtain ⟨f1, _⟩ := hF
      have f1 : a.tmps.getD 1 undef = v := f1
      refine rely_wp rfl ?_
      exact opr_move (.inl rfl) (hK _ _ (NewT.refl _) f1)
    · intro a wx hT hF K hK
      obtain ⟨f27, _⟩ := hF
      have f27 : a.tmps.getD 27 undef = v := f27
      refine rely_wp rfl ?_
      exact opr_idxT (i := 1) (l := [98]) (rfl) (rfl) rfl (by rw [eval_tmp, f27]; exact (hT.partsL HA.out)) rfl (fun v hv => hK v _ (NewT.refl _) hv)
    · intro a wx hT hF K hK
      obtain ⟨f28, _⟩ := hF
      replace f28 := show (svPT ([98])).pred (a.tmps.getD 28 undef) wx from f28
      refine rely_wp rfl ?_
      exact opr_ldT rfl f28 (fun u hu => hK u _ (NewT.refl _) hu)
    · intro a wx hT hF K hK
      obtain ⟨f29, _⟩ := hF
      replace f29 := show (svRd ([98])).pred (a.tmps.getD 29 undef) wx from f29
      refine rely_wp rfl ?_
      exact opr_cv (LeafK hY _ ([98]) wx (hT.tables HT.out) f29 (by simp)) rfl Tryd.func21 (by kernel_rfl) (by kernel_rfl) (by simp only [List.map_toArray, List.map_cons, List.map_nil, eval_tmp]) hK
    · intro a wx hT hF K hK
      obtain ⟨f26, f30, _⟩ := hF
      have f26 : a.tmps.getD 26 undef = .agg (rowA 32 (bF (lf ([97])))) := f26
      have f30 : a.tmps.getD 30 undef = .agg (rowA 32 (bF (lf ([98])))) := f30
      refine rely_wp rfl ?_
      exact opr_bsH2 rfl f26 f30 hK
    · intro a wx hT hF K hK
      obtain ⟨f31, _⟩ := hF
      replace f31 := show (svH ([lf ([97]), lf ([98])])).pred (a.tmps.getD 31 undef) wx from f31
      refine rely_wp rfl ?_
      exact opr_cv (HPH.out wx (hT.tables HT.out) _ f31) rfl Tryd.func22 (by kernel_rfl) (by kernel_rfl) (by simp only [List.map_toArray, List.map_cons, List.map_nil, eval_tmp, eval_const]) hK
    · intro a wx hT hF K hK
      obtain ⟨f32, _⟩ := hF
      replace f32 := show (svPq [lf [98]] true).pred (a.tmps.getD 32 undef) wx from f32
      refine rely_wp rfl ?_
      exact opr_move (.inl rfl) (hK _ _ (NewT.refl _) f32)
    · intro a wx hT hF K hK
      obtain ⟨f22, _⟩ := hF
      replace f22 := show (svPq [lf [98]] true).pred (a.tmps.getD 22 undef) wx from f22
      refine rely_wp rfl ?_
      exact opr_extP0 rfl f22 (fun u hu => hK u _ (NewT.refl _) hu)
    · intro a wx hT hF K hK
      obtain ⟨f22, _⟩ := hF
      replace f22 := show (svPq [lf [98]] true).pred (a.tmps.getD 22 undef) wx from f22
      refine rely_wp rfl ?_
      exact opr_extP1 rfl f22 (hK _ _ (NewT.refl _) rfl)
    · intro a wx hT hF K hK
      obtain ⟨f33, _⟩ := hF
      replace f33 := show (svH ([lf [98]])).pred (a.tmps.getD 33 undef) wx from f33
      refine rely_wp rfl ?_
      exact opr_move (.inr rfl) (hK _ _ (NewT.refl _) f33)
    · intro w3 k3
      intro u h; obtain rfl := Eq.symm (h (by simp)); clear h
      intro _ _
      intro _ _
      intro u h; obtain rfl := Eq.symm (h (by simp)); clear h
      intro u h; obtain rfl := Eq.symm (h (by simp)); clear h
      intro _ _
      intro _ _
      intro u h; obtain rfl := Eq.symm (h (by simp)); clear h
      intro _ _
      intro _ _
      intro _ _
      intro _ _
      intro u h; obtain rfl := Eq.symm (h (by simp)); clear h
      intro u5 h; have g5 := h (by simp); clear h; replace g5 := show (svH ([lf [98]])).pred u5 w3 from g5
      refine relyEnd_nil rfl ?_
      simp only [Act.put, List.setIfInBounds_toArray, List.set_cons_zero, List.set_cons_succ]
      refine opr_move (.inr rfl) ?_
      go_simp
      have HU5 := Lib.hid g5
      replace HT := Lib.hid (k3.tables HT.out)
      replace HA := Lib.hid (k3.partsL HA.out)
      replace HU2 := Lib.hid (k3.rd HU2.out)
      replace HU3 := Lib.hid (k3.rd HU3.out)
      replace HN := Lib.hid (NewT.trans _ _ _ HN.out k3)
      clear g5 k3
      go_upto_region 4 with fail
      refine wp_region_rely (NewT) [SV.eq (v), svPT ([97]), svRd ([97]), SV.eq (v), svPT ([97]), svRd ([97]), SV.eq (u5), SV.eq (u5), svT2 (([] : List UInt8)) (([] : List UInt8)) false, svT2 (([] : List UInt8)) (([] : List UInt8)) false, svRd (([] : List UInt8)), svRd (([] : List UInt8)), SV.eq (.bool false), svRd (([] : List UInt8)), svRd (([] : List UInt8))] [([(1, none)], none), ([(36, some 0)], none), ([(37, some 1)], none), ([(1, none)], none), ([(39, some 3)], none), ([(40, some 4)], none), ([(5, none)], none), ([(5, none)], none), ([(38, some 2), (41, some 5), (42, some 6), (43, some 7)], none), ([(44, some 8)], none), ([(35, some 9)], none), ([(35, some 9)], none), ([(35, some 9)], none), ([(45, some 10)], none), ([(46, some 11)], none)] 102 rfl (by kernel_rfl) rfl (by kernel_rfl) (by kernel_rfl) rfl NewT.trans (NewT.drew _) (Nat.le_of_ble_eq_true rfl) ⟨?_, ?_, ?_, ?_, ?_, ?_, ?_, ?_, ?_, ?_, ?_, ?_, ?_, ?_, ?_, trivial⟩ ?_
      · intro a wx hT hF K hK
        obtain ⟨f1, _⟩ := hF
        have f1 : a.tmps.getD 1 undef = v := f1
        refine rely_wp rfl ?_
        exact opr_move (.inl rfl) (hK _ _ (NewT.refl _) f1)
      · intro a wx hT hF K hK
        obtain ⟨f36, _⟩ := hF
        have f36 : a.tmps.getD 36 undef = v := f36
        refine rely_wp rfl ?_
        exact opr_idxT (i := 0) (l := [97]) (rfl) (rfl) rfl (by rw [eval_tmp, f36]; exact (hT.partsL HA.out)) rfl (fun v hv => hK v _ (NewT.refl _) hv)
      · intro a wx hT hF K hK
        obtain ⟨f37, _⟩ := hF
        replace f37 := show (svPT ([97])).pred (a.tmps.getD 37 undef) wx from f37
        refine rely_wp rfl ?_
        exact opr_ldT rfl f37 (fun u hu => hK u _ (NewT.refl _) hu)
      · intro a wx hT hF K hK
        obtain ⟨f1, _⟩ := hF
        have f1 : a.tmps.getD 1 undef = v := f1
        refine rely_wp rfl ?_
        exact opr_move (.inl rfl) (hK _ _ (NewT.refl _) f1)
      · intro a wx hT hF K hK
        obtain ⟨f39, _⟩ := hF
        have f39 : a.tmps.getD 39 undef = v := f39
        refine rely_wp rfl ?_
        exact opr_idxT (i := 0) (l := [97]) (rfl) (rfl) rfl (by rw [eval_tmp, f39]; exact (hT.partsL HA.out)) rfl (fun v hv => hK v _ (NewT.refl _) hv)
      · intro a wx hT hF K hK
        obtain ⟨f40, _⟩ := hF
        replace f40 := show (svPT ([97])).pred (a.tmps.getD 40 undef) wx from f40
        refine rely_wp rfl ?_
        exact opr_ldT rfl f40 (fun u hu => hK u _ (NewT.refl _) hu)
      · intro a wx hT hF K hK
        obtain ⟨f5, _⟩ := hF
        have f5 : a.tmps.getD 5 undef = u5 := f5
        refine rely_wp rfl ?_
        exact opr_move (.inl rfl) (hK _ _ (NewT.refl _) f5)
      · intro a wx hT hF K hK
        obtain ⟨f5, _⟩ := hF
        have f5 : a.tmps.getD 5 undef = u5 := f5
        refine rely_wp rfl ?_
        exact opr_move (.inl rfl) (hK _ _ (NewT.refl _) f5)
      · intro a wx hT hF K hK
        obtain ⟨f38, f41, f42, f43, _⟩ := hF
        replace f38 := show (svRd ([97])).pred (a.tmps.getD 38 undef) wx from f38
        replace f41 := show (svRd ([97])).pred (a.tmps.getD 41 undef) wx from f41
        have f42 : a.tmps.getD 42 undef = u5 := f42
        have f43 : a.tmps.getD 43 undef = u5 := f43
        refine rely_wp rfl ?_
        exact opr_cv (HPA.out wx (hT.tables HT.out) _ _ _ _ f38 f41 (hT.hs HU5.out) (hT.hs HU5.out)) rfl Tryd.func18 (by kernel_rfl) (by kernel_rfl) (by simp only [List.map_toArray, List.map_cons, List.map_nil, eval_tmp, eval_const, f42, f43]) hK
      · intro a wx hT hF K hK
        obtain ⟨f44, _⟩ := hF
        replace f44 := show (svT2 (([] : List UInt8)) (([] : List UInt8)) false).pred (a.tmps.getD 44 undef) wx from f44
        refine rely_wp rfl ?_
        exact opr_move (.inl rfl) (hK _ _ (NewT.refl _) f44)
      · intro a wx hT hF K hK
        obtain ⟨f35, _⟩ := hF
        replace f35 := show (svT2 (([] : List UInt8)) (([] : List UInt8)) false).pred (a.tmps.getD 35 undef) wx from f35
        refine rely_wp rfl ?_
        exact opr_extT0 rfl f35 (fun u hu => hK u _ (NewT.refl _) hu)
      · intro a wx hT hF K hK
        obtain ⟨f35, _⟩ := hF
        replace f35 := show (svT2 (([] : List UInt8)) (([] : List UInt8)) false).pred (a.tmps.getD 35 undef) wx from f35
        refine rely_wp rfl ?_
        exact opr_extT1 rfl f35 (fun u hu => hK u _ (NewT.refl _) hu)
      · intro a wx hT hF K hK
        obtain ⟨f35, _⟩ := hF
        replace f35 := show (svT2 (([] : List UInt8)) (([] : List UInt8)) false).pred (a.tmps.getD 35 undef) wx from f35
        refine rely_wp rfl ?_
        exact opr_extT2 rfl f35 (hK _ _ (NewT.refl _) rfl)
      · intro a wx hT hF K hK
        obtain ⟨f45, _⟩ := hF
        replace f45 := show (svRd (([] : List UInt8))).pred (a.tmps.getD 45 undef) wx from f45
        refine rely_wp rfl ?_
        exact opr_move (.inr rfl) (hK _ _ (NewT.refl _) f45)
      · intro a wx hT hF K hK
        obtain ⟨f46, _⟩ := hF
        replace f46 := show (svRd (([] : List UInt8))).pred (a.tmps.getD 46 undef) wx from f46
        refine rely_wp rfl ?_
        exact opr_move (.inr rfl) (hK _ _ (NewT.refl _) f46)
      · intro w4 k4
        intro u h; obtain rfl := Eq.symm (h (by simp)); clear h
        intro _ _
        intro _ _
        intro u h; obtain rfl := Eq.symm (h (by simp)); clear h
        intro _ _
        intro _ _
        intro u h; obtain rfl := Eq.symm (h (by simp)); clear h
        intro u h; obtain rfl := Eq.symm (h (by simp)); clear h
        intro _ _
        intro _ _
        intro _ _
        intro _ _
        intro u h; obtain rfl := Eq.symm (h (by simp)); clear h
        intro _ _
        intro _ _
        refine relyEnd_nil rfl ?_
        simp only [Act.put, List.setIfInBounds_toArray, List.set_cons_zero, List.set_cons_succ]
        refine opr_move (.inr rfl) ?_
        go_simp
        replace HT := Lib.hid (k4.tables HT.out)
        replace HA := Lib.hid (k4.partsL HA.out)
        replace HU2 := Lib.hid (k4.rd HU2.out)
        replace HU3 := Lib.hid (k4.rd HU3.out)
        replace HN := Lib.hid (NewT.trans _ _ _ HN.out k4)
        clear k4 HU5
        go_upto_region 5 with fail
        refine wp_region_rely (NewT) [SV.eq (v), SV.eq (.agg (rowA 32 (bF (rootM node z (List.map lf ([[97], [98]])))))), SV.eq ((.string S0)), SV.eq (.bool true), SV.eq (.bool true), SV.eq (.bool false), SV.eq (.bool true), SV.eq (.bool true), SV.eq (.bool true), SV.eq (.bool false), SV.eq (.bool true), SV.eq (.bool true), SV.eq (.bool true), SV.eq (u2), SV.eq (.int .i64 ((List.length (([] : List UInt8)) : Int))), SV.eq (u3), SV.eq (.int .i64 ((List.length (([] : List UInt8)) : Int))), SV.eq (.int .i64 (0)), SV.eq (.bool true), SV.eq (.bool true), SV.eq (.bool true), SV.eq (v), SV.eq (.agg (rowA 32 (bF (rootM node z (List.map lf ([[97], [98]])))))), SV.eq (v), svPT ([97]), svRd ([97]), SV.eq (.agg (rowA 32 (bF (lf ([97]))))), SV.eq (v), svPT ([98]), svRd ([98]), SV.eq (.agg (rowA 32 (bF (lf ([98]))))), SV.eq (.agg (rowA 32 (bF (node (lf ([97])) (lf ([98])))))), SV.eq (.bool true), SV.eq (.bool true), SV.eq (.bool true), SV.eq (v), svPT ([97]), svRd ([97]), SV.eq (v), svPT ([98]), svRd ([98]), SV.eq (.bool false), SV.eq (.bool true), SV.eq (.bool true), SV.eq (.bool true), SV.eq (v), svPT ([97]), svRd ([97]), SV.eq (v), svPT ([97]), svRd ([97]), SV.eq (.bool false), SV.eq (.bool true), SV.eq (.bool true)] [([(1, none)], none), ([(48, some 0)], none), ([(49, some 1)], none), ([(50, some 2)], none), ([(51, some 3)], none), ([(4, none), (52, some 4)], some (52, true)), ([(53, some 5), (52, some 4)], some (52, true)), ([(52, some 4), (54, some 6)], none), ([(55, some 7)], none), ([(9, none), (56, some 8)], some (56, true)), ([(57, some 9), (56, some 8)], some (56, true)), ([(56, some 8), (58, some 10)], none), ([(59, some 11)], none), ([(2, none), (60, some 12)], some (60, true)), ([(61, some 13), (60, some 12)], some (60, true)), ([(3, none), (60, some 12)], some (60, true)), ([(63, some 15), (60, some 12)], some (60, true)), ([(62, some 14), (64, some 16), (60, some 12)], some (60, true)), ([(65, some 17), (60, some 12)], some (60, true)), ([(60, some 12), (66, some 18)], none), ([(67, some 19)], none), ([(1, none), (68, some 20)], some (68, true)), ([(69, some 21), (68, some 20)], some (68, true)), ([(1, none), (68, some 20)], some (68, true)), ([(71, some 23), (68, some 20)], some (68, true)), ([(72, some 24), (68, some 20)], some (68, true)), ([(73, some 25), (68, some 20)], some (68, true)), ([(1, none), (68, some 20)], some (68, true)), ([(75, some 27), (68, some 20)], some (68, true)), ([(76, some 28), (68, some 20)], some (68, true)), ([(77, some 29), (68, some 20)], some (68, true)), ([(74, some 26), (78, some 30), (68, some 20)], some (68, true)), ([(70, some 22), (79, some 31), (68, some 20)], some (68, true)), ([(68, some 20), (80, some 32)], none), ([(81, some 33)], none), ([(1, none), (82, some 34)], some (82, true)), ([(83, some 35), (82, some 34)], some (82, true)), ([(84, some 36), (82, some 34)], some (82, true)), ([(1, none), (82, some 34)], some (82, true)), ([(86, some 38), (82, some 34)], some (82, true)), ([(87, some 39), (82, some 34)], some (82, true)), ([(85, some 37), (88, some 40), (82, some 34)], some (82, true)), ([(89, some 41), (82, some 34)], some (82, true)), ([(82, some 34), (90, some 42)], none), ([(91, some 43)], none), ([(1, none), (92, some 44)], some (92, true)), ([(93, some 45), (92, some 44)], some (92, true)), ([(94, some 46), (92, some 44)], some (92, true)), ([(1, none), (92, some 44)], some (92, true)), ([(96, some 48), (92, some 44)], some (92, true)), ([(97, some 49), (92, some 44)], some (92, true)), ([(95, some 47), (98, some 50), (92, some 44)], some (92, true)), ([(99, some 51), (92, some 44)], some (92, true)), ([(92, some 44), (100, some 52)], none)] 102 rfl (by kernel_rfl) rfl (by kernel_rfl) (by kernel_rfl) rfl NewT.trans (NewT.drew _) (Nat.le_of_ble_eq_true rfl) ⟨?_, ?_, ?_, ?_, ?_, ?_, ?_, ?_, ?_, ?_, ?_, ?_, ?_, ?_, ?_, ?_, ?_, ?_, ?_, ?_, ?_, ?_, ?_, ?_, ?_, ?_, ?_, ?_, ?_, ?_, ?_, ?_, ?_, ?_, ?_, ?_, ?_, ?_, ?_, ?_, ?_, ?_, ?_, ?_, ?_, ?_, ?_, ?_, ?_, ?_, ?_, ?_, ?_, ?_, trivial⟩ ?_
        · intro a wx hT hF K hK
          obtain ⟨f1, _⟩ := hF
          have f1 : a.tmps.getD 1 undef = v := f1
          refine rely_wp rfl ?_
          exact opr_move (.inl rfl) (hK _ _ (NewT.refl _) f1)
        · intro a wx hT hF K hK
          obtain ⟨f48, _⟩ := hF
          have f48 : a.tmps.getD 48 undef = v := f48
          refine rely_wp rfl ?_
          exact opr_cv (Roots_cv hC _ ([[97], [98]]) wx (hT.tables HT.out) (hT.partsL HA.out) (HFI.out)) rfl Tryd.func14 (by kernel_rfl) (by kernel_rfl) (by simp only [List.map_toArray, List.map_cons, List.map_nil, eval_tmp, f48]) hK
        · intro a wx hT hF K hK
          obtain ⟨f49, _⟩ := hF
          have f49 : a.tmps.getD 49 undef = .agg (rowA 32 (bF (rootM node z (List.map lf ([[97], [98]]))))) := f49
          refine rely_wp rfl ?_
          exact opr_cv (Hex_cv _ S0 wx HS0.out) rfl Tryd.func25 (by kernel_rfl) (by kernel_rfl) (by simp only [List.map_toArray, List.map_cons, List.map_nil, eval_tmp, f49]) hK
        · intro a wx hT hF K hK
          obtain ⟨f50, _⟩ := hF
          have f50 : a.tmps.getD 50 undef = (.string S0) := f50
          refine rely_wp rfl ?_
          exact opr_eqlS HS1.out rfl f50 rfl (hK _ _ (NewT.refl _) rfl)
        · intro a wx hT hF K hK
          obtain ⟨f51, _⟩ := hF
          have f51 : a.tmps.getD 51 undef = .bool true := f51
          refine rely_wp rfl ?_
          exact opr_move (.inl rfl) (hK _ _ (NewT.refl _) f51)
        · intro a wx hT hF K hK
          obtain ⟨f4, f52, _⟩ := hF
          have f4 : a.tmps.getD 4 undef = .bool false := f4
          have f52 : a.tmps.getD 52 undef = .bool true := f52
          refine rely_wp (rely_guard f52) ?_
          exact opr_move (.inl rfl) (hK _ _ (NewT.refl _) f4)
        · intro a wx hT hF K hK
          obtain ⟨f53, f52, _⟩ := hF
          have f53 : a.tmps.getD 53 undef = .bool false := f53
          have f52 : a.tmps.getD 52 undef = .bool true := f52
          refine rely_wp (rely_guard f52) ?_
          exact opr_not rfl f53 (hK _ _ (NewT.refl _) rfl)
        · intro a wx hT hF K hK
          obtain ⟨f52, f54, _⟩ := hF
          have f52 : a.tmps.getD 52 undef = .bool true := f52
          have f54 : a.tmps.getD 54 undef = .bool true := f54
          refine rely_wp rfl ?_
          exact opr_pick_true rfl f52 (hK _ _ (NewT.refl _) f54)
        · intro a wx hT hF K hK
          obtain ⟨f55, _⟩ := hF
          have f55 : a.tmps.getD 55 undef = .bool true := f55
          refine rely_wp rfl ?_
          exact opr_move (.inl rfl) (hK _ _ (NewT.refl _) f55)
        · intro a wx hT hF K hK
          obtain ⟨f9, f56, _⟩ := hF
          have f9 : a.tmps.getD 9 undef = .bool false := f9
          have f56 : a.tmps.getD 56 undef = .bool true := f56
          refine rely_wp (rely_guard f56) ?_
          exact opr_move (.inl rfl) (hK _ _ (NewT.refl _) f9)
        · intro a wx hT hF K hK
          obtain ⟨f57, f56, _⟩ := hF
          have f57 : a.tmps.getD 57 undef = .bool false := f57
          have f56 : a.tmps.getD 56 undef = .bool true := f56
          refine rely_wp (rely_guard f56) ?_
          exact opr_not rfl f57 (hK _ _ (NewT.refl _) rfl)
        · intro a wx hT hF K hK
          obtain ⟨f56, f58, _⟩ := hF
          have f56 : a.tmps.getD 56 undef = .bool true := f56
          have f58 : a.tmps.getD 58 undef = .bool true := f58
          refine rely_wp rfl ?_
          exact opr_pick_true rfl f56 (hK _ _ (NewT.refl _) f58)
        · intro a wx hT hF K hK
          obtain ⟨f59, _⟩ := hF
          have f59 : a.tmps.getD 59 undef = .bool true := f59
          refine rely_wp rfl ?_
          exact opr_move (.inl rfl) (hK _ _ (NewT.refl _) f59)
        · intro a wx hT hF K hK
          obtain ⟨f2, f60, _⟩ := hF
          have f2 : a.tmps.getD 2 undef = u2 := f2
          have f60 : a.tmps.getD 60 undef = .bool true := f60
          refine rely_wp (rely_guard f60) ?_
          exact opr_move (.inl rfl) (hK _ _ (NewT.refl _) f2)
        · intro a wx hT hF K hK
          obtain ⟨f61, f60, _⟩ := hF
          have f61 : a.tmps.getD 61 undef = u2 := f61
          have f60 : a.tmps.getD 60 undef = .bool true := f60
          refine rely_wp (rely_guard f60) ?_
          exact opr_len_rd rfl (by rw [eval_tmp, f61]; exact (hT.rd HU2.out)) (hK _ _ (NewT.refl _) rfl)
        · intro a wx hT hF K hK
          obtain ⟨f3, f60, _⟩ := hF
          have f3 : a.tmps.getD 3 undef = u3 := f3
          have f60 : a.tmps.getD 60 undef = .bool true := f60
          refine rely_wp (rely_guard f60) ?_
          exact opr_move (.inl rfl) (hK _ _ (NewT.refl _) f3)
        · intro a wx hT hF K hK
          obtain ⟨f63, f60, _⟩ := hF
          have f63 : a.tmps.getD 63 undef = u3 := f63
          have f60 : a.tmps.getD 60 undef = .bool true := f60
          refine rely_wp (rely_guard f60) ?_
          exact opr_len_rd rfl (by rw [eval_tmp, f63]; exact (hT.rd HU3.out)) (hK _ _ (NewT.refl _) rfl)
        · intro a wx hT hF K hK
          obtain ⟨f62, f64, f60, _⟩ := hF
          have f62 : a.tmps.getD 62 undef = .int .i64 ((List.length (([] : List UInt8)) : Int)) := f62
          have f64 : a.tmps.getD 64 undef = .int .i64 ((List.length (([] : List UInt8)) : Int)) := f64
          have f60 : a.tmps.getD 60 undef = .bool true := f60
          refine rely_wp (rely_guard f60) ?_
          exact opr_add (r := 0) Tryd.underlying3 (by simp [wrap64]) rfl f62 f64 (hK _ _ (NewT.refl _) rfl)
        · intro a wx hT hF K hK
          obtain ⟨f65, f60, _⟩ := hF
          have f65 : a.tmps.getD 65 undef = .int .i64 (0) := f65
          have f60 : a.tmps.getD 60 undef = .bool true := f60
          refine rely_wp (rely_guard f60) ?_
          exact opr_cmp (b := true) (.inl ⟨rfl, (by rfl)⟩) Tryd.underlying3 rfl f65 rfl (hK _ _ (NewT.refl _) rfl)
        · intro a wx hT hF K hK
          obtain ⟨f60, f66, _⟩ := hF
          have f60 : a.tmps.getD 60 undef = .bool true := f60
          have f66 : a.tmps.getD 66 undef = .bool true := f66
          refine rely_wp rfl ?_
          exact opr_pick_true rfl f60 (hK _ _ (NewT.refl _) f66)
        · intro a wx hT hF K hK
          obtain ⟨f67, _⟩ := hF
          have f67 : a.tmps.getD 67 undef = .bool true := f67
          refine rely_wp rfl ?_
          exact opr_move (.inl rfl) (hK _ _ (NewT.refl _) f67)
        · intro a wx hT hF K hK
          obtain ⟨f1, f68, _⟩ := hF
          have f1 : a.tmps.getD 1 undef = v := f1
          have f68 : a.tmps.getD 68 undef = .bool true := f68
          refine rely_wp (rely_guard f68) ?_
          exact opr_move (.inl rfl) (hK _ _ (NewT.refl _) f1)
        · intro a wx hT hF K hK
          obtain ⟨f69, f68, _⟩ := hF
          have f69 : a.tmps.getD 69 undef = v := f69
          have f68 : a.tmps.getD 68 undef = .bool true := f68
          refine rely_wp (rely_guard f68) ?_
          exact opr_cv (Roots_cv hC _ ([[97], [98]]) wx (hT.tables HT.out) (hT.partsL HA.out) (HFI.out)) rfl Tryd.func14 (by kernel_rfl) (by kernel_rfl) (by simp only [List.map_toArray, List.map_cons, List.map_nil, eval_tmp, f69]) hK
        · intro a wx hT hF K hK
          obtain ⟨f1, f68, _⟩ := hF
          have f1 : a.tmps.getD 1 undef = v := f1
          have f68 : a.tmps.getD 68 undef = .bool true := f68
          refine rely_wp (rely_guard f68) ?_
          exact opr_move (.inl rfl) (hK _ _ (NewT.refl _) f1)
        · intro a wx hT hF K hK
          obtain ⟨f71, f68, _⟩ := hF
          have f71 : a.tmps.getD 71 undef = v := f71
          have f68 : a.tmps.getD 68 undef = .bool true := f68
          refine rely_wp (rely_guard f68) ?_
          exact opr_idxT (i := 0) (l := [97]) (rfl) (rfl) rfl (by rw [eval_tmp, f71]; exact (hT.partsL HA.out)) rfl (fun v hv => hK v _ (NewT.refl _) hv)
        · intro a wx hT hF K hK
          obtain ⟨f72, f68, _⟩ := hF
          replace f72 := show (svPT ([97])).pred (a.tmps.getD 72 undef) wx from f72
          have f68 : a.tmps.getD 68 undef = .bool true := f68
          refine rely_wp (rely_guard f68) ?_
          exact opr_ldT rfl f72 (fun u hu => hK u _ (NewT.refl _) hu)
        · intro a wx hT hF K hK
          obtain ⟨f73, f68, _⟩ := hF
          replace f73 := show (svRd ([97])).pred (a.tmps.getD 73 undef) wx from f73
          have f68 : a.tmps.getD 68 undef = .bool true := f68
          refine rely_wp (rely_guard f68) ?_
          exact opr_cv (LeafK hY _ ([97]) wx (hT.tables HT.out) f73 (by simp)) rfl Tryd.func21 (by kernel_rfl) (by kernel_rfl) (by simp only [List.map_toArray, List.map_cons, List.map_nil, eval_tmp]) hK
        · intro a wx hT hF K hK
          obtain ⟨f1, f68, _⟩ := hF
          have f1 : a.tmps.getD 1 undef = v := f1
          have f68 : a.tmps.getD 68 undef = .bool true := f68
          refine rely_wp (rely_guard f68) ?_
          exact opr_move (.inl rfl) (hK _ _ (NewT.refl _) f1)
        · intro a wx hT hF K hK
          obtain ⟨f75, f68, _⟩ := hF
          have f75 : a.tmps.getD 75 undef = v := f75
          have f68 : a.tmps.getD 68 undef = .bool true := f68
          refine rely_wp (rely_guard f68) ?_
          exact opr_idxT (i := 1) (l := [98]) (rfl) (rfl) rfl (by rw [eval_tmp, f75]; exact (hT.partsL HA.out)) rfl (fun v hv => hK v _ (NewT.refl _) hv)
        · intro a wx hT hF K hK
          obtain ⟨f76, f68, _⟩ := hF
          replace f76 := show (svPT ([98])).pred (a.tmps.getD 76 undef) wx from f76
          have f68 : a.tmps.getD 68 undef = .bool true := f68
          refine rely_wp (rely_guard f68) ?_
          exact opr_ldT rfl f76 (fun u hu => hK u _ (NewT.refl _) hu)
        · intro a wx hT hF K hK
          obtain ⟨f77, f68, _⟩ := hF
          replace f77 := show (svRd ([98])).pred (a.tmps.getD 77 undef) wx from f77
          have f68 : a.tmps.getD 68 undef = .bool true := f68
          refine rely_wp (rely_guard f68) ?_
          exact opr_cv (LeafK hY _ ([98]) wx (hT.tables HT.out) f77 (by simp)) rfl Tryd.func21 (by kernel_rfl) (by kernel_rfl) (by simp only [List.map_toArray, List.map_cons, List.map_nil, eval_tmp]) hK
        · intro a wx hT hF K hK
          obtain ⟨f74, f78, f68, _⟩ := hF
          have f74 : a.tmps.getD 74 undef = .agg (rowA 32 (bF (lf ([97])))) := f74
          have f78 : a.tmps.getD 78 undef = .agg (rowA 32 (bF (lf ([98])))) := f78
          have f68 : a.tmps.getD 68 undef = .bool true := f68
          refine rely_wp (rely_guard f68) ?_
          exact opr_cv (Node_cv hX (lf ([97])) (lf ([98])) wx (hT.tables HT.out)) rfl Tryd.func26 (by kernel_rfl) (by kernel_rfl) (by simp only [List.map_toArray, List.map_cons, List.map_nil, eval_tmp, f74, f78]) hK
        · intro a wx hT hF K hK
          obtain ⟨f70, f79, f68, _⟩ := hF
          have f70 : a.tmps.getD 70 undef = .agg (rowA 32 (bF (rootM node z (List.map lf ([[97], [98]]))))) := f70
          have f79 : a.tmps.getD 79 undef = .agg (rowA 32 (bF (node (lf ([97])) (lf ([98]))))) := f79
          have f68 : a.tmps.getD 68 undef = .bool true := f68
          refine rely_wp (rely_guard f68) ?_
          exact opr_eql_hash (b := true) rfl f70 f79 ((by rw [show List.map lf [[97], [98]] = [lf [97], lf [98]] from rfl, rootM_2]; exact eqH_same _)) (hK _ _ (NewT.refl _) rfl)
        · intro a wx hT hF K hK
          obtain ⟨f68, f80, _⟩ := hF
          have f68 : a.tmps.getD 68 undef = .bool true := f68
          have f80 : a.tmps.getD 80 undef = .bool true := f80
          refine rely_wp rfl ?_
          exact opr_pick_true rfl f68 (hK _ _ (NewT.refl _) f80)
        · intro a wx hT hF K hK
          obtain ⟨f81, _⟩ := hF
          have f81 : a.tmps.getD 81 undef = .bool true := f81
          refine rely_wp rfl ?_
          exact opr_move (.inl rfl) (hK _ _ (NewT.refl _) f81)
        · intro a wx hT hF K hK
          obtain ⟨f1, f82, _⟩ := hF
          have f1 : a.tmps.getD 1 undef = v := f1
          have f82 : a.tmps.getD 82 undef = .bool true := f82
          refine rely_wp (rely_guard f82) ?_
          exact opr_move (.inl rfl) (hK _ _ (NewT.refl _) f1)
        · intro a wx hT hF K hK
          obtain ⟨f83, f82, _⟩ := hF
          have f83 : a.tmps.getD 83 undef = v := f83
          have f82 : a.tmps.getD 82 undef = .bool true := f82
          refine rely_wp (rely_guard f82) ?_
          exact opr_idxT (i := 0) (l := [97]) (rfl) (rfl) rfl (by rw [eval_tmp, f83]; exact (hT.partsL HA.out)) rfl (fun v hv => hK v _ (NewT.refl _) hv)
        · intro a wx hT hF K hK
          obtain ⟨f84, f82, _⟩ := hF
          replace f84 := show (svPT ([97])).pred (a.tmps.getD 84 undef) wx from f84
          have f82 : a.tmps.getD 82 undef = .bool true := f82
          refine rely_wp (rely_guard f82) ?_
          exact opr_ldT rfl f84 (fun u hu => hK u _ (NewT.refl _) hu)
        · intro a wx hT hF K hK
          obtain ⟨f1, f82, _⟩ := hF
          have f1 : a.tmps.getD 1 undef = v := f1
          have f82 : a.tmps.getD 82 undef = .bool true := f82
          refine rely_wp (rely_guard f82) ?_
          exact opr_move (.inl rfl) (hK _ _ (NewT.refl _) f1)
        · intro a wx hT hF K hK
          obtain ⟨f86, f82, _⟩ := hF
          have f86 : a.tmps.getD 86 undef = v := f86
          have f82 : a.tmps.getD 82 undef = .bool true := f82
          refine rely_wp (rely_guard f82) ?_
          exact opr_idxT (i := 1) (l := [98]) (rfl) (rfl) rfl (by rw [eval_tmp, f86]; exact (hT.partsL HA.out)) rfl (fun v hv => hK v _ (NewT.refl _) hv)
        · intro a wx hT hF K hK
          obtain ⟨f87, f82, _⟩ := hF
          replace f87 := show (svPT ([98])).pred (a.tmps.getD 87 undef) wx from f87
          have f82 : a.tmps.getD 82 undef = .bool true := f82
          refine rely_wp (rely_guard f82) ?_
          exact opr_ldT rfl f87 (fun u hu => hK u _ (NewT.refl _) hu)
        · intro a wx hT hF K hK
          obtain ⟨f85, f88, f82, _⟩ := hF
          replace f85 := show (svRd ([97])).pred (a.tmps.getD 85 undef) wx from f85
          replace f88 := show (svRd ([98])).pred (a.tmps.getD 88 undef) wx from f88
          have f82 : a.tmps.getD 82 undef = .bool true := f82
          refine rely_wp (rely_guard f82) ?_
          exact opr_cv (HI1.out wx (hT.tables HT.out) _ _ f85 f88) rfl Tryd.func16 (by kernel_rfl) (by kernel_rfl) (by simp only [List.map_toArray, List.map_cons, List.map_nil, eval_tmp]) hK
        · intro a wx hT hF K hK
          obtain ⟨f89, f82, _⟩ := hF
          have f89 : a.tmps.getD 89 undef = .bool false := f89
          have f82 : a.tmps.getD 82 undef = .bool true := f82
          refine rely_wp (rely_guard f82) ?_
          exact opr_not rfl f89 (hK _ _ (NewT.refl _) rfl)
        · intro a wx hT hF K hK
          obtain ⟨f82, f90, _⟩ := hF
          have f82 : a.tmps.getD 82 undef = .bool true := f82
          have f90 : a.tmps.getD 90 undef = .bool true := f90
          refine rely_wp rfl ?_
          exact opr_pick_true rfl f82 (hK _ _ (NewT.refl _) f90)
        · intro a wx hT hF K hK
          obtain ⟨f91, _⟩ := hF
          have f91 : a.tmps.getD 91 undef = .bool true := f91
          refine rely_wp rfl ?_
          exact opr_move (.inl rfl) (hK _ _ (NewT.refl _) f91)
        · intro a wx hT hF K hK
          obtain ⟨f1, f92, _⟩ := hF
          have f1 : a.tmps.getD 1 undef = v := f1
          have f92 : a.tmps.getD 92 undef = .bool true := f92
          refine rely_wp (rely_guard f92) ?_
          exact opr_move (.inl rfl) (hK _ _ (NewT.refl _) f1)
        · intro a wx hT hF K hK
          obtain ⟨f93, f92, _⟩ := hF
          have f93 : a.tmps.getD 93 undef = v := f93
          have f92 : a.tmps.getD 92 undef = .bool true := f92
          refine rely_wp (rely_guard f92) ?_
          exact opr_idxT (i := 0) (l := [97]) (rfl) (rfl) rfl (by rw [eval_tmp, f93]; exact (hT.partsL HA.out)) rfl (fun v hv => hK v _ (NewT.refl _) hv)
        · intro a wx hT hF K hK
          obtain ⟨f94, f92, _⟩ := hF
          replace f94 := show (svPT ([97])).pred (a.tmps.getD 94 undef) wx from f94
          have f92 : a.tmps.getD 92 undef = .bool true := f92
          refine rely_wp (rely_guard f92) ?_
          exact opr_ldT rfl f94 (fun u hu => hK u _ (NewT.refl _) hu)
        · intro a wx hT hF K hK
          obtain ⟨f1, f92, _⟩ := hF
          have f1 : a.tmps.getD 1 undef = v := f1
          have f92 : a.tmps.getD 92 undef = .bool true := f92
          refine rely_wp (rely_guard f92) ?_
          exact opr_move (.inl rfl) (hK _ _ (NewT.refl _) f1)
        · intro a wx hT hF K hK
          obtain ⟨f96, f92, _⟩ := hF
          have f96 : a.tmps.getD 96 undef = v := f96
          have f92 : a.tmps.getD 92 undef = .bool true := f92
          refine rely_wp (rely_guard f92) ?_
          exact opr_idxT (i := 0) (l := [97]) (rfl) (rfl) rfl (by rw [eval_tmp, f96]; exact (hT.partsL HA.out)) rfl (fun v hv => hK v _ (NewT.refl _) hv)
        · intro a wx hT hF K hK
          obtain ⟨f97, f92, _⟩ := hF
          replace f97 := show (svPT ([97])).pred (a.tmps.getD 97 undef) wx from f97
          have f92 : a.tmps.getD 92 undef = .bool true := f92
          refine rely_wp (rely_guard f92) ?_
          exact opr_ldT rfl f97 (fun u hu => hK u _ (NewT.refl _) hu)
        · intro a wx hT hF K hK
          obtain ⟨f95, f98, f92, _⟩ := hF
          replace f95 := show (svRd ([97])).pred (a.tmps.getD 95 undef) wx from f95
          replace f98 := show (svRd ([97])).pred (a.tmps.getD 98 undef) wx from f98
          have f92 : a.tmps.getD 92 undef = .bool true := f92
          refine rely_wp (rely_guard f92) ?_
          exact opr_cv (HI2.out wx (hT.tables HT.out) _ _ f95 f98) rfl Tryd.func16 (by kernel_rfl) (by kernel_rfl) (by simp only [List.map_toArray, List.map_cons, List.map_nil, eval_tmp]) hK
        · intro a wx hT hF K hK
          obtain ⟨f99, f92, _⟩ := hF
          have f99 : a.tmps.getD 99 undef = .bool false := f99
          have f92 : a.tmps.getD 92 undef = .bool true := f92
          refine rely_wp (rely_guard f92) ?_
          exact opr_not rfl f99 (hK _ _ (NewT.refl _) rfl)
        · intro a wx hT hF K hK
          obtain ⟨f92, f100, _⟩ := hF
          have f92 : a.tmps.getD 92 undef = .bool true := f92
          have f100 : a.tmps.getD 100 undef = .bool true := f100
          refine rely_wp rfl ?_
          exact opr_pick_true rfl f92 (hK _ _ (NewT.refl _) f100)
        · intro w5 k5
          intro u h; obtain rfl := Eq.symm (h (by simp)); clear h
          intro u h; obtain rfl := Eq.symm (h (by simp)); clear h
          intro u h; obtain rfl := Eq.symm (h (by simp)); clear h
          intro u h; obtain rfl := Eq.symm (h (by simp)); clear h
          intro u h; obtain rfl := Eq.symm (h (by simp)); clear h
          intro u h; obtain rfl := Eq.symm (h (by simp)); clear h
          intro u h; obtain rfl := Eq.symm (h (by simp)); clear h
          intro u h; obtain rfl := Eq.symm (h (by simp)); clear h
          intro u h; obtain rfl := Eq.symm (h (by simp)); clear h
          intro u h; obtain rfl := Eq.symm (h (by simp)); clear h
          intro u h; obtain rfl := Eq.symm (h (by simp)); clear h
          intro u h; obtain rfl := Eq.symm (h (by simp)); clear h
          intro u h; obtain rfl := Eq.symm (h (by simp)); clear h
          intro u h; obtain rfl := Eq.symm (h (by simp)); clear h
          intro u h; obtain rfl := Eq.symm (h (by simp)); clear h
          intro u h; obtain rfl := Eq.symm (h (by simp)); clear h
          intro u h; obtain rfl := Eq.symm (h (by simp)); clear h
          intro u h; obtain rfl := Eq.symm (h (by simp)); clear h
          intro u h; obtain rfl := Eq.symm (h (by simp)); clear h
          intro u h; obtain rfl := Eq.symm (h (by simp)); clear h
          intro u h; obtain rfl := Eq.symm (h (by simp)); clear h
          intro u h; obtain rfl := Eq.symm (h (by simp)); clear h
          intro u h; obtain rfl := Eq.symm (h (by simp)); clear h
          intro u h; obtain rfl := Eq.symm (h (by simp)); clear h
          intro _ _
          intro _ _
          intro u h; obtain rfl := Eq.symm (h (by simp)); clear h
          intro u h; obtain rfl := Eq.symm (h (by simp)); clear h
          intro _ _
          intro _ _
          intro u h; obtain rfl := Eq.symm (h (by simp)); clear h
          intro u h; obtain rfl := Eq.symm (h (by simp)); clear h
          intro u h; obtain rfl := Eq.symm (h (by simp)); clear h
          intro u h; obtain rfl := Eq.symm (h (by simp)); clear h
          intro u h; obtain rfl := Eq.symm (h (by simp)); clear h
          intro u h; obtain rfl := Eq.symm (h (by simp)); clear h
          intro _ _
          intro _ _
          intro u h; obtain rfl := Eq.symm (h (by simp)); clear h
          intro _ _
          intro _ _
          intro u h; obtain rfl := Eq.symm (h (by simp)); clear h
          intro u h; obtain rfl := Eq.symm (h (by simp)); clear h
          intro u h; obtain rfl := Eq.symm (h (by simp)); clear h
          intro u h; obtain rfl := Eq.symm (h (by simp)); clear h
          intro u h; obtain rfl := Eq.symm (h (by simp)); clear h
          intro _ _
          intro _ _
          intro u h; obtain rfl := Eq.symm (h (by simp)); clear h
          intro _ _
          intro _ _
          intro u h; obtain rfl := Eq.symm (h (by simp)); clear h
          intro u h; obtain rfl := Eq.symm (h (by simp)); clear h
          intro u h; obtain rfl := Eq.symm (h (by simp)); clear h
          refine relyEnd_nil rfl ?_
          simp only [Act.put, List.setIfInBounds_toArray, List.set_cons_zero, List.set_cons_succ]
          refine opr_move (.inr rfl) ?_
          go_simp
          go_wp2
          go_ret
          exact ⟨rfl, (NewT.trans _ _ _ HN.out k5).out⟩
theorem alive7_cv (w : World) (hT : Tables w) : Cv 9 #[] w (.eq (.bool true)) := Cv.of_eq (alive7_any w hT)
end Go.Proofs.YtlnedphnphabkaaDoor
/- The reference's Bytes, at whatever lists. -/
namespace Go.Proofs.YtlnedphnphabkaaDoor
open Go Go.RowKit
set_option maxRecDepth 8000
set_option linter.all false
theorem rd_cells {W : World} {A : Option Addr} {n c : Nat} {l : List UInt8} (h : RdV W [] (.slice A n c) l) : l.length = n ∧ ∀ i, i < n → ∃ b o, A = some ⟨b, o, none⟩ ∧ ∀ j, j < n → W.cell? ⟨b, o + j, none⟩ = some (.int .u8 (bN (bAt l j))) := by
  obtain ⟨A', c', hv, _, _, hc⟩ := h
  cases hv
  refine ⟨rfl, fun i hi => ?_⟩
  obtain ⟨b, o, h1, _, h2⟩ := hc (by omega)
  exact ⟨b, o, h1, h2⟩
/-- The same up to a place. -/
def sameTo (l m : List UInt8) (k : Nat) : Prop := ∀ i, i < k → bAt l i = bAt m i
theorem eq_of_sameTo {l m : List UInt8} (hl : l.length = m.length) (h : sameTo l m l.length) : l = m := by
  apply List.ext_getElem hl
  intro i h1 h2
  have := h i h1
  simpa [bAt, h1, h2] using this
set_option maxHeartbeats 1000000 in
theorem Bytes_any (A1 A2 : Option Addr) (n1 c1 n2 c2 : Nat) (l m : List UInt8) (w : World) (h1 : RdV w [] (.slice A1 n1 c1) l) (h2 : RdV w [] (.slice A2 n2 c2) m) (hn1 : n1 ≤ 1000000) (hn2 : n2 ≤ 1000000) :
    Cv 13 #[.slice A1 n1 c1, .slice A2 n2 c2] w (.eq (.bool (decide (l = m)))) := by
  unfold Cv
  obtain ⟨e1, k1⟩ := rd_cells h1
  obtain ⟨e2, k2⟩ := rd_cells h2
  have E1 := Lib.hid e1
  have E2 := Lib.hid e2
  have H1 := Lib.hid k1
  have H2 := Lib.hid k2
  clear h1 h2 e1 e2 k1 k2
  by_cases hne : n1 = n2
  · subst hne
    go_enter Tryd.func13, Tryd.ntmps13
    go_wp2
    go_loopw [5] (fun i wr => ∃ k : Nat, k ≤ n1 ∧ i = .int .i64 k ∧ Hid (sameTo l m k) ∧ Hid (∀ a, wr.cell? a = w.cell? a) ∧ Below w.heap.size w wr) (fun i _ => n1 - (intOf i).toNat)
    case atStart => exact ⟨0, by omega, rfl, Lib.hid (fun i hi => by omega), Lib.hid (fun _ => rfl), Below.refl _ _⟩
    case round =>
      obtain ⟨k, hk, rfl, Hs, Hcell, qB⟩ := hrel
      by_cases hlt : k < n1
      · obtain ⟨b1, o1, rfl, j1⟩ := H1.out k hlt
        obtain ⟨b2, o2, rfl, j2⟩ := H2.out k hlt
        have c1' := (Hcell.out ⟨b1, o1 + k, none⟩).trans (j1 k hlt)
        have c2' := (Hcell.out ⟨b2, o2 + k, none⟩).trans (j2 k hlt)
        have it : (k : Int) < (n1 : Int) := by omega
        clear j1 j2
        by_cases hb : bAt l k = bAt m k
        · have hq : (bN (bAt l k) != bN (bAt m k)) = false := by rw [hb]; simp
          have Hb := Lib.hid hb
          clear hb
          generalize hx : bN (bAt l k) = x at c1' hq
          generalize hy : bN (bAt m k) = y at c2' hq
          clear hx hy
          go_wp2
          refine wp_region_still_lit (by kernel_rfl) (by kernel_rfl) ?_
          repeat (refine wpStill_step (fun K hK => ?_); go_simp; (try go_bits); refine hK _ ?_; clear hK K)
          refine wpStill_nil ?_
          go_wp2
          go_roundw
          case rel => exact ⟨k + 1, by omega, by go_num, Lib.hid (fun i hi => by
            rcases Nat.lt_succ_iff_lt_or_eq.1 hi with h | rfl
            · exact Hs.out i h
            · exact Hb.out), Lib.hid (fun a => Hcell.out a), qB.drew⟩
          case measure => simp [intOf]; omega
        · have hq : (bN (bAt l k) != bN (bAt m k)) = true := by simpa using fun h => hb (bN_inj h)
          have Hb := Lib.hid hb
          clear hb
          generalize hx : bN (bAt l k) = x at c1' hq
          generalize hy : bN (bAt m k) = y at c2' hq
          clear hx hy
          go_wp2
          refine wp_region_still_lit (by kernel_rfl) (by kernel_rfl) ?_
          repeat (refine wpStill_step (fun K hK => ?_); go_simp; (try go_bits); refine hK _ ?_; clear hK K)
          refine wpStill_nil ?_
          go_wp2
          go_ret
          refine ⟨_, rfl, qB.drew, ?_⟩
          show Value.bool false = _
          congr 1
          exact (decide_eq_false fun h => Hb.out (by rw [h])).symm
      · obtain rfl : k = n1 := by omega
        go_wp2
        go_ret
        refine ⟨_, rfl, qB, ?_⟩
        show Value.bool true = _
        congr 1
        exact (decide_eq_true (eq_of_sameTo (E1.out.trans E2.out.symm) (by rw [E1.out]; exact Hs.out))).symm
  · have hq : ((n1 : Int) != (n2 : Int)) = true := by simp; omega
    have hq2 : (n1 != n2) = true := by simpa using hne
    go_enter Tryd.func13, Tryd.ntmps13
    go_wp2
    go_ret
    refine ⟨_, rfl, Below.refl _ _, ?_⟩
    show Value.bool false = _
    congr 1
    exact (decide_eq_false fun h => hne (by rw [← E1.out, ← E2.out, h])).symm
theorem Bytes_cv (v1 v2 : Value) (l m : List UInt8) (w : World) (h1 : RdV w [] v1 l) (h2 : RdV w [] v2 m) (hl : l.length ≤ 1000000) (hm : m.length ≤ 1000000) :
    Cv 13 #[v1, v2] w (.eq (.bool (decide (l = m)))) := by
  have g1 := h1
  have g2 := h2
  obtain ⟨A1, c1, rfl, _⟩ := g1
  obtain ⟨A2, c2, rfl, _⟩ := g2
  exact Bytes_any A1 A2 _ c1 _ c2 l m w h1 h2 hl hm
end Go.Proofs.YtlnedphnphabkaaDoor
/- The document's answer for layer 7: are two lists the same? -/
namespace Go.Proofs.YtlnedphnphabkaaDoor
open Go Go.RowKit
set_option maxRecDepth 8000
set_option linter.all false
set_option maxHeartbeats 1000000 in
theorem RSame7_cv (va vb : Value) (x y : List Tx) (w : World) (ha : Parts w va x) (hb : Parts w vb y) (hx : Fine x) (hy : Fine y) : Cv 20 #[va, vb] w (.eq (.bool (decide (x = y)))) := by
  unfold Cv
  have HA0 := Lib.hid ha
  have HB0 := Lib.hid hb
  have HFX := Lib.hid hx
  have HFY := Lib.hid hy
  obtain ⟨A1, c1, e1', q1⟩ := parts_form ha
  obtain ⟨A2, c2, e2', q2⟩ := parts_form hb
  have p1 := hx.len
  subst e1' e2'
  clear ha hb q1 q2 hx hy
  by_cases hne : x.length = y.length
  rotate_left
  · have hd : decide (x = y) = false := decide_eq_false fun h => hne (by rw [h])
    have ht : ((x.length : Int) != (y.length : Int)) = true := by simp; omega
    rw [hd]
    go_enter Tryd.func20, Tryd.ntmps20
    go_wp2
    go_ret
    exact ⟨_, rfl, NewT.refl _, rfl⟩
  rw [← hne] at HB0 ⊢
  have Hne := Lib.hid hne
  clear hne
  go_enter Tryd.func20, Tryd.ntmps20
  go_wp2
  go_loopw [5] (fun i wr => ∃ k : Nat, k ≤ x.length ∧ i = .int .i64 (k : Int) ∧ Hid (∀ i, i < k → x[i]? = y[i]?) ∧ NewT w wr) (fun i _ => x.length - (intOf i).toNat)
  case atStart => exact ⟨0, by omega, rfl, Lib.hid (fun i hi => by omega), NewT.refl _⟩
  case round =>
    obtain ⟨k, hk, rfl, Hs, hN⟩ := hrel
    have HN := Lib.hid hN
    have HA := Lib.hid (hN.partsL HA0.out)
    have HB := Lib.hid (hN.partsL HB0.out)
    clear hN
    by_cases hlt : k < x.length
    · have it : (k : Int) < (x.length : Int) := by omega
      obtain ⟨s, hx⟩ : ∃ d, x[k]? = some d := ⟨_, List.getElem?_eq_getElem (by omega)⟩
      obtain ⟨t, hy⟩ : ∃ d, y[k]? = some d := ⟨_, List.getElem?_eq_getElem (by have := Hne.out; omega)⟩
      have HX := Lib.hid hx
      have HY := Lib.hid hy
      have HSN := Lib.hid (HFX.out.each s (List.mem_of_getElem? hx))
      have HTN := Lib.hid (HFY.out.each t (List.mem_of_getElem? hy))
      obtain ⟨b, hq⟩ : ∃ b, decide (s = t) = b := ⟨_, rfl⟩
      have HQ := Lib.hid hq
      clear hx hy hq
      go_upto_region 6 with fail
      obtain ⟨va, ea⟩ : ∃ v, Value.slice A1 x.length c1 = v := ⟨_, rfl⟩
      obtain ⟨vb, eb⟩ : ∃ v, Value.slice A2 x.length c2 = v := ⟨_, rfl⟩
      rw [ea] at HA
      rw [eb] at HB
      rw [ea, eb]
      refine wp_region_rely (NewT) [SV.eq (va), SV.eq (.int .i64 ((k : Int))), svPT (s), svRd (s), SV.eq (vb), SV.eq (.int .i64 ((k : Int))), svPT (t), svRd (t), SV.eq (.bool (b))] [([(0, none)], none), ([(5, none)], none), ([(17, some 0), (18, some 1)], none), ([(19, some 2)], none), ([(1, none)], none), ([(5, none)], none), ([(21, some 4), (22, some 5)], none), ([(23, some 6)], none), ([(20, some 3), (24, some 7)], none)] 27 rfl (by kernel_rfl) rfl (by kernel_rfl) (by kernel_rfl) rfl NewT.trans (NewT.drew _) (Nat.le_of_ble_eq_true rfl) ⟨?_, ?_, ?_, ?_, ?_, ?_, ?_, ?_, ?_, trivial⟩ ?_
      · intro a wx hT hF K hK
        obtain ⟨f0, _⟩ := hF
        have f0 : a.tmps.getD 0 undef = va := f0
        refine rely_wp rfl ?_
        exact opr_move (.inl rfl) (hK _ _ (NewT.refl _) f0)
      · intro a wx hT hF K hK
        obtain ⟨f5, _⟩ := hF
        have f5 : a.tmps.getD 5 undef = .int .i64 ((k : Int)) := f5
        refine rely_wp rfl ?_
        exact opr_move (.inl rfl) (hK _ _ (NewT.refl _) f5)
      · intro a wx hT hF K hK
        obtain ⟨f17, f18, _⟩ := hF
        have f17 : a.tmps.getD 17 undef = va := f17
        have f18 : a.tmps.getD 18 undef = .int .i64 ((k : Int)) := f18
        refine rely_wp rfl ?_
        exact opr_idxT (i := k) (l := s) (HX.out) (rfl) rfl (by rw [eval_tmp, f17]; exact (hT.partsL HA.out)) f18 (fun v hv => hK v _ (NewT.refl _) hv)
      · intro a wx hT hF K hK
        obtain ⟨f19, _⟩ := hF
        replace f19 := show (svPT (s)).pred (a.tmps.getD 19 undef) wx from f19
        refine rely_wp rfl ?_
        exact opr_ldT rfl f19 (fun u hu => hK u _ (NewT.refl _) hu)
      · intro a wx hT hF K hK
        obtain ⟨f1, _⟩ := hF
        have f1 : a.tmps.getD 1 undef = vb := f1
        refine rely_wp rfl ?_
        exact opr_move (.inl rfl) (hK _ _ (NewT.refl _) f1)
      · intro a wx hT hF K hK
        obtain ⟨f5, _⟩ := hF
        have f5 : a.tmps.getD 5 undef = .int .i64 ((k : Int)) := f5
        refine rely_wp rfl ?_
        exact opr_move (.inl rfl) (hK _ _ (NewT.refl _) f5)
      · intro a wx hT hF K hK
        obtain ⟨f21, f22, _⟩ := hF
        have f21 : a.tmps.getD 21 undef = vb := f21
        have f22 : a.tmps.getD 22 undef = .int .i64 ((k : Int)) := f22
        refine rely_wp rfl ?_
        exact opr_idxT (i := k) (l := t) (HY.out) (rfl) rfl (by rw [eval_tmp, f21]; exact (hT.partsL HB.out)) f22 (fun v hv => hK v _ (NewT.refl _) hv)
      · intro a wx hT hF K hK
        obtain ⟨f23, _⟩ := hF
        replace f23 := show (svPT (t)).pred (a.tmps.getD 23 undef) wx from f23
        refine rely_wp rfl ?_
        exact opr_ldT rfl f23 (fun u hu => hK u _ (NewT.refl _) hu)
      · intro a wx hT hF K hK
        obtain ⟨f20, f24, _⟩ := hF
        replace f20 := show (svRd (s)).pred (a.tmps.getD 20 undef) wx from f20
        replace f24 := show (svRd (t)).pred (a.tmps.getD 24 undef) wx from f24
        refine rely_wp rfl ?_
        exact opr_cv (by rw [← HQ.out]; exact Bytes_cv _ _ s t wx f20 f24 (by have := HSN.out; omega) (by have := HTN.out; omega)) rfl Tryd.func13 (by kernel_rfl) (by kernel_rfl) (by simp only [List.map_toArray, List.map_cons, List.map_nil, eval_tmp]) hK
      · intro wc kc
        intro u h; obtain rfl := Eq.symm (h (by simp)); clear h
        intro u h; obtain rfl := Eq.symm (h (by simp)); clear h
        intro _ _
        intro _ _
        intro u h; obtain rfl := Eq.symm (h (by simp)); clear h
        intro u h; obtain rfl := Eq.symm (h (by simp)); clear h
        intro _ _
        intro _ _
        intro u h; obtain rfl := Eq.symm (h (by simp)); clear h
        refine relyEnd_nil rfl ?_
        simp only [Act.put, List.setIfInBounds_toArray, List.set_cons_zero, List.set_cons_succ]
        refine opr_not rfl rfl ?_
        go_simp
        replace HN := Lib.hid (NewT.trans _ _ _ HN.out kc)
        clear kc HA HB
        cases b
        · go_wp2
          go_ret
          exact ⟨_, rfl, HN.out, by rw [decide_eq_false (fun e : x = y => of_decide_eq_false HQ.out (by have h1 := HX.out; rw [e, HY.out] at h1; exact (Option.some.inj h1).symm))]; rfl⟩
        · subst ea eb
          go_wp2
          go_roundw
          case rel => exact ⟨k + 1, by omega, by go_num, Lib.hid (fun i hi => by
            rcases Nat.lt_succ_iff_lt_or_eq.1 hi with h1 | rfl
            · exact Hs.out i h1
            · rw [HX.out, HY.out, of_decide_eq_true HQ.out]), HN.out⟩
          case measure => simp [intOf]; omega
    · obtain rfl : k = x.length := by omega
      go_wp2
      go_ret
      exact ⟨_, rfl, HN.out, by rw [decide_eq_true (list_ext rfl Hne.out.symm Hs.out)]; rfl⟩
theorem extM_len {sm : Tx → Tx} (h32 : ∀ t, (sm t).length = 32) (n : Nat) : ∀ (x y : List Tx) (s t : Tx), x.length ≤ n → Fine x → Fine y → extM sm x y = some (s, t) → s.length ≤ 10001 ∧ t.length ≤ 10001 := by
  induction n with
  | zero =>
    intro x y s t hn fx fy he
    obtain rfl : x = [] := List.eq_nil_of_length_eq_zero (by omega)
    rw [extM] at he
    by_cases h1 : ([] : List Tx).length ≠ y.length ∨ [] = y ∨ rootS sm [] ≠ rootS sm y
    · rw [if_pos h1] at he; cases he
    · simp only [not_or, ne_eq, Decidable.not_not] at h1
      exact absurd (List.eq_nil_of_length_eq_zero h1.1.symm).symm h1.2.1
  | succ n ih =>
    intro x y s t hn fx fy he
    rw [extM] at he
    by_cases h1 : x.length ≠ y.length ∨ x = y ∨ rootS sm x ≠ rootS sm y
    · rw [if_pos h1] at he; cases he
    rw [if_neg h1] at he
    by_cases h2 : x.length < 2
    · rw [dif_pos h2] at he
      simp only [Option.some.injEq, Prod.mk.injEq] at he
      obtain ⟨rfl, rfl⟩ := he
      have key : ∀ l : List Tx, Fine l → (0 :: l.headD [] : Tx).length ≤ 10001 := fun l hl => by
        cases l with
        | nil => simp
        | cons q l => have := hl.each q (by simp); simp; omega
      exact ⟨key x fx, key y fy⟩
    rw [dif_neg h2] at he
    have hs := splitN_lt x.length (by omega)
    by_cases h3 : rootS sm (x.take (splitN x.length)) ≠ rootS sm (y.take (splitN x.length)) ∨ rootS sm (x.drop (splitN x.length)) ≠ rootS sm (y.drop (splitN x.length))
    · rw [if_pos h3] at he
      simp only [Option.some.injEq, Prod.mk.injEq] at he
      obtain ⟨rfl, rfl⟩ := he
      constructor <;> simp [rootS_len h32]
    rw [if_neg h3] at he
    by_cases h4 : x.take (splitN x.length) ≠ y.take (splitN x.length)
    · rw [if_pos h4] at he
      exact ih _ _ _ _ (by rw [List.length_take]; omega) (fx.take _) (fy.take _) he
    · rw [if_neg h4] at he
      exact ih _ _ _ _ (by rw [List.length_drop]; omega) (fx.drop _) (fy.drop _) he
end Go.Proofs.YtlnedphnphabkaaDoor
