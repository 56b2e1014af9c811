/- The text that a way's root is the digest of, and where two ways are gone down to. -/
import Derived.Test.YtlnedphnphabkaaDoorMe
import Derived.Test.YtlnedphnphabkaaDoorMc
import Derived.Test.YtlnedphnphabkaaDoorMa
import Derived.Laws.BytesArg
import Derived.Deep.AppendLies
import Derived.Test.YtlnedphnphabkaaDoorMb
set_option linter.all false
namespace Go.Proofs.YtlnedphnphabkaaDoor
open Go Go.RowKit
set_option maxRecDepth 8000
set_option linter.all false
def WyP (W : World) (F : Nat → Value) (l : List UInt8) (d : Hs) (i n : Int) (path : List Hs) : Prop := ∃ u p, F = wyF u d i n p ∧ RdV W [] u l ∧ RdH W p path
set_option maxHeartbeats 1000000 in
theorem WText_1 (W w : World) (hNW : NewT W w) (u p fv : Value) (l : List UInt8) (d : Hs) (i : Int) (path : List Hs) (hu : RdV W [] u l) (hp : RdH W p path) (hb : l.length ≤ 10000) : Cv 56 #[.agg (rowA 36 (wyF u d i 1 p)), fv] w (svRd (0 :: l)) := by
  unfold Cv
  have HU := Lib.hid hu
  have HP := Lib.hid hp
  have HB := Lib.hid hb
  clear hu hp hb
  go_enter Tryd.func56, Tryd.ntmps56
  go_upto_region 1 with fail
  have r2 := rowIs_box w 54 36 (wyF u d i 1 p)
  have hN : NewT w (w.alloc (.cells (rowA 36 (wyF u d i 1 p)) 54)) := (NewT.alloc _ _)
  change Code.wp _ _ _ _ (w.alloc (.cells (rowA 36 (wyF u d i 1 p)) 54))
  generalize (w.alloc (.cells (rowA 36 (wyF u d i 1 p)) 54)) = W0 at r2 hN ⊢
  have R2 := Lib.hid r2
  have HN0 := Lib.hid hN
  have HN := Lib.hid (NewT.trans _ _ _ hNW hN)
  clear r2 hN hNW
  refine wp_region_steps0 NewT [SV.eq (.pointer (some ⟨w.heap.size, 34, none⟩)), SV.eq (.int .i64 (1)), SV.eq (.bool true)] [([(2, none)], none), ([(9, some 0)], none), ([(10, some 1)], none)] 50 3 rfl rfl (by kernel_rfl) NewT.trans (NewT.refl _) (Nat.le_of_ble_eq_true rfl) ⟨?_, ?_, ?_, trivial⟩ ?_
  · intro a wx hT hF K hK
    obtain ⟨f2, _⟩ := hF
    have f2 : a.tmps.getD 2 undef = .pointer (some ⟨w.heap.size, 0, none⟩) := f2
    refine rely_wp rfl ?_
    exact opr_fldW3 rfl f2 (hK _ _ (NewT.refl _) rfl)
  · intro a wx hT hF K hK
    obtain ⟨f9, _⟩ := hF
    have f9 : a.tmps.getD 9 undef = .pointer (some ⟨w.heap.size, 34, none⟩) := f9
    refine rely_wp rfl ?_
    exact opr_ldI (hT.row R2.out) (by decide) rfl rfl f9 (hK _ _ (NewT.refl _) rfl)
  · intro a wx hT hF K hK
    obtain ⟨f10, _⟩ := hF
    have f10 : a.tmps.getD 10 undef = .int .i64 (1) := f10
    refine rely_wp rfl ?_
    exact opr_cmp (b := true) (.inl ⟨rfl, (by rfl)⟩) Tryd.underlying3 rfl f10 rfl (hK _ _ (NewT.refl _) rfl)
  · intro wa ka
    intro u h; obtain rfl := Eq.symm (h (by simp)); clear h
    intro u h; obtain rfl := Eq.symm (h (by simp)); clear h
    intro u h; obtain rfl := Eq.symm (h (by simp)); clear h
    refine relyEnd_nil rfl ?_
    refine wpList_end rfl ?_
    simp only [Act.put, List.setIfInBounds_toArray, List.set_cons_zero, List.set_cons_succ]
    go_simp
    replace R2 := Lib.hid (ka.row R2.out)
    replace HN := Lib.hid (NewT.trans _ _ _ HN.out ka)
    replace HN0 := Lib.hid (NewT.trans _ _ _ HN0.out ka)
    clear ka
    go_upto_region 2 with fail
    refine wp_region_steps0 NewT [SV.eq (.pointer (some ⟨w.heap.size, 0, none⟩)), SV.eq (u), svRd (0 :: l), svRd (0 :: l)] [([(2, none)], none), ([(12, some 0)], none), ([(13, some 1)], none), ([(14, some 2)], none)] 50 4 rfl rfl (by kernel_rfl) NewT.trans (NewT.refl _) (Nat.le_of_ble_eq_true rfl) ⟨?_, ?_, ?_, ?_, trivial⟩ ?_
    · intro a wx hT hF K hK
      obtain ⟨f2, _⟩ := hF
      have f2 : a.tmps.getD 2 undef = .pointer (some ⟨w.heap.size, 0, none⟩) := f2
      refine rely_wp rfl ?_
      exact opr_fldW0 rfl f2 (hK _ _ (NewT.refl _) rfl)
    · intro a wx hT hF K hK
      obtain ⟨f12, _⟩ := hF
      have f12 : a.tmps.getD 12 undef = .pointer (some ⟨w.heap.size, 0, none⟩) := f12
      refine rely_wp rfl ?_
      exact opr_ldB (hT.row R2.out) (by decide) rfl rfl f12 (hK _ _ (NewT.refl _) rfl)
    · intro a wx hT hF K hK
      obtain ⟨f13, _⟩ := hF
      have f13 : a.tmps.getD 13 undef = u := f13
      refine rely_wp rfl ?_
      exact opr_cv (LeafText_cv _ l wx ((NewT.trans _ _ _ HN.out hT).rd HU.out) (HB.out)) rfl Tryd.func65 (by kernel_rfl) (by kernel_rfl) (by simp only [List.map_toArray, List.map_cons, List.map_nil, eval_tmp, f13]) hK
    · intro a wx hT hF K hK
      obtain ⟨f14, _⟩ := hF
      replace f14 := show (svRd (0 :: l)).pred (a.tmps.getD 14 undef) wx from f14
      refine rely_wp rfl ?_
      exact opr_move (.inr rfl) (hK _ _ (NewT.refl _) f14)
    · intro wb kb
      intro u h; obtain rfl := Eq.symm (h (by simp)); clear h
      intro u h; obtain rfl := Eq.symm (h (by simp)); clear h
      intro _ _
      intro u4 h; have g4 := h (by simp); clear h; replace g4 := show (svRd (0 :: l)).pred u4 wb from g4
      refine relyEnd_nil rfl ?_
      refine wpList_end rfl ?_
      simp only [Act.put, List.setIfInBounds_toArray, List.set_cons_zero, List.set_cons_succ]
      go_simp
      go_wp2
      go_ret
      exact ⟨_, rfl, NewT.trans _ _ _ HN0.out kb, g4⟩
set_option maxHeartbeats 2000000 in
theorem WText_l {node : Hs → Hs → Hs} {z : Hs} (hX : TreeH node z) (W w : World) (hNW : NewT W w) (hT : Tables W) (u p : Value) (l : List UInt8) (d sd rt : Hs) (i n m k : Nat) (path : List Hs) (hu : RdV W [] u l) (hp : RdH W p path) (h2 : 2 ≤ n) (hn : n ≤ 1048576) (hi : i < n) (hm : path.length = m + 1) (hml : m ≤ 1000) (hk : k = splitN n) (hik : i < k) (hsd : path[m]? = some sd) (hrt : comesM node (fun _ => 0) (d) ((i : Int)) ((k : Int)) ((List.take m path)) = rt) : Cv 56 #[.agg (rowA 36 (wyF u d (i : Int) (n : Int) p)), .func (.func 23) #[] #[]] w (svRd (1 :: (digL rt ++ digL sd))) := by
  unfold Cv
  have HS : Hid (∀ w, Cv 43 #[.int .i64 (n : Int)] w (.eq (.int .i64 (k : Int)))) := Lib.hid (fun w => by rw [hk]; exact Split_cv (n : Int) (by omega) (by omega) w)
  have HL1 : Hid (((n : Int) == 1) = false) := Lib.hid (beq_eq_false_iff_ne.2 (by omega))
  have HLP := Lib.hid hm
  have HML := Lib.hid hml
  have HNN := Lib.hid hn
  have H2 := Lib.hid h2
  have HI := Lib.hid hi
  have HK := Lib.hid hk
  have HIK := Lib.hid hik
  have HSD := Lib.hid hsd
  have HRT := Lib.hid hrt
  have HU := Lib.hid hu
  have HP := Lib.hid hp
  have HT := Lib.hid hT
  have HT3 : Hid (decide ((i : Int) < (k : Int)) = true) := Lib.hid (decide_eq_true (by omega))
  clear hu hp hm hk h2 hT hn hi hml hik hsd hrt
  go_enter Tryd.func56, Tryd.ntmps56
  go_upto_region 1 with fail
  have r2 := rowIs_box w 54 36 (wyF u d (i : Int) (n : Int) p)
  have hN : NewT w (w.alloc (.cells (rowA 36 (wyF u d (i : Int) (n : Int) p)) 54)) := (NewT.alloc _ _)
  change Code.wp _ _ _ _ (w.alloc (.cells (rowA 36 (wyF u d (i : Int) (n : Int) p)) 54))
  generalize (w.alloc (.cells (rowA 36 (wyF u d (i : Int) (n : Int) p)) 54)) = W0 at r2 hN ⊢
  have R2 := Lib.hid r2
  have HN0 := Lib.hid hN
  have HN := Lib.hid (NewT.trans _ _ _ hNW hN)
  clear r2 hN hNW
  refine wp_region_steps0 NewT [SV.eq (.pointer (some ⟨w.heap.size, 34, none⟩)), SV.eq (.int .i64 ((n : Int))), SV.eq (.bool false)] [([(2, none)], none), ([(9, some 0)], none), ([(10, some 1)], none)] 50 3 rfl rfl (by kernel_rfl) NewT.trans (NewT.refl _) (Nat.le_of_ble_eq_true rfl) ⟨?_, ?_, ?_, trivial⟩ ?_
  · intro a wx hT hF K hK
    obtain ⟨f2, _⟩ := hF
    have f2 : a.tmps.getD 2 undef = .pointer (some ⟨w.heap.size, 0, none⟩) := f2
    refine rely_wp rfl ?_
    exact opr_fldW3 rfl f2 (hK _ _ (NewT.refl _) rfl)
  · intro a wx hT hF K hK
    obtain ⟨f9, _⟩ := hF
    have f9 : a.tmps.getD 9 undef = .pointer (some ⟨w.heap.size, 34, none⟩) := f9
    refine rely_wp rfl ?_
    exact opr_ldI (hT.row R2.out) (by decide) rfl rfl f9 (hK _ _ (NewT.refl _) rfl)
  · intro a wx hT hF K hK
    obtain ⟨f10, _⟩ := hF
    have f10 : a.tmps.getD 10 undef = .int .i64 ((n : Int)) := f10
    refine rely_wp rfl ?_
    exact opr_cmp (b := false) (.inl ⟨rfl, (by exact HL1.out)⟩) Tryd.underlying3 rfl f10 rfl (hK _ _ (NewT.refl _) rfl)
  · intro wa ka
    intro u h; obtain rfl := Eq.symm (h (by simp)); clear h
    intro u h; obtain rfl := Eq.symm (h (by simp)); clear h
    intro u h; obtain rfl := Eq.symm (h (by simp)); clear h
    refine relyEnd_nil rfl ?_
    refine wpList_end rfl ?_
    simp only [Act.put, List.setIfInBounds_toArray, List.set_cons_zero, List.set_cons_succ]
    go_simp
    replace R2 := Lib.hid (ka.row R2.out)
    replace HN := Lib.hid (NewT.trans _ _ _ HN.out ka)
    replace HN0 := Lib.hid (NewT.trans _ _ _ HN0.out ka)
    clear ka
    go_upto_region 3 with fail
    refine wp_region_relyA0 (TB wa.heap.size) (fun j a w1 => JWy 5 6 wa.heap.size (fun f => j = 2 → (fun f => ∃ u1 p1, f = wyF u1 d (i : Int) (k : Int) p1 ∧ RdV W [] u1 l ∧ RdH W p1 (List.take m path)) f) a w1) [SV.eq (.agg (rowA 36 (wyF u d (i : Int) (n : Int) p))), svWy W l d (i : Int) (k : Int) (List.take m path), SV.eq (.pointer (some ⟨w.heap.size, 35, none⟩)), SV.eq (p), SV.eq (.pointer (some ⟨w.heap.size, 35, none⟩)), SV.eq (p), SV.eq (.int .i64 ((List.length (path) : Int))), SV.eq (.int .i64 ((m : Int))), svPW W sd, SV.eq (.agg (rowA 32 (bF (sd)))), svPt, svPt, SV.any] [([(2, none)], none), ([(15, some 0)], none), ([(2, none)], none), ([(17, some 2)], none), ([(2, none)], none), ([(19, some 4)], none), ([(20, some 5)], none), ([(21, some 6)], none), ([(18, some 3), (22, some 7)], none), ([(23, some 8)], none), ([], none), ([], none), ([(5, some 10), (16, some 1)], none)] [none, none, none, none, none, none, none, none, none, none, some 0, none, some 1] [10, 12] 50 rfl (by kernel_rfl) rfl (by kernel_rfl) (by kernel_rfl) rfl (by kernel_rfl) TB.trans (TB.drew _ _) ⟨⟨fun p hp g h => (by simp at hp; rcases hp with rfl | rfl <;> cases h), fun p hp q hq hpq g g2 h => (by simp at hp; rcases hp with rfl | rfl <;> cases h)⟩, fun g h => (by cases h), fun g h => (by cases h)⟩ (Nat.le_of_ble_eq_true rfl) ⟨?_, ?_, ?_, ?_, ?_, ?_, ?_, ?_, ?_, ?_, ?_, ?_, ?_, trivial⟩ ?_
    · intro a wx hT hF K hK
      replace hK := fun v w' (hN : NewT wx w') hv => hK v w' (TB.of_new (hT.size) hN) (fun k h => JWy.keep h (by simp) (by simp) hN) hv
      obtain ⟨f2, _⟩ := hF
      have f2 : a.tmps.getD 2 undef = .pointer (some ⟨w.heap.size, 0, none⟩) := f2
      refine rely_wp rfl ?_
      exact opr_ldWy ((hT.out (Nat.le_refl _)).row R2.out) rfl f2 (hK _ _ (NewT.refl _) rfl)
    · intro a wx hT hF K hK
      replace hK := fun v w' (hN : NewT wx w') hv => hK v w' (TB.of_new (hT.size) hN) (fun k h => JWy.keep h (by simp) (by simp) hN) hv
      obtain ⟨f15, _⟩ := hF
      have f15 : a.tmps.getD 15 undef = .agg (rowA 36 (wyF u d (i : Int) (n : Int) p)) := f15
      refine rely_wp rfl ?_
      exact opr_cv (Below_l W wx (NewT.trans _ _ _ HN.out (hT.out (Nat.le_refl _))) u p l d i n m k path HU.out HP.out H2.out HNN.out HI.out HLP.out HML.out HK.out HIK.out) rfl Tryd.func59 (by kernel_rfl) (by kernel_rfl) (by simp only [List.map_toArray, List.map_cons, List.map_nil, eval_tmp, f15]) hK
    · intro a wx hT hF K hK
      replace hK := fun v w' (hN : NewT wx w') hv => hK v w' (TB.of_new (hT.size) hN) (fun k h => JWy.keep h (by simp) (by simp) hN) hv
      obtain ⟨f2, _⟩ := hF
      have f2 : a.tmps.getD 2 undef = .pointer (some ⟨w.heap.size, 0, none⟩) := f2
      refine rely_wp rfl ?_
      exact opr_fldW4 rfl f2 (hK _ _ (NewT.refl _) rfl)
    · intro a wx hT hF K hK
      replace hK := fun v w' (hN : NewT wx w') hv => hK v w' (TB.of_new (hT.size) hN) (fun k h => JWy.keep h (by simp) (by simp) hN) hv
      obtain ⟨f17, _⟩ := hF
      have f17 : a.tmps.getD 17 undef = .pointer (some ⟨w.heap.size, 35, none⟩) := f17
      refine rely_wp rfl ?_
      exact opr_ldHs ((hT.out (Nat.le_refl _)).row R2.out) (by decide) rfl rfl f17 (hK _ _ (NewT.refl _) rfl)
    · intro a wx hT hF K hK
      replace hK := fun v w' (hN : NewT wx w') hv => hK v w' (TB.of_new (hT.size) hN) (fun k h => JWy.keep h (by simp) (by simp) hN) hv
      obtain ⟨f2, _⟩ := hF
      have f2 : a.tmps.getD 2 undef = .pointer (some ⟨w.heap.size, 0, none⟩) := f2
      refine rely_wp rfl ?_
      exact opr_fldW4 rfl f2 (hK _ _ (NewT.refl _) rfl)
    · intro a wx hT hF K hK
      replace hK := fun v w' (hN : NewT wx w') hv => hK v w' (TB.of_new (hT.size) hN) (fun k h => JWy.keep h (by simp) (by simp) hN) hv
      obtain ⟨f19, _⟩ := hF
      have f19 : a.tmps.getD 19 undef = .pointer (some ⟨w.heap.size, 35, none⟩) := f19
      refine rely_wp rfl ?_
      exact opr_ldHs ((hT.out (Nat.le_refl _)).row R2.out) (by decide) rfl rfl f19 (hK _ _ (NewT.refl _) rfl)
    · intro a wx hT hF K hK
      replace hK := fun v w' (hN : NewT wx w') hv => hK v w' (TB.of_new (hT.size) hN) (fun k h => JWy.keep h (by simp) (by simp) hN) hv
      obtain ⟨f20, _⟩ := hF
      have f20 : a.tmps.getD 20 undef = p := f20
      refine rely_wp rfl ?_
      exact opr_len_h rfl (by rw [eval_tmp, f20]; exact ((NewT.trans _ _ _ HN.out (hT.out (Nat.le_refl _))).hs HP.out)) (hK _ _ (NewT.refl _) rfl)
    · intro a wx hT hF K hK
      replace hK := fun v w' (hN : NewT wx w') hv => hK v w' (TB.of_new (hT.size) hN) (fun k h => JWy.keep h (by simp) (by simp) hN) hv
      obtain ⟨f21, _⟩ := hF
      have f21 : a.tmps.getD 21 undef = .int .i64 ((List.length (path) : Int)) := f21
      refine rely_wp rfl ?_
      exact opr_sub (r := (m : Int)) Tryd.underlying3 (by rw [HLP.out]; have := HML.out; unfold wrap64; omega) rfl f21 rfl (hK _ _ (NewT.refl _) rfl)
    · intro a wx hT hF K hK
      replace hK := fun v w' (hN : NewT wx w') hv => hK v w' (TB.of_new (hT.size) hN) (fun k h => JWy.keep h (by simp) (by simp) hN) hv
      obtain ⟨f18, f22, _⟩ := hF
      have f18 : a.tmps.getD 18 undef = p := f18
      have f22 : a.tmps.getD 22 undef = .int .i64 ((m : Int)) := f22
      refine rely_wp rfl ?_
      exact opr_idxW HSD.out rfl (by rw [eval_tmp, f18]; exact HP.out) f22 (fun v hv => hK v _ (NewT.refl _) hv)
    · intro a wx hT hF K hK
      replace hK := fun v w' (hN : NewT wx w') hv => hK v w' (TB.of_new (hT.size) hN) (fun k h => JWy.keep h (by simp) (by simp) hN) hv
      obtain ⟨f23, _⟩ := hF
      replace f23 := show (svPW W sd).pred (a.tmps.getD 23 undef) wx from f23
      refine rely_wp rfl ?_
      exact opr_ldPW (NewT.trans _ _ _ HN.out (hT.out (Nat.le_refl _))) rfl f23 (hK _ _ (NewT.refl _) rfl)
    · intro a wx hT hF hJ K hK
      refine rely_wp rfl ?_
      refine opr_alloc_atW rfl ?_
      exact hK _ _ (TB.of_new (hT.size) (NewT.alloc _ _)) (JWy.make hJ (by decide) hT.size (fun h => by cases h)) ⟨_, rfl⟩
    · intro a wx hT hF K hK
      refine rely_wp rfl ?_
      refine opr_alloc_at rfl ?_
      exact hK _ _ (TB.of_new (hT.size) (NewT.alloc _ _)) (fun k hJ => JWy.make2 hJ (by decide) hT.size) ⟨_, rfl⟩
    · intro a wx hT hF hJ K hK
      obtain ⟨f5, f16, _⟩ := hF
      replace f5 := show (svPt).pred (a.tmps.getD 5 undef) wx from f5
      replace f16 := show (svWy W l d (i : Int) (k : Int) (List.take m path)).pred (a.tmps.getD 16 undef) wx from f16
      refine rely_wp rfl ?_
      obtain ⟨g5, e5⟩ := f5
      obtain ⟨u1, p1, e16, hu1, hp1⟩ := f16
      obtain ⟨hg5, f0, hr5, _⟩ := hJ.2.1 g5 e5
      refine opr_putm (F := wyF u1 d (i : Int) (k : Int) p1) rfl e5 e16 hr5 (by decide) infoW (wyF_one (sl_one (rd_sl hu1)) (sl_one (rdH_sl hp1))) (fun j hj => by rw [if_pos (by omega), Nat.sub_zero]) ?_
      intro w7 hR7 r7
      exact hK undef w7 (TB.of_rt hR7 hg5 hr5 r7) (JWy.put hJ (by decide) e5 hR7 r7 (fun _ => ⟨u1, p1, rfl, hu1, hp1⟩)) trivial
    · intro wb kb
      intro u h; obtain rfl := Eq.symm (h (by simp)); clear h
      intro _ _
      intro u h; obtain rfl := Eq.symm (h (by simp)); clear h
      intro u h; obtain rfl := Eq.symm (h (by simp)); clear h
      intro u h; obtain rfl := Eq.symm (h (by simp)); clear h
      intro u h; obtain rfl := Eq.symm (h (by simp)); clear h
      intro u h; obtain rfl := Eq.symm (h (by simp)); clear h
      intro u h; obtain rfl := Eq.symm (h (by simp)); clear h
      intro _ _
      intro u h; obtain rfl := Eq.symm (h (by simp)); clear h
      intro u h; obtain ⟨p5, hv⟩ := (h (by simp)); clear h; subst hv
      intro u h; obtain ⟨p6, hv⟩ := (h (by simp)); clear h; subst hv
      intro _ _
      refine relyEnd_nil rfl ?_
      intro hJ
      simp only [Act.put, List.setIfInBounds_toArray, List.set_cons_zero, List.set_cons_succ]
      obtain ⟨hg5, f5, r5, hX5⟩ := hJ.2.1 p5 (by kernel_rfl)
      obtain ⟨u1, p1, rfl, hu1, hp1⟩ := hX5 rfl
      obtain ⟨hg6, f6, r6⟩ := hJ.2.2 p6 (by kernel_rfl)
      have hne := hJ.1.2 5 (by simp) 6 (by simp) (by decide) p5 p6 (by kernel_rfl) (by kernel_rfl)
      refine opr_putm (F := bF sd) rfl rfl rfl r6 (by decide) info31 (fun _ => rfl) (fun j hj => by rw [if_pos (by omega), Nat.sub_zero]) ?_
      intro w8 hR8 s6
      go_simp
      have k8 : NewT wa w8 := NewT.rt (kb.out (Nat.le_refl _)) hR8 hg6
      replace R2 := Lib.hid (k8.row R2.out)
      have R5 := Lib.hid (hR8.row hne r5)
      have R6 := Lib.hid s6
      have HU1 := Lib.hid hu1
      have HP1 := Lib.hid hp1
      replace HN := Lib.hid (NewT.trans _ _ _ HN.out k8)
      replace HN0 := Lib.hid (NewT.trans _ _ _ HN0.out k8)
      clear k8 hR8 r5 r6 s6 hg5 hg6 hX5 hne hu1 hp1 kb hJ
      go_upto_region 4 with fail
      refine wp_region_steps0 NewT [SV.eq ((.func (.func 23) #[] #[])), SV.eq (.pointer (some ⟨p5, 1, none⟩)), SV.eq (.agg (rowA 32 (bF (d)))), SV.eq (.pointer (some ⟨p5, 33, none⟩)), SV.eq (.int .i64 ((i : Int))), SV.eq (.pointer (some ⟨p5, 34, none⟩)), SV.eq (.int .i64 ((k : Int))), SV.eq (.pointer (some ⟨p5, 35, none⟩)), SV.eq (p1), SV.eq ((.tuple #[.agg (rowA 32 (bF (comesM node (fun _ => 0) (d) ((i : Int)) ((k : Int)) ((List.take m path))))), .bool (okP ((i : Int)) ((k : Int)) (List.length ((List.take m path))))])), SV.eq ((.tuple #[.agg (rowA 32 (bF (comesM node (fun _ => 0) (d) ((i : Int)) ((k : Int)) ((List.take m path))))), .bool (okP ((i : Int)) ((k : Int)) (List.length ((List.take m path))))])), SV.eq (.agg (rowA 32 (bF (comesM node (fun _ => 0) (d) ((i : Int)) ((k : Int)) ((List.take m path)))))), SV.eq (.bool (okP ((i : Int)) ((k : Int)) (List.length ((List.take m path)))))] [([(1, none)], none), ([(5, none)], none), ([(27, some 1)], none), ([(5, none)], none), ([(29, some 3)], none), ([(5, none)], none), ([(31, some 5)], none), ([(5, none)], none), ([(33, some 7)], none), ([(26, some 0), (28, some 2), (30, some 4), (32, some 6), (34, some 8)], none), ([(35, some 9)], none), ([(25, some 10)], none), ([(25, some 10)], none)] 50 13 rfl rfl (by kernel_rfl) NewT.trans (NewT.refl _) (Nat.le_of_ble_eq_true rfl) ⟨?_, ?_, ?_, ?_, ?_, ?_, ?_, ?_, ?_, ?_, ?_, ?_, ?_, trivial⟩ ?_
      · intro a wx hT hF K hK
        obtain ⟨f1, _⟩ := hF
        have f1 : a.tmps.getD 1 undef = (.func (.func 23) #[] #[]) := f1
        refine rely_wp rfl ?_
        exact opr_move (.inl rfl) (hK _ _ (NewT.refl _) f1)
      · intro a wx hT hF K hK
        obtain ⟨f5, _⟩ := hF
        have f5 : a.tmps.getD 5 undef = .pointer (some ⟨p5, 0, none⟩) := f5
        refine rely_wp rfl ?_
        exact opr_fldW1 rfl f5 (hK _ _ (NewT.refl _) rfl)
      · intro a wx hT hF K hK
        obtain ⟨f27, _⟩ := hF
        have f27 : a.tmps.getD 27 undef = .pointer (some ⟨p5, 1, none⟩) := f27
        refine rely_wp rfl ?_
        exact opr_ldH (hT.row R5.out) (by decide) (wyF_h _ _ _ _ _) rfl f27 (hK _ _ (NewT.refl _) rfl)
      · intro a wx hT hF K hK
        obtain ⟨f5, _⟩ := hF
        have f5 : a.tmps.getD 5 undef = .pointer (some ⟨p5, 0, none⟩) := f5
        refine rely_wp rfl ?_
        exact opr_fldW2 rfl f5 (hK _ _ (NewT.refl _) rfl)
      · intro a wx hT hF K hK
        obtain ⟨f29, _⟩ := hF
        have f29 : a.tmps.getD 29 undef = .pointer (some ⟨p5, 33, none⟩) := f29
        refine rely_wp rfl ?_
        exact opr_ldI (hT.row R5.out) (by decide) rfl rfl f29 (hK _ _ (NewT.refl _) rfl)
      · intro a wx hT hF K hK
        obtain ⟨f5, _⟩ := hF
        have f5 : a.tmps.getD 5 undef = .pointer (some ⟨p5, 0, none⟩) := f5
        refine rely_wp rfl ?_
        exact opr_fldW3 rfl f5 (hK _ _ (NewT.refl _) rfl)
      · intro a wx hT hF K hK
        obtain ⟨f31, _⟩ := hF
        have f31 : a.tmps.getD 31 undef = .pointer (some ⟨p5, 34, none⟩) := f31
        refine rely_wp rfl ?_
        exact opr_ldI (hT.row R5.out) (by decide) rfl rfl f31 (hK _ _ (NewT.refl _) rfl)
      · intro a wx hT hF K hK
        obtain ⟨f5, _⟩ := hF
        have f5 : a.tmps.getD 5 undef = .pointer (some ⟨p5, 0, none⟩) := f5
        refine rely_wp rfl ?_
        exact opr_fldW4 rfl f5 (hK _ _ (NewT.refl _) rfl)
      · intro a wx hT hF K hK
        obtain ⟨f33, _⟩ := hF
        have f33 : a.tmps.getD 33 undef = .pointer (some ⟨p5, 35, none⟩) := f33
        refine rely_wp rfl ?_
        exact opr_ldHs (hT.row R5.out) (by decide) rfl rfl f33 (hK _ _ (NewT.refl _) rfl)
      · intro a wx hT hF K hK
        obtain ⟨f26, f28, f30, f32, f34, _⟩ := hF
        have f26 : a.tmps.getD 26 undef = (.func (.func 23) #[] #[]) := f26
        have f28 : a.tmps.getD 28 undef = .agg (rowA 32 (bF (d))) := f28
        have f30 : a.tmps.getD 30 undef = .int .i64 ((i : Int)) := f30
        have f32 : a.tmps.getD 32 undef = .int .i64 ((k : Int)) := f32
        have f34 : a.tmps.getD 34 undef = p1 := f34
        refine rely_wp rfl ?_
        exact opr_cvv (cap := #[]) (Comes_cv hX (d) ((i : Int)) ((k : Int)) _ ((List.take m path)) wx ((NewT.trans _ _ _ HN.out hT).tables HT.out) (((NewT.trans _ _ _ HN.out hT).hs HP1.out)) (by rw [List.length_take]; have := HML.out; omega)) rfl f26 Tryd.func23 (by kernel_rfl) (by kernel_rfl) (by simp only [List.map_toArray, List.map_cons, List.map_nil, List.append_toArray, List.cons_append, List.nil_append, List.append_nil, eval_tmp, eval_const, f28, f30, f32, f34]) hK
      · intro a wx hT hF K hK
        obtain ⟨f35, _⟩ := hF
        have f35 : a.tmps.getD 35 undef = (.tuple #[.agg (rowA 32 (bF (comesM node (fun _ => 0) (d) ((i : Int)) ((k : Int)) ((List.take m path))))), .bool (okP ((i : Int)) ((k : Int)) (List.length ((List.take m path))))]) := f35
        refine rely_wp rfl ?_
        exact opr_move (.inl rfl) (hK _ _ (NewT.refl _) f35)
      · intro a wx hT hF K hK
        obtain ⟨f25, _⟩ := hF
        have f25 : a.tmps.getD 25 undef = (.tuple #[.agg (rowA 32 (bF (comesM node (fun _ => 0) (d) ((i : Int)) ((k : Int)) ((List.take m path))))), .bool (okP ((i : Int)) ((k : Int)) (List.length ((List.take m path))))]) := f25
        refine rely_wp rfl ?_
        exact opr_ext rfl f25 rfl (hK _ _ (NewT.refl _) rfl)
      · intro a wx hT hF K hK
        obtain ⟨f25, _⟩ := hF
        have f25 : a.tmps.getD 25 undef = (.tuple #[.agg (rowA 32 (bF (comesM node (fun _ => 0) (d) ((i : Int)) ((k : Int)) ((List.take m path))))), .bool (okP ((i : Int)) ((k : Int)) (List.length ((List.take m path))))]) := f25
        refine rely_wp rfl ?_
        exact opr_ext rfl f25 rfl (hK _ _ (NewT.refl _) rfl)
      · intro wc kc
        intro u h; obtain rfl := Eq.symm (h (by simp)); clear h
        intro u h; obtain rfl := Eq.symm (h (by simp)); clear h
        intro u h; obtain rfl := Eq.symm (h (by simp)); clear h
        intro u h; obtain rfl := Eq.symm (h (by simp)); clear h
        intro u h; obtain rfl := Eq.symm (h (by simp)); clear h
        intro u h; obtain rfl := Eq.symm (h (by simp)); clear h
        intro u h; obtain rfl := Eq.symm (h (by simp)); clear h
        intro u h; obtain rfl := Eq.symm (h (by simp)); clear h
        intro u h; obtain rfl := Eq.symm (h (by simp)); clear h
        intro u h; obtain rfl := Eq.symm (h (by simp)); clear h
        intro u h; obtain rfl := Eq.symm (h (by simp)); clear h
        intro u h; obtain rfl := Eq.symm (h (by simp)); clear h
        intro u h; obtain rfl := Eq.symm (h (by simp)); clear h
        refine relyEnd_nil rfl ?_
        simp only [Act.put, List.setIfInBounds_toArray, List.set_cons_zero, List.set_cons_succ]
        refine wpList_new (n := 32) rfl rfl rfl rfl rfl rfl (by simp) run_alloc_hash info31 (fun _ => rfl) rfl ?_
        intro w5 hn5 r7
        refine wpList_plain rfl (fun K hK => ?_)
        refine opr_move (.inr rfl) (hK _ _ ?_)
        refine wpList_end rfl ?_
        simp only [Act.put, List.setIfInBounds_toArray, List.set_cons_zero, List.set_cons_succ]
        go_simp
        obtain ⟨p7, hp7⟩ : ∃ q, wc.heap.size = q := ⟨_, rfl⟩
        rw [hp7] at r7 ⊢
        replace kc := NewT.trans _ _ _ kc hn5
        have R7 := Lib.hid r7
        replace R2 := Lib.hid (kc.row R2.out)
        replace R6 := Lib.hid (kc.row R6.out)
        replace HN := Lib.hid (NewT.trans _ _ _ HN.out kc)
        replace HN0 := Lib.hid (NewT.trans _ _ _ HN0.out kc)
        clear kc hn5 r7 hp7 R5 HU1 HP1
        rw [HRT.out] at R7
        go_upto_region 5 with fail
        refine wp_region_rely (NewT) [SV.eq (.pointer (some ⟨w.heap.size, 33, none⟩)), SV.eq (.int .i64 ((i : Int))), SV.eq (.pointer (some ⟨w.heap.size, 34, none⟩)), SV.eq (.int .i64 ((n : Int))), SV.eq (.int .i64 ((k : Int)))] [([(2, none)], none), ([(38, some 0)], none), ([(2, none)], none), ([(40, some 2)], none), ([(41, some 3)], none)] 50 rfl (by kernel_rfl) rfl (by kernel_rfl) (by kernel_rfl) rfl NewT.trans (NewT.drew _) (Nat.le_of_ble_eq_true rfl) ⟨?_, ?_, ?_, ?_, ?_, trivial⟩ ?_
        · intro a wx hT hF K hK
          obtain ⟨f2, _⟩ := hF
          have f2 : a.tmps.getD 2 undef = .pointer (some ⟨w.heap.size, 0, none⟩) := f2
          refine rely_wp rfl ?_
          exact opr_fldW2 rfl f2 (hK _ _ (NewT.refl _) rfl)
        · intro a wx hT hF K hK
          obtain ⟨f38, _⟩ := hF
          have f38 : a.tmps.getD 38 undef = .pointer (some ⟨w.heap.size, 33, none⟩) := f38
          refine rely_wp rfl ?_
          exact opr_ldI (hT.row R2.out) (by decide) rfl rfl f38 (hK _ _ (NewT.refl _) rfl)
        · intro a wx hT hF K hK
          obtain ⟨f2, _⟩ := hF
          have f2 : a.tmps.getD 2 undef = .pointer (some ⟨w.heap.size, 0, none⟩) := f2
          refine rely_wp rfl ?_
          exact opr_fldW3 rfl f2 (hK _ _ (NewT.refl _) rfl)
        · intro a wx hT hF K hK
          obtain ⟨f40, _⟩ := hF
          have f40 : a.tmps.getD 40 undef = .pointer (some ⟨w.heap.size, 34, none⟩) := f40
          refine rely_wp rfl ?_
          exact opr_ldI (hT.row R2.out) (by decide) rfl rfl f40 (hK _ _ (NewT.refl _) rfl)
        · intro a wx hT hF K hK
          obtain ⟨f41, _⟩ := hF
          have f41 : a.tmps.getD 41 undef = .int .i64 ((n : Int)) := f41
          refine rely_wp rfl ?_
          exact opr_cv (HS.out wx) rfl Tryd.func43 (by kernel_rfl) (by kernel_rfl) (by simp only [List.map_toArray, List.map_cons, List.map_nil, eval_tmp, f41]) hK
        · intro wd kd
          intro u h; obtain rfl := Eq.symm (h (by simp)); clear h
          intro u h; obtain rfl := Eq.symm (h (by simp)); clear h
          intro u h; obtain rfl := Eq.symm (h (by simp)); clear h
          intro u h; obtain rfl := Eq.symm (h (by simp)); clear h
          intro u h; obtain rfl := Eq.symm (h (by simp)); clear h
          refine relyEnd_nil rfl ?_
          simp only [Act.put, List.setIfInBounds_toArray, List.set_cons_zero, List.set_cons_succ]
          refine opr_cmp (b := true) (.inr (.inr (.inr (.inl ⟨rfl, HT3.out⟩)))) Tryd.underlying3 rfl rfl rfl ?_
          go_simp
          replace R6 := Lib.hid (kd.row R6.out)
          replace R7 := Lib.hid (kd.row R7.out)
          replace HN0 := Lib.hid (NewT.trans _ _ _ HN0.out kd)
          clear kd
          go_upto_region 6 with fail
          refine wp_region_steps0 NewT [SV.eq (.agg (rowA 32 (bF (rt)))), SV.eq (.agg (rowA 32 (bF (sd)))), svRd (1 :: (digL (rt) ++ digL (sd))), svRd (1 :: (digL (rt) ++ digL (sd)))] [([(7, none)], none), ([(6, none)], none), ([(44, some 0), (45, some 1)], none), ([(46, some 2)], none)] 50 4 rfl rfl (by kernel_rfl) NewT.trans (NewT.refl _) (Nat.le_of_ble_eq_true rfl) ⟨?_, ?_, ?_, ?_, trivial⟩ ?_
          · intro a wx hT hF K hK
            obtain ⟨f7, _⟩ := hF
            have f7 : a.tmps.getD 7 undef = .pointer (some ⟨p7, 0, none⟩) := f7
            refine rely_wp rfl ?_
            exact opr_load_hash rfl f7 (hT.row R7.out) (hK _ _ (NewT.refl _) rfl)
          · intro a wx hT hF K hK
            obtain ⟨f6, _⟩ := hF
            have f6 : a.tmps.getD 6 undef = .pointer (some ⟨p6, 0, none⟩) := f6
            refine rely_wp rfl ?_
            exact opr_load_hash rfl f6 (hT.row R6.out) (hK _ _ (NewT.refl _) rfl)
          · intro a wx hT hF K hK
            obtain ⟨f44, f45, _⟩ := hF
            have f44 : a.tmps.getD 44 undef = .agg (rowA 32 (bF (rt))) := f44
            have f45 : a.tmps.getD 45 undef = .agg (rowA 32 (bF (sd))) := f45
            refine rely_wp rfl ?_
            exact opr_cv (NodeText_cv (rt) (sd) wx) rfl Tryd.func66 (by kernel_rfl) (by kernel_rfl) (by simp only [List.map_toArray, List.map_cons, List.map_nil, eval_tmp, f44, f45]) hK
          · intro a wx hT hF K hK
            obtain ⟨f46, _⟩ := hF
            replace f46 := show (svRd (1 :: (digL (rt) ++ digL (sd)))).pred (a.tmps.getD 46 undef) wx from f46
            refine rely_wp rfl ?_
            exact opr_move (.inr rfl) (hK _ _ (NewT.refl _) f46)
          · intro we ke
            intro u h; obtain rfl := Eq.symm (h (by simp)); clear h
            intro u h; obtain rfl := Eq.symm (h (by simp)); clear h
            intro _ _
            intro u4 h; have g4 := h (by simp); clear h; replace g4 := show (svRd (1 :: (digL (rt) ++ digL (sd)))).pred u4 we from g4
            refine relyEnd_nil rfl ?_
            refine wpList_end rfl ?_
            simp only [Act.put, List.setIfInBounds_toArray, List.set_cons_zero, List.set_cons_succ]
            go_simp
            go_wp2
            go_ret
            exact ⟨_, rfl, NewT.trans _ _ _ HN0.out ke, g4⟩
set_option maxHeartbeats 2000000 in
theorem WText_r {node : Hs → Hs → Hs} {z : Hs} (hX : TreeH node z) (W w : World) (hNW : NewT W w) (hT : Tables W) (u p : Value) (l : List UInt8) (d sd rt : Hs) (i n m k : Nat) (path : List Hs) (hu : RdV W [] u l) (hp : RdH W p path) (h2 : 2 ≤ n) (hn : n ≤ 1048576) (hi : i < n) (hm : path.length = m + 1) (hml : m ≤ 1000) (hk : k = splitN n) (hik : ¬ i < k) (hsd : path[m]? = some sd) (hrt : comesM node (fun _ => 0) (d) (((i - k : Nat) : Int)) (((n - k : Nat) : Int)) ((List.take m path)) = rt) : Cv 56 #[.agg (rowA 36 (wyF u d (i : Int) (n : Int) p)), .func (.func 23) #[] #[]] w (svRd (1 :: (digL sd ++ digL rt))) := by
  unfold Cv
  have HS : Hid (∀ w, Cv 43 #[.int .i64 (n : Int)] w (.eq (.int .i64 (k : Int)))) := Lib.hid (fun w => by rw [hk]; exact Split_cv (n : Int) (by omega) (by omega) w)
  have HL1 : Hid (((n : Int) == 1) = false) := Lib.hid (beq_eq_false_iff_ne.2 (by omega))
  have HLP := Lib.hid hm
  have HML := Lib.hid hml
  have HNN := Lib.hid hn
  have H2 := Lib.hid h2
  have HI := Lib.hid hi
  have HK := Lib.hid hk
  have HIK := Lib.hid hik
  have HSD := Lib.hid hsd
  have HRT := Lib.hid hrt
  have HU := Lib.hid hu
  have HP := Lib.hid hp
  have HT := Lib.hid hT
  have HT3 : Hid (decide ((i : Int) < (k : Int)) = false) := Lib.hid (decide_eq_false (by omega))
  clear hu hp hm hk h2 hT hn hi hml hik hsd hrt
  go_enter Tryd.func56, Tryd.ntmps56
  go_upto_region 1 with fail
  have r2 := rowIs_box w 54 36 (wyF u d (i : Int) (n : Int) p)
  have hN : NewT w (w.alloc (.cells (rowA 36 (wyF u d (i : Int) (n : Int) p)) 54)) := (NewT.alloc _ _)
  change Code.wp _ _ _ _ (w.alloc (.cells (rowA 36 (wyF u d (i : Int) (n : Int) p)) 54))
  generalize (w.alloc (.cells (rowA 36 (wyF u d (i : Int) (n : Int) p)) 54)) = W0 at r2 hN ⊢
  have R2 := Lib.hid r2
  have HN0 := Lib.hid hN
  have HN := Lib.hid (NewT.trans _ _ _ hNW hN)
  clear r2 hN hNW
  refine wp_region_steps0 NewT [SV.eq (.pointer (some ⟨w.heap.size, 34, none⟩)), SV.eq (.int .i64 ((n : Int))), SV.eq (.bool false)] [([(2, none)], none), ([(9, some 0)], none), ([(10, some 1)], none)] 50 3 rfl rfl (by kernel_rfl) NewT.trans (NewT.refl _) (Nat.le_of_ble_eq_true rfl) ⟨?_, ?_, ?_, trivial⟩ ?_
  · intro a wx hT hF K hK
    obtain ⟨f2, _⟩ := hF
    have f2 : a.tmps.getD 2 undef = .pointer (some ⟨w.heap.size, 0, none⟩) := f2
    refine rely_wp rfl ?_
    exact opr_fldW3 rfl f2 (hK _ _ (NewT.refl _) rfl)
  · intro a wx hT hF K hK
    obtain ⟨f9, _⟩ := hF
    have f9 : a.tmps.getD 9 undef = .pointer (some ⟨w.heap.size, 34, none⟩) := f9
    refine rely_wp rfl ?_
    exact opr_ldI (hT.row R2.out) (by decide) rfl rfl f9 (hK _ _ (NewT.refl _) rfl)
  · intro a wx hT hF K hK
    obtain ⟨f10, _⟩ := hF
    have f10 : a.tmps.getD 10 undef = .int .i64 ((n : Int)) := f10
    refine rely_wp rfl ?_
    exact opr_cmp (b := false) (.inl ⟨rfl, (by exact HL1.out)⟩) Tryd.underlying3 rfl f10 rfl (hK _ _ (NewT.refl _) rfl)
  · intro wa ka
    intro u h; obtain rfl := Eq.symm (h (by simp)); clear h
    intro u h; obtain rfl := Eq.symm (h (by simp)); clear h
    intro u h; obtain rfl := Eq.symm (h (by simp)); clear h
    refine relyEnd_nil rfl ?_
    refine wpList_end rfl ?_
    simp only [Act.put, List.setIfInBounds_toArray, List.set_cons_zero, List.set_cons_succ]
    go_simp
    replace R2 := Lib.hid (ka.row R2.out)
    replace HN := Lib.hid (NewT.trans _ _ _ HN.out ka)
    replace HN0 := Lib.hid (NewT.trans _ _ _ HN0.out ka)
    clear ka
    go_upto_region 3 with fail
    refine wp_region_relyA0 (TB wa.heap.size) (fun j a w1 => JWy 5 6 wa.heap.size (fun f => j = 2 → (fun f => ∃ u1 p1, f = wyF u1 d ((i - k : Nat) : Int) ((n - k : Nat) : Int) p1 ∧ RdV W [] u1 l ∧ RdH W p1 (List.take m path)) f) a w1) [SV.eq (.agg (rowA 36 (wyF u d (i : Int) (n : Int) p))), svWy W l d ((i - k : Nat) : Int) ((n - k : Nat) : Int) (List.take m path), SV.eq (.pointer (some ⟨w.heap.size, 35, none⟩)), SV.eq (p), SV.eq (.pointer (some ⟨w.heap.size, 35, none⟩)), SV.eq (p), SV.eq (.int .i64 ((List.length (path) : Int))), SV.eq (.int .i64 ((m : Int))), svPW W sd, SV.eq (.agg (rowA 32 (bF (sd)))), svPt, svPt, SV.any] [([(2, none)], none), ([(15, some 0)], none), ([(2, none)], none), ([(17, some 2)], none), ([(2, none)], none), ([(19, some 4)], none), ([(20, some 5)], none), ([(21, some 6)], none), ([(18, some 3), (22, some 7)], none), ([(23, some 8)], none), ([], none), ([], none), ([(5, some 10), (16, some 1)], none)] [none, none, none, none, none, none, none, none, none, none, some 0, none, some 1] [10, 12] 50 rfl (by kernel_rfl) rfl (by kernel_rfl) (by kernel_rfl) rfl (by kernel_rfl) TB.trans (TB.drew _ _) ⟨⟨fun p hp g h => (by simp at hp; rcases hp with rfl | rfl <;> cases h), fun p hp q hq hpq g g2 h => (by simp at hp; rcases hp with rfl | rfl <;> cases h)⟩, fun g h => (by cases h), fun g h => (by cases h)⟩ (Nat.le_of_ble_eq_true rfl) ⟨?_, ?_, ?_, ?_, ?_, ?_, ?_, ?_, ?_, ?_, ?_, ?_, ?_, trivial⟩ ?_
    · intro a wx hT hF K hK
      replace hK := fun v w' (hN : NewT wx w') hv => hK v w' (TB.of_new (hT.size) hN) (fun k h => JWy.keep h (by simp) (by simp) hN) hv
      obtain ⟨f2, _⟩ := hF
      have f2 : a.tmps.getD 2 undef = .pointer (some ⟨w.heap.size, 0, none⟩) := f2
      refine rely_wp rfl ?_
      exact opr_ldWy ((hT.out (Nat.le_refl _)).row R2.out) rfl f2 (hK _ _ (NewT.refl _) rfl)
    · intro a wx hT hF K hK
      replace hK := fun v w' (hN : NewT wx w') hv => hK v w' (TB.of_new (hT.size) hN) (fun k h => JWy.keep h (by simp) (by simp) hN) hv
      obtain ⟨f15, _⟩ := hF
      have f15 : a.tmps.getD 15 undef = .agg (rowA 36 (wyF u d (i : Int) (n : Int) p)) := f15
      refine rely_wp rfl ?_
      exact opr_cv (Below_r W wx (NewT.trans _ _ _ HN.out (hT.out (Nat.le_refl _))) u p l d i n m k path HU.out HP.out H2.out HNN.out HI.out HLP.out HML.out HK.out HIK.out) rfl Tryd.func59 (by kernel_rfl) (by kernel_rfl) (by simp only [List.map_toArray, List.map_cons, List.map_nil, eval_tmp, f15]) hK
    · intro a wx hT hF K hK
      replace hK := fun v w' (hN : NewT wx w') hv => hK v w' (TB.of_new (hT.size) hN) (fun k h => JWy.keep h (by simp) (by simp) hN) hv
      obtain ⟨f2, _⟩ := hF
      have f2 : a.tmps.getD 2 undef = .pointer (some ⟨w.heap.size, 0, none⟩) := f2
      refine rely_wp rfl ?_
      exact opr_fldW4 rfl f2 (hK _ _ (NewT.refl _) rfl)
    · intro a wx hT hF K hK
      replace hK := fun v w' (hN : NewT wx w') hv => hK v w' (TB.of_new (hT.size) hN) (fun k h => JWy.keep h (by simp) (by simp) hN) hv
      obtain ⟨f17, _⟩ := hF
      have f17 : a.tmps.getD 17 undef = .pointer (some ⟨w.heap.size, 35, none⟩) := f17
      refine rely_wp rfl ?_
      exact opr_ldHs ((hT.out (Nat.le_refl _)).row R2.out) (by decide) rfl rfl f17 (hK _ _ (NewT.refl _) rfl)
    · intro a wx hT hF K hK
      replace hK := fun v w' (hN : NewT wx w') hv => hK v w' (TB.of_new (hT.size) hN) (fun k h => JWy.keep h (by simp) (by simp) hN) hv
      obtain ⟨f2, _⟩ := hF
      have f2 : a.tmps.getD 2 undef = .pointer (some ⟨w.heap.size, 0, none⟩) := f2
      refine rely_wp rfl ?_
      exact opr_fldW4 rfl f2 (hK _ _ (NewT.refl _) rfl)
    · intro a wx hT hF K hK
      replace hK := fun v w' (hN : NewT wx w') hv => hK v w' (TB.of_new (hT.size) hN) (fun k h => JWy.keep h (by simp) (by simp) hN) hv
      obtain ⟨f19, _⟩ := hF
      have f19 : a.tmps.getD 19 undef = .pointer (some ⟨w.heap.size, 35, none⟩) := f19
      refine rely_wp rfl ?_
      exact opr_ldHs ((hT.out (Nat.le_refl _)).row R2.out) (by decide) rfl rfl f19 (hK _ _ (NewT.refl _) rfl)
    · intro a wx hT hF K hK
      replace hK := fun v w' (hN : NewT wx w') hv => hK v w' (TB.of_new (hT.size) hN) (fun k h => JWy.keep h (by simp) (by simp) hN) hv
      obtain ⟨f20, _⟩ := hF
      have f20 : a.tmps.getD 20 undef = p := f20
      refine rely_wp rfl ?_
      exact opr_len_h rfl (by rw [eval_tmp, f20]; exact ((NewT.trans _ _ _ HN.out (hT.out (Nat.le_refl _))).hs HP.out)) (hK _ _ (NewT.refl _) rfl)
    · intro a wx hT hF K hK
      replace hK := fun v w' (hN : NewT wx w') hv => hK v w' (TB.of_new (hT.size) hN) (fun k h => JWy.keep h (by simp) (by simp) hN) hv
      obtain ⟨f21, _⟩ := hF
      have f21 : a.tmps.getD 21 undef = .int .i64 ((List.length (path) : Int)) := f21
      refine rely_wp rfl ?_
      exact opr_sub (r := (m : Int)) Tryd.underlying3 (by rw [HLP.out]; have := HML.out; unfold wrap64; omega) rfl f21 rfl (hK _ _ (NewT.refl _) rfl)
    · intro a wx hT hF K hK
      replace hK := fun v w' (hN : NewT wx w') hv => hK v w' (TB.of_new (hT.size) hN) (fun k h => JWy.keep h (by simp) (by simp) hN) hv
      obtain ⟨f18, f22, _⟩ := hF
      have f18 : a.tmps.getD 18 undef = p := f18
      have f22 : a.tmps.getD 22 undef = .int .i64 ((m : Int)) := f22
      refine rely_wp rfl ?_
      exact opr_idxW HSD.out rfl (by rw [eval_tmp, f18]; exact HP.out) f22 (fun v hv => hK v _ (NewT.refl _) hv)
    · intro a wx hT hF K hK
      replace hK := fun v w' (hN : NewT wx w') hv => hK v w' (TB.of_new (hT.size) hN) (fun k h => JWy.keep h (by simp) (by simp) hN) hv
      obtain ⟨f23, _⟩ := hF
      replace f23 := show (svPW W sd).pred (a.tmps.getD 23 undef) wx from f23
      refine rely_wp rfl ?_
      exact opr_ldPW (NewT.trans _ _ _ HN.out (hT.out (Nat.le_refl _))) rfl f23 (hK _ _ (NewT.refl _) rfl)
    · intro a wx hT hF hJ K hK
      refine rely_wp rfl ?_
      refine opr_alloc_atW rfl ?_
      exact hK _ _ (TB.of_new (hT.size) (NewT.alloc _ _)) (JWy.make hJ (by decide) hT.size (fun h => by cases h)) ⟨_, rfl⟩
    · intro a wx hT hF K hK
      refine rely_wp rfl ?_
      refine opr_alloc_at rfl ?_
      exact hK _ _ (TB.of_new (hT.size) (NewT.alloc _ _)) (fun k hJ => JWy.make2 hJ (by decide) hT.size) ⟨_, rfl⟩
    · intro a wx hT hF hJ K hK
      obtain ⟨f5, f16, _⟩ := hF
      replace f5 := show (svPt).pred (a.tmps.getD 5 undef) wx from f5
      replace f16 := show (svWy W l d ((i - k : Nat) : Int) ((n - k : Nat) : Int) (List.take m path)).pred (a.tmps.getD 16 undef) wx from f16
      refine rely_wp rfl ?_
      obtain ⟨g5, e5⟩ := f5
      obtain ⟨u1, p1, e16, hu1, hp1⟩ := f16
      obtain ⟨hg5, f0, hr5, _⟩ := hJ.2.1 g5 e5
      refine opr_putm (F := wyF u1 d ((i - k : Nat) : Int) ((n - k : Nat) : Int) p1) rfl e5 e16 hr5 (by decide) infoW (wyF_one (sl_one (rd_sl hu1)) (sl_one (rdH_sl hp1))) (fun j hj => by rw [if_pos (by omega), Nat.sub_zero]) ?_
      intro w7 hR7 r7
      exact hK undef w7 (TB.of_rt hR7 hg5 hr5 r7) (JWy.put hJ (by decide) e5 hR7 r7 (fun _ => ⟨u1, p1, rfl, hu1, hp1⟩)) trivial
    · intro wb kb
      intro u h; obtain rfl := Eq.symm (h (by simp)); clear h
      intro _ _
      intro u h; obtain rfl := Eq.symm (h (by simp)); clear h
      intro u h; obtain rfl := Eq.symm (h (by simp)); clear h
      intro u h; obtain rfl := Eq.symm (h (by simp)); clear h
      intro u h; obtain rfl := Eq.symm (h (by simp)); clear h
      intro u h; obtain rfl := Eq.symm (h (by simp)); clear h
      intro u h; obtain rfl := Eq.symm (h (by simp)); clear h
      intro _ _
      intro u h; obtain rfl := Eq.symm (h (by simp)); clear h
      intro u h; obtain ⟨p5, hv⟩ := (h (by simp)); clear h; subst hv
      intro u h; obtain ⟨p6, hv⟩ := (h (by simp)); clear h; subst hv
      intro _ _
      refine relyEnd_nil rfl ?_
      intro hJ
      simp only [Act.put, List.setIfInBounds_toArray, List.set_cons_zero, List.set_cons_succ]
      obtain ⟨hg5, f5, r5, hX5⟩ := hJ.2.1 p5 (by kernel_rfl)
      obtain ⟨u1, p1, rfl, hu1, hp1⟩ := hX5 rfl
      obtain ⟨hg6, f6, r6⟩ := hJ.2.2 p6 (by kernel_rfl)
      have hne := hJ.1.2 5 (by simp) 6 (by simp) (by decide) p5 p6 (by kernel_rfl) (by kernel_rfl)
      refine opr_putm (F := bF sd) rfl rfl rfl r6 (by decide) info31 (fun _ => rfl) (fun j hj => by rw [if_pos (by omega), Nat.sub_zero]) ?_
      intro w8 hR8 s6
      go_simp
      have k8 : NewT wa w8 := NewT.rt (kb.out (Nat.le_refl _)) hR8 hg6
      replace R2 := Lib.hid (k8.row R2.out)
      have R5 := Lib.hid (hR8.row hne r5)
      have R6 := Lib.hid s6
      have HU1 := Lib.hid hu1
      have HP1 := Lib.hid hp1
      replace HN := Lib.hid (NewT.trans _ _ _ HN.out k8)
      replace HN0 := Lib.hid (NewT.trans _ _ _ HN0.out k8)
      clear k8 hR8 r5 r6 s6 hg5 hg6 hX5 hne hu1 hp1 kb hJ
      go_upto_region 4 with fail
      refine wp_region_steps0 NewT [SV.eq ((.func (.func 23) #[] #[])), SV.eq (.pointer (some ⟨p5, 1, none⟩)), SV.eq (.agg (rowA 32 (bF (d)))), SV.eq (.pointer (some ⟨p5, 33, none⟩)), SV.eq (.int .i64 (((i - k : Nat) : Int))), SV.eq (.pointer (some ⟨p5, 34, none⟩)), SV.eq (.int .i64 (((n - k : Nat) : Int))), SV.eq (.pointer (some ⟨p5, 35, none⟩)), SV.eq (p1), SV.eq ((.tuple #[.agg (rowA 32 (bF (comesM node (fun _ => 0) (d) (((i - k : Nat) : Int)) (((n - k : Nat) : Int)) ((List.take m path))))), .bool (okP (((i - k : Nat) : Int)) (((n - k : Nat) : Int)) (List.length ((List.take m path))))])), SV.eq ((.tuple #[.agg (rowA 32 (bF (comesM node (fun _ => 0) (d) (((i - k : Nat) : Int)) (((n - k : Nat) : Int)) ((List.take m path))))), .bool (okP (((i - k : Nat) : Int)) (((n - k : Nat) : Int)) (List.length ((List.take m path))))])), SV.eq (.agg (rowA 32 (bF (comesM node (fun _ => 0) (d) (((i - k : Nat) : Int)) (((n - k : Nat) : Int)) ((List.take m path)))))), SV.eq (.bool (okP (((i - k : Nat) : Int)) (((n - k : Nat) : Int)) (List.length ((List.take m path)))))] [([(1, none)], none), ([(5, none)], none), ([(27, some 1)], none), ([(5, none)], none), ([(29, some 3)], none), ([(5, none)], none), ([(31, some 5)], none), ([(5, none)], none), ([(33, some 7)], none), ([(26, some 0), (28, some 2), (30, some 4), (32, some 6), (34, some 8)], none), ([(35, some 9)], none), ([(25, some 10)], none), ([(25, some 10)], none)] 50 13 rfl rfl (by kernel_rfl) NewT.trans (NewT.refl _) (Nat.le_of_ble_eq_true rfl) ⟨?_, ?_, ?_, ?_, ?_, ?_, ?_, ?_, ?_, ?_, ?_, ?_, ?_, trivial⟩ ?_
      · intro a wx hT hF K hK
        obtain ⟨f1, _⟩ := hF
        have f1 : a.tmps.getD 1 undef = (.func (.func 23) #[] #[]) := f1
        refine rely_wp rfl ?_
        exact opr_move (.inl rfl) (hK _ _ (NewT.refl _) f1)
      · intro a wx hT hF K hK
        obtain ⟨f5, _⟩ := hF
        have f5 : a.tmps.getD 5 undef = .pointer (some ⟨p5, 0, none⟩) := f5
        refine rely_wp rfl ?_
        exact opr_fldW1 rfl f5 (hK _ _ (NewT.refl _) rfl)
      · intro a wx hT hF K hK
        obtain ⟨f27, _⟩ := hF
        have f27 : a.tmps.getD 27 undef = .pointer (some ⟨p5, 1, none⟩) := f27
        refine rely_wp rfl ?_
        exact opr_ldH (hT.row R5.out) (by decide) (wyF_h _ _ _ _ _) rfl f27 (hK _ _ (NewT.refl _) rfl)
      · intro a wx hT hF K hK
        obtain ⟨f5, _⟩ := hF
        have f5 : a.tmps.getD 5 undef = .pointer (some ⟨p5, 0, none⟩) := f5
        refine rely_wp rfl ?_
        exact opr_fldW2 rfl f5 (hK _ _ (NewT.refl _) rfl)
      · intro a wx hT hF K hK
        obtain ⟨f29, _⟩ := hF
        have f29 : a.tmps.getD 29 undef = .pointer (some ⟨p5, 33, none⟩) := f29
        refine rely_wp rfl ?_
        exact opr_ldI (hT.row R5.out) (by decide) rfl rfl f29 (hK _ _ (NewT.refl _) rfl)
      · intro a wx hT hF K hK
        obtain ⟨f5, _⟩ := hF
        have f5 : a.tmps.getD 5 undef = .pointer (some ⟨p5, 0, none⟩) := f5
        refine rely_wp rfl ?_
        exact opr_fldW3 rfl f5 (hK _ _ (NewT.refl _) rfl)
      · intro a wx hT hF K hK
        obtain ⟨f31, _⟩ := hF
        have f31 : a.tmps.getD 31 undef = .pointer (some ⟨p5, 34, none⟩) := f31
        refine rely_wp rfl ?_
        exact opr_ldI (hT.row R5.out) (by decide) rfl rfl f31 (hK _ _ (NewT.refl _) rfl)
      · intro a wx hT hF K hK
        obtain ⟨f5, _⟩ := hF
        have f5 : a.tmps.getD 5 undef = .pointer (some ⟨p5, 0, none⟩) := f5
        refine rely_wp rfl ?_
        exact opr_fldW4 rfl f5 (hK _ _ (NewT.refl _) rfl)
      · intro a wx hT hF K hK
        obtain ⟨f33, _⟩ := hF
        have f33 : a.tmps.getD 33 undef = .pointer (some ⟨p5, 35, none⟩) := f33
        refine rely_wp rfl ?_
        exact opr_ldHs (hT.row R5.out) (by decide) rfl rfl f33 (hK _ _ (NewT.refl _) rfl)
      · intro a wx hT hF K hK
        obtain ⟨f26, f28, f30, f32, f34, _⟩ := hF
        have f26 : a.tmps.getD 26 undef = (.func (.func 23) #[] #[]) := f26
        have f28 : a.tmps.getD 28 undef = .agg (rowA 32 (bF (d))) := f28
        have f30 : a.tmps.getD 30 undef = .int .i64 (((i - k : Nat) : Int)) := f30
        have f32 : a.tmps.getD 32 undef = .int .i64 (((n - k : Nat) : Int)) := f32
        have f34 : a.tmps.getD 34 undef = p1 := f34
        refine rely_wp rfl ?_
        exact opr_cvv (cap := #[]) (Comes_cv hX (d) (((i - k : Nat) : Int)) (((n - k : Nat) : Int)) _ ((List.take m path)) wx ((NewT.trans _ _ _ HN.out hT).tables HT.out) (((NewT.trans _ _ _ HN.out hT).hs HP1.out)) (by rw [List.length_take]; have := HML.out; omega)) rfl f26 Tryd.func23 (by kernel_rfl) (by kernel_rfl) (by simp only [List.map_toArray, List.map_cons, List.map_nil, List.append_toArray, List.cons_append, List.nil_append, List.append_nil, eval_tmp, eval_const, f28, f30, f32, f34]) hK
      · intro a wx hT hF K hK
        obtain ⟨f35, _⟩ := hF
        have f35 : a.tmps.getD 35 undef = (.tuple #[.agg (rowA 32 (bF (comesM node (fun _ => 0) (d) (((i - k : Nat) : Int)) (((n - k : Nat) : Int)) ((List.take m path))))), .bool (okP (((i - k : Nat) : Int)) (((n - k : Nat) : Int)) (List.length ((List.take m path))))]) := f35
        refine rely_wp rfl ?_
        exact opr_move (.inl rfl) (hK _ _ (NewT.refl _) f35)
      · intro a wx hT hF K hK
        obtain ⟨f25, _⟩ := hF
        have f25 : a.tmps.getD 25 undef = (.tuple #[.agg (rowA 32 (bF (comesM node (fun _ => 0) (d) (((i - k : Nat) : Int)) (((n - k : Nat) : Int)) ((List.take m path))))), .bool (okP (((i - k : Nat) : Int)) (((n - k : Nat) : Int)) (List.length ((List.take m path))))]) := f25
        refine rely_wp rfl ?_
        exact opr_ext rfl f25 rfl (hK _ _ (NewT.refl _) rfl)
      · intro a wx hT hF K hK
        obtain ⟨f25, _⟩ := hF
        have f25 : a.tmps.getD 25 undef = (.tuple #[.agg (rowA 32 (bF (comesM node (fun _ => 0) (d) (((i - k : Nat) : Int)) (((n - k : Nat) : Int)) ((List.take m path))))), .bool (okP (((i - k : Nat) : Int)) (((n - k : Nat) : Int)) (List.length ((List.take m path))))]) := f25
        refine rely_wp rfl ?_
        exact opr_ext rfl f25 rfl (hK _ _ (NewT.refl _) rfl)
      · intro wc kc
        intro u h; obtain rfl := Eq.symm (h (by simp)); clear h
        intro u h; obtain rfl := Eq.symm (h (by simp)); clear h
        intro u h; obtain rfl := Eq.symm (h (by simp)); clear h
        intro u h; obtain rfl := Eq.symm (h (by simp)); clear h
        intro u h; obtain rfl := Eq.symm (h (by simp)); clear h
        intro u h; obtain rfl := Eq.symm (h (by simp)); clear h
        intro u h; obtain rfl := Eq.symm (h (by simp)); clear h
        intro u h; obtain rfl := Eq.symm (h (by simp)); clear h
        intro u h; obtain rfl := Eq.symm (h (by simp)); clear h
        intro u h; obtain rfl := Eq.symm (h (by simp)); clear h
        intro u h; obtain rfl := Eq.symm (h (by simp)); clear h
        intro u h; obtain rfl := Eq.symm (h (by simp)); clear h
        intro u h; obtain rfl := Eq.symm (h (by simp)); clear h
        refine relyEnd_nil rfl ?_
        simp only [Act.put, List.setIfInBounds_toArray, List.set_cons_zero, List.set_cons_succ]
        refine wpList_new (n := 32) rfl rfl rfl rfl rfl rfl (by simp) run_alloc_hash info31 (fun _ => rfl) rfl ?_
        intro w5 hn5 r7
        refine wpList_plain rfl (fun K hK => ?_)
        refine opr_move (.inr rfl) (hK _ _ ?_)
        refine wpList_end rfl ?_
        simp only [Act.put, List.setIfInBounds_toArray, List.set_cons_zero, List.set_cons_succ]
        go_simp
        obtain ⟨p7, hp7⟩ : ∃ q, wc.heap.size = q := ⟨_, rfl⟩
        rw [hp7] at r7 ⊢
        replace kc := NewT.trans _ _ _ kc hn5
        have R7 := Lib.hid r7
        replace R2 := Lib.hid (kc.row R2.out)
        replace R6 := Lib.hid (kc.row R6.out)
        replace HN := Lib.hid (NewT.trans _ _ _ HN.out kc)
        replace HN0 := Lib.hid (NewT.trans _ _ _ HN0.out kc)
        clear kc hn5 r7 hp7 R5 HU1 HP1
        rw [HRT.out] at R7
        go_upto_region 5 with fail
        refine wp_region_rely (NewT) [SV.eq (.pointer (some ⟨w.heap.size, 33, none⟩)), SV.eq (.int .i64 ((i : Int))), SV.eq (.pointer (some ⟨w.heap.size, 34, none⟩)), SV.eq (.int .i64 ((n : Int))), SV.eq (.int .i64 ((k : Int)))] [([(2, none)], none), ([(38, some 0)], none), ([(2, none)], none), ([(40, some 2)], none), ([(41, some 3)], none)] 50 rfl (by kernel_rfl) rfl (by kernel_rfl) (by kernel_rfl) rfl NewT.trans (NewT.drew _) (Nat.le_of_ble_eq_true rfl) ⟨?_, ?_, ?_, ?_, ?_, trivial⟩ ?_
        · intro a wx hT hF K hK
          obtain ⟨f2, _⟩ := hF
          have f2 : a.tmps.getD 2 undef = .pointer (some ⟨w.heap.size, 0, none⟩) := f2
          refine rely_wp rfl ?_
          exact opr_fldW2 rfl f2 (hK _ _ (NewT.refl _) rfl)
        · intro a wx hT hF K hK
          obtain ⟨f38, _⟩ := hF
          have f38 : a.tmps.getD 38 undef = .pointer (some ⟨w.heap.size, 33, none⟩) := f38
          refine rely_wp rfl ?_
          exact opr_ldI (hT.row R2.out) (by decide) rfl rfl f38 (hK _ _ (NewT.refl _) rfl)
        · intro a wx hT hF K hK
          obtain ⟨f2, _⟩ := hF
          have f2 : a.tmps.getD 2 undef = .pointer (some ⟨w.heap.size, 0, none⟩) := f2
          refine rely_wp rfl ?_
          exact opr_fldW3 rfl f2 (hK _ _ (NewT.refl _) rfl)
        · intro a wx hT hF K hK
          obtain ⟨f40, _⟩ := hF
          have f40 : a.tmps.getD 40 undef = .pointer (some ⟨w.heap.size, 34, none⟩) := f40
          refine rely_wp rfl ?_
          exact opr_ldI (hT.row R2.out) (by decide) rfl rfl f40 (hK _ _ (NewT.refl _) rfl)
        · intro a wx hT hF K hK
          obtain ⟨f41, _⟩ := hF
          have f41 : a.tmps.getD 41 undef = .int .i64 ((n : Int)) := f41
          refine rely_wp rfl ?_
          exact opr_cv (HS.out wx) rfl Tryd.func43 (by kernel_rfl) (by kernel_rfl) (by simp only [List.map_toArray, List.map_cons, List.map_nil, eval_tmp, f41]) hK
        · intro wd kd
          intro u h; obtain rfl := Eq.symm (h (by simp)); clear h
          intro u h; obtain rfl := Eq.symm (h (by simp)); clear h
          intro u h; obtain rfl := Eq.symm (h (by simp)); clear h
          intro u h; obtain rfl := Eq.symm (h (by simp)); clear h
          intro u h; obtain rfl := Eq.symm (h (by simp)); clear h
          refine relyEnd_nil rfl ?_
          simp only [Act.put, List.setIfInBounds_toArray, List.set_cons_zero, List.set_cons_succ]
          refine opr_cmp (b := false) (.inr (.inr (.inr (.inl ⟨rfl, HT3.out⟩)))) Tryd.underlying3 rfl rfl rfl ?_
          go_simp
          replace R6 := Lib.hid (kd.row R6.out)
          replace R7 := Lib.hid (kd.row R7.out)
          replace HN0 := Lib.hid (NewT.trans _ _ _ HN0.out kd)
          clear kd
          go_upto_region 7 with fail
          refine wp_region_steps0 NewT [SV.eq (.agg (rowA 32 (bF (sd)))), SV.eq (.agg (rowA 32 (bF (rt)))), svRd (1 :: (digL (sd) ++ digL (rt))), svRd (1 :: (digL (sd) ++ digL (rt)))] [([(6, none)], none), ([(7, none)], none), ([(47, some 0), (48, some 1)], none), ([(49, some 2)], none)] 50 4 rfl rfl (by kernel_rfl) NewT.trans (NewT.refl _) (Nat.le_of_ble_eq_true rfl) ⟨?_, ?_, ?_, ?_, trivial⟩ ?_
          · intro a wx hT hF K hK
            obtain ⟨f6, _⟩ := hF
            have f6 : a.tmps.getD 6 undef = .pointer (some ⟨p6, 0, none⟩) := f6
            refine rely_wp rfl ?_
            exact opr_load_hash rfl f6 (hT.row R6.out) (hK _ _ (NewT.refl _) rfl)
          · intro a wx hT hF K hK
            obtain ⟨f7, _⟩ := hF
            have f7 : a.tmps.getD 7 undef = .pointer (some ⟨p7, 0, none⟩) := f7
            refine rely_wp rfl ?_
            exact opr_load_hash rfl f7 (hT.row R7.out) (hK _ _ (NewT.refl _) rfl)
          · intro a wx hT hF K hK
            obtain ⟨f47, f48, _⟩ := hF
            have f47 : a.tmps.getD 47 undef = .agg (rowA 32 (bF (sd))) := f47
            have f48 : a.tmps.getD 48 undef = .agg (rowA 32 (bF (rt))) := f48
            refine rely_wp rfl ?_
            exact opr_cv (NodeText_cv (sd) (rt) wx) rfl Tryd.func66 (by kernel_rfl) (by kernel_rfl) (by simp only [List.map_toArray, List.map_cons, List.map_nil, eval_tmp, f47, f48]) hK
          · intro a wx hT hF K hK
            obtain ⟨f49, _⟩ := hF
            replace f49 := show (svRd (1 :: (digL (sd) ++ digL (rt)))).pred (a.tmps.getD 49 undef) wx from f49
            refine rely_wp rfl ?_
            exact opr_move (.inr rfl) (hK _ _ (NewT.refl _) f49)
          · intro we ke
            intro u h; obtain rfl := Eq.symm (h (by simp)); clear h
            intro u h; obtain rfl := Eq.symm (h (by simp)); clear h
            intro _ _
            intro u4 h; have g4 := h (by simp); clear h; replace g4 := show (svRd (1 :: (digL (sd) ++ digL (rt)))).pred u4 we from g4
            refine relyEnd_nil rfl ?_
            refine wpList_end rfl ?_
            simp only [Act.put, List.setIfInBounds_toArray, List.set_cons_zero, List.set_cons_succ]
            go_simp
            go_wp2
            go_ret
            exact ⟨_, rfl, NewT.trans _ _ _ HN0.out ke, g4⟩
set_option maxHeartbeats 2000000 in
theorem WDown_l (W w : World) (hNW : NewT W w) (u p u' p' : Value) (l l' : List UInt8) (d d' : Hs) (i n m k : Nat) (path path' : List Hs) (hu : RdV W [] u l) (hp : RdH W p path) (hv : RdV W [] u' l') (hq : RdH W p' path') (h2 : 2 ≤ n) (hn : n ≤ 1048576) (hi : i < n) (hm : path.length = m + 1) (hm' : path'.length = m + 1) (hml : m ≤ 1000) (hk : k = splitN n) (hik : i < k) :
    Cv 58 #[.agg (rowA 36 (wyF u d (i : Int) (n : Int) p)), .agg (rowA 36 (wyF u' d' (i : Int) (n : Int) p'))] w (svDn 36 (fun F G => WyP W F l d (i : Int) (k : Int) (List.take m path) ∧ WyP W G l' d' (i : Int) (k : Int) (List.take m path'))) := by
  unfold Cv
  have HL1 : Hid (((n : Int) == 1) = false) := Lib.hid (beq_eq_false_iff_ne.2 (by omega))
  have HLP := Lib.hid hm
  have HLQ := Lib.hid hm'
  have HML := Lib.hid hml
  have HNN := Lib.hid hn
  have H2 := Lib.hid h2
  have HI := Lib.hid hi
  have HK := Lib.hid hk
  have HIK := Lib.hid hik
  have HU := Lib.hid hu
  have HP := Lib.hid hp
  have HV := Lib.hid hv
  have HQ := Lib.hid hq
  clear hu hp hv hq hm hm' hk h2 hn hi hml hik
  go_enter Tryd.func58, Tryd.ntmps58
  go_upto_region 1 with fail
  have r2 := (((rowIs_box w 54 36 (wyF u d (i : Int) (n : Int) p)).alloc (.cells (rowA 36 (wyF u' d' (i : Int) (n : Int) p')) 54)).alloc (.cells (rowA 36 (wyF (.slice none 0 0) (fun _ => 0) 0 0 (.slice none 0 0))) 54)).alloc (.cells (rowA 36 (wyF (.slice none 0 0) (fun _ => 0) 0 0 (.slice none 0 0))) 54)
  have r3 := ((rowIs_box (w.alloc (.cells (rowA 36 (wyF u d (i : Int) (n : Int) p)) 54)) 54 36 (wyF u' d' (i : Int) (n : Int) p')).alloc (.cells (rowA 36 (wyF (.slice none 0 0) (fun _ => 0) 0 0 (.slice none 0 0))) 54)).alloc (.cells (rowA 36 (wyF (.slice none 0 0) (fun _ => 0) 0 0 (.slice none 0 0))) 54)
  rw [World.size_alloc] at r3
  have r4 := (rowIs_box ((w.alloc (.cells (rowA 36 (wyF u d (i : Int) (n : Int) p)) 54)).alloc (.cells (rowA 36 (wyF u' d' (i : Int) (n : Int) p')) 54)) 54 36 (wyF (.slice none 0 0) (fun _ => 0) 0 0 (.slice none 0 0))).alloc (.cells (rowA 36 (wyF (.slice none 0 0) (fun _ => 0) 0 0 (.slice none 0 0))) 54)
  rw [World.size_alloc, World.size_alloc] at r4
  have r5 := rowIs_box (((w.alloc (.cells (rowA 36 (wyF u d (i : Int) (n : Int) p)) 54)).alloc (.cells (rowA 36 (wyF u' d' (i : Int) (n : Int) p')) 54)).alloc (.cells (rowA 36 (wyF (.slice none 0 0) (fun _ => 0) 0 0 (.slice none 0 0))) 54)) 54 36 (wyF (.slice none 0 0) (fun _ => 0) 0 0 (.slice none 0 0))
  rw [World.size_alloc, World.size_alloc, World.size_alloc] at r5
  have hN : NewT w ((((w.alloc (.cells (rowA 36 (wyF u d (i : Int) (n : Int) p)) 54)).alloc (.cells (rowA 36 (wyF u' d' (i : Int) (n : Int) p')) 54)).alloc (.cells (rowA 36 (wyF (.slice none 0 0) (fun _ => 0) 0 0 (.slice none 0 0))) 54)).alloc (.cells (rowA 36 (wyF (.slice none 0 0) (fun _ => 0) 0 0 (.slice none 0 0))) 54)) := (NewT.trans _ _ _ (NewT.trans _ _ _ (NewT.trans _ _ _ (NewT.alloc _ _) (NewT.alloc _ _)) (NewT.alloc _ _)) (NewT.alloc _ _))
  change Code.wp _ _ _ _ ((((w.alloc (.cells (rowA 36 (wyF u d (i : Int) (n : Int) p)) 54)).alloc (.cells (rowA 36 (wyF u' d' (i : Int) (n : Int) p')) 54)).alloc (.cells (rowA 36 (wyF (.slice none 0 0) (fun _ => 0) 0 0 (.slice none 0 0))) 54)).alloc (.cells (rowA 36 (wyF (.slice none 0 0) (fun _ => 0) 0 0 (.slice none 0 0))) 54))
  generalize ((((w.alloc (.cells (rowA 36 (wyF u d (i : Int) (n : Int) p)) 54)).alloc (.cells (rowA 36 (wyF u' d' (i : Int) (n : Int) p')) 54)).alloc (.cells (rowA 36 (wyF (.slice none 0 0) (fun _ => 0) 0 0 (.slice none 0 0))) 54)).alloc (.cells (rowA 36 (wyF (.slice none 0 0) (fun _ => 0) 0 0 (.slice none 0 0))) 54)) = W0 at r2 r3 r4 r5 hN ⊢
  have R2 := Lib.hid r2
  have R3 := Lib.hid r3
  have R4 := Lib.hid r4
  have R5 := Lib.hid r5
  have HN0 := Lib.hid hN
  have HN := Lib.hid (NewT.trans _ _ _ hNW hN)
  clear r2 r3 r4 r5 hN hNW
  refine wp_region_steps0 NewT [SV.eq (.pointer (some ⟨w.heap.size, 34, none⟩)), SV.eq (.int .i64 ((n : Int))), SV.eq (.bool false)] [([(2, none)], none), ([(7, some 0)], none), ([(8, some 1)], none)] 16 3 rfl rfl (by kernel_rfl) NewT.trans (NewT.refl _) (Nat.le_of_ble_eq_true rfl) ⟨?_, ?_, ?_, trivial⟩ ?_
  · intro a wx hT hF K hK
    obtain ⟨f2, _⟩ := hF
    have f2 : a.tmps.getD 2 undef = .pointer (some ⟨w.heap.size, 0, none⟩) := f2
    refine rely_wp rfl ?_
    exact opr_fldW3 rfl f2 (hK _ _ (NewT.refl _) rfl)
  · intro a wx hT hF K hK
    obtain ⟨f7, _⟩ := hF
    have f7 : a.tmps.getD 7 undef = .pointer (some ⟨w.heap.size, 34, none⟩) := f7
    refine rely_wp rfl ?_
    exact opr_ldI (hT.row R2.out) (by decide) rfl rfl f7 (hK _ _ (NewT.refl _) rfl)
  · intro a wx hT hF K hK
    obtain ⟨f8, _⟩ := hF
    have f8 : a.tmps.getD 8 undef = .int .i64 ((n : Int)) := f8
    refine rely_wp rfl ?_
    exact opr_cmp (b := false) (.inl ⟨rfl, (by exact HL1.out)⟩) Tryd.underlying3 rfl f8 rfl (hK _ _ (NewT.refl _) rfl)
  · intro wa ka
    intro u h; obtain rfl := Eq.symm (h (by simp)); clear h
    intro u h; obtain rfl := Eq.symm (h (by simp)); clear h
    intro u h; obtain rfl := Eq.symm (h (by simp)); clear h
    refine relyEnd_nil rfl ?_
    refine wpList_end rfl ?_
    simp only [Act.put, List.setIfInBounds_toArray, List.set_cons_zero, List.set_cons_succ]
    go_simp
    replace R2 := Lib.hid (ka.row R2.out)
    replace R3 := Lib.hid (ka.row R3.out)
    replace R4 := Lib.hid (ka.row R4.out)
    replace R5 := Lib.hid (ka.row R5.out)
    replace HN := Lib.hid (NewT.trans _ _ _ HN.out ka)
    replace HN0 := Lib.hid (NewT.trans _ _ _ HN0.out ka)
    clear ka
    go_upto_region 3 with fail
    refine wp_region_rely_tail (NewT) [SV.eq (.agg (rowA 36 (wyF u d (i : Int) (n : Int) p))), svWy W l d (i : Int) (k : Int) (List.take m path), SV.eq (.agg (rowA 36 (wyF u' d' (i : Int) (n : Int) p'))), svWy W l' d' (i : Int) (k : Int) (List.take m path')] [([(2, none)], none), ([(12, some 0)], none), ([(3, none)], none), ([(14, some 2)], none)] 16 4 (by kernel_rfl) rfl rfl (Nat.zero_lt_succ _) (by kernel_rfl) (by kernel_rfl) (by kernel_rfl) NewT.trans (NewT.drew _) (Nat.le_of_ble_eq_true rfl) ⟨?_, ?_, ?_, ?_, trivial⟩ ?_
    · intro a wx hT hF K hK
      obtain ⟨f2, _⟩ := hF
      have f2 : a.tmps.getD 2 undef = .pointer (some ⟨w.heap.size, 0, none⟩) := f2
      refine rely_wp rfl ?_
      exact opr_ldWy (hT.row R2.out) rfl f2 (hK _ _ (NewT.refl _) rfl)
    · intro a wx hT hF K hK
      obtain ⟨f12, _⟩ := hF
      have f12 : a.tmps.getD 12 undef = .agg (rowA 36 (wyF u d (i : Int) (n : Int) p)) := f12
      refine rely_wp rfl ?_
      exact opr_cv (Below_l W wx (NewT.trans _ _ _ HN.out hT) u p l d i n m k path HU.out HP.out H2.out HNN.out HI.out HLP.out HML.out HK.out HIK.out) rfl Tryd.func59 (by kernel_rfl) (by kernel_rfl) (by simp only [List.map_toArray, List.map_cons, List.map_nil, eval_tmp, f12]) hK
    · intro a wx hT hF K hK
      obtain ⟨f3, _⟩ := hF
      have f3 : a.tmps.getD 3 undef = .pointer (some ⟨w.heap.size + 1, 0, none⟩) := f3
      refine rely_wp rfl ?_
      exact opr_ldWy (hT.row R3.out) rfl f3 (hK _ _ (NewT.refl _) rfl)
    · intro a wx hT hF K hK
      obtain ⟨f14, _⟩ := hF
      have f14 : a.tmps.getD 14 undef = .agg (rowA 36 (wyF u' d' (i : Int) (n : Int) p')) := f14
      refine rely_wp rfl ?_
      exact opr_cv (Below_l W wx (NewT.trans _ _ _ HN.out hT) u' p' l' d' i n m k path' HV.out HQ.out H2.out HNN.out HI.out HLQ.out HML.out HK.out HIK.out) rfl Tryd.func59 (by kernel_rfl) (by kernel_rfl) (by simp only [List.map_toArray, List.map_cons, List.map_nil, eval_tmp, f14]) hK
    · intro we ke
      intro u h; obtain rfl := Eq.symm (h (by simp)); clear h
      intro u13 h; have g13 := h (by simp); clear h; replace g13 := show (svWy W l d (i : Int) (k : Int) (List.take m path)).pred u13 we from g13
      intro u h; obtain rfl := Eq.symm (h (by simp)); clear h
      intro u15 h; have g15 := h (by simp); clear h; replace g15 := show (svWy W l' d' (i : Int) (k : Int) (List.take m path')).pred u15 we from g15
      refine relyEnd_nil rfl ?_
      simp only [Act.put, List.setIfInBounds_toArray, List.set_cons_zero, List.set_cons_succ]
      obtain ⟨u1, p1, rfl, hu1, hp1⟩ := g13
      obtain ⟨u2, p2, rfl, hu2, hp2⟩ := g15
      refine wpList_plain rfl (fun K hK => ?_)
      refine opr_putm (F := wyF u1 d (i : Int) (k : Int) p1) rfl rfl rfl (ke.row R4.out) (by decide) infoW (wyF_one (sl_one (rd_sl hu1)) (sl_one (rdH_sl hp1))) (fun i hi => by rw [if_pos (by omega), Nat.sub_zero]) ?_
      intro w7 hR7 r4
      refine hK _ _ ?_
      clear hK K
      simp only [Act.put, List.setIfInBounds_toArray, List.set_cons_zero, List.set_cons_succ]
      refine wpList_plain rfl (fun K hK => ?_)
      refine opr_putm (F := wyF u2 d' (i : Int) (k : Int) p2) rfl rfl rfl (hR7.row (by omega) (ke.row R5.out)) (by decide) infoW (wyF_one (sl_one (rd_sl hu2)) (sl_one (rdH_sl hp2))) (fun i hi => by rw [if_pos (by omega), Nat.sub_zero]) ?_
      intro w8 hR8 r5
      refine hK _ _ ?_
      clear hK K
      simp only [Act.put, List.setIfInBounds_toArray, List.set_cons_zero, List.set_cons_succ]
      refine wpList_plain rfl (fun K hK => ?_)
      refine opr_move (.inr rfl) (hK _ _ ?_)
      refine wpList_end rfl ?_
      simp only [Act.put, List.setIfInBounds_toArray, List.set_cons_zero, List.set_cons_succ]
      go_simp
      go_wp2
      exact bodyPost_ret (results_rrt rfl rfl rfl rfl (hR8.row (by omega) r4) r5 Tryd.underlying54 rfl infoW) rfl ⟨_, rfl, NewT.rt (NewT.rt (NewT.trans _ _ _ HN0.out ke) hR7 (by omega)) hR8 (by omega), _, _, rfl, ⟨u1, p1, rfl, hu1, hp1⟩, ⟨u2, p2, rfl, hu2, hp2⟩⟩
set_option maxHeartbeats 2000000 in
theorem WDown_r (W w : World) (hNW : NewT W w) (u p u' p' : Value) (l l' : List UInt8) (d d' : Hs) (i n m k : Nat) (path path' : List Hs) (hu : RdV W [] u l) (hp : RdH W p path) (hv : RdV W [] u' l') (hq : RdH W p' path') (h2 : 2 ≤ n) (hn : n ≤ 1048576) (hi : i < n) (hm : path.length = m + 1) (hm' : path'.length = m + 1) (hml : m ≤ 1000) (hk : k = splitN n) (hik : ¬ i < k) :
    Cv 58 #[.agg (rowA 36 (wyF u d (i : Int) (n : Int) p)), .agg (rowA 36 (wyF u' d' (i : Int) (n : Int) p'))] w (svDn 36 (fun F G => WyP W F l d ((i - k : Nat) : Int) ((n - k : Nat) : Int) (List.take m path) ∧ WyP W G l' d' ((i - k : Nat) : Int) ((n - k : Nat) : Int) (List.take m path'))) := by
  unfold Cv
  have HL1 : Hid (((n : Int) == 1) = false) := Lib.hid (beq_eq_false_iff_ne.2 (by omega))
  have HLP := Lib.hid hm
  have HLQ := Lib.hid hm'
  have HML := Lib.hid hml
  have HNN := Lib.hid hn
  have H2 := Lib.hid h2
  have HI := Lib.hid hi
  have HK := Lib.hid hk
  have HIK := Lib.hid hik
  have HU := Lib.hid hu
  have HP := Lib.hid hp
  have HV := Lib.hid hv
  have HQ := Lib.hid hq
  clear hu hp hv hq hm hm' hk h2 hn hi hml hik
  go_enter Tryd.func58, Tryd.ntmps58
  go_upto_region 1 with fail
  have r2 := (((rowIs_box w 54 36 (wyF u d (i : Int) (n : Int) p)).alloc (.cells (rowA 36 (wyF u' d' (i : Int) (n : Int) p')) 54)).alloc (.cells (rowA 36 (wyF (.slice none 0 0) (fun _ => 0) 0 0 (.slice none 0 0))) 54)).alloc (.cells (rowA 36 (wyF (.slice none 0 0) (fun _ => 0) 0 0 (.slice none 0 0))) 54)
  have r3 := ((rowIs_box (w.alloc (.cells (rowA 36 (wyF u d (i : Int) (n : Int) p)) 54)) 54 36 (wyF u' d' (i : Int) (n : Int) p')).alloc (.cells (rowA 36 (wyF (.slice none 0 0) (fun _ => 0) 0 0 (.slice none 0 0))) 54)).alloc (.cells (rowA 36 (wyF (.slice none 0 0) (fun _ => 0) 0 0 (.slice none 0 0))) 54)
  rw [World.size_alloc] at r3
  have r4 := (rowIs_box ((w.alloc (.cells (rowA 36 (wyF u d (i : Int) (n : Int) p)) 54)).alloc (.cells (rowA 36 (wyF u' d' (i : Int) (n : Int) p')) 54)) 54 36 (wyF (.slice none 0 0) (fun _ => 0) 0 0 (.slice none 0 0))).alloc (.cells (rowA 36 (wyF (.slice none 0 0) (fun _ => 0) 0 0 (.slice none 0 0))) 54)
  rw [World.size_alloc, World.size_alloc] at r4
  have r5 := rowIs_box (((w.alloc (.cells (rowA 36 (wyF u d (i : Int) (n : Int) p)) 54)).alloc (.cells (rowA 36 (wyF u' d' (i : Int) (n : Int) p')) 54)).alloc (.cells (rowA 36 (wyF (.slice none 0 0) (fun _ => 0) 0 0 (.slice none 0 0))) 54)) 54 36 (wyF (.slice none 0 0) (fun _ => 0) 0 0 (.slice none 0 0))
  rw [World.size_alloc, World.size_alloc, World.size_alloc] at r5
  have hN : NewT w ((((w.alloc (.cells (rowA 36 (wyF u d (i : Int) (n : Int) p)) 54)).alloc (.cells (rowA 36 (wyF u' d' (i : Int) (n : Int) p')) 54)).alloc (.cells (rowA 36 (wyF (.slice none 0 0) (fun _ => 0) 0 0 (.slice none 0 0))) 54)).alloc (.cells (rowA 36 (wyF (.slice none 0 0) (fun _ => 0) 0 0 (.slice none 0 0))) 54)) := (NewT.trans _ _ _ (NewT.trans _ _ _ (NewT.trans _ _ _ (NewT.alloc _ _) (NewT.alloc _ _)) (NewT.alloc _ _)) (NewT.alloc _ _))
  change Code.wp _ _ _ _ ((((w.alloc (.cells (rowA 36 (wyF u d (i : Int) (n : Int) p)) 54)).alloc (.cells (rowA 36 (wyF u' d' (i : Int) (n : Int) p')) 54)).alloc (.cells (rowA 36 (wyF (.slice none 0 0) (fun _ => 0) 0 0 (.slice none 0 0))) 54)).alloc (.cells (rowA 36 (wyF (.slice none 0 0) (fun _ => 0) 0 0 (.slice none 0 0))) 54))
  generalize ((((w.alloc (.cells (rowA 36 (wyF u d (i : Int) (n : Int) p)) 54)).alloc (.cells (rowA 36 (wyF u' d' (i : Int) (n : Int) p')) 54)).alloc (.cells (rowA 36 (wyF (.slice none 0 0) (fun _ => 0) 0 0 (.slice none 0 0))) 54)).alloc (.cells (rowA 36 (wyF (.slice none 0 0) (fun _ => 0) 0 0 (.slice none 0 0))) 54)) = W0 at r2 r3 r4 r5 hN ⊢
  have R2 := Lib.hid r2
  have R3 := Lib.hid r3
  have R4 := Lib.hid r4
  have R5 := Lib.hid r5
  have HN0 := Lib.hid hN
  have HN := Lib.hid (NewT.trans _ _ _ hNW hN)
  clear r2 r3 r4 r5 hN hNW
  refine wp_region_steps0 NewT [SV.eq (.pointer (some ⟨w.heap.size, 34, none⟩)), SV.eq (.int .i64 ((n : Int))), SV.eq (.bool false)] [([(2, none)], none), ([(7, some 0)], none), ([(8, some 1)], none)] 16 3 rfl rfl (by kernel_rfl) NewT.trans (NewT.refl _) (Nat.le_of_ble_eq_true rfl) ⟨?_, ?_, ?_, trivial⟩ ?_
  · intro a wx hT hF K hK
    obtain ⟨f2, _⟩ := hF
    have f2 : a.tmps.getD 2 undef = .pointer (some ⟨w.heap.size, 0, none⟩) := f2
    refine rely_wp rfl ?_
    exact opr_fldW3 rfl f2 (hK _ _ (NewT.refl _) rfl)
  · intro a wx hT hF K hK
    obtain ⟨f7, _⟩ := hF
    have f7 : a.tmps.getD 7 undef = .pointer (some ⟨w.heap.size, 34, none⟩) := f7
    refine rely_wp rfl ?_
    exact opr_ldI (hT.row R2.out) (by decide) rfl rfl f7 (hK _ _ (NewT.refl _) rfl)
  · intro a wx hT hF K hK
    obtain ⟨f8, _⟩ := hF
    have f8 : a.tmps.getD 8 undef = .int .i64 ((n : Int)) := f8
    refine rely_wp rfl ?_
    exact opr_cmp (b := false) (.inl ⟨rfl, (by exact HL1.out)⟩) Tryd.underlying3 rfl f8 rfl (hK _ _ (NewT.refl _) rfl)
  · intro wa ka
    intro u h; obtain rfl := Eq.symm (h (by simp)); clear h
    intro u h; obtain rfl := Eq.symm (h (by simp)); clear h
    intro u h; obtain rfl := Eq.symm (h (by simp)); clear h
    refine relyEnd_nil rfl ?_
    refine wpList_end rfl ?_
    simp only [Act.put, List.setIfInBounds_toArray, List.set_cons_zero, List.set_cons_succ]
    go_simp
    replace R2 := Lib.hid (ka.row R2.out)
    replace R3 := Lib.hid (ka.row R3.out)
    replace R4 := Lib.hid (ka.row R4.out)
    replace R5 := Lib.hid (ka.row R5.out)
    replace HN := Lib.hid (NewT.trans _ _ _ HN.out ka)
    replace HN0 := Lib.hid (NewT.trans _ _ _ HN0.out ka)
    clear ka
    go_upto_region 3 with fail
    refine wp_region_rely_tail (NewT) [SV.eq (.agg (rowA 36 (wyF u d (i : Int) (n : Int) p))), svWy W l d ((i - k : Nat) : Int) ((n - k : Nat) : Int) (List.take m path), SV.eq (.agg (rowA 36 (wyF u' d' (i : Int) (n : Int) p'))), svWy W l' d' ((i - k : Nat) : Int) ((n - k : Nat) : Int) (List.take m path')] [([(2, none)], none), ([(12, some 0)], none), ([(3, none)], none), ([(14, some 2)], none)] 16 4 (by kernel_rfl) rfl rfl (Nat.zero_lt_succ _) (by kernel_rfl) (by kernel_rfl) (by kernel_rfl) NewT.trans (NewT.drew _) (Nat.le_of_ble_eq_true rfl) ⟨?_, ?_, ?_, ?_, trivial⟩ ?_
    · intro a wx hT hF K hK
      obtain ⟨f2, _⟩ := hF
      have f2 : a.tmps.getD 2 undef = .pointer (some ⟨w.heap.size, 0, none⟩) := f2
      refine rely_wp rfl ?_
      exact opr_ldWy (hT.row R2.out) rfl f2 (hK _ _ (NewT.refl _) rfl)
    · intro a wx hT hF K hK
      obtain ⟨f12, _⟩ := hF
      have f12 : a.tmps.getD 12 undef = .agg (rowA 36 (wyF u d (i : Int) (n : Int) p)) := f12
      refine rely_wp rfl ?_
      exact opr_cv (Below_r W wx (NewT.trans _ _ _ HN.out hT) u p l d i n m k path HU.out HP.out H2.out HNN.out HI.out HLP.out HML.out HK.out HIK.out) rfl Tryd.func59 (by kernel_rfl) (by kernel_rfl) (by simp only [List.map_toArray, List.map_cons, List.map_nil, eval_tmp, f12]) hK
    · intro a wx hT hF K hK
      obtain ⟨f3, _⟩ := hF
      have f3 : a.tmps.getD 3 undef = .pointer (some ⟨w.heap.size + 1, 0, none⟩) := f3
      refine rely_wp rfl ?_
      exact opr_ldWy (hT.row R3.out) rfl f3 (hK _ _ (NewT.refl _) rfl)
    · intro a wx hT hF K hK
      obtain ⟨f14, _⟩ := hF
      have f14 : a.tmps.getD 14 undef = .agg (rowA 36 (wyF u' d' (i : Int) (n : Int) p')) := f14
      refine rely_wp rfl ?_
      exact opr_cv (Below_r W wx (NewT.trans _ _ _ HN.out hT) u' p' l' d' i n m k path' HV.out HQ.out H2.out HNN.out HI.out HLQ.out HML.out HK.out HIK.out) rfl Tryd.func59 (by kernel_rfl) (by kernel_rfl) (by simp only [List.map_toArray, List.map_cons, List.map_nil, eval_tmp, f14]) hK
    · intro we ke
      intro u h; obtain rfl := Eq.symm (h (by simp)); clear h
      intro u13 h; have g13 := h (by simp); clear h; replace g13 := show (svWy W l d ((i - k : Nat) : Int) ((n - k : Nat) : Int) (List.take m path)).pred u13 we from g13
      intro u h; obtain rfl := Eq.symm (h (by simp)); clear h
      intro u15 h; have g15 := h (by simp); clear h; replace g15 := show (svWy W l' d' ((i - k : Nat) : Int) ((n - k : Nat) : Int) (List.take m path')).pred u15 we from g15
      refine relyEnd_nil rfl ?_
      simp only [Act.put, List.setIfInBounds_toArray, List.set_cons_zero, List.set_cons_succ]
      obtain ⟨u1, p1, rfl, hu1, hp1⟩ := g13
      obtain ⟨u2, p2, rfl, hu2, hp2⟩ := g15
      refine wpList_plain rfl (fun K hK => ?_)
      refine opr_putm (F := wyF u1 d ((i - k : Nat) : Int) ((n - k : Nat) : Int) p1) rfl rfl rfl (ke.row R4.out) (by decide) infoW (wyF_one (sl_one (rd_sl hu1)) (sl_one (rdH_sl hp1))) (fun i hi => by rw [if_pos (by omega), Nat.sub_zero]) ?_
      intro w7 hR7 r4
      refine hK _ _ ?_
      clear hK K
      simp only [Act.put, List.setIfInBounds_toArray, List.set_cons_zero, List.set_cons_succ]
      refine wpList_plain rfl (fun K hK => ?_)
      refine opr_putm (F := wyF u2 d' ((i - k : Nat) : Int) ((n - k : Nat) : Int) p2) rfl rfl rfl (hR7.row (by omega) (ke.row R5.out)) (by decide) infoW (wyF_one (sl_one (rd_sl hu2)) (sl_one (rdH_sl hp2))) (fun i hi => by rw [if_pos (by omega), Nat.sub_zero]) ?_
      intro w8 hR8 r5
      refine hK _ _ ?_
      clear hK K
      simp only [Act.put, List.setIfInBounds_toArray, List.set_cons_zero, List.set_cons_succ]
      refine wpList_plain rfl (fun K hK => ?_)
      refine opr_move (.inr rfl) (hK _ _ ?_)
      refine wpList_end rfl ?_
      simp only [Act.put, List.setIfInBounds_toArray, List.set_cons_zero, List.set_cons_succ]
      go_simp
      go_wp2
      exact bodyPost_ret (results_rrt rfl rfl rfl rfl (hR8.row (by omega) r4) r5 Tryd.underlying54 rfl infoW) rfl ⟨_, rfl, NewT.rt (NewT.rt (NewT.trans _ _ _ HN0.out ke) hR7 (by omega)) hR8 (by omega), _, _, rfl, ⟨u1, p1, rfl, hu1, hp1⟩, ⟨u2, p2, rfl, hu2, hp2⟩⟩
end Go.Proofs.YtlnedphnphabkaaDoor
/- The clash of two paths, gone down from the root by texts. No program is named but for a hash's digits. -/
namespace Go.Proofs.YtlnedphnphabkaaDoor
set_option maxRecDepth 8000
set_option linter.all false
section
variable (sm : Tx → Tx)
theorem textP_snoc (bs : List Bool) : ∀ (t : Tx) (ps : List Tx) (b : Bool) (p : Tx), bs.length = ps.length → textP sm t (bs ++ [b]) (ps ++ [p]) = upT sm (textP sm t bs ps) b p := by
  induction bs with
  | nil => intro t ps b p h; obtain rfl : ps = [] := List.eq_nil_of_length_eq_zero (by simpa using h.symm)
           rfl
  | cons c bs ih =>
    intro t ps b p h
    match ps, h with
    | q :: ps, h => exact ih _ ps b p (by simpa using h)
theorem findP_snoc (bs : List Bool) : ∀ (t u : Tx) (ps qs : List Tx) (b : Bool) (p q : Tx), bs.length = ps.length → bs.length = qs.length →
    findP sm t u (bs ++ [b]) (ps ++ [p]) (qs ++ [q]) = (if textP sm t (bs ++ [b]) (ps ++ [p]) ≠ textP sm u (bs ++ [b]) (qs ++ [q]) ∧ sm (textP sm t (bs ++ [b]) (ps ++ [p])) = sm (textP sm u (bs ++ [b]) (qs ++ [q])) then some (textP sm t (bs ++ [b]) (ps ++ [p]), textP sm u (bs ++ [b]) (qs ++ [q])) else none).or (findP sm t u bs ps qs) := by
  induction bs with
  | nil =>
    intro t u ps qs b p q h1 h2
    obtain rfl : ps = [] := List.eq_nil_of_length_eq_zero (by simpa using h1.symm)
    obtain rfl : qs = [] := List.eq_nil_of_length_eq_zero (by simpa using h2.symm)
    rfl
  | cons c bs ih =>
    intro t u ps qs b p q h1 h2
    match ps, qs, h1, h2 with
    | p0 :: ps, q0 :: qs, h1, h2 =>
      show (findP sm (upT sm t c p0) (upT sm u c q0) (bs ++ [b]) (ps ++ [p]) (qs ++ [q])).or _ = _
      rw [ih _ _ ps qs b p q (by simpa using h1) (by simpa using h2), Option.or_assoc]
      rfl
/-- The text that a path's root is the digest of. -/
def txW (l : Tx) (i n : Nat) (path : List Hs) : Tx := textP sm (0 :: l) (leftsM i n) (path.map digL)
def fdW (l l' : Tx) (i n : Nat) (p q : List Hs) : Option (Tx × Tx) := findP sm (0 :: l) (0 :: l') (leftsM i n) (p.map digL) (q.map digL)
structure PApart (l l' : Tx) (i n : Nat) (p q : List Hs) : Prop where
  ne : l ≠ l'
  lt : i < n
  max : n ≤ 1048576
  len : (leftsM i n).length = p.length
  len' : (leftsM i n).length = q.length
  root : sm (txW sm l i n p) = sm (txW sm l' i n q)
/-- A step down: which side, the place, how many. -/
def dnW (i n : Nat) : Bool × Nat × Nat := if i < splitN n then (true, i, splitN n) else (false, i - splitN n, n - splitN n)
theorem dnW_lefts (i n : Nat) (h : 2 ≤ n) : leftsM i n = leftsM (dnW i n).2.1 (dnW i n).2.2 ++ [(dnW i n).1] := by
  unfold dnW
  by_cases hi : i < splitN n
  · rw [if_pos hi, leftsM_l i n h hi]
  · rw [if_neg hi, leftsM_r i n h hi]
theorem dnW_lt (i n : Nat) (h : 2 ≤ n) (hi : i < n) : (dnW i n).2.1 < (dnW i n).2.2 ∧ (dnW i n).2.2 < n := by
  have hs := splitN_lt n h
  unfold dnW
  by_cases hk : i < splitN n
  · rw [if_pos hk]; exact ⟨hk, hs.1⟩
  · rw [if_neg hk]; exact ⟨by show i - splitN n < n - splitN n; omega, by show n - splitN n < n; omega⟩
variable {sm}
theorem txW_snoc (l : Tx) (i n : Nat) (h : 2 ≤ n) (p0 : List Hs) (sd : Hs) (hl : (leftsM i n).length = (p0 ++ [sd]).length) : txW sm l i n (p0 ++ [sd]) = upT sm (txW sm l (dnW i n).2.1 (dnW i n).2.2 p0) (dnW i n).1 (digL sd) := by
  unfold txW
  rw [dnW_lefts i n h] at hl ⊢
  rw [List.map_append, List.map_cons, List.map_nil]
  exact textP_snoc sm _ _ _ _ _ (by simp at hl ⊢; exact hl)
theorem fdW_snoc (l l' : Tx) (i n : Nat) (h : 2 ≤ n) (p0 q0 : List Hs) (sd sd' : Hs) (hl : (leftsM i n).length = (p0 ++ [sd]).length) (hl' : (leftsM i n).length = (q0 ++ [sd']).length) :
    fdW sm l l' i n (p0 ++ [sd]) (q0 ++ [sd']) = (if txW sm l i n (p0 ++ [sd]) ≠ txW sm l' i n (q0 ++ [sd']) ∧ sm (txW sm l i n (p0 ++ [sd])) = sm (txW sm l' i n (q0 ++ [sd'])) then some (txW sm l i n (p0 ++ [sd]), txW sm l' i n (q0 ++ [sd'])) else none).or (fdW sm l l' (dnW i n).2.1 (dnW i n).2.2 p0 q0) := by
  unfold fdW txW
  rw [dnW_lefts i n h] at hl hl' ⊢
  simp only [List.map_append, List.map_cons, List.map_nil]
  exact findP_snoc sm _ _ _ _ _ _ _ _ (by simp at hl ⊢; exact hl) (by simp at hl' ⊢; exact hl')
theorem snoc_of {α : Type} {l : List α} {m : Nat} (h : l.length = m + 1) : ∃ x, l[m]? = some x ∧ l = l.take m ++ [x] := by
  obtain ⟨x, hx⟩ : ∃ x, l[m]? = some x := ⟨_, List.getElem?_eq_getElem (by omega)⟩
  refine ⟨x, hx, ?_⟩
  have := List.take_add_one (l := l) (i := m)
  rw [hx, List.take_of_length_le (by omega)] at this
  simpa using this
theorem lefts_len (i n : Nat) (h : 2 ≤ n) : (leftsM i n).length = (leftsM (dnW i n).2.1 (dnW i n).2.2).length + 1 := by rw [dnW_lefts i n h]; simp
theorem papart_end {l l' : Tx} {i n : Nat} {p q : List Hs} (h : PApart sm l l' i n p q) (hne : txW sm l i n p ≠ txW sm l' i n q) : fdW sm l l' i n p q = some (txW sm l i n p, txW sm l' i n q) := by
  by_cases h2 : 2 ≤ n
  · obtain ⟨x, hx, ex⟩ := snoc_of (h.len.symm.trans (lefts_len i n h2))
    obtain ⟨y, hy, ey⟩ := snoc_of (h.len'.symm.trans (lefts_len i n h2))
    generalize p.take _ = p0 at ex
    generalize q.take _ = q0 at ey
    subst ex ey
    rw [fdW_snoc l l' i n h2 p0 q0 x y h.len h.len', if_pos ⟨hne, h.root⟩]; rfl
  · have e : leftsM i n = [] := leftsM_few i n (by omega)
    have hr := h.root
    unfold txW at hne hr ⊢
    unfold fdW
    rw [e] at hne hr ⊢
    have hne' : (0 :: l : Tx) ≠ 0 :: l' := hne
    have hr' : sm (0 :: l) = sm (0 :: l') := hr
    show (if (0 :: l : Tx) ≠ 0 :: l' ∧ sm (0 :: l) = sm (0 :: l') then some ((0 :: l : Tx), (0 :: l' : Tx)) else none) = _
    rw [if_pos ⟨hne', hr'⟩]; rfl
theorem papart_down (h32 : ∀ t, (sm t).length = 32) {l l' : Tx} {i n : Nat} {p q : List Hs} (h : PApart sm l l' i n p q) (he : txW sm l i n p = txW sm l' i n q) : 2 ≤ n ∧ ∃ m, p.length = m + 1 ∧ q.length = m + 1 ∧ PApart sm l l' (dnW i n).2.1 (dnW i n).2.2 (p.take m) (q.take m) ∧ fdW sm l l' (dnW i n).2.1 (dnW i n).2.2 (p.take m) (q.take m) = fdW sm l l' i n p q := by
  by_cases h2 : 2 ≤ n
  · refine ⟨h2, _, h.len.symm.trans (lefts_len i n h2), h.len'.symm.trans (lefts_len i n h2), ?_⟩
    obtain ⟨x, hx, ex⟩ := snoc_of (h.len.symm.trans (lefts_len i n h2))
    obtain ⟨y, hy, ey⟩ := snoc_of (h.len'.symm.trans (lefts_len i n h2))
    have l1 : (leftsM (dnW i n).2.1 (dnW i n).2.2).length = (p.take (leftsM (dnW i n).2.1 (dnW i n).2.2).length).length := by
      have := h.len.symm.trans (lefts_len i n h2); rw [List.length_take]; omega
    have l2 : (leftsM (dnW i n).2.1 (dnW i n).2.2).length = (q.take (leftsM (dnW i n).2.1 (dnW i n).2.2).length).length := by
      have := h.len'.symm.trans (lefts_len i n h2); rw [List.length_take]; omega
    generalize p.take _ = p0 at ex l1 ⊢
    generalize q.take _ = q0 at ey l2 ⊢
    subst ex ey
    have hd := dnW_lt i n h2 h.lt
    have hm := h.max
    have he' := he
    rw [txW_snoc l i n h2 p0 x h.len, txW_snoc l' i n h2 q0 y h.len'] at he'
    have hu := (upT_inj h32 (digL_length _) (digL_length _) he').1
    refine ⟨⟨h.ne, hd.1, by omega, l1, l2, hu⟩, ?_⟩
    rw [fdW_snoc l l' i n h2 p0 q0 x y h.len h.len', if_neg (fun hc => hc.1 he)]; rfl
  · exfalso
    have e : leftsM i n = [] := leftsM_few i n (by omega)
    unfold txW at he
    rw [e] at he
    have he' : (0 :: l : Tx) = 0 :: l' := he
    exact h.ne (by simpa using he')
end
section
variable {node : Hs → Hs → Hs} {z : Hs} {lf : List UInt8 → Hs} {sm : Tx → Tx}
theorem ClashH.digFold (h : ClashH node z lf sm) (bs : List Bool) : ∀ (d : Hs) (ps : List Hs), digL (foldP node d bs ps) = foldP (nodeS sm) (digL d) bs (ps.map digL) := by
  induction bs with
  | nil => intro d ps; cases ps <;> rfl
  | cons b bs ih =>
    intro d ps
    match ps with
    | [] => rfl
    | p :: ps =>
      show digL (foldP node (if b then node d p else node p d) bs ps) = foldP (nodeS sm) (if b then nodeS sm (digL d) (digL p) else nodeS sm (digL p) (digL d)) bs (ps.map digL)
      rw [ih]
      cases b
      · rw [if_neg (by decide), if_neg (by decide), h.digNode]
      · rw [if_pos rfl, if_pos rfl, h.digNode]
theorem ClashH.digUp (h : ClashH node z lf sm) (l : Tx) (i n : Nat) (p : List Hs) (hl : (leftsM i n).length = p.length) : digL (upP node (lf l) i n p) = sm (txW sm l i n p) := by
  unfold upP txW
  rw [h.digFold, h.digLeaf]
  exact textP_fold sm (leftsM i n) (0 :: l) (p.map digL) (by rw [List.length_map]; exact hl)
theorem okP_iff (i n : Int) (c : Nat) : okP i n c = true ↔ 0 ≤ i ∧ i < n ∧ n ≤ 1048576 ∧ (leftsM i.toNat n.toNat).length = c := by unfold okP; simp
theorem okP_nat {i n c : Nat} (h1 : i < n) (h2 : n ≤ 1048576) (h3 : (leftsM i n).length = c) : okP (i : Int) (n : Int) c = true := (okP_iff _ _ _).2 ⟨by omega, by omega, by omega, by simpa using h3⟩
theorem ClashH.digComes (h : ClashH node z lf sm) (z0 : Hs) (l : Tx) (i n : Int) (p : List Hs) (ho : okP i n p.length = true) : digL (comesM node z0 (lf l) i n p) = sm (txW sm l i.toNat n.toNat p) := by
  unfold comesM
  rw [if_pos ho]
  exact h.digUp l _ _ p ((okP_iff _ _ _).1 ho).2.2.2
variable (node lf sm)
/-- The clash of two leaves' paths, as the program tells it. -/
def pathX (z0 : Hs) (l l' : Tx) (i n : Int) (p q : List Hs) : Option (Tx × Tx) :=
  if l = l' ∨ okP i n p.length = false ∨ okP i n q.length = false ∨ eqH (comesM node z0 (lf l) i n p) (comesM node z0 (lf l') i n q) = false then none else fdW sm l l' i.toNat n.toNat p q
end
end Go.Proofs.YtlnedphnphabkaaDoor
/- The clash of two paths: clash.ofPaths, clash.Paths. -/
namespace Go.Proofs.YtlnedphnphabkaaDoor
open Go Go.RowKit
set_option maxRecDepth 8000
set_option linter.all false
def WyR (W : World) (lf : List UInt8 → Hs) (sm : Tx → Tx) (l l' : Tx) (s : Nat × Nat × List Hs × List Hs) (F G : Nat → Value) : Prop :=
  WyP W F l (lf l) (s.1 : Int) (s.2.1 : Int) s.2.2.1 ∧ WyP W G l' (lf l') (s.1 : Int) (s.2.1 : Int) s.2.2.2 ∧ PApart sm l l' s.1 s.2.1 s.2.2.1 s.2.2.2 ∧ s.2.2.1.length ≤ 1000
def mIn : Option Value → Nat
  | some (.int _ n) => n.toNat
  | _ => 0
theorem WyP.one {W : World} {F : Nat → Value} {l : Tx} {d : Hs} {i n : Int} {p : List Hs} (hp : WyP W F l d i n p) (j : Nat) : (F j).oneCell' = true := by
  obtain ⟨u, q, rfl, hu, h2⟩ := hp
  exact wyF_one (sl_one (rd_sl hu)) (sl_one (rdH_sl h2)) j
theorem WyP.meas {W : World} {F : Nat → Value} {l : Tx} {d : Hs} {i : Int} {n : Nat} {p : List Hs} (hp : WyP W F l d i (n : Int) p) : mIn (some (F 34)) = n := by
  obtain ⟨u, q, rfl, hu, _⟩ := hp
  show (n : Int).toNat = n
  simp
theorem TextW {node : Hs → Hs → Hs} {z : Hs} {lf : List UInt8 → Hs} {sm : Tx → Tx} (hC : ClashH node z lf sm) (W w : World) (hNW : NewT W w) (hT : Tables W) (u p : Value) (l : Tx) (i n : Nat) (path : List Hs) (hu : RdV W [] u l) (hp : RdH W p path) (hl : l.length ≤ 10000) (hi : i < n) (hn : n ≤ 1048576) (hlen : (leftsM i n).length = path.length) (hpl : path.length ≤ 1000) : Cv 56 #[.agg (rowA 36 (wyF u (lf l) (i : Int) (n : Int) p)), .func (.func 23) #[] #[]] w (svRd (txW sm l i n path)) := by
  by_cases h2 : 2 ≤ n
  · have hm := hlen.symm.trans (lefts_len i n h2)
    obtain ⟨x, hx, ex⟩ := snoc_of hm
    have hd := dnW_lt i n h2 hi
    have e0 : txW sm l i n path = upT sm (txW sm l (dnW i n).2.1 (dnW i n).2.2 (path.take (leftsM (dnW i n).2.1 (dnW i n).2.2).length)) (dnW i n).1 (digL x) := by
      conv => lhs; rw [ex]
      exact txW_snoc l i n h2 _ x (by rw [← ex]; exact hlen)
    have l1 : (leftsM (dnW i n).2.1 (dnW i n).2.2).length = (path.take (leftsM (dnW i n).2.1 (dnW i n).2.2).length).length := by rw [List.length_take]; omega
    have hok := okP_nat hd.1 (by omega) l1
    have hdig := hC.digComes (fun _ => 0) l _ _ _ hok
    rw [Int.toNat_natCast, Int.toNat_natCast] at hdig
    rw [e0]
    unfold upT
    rw [← hdig]
    have hs := splitN_lt n h2
    by_cases hk : i < splitN n
    · have ed : dnW i n = (true, i, splitN n) := by unfold dnW; rw [if_pos hk]
      rw [ed] at hm hx ⊢
      rw [if_pos rfl]
      exact WText_l hC.tree W w hNW hT u p l (lf l) x _ i n _ _ path hu hp h2 hn hi hm (by omega) rfl hk hx rfl
    · have ed : dnW i n = (false, i - splitN n, n - splitN n) := by unfold dnW; rw [if_neg hk]
      rw [ed] at hm hx ⊢
      rw [if_neg Bool.false_ne_true]
      exact WText_r hC.tree W w hNW hT u p l (lf l) x _ i n _ _ path hu hp h2 hn hi hm (by omega) rfl hk hx rfl
  · obtain rfl : n = 1 := by omega
    have e : txW sm l i 1 path = 0 :: l := by
      unfold txW; rw [leftsM_few i 1 (by omega)]
      cases path <;> rfl
    rw [e]
    exact WText_1 W w hNW u p _ l (lf l) (i : Int) path hu hp hl
theorem FAPath {node : Hs → Hs → Hs} {z : Hs} {lf : List UInt8 → Hs} {sm : Tx → Tx} (hC : ClashH node z lf sm) (w : World) (hT : Tables w) (b : Nat) (hb : w.rowIs b 78 1 (fun _ => (.func (.func 23) #[] #[]))) (l l' : Tx) (i n : Nat) (path path' : List Hs) (F G : Nat → Value) (hl : l.length ≤ 10000) (hl' : l'.length ≤ 10000) (h0 : WyR w lf sm l l' (i, n, path, path') F G) :
    Cv 57 #[.agg (rowA 36 F), .agg (rowA 36 G), .func (.func 55) #[] #[.pointer (some ⟨b, 0, none⟩)], .func (.func 58) #[] #[]] w (svT2 (e1 (fdW sm l l' i n path path')) (e2 (fdW sm l l' i n path path')) true) := by
  refine FA_W (WyR w lf sm l l') (fun s => txW sm l s.1 s.2.1 s.2.2.1) (fun s => txW sm l' s.1 s.2.1 s.2.2.2) (fun s => (fdW sm l l' s.1 s.2.1 s.2.2.1 s.2.2.2).getD ([], [])) mIn w (.pointer (some ⟨b, 0, none⟩)) ?_ ?_ ?_ ?_ ?_ (i, n, path, path') F G h0
  · intro s F G h
    exact ⟨h.1.one, h.2.1.one⟩
  · rintro s F G w' ⟨⟨u, p, rfl, hu, hp⟩, _, ha, hc⟩ hN
    exact Text_W w' _ b _ (hN.row hb) fun w2 hN2 => TextW hC w w2 (NewT.trans _ _ _ hN hN2) hT u p l s.1 s.2.1 s.2.2.1 hu hp hl ha.lt ha.max ha.len hc
  · rintro s F G w' ⟨_, ⟨u, p, rfl, hu, hp⟩, ha, hc⟩ hN
    exact Text_W w' _ b _ (hN.row hb) fun w2 hN2 => TextW hC w w2 (NewT.trans _ _ _ hN hN2) hT u p l' s.1 s.2.1 s.2.2.2 hu hp hl' ha.lt ha.max ha.len' (by rw [← ha.len', ha.len]; exact hc)
  · rintro s F G w' ⟨l1, l2, ha, hc⟩ hN he
    have hme := l1.meas
    obtain ⟨u, p, rfl, hu, hp⟩ := l1
    obtain ⟨u', p', rfl, hu', hp'⟩ := l2
    obtain ⟨h2, m, m1, m2, a1, a2⟩ := papart_down hC.len ha he
    have hd := dnW_lt s.1 s.2.1 h2 ha.lt
    by_cases hk : s.1 < splitN s.2.1
    · have ed : dnW s.1 s.2.1 = (true, s.1, splitN s.2.1) := by unfold dnW; rw [if_pos hk]
      rw [ed] at a1 a2 hd
      refine Cv_imp (WDown_l w w' hN u p u' p' l l' (lf l) (lf l') s.1 s.2.1 m _ s.2.2.1 s.2.2.2 hu hp hu' hp' h2 ha.max ha.lt m1 m2 (by omega) rfl hk) ?_
      rintro v w2 ⟨F1, G1, rfl, g1, g2⟩
      refine ⟨F1, G1, rfl, (s.1, splitN s.2.1, s.2.2.1.take m, s.2.2.2.take m), ⟨g1, g2, a1, by rw [List.length_take]; omega⟩, by simp only [a2], ?_⟩
      rw [g1.meas, hme]; exact hd.2
    · have ed : dnW s.1 s.2.1 = (false, s.1 - splitN s.2.1, s.2.1 - splitN s.2.1) := by unfold dnW; rw [if_neg hk]
      rw [ed] at a1 a2 hd
      refine Cv_imp (WDown_r w w' hN u p u' p' l l' (lf l) (lf l') s.1 s.2.1 m _ s.2.2.1 s.2.2.2 hu hp hu' hp' h2 ha.max ha.lt m1 m2 (by omega) rfl hk) ?_
      rintro v w2 ⟨F1, G1, rfl, g1, g2⟩
      refine ⟨F1, G1, rfl, (s.1 - splitN s.2.1, s.2.1 - splitN s.2.1, s.2.2.1.take m, s.2.2.2.take m), ⟨g1, g2, a1, by rw [List.length_take]; omega⟩, by simp only [a2], ?_⟩
      rw [g1.meas, hme]; exact hd.2
  · rintro s F G ⟨_, _, ha, _⟩ hne
    show (fdW sm l l' s.1 s.2.1 s.2.2.1 s.2.2.2).getD ([], []) = _
    rw [papart_end ha hne]; rfl
set_option maxHeartbeats 4000000 in
theorem OfPaths_cv {node : Hs → Hs → Hs} {z : Hs} {lf : List UInt8 → Hs} {sm : Tx → Tx} (hC : ClashH node z lf sm) (w : World) (hT : Tables w) (u p u' p' : Value) (l l' : Tx) (i n : Int) (path path' : List Hs) (hu : RdV w [] u l) (hp : RdH w p path) (hv : RdV w [] u' l') (hq : RdH w p' path') (hl : l.length ≤ 10000) (hl' : l'.length ≤ 10000) (hpn : path.length ≤ 1000) (hqn : path'.length ≤ 1000) :
    Cv 36 #[.agg (rowA 36 (wyF u (lf l) i n p)), .agg (rowA 36 (wyF u' (lf l') i n p')), .func (.func 23) #[] #[]] w (svT2 (e1 (pathX node lf sm (fun _ => 0) l l' i n path path')) (e2 (pathX node lf sm (fun _ => 0) l l' i n path path')) (pathX node lf sm (fun _ => 0) l l' i n path path').isSome) := by
  unfold Cv
  have hX : TreeH node z := hC.tree
  have HT := Lib.hid hT
  have HU := Lib.hid hu
  have HP := Lib.hid hp
  have HV := Lib.hid hv
  have HQ := Lib.hid hq
  have HPN := Lib.hid hpn
  have HQN := Lib.hid hqn
  have HL := Lib.hid hl
  have HLL := Lib.hid hl'
  obtain ⟨q1, hq1⟩ : ∃ q, decide (l = l') = q := ⟨_, rfl⟩
  have HQ1 := Lib.hid hq1
  clear hT hu hp hv hq hl hl' hpn hqn hq1
  go_enter Tryd.func36, Tryd.ntmps36
  go_upto_region 1 with fail
  have r3 := ((rowIs_box w 54 36 (wyF u (lf l) i n p)).alloc (.cells (rowA 36 (wyF u' (lf l') i n p')) 54)).alloc (.cells #[(.func (.func 23) #[] #[])] 78)
  have r4 := (rowIs_box (w.alloc (.cells (rowA 36 (wyF u (lf l) i n p)) 54)) 54 36 (wyF u' (lf l') i n p')).alloc (.cells #[(.func (.func 23) #[] #[])] 78)
  rw [World.size_alloc] at r4
  have r5 := rowIs_one ((w.alloc (.cells (rowA 36 (wyF u (lf l) i n p)) 54)).alloc (.cells (rowA 36 (wyF u' (lf l') i n p')) 54)) 78 (.func (.func 23) #[] #[])
  rw [World.size_alloc, World.size_alloc] at r5
  have hN : NewT w (((w.alloc (.cells (rowA 36 (wyF u (lf l) i n p)) 54)).alloc (.cells (rowA 36 (wyF u' (lf l') i n p')) 54)).alloc (.cells #[(.func (.func 23) #[] #[])] 78)) := (NewT.trans _ _ _ (NewT.trans _ _ _ (NewT.alloc _ _) (NewT.alloc _ _)) (NewT.alloc _ _))
  change Code.wp _ _ _ _ (((w.alloc (.cells (rowA 36 (wyF u (lf l) i n p)) 54)).alloc (.cells (rowA 36 (wyF u' (lf l') i n p')) 54)).alloc (.cells #[(.func (.func 23) #[] #[])] 78))
  generalize (((w.alloc (.cells (rowA 36 (wyF u (lf l) i n p)) 54)).alloc (.cells (rowA 36 (wyF u' (lf l') i n p')) 54)).alloc (.cells #[(.func (.func 23) #[] #[])] 78)) = W0 at r3 r4 r5 hN ⊢
  have R3 := Lib.hid r3
  have R4 := Lib.hid r4
  have R5 := Lib.hid r5
  replace HT := Lib.hid (hN.tables HT.out)
  replace HU := Lib.hid (hN.rd HU.out)
  replace HV := Lib.hid (hN.rd HV.out)
  replace HP := Lib.hid (hN.hs HP.out)
  replace HQ := Lib.hid (hN.hs HQ.out)
  have HN := Lib.hid hN
  clear r3 r4 r5 hN
  refine wp_region_steps0 NewT [SV.eq (.pointer (some ⟨w.heap.size, 0, none⟩)), SV.eq (u), SV.eq (.pointer (some ⟨w.heap.size + 1, 0, none⟩)), SV.eq (u'), SV.eq (.bool (q1))] [([(3, none)], none), ([(14, some 0)], none), ([(4, none)], none), ([(16, some 2)], none), ([(15, some 1), (17, some 3)], none)] 64 5 rfl rfl (by kernel_rfl) NewT.trans (NewT.refl _) (Nat.le_of_ble_eq_true rfl) ⟨?_, ?_, ?_, ?_, ?_, trivial⟩ ?_
  · intro a wx hT hF K hK
    obtain ⟨f3, _⟩ := hF
    have f3 : a.tmps.getD 3 undef = .pointer (some ⟨w.heap.size, 0, none⟩) := f3
    refine rely_wp rfl ?_
    exact opr_fldW0 rfl f3 (hK _ _ (NewT.refl _) rfl)
  · intro a wx hT hF K hK
    obtain ⟨f14, _⟩ := hF
    have f14 : a.tmps.getD 14 undef = .pointer (some ⟨w.heap.size, 0, none⟩) := f14
    refine rely_wp rfl ?_
    exact opr_ldB (hT.row R3.out) (by decide) rfl rfl f14 (hK _ _ (NewT.refl _) rfl)
  · intro a wx hT hF K hK
    obtain ⟨f4, _⟩ := hF
    have f4 : a.tmps.getD 4 undef = .pointer (some ⟨w.heap.size + 1, 0, none⟩) := f4
    refine rely_wp rfl ?_
    exact opr_fldW0 rfl f4 (hK _ _ (NewT.refl _) rfl)
  · intro a wx hT hF K hK
    obtain ⟨f16, _⟩ := hF
    have f16 : a.tmps.getD 16 undef = .pointer (some ⟨w.heap.size + 1, 0, none⟩) := f16
    refine rely_wp rfl ?_
    exact opr_ldB (hT.row R4.out) (by decide) rfl rfl f16 (hK _ _ (NewT.refl _) rfl)
  · intro a wx hT hF K hK
    obtain ⟨f15, f17, _⟩ := hF
    have f15 : a.tmps.getD 15 undef = u := f15
    have f17 : a.tmps.getD 17 undef = u' := f17
    refine rely_wp rfl ?_
    exact opr_cv (by rw [← HQ1.out]; exact BEqualK u u' l l' wx (hT.rd HU.out) (hT.rd HV.out)) rfl Tryd.func33 (by kernel_rfl) (by kernel_rfl) (by simp only [List.map_toArray, List.map_cons, List.map_nil, eval_tmp, f15, f17]) hK
  · intro wa ka
    intro u h; obtain rfl := Eq.symm (h (by simp)); clear h
    intro u h; obtain rfl := Eq.symm (h (by simp)); clear h
    intro u h; obtain rfl := Eq.symm (h (by simp)); clear h
    intro u h; obtain rfl := Eq.symm (h (by simp)); clear h
    intro u h; obtain rfl := Eq.symm (h (by simp)); clear h
    refine relyEnd_nil rfl ?_
    refine wpList_end rfl ?_
    simp only [Act.put, List.setIfInBounds_toArray, List.set_cons_zero, List.set_cons_succ]
    go_simp
    replace R3 := Lib.hid (ka.row R3.out)
    replace R4 := Lib.hid (ka.row R4.out)
    replace R5 := Lib.hid (ka.row R5.out)
    replace HT := Lib.hid (ka.tables HT.out)
    replace HU := Lib.hid (ka.rd HU.out)
    replace HV := Lib.hid (ka.rd HV.out)
    replace HP := Lib.hid (ka.hs HP.out)
    replace HQ := Lib.hid (ka.hs HQ.out)
    replace HN := Lib.hid (NewT.trans _ _ _ HN.out ka)
    clear ka
    cases q1
    · go_upto_region 3 with fail
      refine wp_region_steps0 NewT [SV.eq ((.func (.func 23) #[] #[])), SV.eq (.pointer (some ⟨w.heap.size, 1, none⟩)), SV.eq (.agg (rowA 32 (bF (lf l)))), SV.eq (.pointer (some ⟨w.heap.size, 33, none⟩)), SV.eq (.int .i64 (i)), SV.eq (.pointer (some ⟨w.heap.size, 34, none⟩)), SV.eq (.int .i64 (n)), SV.eq (.pointer (some ⟨w.heap.size, 35, none⟩)), SV.eq (p), SV.eq ((.tuple #[.agg (rowA 32 (bF (comesM node (fun _ => 0) (lf l) (i) (n) (path)))), .bool (okP (i) (n) (List.length (path)))])), SV.eq ((.tuple #[.agg (rowA 32 (bF (comesM node (fun _ => 0) (lf l) (i) (n) (path)))), .bool (okP (i) (n) (List.length (path)))])), SV.eq (.agg (rowA 32 (bF (comesM node (fun _ => 0) (lf l) (i) (n) (path))))), SV.eq (.bool (okP (i) (n) (List.length (path))))] [([(5, none)], none), ([(3, none)], none), ([(21, some 1)], none), ([(3, none)], none), ([(23, some 3)], none), ([(3, none)], none), ([(25, some 5)], none), ([(3, none)], none), ([(27, some 7)], none), ([(20, some 0), (22, some 2), (24, some 4), (26, some 6), (28, some 8)], none), ([(29, some 9)], none), ([(19, some 10)], none), ([(19, some 10)], none)] 64 13 rfl rfl (by kernel_rfl) NewT.trans (NewT.refl _) (Nat.le_of_ble_eq_true rfl) ⟨?_, ?_, ?_, ?_, ?_, ?_, ?_, ?_, ?_, ?_, ?_, ?_, ?_, trivial⟩ ?_
      · intro a wx hT hF K hK
        obtain ⟨f5, _⟩ := hF
        have f5 : a.tmps.getD 5 undef = .pointer (some ⟨w.heap.size + 1 + 1, 0, none⟩) := f5
        refine rely_wp rfl ?_
        exact opr_ldFC (hT.row R5.out) (by decide) rfl rfl f5 (hK _ _ (NewT.refl _) rfl)
      · intro a wx hT hF K hK
        obtain ⟨f3, _⟩ := hF
        have f3 : a.tmps.getD 3 undef = .pointer (some ⟨w.heap.size, 0, none⟩) := f3
        refine rely_wp rfl ?_
        exact opr_fldW1 rfl f3 (hK _ _ (NewT.refl _) rfl)
      · intro a wx hT hF K hK
        obtain ⟨f21, _⟩ := hF
        have f21 : a.tmps.getD 21 undef = .pointer (some ⟨w.heap.size, 1, none⟩) := f21
        refine rely_wp rfl ?_
        exact opr_ldH (hT.row R3.out) (by decide) (wyF_h _ _ _ _ _) rfl f21 (hK _ _ (NewT.refl _) rfl)
      · intro a wx hT hF K hK
        obtain ⟨f3, _⟩ := hF
        have f3 : a.tmps.getD 3 undef = .pointer (some ⟨w.heap.size, 0, none⟩) := f3
        refine rely_wp rfl ?_
        exact opr_fldW2 rfl f3 (hK _ _ (NewT.refl _) rfl)
      · intro a wx hT hF K hK
        obtain ⟨f23, _⟩ := hF
        have f23 : a.tmps.getD 23 undef = .pointer (some ⟨w.heap.size, 33, none⟩) := f23
        refine rely_wp rfl ?_
        exact opr_ldI (hT.row R3.out) (by decide) rfl rfl f23 (hK _ _ (NewT.refl _) rfl)
      · intro a wx hT hF K hK
        obtain ⟨f3, _⟩ := hF
        have f3 : a.tmps.getD 3 undef = .pointer (some ⟨w.heap.size, 0, none⟩) := f3
        refine rely_wp rfl ?_
        exact opr_fldW3 rfl f3 (hK _ _ (NewT.refl _) rfl)
      · intro a wx hT hF K hK
        obtain ⟨f25, _⟩ := hF
        have f25 : a.tmps.getD 25 undef = .pointer (some ⟨w.heap.size, 34, none⟩) := f25
        refine rely_wp rfl ?_
        exact opr_ldI (hT.row R3.out) (by decide) rfl rfl f25 (hK _ _ (NewT.refl _) rfl)
      · intro a wx hT hF K hK
        obtain ⟨f3, _⟩ := hF
        have f3 : a.tmps.getD 3 undef = .pointer (some ⟨w.heap.size, 0, none⟩) := f3
        refine rely_wp rfl ?_
        exact opr_fldW4 rfl f3 (hK _ _ (NewT.refl _) rfl)
      · intro a wx hT hF K hK
        obtain ⟨f27, _⟩ := hF
        have f27 : a.tmps.getD 27 undef = .pointer (some ⟨w.heap.size, 35, none⟩) := f27
        refine rely_wp rfl ?_
        exact opr_ldHs (hT.row R3.out) (by decide) rfl rfl f27 (hK _ _ (NewT.refl _) rfl)
      · intro a wx hT hF K hK
        obtain ⟨f20, f22, f24, f26, f28, _⟩ := hF
        have f20 : a.tmps.getD 20 undef = (.func (.func 23) #[] #[]) := f20
        have f22 : a.tmps.getD 22 undef = .agg (rowA 32 (bF (lf l))) := f22
        have f24 : a.tmps.getD 24 undef = .int .i64 (i) := f24
        have f26 : a.tmps.getD 26 undef = .int .i64 (n) := f26
        have f28 : a.tmps.getD 28 undef = p := f28
        refine rely_wp rfl ?_
        exact opr_cvv (cap := #[]) (Comes_cv hX (lf l) (i) (n) _ (path) wx (hT.tables HT.out) ((hT.hs HP.out)) (by have := HPN.out; have := HQN.out; omega)) rfl f20 Tryd.func23 (by kernel_rfl) (by kernel_rfl) (by simp only [List.map_toArray, List.map_cons, List.map_nil, List.append_toArray, List.cons_append, List.nil_append, List.append_nil, eval_tmp, eval_const, f22, f24, f26, f28]) hK
      · intro a wx hT hF K hK
        obtain ⟨f29, _⟩ := hF
        have f29 : a.tmps.getD 29 undef = (.tuple #[.agg (rowA 32 (bF (comesM node (fun _ => 0) (lf l) (i) (n) (path)))), .bool (okP (i) (n) (List.length (path)))]) := f29
        refine rely_wp rfl ?_
        exact opr_move (.inl rfl) (hK _ _ (NewT.refl _) f29)
      · intro a wx hT hF K hK
        obtain ⟨f19, _⟩ := hF
        have f19 : a.tmps.getD 19 undef = (.tuple #[.agg (rowA 32 (bF (comesM node (fun _ => 0) (lf l) (i) (n) (path)))), .bool (okP (i) (n) (List.length (path)))]) := f19
        refine rely_wp rfl ?_
        exact opr_ext rfl f19 rfl (hK _ _ (NewT.refl _) rfl)
      · intro a wx hT hF K hK
        obtain ⟨f19, _⟩ := hF
        have f19 : a.tmps.getD 19 undef = (.tuple #[.agg (rowA 32 (bF (comesM node (fun _ => 0) (lf l) (i) (n) (path)))), .bool (okP (i) (n) (List.length (path)))]) := f19
        refine rely_wp rfl ?_
        exact opr_ext rfl f19 rfl (hK _ _ (NewT.refl _) rfl)
      · intro wb kb
        intro u h; obtain rfl := Eq.symm (h (by simp)); clear h
        intro u h; obtain rfl := Eq.symm (h (by simp)); clear h
        intro u h; obtain rfl := Eq.symm (h (by simp)); clear h
        intro u h; obtain rfl := Eq.symm (h (by simp)); clear h
        intro u h; obtain rfl := Eq.symm (h (by simp)); clear h
        intro u h; obtain rfl := Eq.symm (h (by simp)); clear h
        intro u h; obtain rfl := Eq.symm (h (by simp)); clear h
        intro u h; obtain rfl := Eq.symm (h (by simp)); clear h
        intro u h; obtain rfl := Eq.symm (h (by simp)); clear h
        intro u h; obtain rfl := Eq.symm (h (by simp)); clear h
        intro u h; obtain rfl := Eq.symm (h (by simp)); clear h
        intro u h; obtain rfl := Eq.symm (h (by simp)); clear h
        intro u h; obtain rfl := Eq.symm (h (by simp)); clear h
        refine relyEnd_nil rfl ?_
        simp only [Act.put, List.setIfInBounds_toArray, List.set_cons_zero, List.set_cons_succ]
        refine wpList_new (n := 32) rfl rfl rfl rfl rfl rfl (by simp) run_alloc_hash info31 (fun _ => rfl) rfl ?_
        intro w5 hn5 r7
        refine wpList_plain rfl (fun K hK => ?_)
        refine opr_move (.inr rfl) (hK _ _ ?_)
        refine wpList_end rfl ?_
        simp only [Act.put, List.setIfInBounds_toArray, List.set_cons_zero, List.set_cons_succ]
        go_simp
        obtain ⟨p9, hp7⟩ : ∃ q, wb.heap.size = q := ⟨_, rfl⟩
        rw [hp7] at r7 ⊢
        replace kb := NewT.trans _ _ _ kb hn5
        have R9 := Lib.hid r7
        clear hn5 r7 hp7
        replace R3 := Lib.hid (kb.row R3.out)
        replace R4 := Lib.hid (kb.row R4.out)
        replace R5 := Lib.hid (kb.row R5.out)
        replace HT := Lib.hid (kb.tables HT.out)
        replace HU := Lib.hid (kb.rd HU.out)
        replace HV := Lib.hid (kb.rd HV.out)
        replace HP := Lib.hid (kb.hs HP.out)
        replace HQ := Lib.hid (kb.hs HQ.out)
        replace HN := Lib.hid (NewT.trans _ _ _ HN.out kb)
        clear kb
        go_upto_region 4 with fail
        refine wp_region_steps0 NewT [SV.eq ((.func (.func 23) #[] #[])), SV.eq (.pointer (some ⟨w.heap.size + 1, 1, none⟩)), SV.eq (.agg (rowA 32 (bF (lf l')))), SV.eq (.pointer (some ⟨w.heap.size + 1, 33, none⟩)), SV.eq (.int .i64 (i)), SV.eq (.pointer (some ⟨w.heap.size + 1, 34, none⟩)), SV.eq (.int .i64 (n)), SV.eq (.pointer (some ⟨w.heap.size + 1, 35, none⟩)), SV.eq (p'), SV.eq ((.tuple #[.agg (rowA 32 (bF (comesM node (fun _ => 0) (lf l') (i) (n) (path')))), .bool (okP (i) (n) (List.length (path')))])), SV.eq ((.tuple #[.agg (rowA 32 (bF (comesM node (fun _ => 0) (lf l') (i) (n) (path')))), .bool (okP (i) (n) (List.length (path')))])), SV.eq (.agg (rowA 32 (bF (comesM node (fun _ => 0) (lf l') (i) (n) (path'))))), SV.eq (.bool (okP (i) (n) (List.length (path'))))] [([(5, none)], none), ([(4, none)], none), ([(34, some 1)], none), ([(4, none)], none), ([(36, some 3)], none), ([(4, none)], none), ([(38, some 5)], none), ([(4, none)], none), ([(40, some 7)], none), ([(33, some 0), (35, some 2), (37, some 4), (39, some 6), (41, some 8)], none), ([(42, some 9)], none), ([(32, some 10)], none), ([(32, some 10)], none)] 64 13 rfl rfl (by kernel_rfl) NewT.trans (NewT.refl _) (Nat.le_of_ble_eq_true rfl) ⟨?_, ?_, ?_, ?_, ?_, ?_, ?_, ?_, ?_, ?_, ?_, ?_, ?_, trivial⟩ ?_
        · intro a wx hT hF K hK
          obtain ⟨f5, _⟩ := hF
          have f5 : a.tmps.getD 5 undef = .pointer (some ⟨w.heap.size + 1 + 1, 0, none⟩) := f5
          refine rely_wp rfl ?_
          exact opr_ldFC (hT.row R5.out) (by decide) rfl rfl f5 (hK _ _ (NewT.refl _) rfl)
        · intro a wx hT hF K hK
          obtain ⟨f4, _⟩ := hF
          have f4 : a.tmps.getD 4 undef = .pointer (some ⟨w.heap.size + 1, 0, none⟩) := f4
          refine rely_wp rfl ?_
          exact opr_fldW1 rfl f4 (hK _ _ (NewT.refl _) rfl)
        · intro a wx hT hF K hK
          obtain ⟨f34, _⟩ := hF
          have f34 : a.tmps.getD 34 undef = .pointer (some ⟨w.heap.size + 1, 1, none⟩) := f34
          refine rely_wp rfl ?_
          exact opr_ldH (hT.row R4.out) (by decide) (wyF_h _ _ _ _ _) rfl f34 (hK _ _ (NewT.refl _) rfl)
        · intro a wx hT hF K hK
          obtain ⟨f4, _⟩ := hF
          have f4 : a.tmps.getD 4 undef = .pointer (some ⟨w.heap.size + 1, 0, none⟩) := f4
          refine rely_wp rfl ?_
          exact opr_fldW2 rfl f4 (hK _ _ (NewT.refl _) rfl)
        · intro a wx hT hF K hK
          obtain ⟨f36, _⟩ := hF
          have f36 : a.tmps.getD 36 undef = .pointer (some ⟨w.heap.size + 1, 33, none⟩) := f36
          refine rely_wp rfl ?_
          exact opr_ldI (hT.row R4.out) (by decide) rfl rfl f36 (hK _ _ (NewT.refl _) rfl)
        · intro a wx hT hF K hK
          obtain ⟨f4, _⟩ := hF
          have f4 : a.tmps.getD 4 undef = .pointer (some ⟨w.heap.size + 1, 0, none⟩) := f4
          refine rely_wp rfl ?_
          exact opr_fldW3 rfl f4 (hK _ _ (NewT.refl _) rfl)
        · intro a wx hT hF K hK
          obtain ⟨f38, _⟩ := hF
          have f38 : a.tmps.getD 38 undef = .pointer (some ⟨w.heap.size + 1, 34, none⟩) := f38
          refine rely_wp rfl ?_
          exact opr_ldI (hT.row R4.out) (by decide) rfl rfl f38 (hK _ _ (NewT.refl _) rfl)
        · intro a wx hT hF K hK
          obtain ⟨f4, _⟩ := hF
          have f4 : a.tmps.getD 4 undef = .pointer (some ⟨w.heap.size + 1, 0, none⟩) := f4
          refine rely_wp rfl ?_
          exact opr_fldW4 rfl f4 (hK _ _ (NewT.refl _) rfl)
        · intro a wx hT hF K hK
          obtain ⟨f40, _⟩ := hF
          have f40 : a.tmps.getD 40 undef = .pointer (some ⟨w.heap.size + 1, 35, none⟩) := f40
          refine rely_wp rfl ?_
          exact opr_ldHs (hT.row R4.out) (by decide) rfl rfl f40 (hK _ _ (NewT.refl _) rfl)
        · intro a wx hT hF K hK
          obtain ⟨f33, f35, f37, f39, f41, _⟩ := hF
          have f33 : a.tmps.getD 33 undef = (.func (.func 23) #[] #[]) := f33
          have f35 : a.tmps.getD 35 undef = .agg (rowA 32 (bF (lf l'))) := f35
          have f37 : a.tmps.getD 37 undef = .int .i64 (i) := f37
          have f39 : a.tmps.getD 39 undef = .int .i64 (n) := f39
          have f41 : a.tmps.getD 41 undef = p' := f41
          refine rely_wp rfl ?_
          exact opr_cvv (cap := #[]) (Comes_cv hX (lf l') (i) (n) _ (path') wx (hT.tables HT.out) ((hT.hs HQ.out)) (by have := HPN.out; have := HQN.out; omega)) rfl f33 Tryd.func23 (by kernel_rfl) (by kernel_rfl) (by simp only [List.map_toArray, List.map_cons, List.map_nil, List.append_toArray, List.cons_append, List.nil_append, List.append_nil, eval_tmp, eval_const, f35, f37, f39, f41]) hK
        · intro a wx hT hF K hK
          obtain ⟨f42, _⟩ := hF
          have f42 : a.tmps.getD 42 undef = (.tuple #[.agg (rowA 32 (bF (comesM node (fun _ => 0) (lf l') (i) (n) (path')))), .bool (okP (i) (n) (List.length (path')))]) := f42
          refine rely_wp rfl ?_
          exact opr_move (.inl rfl) (hK _ _ (NewT.refl _) f42)
        · intro a wx hT hF K hK
          obtain ⟨f32, _⟩ := hF
          have f32 : a.tmps.getD 32 undef = (.tuple #[.agg (rowA 32 (bF (comesM node (fun _ => 0) (lf l') (i) (n) (path')))), .bool (okP (i) (n) (List.length (path')))]) := f32
          refine rely_wp rfl ?_
          exact opr_ext rfl f32 rfl (hK _ _ (NewT.refl _) rfl)
        · intro a wx hT hF K hK
          obtain ⟨f32, _⟩ := hF
          have f32 : a.tmps.getD 32 undef = (.tuple #[.agg (rowA 32 (bF (comesM node (fun _ => 0) (lf l') (i) (n) (path')))), .bool (okP (i) (n) (List.length (path')))]) := f32
          refine rely_wp rfl ?_
          exact opr_ext rfl f32 rfl (hK _ _ (NewT.refl _) rfl)
        · intro wc kc
          intro u h; obtain rfl := Eq.symm (h (by simp)); clear h
          intro u h; obtain rfl := Eq.symm (h (by simp)); clear h
          intro u h; obtain rfl := Eq.symm (h (by simp)); clear h
          intro u h; obtain rfl := Eq.symm (h (by simp)); clear h
          intro u h; obtain rfl := Eq.symm (h (by simp)); clear h
          intro u h; obtain rfl := Eq.symm (h (by simp)); clear h
          intro u h; obtain rfl := Eq.symm (h (by simp)); clear h
          intro u h; obtain rfl := Eq.symm (h (by simp)); clear h
          intro u h; obtain rfl := Eq.symm (h (by simp)); clear h
          intro u h; obtain rfl := Eq.symm (h (by simp)); clear h
          intro u h; obtain rfl := Eq.symm (h (by simp)); clear h
          intro u h; obtain rfl := Eq.symm (h (by simp)); clear h
          intro u h; obtain rfl := Eq.symm (h (by simp)); clear h
          refine relyEnd_nil rfl ?_
          simp only [Act.put, List.setIfInBounds_toArray, List.set_cons_zero, List.set_cons_succ]
          refine wpList_new (n := 32) rfl rfl rfl rfl rfl rfl (by simp) run_alloc_hash info31 (fun _ => rfl) rfl ?_
          intro w5 hn5 r7
          refine wpList_plain rfl (fun K hK => ?_)
          refine opr_move (.inr rfl) (hK _ _ ?_)
          refine wpList_end rfl ?_
          simp only [Act.put, List.setIfInBounds_toArray, List.set_cons_zero, List.set_cons_succ]
          go_simp
          obtain ⟨p11, hp7⟩ : ∃ q, wc.heap.size = q := ⟨_, rfl⟩
          rw [hp7] at r7 ⊢
          replace kc := NewT.trans _ _ _ kc hn5
          have R11 := Lib.hid r7
          clear hn5 r7 hp7
          replace R3 := Lib.hid (kc.row R3.out)
          replace R4 := Lib.hid (kc.row R4.out)
          replace R5 := Lib.hid (kc.row R5.out)
          replace R9 := Lib.hid (kc.row R9.out)
          replace HT := Lib.hid (kc.tables HT.out)
          replace HU := Lib.hid (kc.rd HU.out)
          replace HV := Lib.hid (kc.rd HV.out)
          replace HP := Lib.hid (kc.hs HP.out)
          replace HQ := Lib.hid (kc.hs HQ.out)
          replace HN := Lib.hid (NewT.trans _ _ _ HN.out kc)
          clear kc
          go_upto_region 5 with fail
          obtain ⟨q1_5, Q1_5⟩ : ∃ bq_, ((!(okP (i) (n) (List.length (path)))) || (!(okP (i) (n) (List.length (path'))))) = bq_ := ⟨_, rfl⟩
          obtain ⟨q2_5, Q2_5⟩ : ∃ bq_, (q1_5 || (!(eqH (comesM node (fun _ => 0) (lf l) (i) (n) (path)) (comesM node (fun _ => 0) (lf l') (i) (n) (path'))))) = bq_ := ⟨_, rfl⟩
          refine wp_region_steps0 NewT [SV.eq (.bool (okP (i) (n) (List.length (path)))), SV.eq (.bool (!(okP (i) (n) (List.length (path))))), SV.eq (.bool (!(okP (i) (n) (List.length (path))))), svIf ((!(!(okP (i) (n) (List.length (path)))))) (SV.eq (.bool (okP (i) (n) (List.length (path'))))), svIf ((!(!(okP (i) (n) (List.length (path)))))) (SV.eq (.bool (!(okP (i) (n) (List.length (path')))))), SV.eq (.bool (q1_5)), SV.eq (.bool (q1_5)), svIf ((!q1_5)) (SV.eq (.agg (rowA 32 (bF (comesM node (fun _ => 0) (lf l) (i) (n) (path)))))), svIf ((!q1_5)) (SV.eq (.agg (rowA 32 (bF (comesM node (fun _ => 0) (lf l') (i) (n) (path')))))), svIf ((!q1_5)) (SV.eq (.bool (!(eqH (comesM node (fun _ => 0) (lf l) (i) (n) (path)) (comesM node (fun _ => 0) (lf l') (i) (n) (path')))))), SV.eq (.bool (q2_5))] [([(10, none)], none), ([(45, some 0)], none), ([(46, some 1)], none), ([(12, none), (47, some 2)], some (47, false)), ([(48, some 3), (47, some 2)], some (47, false)), ([(47, some 2), (49, some 4)], none), ([(50, some 5)], none), ([(9, none), (51, some 6)], some (51, false)), ([(11, none), (51, some 6)], some (51, false)), ([(52, some 7), (53, some 8), (51, some 6)], some (51, false)), ([(51, some 6), (54, some 9)], none)] 64 11 rfl rfl (by kernel_rfl) NewT.trans (NewT.refl _) (Nat.le_of_ble_eq_true rfl) ⟨?_, ?_, ?_, ?_, ?_, ?_, ?_, ?_, ?_, ?_, ?_, trivial⟩ ?_
          · intro a wx hT hF K hK
            obtain ⟨f10, _⟩ := hF
            have f10 : a.tmps.getD 10 undef = .bool (okP (i) (n) (List.length (path))) := f10
            refine rely_wp rfl ?_
            exact opr_move (.inl rfl) (hK _ _ (NewT.refl _) f10)
          · intro a wx hT hF K hK
            obtain ⟨f45, _⟩ := hF
            have f45 : a.tmps.getD 45 undef = .bool (okP (i) (n) (List.length (path))) := f45
            refine rely_wp rfl ?_
            exact opr_not rfl f45 (hK _ _ (NewT.refl _) rfl)
          · intro a wx hT hF K hK
            obtain ⟨f46, _⟩ := hF
            have f46 : a.tmps.getD 46 undef = .bool (!(okP (i) (n) (List.length (path)))) := f46
            refine rely_wp rfl ?_
            exact opr_move (.inl rfl) (hK _ _ (NewT.refl _) f46)
          · intro a wx hT hF K hK
            obtain ⟨f12, f47, _⟩ := hF
            have f12 : a.tmps.getD 12 undef = .bool (okP (i) (n) (List.length (path'))) := f12
            have f47 : a.tmps.getD 47 undef = .bool (!(okP (i) (n) (List.length (path)))) := f47
            refine rely_if (rely_gf f47) (NewT.refl _) hK (fun hE hK => ?_)
            exact opr_move (.inl rfl) (hK _ _ (NewT.refl _) f12)
          · intro a wx hT hF K hK
            obtain ⟨f48, f47, _⟩ := hF
            have f48 : ((!(!(okP (i) (n) (List.length (path)))))) = true → a.tmps.getD 48 undef = .bool (okP (i) (n) (List.length (path'))) := f48
            have f47 : a.tmps.getD 47 undef = .bool (!(okP (i) (n) (List.length (path)))) := f47
            refine rely_if (rely_gf f47) (NewT.refl _) hK (fun hE hK => ?_)
            exact opr_not rfl (f48 hE) (hK _ _ (NewT.refl _) rfl)
          · intro a wx hT hF K hK
            obtain ⟨f47, f49, _⟩ := hF
            have f47 : a.tmps.getD 47 undef = .bool (!(okP (i) (n) (List.length (path)))) := f47
            have f49 : ((!(!(okP (i) (n) (List.length (path)))))) = true → a.tmps.getD 49 undef = .bool (!(okP (i) (n) (List.length (path')))) := f49
            refine rely_wp rfl ?_
            exact opr_pick_b rfl f47 (fun hb => hK _ _ (NewT.refl _) (pn_or1 Q1_5 hb)) (fun hb => hK _ _ (NewT.refl _) (pn_or0 Q1_5 (f49 (bnot hb)) hb))
          · intro a wx hT hF K hK
            obtain ⟨f50, _⟩ := hF
            have f50 : a.tmps.getD 50 undef = .bool (q1_5) := f50
            refine rely_wp rfl ?_
            exact opr_move (.inl rfl) (hK _ _ (NewT.refl _) f50)
          · intro a wx hT hF K hK
            obtain ⟨f9, f51, _⟩ := hF
            have f9 : a.tmps.getD 9 undef = .pointer (some ⟨p9, 0, none⟩) := f9
            have f51 : a.tmps.getD 51 undef = .bool (q1_5) := f51
            refine rely_if (rely_gf f51) (NewT.refl _) hK (fun hE hK => ?_)
            exact opr_load_hash rfl f9 (hT.row R9.out) (hK _ _ (NewT.refl _) rfl)
          · intro a wx hT hF K hK
            obtain ⟨f11, f51, _⟩ := hF
            have f11 : a.tmps.getD 11 undef = .pointer (some ⟨p11, 0, none⟩) := f11
            have f51 : a.tmps.getD 51 undef = .bool (q1_5) := f51
            refine rely_if (rely_gf f51) (NewT.refl _) hK (fun hE hK => ?_)
            exact opr_load_hash rfl f11 (hT.row R11.out) (hK _ _ (NewT.refl _) rfl)
          · intro a wx hT hF K hK
            obtain ⟨f52, f53, f51, _⟩ := hF
            have f52 : ((!q1_5)) = true → a.tmps.getD 52 undef = .agg (rowA 32 (bF (comesM node (fun _ => 0) (lf l) (i) (n) (path)))) := f52
            have f53 : ((!q1_5)) = true → a.tmps.getD 53 undef = .agg (rowA 32 (bF (comesM node (fun _ => 0) (lf l') (i) (n) (path')))) := f53
            have f51 : a.tmps.getD 51 undef = .bool (q1_5) := f51
            refine rely_if (rely_gf f51) (NewT.refl _) hK (fun hE hK => ?_)
            exact opr_neq_hash (b := !(eqH (comesM node (fun _ => 0) (lf l) (i) (n) (path)) (comesM node (fun _ => 0) (lf l') (i) (n) (path')))) rfl (f52 hE) (f53 hE) (rfl) (hK _ _ (NewT.refl _) rfl)
          · intro a wx hT hF K hK
            obtain ⟨f51, f54, _⟩ := hF
            have f51 : a.tmps.getD 51 undef = .bool (q1_5) := f51
            have f54 : ((!q1_5)) = true → a.tmps.getD 54 undef = .bool (!(eqH (comesM node (fun _ => 0) (lf l) (i) (n) (path)) (comesM node (fun _ => 0) (lf l') (i) (n) (path')))) := f54
            refine rely_wp rfl ?_
            exact opr_pick_b rfl f51 (fun hb => hK _ _ (NewT.refl _) (pn_or1 Q2_5 hb)) (fun hb => hK _ _ (NewT.refl _) (pn_or0 Q2_5 (f54 (bnot hb)) hb))
          · intro wd kd
            intro u h; obtain rfl := Eq.symm (h (by simp)); clear h
            intro u h; obtain rfl := Eq.symm (h (by simp)); clear h
            intro u h; obtain rfl := Eq.symm (h (by simp)); clear h
            intro _ _
            intro _ _
            intro u h; obtain rfl := Eq.symm (h (by simp)); clear h
            intro u h; obtain rfl := Eq.symm (h (by simp)); clear h
            intro _ _
            intro _ _
            intro _ _
            intro u h; obtain rfl := Eq.symm (h (by simp)); clear h
            subst Q2_5 Q1_5
            refine relyEnd_nil rfl ?_
            refine wpList_end rfl ?_
            simp only [Act.put, List.setIfInBounds_toArray, List.set_cons_zero, List.set_cons_succ]
            go_simp
            replace R3 := Lib.hid (kd.row R3.out)
            replace R4 := Lib.hid (kd.row R4.out)
            replace R5 := Lib.hid (kd.row R5.out)
            replace HT := Lib.hid (kd.tables HT.out)
            replace HU := Lib.hid (kd.rd HU.out)
            replace HV := Lib.hid (kd.rd HV.out)
            replace HP := Lib.hid (kd.hs HP.out)
            replace HQ := Lib.hid (kd.hs HQ.out)
            replace HN := Lib.hid (NewT.trans _ _ _ HN.out kd)
            clear kd
            clear R9 R11
            obtain ⟨q2, hq2⟩ : ∃ q, ((((!(okP (i) (n) (List.length (path)))) || (!(okP (i) (n) (List.length (path'))))) || (!(eqH (comesM node (fun _ => 0) (lf l) (i) (n) (path)) (comesM node (fun _ => 0) (lf l') (i) (n) (path')))))) = q := ⟨_, rfl⟩
            rw [hq2]
            have HQ2 := Lib.hid hq2
            clear hq2
            cases q2
            · have hc := HQ2.out
              have hco : okP (i) (n) (List.length (path)) = true ∧ okP (i) (n) (List.length (path')) = true ∧ eqH (comesM node (fun _ => 0) (lf l) (i) (n) (path)) (comesM node (fun _ => 0) (lf l') (i) (n) (path')) = true := by
                revert hc
                cases okP (i) (n) (List.length (path)) <;> cases okP (i) (n) (List.length (path')) <;> cases eqH (comesM node (fun _ => 0) (lf l) (i) (n) (path)) (comesM node (fun _ => 0) (lf l') (i) (n) (path')) <;> simp
              obtain ⟨o1, o2, o3⟩ := hco
              have hX0 : (pathX node lf sm (fun _ => 0) l l' i n path path') = fdW sm l l' i.toNat n.toNat path path' := by
                unfold pathX
                refine if_neg ?_
                rintro (h | h | h | h)
                · exact of_decide_eq_false HQ1.out h
                · rw [h] at o1; cases o1
                · rw [h] at o2; cases o2
                · rw [h] at o3; cases o3
              have k1 := (okP_iff _ _ _).1 o1
              have k2 := (okP_iff _ _ _).1 o2
              have hPA : PApart sm l l' i.toNat n.toNat path path' := ⟨of_decide_eq_false HQ1.out, by omega, by omega, k1.2.2.2, k2.2.2.2, by
                rw [← hC.digComes (fun _ => 0) l i n path o1, ← hC.digComes (fun _ => 0) l' i n path' o2]
                exact (eqH_dig _ _).1 o3⟩
              have ei : ((i.toNat : Nat) : Int) = i := by omega
              have en : ((n.toNat : Nat) : Int) = n := by omega
              have HSO : Hid ((pathX node lf sm (fun _ => 0) l l' i n path path').isSome = true) := Lib.hid (by
                rw [hX0]
                have := findP_ex hC.len (leftsM i.toNat n.toNat) (0 :: l) (0 :: l') (path.map digL) (path'.map digL) (by rw [List.length_map]; exact hPA.len) (by rw [List.length_map]; exact hPA.len') (fun x hx => by obtain ⟨y, _, rfl⟩ := List.mem_map.1 hx; exact digL_length y) (fun x hx => by obtain ⟨y, _, rfl⟩ := List.mem_map.1 hx; exact digL_length y) hPA.root (fun e => hPA.ne (by simpa using e))
                unfold fdW
                exact Option.isSome_iff_ne_none.2 this)
              have HFA : Hid (∀ w', NewT _ w' → Cv 57 #[.agg (rowA 36 (wyF u (lf l) i n p)), .agg (rowA 36 (wyF u' (lf l') i n p')), .func (.func 55) #[] #[.pointer (some ⟨w.heap.size + 1 + 1, 0, none⟩)], .func (.func 58) #[] #[]] w' (svT2 (e1 (pathX node lf sm (fun _ => 0) l l' i n path path')) (e2 (pathX node lf sm (fun _ => 0) l l' i n path path')) true)) := Lib.hid (fun w' hT' => by
                rw [hX0]
                exact FAPath hC w' (hT'.tables HT.out) _ (hT'.row R5.out) l l' i.toNat n.toNat path path' _ _ HL.out HLL.out ⟨⟨u, p, by simp only [ei, en], hT'.rd HU.out, hT'.hs HP.out⟩, ⟨u', p', by simp only [ei, en], hT'.rd HV.out, hT'.hs HQ.out⟩, hPA, HPN.out⟩)
              clear o1 o2 o3 hX0 k1 k2 hPA ei en hc
              go_upto_region 7 with fail
              refine wp_region_lit ?_
              refine wpList_plain rfl (fun K hK => ?_)
              refine opr_mkf (cap := #[.pointer (some ⟨w.heap.size + 1 + 1, 0, none⟩)]) rfl (by simp only [List.map_toArray, List.map_cons, List.map_nil]; rfl) (hK _ _ ?_)
              clear hK K
              refine wpList_plain rfl (fun K hK => ?_)
              refine opr_move (.inr rfl) (hK _ _ ?_)
              refine wpList_end rfl ?_
              simp only [Act.put, List.setIfInBounds_toArray, List.set_cons_zero, List.set_cons_succ]
              go_simp
              go_upto_region 8 with fail
              refine wp_region_steps0 NewT [SV.eq (.agg (rowA 36 (wyF u (lf l) i n p))), SV.eq (.agg (rowA 36 (wyF u' (lf l') i n p'))), SV.eq ((.func (.func 55) #[] #[.pointer (some ⟨w.heap.size + 1 + 1, 0, none⟩)])), svT2 (e1 (pathX node lf sm (fun _ => 0) l l' i n path path')) (e2 (pathX node lf sm (fun _ => 0) l l' i n path path')) true] [([(3, none)], none), ([(4, none)], none), ([(13, none)], none), ([(57, some 0), (58, some 1), (59, some 2)], none)] 64 4 rfl rfl (by kernel_rfl) NewT.trans (NewT.refl _) (Nat.le_of_ble_eq_true rfl) ⟨?_, ?_, ?_, ?_, trivial⟩ ?_
              · intro a wx hT hF K hK
                obtain ⟨f3, _⟩ := hF
                have f3 : a.tmps.getD 3 undef = .pointer (some ⟨w.heap.size, 0, none⟩) := f3
                refine rely_wp rfl ?_
                exact opr_ldWy (hT.row R3.out) rfl f3 (hK _ _ (NewT.refl _) rfl)
              · intro a wx hT hF K hK
                obtain ⟨f4, _⟩ := hF
                have f4 : a.tmps.getD 4 undef = .pointer (some ⟨w.heap.size + 1, 0, none⟩) := f4
                refine rely_wp rfl ?_
                exact opr_ldWy (hT.row R4.out) rfl f4 (hK _ _ (NewT.refl _) rfl)
              · intro a wx hT hF K hK
                obtain ⟨f13, _⟩ := hF
                have f13 : a.tmps.getD 13 undef = (.func (.func 55) #[] #[.pointer (some ⟨w.heap.size + 1 + 1, 0, none⟩)]) := f13
                refine rely_wp rfl ?_
                exact opr_move (.inl rfl) (hK _ _ (NewT.refl _) f13)
              · intro a wx hT hF K hK
                obtain ⟨f57, f58, f59, _⟩ := hF
                have f57 : a.tmps.getD 57 undef = .agg (rowA 36 (wyF u (lf l) i n p)) := f57
                have f58 : a.tmps.getD 58 undef = .agg (rowA 36 (wyF u' (lf l') i n p')) := f58
                have f59 : a.tmps.getD 59 undef = (.func (.func 55) #[] #[.pointer (some ⟨w.heap.size + 1 + 1, 0, none⟩)]) := f59
                refine rely_wp rfl ?_
                exact opr_cv (HFA.out wx hT) rfl Tryd.func57 (by kernel_rfl) (by kernel_rfl) (by simp only [List.map_toArray, List.map_cons, List.map_nil, eval_tmp, eval_func, f57, f58, f59]) hK
              · intro we ke
                intro u h; obtain rfl := Eq.symm (h (by simp)); clear h
                intro u h; obtain rfl := Eq.symm (h (by simp)); clear h
                intro u h; obtain rfl := Eq.symm (h (by simp)); clear h
                intro u60 h; have g60 := h (by simp); clear h; replace g60 := show (svT2 (e1 (pathX node lf sm (fun _ => 0) l l' i n path path')) (e2 (pathX node lf sm (fun _ => 0) l l' i n path path')) true).pred u60 we from g60
                refine relyEnd_nil rfl ?_
                simp only [Act.put, List.setIfInBounds_toArray, List.set_cons_zero, List.set_cons_succ]
                obtain ⟨a1, a2, rfl, q1, q2⟩ := g60
                refine wpList_plain rfl (fun K hK => ?_)
                refine opr_ext rfl rfl rfl (hK _ _ ?_)
                clear hK K
                refine wpList_plain rfl (fun K hK => ?_)
                refine opr_ext rfl rfl rfl (hK _ _ ?_)
                clear hK K
                refine wpList_plain rfl (fun K hK => ?_)
                refine opr_ext rfl rfl rfl (hK _ _ ?_)
                clear hK K
                simp only [Act.put, List.setIfInBounds_toArray, List.set_cons_zero, List.set_cons_succ]
                refine wpList_plain rfl (fun K hK => ?_)
                refine opr_move (.inr rfl) (hK _ _ ?_)
                clear hK K
                simp only [Act.put, List.setIfInBounds_toArray, List.set_cons_zero, List.set_cons_succ]
                refine wpList_plain rfl (fun K hK => ?_)
                refine opr_move (.inr rfl) (hK _ _ ?_)
                clear hK K
                simp only [Act.put, List.setIfInBounds_toArray, List.set_cons_zero, List.set_cons_succ]
                refine wpList_plain rfl (fun K hK => ?_)
                refine opr_move (.inr rfl) (hK _ _ ?_)
                refine wpList_end rfl ?_
                simp only [Act.put, List.setIfInBounds_toArray, List.set_cons_zero, List.set_cons_succ]
                go_simp
                go_wp2
                exact bodyPost_ret (results_ttt rfl rfl rfl rfl) rfl ⟨_, rfl, NewT.trans _ _ _ HN.out ke, a1, a2, by rw [HSO.out]; rfl, q1, q2⟩
            · have hc := HQ2.out
              have hco : okP (i) (n) (List.length (path)) = false ∨ okP (i) (n) (List.length (path')) = false ∨ eqH (comesM node (fun _ => 0) (lf l) (i) (n) (path)) (comesM node (fun _ => 0) (lf l') (i) (n) (path')) = false := by
                revert hc
                cases okP (i) (n) (List.length (path)) <;> cases okP (i) (n) (List.length (path')) <;> cases eqH (comesM node (fun _ => 0) (lf l) (i) (n) (path)) (comesM node (fun _ => 0) (lf l') (i) (n) (path')) <;> simp
              clear hc
              have hno : (pathX node lf sm (fun _ => 0) l l' i n path path') = none := by unfold pathX; exact if_pos (.inr hco)
              have HNO := Lib.hid hno
              clear hno
              go_wp2
              exact bodyPost_ret (results_ttt rfl rfl rfl rfl) rfl ⟨_, rfl, HN.out, _, _, by rw [HNO.out]; rfl, by rw [HNO.out]; exact rd_nil _, by rw [HNO.out]; exact rd_nil _⟩
    · have hno : (pathX node lf sm (fun _ => 0) l l' i n path path') = none := by unfold pathX; exact if_pos (.inl (of_decide_eq_true HQ1.out))
      have HNO := Lib.hid hno
      clear hno
      go_wp2
      exact bodyPost_ret (results_ttt rfl rfl rfl rfl) rfl ⟨_, rfl, HN.out, _, _, by rw [HNO.out]; rfl, by rw [HNO.out]; exact rd_nil _, by rw [HNO.out]; exact rd_nil _⟩
set_option maxHeartbeats 2000000 in
theorem Paths_cv {node : Hs → Hs → Hs} {z : Hs} {lf : List UInt8 → Hs} {sm : Tx → Tx} (hC : ClashH node z lf sm) (w : World) (hT : Tables w) (va vb vp vq : Value) (l l' : Tx) (i n : Int) (path path' : List Hs) (ha : RdV w [] va l) (hb : RdV w [] vb l') (hp : RdH w vp path) (hq : RdH w vq path') (hl : l.length ≤ 10000) (hl' : l'.length ≤ 10000) (hpn : path.length ≤ 1000) (hqn : path'.length ≤ 1000) :
    Cv 18 #[va, vb, .int .i64 i, .int .i64 n, vp, vq] w (svT2 (e1 (pathX node lf sm (fun _ => 0) l l' i n path path')) (e2 (pathX node lf sm (fun _ => 0) l l' i n path path')) (pathX node lf sm (fun _ => 0) l l' i n path path').isSome) := by
  unfold Cv
  have hY : LeafH lf := hC.leaf
  have HT := Lib.hid hT
  have HA := Lib.hid ha
  have HB := Lib.hid hb
  have HP := Lib.hid hp
  have HQ := Lib.hid hq
  have HPN := Lib.hid hpn
  have HQN := Lib.hid hqn
  have HL := Lib.hid hl
  have HLL := Lib.hid hl'
  have HN := Lib.hid (NewT.refl w)
  clear hT ha hb hp hq hl hl' hpn hqn
  go_enter Tryd.func18, Tryd.ntmps18
  go_upto_region 1 with fail
  refine wp_region_steps0 NewT [SV.eq (va), SV.eq (va), SV.eq (.agg (rowA 32 (bF (lf (l))))), SV.eq (.int .i64 (i)), SV.eq (.int .i64 (n)), SV.eq (vp), SV.eq ((.agg (rowA 36 (wyF va (lf (l)) (i) (n) vp))))] [([(0, none)], none), ([(0, none)], none), ([(18, some 1)], none), ([(2, none)], none), ([(3, none)], none), ([(4, none)], none), ([(17, some 0), (19, some 2), (20, some 3), (21, some 4), (22, some 5)], none)] 37 7 rfl rfl (by kernel_rfl) NewT.trans (NewT.refl _) (Nat.le_of_ble_eq_true rfl) ⟨?_, ?_, ?_, ?_, ?_, ?_, ?_, trivial⟩ ?_
  · intro a wx hT hF K hK
    obtain ⟨f0, _⟩ := hF
    have f0 : a.tmps.getD 0 undef = va := f0
    refine rely_wp rfl ?_
    exact opr_move (.inl rfl) (hK _ _ (NewT.refl _) f0)
  · intro a wx hT hF K hK
    obtain ⟨f0, _⟩ := hF
    have f0 : a.tmps.getD 0 undef = va := f0
    refine rely_wp rfl ?_
    exact opr_move (.inl rfl) (hK _ _ (NewT.refl _) f0)
  · intro a wx hT hF K hK
    obtain ⟨f18, _⟩ := hF
    have f18 : a.tmps.getD 18 undef = va := f18
    refine rely_wp rfl ?_
    exact opr_cv (LeafK hY _ (l) wx (hT.tables HT.out) (hT.rd HA.out) (HL.out)) rfl Tryd.func21 (by kernel_rfl) (by kernel_rfl) (by simp only [List.map_toArray, List.map_cons, List.map_nil, eval_tmp, f18]) hK
  · intro a wx hT hF K hK
    obtain ⟨f2, _⟩ := hF
    have f2 : a.tmps.getD 2 undef = .int .i64 (i) := f2
    refine rely_wp rfl ?_
    exact opr_move (.inl rfl) (hK _ _ (NewT.refl _) f2)
  · intro a wx hT hF K hK
    obtain ⟨f3, _⟩ := hF
    have f3 : a.tmps.getD 3 undef = .int .i64 (n) := f3
    refine rely_wp rfl ?_
    exact opr_move (.inl rfl) (hK _ _ (NewT.refl _) f3)
  · intro a wx hT hF K hK
    obtain ⟨f4, _⟩ := hF
    have f4 : a.tmps.getD 4 undef = vp := f4
    refine rely_wp rfl ?_
    exact opr_move (.inl rfl) (hK _ _ (NewT.refl _) f4)
  · intro a wx hT hF K hK
    obtain ⟨f17, f19, f20, f21, f22, _⟩ := hF
    have f17 : a.tmps.getD 17 undef = va := f17
    have f19 : a.tmps.getD 19 undef = .agg (rowA 32 (bF (lf (l)))) := f19
    have f20 : a.tmps.getD 20 undef = .int .i64 (i) := f20
    have f21 : a.tmps.getD 21 undef = .int .i64 (n) := f21
    have f22 : a.tmps.getD 22 undef = vp := f22
    refine rely_wp rfl ?_
    exact opr_bldW (rd_sl HA.out) (rdH_sl HP.out) rfl f17 f19 f20 f21 f22 (hK _ _ (NewT.refl _) rfl)
  · intro wa ka
    intro u h; obtain rfl := Eq.symm (h (by simp)); clear h
    intro u h; obtain rfl := Eq.symm (h (by simp)); clear h
    intro u h; obtain rfl := Eq.symm (h (by simp)); clear h
    intro u h; obtain rfl := Eq.symm (h (by simp)); clear h
    intro u h; obtain rfl := Eq.symm (h (by simp)); clear h
    intro u h; obtain rfl := Eq.symm (h (by simp)); clear h
    intro u h; obtain rfl := Eq.symm (h (by simp)); clear h
    refine relyEnd_nil rfl ?_
    simp only [Act.put, List.setIfInBounds_toArray, List.set_cons_zero, List.set_cons_succ]
    refine wpList_new (n := 36) rfl rfl rfl rfl rfl rfl (by simp) run_alloc_wy infoW (wyF_one (sl_one (rd_sl HA.out)) (sl_one (rdH_sl HP.out))) rfl ?_
    intro w5 hn5 r7
    refine wpList_end rfl ?_
    simp only [Act.put, List.setIfInBounds_toArray, List.set_cons_zero, List.set_cons_succ]
    go_simp
    obtain ⟨p15, hp7⟩ : ∃ q, wa.heap.size = q := ⟨_, rfl⟩
    rw [hp7] at r7 ⊢
    replace ka := NewT.trans _ _ _ ka hn5
    have R15 := Lib.hid r7
    replace HT := Lib.hid (ka.tables HT.out)
    replace HA := Lib.hid (ka.rd HA.out)
    replace HB := Lib.hid (ka.rd HB.out)
    replace HP := Lib.hid (ka.hs HP.out)
    replace HQ := Lib.hid (ka.hs HQ.out)
    replace HN := Lib.hid (NewT.trans _ _ _ HN.out ka)
    clear hn5 r7 hp7
    clear ka
    go_upto_region 2 with fail
    refine wp_region_steps0 NewT [SV.eq (vb), SV.eq (vb), SV.eq (.agg (rowA 32 (bF (lf (l'))))), SV.eq (.int .i64 (i)), SV.eq (.int .i64 (n)), SV.eq (vq), SV.eq ((.agg (rowA 36 (wyF vb (lf (l')) (i) (n) vq))))] [([(1, none)], none), ([(1, none)], none), ([(25, some 1)], none), ([(2, none)], none), ([(3, none)], none), ([(5, none)], none), ([(24, some 0), (26, some 2), (27, some 3), (28, some 4), (29, some 5)], none)] 37 7 rfl rfl (by kernel_rfl) NewT.trans (NewT.refl _) (Nat.le_of_ble_eq_true rfl) ⟨?_, ?_, ?_, ?_, ?_, ?_, ?_, trivial⟩ ?_
    · intro a wx hT hF K hK
      obtain ⟨f1, _⟩ := hF
      have f1 : a.tmps.getD 1 undef = vb := f1
      refine rely_wp rfl ?_
      exact opr_move (.inl rfl) (hK _ _ (NewT.refl _) f1)
    · intro a wx hT hF K hK
      obtain ⟨f1, _⟩ := hF
      have f1 : a.tmps.getD 1 undef = vb := f1
      refine rely_wp rfl ?_
      exact opr_move (.inl rfl) (hK _ _ (NewT.refl _) f1)
    · intro a wx hT hF K hK
      obtain ⟨f25, _⟩ := hF
      have f25 : a.tmps.getD 25 undef = vb := f25
      refine rely_wp rfl ?_
      exact opr_cv (LeafK hY _ (l') wx (hT.tables HT.out) (hT.rd HB.out) (HLL.out)) rfl Tryd.func21 (by kernel_rfl) (by kernel_rfl) (by simp only [List.map_toArray, List.map_cons, List.map_nil, eval_tmp, f25]) hK
    · intro a wx hT hF K hK
      obtain ⟨f2, _⟩ := hF
      have f2 : a.tmps.getD 2 undef = .int .i64 (i) := f2
      refine rely_wp rfl ?_
      exact opr_move (.inl rfl) (hK _ _ (NewT.refl _) f2)
    · intro a wx hT hF K hK
      obtain ⟨f3, _⟩ := hF
      have f3 : a.tmps.getD 3 undef = .int .i64 (n) := f3
      refine rely_wp rfl ?_
      exact opr_move (.inl rfl) (hK _ _ (NewT.refl _) f3)
    · intro a wx hT hF K hK
      obtain ⟨f5, _⟩ := hF
      have f5 : a.tmps.getD 5 undef = vq := f5
      refine rely_wp rfl ?_
      exact opr_move (.inl rfl) (hK _ _ (NewT.refl _) f5)
    · intro a wx hT hF K hK
      obtain ⟨f24, f26, f27, f28, f29, _⟩ := hF
      have f24 : a.tmps.getD 24 undef = vb := f24
      have f26 : a.tmps.getD 26 undef = .agg (rowA 32 (bF (lf (l')))) := f26
      have f27 : a.tmps.getD 27 undef = .int .i64 (i) := f27
      have f28 : a.tmps.getD 28 undef = .int .i64 (n) := f28
      have f29 : a.tmps.getD 29 undef = vq := f29
      refine rely_wp rfl ?_
      exact opr_bldW (rd_sl HB.out) (rdH_sl HQ.out) rfl f24 f26 f27 f28 f29 (hK _ _ (NewT.refl _) rfl)
    · intro wb kb
      intro u h; obtain rfl := Eq.symm (h (by simp)); clear h
      intro u h; obtain rfl := Eq.symm (h (by simp)); clear h
      intro u h; obtain rfl := Eq.symm (h (by simp)); clear h
      intro u h; obtain rfl := Eq.symm (h (by simp)); clear h
      intro u h; obtain rfl := Eq.symm (h (by simp)); clear h
      intro u h; obtain rfl := Eq.symm (h (by simp)); clear h
      intro u h; obtain rfl := Eq.symm (h (by simp)); clear h
      refine relyEnd_nil rfl ?_
      simp only [Act.put, List.setIfInBounds_toArray, List.set_cons_zero, List.set_cons_succ]
      refine wpList_new (n := 36) rfl rfl rfl rfl rfl rfl (by simp) run_alloc_wy infoW (wyF_one (sl_one (rd_sl HB.out)) (sl_one (rdH_sl HQ.out))) rfl ?_
      intro w5 hn5 r7
      refine wpList_end rfl ?_
      simp only [Act.put, List.setIfInBounds_toArray, List.set_cons_zero, List.set_cons_succ]
      go_simp
      obtain ⟨p16, hp7⟩ : ∃ q, wb.heap.size = q := ⟨_, rfl⟩
      rw [hp7] at r7 ⊢
      replace kb := NewT.trans _ _ _ kb hn5
      have R16 := Lib.hid r7
      replace HT := Lib.hid (kb.tables HT.out)
      replace HA := Lib.hid (kb.rd HA.out)
      replace HB := Lib.hid (kb.rd HB.out)
      replace HP := Lib.hid (kb.hs HP.out)
      replace HQ := Lib.hid (kb.hs HQ.out)
      replace HN := Lib.hid (NewT.trans _ _ _ HN.out kb)
      clear hn5 r7 hp7
      replace R15 := Lib.hid (kb.row R15.out)
      clear kb
      go_upto_region 3 with fail
      refine wp_region_steps0 NewT [SV.eq (.agg (rowA 36 (wyF va (lf l) i n vp))), SV.eq (.agg (rowA 36 (wyF vb (lf l') i n vq))), svT2 (e1 (pathX node lf sm (fun _ => 0) l l' i n path path')) (e2 (pathX node lf sm (fun _ => 0) l l' i n path path')) (pathX node lf sm (fun _ => 0) l l' i n path path').isSome] [([(15, none)], none), ([(16, none)], none), ([(31, some 0), (32, some 1)], none)] 37 3 rfl rfl (by kernel_rfl) NewT.trans (NewT.refl _) (Nat.le_of_ble_eq_true rfl) ⟨?_, ?_, ?_, trivial⟩ ?_
      · intro a wx hT hF K hK
        obtain ⟨f15, _⟩ := hF
        have f15 : a.tmps.getD 15 undef = .pointer (some ⟨p15, 0, none⟩) := f15
        refine rely_wp rfl ?_
        exact opr_ldWy (hT.row R15.out) rfl f15 (hK _ _ (NewT.refl _) rfl)
      · intro a wx hT hF K hK
        obtain ⟨f16, _⟩ := hF
        have f16 : a.tmps.getD 16 undef = .pointer (some ⟨p16, 0, none⟩) := f16
        refine rely_wp rfl ?_
        exact opr_ldWy (hT.row R16.out) rfl f16 (hK _ _ (NewT.refl _) rfl)
      · intro a wx hT hF K hK
        obtain ⟨f31, f32, _⟩ := hF
        have f31 : a.tmps.getD 31 undef = .agg (rowA 36 (wyF va (lf l) i n vp)) := f31
        have f32 : a.tmps.getD 32 undef = .agg (rowA 36 (wyF vb (lf l') i n vq)) := f32
        refine rely_wp rfl ?_
        exact opr_cv (OfPaths_cv hC wx (hT.tables HT.out) va vp vb vq l l' i n path path' (hT.rd HA.out) (hT.hs HP.out) (hT.rd HB.out) (hT.hs HQ.out) HL.out HLL.out HPN.out HQN.out) rfl Tryd.func36 (by kernel_rfl) (by kernel_rfl) (by simp only [List.map_toArray, List.map_cons, List.map_nil, eval_tmp, eval_func, f31, f32]) hK
      · intro wc kc
        intro u h; obtain rfl := Eq.symm (h (by simp)); clear h
        intro u h; obtain rfl := Eq.symm (h (by simp)); clear h
        intro u33 h; have g33 := h (by simp); clear h; replace g33 := show (svT2 (e1 (pathX node lf sm (fun _ => 0) l l' i n path path')) (e2 (pathX node lf sm (fun _ => 0) l l' i n path path')) (pathX node lf sm (fun _ => 0) l l' i n path path').isSome).pred u33 wc from g33
        refine relyEnd_nil rfl ?_
        simp only [Act.put, List.setIfInBounds_toArray, List.set_cons_zero, List.set_cons_succ]
        obtain ⟨a1, a2, rfl, q1, q2⟩ := g33
        refine wpList_plain rfl (fun K hK => ?_)
        refine opr_ext rfl rfl rfl (hK _ _ ?_)
        clear hK K
        refine wpList_plain rfl (fun K hK => ?_)
        refine opr_ext rfl rfl rfl (hK _ _ ?_)
        clear hK K
        refine wpList_plain rfl (fun K hK => ?_)
        refine opr_ext rfl rfl rfl (hK _ _ ?_)
        clear hK K
        simp only [Act.put, List.setIfInBounds_toArray, List.set_cons_zero, List.set_cons_succ]
        refine wpList_plain rfl (fun K hK => ?_)
        refine opr_move (.inr rfl) (hK _ _ ?_)
        clear hK K
        simp only [Act.put, List.setIfInBounds_toArray, List.set_cons_zero, List.set_cons_succ]
        refine wpList_plain rfl (fun K hK => ?_)
        refine opr_move (.inr rfl) (hK _ _ ?_)
        clear hK K
        simp only [Act.put, List.setIfInBounds_toArray, List.set_cons_zero, List.set_cons_succ]
        refine wpList_plain rfl (fun K hK => ?_)
        refine opr_move (.inr rfl) (hK _ _ ?_)
        refine wpList_end rfl ?_
        simp only [Act.put, List.setIfInBounds_toArray, List.set_cons_zero, List.set_cons_succ]
        go_simp
        go_wp2
        exact bodyPost_ret (results_ttt rfl rfl rfl rfl) rfl ⟨_, rfl, NewT.trans _ _ _ HN.out kc, a1, a2, rfl, q1, q2⟩
end Go.Proofs.YtlnedphnphabkaaDoor
namespace Go.Proofs.YtlnedphnphabkaaDoor
open Go.RowKit
set_option maxRecDepth 8000
set_option linter.all false

def hexS : ByteArray := { data := #[48, 49, 50, 51, 52, 53, 54, 55, 56, 57, 97, 98, 99, 100, 101, 102] }
def hx (k : Nat) : UInt8 := [48, 49, 50, 51, 52, 53, 54, 55, 56, 57, 97, 98, 99, 100, 101, 102].getD k 0
def hiN (b : UInt8) : Nat := b.toNat / 16
def loN (b : UInt8) : Nat := b.toNat % 16
theorem hiN_lt (b : UInt8) : hiN b < 16 := by unfold hiN; have := b.toNat_lt; omega
theorem loN_lt (b : UInt8) : loN b < 16 := by unfold loN; omega
theorem u8_div16 (b : UInt8) : bN b / (16 : Int) = ((hiN b : Nat) : Int) := by unfold bN hiN; omega
theorem u8_and15 (b : UInt8) : bits .and .u8 (bN b) 15 = ((loN b : Nat) : Int) := by
  have h : ∀ n : Fin 256, bits .and .u8 ((n.val : Nat) : Int) 15 = ((n.val % 16 : Nat) : Int) := by decide +kernel
  exact h ⟨b.toNat, b.toNat_lt⟩
theorem index_hex (k : Nat) (hk : k < 16) (w : World) : (Instr.index 9 (.string hexS) (.int .u8 (k : Int))).run Tryd.prog w = .ok (.int .u8 (bN (hx k))) w := by
  have h : ∀ n : Fin 16, hexS[n.val]? = some (hx n.val) := by decide
  have := h ⟨k, hk⟩
  simp only [] at this
  simp [Instr.index, asIntOf, run_underlying Tryd.underlying9, this, bN]
attribute [local go_sem] bF_at rowA_at u8_div16 u8_and15

def hexL (d : Nat → UInt8) : Nat → List UInt8
  | 0 => []
  | k + 1 => hexL d k ++ [hx (hiN (d k)), hx (loN (d k))]
theorem hexL_length (d : Nat → UInt8) (k : Nat) : (hexL d k).length = 2 * k := by
  induction k with
  | zero => rfl
  | succ k ih => simp [hexL, ih]; omega
set_option maxHeartbeats 1000000 in
theorem Hex_any (d : Nat → UInt8) (w : World) :
    Calls Tryd.prog 25 #[.agg (rowA 32 (bF d))] w fun e w' => e = .returned (.string ⟨(hexL d 32).toArray⟩) ∧ Below w.heap.size w w' := by
  obtain ⟨i0, hi, hz0, hz1, hz2⟩ := info_parts info5
  have hmk : ∀ W : World, (Instr.makeSlice 23 (.int .i64 0) (.int .i64 64)).run Tryd.prog W = .ok (.slice (some ⟨W.heap.size, 0, none⟩) 0 64) (W.alloc (.cells (rowA 64 (bF fun _ => 0)) 5)) := make_none i0 hi hz0 hz1 hz2
  go_enter Tryd.func25, Tryd.ntmps25
  go_upto_region 2 with fail
  have r0 := (rowIs_box w 30 32 (bF d)).alloc (.cells (rowA 64 (bF fun _ => 0)) 5)
  have r1 := rowIs_box (w.alloc (.cells (rowA 32 (bF d)) 30)) 5 64 (bF fun _ => 0)
  have hB : Below w.heap.size w ((w.alloc (.cells (rowA 32 (bF d)) 30)).alloc (.cells (rowA 64 (bF fun _ => 0)) 5)) := ((Below.refl _ w).alloc (Nat.le_refl _) _).alloc (by simp) _
  rw [World.size_alloc] at r1
  have ho := ownsRow_row r1 w.heap.size 0 (by omega) (by unfold maxLen; omega) (by omega)
  have hR := rangeAt_row r0
  clear r0 r1 hmk
  generalize ((w.alloc (.cells (rowA 32 (bF d)) 30)).alloc (.cells (rowA 64 (bF fun _ => 0)) 5)) = W0 at ho hB hR ⊢
  go_wp2_with (refine wpList_load_mid rfl 30 (.tmp 1) rfl w.heap.size 0 rfl (rowA 32 (bF d)).toList _ hR Tryd.underlying30 rfl (by rw [rowA_toList]; simpa using info31) ?_)
  clear hR
  go_loopw [3, 8] (fun v i wr => ∃ k : Nat, k ≤ 32 ∧ i = .int .i64 k ∧ wr.ownsRow w.heap.size 5 1 v (2 * k) ((hexL d k).map fun b => .int .u8 (bN b)) ∧ Below w.heap.size w wr) (fun _ i _ => 32 - (intOf i).toNat)
  case atStart => exact ⟨0, by omega, rfl, by simpa [hexL] using ho, hB⟩
  case round =>
    obtain ⟨k, hk, rfl, hown, qB⟩ := hrel
    clear ho hB
    by_cases hlt : k < 32
    · have hix := index_row (P := Tryd.prog) 30 5 _ Tryd.underlying30 Tryd.underlying5 rfl (by kernel_rfl) (bF d) .i64 k hlt
      have ih1 := fun W => index_hex (hiN (d k)) (hiN_lt _) W
      have ih2 := fun W => index_hex (loN (d k)) (loN_lt _) W
      unfold hexS at ih1 ih2
      go_wp2
      go_region_held3 (fun _ => True) (exact trivial)
        ((refine step_append_lies _ (by rfl) (.tmp 11) (.tmp 18) 23 (by rfl) w.heap.size 5 i0 _ 1 1 Tryd.underlying23 hi hz0 hz1 hz2 rfl (by omega) u3 (2 * k) _ (by rfl) ((hown.alloc _).drew) ⟨wr.heap.size, 0, none⟩ 2 2 [.int .u8 (bN (hx (hiN (d k)))), .int .u8 (bN (hx (loN (d k))))] (by rfl) (by rfl) (two_cell _ _ _ _) (by simp [Value.oneCell']) (by omega) (by unfold maxLen; omega) (by omega) (by have := qB.size; simp; omega) (wr.heap.size + 1) (by simp) ?_; intro g' cap' w2 hown' hg1 hat hlt2))
      all_goals
        clear ih1 ih2
        go_wp2
        go_roundw
        case rel =>
          refine ⟨k + 1, by omega, by go_num, ?_, ((qB.alloc qB.size _).drew).grown hg1 (by have := qB.size; simp; omega) (fun g e => (hown.lt g e).1)⟩
          rw [hexL, List.map_append, Nat.mul_add]
          exact hown'
        case measure => simp [intOf]; omega
    · obtain rfl : k = 32 := by omega
      obtain ⟨g, cap, rfl, _, hlt2⟩ := hown.form (by omega)
      have hcv := conv_own hown (by rw [hexL_length])
      go_wp2
      go_ret
      exact ⟨rfl, qB⟩
end Go.Proofs.YtlnedphnphabkaaDoor
/- The contracts of Sum and Hex. -/
namespace Go.Proofs.YtlnedphnphabkaaDoor
open Go Go.RowKit
set_option maxRecDepth 8000
set_option linter.all false
theorem Hex_cv (d : Nat → UInt8) (S : ByteArray) (w : World) (hS : (⟨(hexL d 32).toArray⟩ : ByteArray) = S) : Cv 25 #[.agg (rowA 32 (bF d))] w (.eq (.string S)) := by
  rw [← hS]; exact Cv.of_eq (Hex_any d w)
end Go.Proofs.YtlnedphnphabkaaDoor
/- A leaf's path: what pathUp makes, and Path hands back. -/
namespace Go.Proofs.YtlnedphnphabkaaDoor
open Go Go.RowKit
set_option maxRecDepth 8000
set_option linter.all false
set_option maxHeartbeats 1000000 in
theorem pathUp_1 (v : Value) (l : List Hs) (i : Int) (w : World) (hl : RdH w v l) (h1 : l.length = 1) : Cv 39 #[v, .int .i64 i] w (svOw w.heap.size []) := by
  unfold Cv
  obtain ⟨A, c, hv⟩ := rdH_form hl
  rw [h1] at hv
  subst hv
  clear hl
  go_enter Tryd.func39, Tryd.ntmps39
  go_wp2
  go_ret
  exact ⟨_, rfl, NewT.refl _, ownH_nil _ _⟩
set_option maxRecDepth 20000 in
set_option maxHeartbeats 2000000 in
theorem pathUp_l {node : Hs → Hs → Hs} {z : Hs} (hX : TreeH node z) (v : Value) (l : List Hs) (i k : Nat) (w : World) (hT : Tables w) (hl : RdH w v l) (hn : 2 ≤ l.length) (hll : l.length ≤ 1000000) (hk : k < l.length) (hx : i < l.length) (hkx : i < k) (hlb : (pathM node z (List.take k l) i).length ≤ 900000) (hs : ∀ w, Cv 43 #[.int .i64 (l.length : Int)] w (.eq (.int .i64 (k : Int))))
    (ih : ∀ (u : Value) (w : World), Tables w → RdH w u (List.take k l) → Cv 39 #[u, .int .i64 (i : Int)] w (svOw w.heap.size (pathM node z (List.take k l) i))) : Cv 39 #[v, .int .i64 (i : Int)] w (svOw w.heap.size (pathM node z (List.take k l) i ++ [rootM node z (List.drop k l)])) := by
  unfold Cv
  have HT := Lib.hid hT
  have HL := Lib.hid hl
  have HK := Lib.hid hs
  have HLB := Lib.hid hlb
  have HLL := Lib.hid hll
  have HKL := Lib.hid hk
  have HKX := Lib.hid hkx
  have HXL := Lib.hid hx
  have IH := Lib.hid ih
  obtain ⟨A, c, hv⟩ := rdH_form hl
  have t1 : ((l.length : Int) == 1) = false := beq_eq_false_iff_ne.2 (by omega)
  have t2 : (i : Int) < (k : Int) := by omega
  subst hv
  clear hT hl hs hlb ih
  go_enter Tryd.func39, Tryd.ntmps39
  go_upto_region 3 with fail
  obtain ⟨v, ev⟩ : ∃ v, Value.slice A l.length c = v := ⟨_, rfl⟩
  rw [ev] at HL ⊢
  clear ev t1
  refine wp_region_steps0 NewT [SV.eq (v), SV.eq (.int .i64 ((List.length (l) : Int))), SV.eq (.int .i64 ((k : Int))), SV.eq (.int .i64 ((k : Int)))] [([(0, none)], none), ([(9, some 0)], none), ([(10, some 1)], none), ([(11, some 2)], none)] 39 4 rfl rfl (by kernel_rfl) NewT.trans (NewT.refl _) (Nat.le_of_ble_eq_true rfl) ⟨?_, ?_, ?_, ?_, trivial⟩ ?_
  · intro a wx hT hF K hK
    obtain ⟨f0, _⟩ := hF
    have f0 : a.tmps.getD 0 undef = v := f0
    refine rely_wp rfl ?_
    exact opr_move (.inl rfl) (hK _ _ (NewT.refl _) f0)
  · intro a wx hT hF K hK
    obtain ⟨f9, _⟩ := hF
    have f9 : a.tmps.getD 9 undef = v := f9
    refine rely_wp rfl ?_
    exact opr_len_h rfl (by rw [eval_tmp, f9]; exact (hT.hs HL.out)) (hK _ _ (NewT.refl _) rfl)
  · intro a wx hT hF K hK
    obtain ⟨f10, _⟩ := hF
    have f10 : a.tmps.getD 10 undef = .int .i64 ((List.length (l) : Int)) := f10
    refine rely_wp rfl ?_
    exact opr_cv (HK.out wx) rfl Tryd.func43 (by kernel_rfl) (by kernel_rfl) (by simp only [List.map_toArray, List.map_cons, List.map_nil, eval_tmp, f10]) hK
  · intro a wx hT hF K hK
    obtain ⟨f11, _⟩ := hF
    have f11 : a.tmps.getD 11 undef = .int .i64 ((k : Int)) := f11
    refine rely_wp rfl ?_
    exact opr_move (.inr rfl) (hK _ _ (NewT.refl _) f11)
  · intro w3 k3
    intro u h; obtain rfl := Eq.symm (h (by simp)); clear h
    intro u h; obtain rfl := Eq.symm (h (by simp)); clear h
    intro u h; obtain rfl := Eq.symm (h (by simp)); clear h
    intro u h; obtain rfl := Eq.symm (h (by simp)); clear h
    refine relyEnd_nil rfl ?_
    refine wpList_end rfl ?_
    simp only [Act.put, List.setIfInBounds_toArray, List.set_cons_zero, List.set_cons_succ]
    go_simp
    replace HT := Lib.hid (k3.tables HT.out)
    replace HL := Lib.hid (k3.hs HL.out)
    have HSZ := Lib.hid k3.out.size
    have HN := Lib.hid k3
    clear HK k3 hn hll hk hx hkx
    go_upto_region 5 with fail
    refine wp_region_rely_tail (NewT) [SV.eq (v), SV.eq (.int .i64 ((k : Int))), svH (List.take k l), SV.eq (.int .i64 ((i : Int))), svOw w.heap.size (pathM node z (List.take k l) i), SV.eq (v), SV.eq (.int .i64 ((k : Int))), svH (List.drop k l), SV.eq (.agg (rowA 32 (bF (rootM node z (List.drop k l))))), svH ([rootM node z (List.drop k l)])] [([(0, none)], none), ([(5, none)], none), ([(15, some 0), (16, some 1)], none), ([(1, none)], none), ([(17, some 2), (18, some 3)], none), ([(0, none)], none), ([(5, none)], none), ([(20, some 5), (21, some 6)], none), ([(22, some 7)], none), ([(23, some 8)], none)] 39 10 (by kernel_rfl) rfl rfl (Nat.zero_lt_succ _) (by kernel_rfl) (by kernel_rfl) (by kernel_rfl) NewT.trans (NewT.drew _) (Nat.le_of_ble_eq_true rfl) ⟨?_, ?_, ?_, ?_, ?_, ?_, ?_, ?_, ?_, ?_, trivial⟩ ?_
    · intro a wx hT hF K hK
      obtain ⟨f0, _⟩ := hF
      have f0 : a.tmps.getD 0 undef = v := f0
      refine rely_wp rfl ?_
      exact opr_move (.inl rfl) (hK _ _ (NewT.refl _) f0)
    · intro a wx hT hF K hK
      obtain ⟨f5, _⟩ := hF
      have f5 : a.tmps.getD 5 undef = .int .i64 ((k : Int)) := f5
      refine rely_wp rfl ?_
      exact opr_move (.inl rfl) (hK _ _ (NewT.refl _) f5)
    · intro a wx hT hF K hK
      obtain ⟨f15, f16, _⟩ := hF
      have f15 : a.tmps.getD 15 undef = v := f15
      have f16 : a.tmps.getD 16 undef = .int .i64 ((k : Int)) := f16
      refine rely_wp rfl ?_
      exact opr_toH (k := k) (by have := HKL.out; omega) (rfl) rfl (by rw [eval_tmp, f15]; exact (hT.hs HL.out)) f16 (fun v hv => hK v _ (NewT.refl _) hv)
    · intro a wx hT hF K hK
      obtain ⟨f1, _⟩ := hF
      have f1 : a.tmps.getD 1 undef = .int .i64 ((i : Int)) := f1
      refine rely_wp rfl ?_
      exact opr_move (.inl rfl) (hK _ _ (NewT.refl _) f1)
    · intro a wx hT hF K hK
      obtain ⟨f17, f18, _⟩ := hF
      replace f17 := show (svH (List.take k l)).pred (a.tmps.getD 17 undef) wx from f17
      have f18 : a.tmps.getD 18 undef = .int .i64 ((i : Int)) := f18
      refine rely_wp rfl ?_
      exact opr_cv (Cv_own (IH.out _ wx (hT.tables HT.out) f17) (Nat.le_trans HSZ.out hT.out.size)) rfl Tryd.func39 (by kernel_rfl) (by kernel_rfl) (by simp only [List.map_toArray, List.map_cons, List.map_nil, eval_tmp, f18]) hK
    · intro a wx hT hF K hK
      obtain ⟨f0, _⟩ := hF
      have f0 : a.tmps.getD 0 undef = v := f0
      refine rely_wp rfl ?_
      exact opr_move (.inl rfl) (hK _ _ (NewT.refl _) f0)
    · intro a wx hT hF K hK
      obtain ⟨f5, _⟩ := hF
      have f5 : a.tmps.getD 5 undef = .int .i64 ((k : Int)) := f5
      refine rely_wp rfl ?_
      exact opr_move (.inl rfl) (hK _ _ (NewT.refl _) f5)
    · intro a wx hT hF K hK
      obtain ⟨f20, f21, _⟩ := hF
      have f20 : a.tmps.getD 20 undef = v := f20
      have f21 : a.tmps.getD 21 undef = .int .i64 ((k : Int)) := f21
      refine rely_wp rfl ?_
      exact opr_fromH (k := k) (by have := HKL.out; omega) (rfl) rfl (by rw [eval_tmp, f20]; exact (hT.hs HL.out)) f21 (fun v hv => hK v _ (NewT.refl _) hv)
    · intro a wx hT hF K hK
      obtain ⟨f22, _⟩ := hF
      replace f22 := show (svH (List.drop k l)).pred (a.tmps.getD 22 undef) wx from f22
      refine rely_wp rfl ?_
      exact opr_cv (Root_cv hX _ _ _ wx (hT.tables HT.out) f22 (Nat.le_refl _) (by have := HLL.out; simp; omega)) rfl Tryd.func24 (by kernel_rfl) (by kernel_rfl) (by simp only [List.map_toArray, List.map_cons, List.map_nil, eval_tmp]) hK
    · intro a wx hT hF K hK
      obtain ⟨f23, _⟩ := hF
      have f23 : a.tmps.getD 23 undef = .agg (rowA 32 (bF (rootM node z (List.drop k l)))) := f23
      refine rely_wp rfl ?_
      exact opr_bsH1 rfl f23 hK
    · intro wa ka
      intro u h; obtain rfl := Eq.symm (h (by simp)); clear h
      intro u h; obtain rfl := Eq.symm (h (by simp)); clear h
      intro _ _
      intro u h; obtain rfl := Eq.symm (h (by simp)); clear h
      intro u19 h; have g19 := h (by simp); clear h; replace g19 := show (svOw w.heap.size (pathM node z (List.take k l) i)).pred u19 wa from g19
      intro u h; obtain rfl := Eq.symm (h (by simp)); clear h
      intro u h; obtain rfl := Eq.symm (h (by simp)); clear h
      intro _ _
      intro u h; obtain rfl := Eq.symm (h (by simp)); clear h
      intro u24 h; have g24 := h (by simp); clear h; replace g24 := show (svH ([rootM node z (List.drop k l)])).pred u24 wa from g24
      refine relyEnd_nil rfl ?_
      simp only [Act.put, List.setIfInBounds_toArray, List.set_cons_zero, List.set_cons_succ]
      refine wpList_plain rfl (fun K hK => ?_)
      have hO : OwnH wa w.heap.size u19 (pathM node z (List.take k l) i) := g19
      have hR : RdH wa u24 [rootM node z (List.drop k l)] := g24
      obtain ⟨v', w', hrun, h2, h3⟩ := run_appH hO hR (by have := HLB.out; simp; omega) (Nat.le_trans HSZ.out ka.out.size) 33
      refine opr_append rfl rfl rfl hrun (hK _ _ ?_)
      clear hK K
      refine wpList_plain rfl (fun K hK => ?_)
      refine opr_move (.inr rfl) (hK _ _ ?_)
      refine wpList_end rfl ?_
      simp only [Act.put, List.setIfInBounds_toArray, List.set_cons_zero, List.set_cons_succ]
      go_simp
      have hend := app_below (NewT.trans _ _ _ HN.out ka) rfl hO h3
      go_wp2
      go_ret
      exact ⟨_, rfl, hend, h2⟩
set_option maxRecDepth 20000 in
set_option maxHeartbeats 2000000 in
theorem pathUp_r {node : Hs → Hs → Hs} {z : Hs} (hX : TreeH node z) (v : Value) (l : List Hs) (i k : Nat) (w : World) (hT : Tables w) (hl : RdH w v l) (hn : 2 ≤ l.length) (hll : l.length ≤ 1000000) (hk : k < l.length) (hx : i < l.length) (hkx : ¬ i < k) (hlb : (pathM node z (List.drop k l) (i - k)).length ≤ 900000) (hs : ∀ w, Cv 43 #[.int .i64 (l.length : Int)] w (.eq (.int .i64 (k : Int))))
    (ih : ∀ (u : Value) (w : World), Tables w → RdH w u (List.drop k l) → Cv 39 #[u, .int .i64 ((i - k : Nat) : Int)] w (svOw w.heap.size (pathM node z (List.drop k l) (i - k)))) : Cv 39 #[v, .int .i64 (i : Int)] w (svOw w.heap.size (pathM node z (List.drop k l) (i - k) ++ [rootM node z (List.take k l)])) := by
  unfold Cv
  have HT := Lib.hid hT
  have HL := Lib.hid hl
  have HK := Lib.hid hs
  have HLB := Lib.hid hlb
  have HLL := Lib.hid hll
  have HKL := Lib.hid hk
  have HKX := Lib.hid hkx
  have HXL := Lib.hid hx
  have IH := Lib.hid ih
  obtain ⟨A, c, hv⟩ := rdH_form hl
  have t1 : ((l.length : Int) == 1) = false := beq_eq_false_iff_ne.2 (by omega)
  have t2 : ¬ (i : Int) < (k : Int) := by omega
  subst hv
  clear hT hl hs hlb ih
  go_enter Tryd.func39, Tryd.ntmps39
  go_upto_region 3 with fail
  obtain ⟨v, ev⟩ : ∃ v, Value.slice A l.length c = v := ⟨_, rfl⟩
  rw [ev] at HL ⊢
  clear ev t1
  refine wp_region_steps0 NewT [SV.eq (v), SV.eq (.int .i64 ((List.length (l) : Int))), SV.eq (.int .i64 ((k : Int))), SV.eq (.int .i64 ((k : Int)))] [([(0, none)], none), ([(9, some 0)], none), ([(10, some 1)], none), ([(11, some 2)], none)] 39 4 rfl rfl (by kernel_rfl) NewT.trans (NewT.refl _) (Nat.le_of_ble_eq_true rfl) ⟨?_, ?_, ?_, ?_, trivial⟩ ?_
  · intro a wx hT hF K hK
    obtain ⟨f0, _⟩ := hF
    have f0 : a.tmps.getD 0 undef = v := f0
    refine rely_wp rfl ?_
    exact opr_move (.inl rfl) (hK _ _ (NewT.refl _) f0)
  · intro a wx hT hF K hK
    obtain ⟨f9, _⟩ := hF
    have f9 : a.tmps.getD 9 undef = v := f9
    refine rely_wp rfl ?_
    exact opr_len_h rfl (by rw [eval_tmp, f9]; exact (hT.hs HL.out)) (hK _ _ (NewT.refl _) rfl)
  · intro a wx hT hF K hK
    obtain ⟨f10, _⟩ := hF
    have f10 : a.tmps.getD 10 undef = .int .i64 ((List.length (l) : Int)) := f10
    refine rely_wp rfl ?_
    exact opr_cv (HK.out wx) rfl Tryd.func43 (by kernel_rfl) (by kernel_rfl) (by simp only [List.map_toArray, List.map_cons, List.map_nil, eval_tmp, f10]) hK
  · intro a wx hT hF K hK
    obtain ⟨f11, _⟩ := hF
    have f11 : a.tmps.getD 11 undef = .int .i64 ((k : Int)) := f11
    refine rely_wp rfl ?_
    exact opr_move (.inr rfl) (hK _ _ (NewT.refl _) f11)
  · intro w3 k3
    intro u h; obtain rfl := Eq.symm (h (by simp)); clear h
    intro u h; obtain rfl := Eq.symm (h (by simp)); clear h
    intro u h; obtain rfl := Eq.symm (h (by simp)); clear h
    intro u h; obtain rfl := Eq.symm (h (by simp)); clear h
    refine relyEnd_nil rfl ?_
    refine wpList_end rfl ?_
    simp only [Act.put, List.setIfInBounds_toArray, List.set_cons_zero, List.set_cons_succ]
    go_simp
    replace HT := Lib.hid (k3.tables HT.out)
    replace HL := Lib.hid (k3.hs HL.out)
    have HSZ := Lib.hid k3.out.size
    have HN := Lib.hid k3
    clear HK k3 hn hll hk hx hkx
    go_upto_region 6 with fail
    refine wp_region_rely_tail (NewT) [SV.eq (v), SV.eq (.int .i64 ((k : Int))), svH (List.drop k l), SV.eq (.int .i64 ((i : Int))), SV.eq (.int .i64 ((k : Int))), SV.eq (.int .i64 (((i - k : Nat) : Int))), svOw w.heap.size (pathM node z (List.drop k l) (i - k)), SV.eq (v), SV.eq (.int .i64 ((k : Int))), svH (List.take k l), SV.eq (.agg (rowA 32 (bF (rootM node z (List.take k l))))), svH ([rootM node z (List.take k l)])] [([(0, none)], none), ([(5, none)], none), ([(26, some 0), (27, some 1)], none), ([(1, none)], none), ([(5, none)], none), ([(29, some 3), (30, some 4)], none), ([(28, some 2), (31, some 5)], none), ([(0, none)], none), ([(5, none)], none), ([(33, some 7), (34, some 8)], none), ([(35, some 9)], none), ([(36, some 10)], none)] 39 12 (by kernel_rfl) rfl rfl (Nat.zero_lt_succ _) (by kernel_rfl) (by kernel_rfl) (by kernel_rfl) NewT.trans (NewT.drew _) (Nat.le_of_ble_eq_true rfl) ⟨?_, ?_, ?_, ?_, ?_, ?_, ?_, ?_, ?_, ?_, ?_, ?_, trivial⟩ ?_
    · intro a wx hT hF K hK
      obtain ⟨f0, _⟩ := hF
      have f0 : a.tmps.getD 0 undef = v := f0
      refine rely_wp rfl ?_
      exact opr_move (.inl rfl) (hK _ _ (NewT.refl _) f0)
    · intro a wx hT hF K hK
      obtain ⟨f5, _⟩ := hF
      have f5 : a.tmps.getD 5 undef = .int .i64 ((k : Int)) := f5
      refine rely_wp rfl ?_
      exact opr_move (.inl rfl) (hK _ _ (NewT.refl _) f5)
    · intro a wx hT hF K hK
      obtain ⟨f26, f27, _⟩ := hF
      have f26 : a.tmps.getD 26 undef = v := f26
      have f27 : a.tmps.getD 27 undef = .int .i64 ((k : Int)) := f27
      refine rely_wp rfl ?_
      exact opr_fromH (k := k) (by have := HKL.out; omega) (rfl) rfl (by rw [eval_tmp, f26]; exact (hT.hs HL.out)) f27 (fun v hv => hK v _ (NewT.refl _) hv)
    · intro a wx hT hF K hK
      obtain ⟨f1, _⟩ := hF
      have f1 : a.tmps.getD 1 undef = .int .i64 ((i : Int)) := f1
      refine rely_wp rfl ?_
      exact opr_move (.inl rfl) (hK _ _ (NewT.refl _) f1)
    · intro a wx hT hF K hK
      obtain ⟨f5, _⟩ := hF
      have f5 : a.tmps.getD 5 undef = .int .i64 ((k : Int)) := f5
      refine rely_wp rfl ?_
      exact opr_move (.inl rfl) (hK _ _ (NewT.refl _) f5)
    · intro a wx hT hF K hK
      obtain ⟨f29, f30, _⟩ := hF
      have f29 : a.tmps.getD 29 undef = .int .i64 ((i : Int)) := f29
      have f30 : a.tmps.getD 30 undef = .int .i64 ((k : Int)) := f30
      refine rely_wp rfl ?_
      exact opr_sub (r := ((i - k : Nat) : Int)) Tryd.underlying3 (by unfold wrap64; have := HKX.out; have := HXL.out; have := HLL.out; omega) rfl f29 f30 (hK _ _ (NewT.refl _) rfl)
    · intro a wx hT hF K hK
      obtain ⟨f28, f31, _⟩ := hF
      replace f28 := show (svH (List.drop k l)).pred (a.tmps.getD 28 undef) wx from f28
      have f31 : a.tmps.getD 31 undef = .int .i64 (((i - k : Nat) : Int)) := f31
      refine rely_wp rfl ?_
      exact opr_cv (Cv_own (IH.out _ wx (hT.tables HT.out) f28) (Nat.le_trans HSZ.out hT.out.size)) rfl Tryd.func39 (by kernel_rfl) (by kernel_rfl) (by simp only [List.map_toArray, List.map_cons, List.map_nil, eval_tmp, f31]) hK
    · intro a wx hT hF K hK
      obtain ⟨f0, _⟩ := hF
      have f0 : a.tmps.getD 0 undef = v := f0
      refine rely_wp rfl ?_
      exact opr_move (.inl rfl) (hK _ _ (NewT.refl _) f0)
    · intro a wx hT hF K hK
      obtain ⟨f5, _⟩ := hF
      have f5 : a.tmps.getD 5 undef = .int .i64 ((k : Int)) := f5
      refine rely_wp rfl ?_
      exact opr_move (.inl rfl) (hK _ _ (NewT.refl _) f5)
    · intro a wx hT hF K hK
      obtain ⟨f33, f34, _⟩ := hF
      have f33 : a.tmps.getD 33 undef = v := f33
      have f34 : a.tmps.getD 34 undef = .int .i64 ((k : Int)) := f34
      refine rely_wp rfl ?_
      exact opr_toH (k := k) (by have := HKL.out; omega) (rfl) rfl (by rw [eval_tmp, f33]; exact (hT.hs HL.out)) f34 (fun v hv => hK v _ (NewT.refl _) hv)
    · intro a wx hT hF K hK
      obtain ⟨f35, _⟩ := hF
      replace f35 := show (svH (List.take k l)).pred (a.tmps.getD 35 undef) wx from f35
      refine rely_wp rfl ?_
      exact opr_cv (Root_cv hX _ _ _ wx (hT.tables HT.out) f35 (Nat.le_refl _) (by have := HLL.out; simp; omega)) rfl Tryd.func24 (by kernel_rfl) (by kernel_rfl) (by simp only [List.map_toArray, List.map_cons, List.map_nil, eval_tmp]) hK
    · intro a wx hT hF K hK
      obtain ⟨f36, _⟩ := hF
      have f36 : a.tmps.getD 36 undef = .agg (rowA 32 (bF (rootM node z (List.take k l)))) := f36
      refine rely_wp rfl ?_
      exact opr_bsH1 rfl f36 hK
    · intro wa ka
      intro u h; obtain rfl := Eq.symm (h (by simp)); clear h
      intro u h; obtain rfl := Eq.symm (h (by simp)); clear h
      intro _ _
      intro u h; obtain rfl := Eq.symm (h (by simp)); clear h
      intro u h; obtain rfl := Eq.symm (h (by simp)); clear h
      intro u h; obtain rfl := Eq.symm (h (by simp)); clear h
      intro u32 h; have g32 := h (by simp); clear h; replace g32 := show (svOw w.heap.size (pathM node z (List.drop k l) (i - k))).pred u32 wa from g32
      intro u h; obtain rfl := Eq.symm (h (by simp)); clear h
      intro u h; obtain rfl := Eq.symm (h (by simp)); clear h
      intro _ _
      intro u h; obtain rfl := Eq.symm (h (by simp)); clear h
      intro u37 h; have g37 := h (by simp); clear h; replace g37 := show (svH ([rootM node z (List.take k l)])).pred u37 wa from g37
      refine relyEnd_nil rfl ?_
      simp only [Act.put, List.setIfInBounds_toArray, List.set_cons_zero, List.set_cons_succ]
      refine wpList_plain rfl (fun K hK => ?_)
      have hO : OwnH wa w.heap.size u32 (pathM node z (List.drop k l) (i - k)) := g32
      have hR : RdH wa u37 [rootM node z (List.take k l)] := g37
      obtain ⟨v', w', hrun, h2, h3⟩ := run_appH hO hR (by have := HLB.out; simp; omega) (Nat.le_trans HSZ.out ka.out.size) 33
      refine opr_append rfl rfl rfl hrun (hK _ _ ?_)
      clear hK K
      refine wpList_plain rfl (fun K hK => ?_)
      refine opr_move (.inr rfl) (hK _ _ ?_)
      refine wpList_end rfl ?_
      simp only [Act.put, List.setIfInBounds_toArray, List.set_cons_zero, List.set_cons_succ]
      go_simp
      have hend := app_below (NewT.trans _ _ _ HN.out ka) rfl hO h3
      go_wp2
      go_ret
      exact ⟨_, rfl, hend, h2⟩
theorem pathM_short {node : Hs → Hs → Hs} {z : Hs} (l : List Hs) (i : Nat) (hl : l.length ≤ 1000000) : (pathM node z l i).length ≤ 20 := by
  rw [pathM_length (node := node) (z := z) _ l i (Nat.le_refl _)]
  exact leftsM_le 20 i l.length (by omega)
theorem pathUp_cv {node : Hs → Hs → Hs} {z : Hs} (hX : TreeH node z) : ∀ (b : Nat) (v : Value) (l : List Hs) (i : Nat) (w : World), Tables w → RdH w v l → l.length ≤ b → i < l.length → l.length ≤ 1000000 → Cv 39 #[v, .int .i64 (i : Int)] w (svOw w.heap.size (pathM node z l i)) := by
  intro b
  induction b with
  | zero => intro v l i w _ _ h1 h2; omega
  | succ b ih =>
    intro v l i w hT hl hb hi hll
    by_cases h1 : l.length < 2
    · rw [pathM_few _ _ _ _ h1]; exact pathUp_1 v l i w hl (by omega)
    · have h2 : 2 ≤ l.length := by omega
      obtain ⟨s1, s2, _⟩ := splitN_lt l.length h2
      have hs : ∀ w, Cv 43 #[.int .i64 (l.length : Int)] w (.eq (.int .i64 ((splitN l.length : Nat) : Int))) := fun w => Split_cv (l.length : Int) (by omega) (by omega) w
      by_cases hil : i < splitN l.length
      · rw [pathM_l _ _ _ _ h2 hil]
        refine pathUp_l hX v l i _ w hT hl h2 hll s1 hi hil (Nat.le_trans (pathM_short _ _ (by rw [List.length_take]; omega)) (by omega)) hs (fun u w hT hu => ih u _ i w hT hu (by rw [List.length_take]; omega) (by rw [List.length_take]; omega) (by rw [List.length_take]; omega))
      · rw [pathM_r _ _ _ _ h2 hil]
        refine pathUp_r hX v l i _ w hT hl h2 hll s1 hi hil (Nat.le_trans (pathM_short _ _ (by rw [List.length_drop]; omega)) (by omega)) hs (fun u w hT hu => ih u _ (i - splitN l.length) w hT hu (by rw [List.length_drop]; omega) (by rw [List.length_drop]; omega) (by rw [List.length_drop]; omega))
/-- Is there such a leaf? -/
def okI (i : Int) (c : Nat) : Bool := decide (0 ≤ i) && decide (i < c)
set_option maxHeartbeats 1000000 in
theorem Path_bad (v : Value) (l : List Hs) (i : Int) (w : World) (hl : RdH w v l) (h : i < 0 ∨ (l.length : Int) ≤ i) : Cv 22 #[v, .int .i64 i] w (svPq [] false) := by
  unfold Cv
  obtain ⟨A, c, hv⟩ := rdH_form hl
  subst hv
  clear hl
  by_cases h1 : i < 0
  · clear h
    go_enter Tryd.func22, Tryd.ntmps22
    go_wp2
    refine bodyPost_ret (results_tmp2 rfl _ _ _) rfl ⟨_, rfl, NewT.refl _, _, rfl, rdH_nil _⟩
  · have h2 : (l.length : Int) ≤ i := by omega
    clear h
    go_enter Tryd.func22, Tryd.ntmps22
    go_wp2
    refine bodyPost_ret (results_tmp2 rfl _ _ _) rfl ⟨_, rfl, NewT.refl _, _, rfl, rdH_nil _⟩
set_option maxHeartbeats 1000000 in
theorem Path_good {node : Hs → Hs → Hs} {z : Hs} (hX : TreeH node z) (v : Value) (l : List Hs) (i : Nat) (w : World) (hT : Tables w) (hl : RdH w v l) (hi : i < l.length) (hll : l.length ≤ 1000000) : Cv 22 #[v, .int .i64 (i : Int)] w (svPq (pathM node z l i) true) := by
  unfold Cv
  have hc := pathUp_cv hX l.length v l i w hT hl (Nat.le_refl _) hi hll
  unfold Cv at hc
  have HC := Lib.hid hc
  obtain ⟨A, c, hv⟩ := rdH_form hl
  subst hv
  have t1 : ¬ (i : Int) < 0 := by omega
  have t2 : ¬ (l.length : Int) ≤ (i : Int) := by omega
  clear hl hc hT
  go_enter Tryd.func22, Tryd.ntmps22
  go_wp2_with (go_at_call 39; refine HC.out.mono ?_; rintro _ w4 ⟨u, rfl, hN4, ho4⟩)
  exact bodyPost_ret (results_tmp2 rfl _ _ _) rfl ⟨_, rfl, hN4, _, rfl, OwnH.rd ho4⟩
theorem Path_cv {node : Hs → Hs → Hs} {z : Hs} (hX : TreeH node z) (v : Value) (l : List Hs) (i : Int) (w : World) (hT : Tables w) (hl : RdH w v l) (hll : l.length ≤ 1000000) : Cv 22 #[v, .int .i64 i] w (svPq (if okI i l.length then pathM node z l i.toNat else []) (okI i l.length)) := by
  by_cases h : i < 0 ∨ (l.length : Int) ≤ i
  · have e : okI i l.length = false := by
      unfold okI
      rcases h with h | h
      · simp [show ¬ 0 ≤ i by omega]
      · simp [show ¬ i < (l.length : Int) by omega]
    rw [e, if_neg (by decide)]
    exact Path_bad v l i w hl h
  · obtain ⟨i, rfl⟩ : ∃ k : Nat, i = (k : Int) := ⟨i.toNat, by omega⟩
    have e : okI (i : Int) l.length = true := by unfold okI; simp; omega
    rw [e, if_pos rfl, Int.toNat_natCast]
    exact Path_good hX v l i w hT hl (by omega) hll
end Go.Proofs.YtlnedphnphabkaaDoor
