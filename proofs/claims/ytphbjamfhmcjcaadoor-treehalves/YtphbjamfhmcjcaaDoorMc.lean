/- A frontier's root. -/
import Derived.Test.YtphbjamfhmcjcaaDoorMb
import Derived.Test.YtphbjamfhmcjcaaDoorRows
import Derived.Test.YtphbjamfhmcjcaaDoorMa
import Derived.ProofKit
import Derived.OpenShut
import Derived.Carry
import Derived.LaidMore
import Derived.Stop.Joined
import Derived.Lib.LaidTab
import Derived.Stop.LaidErr
import Derived.Deep.Slices
set_option linter.all false
namespace Go.Proofs.YtphbjamfhmcjcaaDoor
open Go Go.RowKit Go.Shelf
attribute [local go_sem] Oper.semAt_some
set_option maxRecDepth 8000
set_option linter.all false
set_option maxHeartbeats 400000 in
theorem Size_any (g : Nat) (n : Int) (v : Value) (w : World) (h1 : w.rowIs g 35 2 (frF n v)) : Calls Tryd.prog 18 #[.pointer (some ⟨g, 0, none⟩)] w fun e w' => e = .returned (.int .i64 n) ∧ w = w' := by
  have c0 : w.cell? ⟨g, 0, none⟩ = some (.int .i64 n) := h1.cell (i := 0) (by omega)
  go_enter Tryd.func18, Tryd.ntmps18
  go_wp2
  go_ret
  exact ⟨rfl, rfl⟩
set_option maxHeartbeats 1000000 in
theorem FRoot_0 {node : Hs → Hs → Hs} {z : Hs} (hX : TreeH node z) (g : Nat) (v : Value) (w : World) (hT : Tables w) (hg : w.rowIs g 35 2 (frF 0 v)) : Cv 19 #[.pointer (some ⟨g, 0, none⟩)] w (.eq (.agg (rowA 32 (bF z)))) := by
  unfold Cv
  have HT := Lib.hid hT
  clear hT
  have hg0 := (NewT.alloc w (.cells (rowA 32 (bF fun _ => 0)) 24)).row hg
  go_enter Tryd.func19, Tryd.ntmps19
  go_upto_region 2 with (go_at_call 18; refine (Size_any g 0 v _ hg0).mono ?_; rintro _ _ ⟨rfl, rfl⟩)
  clear hg0 hg
  have r0 := rowIs_box w 24 32 (bF fun _ => 0)
  have hN := NewT.alloc w (.cells (rowA 32 (bF fun _ => 0)) 24)
  change Code.wp _ _ _ _ (w.alloc (.cells (rowA 32 (bF fun _ => 0)) 24))
  generalize w.alloc (.cells (rowA 32 (bF fun _ => 0)) 24) = W0 at r0 hN ⊢
  have R0 := Lib.hid r0
  have HN := Lib.hid hN
  replace HT := Lib.hid (hN.tables HT.out)
  clear r0 hN
  refine wp_region_steps0 NewT [SV.eq (.agg (rowA 32 (bF (z))))] [([], none)] 23 1 rfl rfl (by kernel_rfl) NewT.trans (NewT.refl _) (Nat.le_of_ble_eq_true rfl) ⟨?_, trivial⟩ ?_
  · intro a wx hT hF K hK
    refine rely_wp rfl ?_
    exact opr_cv (Sum_nil hX wx (hT.tables HT.out)) rfl Tryd.func20 (by kernel_rfl) (by kernel_rfl) (by simp only [List.map_toArray, List.map_cons, List.map_nil, eval_const]) hK
  · intro wx hT
    intro u h; obtain rfl := Eq.symm (h (by simp)); clear h
    refine relyEnd_nil rfl ?_
    simp only [Act.put, List.setIfInBounds_toArray, List.set_cons_zero, List.set_cons_succ]
    refine wpList_plain rfl (fun K hK => ?_)
    refine opr_store_new (B := w.heap.size) (W := w) info31 rfl rfl rfl (hT.row R0.out) (NewT.trans _ _ _ HN.out hT) (Nat.le_refl _) ?_
    intro w9 hB9 r9
    refine hK _ _ ?_
    refine wpList_end rfl ?_
    simp only [Act.put]
    go_simp
    go_wp2
    exact bodyPost_ret (results_row rfl _ rfl r9 Tryd.underlying24 info31) rfl ⟨_, rfl, hB9, rfl⟩
/-- What the things from the top down come to. -/
def upF (node : Hs → Hs → Hs) : List Hs → Hs
  | [] => fun _ => 0
  | x :: xs => xs.foldl (fun r t => node t r) x
theorem upF_snoc (node : Hs → Hs → Hs) (x : Hs) (xs : List Hs) (y : Hs) : upF node ((x :: xs) ++ [y]) = node y (upF node (x :: xs)) := by
  simp [upF, List.foldl_append]
theorem upF_rev (node : Hs → Hs → Hs) (z : Hs) : ∀ (S : List Hs), S ≠ [] → upF node S.reverse = rootF node z S
  | [], h => absurd rfl h
  | [x], _ => rfl
  | x :: y :: S, _ => by
    have ih := upF_rev node z (y :: S) (by simp)
    obtain ⟨t, T, e⟩ : ∃ t T, (y :: S).reverse = t :: T := by
      cases h : (y :: S).reverse with
      | nil => simp at h
      | cons t T => exact ⟨t, T, rfl⟩
    rw [List.reverse_cons, e, upF_snoc, ← e, ih]
    rfl
theorem topL_map (S : List Hs) : (topL S S.length).map (·.2) = S.reverse := by
  apply List.ext_getElem?
  intro i
  unfold topL
  rw [List.map_map, List.getElem?_map]
  by_cases h : i < S.length
  · rw [List.getElem?_reverse h]
    simp [h, show S.length - 1 - i < S.length by omega]
  · rw [List.getElem?_eq_none (by simp; omega), List.getElem?_eq_none (by simp; omega)]; rfl
theorem topL_length (S : List Hs) (k : Nat) : (topL S k).length = k := by simp [topL]
def FRInv (node : Hs → Hs → Hs) (w : World) (pre : List (Nat × Hs)) (V : World) : Prop :=
  V.rowIs (w.heap.size + 1) 24 32 (bF (upF node (pre.map (·.2)))) ∧ V.rowIs w.heap.size 24 32 (bF fun _ => 0) ∧ Below w.heap.size w V
theorem opr_putmO {P : Program} {a : Act} {w : World} {o : Oper} {K : Act → World → Prop} {Q : Exit → Act → World → Prop} {t t' : TypeId} {x y : Operand} {g o0 n m : Nat} {f f0 F : Nat → Value} (ho : o.op = .store t x y) (hx : a.eval x = .pointer (some ⟨g, o0, none⟩)) (hy : a.eval y = .agg (rowA m f)) (hr : w.rowIs g t' n f0) (hm : o0 + m ≤ n) (hi : (P.info? t).map (·.size) = some m) (hone : ∀ i, (f i).oneCell' = true)
    (hF : ∀ i, i < n → F i = if o0 ≤ i ∧ i < o0 + m then f (i - o0) else f0 i) (h : ∀ w', RT g w w' → KeepsOthers w w' → w'.rowIs g t' n F → K (a.put o.dst undef) w') : o.wp P a w K Q := by
  refine wp_store_mid t x y ho g o0 (rowA m f) hx hy (by rw [rowA_size]; exact fun j hj => ⟨by simp [hr.cell (i := o0 + j) (by omega)], by simpa using hr.frozen (o0 + j)⟩) (by rw [rowA_size]; exact hi) (rowA_one _ _ hone) ?_
  refine h _ (RT.setCells _ _ _) (keepsOthers_setCells _ _ _ _) ((rowIs_setCells_at hr (rowA m f).toList o0).congr fun i hi => ?_)
  rw [hF i hi, rowA_toList]
  simp only [List.length_map, List.length_range]
  by_cases h : o0 ≤ i ∧ i < o0 + m
  · rw [if_pos h, if_pos h]
    simp [show i - o0 < m by omega]
  · rw [if_neg h, if_neg h]
set_option maxHeartbeats 4000000 in
theorem FRoot_1 {node : Hs → Hs → Hs} {z : Hs} (hX : TreeH node z) (g B : Nat) (n : Int) (v : Value) (S : List Hs) (w : World) (hT : Tables w) (hg : w.rowIs g 35 2 (frF n v)) (ho : OwnH w B v S) (hn : n ≠ 0) (hS : S ≠ []) (hl : S.length ≤ 100000) : Calls Tryd.prog 19 #[.pointer (some ⟨g, 0, none⟩)] w fun e w' => e = .returned (.agg (rowA 32 (bF (rootF node z S)))) ∧ Below w.heap.size w w' := by
  have HT := Lib.hid hT
  have hgl := hg.lt
  have hz : (n == 0) = false := beq_eq_false_iff_ne.2 hn
  have hg0 := (NewT.alloc w (.cells (rowA 32 (bF fun _ => 0)) 24)).row hg
  refine (callsIn_wide (n := 0)).1 ?_
  refine callsIn_of_wp_marks Tryd.func19 rfl trivial ?_ rfl
  simp only [Tryd.ntmps19, List.size_toArray, List.length_cons, List.length_nil, Nat.reduceAdd, Nat.reduceSub, Array.replicate_succ, Array.replicate_zero, List.push_toArray, List.append_toArray, List.nil_append, List.cons_append]
  gi_wp2_with fail
  refine ⟨trivial, rfl, (callsIn_wide.2 (Size_any g n v _ hg0)).mono ?_⟩
  rintro _ _ ⟨rfl, rfl⟩
  clear hg0
  gi_wp2_with fail
  refine ⟨trivial, rfl, (callsIn_wide.2 (fromTop_any ⟨g, 1, none⟩ _)).mono ?_⟩
  rintro e W3 ⟨rfl, hW3⟩
  have hW3' : ((w.alloc (.cells (rowA 32 (bF fun _ => 0)) 24)).alloc (.cells (rowA 32 (bF fun _ => 0)) 24)).alloc (.cells #[.pointer (some ⟨g, 1, none⟩)] 69) = W3 := hW3
  clear hW3
  have bA : W3.rowIs w.heap.size 24 32 (bF fun _ => 0) := by
    rw [← hW3']; exact ((rowIs_box w 24 32 (bF fun _ => 0)).alloc _).alloc _
  have bB : W3.rowIs (w.heap.size + 1) 24 32 (bF fun _ => 0) := by
    rw [← hW3']
    have := (rowIs_box (w.alloc (.cells (rowA 32 (bF fun _ => 0)) 24)) 24 32 (bF fun _ => 0)).alloc (.cells #[.pointer (some ⟨g, 1, none⟩)] 69)
    rwa [World.size_alloc] at this
  have bC : W3.cell? ⟨w.heap.size + 1 + 1, 0, none⟩ = some (.pointer (some ⟨g, 1, none⟩)) := by
    rw [← hW3']
    have := one_cell ((w.alloc (.cells (rowA 32 (bF fun _ => 0)) 24)).alloc (.cells (rowA 32 (bF fun _ => 0)) 24)) (.pointer (some ⟨g, 1, none⟩)) 69 0 _ rfl
    rw [Addr.add_zero', World.size_alloc, World.size_alloc] at this
    exact this
  have hB3 : NewT w W3 := by
    rw [← hW3']; exact NewT.trans _ _ _ (NewT.trans _ _ _ (NewT.alloc _ _) (NewT.alloc _ _)) (NewT.alloc _ _)
  have hs3 : W3.heap.size = w.heap.size + 1 + 1 + 1 := by rw [← hW3']; simp
  clear hW3'
  have seq := fromTop1_seq [w.heap.size + 1] (w.heap.size + 1 + 1) g B n v S W3 (by simp) (by simp; omega) bC (hB3.row hg) (ho.new hB3) (fun k hk e => by simp at hk; have := (ho.lt k e).2; omega) hl
  clear bC
  gi_wp2_with fail
  refine range_law2 (n := 0) (gf := 41) (lb := #[.pointer (some ⟨w.heap.size + 1 + 1, 0, none⟩)]) rfl (enters_of Tryd.func41 (by kernel_rfl) rfl) seq (Below.refl _ _) KeepBut.trans (fun V k o o' _ h hc => KeepBut.putObj h hc)
    (fun _ x V k o o' _ h hc hG => hG) (fun _ => rfl)
    (FRInv node w) (fun _ _ _ => False)
    (fun pre A B h hb => ⟨rowIs_below h.1 hb (by omega), rowIs_below h.2.1 hb (by omega), h.2.2.trans (hb.mono (by omega))⟩)
    (fun _ _ _ _ h _ => h)
    ⟨bB, bA, hB3.out⟩
    (fun x a1 V => ∃ p, a1 = { tmps := #[.pointer (some ⟨g, 0, none⟩), undef, .pointer (some ⟨w.heap.size, 0, none⟩), .pointer (some ⟨w.heap.size + 1, 0, none⟩), .int .i64 (x.1 : Int), .pointer (some ⟨p, 0, none⟩), .pointer (some ⟨g, 0, none⟩), .int .i64 n, .bool false, undef, .pointer (some ⟨g, 0, none⟩), .pointer (some ⟨g, 0, none⟩), .pointer (some ⟨g, 1, none⟩), .func (.func 41) #[] #[.pointer (some ⟨w.heap.size + 1 + 1, 0, none⟩)], .int .i64 (x.1 : Int), .agg (rowA 32 (bF x.2)), undef, undef, undef, undef, undef, undef, undef], defers := [] } ∧ V.rowIs p 24 32 (bF x.2))
    (fun A B h => KeepBut.below h) (fun _ _ _ _ h _ => h) (fun x a1 V k o o' _ h hc hA => by obtain ⟨p, h1, h2⟩ := hA; exact ⟨p, h1, (KeepBut.putObj (L := []) h hc).row (by simp) h2⟩) ?assign ?body ?done ?stop
  case assign =>
    intro l2 x V K hK
    gi_upto_region 6 with fail
    refine wpIn_region_lit ?_
    refine wpListIn_wp (by kernel_rfl) (by simp) rfl (fun K hK => ?_)
    refine opr_alloc_at rfl (hK _ _ ?_)
    clear hK K
    refine wpListIn_wp (by kernel_rfl) (by simp) rfl (fun K hK => ?_)
    refine opr_putmO (F := bF x.2) rfl rfl rfl (rowIs_box V 24 32 (bF fun _ => 0)) (by decide) info31 (fun _ => rfl) (fun i hi => by rw [if_pos (by omega), Nat.sub_zero]) ?_
    intro w9 hR9 hK9 r9
    refine hK _ _ ?_
    clear hK K
    refine wpListIn_end rfl ?_
    simp only [Act.put, List.setIfInBounds_toArray, List.set_cons_zero, List.set_cons_succ]
    go_simp
    exact hK _ _ ((NewT.alloc _ _).out.trans (hR9.below.mono (Nat.le_refl _))) ⟨V.heap.size, rfl, r9⟩
  case body =>
    rintro l2 pre ⟨i, d⟩ a1 V hl2 ⟨hV, hZ, hBw⟩ ⟨hpre, hd, hlt⟩ ⟨p, rfl, hp⟩
    simp only at hpre hd hlt hp ⊢
    have HV0 := Lib.hid hV
    have HZ := Lib.hid hZ
    have HP := Lib.hid hp
    have HBW := Lib.hid hBw
    have HL := Lib.hid (topL_length S i)
    rw [← hpre] at HL
    clear hV hZ hp hBw hd hlt
    by_cases h0 : i = 0
    · subst h0
      obtain rfl : pre = [] := List.eq_nil_of_length_eq_zero HL.out
      obtain ⟨r, hr⟩ : ∃ r, upF node (([] : List (Nat × Hs)).map (·.2)) = r := ⟨_, rfl⟩
      rw [hr] at HV0
      have HV := HV0
      gi_upto_region 8 with fail
      refine wpIn_region_steps0 NewT [SV.eq (.agg (rowA 32 (bF (d))))] [([(5, none)], none)] 23 1 (by kernel_rfl) rfl rfl (by kernel_rfl) NewT.trans (NewT.refl _) (Nat.le_of_ble_eq_true rfl) ⟨?_, trivial⟩ ?_
      · intro a wx hT hF K hK
        obtain ⟨f5, _⟩ := hF
        have f5 : a.tmps.getD 5 undef = .pointer (some ⟨p, 0, none⟩) := f5
        refine rely_wp rfl ?_
        exact opr_load_hash rfl f5 (hT.row HP.out) (hK _ _ (NewT.refl _) rfl)
      · intro wx hT
        intro u h; obtain rfl := Eq.symm (h (by simp)); clear h
        refine relyEnd_nil rfl ?_
        simp only [Act.put, List.setIfInBounds_toArray, List.set_cons_zero, List.set_cons_succ]
        refine wpListIn_wp (by kernel_rfl) (by simp) rfl (fun K hK => ?_)
        refine opr_putmO (F := bF (d)) rfl rfl rfl (hT.row HV.out) (by decide) info31 (fun _ => rfl) (fun i hi => by rw [if_pos (by omega), Nat.sub_zero]) ?_
        intro w9 hR9 hK9 r9
        refine hK _ _ ?_
        refine wpListIn_end rfl ?_
        simp only [Act.put]
        go_simp
        gi_wp2
        refine ⟨((keepsOthers_below hT.out).trans hK9).from _, (KeepBut.below hT.out).trans hR9.keep, ?_, hR9.row (by omega) (hT.row HZ.out), HBW.out.trans ((hT.out.mono HBW.out.size).trans (hR9.below.mono (by omega)))⟩
        rw [List.map_append]
        skip
        exact r9
    · obtain ⟨y, ys, rfl⟩ : ∃ y ys, pre = y :: ys := by
        cases pre with
        | nil => exact absurd HL.out.symm h0
        | cons y ys => exact ⟨y, ys, rfl⟩
      obtain ⟨r, hr⟩ : ∃ r, upF node ((y :: ys).map (·.2)) = r := ⟨_, rfl⟩
      rw [hr] at HV0
      have HV := HV0
      have t0 : ((i : Int) == 0) = false := beq_eq_false_iff_ne.2 (by omega)
      gi_upto_region 9 with fail
      clear t0
      refine wpIn_region_steps0 NewT [SV.eq (.agg (rowA 32 (bF (d)))), SV.eq (.agg (rowA 32 (bF (r)))), SV.eq (.agg (rowA 32 (bF (node (d) (r)))))] [([(5, none)], none), ([(3, none)], none), ([(19, some 0), (20, some 1)], none)] 23 3 (by kernel_rfl) rfl rfl (by kernel_rfl) NewT.trans (NewT.refl _) (Nat.le_of_ble_eq_true rfl) ⟨?_, ?_, ?_, trivial⟩ ?_
      · intro a wx hT hF K hK
        obtain ⟨f5, _⟩ := hF
        have f5 : a.tmps.getD 5 undef = .pointer (some ⟨p, 0, none⟩) := f5
        refine rely_wp rfl ?_
        exact opr_load_hash rfl f5 (hT.row HP.out) (hK _ _ (NewT.refl _) rfl)
      · intro a wx hT hF K hK
        obtain ⟨f3, _⟩ := hF
        have f3 : a.tmps.getD 3 undef = .pointer (some ⟨w.heap.size + 1, 0, none⟩) := f3
        refine rely_wp rfl ?_
        exact opr_load_hash rfl f3 (hT.row HV.out) (hK _ _ (NewT.refl _) rfl)
      · intro a wx hT hF K hK
        obtain ⟨f19, f20, _⟩ := hF
        have f19 : a.tmps.getD 19 undef = .agg (rowA 32 (bF (d))) := f19
        have f20 : a.tmps.getD 20 undef = .agg (rowA 32 (bF (r))) := f20
        refine rely_wp rfl ?_
        exact opr_cv (Node_cv hX (d) (r) wx (HT.out.below (HBW.out.trans (hT.out.mono HBW.out.size)))) rfl Tryd.func12 (by kernel_rfl) (by kernel_rfl) (by simp only [List.map_toArray, List.map_cons, List.map_nil, eval_tmp, f19, f20]) hK
      · intro wx hT
        intro u h; obtain rfl := Eq.symm (h (by simp)); clear h
        intro u h; obtain rfl := Eq.symm (h (by simp)); clear h
        intro u h; obtain rfl := Eq.symm (h (by simp)); clear h
        refine relyEnd_nil rfl ?_
        simp only [Act.put, List.setIfInBounds_toArray, List.set_cons_zero, List.set_cons_succ]
        refine wpListIn_wp (by kernel_rfl) (by simp) rfl (fun K hK => ?_)
        refine opr_putmO (F := bF (node d r)) rfl rfl rfl (hT.row HV.out) (by decide) info31 (fun _ => rfl) (fun i hi => by rw [if_pos (by omega), Nat.sub_zero]) ?_
        intro w9 hR9 hK9 r9
        refine hK _ _ ?_
        refine wpListIn_end rfl ?_
        simp only [Act.put]
        go_simp
        gi_wp2
        refine ⟨((keepsOthers_below hT.out).trans hK9).from _, (KeepBut.below hT.out).trans hR9.keep, ?_, hR9.row (by omega) (hT.row HZ.out), HBW.out.trans ((hT.out.mono HBW.out.size).trans (hR9.below.mono (by omega)))⟩
        rw [List.map_append]
        rw [List.map_cons, List.map_cons, List.map_nil, upF_snoc, ← List.map_cons, hr]
        exact r9
  case done =>
    rintro D xs V hD hS' ⟨hV, hZ, hBw⟩ hK
    obtain ⟨r, hr⟩ : ∃ r, upF node (xs.map (·.2)) = r := ⟨_, rfl⟩
    rw [hr] at hV
    have Hr := Lib.hid hr
    have HS := Lib.hid hS'
    have HV := Lib.hid hV
    have HZ := Lib.hid hZ
    have HBW := Lib.hid hBw
    have HKD := Lib.hid hK
    clear hr hS' hV hZ hBw hK
    gi_upto_region 10 with fail
    refine wpIn_wide.2 ?_
    refine wp_region_steps0 NewT [SV.eq (.agg (rowA 32 (bF (r))))] [([(3, none)], none)] 23 1 rfl rfl (by kernel_rfl) NewT.trans (NewT.refl _) (Nat.le_of_ble_eq_true rfl) ⟨?_, trivial⟩ ?_
    · intro a wx hT hF K hK
      obtain ⟨f3, _⟩ := hF
      have f3 : a.tmps.getD 3 undef = .pointer (some ⟨w.heap.size + 1, 0, none⟩) := f3
      refine rely_wp rfl ?_
      exact opr_load_hash rfl f3 (hT.row HV.out) (hK _ _ (NewT.refl _) rfl)
    · intro wx hT
      intro u h; obtain rfl := Eq.symm (h (by simp)); clear h
      refine relyEnd_nil rfl ?_
      simp only [Act.put, List.setIfInBounds_toArray, List.set_cons_zero, List.set_cons_succ]
      refine wpList_plain rfl (fun K hK => ?_)
      refine opr_putmO (F := bF r) rfl rfl rfl (hT.row HZ.out) (by decide) info31 (fun _ => rfl) (fun i hi => by rw [if_pos (by omega), Nat.sub_zero]) ?_
      intro w9 hR9 hK9 r9
      refine hK _ _ ?_
      refine wpList_end rfl ?_
      simp only [Act.put]
      go_simp
      gi_wp2
      have hK2 := hK9.same D _ ((keepsOthers_below hT.out).same D _ HKD.out rfl) rfl
      refine ⟨by simp, .inl ⟨_, _, rfl, run_takeDeferred hK2, ?_⟩⟩
      refine ⟨_, results_row rfl _ rfl (rowIs_putObj r9 (by omega) _) Tryd.underlying24 info31, ?_, ?_⟩
      · rw [← Hr.out, HS.out, topL_map, upF_rev node z S hS]
      · exact (HBW.out.trans ((hT.out.mono HBW.out.size).trans (hR9.below.mono (Nat.le_refl _)))).trans (below_putObj (by omega) _)
  case stop =>
    rintro D c pre2 V hD _ h hK
    exact h.elim
theorem FRoot_cv {node : Hs → Hs → Hs} {z : Hs} (hX : TreeH node z) (g B : Nat) (n : Int) (S : List Hs) (w : World) (hT : Tables w) (h : FrAt w g B n S) (hn : n = 0 ↔ S = []) (hl : S.length ≤ 100000) : Cv 19 #[.pointer (some ⟨g, 0, none⟩)] w (.eq (.agg (rowA 32 (bF (rootF node z S))))) := by
  obtain ⟨v, hg, ho, _, _⟩ := h
  by_cases h0 : n = 0
  · obtain rfl := hn.1 h0
    subst h0
    exact FRoot_0 hX g v w hT hg
  · exact Cv.of_eq (FRoot_1 hX g B n v S w hT hg ho h0 (fun e => h0 (hn.2 e)) hl)
end Go.Proofs.YtphbjamfhmcjcaaDoor
/- A frontier's whole trees. -/
namespace Go.Proofs.YtphbjamfhmcjcaaDoor
open Go Go.RowKit Go.Shelf
attribute [local go_sem] Oper.semAt_some
set_option maxRecDepth 8000
set_option linter.all false
set_option maxHeartbeats 400000 in
theorem height_any (g : Nat) (n : Int) (A : Option Addr) (m c : Nat) (w : World) (h1 : w.rowIs g 35 2 (frF n (.slice A m c))) : Calls Tryd.prog 36 #[.pointer (some ⟨g, 1, none⟩)] w fun e w' => e = .returned (.int .i64 (m : Int)) ∧ w = w' := by
  have c1 : w.cell? ⟨g, 1, none⟩ = some (.slice A m c) := h1.cell (i := 1) (by omega)
  go_enter Tryd.func36, Tryd.ntmps36
  go_wp2
  go_ret
  exact ⟨rfl, rfl⟩
set_option maxHeartbeats 1000000 in
theorem Trees_0 (g : Nat) (v : Value) (w : World) (hg : w.rowIs g 35 2 (frF 0 v)) : Cv 21 #[.pointer (some ⟨g, 0, none⟩)] w (svH []) := by
  unfold Cv
  go_enter Tryd.func21, Tryd.ntmps21
  go_wp2_with (go_at_call 18; refine (Size_any g 0 v _ hg).mono ?_; rintro _ _ ⟨rfl, rfl⟩)
  go_ret
  exact ⟨_, rfl, NewT.refl _, rdH_nil _⟩
theorem made_rowH (N : Nat) : madeCells (Value.agg (rowA 32 (bF fun _ => 0))).cells N = rowA N (fun _ => .int .u8 0) := by
  apply Array.ext_getElem?
  intro i
  by_cases h : i < N
  · rw [rowA_at _ _ _ h]
    have hm : i % 32 < 32 := Nat.mod_lt _ (by omega)
    have e : (Value.agg (rowA 32 (bF fun _ => 0))).cells = rowA 32 (bF fun _ => 0) := rfl
    rw [e]
    simp only [madeCells, rowA_size, Array.getElem?_map, Array.getElem?_range, h, if_true, Option.map_some]
    rw [getElem!_def, rowA_at _ _ _ hm]
    rfl
  · rw [Array.getElem?_eq_none (by rw [size_madeCells]; omega), Array.getElem?_eq_none (by rw [rowA_size]; omega)]
theorem run_makeH (m : Nat) (hm : m ≤ 1000000) (W : World) : (Instr.makeSlice 31 (.int .i64 (m : Int)) (.int .i64 (m : Int))).run Tryd.prog W = .ok (.slice (some ⟨W.heap.size, 0, none⟩) m m) (W.alloc (.cells (rowA (m * 32) fun _ => .int .u8 0) 24)) := by
  obtain ⟨i0, hi, hz0, hz1, hz2⟩ := info_parts infoH
  have := run_make (P := Tryd.prog) W 31 24 i0 _ Tryd.underlying31 hi hz0 .i64 .i64 (m : Int) (m : Int) (by omega) (by omega) (by rw [hz2]; omega) (by omega)
  rw [this, hz1, Int.toNat_natCast, made_rowH]
/-- The answer's cells behind k rounds. -/
def trF (S : List Hs) (k q : Nat) : Value := if S.length - k ≤ q / 32 then bF (S.getD (q / 32) fun _ => 0) (q % 32) else .int .u8 0
theorem trF_step (S : List Hs) (k : Nat) (d : Hs) (hk : k < S.length) (hd : S[S.length - 1 - k]? = some d) (i : Nat) : trF S (k + 1) i = if (S.length - 1 - k) * 32 ≤ i ∧ i < (S.length - 1 - k) * 32 + 32 then bF d (i - (S.length - 1 - k) * 32) else trF S k i := by
  unfold trF
  by_cases h : (S.length - 1 - k) * 32 ≤ i ∧ i < (S.length - 1 - k) * 32 + 32
  · have e : i / 32 = S.length - 1 - k := by omega
    rw [if_pos h, if_pos (by omega), e, show i % 32 = i - (S.length - 1 - k) * 32 by omega]
    simp [List.getD, hd]
  · rw [if_neg h]
    by_cases h2 : S.length - k ≤ i / 32
    · rw [if_pos h2, if_pos (by omega)]
    · rw [if_neg h2, if_neg (by omega)]
theorem opr_idxV {a : Act} {w : World} {o : Oper} {K : Act → World → Prop} {Q : Exit → Act → World → Prop} {x y : Operand} {b off n c i : Nat} (hi : i < n) (ho : o.op = .indexAddr 31 x y) (hx : a.eval x = .slice (some ⟨b, off, none⟩) n c) (hy : a.eval y = .int .i64 (i : Int)) (h : K (a.put o.dst (.pointer (some ⟨b, off + i * 32, none⟩))) w) : o.wp Tryd.prog a w K Q := by
  obtain ⟨dst, op, type, pos, after, guard⟩ := o
  simp only at ho
  subst ho
  exact opr_val (s := Instr.indexAt 31 (a.eval x) (a.eval y)) rfl (by rw [hx, hy]; exact run_idxH w hi) h
def TRInv (S : List Hs) (w : World) (pre : List (Nat × Hs)) (V : World) : Prop :=
  V.rowIs w.heap.size 24 (S.length * 32) (trF S pre.length) ∧ V.rowIs (w.heap.size + 1) 31 1 (fun _ => .slice (some ⟨w.heap.size, 0, none⟩) S.length S.length) ∧ Below w.heap.size w V
set_option maxHeartbeats 4000000 in
theorem Trees_1 (g B : Nat) (n : Int) (v : Value) (S : List Hs) (w : World) (hg : w.rowIs g 35 2 (frF n v)) (ho : OwnH w B v S) (hn : n ≠ 0) (hl : S.length ≤ 100000) : Calls Tryd.prog 21 #[.pointer (some ⟨g, 0, none⟩)] w fun e w' => ∃ u, e = .returned u ∧ NewT w w' ∧ RdH w' u S := by
  have hgl := hg.lt
  have hz : (n == 0) = false := beq_eq_false_iff_ne.2 hn
  obtain ⟨A, c, hv, _⟩ := ho.cap
  subst hv
  have hmk := run_makeH S.length (by omega)
  refine (callsIn_wide (n := 0)).1 ?_
  refine callsIn_of_wp_marks Tryd.func21 rfl trivial ?_ rfl
  simp only [Tryd.ntmps21, List.size_toArray, List.length_cons, List.length_nil, Nat.reduceAdd, Nat.reduceSub, Array.replicate_succ, Array.replicate_zero, List.push_toArray, List.append_toArray, List.nil_append, List.cons_append]
  gi_wp2_with fail
  refine ⟨trivial, rfl, (callsIn_wide.2 (Size_any g n _ _ hg)).mono ?_⟩
  rintro _ _ ⟨rfl, rfl⟩
  gi_wp2_with fail
  refine ⟨trivial, rfl, (callsIn_wide.2 (height_any g n A S.length c _ hg)).mono ?_⟩
  rintro _ _ ⟨rfl, rfl⟩
  gi_wp2_with fail
  refine ⟨trivial, rfl, (callsIn_wide.2 (fromTop_any ⟨g, 1, none⟩ _)).mono ?_⟩
  rintro e W3 ⟨rfl, hW3⟩
  have hW3' : ((w.alloc (.cells (rowA (S.length * 32) fun _ => .int .u8 0) 24)).alloc (.cells #[(.slice (some ⟨w.heap.size, 0, none⟩) S.length S.length)] 31)).alloc (.cells #[.pointer (some ⟨g, 1, none⟩)] 69) = W3 := hW3
  clear hW3 hmk
  have bA : W3.rowIs w.heap.size 24 (S.length * 32) (trF S 0) := by
    rw [← hW3']; exact (((rowIs_box w 24 (S.length * 32) (fun _ => .int .u8 0)).alloc _).alloc _).congr fun i hi => by unfold trF; rw [if_neg (by omega)]
  have bB : W3.rowIs (w.heap.size + 1) 31 1 (fun _ => (.slice (some ⟨w.heap.size, 0, none⟩) S.length S.length)) := by
    rw [← hW3']
    have := (rowIs_box (w.alloc (.cells (rowA (S.length * 32) fun _ => .int .u8 0) 24)) 31 1 (fun _ => (.slice (some ⟨w.heap.size, 0, none⟩) S.length S.length))).alloc (.cells #[.pointer (some ⟨g, 1, none⟩)] 69)
    rwa [World.size_alloc] at this
  have bC : W3.cell? ⟨w.heap.size + 1 + 1, 0, none⟩ = some (.pointer (some ⟨g, 1, none⟩)) := by
    rw [← hW3']
    have := one_cell ((w.alloc (.cells (rowA (S.length * 32) fun _ => .int .u8 0) 24)).alloc (.cells #[(.slice (some ⟨w.heap.size, 0, none⟩) S.length S.length)] 31)) (.pointer (some ⟨g, 1, none⟩)) 69 0 _ rfl
    rw [Addr.add_zero', World.size_alloc, World.size_alloc] at this
    exact this
  have hB3 : NewT w W3 := by
    rw [← hW3']; exact NewT.trans _ _ _ (NewT.trans _ _ _ (NewT.alloc _ _) (NewT.alloc _ _)) (NewT.alloc _ _)
  have hs3 : W3.heap.size = w.heap.size + 1 + 1 + 1 := by rw [← hW3']; simp
  clear hW3'
  have seq := fromTop1_seq [w.heap.size] (w.heap.size + 1 + 1) g B n _ S W3 (by simp; omega) (by simp; omega) bC (hB3.row hg) (ho.new hB3) (fun k hk e => by simp at hk; have := (ho.lt k e).2; omega) hl
  clear bC
  have HSL := Lib.hid hl
  gi_wp2_with fail
  refine range_law2 (n := 0) (gf := 41) (lb := #[.pointer (some ⟨w.heap.size + 1 + 1, 0, none⟩)]) rfl (enters_of Tryd.func41 (by kernel_rfl) rfl) seq (Below.refl _ _) KeepBut.trans (fun V k o o' _ h hc => KeepBut.putObj h hc)
    (fun _ x V k o o' _ h hc hG => hG) (fun _ => rfl)
    (TRInv S w) (fun _ _ _ => False)
    (fun pre A B h hb => ⟨rowIs_below h.1 hb (by omega), rowIs_below h.2.1 hb (by omega), h.2.2.trans (hb.mono (by omega))⟩)
    (fun _ _ _ _ h _ => h)
    ⟨bA, bB, hB3.out⟩
    (fun x a1 V => ∃ p, a1 = { tmps := #[.pointer (some ⟨g, 0, none⟩), undef, .slice none 0 0, .pointer (some ⟨w.heap.size + 1, 0, none⟩), .int .i64 (x.1 : Int), .pointer (some ⟨p, 0, none⟩), .pointer (some ⟨g, 0, none⟩), .int .i64 n, .bool false, .pointer (some ⟨g, 0, none⟩), .pointer (some ⟨g, 0, none⟩), .pointer (some ⟨g, 1, none⟩), .int .i64 (S.length : Int), (.slice (some ⟨w.heap.size, 0, none⟩) S.length S.length), .pointer (some ⟨g, 0, none⟩), .pointer (some ⟨g, 0, none⟩), .pointer (some ⟨g, 1, none⟩), .func (.func 41) #[] #[.pointer (some ⟨w.heap.size + 1 + 1, 0, none⟩)], .int .i64 (x.1 : Int), .agg (rowA 32 (bF x.2)), undef, undef, undef, undef, undef, undef, undef, undef, undef], defers := [] } ∧ V.rowIs p 24 32 (bF x.2))
    (fun A B h => KeepBut.below h) (fun _ _ _ _ h _ => h) (fun x a1 V k o o' _ h hc hA => by obtain ⟨p, h1, h2⟩ := hA; exact ⟨p, h1, (KeepBut.putObj (L := []) h hc).row (by simp) h2⟩) ?assign ?body ?done ?stop
  case assign =>
    intro l2 x V K hK
    gi_upto_region 6 with fail
    refine wpIn_region_lit ?_
    refine wpListIn_wp (by kernel_rfl) (by simp) rfl (fun K hK => ?_)
    refine opr_alloc_at rfl (hK _ _ ?_)
    clear hK K
    refine wpListIn_wp (by kernel_rfl) (by simp) rfl (fun K hK => ?_)
    refine opr_putmO (F := bF x.2) rfl rfl rfl (rowIs_box V 24 32 (bF fun _ => 0)) (by decide) info31 (fun _ => rfl) (fun i hi => by rw [if_pos (by omega), Nat.sub_zero]) ?_
    intro w9 hR9 hK9 r9
    refine hK _ _ ?_
    clear hK K
    refine wpListIn_end rfl ?_
    simp only [Act.put, List.setIfInBounds_toArray, List.set_cons_zero, List.set_cons_succ]
    go_simp
    exact hK _ _ ((NewT.alloc _ _).out.trans (hR9.below.mono (Nat.le_refl _))) ⟨V.heap.size, rfl, r9⟩
  case body =>
    rintro l2 pre ⟨i, d⟩ a1 V hl2 ⟨hV, hZ, hBw⟩ ⟨hpre, hd, hlt⟩ ⟨p, rfl, hp⟩
    simp only at hpre hd hlt hp ⊢
    have HL := Lib.hid (topL_length S i)
    rw [← hpre] at HL
    rw [HL.out] at hV
    obtain ⟨j, hj⟩ : ∃ j, S.length - 1 - i = j := ⟨_, rfl⟩
    have HV := Lib.hid hV
    have HBX := Lib.hid hZ
    have HP := Lib.hid hp
    have HBW := Lib.hid hBw
    have HD := Lib.hid hd
    have HI := Lib.hid hlt
    have HJE := Lib.hid hj
    have HJ : Hid (j < S.length) := Lib.hid (by omega)
    have HJI : Hid ((S.length : Int) - 1 - (i : Int) = (j : Int)) := Lib.hid (by omega)
    clear hV hZ hp hBw hd hlt hj hpre
    gi_upto_region 7 with fail
    refine wpIn_region_steps0 NewT [SV.eq ((.slice (some ⟨w.heap.size, 0, none⟩) S.length S.length)), SV.eq ((.slice (some ⟨w.heap.size, 0, none⟩) S.length S.length)), SV.eq (.int .i64 ((S.length : Int))), SV.eq (.int .i64 ((S.length : Int) - 1)), SV.eq (.int .i64 ((i : Int))), SV.eq (.int .i64 ((j : Int))), SV.eq (.agg (rowA 32 (bF (d)))), SV.eq (.pointer (some ⟨w.heap.size, j * 32, none⟩))] [([(3, none)], none), ([(3, none)], none), ([(21, some 1)], none), ([(22, some 2)], none), ([(4, none)], none), ([(23, some 3), (24, some 4)], none), ([(5, none)], none), ([(20, some 0), (25, some 5)], none)] 29 8 (by kernel_rfl) rfl rfl (by kernel_rfl) NewT.trans (NewT.refl _) (Nat.le_of_ble_eq_true rfl) ⟨?_, ?_, ?_, ?_, ?_, ?_, ?_, ?_, trivial⟩ ?_
    · intro a wx hT hF K hK
      obtain ⟨f3, _⟩ := hF
      have f3 : a.tmps.getD 3 undef = .pointer (some ⟨w.heap.size + 1, 0, none⟩) := f3
      refine rely_wp rfl ?_
      exact opr_ldHs (hT.row HBX.out) (by decide) rfl rfl f3 (hK _ _ (NewT.refl _) rfl)
    · intro a wx hT hF K hK
      obtain ⟨f3, _⟩ := hF
      have f3 : a.tmps.getD 3 undef = .pointer (some ⟨w.heap.size + 1, 0, none⟩) := f3
      refine rely_wp rfl ?_
      exact opr_ldHs (hT.row HBX.out) (by decide) rfl rfl f3 (hK _ _ (NewT.refl _) rfl)
    · intro a wx hT hF K hK
      obtain ⟨f21, _⟩ := hF
      have f21 : a.tmps.getD 21 undef = (.slice (some ⟨w.heap.size, 0, none⟩) S.length S.length) := f21
      refine rely_wp rfl ?_
      exact opr_len rfl Tryd.underlying31 f21 (hK _ _ (NewT.refl _) rfl)
    · intro a wx hT hF K hK
      obtain ⟨f22, _⟩ := hF
      have f22 : a.tmps.getD 22 undef = .int .i64 ((S.length : Int)) := f22
      refine rely_wp rfl ?_
      exact opr_sub (r := (S.length : Int) - 1) Tryd.underlying3 (by unfold wrap64; have := HSL.out; omega) rfl f22 rfl (hK _ _ (NewT.refl _) rfl)
    · intro a wx hT hF K hK
      obtain ⟨f4, _⟩ := hF
      have f4 : a.tmps.getD 4 undef = .int .i64 ((i : Int)) := f4
      refine rely_wp rfl ?_
      exact opr_move (.inl rfl) (hK _ _ (NewT.refl _) f4)
    · intro a wx hT hF K hK
      obtain ⟨f23, f24, _⟩ := hF
      have f23 : a.tmps.getD 23 undef = .int .i64 ((S.length : Int) - 1) := f23
      have f24 : a.tmps.getD 24 undef = .int .i64 ((i : Int)) := f24
      refine rely_wp rfl ?_
      exact opr_sub (r := (j : Int)) Tryd.underlying3 (by unfold wrap64; have := HSL.out; have := HJI.out; omega) rfl f23 f24 (hK _ _ (NewT.refl _) rfl)
    · intro a wx hT hF K hK
      obtain ⟨f5, _⟩ := hF
      have f5 : a.tmps.getD 5 undef = .pointer (some ⟨p, 0, none⟩) := f5
      refine rely_wp rfl ?_
      exact opr_load_hash rfl f5 (hT.row HP.out) (hK _ _ (NewT.refl _) rfl)
    · intro a wx hT hF K hK
      obtain ⟨f20, f25, _⟩ := hF
      have f20 : a.tmps.getD 20 undef = (.slice (some ⟨w.heap.size, 0, none⟩) S.length S.length) := f20
      have f25 : a.tmps.getD 25 undef = .int .i64 ((j : Int)) := f25
      refine rely_wp rfl ?_
      exact opr_idxV (i := j) HJ.out rfl f20 f25 (hK _ _ (NewT.refl _) (by rw [Nat.zero_add]; rfl))
    · intro wx hT
      intro u h; obtain rfl := Eq.symm (h (by simp)); clear h
      intro u h; obtain rfl := Eq.symm (h (by simp)); clear h
      intro u h; obtain rfl := Eq.symm (h (by simp)); clear h
      intro u h; obtain rfl := Eq.symm (h (by simp)); clear h
      intro u h; obtain rfl := Eq.symm (h (by simp)); clear h
      intro u h; obtain rfl := Eq.symm (h (by simp)); clear h
      intro u h; obtain rfl := Eq.symm (h (by simp)); clear h
      intro u h; obtain rfl := Eq.symm (h (by simp)); clear h
      refine relyEnd_nil rfl ?_
      simp only [Act.put, List.setIfInBounds_toArray, List.set_cons_zero, List.set_cons_succ]
      refine wpListIn_wp (by kernel_rfl) (by simp) rfl (fun K hK => ?_)
      refine opr_putmO (F := trF S (i + 1)) rfl rfl rfl (hT.row HV.out) (by have := HJ.out; omega) info31 (fun _ => rfl) (fun q hq => by have := trF_step S i d HI.out HD.out q; rw [HJE.out] at this; exact this) ?_
      intro w9 hR9 hK9 r9
      refine hK _ _ ?_
      refine wpListIn_end rfl ?_
      simp only [Act.put]
      go_simp
      gi_wp2
      refine ⟨((keepsOthers_below hT.out).trans hK9).from _, (KeepBut.below hT.out).trans hR9.keep, ?_, hR9.row (by omega) (hT.row HBX.out), HBW.out.trans ((hT.out.mono HBW.out.size).trans (hR9.below.mono (Nat.le_refl _)))⟩
      rw [List.length_append, HL.out]
      exact r9
  case done =>
    rintro D xs V hD hS' ⟨hV, hZ, hBw⟩ hK
    rw [hS', topL_length] at hV
    have HV := Lib.hid hV
    have HBW := Lib.hid hBw
    have HKD := Lib.hid hK
    have cZ := hZ.cell (i := 0) (by omega)
    clear hS' hV hZ hBw hK
    gi_wp2
    refine ⟨by simp, .inl ⟨_, _, rfl, run_takeDeferred HKD.out, ?_⟩⟩
    refine ⟨_, results_tmp rfl _ _ _, _, rfl, NewT.of (HBW.out.trans (below_putObj (by omega) _)), ?_⟩
    refine rdH_row (rowIs_putObj HV.out (by omega) _) (Nat.le_refl _) (by unfold maxLen; omega) fun i d hd j hj => ?_
    unfold trF
    rw [if_pos (by omega), show (i * 32 + j) / 32 = i by omega, show (i * 32 + j) % 32 = j by omega]
    simp [List.getD, hd]
  case stop =>
    rintro D c pre2 V hD _ h hK
    exact h.elim
theorem Trees_cv (g B : Nat) (n : Int) (S : List Hs) (w : World) (h : FrAt w g B n S) (hn : n = 0 ↔ S = []) (hl : S.length ≤ 100000) : Cv 21 #[.pointer (some ⟨g, 0, none⟩)] w (svH S) := by
  obtain ⟨v, hg, ho, _, _⟩ := h
  by_cases h0 : n = 0
  · obtain rfl := hn.1 h0
    subst h0
    exact Trees_0 g v w hg
  · exact Trees_1 g B n v S w hg ho h0 hl
end Go.Proofs.YtphbjamfhmcjcaaDoor
/- Layer 5's own example: the law's function alive returns true. -/
namespace Go.Proofs.YtphbjamfhmcjcaaDoor
open Go Go.RowKit
set_option maxRecDepth 8000
set_option linter.all false
theorem Tables.lowG {g : Nat} {w w' : World} (h : Tables w) (hg : 1 < g) (hb : Below g w w') : Tables w' :=
  ⟨Nat.lt_of_lt_of_le h.size hb.size, fun i hi => (hb.cell (p := ⟨1, i, none⟩) (by simpa using hg)).trans (h.k i hi), fun i hi => (hb.cell (p := ⟨0, i, none⟩) (by show 0 < g; omega)).trans (h.f i hi)⟩
theorem z_hex : (⟨(hexL (shaL Kc Fc []) 32).toArray⟩ : ByteArray) = ⟨#[101, 51, 98, 48, 99, 52, 52, 50, 57, 56, 102, 99, 49, 99, 49, 52, 57, 97, 102, 98, 102, 52, 99, 56, 57, 57, 54, 102, 98, 57, 50, 52, 50, 55, 97, 101, 52, 49, 101, 52, 54, 52, 57, 98, 57, 51, 52, 99, 97, 52, 57, 53, 57, 57, 49, 98, 55, 56, 53, 50, 98, 56, 53, 53]⟩ := by decide +kernel
theorem leaf_ne : eqH (shaL Kc Fc ([0] ++ ([97] ++ []))) (shaL Kc Fc ([0] ++ ([98] ++ []))) = false := by decide +kernel
section
variable {a : Act} {w : World} {o : Oper} {K : Act → World → Prop} {Q : Exit → Act → World → Prop} {x y : Operand}
/-- '[]byte("..")' of one letter. -/
theorem wpList_lit1 {P2 : Array Oper} {rest : List Oper} {o1 o2 : Oper} {d1 : Nat} {b : UInt8} (hg1 : o1.guard = none) (hg2 : o2.guard = none) (h1 : o1.op = .buildSlice 22 1 #[(0, .const (.int .u8 (bN b)))]) (hd : o1.dst = some d1) (h2 : o2.op = .convert 22 22 (.tmp d1)) (hlt : d1 < a.tmps.size)
    (h : ∀ v w', NewT w w' → RdV w' [] v [b] → wpList Tryd.prog P2 Q rest ((a.put (some d1) v).put o2.dst v) w') : wpList Tryd.prog P2 Q (o1 :: o2 :: rest) a w := by
  refine wpList_plain hg1 fun K hK => ?_
  obtain ⟨dst, op, type, pos, after, guard⟩ := o1
  simp only at h1 hd
  subst h1 hd
  refine opr_val (s := Instr.buildSlice 22 1 #[(0, .int .u8 (bN b))]) (by simp [execOp, eval_const]) (run_bsb1 _ w) (hK _ _ ?_)
  clear hK K
  refine wpList_plain hg2 fun K2 hK2 => ?_
  obtain ⟨dst2, op2, type2, pos2, after2, guard2⟩ := o2
  simp only at h2
  subst h2
  refine opr_val (s := convert 22 22 (.slice (some ⟨w.heap.size, 0, none⟩) 1 1)) ?_ (conv_bytes w #[.int .u8 (bN b)] w.heap.size 1 1 rfl) (hK2 _ _ ?_)
  · simp [execOp, eval_tmp, Act.put, hlt]
  refine h _ _ (NewT.alloc _ _) (rdV_lit (l := [b]) (by simp) (by decide) fun i hi => ?_)
  obtain rfl : i = 0 := by simpa using hi
  rw [cell_new_fr _ _ _ _ _ _ rfl]; rfl
theorem opr_eqlS {t2 : TypeId} {S1 S2 : ByteArray} {b : Bool} (hb : (S1.toList == S2.toList) = b) (ho : o.op = .binOp .eql 9 x y t2) (hx : a.eval x = .string S1) (hy : a.eval y = .string S2) (h : K (a.put o.dst (.bool b)) w) : o.wp Tryd.prog a w K Q := by
  obtain ⟨dst, op', type, pos, after, guard⟩ := o
  simp only at ho
  subst ho hb
  refine opr_val (s := do eqGuard .eql 9 x y (a.eval x) (a.eval y); binOp .eql 9 (a.eval x) (a.eval y)) rfl ?_ h
  rw [hx, hy]
  simp [go_sem]
end
theorem rootM_two {node : Hs → Hs → Hs} {z : Hs} (p q : Hs) : rootM node z [p, q] = node p q := by
  have := rootM_app node z [p] [q] 0 rfl (by simp) (by simp)
  simpa [rootM_one] using this
attribute [local go_sem] conv_bytes
set_option maxHeartbeats 4000000 in
theorem alive5_any (w : World) (hT : Tables w) : Calls Tryd.prog 9 #[] w fun e w' => e = .returned (.bool true) ∧ Below w.heap.size w w' := by
  obtain ⟨node, z, hX⟩ := tree_ex
  obtain ⟨da, HDA⟩ := hid_ex (shaL Kc Fc ([0] ++ ([97] ++ [])))
  obtain ⟨db, HDB⟩ := hid_ex (shaL Kc Fc ([0] ++ ([98] ++ [])))
  obtain ⟨S0, HS0⟩ := hid_ex (⟨(hexL z 32).toArray⟩ : ByteArray)
  have HS1 : Hid ((S0.toList == (⟨#[101, 51, 98, 48, 99, 52, 52, 50, 57, 56, 102, 99, 49, 99, 49, 52, 57, 97, 102, 98, 102, 52, 99, 56, 57, 57, 54, 102, 98, 57, 50, 52, 50, 55, 97, 101, 52, 49, 101, 52, 54, 52, 57, 98, 57, 51, 52, 99, 97, 52, 57, 53, 57, 57, 49, 98, 55, 56, 53, 50, 98, 56, 53, 53]⟩ : ByteArray).toList) = true) := Lib.hid (by rw [← HS0.out, ← hX.zero, z_hex]; decide +kernel)
  have HNE : Hid (eqH da db = false) := Lib.hid (by rw [← HDA.out, ← HDB.out]; exact leaf_ne)
  have HT := Lib.hid hT
  have HG1 : Hid (1 < w.heap.size) := Lib.hid hT.size
  clear hT
  go_enter Tryd.func9, Tryd.ntmps9
  go_upto_region 2 with fail
  have r0 := rowIs_box w 35 2 (frF 0 (.slice none 0 0))
  have hN := NewT.alloc w (.cells (rowA 2 (frF 0 (.slice none 0 0))) 35)
  change Code.wp _ _ _ _ (w.alloc (.cells (rowA 2 (frF 0 (.slice none 0 0))) 35))
  have hsz : (w.alloc (.cells (rowA 2 (frF 0 (.slice none 0 0))) 35)).heap.size = w.heap.size + 1 := by simp
  generalize w.alloc (.cells (rowA 2 (frF 0 (.slice none 0 0))) 35) = W0 at r0 hN hsz ⊢
  obtain ⟨g, hg⟩ : ∃ g, w.heap.size = g := ⟨_, rfl⟩
  rw [hg] at r0 hsz HG1 ⊢
  have HN := Lib.hid hN
  have RG := Lib.hid r0
  have hgW : g < W0.heap.size := by omega
  replace HT := Lib.hid (hN.tables HT.out)
  clear r0 hN hsz
  refine wp_region_lit ?_
  refine wpList_lit1 (b := 97) rfl rfl rfl rfl rfl (by simp) ?_
  intro v5 w1 n1 q1
  simp only [Act.put, List.setIfInBounds_toArray, List.set_cons_zero, List.set_cons_succ]
  refine wpList_plain rfl (fun K hK => ?_)
  refine opr_cv (Leaf_cv v5 [97] da w1 (n1.tables HT.out) q1 (by simp) HDA.out) rfl Tryd.func10 (by kernel_rfl) (by kernel_rfl) (by simp only [List.map_toArray, List.map_cons, List.map_nil, eval_tmp]; rfl) ?_
  intro v6 w2 n2 e6
  obtain rfl : v6 = .agg (rowA 32 (bF da)) := e6
  refine hK _ _ ?_
  clear hK K
  simp only [Act.put, List.setIfInBounds_toArray, List.set_cons_zero, List.set_cons_succ]
  refine wpList_lit1 (b := 98) rfl rfl rfl rfl rfl (by simp) ?_
  intro v8 w3 n3 q3
  simp only [Act.put, List.setIfInBounds_toArray, List.set_cons_zero, List.set_cons_succ]
  have n03 := NewT.trans _ _ _ (NewT.trans _ _ _ n1 n2) n3
  refine wpList_plain rfl (fun K hK => ?_)
  refine opr_cv (Leaf_cv v8 [98] db w3 (n03.tables HT.out) q3 (by simp) HDB.out) rfl Tryd.func10 (by kernel_rfl) (by kernel_rfl) (by simp only [List.map_toArray, List.map_cons, List.map_nil, eval_tmp]; rfl) ?_
  intro v9 w4 n4 e9
  obtain rfl : v9 = .agg (rowA 32 (bF db)) := e9
  refine hK _ _ ?_
  clear hK K
  simp only [Act.put, List.setIfInBounds_toArray, List.set_cons_zero, List.set_cons_succ]
  have n04 := NewT.trans _ _ _ n03 n4
  refine wpList_plain rfl (fun K hK => ?_)
  refine opr_alloc_at rfl (hK _ _ ?_)
  clear hK K
  refine wpList_plain rfl (fun K hK => ?_)
  refine opr_alloc_at rfl (hK _ _ ?_)
  clear hK K
  have ra := (rowIs_box w4 24 32 (bF fun _ => 0)).alloc (.cells (rowA 32 (bF fun _ => 0)) 24)
  have rb := rowIs_box (w4.alloc (.cells (rowA 32 (bF fun _ => 0)) 24)) 24 32 (bF fun _ => 0)
  have n05 := NewT.trans _ _ _ n04 (NewT.trans _ _ _ (NewT.alloc w4 (.cells (rowA 32 (bF fun _ => 0)) 24)) (NewT.alloc _ (.cells (rowA 32 (bF fun _ => 0)) 24)))
  rw [World.size_alloc] at rb
  simp only [Act.put, List.setIfInBounds_toArray, List.set_cons_zero, List.set_cons_succ, World.size_alloc]
  have hga : g < w4.heap.size := Nat.lt_of_lt_of_le hgW n04.out.size
  generalize (w4.alloc (.cells (rowA 32 (bF fun _ => 0)) 24)).alloc (.cells (rowA 32 (bF fun _ => 0)) 24) = w5 at ra rb n05 ⊢
  obtain ⟨pa, hpa⟩ : ∃ p, w4.heap.size = p := ⟨_, rfl⟩
  rw [hpa] at ra rb hga ⊢
  obtain ⟨pb, hpb⟩ : ∃ p, pa + 1 = p := ⟨_, rfl⟩
  rw [hpb] at rb ⊢
  refine wpList_plain rfl (fun K hK => ?_)
  refine opr_putm (F := bF da) rfl rfl rfl ra (by decide) info31 (fun _ => rfl) (fun i hi => by rw [if_pos (by omega), Nat.sub_zero]) ?_
  intro w6 hR6 ra6
  refine hK _ _ ?_
  clear hK K
  refine wpList_plain rfl (fun K hK => ?_)
  refine opr_putm (F := bF db) rfl rfl rfl (hR6.row (by omega) rb) (by decide) info31 (fun _ => rfl) (fun i hi => by rw [if_pos (by omega), Nat.sub_zero]) ?_
  intro w7 hR7 rb7
  refine hK _ _ ?_
  clear hK K
  refine wpList_end rfl ?_
  simp only [Act.put]
  obtain ⟨B, hB⟩ : ∃ B, w7.heap.size = B := ⟨_, rfl⟩
  have HNW : Hid (Below g w w7) := Lib.hid ((HN.out.out.mono (by omega)).trans ((n05.out.mono (by omega)).trans ((hR6.below.mono (by omega)).trans (hR7.below.mono (by omega)))))
  have HF : Hid (FrAt w7 g B 0 []) := Lib.hid ⟨_, hR7.row (by omega) (hR6.row (by omega) (n05.row RG.out)), ownH_nil _ _, by have := n05.out.size; have := hR6.size; have := hR7.size; omega, by omega⟩
  have RA := Lib.hid (hR7.row (by omega) ra6)
  have RB := Lib.hid rb7
  have HPA : Hid (pa < B ∧ pb < B ∧ pa ≠ g ∧ pb ≠ g) := Lib.hid ⟨by have := RA.out.lt; omega, by have := rb7.lt; omega, by omega, by omega⟩
  replace HT := Lib.hid (HT.out.lowG HG1.out ((n05.out.mono (by omega)).trans ((hR6.below.mono (by omega)).trans (hR7.below.mono (by omega)))))
  clear hR6 hR7 ra rb ra6 rb7 n05 n04 n03 n4 n3 n2 n1 q1 q3 HN RG hga hgW hpa hpb hB
  go_simp
  go_upto_region 3 with fail
  refine wp_region_steps0 NewT [SV.eq (.agg (rowA 32 (bF (da))))] [([(2, none)], none)] 52 1 rfl rfl (by kernel_rfl) NewT.trans (NewT.refl _) (Nat.le_of_ble_eq_true rfl) ⟨?_, trivial⟩ ?_
  · intro a wx hT hF K hK
    obtain ⟨f2, _⟩ := hF
    have f2 : a.tmps.getD 2 undef = .pointer (some ⟨pa, 0, none⟩) := f2
    refine rely_wp rfl ?_
    exact opr_load_hash rfl f2 (hT.row RA.out) (hK _ _ (NewT.refl _) rfl)
  · intro w3 k3
    intro u h; obtain rfl := Eq.symm (h (by simp)); clear h
    refine relyEnd_nil rfl ?_
    simp only [Act.put, List.setIfInBounds_toArray, List.set_cons_zero, List.set_cons_succ]
    refine wpList_plain rfl (fun K hK => ?_)
    refine opr_call rfl Tryd.func17 (by kernel_rfl) (by kernel_rfl) (by simp only [List.map_toArray, List.map_cons, List.map_nil, eval_tmp]; rfl) ((Add_c hX g B 0 ([]) da w3 (k3.tables HT.out) (k3.front HF.out) HG1.out (by rw [onesN_zero]; rfl) (by omega)).mono ?_)
    rintro _ w4 ⟨rfl, ft1, fa1⟩
    refine ⟨_, rfl, hK _ _ ?_⟩
    refine wpList_end rfl ?_
    simp only [Act.put, List.setIfInBounds_toArray, List.set_cons_zero, List.set_cons_succ]
    go_simp
    replace RA := Lib.hid (ft1.row HPA.out.1 HPA.out.2.2.1 (k3.row RA.out))
    replace RB := Lib.hid (ft1.row HPA.out.2.1 HPA.out.2.2.2 (k3.row RB.out))
    replace HT := Lib.hid ((k3.tables HT.out).lowG HG1.out ft1.below)
    replace HNW := Lib.hid (HNW.out.trans ((k3.out.mono (by have := HF.out.lt; omega)).trans ft1.below))
    replace HF := Lib.hid (show FrAt w4 g B 1 [da] from fa1)
    clear ft1 fa1 k3
    go_upto_region 4 with fail
    refine wp_region_steps0 NewT [SV.eq (.agg (rowA 32 (bF (db))))] [([(3, none)], none)] 52 1 rfl rfl (by kernel_rfl) NewT.trans (NewT.refl _) (Nat.le_of_ble_eq_true rfl) ⟨?_, trivial⟩ ?_
    · intro a wx hT hF K hK
      obtain ⟨f3, _⟩ := hF
      have f3 : a.tmps.getD 3 undef = .pointer (some ⟨pb, 0, none⟩) := f3
      refine rely_wp rfl ?_
      exact opr_load_hash rfl f3 (hT.row RB.out) (hK _ _ (NewT.refl _) rfl)
    · intro w5 k5
      intro u h; obtain rfl := Eq.symm (h (by simp)); clear h
      refine relyEnd_nil rfl ?_
      simp only [Act.put, List.setIfInBounds_toArray, List.set_cons_zero, List.set_cons_succ]
      refine wpList_plain rfl (fun K hK => ?_)
      refine opr_call rfl Tryd.func17 (by kernel_rfl) (by kernel_rfl) (by simp only [List.map_toArray, List.map_cons, List.map_nil, eval_tmp]; rfl) ((Add_c hX g B 1 ([da]) db w5 (k5.tables HT.out) (k5.front HF.out) HG1.out (by rw [onesN_step]; simp [onesN_zero]) (by omega)).mono ?_)
      rintro _ w6 ⟨rfl, ft2, fa2⟩
      refine ⟨_, rfl, hK _ _ ?_⟩
      refine wpList_end rfl ?_
      simp only [Act.put, List.setIfInBounds_toArray, List.set_cons_zero, List.set_cons_succ]
      go_simp
      replace RA := Lib.hid (ft2.row HPA.out.1 HPA.out.2.2.1 (k5.row RA.out))
      replace RB := Lib.hid (ft2.row HPA.out.2.1 HPA.out.2.2.2 (k5.row RB.out))
      replace HT := Lib.hid ((k5.tables HT.out).lowG HG1.out ft2.below)
      replace HNW := Lib.hid (HNW.out.trans ((k5.out.mono (by have := HF.out.lt; omega)).trans ft2.below))
      replace HF := Lib.hid (show FrAt w6 g B 2 [node da db] from fa2)
      clear ft2 fa2 k5
      go_upto_region 5 with fail
      refine wp_region_rely (NewT) [SV.eq (.agg (rowA 32 (bF (z)))), SV.eq ((.string S0)), SV.eq (.bool true), SV.eq (.bool true), SV.eq (.int .i64 ((splitN (Int.toNat 5) : Int))), SV.eq (.bool true), SV.eq (.bool true), SV.eq (.bool true), SV.eq (.agg (rowA 32 (bF (da)))), SV.eq (.agg (rowA 32 (bF (db)))), SV.eq (.bool true), SV.eq (.bool true), SV.eq (.bool true), SV.eq (.int .i64 (2)), SV.eq (.bool true), SV.eq (.bool true), SV.eq (.bool true), SV.eq (.agg (rowA 32 (bF (rootF node z ([node da db]))))), SV.eq (.agg (rowA 32 (bF (da)))), SV.eq (.agg (rowA 32 (bF (db)))), SV.eq (.agg (rowA 32 (bF (node (da) (db))))), SV.eq (.bool true), SV.eq (.bool true), SV.eq (.bool true), SV.eq (.agg (rowA 32 (bF (da)))), SV.eq (.agg (rowA 32 (bF (db)))), svH ([da, db]), SV.eq (.agg (rowA 32 (bF (rootM node z ([da, db]))))), SV.eq (.agg (rowA 32 (bF (da)))), SV.eq (.agg (rowA 32 (bF (db)))), SV.eq (.agg (rowA 32 (bF (node (da) (db))))), SV.eq (.bool true), SV.eq (.bool true), SV.eq (.bool true), svH ([node da db]), SV.eq (.int .i64 ((List.length ([node da db]) : Int))), SV.eq (.bool true), SV.eq (.bool true)] [([], none), ([(14, some 0)], none), ([(15, some 1)], none), ([(16, some 2)], none), ([(17, some 3)], some (17, true)), ([(18, some 4), (17, some 3)], some (17, true)), ([(17, some 3), (19, some 5)], none), ([(20, some 6)], none), ([(2, none), (21, some 7)], some (21, true)), ([(3, none), (21, some 7)], some (21, true)), ([(22, some 8), (23, some 9), (21, some 7)], some (21, true)), ([(21, some 7), (24, some 10)], none), ([(25, some 11)], none), ([(1, none), (26, some 12)], some (26, true)), ([(27, some 13), (26, some 12)], some (26, true)), ([(26, some 12), (28, some 14)], none), ([(29, some 15)], none), ([(1, none), (30, some 16)], some (30, true)), ([(2, none), (30, some 16)], some (30, true)), ([(3, none), (30, some 16)], some (30, true)), ([(32, some 18), (33, some 19), (30, some 16)], some (30, true)), ([(31, some 17), (34, some 20), (30, some 16)], some (30, true)), ([(30, some 16), (35, some 21)], none), ([(36, some 22)], none), ([(2, none), (37, some 23)], some (37, true)), ([(3, none), (37, some 23)], some (37, true)), ([(38, some 24), (39, some 25), (37, some 23)], some (37, true)), ([(40, some 26), (37, some 23)], some (37, true)), ([(2, none), (37, some 23)], some (37, true)), ([(3, none), (37, some 23)], some (37, true)), ([(42, some 28), (43, some 29), (37, some 23)], some (37, true)), ([(41, some 27), (44, some 30), (37, some 23)], some (37, true)), ([(37, some 23), (45, some 31)], none), ([(46, some 32)], none), ([(1, none), (47, some 33)], some (47, true)), ([(48, some 34), (47, some 33)], some (47, true)), ([(49, some 35), (47, some 33)], some (47, true)), ([(47, some 33), (50, some 36)], none)] 52 rfl (by kernel_rfl) rfl (by kernel_rfl) (by kernel_rfl) rfl NewT.trans (NewT.drew _) (Nat.le_of_ble_eq_true rfl) ⟨?_, ?_, ?_, ?_, ?_, ?_, ?_, ?_, ?_, ?_, ?_, ?_, ?_, ?_, ?_, ?_, ?_, ?_, ?_, ?_, ?_, ?_, ?_, ?_, ?_, ?_, ?_, ?_, ?_, ?_, ?_, ?_, ?_, ?_, ?_, ?_, ?_, ?_, trivial⟩ ?_
      · intro a wx hT hF K hK
        refine rely_wp rfl ?_
        exact opr_cv (Root_nil hX wx (hT.tables HT.out)) rfl Tryd.func25 (by kernel_rfl) (by kernel_rfl) (by simp only [List.map_toArray, List.map_cons, List.map_nil, eval_const]) hK
      · intro a wx hT hF K hK
        obtain ⟨f14, _⟩ := hF
        have f14 : a.tmps.getD 14 undef = .agg (rowA 32 (bF (z))) := f14
        refine rely_wp rfl ?_
        exact opr_cv (Hex_cv z S0 wx HS0.out) rfl Tryd.func26 (by kernel_rfl) (by kernel_rfl) (by simp only [List.map_toArray, List.map_cons, List.map_nil, eval_tmp, f14]) hK
      · intro a wx hT hF K hK
        obtain ⟨f15, _⟩ := hF
        have f15 : a.tmps.getD 15 undef = (.string S0) := f15
        refine rely_wp rfl ?_
        exact opr_eqlS HS1.out rfl f15 rfl (hK _ _ (NewT.refl _) rfl)
      · intro a wx hT hF K hK
        obtain ⟨f16, _⟩ := hF
        have f16 : a.tmps.getD 16 undef = .bool true := f16
        refine rely_wp rfl ?_
        exact opr_move (.inl rfl) (hK _ _ (NewT.refl _) f16)
      · intro a wx hT hF K hK
        obtain ⟨f17, _⟩ := hF
        have f17 : a.tmps.getD 17 undef = .bool true := f17
        refine rely_wp (rely_guard f17) ?_
        exact opr_cv (Split_cv 5 (by omega) (by omega) wx) rfl Tryd.func15 (by kernel_rfl) (by kernel_rfl) (by simp only [List.map_toArray, List.map_cons, List.map_nil, eval_const]) hK
      · intro a wx hT hF K hK
        obtain ⟨f18, f17, _⟩ := hF
        have f18 : a.tmps.getD 18 undef = .int .i64 ((splitN (Int.toNat 5) : Int)) := f18
        have f17 : a.tmps.getD 17 undef = .bool true := f17
        refine rely_wp (rely_guard f17) ?_
        exact opr_cmp (b := true) (.inl ⟨rfl, (by show (((splitN (Int.toNat 5) : Nat) : Int) == 4) = true; decide +kernel)⟩) Tryd.underlying3 rfl f18 rfl (hK _ _ (NewT.refl _) rfl)
      · intro a wx hT hF K hK
        obtain ⟨f17, f19, _⟩ := hF
        have f17 : a.tmps.getD 17 undef = .bool true := f17
        have f19 : a.tmps.getD 19 undef = .bool true := f19
        refine rely_wp rfl ?_
        exact opr_pick_true rfl f17 (hK _ _ (NewT.refl _) f19)
      · intro a wx hT hF K hK
        obtain ⟨f20, _⟩ := hF
        have f20 : a.tmps.getD 20 undef = .bool true := f20
        refine rely_wp rfl ?_
        exact opr_move (.inl rfl) (hK _ _ (NewT.refl _) f20)
      · intro a wx hT hF K hK
        obtain ⟨f2, f21, _⟩ := hF
        have f2 : a.tmps.getD 2 undef = .pointer (some ⟨pa, 0, none⟩) := f2
        have f21 : a.tmps.getD 21 undef = .bool true := f21
        refine rely_wp (rely_guard f21) ?_
        exact opr_load_hash rfl f2 (hT.row RA.out) (hK _ _ (NewT.refl _) rfl)
      · intro a wx hT hF K hK
        obtain ⟨f3, f21, _⟩ := hF
        have f3 : a.tmps.getD 3 undef = .pointer (some ⟨pb, 0, none⟩) := f3
        have f21 : a.tmps.getD 21 undef = .bool true := f21
        refine rely_wp (rely_guard f21) ?_
        exact opr_load_hash rfl f3 (hT.row RB.out) (hK _ _ (NewT.refl _) rfl)
      · intro a wx hT hF K hK
        obtain ⟨f22, f23, f21, _⟩ := hF
        have f22 : a.tmps.getD 22 undef = .agg (rowA 32 (bF (da))) := f22
        have f23 : a.tmps.getD 23 undef = .agg (rowA 32 (bF (db))) := f23
        have f21 : a.tmps.getD 21 undef = .bool true := f21
        refine rely_wp (rely_guard f21) ?_
        exact opr_neq_hash (b := true) rfl f22 f23 ((by rw [HNE.out]; rfl)) (hK _ _ (NewT.refl _) rfl)
      · intro a wx hT hF K hK
        obtain ⟨f21, f24, _⟩ := hF
        have f21 : a.tmps.getD 21 undef = .bool true := f21
        have f24 : a.tmps.getD 24 undef = .bool true := f24
        refine rely_wp rfl ?_
        exact opr_pick_true rfl f21 (hK _ _ (NewT.refl _) f24)
      · intro a wx hT hF K hK
        obtain ⟨f25, _⟩ := hF
        have f25 : a.tmps.getD 25 undef = .bool true := f25
        refine rely_wp rfl ?_
        exact opr_move (.inl rfl) (hK _ _ (NewT.refl _) f25)
      · intro a wx hT hF K hK
        obtain ⟨f1, f26, _⟩ := hF
        have f1 : a.tmps.getD 1 undef = .pointer (some ⟨g, 0, none⟩) := f1
        have f26 : a.tmps.getD 26 undef = .bool true := f26
        refine rely_wp (rely_guard f26) ?_
        exact opr_cv (Size_cv g B 2 ([node da db]) wx (hT.front HF.out)) rfl Tryd.func18 (by kernel_rfl) (by kernel_rfl) (by simp only [List.map_toArray, List.map_cons, List.map_nil, eval_tmp, f1]) hK
      · intro a wx hT hF K hK
        obtain ⟨f27, f26, _⟩ := hF
        have f27 : a.tmps.getD 27 undef = .int .i64 (2) := f27
        have f26 : a.tmps.getD 26 undef = .bool true := f26
        refine rely_wp (rely_guard f26) ?_
        exact opr_cmp (b := true) (.inl ⟨rfl, (by decide)⟩) Tryd.underlying3 rfl f27 rfl (hK _ _ (NewT.refl _) rfl)
      · intro a wx hT hF K hK
        obtain ⟨f26, f28, _⟩ := hF
        have f26 : a.tmps.getD 26 undef = .bool true := f26
        have f28 : a.tmps.getD 28 undef = .bool true := f28
        refine rely_wp rfl ?_
        exact opr_pick_true rfl f26 (hK _ _ (NewT.refl _) f28)
      · intro a wx hT hF K hK
        obtain ⟨f29, _⟩ := hF
        have f29 : a.tmps.getD 29 undef = .bool true := f29
        refine rely_wp rfl ?_
        exact opr_move (.inl rfl) (hK _ _ (NewT.refl _) f29)
      · intro a wx hT hF K hK
        obtain ⟨f1, f30, _⟩ := hF
        have f1 : a.tmps.getD 1 undef = .pointer (some ⟨g, 0, none⟩) := f1
        have f30 : a.tmps.getD 30 undef = .bool true := f30
        refine rely_wp (rely_guard f30) ?_
        exact opr_cv (FRoot_cv hX g B 2 ([node da db]) wx (hT.tables HT.out) (hT.front HF.out) (by simp) (by simp)) rfl Tryd.func19 (by kernel_rfl) (by kernel_rfl) (by simp only [List.map_toArray, List.map_cons, List.map_nil, eval_tmp, f1]) hK
      · intro a wx hT hF K hK
        obtain ⟨f2, f30, _⟩ := hF
        have f2 : a.tmps.getD 2 undef = .pointer (some ⟨pa, 0, none⟩) := f2
        have f30 : a.tmps.getD 30 undef = .bool true := f30
        refine rely_wp (rely_guard f30) ?_
        exact opr_load_hash rfl f2 (hT.row RA.out) (hK _ _ (NewT.refl _) rfl)
      · intro a wx hT hF K hK
        obtain ⟨f3, f30, _⟩ := hF
        have f3 : a.tmps.getD 3 undef = .pointer (some ⟨pb, 0, none⟩) := f3
        have f30 : a.tmps.getD 30 undef = .bool true := f30
        refine rely_wp (rely_guard f30) ?_
        exact opr_load_hash rfl f3 (hT.row RB.out) (hK _ _ (NewT.refl _) rfl)
      · intro a wx hT hF K hK
        obtain ⟨f32, f33, f30, _⟩ := hF
        have f32 : a.tmps.getD 32 undef = .agg (rowA 32 (bF (da))) := f32
        have f33 : a.tmps.getD 33 undef = .agg (rowA 32 (bF (db))) := f33
        have f30 : a.tmps.getD 30 undef = .bool true := f30
        refine rely_wp (rely_guard f30) ?_
        exact opr_cv (Node_cv hX (da) (db) wx (hT.tables HT.out)) rfl Tryd.func12 (by kernel_rfl) (by kernel_rfl) (by simp only [List.map_toArray, List.map_cons, List.map_nil, eval_tmp, f32, f33]) hK
      · intro a wx hT hF K hK
        obtain ⟨f31, f34, f30, _⟩ := hF
        have f31 : a.tmps.getD 31 undef = .agg (rowA 32 (bF (rootF node z ([node da db])))) := f31
        have f34 : a.tmps.getD 34 undef = .agg (rowA 32 (bF (node (da) (db)))) := f34
        have f30 : a.tmps.getD 30 undef = .bool true := f30
        refine rely_wp (rely_guard f30) ?_
        exact opr_eql_hash (b := true) rfl f31 f34 ((by rw [show rootF node z [node da db] = node da db from rfl]; exact eqH_same _)) (hK _ _ (NewT.refl _) rfl)
      · intro a wx hT hF K hK
        obtain ⟨f30, f35, _⟩ := hF
        have f30 : a.tmps.getD 30 undef = .bool true := f30
        have f35 : a.tmps.getD 35 undef = .bool true := f35
        refine rely_wp rfl ?_
        exact opr_pick_true rfl f30 (hK _ _ (NewT.refl _) f35)
      · intro a wx hT hF K hK
        obtain ⟨f36, _⟩ := hF
        have f36 : a.tmps.getD 36 undef = .bool true := f36
        refine rely_wp rfl ?_
        exact opr_move (.inl rfl) (hK _ _ (NewT.refl _) f36)
      · intro a wx hT hF K hK
        obtain ⟨f2, f37, _⟩ := hF
        have f2 : a.tmps.getD 2 undef = .pointer (some ⟨pa, 0, none⟩) := f2
        have f37 : a.tmps.getD 37 undef = .bool true := f37
        refine rely_wp (rely_guard f37) ?_
        exact opr_load_hash rfl f2 (hT.row RA.out) (hK _ _ (NewT.refl _) rfl)
      · intro a wx hT hF K hK
        obtain ⟨f3, f37, _⟩ := hF
        have f3 : a.tmps.getD 3 undef = .pointer (some ⟨pb, 0, none⟩) := f3
        have f37 : a.tmps.getD 37 undef = .bool true := f37
        refine rely_wp (rely_guard f37) ?_
        exact opr_load_hash rfl f3 (hT.row RB.out) (hK _ _ (NewT.refl _) rfl)
      · intro a wx hT hF K hK
        obtain ⟨f38, f39, f37, _⟩ := hF
        have f38 : a.tmps.getD 38 undef = .agg (rowA 32 (bF (da))) := f38
        have f39 : a.tmps.getD 39 undef = .agg (rowA 32 (bF (db))) := f39
        have f37 : a.tmps.getD 37 undef = .bool true := f37
        refine rely_wp (rely_guard f37) ?_
        exact opr_bsH2 rfl f38 f39 hK
      · intro a wx hT hF K hK
        obtain ⟨f40, f37, _⟩ := hF
        replace f40 := show (svH ([da, db])).pred (a.tmps.getD 40 undef) wx from f40
        have f37 : a.tmps.getD 37 undef = .bool true := f37
        refine rely_wp (rely_guard f37) ?_
        exact opr_cv (Root_cv hX _ _ ([da, db]) wx (hT.tables HT.out) (f40) (Nat.le_refl _) (by simp)) rfl Tryd.func25 (by kernel_rfl) (by kernel_rfl) (by simp only [List.map_toArray, List.map_cons, List.map_nil, eval_tmp]) hK
      · intro a wx hT hF K hK
        obtain ⟨f2, f37, _⟩ := hF
        have f2 : a.tmps.getD 2 undef = .pointer (some ⟨pa, 0, none⟩) := f2
        have f37 : a.tmps.getD 37 undef = .bool true := f37
        refine rely_wp (rely_guard f37) ?_
        exact opr_load_hash rfl f2 (hT.row RA.out) (hK _ _ (NewT.refl _) rfl)
      · intro a wx hT hF K hK
        obtain ⟨f3, f37, _⟩ := hF
        have f3 : a.tmps.getD 3 undef = .pointer (some ⟨pb, 0, none⟩) := f3
        have f37 : a.tmps.getD 37 undef = .bool true := f37
        refine rely_wp (rely_guard f37) ?_
        exact opr_load_hash rfl f3 (hT.row RB.out) (hK _ _ (NewT.refl _) rfl)
      · intro a wx hT hF K hK
        obtain ⟨f42, f43, f37, _⟩ := hF
        have f42 : a.tmps.getD 42 undef = .agg (rowA 32 (bF (da))) := f42
        have f43 : a.tmps.getD 43 undef = .agg (rowA 32 (bF (db))) := f43
        have f37 : a.tmps.getD 37 undef = .bool true := f37
        refine rely_wp (rely_guard f37) ?_
        exact opr_cv (Node_cv hX (da) (db) wx (hT.tables HT.out)) rfl Tryd.func12 (by kernel_rfl) (by kernel_rfl) (by simp only [List.map_toArray, List.map_cons, List.map_nil, eval_tmp, f42, f43]) hK
      · intro a wx hT hF K hK
        obtain ⟨f41, f44, f37, _⟩ := hF
        have f41 : a.tmps.getD 41 undef = .agg (rowA 32 (bF (rootM node z ([da, db])))) := f41
        have f44 : a.tmps.getD 44 undef = .agg (rowA 32 (bF (node (da) (db)))) := f44
        have f37 : a.tmps.getD 37 undef = .bool true := f37
        refine rely_wp (rely_guard f37) ?_
        exact opr_eql_hash (b := true) rfl f41 f44 ((by rw [rootM_two]; exact eqH_same _)) (hK _ _ (NewT.refl _) rfl)
      · intro a wx hT hF K hK
        obtain ⟨f37, f45, _⟩ := hF
        have f37 : a.tmps.getD 37 undef = .bool true := f37
        have f45 : a.tmps.getD 45 undef = .bool true := f45
        refine rely_wp rfl ?_
        exact opr_pick_true rfl f37 (hK _ _ (NewT.refl _) f45)
      · intro a wx hT hF K hK
        obtain ⟨f46, _⟩ := hF
        have f46 : a.tmps.getD 46 undef = .bool true := f46
        refine rely_wp rfl ?_
        exact opr_move (.inl rfl) (hK _ _ (NewT.refl _) f46)
      · intro a wx hT hF K hK
        obtain ⟨f1, f47, _⟩ := hF
        have f1 : a.tmps.getD 1 undef = .pointer (some ⟨g, 0, none⟩) := f1
        have f47 : a.tmps.getD 47 undef = .bool true := f47
        refine rely_wp (rely_guard f47) ?_
        exact opr_cv (Trees_cv g B 2 ([node da db]) wx (hT.front HF.out) (by simp) (by simp)) rfl Tryd.func21 (by kernel_rfl) (by kernel_rfl) (by simp only [List.map_toArray, List.map_cons, List.map_nil, eval_tmp, f1]) hK
      · intro a wx hT hF K hK
        obtain ⟨f48, f47, _⟩ := hF
        replace f48 := show (svH ([node da db])).pred (a.tmps.getD 48 undef) wx from f48
        have f47 : a.tmps.getD 47 undef = .bool true := f47
        refine rely_wp (rely_guard f47) ?_
        exact opr_len_h rfl f48 (hK _ _ (NewT.refl _) rfl)
      · intro a wx hT hF K hK
        obtain ⟨f49, f47, _⟩ := hF
        have f49 : a.tmps.getD 49 undef = .int .i64 ((List.length ([node da db]) : Int)) := f49
        have f47 : a.tmps.getD 47 undef = .bool true := f47
        refine rely_wp (rely_guard f47) ?_
        exact opr_cmp (b := true) (.inl ⟨rfl, (by rfl)⟩) Tryd.underlying3 rfl f49 rfl (hK _ _ (NewT.refl _) rfl)
      · intro a wx hT hF K hK
        obtain ⟨f47, f50, _⟩ := hF
        have f47 : a.tmps.getD 47 undef = .bool true := f47
        have f50 : a.tmps.getD 50 undef = .bool true := f50
        refine rely_wp rfl ?_
        exact opr_pick_true rfl f47 (hK _ _ (NewT.refl _) f50)
      · intro w7 k7
        intro u h; obtain rfl := Eq.symm (h (by simp)); clear h
        intro u h; obtain rfl := Eq.symm (h (by simp)); clear h
        intro u h; obtain rfl := Eq.symm (h (by simp)); clear h
        intro u h; obtain rfl := Eq.symm (h (by simp)); clear h
        intro u h; obtain rfl := Eq.symm (h (by simp)); clear h
        intro u h; obtain rfl := Eq.symm (h (by simp)); clear h
        intro u h; obtain rfl := Eq.symm (h (by simp)); clear h
        intro u h; obtain rfl := Eq.symm (h (by simp)); clear h
        intro u h; obtain rfl := Eq.symm (h (by simp)); clear h
        intro u h; obtain rfl := Eq.symm (h (by simp)); clear h
        intro u h; obtain rfl := Eq.symm (h (by simp)); clear h
        intro u h; obtain rfl := Eq.symm (h (by simp)); clear h
        intro u h; obtain rfl := Eq.symm (h (by simp)); clear h
        intro u h; obtain rfl := Eq.symm (h (by simp)); clear h
        intro u h; obtain rfl := Eq.symm (h (by simp)); clear h
        intro u h; obtain rfl := Eq.symm (h (by simp)); clear h
        intro u h; obtain rfl := Eq.symm (h (by simp)); clear h
        intro u h; obtain rfl := Eq.symm (h (by simp)); clear h
        intro u h; obtain rfl := Eq.symm (h (by simp)); clear h
        intro u h; obtain rfl := Eq.symm (h (by simp)); clear h
        intro u h; obtain rfl := Eq.symm (h (by simp)); clear h
        intro u h; obtain rfl := Eq.symm (h (by simp)); clear h
        intro u h; obtain rfl := Eq.symm (h (by simp)); clear h
        intro u h; obtain rfl := Eq.symm (h (by simp)); clear h
        intro u h; obtain rfl := Eq.symm (h (by simp)); clear h
        intro u h; obtain rfl := Eq.symm (h (by simp)); clear h
        intro _ _
        intro u h; obtain rfl := Eq.symm (h (by simp)); clear h
        intro u h; obtain rfl := Eq.symm (h (by simp)); clear h
        intro u h; obtain rfl := Eq.symm (h (by simp)); clear h
        intro u h; obtain rfl := Eq.symm (h (by simp)); clear h
        intro u h; obtain rfl := Eq.symm (h (by simp)); clear h
        intro u h; obtain rfl := Eq.symm (h (by simp)); clear h
        intro u h; obtain rfl := Eq.symm (h (by simp)); clear h
        intro _ _
        intro u h; obtain rfl := Eq.symm (h (by simp)); clear h
        intro u h; obtain rfl := Eq.symm (h (by simp)); clear h
        intro u h; obtain rfl := Eq.symm (h (by simp)); clear h
        refine relyEnd_nil rfl ?_
        simp only [Act.put, List.setIfInBounds_toArray, List.set_cons_zero, List.set_cons_succ]
        refine opr_move (.inr rfl) ?_
        go_simp
        go_wp2
        go_ret
        exact ⟨rfl, HNW.out.trans (k7.out.mono (by have := HF.out.lt; omega))⟩
end Go.Proofs.YtphbjamfhmcjcaaDoor
/- What the laws of layer 5 share: a frontier that takes a list's leaves one by one. -/
namespace Go.Proofs.YtphbjamfhmcjcaaDoor
open Go Go.RowKit
set_option maxRecDepth 8000
set_option linter.all false
theorem fr_next {node : Hs → Hs → Hs} {z : Hs} {l : List Hs} {m : Nat} {d : Hs} {w : World} {g B : Nat} (hd : l[m]? = some d) (h : FrAt w g B ((m : Int) + 1) (addT node m d (treesM node z (l.take m)).reverse).reverse) : FrAt w g B ((m + 1 : Nat) : Int) (treesM node z (l.take (m + 1))) := by
  have hm : m < l.length := (List.getElem?_eq_some_iff.1 hd).1
  have e : l.take (m + 1) = l.take m ++ [d] := by rw [List.take_add_one, hd]; rfl
  have hl : (l.take m).length = m := by rw [List.length_take]; omega
  have e2 := treesM_add (node := node) (z := z) (l.take m) d
  rw [hl] at e2
  rw [e, e2, Int.natCast_add]
  exact h
theorem ft_new {w wr wa wb : World} {g B : Nat} (h : NewT w wr) (ka : NewT wr wa) (ft : FT g B wa wb) (hg : w.heap.size ≤ g) (hlt : g < wr.heap.size) : NewT w wb :=
  NewT.of (h.out.trans ((ka.out.mono h.out.size).trans (ft.below.mono hg)))
theorem fr_zero {node : Hs → Hs → Hs} {z : Hs} (l : List Hs) (n : Nat) (hn : n ≤ l.length) : ((n : Nat) : Int) = 0 ↔ treesM node z (l.take n) = [] := by
  have h := treesM_ones (node := node) (z := z) (l.take n)
  rw [List.length_take, Nat.min_eq_left hn] at h
  constructor
  · intro h0
    obtain rfl : n = 0 := by omega
    rw [List.take_zero, treesM_nil]
  · intro e
    rw [e] at h
    by_cases h0 : n = 0
    · subst h0; rfl
    · have := onesN_pos n (by omega); simp at h; omega
theorem fr_len {node : Hs → Hs → Hs} {z : Hs} (l : List Hs) (n : Nat) (hn : n ≤ l.length) (h : n ≤ 100000) : (treesM node z (l.take n)).length ≤ 100000 := by
  rw [treesM_ones, List.length_take, Nat.min_eq_left hn]
  have := onesN_le n; omega
end Go.Proofs.YtphbjamfhmcjcaaDoor
/- The law TreeHalves, walked: a list's root is the node of its parts', and a whole tree's frontier is one root. -/
namespace Go.Proofs.YtphbjamfhmcjcaaDoor
open Go Go.RowKit
set_option maxRecDepth 8000
set_option linter.all false
set_option maxHeartbeats 4000000 in
theorem TreeHalves_walk (v : Value) (l : List Hs) (w : World) (hT : Tables w) (hl : RdH w v l) : Calls Tryd.prog 6 #[v] w fun e w' => e = .returned (.bool true) ∧ Below w.heap.size w w' := by
  by_cases h70 : 70 < l.length
  · have t1 : decide ((70 : Int) < (l.length : Int)) = true := by simp; omega
    obtain ⟨node, z, hX⟩ := tree_ex
    have HT := Lib.hid hT
    have HL := Lib.hid hl
    obtain ⟨A, c, hv⟩ := rdH_form hl
    have HV := Lib.hid hv
    subst hv
    clear hT hl
    go_enter Tryd.func6, Tryd.ntmps6
    go_upto_region 3 with (go_at_call 9; refine (alive5_any _ HT.out).mono ?_; rintro _ w1 ⟨rfl, hA1⟩)
    go_wp2
    go_ret
    exact ⟨rfl, hA1⟩
  by_cases h2 : l.length < 2
  · have t1 : decide ((70 : Int) < (l.length : Int)) = false := by simp; omega
    have t2 : decide ((l.length : Int) < (2 : Int)) = true := by simp; omega
    obtain ⟨node, z, hX⟩ := tree_ex
    have HT := Lib.hid hT
    have HL := Lib.hid hl
    obtain ⟨A, c, hv⟩ := rdH_form hl
    have HV := Lib.hid hv
    subst hv
    clear hT hl
    go_enter Tryd.func6, Tryd.ntmps6
    go_upto_region 3 with (go_at_call 9; refine (alive5_any _ HT.out).mono ?_; rintro _ w1 ⟨rfl, hA1⟩)
    go_wp2
    go_ret
    exact ⟨rfl, hA1⟩
  have t1 : decide ((70 : Int) < (l.length : Int)) = false := by simp; omega
  have t2 : decide ((l.length : Int) < (2 : Int)) = false := by simp; omega
  obtain ⟨k, hk⟩ : ∃ k, splitN l.length = k := ⟨_, rfl⟩
  have HK : Hid (∀ w, Cv 15 #[.int .i64 (l.length : Int)] w (.eq (.int .i64 (k : Int)))) := Lib.hid fun w => by
    have := Split_cv (l.length : Int) (by omega) (by omega) w
    rwa [Int.toNat_natCast, hk] at this
  obtain ⟨s1, s2, s3⟩ := splitN_lt l.length (by omega)
  have HRS0 := Lib.hid (fun (node : Hs → Hs → Hs) (z : Hs) => rootM_split node z l (by omega))
  obtain ⟨e, he⟩ : ∃ e, k = 2 ^ e := ⟨_, by rw [← hk]; unfold splitN; rw [if_neg (by omega)]⟩
  have HE := Lib.hid he
  rw [hk] at s1 s2 s3 HRS0
  have t3 : decide ((k : Int) < (1 : Int)) = false := by simp; omega
  have t4 : decide ((l.length : Int) ≤ (k : Int)) = false := by simp; omega
  have t5 : decide ((2 : Int) * (k : Int) < (l.length : Int)) = false := by simp; omega
  have hk35 : k ≤ 70 := by omega
  have HLEN : Hid (l.length ≤ 70) := Lib.hid (by omega)
  clear hk s3 he
  obtain ⟨node, z, hX⟩ := tree_ex
  have HT := Lib.hid hT
  have HL := Lib.hid hl
  obtain ⟨A, c, hv⟩ := rdH_form hl
  have HV := Lib.hid hv
  subst hv
  clear hT hl
  go_enter Tryd.func6, Tryd.ntmps6
  go_upto_region 9 with (first | (go_at_call 9; refine (alive5_any _ HT.out).mono ?_; rintro _ w1 ⟨rfl, hA1⟩) | (go_at_call 15; refine (HK.out _).eq.mono ?_; rintro _ w2 ⟨rfl, hA2⟩))
  have HRS := Lib.hid (HRS0.out node z)
  have HN := Lib.hid (NewT.trans _ _ _ (NewT.of hA1) (NewT.of hA2))
  clear hA1 hA2 t1 t2 t3 t4 t5 HRS0 HK
  have r0 := rowIs_box w2 35 2 (frF 0 (.slice none 0 0))
  have hN0 := NewT.alloc w2 (.cells (rowA 2 (frF 0 (.slice none 0 0))) 35)
  change Code.wp _ _ _ _ (w2.alloc (.cells (rowA 2 (frF 0 (.slice none 0 0))) 35))
  have hsz0 : (w2.alloc (.cells (rowA 2 (frF 0 (.slice none 0 0))) 35)).heap.size = w2.heap.size + 1 := by simp
  generalize w2.alloc (.cells (rowA 2 (frF 0 (.slice none 0 0))) 35) = W0 at r0 hN0 hsz0 ⊢
  obtain ⟨g, hg⟩ : ∃ g, w2.heap.size = g := ⟨_, rfl⟩
  rw [hg] at r0 hsz0 ⊢
  obtain ⟨B, hB⟩ : ∃ B, W0.heap.size = B := ⟨_, rfl⟩
  have HF0 : Hid (FrAt W0 g B 0 []) := Lib.hid ⟨_, r0, ownH_nil _ _, by omega, by omega⟩
  have HN0 := Lib.hid (NewT.trans _ _ _ HN.out hN0)
  have HG1 : Hid (1 < g ∧ w.heap.size ≤ g ∧ g < B) := Lib.hid ⟨by have := HT.out.size; have := HN.out.out.size; omega, by have := HN.out.out.size; omega, by omega⟩
  clear r0 hN0 hsz0 hg hB HN
  go_wp2
  go_loopw [5] (fun i wr => ∃ m : Nat, m ≤ k ∧ i = .int .i64 (m : Int) ∧ NewT w wr ∧ FrAt wr g B (m : Int) (treesM node z (l.take m))) (fun i _ => k - (intOf i).toNat)
  case atStart => exact ⟨0, by omega, rfl, HN0.out, by rw [List.take_zero, treesM_nil]; exact HF0.out⟩
  case round =>
    clear HF0 HN0
    obtain ⟨m, hm, rfl, hN, hF⟩ := hrel
    have HF := Lib.hid hF
    have HNr := Lib.hid hN
    have HLr := Lib.hid (hN.hs HL.out)
    have HTr := Lib.hid (hN.tables HT.out)
    clear hF hN
    by_cases hlt : m < k
    · have it : (m : Int) < (k : Int) := by omega
      have HON : Hid ((treesM node z (l.take m)).length = onesN m) := Lib.hid (by rw [treesM_ones, List.length_take]; congr 1; omega)
      have HM : Hid (m ≤ 100000) := Lib.hid (by omega)
      obtain ⟨d, hd⟩ : ∃ d, l[m]? = some d := ⟨_, List.getElem?_eq_getElem (by omega)⟩
      have HD := Lib.hid hd
      clear hd
      obtain ⟨v, ev⟩ : ∃ v, Value.slice A l.length c = v := ⟨_, rfl⟩
      rw [ev] at HLr HL ⊢
      go_upto_region 12 with fail
      refine wp_region_steps0 NewT [SV.eq (v), SV.eq (.int .i64 ((m : Int))), svP (d), SV.eq (.agg (rowA 32 (bF (d))))] [([(0, none)], none), ([(5, none)], none), ([(40, some 0), (41, some 1)], none), ([(42, some 2)], none)] 73 4 rfl rfl (by kernel_rfl) NewT.trans (NewT.refl _) (Nat.le_of_ble_eq_true rfl) ⟨?_, ?_, ?_, ?_, trivial⟩ ?_
      · intro a wx hT hF K hK
        obtain ⟨f0, _⟩ := hF
        have f0 : a.tmps.getD 0 undef = v := f0
        refine rely_wp rfl ?_
        exact opr_move (.inl rfl) (hK _ _ (NewT.refl _) f0)
      · intro a wx hT hF K hK
        obtain ⟨f5, _⟩ := hF
        have f5 : a.tmps.getD 5 undef = .int .i64 ((m : Int)) := f5
        refine rely_wp rfl ?_
        exact opr_move (.inl rfl) (hK _ _ (NewT.refl _) f5)
      · intro a wx hT hF K hK
        obtain ⟨f40, f41, _⟩ := hF
        have f40 : a.tmps.getD 40 undef = v := f40
        have f41 : a.tmps.getD 41 undef = .int .i64 ((m : Int)) := f41
        refine rely_wp rfl ?_
        exact opr_idxH (i := m) (d := d) (HD.out) (rfl) rfl (by rw [eval_tmp, f40]; exact (hT.hs HLr.out)) f41 (fun v hv => hK v _ (NewT.refl _) hv)
      · intro a wx hT hF K hK
        obtain ⟨f42, _⟩ := hF
        replace f42 := show (svP (d)).pred (a.tmps.getD 42 undef) wx from f42
        refine rely_wp rfl ?_
        exact opr_ldP rfl f42 (hK _ _ (NewT.refl _) rfl)
      · intro wa ka
        intro u h; obtain rfl := Eq.symm (h (by simp)); clear h
        intro u h; obtain rfl := Eq.symm (h (by simp)); clear h
        intro _ _
        intro u h; obtain rfl := Eq.symm (h (by simp)); clear h
        refine relyEnd_nil rfl ?_
        simp only [Act.put, List.setIfInBounds_toArray, List.set_cons_zero, List.set_cons_succ]
        refine wpList_plain rfl (fun K hK => ?_)
        refine opr_call rfl Tryd.func17 (by kernel_rfl) (by kernel_rfl) (by simp only [List.map_toArray, List.map_cons, List.map_nil, eval_tmp]; rfl) ((Add_c hX g B m (treesM node z (l.take m)) d wa (ka.tables HTr.out) (ka.front HF.out) HG1.out.1 (HON.out) (HM.out)).mono ?_)
        rintro _ wb ⟨rfl, ft, fa⟩
        refine ⟨_, rfl, hK _ _ ?_⟩
        refine wpList_end rfl ?_
        simp only [Act.put, List.setIfInBounds_toArray, List.set_cons_zero, List.set_cons_succ]
        go_simp
        have HFb : Hid (FrAt wb g B ((m + 1 : Nat) : Int) (treesM node z (l.take (m + 1)))) := Lib.hid (fr_next HD.out fa)
        have HNb := Lib.hid (ft_new HNr.out ka ft HG1.out.2.1 HF.out.lt)
        clear ft fa ka
        go_wp2
        go_roundw
        case rel => exact ⟨m + 1, by omega, by go_num, HNb.out, HFb.out⟩
        case measure => simp [intOf]; omega
    · obtain rfl : m = k := by omega
      have hz := fr_zero (node := node) (z := z) l m (by omega)
      have hle := fr_len (node := node) (z := z) l m (by omega) (by omega)
      have HTW : Hid (treesM node z (List.take m l) = [rootM node z (List.take m l)]) := Lib.hid (treesM_whole _ e (by rw [List.length_take, ← HE.out]; omega))
      go_upto_region 14 with (go_at_call 21; refine (Trees_cv g B (m : Int) (treesM node z (l.take m)) _ HF.out hz hle).mono ?_; rintro _ w8 ⟨u6, rfl, n8, hu⟩)
      replace hu : RdH w8 u6 (treesM node z (List.take m l)) := hu
      rw [HTW.out] at hu
      have HU := Lib.hid hu
      replace HTr := Lib.hid (n8.tables HTr.out)
      replace HLr := Lib.hid (n8.hs HLr.out)
      replace HNr := Lib.hid (NewT.trans _ _ _ HNr.out n8)
      clear hz hle n8 hu HTW HE
      obtain ⟨v, ev⟩ : ∃ v, Value.slice A l.length c = v := ⟨_, rfl⟩
      rw [ev] at HLr HL ⊢
      refine wp_region_rely (NewT) [SV.eq (v), SV.eq (.agg (rowA 32 (bF (rootM node z (l))))), SV.eq (v), SV.eq (.int .i64 ((m : Int))), svH (List.take m l), SV.eq (.agg (rowA 32 (bF (rootM node z (List.take m l))))), SV.eq (v), SV.eq (.int .i64 ((m : Int))), svH (List.drop m l), SV.eq (.agg (rowA 32 (bF (rootM node z (List.drop m l))))), SV.eq (.agg (rowA 32 (bF (node (rootM node z (List.take m l)) (rootM node z (List.drop m l)))))), SV.eq (.bool true), SV.eq (.bool true), SV.eq (u6), SV.eq (.int .i64 ((List.length ([rootM node z (List.take m l)]) : Int))), SV.eq (.bool true), SV.eq (.bool true), SV.eq (.bool true), SV.eq (u6), svP (rootM node z (List.take m l)), SV.eq (.agg (rowA 32 (bF (rootM node z (List.take m l))))), SV.eq (v), SV.eq (.int .i64 ((m : Int))), svH (List.take m l), SV.eq (.agg (rowA 32 (bF (rootM node z (List.take m l))))), SV.eq (.bool true), SV.eq (.bool true)] [([(0, none)], none), ([(46, some 0)], none), ([(0, none)], none), ([(3, none)], none), ([(48, some 2), (49, some 3)], none), ([(50, some 4)], none), ([(0, none)], none), ([(3, none)], none), ([(52, some 6), (53, some 7)], none), ([(54, some 8)], none), ([(51, some 5), (55, some 9)], none), ([(47, some 1), (56, some 10)], none), ([(57, some 11)], none), ([(6, none), (58, some 12)], some (58, true)), ([(59, some 13), (58, some 12)], some (58, true)), ([(60, some 14), (58, some 12)], some (58, true)), ([(58, some 12), (61, some 15)], none), ([(62, some 16)], none), ([(6, none), (63, some 17)], some (63, true)), ([(64, some 18), (63, some 17)], some (63, true)), ([(65, some 19), (63, some 17)], some (63, true)), ([(0, none), (63, some 17)], some (63, true)), ([(3, none), (63, some 17)], some (63, true)), ([(67, some 21), (68, some 22), (63, some 17)], some (63, true)), ([(69, some 23), (63, some 17)], some (63, true)), ([(66, some 20), (70, some 24), (63, some 17)], some (63, true)), ([(63, some 17), (71, some 25)], none)] 73 rfl (by kernel_rfl) rfl (by kernel_rfl) (by kernel_rfl) rfl NewT.trans (NewT.drew _) (Nat.le_of_ble_eq_true rfl) ⟨?_, ?_, ?_, ?_, ?_, ?_, ?_, ?_, ?_, ?_, ?_, ?_, ?_, ?_, ?_, ?_, ?_, ?_, ?_, ?_, ?_, ?_, ?_, ?_, ?_, ?_, ?_, trivial⟩ ?_
      · intro a wx hT hF K hK
        obtain ⟨f0, _⟩ := hF
        have f0 : a.tmps.getD 0 undef = v := f0
        refine rely_wp rfl ?_
        exact opr_move (.inl rfl) (hK _ _ (NewT.refl _) f0)
      · intro a wx hT hF K hK
        obtain ⟨f46, _⟩ := hF
        have f46 : a.tmps.getD 46 undef = v := f46
        refine rely_wp rfl ?_
        exact opr_cv (Root_cv hX _ _ (l) wx (hT.tables HTr.out) ((hT.hs HLr.out)) (Nat.le_refl _) (by have := HLEN.out; simp; try omega)) rfl Tryd.func25 (by kernel_rfl) (by kernel_rfl) (by simp only [List.map_toArray, List.map_cons, List.map_nil, eval_tmp, f46]) hK
      · intro a wx hT hF K hK
        obtain ⟨f0, _⟩ := hF
        have f0 : a.tmps.getD 0 undef = v := f0
        refine rely_wp rfl ?_
        exact opr_move (.inl rfl) (hK _ _ (NewT.refl _) f0)
      · intro a wx hT hF K hK
        obtain ⟨f3, _⟩ := hF
        have f3 : a.tmps.getD 3 undef = .int .i64 ((m : Int)) := f3
        refine rely_wp rfl ?_
        exact opr_move (.inl rfl) (hK _ _ (NewT.refl _) f3)
      · intro a wx hT hF K hK
        obtain ⟨f48, f49, _⟩ := hF
        have f48 : a.tmps.getD 48 undef = v := f48
        have f49 : a.tmps.getD 49 undef = .int .i64 ((m : Int)) := f49
        refine rely_wp rfl ?_
        exact opr_toH (k := m) (by omega) (rfl) rfl (by rw [eval_tmp, f48]; exact (hT.hs HLr.out)) f49 (fun v hv => hK v _ (NewT.refl _) hv)
      · intro a wx hT hF K hK
        obtain ⟨f50, _⟩ := hF
        replace f50 := show (svH (List.take m l)).pred (a.tmps.getD 50 undef) wx from f50
        refine rely_wp rfl ?_
        exact opr_cv (Root_cv hX _ _ (List.take m l) wx (hT.tables HTr.out) (f50) (Nat.le_refl _) (by have := HLEN.out; simp; try omega)) rfl Tryd.func25 (by kernel_rfl) (by kernel_rfl) (by simp only [List.map_toArray, List.map_cons, List.map_nil, eval_tmp]) hK
      · intro a wx hT hF K hK
        obtain ⟨f0, _⟩ := hF
        have f0 : a.tmps.getD 0 undef = v := f0
        refine rely_wp rfl ?_
        exact opr_move (.inl rfl) (hK _ _ (NewT.refl _) f0)
      · intro a wx hT hF K hK
        obtain ⟨f3, _⟩ := hF
        have f3 : a.tmps.getD 3 undef = .int .i64 ((m : Int)) := f3
        refine rely_wp rfl ?_
        exact opr_move (.inl rfl) (hK _ _ (NewT.refl _) f3)
      · intro a wx hT hF K hK
        obtain ⟨f52, f53, _⟩ := hF
        have f52 : a.tmps.getD 52 undef = v := f52
        have f53 : a.tmps.getD 53 undef = .int .i64 ((m : Int)) := f53
        refine rely_wp rfl ?_
        exact opr_fromH (k := m) (by omega) (rfl) rfl (by rw [eval_tmp, f52]; exact (hT.hs HLr.out)) f53 (fun v hv => hK v _ (NewT.refl _) hv)
      · intro a wx hT hF K hK
        obtain ⟨f54, _⟩ := hF
        replace f54 := show (svH (List.drop m l)).pred (a.tmps.getD 54 undef) wx from f54
        refine rely_wp rfl ?_
        exact opr_cv (Root_cv hX _ _ (List.drop m l) wx (hT.tables HTr.out) (f54) (Nat.le_refl _) (by have := HLEN.out; simp; try omega)) rfl Tryd.func25 (by kernel_rfl) (by kernel_rfl) (by simp only [List.map_toArray, List.map_cons, List.map_nil, eval_tmp]) hK
      · intro a wx hT hF K hK
        obtain ⟨f51, f55, _⟩ := hF
        have f51 : a.tmps.getD 51 undef = .agg (rowA 32 (bF (rootM node z (List.take m l)))) := f51
        have f55 : a.tmps.getD 55 undef = .agg (rowA 32 (bF (rootM node z (List.drop m l)))) := f55
        refine rely_wp rfl ?_
        exact opr_cv (Node_cv hX (rootM node z (List.take m l)) (rootM node z (List.drop m l)) wx (hT.tables HTr.out)) rfl Tryd.func12 (by kernel_rfl) (by kernel_rfl) (by simp only [List.map_toArray, List.map_cons, List.map_nil, eval_tmp, f51, f55]) hK
      · intro a wx hT hF K hK
        obtain ⟨f47, f56, _⟩ := hF
        have f47 : a.tmps.getD 47 undef = .agg (rowA 32 (bF (rootM node z (l)))) := f47
        have f56 : a.tmps.getD 56 undef = .agg (rowA 32 (bF (node (rootM node z (List.take m l)) (rootM node z (List.drop m l))))) := f56
        refine rely_wp rfl ?_
        exact opr_eql_hash (b := true) rfl f47 f56 ((by rw [HRS.out]; exact eqH_same _)) (hK _ _ (NewT.refl _) rfl)
      · intro a wx hT hF K hK
        obtain ⟨f57, _⟩ := hF
        have f57 : a.tmps.getD 57 undef = .bool true := f57
        refine rely_wp rfl ?_
        exact opr_move (.inl rfl) (hK _ _ (NewT.refl _) f57)
      · intro a wx hT hF K hK
        obtain ⟨f6, f58, _⟩ := hF
        have f6 : a.tmps.getD 6 undef = u6 := f6
        have f58 : a.tmps.getD 58 undef = .bool true := f58
        refine rely_wp (rely_guard f58) ?_
        exact opr_move (.inl rfl) (hK _ _ (NewT.refl _) f6)
      · intro a wx hT hF K hK
        obtain ⟨f59, f58, _⟩ := hF
        have f59 : a.tmps.getD 59 undef = u6 := f59
        have f58 : a.tmps.getD 58 undef = .bool true := f58
        refine rely_wp (rely_guard f58) ?_
        exact opr_len_h rfl (by rw [eval_tmp, f59]; exact (hT.hs HU.out)) (hK _ _ (NewT.refl _) rfl)
      · intro a wx hT hF K hK
        obtain ⟨f60, f58, _⟩ := hF
        have f60 : a.tmps.getD 60 undef = .int .i64 ((List.length ([rootM node z (List.take m l)]) : Int)) := f60
        have f58 : a.tmps.getD 58 undef = .bool true := f58
        refine rely_wp (rely_guard f58) ?_
        exact opr_cmp (b := true) (.inl ⟨rfl, (by rfl)⟩) Tryd.underlying3 rfl f60 rfl (hK _ _ (NewT.refl _) rfl)
      · intro a wx hT hF K hK
        obtain ⟨f58, f61, _⟩ := hF
        have f58 : a.tmps.getD 58 undef = .bool true := f58
        have f61 : a.tmps.getD 61 undef = .bool true := f61
        refine rely_wp rfl ?_
        exact opr_pick_true rfl f58 (hK _ _ (NewT.refl _) f61)
      · intro a wx hT hF K hK
        obtain ⟨f62, _⟩ := hF
        have f62 : a.tmps.getD 62 undef = .bool true := f62
        refine rely_wp rfl ?_
        exact opr_move (.inl rfl) (hK _ _ (NewT.refl _) f62)
      · intro a wx hT hF K hK
        obtain ⟨f6, f63, _⟩ := hF
        have f6 : a.tmps.getD 6 undef = u6 := f6
        have f63 : a.tmps.getD 63 undef = .bool true := f63
        refine rely_wp (rely_guard f63) ?_
        exact opr_move (.inl rfl) (hK _ _ (NewT.refl _) f6)
      · intro a wx hT hF K hK
        obtain ⟨f64, f63, _⟩ := hF
        have f64 : a.tmps.getD 64 undef = u6 := f64
        have f63 : a.tmps.getD 63 undef = .bool true := f63
        refine rely_wp (rely_guard f63) ?_
        exact opr_idxH (i := 0) (d := rootM node z (List.take m l)) (rfl) (rfl) rfl (by rw [eval_tmp, f64]; exact (hT.hs HU.out)) rfl (fun v hv => hK v _ (NewT.refl _) hv)
      · intro a wx hT hF K hK
        obtain ⟨f65, f63, _⟩ := hF
        replace f65 := show (svP (rootM node z (List.take m l))).pred (a.tmps.getD 65 undef) wx from f65
        have f63 : a.tmps.getD 63 undef = .bool true := f63
        refine rely_wp (rely_guard f63) ?_
        exact opr_ldP rfl f65 (hK _ _ (NewT.refl _) rfl)
      · intro a wx hT hF K hK
        obtain ⟨f0, f63, _⟩ := hF
        have f0 : a.tmps.getD 0 undef = v := f0
        have f63 : a.tmps.getD 63 undef = .bool true := f63
        refine rely_wp (rely_guard f63) ?_
        exact opr_move (.inl rfl) (hK _ _ (NewT.refl _) f0)
      · intro a wx hT hF K hK
        obtain ⟨f3, f63, _⟩ := hF
        have f3 : a.tmps.getD 3 undef = .int .i64 ((m : Int)) := f3
        have f63 : a.tmps.getD 63 undef = .bool true := f63
        refine rely_wp (rely_guard f63) ?_
        exact opr_move (.inl rfl) (hK _ _ (NewT.refl _) f3)
      · intro a wx hT hF K hK
        obtain ⟨f67, f68, f63, _⟩ := hF
        have f67 : a.tmps.getD 67 undef = v := f67
        have f68 : a.tmps.getD 68 undef = .int .i64 ((m : Int)) := f68
        have f63 : a.tmps.getD 63 undef = .bool true := f63
        refine rely_wp (rely_guard f63) ?_
        exact opr_toH (k := m) (by omega) (rfl) rfl (by rw [eval_tmp, f67]; exact (hT.hs HLr.out)) f68 (fun v hv => hK v _ (NewT.refl _) hv)
      · intro a wx hT hF K hK
        obtain ⟨f69, f63, _⟩ := hF
        replace f69 := show (svH (List.take m l)).pred (a.tmps.getD 69 undef) wx from f69
        have f63 : a.tmps.getD 63 undef = .bool true := f63
        refine rely_wp (rely_guard f63) ?_
        exact opr_cv (Root_cv hX _ _ (List.take m l) wx (hT.tables HTr.out) (f69) (Nat.le_refl _) (by have := HLEN.out; simp; try omega)) rfl Tryd.func25 (by kernel_rfl) (by kernel_rfl) (by simp only [List.map_toArray, List.map_cons, List.map_nil, eval_tmp]) hK
      · intro a wx hT hF K hK
        obtain ⟨f66, f70, f63, _⟩ := hF
        have f66 : a.tmps.getD 66 undef = .agg (rowA 32 (bF (rootM node z (List.take m l)))) := f66
        have f70 : a.tmps.getD 70 undef = .agg (rowA 32 (bF (rootM node z (List.take m l)))) := f70
        have f63 : a.tmps.getD 63 undef = .bool true := f63
        refine rely_wp (rely_guard f63) ?_
        exact opr_eql_hash (b := true) rfl f66 f70 (eqH_same _) (hK _ _ (NewT.refl _) rfl)
      · intro a wx hT hF K hK
        obtain ⟨f63, f71, _⟩ := hF
        have f63 : a.tmps.getD 63 undef = .bool true := f63
        have f71 : a.tmps.getD 71 undef = .bool true := f71
        refine rely_wp rfl ?_
        exact opr_pick_true rfl f63 (hK _ _ (NewT.refl _) f71)
      · intro w9 k9
        intro u h; obtain rfl := Eq.symm (h (by simp)); clear h
        intro u h; obtain rfl := Eq.symm (h (by simp)); clear h
        intro u h; obtain rfl := Eq.symm (h (by simp)); clear h
        intro u h; obtain rfl := Eq.symm (h (by simp)); clear h
        intro _ _
        intro u h; obtain rfl := Eq.symm (h (by simp)); clear h
        intro u h; obtain rfl := Eq.symm (h (by simp)); clear h
        intro u h; obtain rfl := Eq.symm (h (by simp)); clear h
        intro _ _
        intro u h; obtain rfl := Eq.symm (h (by simp)); clear h
        intro u h; obtain rfl := Eq.symm (h (by simp)); clear h
        intro u h; obtain rfl := Eq.symm (h (by simp)); clear h
        intro u h; obtain rfl := Eq.symm (h (by simp)); clear h
        intro u h; obtain rfl := Eq.symm (h (by simp)); clear h
        intro u h; obtain rfl := Eq.symm (h (by simp)); clear h
        intro u h; obtain rfl := Eq.symm (h (by simp)); clear h
        intro u h; obtain rfl := Eq.symm (h (by simp)); clear h
        intro u h; obtain rfl := Eq.symm (h (by simp)); clear h
        intro u h; obtain rfl := Eq.symm (h (by simp)); clear h
        intro _ _
        intro u h; obtain rfl := Eq.symm (h (by simp)); clear h
        intro u h; obtain rfl := Eq.symm (h (by simp)); clear h
        intro u h; obtain rfl := Eq.symm (h (by simp)); clear h
        intro _ _
        intro u h; obtain rfl := Eq.symm (h (by simp)); clear h
        intro u h; obtain rfl := Eq.symm (h (by simp)); clear h
        intro u h; obtain rfl := Eq.symm (h (by simp)); clear h
        refine relyEnd_nil rfl ?_
        simp only [Act.put, List.setIfInBounds_toArray, List.set_cons_zero, List.set_cons_succ]
        refine opr_move (.inr rfl) ?_
        go_simp
        go_wp2
        go_ret
        exact ⟨rfl, (NewT.trans _ _ _ HNr.out k9).out⟩
end Go.Proofs.YtphbjamfhmcjcaaDoor
/- A law's last step, for all laws of a seat: it returned true, and only new memory was made; arguments opened: arrays by value, slices of bytes. -/
namespace Go.Proofs.YtphbjamfhmcjcaaDoor
open Go.ChangeShapes Go.WideShapes Go.ChangeAt Go.WideMaps Go.WideElems Go.RowKit
set_option maxRecDepth 8000
set_option linter.all false
theorem own : ownKnob Tryd.prog.godebug = none := by kernel_rfl
theorem laidOut : laidOutB Tryd.prog = true := by kernel_rfl
theorem trodAll_below {H : Type} {enc : TypeId × Value → H} {W W' : World} (hb : Below W.heap.size W W') : ∀ (ts : List TypeId) (vs : List Value) (ds : List (DataW H)) (p : List MemPlace),
    (∀ t ∈ ts, Tryd.prog.readableRec t = true ∧ t < Tryd.prog.types.size) → (∀ x ∈ p, x.block < W.heap.size) →
    DataW.TrodAll enc Tryd.prog W 0 (fun _ => true) true ts vs ds p → DataW.TrodAll enc Tryd.prog W' 0 (fun b => decide (b < W.heap.size)) true ts vs ds p := by
  intro ts
  induction ts with
  | nil =>
    intro vs ds p _ _ h
    obtain ⟨rfl, rfl, rfl⟩ := trodAll_nil h
    exact trodAll_mk0
  | cons t ts ih =>
    intro vs ds p ht hp h
    obtain ⟨v0, vs0, d0, ds0, p0, q0, rfl, rfl, rfl, h0, r0⟩ := trodAll_cons h
    exact trodAll_cons_mk (Below.trod laidOut (ht t (by simp)).1 (ht t (by simp)).2 h0 hb (fun x hx => hp x (by simp [hx])))
      (ih vs0 ds0 q0 (fun t' h' => ht t' (by simp [h'])) (fun x hx => hp x (by simp [hx])) r0)
theorem law_post {H : Type} {enc : TypeId × Value → H} {f : Func} {s : ChangeSpec} {W W' : World} {args : Array Value} {ds gs : List (DataW H)} {before : List MemPlace}
    (hW : DataW.Whole enc Tryd.prog f.params.toList s.vars false W args.toList ds gs before) (hvars : s.vars = [])
    (hr : (s.fn H (ds ++ [])).results = [.lit (.bool true)]) (ha : (s.fn H (ds ++ [])).args = ds) (hv : (s.fn H (ds ++ [])).vars = []) (hrt : f.resultTypes = #[4])
    (hts : ∀ t ∈ f.params.toList, Tryd.prog.readableRec t = true ∧ t < Tryd.prog.types.size) (hb : Below W.heap.size W W') :
    s.post enc Tryd.prog f false true false false W args (.bool true) W' := by
  have hlt : ∀ p ∈ before, p.block < W.heap.size := fun p hp => hW.lt p hp
  have hW0 := hW
  obtain ⟨p, q, hA, hV, rfl, hz, _⟩ := hW
  rw [hvars] at hV
  obtain ⟨rfl, rfl⟩ := trodVars_none hV
  refine ⟨ds, [], p ++ [], [], p, [], hW0, ?_, ?_, ?_, World.keptBut_mono (fun x hx => ⟨hx, .inr (.inl (by simpa using hx))⟩) (hb.frame (· ∈ p ++ [])), fun h => by cases h⟩
  · rw [hr, hrt]
    exact trodAll_cons_mk (shut_bool Tryd.underlying4 true) trodAll_mk0
  · rw [ha]
    exact trodAll_below hb _ _ _ _ hts (fun x hx => hlt x (by simp [hx])) hA
  · rw [hv, hvars]
    exact rfl
end Go.Proofs.YtphbjamfhmcjcaaDoor
/- The two tables, out of the rows' own condition; the row's last step where the world has new blocks alone; the shapes of the arguments. -/
namespace Go.Proofs.YtphbjamfhmcjcaaDoor
open Go.ChangeShapes Go.WideShapes Go.ChangeAt Go.WideMaps Go.WideElems Go.RowKit
set_option maxRecDepth 8000
set_option linter.all false

theorem gK : Tryd.prog.globalNamed "inspeximus/api.K" = some 1 := by kernel_rfl
theorem gF : Tryd.prog.globalNamed "inspeximus/api.First" = some 0 := by kernel_rfl
theorem tK : (Tryd.prog.globals[1]?).map (·.type) = some 66 := by kernel_rfl
theorem tF : (Tryd.prog.globals[0]?).map (·.type) = some 50 := by kernel_rfl
def laid2 : List (String × DataW Unit) := [("inspeximus/api.K", Rows.laid_inspeximus_api_K), ("inspeximus/api.First", Rows.laid_inspeximus_api_First)]
def kInts : List Int := kTab.map fun (n : Nat) => (n : Int)
def fInts : List Int := fTab.map fun (n : Nat) => (n : Int)
theorem tables_of_laid {W : World} (h : laidMetH Tryd.prog laid2 W) : Tables W := by
  rw [MakeChecks.laidMetH_plain _ _ _ (by kernel_rfl)] at h
  have hK : Lib.TabIs Tryd.prog W "inspeximus/api.K" .u32 kInts := Lib.tabIs_of_head gK tK Tryd.underlying66 Tryd.underlying49 (by kernel_rfl) (by kernel_rfl) h
  have hF : Lib.TabIs Tryd.prog W "inspeximus/api.First" .u32 fInts := Lib.tabIs_of_head gF tF Tryd.underlying50 Tryd.underlying49 (by kernel_rfl) (by kernel_rfl) (laidMet.tail h)
  have hs : 1 < W.heap.size := World.block_lt_of_cell? _ _ (hK.cell gK 0 (by decide))
  refine ⟨hs, fun i hi => ?_, fun i hi => ?_⟩
  · rw [hK.cell gK i (by simpa [kInts, kTab] using hi)]
    have h : ∀ i : Fin 64, kInts.getD i.val 0 = uN (Kc i.val) := by decide +kernel
    rw [h ⟨i, hi⟩]
  · rw [hF.cell gF i (by simpa [fInts, fTab] using hi)]
    have h : ∀ i : Fin 8, fInts.getD i.val 0 = uN (Fc i.val) := by decide +kernel
    rw [h ⟨i, hi⟩]
/-- The door's own heap meets the condition. -/
theorem door_met (os : Os) (args : Array Value) : laidMetH Tryd.prog laid2 ((World.doorLaid Tryd.prog 400 os).forCall (fun _ _ => 0) ⟨#[], args, []⟩).memory :=
  laidMetH_of_parts3 (fuel := 8) (laidMet_of_run' 8 (by kernel_rfl) (by kernel_rfl)) (by kernel_rfl) (by kernel_rfl)
end Go.Proofs.YtphbjamfhmcjcaaDoor
/- (all of it lies in EP now) -/
/- The laws' arguments, opened: arrays of numbers by value, slices of bytes. -/
namespace Go.Proofs.YtphbjamfhmcjcaaDoor
open Go.ChangeShapes Go.WideShapes Go.ChangeAt Go.WideMaps Go.WideElems Go.RowKit
set_option maxRecDepth 8000
set_option linter.all false

end Go.Proofs.YtphbjamfhmcjcaaDoor
/- An argument that is a slice of hashes, opened. -/
namespace Go.Proofs.YtphbjamfhmcjcaaDoor
open Go.ChangeShapes Go.WideShapes Go.ChangeAt Go.WideMaps Go.WideElems Go.RowKit
set_option maxRecDepth 8000
set_option linter.all false
/-- A slice of hashes that came in reads as a list. -/
theorem open_hashes {H : Type} {enc : TypeId × Value → H} {w : World} {base : Nat} {spare : Nat → Bool} {held : Bool} {v : Value} {d : DataW H} {p : List MemPlace} {r : Reach} {b0 : Nat}
    (hv : Value.okWide Tryd.prog w r b0 31 v) (h : DataW.Trod enc Tryd.prog w base spare held 31 v d p) : ∃ l : List Hs, RdH w v l := by
  obtain ⟨a0, len, cap, rfl⟩ := okWide_slice Tryd.underlying31 hv
  obtain ⟨fuel, hf⟩ := h
  have hcH : Tryd.prog.cellsOf 24 = 32 := by kernel_rfl
  have hc8 : Tryd.prog.cellsOf 5 = 1 := by kernel_rfl
  rcases Go.Deep.open_slice Tryd.underlying31 hf with ⟨hcs, _⟩ | ⟨a, len', cap', m, n, D, Pl, hcs, _, hl, hm, hmm, _, hx⟩
  · simp [Value.cells] at hcs
    obtain ⟨rfl, rfl, rfl⟩ := hcs
    exact ⟨[], rdH_nil w⟩
  · simp [Value.cells] at hcs
    obtain ⟨rfl, rfl, rfl⟩ := hcs
    have hlm : len ≤ m := by rw [hmm]; split <;> omega
    have each : ∀ i, i < len → ∃ e : Hs, ∀ j, j < 32 → w.cell? (a.add (i * 32 + j)) = some (bF e j) := fun i hi => by
      obtain ⟨cs', h1, h2⟩ := hx i (by omega)
      rw [hcH] at h1
      obtain ⟨_, hlen, hcell⟩ := World.cells?_some h1
      obtain ⟨xs, k, _, _, _, hxl, hel⟩ := DataW.trod_array Tryd.underlying24 h2
      have hb : ∀ j, j < 32 → ∃ z, cs'[j]? = some (.int .u8 z) ∧ (Lit.int .u8 z).wf = true := fun j hj => by
        have h3 := hel j hj
        rw [hc8, List.getElem?_eq_getElem (by omega)] at h3
        obtain ⟨z, hc, _, hw⟩ := DataW.trod_int Tryd.underlying5 h3
        refine ⟨z, ?_, hw⟩
        have := congrArg (·[0]?) hc
        simpa [List.getElem?_take, List.getElem?_drop] using this
      refine ⟨fun j => match cs'[j]? with | some (.int _ z) => UInt8.ofNat z.toNat | _ => 0, fun j hj => ?_⟩
      obtain ⟨z, hz, hw⟩ := hb j hj
      have h4 := hcell j (by omega)
      rw [Go.Deep.add_add, hz] at h4
      rw [h4]
      have hbd := bounds_u8 hw
      simp only [bF, hz, bN]
      rw [UInt8.toNat_ofNat']
      congr 2
      omega
    obtain ⟨q, hq⟩ := Go.Deep.choose_lt each
    have hlen : ((List.range len).map q).length = len := by simp
    refine ⟨(List.range len).map q, some a, cap, by rw [hlen], by rw [hlen]; exact hl, hm, fun h0 => ?_⟩
    rw [hlen] at h0
    obtain ⟨b, off, spot⟩ := a
    have hspot : spot = none := by simpa [Addr.add] using World.cell?_spot (hq 0 h0 0 (by omega))
    subst hspot
    refine ⟨b, off, rfl, fun i d hd j hj => ?_⟩
    have hi : i < len := by have := (List.getElem?_eq_some_iff.1 hd).1; simpa using this
    simp [hi] at hd
    subst hd
    have := hq i hi j hj
    rwa [Go.WideShapes.add_plain, ← Nat.add_assoc] at this
end Go.Proofs.YtphbjamfhmcjcaaDoor
