/- The law ClashLeaves, walked: two leaves with paths at one place that come to one root are the same, or there is a clash. -/
import Derived.Test.YtlnedphnphabkaaDoorMg
set_option linter.all false
namespace Go.Proofs.YtlnedphnphabkaaDoor
open Go Go.RowKit
set_option maxRecDepth 8000
set_option linter.all false
theorem findP_len {sm : Tx → Tx} (h32 : ∀ t, (sm t).length = 32) (N : Nat) (hN : 65 ≤ N) (bs : List Bool) : ∀ (t u : Tx) (ps qs : List Tx) (x y : Tx), t.length ≤ N → u.length ≤ N → (∀ p ∈ ps, p.length = 32) → (∀ p ∈ qs, p.length = 32) → findP sm t u bs ps qs = some (x, y) → x.length ≤ N ∧ y.length ≤ N := by
  have one : ∀ (t u x y : Tx), t.length ≤ N → u.length ≤ N → (if t ≠ u ∧ sm t = sm u then some (t, u) else none) = some (x, y) → x.length ≤ N ∧ y.length ≤ N := by
    intro t u x y h1 h2 h
    by_cases hc : t ≠ u ∧ sm t = sm u
    · rw [if_pos hc] at h; cases h; exact ⟨h1, h2⟩
    · rw [if_neg hc] at h; cases h
  have up : ∀ (t : Tx) (b : Bool) (p : Tx), p.length = 32 → (upT sm t b p).length ≤ N := by
    intro t b p hp
    unfold upT
    cases b <;> simp [h32, hp] <;> omega
  induction bs with
  | nil => intro t u ps qs x y h1 h2 _ _ h; exact one _ _ _ _ h1 h2 h
  | cons b bs ih =>
    intro t u ps qs x y h1 h2 hp hq h
    match ps, qs, hp, hq with
    | [], _, _, _ => exact one _ _ _ _ h1 h2 h
    | _ :: _, [], _, _ => exact one _ _ _ _ h1 h2 h
    | p :: ps, q :: qs, hp, hq =>
      simp only [findP, Option.or_eq_some_iff] at h
      rcases h with h | ⟨_, h⟩
      · exact ih _ _ _ _ _ _ (up _ _ _ (hp p (by simp))) (up _ _ _ (hq q (by simp))) (fun a ha => hp a (by simp [ha])) (fun a ha => hq a (by simp [ha])) h
      · exact one _ _ _ _ h1 h2 h
theorem dig_len (l : List Hs) : ∀ p ∈ l.map digL, p.length = 32 := fun x hx => by obtain ⟨y, _, rfl⟩ := List.mem_map.1 hx; exact digL_length y
theorem pathX_some {node : Hs → Hs → Hs} {z : Hs} {lf : List UInt8 → Hs} {sm : Tx → Tx} (hC : ClashH node z lf sm) {z0 : Hs} {l l' : Tx} {i n : Int} {p q : List Hs} {s t : Tx} (hl : l.length ≤ 10000) (hl' : l'.length ≤ 10000) (h : pathX node lf sm z0 l l' i n p q = some (s, t)) : isB sm s t = true ∧ s.length ≤ 10001 ∧ t.length ≤ 10001 := by
  unfold pathX at h
  split at h
  · cases h
  · unfold fdW at h
    exact ⟨(isB_iff _ _ _).2 (findP_clash sm _ _ _ _ _ _ _ h), findP_len hC.len 10001 (by omega) _ _ _ _ _ _ _ (by simp; omega) (by simp; omega) (dig_len _) (dig_len _) h⟩
theorem pathX_none {node : Hs → Hs → Hs} {z : Hs} {lf : List UInt8 → Hs} {sm : Tx → Tx} (hC : ClashH node z lf sm) {z0 : Hs} {l l' : Tx} {i n : Int} {p q : List Hs} (h : pathX node lf sm z0 l l' i n p q = none) : l = l' ∨ okP i n p.length = false ∨ okP i n q.length = false ∨ eqH (comesM node z0 (lf l) i n p) (comesM node z0 (lf l') i n q) = false := by
  unfold pathX at h
  split at h
  · assumption
  · rename_i hc
    exfalso
    simp only [not_or, Bool.not_eq_false] at hc
    obtain ⟨h1, h2, h3, h4⟩ := hc
    have k1 := ((okP_iff _ _ _).1 h2).2.2.2
    have k2 := ((okP_iff _ _ _).1 h3).2.2.2
    refine findP_ex hC.len (leftsM i.toNat n.toNat) (0 :: l) (0 :: l') (p.map digL) (q.map digL) (by rw [List.length_map]; exact k1) (by rw [List.length_map]; exact k2) (dig_len _) (dig_len _) ?_ (fun e => h1 (by simpa using e)) h
    have e1 := hC.digComes z0 l i n p h2
    have e2 := hC.digComes z0 l' i n q h3
    unfold txW at e1 e2
    rw [← e1, ← e2]
    exact (eqH_dig _ _).1 h4
set_option maxHeartbeats 4000000 in
theorem ClashLeaves_walk (va vo vq : Value) (x : List Tx) (i : Int) (o : Tx) (q : List Hs) (w : World) (hT : Tables w) (ha : Parts w va x) (hb : RdV w [] vo o) (hq : RdH w vq q) : Calls Tryd.prog 6 #[va, .int .i64 i, vo, vq] w fun e w' => e = .returned (.bool true) ∧ Below w.heap.size w w' := by
  obtain ⟨node, z, lf, sm, hC⟩ := clash_ex
  have hX : TreeH node z := hC.tree
  have hY : LeafH lf := hC.leaf
  have HT := Lib.hid hT
  have HA := Lib.hid ha
  have HB := Lib.hid hb
  have HQ := Lib.hid hq
  have HN := Lib.hid (NewT.refl w)
  obtain ⟨A, c, hv, _⟩ := parts_form ha
  have HV := Lib.hid hv
  clear hT ha hb hq hv
  go_enter Tryd.func6, Tryd.ntmps6
  go_upto_region 3 with (go_at_call 9; refine (alive7_any _ HT.out).mono ?_; rintro _ w1 ⟨rfl, hA1⟩)
  have hn1 := NewT.of hA1
  replace HA := Lib.hid (hn1.partsL HA.out)
  replace HB := Lib.hid (hn1.rd HB.out)
  replace HQ := Lib.hid (hn1.hs HQ.out)
  replace HT := Lib.hid (hn1.tables HT.out)
  replace HN := Lib.hid (NewT.trans _ _ _ HN.out hn1)
  clear hn1
  clear hA1
  obtain ⟨q1_3, Q1_3⟩ : ∃ bq_, ((greatB x) || (decide (300 < ((List.length (o) : Int))))) = bq_ := ⟨_, rfl⟩
  obtain ⟨q2_3, Q2_3⟩ : ∃ bq_, (q1_3 || (decide (30 < ((List.length (q) : Int))))) = bq_ := ⟨_, rfl⟩
  obtain ⟨q3_3, Q3_3⟩ : ∃ bq_, ((q2_3 || (decide (i < 0))) || (decide (((List.length (x) : Int)) ≤ i))) = bq_ := ⟨_, rfl⟩
  refine wp_region_steps0 NewT [SV.eq (va), SV.eq (.bool (greatB x)), SV.eq (.bool (greatB x)), svIf ((!(greatB x))) (SV.eq (vo)), svIf ((!(greatB x))) (SV.eq (.int .i64 ((List.length (o) : Int)))), svIf ((!(greatB x))) (SV.eq (.bool (decide (300 < ((List.length (o) : Int)))))), SV.eq (.bool (q1_3)), SV.eq (.bool (q1_3)), svIf ((!q1_3)) (SV.eq (vq)), svIf ((!q1_3)) (SV.eq (.int .i64 ((List.length (q) : Int)))), svIf ((!q1_3)) (SV.eq (.bool (decide (30 < ((List.length (q) : Int)))))), SV.eq (.bool (q2_3)), SV.eq (.bool (q2_3)), svIf ((!q2_3)) (SV.eq (.int .i64 (i))), svIf ((!q2_3)) (SV.eq (.bool (decide (i < 0)))), SV.eq (.bool (q2_3 || (decide (i < 0)))), SV.eq (.bool (q2_3 || (decide (i < 0)))), svIf ((!(q2_3 || (decide (i < 0))))) (SV.eq (.int .i64 (i))), svIf ((!(q2_3 || (decide (i < 0))))) (SV.eq (va)), svIf ((!(q2_3 || (decide (i < 0))))) (SV.eq (.int .i64 ((List.length (x) : Int)))), svIf ((!(q2_3 || (decide (i < 0))))) (SV.eq (.bool (decide (((List.length (x) : Int)) ≤ i)))), SV.eq (.bool (q3_3))] [([(0, none)], none), ([(20, some 0)], none), ([(21, some 1)], none), ([(2, none), (22, some 2)], some (22, false)), ([(23, some 3), (22, some 2)], some (22, false)), ([(24, some 4), (22, some 2)], some (22, false)), ([(22, some 2), (25, some 5)], none), ([(26, some 6)], none), ([(3, none), (27, some 7)], some (27, false)), ([(28, some 8), (27, some 7)], some (27, false)), ([(29, some 9), (27, some 7)], some (27, false)), ([(27, some 7), (30, some 10)], none), ([(31, some 11)], none), ([(1, none), (32, some 12)], some (32, false)), ([(33, some 13), (32, some 12)], some (32, false)), ([(32, some 12), (34, some 14)], none), ([(35, some 15)], none), ([(1, none), (36, some 16)], some (36, false)), ([(0, none), (36, some 16)], some (36, false)), ([(38, some 18), (36, some 16)], some (36, false)), ([(37, some 17), (39, some 19), (36, some 16)], some (36, false)), ([(36, some 16), (40, some 20)], none)] 107 22 rfl rfl (by kernel_rfl) NewT.trans (NewT.refl _) (Nat.le_of_ble_eq_true rfl) ⟨?_, ?_, ?_, ?_, ?_, ?_, ?_, ?_, ?_, ?_, ?_, ?_, ?_, ?_, ?_, ?_, ?_, ?_, ?_, ?_, ?_, ?_, trivial⟩ ?_
  · intro a wx hT hF K hK
    obtain ⟨f0, _⟩ := hF
    have f0 : a.tmps.getD 0 undef = va := f0
    refine rely_wp rfl ?_
    exact opr_move (.inl rfl) (hK _ _ (NewT.refl _) f0)
  · intro a wx hT hF K hK
    obtain ⟨f20, _⟩ := hF
    have f20 : a.tmps.getD 20 undef = va := f20
    refine rely_wp rfl ?_
    exact opr_cv (great_cv _ x wx (hT.partsL HA.out)) rfl Tryd.func10 (by kernel_rfl) (by kernel_rfl) (by simp only [List.map_toArray, List.map_cons, List.map_nil, eval_tmp, f20]) hK
  · intro a wx hT hF K hK
    obtain ⟨f21, _⟩ := hF
    have f21 : a.tmps.getD 21 undef = .bool (greatB x) := f21
    refine rely_wp rfl ?_
    exact opr_move (.inl rfl) (hK _ _ (NewT.refl _) f21)
  · intro a wx hT hF K hK
    obtain ⟨f2, f22, _⟩ := hF
    have f2 : a.tmps.getD 2 undef = vo := f2
    have f22 : a.tmps.getD 22 undef = .bool (greatB x) := f22
    refine rely_if (rely_gf f22) (NewT.refl _) hK (fun hE hK => ?_)
    exact opr_move (.inl rfl) (hK _ _ (NewT.refl _) f2)
  · intro a wx hT hF K hK
    obtain ⟨f23, f22, _⟩ := hF
    have f23 : ((!(greatB x))) = true → a.tmps.getD 23 undef = vo := f23
    have f22 : a.tmps.getD 22 undef = .bool (greatB x) := f22
    refine rely_if (rely_gf f22) (NewT.refl _) hK (fun hE hK => ?_)
    exact opr_len_rd rfl (by rw [eval_tmp, (f23 hE)]; exact (hT.rd HB.out)) (hK _ _ (NewT.refl _) rfl)
  · intro a wx hT hF K hK
    obtain ⟨f24, f22, _⟩ := hF
    have f24 : ((!(greatB x))) = true → a.tmps.getD 24 undef = .int .i64 ((List.length (o) : Int)) := f24
    have f22 : a.tmps.getD 22 undef = .bool (greatB x) := f22
    refine rely_if (rely_gf f22) (NewT.refl _) hK (fun hE hK => ?_)
    exact opr_cmp (b := decide (300 < ((List.length (o) : Int)))) (.inr (.inr (.inr (.inr (.inl ⟨rfl, rfl⟩))))) Tryd.underlying3 rfl (f24 hE) rfl (hK _ _ (NewT.refl _) rfl)
  · intro a wx hT hF K hK
    obtain ⟨f22, f25, _⟩ := hF
    have f22 : a.tmps.getD 22 undef = .bool (greatB x) := f22
    have f25 : ((!(greatB x))) = true → a.tmps.getD 25 undef = .bool (decide (300 < ((List.length (o) : Int)))) := f25
    refine rely_wp rfl ?_
    exact opr_pick_b rfl f22 (fun hb => hK _ _ (NewT.refl _) (pn_or1 Q1_3 hb)) (fun hb => hK _ _ (NewT.refl _) (pn_or0 Q1_3 (f25 (bnot hb)) hb))
  · intro a wx hT hF K hK
    obtain ⟨f26, _⟩ := hF
    have f26 : a.tmps.getD 26 undef = .bool (q1_3) := f26
    refine rely_wp rfl ?_
    exact opr_move (.inl rfl) (hK _ _ (NewT.refl _) f26)
  · intro a wx hT hF K hK
    obtain ⟨f3, f27, _⟩ := hF
    have f3 : a.tmps.getD 3 undef = vq := f3
    have f27 : a.tmps.getD 27 undef = .bool (q1_3) := f27
    refine rely_if (rely_gf f27) (NewT.refl _) hK (fun hE hK => ?_)
    exact opr_move (.inl rfl) (hK _ _ (NewT.refl _) f3)
  · intro a wx hT hF K hK
    obtain ⟨f28, f27, _⟩ := hF
    have f28 : ((!q1_3)) = true → a.tmps.getD 28 undef = vq := f28
    have f27 : a.tmps.getD 27 undef = .bool (q1_3) := f27
    refine rely_if (rely_gf f27) (NewT.refl _) hK (fun hE hK => ?_)
    exact opr_len_h rfl (by rw [eval_tmp, (f28 hE)]; exact (hT.hs HQ.out)) (hK _ _ (NewT.refl _) rfl)
  · intro a wx hT hF K hK
    obtain ⟨f29, f27, _⟩ := hF
    have f29 : ((!q1_3)) = true → a.tmps.getD 29 undef = .int .i64 ((List.length (q) : Int)) := f29
    have f27 : a.tmps.getD 27 undef = .bool (q1_3) := f27
    refine rely_if (rely_gf f27) (NewT.refl _) hK (fun hE hK => ?_)
    exact opr_cmp (b := decide (30 < ((List.length (q) : Int)))) (.inr (.inr (.inr (.inr (.inl ⟨rfl, rfl⟩))))) Tryd.underlying3 rfl (f29 hE) rfl (hK _ _ (NewT.refl _) rfl)
  · intro a wx hT hF K hK
    obtain ⟨f27, f30, _⟩ := hF
    have f27 : a.tmps.getD 27 undef = .bool (q1_3) := f27
    have f30 : ((!q1_3)) = true → a.tmps.getD 30 undef = .bool (decide (30 < ((List.length (q) : Int)))) := f30
    refine rely_wp rfl ?_
    exact opr_pick_b rfl f27 (fun hb => hK _ _ (NewT.refl _) (pn_or1 Q2_3 hb)) (fun hb => hK _ _ (NewT.refl _) (pn_or0 Q2_3 (f30 (bnot hb)) hb))
  · intro a wx hT hF K hK
    obtain ⟨f31, _⟩ := hF
    have f31 : a.tmps.getD 31 undef = .bool (q2_3) := f31
    refine rely_wp rfl ?_
    exact opr_move (.inl rfl) (hK _ _ (NewT.refl _) f31)
  · intro a wx hT hF K hK
    obtain ⟨f1, f32, _⟩ := hF
    have f1 : a.tmps.getD 1 undef = .int .i64 (i) := f1
    have f32 : a.tmps.getD 32 undef = .bool (q2_3) := f32
    refine rely_if (rely_gf f32) (NewT.refl _) hK (fun hE hK => ?_)
    exact opr_move (.inl rfl) (hK _ _ (NewT.refl _) f1)
  · intro a wx hT hF K hK
    obtain ⟨f33, f32, _⟩ := hF
    have f33 : ((!q2_3)) = true → a.tmps.getD 33 undef = .int .i64 (i) := f33
    have f32 : a.tmps.getD 32 undef = .bool (q2_3) := f32
    refine rely_if (rely_gf f32) (NewT.refl _) hK (fun hE hK => ?_)
    exact opr_cmp (b := decide (i < 0)) (.inr (.inr (.inr (.inl ⟨rfl, rfl⟩)))) Tryd.underlying3 rfl (f33 hE) rfl (hK _ _ (NewT.refl _) rfl)
  · intro a wx hT hF K hK
    obtain ⟨f32, f34, _⟩ := hF
    have f32 : a.tmps.getD 32 undef = .bool (q2_3) := f32
    have f34 : ((!q2_3)) = true → a.tmps.getD 34 undef = .bool (decide (i < 0)) := f34
    refine rely_wp rfl ?_
    exact opr_pick_b rfl f32 (fun hb => hK _ _ (NewT.refl _) (pk_or1 hb)) (fun hb => hK _ _ (NewT.refl _) (pk_or0 (f34 (bnot hb)) hb))
  · intro a wx hT hF K hK
    obtain ⟨f35, _⟩ := hF
    have f35 : a.tmps.getD 35 undef = .bool (q2_3 || (decide (i < 0))) := f35
    refine rely_wp rfl ?_
    exact opr_move (.inl rfl) (hK _ _ (NewT.refl _) f35)
  · intro a wx hT hF K hK
    obtain ⟨f1, f36, _⟩ := hF
    have f1 : a.tmps.getD 1 undef = .int .i64 (i) := f1
    have f36 : a.tmps.getD 36 undef = .bool (q2_3 || (decide (i < 0))) := f36
    refine rely_if (rely_gf f36) (NewT.refl _) hK (fun hE hK => ?_)
    exact opr_move (.inl rfl) (hK _ _ (NewT.refl _) f1)
  · intro a wx hT hF K hK
    obtain ⟨f0, f36, _⟩ := hF
    have f0 : a.tmps.getD 0 undef = va := f0
    have f36 : a.tmps.getD 36 undef = .bool (q2_3 || (decide (i < 0))) := f36
    refine rely_if (rely_gf f36) (NewT.refl _) hK (fun hE hK => ?_)
    exact opr_move (.inl rfl) (hK _ _ (NewT.refl _) f0)
  · intro a wx hT hF K hK
    obtain ⟨f38, f36, _⟩ := hF
    have f38 : ((!(q2_3 || (decide (i < 0))))) = true → a.tmps.getD 38 undef = va := f38
    have f36 : a.tmps.getD 36 undef = .bool (q2_3 || (decide (i < 0))) := f36
    refine rely_if (rely_gf f36) (NewT.refl _) hK (fun hE hK => ?_)
    exact opr_len_parts rfl (by rw [eval_tmp, (f38 hE)]; exact (hT.partsL HA.out)) (hK _ _ (NewT.refl _) rfl)
  · intro a wx hT hF K hK
    obtain ⟨f37, f39, f36, _⟩ := hF
    have f37 : ((!(q2_3 || (decide (i < 0))))) = true → a.tmps.getD 37 undef = .int .i64 (i) := f37
    have f39 : ((!(q2_3 || (decide (i < 0))))) = true → a.tmps.getD 39 undef = .int .i64 ((List.length (x) : Int)) := f39
    have f36 : a.tmps.getD 36 undef = .bool (q2_3 || (decide (i < 0))) := f36
    refine rely_if (rely_gf f36) (NewT.refl _) hK (fun hE hK => ?_)
    exact opr_cmp (b := decide (((List.length (x) : Int)) ≤ i)) (.inr (.inr (.inr (.inr (.inr (⟨rfl, rfl⟩)))))) Tryd.underlying3 rfl (f37 hE) (f39 hE) (hK _ _ (NewT.refl _) rfl)
  · intro a wx hT hF K hK
    obtain ⟨f36, f40, _⟩ := hF
    have f36 : a.tmps.getD 36 undef = .bool (q2_3 || (decide (i < 0))) := f36
    have f40 : ((!(q2_3 || (decide (i < 0))))) = true → a.tmps.getD 40 undef = .bool (decide (((List.length (x) : Int)) ≤ i)) := f40
    refine rely_wp rfl ?_
    exact opr_pick_b rfl f36 (fun hb => hK _ _ (NewT.refl _) (pn_or1 Q3_3 hb)) (fun hb => hK _ _ (NewT.refl _) (pn_or0 Q3_3 (f40 (bnot hb)) hb))
  · intro w2 k2
    intro u h; obtain rfl := Eq.symm (h (by simp)); clear h
    intro u h; obtain rfl := Eq.symm (h (by simp)); clear h
    intro u h; obtain rfl := Eq.symm (h (by simp)); clear h
    intro _ _
    intro _ _
    intro _ _
    intro u h; obtain rfl := Eq.symm (h (by simp)); clear h
    intro u h; obtain rfl := Eq.symm (h (by simp)); clear h
    intro _ _
    intro _ _
    intro _ _
    intro u h; obtain rfl := Eq.symm (h (by simp)); clear h
    intro u h; obtain rfl := Eq.symm (h (by simp)); clear h
    intro _ _
    intro _ _
    intro u h; obtain rfl := Eq.symm (h (by simp)); clear h
    intro u h; obtain rfl := Eq.symm (h (by simp)); clear h
    intro _ _
    intro _ _
    intro _ _
    intro _ _
    intro u h; obtain rfl := Eq.symm (h (by simp)); clear h
    subst Q3_3 Q2_3 Q1_3
    refine relyEnd_nil rfl ?_
    refine wpList_end rfl ?_
    simp only [Act.put, List.setIfInBounds_toArray, List.set_cons_zero, List.set_cons_succ]
    go_simp
    replace HA := Lib.hid (k2.partsL HA.out)
    replace HB := Lib.hid (k2.rd HB.out)
    replace HQ := Lib.hid (k2.hs HQ.out)
    replace HT := Lib.hid (k2.tables HT.out)
    replace HN := Lib.hid (NewT.trans _ _ _ HN.out k2)
    clear k2
    obtain ⟨qq, hqq⟩ : ∃ b_, ((((((greatB x) || (decide (300 < ((List.length (o) : Int))))) || (decide (30 < ((List.length (q) : Int))))) || (decide (i < 0))) || (decide (((List.length (x) : Int)) ≤ i)))) = b_ := ⟨_, rfl⟩
    rw [hqq]
    cases qq
    rotate_left
    · clear hqq
      go_wp2
      go_ret
      exact ⟨rfl, HN.out.out⟩
    · have hg : greatB x = false ∧ o.length ≤ 300 ∧ q.length ≤ 30 ∧ 0 ≤ i ∧ i < (x.length : Int) := by
        cases hgb : greatB x
        · rw [hgb] at hqq; simp at hqq; refine ⟨rfl, ?_, ?_, ?_, ?_⟩ <;> omega
        · rw [hgb] at hqq; simp at hqq
      obtain ⟨g1, g2, g3, g4, g5⟩ := hg
      have HFx := Lib.hid (great_Fine g1)
      have HON := Lib.hid g2
      have HQN := Lib.hid g3
      obtain ⟨m, rfl⟩ : ∃ m : Nat, i = (m : Int) := ⟨i.toNat, by omega⟩
      have HM : Hid (m < x.length) := Lib.hid (by omega)
      have HA0 := HA
      have HNb := HN
      have hv := HV.out
      subst hv
      clear hqq g1 g2 g3 g4 g5 HA HN HV
      go_wp2
      go_loopw [9, 10] (fun v i wr => ∃ k : Nat, k ≤ x.length ∧ i = .int .i64 (k : Int) ∧ Hid (OwnH wr w2.heap.size v (List.take k (List.map lf x))) ∧ NewT w2 wr) (fun _ i _ => x.length - (intOf i).toNat)
      case atStart => exact ⟨0, by omega, rfl, Lib.hid (by rw [List.take_zero]; exact ownH_nil _ _), NewT.refl _⟩
      case round =>
        obtain ⟨k, hk, rfl, HO, hN⟩ := hrel
        have HN := Lib.hid hN
        clear hN
        by_cases hlt : k < x.length
        · have HA := Lib.hid (HN.out.partsL HA0.out)
          have it : (k : Int) < (x.length : Int) := by omega
          have hxl : x.length ≤ 1000 := HFx.out.len
          obtain ⟨s, hx⟩ : ∃ d, x[k]? = some d := ⟨_, List.getElem?_eq_getElem (by omega)⟩
          have HX := Lib.hid hx
          have HX2 := Lib.hid (HFx.out.each s (List.mem_of_getElem? hx))
          clear hx
          go_upto_region 9 with fail
          obtain ⟨va, ea⟩ : ∃ v, Value.slice A x.length c = v := ⟨_, rfl⟩
          rw [ea] at HA ⊢
          obtain ⟨v9, e9⟩ : ∃ v, u9 = v := ⟨_, rfl⟩
          rw [e9] at HO ⊢
          clear e9
          refine wp_region_steps0 NewT [SV.eq (v9), SV.eq (va), SV.eq (.int .i64 ((k : Int))), svPT (s), svRd (s), SV.eq (.agg (rowA 32 (bF (lf (s))))), svH ([lf (s)])] [([(9, none)], none), ([(0, none)], none), ([(10, none)], none), ([(49, some 1), (50, some 2)], none), ([(51, some 3)], none), ([(52, some 4)], none), ([(53, some 5)], none)] 107 7 rfl rfl (by kernel_rfl) NewT.trans (NewT.refl _) (Nat.le_of_ble_eq_true rfl) ⟨?_, ?_, ?_, ?_, ?_, ?_, ?_, trivial⟩ ?_
          · intro a wx hT hF K hK
            obtain ⟨f9, _⟩ := hF
            have f9 : a.tmps.getD 9 undef = v9 := f9
            refine rely_wp rfl ?_
            exact opr_move (.inl rfl) (hK _ _ (NewT.refl _) f9)
          · intro a wx hT hF K hK
            obtain ⟨f0, _⟩ := hF
            have f0 : a.tmps.getD 0 undef = va := f0
            refine rely_wp rfl ?_
            exact opr_move (.inl rfl) (hK _ _ (NewT.refl _) f0)
          · intro a wx hT hF K hK
            obtain ⟨f10, _⟩ := hF
            have f10 : a.tmps.getD 10 undef = .int .i64 ((k : Int)) := f10
            refine rely_wp rfl ?_
            exact opr_move (.inl rfl) (hK _ _ (NewT.refl _) f10)
          · intro a wx hT hF K hK
            obtain ⟨f49, f50, _⟩ := hF
            have f49 : a.tmps.getD 49 undef = va := f49
            have f50 : a.tmps.getD 50 undef = .int .i64 ((k : Int)) := f50
            refine rely_wp rfl ?_
            exact opr_idxT (i := k) (l := s) (HX.out) (rfl) rfl (by rw [eval_tmp, f49]; exact (hT.partsL HA.out)) f50 (fun v hv => hK v _ (NewT.refl _) hv)
          · intro a wx hT hF K hK
            obtain ⟨f51, _⟩ := hF
            replace f51 := show (svPT (s)).pred (a.tmps.getD 51 undef) wx from f51
            refine rely_wp rfl ?_
            exact opr_ldT rfl f51 (fun u hu => hK u _ (NewT.refl _) hu)
          · intro a wx hT hF K hK
            obtain ⟨f52, _⟩ := hF
            replace f52 := show (svRd (s)).pred (a.tmps.getD 52 undef) wx from f52
            refine rely_wp rfl ?_
            exact opr_cv (LeafK hY _ (s) wx ((NewT.trans _ _ _ HN.out hT).tables HT.out) f52 (HX2.out)) rfl Tryd.func21 (by kernel_rfl) (by kernel_rfl) (by simp only [List.map_toArray, List.map_cons, List.map_nil, eval_tmp]) hK
          · intro a wx hT hF K hK
            obtain ⟨f53, _⟩ := hF
            have f53 : a.tmps.getD 53 undef = .agg (rowA 32 (bF (lf (s)))) := f53
            refine rely_wp rfl ?_
            exact opr_bsH1 rfl f53 hK
          · intro wl kl
            intro u h; obtain rfl := Eq.symm (h (by simp)); clear h
            intro u h; obtain rfl := Eq.symm (h (by simp)); clear h
            intro u h; obtain rfl := Eq.symm (h (by simp)); clear h
            intro _ _
            intro _ _
            intro u h; obtain rfl := Eq.symm (h (by simp)); clear h
            intro u54 h; have g54 := h (by simp); clear h; replace g54 := show (svH ([lf (s)])).pred u54 wl from g54
            refine relyEnd_nil rfl ?_
            simp only [Act.put, List.setIfInBounds_toArray, List.set_cons_zero, List.set_cons_succ]
            refine wpList_plain rfl (fun K hK => ?_)
            have hO := HO.out.new kl
            obtain ⟨v', w', hrun, h2, h3⟩ := run_appH hO g54 (by rw [List.length_take, List.length_map]; have := HFx.out.len; simp; omega) (Nat.le_trans HN.out.out.size kl.out.size) 33
            refine opr_append rfl rfl rfl hrun (hK _ _ ?_)
            clear hK K
            simp only [Act.put, List.setIfInBounds_toArray, List.set_cons_zero, List.set_cons_succ]
            refine wpList_plain rfl (fun K hK => ?_)
            refine opr_move (.inr rfl) (hK _ _ ?_)
            refine wpList_end rfl ?_
            simp only [Act.put, List.setIfInBounds_toArray, List.set_cons_zero, List.set_cons_succ]
            go_simp
            have hend := app_below (NewT.trans _ _ _ HN.out kl) rfl hO h3
            rw [show List.take k (List.map lf x) ++ [lf s] = List.take (k + 1) (List.map lf x) from by rw [List.take_add_one, map_at_k HX.out]; rfl] at h2
            have HO2 := Lib.hid h2
            have HN2 := Lib.hid hend
            clear h2 h3 hend hO kl hrun HO HN HA
            subst ea
            go_wp2
            go_roundw
            case rel => exact ⟨k + 1, by omega, by go_num, HO2, HN2.out⟩
            case measure => simp [intOf]; omega
        · obtain rfl : k = x.length := by omega
          have hO9 := HO.out
          rw [List.take_of_length_le (by rw [List.length_map]; exact Nat.le_refl _)] at hO9
          have HO9 := Lib.hid hO9.rd
          clear hO9 HO
          go_upto_region 10 with fail
          obtain ⟨v9, e9⟩ : ∃ v, u9 = v := ⟨_, rfl⟩
          rw [e9] at HO9 ⊢
          clear e9
          obtain ⟨va, ea⟩ : ∃ v, Value.slice A x.length c = v := ⟨_, rfl⟩
          have HA := Lib.hid (HN.out.partsL HA0.out)
          rw [ea] at HA ⊢
          replace HT := Lib.hid (HN.out.tables HT.out)
          replace HB := Lib.hid (HN.out.rd HB.out)
          replace HQ := Lib.hid (HN.out.hs HQ.out)
          replace HN := Lib.hid (NewT.trans _ _ _ HNb.out HN.out)
          clear HNb HA0
          refine wp_region_steps0 NewT [SV.eq (v9), SV.eq (.int .i64 ((m : Int))), svPq (pathM node z (List.map lf x) m) true, svPq (pathM node z (List.map lf x) m) true, svH (pathM node z (List.map lf x) m), SV.eq (.bool true), svH (pathM node z (List.map lf x) m), SV.eq (.bool true)] [([(9, none)], none), ([(1, none)], none), ([(57, some 0), (58, some 1)], none), ([(59, some 2)], none), ([(56, some 3)], none), ([(56, some 3)], none), ([(60, some 4)], none), ([(61, some 5)], none)] 107 8 rfl rfl (by kernel_rfl) NewT.trans (NewT.refl _) (Nat.le_of_ble_eq_true rfl) ⟨?_, ?_, ?_, ?_, ?_, ?_, ?_, ?_, trivial⟩ ?_
          · intro a wx hT hF K hK
            obtain ⟨f9, _⟩ := hF
            have f9 : a.tmps.getD 9 undef = v9 := f9
            refine rely_wp rfl ?_
            exact opr_move (.inl rfl) (hK _ _ (NewT.refl _) f9)
          · intro a wx hT hF K hK
            obtain ⟨f1, _⟩ := hF
            have f1 : a.tmps.getD 1 undef = .int .i64 ((m : Int)) := f1
            refine rely_wp rfl ?_
            exact opr_move (.inl rfl) (hK _ _ (NewT.refl _) f1)
          · intro a wx hT hF K hK
            obtain ⟨f57, f58, _⟩ := hF
            have f57 : a.tmps.getD 57 undef = v9 := f57
            have f58 : a.tmps.getD 58 undef = .int .i64 ((m : Int)) := f58
            refine rely_wp rfl ?_
            exact opr_cv (Path_good hC.tree v9 (List.map lf x) m wx (hT.tables HT.out) (hT.hs HO9.out) (by rw [List.length_map]; exact HM.out) (by rw [List.length_map]; have := HFx.out.len; omega)) rfl Tryd.func22 (by kernel_rfl) (by kernel_rfl) (by simp only [List.map_toArray, List.map_cons, List.map_nil, eval_tmp, f57, f58]) hK
          · intro a wx hT hF K hK
            obtain ⟨f59, _⟩ := hF
            replace f59 := show (svPq (pathM node z (List.map lf x) m) true).pred (a.tmps.getD 59 undef) wx from f59
            refine rely_wp rfl ?_
            exact opr_move (.inl rfl) (hK _ _ (NewT.refl _) f59)
          · intro a wx hT hF K hK
            obtain ⟨f56, _⟩ := hF
            replace f56 := show (svPq (pathM node z (List.map lf x) m) true).pred (a.tmps.getD 56 undef) wx from f56
            refine rely_wp rfl ?_
            exact opr_extP0 rfl f56 (fun u hu => hK u _ (NewT.refl _) hu)
          · intro a wx hT hF K hK
            obtain ⟨f56, _⟩ := hF
            replace f56 := show (svPq (pathM node z (List.map lf x) m) true).pred (a.tmps.getD 56 undef) wx from f56
            refine rely_wp rfl ?_
            exact opr_extP1 rfl f56 (hK _ _ (NewT.refl _) rfl)
          · intro a wx hT hF K hK
            obtain ⟨f60, _⟩ := hF
            replace f60 := show (svH (pathM node z (List.map lf x) m)).pred (a.tmps.getD 60 undef) wx from f60
            refine rely_wp rfl ?_
            exact opr_move (.inr rfl) (hK _ _ (NewT.refl _) f60)
          · intro a wx hT hF K hK
            obtain ⟨f61, _⟩ := hF
            have f61 : a.tmps.getD 61 undef = .bool true := f61
            refine rely_wp rfl ?_
            exact opr_move (.inr rfl) (hK _ _ (NewT.refl _) f61)
          · intro w4 k4
            intro u h; obtain rfl := Eq.symm (h (by simp)); clear h
            intro u h; obtain rfl := Eq.symm (h (by simp)); clear h
            intro _ _
            intro _ _
            intro _ _
            intro u h; obtain rfl := Eq.symm (h (by simp)); clear h
            intro u11 h; have g11 := h (by simp); clear h; replace g11 := show (svH (pathM node z (List.map lf x) m)).pred u11 w4 from g11
            intro u h; obtain rfl := Eq.symm (h (by simp)); clear h
            refine relyEnd_nil rfl ?_
            refine wpList_end rfl ?_
            simp only [Act.put, List.setIfInBounds_toArray, List.set_cons_zero, List.set_cons_succ]
            go_simp
            have HU := Lib.hid g11
            clear g11
            replace HA := Lib.hid (k4.partsL HA.out)
            replace HB := Lib.hid (k4.rd HB.out)
            replace HQ := Lib.hid (k4.hs HQ.out)
            replace HO9 := Lib.hid (k4.hs HO9.out)
            replace HT := Lib.hid (k4.tables HT.out)
            replace HN := Lib.hid (NewT.trans _ _ _ HN.out k4)
            clear k4
            obtain ⟨s, hx⟩ : ∃ d, x[m]? = some d := ⟨_, List.getElem?_eq_getElem HM.out⟩
            have HX := Lib.hid hx
            have HSN := Lib.hid (HFx.out.each s (List.mem_of_getElem? hx))
            have HPL : Hid ((pathM node z (List.map lf x) m).length ≤ 1000) := Lib.hid (by
              rw [pathM_length (node := node) (z := z) _ (List.map lf x) m (Nat.le_refl _), List.length_map]
              exact Nat.le_trans (leftsM_le 10 m x.length (by have := HFx.out.len; omega)) (by omega))
            have hcr := comes_root (node := node) (z := z) (fun _ => 0) (List.map lf x) m (lf s) (map_at_k hx) (by rw [List.length_map]; have := HFx.out.len; omega)
            have hcs := (comes_set (node := node) (z := z) (fun _ => 0) (List.map lf x) m (lf s) (by rw [List.length_map]; exact HM.out) (by rw [List.length_map]; have := HFx.out.len; omega)).1
            rw [List.length_map] at hcr hcs
            clear hx
            cases hpx : pathX node lf sm (fun _ => 0) s o (m : Int) (x.length : Int) (pathM node z (List.map lf x) m) q with
            | some cc =>
              obtain ⟨c1, c2⟩ := cc
              have HIS := Lib.hid (pathX_some hC (HSN.out) (by have := HON.out; omega) hpx)
              have HPX : Hid (∀ w, Tables w → ∀ va vb vp vq, RdV w [] va s → RdV w [] vb o → RdH w vp (pathM node z (List.map lf x) m) → RdH w vq q → Cv 18 #[va, vb, .int .i64 (m : Int), .int .i64 (x.length : Int), vp, vq] w (svT2 c1 c2 true)) := Lib.hid fun w hT va vb vp vq h1 h2 h3 h4 => by
                have h := Paths_cv hC w hT va vb vp vq s o (m : Int) (x.length : Int) _ _ h1 h2 h3 h4 HSN.out (by have := HON.out; omega) HPL.out (by have := HQN.out; omega)
                rw [hpx] at h; exact h
              clear hpx hcr hcs
              go_upto_region 11 with fail
              refine wp_region_steps0 NewT [SV.eq (va), SV.eq (.int .i64 ((m : Int))), svPT (s), svRd (s), SV.eq (vo), SV.eq (.int .i64 ((m : Int))), SV.eq (va), SV.eq (.int .i64 ((List.length (x) : Int))), SV.eq (u11), SV.eq (vq), svT2 c1 c2 true, svT2 c1 c2 true, svRd (c1), svRd (c2), SV.eq (.bool true), svRd (c1), svRd (c2), SV.eq (.bool true)] [([(0, none)], none), ([(1, none)], none), ([(63, some 0), (64, some 1)], none), ([(65, some 2)], none), ([(2, none)], none), ([(1, none)], none), ([(0, none)], none), ([(69, some 6)], none), ([(11, none)], none), ([(3, none)], none), ([(66, some 3), (67, some 4), (68, some 5), (70, some 7), (71, some 8), (72, some 9)], none), ([(73, some 10)], none), ([(62, some 11)], none), ([(62, some 11)], none), ([(62, some 11)], none), ([(74, some 12)], none), ([(75, some 13)], none), ([(76, some 14)], none)] 107 18 rfl rfl (by kernel_rfl) NewT.trans (NewT.refl _) (Nat.le_of_ble_eq_true rfl) ⟨?_, ?_, ?_, ?_, ?_, ?_, ?_, ?_, ?_, ?_, ?_, ?_, ?_, ?_, ?_, ?_, ?_, ?_, trivial⟩ ?_
              · intro a wx hT hF K hK
                obtain ⟨f0, _⟩ := hF
                have f0 : a.tmps.getD 0 undef = va := f0
                refine rely_wp rfl ?_
                exact opr_move (.inl rfl) (hK _ _ (NewT.refl _) f0)
              · intro a wx hT hF K hK
                obtain ⟨f1, _⟩ := hF
                have f1 : a.tmps.getD 1 undef = .int .i64 ((m : Int)) := f1
                refine rely_wp rfl ?_
                exact opr_move (.inl rfl) (hK _ _ (NewT.refl _) f1)
              · intro a wx hT hF K hK
                obtain ⟨f63, f64, _⟩ := hF
                have f63 : a.tmps.getD 63 undef = va := f63
                have f64 : a.tmps.getD 64 undef = .int .i64 ((m : Int)) := f64
                refine rely_wp rfl ?_
                exact opr_idxT (i := m) (l := s) (HX.out) (rfl) rfl (by rw [eval_tmp, f63]; exact (hT.partsL HA.out)) f64 (fun v hv => hK v _ (NewT.refl _) hv)
              · intro a wx hT hF K hK
                obtain ⟨f65, _⟩ := hF
                replace f65 := show (svPT (s)).pred (a.tmps.getD 65 undef) wx from f65
                refine rely_wp rfl ?_
                exact opr_ldT rfl f65 (fun u hu => hK u _ (NewT.refl _) hu)
              · intro a wx hT hF K hK
                obtain ⟨f2, _⟩ := hF
                have f2 : a.tmps.getD 2 undef = vo := f2
                refine rely_wp rfl ?_
                exact opr_move (.inl rfl) (hK _ _ (NewT.refl _) f2)
              · intro a wx hT hF K hK
                obtain ⟨f1, _⟩ := hF
                have f1 : a.tmps.getD 1 undef = .int .i64 ((m : Int)) := f1
                refine rely_wp rfl ?_
                exact opr_move (.inl rfl) (hK _ _ (NewT.refl _) f1)
              · intro a wx hT hF K hK
                obtain ⟨f0, _⟩ := hF
                have f0 : a.tmps.getD 0 undef = va := f0
                refine rely_wp rfl ?_
                exact opr_move (.inl rfl) (hK _ _ (NewT.refl _) f0)
              · intro a wx hT hF K hK
                obtain ⟨f69, _⟩ := hF
                have f69 : a.tmps.getD 69 undef = va := f69
                refine rely_wp rfl ?_
                exact opr_len_parts rfl (by rw [eval_tmp, f69]; exact (hT.partsL HA.out)) (hK _ _ (NewT.refl _) rfl)
              · intro a wx hT hF K hK
                obtain ⟨f11, _⟩ := hF
                have f11 : a.tmps.getD 11 undef = u11 := f11
                refine rely_wp rfl ?_
                exact opr_move (.inl rfl) (hK _ _ (NewT.refl _) f11)
              · intro a wx hT hF K hK
                obtain ⟨f3, _⟩ := hF
                have f3 : a.tmps.getD 3 undef = vq := f3
                refine rely_wp rfl ?_
                exact opr_move (.inl rfl) (hK _ _ (NewT.refl _) f3)
              · intro a wx hT hF K hK
                obtain ⟨f66, f67, f68, f70, f71, f72, _⟩ := hF
                replace f66 := show (svRd (s)).pred (a.tmps.getD 66 undef) wx from f66
                have f67 : a.tmps.getD 67 undef = vo := f67
                have f68 : a.tmps.getD 68 undef = .int .i64 ((m : Int)) := f68
                have f70 : a.tmps.getD 70 undef = .int .i64 ((List.length (x) : Int)) := f70
                have f71 : a.tmps.getD 71 undef = u11 := f71
                have f72 : a.tmps.getD 72 undef = vq := f72
                refine rely_wp rfl ?_
                exact opr_cv (HPX.out wx (hT.tables HT.out) _ vo u11 vq f66 (hT.rd HB.out) (hT.hs HU.out) (hT.hs HQ.out)) rfl Tryd.func18 (by kernel_rfl) (by kernel_rfl) (by simp only [List.map_toArray, List.map_cons, List.map_nil, eval_tmp, f67, f68, f70, f71, f72]) hK
              · intro a wx hT hF K hK
                obtain ⟨f73, _⟩ := hF
                replace f73 := show (svT2 c1 c2 true).pred (a.tmps.getD 73 undef) wx from f73
                refine rely_wp rfl ?_
                exact opr_move (.inl rfl) (hK _ _ (NewT.refl _) f73)
              · intro a wx hT hF K hK
                obtain ⟨f62, _⟩ := hF
                replace f62 := show (svT2 c1 c2 true).pred (a.tmps.getD 62 undef) wx from f62
                refine rely_wp rfl ?_
                exact opr_extT0 rfl f62 (fun u hu => hK u _ (NewT.refl _) hu)
              · intro a wx hT hF K hK
                obtain ⟨f62, _⟩ := hF
                replace f62 := show (svT2 c1 c2 true).pred (a.tmps.getD 62 undef) wx from f62
                refine rely_wp rfl ?_
                exact opr_extT1 rfl f62 (fun u hu => hK u _ (NewT.refl _) hu)
              · intro a wx hT hF K hK
                obtain ⟨f62, _⟩ := hF
                replace f62 := show (svT2 c1 c2 true).pred (a.tmps.getD 62 undef) wx from f62
                refine rely_wp rfl ?_
                exact opr_extT2 rfl f62 (hK _ _ (NewT.refl _) rfl)
              · intro a wx hT hF K hK
                obtain ⟨f74, _⟩ := hF
                replace f74 := show (svRd (c1)).pred (a.tmps.getD 74 undef) wx from f74
                refine rely_wp rfl ?_
                exact opr_move (.inr rfl) (hK _ _ (NewT.refl _) f74)
              · intro a wx hT hF K hK
                obtain ⟨f75, _⟩ := hF
                replace f75 := show (svRd (c2)).pred (a.tmps.getD 75 undef) wx from f75
                refine rely_wp rfl ?_
                exact opr_move (.inr rfl) (hK _ _ (NewT.refl _) f75)
              · intro a wx hT hF K hK
                obtain ⟨f76, _⟩ := hF
                have f76 : a.tmps.getD 76 undef = .bool true := f76
                refine rely_wp rfl ?_
                exact opr_move (.inr rfl) (hK _ _ (NewT.refl _) f76)
              · intro w5 k5
                intro u h; obtain rfl := Eq.symm (h (by simp)); clear h
                intro u h; obtain rfl := Eq.symm (h (by simp)); clear h
                intro _ _
                intro _ _
                intro u h; obtain rfl := Eq.symm (h (by simp)); clear h
                intro u h; obtain rfl := Eq.symm (h (by simp)); clear h
                intro u h; obtain rfl := Eq.symm (h (by simp)); clear h
                intro u h; obtain rfl := Eq.symm (h (by simp)); clear h
                intro u h; obtain rfl := Eq.symm (h (by simp)); clear h
                intro u h; obtain rfl := Eq.symm (h (by simp)); clear h
                intro _ _
                intro _ _
                intro _ _
                intro _ _
                intro u h; obtain rfl := Eq.symm (h (by simp)); clear h
                intro u13 h; have g13 := h (by simp); clear h; replace g13 := show (svRd (c1)).pred u13 w5 from g13
                intro u14 h; have g14 := h (by simp); clear h; replace g14 := show (svRd (c2)).pred u14 w5 from g14
                intro u h; obtain rfl := Eq.symm (h (by simp)); clear h
                refine relyEnd_nil rfl ?_
                refine wpList_end rfl ?_
                simp only [Act.put, List.setIfInBounds_toArray, List.set_cons_zero, List.set_cons_succ]
                go_simp
                have HS1 := Lib.hid g13
                have HS2 := Lib.hid g14
                clear g13 g14
                replace HA := Lib.hid (k5.partsL HA.out)
                replace HB := Lib.hid (k5.rd HB.out)
                replace HQ := Lib.hid (k5.hs HQ.out)
                replace HO9 := Lib.hid (k5.hs HO9.out)
                replace HU := Lib.hid (k5.hs HU.out)
                replace HT := Lib.hid (k5.tables HT.out)
                replace HN := Lib.hid (NewT.trans _ _ _ HN.out k5)
                clear k5
                go_upto_region 13 with fail
                refine wp_region_steps0 NewT [SV.eq (u13), SV.eq (u14), SV.eq (.bool true), SV.eq (.bool true)] [([(13, none)], none), ([(14, none)], none), ([(78, some 0), (79, some 1)], none), ([(80, some 2)], none)] 107 4 rfl rfl (by kernel_rfl) NewT.trans (NewT.refl _) (Nat.le_of_ble_eq_true rfl) ⟨?_, ?_, ?_, ?_, trivial⟩ ?_
                · intro a wx hT hF K hK
                  obtain ⟨f13, _⟩ := hF
                  have f13 : a.tmps.getD 13 undef = u13 := f13
                  refine rely_wp rfl ?_
                  exact opr_move (.inl rfl) (hK _ _ (NewT.refl _) f13)
                · intro a wx hT hF K hK
                  obtain ⟨f14, _⟩ := hF
                  have f14 : a.tmps.getD 14 undef = u14 := f14
                  refine rely_wp rfl ?_
                  exact opr_move (.inl rfl) (hK _ _ (NewT.refl _) f14)
                · intro a wx hT hF K hK
                  obtain ⟨f78, f79, _⟩ := hF
                  have f78 : a.tmps.getD 78 undef = u13 := f78
                  have f79 : a.tmps.getD 79 undef = u14 := f79
                  refine rely_wp rfl ?_
                  exact opr_cv (by rw [← HIS.out.1]; exact Is_cv hC _ _ c1 c2 wx (hT.tables HT.out) (hT.rd HS1.out) (hT.rd HS2.out) (by have := HIS.out.2.1; omega) (by have := HIS.out.2.2; omega)) rfl Tryd.func16 (by kernel_rfl) (by kernel_rfl) (by simp only [List.map_toArray, List.map_cons, List.map_nil, eval_tmp, f78, f79]) hK
                · intro a wx hT hF K hK
                  obtain ⟨f80, _⟩ := hF
                  have f80 : a.tmps.getD 80 undef = .bool true := f80
                  refine rely_wp rfl ?_
                  exact opr_move (.inr rfl) (hK _ _ (NewT.refl _) f80)
                · intro w6 k6
                  intro u h; obtain rfl := Eq.symm (h (by simp)); clear h
                  intro u h; obtain rfl := Eq.symm (h (by simp)); clear h
                  intro u h; obtain rfl := Eq.symm (h (by simp)); clear h
                  intro u h; obtain rfl := Eq.symm (h (by simp)); clear h
                  refine relyEnd_nil rfl ?_
                  refine wpList_end rfl ?_
                  simp only [Act.put, List.setIfInBounds_toArray, List.set_cons_zero, List.set_cons_succ]
                  go_simp
                  go_wp2
                  go_ret
                  exact ⟨rfl, (NewT.trans _ _ _ HN.out k6).out⟩
            | none =>
              have hor := pathX_none hC hpx
              have HFIN : Hid ((((!(okP ((m : Int)) ((List.length (x) : Int)) (List.length (q)))) || (!(eqH (comesM node (fun _ => 0) (lf (o)) ((m : Int)) ((List.length (x) : Int)) (q)) (rootM node z (List.map lf x))))) || (decide (s = o))) = true) := Lib.hid (by
                rcases hor with h | h | h | h
                · rw [decide_eq_true h]; simp
                · rw [hcs] at h; cases h
                · rw [h]; rfl
                · rw [hcr, eqH_comm] at h
                  rw [h]; simp)
              have HPX : Hid (∀ w, Tables w → ∀ va vb vp vq, RdV w [] va s → RdV w [] vb o → RdH w vp (pathM node z (List.map lf x) m) → RdH w vq q → Cv 18 #[va, vb, .int .i64 (m : Int), .int .i64 (x.length : Int), vp, vq] w (svT2 ([] : List UInt8) ([] : List UInt8) false)) := Lib.hid fun w hT va vb vp vq h1 h2 h3 h4 => by
                have h := Paths_cv hC w hT va vb vp vq s o (m : Int) (x.length : Int) _ _ h1 h2 h3 h4 HSN.out (by have := HON.out; omega) HPL.out (by have := HQN.out; omega)
                rw [hpx] at h; exact h
              clear hpx hcr hcs hor
              go_upto_region 11 with fail
              refine wp_region_steps0 NewT [SV.eq (va), SV.eq (.int .i64 ((m : Int))), svPT (s), svRd (s), SV.eq (vo), SV.eq (.int .i64 ((m : Int))), SV.eq (va), SV.eq (.int .i64 ((List.length (x) : Int))), SV.eq (u11), SV.eq (vq), svT2 (([] : List UInt8)) (([] : List UInt8)) false, svT2 (([] : List UInt8)) (([] : List UInt8)) false, svRd (([] : List UInt8)), svRd (([] : List UInt8)), SV.eq (.bool false), svRd (([] : List UInt8)), svRd (([] : List UInt8)), SV.eq (.bool false)] [([(0, none)], none), ([(1, none)], none), ([(63, some 0), (64, some 1)], none), ([(65, some 2)], none), ([(2, none)], none), ([(1, none)], none), ([(0, none)], none), ([(69, some 6)], none), ([(11, none)], none), ([(3, none)], none), ([(66, some 3), (67, some 4), (68, some 5), (70, some 7), (71, some 8), (72, some 9)], none), ([(73, some 10)], none), ([(62, some 11)], none), ([(62, some 11)], none), ([(62, some 11)], none), ([(74, some 12)], none), ([(75, some 13)], none), ([(76, some 14)], none)] 107 18 rfl rfl (by kernel_rfl) NewT.trans (NewT.refl _) (Nat.le_of_ble_eq_true rfl) ⟨?_, ?_, ?_, ?_, ?_, ?_, ?_, ?_, ?_, ?_, ?_, ?_, ?_, ?_, ?_, ?_, ?_, ?_, trivial⟩ ?_
              · intro a wx hT hF K hK
                obtain ⟨f0, _⟩ := hF
                have f0 : a.tmps.getD 0 undef = va := f0
                refine rely_wp rfl ?_
                exact opr_move (.inl rfl) (hK _ _ (NewT.refl _) f0)
              · intro a wx hT hF K hK
                obtain ⟨f1, _⟩ := hF
                have f1 : a.tmps.getD 1 undef = .int .i64 ((m : Int)) := f1
                refine rely_wp rfl ?_
                exact opr_move (.inl rfl) (hK _ _ (NewT.refl _) f1)
              · intro a wx hT hF K hK
                obtain ⟨f63, f64, _⟩ := hF
                have f63 : a.tmps.getD 63 undef = va := f63
                have f64 : a.tmps.getD 64 undef = .int .i64 ((m : Int)) := f64
                refine rely_wp rfl ?_
                exact opr_idxT (i := m) (l := s) (HX.out) (rfl) rfl (by rw [eval_tmp, f63]; exact (hT.partsL HA.out)) f64 (fun v hv => hK v _ (NewT.refl _) hv)
              · intro a wx hT hF K hK
                obtain ⟨f65, _⟩ := hF
                replace f65 := show (svPT (s)).pred (a.tmps.getD 65 undef) wx from f65
                refine rely_wp rfl ?_
                exact opr_ldT rfl f65 (fun u hu => hK u _ (NewT.refl _) hu)
              · intro a wx hT hF K hK
                obtain ⟨f2, _⟩ := hF
                have f2 : a.tmps.getD 2 undef = vo := f2
                refine rely_wp rfl ?_
                exact opr_move (.inl rfl) (hK _ _ (NewT.refl _) f2)
              · intro a wx hT hF K hK
                obtain ⟨f1, _⟩ := hF
                have f1 : a.tmps.getD 1 undef = .int .i64 ((m : Int)) := f1
                refine rely_wp rfl ?_
                exact opr_move (.inl rfl) (hK _ _ (NewT.refl _) f1)
              · intro a wx hT hF K hK
                obtain ⟨f0, _⟩ := hF
                have f0 : a.tmps.getD 0 undef = va := f0
                refine rely_wp rfl ?_
                exact opr_move (.inl rfl) (hK _ _ (NewT.refl _) f0)
              · intro a wx hT hF K hK
                obtain ⟨f69, _⟩ := hF
                have f69 : a.tmps.getD 69 undef = va := f69
                refine rely_wp rfl ?_
                exact opr_len_parts rfl (by rw [eval_tmp, f69]; exact (hT.partsL HA.out)) (hK _ _ (NewT.refl _) rfl)
              · intro a wx hT hF K hK
                obtain ⟨f11, _⟩ := hF
                have f11 : a.tmps.getD 11 undef = u11 := f11
                refine rely_wp rfl ?_
                exact opr_move (.inl rfl) (hK _ _ (NewT.refl _) f11)
              · intro a wx hT hF K hK
                obtain ⟨f3, _⟩ := hF
                have f3 : a.tmps.getD 3 undef = vq := f3
                refine rely_wp rfl ?_
                exact opr_move (.inl rfl) (hK _ _ (NewT.refl _) f3)
              · intro a wx hT hF K hK
                obtain ⟨f66, f67, f68, f70, f71, f72, _⟩ := hF
                replace f66 := show (svRd (s)).pred (a.tmps.getD 66 undef) wx from f66
                have f67 : a.tmps.getD 67 undef = vo := f67
                have f68 : a.tmps.getD 68 undef = .int .i64 ((m : Int)) := f68
                have f70 : a.tmps.getD 70 undef = .int .i64 ((List.length (x) : Int)) := f70
                have f71 : a.tmps.getD 71 undef = u11 := f71
                have f72 : a.tmps.getD 72 undef = vq := f72
                refine rely_wp rfl ?_
                exact opr_cv (HPX.out wx (hT.tables HT.out) _ vo u11 vq f66 (hT.rd HB.out) (hT.hs HU.out) (hT.hs HQ.out)) rfl Tryd.func18 (by kernel_rfl) (by kernel_rfl) (by simp only [List.map_toArray, List.map_cons, List.map_nil, eval_tmp, f67, f68, f70, f71, f72]) hK
              · intro a wx hT hF K hK
                obtain ⟨f73, _⟩ := hF
                replace f73 := show (svT2 (([] : List UInt8)) (([] : List UInt8)) false).pred (a.tmps.getD 73 undef) wx from f73
                refine rely_wp rfl ?_
                exact opr_move (.inl rfl) (hK _ _ (NewT.refl _) f73)
              · intro a wx hT hF K hK
                obtain ⟨f62, _⟩ := hF
                replace f62 := show (svT2 (([] : List UInt8)) (([] : List UInt8)) false).pred (a.tmps.getD 62 undef) wx from f62
                refine rely_wp rfl ?_
                exact opr_extT0 rfl f62 (fun u hu => hK u _ (NewT.refl _) hu)
              · intro a wx hT hF K hK
                obtain ⟨f62, _⟩ := hF
                replace f62 := show (svT2 (([] : List UInt8)) (([] : List UInt8)) false).pred (a.tmps.getD 62 undef) wx from f62
                refine rely_wp rfl ?_
                exact opr_extT1 rfl f62 (fun u hu => hK u _ (NewT.refl _) hu)
              · intro a wx hT hF K hK
                obtain ⟨f62, _⟩ := hF
                replace f62 := show (svT2 (([] : List UInt8)) (([] : List UInt8)) false).pred (a.tmps.getD 62 undef) wx from f62
                refine rely_wp rfl ?_
                exact opr_extT2 rfl f62 (hK _ _ (NewT.refl _) rfl)
              · intro a wx hT hF K hK
                obtain ⟨f74, _⟩ := hF
                replace f74 := show (svRd (([] : List UInt8))).pred (a.tmps.getD 74 undef) wx from f74
                refine rely_wp rfl ?_
                exact opr_move (.inr rfl) (hK _ _ (NewT.refl _) f74)
              · intro a wx hT hF K hK
                obtain ⟨f75, _⟩ := hF
                replace f75 := show (svRd (([] : List UInt8))).pred (a.tmps.getD 75 undef) wx from f75
                refine rely_wp rfl ?_
                exact opr_move (.inr rfl) (hK _ _ (NewT.refl _) f75)
              · intro a wx hT hF K hK
                obtain ⟨f76, _⟩ := hF
                have f76 : a.tmps.getD 76 undef = .bool false := f76
                refine rely_wp rfl ?_
                exact opr_move (.inr rfl) (hK _ _ (NewT.refl _) f76)
              · intro w5 k5
                intro u h; obtain rfl := Eq.symm (h (by simp)); clear h
                intro u h; obtain rfl := Eq.symm (h (by simp)); clear h
                intro _ _
                intro _ _
                intro u h; obtain rfl := Eq.symm (h (by simp)); clear h
                intro u h; obtain rfl := Eq.symm (h (by simp)); clear h
                intro u h; obtain rfl := Eq.symm (h (by simp)); clear h
                intro u h; obtain rfl := Eq.symm (h (by simp)); clear h
                intro u h; obtain rfl := Eq.symm (h (by simp)); clear h
                intro u h; obtain rfl := Eq.symm (h (by simp)); clear h
                intro _ _
                intro _ _
                intro _ _
                intro _ _
                intro u h; obtain rfl := Eq.symm (h (by simp)); clear h
                intro u13 h; have g13 := h (by simp); clear h; replace g13 := show (svRd (([] : List UInt8))).pred u13 w5 from g13
                intro u14 h; have g14 := h (by simp); clear h; replace g14 := show (svRd (([] : List UInt8))).pred u14 w5 from g14
                intro u h; obtain rfl := Eq.symm (h (by simp)); clear h
                refine relyEnd_nil rfl ?_
                refine wpList_end rfl ?_
                simp only [Act.put, List.setIfInBounds_toArray, List.set_cons_zero, List.set_cons_succ]
                go_simp
                clear g13 g14
                replace HA := Lib.hid (k5.partsL HA.out)
                replace HB := Lib.hid (k5.rd HB.out)
                replace HQ := Lib.hid (k5.hs HQ.out)
                replace HO9 := Lib.hid (k5.hs HO9.out)
                replace HU := Lib.hid (k5.hs HU.out)
                replace HT := Lib.hid (k5.tables HT.out)
                replace HN := Lib.hid (NewT.trans _ _ _ HN.out k5)
                clear k5
                go_upto_region 14 with fail
                refine wp_region_steps0 NewT [SV.eq (vo), SV.eq (.agg (rowA 32 (bF (lf (o))))), SV.eq (.int .i64 ((m : Int))), SV.eq (va), SV.eq (.int .i64 ((List.length (x) : Int))), SV.eq (vq), SV.eq ((.tuple #[.agg (rowA 32 (bF (comesM node (fun _ => 0) (lf (o)) ((m : Int)) ((List.length (x) : Int)) (q)))), .bool (okP ((m : Int)) ((List.length (x) : Int)) (List.length (q)))])), SV.eq ((.tuple #[.agg (rowA 32 (bF (comesM node (fun _ => 0) (lf (o)) ((m : Int)) ((List.length (x) : Int)) (q)))), .bool (okP ((m : Int)) ((List.length (x) : Int)) (List.length (q)))])), SV.eq (.agg (rowA 32 (bF (comesM node (fun _ => 0) (lf (o)) ((m : Int)) ((List.length (x) : Int)) (q))))), SV.eq (.bool (okP ((m : Int)) ((List.length (x) : Int)) (List.length (q))))] [([(2, none)], none), ([(82, some 0)], none), ([(1, none)], none), ([(0, none)], none), ([(85, some 3)], none), ([(3, none)], none), ([(83, some 1), (84, some 2), (86, some 4), (87, some 5)], none), ([(88, some 6)], none), ([(81, some 7)], none), ([(81, some 7)], none)] 107 10 rfl rfl (by kernel_rfl) NewT.trans (NewT.refl _) (Nat.le_of_ble_eq_true rfl) ⟨?_, ?_, ?_, ?_, ?_, ?_, ?_, ?_, ?_, ?_, trivial⟩ ?_
                · intro a wx hT hF K hK
                  obtain ⟨f2, _⟩ := hF
                  have f2 : a.tmps.getD 2 undef = vo := f2
                  refine rely_wp rfl ?_
                  exact opr_move (.inl rfl) (hK _ _ (NewT.refl _) f2)
                · intro a wx hT hF K hK
                  obtain ⟨f82, _⟩ := hF
                  have f82 : a.tmps.getD 82 undef = vo := f82
                  refine rely_wp rfl ?_
                  exact opr_cv (LeafK hY _ (o) wx (hT.tables HT.out) (hT.rd HB.out) (by have := HON.out; omega)) rfl Tryd.func21 (by kernel_rfl) (by kernel_rfl) (by simp only [List.map_toArray, List.map_cons, List.map_nil, eval_tmp, f82]) hK
                · intro a wx hT hF K hK
                  obtain ⟨f1, _⟩ := hF
                  have f1 : a.tmps.getD 1 undef = .int .i64 ((m : Int)) := f1
                  refine rely_wp rfl ?_
                  exact opr_move (.inl rfl) (hK _ _ (NewT.refl _) f1)
                · intro a wx hT hF K hK
                  obtain ⟨f0, _⟩ := hF
                  have f0 : a.tmps.getD 0 undef = va := f0
                  refine rely_wp rfl ?_
                  exact opr_move (.inl rfl) (hK _ _ (NewT.refl _) f0)
                · intro a wx hT hF K hK
                  obtain ⟨f85, _⟩ := hF
                  have f85 : a.tmps.getD 85 undef = va := f85
                  refine rely_wp rfl ?_
                  exact opr_len_parts rfl (by rw [eval_tmp, f85]; exact (hT.partsL HA.out)) (hK _ _ (NewT.refl _) rfl)
                · intro a wx hT hF K hK
                  obtain ⟨f3, _⟩ := hF
                  have f3 : a.tmps.getD 3 undef = vq := f3
                  refine rely_wp rfl ?_
                  exact opr_move (.inl rfl) (hK _ _ (NewT.refl _) f3)
                · intro a wx hT hF K hK
                  obtain ⟨f83, f84, f86, f87, _⟩ := hF
                  have f83 : a.tmps.getD 83 undef = .agg (rowA 32 (bF (lf (o)))) := f83
                  have f84 : a.tmps.getD 84 undef = .int .i64 ((m : Int)) := f84
                  have f86 : a.tmps.getD 86 undef = .int .i64 ((List.length (x) : Int)) := f86
                  have f87 : a.tmps.getD 87 undef = vq := f87
                  refine rely_wp rfl ?_
                  exact opr_cv (Comes_cv hX (lf (o)) ((m : Int)) ((List.length (x) : Int)) _ (q) wx (hT.tables HT.out) ((hT.hs HQ.out)) (by have := HQN.out; omega)) rfl Tryd.func23 (by kernel_rfl) (by kernel_rfl) (by simp only [List.map_toArray, List.map_cons, List.map_nil, eval_tmp, f83, f84, f86, f87]) hK
                · intro a wx hT hF K hK
                  obtain ⟨f88, _⟩ := hF
                  have f88 : a.tmps.getD 88 undef = (.tuple #[.agg (rowA 32 (bF (comesM node (fun _ => 0) (lf (o)) ((m : Int)) ((List.length (x) : Int)) (q)))), .bool (okP ((m : Int)) ((List.length (x) : Int)) (List.length (q)))]) := f88
                  refine rely_wp rfl ?_
                  exact opr_move (.inl rfl) (hK _ _ (NewT.refl _) f88)
                · intro a wx hT hF K hK
                  obtain ⟨f81, _⟩ := hF
                  have f81 : a.tmps.getD 81 undef = (.tuple #[.agg (rowA 32 (bF (comesM node (fun _ => 0) (lf (o)) ((m : Int)) ((List.length (x) : Int)) (q)))), .bool (okP ((m : Int)) ((List.length (x) : Int)) (List.length (q)))]) := f81
                  refine rely_wp rfl ?_
                  exact opr_ext rfl f81 rfl (hK _ _ (NewT.refl _) rfl)
                · intro a wx hT hF K hK
                  obtain ⟨f81, _⟩ := hF
                  have f81 : a.tmps.getD 81 undef = (.tuple #[.agg (rowA 32 (bF (comesM node (fun _ => 0) (lf (o)) ((m : Int)) ((List.length (x) : Int)) (q)))), .bool (okP ((m : Int)) ((List.length (x) : Int)) (List.length (q)))]) := f81
                  refine rely_wp rfl ?_
                  exact opr_ext rfl f81 rfl (hK _ _ (NewT.refl _) rfl)
                · intro w6 k6
                  intro u h; obtain rfl := Eq.symm (h (by simp)); clear h
                  intro u h; obtain rfl := Eq.symm (h (by simp)); clear h
                  intro u h; obtain rfl := Eq.symm (h (by simp)); clear h
                  intro u h; obtain rfl := Eq.symm (h (by simp)); clear h
                  intro u h; obtain rfl := Eq.symm (h (by simp)); clear h
                  intro u h; obtain rfl := Eq.symm (h (by simp)); clear h
                  intro u h; obtain rfl := Eq.symm (h (by simp)); clear h
                  intro u h; obtain rfl := Eq.symm (h (by simp)); clear h
                  intro u h; obtain rfl := Eq.symm (h (by simp)); clear h
                  intro u h; obtain rfl := Eq.symm (h (by simp)); clear h
                  refine relyEnd_nil rfl ?_
                  simp only [Act.put, List.setIfInBounds_toArray, List.set_cons_zero, List.set_cons_succ]
                  refine wpList_new (n := 32) rfl rfl rfl rfl rfl rfl (by simp) run_alloc_hash info31 (fun _ => rfl) rfl ?_
                  intro w7 hn7 r7
                  refine wpList_plain rfl (fun K hK => ?_)
                  refine opr_move (.inr rfl) (hK _ _ ?_)
                  refine wpList_end rfl ?_
                  simp only [Act.put, List.setIfInBounds_toArray, List.set_cons_zero, List.set_cons_succ]
                  go_simp
                  obtain ⟨p16, hp16⟩ : ∃ q, w6.heap.size = q := ⟨_, rfl⟩
                  rw [hp16] at r7 ⊢
                  replace k6 := NewT.trans _ _ _ k6 hn7
                  have R16 := Lib.hid r7
                  clear hn7 r7 hp16
                  replace HA := Lib.hid (k6.partsL HA.out)
                  replace HB := Lib.hid (k6.rd HB.out)
                  replace HQ := Lib.hid (k6.hs HQ.out)
                  replace HO9 := Lib.hid (k6.hs HO9.out)
                  replace HU := Lib.hid (k6.hs HU.out)
                  replace HT := Lib.hid (k6.tables HT.out)
                  replace HN := Lib.hid (NewT.trans _ _ _ HN.out k6)
                  clear k6
                  go_upto_region 15 with fail
                  obtain ⟨q1_15, Q1_15⟩ : ∃ bq_, ((!(okP ((m : Int)) ((List.length (x) : Int)) (List.length (q)))) || (!(eqH (comesM node (fun _ => 0) (lf (o)) ((m : Int)) ((List.length (x) : Int)) (q)) (rootM node z (List.map lf x))))) = bq_ := ⟨_, rfl⟩
                  refine wp_region_rely (NewT) [SV.eq (.bool (okP ((m : Int)) ((List.length (x) : Int)) (List.length (q)))), SV.eq (.bool (!(okP ((m : Int)) ((List.length (x) : Int)) (List.length (q))))), SV.eq (.bool (!(okP ((m : Int)) ((List.length (x) : Int)) (List.length (q))))), svIf ((!(!(okP ((m : Int)) ((List.length (x) : Int)) (List.length (q)))))) (SV.eq (.agg (rowA 32 (bF (comesM node (fun _ => 0) (lf (o)) ((m : Int)) ((List.length (x) : Int)) (q)))))), svIf ((!(!(okP ((m : Int)) ((List.length (x) : Int)) (List.length (q)))))) (SV.eq (v9)), svIf ((!(!(okP ((m : Int)) ((List.length (x) : Int)) (List.length (q)))))) (SV.eq (.agg (rowA 32 (bF (rootM node z (List.map lf x)))))), svIf ((!(!(okP ((m : Int)) ((List.length (x) : Int)) (List.length (q)))))) (SV.eq (.bool (!(eqH (comesM node (fun _ => 0) (lf (o)) ((m : Int)) ((List.length (x) : Int)) (q)) (rootM node z (List.map lf x)))))), SV.eq (.bool (q1_15)), SV.eq (.bool (q1_15)), svIf ((!q1_15)) (SV.eq (va)), svIf ((!q1_15)) (SV.eq (.int .i64 ((m : Int)))), svIf ((!q1_15)) (svPT (s)), svIf ((!q1_15)) (svRd (s)), svIf ((!q1_15)) (SV.eq (vo)), svIf ((!q1_15)) (SV.eq (.bool (decide (s = o)))), SV.eq (.bool (q1_15 || (decide (s = o))))] [([(17, none)], none), ([(91, some 0)], none), ([(92, some 1)], none), ([(16, none), (93, some 2)], some (93, false)), ([(9, none), (93, some 2)], some (93, false)), ([(95, some 4), (93, some 2)], some (93, false)), ([(94, some 3), (96, some 5), (93, some 2)], some (93, false)), ([(93, some 2), (97, some 6)], none), ([(98, some 7)], none), ([(0, none), (99, some 8)], some (99, false)), ([(1, none), (99, some 8)], some (99, false)), ([(100, some 9), (101, some 10), (99, some 8)], some (99, false)), ([(102, some 11), (99, some 8)], some (99, false)), ([(2, none), (99, some 8)], some (99, false)), ([(103, some 12), (104, some 13), (99, some 8)], some (99, false)), ([(99, some 8), (105, some 14)], none)] 107 rfl (by kernel_rfl) rfl (by kernel_rfl) (by kernel_rfl) rfl NewT.trans (NewT.drew _) (Nat.le_of_ble_eq_true rfl) ⟨?_, ?_, ?_, ?_, ?_, ?_, ?_, ?_, ?_, ?_, ?_, ?_, ?_, ?_, ?_, ?_, trivial⟩ ?_
                  · intro a wx hT hF K hK
                    obtain ⟨f17, _⟩ := hF
                    have f17 : a.tmps.getD 17 undef = .bool (okP ((m : Int)) ((List.length (x) : Int)) (List.length (q))) := f17
                    refine rely_wp rfl ?_
                    exact opr_move (.inl rfl) (hK _ _ (NewT.refl _) f17)
                  · intro a wx hT hF K hK
                    obtain ⟨f91, _⟩ := hF
                    have f91 : a.tmps.getD 91 undef = .bool (okP ((m : Int)) ((List.length (x) : Int)) (List.length (q))) := f91
                    refine rely_wp rfl ?_
                    exact opr_not rfl f91 (hK _ _ (NewT.refl _) rfl)
                  · intro a wx hT hF K hK
                    obtain ⟨f92, _⟩ := hF
                    have f92 : a.tmps.getD 92 undef = .bool (!(okP ((m : Int)) ((List.length (x) : Int)) (List.length (q)))) := f92
                    refine rely_wp rfl ?_
                    exact opr_move (.inl rfl) (hK _ _ (NewT.refl _) f92)
                  · intro a wx hT hF K hK
                    obtain ⟨f16, f93, _⟩ := hF
                    have f16 : a.tmps.getD 16 undef = .pointer (some ⟨p16, 0, none⟩) := f16
                    have f93 : a.tmps.getD 93 undef = .bool (!(okP ((m : Int)) ((List.length (x) : Int)) (List.length (q)))) := f93
                    refine rely_if (rely_gf f93) (NewT.refl _) hK (fun hE hK => ?_)
                    exact opr_load_hash rfl f16 (hT.row R16.out) (hK _ _ (NewT.refl _) rfl)
                  · intro a wx hT hF K hK
                    obtain ⟨f9, f93, _⟩ := hF
                    have f9 : a.tmps.getD 9 undef = v9 := f9
                    have f93 : a.tmps.getD 93 undef = .bool (!(okP ((m : Int)) ((List.length (x) : Int)) (List.length (q)))) := f93
                    refine rely_if (rely_gf f93) (NewT.refl _) hK (fun hE hK => ?_)
                    exact opr_move (.inl rfl) (hK _ _ (NewT.refl _) f9)
                  · intro a wx hT hF K hK
                    obtain ⟨f95, f93, _⟩ := hF
                    have f95 : ((!(!(okP ((m : Int)) ((List.length (x) : Int)) (List.length (q)))))) = true → a.tmps.getD 95 undef = v9 := f95
                    have f93 : a.tmps.getD 93 undef = .bool (!(okP ((m : Int)) ((List.length (x) : Int)) (List.length (q)))) := f93
                    refine rely_if (rely_gf f93) (NewT.refl _) hK (fun hE hK => ?_)
                    exact opr_cv (Root_cv hX _ _ (List.map lf x) wx (hT.tables HT.out) ((hT.hs HO9.out)) (Nat.le_refl _) (by rw [List.length_map]; have := HFx.out.len; omega)) rfl Tryd.func24 (by kernel_rfl) (by kernel_rfl) (by simp only [List.map_toArray, List.map_cons, List.map_nil, eval_tmp, (f95 hE)]) hK
                  · intro a wx hT hF K hK
                    obtain ⟨f94, f96, f93, _⟩ := hF
                    have f94 : ((!(!(okP ((m : Int)) ((List.length (x) : Int)) (List.length (q)))))) = true → a.tmps.getD 94 undef = .agg (rowA 32 (bF (comesM node (fun _ => 0) (lf (o)) ((m : Int)) ((List.length (x) : Int)) (q)))) := f94
                    have f96 : ((!(!(okP ((m : Int)) ((List.length (x) : Int)) (List.length (q)))))) = true → a.tmps.getD 96 undef = .agg (rowA 32 (bF (rootM node z (List.map lf x)))) := f96
                    have f93 : a.tmps.getD 93 undef = .bool (!(okP ((m : Int)) ((List.length (x) : Int)) (List.length (q)))) := f93
                    refine rely_if (rely_gf f93) (NewT.refl _) hK (fun hE hK => ?_)
                    exact opr_neq_hash (b := !(eqH (comesM node (fun _ => 0) (lf (o)) ((m : Int)) ((List.length (x) : Int)) (q)) (rootM node z (List.map lf x)))) rfl (f94 hE) (f96 hE) (rfl) (hK _ _ (NewT.refl _) rfl)
                  · intro a wx hT hF K hK
                    obtain ⟨f93, f97, _⟩ := hF
                    have f93 : a.tmps.getD 93 undef = .bool (!(okP ((m : Int)) ((List.length (x) : Int)) (List.length (q)))) := f93
                    have f97 : ((!(!(okP ((m : Int)) ((List.length (x) : Int)) (List.length (q)))))) = true → a.tmps.getD 97 undef = .bool (!(eqH (comesM node (fun _ => 0) (lf (o)) ((m : Int)) ((List.length (x) : Int)) (q)) (rootM node z (List.map lf x)))) := f97
                    refine rely_wp rfl ?_
                    exact opr_pick_b rfl f93 (fun hb => hK _ _ (NewT.refl _) (pn_or1 Q1_15 hb)) (fun hb => hK _ _ (NewT.refl _) (pn_or0 Q1_15 (f97 (bnot hb)) hb))
                  · intro a wx hT hF K hK
                    obtain ⟨f98, _⟩ := hF
                    have f98 : a.tmps.getD 98 undef = .bool (q1_15) := f98
                    refine rely_wp rfl ?_
                    exact opr_move (.inl rfl) (hK _ _ (NewT.refl _) f98)
                  · intro a wx hT hF K hK
                    obtain ⟨f0, f99, _⟩ := hF
                    have f0 : a.tmps.getD 0 undef = va := f0
                    have f99 : a.tmps.getD 99 undef = .bool (q1_15) := f99
                    refine rely_if (rely_gf f99) (NewT.refl _) hK (fun hE hK => ?_)
                    exact opr_move (.inl rfl) (hK _ _ (NewT.refl _) f0)
                  · intro a wx hT hF K hK
                    obtain ⟨f1, f99, _⟩ := hF
                    have f1 : a.tmps.getD 1 undef = .int .i64 ((m : Int)) := f1
                    have f99 : a.tmps.getD 99 undef = .bool (q1_15) := f99
                    refine rely_if (rely_gf f99) (NewT.refl _) hK (fun hE hK => ?_)
                    exact opr_move (.inl rfl) (hK _ _ (NewT.refl _) f1)
                  · intro a wx hT hF K hK
                    obtain ⟨f100, f101, f99, _⟩ := hF
                    have f100 : ((!q1_15)) = true → a.tmps.getD 100 undef = va := f100
                    have f101 : ((!q1_15)) = true → a.tmps.getD 101 undef = .int .i64 ((m : Int)) := f101
                    have f99 : a.tmps.getD 99 undef = .bool (q1_15) := f99
                    refine rely_if (rely_gf f99) (NewT.refl _) hK (fun hE hK => ?_)
                    exact opr_idxT (i := m) (l := s) (HX.out) (rfl) rfl (by rw [eval_tmp, (f100 hE)]; exact (hT.partsL HA.out)) (f101 hE) (fun v hv => hK v _ (NewT.refl _) hv)
                  · intro a wx hT hF K hK
                    obtain ⟨f102, f99, _⟩ := hF
                    replace f102 := show ((!q1_15)) = true → (svPT (s)).pred (a.tmps.getD 102 undef) wx from f102
                    have f99 : a.tmps.getD 99 undef = .bool (q1_15) := f99
                    refine rely_if (rely_gf f99) (NewT.refl _) hK (fun hE hK => ?_)
                    exact opr_ldT rfl (f102 hE) (fun u hu => hK u _ (NewT.refl _) hu)
                  · intro a wx hT hF K hK
                    obtain ⟨f2, f99, _⟩ := hF
                    have f2 : a.tmps.getD 2 undef = vo := f2
                    have f99 : a.tmps.getD 99 undef = .bool (q1_15) := f99
                    refine rely_if (rely_gf f99) (NewT.refl _) hK (fun hE hK => ?_)
                    exact opr_move (.inl rfl) (hK _ _ (NewT.refl _) f2)
                  · intro a wx hT hF K hK
                    obtain ⟨f103, f104, f99, _⟩ := hF
                    replace f103 := show ((!q1_15)) = true → (svRd (s)).pred (a.tmps.getD 103 undef) wx from f103
                    have f104 : ((!q1_15)) = true → a.tmps.getD 104 undef = vo := f104
                    have f99 : a.tmps.getD 99 undef = .bool (q1_15) := f99
                    refine rely_if (rely_gf f99) (NewT.refl _) hK (fun hE hK => ?_)
                    exact opr_cv (Bytes_cv _ _ s o wx (f103 hE) (hT.rd HB.out) (by have := HON.out; have := HSN.out; omega) (by have := HON.out; have := HSN.out; omega)) rfl Tryd.func13 (by kernel_rfl) (by kernel_rfl) (by simp only [List.map_toArray, List.map_cons, List.map_nil, eval_tmp, (f104 hE)]) hK
                  · intro a wx hT hF K hK
                    obtain ⟨f99, f105, _⟩ := hF
                    have f99 : a.tmps.getD 99 undef = .bool (q1_15) := f99
                    have f105 : ((!q1_15)) = true → a.tmps.getD 105 undef = .bool (decide (s = o)) := f105
                    refine rely_wp rfl ?_
                    exact opr_pick_b rfl f99 (fun hb => hK _ _ (NewT.refl _) (pk_or1 hb)) (fun hb => hK _ _ (NewT.refl _) (pk_or0 (f105 (bnot hb)) hb))
                  · intro w8 k8
                    intro u h; obtain rfl := Eq.symm (h (by simp)); clear h
                    intro u h; obtain rfl := Eq.symm (h (by simp)); clear h
                    intro u h; obtain rfl := Eq.symm (h (by simp)); clear h
                    intro _ _
                    intro _ _
                    intro _ _
                    intro _ _
                    intro u h; obtain rfl := Eq.symm (h (by simp)); clear h
                    intro u h; obtain rfl := Eq.symm (h (by simp)); clear h
                    intro _ _
                    intro _ _
                    intro _ _
                    intro _ _
                    intro _ _
                    intro _ _
                    intro u h; obtain rfl := Eq.symm (h (by simp)); clear h
                    subst Q1_15
                    refine relyEnd_nil rfl ?_
                    simp only [Act.put, List.setIfInBounds_toArray, List.set_cons_zero, List.set_cons_succ]
                    rw [HFIN.out]
                    refine opr_move (.inr rfl) ?_
                    go_simp
                    go_wp2
                    go_ret
                    exact ⟨rfl, (NewT.trans _ _ _ HN.out k8).out⟩
end Go.Proofs.YtlnedphnphabkaaDoor
