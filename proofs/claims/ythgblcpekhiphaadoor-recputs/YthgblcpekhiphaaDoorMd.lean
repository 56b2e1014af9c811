/- A region that draws its order, some of whose operations turn a state one behind the other (each waits for the one ahead): beside the conditions of single operations a statement on the world for each phase. No program is named here. -/
import Derived.Test.YthgblcpekhiphaaDoorMc
import Derived.Test.YthgblcpekhiphaaDoorMb
set_option linter.all false
namespace Go.Proofs.YthgblcpekhiphaaDoor
open Go Go.RowKit
set_option maxRecDepth 8000

/-- One operation: it turns phase k into the next one (some k), or keeps whatever phase there is (none). -/
def relyStepP (P : Program) (Q : Exit → Act → World → Prop) (T : World → World → Prop) (V : List (SV T)) (J : Nat → World → Prop) (a0 : Act) (w0 : World) (o : Oper) (dp : List (Tmp × Option Nat)) (g : Option (Tmp × Bool)) (c : SV T) : Option Nat → Prop
  | none => ∀ (a : Act) (w : World), T w0 w → relyFacts V a0 a w dp → ∀ K : Act → World → Prop, (∀ v w', T w w' → (∀ k, J k w → J k w') → c.pred v w' → K (a.put o.dst v) w') →
    if relyGuard g a then o.wp P a w K Q else K (a.put o.dst undef) w
  | some k => ∀ (a : Act) (w : World), T w0 w → relyFacts V a0 a w dp → J k w → ∀ K : Act → World → Prop, (∀ v w', T w w' → J (k + 1) w' → c.pred v w' → K (a.put o.dst v) w') →
    if relyGuard g a then o.wp P a w K Q else K (a.put o.dst undef) w
def relyAllP (P : Program) (Q : Exit → Act → World → Prop) (T : World → World → Prop) (V : List (SV T)) (J : Nat → World → Prop) (a0 : Act) (w0 : World) : List Oper → Deps → List (SV T) → List (Option Nat) → Prop
  | [], _, _, _ => True
  | o :: r, (dp, g) :: D, c :: C, s :: S => relyStepP P Q T V J a0 w0 o dp g c s ∧ relyAllP P Q T V J a0 w0 r D C S
  | _, _, _, _ => False
/-- Each of the path's operations waits for the one ahead. -/
def pathB (ops : Array Oper) : List Nat → Bool
  | i :: j :: r => Region.waitsFor .any ops j i && pathB ops (j :: r)
  | _ => true
def placesB (path : List Nat) (S : List (Option Nat)) : Bool := decide path.Nodup && (List.range S.length).all fun i => S.getD i none == path.findIdx? (· == i)
section
variable {P : Program} {ops : Array Oper} {Q : Exit → Act → World → Prop} {T : World → World → Prop} {V : List (SV T)} {J : Nat → World → Prop} {a0 : Act} {w0 : World} {n : Nat} {D : Deps} {S : List (Option Nat)} {path : List Nat} {init : List Oper} {last : Oper}
theorem pathB_at : ∀ (path : List Nat) (j i i' : Nat), pathB ops path = true → path[j]? = some i → path[j + 1]? = some i' → Region.waitsFor .any ops i' i = true
  | [], _, _, _, _, h, _ => by simp at h
  | [x], j, _, _, _, _, h => by simp at h
  | x :: y :: r, 0, i, i', h, h1, h2 => by
    simp only [pathB, Bool.and_eq_true] at h
    simp at h1 h2
    subst h1 h2
    exact h.1
  | x :: y :: r, j + 1, i, i', h, h1, h2 => by
    simp only [pathB, Bool.and_eq_true] at h
    exact pathB_at (y :: r) j i i' h.2 (by simpa using h1) (by simpa using h2)
theorem relyAllP_at : ∀ (l : List Oper) (D : Deps) (C : List (SV T)) (S : List (Option Nat)) (k : Nat) (o : Oper) dp g, relyAllP P Q T V J a0 w0 l D C S → l[k]? = some o → D[k]? = some (dp, g) → relyStepP P Q T V J a0 w0 o dp g (C.getD k SV.any) (S.getD k none)
  | [], _, _, _, _, _, _, _, _, h, _ => by simp at h
  | x :: r, [], _, _, _, _, _, _, h, _, _ => h.elim
  | x :: r, y :: D, [], _, _, _, _, _, h, _, _ => h.elim
  | x :: r, y :: D, c :: C, [], _, _, _, _, h, _, _ => h.elim
  | x :: r, (dp, g) :: D, c :: C, s :: S, 0, o, dp', g', h, ho, hD => by
    simp at ho hD
    obtain ⟨rfl, rfl⟩ := hD
    subst ho
    exact h.1
  | x :: r, (dp, g) :: D, c :: C, s :: S, k + 1, o, dp', g', h, ho, hD => by
    have := relyAllP_at r D C S k o dp' g' h.2 (by simpa using ho) (by simpa using hD)
    simpa using this
/-- So many of the path's operations have come up. -/
structure PhInv (path : List Nat) (J : Nat → World → Prop) (listed : Array Bool) (w : World) (k : Nat) : Prop where
  le : k ≤ path.length
  done : ∀ j i, j < k → path[j]? = some i → listed.getD i false = true
  left : ∀ j i, k ≤ j → path[j]? = some i → listed.getD i false = false
  now : J k w
theorem ph_other {listed : Array Bool} {w w' : World} {k i : Nat} (h : PhInv path J listed w k) (hi : i ∉ path) (hJ : J k w') : PhInv path J (listed.setIfInBounds i true) w' k := by
  have hne : ∀ (j x : Nat), path[j]? = some x → i ≠ x := fun j x hx e => hi (e ▸ List.mem_of_getElem? hx)
  exact ⟨h.le, fun j x hj hx => by rw [getD_set_ne false (hne j x hx)]; exact h.done j x hj hx, fun j x hj hx => by rw [getD_set_ne false (hne j x hx)]; exact h.left j x hj hx, hJ⟩
theorem ph_own (hnd : path.Nodup) {listed : Array Bool} {w w' : World} {k i : Nat} (hlt : i < listed.size) (h : PhInv path J listed w k) (hi : path[k]? = some i) (hJ : J (k + 1) w') : PhInv path J (listed.setIfInBounds i true) w' (k + 1) := by
  have hk : k < path.length := (List.getElem?_eq_some_iff.1 hi).1
  have hinj : ∀ (j x : Nat), path[j]? = some x → j ≠ k → i ≠ x := fun j x hx hjk e => by
    subst e
    obtain ⟨h1, h2⟩ := List.getElem?_eq_some_iff.1 hx
    obtain ⟨h3, h4⟩ := List.getElem?_eq_some_iff.1 hi
    exact hjk ((List.getElem_inj hnd).1 (h2.trans h4.symm))
  refine ⟨hk, fun j x hj hx => ?_, fun j x hj hx => ?_, hJ⟩
  · by_cases e : j = k
    · subst e
      rw [hi] at hx
      cases hx
      simp [hlt]
    · rw [getD_set_ne false (hinj j x hx e)]; exact h.done j x (by omega) hx
  · rw [getD_set_ne false (hinj j x hx (by omega))]; exact h.left j x (by omega) hx
theorem wpAny_relyP (hsplit : ops.toList = init ++ [last]) (hn : a0.tmps.size = n) (hB : relyB ops n 0 init D = true) (hlast : lastB ops last init.length = true) (hg : last.guard = none) (ht : ∀ a b c : World, T a b → T b c → T a c)
    (hpath : pathB ops path = true) (hplace : placesB path S = true) (hSl : S.length = init.length) (hpl : ∀ i ∈ path, i < init.length)
    (hl : init.length ≤ V.length) (hA : relyAllP P Q T V J a0 w0 init D V S) (hE : ∀ w, T w0 w → J path.length w → relyEnd (fun _ a w => last.wp P a w (fun a' w' => Q .normal a' w') Q) T init V a0 w) :
    ∀ (fuel : Nat) (listed : Array Bool) (a : Act) (w : World) (k : Nat), (unl ops listed).length = fuel → listed.getD init.length true = false → RelyInv ops T V a0 w0 listed a w → PhInv path J listed w k → wpAny P .any ops Q fuel listed a w := by
  obtain ⟨hlo, hsz, hpre⟩ := last_at hsplit
  simp only [lastB, Bool.and_eq_true] at hlast
  simp only [placesB, Bool.and_eq_true, decide_eq_true_eq] at hplace
  obtain ⟨hnd, hpos⟩ := hplace
  have hS : ∀ i, i < init.length → S.getD i none = path.findIdx? (· == i) := fun i hi => by
    have := List.all_eq_true.1 hpos i (List.mem_range.2 (by omega))
    simpa using this
  have hat : ∀ i o, init[i]? = some o → ∃ dp g, relyOne ops n i o dp g = true ∧ relyStepP P Q T V J a0 w0 o dp g (V.getD i SV.any) (path.findIdx? (· == i)) := fun i o hi => by
    obtain ⟨dp, g, hD, h1⟩ := relyB_at init D 0 i o hB hi
    rw [Nat.zero_add] at h1
    refine ⟨dp, g, h1, ?_⟩
    rw [← hS i (List.getElem?_eq_some_iff.1 hi).1]
    exact relyAllP_at _ _ _ _ i o dp g hA hi hD
  intro fuel
  induction fuel with
  | zero =>
    intro listed a w k hu hun inv _
    have : init.length ∈ unl ops listed := by
      unfold unl; rw [List.mem_filter]; exact ⟨List.mem_range.2 (by omega), by rw [hun]; rfl⟩
    rw [List.eq_nil_of_length_eq_zero hu] at this
    cases this
  | succ fuel ih =>
    intro listed a w k hu hun inv ph
    refine ⟨fun hr => ?_, fun i hi => ?_⟩
    · exfalso
      have all : ∀ i, i < init.length → listed.getD i false = true := fun i => by
        induction i using Nat.strongRecOn with
        | _ i ih =>
          intro hi
          cases hli : listed.getD i false with
          | true => rfl
          | false =>
            exfalso
            have hmem : i ∈ Region.ready .any ops listed := by
              rw [mem_ready]
              refine ⟨getD_in (by rw [inv.size]; omega) hli, init[i], hpre i _ (List.getElem?_eq_getElem hi), fun e he hb => ?_⟩
              obtain ⟨dp, g, h1, _⟩ := hat i init[i] (List.getElem?_eq_getElem hi)
              simp only [relyOne, Bool.and_eq_true] at h1
              have h2 := (Array.all_eq_true_iff_forall_mem.1 h1.1.1.2) e he
              simp only [hb, Bool.not_true, Bool.false_or, decide_eq_true_eq] at h2
              exact ih e.on h2 (by omega)
            rw [hr] at hmem
            cases hmem
      have hmem : init.length ∈ Region.ready .any ops listed := by
        rw [mem_ready]
        refine ⟨hun, last, hlo, fun e he hb => ?_⟩
        have h2 := (Array.all_eq_true_iff_forall_mem.1 hlast.2) e he
        simp only [hb, Bool.not_true, Bool.false_or, decide_eq_true_eq] at h2
        exact all e.on h2
      rw [hr] at hmem
      cases hmem
    · obtain ⟨h0, o, ho, hall⟩ := mem_ready.1 hi
      have hilt := (Array.getElem?_eq_some_iff.1 ho).1
      by_cases him : i = init.length
      · subst him
        have hol : o = last := Option.some.inj (ho.symm.trans hlo)
        subst hol
        have hdone : ∀ (d j : Nat), init.length - j = d → j < init.length → listed.getD j false = true := fun d => by
          induction d using Nat.strongRecOn with
          | _ d ihd =>
            intro j hd hj
            have h1 := List.all_eq_true.1 hlast.1 j (List.mem_range.2 hj)
            obtain ⟨t, ht1, ht2⟩ := List.any_eq_true.1 h1
            simp only [Bool.and_eq_true, decide_eq_true_eq] at ht2
            obtain ⟨ot, hot, e, he, hb, hon⟩ := Region.waitsFor_spec ht2.2
            have htle : t ≤ init.length := by have := List.mem_range.1 ht1; omega
            rw [← hon]
            by_cases htm : t = init.length
            · subst htm
              have : ot = o := Option.some.inj (hot.symm.trans ho)
              subst this
              exact hall e he hb
            · exact inv.closed t ot hot (ihd (init.length - t) (by omega) t rfl (by omega)) e he hb
        replace hdone : ∀ j, j < init.length → listed.getD j false = true := fun j hj => hdone _ j rfl hj
        have hk : k = path.length := by
          rcases Nat.lt_or_ge k path.length with h | h
          · exfalso
            have h1 := ph.left k path[k] (Nat.le_refl _) (List.getElem?_eq_getElem h)
            rw [hdone _ (hpl _ (List.getElem_mem h))] at h1
            cases h1
          · have := ph.le; omega
        subst hk
        have hJ := ph.now
        have h1 : o.wp P a w (fun a' w' => Q .normal a' w') Q := rely_all (Q' := fun a w => o.wp P a w (fun a' w' => Q .normal a' w') Q) inv
          (fun k o hk => ⟨hpre k o hk, hdone k (List.getElem?_eq_some_iff.1 hk).1⟩) (fun j hj => by
            rcases Nat.lt_or_ge j init.length with h | h
            · exact h
            · rcases Nat.eq_or_lt_of_le h with h | h
              · subst h; rw [getD_both hun] at hj; cases hj
              · have : listed.getD j false = false := by simp [Array.getElem?_eq_none (show listed.size ≤ j by rw [inv.size]; omega)]
                rw [this] at hj; cases hj) hl (hE w inv.now hJ)
        have hK : ∀ a' w', Q .normal a' w' → wpAny P .any ops Q fuel (listed.setIfInBounds init.length true) a' w' := fun a' w' h => wpAny_done (ready_none fun j hj => by
          by_cases hj2 : j = init.length
          · subst hj2; simp [show init.length < listed.size by rw [inv.size]; exact hj]
          · exact getD_set_true (hdone j (by omega))) h _
        unfold wpOp
        simp only [hlo, Region.wanted, hg, if_true]
        exact .inl (Oper.wp_mono hK h1)
      · have hi' : i < init.length := by omega
        have hio : init[i]? = some o := by
          have := hpre i init[i] (List.getElem?_eq_getElem hi')
          rw [ho] at this
          rw [List.getElem?_eq_getElem hi', Option.some.inj this]
        obtain ⟨dp, g, h1, hstep⟩ := hat i o hio
        obtain ⟨hfacts, hguard, next⟩ := rely_next hn ht ho h1 h0 hall inv
        have i0 : listed.getD i false = false := getD_both h0
        have hs : if relyGuard g a then o.wp P a w (fun a' w' => wpAny P .any ops Q fuel (listed.setIfInBounds i true) a' w') Q else wpAny P .any ops Q fuel (listed.setIfInBounds i true) (a.put o.dst undef) w := by
          cases hf : path.findIdx? (· == i) with
          | none =>
            rw [hf] at hstep
            have hni : i ∉ path := fun hm => by
              rw [List.findIdx?_eq_none_iff] at hf
              have := hf i hm
              simp at this
            exact hstep a w inv.now hfacts (fun a' w' => wpAny P .any ops Q fuel (listed.setIfInBounds i true) a' w') (fun v w' hT hJ hv => ih _ _ w' k (by have := unl_set inv.size h0; omega) (by rw [getD_set_ne true him]; exact hun) (next v w' hT hv) (ph_other ph hni (hJ k ph.now)))
          | some j =>
            rw [hf] at hstep
            have hpj : path[j]? = some i := by
              obtain ⟨h1, h2, _⟩ := List.findIdx?_eq_some_iff_getElem.1 hf
              rw [List.getElem?_eq_getElem h1]
              simpa using h2
            have hkj : k = j := by
              rcases Nat.lt_trichotomy j k with h | h | h
              · have := ph.done j i h hpj
                rw [i0] at this; cases this
              · exact h.symm
              · exfalso
                obtain ⟨j', rfl⟩ : ∃ j', j = j' + 1 := ⟨j - 1, by omega⟩
                have hlj : j' < path.length := by have := (List.getElem?_eq_some_iff.1 hpj).1; omega
                have hw := pathB_at path j' path[j'] i hpath (List.getElem?_eq_getElem hlj) hpj
                obtain ⟨oi, hoi, e, he, hb, hon⟩ := Region.waitsFor_spec hw
                have : oi = o := Option.some.inj (hoi.symm.trans ho)
                subst this
                have h2 := hall e he hb
                rw [hon, ph.left j' _ (by omega) (List.getElem?_eq_getElem hlj)] at h2
                cases h2
            subst hkj
            exact hstep a w inv.now hfacts ph.now (fun a' w' => wpAny P .any ops Q fuel (listed.setIfInBounds i true) a' w') (fun v w' hT hJ hv => ih _ _ w' (k + 1) (by have := unl_set inv.size h0; omega) (by rw [getD_set_ne true him]; exact hun) (next v w' hT hv) (ph_own hnd (by rw [inv.size]; exact hilt) ph hpj hJ))
        unfold wpOp
        simp only [ho, hguard]
        split
        · rename_i hw; rw [if_pos hw] at hs; exact .inl hs
        · rename_i hw; rw [if_neg hw] at hs; exact hs
/-- **A region that draws its order and turns a state step by step.** -/
theorem wp_region_relyP {id : Nat} (T : World → World → Prop) (J : Nat → World → Prop) (V : List (SV T)) (D : Deps) (S : List (Option Nat)) (path : List Nat) (n : Nat) (hla : ops.toList.getLast? = some last) (hm : P.follows .mixedOrders = true) (hn : a0.tmps.size = n) (hB : relyB ops n 0 ops.toList.dropLast D = true)
    (hlast : lastB ops last ops.toList.dropLast.length = true) (hg : last.guard = none) (hpath : (pathB ops path && placesB path S && decide (S.length = ops.toList.dropLast.length) && path.all fun i => decide (i < ops.toList.dropLast.length)) = true)
    (ht : ∀ a b c : World, T a b → T b c → T a c) (hd : T w0 w0.drew) (hJ : J 0 w0.drew) (hl : ops.toList.dropLast.length ≤ V.length)
    (hA : relyAllP P Q T V J a0 w0 ops.toList.dropLast D V S) (hE : ∀ w, T w0 w → J path.length w → relyEnd (fun _ a w => last.wp P a w (fun a' w' => Q .normal a' w') Q) T ops.toList.dropLast V a0 w) : (Code.region id ops true).wp P Q a0 w0 := by
  have hsplit := split_last hla
  obtain ⟨_, hsz, _⟩ := last_at hsplit
  simp only [Bool.and_eq_true, decide_eq_true_eq] at hpath
  obtain ⟨⟨⟨h1, h2⟩, h3⟩, h4⟩ := hpath
  refine wp_region_any hm ?_
  exact wpAny_relyP hsplit hn hB hlast hg ht h1 h2 h3 (fun i hi => by simpa using List.all_eq_true.1 h4 i hi) hl hA hE ops.size _ a0 w0.drew 0 unl_start (by
    have hlt : ops.toList.dropLast.length < ops.size := by omega
    generalize ops.toList.dropLast.length = m at hlt
    simp [hlt]) (rely_start hd) ⟨Nat.zero_le _, fun j i hj => by omega, fun j i _ _ => getD_replicate_false .., hJ⟩
end
end Go.Proofs.YthgblcpekhiphaaDoor
/- Package rec: only. -/
namespace Go.Proofs.YthgblcpekhiphaaDoor
open Go Go.RowKit
set_option maxRecDepth 8000
set_option maxHeartbeats 8000000 in
theorem only_cv (v : Value) (x : Rc) (w : World) (h : RecV w v x) : Cv 29 #[v] w (svRec (onlyR x)) := by
  obtain ⟨sv, dv, rfl, hs, hd⟩ := h
  unfold Cv
  have oneS := oneP hs
  have oneD := oneR hd
  go_enter Tryd.func29, Tryd.ntmps29
  go_upto_region 1 with fail
  have r1 := (rowIs_box w 27 109 (recF x sv dv)).alloc (.cells (rowA 109 (recF zR (.slice none 0 0) (.slice none 0 0))) 27)
  have r2 := rowIs_box (w.alloc (.cells (rowA 109 (recF x sv dv)) 27)) 27 109 (recF zR (.slice none 0 0) (.slice none 0 0))
  have hN : NewT w ((w.alloc (.cells (rowA 109 (recF x sv dv)) 27)).alloc (.cells (rowA 109 (recF zR (.slice none 0 0) (.slice none 0 0))) 27)) := NewT.trans _ _ _ (NewT.alloc _ _) (NewT.alloc _ _)
  rw [World.size_alloc] at r2
  change Code.wp _ _ _ _ ((w.alloc (.cells (rowA 109 (recF x sv dv)) 27)).alloc (.cells (rowA 109 (recF zR (.slice none 0 0) (.slice none 0 0))) 27))
  generalize hW0 : (w.alloc (.cells (rowA 109 (recF x sv dv)) 27)).alloc (.cells (rowA 109 (recF zR (.slice none 0 0) (.slice none 0 0))) 27) = W0 at r1 r2 hN ⊢
  have R1 := Lib.hid r1
  have hsz : W0.heap.size = w.heap.size + 2 := by rw [← hW0]; simp
  clear hW0
  refine wp_region_steps0 NewT [SV.eq (.pointer (some ⟨w.heap.size, 0, none⟩)), SV.eq (.int .i64 (x.kind)), SV.eq (.agg (rowA 109 (recF ({ zR with kind := x.kind }) (.slice none 0 0) (.slice none 0 0))))] [([(1, none)], none), ([(4, some 0)], none), ([(5, some 1)], none)] 83 3 rfl rfl (by kernel_rfl) NewT.trans (NewT.refl _) (Nat.le_of_ble_eq_true rfl) ⟨?_, ?_, ?_, trivial⟩ ?_
  · intro a wx hT hF K hK
    obtain ⟨f1, _⟩ := hF
    have f1 : a.tmps.getD 1 undef = .pointer (some ⟨w.heap.size, 0, none⟩) := f1
    refine rely_wp rfl ?_
    exact opr_fldR (by decide) rfl f1 (hK _ _ (NewT.refl _) rfl)
  · intro a wx hT hF K hK
    obtain ⟨f4, _⟩ := hF
    have f4 : a.tmps.getD 4 undef = .pointer (some ⟨w.heap.size, 0, none⟩) := f4
    refine rely_wp rfl ?_
    exact opr_ldI (hT.row R1.out) (by decide) rfl rfl f4 (hK _ _ (NewT.refl _) rfl)
  · intro a wx hT hF K hK
    obtain ⟨f5, _⟩ := hF
    have f5 : a.tmps.getD 5 undef = .int .i64 (x.kind) := f5
    refine rely_wp rfl ?_
    exact opr_build rfl (by simp only [List.map_toArray, List.map_cons, List.map_nil, eval_tmp, f5]) (build_kind x.kind wx) (hK _ _ (NewT.refl _) rfl)
  · intro wa ha
    intro u h; obtain rfl := Eq.symm (h (by simp)); clear h
    intro u h; obtain rfl := Eq.symm (h (by simp)); clear h
    intro u h; obtain rfl := Eq.symm (h (by simp)); clear h
    refine relyEnd_nil rfl ?_
    simp only [Act.put, List.setIfInBounds_toArray, List.set_cons_zero, List.set_cons_succ]
    refine wpList_new (n := 109) rfl rfl rfl rfl rfl rfl (by simp) run_alloc_rec info_rec (recF_one _ _ _ rfl rfl) rfl ?_
    intro w1 hn1 r3
    refine wpList_end rfl ?_
    simp only [Act.put, List.setIfInBounds_toArray, List.set_cons_zero, List.set_cons_succ]
    go_simp
    have X1 := Lib.hid (hn1.row (ha.row r1))
    have X2 := Lib.hid (hn1.row (ha.row r2))
    have HN := Lib.hid (NewT.trans _ _ _ hN (NewT.trans _ _ _ ha hn1))
    have hR : w.heap.size + 2 ≤ wa.heap.size := by have := ha.out.size; omega
    have hRl : wa.heap.size < w1.heap.size := r3.lt
    have X3 := Lib.hid r3
    clear R1 r1 r2 r3 hN ha hn1 hsz
    generalize wa.heap.size = R at X3 hR hRl ⊢
    have hne1 : w.heap.size ≠ R := by omega
    have hne2 : w.heap.size + 1 ≠ R := by omega
    have c0 : w1.cell? ⟨w.heap.size, 0, none⟩ = some (.int .i64 x.kind) := X1.out.cell (by omega)
    by_cases hk : x.kind = 1
    · rw [hk] at c0
      go_upto_region 9 with fail
      clear c0
      refine wp_region_relyP (RT R) (fun k w => w.rowIs R 27 109 ((fun k => ([recF ({ zR with kind := x.kind }) (.slice none 0 0) (.slice none 0 0), recF ({ zR with kind := x.kind, saga := x.saga }) (.slice none 0 0) (.slice none 0 0)] : List (Nat → Value)).getD k (recF ({ zR with kind := x.kind, saga := x.saga }) (sv) (.slice none 0 0))) k)) [SV.eq (.pointer (some ⟨w.heap.size, 1, none⟩)), SV.eq (.int .i64 (x.saga)), SV.eq (.pointer (some ⟨w.heap.size, 42, none⟩)), SV.eq (sv), SV.eq (.pointer (some ⟨w.heap.size, 76, none⟩)), SV.eq (.bool (x.gone)), SV.eq (.pointer (some ⟨R, 1, none⟩)), SV.any, SV.eq (.pointer (some ⟨R, 42, none⟩)), SV.any, SV.eq (.pointer (some ⟨R, 76, none⟩))] [([(1, none)], none), ([(20, some 0)], none), ([(1, none)], none), ([(22, some 2)], none), ([(1, none)], none), ([(24, some 4)], none), ([(3, none)], none), ([(26, some 6), (21, some 1)], none), ([(3, none)], none), ([(27, some 8), (23, some 3)], none), ([(3, none)], none)] [none, none, none, none, none, none, none, some 0, none, some 1, none] [7, 9] 83 rfl (by kernel_rfl) rfl (by kernel_rfl) (by kernel_rfl) rfl (by kernel_rfl) RT.trans (RT.drew _ _) ((NewT.drew _).row X3.out) (Nat.le_of_ble_eq_true rfl) ⟨?_, ?_, ?_, ?_, ?_, ?_, ?_, ?_, ?_, ?_, ?_, trivial⟩ ?_
      · intro a wx hT hF K hK
        replace hK := fun v w' (hN : NewT wx w') hv => hK v w' (RT.new (Nat.lt_of_lt_of_le hRl hT.size) hN) (fun k h => hN.row h) hv
        obtain ⟨f1, _⟩ := hF
        have f1 : a.tmps.getD 1 undef = .pointer (some ⟨w.heap.size, 0, none⟩) := f1
        refine rely_wp rfl ?_
        exact opr_fldR (by decide) rfl f1 (hK _ _ (NewT.refl _) rfl)
      · intro a wx hT hF K hK
        replace hK := fun v w' (hN : NewT wx w') hv => hK v w' (RT.new (Nat.lt_of_lt_of_le hRl hT.size) hN) (fun k h => hN.row h) hv
        obtain ⟨f20, _⟩ := hF
        have f20 : a.tmps.getD 20 undef = .pointer (some ⟨w.heap.size, 1, none⟩) := f20
        refine rely_wp rfl ?_
        exact opr_ldI (hT.row hne1 X1.out) (by decide) rfl rfl f20 (hK _ _ (NewT.refl _) rfl)
      · intro a wx hT hF K hK
        replace hK := fun v w' (hN : NewT wx w') hv => hK v w' (RT.new (Nat.lt_of_lt_of_le hRl hT.size) hN) (fun k h => hN.row h) hv
        obtain ⟨f1, _⟩ := hF
        have f1 : a.tmps.getD 1 undef = .pointer (some ⟨w.heap.size, 0, none⟩) := f1
        refine rely_wp rfl ?_
        exact opr_fldR (by decide) rfl f1 (hK _ _ (NewT.refl _) rfl)
      · intro a wx hT hF K hK
        replace hK := fun v w' (hN : NewT wx w') hv => hK v w' (RT.new (Nat.lt_of_lt_of_le hRl hT.size) hN) (fun k h => hN.row h) hv
        obtain ⟨f22, _⟩ := hF
        have f22 : a.tmps.getD 22 undef = .pointer (some ⟨w.heap.size, 42, none⟩) := f22
        refine rely_wp rfl ?_
        exact opr_ldS (hT.row hne1 X1.out) (by decide) rfl rfl f22 (hK _ _ (NewT.refl _) rfl)
      · intro a wx hT hF K hK
        replace hK := fun v w' (hN : NewT wx w') hv => hK v w' (RT.new (Nat.lt_of_lt_of_le hRl hT.size) hN) (fun k h => hN.row h) hv
        obtain ⟨f1, _⟩ := hF
        have f1 : a.tmps.getD 1 undef = .pointer (some ⟨w.heap.size, 0, none⟩) := f1
        refine rely_wp rfl ?_
        exact opr_fldR (by decide) rfl f1 (hK _ _ (NewT.refl _) rfl)
      · intro a wx hT hF K hK
        replace hK := fun v w' (hN : NewT wx w') hv => hK v w' (RT.new (Nat.lt_of_lt_of_le hRl hT.size) hN) (fun k h => hN.row h) hv
        obtain ⟨f24, _⟩ := hF
        have f24 : a.tmps.getD 24 undef = .pointer (some ⟨w.heap.size, 76, none⟩) := f24
        refine rely_wp rfl ?_
        exact opr_ldQ (hT.row hne1 X1.out) (by decide) rfl rfl f24 (hK _ _ (NewT.refl _) rfl)
      · intro a wx hT hF K hK
        replace hK := fun v w' (hN : NewT wx w') hv => hK v w' (RT.new (Nat.lt_of_lt_of_le hRl hT.size) hN) (fun k h => hN.row h) hv
        obtain ⟨f3, _⟩ := hF
        have f3 : a.tmps.getD 3 undef = .pointer (some ⟨R, 0, none⟩) := f3
        refine rely_wp rfl ?_
        exact opr_fldR (by decide) rfl f3 (hK _ _ (NewT.refl _) rfl)
      · intro a wx hT hF hJ K hK
        obtain ⟨f26, f21, _⟩ := hF
        have f26 : a.tmps.getD 26 undef = .pointer (some ⟨R, 1, none⟩) := f26
        have f21 : a.tmps.getD 21 undef = .int .i64 (x.saga) := f21
        refine rely_wp rfl ?_
        refine opr_put1 rfl f26 f21 (show wx.rowIs R 27 109 (recF ({ zR with kind := x.kind }) (.slice none 0 0) (.slice none 0 0)) from hJ) (by decide) info_i1 rfl (fun i _ => rs_saga ({ zR with kind := x.kind }) (.slice none 0 0) (.slice none 0 0) i _) ?_
        intro w' hT' hr'
        exact hK _ _ hT' hr' trivial
      · intro a wx hT hF K hK
        replace hK := fun v w' (hN : NewT wx w') hv => hK v w' (RT.new (Nat.lt_of_lt_of_le hRl hT.size) hN) (fun k h => hN.row h) hv
        obtain ⟨f3, _⟩ := hF
        have f3 : a.tmps.getD 3 undef = .pointer (some ⟨R, 0, none⟩) := f3
        refine rely_wp rfl ?_
        exact opr_fldR (by decide) rfl f3 (hK _ _ (NewT.refl _) rfl)
      · intro a wx hT hF hJ K hK
        obtain ⟨f27, f23, _⟩ := hF
        have f27 : a.tmps.getD 27 undef = .pointer (some ⟨R, 42, none⟩) := f27
        have f23 : a.tmps.getD 23 undef = sv := f23
        refine rely_wp rfl ?_
        refine opr_put1 rfl f27 f23 (show wx.rowIs R 27 109 (recF ({ zR with kind := x.kind, saga := x.saga }) (.slice none 0 0) (.slice none 0 0)) from hJ) (by decide) info_s1 oneS (fun i _ => rs_steps ({ zR with kind := x.kind, saga := x.saga }) (.slice none 0 0) (.slice none 0 0) i _) ?_
        intro w' hT' hr'
        exact hK _ _ hT' hr' trivial
      · intro a wx hT hF K hK
        replace hK := fun v w' (hN : NewT wx w') hv => hK v w' (RT.new (Nat.lt_of_lt_of_le hRl hT.size) hN) (fun k h => hN.row h) hv
        obtain ⟨f3, _⟩ := hF
        have f3 : a.tmps.getD 3 undef = .pointer (some ⟨R, 0, none⟩) := f3
        refine rely_wp rfl ?_
        exact opr_fldR (by decide) rfl f3 (hK _ _ (NewT.refl _) rfl)
      · intro e1 h1 hJ
        intro u h; obtain rfl := Eq.symm (h (by simp)); clear h
        intro u h; obtain rfl := Eq.symm (h (by simp)); clear h
        intro u h; obtain rfl := Eq.symm (h (by simp)); clear h
        intro u h; obtain rfl := Eq.symm (h (by simp)); clear h
        intro u h; obtain rfl := Eq.symm (h (by simp)); clear h
        intro u h; obtain rfl := Eq.symm (h (by simp)); clear h
        intro u h; obtain rfl := Eq.symm (h (by simp)); clear h
        intro _ _
        intro u h; obtain rfl := Eq.symm (h (by simp)); clear h
        intro _ _
        intro u h; obtain rfl := Eq.symm (h (by simp)); clear h
        refine relyEnd_nil rfl ?_
        simp only [Act.put, List.setIfInBounds_toArray, List.set_cons_zero, List.set_cons_succ]
        refine opr_put1 rfl rfl rfl (show e1.rowIs R 27 109 (recF ({ zR with kind := x.kind, saga := x.saga }) (sv) (.slice none 0 0)) from hJ) (by decide) info_b1 rfl (fun i _ => rs_gone ({ zR with kind := x.kind, saga := x.saga }) (sv) (.slice none 0 0) i _) ?_
        intro e1s hT' hr'
        clear hJ
        go_simp
        have hRT := RT.trans _ _ _ h1 hT'
        have hRl2 : R < e1s.heap.size := hr'.lt
        have c14 : e1s.cell? ⟨w.heap.size, 76, none⟩ = some (.bool x.gone) := (hRT.row hne1 X1.out).cell (i := 76) (by omega)
        cases hg : x.gone
        · have HO : Hid (onlyR x = { zR with kind := x.kind, saga := x.saga, gone := x.gone, salt := x.salt, steps := x.steps, data := x.data }) := Lib.hid (by unfold onlyR; simp only [hk, hg]; simp)
          rw [hg] at c14
          go_upto_region 12 with fail
          clear c14
          refine wp_region_relyP (RT R) (fun k w => w.rowIs R 27 109 ((fun k => ([recF ({ zR with kind := x.kind, saga := x.saga, gone := x.gone }) (sv) (.slice none 0 0)] : List (Nat → Value)).getD k (recF ({ zR with kind := x.kind, saga := x.saga, gone := x.gone }) (sv) (dv))) k)) [SV.eq (.pointer (some ⟨w.heap.size, 43, none⟩)), SV.eq (dv), SV.eq (.pointer (some ⟨w.heap.size, 44, none⟩)), SV.eq (.agg (rowA 32 (bF (x.salt)))), SV.eq (.pointer (some ⟨R, 43, none⟩)), SV.any, SV.eq (.pointer (some ⟨R, 44, none⟩))] [([(1, none)], none), ([(34, some 0)], none), ([(1, none)], none), ([(36, some 2)], none), ([(3, none)], none), ([(38, some 4), (35, some 1)], none), ([(3, none)], none)] [none, none, none, none, none, some 0, none] [5] 83 rfl (by kernel_rfl) rfl (by kernel_rfl) (by kernel_rfl) rfl (by kernel_rfl) RT.trans (RT.drew _ _) ((NewT.drew _).row hr') (Nat.le_of_ble_eq_true rfl) ⟨?_, ?_, ?_, ?_, ?_, ?_, ?_, trivial⟩ ?_
          · intro a wx hT hF K hK
            replace hK := fun v w' (hN : NewT wx w') hv => hK v w' (RT.new (Nat.lt_of_lt_of_le hRl2 hT.size) hN) (fun k h => hN.row h) hv
            obtain ⟨f1, _⟩ := hF
            have f1 : a.tmps.getD 1 undef = .pointer (some ⟨w.heap.size, 0, none⟩) := f1
            refine rely_wp rfl ?_
            exact opr_fldR (by decide) rfl f1 (hK _ _ (NewT.refl _) rfl)
          · intro a wx hT hF K hK
            replace hK := fun v w' (hN : NewT wx w') hv => hK v w' (RT.new (Nat.lt_of_lt_of_le hRl2 hT.size) hN) (fun k h => hN.row h) hv
            obtain ⟨f34, _⟩ := hF
            have f34 : a.tmps.getD 34 undef = .pointer (some ⟨w.heap.size, 43, none⟩) := f34
            refine rely_wp rfl ?_
            exact opr_ldB (hT.row hne1 (hRT.row hne1 X1.out)) (by decide) rfl rfl f34 (hK _ _ (NewT.refl _) rfl)
          · intro a wx hT hF K hK
            replace hK := fun v w' (hN : NewT wx w') hv => hK v w' (RT.new (Nat.lt_of_lt_of_le hRl2 hT.size) hN) (fun k h => hN.row h) hv
            obtain ⟨f1, _⟩ := hF
            have f1 : a.tmps.getD 1 undef = .pointer (some ⟨w.heap.size, 0, none⟩) := f1
            refine rely_wp rfl ?_
            exact opr_fldR (by decide) rfl f1 (hK _ _ (NewT.refl _) rfl)
          · intro a wx hT hF K hK
            replace hK := fun v w' (hN : NewT wx w') hv => hK v w' (RT.new (Nat.lt_of_lt_of_le hRl2 hT.size) hN) (fun k h => hN.row h) hv
            obtain ⟨f36, _⟩ := hF
            have f36 : a.tmps.getD 36 undef = .pointer (some ⟨w.heap.size, 44, none⟩) := f36
            refine rely_wp rfl ?_
            exact opr_ldH (hT.row hne1 (hRT.row hne1 X1.out)) (by decide) (recF_salt x _ _) rfl f36 (hK _ _ (NewT.refl _) rfl)
          · intro a wx hT hF K hK
            replace hK := fun v w' (hN : NewT wx w') hv => hK v w' (RT.new (Nat.lt_of_lt_of_le hRl2 hT.size) hN) (fun k h => hN.row h) hv
            obtain ⟨f3, _⟩ := hF
            have f3 : a.tmps.getD 3 undef = .pointer (some ⟨R, 0, none⟩) := f3
            refine rely_wp rfl ?_
            exact opr_fldR (by decide) rfl f3 (hK _ _ (NewT.refl _) rfl)
          · intro a wx hT hF hJ K hK
            obtain ⟨f38, f35, _⟩ := hF
            have f38 : a.tmps.getD 38 undef = .pointer (some ⟨R, 43, none⟩) := f38
            have f35 : a.tmps.getD 35 undef = dv := f35
            refine rely_wp rfl ?_
            refine opr_put1 rfl f38 f35 (show wx.rowIs R 27 109 (recF ({ zR with kind := x.kind, saga := x.saga, gone := x.gone }) (sv) (.slice none 0 0)) from hJ) (by decide) info_d1 oneD (fun i _ => rs_data ({ zR with kind := x.kind, saga := x.saga, gone := x.gone }) (sv) (.slice none 0 0) i _) ?_
            intro w' hT' hr'
            exact hK _ _ hT' hr' trivial
          · intro a wx hT hF K hK
            replace hK := fun v w' (hN : NewT wx w') hv => hK v w' (RT.new (Nat.lt_of_lt_of_le hRl2 hT.size) hN) (fun k h => hN.row h) hv
            obtain ⟨f3, _⟩ := hF
            have f3 : a.tmps.getD 3 undef = .pointer (some ⟨R, 0, none⟩) := f3
            refine rely_wp rfl ?_
            exact opr_fldR (by decide) rfl f3 (hK _ _ (NewT.refl _) rfl)
          · intro eb hb hJ
            intro u h; obtain rfl := Eq.symm (h (by simp)); clear h
            intro u h; obtain rfl := Eq.symm (h (by simp)); clear h
            intro u h; obtain rfl := Eq.symm (h (by simp)); clear h
            intro u h; obtain rfl := Eq.symm (h (by simp)); clear h
            intro u h; obtain rfl := Eq.symm (h (by simp)); clear h
            intro _ _
            intro u h; obtain rfl := Eq.symm (h (by simp)); clear h
            refine relyEnd_nil rfl ?_
            simp only [Act.put, List.setIfInBounds_toArray, List.set_cons_zero, List.set_cons_succ]
            refine opr_putm rfl rfl rfl (show eb.rowIs R 27 109 (recF ({ zR with kind := x.kind, saga := x.saga, gone := x.gone }) (sv) (dv)) from hJ) (by decide) info31 (fun _ => rfl) (fun i hi => rs_salt ({ zR with kind := x.kind, saga := x.saga, gone := x.gone }) (sv) (dv) i _ hi) ?_
            intro ebs hT2 hr2
            clear hJ
            go_simp
            have hRT2 := RT.trans _ _ _ hRT (RT.trans _ _ _ hb hT2)
            go_upto_region 17 with fail
            refine wp_region_steps0 NewT [SV.eq (.agg (rowA 109 (recF ({ zR with kind := x.kind, saga := x.saga, gone := x.gone, salt := x.salt }) (sv) (dv))))] [([(3, none)], none)] 83 1 rfl rfl (by kernel_rfl) NewT.trans (NewT.refl _) (Nat.le_of_ble_eq_true rfl) ⟨?_, trivial⟩ ?_
            · intro a wx hT hF K hK
              obtain ⟨f3, _⟩ := hF
              have f3 : a.tmps.getD 3 undef = .pointer (some ⟨R, 0, none⟩) := f3
              refine rely_wp rfl ?_
              exact opr_ldR (hT.row hr2) rfl f3 (hK _ _ (NewT.refl _) rfl)
            · intro wf hf
              intro u h; obtain rfl := Eq.symm (h (by simp)); clear h
              refine relyEnd_nil rfl ?_
              simp only [Act.put, List.setIfInBounds_toArray, List.set_cons_zero, List.set_cons_succ]
              refine wpList_plain rfl (fun K hK => ?_)
              refine opr_putm rfl rfl rfl (hf.row (hRT2.row hne2 X2.out)) (by decide) info_rec (recF_one _ _ _ oneS oneD) (put_all _ _) ?_
              intro wq hTq rq
              refine hK _ _ ?_
              refine wpList_end rfl ?_
              go_simp
              go_wp2
              have hNq : NewT w wq := (NewT.trans _ _ _ (HN.out.rt hRT2 (by omega)) hf).rt hTq (by omega)
              refine bodyPost_ret (results_agg rfl _ rfl rq Tryd.underlying27 rfl info_rec) rfl ⟨_, rfl, hNq, ?_⟩
              rw [HO.out]
              exact ⟨sv, dv, rfl, hNq.pairs hs, hNq.rd hd⟩
        · have HO : Hid (onlyR x = { zR with kind := x.kind, saga := x.saga, gone := x.gone, com := x.com, steps := x.steps }) := Lib.hid (by unfold onlyR; simp only [hk, hg]; simp)
          rw [hg] at c14
          go_upto_region 11 with fail
          clear c14
          refine wp_region_steps0 NewT [SV.eq (.pointer (some ⟨w.heap.size, 77, none⟩)), SV.eq (.agg (rowA 32 (bF (x.com)))), SV.eq (.pointer (some ⟨R, 77, none⟩))] [([(1, none)], none), ([(31, some 0)], none), ([(3, none)], none)] 83 3 rfl rfl (by kernel_rfl) NewT.trans (NewT.refl _) (Nat.le_of_ble_eq_true rfl) ⟨?_, ?_, ?_, trivial⟩ ?_
          · intro a wx hT hF K hK
            obtain ⟨f1, _⟩ := hF
            have f1 : a.tmps.getD 1 undef = .pointer (some ⟨w.heap.size, 0, none⟩) := f1
            refine rely_wp rfl ?_
            exact opr_fldR (by decide) rfl f1 (hK _ _ (NewT.refl _) rfl)
          · intro a wx hT hF K hK
            obtain ⟨f31, _⟩ := hF
            have f31 : a.tmps.getD 31 undef = .pointer (some ⟨w.heap.size, 77, none⟩) := f31
            refine rely_wp rfl ?_
            exact opr_ldH (hT.row (hRT.row hne1 X1.out)) (by decide) (recF_com x _ _) rfl f31 (hK _ _ (NewT.refl _) rfl)
          · intro a wx hT hF K hK
            obtain ⟨f3, _⟩ := hF
            have f3 : a.tmps.getD 3 undef = .pointer (some ⟨R, 0, none⟩) := f3
            refine rely_wp rfl ?_
            exact opr_fldR (by decide) rfl f3 (hK _ _ (NewT.refl _) rfl)
          · intro eb hb
            intro u h; obtain rfl := Eq.symm (h (by simp)); clear h
            intro u h; obtain rfl := Eq.symm (h (by simp)); clear h
            intro u h; obtain rfl := Eq.symm (h (by simp)); clear h
            refine relyEnd_nil rfl ?_
            simp only [Act.put, List.setIfInBounds_toArray, List.set_cons_zero, List.set_cons_succ]
            refine wpList_plain rfl (fun K hK => ?_)
            refine opr_putm rfl rfl rfl (hb.row hr') (by decide) info31 (fun _ => rfl) (fun i hi => rs_com ({ zR with kind := x.kind, saga := x.saga, gone := x.gone }) (sv) (.slice none 0 0) i _ hi) ?_
            intro ebs hT2 hr2
            refine hK _ _ ?_
            refine wpList_end rfl ?_
            go_simp
            have hRT2 := RT.trans _ _ _ hRT (RT.trans _ _ _ (RT.new hRl2 hb) hT2)
            go_upto_region 17 with fail
            refine wp_region_steps0 NewT [SV.eq (.agg (rowA 109 (recF ({ zR with kind := x.kind, saga := x.saga, gone := x.gone, com := x.com }) (sv) (.slice none 0 0))))] [([(3, none)], none)] 83 1 rfl rfl (by kernel_rfl) NewT.trans (NewT.refl _) (Nat.le_of_ble_eq_true rfl) ⟨?_, trivial⟩ ?_
            · intro a wx hT hF K hK
              obtain ⟨f3, _⟩ := hF
              have f3 : a.tmps.getD 3 undef = .pointer (some ⟨R, 0, none⟩) := f3
              refine rely_wp rfl ?_
              exact opr_ldR (hT.row hr2) rfl f3 (hK _ _ (NewT.refl _) rfl)
            · intro wf hf
              intro u h; obtain rfl := Eq.symm (h (by simp)); clear h
              refine relyEnd_nil rfl ?_
              simp only [Act.put, List.setIfInBounds_toArray, List.set_cons_zero, List.set_cons_succ]
              refine wpList_plain rfl (fun K hK => ?_)
              refine opr_putm rfl rfl rfl (hf.row (hRT2.row hne2 X2.out)) (by decide) info_rec (recF_one _ _ _ oneS rfl) (put_all _ _) ?_
              intro wq hTq rq
              refine hK _ _ ?_
              refine wpList_end rfl ?_
              go_simp
              go_wp2
              have hNq : NewT w wq := (NewT.trans _ _ _ (HN.out.rt hRT2 (by omega)) hf).rt hTq (by omega)
              refine bodyPost_ret (results_agg rfl _ rfl rq Tryd.underlying27 rfl info_rec) rfl ⟨_, rfl, hNq, ?_⟩
              rw [HO.out]
              exact ⟨sv, .slice none 0 0, rfl, hNq.pairs hs, rdV_nil _ _⟩
    have k1 := hk
    clear hk
    by_cases hk : x.kind = 3
    · have HO : Hid (onlyR x = { zR with kind := x.kind, good := x.good, part := x.part, epoch := x.epoch, tag := x.tag, saga := x.saga, seq := x.seq, step := x.step, tr := x.tr, back := x.back }) := Lib.hid (by unfold onlyR; simp only [hk]; simp)
      rw [hk] at c0
      go_upto_region 13 with fail
      clear c0
      refine wp_region_relyP (RT R) (fun k w => w.rowIs R 27 109 ((fun k => ([recF ({ zR with kind := x.kind }) (.slice none 0 0) (.slice none 0 0), recF ({ zR with kind := x.kind, good := x.good }) (.slice none 0 0) (.slice none 0 0), recF ({ zR with kind := x.kind, good := x.good, part := x.part }) (.slice none 0 0) (.slice none 0 0)] : List (Nat → Value)).getD k (recF ({ zR with kind := x.kind, good := x.good, part := x.part, epoch := x.epoch }) (.slice none 0 0) (.slice none 0 0))) k)) [SV.eq (.pointer (some ⟨w.heap.size, 6, none⟩)), SV.eq (.bool (x.good)), SV.eq (.pointer (some ⟨w.heap.size, 8, none⟩)), SV.eq (.int .i64 (x.part)), SV.eq (.pointer (some ⟨w.heap.size, 9, none⟩)), SV.eq (.int .i64 (x.epoch)), SV.eq (.pointer (some ⟨w.heap.size, 10, none⟩)), SV.eq (.agg (rowA 32 (bF (x.tag)))), SV.eq (.pointer (some ⟨R, 6, none⟩)), SV.any, SV.eq (.pointer (some ⟨R, 8, none⟩)), SV.any, SV.eq (.pointer (some ⟨R, 9, none⟩)), SV.any, SV.eq (.pointer (some ⟨R, 10, none⟩))] [([(1, none)], none), ([(40, some 0)], none), ([(1, none)], none), ([(42, some 2)], none), ([(1, none)], none), ([(44, some 4)], none), ([(1, none)], none), ([(46, some 6)], none), ([(3, none)], none), ([(48, some 8), (41, some 1)], none), ([(3, none)], none), ([(49, some 10), (43, some 3)], none), ([(3, none)], none), ([(50, some 12), (45, some 5)], none), ([(3, none)], none)] [none, none, none, none, none, none, none, none, none, some 0, none, some 1, none, some 2, none] [9, 11, 13] 83 rfl (by kernel_rfl) rfl (by kernel_rfl) (by kernel_rfl) rfl (by kernel_rfl) RT.trans (RT.drew _ _) ((NewT.drew _).row X3.out) (Nat.le_of_ble_eq_true rfl) ⟨?_, ?_, ?_, ?_, ?_, ?_, ?_, ?_, ?_, ?_, ?_, ?_, ?_, ?_, ?_, trivial⟩ ?_
      · intro a wx hT hF K hK
        replace hK := fun v w' (hN : NewT wx w') hv => hK v w' (RT.new (Nat.lt_of_lt_of_le hRl hT.size) hN) (fun k h => hN.row h) hv
        obtain ⟨f1, _⟩ := hF
        have f1 : a.tmps.getD 1 undef = .pointer (some ⟨w.heap.size, 0, none⟩) := f1
        refine rely_wp rfl ?_
        exact opr_fldR (by decide) rfl f1 (hK _ _ (NewT.refl _) rfl)
      · intro a wx hT hF K hK
        replace hK := fun v w' (hN : NewT wx w') hv => hK v w' (RT.new (Nat.lt_of_lt_of_le hRl hT.size) hN) (fun k h => hN.row h) hv
        obtain ⟨f40, _⟩ := hF
        have f40 : a.tmps.getD 40 undef = .pointer (some ⟨w.heap.size, 6, none⟩) := f40
        refine rely_wp rfl ?_
        exact opr_ldQ (hT.row hne1 X1.out) (by decide) rfl rfl f40 (hK _ _ (NewT.refl _) rfl)
      · intro a wx hT hF K hK
        replace hK := fun v w' (hN : NewT wx w') hv => hK v w' (RT.new (Nat.lt_of_lt_of_le hRl hT.size) hN) (fun k h => hN.row h) hv
        obtain ⟨f1, _⟩ := hF
        have f1 : a.tmps.getD 1 undef = .pointer (some ⟨w.heap.size, 0, none⟩) := f1
        refine rely_wp rfl ?_
        exact opr_fldR (by decide) rfl f1 (hK _ _ (NewT.refl _) rfl)
      · intro a wx hT hF K hK
        replace hK := fun v w' (hN : NewT wx w') hv => hK v w' (RT.new (Nat.lt_of_lt_of_le hRl hT.size) hN) (fun k h => hN.row h) hv
        obtain ⟨f42, _⟩ := hF
        have f42 : a.tmps.getD 42 undef = .pointer (some ⟨w.heap.size, 8, none⟩) := f42
        refine rely_wp rfl ?_
        exact opr_ldI (hT.row hne1 X1.out) (by decide) rfl rfl f42 (hK _ _ (NewT.refl _) rfl)
      · intro a wx hT hF K hK
        replace hK := fun v w' (hN : NewT wx w') hv => hK v w' (RT.new (Nat.lt_of_lt_of_le hRl hT.size) hN) (fun k h => hN.row h) hv
        obtain ⟨f1, _⟩ := hF
        have f1 : a.tmps.getD 1 undef = .pointer (some ⟨w.heap.size, 0, none⟩) := f1
        refine rely_wp rfl ?_
        exact opr_fldR (by decide) rfl f1 (hK _ _ (NewT.refl _) rfl)
      · intro a wx hT hF K hK
        replace hK := fun v w' (hN : NewT wx w') hv => hK v w' (RT.new (Nat.lt_of_lt_of_le hRl hT.size) hN) (fun k h => hN.row h) hv
        obtain ⟨f44, _⟩ := hF
        have f44 : a.tmps.getD 44 undef = .pointer (some ⟨w.heap.size, 9, none⟩) := f44
        refine rely_wp rfl ?_
        exact opr_ldI (hT.row hne1 X1.out) (by decide) rfl rfl f44 (hK _ _ (NewT.refl _) rfl)
      · intro a wx hT hF K hK
        replace hK := fun v w' (hN : NewT wx w') hv => hK v w' (RT.new (Nat.lt_of_lt_of_le hRl hT.size) hN) (fun k h => hN.row h) hv
        obtain ⟨f1, _⟩ := hF
        have f1 : a.tmps.getD 1 undef = .pointer (some ⟨w.heap.size, 0, none⟩) := f1
        refine rely_wp rfl ?_
        exact opr_fldR (by decide) rfl f1 (hK _ _ (NewT.refl _) rfl)
      · intro a wx hT hF K hK
        replace hK := fun v w' (hN : NewT wx w') hv => hK v w' (RT.new (Nat.lt_of_lt_of_le hRl hT.size) hN) (fun k h => hN.row h) hv
        obtain ⟨f46, _⟩ := hF
        have f46 : a.tmps.getD 46 undef = .pointer (some ⟨w.heap.size, 10, none⟩) := f46
        refine rely_wp rfl ?_
        exact opr_ldH (hT.row hne1 X1.out) (by decide) (recF_tag x _ _) rfl f46 (hK _ _ (NewT.refl _) rfl)
      · intro a wx hT hF K hK
        replace hK := fun v w' (hN : NewT wx w') hv => hK v w' (RT.new (Nat.lt_of_lt_of_le hRl hT.size) hN) (fun k h => hN.row h) hv
        obtain ⟨f3, _⟩ := hF
        have f3 : a.tmps.getD 3 undef = .pointer (some ⟨R, 0, none⟩) := f3
        refine rely_wp rfl ?_
        exact opr_fldR (by decide) rfl f3 (hK _ _ (NewT.refl _) rfl)
      · intro a wx hT hF hJ K hK
        obtain ⟨f48, f41, _⟩ := hF
        have f48 : a.tmps.getD 48 undef = .pointer (some ⟨R, 6, none⟩) := f48
        have f41 : a.tmps.getD 41 undef = .bool (x.good) := f41
        refine rely_wp rfl ?_
        refine opr_put1 rfl f48 f41 (show wx.rowIs R 27 109 (recF ({ zR with kind := x.kind }) (.slice none 0 0) (.slice none 0 0)) from hJ) (by decide) info_b1 rfl (fun i _ => rs_good ({ zR with kind := x.kind }) (.slice none 0 0) (.slice none 0 0) i _) ?_
        intro w' hT' hr'
        exact hK _ _ hT' hr' trivial
      · intro a wx hT hF K hK
        replace hK := fun v w' (hN : NewT wx w') hv => hK v w' (RT.new (Nat.lt_of_lt_of_le hRl hT.size) hN) (fun k h => hN.row h) hv
        obtain ⟨f3, _⟩ := hF
        have f3 : a.tmps.getD 3 undef = .pointer (some ⟨R, 0, none⟩) := f3
        refine rely_wp rfl ?_
        exact opr_fldR (by decide) rfl f3 (hK _ _ (NewT.refl _) rfl)
      · intro a wx hT hF hJ K hK
        obtain ⟨f49, f43, _⟩ := hF
        have f49 : a.tmps.getD 49 undef = .pointer (some ⟨R, 8, none⟩) := f49
        have f43 : a.tmps.getD 43 undef = .int .i64 (x.part) := f43
        refine rely_wp rfl ?_
        refine opr_put1 rfl f49 f43 (show wx.rowIs R 27 109 (recF ({ zR with kind := x.kind, good := x.good }) (.slice none 0 0) (.slice none 0 0)) from hJ) (by decide) info_i1 rfl (fun i _ => rs_part ({ zR with kind := x.kind, good := x.good }) (.slice none 0 0) (.slice none 0 0) i _) ?_
        intro w' hT' hr'
        exact hK _ _ hT' hr' trivial
      · intro a wx hT hF K hK
        replace hK := fun v w' (hN : NewT wx w') hv => hK v w' (RT.new (Nat.lt_of_lt_of_le hRl hT.size) hN) (fun k h => hN.row h) hv
        obtain ⟨f3, _⟩ := hF
        have f3 : a.tmps.getD 3 undef = .pointer (some ⟨R, 0, none⟩) := f3
        refine rely_wp rfl ?_
        exact opr_fldR (by decide) rfl f3 (hK _ _ (NewT.refl _) rfl)
      · intro a wx hT hF hJ K hK
        obtain ⟨f50, f45, _⟩ := hF
        have f50 : a.tmps.getD 50 undef = .pointer (some ⟨R, 9, none⟩) := f50
        have f45 : a.tmps.getD 45 undef = .int .i64 (x.epoch) := f45
        refine rely_wp rfl ?_
        refine opr_put1 rfl f50 f45 (show wx.rowIs R 27 109 (recF ({ zR with kind := x.kind, good := x.good, part := x.part }) (.slice none 0 0) (.slice none 0 0)) from hJ) (by decide) info_i1 rfl (fun i _ => rs_epoch ({ zR with kind := x.kind, good := x.good, part := x.part }) (.slice none 0 0) (.slice none 0 0) i _) ?_
        intro w' hT' hr'
        exact hK _ _ hT' hr' trivial
      · intro a wx hT hF K hK
        replace hK := fun v w' (hN : NewT wx w') hv => hK v w' (RT.new (Nat.lt_of_lt_of_le hRl hT.size) hN) (fun k h => hN.row h) hv
        obtain ⟨f3, _⟩ := hF
        have f3 : a.tmps.getD 3 undef = .pointer (some ⟨R, 0, none⟩) := f3
        refine rely_wp rfl ?_
        exact opr_fldR (by decide) rfl f3 (hK _ _ (NewT.refl _) rfl)
      · intro e3 h3 hJ
        intro u h; obtain rfl := Eq.symm (h (by simp)); clear h
        intro u h; obtain rfl := Eq.symm (h (by simp)); clear h
        intro u h; obtain rfl := Eq.symm (h (by simp)); clear h
        intro u h; obtain rfl := Eq.symm (h (by simp)); clear h
        intro u h; obtain rfl := Eq.symm (h (by simp)); clear h
        intro u h; obtain rfl := Eq.symm (h (by simp)); clear h
        intro u h; obtain rfl := Eq.symm (h (by simp)); clear h
        intro u h; obtain rfl := Eq.symm (h (by simp)); clear h
        intro u h; obtain rfl := Eq.symm (h (by simp)); clear h
        intro _ _
        intro u h; obtain rfl := Eq.symm (h (by simp)); clear h
        intro _ _
        intro u h; obtain rfl := Eq.symm (h (by simp)); clear h
        intro _ _
        intro u h; obtain rfl := Eq.symm (h (by simp)); clear h
        refine relyEnd_nil rfl ?_
        simp only [Act.put, List.setIfInBounds_toArray, List.set_cons_zero, List.set_cons_succ]
        refine opr_putm rfl rfl rfl (show e3.rowIs R 27 109 (recF ({ zR with kind := x.kind, good := x.good, part := x.part, epoch := x.epoch }) (.slice none 0 0) (.slice none 0 0)) from hJ) (by decide) info31 (fun _ => rfl) (fun i hi => rs_tag ({ zR with kind := x.kind, good := x.good, part := x.part, epoch := x.epoch }) (.slice none 0 0) (.slice none 0 0) i _ hi) ?_
        intro e3s hT' hr'
        clear hJ
        go_simp
        have hRT := RT.trans _ _ _ h3 hT'
        have hRl2 : R < e3s.heap.size := hr'.lt
        go_upto_region 14 with fail
        refine wp_region_relyP (RT R) (fun k w => w.rowIs R 27 109 ((fun k => ([recF ({ zR with kind := x.kind, good := x.good, part := x.part, epoch := x.epoch, tag := x.tag }) (.slice none 0 0) (.slice none 0 0), recF ({ zR with kind := x.kind, good := x.good, part := x.part, epoch := x.epoch, tag := x.tag, saga := x.saga }) (.slice none 0 0) (.slice none 0 0), recF ({ zR with kind := x.kind, good := x.good, part := x.part, epoch := x.epoch, tag := x.tag, saga := x.saga, seq := x.seq }) (.slice none 0 0) (.slice none 0 0), recF ({ zR with kind := x.kind, good := x.good, part := x.part, epoch := x.epoch, tag := x.tag, saga := x.saga, seq := x.seq, step := x.step }) (.slice none 0 0) (.slice none 0 0)] : List (Nat → Value)).getD k (recF ({ zR with kind := x.kind, good := x.good, part := x.part, epoch := x.epoch, tag := x.tag, saga := x.saga, seq := x.seq, step := x.step, tr := x.tr }) (.slice none 0 0) (.slice none 0 0))) k)) [SV.eq (.pointer (some ⟨w.heap.size, 1, none⟩)), SV.eq (.int .i64 (x.saga)), SV.eq (.pointer (some ⟨w.heap.size, 2, none⟩)), SV.eq (.int .i64 (x.seq)), SV.eq (.pointer (some ⟨w.heap.size, 3, none⟩)), SV.eq (.int .i64 (x.step)), SV.eq (.pointer (some ⟨w.heap.size, 4, none⟩)), SV.eq (.int .i64 (x.tr)), SV.eq (.pointer (some ⟨w.heap.size, 5, none⟩)), SV.eq (.bool (x.back)), SV.eq (.pointer (some ⟨R, 1, none⟩)), SV.any, SV.eq (.pointer (some ⟨R, 2, none⟩)), SV.any, SV.eq (.pointer (some ⟨R, 3, none⟩)), SV.any, SV.eq (.pointer (some ⟨R, 4, none⟩)), SV.any, SV.eq (.pointer (some ⟨R, 5, none⟩))] [([(1, none)], none), ([(52, some 0)], none), ([(1, none)], none), ([(54, some 2)], none), ([(1, none)], none), ([(56, some 4)], none), ([(1, none)], none), ([(58, some 6)], none), ([(1, none)], none), ([(60, some 8)], none), ([(3, none)], none), ([(62, some 10), (53, some 1)], none), ([(3, none)], none), ([(63, some 12), (55, some 3)], none), ([(3, none)], none), ([(64, some 14), (57, some 5)], none), ([(3, none)], none), ([(65, some 16), (59, some 7)], none), ([(3, none)], none)] [none, none, none, none, none, none, none, none, none, none, none, some 0, none, some 1, none, some 2, none, some 3, none] [11, 13, 15, 17] 83 rfl (by kernel_rfl) rfl (by kernel_rfl) (by kernel_rfl) rfl (by kernel_rfl) RT.trans (RT.drew _ _) ((NewT.drew _).row hr') (Nat.le_of_ble_eq_true rfl) ⟨?_, ?_, ?_, ?_, ?_, ?_, ?_, ?_, ?_, ?_, ?_, ?_, ?_, ?_, ?_, ?_, ?_, ?_, ?_, trivial⟩ ?_
        · intro a wx hT hF K hK
          replace hK := fun v w' (hN : NewT wx w') hv => hK v w' (RT.new (Nat.lt_of_lt_of_le hRl2 hT.size) hN) (fun k h => hN.row h) hv
          obtain ⟨f1, _⟩ := hF
          have f1 : a.tmps.getD 1 undef = .pointer (some ⟨w.heap.size, 0, none⟩) := f1
          refine rely_wp rfl ?_
          exact opr_fldR (by decide) rfl f1 (hK _ _ (NewT.refl _) rfl)
        · intro a wx hT hF K hK
          replace hK := fun v w' (hN : NewT wx w') hv => hK v w' (RT.new (Nat.lt_of_lt_of_le hRl2 hT.size) hN) (fun k h => hN.row h) hv
          obtain ⟨f52, _⟩ := hF
          have f52 : a.tmps.getD 52 undef = .pointer (some ⟨w.heap.size, 1, none⟩) := f52
          refine rely_wp rfl ?_
          exact opr_ldI (hT.row hne1 (hRT.row hne1 X1.out)) (by decide) rfl rfl f52 (hK _ _ (NewT.refl _) rfl)
        · intro a wx hT hF K hK
          replace hK := fun v w' (hN : NewT wx w') hv => hK v w' (RT.new (Nat.lt_of_lt_of_le hRl2 hT.size) hN) (fun k h => hN.row h) hv
          obtain ⟨f1, _⟩ := hF
          have f1 : a.tmps.getD 1 undef = .pointer (some ⟨w.heap.size, 0, none⟩) := f1
          refine rely_wp rfl ?_
          exact opr_fldR (by decide) rfl f1 (hK _ _ (NewT.refl _) rfl)
        · intro a wx hT hF K hK
          replace hK := fun v w' (hN : NewT wx w') hv => hK v w' (RT.new (Nat.lt_of_lt_of_le hRl2 hT.size) hN) (fun k h => hN.row h) hv
          obtain ⟨f54, _⟩ := hF
          have f54 : a.tmps.getD 54 undef = .pointer (some ⟨w.heap.size, 2, none⟩) := f54
          refine rely_wp rfl ?_
          exact opr_ldI (hT.row hne1 (hRT.row hne1 X1.out)) (by decide) rfl rfl f54 (hK _ _ (NewT.refl _) rfl)
        · intro a wx hT hF K hK
          replace hK := fun v w' (hN : NewT wx w') hv => hK v w' (RT.new (Nat.lt_of_lt_of_le hRl2 hT.size) hN) (fun k h => hN.row h) hv
          obtain ⟨f1, _⟩ := hF
          have f1 : a.tmps.getD 1 undef = .pointer (some ⟨w.heap.size, 0, none⟩) := f1
          refine rely_wp rfl ?_
          exact opr_fldR (by decide) rfl f1 (hK _ _ (NewT.refl _) rfl)
        · intro a wx hT hF K hK
          replace hK := fun v w' (hN : NewT wx w') hv => hK v w' (RT.new (Nat.lt_of_lt_of_le hRl2 hT.size) hN) (fun k h => hN.row h) hv
          obtain ⟨f56, _⟩ := hF
          have f56 : a.tmps.getD 56 undef = .pointer (some ⟨w.heap.size, 3, none⟩) := f56
          refine rely_wp rfl ?_
          exact opr_ldI (hT.row hne1 (hRT.row hne1 X1.out)) (by decide) rfl rfl f56 (hK _ _ (NewT.refl _) rfl)
        · intro a wx hT hF K hK
          replace hK := fun v w' (hN : NewT wx w') hv => hK v w' (RT.new (Nat.lt_of_lt_of_le hRl2 hT.size) hN) (fun k h => hN.row h) hv
          obtain ⟨f1, _⟩ := hF
          have f1 : a.tmps.getD 1 undef = .pointer (some ⟨w.heap.size, 0, none⟩) := f1
          refine rely_wp rfl ?_
          exact opr_fldR (by decide) rfl f1 (hK _ _ (NewT.refl _) rfl)
        · intro a wx hT hF K hK
          replace hK := fun v w' (hN : NewT wx w') hv => hK v w' (RT.new (Nat.lt_of_lt_of_le hRl2 hT.size) hN) (fun k h => hN.row h) hv
          obtain ⟨f58, _⟩ := hF
          have f58 : a.tmps.getD 58 undef = .pointer (some ⟨w.heap.size, 4, none⟩) := f58
          refine rely_wp rfl ?_
          exact opr_ldI (hT.row hne1 (hRT.row hne1 X1.out)) (by decide) rfl rfl f58 (hK _ _ (NewT.refl _) rfl)
        · intro a wx hT hF K hK
          replace hK := fun v w' (hN : NewT wx w') hv => hK v w' (RT.new (Nat.lt_of_lt_of_le hRl2 hT.size) hN) (fun k h => hN.row h) hv
          obtain ⟨f1, _⟩ := hF
          have f1 : a.tmps.getD 1 undef = .pointer (some ⟨w.heap.size, 0, none⟩) := f1
          refine rely_wp rfl ?_
          exact opr_fldR (by decide) rfl f1 (hK _ _ (NewT.refl _) rfl)
        · intro a wx hT hF K hK
          replace hK := fun v w' (hN : NewT wx w') hv => hK v w' (RT.new (Nat.lt_of_lt_of_le hRl2 hT.size) hN) (fun k h => hN.row h) hv
          obtain ⟨f60, _⟩ := hF
          have f60 : a.tmps.getD 60 undef = .pointer (some ⟨w.heap.size, 5, none⟩) := f60
          refine rely_wp rfl ?_
          exact opr_ldQ (hT.row hne1 (hRT.row hne1 X1.out)) (by decide) rfl rfl f60 (hK _ _ (NewT.refl _) rfl)
        · intro a wx hT hF K hK
          replace hK := fun v w' (hN : NewT wx w') hv => hK v w' (RT.new (Nat.lt_of_lt_of_le hRl2 hT.size) hN) (fun k h => hN.row h) hv
          obtain ⟨f3, _⟩ := hF
          have f3 : a.tmps.getD 3 undef = .pointer (some ⟨R, 0, none⟩) := f3
          refine rely_wp rfl ?_
          exact opr_fldR (by decide) rfl f3 (hK _ _ (NewT.refl _) rfl)
        · intro a wx hT hF hJ K hK
          obtain ⟨f62, f53, _⟩ := hF
          have f62 : a.tmps.getD 62 undef = .pointer (some ⟨R, 1, none⟩) := f62
          have f53 : a.tmps.getD 53 undef = .int .i64 (x.saga) := f53
          refine rely_wp rfl ?_
          refine opr_put1 rfl f62 f53 (show wx.rowIs R 27 109 (recF ({ zR with kind := x.kind, good := x.good, part := x.part, epoch := x.epoch, tag := x.tag }) (.slice none 0 0) (.slice none 0 0)) from hJ) (by decide) info_i1 rfl (fun i _ => rs_saga ({ zR with kind := x.kind, good := x.good, part := x.part, epoch := x.epoch, tag := x.tag }) (.slice none 0 0) (.slice none 0 0) i _) ?_
          intro w' hT' hr'
          exact hK _ _ hT' hr' trivial
        · intro a wx hT hF K hK
          replace hK := fun v w' (hN : NewT wx w') hv => hK v w' (RT.new (Nat.lt_of_lt_of_le hRl2 hT.size) hN) (fun k h => hN.row h) hv
          obtain ⟨f3, _⟩ := hF
          have f3 : a.tmps.getD 3 undef = .pointer (some ⟨R, 0, none⟩) := f3
          refine rely_wp rfl ?_
          exact opr_fldR (by decide) rfl f3 (hK _ _ (NewT.refl _) rfl)
        · intro a wx hT hF hJ K hK
          obtain ⟨f63, f55, _⟩ := hF
          have f63 : a.tmps.getD 63 undef = .pointer (some ⟨R, 2, none⟩) := f63
          have f55 : a.tmps.getD 55 undef = .int .i64 (x.seq) := f55
          refine rely_wp rfl ?_
          refine opr_put1 rfl f63 f55 (show wx.rowIs R 27 109 (recF ({ zR with kind := x.kind, good := x.good, part := x.part, epoch := x.epoch, tag := x.tag, saga := x.saga }) (.slice none 0 0) (.slice none 0 0)) from hJ) (by decide) info_i1 rfl (fun i _ => rs_seq ({ zR with kind := x.kind, good := x.good, part := x.part, epoch := x.epoch, tag := x.tag, saga := x.saga }) (.slice none 0 0) (.slice none 0 0) i _) ?_
          intro w' hT' hr'
          exact hK _ _ hT' hr' trivial
        · intro a wx hT hF K hK
          replace hK := fun v w' (hN : NewT wx w') hv => hK v w' (RT.new (Nat.lt_of_lt_of_le hRl2 hT.size) hN) (fun k h => hN.row h) hv
          obtain ⟨f3, _⟩ := hF
          have f3 : a.tmps.getD 3 undef = .pointer (some ⟨R, 0, none⟩) := f3
          refine rely_wp rfl ?_
          exact opr_fldR (by decide) rfl f3 (hK _ _ (NewT.refl _) rfl)
        · intro a wx hT hF hJ K hK
          obtain ⟨f64, f57, _⟩ := hF
          have f64 : a.tmps.getD 64 undef = .pointer (some ⟨R, 3, none⟩) := f64
          have f57 : a.tmps.getD 57 undef = .int .i64 (x.step) := f57
          refine rely_wp rfl ?_
          refine opr_put1 rfl f64 f57 (show wx.rowIs R 27 109 (recF ({ zR with kind := x.kind, good := x.good, part := x.part, epoch := x.epoch, tag := x.tag, saga := x.saga, seq := x.seq }) (.slice none 0 0) (.slice none 0 0)) from hJ) (by decide) info_i1 rfl (fun i _ => rs_step ({ zR with kind := x.kind, good := x.good, part := x.part, epoch := x.epoch, tag := x.tag, saga := x.saga, seq := x.seq }) (.slice none 0 0) (.slice none 0 0) i _) ?_
          intro w' hT' hr'
          exact hK _ _ hT' hr' trivial
        · intro a wx hT hF K hK
          replace hK := fun v w' (hN : NewT wx w') hv => hK v w' (RT.new (Nat.lt_of_lt_of_le hRl2 hT.size) hN) (fun k h => hN.row h) hv
          obtain ⟨f3, _⟩ := hF
          have f3 : a.tmps.getD 3 undef = .pointer (some ⟨R, 0, none⟩) := f3
          refine rely_wp rfl ?_
          exact opr_fldR (by decide) rfl f3 (hK _ _ (NewT.refl _) rfl)
        · intro a wx hT hF hJ K hK
          obtain ⟨f65, f59, _⟩ := hF
          have f65 : a.tmps.getD 65 undef = .pointer (some ⟨R, 4, none⟩) := f65
          have f59 : a.tmps.getD 59 undef = .int .i64 (x.tr) := f59
          refine rely_wp rfl ?_
          refine opr_put1 rfl f65 f59 (show wx.rowIs R 27 109 (recF ({ zR with kind := x.kind, good := x.good, part := x.part, epoch := x.epoch, tag := x.tag, saga := x.saga, seq := x.seq, step := x.step }) (.slice none 0 0) (.slice none 0 0)) from hJ) (by decide) info_i1 rfl (fun i _ => rs_tr ({ zR with kind := x.kind, good := x.good, part := x.part, epoch := x.epoch, tag := x.tag, saga := x.saga, seq := x.seq, step := x.step }) (.slice none 0 0) (.slice none 0 0) i _) ?_
          intro w' hT' hr'
          exact hK _ _ hT' hr' trivial
        · intro a wx hT hF K hK
          replace hK := fun v w' (hN : NewT wx w') hv => hK v w' (RT.new (Nat.lt_of_lt_of_le hRl2 hT.size) hN) (fun k h => hN.row h) hv
          obtain ⟨f3, _⟩ := hF
          have f3 : a.tmps.getD 3 undef = .pointer (some ⟨R, 0, none⟩) := f3
          refine rely_wp rfl ?_
          exact opr_fldR (by decide) rfl f3 (hK _ _ (NewT.refl _) rfl)
        · intro eb hb hJ
          intro u h; obtain rfl := Eq.symm (h (by simp)); clear h
          intro u h; obtain rfl := Eq.symm (h (by simp)); clear h
          intro u h; obtain rfl := Eq.symm (h (by simp)); clear h
          intro u h; obtain rfl := Eq.symm (h (by simp)); clear h
          intro u h; obtain rfl := Eq.symm (h (by simp)); clear h
          intro u h; obtain rfl := Eq.symm (h (by simp)); clear h
          intro u h; obtain rfl := Eq.symm (h (by simp)); clear h
          intro u h; obtain rfl := Eq.symm (h (by simp)); clear h
          intro u h; obtain rfl := Eq.symm (h (by simp)); clear h
          intro u h; obtain rfl := Eq.symm (h (by simp)); clear h
          intro u h; obtain rfl := Eq.symm (h (by simp)); clear h
          intro _ _
          intro u h; obtain rfl := Eq.symm (h (by simp)); clear h
          intro _ _
          intro u h; obtain rfl := Eq.symm (h (by simp)); clear h
          intro _ _
          intro u h; obtain rfl := Eq.symm (h (by simp)); clear h
          intro _ _
          intro u h; obtain rfl := Eq.symm (h (by simp)); clear h
          refine relyEnd_nil rfl ?_
          simp only [Act.put, List.setIfInBounds_toArray, List.set_cons_zero, List.set_cons_succ]
          refine opr_put1 rfl rfl rfl (show eb.rowIs R 27 109 (recF ({ zR with kind := x.kind, good := x.good, part := x.part, epoch := x.epoch, tag := x.tag, saga := x.saga, seq := x.seq, step := x.step, tr := x.tr }) (.slice none 0 0) (.slice none 0 0)) from hJ) (by decide) info_b1 rfl (fun i _ => rs_back ({ zR with kind := x.kind, good := x.good, part := x.part, epoch := x.epoch, tag := x.tag, saga := x.saga, seq := x.seq, step := x.step, tr := x.tr }) (.slice none 0 0) (.slice none 0 0) i _) ?_
          intro ebs hT2 hr2
          clear hJ
          go_simp
          have hRT2 := RT.trans _ _ _ hRT (RT.trans _ _ _ hb hT2)
          go_upto_region 17 with fail
          refine wp_region_steps0 NewT [SV.eq (.agg (rowA 109 (recF ({ zR with kind := x.kind, good := x.good, part := x.part, epoch := x.epoch, tag := x.tag, saga := x.saga, seq := x.seq, step := x.step, tr := x.tr, back := x.back }) (.slice none 0 0) (.slice none 0 0))))] [([(3, none)], none)] 83 1 rfl rfl (by kernel_rfl) NewT.trans (NewT.refl _) (Nat.le_of_ble_eq_true rfl) ⟨?_, trivial⟩ ?_
          · intro a wx hT hF K hK
            obtain ⟨f3, _⟩ := hF
            have f3 : a.tmps.getD 3 undef = .pointer (some ⟨R, 0, none⟩) := f3
            refine rely_wp rfl ?_
            exact opr_ldR (hT.row hr2) rfl f3 (hK _ _ (NewT.refl _) rfl)
          · intro wf hf
            intro u h; obtain rfl := Eq.symm (h (by simp)); clear h
            refine relyEnd_nil rfl ?_
            simp only [Act.put, List.setIfInBounds_toArray, List.set_cons_zero, List.set_cons_succ]
            refine wpList_plain rfl (fun K hK => ?_)
            refine opr_putm rfl rfl rfl (hf.row (hRT2.row hne2 X2.out)) (by decide) info_rec (recF_one _ _ _ rfl rfl) (put_all _ _) ?_
            intro wq hTq rq
            refine hK _ _ ?_
            refine wpList_end rfl ?_
            go_simp
            go_wp2
            have hNq : NewT w wq := (NewT.trans _ _ _ (HN.out.rt hRT2 (by omega)) hf).rt hTq (by omega)
            refine bodyPost_ret (results_agg rfl _ rfl rq Tryd.underlying27 rfl info_rec) rfl ⟨_, rfl, hNq, ?_⟩
            rw [HO.out]
            exact ⟨.slice none 0 0, .slice none 0 0, rfl, rdP_nil _, rdV_nil _ _⟩
    have k3 := hk
    clear hk
    by_cases hk : x.kind = 2
    · have HO : Hid (onlyR x = { zR with kind := x.kind, saga := x.saga, seq := x.seq, step := x.step, tr := x.tr, back := x.back }) := Lib.hid (by unfold onlyR; simp only [hk]; simp)
      rw [hk] at c0
      go_upto_region 14 with fail
      clear c0
      refine wp_region_relyP (RT R) (fun k w => w.rowIs R 27 109 ((fun k => ([recF ({ zR with kind := x.kind }) (.slice none 0 0) (.slice none 0 0), recF ({ zR with kind := x.kind, saga := x.saga }) (.slice none 0 0) (.slice none 0 0), recF ({ zR with kind := x.kind, saga := x.saga, seq := x.seq }) (.slice none 0 0) (.slice none 0 0), recF ({ zR with kind := x.kind, saga := x.saga, seq := x.seq, step := x.step }) (.slice none 0 0) (.slice none 0 0)] : List (Nat → Value)).getD k (recF ({ zR with kind := x.kind, saga := x.saga, seq := x.seq, step := x.step, tr := x.tr }) (.slice none 0 0) (.slice none 0 0))) k)) [SV.eq (.pointer (some ⟨w.heap.size, 1, none⟩)), SV.eq (.int .i64 (x.saga)), SV.eq (.pointer (some ⟨w.heap.size, 2, none⟩)), SV.eq (.int .i64 (x.seq)), SV.eq (.pointer (some ⟨w.heap.size, 3, none⟩)), SV.eq (.int .i64 (x.step)), SV.eq (.pointer (some ⟨w.heap.size, 4, none⟩)), SV.eq (.int .i64 (x.tr)), SV.eq (.pointer (some ⟨w.heap.size, 5, none⟩)), SV.eq (.bool (x.back)), SV.eq (.pointer (some ⟨R, 1, none⟩)), SV.any, SV.eq (.pointer (some ⟨R, 2, none⟩)), SV.any, SV.eq (.pointer (some ⟨R, 3, none⟩)), SV.any, SV.eq (.pointer (some ⟨R, 4, none⟩)), SV.any, SV.eq (.pointer (some ⟨R, 5, none⟩))] [([(1, none)], none), ([(52, some 0)], none), ([(1, none)], none), ([(54, some 2)], none), ([(1, none)], none), ([(56, some 4)], none), ([(1, none)], none), ([(58, some 6)], none), ([(1, none)], none), ([(60, some 8)], none), ([(3, none)], none), ([(62, some 10), (53, some 1)], none), ([(3, none)], none), ([(63, some 12), (55, some 3)], none), ([(3, none)], none), ([(64, some 14), (57, some 5)], none), ([(3, none)], none), ([(65, some 16), (59, some 7)], none), ([(3, none)], none)] [none, none, none, none, none, none, none, none, none, none, none, some 0, none, some 1, none, some 2, none, some 3, none] [11, 13, 15, 17] 83 rfl (by kernel_rfl) rfl (by kernel_rfl) (by kernel_rfl) rfl (by kernel_rfl) RT.trans (RT.drew _ _) ((NewT.drew _).row X3.out) (Nat.le_of_ble_eq_true rfl) ⟨?_, ?_, ?_, ?_, ?_, ?_, ?_, ?_, ?_, ?_, ?_, ?_, ?_, ?_, ?_, ?_, ?_, ?_, ?_, trivial⟩ ?_
      · intro a wx hT hF K hK
        replace hK := fun v w' (hN : NewT wx w') hv => hK v w' (RT.new (Nat.lt_of_lt_of_le hRl hT.size) hN) (fun k h => hN.row h) hv
        obtain ⟨f1, _⟩ := hF
        have f1 : a.tmps.getD 1 undef = .pointer (some ⟨w.heap.size, 0, none⟩) := f1
        refine rely_wp rfl ?_
        exact opr_fldR (by decide) rfl f1 (hK _ _ (NewT.refl _) rfl)
      · intro a wx hT hF K hK
        replace hK := fun v w' (hN : NewT wx w') hv => hK v w' (RT.new (Nat.lt_of_lt_of_le hRl hT.size) hN) (fun k h => hN.row h) hv
        obtain ⟨f52, _⟩ := hF
        have f52 : a.tmps.getD 52 undef = .pointer (some ⟨w.heap.size, 1, none⟩) := f52
        refine rely_wp rfl ?_
        exact opr_ldI (hT.row hne1 X1.out) (by decide) rfl rfl f52 (hK _ _ (NewT.refl _) rfl)
      · intro a wx hT hF K hK
        replace hK := fun v w' (hN : NewT wx w') hv => hK v w' (RT.new (Nat.lt_of_lt_of_le hRl hT.size) hN) (fun k h => hN.row h) hv
        obtain ⟨f1, _⟩ := hF
        have f1 : a.tmps.getD 1 undef = .pointer (some ⟨w.heap.size, 0, none⟩) := f1
        refine rely_wp rfl ?_
        exact opr_fldR (by decide) rfl f1 (hK _ _ (NewT.refl _) rfl)
      · intro a wx hT hF K hK
        replace hK := fun v w' (hN : NewT wx w') hv => hK v w' (RT.new (Nat.lt_of_lt_of_le hRl hT.size) hN) (fun k h => hN.row h) hv
        obtain ⟨f54, _⟩ := hF
        have f54 : a.tmps.getD 54 undef = .pointer (some ⟨w.heap.size, 2, none⟩) := f54
        refine rely_wp rfl ?_
        exact opr_ldI (hT.row hne1 X1.out) (by decide) rfl rfl f54 (hK _ _ (NewT.refl _) rfl)
      · intro a wx hT hF K hK
        replace hK := fun v w' (hN : NewT wx w') hv => hK v w' (RT.new (Nat.lt_of_lt_of_le hRl hT.size) hN) (fun k h => hN.row h) hv
        obtain ⟨f1, _⟩ := hF
        have f1 : a.tmps.getD 1 undef = .pointer (some ⟨w.heap.size, 0, none⟩) := f1
        refine rely_wp rfl ?_
        exact opr_fldR (by decide) rfl f1 (hK _ _ (NewT.refl _) rfl)
      · intro a wx hT hF K hK
        replace hK := fun v w' (hN : NewT wx w') hv => hK v w' (RT.new (Nat.lt_of_lt_of_le hRl hT.size) hN) (fun k h => hN.row h) hv
        obtain ⟨f56, _⟩ := hF
        have f56 : a.tmps.getD 56 undef = .pointer (some ⟨w.heap.size, 3, none⟩) := f56
        refine rely_wp rfl ?_
        exact opr_ldI (hT.row hne1 X1.out) (by decide) rfl rfl f56 (hK _ _ (NewT.refl _) rfl)
      · intro a wx hT hF K hK
        replace hK := fun v w' (hN : NewT wx w') hv => hK v w' (RT.new (Nat.lt_of_lt_of_le hRl hT.size) hN) (fun k h => hN.row h) hv
        obtain ⟨f1, _⟩ := hF
        have f1 : a.tmps.getD 1 undef = .pointer (some ⟨w.heap.size, 0, none⟩) := f1
        refine rely_wp rfl ?_
        exact opr_fldR (by decide) rfl f1 (hK _ _ (NewT.refl _) rfl)
      · intro a wx hT hF K hK
        replace hK := fun v w' (hN : NewT wx w') hv => hK v w' (RT.new (Nat.lt_of_lt_of_le hRl hT.size) hN) (fun k h => hN.row h) hv
        obtain ⟨f58, _⟩ := hF
        have f58 : a.tmps.getD 58 undef = .pointer (some ⟨w.heap.size, 4, none⟩) := f58
        refine rely_wp rfl ?_
        exact opr_ldI (hT.row hne1 X1.out) (by decide) rfl rfl f58 (hK _ _ (NewT.refl _) rfl)
      · intro a wx hT hF K hK
        replace hK := fun v w' (hN : NewT wx w') hv => hK v w' (RT.new (Nat.lt_of_lt_of_le hRl hT.size) hN) (fun k h => hN.row h) hv
        obtain ⟨f1, _⟩ := hF
        have f1 : a.tmps.getD 1 undef = .pointer (some ⟨w.heap.size, 0, none⟩) := f1
        refine rely_wp rfl ?_
        exact opr_fldR (by decide) rfl f1 (hK _ _ (NewT.refl _) rfl)
      · intro a wx hT hF K hK
        replace hK := fun v w' (hN : NewT wx w') hv => hK v w' (RT.new (Nat.lt_of_lt_of_le hRl hT.size) hN) (fun k h => hN.row h) hv
        obtain ⟨f60, _⟩ := hF
        have f60 : a.tmps.getD 60 undef = .pointer (some ⟨w.heap.size, 5, none⟩) := f60
        refine rely_wp rfl ?_
        exact opr_ldQ (hT.row hne1 X1.out) (by decide) rfl rfl f60 (hK _ _ (NewT.refl _) rfl)
      · intro a wx hT hF K hK
        replace hK := fun v w' (hN : NewT wx w') hv => hK v w' (RT.new (Nat.lt_of_lt_of_le hRl hT.size) hN) (fun k h => hN.row h) hv
        obtain ⟨f3, _⟩ := hF
        have f3 : a.tmps.getD 3 undef = .pointer (some ⟨R, 0, none⟩) := f3
        refine rely_wp rfl ?_
        exact opr_fldR (by decide) rfl f3 (hK _ _ (NewT.refl _) rfl)
      · intro a wx hT hF hJ K hK
        obtain ⟨f62, f53, _⟩ := hF
        have f62 : a.tmps.getD 62 undef = .pointer (some ⟨R, 1, none⟩) := f62
        have f53 : a.tmps.getD 53 undef = .int .i64 (x.saga) := f53
        refine rely_wp rfl ?_
        refine opr_put1 rfl f62 f53 (show wx.rowIs R 27 109 (recF ({ zR with kind := x.kind }) (.slice none 0 0) (.slice none 0 0)) from hJ) (by decide) info_i1 rfl (fun i _ => rs_saga ({ zR with kind := x.kind }) (.slice none 0 0) (.slice none 0 0) i _) ?_
        intro w' hT' hr'
        exact hK _ _ hT' hr' trivial
      · intro a wx hT hF K hK
        replace hK := fun v w' (hN : NewT wx w') hv => hK v w' (RT.new (Nat.lt_of_lt_of_le hRl hT.size) hN) (fun k h => hN.row h) hv
        obtain ⟨f3, _⟩ := hF
        have f3 : a.tmps.getD 3 undef = .pointer (some ⟨R, 0, none⟩) := f3
        refine rely_wp rfl ?_
        exact opr_fldR (by decide) rfl f3 (hK _ _ (NewT.refl _) rfl)
      · intro a wx hT hF hJ K hK
        obtain ⟨f63, f55, _⟩ := hF
        have f63 : a.tmps.getD 63 undef = .pointer (some ⟨R, 2, none⟩) := f63
        have f55 : a.tmps.getD 55 undef = .int .i64 (x.seq) := f55
        refine rely_wp rfl ?_
        refine opr_put1 rfl f63 f55 (show wx.rowIs R 27 109 (recF ({ zR with kind := x.kind, saga := x.saga }) (.slice none 0 0) (.slice none 0 0)) from hJ) (by decide) info_i1 rfl (fun i _ => rs_seq ({ zR with kind := x.kind, saga := x.saga }) (.slice none 0 0) (.slice none 0 0) i _) ?_
        intro w' hT' hr'
        exact hK _ _ hT' hr' trivial
      · intro a wx hT hF K hK
        replace hK := fun v w' (hN : NewT wx w') hv => hK v w' (RT.new (Nat.lt_of_lt_of_le hRl hT.size) hN) (fun k h => hN.row h) hv
        obtain ⟨f3, _⟩ := hF
        have f3 : a.tmps.getD 3 undef = .pointer (some ⟨R, 0, none⟩) := f3
        refine rely_wp rfl ?_
        exact opr_fldR (by decide) rfl f3 (hK _ _ (NewT.refl _) rfl)
      · intro a wx hT hF hJ K hK
        obtain ⟨f64, f57, _⟩ := hF
        have f64 : a.tmps.getD 64 undef = .pointer (some ⟨R, 3, none⟩) := f64
        have f57 : a.tmps.getD 57 undef = .int .i64 (x.step) := f57
        refine rely_wp rfl ?_
        refine opr_put1 rfl f64 f57 (show wx.rowIs R 27 109 (recF ({ zR with kind := x.kind, saga := x.saga, seq := x.seq }) (.slice none 0 0) (.slice none 0 0)) from hJ) (by decide) info_i1 rfl (fun i _ => rs_step ({ zR with kind := x.kind, saga := x.saga, seq := x.seq }) (.slice none 0 0) (.slice none 0 0) i _) ?_
        intro w' hT' hr'
        exact hK _ _ hT' hr' trivial
      · intro a wx hT hF K hK
        replace hK := fun v w' (hN : NewT wx w') hv => hK v w' (RT.new (Nat.lt_of_lt_of_le hRl hT.size) hN) (fun k h => hN.row h) hv
        obtain ⟨f3, _⟩ := hF
        have f3 : a.tmps.getD 3 undef = .pointer (some ⟨R, 0, none⟩) := f3
        refine rely_wp rfl ?_
        exact opr_fldR (by decide) rfl f3 (hK _ _ (NewT.refl _) rfl)
      · intro a wx hT hF hJ K hK
        obtain ⟨f65, f59, _⟩ := hF
        have f65 : a.tmps.getD 65 undef = .pointer (some ⟨R, 4, none⟩) := f65
        have f59 : a.tmps.getD 59 undef = .int .i64 (x.tr) := f59
        refine rely_wp rfl ?_
        refine opr_put1 rfl f65 f59 (show wx.rowIs R 27 109 (recF ({ zR with kind := x.kind, saga := x.saga, seq := x.seq, step := x.step }) (.slice none 0 0) (.slice none 0 0)) from hJ) (by decide) info_i1 rfl (fun i _ => rs_tr ({ zR with kind := x.kind, saga := x.saga, seq := x.seq, step := x.step }) (.slice none 0 0) (.slice none 0 0) i _) ?_
        intro w' hT' hr'
        exact hK _ _ hT' hr' trivial
      · intro a wx hT hF K hK
        replace hK := fun v w' (hN : NewT wx w') hv => hK v w' (RT.new (Nat.lt_of_lt_of_le hRl hT.size) hN) (fun k h => hN.row h) hv
        obtain ⟨f3, _⟩ := hF
        have f3 : a.tmps.getD 3 undef = .pointer (some ⟨R, 0, none⟩) := f3
        refine rely_wp rfl ?_
        exact opr_fldR (by decide) rfl f3 (hK _ _ (NewT.refl _) rfl)
      · intro e2 h2 hJ
        intro u h; obtain rfl := Eq.symm (h (by simp)); clear h
        intro u h; obtain rfl := Eq.symm (h (by simp)); clear h
        intro u h; obtain rfl := Eq.symm (h (by simp)); clear h
        intro u h; obtain rfl := Eq.symm (h (by simp)); clear h
        intro u h; obtain rfl := Eq.symm (h (by simp)); clear h
        intro u h; obtain rfl := Eq.symm (h (by simp)); clear h
        intro u h; obtain rfl := Eq.symm (h (by simp)); clear h
        intro u h; obtain rfl := Eq.symm (h (by simp)); clear h
        intro u h; obtain rfl := Eq.symm (h (by simp)); clear h
        intro u h; obtain rfl := Eq.symm (h (by simp)); clear h
        intro u h; obtain rfl := Eq.symm (h (by simp)); clear h
        intro _ _
        intro u h; obtain rfl := Eq.symm (h (by simp)); clear h
        intro _ _
        intro u h; obtain rfl := Eq.symm (h (by simp)); clear h
        intro _ _
        intro u h; obtain rfl := Eq.symm (h (by simp)); clear h
        intro _ _
        intro u h; obtain rfl := Eq.symm (h (by simp)); clear h
        refine relyEnd_nil rfl ?_
        simp only [Act.put, List.setIfInBounds_toArray, List.set_cons_zero, List.set_cons_succ]
        refine opr_put1 rfl rfl rfl (show e2.rowIs R 27 109 (recF ({ zR with kind := x.kind, saga := x.saga, seq := x.seq, step := x.step, tr := x.tr }) (.slice none 0 0) (.slice none 0 0)) from hJ) (by decide) info_b1 rfl (fun i _ => rs_back ({ zR with kind := x.kind, saga := x.saga, seq := x.seq, step := x.step, tr := x.tr }) (.slice none 0 0) (.slice none 0 0) i _) ?_
        intro e2s hT' hr'
        clear hJ
        go_simp
        have hRT := RT.trans _ _ _ h2 hT'
        go_upto_region 17 with fail
        refine wp_region_steps0 NewT [SV.eq (.agg (rowA 109 (recF ({ zR with kind := x.kind, saga := x.saga, seq := x.seq, step := x.step, tr := x.tr, back := x.back }) (.slice none 0 0) (.slice none 0 0))))] [([(3, none)], none)] 83 1 rfl rfl (by kernel_rfl) NewT.trans (NewT.refl _) (Nat.le_of_ble_eq_true rfl) ⟨?_, trivial⟩ ?_
        · intro a wx hT hF K hK
          obtain ⟨f3, _⟩ := hF
          have f3 : a.tmps.getD 3 undef = .pointer (some ⟨R, 0, none⟩) := f3
          refine rely_wp rfl ?_
          exact opr_ldR (hT.row hr') rfl f3 (hK _ _ (NewT.refl _) rfl)
        · intro wf hf
          intro u h; obtain rfl := Eq.symm (h (by simp)); clear h
          refine relyEnd_nil rfl ?_
          simp only [Act.put, List.setIfInBounds_toArray, List.set_cons_zero, List.set_cons_succ]
          refine wpList_plain rfl (fun K hK => ?_)
          refine opr_putm rfl rfl rfl (hf.row (hRT.row hne2 X2.out)) (by decide) info_rec (recF_one _ _ _ rfl rfl) (put_all _ _) ?_
          intro wq hTq rq
          refine hK _ _ ?_
          refine wpList_end rfl ?_
          go_simp
          go_wp2
          have hNq : NewT w wq := (NewT.trans _ _ _ (HN.out.rt hRT (by omega)) hf).rt hTq (by omega)
          refine bodyPost_ret (results_agg rfl _ rfl rq Tryd.underlying27 rfl info_rec) rfl ⟨_, rfl, hNq, ?_⟩
          rw [HO.out]
          exact ⟨.slice none 0 0, .slice none 0 0, rfl, rdP_nil _, rdV_nil _ _⟩
    have k2 := hk
    clear hk
    by_cases hk : x.kind = 4
    · have HO : Hid (onlyR x = { zR with kind := x.kind, saga := x.saga, seq := x.seq, step := x.step, tr := x.tr, back := x.back }) := Lib.hid (by unfold onlyR; simp only [hk]; simp)
      rw [hk] at c0
      go_upto_region 14 with fail
      clear c0
      refine wp_region_relyP (RT R) (fun k w => w.rowIs R 27 109 ((fun k => ([recF ({ zR with kind := x.kind }) (.slice none 0 0) (.slice none 0 0), recF ({ zR with kind := x.kind, saga := x.saga }) (.slice none 0 0) (.slice none 0 0), recF ({ zR with kind := x.kind, saga := x.saga, seq := x.seq }) (.slice none 0 0) (.slice none 0 0), recF ({ zR with kind := x.kind, saga := x.saga, seq := x.seq, step := x.step }) (.slice none 0 0) (.slice none 0 0)] : List (Nat → Value)).getD k (recF ({ zR with kind := x.kind, saga := x.saga, seq := x.seq, step := x.step, tr := x.tr }) (.slice none 0 0) (.slice none 0 0))) k)) [SV.eq (.pointer (some ⟨w.heap.size, 1, none⟩)), SV.eq (.int .i64 (x.saga)), SV.eq (.pointer (some ⟨w.heap.size, 2, none⟩)), SV.eq (.int .i64 (x.seq)), SV.eq (.pointer (some ⟨w.heap.size, 3, none⟩)), SV.eq (.int .i64 (x.step)), SV.eq (.pointer (some ⟨w.heap.size, 4, none⟩)), SV.eq (.int .i64 (x.tr)), SV.eq (.pointer (some ⟨w.heap.size, 5, none⟩)), SV.eq (.bool (x.back)), SV.eq (.pointer (some ⟨R, 1, none⟩)), SV.any, SV.eq (.pointer (some ⟨R, 2, none⟩)), SV.any, SV.eq (.pointer (some ⟨R, 3, none⟩)), SV.any, SV.eq (.pointer (some ⟨R, 4, none⟩)), SV.any, SV.eq (.pointer (some ⟨R, 5, none⟩))] [([(1, none)], none), ([(52, some 0)], none), ([(1, none)], none), ([(54, some 2)], none), ([(1, none)], none), ([(56, some 4)], none), ([(1, none)], none), ([(58, some 6)], none), ([(1, none)], none), ([(60, some 8)], none), ([(3, none)], none), ([(62, some 10), (53, some 1)], none), ([(3, none)], none), ([(63, some 12), (55, some 3)], none), ([(3, none)], none), ([(64, some 14), (57, some 5)], none), ([(3, none)], none), ([(65, some 16), (59, some 7)], none), ([(3, none)], none)] [none, none, none, none, none, none, none, none, none, none, none, some 0, none, some 1, none, some 2, none, some 3, none] [11, 13, 15, 17] 83 rfl (by kernel_rfl) rfl (by kernel_rfl) (by kernel_rfl) rfl (by kernel_rfl) RT.trans (RT.drew _ _) ((NewT.drew _).row X3.out) (Nat.le_of_ble_eq_true rfl) ⟨?_, ?_, ?_, ?_, ?_, ?_, ?_, ?_, ?_, ?_, ?_, ?_, ?_, ?_, ?_, ?_, ?_, ?_, ?_, trivial⟩ ?_
      · intro a wx hT hF K hK
        replace hK := fun v w' (hN : NewT wx w') hv => hK v w' (RT.new (Nat.lt_of_lt_of_le hRl hT.size) hN) (fun k h => hN.row h) hv
        obtain ⟨f1, _⟩ := hF
        have f1 : a.tmps.getD 1 undef = .pointer (some ⟨w.heap.size, 0, none⟩) := f1
        refine rely_wp rfl ?_
        exact opr_fldR (by decide) rfl f1 (hK _ _ (NewT.refl _) rfl)
      · intro a wx hT hF K hK
        replace hK := fun v w' (hN : NewT wx w') hv => hK v w' (RT.new (Nat.lt_of_lt_of_le hRl hT.size) hN) (fun k h => hN.row h) hv
        obtain ⟨f52, _⟩ := hF
        have f52 : a.tmps.getD 52 undef = .pointer (some ⟨w.heap.size, 1, none⟩) := f52
        refine rely_wp rfl ?_
        exact opr_ldI (hT.row hne1 X1.out) (by decide) rfl rfl f52 (hK _ _ (NewT.refl _) rfl)
      · intro a wx hT hF K hK
        replace hK := fun v w' (hN : NewT wx w') hv => hK v w' (RT.new (Nat.lt_of_lt_of_le hRl hT.size) hN) (fun k h => hN.row h) hv
        obtain ⟨f1, _⟩ := hF
        have f1 : a.tmps.getD 1 undef = .pointer (some ⟨w.heap.size, 0, none⟩) := f1
        refine rely_wp rfl ?_
        exact opr_fldR (by decide) rfl f1 (hK _ _ (NewT.refl _) rfl)
      · intro a wx hT hF K hK
        replace hK := fun v w' (hN : NewT wx w') hv => hK v w' (RT.new (Nat.lt_of_lt_of_le hRl hT.size) hN) (fun k h => hN.row h) hv
        obtain ⟨f54, _⟩ := hF
        have f54 : a.tmps.getD 54 undef = .pointer (some ⟨w.heap.size, 2, none⟩) := f54
        refine rely_wp rfl ?_
        exact opr_ldI (hT.row hne1 X1.out) (by decide) rfl rfl f54 (hK _ _ (NewT.refl _) rfl)
      · intro a wx hT hF K hK
        replace hK := fun v w' (hN : NewT wx w') hv => hK v w' (RT.new (Nat.lt_of_lt_of_le hRl hT.size) hN) (fun k h => hN.row h) hv
        obtain ⟨f1, _⟩ := hF
        have f1 : a.tmps.getD 1 undef = .pointer (some ⟨w.heap.size, 0, none⟩) := f1
        refine rely_wp rfl ?_
        exact opr_fldR (by decide) rfl f1 (hK _ _ (NewT.refl _) rfl)
      · intro a wx hT hF K hK
        replace hK := fun v w' (hN : NewT wx w') hv => hK v w' (RT.new (Nat.lt_of_lt_of_le hRl hT.size) hN) (fun k h => hN.row h) hv
        obtain ⟨f56, _⟩ := hF
        have f56 : a.tmps.getD 56 undef = .pointer (some ⟨w.heap.size, 3, none⟩) := f56
        refine rely_wp rfl ?_
        exact opr_ldI (hT.row hne1 X1.out) (by decide) rfl rfl f56 (hK _ _ (NewT.refl _) rfl)
      · intro a wx hT hF K hK
        replace hK := fun v w' (hN : NewT wx w') hv => hK v w' (RT.new (Nat.lt_of_lt_of_le hRl hT.size) hN) (fun k h => hN.row h) hv
        obtain ⟨f1, _⟩ := hF
        have f1 : a.tmps.getD 1 undef = .pointer (some ⟨w.heap.size, 0, none⟩) := f1
        refine rely_wp rfl ?_
        exact opr_fldR (by decide) rfl f1 (hK _ _ (NewT.refl _) rfl)
      · intro a wx hT hF K hK
        replace hK := fun v w' (hN : NewT wx w') hv => hK v w' (RT.new (Nat.lt_of_lt_of_le hRl hT.size) hN) (fun k h => hN.row h) hv
        obtain ⟨f58, _⟩ := hF
        have f58 : a.tmps.getD 58 undef = .pointer (some ⟨w.heap.size, 4, none⟩) := f58
        refine rely_wp rfl ?_
        exact opr_ldI (hT.row hne1 X1.out) (by decide) rfl rfl f58 (hK _ _ (NewT.refl _) rfl)
      · intro a wx hT hF K hK
        replace hK := fun v w' (hN : NewT wx w') hv => hK v w' (RT.new (Nat.lt_of_lt_of_le hRl hT.size) hN) (fun k h => hN.row h) hv
        obtain ⟨f1, _⟩ := hF
        have f1 : a.tmps.getD 1 undef = .pointer (some ⟨w.heap.size, 0, none⟩) := f1
        refine rely_wp rfl ?_
        exact opr_fldR (by decide) rfl f1 (hK _ _ (NewT.refl _) rfl)
      · intro a wx hT hF K hK
        replace hK := fun v w' (hN : NewT wx w') hv => hK v w' (RT.new (Nat.lt_of_lt_of_le hRl hT.size) hN) (fun k h => hN.row h) hv
        obtain ⟨f60, _⟩ := hF
        have f60 : a.tmps.getD 60 undef = .pointer (some ⟨w.heap.size, 5, none⟩) := f60
        refine rely_wp rfl ?_
        exact opr_ldQ (hT.row hne1 X1.out) (by decide) rfl rfl f60 (hK _ _ (NewT.refl _) rfl)
      · intro a wx hT hF K hK
        replace hK := fun v w' (hN : NewT wx w') hv => hK v w' (RT.new (Nat.lt_of_lt_of_le hRl hT.size) hN) (fun k h => hN.row h) hv
        obtain ⟨f3, _⟩ := hF
        have f3 : a.tmps.getD 3 undef = .pointer (some ⟨R, 0, none⟩) := f3
        refine rely_wp rfl ?_
        exact opr_fldR (by decide) rfl f3 (hK _ _ (NewT.refl _) rfl)
      · intro a wx hT hF hJ K hK
        obtain ⟨f62, f53, _⟩ := hF
        have f62 : a.tmps.getD 62 undef = .pointer (some ⟨R, 1, none⟩) := f62
        have f53 : a.tmps.getD 53 undef = .int .i64 (x.saga) := f53
        refine rely_wp rfl ?_
        refine opr_put1 rfl f62 f53 (show wx.rowIs R 27 109 (recF ({ zR with kind := x.kind }) (.slice none 0 0) (.slice none 0 0)) from hJ) (by decide) info_i1 rfl (fun i _ => rs_saga ({ zR with kind := x.kind }) (.slice none 0 0) (.slice none 0 0) i _) ?_
        intro w' hT' hr'
        exact hK _ _ hT' hr' trivial
      · intro a wx hT hF K hK
        replace hK := fun v w' (hN : NewT wx w') hv => hK v w' (RT.new (Nat.lt_of_lt_of_le hRl hT.size) hN) (fun k h => hN.row h) hv
        obtain ⟨f3, _⟩ := hF
        have f3 : a.tmps.getD 3 undef = .pointer (some ⟨R, 0, none⟩) := f3
        refine rely_wp rfl ?_
        exact opr_fldR (by decide) rfl f3 (hK _ _ (NewT.refl _) rfl)
      · intro a wx hT hF hJ K hK
        obtain ⟨f63, f55, _⟩ := hF
        have f63 : a.tmps.getD 63 undef = .pointer (some ⟨R, 2, none⟩) := f63
        have f55 : a.tmps.getD 55 undef = .int .i64 (x.seq) := f55
        refine rely_wp rfl ?_
        refine opr_put1 rfl f63 f55 (show wx.rowIs R 27 109 (recF ({ zR with kind := x.kind, saga := x.saga }) (.slice none 0 0) (.slice none 0 0)) from hJ) (by decide) info_i1 rfl (fun i _ => rs_seq ({ zR with kind := x.kind, saga := x.saga }) (.slice none 0 0) (.slice none 0 0) i _) ?_
        intro w' hT' hr'
        exact hK _ _ hT' hr' trivial
      · intro a wx hT hF K hK
        replace hK := fun v w' (hN : NewT wx w') hv => hK v w' (RT.new (Nat.lt_of_lt_of_le hRl hT.size) hN) (fun k h => hN.row h) hv
        obtain ⟨f3, _⟩ := hF
        have f3 : a.tmps.getD 3 undef = .pointer (some ⟨R, 0, none⟩) := f3
        refine rely_wp rfl ?_
        exact opr_fldR (by decide) rfl f3 (hK _ _ (NewT.refl _) rfl)
      · intro a wx hT hF hJ K hK
        obtain ⟨f64, f57, _⟩ := hF
        have f64 : a.tmps.getD 64 undef = .pointer (some ⟨R, 3, none⟩) := f64
        have f57 : a.tmps.getD 57 undef = .int .i64 (x.step) := f57
        refine rely_wp rfl ?_
        refine opr_put1 rfl f64 f57 (show wx.rowIs R 27 109 (recF ({ zR with kind := x.kind, saga := x.saga, seq := x.seq }) (.slice none 0 0) (.slice none 0 0)) from hJ) (by decide) info_i1 rfl (fun i _ => rs_step ({ zR with kind := x.kind, saga := x.saga, seq := x.seq }) (.slice none 0 0) (.slice none 0 0) i _) ?_
        intro w' hT' hr'
        exact hK _ _ hT' hr' trivial
      · intro a wx hT hF K hK
        replace hK := fun v w' (hN : NewT wx w') hv => hK v w' (RT.new (Nat.lt_of_lt_of_le hRl hT.size) hN) (fun k h => hN.row h) hv
        obtain ⟨f3, _⟩ := hF
        have f3 : a.tmps.getD 3 undef = .pointer (some ⟨R, 0, none⟩) := f3
        refine rely_wp rfl ?_
        exact opr_fldR (by decide) rfl f3 (hK _ _ (NewT.refl _) rfl)
      · intro a wx hT hF hJ K hK
        obtain ⟨f65, f59, _⟩ := hF
        have f65 : a.tmps.getD 65 undef = .pointer (some ⟨R, 4, none⟩) := f65
        have f59 : a.tmps.getD 59 undef = .int .i64 (x.tr) := f59
        refine rely_wp rfl ?_
        refine opr_put1 rfl f65 f59 (show wx.rowIs R 27 109 (recF ({ zR with kind := x.kind, saga := x.saga, seq := x.seq, step := x.step }) (.slice none 0 0) (.slice none 0 0)) from hJ) (by decide) info_i1 rfl (fun i _ => rs_tr ({ zR with kind := x.kind, saga := x.saga, seq := x.seq, step := x.step }) (.slice none 0 0) (.slice none 0 0) i _) ?_
        intro w' hT' hr'
        exact hK _ _ hT' hr' trivial
      · intro a wx hT hF K hK
        replace hK := fun v w' (hN : NewT wx w') hv => hK v w' (RT.new (Nat.lt_of_lt_of_le hRl hT.size) hN) (fun k h => hN.row h) hv
        obtain ⟨f3, _⟩ := hF
        have f3 : a.tmps.getD 3 undef = .pointer (some ⟨R, 0, none⟩) := f3
        refine rely_wp rfl ?_
        exact opr_fldR (by decide) rfl f3 (hK _ _ (NewT.refl _) rfl)
      · intro e4 h4 hJ
        intro u h; obtain rfl := Eq.symm (h (by simp)); clear h
        intro u h; obtain rfl := Eq.symm (h (by simp)); clear h
        intro u h; obtain rfl := Eq.symm (h (by simp)); clear h
        intro u h; obtain rfl := Eq.symm (h (by simp)); clear h
        intro u h; obtain rfl := Eq.symm (h (by simp)); clear h
        intro u h; obtain rfl := Eq.symm (h (by simp)); clear h
        intro u h; obtain rfl := Eq.symm (h (by simp)); clear h
        intro u h; obtain rfl := Eq.symm (h (by simp)); clear h
        intro u h; obtain rfl := Eq.symm (h (by simp)); clear h
        intro u h; obtain rfl := Eq.symm (h (by simp)); clear h
        intro u h; obtain rfl := Eq.symm (h (by simp)); clear h
        intro _ _
        intro u h; obtain rfl := Eq.symm (h (by simp)); clear h
        intro _ _
        intro u h; obtain rfl := Eq.symm (h (by simp)); clear h
        intro _ _
        intro u h; obtain rfl := Eq.symm (h (by simp)); clear h
        intro _ _
        intro u h; obtain rfl := Eq.symm (h (by simp)); clear h
        refine relyEnd_nil rfl ?_
        simp only [Act.put, List.setIfInBounds_toArray, List.set_cons_zero, List.set_cons_succ]
        refine opr_put1 rfl rfl rfl (show e4.rowIs R 27 109 (recF ({ zR with kind := x.kind, saga := x.saga, seq := x.seq, step := x.step, tr := x.tr }) (.slice none 0 0) (.slice none 0 0)) from hJ) (by decide) info_b1 rfl (fun i _ => rs_back ({ zR with kind := x.kind, saga := x.saga, seq := x.seq, step := x.step, tr := x.tr }) (.slice none 0 0) (.slice none 0 0) i _) ?_
        intro e4s hT' hr'
        clear hJ
        go_simp
        have hRT := RT.trans _ _ _ h4 hT'
        go_upto_region 17 with fail
        refine wp_region_steps0 NewT [SV.eq (.agg (rowA 109 (recF ({ zR with kind := x.kind, saga := x.saga, seq := x.seq, step := x.step, tr := x.tr, back := x.back }) (.slice none 0 0) (.slice none 0 0))))] [([(3, none)], none)] 83 1 rfl rfl (by kernel_rfl) NewT.trans (NewT.refl _) (Nat.le_of_ble_eq_true rfl) ⟨?_, trivial⟩ ?_
        · intro a wx hT hF K hK
          obtain ⟨f3, _⟩ := hF
          have f3 : a.tmps.getD 3 undef = .pointer (some ⟨R, 0, none⟩) := f3
          refine rely_wp rfl ?_
          exact opr_ldR (hT.row hr') rfl f3 (hK _ _ (NewT.refl _) rfl)
        · intro wf hf
          intro u h; obtain rfl := Eq.symm (h (by simp)); clear h
          refine relyEnd_nil rfl ?_
          simp only [Act.put, List.setIfInBounds_toArray, List.set_cons_zero, List.set_cons_succ]
          refine wpList_plain rfl (fun K hK => ?_)
          refine opr_putm rfl rfl rfl (hf.row (hRT.row hne2 X2.out)) (by decide) info_rec (recF_one _ _ _ rfl rfl) (put_all _ _) ?_
          intro wq hTq rq
          refine hK _ _ ?_
          refine wpList_end rfl ?_
          go_simp
          go_wp2
          have hNq : NewT w wq := (NewT.trans _ _ _ (HN.out.rt hRT (by omega)) hf).rt hTq (by omega)
          refine bodyPost_ret (results_agg rfl _ rfl rq Tryd.underlying27 rfl info_rec) rfl ⟨_, rfl, hNq, ?_⟩
          rw [HO.out]
          exact ⟨.slice none 0 0, .slice none 0 0, rfl, rdP_nil _, rdV_nil _ _⟩
    have k4 := hk
    clear hk
    by_cases hk : x.kind = 5
    · have HO : Hid (onlyR x = { zR with kind := x.kind, saga := x.saga, seq := x.seq, nd := x.nd }) := Lib.hid (by unfold onlyR; simp only [hk]; simp)
      rw [hk] at c0
      go_upto_region 15 with fail
      clear c0
      refine wp_region_relyP (RT R) (fun k w => w.rowIs R 27 109 ((fun k => ([recF ({ zR with kind := x.kind }) (.slice none 0 0) (.slice none 0 0), recF ({ zR with kind := x.kind, saga := x.saga }) (.slice none 0 0) (.slice none 0 0)] : List (Nat → Value)).getD k (recF ({ zR with kind := x.kind, saga := x.saga, seq := x.seq }) (.slice none 0 0) (.slice none 0 0))) k)) [SV.eq (.pointer (some ⟨w.heap.size, 1, none⟩)), SV.eq (.int .i64 (x.saga)), SV.eq (.pointer (some ⟨w.heap.size, 2, none⟩)), SV.eq (.int .i64 (x.seq)), SV.eq (.pointer (some ⟨w.heap.size, 7, none⟩)), SV.eq (.int .i64 (x.nd)), SV.eq (.pointer (some ⟨R, 1, none⟩)), SV.any, SV.eq (.pointer (some ⟨R, 2, none⟩)), SV.any, SV.eq (.pointer (some ⟨R, 7, none⟩))] [([(1, none)], none), ([(67, some 0)], none), ([(1, none)], none), ([(69, some 2)], none), ([(1, none)], none), ([(71, some 4)], none), ([(3, none)], none), ([(73, some 6), (68, some 1)], none), ([(3, none)], none), ([(74, some 8), (70, some 3)], none), ([(3, none)], none)] [none, none, none, none, none, none, none, some 0, none, some 1, none] [7, 9] 83 rfl (by kernel_rfl) rfl (by kernel_rfl) (by kernel_rfl) rfl (by kernel_rfl) RT.trans (RT.drew _ _) ((NewT.drew _).row X3.out) (Nat.le_of_ble_eq_true rfl) ⟨?_, ?_, ?_, ?_, ?_, ?_, ?_, ?_, ?_, ?_, ?_, trivial⟩ ?_
      · intro a wx hT hF K hK
        replace hK := fun v w' (hN : NewT wx w') hv => hK v w' (RT.new (Nat.lt_of_lt_of_le hRl hT.size) hN) (fun k h => hN.row h) hv
        obtain ⟨f1, _⟩ := hF
        have f1 : a.tmps.getD 1 undef = .pointer (some ⟨w.heap.size, 0, none⟩) := f1
        refine rely_wp rfl ?_
        exact opr_fldR (by decide) rfl f1 (hK _ _ (NewT.refl _) rfl)
      · intro a wx hT hF K hK
        replace hK := fun v w' (hN : NewT wx w') hv => hK v w' (RT.new (Nat.lt_of_lt_of_le hRl hT.size) hN) (fun k h => hN.row h) hv
        obtain ⟨f67, _⟩ := hF
        have f67 : a.tmps.getD 67 undef = .pointer (some ⟨w.heap.size, 1, none⟩) := f67
        refine rely_wp rfl ?_
        exact opr_ldI (hT.row hne1 X1.out) (by decide) rfl rfl f67 (hK _ _ (NewT.refl _) rfl)
      · intro a wx hT hF K hK
        replace hK := fun v w' (hN : NewT wx w') hv => hK v w' (RT.new (Nat.lt_of_lt_of_le hRl hT.size) hN) (fun k h => hN.row h) hv
        obtain ⟨f1, _⟩ := hF
        have f1 : a.tmps.getD 1 undef = .pointer (some ⟨w.heap.size, 0, none⟩) := f1
        refine rely_wp rfl ?_
        exact opr_fldR (by decide) rfl f1 (hK _ _ (NewT.refl _) rfl)
      · intro a wx hT hF K hK
        replace hK := fun v w' (hN : NewT wx w') hv => hK v w' (RT.new (Nat.lt_of_lt_of_le hRl hT.size) hN) (fun k h => hN.row h) hv
        obtain ⟨f69, _⟩ := hF
        have f69 : a.tmps.getD 69 undef = .pointer (some ⟨w.heap.size, 2, none⟩) := f69
        refine rely_wp rfl ?_
        exact opr_ldI (hT.row hne1 X1.out) (by decide) rfl rfl f69 (hK _ _ (NewT.refl _) rfl)
      · intro a wx hT hF K hK
        replace hK := fun v w' (hN : NewT wx w') hv => hK v w' (RT.new (Nat.lt_of_lt_of_le hRl hT.size) hN) (fun k h => hN.row h) hv
        obtain ⟨f1, _⟩ := hF
        have f1 : a.tmps.getD 1 undef = .pointer (some ⟨w.heap.size, 0, none⟩) := f1
        refine rely_wp rfl ?_
        exact opr_fldR (by decide) rfl f1 (hK _ _ (NewT.refl _) rfl)
      · intro a wx hT hF K hK
        replace hK := fun v w' (hN : NewT wx w') hv => hK v w' (RT.new (Nat.lt_of_lt_of_le hRl hT.size) hN) (fun k h => hN.row h) hv
        obtain ⟨f71, _⟩ := hF
        have f71 : a.tmps.getD 71 undef = .pointer (some ⟨w.heap.size, 7, none⟩) := f71
        refine rely_wp rfl ?_
        exact opr_ldI (hT.row hne1 X1.out) (by decide) rfl rfl f71 (hK _ _ (NewT.refl _) rfl)
      · intro a wx hT hF K hK
        replace hK := fun v w' (hN : NewT wx w') hv => hK v w' (RT.new (Nat.lt_of_lt_of_le hRl hT.size) hN) (fun k h => hN.row h) hv
        obtain ⟨f3, _⟩ := hF
        have f3 : a.tmps.getD 3 undef = .pointer (some ⟨R, 0, none⟩) := f3
        refine rely_wp rfl ?_
        exact opr_fldR (by decide) rfl f3 (hK _ _ (NewT.refl _) rfl)
      · intro a wx hT hF hJ K hK
        obtain ⟨f73, f68, _⟩ := hF
        have f73 : a.tmps.getD 73 undef = .pointer (some ⟨R, 1, none⟩) := f73
        have f68 : a.tmps.getD 68 undef = .int .i64 (x.saga) := f68
        refine rely_wp rfl ?_
        refine opr_put1 rfl f73 f68 (show wx.rowIs R 27 109 (recF ({ zR with kind := x.kind }) (.slice none 0 0) (.slice none 0 0)) from hJ) (by decide) info_i1 rfl (fun i _ => rs_saga ({ zR with kind := x.kind }) (.slice none 0 0) (.slice none 0 0) i _) ?_
        intro w' hT' hr'
        exact hK _ _ hT' hr' trivial
      · intro a wx hT hF K hK
        replace hK := fun v w' (hN : NewT wx w') hv => hK v w' (RT.new (Nat.lt_of_lt_of_le hRl hT.size) hN) (fun k h => hN.row h) hv
        obtain ⟨f3, _⟩ := hF
        have f3 : a.tmps.getD 3 undef = .pointer (some ⟨R, 0, none⟩) := f3
        refine rely_wp rfl ?_
        exact opr_fldR (by decide) rfl f3 (hK _ _ (NewT.refl _) rfl)
      · intro a wx hT hF hJ K hK
        obtain ⟨f74, f70, _⟩ := hF
        have f74 : a.tmps.getD 74 undef = .pointer (some ⟨R, 2, none⟩) := f74
        have f70 : a.tmps.getD 70 undef = .int .i64 (x.seq) := f70
        refine rely_wp rfl ?_
        refine opr_put1 rfl f74 f70 (show wx.rowIs R 27 109 (recF ({ zR with kind := x.kind, saga := x.saga }) (.slice none 0 0) (.slice none 0 0)) from hJ) (by decide) info_i1 rfl (fun i _ => rs_seq ({ zR with kind := x.kind, saga := x.saga }) (.slice none 0 0) (.slice none 0 0) i _) ?_
        intro w' hT' hr'
        exact hK _ _ hT' hr' trivial
      · intro a wx hT hF K hK
        replace hK := fun v w' (hN : NewT wx w') hv => hK v w' (RT.new (Nat.lt_of_lt_of_le hRl hT.size) hN) (fun k h => hN.row h) hv
        obtain ⟨f3, _⟩ := hF
        have f3 : a.tmps.getD 3 undef = .pointer (some ⟨R, 0, none⟩) := f3
        refine rely_wp rfl ?_
        exact opr_fldR (by decide) rfl f3 (hK _ _ (NewT.refl _) rfl)
      · intro e5 h5 hJ
        intro u h; obtain rfl := Eq.symm (h (by simp)); clear h
        intro u h; obtain rfl := Eq.symm (h (by simp)); clear h
        intro u h; obtain rfl := Eq.symm (h (by simp)); clear h
        intro u h; obtain rfl := Eq.symm (h (by simp)); clear h
        intro u h; obtain rfl := Eq.symm (h (by simp)); clear h
        intro u h; obtain rfl := Eq.symm (h (by simp)); clear h
        intro u h; obtain rfl := Eq.symm (h (by simp)); clear h
        intro _ _
        intro u h; obtain rfl := Eq.symm (h (by simp)); clear h
        intro _ _
        intro u h; obtain rfl := Eq.symm (h (by simp)); clear h
        refine relyEnd_nil rfl ?_
        simp only [Act.put, List.setIfInBounds_toArray, List.set_cons_zero, List.set_cons_succ]
        refine opr_put1 rfl rfl rfl (show e5.rowIs R 27 109 (recF ({ zR with kind := x.kind, saga := x.saga, seq := x.seq }) (.slice none 0 0) (.slice none 0 0)) from hJ) (by decide) info_i1 rfl (fun i _ => rs_nd ({ zR with kind := x.kind, saga := x.saga, seq := x.seq }) (.slice none 0 0) (.slice none 0 0) i _) ?_
        intro e5s hT' hr'
        clear hJ
        go_simp
        have hRT := RT.trans _ _ _ h5 hT'
        go_upto_region 17 with fail
        refine wp_region_steps0 NewT [SV.eq (.agg (rowA 109 (recF ({ zR with kind := x.kind, saga := x.saga, seq := x.seq, nd := x.nd }) (.slice none 0 0) (.slice none 0 0))))] [([(3, none)], none)] 83 1 rfl rfl (by kernel_rfl) NewT.trans (NewT.refl _) (Nat.le_of_ble_eq_true rfl) ⟨?_, trivial⟩ ?_
        · intro a wx hT hF K hK
          obtain ⟨f3, _⟩ := hF
          have f3 : a.tmps.getD 3 undef = .pointer (some ⟨R, 0, none⟩) := f3
          refine rely_wp rfl ?_
          exact opr_ldR (hT.row hr') rfl f3 (hK _ _ (NewT.refl _) rfl)
        · intro wf hf
          intro u h; obtain rfl := Eq.symm (h (by simp)); clear h
          refine relyEnd_nil rfl ?_
          simp only [Act.put, List.setIfInBounds_toArray, List.set_cons_zero, List.set_cons_succ]
          refine wpList_plain rfl (fun K hK => ?_)
          refine opr_putm rfl rfl rfl (hf.row (hRT.row hne2 X2.out)) (by decide) info_rec (recF_one _ _ _ rfl rfl) (put_all _ _) ?_
          intro wq hTq rq
          refine hK _ _ ?_
          refine wpList_end rfl ?_
          go_simp
          go_wp2
          have hNq : NewT w wq := (NewT.trans _ _ _ (HN.out.rt hRT (by omega)) hf).rt hTq (by omega)
          refine bodyPost_ret (results_agg rfl _ rfl rq Tryd.underlying27 rfl info_rec) rfl ⟨_, rfl, hNq, ?_⟩
          rw [HO.out]
          exact ⟨.slice none 0 0, .slice none 0 0, rfl, rdP_nil _, rdV_nil _ _⟩
    have k5 := hk
    clear hk
    by_cases hk : x.kind = 6
    · have HO : Hid (onlyR x = { zR with kind := x.kind, part := x.part, epoch := x.epoch }) := Lib.hid (by unfold onlyR; simp only [hk]; simp)
      rw [hk] at c0
      go_upto_region 16 with fail
      clear c0
      refine wp_region_relyP (RT R) (fun k w => w.rowIs R 27 109 ((fun k => ([recF ({ zR with kind := x.kind }) (.slice none 0 0) (.slice none 0 0)] : List (Nat → Value)).getD k (recF ({ zR with kind := x.kind, part := x.part }) (.slice none 0 0) (.slice none 0 0))) k)) [SV.eq (.pointer (some ⟨w.heap.size, 8, none⟩)), SV.eq (.int .i64 (x.part)), SV.eq (.pointer (some ⟨w.heap.size, 9, none⟩)), SV.eq (.int .i64 (x.epoch)), SV.eq (.pointer (some ⟨R, 8, none⟩)), SV.any, SV.eq (.pointer (some ⟨R, 9, none⟩))] [([(1, none)], none), ([(76, some 0)], none), ([(1, none)], none), ([(78, some 2)], none), ([(3, none)], none), ([(80, some 4), (77, some 1)], none), ([(3, none)], none)] [none, none, none, none, none, some 0, none] [5] 83 rfl (by kernel_rfl) rfl (by kernel_rfl) (by kernel_rfl) rfl (by kernel_rfl) RT.trans (RT.drew _ _) ((NewT.drew _).row X3.out) (Nat.le_of_ble_eq_true rfl) ⟨?_, ?_, ?_, ?_, ?_, ?_, ?_, trivial⟩ ?_
      · intro a wx hT hF K hK
        replace hK := fun v w' (hN : NewT wx w') hv => hK v w' (RT.new (Nat.lt_of_lt_of_le hRl hT.size) hN) (fun k h => hN.row h) hv
        obtain ⟨f1, _⟩ := hF
        have f1 : a.tmps.getD 1 undef = .pointer (some ⟨w.heap.size, 0, none⟩) := f1
        refine rely_wp rfl ?_
        exact opr_fldR (by decide) rfl f1 (hK _ _ (NewT.refl _) rfl)
      · intro a wx hT hF K hK
        replace hK := fun v w' (hN : NewT wx w') hv => hK v w' (RT.new (Nat.lt_of_lt_of_le hRl hT.size) hN) (fun k h => hN.row h) hv
        obtain ⟨f76, _⟩ := hF
        have f76 : a.tmps.getD 76 undef = .pointer (some ⟨w.heap.size, 8, none⟩) := f76
        refine rely_wp rfl ?_
        exact opr_ldI (hT.row hne1 X1.out) (by decide) rfl rfl f76 (hK _ _ (NewT.refl _) rfl)
      · intro a wx hT hF K hK
        replace hK := fun v w' (hN : NewT wx w') hv => hK v w' (RT.new (Nat.lt_of_lt_of_le hRl hT.size) hN) (fun k h => hN.row h) hv
        obtain ⟨f1, _⟩ := hF
        have f1 : a.tmps.getD 1 undef = .pointer (some ⟨w.heap.size, 0, none⟩) := f1
        refine rely_wp rfl ?_
        exact opr_fldR (by decide) rfl f1 (hK _ _ (NewT.refl _) rfl)
      · intro a wx hT hF K hK
        replace hK := fun v w' (hN : NewT wx w') hv => hK v w' (RT.new (Nat.lt_of_lt_of_le hRl hT.size) hN) (fun k h => hN.row h) hv
        obtain ⟨f78, _⟩ := hF
        have f78 : a.tmps.getD 78 undef = .pointer (some ⟨w.heap.size, 9, none⟩) := f78
        refine rely_wp rfl ?_
        exact opr_ldI (hT.row hne1 X1.out) (by decide) rfl rfl f78 (hK _ _ (NewT.refl _) rfl)
      · intro a wx hT hF K hK
        replace hK := fun v w' (hN : NewT wx w') hv => hK v w' (RT.new (Nat.lt_of_lt_of_le hRl hT.size) hN) (fun k h => hN.row h) hv
        obtain ⟨f3, _⟩ := hF
        have f3 : a.tmps.getD 3 undef = .pointer (some ⟨R, 0, none⟩) := f3
        refine rely_wp rfl ?_
        exact opr_fldR (by decide) rfl f3 (hK _ _ (NewT.refl _) rfl)
      · intro a wx hT hF hJ K hK
        obtain ⟨f80, f77, _⟩ := hF
        have f80 : a.tmps.getD 80 undef = .pointer (some ⟨R, 8, none⟩) := f80
        have f77 : a.tmps.getD 77 undef = .int .i64 (x.part) := f77
        refine rely_wp rfl ?_
        refine opr_put1 rfl f80 f77 (show wx.rowIs R 27 109 (recF ({ zR with kind := x.kind }) (.slice none 0 0) (.slice none 0 0)) from hJ) (by decide) info_i1 rfl (fun i _ => rs_part ({ zR with kind := x.kind }) (.slice none 0 0) (.slice none 0 0) i _) ?_
        intro w' hT' hr'
        exact hK _ _ hT' hr' trivial
      · intro a wx hT hF K hK
        replace hK := fun v w' (hN : NewT wx w') hv => hK v w' (RT.new (Nat.lt_of_lt_of_le hRl hT.size) hN) (fun k h => hN.row h) hv
        obtain ⟨f3, _⟩ := hF
        have f3 : a.tmps.getD 3 undef = .pointer (some ⟨R, 0, none⟩) := f3
        refine rely_wp rfl ?_
        exact opr_fldR (by decide) rfl f3 (hK _ _ (NewT.refl _) rfl)
      · intro e6 h6 hJ
        intro u h; obtain rfl := Eq.symm (h (by simp)); clear h
        intro u h; obtain rfl := Eq.symm (h (by simp)); clear h
        intro u h; obtain rfl := Eq.symm (h (by simp)); clear h
        intro u h; obtain rfl := Eq.symm (h (by simp)); clear h
        intro u h; obtain rfl := Eq.symm (h (by simp)); clear h
        intro _ _
        intro u h; obtain rfl := Eq.symm (h (by simp)); clear h
        refine relyEnd_nil rfl ?_
        simp only [Act.put, List.setIfInBounds_toArray, List.set_cons_zero, List.set_cons_succ]
        refine opr_put1 rfl rfl rfl (show e6.rowIs R 27 109 (recF ({ zR with kind := x.kind, part := x.part }) (.slice none 0 0) (.slice none 0 0)) from hJ) (by decide) info_i1 rfl (fun i _ => rs_epoch ({ zR with kind := x.kind, part := x.part }) (.slice none 0 0) (.slice none 0 0) i _) ?_
        intro e6s hT' hr'
        clear hJ
        go_simp
        have hRT := RT.trans _ _ _ h6 hT'
        go_upto_region 17 with fail
        refine wp_region_steps0 NewT [SV.eq (.agg (rowA 109 (recF ({ zR with kind := x.kind, part := x.part, epoch := x.epoch }) (.slice none 0 0) (.slice none 0 0))))] [([(3, none)], none)] 83 1 rfl rfl (by kernel_rfl) NewT.trans (NewT.refl _) (Nat.le_of_ble_eq_true rfl) ⟨?_, trivial⟩ ?_
        · intro a wx hT hF K hK
          obtain ⟨f3, _⟩ := hF
          have f3 : a.tmps.getD 3 undef = .pointer (some ⟨R, 0, none⟩) := f3
          refine rely_wp rfl ?_
          exact opr_ldR (hT.row hr') rfl f3 (hK _ _ (NewT.refl _) rfl)
        · intro wf hf
          intro u h; obtain rfl := Eq.symm (h (by simp)); clear h
          refine relyEnd_nil rfl ?_
          simp only [Act.put, List.setIfInBounds_toArray, List.set_cons_zero, List.set_cons_succ]
          refine wpList_plain rfl (fun K hK => ?_)
          refine opr_putm rfl rfl rfl (hf.row (hRT.row hne2 X2.out)) (by decide) info_rec (recF_one _ _ _ rfl rfl) (put_all _ _) ?_
          intro wq hTq rq
          refine hK _ _ ?_
          refine wpList_end rfl ?_
          go_simp
          go_wp2
          have hNq : NewT w wq := (NewT.trans _ _ _ (HN.out.rt hRT (by omega)) hf).rt hTq (by omega)
          refine bodyPost_ret (results_agg rfl _ rfl rq Tryd.underlying27 rfl info_rec) rfl ⟨_, rfl, hNq, ?_⟩
          rw [HO.out]
          exact ⟨.slice none 0 0, .slice none 0 0, rfl, rdP_nil _, rdV_nil _ _⟩
    have k6 := hk
    clear hk
    have HO : Hid (onlyR x = { zR with kind := x.kind }) := Lib.hid (by unfold onlyR; simp [k1, k2, k3, k4, k5, k6])
    have q1 : (x.kind == 1) = false := by simpa using k1
    have q2 : (x.kind == 2) = false := by simpa using k2
    have q3 : (x.kind == 3) = false := by simpa using k3
    have q4 : (x.kind == 4) = false := by simpa using k4
    have q5 : (x.kind == 5) = false := by simpa using k5
    have q6 : (x.kind == 6) = false := by simpa using k6
    clear k1 k2 k3 k4 k5 k6
    go_upto_region 17 with fail
    refine wp_region_steps0 NewT [SV.eq (.agg (rowA 109 (recF ({ zR with kind := x.kind }) (.slice none 0 0) (.slice none 0 0))))] [([(3, none)], none)] 83 1 rfl rfl (by kernel_rfl) NewT.trans (NewT.refl _) (Nat.le_of_ble_eq_true rfl) ⟨?_, trivial⟩ ?_
    · intro a wx hT hF K hK
      obtain ⟨f3, _⟩ := hF
      have f3 : a.tmps.getD 3 undef = .pointer (some ⟨R, 0, none⟩) := f3
      refine rely_wp rfl ?_
      exact opr_ldR (hT.row X3.out) rfl f3 (hK _ _ (NewT.refl _) rfl)
    · intro wf hf
      intro u h; obtain rfl := Eq.symm (h (by simp)); clear h
      refine relyEnd_nil rfl ?_
      simp only [Act.put, List.setIfInBounds_toArray, List.set_cons_zero, List.set_cons_succ]
      refine wpList_plain rfl (fun K hK => ?_)
      refine opr_putm rfl rfl rfl (hf.row X2.out) (by decide) info_rec (recF_one _ _ _ rfl rfl) (put_all _ _) ?_
      intro wq hTq rq
      refine hK _ _ ?_
      refine wpList_end rfl ?_
      go_simp
      go_wp2
      have hNq : NewT w wq := (NewT.trans _ _ _ (HN.out) hf).rt hTq (by omega)
      refine bodyPost_ret (results_agg rfl _ rfl rq Tryd.underlying27 rfl info_rec) rfl ⟨_, rfl, hNq, ?_⟩
      rw [HO.out]
      exact ⟨.slice none 0 0, .slice none 0 0, rfl, rdP_nil _, rdV_nil _ _⟩
end Go.Proofs.YthgblcpekhiphaaDoor
/- Package rec: Right; commitments. -/
namespace Go.Proofs.YthgblcpekhiphaaDoor
open Go Go.RowKit
set_option maxRecDepth 8000
set_option maxHeartbeats 1000000 in
theorem Right_cv (v : Value) (x : Rc) (w : World) (h : RecV w v x) : Cv 11 #[v] w (.eq (.bool (rightB x))) := by
  rw [← right_eq]
  obtain ⟨sv, dv, rfl, hs, hd⟩ := h
  unfold Cv
  have HX : Hid (RecV w (.agg (rowA 109 (recF x sv dv))) x) := Lib.hid ⟨sv, dv, rfl, hs, hd⟩
  have HS := Lib.hid hs
  have HD := Lib.hid hd
  clear hs hd
  go_enter Tryd.func11, Tryd.ntmps11
  go_upto_region 1 with fail
  have r1 := rowIs_box w 27 109 (recF x sv dv)
  have hN := NewT.alloc w (.cells (rowA 109 (recF x sv dv)) 27)
  change Code.wp _ _ _ _ (w.alloc (.cells (rowA 109 (recF x sv dv)) 27))
  generalize w.alloc (.cells (rowA 109 (recF x sv dv)) 27) = W0 at r1 hN ⊢
  have R1 := Lib.hid r1
  have HN := Lib.hid hN
  replace HX := Lib.hid (hN.recV HX.out)
  replace HS := Lib.hid (hN.pairs HS.out)
  replace HD := Lib.hid (hN.rd HD.out)
  clear r1 hN
  refine wp_region_rely NewT [SV.eq (.agg (rowA 109 (recF x sv dv))), SV.eq (.bool (inRg x)), SV.eq (.bool (inRg x)), svIf (inRg x) (SV.eq (.agg (rowA 109 (recF x sv dv)))), svIf (inRg x) (SV.eq (.agg (rowA 109 (recF x sv dv)))), svIf (inRg x) (svRec (onlyR x)), svIf (inRg x) (SV.eq (.bool (sameB x (onlyR x)))), SV.eq (.bool ((inRg x) && (sameB x (onlyR x))))] [([(1, none)], none), ([(3, some 0)], none), ([(4, some 1)], none), ([(1, none), (5, some 2)], some (5, true)), ([(1, none), (5, some 2)], some (5, true)), ([(7, some 4), (5, some 2)], some (5, true)), ([(6, some 3), (8, some 5), (5, some 2)], some (5, true)), ([(5, some 2), (9, some 6)], none)] 11 rfl (by kernel_rfl) rfl (by kernel_rfl) (by kernel_rfl) rfl NewT.trans (NewT.drew _) (Nat.le_of_ble_eq_true rfl) ⟨?_, ?_, ?_, ?_, ?_, ?_, ?_, ?_, trivial⟩ ?_
  · intro a wx hT hF K hK
    obtain ⟨f1, _⟩ := hF
    have f1 : a.tmps.getD 1 undef = .pointer (some ⟨w.heap.size, 0, none⟩) := f1
    refine rely_wp rfl ?_
    exact opr_ldR (hT.row R1.out) rfl f1 (hK _ _ (NewT.refl _) rfl)
  · intro a wx hT hF K hK
    obtain ⟨f3, _⟩ := hF
    have f3 : a.tmps.getD 3 undef = .agg (rowA 109 (recF x sv dv)) := f3
    refine rely_wp rfl ?_
    exact opr_cv (inRange_cv _ x wx (hT.recV HX.out)) rfl Tryd.func28 (by kernel_rfl) (by kernel_rfl) (by simp only [List.map_toArray, List.map_cons, List.map_nil, eval_tmp, f3]) hK
  · intro a wx hT hF K hK
    obtain ⟨f4, _⟩ := hF
    have f4 : a.tmps.getD 4 undef = .bool (inRg x) := f4
    refine rely_wp rfl ?_
    exact opr_move (.inl rfl) (hK _ _ (NewT.refl _) f4)
  · intro a wx hT hF K hK
    obtain ⟨f1, f5, _⟩ := hF
    have f1 : a.tmps.getD 1 undef = .pointer (some ⟨w.heap.size, 0, none⟩) := f1
    have f5 : a.tmps.getD 5 undef = .bool (inRg x) := f5
    refine rely_if (rely_gt f5) (NewT.refl _) hK (fun hE hK => ?_)
    exact opr_ldR (hT.row R1.out) rfl f1 (hK _ _ (NewT.refl _) rfl)
  · intro a wx hT hF K hK
    obtain ⟨f1, f5, _⟩ := hF
    have f1 : a.tmps.getD 1 undef = .pointer (some ⟨w.heap.size, 0, none⟩) := f1
    have f5 : a.tmps.getD 5 undef = .bool (inRg x) := f5
    refine rely_if (rely_gt f5) (NewT.refl _) hK (fun hE hK => ?_)
    exact opr_ldR (hT.row R1.out) rfl f1 (hK _ _ (NewT.refl _) rfl)
  · intro a wx hT hF K hK
    obtain ⟨f7, f5, _⟩ := hF
    have f7 : (inRg x) = true → a.tmps.getD 7 undef = .agg (rowA 109 (recF x sv dv)) := f7
    have f5 : a.tmps.getD 5 undef = .bool (inRg x) := f5
    refine rely_if (rely_gt f5) (NewT.refl _) hK (fun hE hK => ?_)
    exact opr_cv (only_cv _ x wx (hT.recV HX.out)) rfl Tryd.func29 (by kernel_rfl) (by kernel_rfl) (by simp only [List.map_toArray, List.map_cons, List.map_nil, eval_tmp, (f7 hE)]) hK
  · intro a wx hT hF K hK
    obtain ⟨f6, f8, f5, _⟩ := hF
    have f6 : (inRg x) = true → a.tmps.getD 6 undef = .agg (rowA 109 (recF x sv dv)) := f6
    replace f8 := show (inRg x) = true → (svRec (onlyR x)).pred (a.tmps.getD 8 undef) wx from f8
    have f5 : a.tmps.getD 5 undef = .bool (inRg x) := f5
    refine rely_if (rely_gt f5) (NewT.refl _) hK (fun hE hK => ?_)
    exact opr_cv (Same_cv _ _ x (onlyR x) wx (hT.recV HX.out) (f8 hE)) rfl Tryd.func18 (by kernel_rfl) (by kernel_rfl) (by simp only [List.map_toArray, List.map_cons, List.map_nil, eval_tmp, (f6 hE)]) hK
  · intro a wx hT hF K hK
    obtain ⟨f5, f9, _⟩ := hF
    have f5 : a.tmps.getD 5 undef = .bool (inRg x) := f5
    have f9 : (inRg x) = true → a.tmps.getD 9 undef = .bool (sameB x (onlyR x)) := f9
    refine rely_wp rfl ?_
    exact opr_pick_b rfl f5 (fun hb => hK _ _ (NewT.refl _) (pk_and1 (f9 hb) hb)) (fun hb => hK _ _ (NewT.refl _) (pk_and0 hb))
  · intro wx hT
    intro u h; obtain rfl := Eq.symm (h (by simp)); clear h
    intro u h; obtain rfl := Eq.symm (h (by simp)); clear h
    intro u h; obtain rfl := Eq.symm (h (by simp)); clear h
    intro _ _
    intro _ _
    intro _ _
    intro _ _
    intro u h; obtain rfl := Eq.symm (h (by simp)); clear h
    refine relyEnd_nil rfl ?_
    simp only [Act.put, List.setIfInBounds_toArray, List.set_cons_zero, List.set_cons_succ]
    refine opr_move (.inr rfl) ?_
    go_simp
    go_wp2
    go_ret
    exact ⟨_, rfl, NewT.trans _ _ _ HN.out hT, rfl⟩
set_option maxHeartbeats 1000000 in
theorem commitment_cv (v : Value) (x : Rc) (w : World) (h : RecV w v x) (hT : Tables w) (hl : x.data.length ≤ 900000) : Cv 31 #[v] w (.eq (.agg (rowA 32 (bF (comC x))))) := by
  obtain ⟨sv, dv, rfl, hs, hd⟩ := h
  unfold Cv
  have HX : Hid (RecV w (.agg (rowA 109 (recF x sv dv))) x) := Lib.hid ⟨sv, dv, rfl, hs, hd⟩
  have HS := Lib.hid hs
  have HD := Lib.hid hd
  clear hs hd
  have HT := Lib.hid hT
  clear hT
  go_enter Tryd.func31, Tryd.ntmps31
  go_upto_region 1 with fail
  have r1 := (rowIs_box w 27 109 (recF x sv dv)).alloc (.cells (rowA 32 (bF fun _ => 0)) 23)
  have r2 := rowIs_box (w.alloc (.cells (rowA 109 (recF x sv dv)) 27)) 23 32 (bF fun _ => 0)
  have hN : NewT w ((w.alloc (.cells (rowA 109 (recF x sv dv)) 27)).alloc (.cells (rowA 32 (bF fun _ => 0)) 23)) := NewT.trans _ _ _ (NewT.alloc _ _) (NewT.alloc _ _)
  rw [World.size_alloc] at r2
  change Code.wp _ _ _ _ ((w.alloc (.cells (rowA 109 (recF x sv dv)) 27)).alloc (.cells (rowA 32 (bF fun _ => 0)) 23))
  generalize hW0 : (w.alloc (.cells (rowA 109 (recF x sv dv)) 27)).alloc (.cells (rowA 32 (bF fun _ => 0)) 23) = W0 at r1 r2 hN ⊢
  have R1 := Lib.hid r1
  have R2 := Lib.hid r2
  have HN := Lib.hid hN
  have Hsz : Hid (W0.heap.size = w.heap.size + 2) := Lib.hid (by rw [← hW0]; simp)
  replace HX := Lib.hid (hN.recV HX.out)
  replace HS := Lib.hid (hN.pairs HS.out)
  replace HD := Lib.hid (hN.rd HD.out)
  replace HT := Lib.hid (hN.tables HT.out)
  clear r1 r2 hN hW0
  have c14 : W0.cell? ⟨w.heap.size, 76, none⟩ = some (.bool x.gone) := R1.out.cell (i := 76) (by omega)
  cases hg : x.gone
  · rw [hg] at c14
    have HC : Hid (comC x = cmC x.salt x.data) := Lib.hid (by unfold comC comR; rw [hg, if_neg (by simp)])
    go_upto_region 3 with fail
    clear c14
    refine wp_region_rely NewT [SV.eq (.pointer (some ⟨w.heap.size, 44, none⟩)), svRd (digL (x.salt)), SV.eq (.pointer (some ⟨w.heap.size, 43, none⟩)), SV.eq (dv), svParts [digL (x.salt), x.data], SV.eq (.agg (rowA 32 (bF (cmC x.salt x.data))))] [([(1, none)], none), ([(7, some 0)], none), ([(1, none)], none), ([(9, some 2)], none), ([(8, some 1), (10, some 3)], none), ([(11, some 4)], none)] 13 rfl (by kernel_rfl) rfl (by kernel_rfl) (by kernel_rfl) rfl NewT.trans (NewT.drew _) (Nat.le_of_ble_eq_true rfl) ⟨?_, ?_, ?_, ?_, ?_, ?_, trivial⟩ ?_
    · intro a wx hT hF K hK
      obtain ⟨f1, _⟩ := hF
      have f1 : a.tmps.getD 1 undef = .pointer (some ⟨w.heap.size, 0, none⟩) := f1
      refine rely_wp rfl ?_
      exact opr_fldR (by decide) rfl f1 (hK _ _ (NewT.refl _) rfl)
    · intro a wx hT hF K hK
      obtain ⟨f7, _⟩ := hF
      have f7 : a.tmps.getD 7 undef = .pointer (some ⟨w.heap.size, 44, none⟩) := f7
      refine rely_wp rfl ?_
      exact opr_sliceH rfl f7 (hK _ _ (NewT.refl _) (rd_rowH (hT.row R1.out) (by decide) (recF_salt x _ _)))
    · intro a wx hT hF K hK
      obtain ⟨f1, _⟩ := hF
      have f1 : a.tmps.getD 1 undef = .pointer (some ⟨w.heap.size, 0, none⟩) := f1
      refine rely_wp rfl ?_
      exact opr_fldR (by decide) rfl f1 (hK _ _ (NewT.refl _) rfl)
    · intro a wx hT hF K hK
      obtain ⟨f9, _⟩ := hF
      have f9 : a.tmps.getD 9 undef = .pointer (some ⟨w.heap.size, 43, none⟩) := f9
      refine rely_wp rfl ?_
      exact opr_ldB (hT.row R1.out) (by decide) rfl rfl f9 (hK _ _ (NewT.refl _) rfl)
    · intro a wx hT hF K hK
      obtain ⟨f8, f10, _⟩ := hF
      replace f8 := show (svRd (digL (x.salt))).pred (a.tmps.getD 8 undef) wx from f8
      have f10 : a.tmps.getD 10 undef = dv := f10
      refine rely_wp rfl ?_
      exact opr_bs2 rfl f8 (by rw [eval_tmp, f10]; exact (hT.rd HD.out)) hK
    · intro a wx hT hF K hK
      obtain ⟨f11, _⟩ := hF
      replace f11 := show (svParts [digL (x.salt), x.data]).pred (a.tmps.getD 11 undef) wx from f11
      refine rely_wp rfl ?_
      exact opr_cv (Of_cv 4 _ [digL x.salt, x.data] (cmC x.salt x.data) wx (hT.tables HT.out) f11 (by simp) (by simp [digL_length]; have := hl; omega) (cmC_eq _ _)) rfl Tryd.func52 (by kernel_rfl) (by kernel_rfl) (by simp only [List.map_toArray, List.map_cons, List.map_nil, eval_tmp, eval_const]) hK
    · intro wx hT
      intro u h; obtain rfl := Eq.symm (h (by simp)); clear h
      intro _ _
      intro u h; obtain rfl := Eq.symm (h (by simp)); clear h
      intro u h; obtain rfl := Eq.symm (h (by simp)); clear h
      intro _ _
      intro u h; obtain rfl := Eq.symm (h (by simp)); clear h
      refine relyEnd_nil rfl ?_
      simp only [Act.put, List.setIfInBounds_toArray, List.set_cons_zero, List.set_cons_succ]
      refine opr_store_new (B := w.heap.size) (W := w) info31 rfl rfl rfl (hT.row R2.out) (NewT.trans _ _ _ HN.out hT) (Nat.le_succ _) ?_
      intro w9 hB9 r9
      go_simp
      go_wp2
      exact bodyPost_ret (results_row rfl _ rfl r9 Tryd.underlying23 info31) rfl ⟨_, rfl, hB9, by rw [HC.out]; rfl⟩
  · rw [hg] at c14
    have HC : Hid (comC x = x.com) := Lib.hid (by unfold comC comR; rw [hg, if_pos rfl])
    go_upto_region 2 with fail
    clear c14
    refine wp_region_steps0 NewT [SV.eq (.pointer (some ⟨w.heap.size, 77, none⟩)), SV.eq (.agg (rowA 32 (bF (x.com))))] [([(1, none)], none), ([(5, some 0)], none)] 13 2 rfl rfl (by kernel_rfl) NewT.trans (NewT.refl _) (Nat.le_of_ble_eq_true rfl) ⟨?_, ?_, trivial⟩ ?_
    · intro a wx hT hF K hK
      obtain ⟨f1, _⟩ := hF
      have f1 : a.tmps.getD 1 undef = .pointer (some ⟨w.heap.size, 0, none⟩) := f1
      refine rely_wp rfl ?_
      exact opr_fldR (by decide) rfl f1 (hK _ _ (NewT.refl _) rfl)
    · intro a wx hT hF K hK
      obtain ⟨f5, _⟩ := hF
      have f5 : a.tmps.getD 5 undef = .pointer (some ⟨w.heap.size, 77, none⟩) := f5
      refine rely_wp rfl ?_
      exact opr_ldH (hT.row R1.out) (by decide) (recF_com x _ _) rfl f5 (hK _ _ (NewT.refl _) rfl)
    · intro wx hT
      intro u h; obtain rfl := Eq.symm (h (by simp)); clear h
      intro u h; obtain rfl := Eq.symm (h (by simp)); clear h
      refine relyEnd_nil rfl ?_
      simp only [Act.put, List.setIfInBounds_toArray, List.set_cons_zero, List.set_cons_succ]
      refine wpList_plain rfl (fun K hK => ?_)
      refine opr_store_new (B := w.heap.size) (W := w) info31 rfl rfl rfl (hT.row R2.out) (NewT.trans _ _ _ HN.out hT) (Nat.le_succ _) ?_
      intro w9 hB9 r9
      refine hK _ _ ?_
      refine wpList_end rfl ?_
      go_simp
      go_wp2
      exact bodyPost_ret (results_row rfl _ rfl r9 Tryd.underlying23 info31) rfl ⟨_, rfl, hB9, by rw [HC.out]; rfl⟩
theorem build_hash0 (w : World) : (Instr.build 23 #[]).run Tryd.prog w = .ok (.agg (rowA 32 (bF fun _ => 0))) w := by kernel_rfl
set_option maxHeartbeats 1000000 in
theorem Com_cv (v : Value) (x : Rc) (w : World) (h : RecV w v x) (hT : Tables w) : Cv 13 #[v] w (.eq (.agg (rowA 32 (bF (comB x))))) := by
  obtain ⟨sv, dv, rfl, hs, hd⟩ := h
  unfold Cv
  have HX : Hid (RecV w (.agg (rowA 109 (recF x sv dv))) x) := Lib.hid ⟨sv, dv, rfl, hs, hd⟩
  have HS := Lib.hid hs
  have HD := Lib.hid hd
  clear hs hd
  have HT := Lib.hid hT
  clear hT
  go_enter Tryd.func13, Tryd.ntmps13
  go_upto_region 1 with fail
  have r1 := (rowIs_box w 27 109 (recF x sv dv)).alloc (.cells (rowA 32 (bF fun _ => 0)) 23)
  have r2 := rowIs_box (w.alloc (.cells (rowA 109 (recF x sv dv)) 27)) 23 32 (bF fun _ => 0)
  have hN : NewT w ((w.alloc (.cells (rowA 109 (recF x sv dv)) 27)).alloc (.cells (rowA 32 (bF fun _ => 0)) 23)) := NewT.trans _ _ _ (NewT.alloc _ _) (NewT.alloc _ _)
  rw [World.size_alloc] at r2
  change Code.wp _ _ _ _ ((w.alloc (.cells (rowA 109 (recF x sv dv)) 27)).alloc (.cells (rowA 32 (bF fun _ => 0)) 23))
  generalize hW0 : (w.alloc (.cells (rowA 109 (recF x sv dv)) 27)).alloc (.cells (rowA 32 (bF fun _ => 0)) 23) = W0 at r1 r2 hN ⊢
  have R1 := Lib.hid r1
  have R2 := Lib.hid r2
  have HN := Lib.hid hN
  have Hsz : Hid (W0.heap.size = w.heap.size + 2) := Lib.hid (by rw [← hW0]; simp)
  replace HX := Lib.hid (hN.recV HX.out)
  replace HS := Lib.hid (hN.pairs HS.out)
  replace HD := Lib.hid (hN.rd HD.out)
  replace HT := Lib.hid (hN.tables HT.out)
  clear r1 r2 hN hW0
  refine wp_region_steps0 NewT [SV.eq (.pointer (some ⟨w.heap.size, 0, none⟩)), SV.eq (.int .i64 (x.kind)), SV.eq (.bool (x.kind != 1)), SV.eq (.bool (x.kind != 1)), svIf ((!(x.kind != 1))) (SV.eq (.agg (rowA 109 (recF x sv dv)))), svIf ((!(x.kind != 1))) (SV.eq (.bool (rightB x))), svIf ((!(x.kind != 1))) (SV.eq (.bool (!(rightB x)))), SV.eq (.bool ((x.kind != 1) || (!(rightB x))))] [([(1, none)], none), ([(3, some 0)], none), ([(4, some 1)], none), ([(5, some 2)], none), ([(1, none), (6, some 3)], some (6, false)), ([(7, some 4), (6, some 3)], some (6, false)), ([(8, some 5), (6, some 3)], some (6, false)), ([(6, some 3), (9, some 6)], none)] 14 8 rfl rfl (by kernel_rfl) NewT.trans (NewT.refl _) (Nat.le_of_ble_eq_true rfl) ⟨?_, ?_, ?_, ?_, ?_, ?_, ?_, ?_, trivial⟩ ?_
  · intro a wx hT hF K hK
    obtain ⟨f1, _⟩ := hF
    have f1 : a.tmps.getD 1 undef = .pointer (some ⟨w.heap.size, 0, none⟩) := f1
    refine rely_wp rfl ?_
    exact opr_fldR (by decide) rfl f1 (hK _ _ (NewT.refl _) rfl)
  · intro a wx hT hF K hK
    obtain ⟨f3, _⟩ := hF
    have f3 : a.tmps.getD 3 undef = .pointer (some ⟨w.heap.size, 0, none⟩) := f3
    refine rely_wp rfl ?_
    exact opr_ldI (hT.row R1.out) (by decide) rfl rfl f3 (hK _ _ (NewT.refl _) rfl)
  · intro a wx hT hF K hK
    obtain ⟨f4, _⟩ := hF
    have f4 : a.tmps.getD 4 undef = .int .i64 (x.kind) := f4
    refine rely_wp rfl ?_
    exact opr_cmp (b := x.kind != 1) (.inr (.inl ⟨rfl, rfl⟩)) Tryd.underlying3 rfl f4 rfl (hK _ _ (NewT.refl _) rfl)
  · intro a wx hT hF K hK
    obtain ⟨f5, _⟩ := hF
    have f5 : a.tmps.getD 5 undef = .bool (x.kind != 1) := f5
    refine rely_wp rfl ?_
    exact opr_move (.inl rfl) (hK _ _ (NewT.refl _) f5)
  · intro a wx hT hF K hK
    obtain ⟨f1, f6, _⟩ := hF
    have f1 : a.tmps.getD 1 undef = .pointer (some ⟨w.heap.size, 0, none⟩) := f1
    have f6 : a.tmps.getD 6 undef = .bool (x.kind != 1) := f6
    refine rely_if (rely_gf f6) (NewT.refl _) hK (fun hE hK => ?_)
    exact opr_ldR (hT.row R1.out) rfl f1 (hK _ _ (NewT.refl _) rfl)
  · intro a wx hT hF K hK
    obtain ⟨f7, f6, _⟩ := hF
    have f7 : ((!(x.kind != 1))) = true → a.tmps.getD 7 undef = .agg (rowA 109 (recF x sv dv)) := f7
    have f6 : a.tmps.getD 6 undef = .bool (x.kind != 1) := f6
    refine rely_if (rely_gf f6) (NewT.refl _) hK (fun hE hK => ?_)
    exact opr_cv (Right_cv _ x wx (hT.recV HX.out)) rfl Tryd.func11 (by kernel_rfl) (by kernel_rfl) (by simp only [List.map_toArray, List.map_cons, List.map_nil, eval_tmp, (f7 hE)]) hK
  · intro a wx hT hF K hK
    obtain ⟨f8, f6, _⟩ := hF
    have f8 : ((!(x.kind != 1))) = true → a.tmps.getD 8 undef = .bool (rightB x) := f8
    have f6 : a.tmps.getD 6 undef = .bool (x.kind != 1) := f6
    refine rely_if (rely_gf f6) (NewT.refl _) hK (fun hE hK => ?_)
    exact opr_not rfl (f8 hE) (hK _ _ (NewT.refl _) rfl)
  · intro a wx hT hF K hK
    obtain ⟨f6, f9, _⟩ := hF
    have f6 : a.tmps.getD 6 undef = .bool (x.kind != 1) := f6
    have f9 : ((!(x.kind != 1))) = true → a.tmps.getD 9 undef = .bool (!(rightB x)) := f9
    refine rely_wp rfl ?_
    exact opr_pick_b rfl f6 (fun hb => hK _ _ (NewT.refl _) (pk_or1 hb)) (fun hb => hK _ _ (NewT.refl _) (pk_or0 (f9 (bnot hb)) hb))
  · intro w1 h1
    intro u h; obtain rfl := Eq.symm (h (by simp)); clear h
    intro u h; obtain rfl := Eq.symm (h (by simp)); clear h
    intro u h; obtain rfl := Eq.symm (h (by simp)); clear h
    intro u h; obtain rfl := Eq.symm (h (by simp)); clear h
    intro _ _
    intro _ _
    intro _ _
    intro u h; obtain rfl := Eq.symm (h (by simp)); clear h
    refine relyEnd_nil rfl ?_
    refine wpList_end rfl ?_
    simp only [Act.put, List.setIfInBounds_toArray, List.set_cons_zero, List.set_cons_succ]
    go_simp
    cases hb : ((x.kind != 1) || !rightB x)
    · have hk : x.kind = 1 ∧ rightB x = true := by simpa using hb
      have hr := hk.2
      have HC : Hid (comB x = comC x) := Lib.hid (by unfold comB; rw [if_pos (by simp [hk.1, hk.2])])
      clear hk
      go_upto_region 3 with fail
      refine wp_region_steps0 NewT [SV.eq (.agg (rowA 109 (recF x sv dv))), SV.eq (.agg (rowA 32 (bF (comC x))))] [([(1, none)], none), ([(12, some 0)], none)] 14 2 rfl rfl (by kernel_rfl) NewT.trans (NewT.refl _) (Nat.le_of_ble_eq_true rfl) ⟨?_, ?_, trivial⟩ ?_
      · intro a wx hT hF K hK
        obtain ⟨f1, _⟩ := hF
        have f1 : a.tmps.getD 1 undef = .pointer (some ⟨w.heap.size, 0, none⟩) := f1
        refine rely_wp rfl ?_
        exact opr_ldR (hT.row (NewT.row h1 R1.out)) rfl f1 (hK _ _ (NewT.refl _) rfl)
      · intro a wx hT hF K hK
        obtain ⟨f12, _⟩ := hF
        have f12 : a.tmps.getD 12 undef = .agg (rowA 109 (recF x sv dv)) := f12
        refine rely_wp rfl ?_
        exact opr_cv (commitment_cv _ x wx (hT.recV (NewT.recV h1 HX.out)) (hT.tables (NewT.tables h1 HT.out)) (by have := right_data x hr; omega)) rfl Tryd.func31 (by kernel_rfl) (by kernel_rfl) (by simp only [List.map_toArray, List.map_cons, List.map_nil, eval_tmp, f12]) hK
      · intro wx hT
        intro u h; obtain rfl := Eq.symm (h (by simp)); clear h
        intro u h; obtain rfl := Eq.symm (h (by simp)); clear h
        refine relyEnd_nil rfl ?_
        simp only [Act.put, List.setIfInBounds_toArray, List.set_cons_zero, List.set_cons_succ]
        refine wpList_plain rfl (fun K hK => ?_)
        refine opr_store_new (B := w.heap.size) (W := w) info31 rfl rfl rfl (hT.row (NewT.row h1 R2.out)) (NewT.trans _ _ _ HN.out (NewT.trans _ _ _ h1 hT)) (Nat.le_succ _) ?_
        intro w9 hB9 r9
        refine hK _ _ ?_
        refine wpList_end rfl ?_
        go_simp
        go_wp2
        exact bodyPost_ret (results_row rfl _ rfl r9 Tryd.underlying23 info31) rfl ⟨_, rfl, hB9, by rw [HC.out]; rfl⟩
    · have HC : Hid (comB x = fun _ => 0) := Lib.hid (by unfold comB; rw [if_neg (by intro h; rw [Bool.and_eq_true, beq_iff_eq] at h; simp [h.1, h.2] at hb)])
      go_upto_region 2 with fail
      refine wp_region_steps0 NewT [SV.eq (.agg (rowA 32 (bF (fun _ => 0))))] [([], none)] 14 1 rfl rfl (by kernel_rfl) NewT.trans (NewT.refl _) (Nat.le_of_ble_eq_true rfl) ⟨?_, trivial⟩ ?_
      · intro a wx hT hF K hK
        refine rely_wp rfl ?_
        exact opr_build (pv := #[]) rfl (by simp) (build_hash0 wx) (hK _ _ (NewT.refl _) rfl)
      · intro wx hT
        intro u h; obtain rfl := Eq.symm (h (by simp)); clear h
        refine relyEnd_nil rfl ?_
        simp only [Act.put, List.setIfInBounds_toArray, List.set_cons_zero, List.set_cons_succ]
        refine wpList_plain rfl (fun K hK => ?_)
        refine opr_store_new (B := w.heap.size) (W := w) info31 rfl rfl rfl (hT.row (NewT.row h1 R2.out)) (NewT.trans _ _ _ HN.out (NewT.trans _ _ _ h1 hT)) (Nat.le_succ _) ?_
        intro w9 hB9 r9
        refine hK _ _ ?_
        refine wpList_end rfl ?_
        go_simp
        go_wp2
        exact bodyPost_ret (results_row rfl _ rfl r9 Tryd.underlying23 info31) rfl ⟨_, rfl, hB9, by rw [HC.out]; rfl⟩
end Go.Proofs.YthgblcpekhiphaaDoor
/- Package rec: Redact. -/
namespace Go.Proofs.YthgblcpekhiphaaDoor
open Go Go.RowKit
set_option maxRecDepth 8000
theorem keepJ {R : Nat} {x : Rc} {sv dv : Value} {wx w' : World} (hN : NewT wx w') (k : Nat) (h : if k = 0 then wx.rowIs R 27 109 (recF x sv dv) else ∃ u, RdPB wx (R + 1) u x.steps ∧ wx.rowIs R 27 109 (recF x u dv)) :
    if k = 0 then w'.rowIs R 27 109 (recF x sv dv) else ∃ u, RdPB w' (R + 1) u x.steps ∧ w'.rowIs R 27 109 (recF x u dv) := by
  by_cases hk : k = 0
  · rw [if_pos hk] at h ⊢; exact hN.row h
  · rw [if_neg hk] at h ⊢
    obtain ⟨u, h1, h3⟩ := h
    exact ⟨u, h1.new hN, hN.row h3⟩
set_option maxHeartbeats 4000000 in
theorem Redact_cv (v : Value) (x : Rc) (w : World) (h : RecV w v x) (hT : Tables w) (hl : x.data.length ≤ 900000 ∧ x.steps.length ≤ 900000) : Cv 16 #[v] w (svRec (redactB x)) := by
  obtain ⟨sv, dv, rfl, hs, hd⟩ := h
  unfold Cv
  have HX : Hid (RecV w (.agg (rowA 109 (recF x sv dv))) x) := Lib.hid ⟨sv, dv, rfl, hs, hd⟩
  have HX0 := HX
  have HS := Lib.hid hs
  have HD := Lib.hid hd
  have HT := Lib.hid hT
  have oneS := oneP hs
  have oneD := oneR hd
  have hls := hl.2
  have hlx := hl.1
  clear hT hl
  go_enter Tryd.func16, Tryd.ntmps16
  go_upto_region 1 with fail
  have r1 := (rowIs_box w 27 109 (recF x sv dv)).alloc (.cells (rowA 109 (recF zR (.slice none 0 0) (.slice none 0 0))) 27)
  have r2 := rowIs_box (w.alloc (.cells (rowA 109 (recF x sv dv)) 27)) 27 109 (recF zR (.slice none 0 0) (.slice none 0 0))
  have hN : NewT w ((w.alloc (.cells (rowA 109 (recF x sv dv)) 27)).alloc (.cells (rowA 109 (recF zR (.slice none 0 0) (.slice none 0 0))) 27)) := NewT.trans _ _ _ (NewT.alloc _ _) (NewT.alloc _ _)
  rw [World.size_alloc] at r2
  change Code.wp _ _ _ _ ((w.alloc (.cells (rowA 109 (recF x sv dv)) 27)).alloc (.cells (rowA 109 (recF zR (.slice none 0 0) (.slice none 0 0))) 27))
  generalize hW0 : (w.alloc (.cells (rowA 109 (recF x sv dv)) 27)).alloc (.cells (rowA 109 (recF zR (.slice none 0 0) (.slice none 0 0))) 27) = W0 at r1 r2 hN ⊢
  have R1 := Lib.hid r1
  have R2 := Lib.hid r2
  have HN := Lib.hid hN
  have Hsz : Hid (W0.heap.size = w.heap.size + 2) := Lib.hid (by rw [← hW0]; simp)
  replace HX := Lib.hid (hN.recV HX.out)
  replace HS := Lib.hid (hN.pairs HS.out)
  replace HD := Lib.hid (hN.rd HD.out)
  clear r1 r2 hN hW0
  refine wp_region_steps0 NewT [SV.eq (.agg (rowA 109 (recF x sv dv)))] [([(1, none)], none)] 28 1 rfl rfl (by kernel_rfl) NewT.trans (NewT.refl _) (Nat.le_of_ble_eq_true rfl) ⟨?_, trivial⟩ ?_
  · intro a wx hT hF K hK
    obtain ⟨f1, _⟩ := hF
    have f1 : a.tmps.getD 1 undef = .pointer (some ⟨w.heap.size, 0, none⟩) := f1
    refine rely_wp rfl ?_
    exact opr_ldR (hT.row R1.out) rfl f1 (hK _ _ (NewT.refl _) rfl)
  · intro wa ha
    intro u h; obtain rfl := Eq.symm (h (by simp)); clear h
    refine relyEnd_nil rfl ?_
    simp only [Act.put, List.setIfInBounds_toArray, List.set_cons_zero, List.set_cons_succ]
    refine wpList_new (n := 109) rfl rfl rfl rfl rfl rfl (by simp) run_alloc_rec info_rec (recF_one _ _ _ oneS oneD) rfl ?_
    intro w1 hn1 r3
    refine wpList_end rfl ?_
    simp only [Act.put, List.setIfInBounds_toArray, List.set_cons_zero, List.set_cons_succ]
    go_simp
    have X1 := Lib.hid (hn1.row (ha.row R1.out))
    have X2 := Lib.hid (hn1.row (ha.row R2.out))
    have HN1 := Lib.hid (NewT.trans _ _ _ HN.out (NewT.trans _ _ _ ha hn1))
    have hR : w.heap.size + 2 ≤ wa.heap.size := by have := ha.out.size; have := Hsz.out; omega
    have hRl : wa.heap.size < w1.heap.size := r3.lt
    have X3 := Lib.hid r3
    clear R1 R2 r3 HN ha hn1 Hsz HX HS HD
    generalize wa.heap.size = R at X3 hR hRl ⊢
    have hne1 : w.heap.size ≠ R := by omega
    have hne2 : w.heap.size + 1 ≠ R := by omega
    go_upto_region 2 with fail
    refine wp_region_relyP (RT R) (fun k w => if k = 0 then w.rowIs R 27 109 (recF x sv dv) else ∃ u, RdPB w (R + 1) u x.steps ∧ w.rowIs R 27 109 (recF x u dv)) [SV.eq (.pointer (some ⟨w.heap.size, 42, none⟩)), SV.eq (sv), svPairsB R x.steps, SV.eq (.pointer (some ⟨w.heap.size, 43, none⟩)), SV.eq (dv), svRdB R x.data, SV.eq (.pointer (some ⟨R, 42, none⟩)), SV.any, SV.eq (.pointer (some ⟨R, 43, none⟩))] [([(1, none)], none), ([(5, some 0)], none), ([(6, some 1)], none), ([(1, none)], none), ([(8, some 3)], none), ([(9, some 4)], none), ([(3, none)], none), ([(11, some 6), (7, some 2)], none), ([(3, none)], none)] [none, none, none, none, none, none, none, some 0, none] [7] 28 rfl (by kernel_rfl) rfl (by kernel_rfl) (by kernel_rfl) rfl (by kernel_rfl) RT.trans (RT.drew _ _) ((NewT.drew _).row X3.out) (Nat.le_of_ble_eq_true rfl) ⟨?_, ?_, ?_, ?_, ?_, ?_, ?_, ?_, ?_, trivial⟩ ?_
    · intro a wx hT hF K hK
      replace hK := fun v w' (hN : NewT wx w') hv => hK v w' (RT.new (Nat.lt_of_lt_of_le hRl hT.size) hN) (fun k h => keepJ hN k h) hv
      obtain ⟨f1, _⟩ := hF
      have f1 : a.tmps.getD 1 undef = .pointer (some ⟨w.heap.size, 0, none⟩) := f1
      refine rely_wp rfl ?_
      exact opr_fldR (by decide) rfl f1 (hK _ _ (NewT.refl _) rfl)
    · intro a wx hT hF K hK
      replace hK := fun v w' (hN : NewT wx w') hv => hK v w' (RT.new (Nat.lt_of_lt_of_le hRl hT.size) hN) (fun k h => keepJ hN k h) hv
      obtain ⟨f5, _⟩ := hF
      have f5 : a.tmps.getD 5 undef = .pointer (some ⟨w.heap.size, 42, none⟩) := f5
      refine rely_wp rfl ?_
      exact opr_ldS (hT.row hne1 X1.out) (by decide) rfl rfl f5 (hK _ _ (NewT.refl _) rfl)
    · intro a wx hT hF K hK
      replace hK := fun v w' (hN : NewT wx w') hv => hK v w' (RT.new (Nat.lt_of_lt_of_le hRl hT.size) hN) (fun k h => keepJ hN k h) hv
      obtain ⟨f6, _⟩ := hF
      have f6 : a.tmps.getD 6 undef = sv := f6
      refine rely_wp rfl ?_
      refine opr_cv (CloneS_cvN sv x.steps wx ((HN1.out.rt hT (by omega)).pairs hs) hls) rfl Tryd.func34 (by kernel_rfl) (by kernel_rfl) (by simp only [List.map_toArray, List.map_cons, List.map_nil, eval_tmp, f6]) (fun v w' hN hv => hK v w' hN (RdPB.mono hv ?_))
      have h2 := hT.size
      omega
    · intro a wx hT hF K hK
      replace hK := fun v w' (hN : NewT wx w') hv => hK v w' (RT.new (Nat.lt_of_lt_of_le hRl hT.size) hN) (fun k h => keepJ hN k h) hv
      obtain ⟨f1, _⟩ := hF
      have f1 : a.tmps.getD 1 undef = .pointer (some ⟨w.heap.size, 0, none⟩) := f1
      refine rely_wp rfl ?_
      exact opr_fldR (by decide) rfl f1 (hK _ _ (NewT.refl _) rfl)
    · intro a wx hT hF K hK
      replace hK := fun v w' (hN : NewT wx w') hv => hK v w' (RT.new (Nat.lt_of_lt_of_le hRl hT.size) hN) (fun k h => keepJ hN k h) hv
      obtain ⟨f8, _⟩ := hF
      have f8 : a.tmps.getD 8 undef = .pointer (some ⟨w.heap.size, 43, none⟩) := f8
      refine rely_wp rfl ?_
      exact opr_ldB (hT.row hne1 X1.out) (by decide) rfl rfl f8 (hK _ _ (NewT.refl _) rfl)
    · intro a wx hT hF K hK
      replace hK := fun v w' (hN : NewT wx w') hv => hK v w' (RT.new (Nat.lt_of_lt_of_le hRl hT.size) hN) (fun k h => keepJ hN k h) hv
      obtain ⟨f9, _⟩ := hF
      have f9 : a.tmps.getD 9 undef = dv := f9
      refine rely_wp rfl ?_
      refine opr_cv (Clone_cv dv x.data [] wx ((HN1.out.rt hT (by omega)).rd hd) (by omega)) rfl Tryd.func35 (by kernel_rfl) (by kernel_rfl) (by simp only [List.map_toArray, List.map_cons, List.map_nil, eval_tmp, f9]) (fun v w' hN hv => hK v w' hN (RdVB.mono (B := wx.heap.size) hv ?_))
      have h2 := hT.size
      omega
    · intro a wx hT hF K hK
      replace hK := fun v w' (hN : NewT wx w') hv => hK v w' (RT.new (Nat.lt_of_lt_of_le hRl hT.size) hN) (fun k h => keepJ hN k h) hv
      obtain ⟨f3, _⟩ := hF
      have f3 : a.tmps.getD 3 undef = .pointer (some ⟨R, 0, none⟩) := f3
      refine rely_wp rfl ?_
      exact opr_fldR (by decide) rfl f3 (hK _ _ (NewT.refl _) rfl)
    · intro a wx hT hF hJ K hK
      obtain ⟨f11, f7, _⟩ := hF
      have f11 : a.tmps.getD 11 undef = .pointer (some ⟨R, 42, none⟩) := f11
      replace f7 := show (svPairsB R x.steps).pred (a.tmps.getD 7 undef) wx from f7
      refine rely_wp rfl ?_
      refine opr_put1 rfl f11 rfl (show wx.rowIs R 27 109 (recF x sv dv) from hJ) (by decide) info_s1 (oneP f7.1) (fun i _ => rs_steps x sv dv i _) ?_
      intro w' hT' hr'
      exact hK _ _ hT' ⟨_, RdPB.rt f7 hT' (Nat.lt_succ_self _), hr'⟩ trivial
    · intro a wx hT hF K hK
      replace hK := fun v w' (hN : NewT wx w') hv => hK v w' (RT.new (Nat.lt_of_lt_of_le hRl hT.size) hN) (fun k h => keepJ hN k h) hv
      obtain ⟨f3, _⟩ := hF
      have f3 : a.tmps.getD 3 undef = .pointer (some ⟨R, 0, none⟩) := f3
      refine rely_wp rfl ?_
      exact opr_fldR (by decide) rfl f3 (hK _ _ (NewT.refl _) rfl)
    · intro e2 h2 hJ
      intro u h; obtain rfl := Eq.symm (h (by simp)); clear h
      intro u h; obtain rfl := Eq.symm (h (by simp)); clear h
      intro _ _
      intro u h; obtain rfl := Eq.symm (h (by simp)); clear h
      intro u h; obtain rfl := Eq.symm (h (by simp)); clear h
      intro u10 h; have g10 := h (by simp); clear h; replace g10 := show (svRdB R x.data).pred u10 e2 from g10
      intro u h; obtain rfl := Eq.symm (h (by simp)); clear h
      intro _ _
      intro u h; obtain rfl := Eq.symm (h (by simp)); clear h
      refine relyEnd_nil rfl ?_
      simp only [Act.put, List.setIfInBounds_toArray, List.set_cons_zero, List.set_cons_succ]
      obtain ⟨su, hsu, hrow⟩ := hJ
      refine opr_put1 rfl rfl rfl hrow (by decide) info_d1 (oneR (RdVB.out g10)) (fun i _ => rs_data x su dv i u10) ?_
      intro w2 hT2 hr2
      replace hsu := RdPB.rt hsu hT2 (Nat.lt_succ_self _)
      replace g10 := RdVB.rt g10 hT2 (Nat.lt_succ_self _)
      go_simp
      have hRT := RT.trans _ _ _ h2 hT2
      have Y1 := Lib.hid (hRT.row hne1 X1.out)
      have Y2 := Lib.hid (hRT.row hne2 X2.out)
      have HN2 := Lib.hid (HN1.out.rt hRT (by omega))
      have HX2 := Lib.hid (HN2.out.recV HX0.out)
      have HT2 := Lib.hid (HN2.out.tables HT.out)
      clear X1 X2 X3 h2 hT2 hRl HX0 HT
      go_upto_region 3 with fail
      refine wp_region_steps0 NewT [SV.eq (.pointer (some ⟨w.heap.size, 0, none⟩)), SV.eq (.int .i64 (x.kind)), SV.eq (.bool (x.kind == 1)), SV.eq (.bool (x.kind == 1)), svIf (x.kind == 1) (SV.eq (.agg (rowA 109 (recF x sv dv)))), svIf (x.kind == 1) (SV.eq (.bool (rightB x))), SV.eq (.bool ((x.kind == 1) && (rightB x)))] [([(1, none)], none), ([(13, some 0)], none), ([(14, some 1)], none), ([(15, some 2)], none), ([(1, none), (16, some 3)], some (16, true)), ([(17, some 4), (16, some 3)], some (16, true)), ([(16, some 3), (18, some 5)], none)] 28 7 rfl rfl (by kernel_rfl) NewT.trans (NewT.refl _) (Nat.le_of_ble_eq_true rfl) ⟨?_, ?_, ?_, ?_, ?_, ?_, ?_, trivial⟩ ?_
      · intro a wx hT hF K hK
        obtain ⟨f1, _⟩ := hF
        have f1 : a.tmps.getD 1 undef = .pointer (some ⟨w.heap.size, 0, none⟩) := f1
        refine rely_wp rfl ?_
        exact opr_fldR (by decide) rfl f1 (hK _ _ (NewT.refl _) rfl)
      · intro a wx hT hF K hK
        obtain ⟨f13, _⟩ := hF
        have f13 : a.tmps.getD 13 undef = .pointer (some ⟨w.heap.size, 0, none⟩) := f13
        refine rely_wp rfl ?_
        exact opr_ldI (hT.row Y1.out) (by decide) rfl rfl f13 (hK _ _ (NewT.refl _) rfl)
      · intro a wx hT hF K hK
        obtain ⟨f14, _⟩ := hF
        have f14 : a.tmps.getD 14 undef = .int .i64 (x.kind) := f14
        refine rely_wp rfl ?_
        exact opr_cmp (b := x.kind == 1) (.inl ⟨rfl, rfl⟩) Tryd.underlying3 rfl f14 rfl (hK _ _ (NewT.refl _) rfl)
      · intro a wx hT hF K hK
        obtain ⟨f15, _⟩ := hF
        have f15 : a.tmps.getD 15 undef = .bool (x.kind == 1) := f15
        refine rely_wp rfl ?_
        exact opr_move (.inl rfl) (hK _ _ (NewT.refl _) f15)
      · intro a wx hT hF K hK
        obtain ⟨f1, f16, _⟩ := hF
        have f1 : a.tmps.getD 1 undef = .pointer (some ⟨w.heap.size, 0, none⟩) := f1
        have f16 : a.tmps.getD 16 undef = .bool (x.kind == 1) := f16
        refine rely_if (rely_gt f16) (NewT.refl _) hK (fun hE hK => ?_)
        exact opr_ldR (hT.row Y1.out) rfl f1 (hK _ _ (NewT.refl _) rfl)
      · intro a wx hT hF K hK
        obtain ⟨f17, f16, _⟩ := hF
        have f17 : (x.kind == 1) = true → a.tmps.getD 17 undef = .agg (rowA 109 (recF x sv dv)) := f17
        have f16 : a.tmps.getD 16 undef = .bool (x.kind == 1) := f16
        refine rely_if (rely_gt f16) (NewT.refl _) hK (fun hE hK => ?_)
        exact opr_cv (Right_cv _ x wx (hT.recV HX2.out)) rfl Tryd.func11 (by kernel_rfl) (by kernel_rfl) (by simp only [List.map_toArray, List.map_cons, List.map_nil, eval_tmp, (f17 hE)]) hK
      · intro a wx hT hF K hK
        obtain ⟨f16, f18, _⟩ := hF
        have f16 : a.tmps.getD 16 undef = .bool (x.kind == 1) := f16
        have f18 : (x.kind == 1) = true → a.tmps.getD 18 undef = .bool (rightB x) := f18
        refine rely_wp rfl ?_
        exact opr_pick_b rfl f16 (fun hb => hK _ _ (NewT.refl _) (pk_and1 (f18 hb) hb)) (fun hb => hK _ _ (NewT.refl _) (pk_and0 hb))
      · intro w3 h3
        intro u h; obtain rfl := Eq.symm (h (by simp)); clear h
        intro u h; obtain rfl := Eq.symm (h (by simp)); clear h
        intro u h; obtain rfl := Eq.symm (h (by simp)); clear h
        intro u h; obtain rfl := Eq.symm (h (by simp)); clear h
        intro _ _
        intro _ _
        intro u h; obtain rfl := Eq.symm (h (by simp)); clear h
        refine relyEnd_nil rfl ?_
        refine wpList_end rfl ?_
        simp only [Act.put, List.setIfInBounds_toArray, List.set_cons_zero, List.set_cons_succ]
        go_simp
        cases hb : ((x.kind == 1) && rightB x)
        · have HO : Hid (redactB x = x) := Lib.hid (by unfold redactB; rw [hb, if_neg (by simp)])
          go_upto_region 6 with fail
          refine wp_region_steps0 NewT [SV.eq (.agg (rowA 109 (recF x su u10)))] [([(3, none)], none)] 28 1 rfl rfl (by kernel_rfl) NewT.trans (NewT.refl _) (Nat.le_of_ble_eq_true rfl) ⟨?_, trivial⟩ ?_
          · intro a wx hT hF K hK
            obtain ⟨f3, _⟩ := hF
            have f3 : a.tmps.getD 3 undef = .pointer (some ⟨R, 0, none⟩) := f3
            refine rely_wp rfl ?_
            exact opr_ldR (hT.row (NewT.row h3 hr2)) rfl f3 (hK _ _ (NewT.refl _) rfl)
          · intro wf hf
            intro u h; obtain rfl := Eq.symm (h (by simp)); clear h
            refine relyEnd_nil rfl ?_
            simp only [Act.put, List.setIfInBounds_toArray, List.set_cons_zero, List.set_cons_succ]
            refine wpList_plain rfl (fun K hK => ?_)
            refine opr_putm rfl rfl rfl (hf.row (NewT.row h3 Y2.out)) (by decide) info_rec (recF_one _ _ _ (oneP hsu.1) (oneR g10.out)) (put_all _ _) ?_
            intro wq hTq rq
            refine hK _ _ ?_
            refine wpList_end rfl ?_
            go_simp
            go_wp2
            have hNq : NewT w wq := (NewT.trans _ _ _ (NewT.trans _ _ _ HN2.out h3) hf).rt hTq (by omega)
            refine bodyPost_ret (results_agg rfl _ rfl rq Tryd.underlying27 rfl info_rec) rfl ⟨_, rfl, hNq, ?_⟩
            rw [HO.out]
            exact ⟨su, u10, rfl, (RdPB.rt ((hsu.new h3).new hf) hTq (by omega)).1, (RdVB.rt ((g10.new h3).new hf) hTq (by omega)).out⟩
        · have HO : Hid (redactB x = { x with gone := true, com := comC x, data := [], salt := fun _ => 0 }) := Lib.hid (by unfold redactB; rw [hb, if_pos rfl])
          go_upto_region 4 with fail
          refine wp_region_steps0 NewT [SV.eq (.agg (rowA 109 (recF x sv dv))), SV.eq (.agg (rowA 32 (bF (comC x))))] [([(1, none)], none), ([(20, some 0)], none)] 28 2 rfl rfl (by kernel_rfl) NewT.trans (NewT.refl _) (Nat.le_of_ble_eq_true rfl) ⟨?_, ?_, trivial⟩ ?_
          · intro a wx hT hF K hK
            obtain ⟨f1, _⟩ := hF
            have f1 : a.tmps.getD 1 undef = .pointer (some ⟨w.heap.size, 0, none⟩) := f1
            refine rely_wp rfl ?_
            exact opr_ldR (hT.row (NewT.row h3 Y1.out)) rfl f1 (hK _ _ (NewT.refl _) rfl)
          · intro a wx hT hF K hK
            obtain ⟨f20, _⟩ := hF
            have f20 : a.tmps.getD 20 undef = .agg (rowA 109 (recF x sv dv)) := f20
            refine rely_wp rfl ?_
            exact opr_cv (commitment_cv _ x wx (hT.recV (NewT.recV h3 HX2.out)) (hT.tables (NewT.tables h3 HT2.out)) hlx) rfl Tryd.func31 (by kernel_rfl) (by kernel_rfl) (by simp only [List.map_toArray, List.map_cons, List.map_nil, eval_tmp, f20]) hK
          · intro e4 h4
            intro u h; obtain rfl := Eq.symm (h (by simp)); clear h
            intro u h; obtain rfl := Eq.symm (h (by simp)); clear h
            refine relyEnd_nil rfl ?_
            simp only [Act.put, List.setIfInBounds_toArray, List.set_cons_zero, List.set_cons_succ]
            refine wpList_plain rfl (fun K hK => ?_)
            refine opr_fldR (by decide) rfl rfl (hK _ _ ?_)
            clear hK K
            refine wpList_plain rfl (fun K hK => ?_)
            refine opr_put1 rfl rfl rfl (h4.row (h3.row hr2)) (by decide) info_b1 rfl (fun i _ => rs_gone x su u10 i _) ?_
            intro e5 h5 r5
            refine hK _ _ ?_
            clear hK K
            refine wpList_plain rfl (fun K hK => ?_)
            refine opr_fldR (by decide) rfl rfl (hK _ _ ?_)
            clear hK K
            refine wpList_plain rfl (fun K hK => ?_)
            refine opr_putm rfl rfl rfl r5 (by decide) info31 (fun _ => rfl) (fun i hi => rs_com ({ x with gone := true }) su u10 i _ hi) ?_
            intro e6 h6 r6
            refine hK _ _ ?_
            clear hK K
            refine wpList_end rfl ?_
            go_simp
            go_upto_region 5 with fail
            refine wp_region_steps0 NewT [SV.eq (.agg (rowA 32 (bF (fun _ => 0))))] [([], none)] 28 1 rfl rfl (by kernel_rfl) NewT.trans (NewT.refl _) (Nat.le_of_ble_eq_true rfl) ⟨?_, trivial⟩ ?_
            · intro a wx hT hF K hK
              refine rely_wp rfl ?_
              exact opr_build (pv := #[]) rfl (by simp) (build_hash0 wx) (hK _ _ (NewT.refl _) rfl)
            · intro e7 h7
              intro u h; obtain rfl := Eq.symm (h (by simp)); clear h
              refine relyEnd_nil rfl ?_
              simp only [Act.put, List.setIfInBounds_toArray, List.set_cons_zero, List.set_cons_succ]
              refine wpList_plain rfl (fun K hK => ?_)
              refine opr_fldR (by decide) rfl rfl (hK _ _ ?_)
              clear hK K
              refine wpList_plain rfl (fun K hK => ?_)
              refine opr_put1 rfl rfl rfl (h7.row r6) (by decide) info_d1 rfl (fun i _ => rs_data ({ x with gone := true, com := comC x }) su u10 i _) ?_
              intro e8 h8 r8
              refine hK _ _ ?_
              clear hK K
              refine wpList_plain rfl (fun K hK => ?_)
              refine opr_fldR (by decide) rfl rfl (hK _ _ ?_)
              clear hK K
              refine wpList_plain rfl (fun K hK => ?_)
              refine opr_putm rfl rfl rfl r8 (by decide) info31 (fun _ => rfl) (fun i hi => rs_salt ({ x with gone := true, com := comC x }) su (.slice none 0 0) i _ hi) ?_
              intro e9 h9 r9
              refine hK _ _ ?_
              clear hK K
              refine wpList_end rfl ?_
              go_simp
              have hRT9 := RT.trans _ _ _ h5 (RT.trans _ _ _ h6 (RT.trans _ _ _ (RT.new r6.lt h7) (RT.trans _ _ _ h8 h9)))
              have HN9 := (NewT.trans _ _ _ HN2.out (NewT.trans _ _ _ h3 h4)).rt hRT9 (by omega)
              have hsu9 := RdPB.rt ((hsu.new h3).new h4) hRT9 (Nat.lt_succ_self _)
              go_upto_region 6 with fail
              refine wp_region_steps0 NewT [SV.eq (.agg (rowA 109 (recF ({ x with gone := true, com := comC x, salt := fun _ => 0 }) su (.slice none 0 0))))] [([(3, none)], none)] 28 1 rfl rfl (by kernel_rfl) NewT.trans (NewT.refl _) (Nat.le_of_ble_eq_true rfl) ⟨?_, trivial⟩ ?_
              · intro a wx hT hF K hK
                obtain ⟨f3, _⟩ := hF
                have f3 : a.tmps.getD 3 undef = .pointer (some ⟨R, 0, none⟩) := f3
                refine rely_wp rfl ?_
                exact opr_ldR (hT.row r9) rfl f3 (hK _ _ (NewT.refl _) rfl)
              · intro wf hf
                intro u h; obtain rfl := Eq.symm (h (by simp)); clear h
                refine relyEnd_nil rfl ?_
                simp only [Act.put, List.setIfInBounds_toArray, List.set_cons_zero, List.set_cons_succ]
                refine wpList_plain rfl (fun K hK => ?_)
                refine opr_putm rfl rfl rfl (hf.row (hRT9.row hne2 (h4.row (NewT.row h3 Y2.out)))) (by decide) info_rec (recF_one _ _ _ (oneP hsu9.1) rfl) (put_all _ _) ?_
                intro wq hTq rq
                refine hK _ _ ?_
                refine wpList_end rfl ?_
                go_simp
                go_wp2
                have hNq : NewT w wq := (NewT.trans _ _ _ (HN9) hf).rt hTq (by omega)
                refine bodyPost_ret (results_agg rfl _ rfl rq Tryd.underlying27 rfl info_rec) rfl ⟨_, rfl, hNq, ?_⟩
                rw [HO.out]
                exact ⟨su, .slice none 0 0, rfl, (RdPB.rt (hsu9.new hf) hTq (by omega)).1, rdV_nil _ _⟩
end Go.Proofs.YthgblcpekhiphaaDoor
/- Package rec: records' bytes, by kinds. -/
namespace Go.Proofs.YthgblcpekhiphaaDoor
open Go Go.RowKit
set_option maxRecDepth 8000
set_option maxHeartbeats 1000000 in
theorem putTry_cv (v : Value) (x : Rc) (w : World) (h : RecV w v x) : Cv 58 #[v] w (svRd (callL x)) := by
  obtain ⟨sv, dv, rfl, hs, hd⟩ := h
  unfold Cv
  have HX : Hid (RecV w (.agg (rowA 109 (recF x sv dv))) x) := Lib.hid ⟨sv, dv, rfl, hs, hd⟩
  have HS := Lib.hid hs
  have HD := Lib.hid hd
  clear hs hd
  go_enter Tryd.func58, Tryd.ntmps58
  go_upto_region 1 with fail
  have r1 := rowIs_box w 27 109 (recF x sv dv)
  have hN := NewT.alloc w (.cells (rowA 109 (recF x sv dv)) 27)
  change Code.wp _ _ _ _ (w.alloc (.cells (rowA 109 (recF x sv dv)) 27))
  generalize w.alloc (.cells (rowA 109 (recF x sv dv)) 27) = W0 at r1 hN ⊢
  have R1 := Lib.hid r1
  have HN := Lib.hid hN
  replace HX := Lib.hid (hN.recV HX.out)
  replace HS := Lib.hid (hN.pairs HS.out)
  replace HD := Lib.hid (hN.rd HD.out)
  clear r1 hN
  refine wp_region_rely NewT [SV.eq (.pointer (some ⟨w.heap.size, 1, none⟩)), SV.eq (.int .i64 (x.saga)), svRd (numI x.saga), SV.eq (.pointer (some ⟨w.heap.size, 2, none⟩)), SV.eq (.int .i64 (x.seq)), svRd (numI x.seq), SV.eq (.pointer (some ⟨w.heap.size, 3, none⟩)), SV.eq (.int .i64 (x.step)), svRd (numI x.step), SV.eq (.pointer (some ⟨w.heap.size, 4, none⟩)), SV.eq (.int .i64 (x.tr)), svRd (numI x.tr), SV.eq (.pointer (some ⟨w.heap.size, 5, none⟩)), SV.eq (.bool (x.back)), svRd ([fB x.back]), svParts [numI x.saga, numI x.seq, numI x.step, numI x.tr, [fB x.back]], svRd (callL x)] [([(1, none)], none), ([(3, some 0)], none), ([(4, some 1)], none), ([(1, none)], none), ([(6, some 3)], none), ([(7, some 4)], none), ([(1, none)], none), ([(9, some 6)], none), ([(10, some 7)], none), ([(1, none)], none), ([(12, some 9)], none), ([(13, some 10)], none), ([(1, none)], none), ([(15, some 12)], none), ([(16, some 13)], none), ([(5, some 2), (8, some 5), (11, some 8), (14, some 11), (17, some 14)], none), ([(18, some 15)], none)] 20 rfl (by kernel_rfl) rfl (by kernel_rfl) (by kernel_rfl) rfl NewT.trans (NewT.drew _) (Nat.le_of_ble_eq_true rfl) ⟨?_, ?_, ?_, ?_, ?_, ?_, ?_, ?_, ?_, ?_, ?_, ?_, ?_, ?_, ?_, ?_, ?_, trivial⟩ ?_
  · intro a wx hT hF K hK
    obtain ⟨f1, _⟩ := hF
    have f1 : a.tmps.getD 1 undef = .pointer (some ⟨w.heap.size, 0, none⟩) := f1
    refine rely_wp rfl ?_
    exact opr_fldR (by decide) rfl f1 (hK _ _ (NewT.refl _) rfl)
  · intro a wx hT hF K hK
    obtain ⟨f3, _⟩ := hF
    have f3 : a.tmps.getD 3 undef = .pointer (some ⟨w.heap.size, 1, none⟩) := f3
    refine rely_wp rfl ?_
    exact opr_ldI (hT.row R1.out) (by decide) rfl rfl f3 (hK _ _ (NewT.refl _) rfl)
  · intro a wx hT hF K hK
    obtain ⟨f4, _⟩ := hF
    have f4 : a.tmps.getD 4 undef = .int .i64 (x.saga) := f4
    refine rely_wp rfl ?_
    exact opr_cv (Num_rd x.saga _ wx rfl) rfl Tryd.func38 (by kernel_rfl) (by kernel_rfl) (by simp only [List.map_toArray, List.map_cons, List.map_nil, eval_tmp, f4]) hK
  · intro a wx hT hF K hK
    obtain ⟨f1, _⟩ := hF
    have f1 : a.tmps.getD 1 undef = .pointer (some ⟨w.heap.size, 0, none⟩) := f1
    refine rely_wp rfl ?_
    exact opr_fldR (by decide) rfl f1 (hK _ _ (NewT.refl _) rfl)
  · intro a wx hT hF K hK
    obtain ⟨f6, _⟩ := hF
    have f6 : a.tmps.getD 6 undef = .pointer (some ⟨w.heap.size, 2, none⟩) := f6
    refine rely_wp rfl ?_
    exact opr_ldI (hT.row R1.out) (by decide) rfl rfl f6 (hK _ _ (NewT.refl _) rfl)
  · intro a wx hT hF K hK
    obtain ⟨f7, _⟩ := hF
    have f7 : a.tmps.getD 7 undef = .int .i64 (x.seq) := f7
    refine rely_wp rfl ?_
    exact opr_cv (Num_rd x.seq _ wx rfl) rfl Tryd.func38 (by kernel_rfl) (by kernel_rfl) (by simp only [List.map_toArray, List.map_cons, List.map_nil, eval_tmp, f7]) hK
  · intro a wx hT hF K hK
    obtain ⟨f1, _⟩ := hF
    have f1 : a.tmps.getD 1 undef = .pointer (some ⟨w.heap.size, 0, none⟩) := f1
    refine rely_wp rfl ?_
    exact opr_fldR (by decide) rfl f1 (hK _ _ (NewT.refl _) rfl)
  · intro a wx hT hF K hK
    obtain ⟨f9, _⟩ := hF
    have f9 : a.tmps.getD 9 undef = .pointer (some ⟨w.heap.size, 3, none⟩) := f9
    refine rely_wp rfl ?_
    exact opr_ldI (hT.row R1.out) (by decide) rfl rfl f9 (hK _ _ (NewT.refl _) rfl)
  · intro a wx hT hF K hK
    obtain ⟨f10, _⟩ := hF
    have f10 : a.tmps.getD 10 undef = .int .i64 (x.step) := f10
    refine rely_wp rfl ?_
    exact opr_cv (Num_rd x.step _ wx rfl) rfl Tryd.func38 (by kernel_rfl) (by kernel_rfl) (by simp only [List.map_toArray, List.map_cons, List.map_nil, eval_tmp, f10]) hK
  · intro a wx hT hF K hK
    obtain ⟨f1, _⟩ := hF
    have f1 : a.tmps.getD 1 undef = .pointer (some ⟨w.heap.size, 0, none⟩) := f1
    refine rely_wp rfl ?_
    exact opr_fldR (by decide) rfl f1 (hK _ _ (NewT.refl _) rfl)
  · intro a wx hT hF K hK
    obtain ⟨f12, _⟩ := hF
    have f12 : a.tmps.getD 12 undef = .pointer (some ⟨w.heap.size, 4, none⟩) := f12
    refine rely_wp rfl ?_
    exact opr_ldI (hT.row R1.out) (by decide) rfl rfl f12 (hK _ _ (NewT.refl _) rfl)
  · intro a wx hT hF K hK
    obtain ⟨f13, _⟩ := hF
    have f13 : a.tmps.getD 13 undef = .int .i64 (x.tr) := f13
    refine rely_wp rfl ?_
    exact opr_cv (Num_rd x.tr _ wx rfl) rfl Tryd.func38 (by kernel_rfl) (by kernel_rfl) (by simp only [List.map_toArray, List.map_cons, List.map_nil, eval_tmp, f13]) hK
  · intro a wx hT hF K hK
    obtain ⟨f1, _⟩ := hF
    have f1 : a.tmps.getD 1 undef = .pointer (some ⟨w.heap.size, 0, none⟩) := f1
    refine rely_wp rfl ?_
    exact opr_fldR (by decide) rfl f1 (hK _ _ (NewT.refl _) rfl)
  · intro a wx hT hF K hK
    obtain ⟨f15, _⟩ := hF
    have f15 : a.tmps.getD 15 undef = .pointer (some ⟨w.heap.size, 5, none⟩) := f15
    refine rely_wp rfl ?_
    exact opr_ldQ (hT.row R1.out) (by decide) rfl rfl f15 (hK _ _ (NewT.refl _) rfl)
  · intro a wx hT hF K hK
    obtain ⟨f16, _⟩ := hF
    have f16 : a.tmps.getD 16 undef = .bool (x.back) := f16
    refine rely_wp rfl ?_
    exact opr_cv (Flag_rd x.back _ wx rfl) rfl Tryd.func77 (by kernel_rfl) (by kernel_rfl) (by simp only [List.map_toArray, List.map_cons, List.map_nil, eval_tmp, f16]) hK
  · intro a wx hT hF K hK
    obtain ⟨f5, f8, f11, f14, f17, _⟩ := hF
    replace f5 := show (svRd (numI x.saga)).pred (a.tmps.getD 5 undef) wx from f5
    replace f8 := show (svRd (numI x.seq)).pred (a.tmps.getD 8 undef) wx from f8
    replace f11 := show (svRd (numI x.step)).pred (a.tmps.getD 11 undef) wx from f11
    replace f14 := show (svRd (numI x.tr)).pred (a.tmps.getD 14 undef) wx from f14
    replace f17 := show (svRd ([fB x.back])).pred (a.tmps.getD 17 undef) wx from f17
    refine rely_wp rfl ?_
    exact opr_bs5 rfl f5 f8 f11 f14 f17 hK
  · intro a wx hT hF K hK
    obtain ⟨f18, _⟩ := hF
    replace f18 := show (svParts [numI x.saga, numI x.seq, numI x.step, numI x.tr, [fB x.back]]).pred (a.tmps.getD 18 undef) wx from f18
    refine rely_wp rfl ?_
    exact opr_cv (All_rd _ _ (callL x) wx f18 (by simp [callL]) (by have := callL_len x; omega)) rfl Tryd.func25 (by kernel_rfl) (by kernel_rfl) (by simp only [List.map_toArray, List.map_cons, List.map_nil, eval_tmp]) hK
  · intro wx hT
    intro u h; obtain rfl := Eq.symm (h (by simp)); clear h
    intro u h; obtain rfl := Eq.symm (h (by simp)); clear h
    intro _ _
    intro u h; obtain rfl := Eq.symm (h (by simp)); clear h
    intro u h; obtain rfl := Eq.symm (h (by simp)); clear h
    intro _ _
    intro u h; obtain rfl := Eq.symm (h (by simp)); clear h
    intro u h; obtain rfl := Eq.symm (h (by simp)); clear h
    intro _ _
    intro u h; obtain rfl := Eq.symm (h (by simp)); clear h
    intro u h; obtain rfl := Eq.symm (h (by simp)); clear h
    intro _ _
    intro u h; obtain rfl := Eq.symm (h (by simp)); clear h
    intro u h; obtain rfl := Eq.symm (h (by simp)); clear h
    intro _ _
    intro _ _
    intro u19 h; have g19 := h (by simp); clear h; replace g19 := show (svRd (callL x)).pred u19 wx from g19
    refine relyEnd_nil rfl ?_
    simp only [Act.put, List.setIfInBounds_toArray, List.set_cons_zero, List.set_cons_succ]
    refine opr_move (.inr rfl) ?_
    go_simp
    go_wp2
    go_ret
    exact ⟨_, rfl, NewT.trans _ _ _ HN.out hT, g19⟩
set_option maxHeartbeats 1000000 in
theorem putReceipt_cv (v : Value) (x : Rc) (w : World) (h : RecV w v x) : Cv 60 #[v] w (svRd (rcL x)) := by
  obtain ⟨sv, dv, rfl, hs, hd⟩ := h
  unfold Cv
  have HX : Hid (RecV w (.agg (rowA 109 (recF x sv dv))) x) := Lib.hid ⟨sv, dv, rfl, hs, hd⟩
  have HS := Lib.hid hs
  have HD := Lib.hid hd
  clear hs hd
  go_enter Tryd.func60, Tryd.ntmps60
  go_upto_region 1 with fail
  have r1 := rowIs_box w 27 109 (recF x sv dv)
  have hN := NewT.alloc w (.cells (rowA 109 (recF x sv dv)) 27)
  change Code.wp _ _ _ _ (w.alloc (.cells (rowA 109 (recF x sv dv)) 27))
  generalize w.alloc (.cells (rowA 109 (recF x sv dv)) 27) = W0 at r1 hN ⊢
  have R1 := Lib.hid r1
  have HN := Lib.hid hN
  replace HX := Lib.hid (hN.recV HX.out)
  replace HS := Lib.hid (hN.pairs HS.out)
  replace HD := Lib.hid (hN.rd HD.out)
  clear r1 hN
  refine wp_region_rely NewT [SV.eq (.agg (rowA 109 (recF x sv dv))), svRd (callL x), SV.eq (.pointer (some ⟨w.heap.size, 6, none⟩)), SV.eq (.bool (x.good)), svRd ([fB x.good]), SV.eq (.pointer (some ⟨w.heap.size, 8, none⟩)), SV.eq (.int .i64 (x.part)), svRd (numI x.part), SV.eq (.pointer (some ⟨w.heap.size, 9, none⟩)), SV.eq (.int .i64 (x.epoch)), svRd (numI x.epoch), SV.eq (.pointer (some ⟨w.heap.size, 10, none⟩)), SV.eq (.agg (rowA 32 (bF (x.tag)))), svRd (hL x.tag), svParts [callL x, [fB x.good], numI x.part, numI x.epoch, hL x.tag], svRd (rcL x)] [([(1, none)], none), ([(3, some 0)], none), ([(1, none)], none), ([(5, some 2)], none), ([(6, some 3)], none), ([(1, none)], none), ([(8, some 5)], none), ([(9, some 6)], none), ([(1, none)], none), ([(11, some 8)], none), ([(12, some 9)], none), ([(1, none)], none), ([(14, some 11)], none), ([(15, some 12)], none), ([(4, some 1), (7, some 4), (10, some 7), (13, some 10), (16, some 13)], none), ([(17, some 14)], none)] 19 rfl (by kernel_rfl) rfl (by kernel_rfl) (by kernel_rfl) rfl NewT.trans (NewT.drew _) (Nat.le_of_ble_eq_true rfl) ⟨?_, ?_, ?_, ?_, ?_, ?_, ?_, ?_, ?_, ?_, ?_, ?_, ?_, ?_, ?_, ?_, trivial⟩ ?_
  · intro a wx hT hF K hK
    obtain ⟨f1, _⟩ := hF
    have f1 : a.tmps.getD 1 undef = .pointer (some ⟨w.heap.size, 0, none⟩) := f1
    refine rely_wp rfl ?_
    exact opr_ldR (hT.row R1.out) rfl f1 (hK _ _ (NewT.refl _) rfl)
  · intro a wx hT hF K hK
    obtain ⟨f3, _⟩ := hF
    have f3 : a.tmps.getD 3 undef = .agg (rowA 109 (recF x sv dv)) := f3
    refine rely_wp rfl ?_
    exact opr_cv (putTry_cv _ x wx (hT.recV HX.out)) rfl Tryd.func58 (by kernel_rfl) (by kernel_rfl) (by simp only [List.map_toArray, List.map_cons, List.map_nil, eval_tmp, f3]) hK
  · intro a wx hT hF K hK
    obtain ⟨f1, _⟩ := hF
    have f1 : a.tmps.getD 1 undef = .pointer (some ⟨w.heap.size, 0, none⟩) := f1
    refine rely_wp rfl ?_
    exact opr_fldR (by decide) rfl f1 (hK _ _ (NewT.refl _) rfl)
  · intro a wx hT hF K hK
    obtain ⟨f5, _⟩ := hF
    have f5 : a.tmps.getD 5 undef = .pointer (some ⟨w.heap.size, 6, none⟩) := f5
    refine rely_wp rfl ?_
    exact opr_ldQ (hT.row R1.out) (by decide) rfl rfl f5 (hK _ _ (NewT.refl _) rfl)
  · intro a wx hT hF K hK
    obtain ⟨f6, _⟩ := hF
    have f6 : a.tmps.getD 6 undef = .bool (x.good) := f6
    refine rely_wp rfl ?_
    exact opr_cv (Flag_rd x.good _ wx rfl) rfl Tryd.func77 (by kernel_rfl) (by kernel_rfl) (by simp only [List.map_toArray, List.map_cons, List.map_nil, eval_tmp, f6]) hK
  · intro a wx hT hF K hK
    obtain ⟨f1, _⟩ := hF
    have f1 : a.tmps.getD 1 undef = .pointer (some ⟨w.heap.size, 0, none⟩) := f1
    refine rely_wp rfl ?_
    exact opr_fldR (by decide) rfl f1 (hK _ _ (NewT.refl _) rfl)
  · intro a wx hT hF K hK
    obtain ⟨f8, _⟩ := hF
    have f8 : a.tmps.getD 8 undef = .pointer (some ⟨w.heap.size, 8, none⟩) := f8
    refine rely_wp rfl ?_
    exact opr_ldI (hT.row R1.out) (by decide) rfl rfl f8 (hK _ _ (NewT.refl _) rfl)
  · intro a wx hT hF K hK
    obtain ⟨f9, _⟩ := hF
    have f9 : a.tmps.getD 9 undef = .int .i64 (x.part) := f9
    refine rely_wp rfl ?_
    exact opr_cv (Num_rd x.part _ wx rfl) rfl Tryd.func38 (by kernel_rfl) (by kernel_rfl) (by simp only [List.map_toArray, List.map_cons, List.map_nil, eval_tmp, f9]) hK
  · intro a wx hT hF K hK
    obtain ⟨f1, _⟩ := hF
    have f1 : a.tmps.getD 1 undef = .pointer (some ⟨w.heap.size, 0, none⟩) := f1
    refine rely_wp rfl ?_
    exact opr_fldR (by decide) rfl f1 (hK _ _ (NewT.refl _) rfl)
  · intro a wx hT hF K hK
    obtain ⟨f11, _⟩ := hF
    have f11 : a.tmps.getD 11 undef = .pointer (some ⟨w.heap.size, 9, none⟩) := f11
    refine rely_wp rfl ?_
    exact opr_ldI (hT.row R1.out) (by decide) rfl rfl f11 (hK _ _ (NewT.refl _) rfl)
  · intro a wx hT hF K hK
    obtain ⟨f12, _⟩ := hF
    have f12 : a.tmps.getD 12 undef = .int .i64 (x.epoch) := f12
    refine rely_wp rfl ?_
    exact opr_cv (Num_rd x.epoch _ wx rfl) rfl Tryd.func38 (by kernel_rfl) (by kernel_rfl) (by simp only [List.map_toArray, List.map_cons, List.map_nil, eval_tmp, f12]) hK
  · intro a wx hT hF K hK
    obtain ⟨f1, _⟩ := hF
    have f1 : a.tmps.getD 1 undef = .pointer (some ⟨w.heap.size, 0, none⟩) := f1
    refine rely_wp rfl ?_
    exact opr_fldR (by decide) rfl f1 (hK _ _ (NewT.refl _) rfl)
  · intro a wx hT hF K hK
    obtain ⟨f14, _⟩ := hF
    have f14 : a.tmps.getD 14 undef = .pointer (some ⟨w.heap.size, 10, none⟩) := f14
    refine rely_wp rfl ?_
    exact opr_ldH (hT.row R1.out) (by decide) (recF_tag x _ _) rfl f14 (hK _ _ (NewT.refl _) rfl)
  · intro a wx hT hF K hK
    obtain ⟨f15, _⟩ := hF
    have f15 : a.tmps.getD 15 undef = .agg (rowA 32 (bF (x.tag))) := f15
    refine rely_wp rfl ?_
    exact opr_cv (WHash_rd x.tag wx) rfl Tryd.func76 (by kernel_rfl) (by kernel_rfl) (by simp only [List.map_toArray, List.map_cons, List.map_nil, eval_tmp, f15]) hK
  · intro a wx hT hF K hK
    obtain ⟨f4, f7, f10, f13, f16, _⟩ := hF
    replace f4 := show (svRd (callL x)).pred (a.tmps.getD 4 undef) wx from f4
    replace f7 := show (svRd ([fB x.good])).pred (a.tmps.getD 7 undef) wx from f7
    replace f10 := show (svRd (numI x.part)).pred (a.tmps.getD 10 undef) wx from f10
    replace f13 := show (svRd (numI x.epoch)).pred (a.tmps.getD 13 undef) wx from f13
    replace f16 := show (svRd (hL x.tag)).pred (a.tmps.getD 16 undef) wx from f16
    refine rely_wp rfl ?_
    exact opr_bs5 rfl f4 f7 f10 f13 f16 hK
  · intro a wx hT hF K hK
    obtain ⟨f17, _⟩ := hF
    replace f17 := show (svParts [callL x, [fB x.good], numI x.part, numI x.epoch, hL x.tag]).pred (a.tmps.getD 17 undef) wx from f17
    refine rely_wp rfl ?_
    exact opr_cv (All_rd _ _ (rcL x) wx f17 (by simp [rcL]) (by have := rcL_len x; omega)) rfl Tryd.func25 (by kernel_rfl) (by kernel_rfl) (by simp only [List.map_toArray, List.map_cons, List.map_nil, eval_tmp]) hK
  · intro wx hT
    intro u h; obtain rfl := Eq.symm (h (by simp)); clear h
    intro _ _
    intro u h; obtain rfl := Eq.symm (h (by simp)); clear h
    intro u h; obtain rfl := Eq.symm (h (by simp)); clear h
    intro _ _
    intro u h; obtain rfl := Eq.symm (h (by simp)); clear h
    intro u h; obtain rfl := Eq.symm (h (by simp)); clear h
    intro _ _
    intro u h; obtain rfl := Eq.symm (h (by simp)); clear h
    intro u h; obtain rfl := Eq.symm (h (by simp)); clear h
    intro _ _
    intro u h; obtain rfl := Eq.symm (h (by simp)); clear h
    intro u h; obtain rfl := Eq.symm (h (by simp)); clear h
    intro _ _
    intro _ _
    intro u18 h; have g18 := h (by simp); clear h; replace g18 := show (svRd (rcL x)).pred u18 wx from g18
    refine relyEnd_nil rfl ?_
    simp only [Act.put, List.setIfInBounds_toArray, List.set_cons_zero, List.set_cons_succ]
    refine opr_move (.inr rfl) ?_
    go_simp
    go_wp2
    go_ret
    exact ⟨_, rfl, NewT.trans _ _ _ HN.out hT, g18⟩
set_option maxHeartbeats 1000000 in
theorem putClosed_cv (v : Value) (x : Rc) (w : World) (h : RecV w v x) : Cv 62 #[v] w (svRd (clL x)) := by
  obtain ⟨sv, dv, rfl, hs, hd⟩ := h
  unfold Cv
  have HX : Hid (RecV w (.agg (rowA 109 (recF x sv dv))) x) := Lib.hid ⟨sv, dv, rfl, hs, hd⟩
  have HS := Lib.hid hs
  have HD := Lib.hid hd
  clear hs hd
  go_enter Tryd.func62, Tryd.ntmps62
  go_upto_region 1 with fail
  have r1 := rowIs_box w 27 109 (recF x sv dv)
  have hN := NewT.alloc w (.cells (rowA 109 (recF x sv dv)) 27)
  change Code.wp _ _ _ _ (w.alloc (.cells (rowA 109 (recF x sv dv)) 27))
  generalize w.alloc (.cells (rowA 109 (recF x sv dv)) 27) = W0 at r1 hN ⊢
  have R1 := Lib.hid r1
  have HN := Lib.hid hN
  replace HX := Lib.hid (hN.recV HX.out)
  replace HS := Lib.hid (hN.pairs HS.out)
  replace HD := Lib.hid (hN.rd HD.out)
  clear r1 hN
  refine wp_region_rely NewT [SV.eq (.pointer (some ⟨w.heap.size, 1, none⟩)), SV.eq (.int .i64 (x.saga)), svRd (numI x.saga), SV.eq (.pointer (some ⟨w.heap.size, 2, none⟩)), SV.eq (.int .i64 (x.seq)), svRd (numI x.seq), SV.eq (.pointer (some ⟨w.heap.size, 7, none⟩)), SV.eq (.int .i64 (x.nd)), svRd (numI x.nd), svParts [numI x.saga, numI x.seq, numI x.nd], svRd (clL x)] [([(1, none)], none), ([(3, some 0)], none), ([(4, some 1)], none), ([(1, none)], none), ([(6, some 3)], none), ([(7, some 4)], none), ([(1, none)], none), ([(9, some 6)], none), ([(10, some 7)], none), ([(5, some 2), (8, some 5), (11, some 8)], none), ([(12, some 9)], none)] 14 rfl (by kernel_rfl) rfl (by kernel_rfl) (by kernel_rfl) rfl NewT.trans (NewT.drew _) (Nat.le_of_ble_eq_true rfl) ⟨?_, ?_, ?_, ?_, ?_, ?_, ?_, ?_, ?_, ?_, ?_, trivial⟩ ?_
  · intro a wx hT hF K hK
    obtain ⟨f1, _⟩ := hF
    have f1 : a.tmps.getD 1 undef = .pointer (some ⟨w.heap.size, 0, none⟩) := f1
    refine rely_wp rfl ?_
    exact opr_fldR (by decide) rfl f1 (hK _ _ (NewT.refl _) rfl)
  · intro a wx hT hF K hK
    obtain ⟨f3, _⟩ := hF
    have f3 : a.tmps.getD 3 undef = .pointer (some ⟨w.heap.size, 1, none⟩) := f3
    refine rely_wp rfl ?_
    exact opr_ldI (hT.row R1.out) (by decide) rfl rfl f3 (hK _ _ (NewT.refl _) rfl)
  · intro a wx hT hF K hK
    obtain ⟨f4, _⟩ := hF
    have f4 : a.tmps.getD 4 undef = .int .i64 (x.saga) := f4
    refine rely_wp rfl ?_
    exact opr_cv (Num_rd x.saga _ wx rfl) rfl Tryd.func38 (by kernel_rfl) (by kernel_rfl) (by simp only [List.map_toArray, List.map_cons, List.map_nil, eval_tmp, f4]) hK
  · intro a wx hT hF K hK
    obtain ⟨f1, _⟩ := hF
    have f1 : a.tmps.getD 1 undef = .pointer (some ⟨w.heap.size, 0, none⟩) := f1
    refine rely_wp rfl ?_
    exact opr_fldR (by decide) rfl f1 (hK _ _ (NewT.refl _) rfl)
  · intro a wx hT hF K hK
    obtain ⟨f6, _⟩ := hF
    have f6 : a.tmps.getD 6 undef = .pointer (some ⟨w.heap.size, 2, none⟩) := f6
    refine rely_wp rfl ?_
    exact opr_ldI (hT.row R1.out) (by decide) rfl rfl f6 (hK _ _ (NewT.refl _) rfl)
  · intro a wx hT hF K hK
    obtain ⟨f7, _⟩ := hF
    have f7 : a.tmps.getD 7 undef = .int .i64 (x.seq) := f7
    refine rely_wp rfl ?_
    exact opr_cv (Num_rd x.seq _ wx rfl) rfl Tryd.func38 (by kernel_rfl) (by kernel_rfl) (by simp only [List.map_toArray, List.map_cons, List.map_nil, eval_tmp, f7]) hK
  · intro a wx hT hF K hK
    obtain ⟨f1, _⟩ := hF
    have f1 : a.tmps.getD 1 undef = .pointer (some ⟨w.heap.size, 0, none⟩) := f1
    refine rely_wp rfl ?_
    exact opr_fldR (by decide) rfl f1 (hK _ _ (NewT.refl _) rfl)
  · intro a wx hT hF K hK
    obtain ⟨f9, _⟩ := hF
    have f9 : a.tmps.getD 9 undef = .pointer (some ⟨w.heap.size, 7, none⟩) := f9
    refine rely_wp rfl ?_
    exact opr_ldI (hT.row R1.out) (by decide) rfl rfl f9 (hK _ _ (NewT.refl _) rfl)
  · intro a wx hT hF K hK
    obtain ⟨f10, _⟩ := hF
    have f10 : a.tmps.getD 10 undef = .int .i64 (x.nd) := f10
    refine rely_wp rfl ?_
    exact opr_cv (Num_rd x.nd _ wx rfl) rfl Tryd.func38 (by kernel_rfl) (by kernel_rfl) (by simp only [List.map_toArray, List.map_cons, List.map_nil, eval_tmp, f10]) hK
  · intro a wx hT hF K hK
    obtain ⟨f5, f8, f11, _⟩ := hF
    replace f5 := show (svRd (numI x.saga)).pred (a.tmps.getD 5 undef) wx from f5
    replace f8 := show (svRd (numI x.seq)).pred (a.tmps.getD 8 undef) wx from f8
    replace f11 := show (svRd (numI x.nd)).pred (a.tmps.getD 11 undef) wx from f11
    refine rely_wp rfl ?_
    exact opr_bs3 rfl f5 f8 f11 hK
  · intro a wx hT hF K hK
    obtain ⟨f12, _⟩ := hF
    replace f12 := show (svParts [numI x.saga, numI x.seq, numI x.nd]).pred (a.tmps.getD 12 undef) wx from f12
    refine rely_wp rfl ?_
    exact opr_cv (All_rd _ _ (clL x) wx f12 (by simp [clL]) (by have := clL_len x; omega)) rfl Tryd.func25 (by kernel_rfl) (by kernel_rfl) (by simp only [List.map_toArray, List.map_cons, List.map_nil, eval_tmp]) hK
  · intro wx hT
    intro u h; obtain rfl := Eq.symm (h (by simp)); clear h
    intro u h; obtain rfl := Eq.symm (h (by simp)); clear h
    intro _ _
    intro u h; obtain rfl := Eq.symm (h (by simp)); clear h
    intro u h; obtain rfl := Eq.symm (h (by simp)); clear h
    intro _ _
    intro u h; obtain rfl := Eq.symm (h (by simp)); clear h
    intro u h; obtain rfl := Eq.symm (h (by simp)); clear h
    intro _ _
    intro _ _
    intro u13 h; have g13 := h (by simp); clear h; replace g13 := show (svRd (clL x)).pred u13 wx from g13
    refine relyEnd_nil rfl ?_
    simp only [Act.put, List.setIfInBounds_toArray, List.set_cons_zero, List.set_cons_succ]
    refine opr_move (.inr rfl) ?_
    go_simp
    go_wp2
    go_ret
    exact ⟨_, rfl, NewT.trans _ _ _ HN.out hT, g13⟩
set_option maxHeartbeats 1000000 in
theorem putRotate_cv (v : Value) (x : Rc) (w : World) (h : RecV w v x) : Cv 64 #[v] w (svRd (roL x)) := by
  obtain ⟨sv, dv, rfl, hs, hd⟩ := h
  unfold Cv
  have HX : Hid (RecV w (.agg (rowA 109 (recF x sv dv))) x) := Lib.hid ⟨sv, dv, rfl, hs, hd⟩
  have HS := Lib.hid hs
  have HD := Lib.hid hd
  clear hs hd
  go_enter Tryd.func64, Tryd.ntmps64
  go_upto_region 1 with fail
  have r1 := rowIs_box w 27 109 (recF x sv dv)
  have hN := NewT.alloc w (.cells (rowA 109 (recF x sv dv)) 27)
  change Code.wp _ _ _ _ (w.alloc (.cells (rowA 109 (recF x sv dv)) 27))
  generalize w.alloc (.cells (rowA 109 (recF x sv dv)) 27) = W0 at r1 hN ⊢
  have R1 := Lib.hid r1
  have HN := Lib.hid hN
  replace HX := Lib.hid (hN.recV HX.out)
  replace HS := Lib.hid (hN.pairs HS.out)
  replace HD := Lib.hid (hN.rd HD.out)
  clear r1 hN
  refine wp_region_rely NewT [SV.eq (.pointer (some ⟨w.heap.size, 8, none⟩)), SV.eq (.int .i64 (x.part)), svRd (numI x.part), SV.eq (.pointer (some ⟨w.heap.size, 9, none⟩)), SV.eq (.int .i64 (x.epoch)), svRd (numI x.epoch), svParts [numI x.part, numI x.epoch], svRd (roL x)] [([(1, none)], none), ([(3, some 0)], none), ([(4, some 1)], none), ([(1, none)], none), ([(6, some 3)], none), ([(7, some 4)], none), ([(5, some 2), (8, some 5)], none), ([(9, some 6)], none)] 11 rfl (by kernel_rfl) rfl (by kernel_rfl) (by kernel_rfl) rfl NewT.trans (NewT.drew _) (Nat.le_of_ble_eq_true rfl) ⟨?_, ?_, ?_, ?_, ?_, ?_, ?_, ?_, trivial⟩ ?_
  · intro a wx hT hF K hK
    obtain ⟨f1, _⟩ := hF
    have f1 : a.tmps.getD 1 undef = .pointer (some ⟨w.heap.size, 0, none⟩) := f1
    refine rely_wp rfl ?_
    exact opr_fldR (by decide) rfl f1 (hK _ _ (NewT.refl _) rfl)
  · intro a wx hT hF K hK
    obtain ⟨f3, _⟩ := hF
    have f3 : a.tmps.getD 3 undef = .pointer (some ⟨w.heap.size, 8, none⟩) := f3
    refine rely_wp rfl ?_
    exact opr_ldI (hT.row R1.out) (by decide) rfl rfl f3 (hK _ _ (NewT.refl _) rfl)
  · intro a wx hT hF K hK
    obtain ⟨f4, _⟩ := hF
    have f4 : a.tmps.getD 4 undef = .int .i64 (x.part) := f4
    refine rely_wp rfl ?_
    exact opr_cv (Num_rd x.part _ wx rfl) rfl Tryd.func38 (by kernel_rfl) (by kernel_rfl) (by simp only [List.map_toArray, List.map_cons, List.map_nil, eval_tmp, f4]) hK
  · intro a wx hT hF K hK
    obtain ⟨f1, _⟩ := hF
    have f1 : a.tmps.getD 1 undef = .pointer (some ⟨w.heap.size, 0, none⟩) := f1
    refine rely_wp rfl ?_
    exact opr_fldR (by decide) rfl f1 (hK _ _ (NewT.refl _) rfl)
  · intro a wx hT hF K hK
    obtain ⟨f6, _⟩ := hF
    have f6 : a.tmps.getD 6 undef = .pointer (some ⟨w.heap.size, 9, none⟩) := f6
    refine rely_wp rfl ?_
    exact opr_ldI (hT.row R1.out) (by decide) rfl rfl f6 (hK _ _ (NewT.refl _) rfl)
  · intro a wx hT hF K hK
    obtain ⟨f7, _⟩ := hF
    have f7 : a.tmps.getD 7 undef = .int .i64 (x.epoch) := f7
    refine rely_wp rfl ?_
    exact opr_cv (Num_rd x.epoch _ wx rfl) rfl Tryd.func38 (by kernel_rfl) (by kernel_rfl) (by simp only [List.map_toArray, List.map_cons, List.map_nil, eval_tmp, f7]) hK
  · intro a wx hT hF K hK
    obtain ⟨f5, f8, _⟩ := hF
    replace f5 := show (svRd (numI x.part)).pred (a.tmps.getD 5 undef) wx from f5
    replace f8 := show (svRd (numI x.epoch)).pred (a.tmps.getD 8 undef) wx from f8
    refine rely_wp rfl ?_
    exact opr_bs2 rfl f5 f8 hK
  · intro a wx hT hF K hK
    obtain ⟨f9, _⟩ := hF
    replace f9 := show (svParts [numI x.part, numI x.epoch]).pred (a.tmps.getD 9 undef) wx from f9
    refine rely_wp rfl ?_
    exact opr_cv (All_rd _ _ (roL x) wx f9 (by simp [roL]) (by have := roL_len x; omega)) rfl Tryd.func25 (by kernel_rfl) (by kernel_rfl) (by simp only [List.map_toArray, List.map_cons, List.map_nil, eval_tmp]) hK
  · intro wx hT
    intro u h; obtain rfl := Eq.symm (h (by simp)); clear h
    intro u h; obtain rfl := Eq.symm (h (by simp)); clear h
    intro _ _
    intro u h; obtain rfl := Eq.symm (h (by simp)); clear h
    intro u h; obtain rfl := Eq.symm (h (by simp)); clear h
    intro _ _
    intro _ _
    intro u10 h; have g10 := h (by simp); clear h; replace g10 := show (svRd (roL x)).pred u10 wx from g10
    refine relyEnd_nil rfl ?_
    simp only [Act.put, List.setIfInBounds_toArray, List.set_cons_zero, List.set_cons_succ]
    refine opr_move (.inr rfl) ?_
    go_simp
    go_wp2
    go_ret
    exact ⟨_, rfl, NewT.trans _ _ _ HN.out hT, g10⟩
set_option maxHeartbeats 2000000 in
theorem putHead_cv (v : Value) (x : Rc) (w : World) (h : RecV w v x) (hl : x.steps.length ≤ 30) : Cv 75 #[v] w (svRd (hdL x)) := by
  obtain ⟨sv, dv, rfl, hs, hd⟩ := h
  unfold Cv
  have HX : Hid (RecV w (.agg (rowA 109 (recF x sv dv))) x) := Lib.hid ⟨sv, dv, rfl, hs, hd⟩
  have HS := Lib.hid hs
  have HD := Lib.hid hd
  clear hs hd
  go_enter Tryd.func75, Tryd.ntmps75
  go_upto_region 1 with fail
  have r1 := rowIs_box w 27 109 (recF x sv dv)
  have hN := NewT.alloc w (.cells (rowA 109 (recF x sv dv)) 27)
  change Code.wp _ _ _ _ (w.alloc (.cells (rowA 109 (recF x sv dv)) 27))
  generalize w.alloc (.cells (rowA 109 (recF x sv dv)) 27) = W0 at r1 hN ⊢
  have R1 := Lib.hid r1
  have HN := Lib.hid hN
  replace HX := Lib.hid (hN.recV HX.out)
  replace HS := Lib.hid (hN.pairs HS.out)
  replace HD := Lib.hid (hN.rd HD.out)
  clear r1 hN
  refine wp_region_rely NewT [SV.eq (.pointer (some ⟨w.heap.size, 1, none⟩)), SV.eq (.int .i64 (x.saga)), svRd (numI x.saga), SV.eq (.pointer (some ⟨w.heap.size, 42, none⟩)), SV.eq (sv), SV.eq (.int .i64 ((List.length (x.steps) : Int))), svRd (numI ((List.length (x.steps) : Int))), svParts [numI x.saga, numI ((List.length (x.steps) : Int))], svRd (numI x.saga ++ numI x.steps.length)] [([(1, none)], none), ([(6, some 0)], none), ([(7, some 1)], none), ([(1, none)], none), ([(9, some 3)], none), ([(10, some 4)], none), ([(11, some 5)], none), ([(8, some 2), (12, some 6)], none), ([(13, some 7)], none)] 33 rfl (by kernel_rfl) rfl (by kernel_rfl) (by kernel_rfl) rfl NewT.trans (NewT.drew _) (Nat.le_of_ble_eq_true rfl) ⟨?_, ?_, ?_, ?_, ?_, ?_, ?_, ?_, ?_, trivial⟩ ?_
  · intro a wx hT hF K hK
    obtain ⟨f1, _⟩ := hF
    have f1 : a.tmps.getD 1 undef = .pointer (some ⟨w.heap.size, 0, none⟩) := f1
    refine rely_wp rfl ?_
    exact opr_fldR (by decide) rfl f1 (hK _ _ (NewT.refl _) rfl)
  · intro a wx hT hF K hK
    obtain ⟨f6, _⟩ := hF
    have f6 : a.tmps.getD 6 undef = .pointer (some ⟨w.heap.size, 1, none⟩) := f6
    refine rely_wp rfl ?_
    exact opr_ldI (hT.row R1.out) (by decide) rfl rfl f6 (hK _ _ (NewT.refl _) rfl)
  · intro a wx hT hF K hK
    obtain ⟨f7, _⟩ := hF
    have f7 : a.tmps.getD 7 undef = .int .i64 (x.saga) := f7
    refine rely_wp rfl ?_
    exact opr_cv (Num_rd x.saga _ wx rfl) rfl Tryd.func38 (by kernel_rfl) (by kernel_rfl) (by simp only [List.map_toArray, List.map_cons, List.map_nil, eval_tmp, f7]) hK
  · intro a wx hT hF K hK
    obtain ⟨f1, _⟩ := hF
    have f1 : a.tmps.getD 1 undef = .pointer (some ⟨w.heap.size, 0, none⟩) := f1
    refine rely_wp rfl ?_
    exact opr_fldR (by decide) rfl f1 (hK _ _ (NewT.refl _) rfl)
  · intro a wx hT hF K hK
    obtain ⟨f9, _⟩ := hF
    have f9 : a.tmps.getD 9 undef = .pointer (some ⟨w.heap.size, 42, none⟩) := f9
    refine rely_wp rfl ?_
    exact opr_ldS (hT.row R1.out) (by decide) rfl rfl f9 (hK _ _ (NewT.refl _) rfl)
  · intro a wx hT hF K hK
    obtain ⟨f10, _⟩ := hF
    have f10 : a.tmps.getD 10 undef = sv := f10
    refine rely_wp rfl ?_
    exact opr_len_pairs rfl (by rw [eval_tmp, f10]; exact (hT.pairs HS.out)) (hK _ _ (NewT.refl _) rfl)
  · intro a wx hT hF K hK
    obtain ⟨f11, _⟩ := hF
    have f11 : a.tmps.getD 11 undef = .int .i64 ((List.length (x.steps) : Int)) := f11
    refine rely_wp rfl ?_
    exact opr_cv (Num_rd ((List.length (x.steps) : Int)) _ wx rfl) rfl Tryd.func38 (by kernel_rfl) (by kernel_rfl) (by simp only [List.map_toArray, List.map_cons, List.map_nil, eval_tmp, f11]) hK
  · intro a wx hT hF K hK
    obtain ⟨f8, f12, _⟩ := hF
    replace f8 := show (svRd (numI x.saga)).pred (a.tmps.getD 8 undef) wx from f8
    replace f12 := show (svRd (numI ((List.length (x.steps) : Int)))).pred (a.tmps.getD 12 undef) wx from f12
    refine rely_wp rfl ?_
    exact opr_bs2 rfl f8 f12 hK
  · intro a wx hT hF K hK
    obtain ⟨f13, _⟩ := hF
    replace f13 := show (svParts [numI x.saga, numI ((List.length (x.steps) : Int))]).pred (a.tmps.getD 13 undef) wx from f13
    refine rely_wp rfl ?_
    exact opr_cv (All_rd _ _ (numI x.saga ++ numI x.steps.length) wx f13 (by simp) (by have := numI_length x.saga; have := numI_length x.steps.length; simp; omega)) rfl Tryd.func25 (by kernel_rfl) (by kernel_rfl) (by simp only [List.map_toArray, List.map_cons, List.map_nil, eval_tmp]) hK
  · intro w1 h1
    intro u h; obtain rfl := Eq.symm (h (by simp)); clear h
    intro u h; obtain rfl := Eq.symm (h (by simp)); clear h
    intro _ _
    intro u h; obtain rfl := Eq.symm (h (by simp)); clear h
    intro u h; obtain rfl := Eq.symm (h (by simp)); clear h
    intro u h; obtain rfl := Eq.symm (h (by simp)); clear h
    intro _ _
    intro _ _
    intro u14 h; have g14 := h (by simp); clear h; replace g14 := show (svRd (numI x.saga ++ numI x.steps.length)).pred u14 w1 from g14
    refine relyEnd_nil rfl ?_
    simp only [Act.put, List.setIfInBounds_toArray, List.set_cons_zero, List.set_cons_succ]
    refine opr_move (.inr rfl) ?_
    go_simp
    replace HS := Lib.hid (h1.pairs HS.out)
    have c11 : w1.cell? ⟨w.heap.size, 42, none⟩ = some sv := (h1.row R1.out).cell (i := 42) (by omega)
    have HN1 := Lib.hid (NewT.trans _ _ _ HN.out h1)
    have G14 := Lib.hid g14
    obtain ⟨A0, cap, hsv, p1, p2, p3⟩ := HS.out
    unfold maxLen at p2
    have P3 := Lib.hid p3
    rw [hsv] at c11
    have Hx : Hid (hdL x = (numI x.saga ++ numI x.steps.length) ++ stepsL x.steps) := Lib.hid (by unfold hdL; simp)
    clear HS p3 g14 h1 HN hsv HX HD R1
    generalize hst : x.steps = l at *
    clear hst
    generalize hn : l.length = n at *
    have Hn := Lib.hid hn
    have h0l : (numI x.saga ++ numI (n : Int)).length ≤ 10 := by have := numI_length x.saga; have := numI_length (n : Int); simp; omega
    generalize numI x.saga ++ numI (n : Int) = l0 at *
    clear hn
    go_wp2
    go_loopw [3, 18] (fun v i wr => ∃ k : Nat, k ≤ n ∧ i = .int .i64 k ∧ RdV wr [] v (l0 ++ stepsL (l.take k)) ∧ NewT w1 wr) (fun _ i _ => n - (intOf i).toNat)
    case atStart => exact ⟨0, by omega, rfl, by rw [show l0 ++ stepsL (l.take 0) = l0 by simp [stepsL]]; exact G14.out, NewT.refl _⟩
    case round =>
      obtain ⟨k, hk, rfl, hrd, qN⟩ := hrel
      have Hrd := Lib.hid hrd
      clear hrd
      by_cases hlt : k < n
      · obtain ⟨b, o, rfl, hcell⟩ := P3.out (by omega)
        obtain ⟨j0, j1⟩ := hcell k hlt
        have k0 := (qN.out.cell (p := ⟨b, o + 2 * k, none⟩) (World.block_lt_of_cell? _ _ j0)).trans j0
        have k1 := (qN.out.cell (p := ⟨b, o + 2 * k + 1, none⟩) (World.block_lt_of_cell? _ _ j1)).trans j1
        have Hnx := Lib.hid (stepsL_next l k (by rw [Hn.out]; exact hlt))
        have hacc : (l0 ++ stepsL (l.take k)).length ≤ 400 := by have := stepsL_len (l.take k); simp at this ⊢; have := Hn.out; omega
        clear hcell j0 j1
        generalize l.getD k (0, 0) = s at k0 k1 Hnx
        have it : (k : Int) < (n : Int) := by omega
        have Hacc : Hid (∀ z, stepsL (l.take (k + 1)) = stepsL (l.take k) ++ z → l0 ++ stepsL (l.take (k + 1)) = (l0 ++ stepsL (l.take k)) ++ z) := Lib.hid (fun z h => by rw [h, List.append_assoc])
        generalize l0 ++ stepsL (l.take k) = acc at Hrd hacc Hacc
        go_upto_region 4 with fail
        refine wp_region_steps0 NewT [SV.eq (.pointer (some ⟨b, o + 2 * k, none⟩)), SV.eq (.agg (rowA 2 (stepF s)))] [([(16, none), (18, none)], none), ([(20, some 0)], none)] 33 2 rfl rfl (by kernel_rfl) NewT.trans (NewT.refl _) (Nat.le_of_ble_eq_true rfl) ⟨?_, ?_, trivial⟩ ?_
        · intro a wx hT hF K hK
          obtain ⟨f16, f18, _⟩ := hF
          have f16 : a.tmps.getD 16 undef = .slice (some ⟨b, o, none⟩) n cap := f16
          have f18 : a.tmps.getD 18 undef = .int .i64 ((k : Int)) := f18
          refine rely_wp rfl ?_
          exact opr_idxS hlt rfl f16 f18 (hK _ _ (NewT.refl _) rfl)
        · intro a wx hT hF K hK
          obtain ⟨f20, _⟩ := hF
          have f20 : a.tmps.getD 20 undef = .pointer (some ⟨b, o + 2 * k, none⟩) := f20
          refine rely_wp rfl ?_
          exact opr_ld2 ((hT.out.cell (World.block_lt_of_cell? _ _ k0)).trans k0) ((hT.out.cell (World.block_lt_of_cell? _ _ k1)).trans k1) rfl f20 (hK _ _ (NewT.refl _) rfl)
        · intro w5 h5
          intro u h; obtain rfl := Eq.symm (h (by simp)); clear h
          intro u h; obtain rfl := Eq.symm (h (by simp)); clear h
          refine relyEnd_nil rfl ?_
          simp only [Act.put, List.setIfInBounds_toArray, List.set_cons_zero, List.set_cons_succ]
          refine wpList_new (n := 2) rfl rfl rfl rfl rfl rfl (by simp) run_alloc_step info_step (stepF_one s) rfl ?_
          intro wn hNn rn
          refine wpList_end rfl ?_
          simp only [Act.put, List.setIfInBounds_toArray, List.set_cons_zero, List.set_cons_succ]
          go_simp
          clear k0 k1
          go_upto_region 5 with fail
          refine wp_region_rely NewT [svRd (acc), SV.eq (.pointer (some ⟨w5.heap.size, 0 + 0, none⟩)), SV.eq (.int .i64 (s.1)), svRd (numI s.1), SV.eq (.pointer (some ⟨w5.heap.size, 0 + 1, none⟩)), SV.eq (.int .i64 (s.2)), svRd (numI s.2), svParts [acc, numI s.1, numI s.2], svRd (acc ++ (numI s.1 ++ numI s.2))] [([(3, none)], none), ([(5, none)], none), ([(23, some 1)], none), ([(24, some 2)], none), ([(5, none)], none), ([(26, some 4)], none), ([(27, some 5)], none), ([(22, some 0), (25, some 3), (28, some 6)], none), ([(29, some 7)], none)] 33 rfl (by kernel_rfl) rfl (by kernel_rfl) (by kernel_rfl) rfl NewT.trans (NewT.drew _) (Nat.le_of_ble_eq_true rfl) ⟨?_, ?_, ?_, ?_, ?_, ?_, ?_, ?_, ?_, trivial⟩ ?_
          · intro a wx hT hF K hK
            obtain ⟨f3, _⟩ := hF
            have f3 : a.tmps.getD 3 undef = u3 := f3
            refine rely_wp rfl ?_
            exact opr_move (.inl rfl) (hK _ _ (NewT.refl _) (by rw [eval_tmp, f3]; exact hT.rd (hNn.rd (h5.rd Hrd.out))))
          · intro a wx hT hF K hK
            obtain ⟨f5, _⟩ := hF
            have f5 : a.tmps.getD 5 undef = .pointer (some ⟨w5.heap.size, 0, none⟩) := f5
            refine rely_wp rfl ?_
            exact opr_fldS (by decide) rfl f5 (hK _ _ (NewT.refl _) rfl)
          · intro a wx hT hF K hK
            obtain ⟨f23, _⟩ := hF
            have f23 : a.tmps.getD 23 undef = .pointer (some ⟨w5.heap.size, 0 + 0, none⟩) := f23
            refine rely_wp rfl ?_
            exact opr_ldI (hT.row rn) (by decide) rfl rfl f23 (hK _ _ (NewT.refl _) rfl)
          · intro a wx hT hF K hK
            obtain ⟨f24, _⟩ := hF
            have f24 : a.tmps.getD 24 undef = .int .i64 (s.1) := f24
            refine rely_wp rfl ?_
            exact opr_cv (Num_rd s.1 _ wx rfl) rfl Tryd.func38 (by kernel_rfl) (by kernel_rfl) (by simp only [List.map_toArray, List.map_cons, List.map_nil, eval_tmp, f24]) hK
          · intro a wx hT hF K hK
            obtain ⟨f5, _⟩ := hF
            have f5 : a.tmps.getD 5 undef = .pointer (some ⟨w5.heap.size, 0, none⟩) := f5
            refine rely_wp rfl ?_
            exact opr_fldS (by decide) rfl f5 (hK _ _ (NewT.refl _) rfl)
          · intro a wx hT hF K hK
            obtain ⟨f26, _⟩ := hF
            have f26 : a.tmps.getD 26 undef = .pointer (some ⟨w5.heap.size, 0 + 1, none⟩) := f26
            refine rely_wp rfl ?_
            exact opr_ldI (hT.row rn) (by decide) rfl rfl f26 (hK _ _ (NewT.refl _) rfl)
          · intro a wx hT hF K hK
            obtain ⟨f27, _⟩ := hF
            have f27 : a.tmps.getD 27 undef = .int .i64 (s.2) := f27
            refine rely_wp rfl ?_
            exact opr_cv (Num_rd s.2 _ wx rfl) rfl Tryd.func38 (by kernel_rfl) (by kernel_rfl) (by simp only [List.map_toArray, List.map_cons, List.map_nil, eval_tmp, f27]) hK
          · intro a wx hT hF K hK
            obtain ⟨f22, f25, f28, _⟩ := hF
            replace f22 := show (svRd (acc)).pred (a.tmps.getD 22 undef) wx from f22
            replace f25 := show (svRd (numI s.1)).pred (a.tmps.getD 25 undef) wx from f25
            replace f28 := show (svRd (numI s.2)).pred (a.tmps.getD 28 undef) wx from f28
            refine rely_wp rfl ?_
            exact opr_bs3 rfl f22 f25 f28 hK
          · intro a wx hT hF K hK
            obtain ⟨f29, _⟩ := hF
            replace f29 := show (svParts [acc, numI s.1, numI s.2]).pred (a.tmps.getD 29 undef) wx from f29
            refine rely_wp rfl ?_
            exact opr_cv (All_rd _ _ (acc ++ (numI s.1 ++ numI s.2)) wx f29 (by simp) (by have := numI_length s.1; have := numI_length s.2; simp; omega)) rfl Tryd.func25 (by kernel_rfl) (by kernel_rfl) (by simp only [List.map_toArray, List.map_cons, List.map_nil, eval_tmp]) hK
          · intro w6 h6
            intro _ _
            intro u h; obtain rfl := Eq.symm (h (by simp)); clear h
            intro u h; obtain rfl := Eq.symm (h (by simp)); clear h
            intro _ _
            intro u h; obtain rfl := Eq.symm (h (by simp)); clear h
            intro u h; obtain rfl := Eq.symm (h (by simp)); clear h
            intro _ _
            intro _ _
            intro u30 h; have g30 := h (by simp); clear h; replace g30 := show (svRd (acc ++ (numI s.1 ++ numI s.2))).pred u30 w6 from g30
            refine relyEnd_nil rfl ?_
            simp only [Act.put, List.setIfInBounds_toArray, List.set_cons_zero, List.set_cons_succ]
            refine opr_move (.inr rfl) ?_
            go_simp
            go_wp2
            go_roundw
            case rel => exact ⟨k + 1, by omega, by go_num, by rw [Hacc.out _ Hnx.out]; exact g30, NewT.trans _ _ _ qN (NewT.trans _ _ _ h5 (NewT.trans _ _ _ hNn h6))⟩
            case measure => simp [intOf]; omega
      · obtain rfl : k = n := by omega
        have Hr2 : Hid (RdV wr [] u3 (hdL x)) := Lib.hid (by have := Hrd.out; rw [← Hn.out, List.take_length] at this; rw [Hx.out]; exact this)
        go_wp2
        go_ret
        exact ⟨_, rfl, NewT.trans _ _ _ HN1.out qN, Hr2.out⟩
end Go.Proofs.YthgblcpekhiphaaDoor
