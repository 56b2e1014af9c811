/- A region that draws its order, some of whose operations turn a state one behind the other (each waits for the one ahead): beside the conditions of single operations a statement on the world for each phase. No program is named here. -/
import Derived.Test.YtchpmdcacpjojaaDoorMc
import Derived.Test.YtchpmdcacpjojaaDoorMa
import Derived.Test.YtchpmdcacpjojaaDoorMb
set_option linter.all false
namespace Go.Proofs.YtchpmdcacpjojaaDoor
open Go Go.RowKit
set_option maxRecDepth 8000
set_option linter.all false

/-- One operation: it turns phase k into the next one (some k), or keeps whatever phase there is (none). -/
def relyStepP (P : Program) (Q : Exit → Act → World → Prop) (T : World → World → Prop) (V : List (SV T)) (J : Nat → World → Prop) (a0 : Act) (w0 : World) (o : Oper) (dp : List (Tmp × Option Nat)) (g : Option (Tmp × Bool)) (c : SV T) : Option Nat → Prop
  | none => ∀ (a : Act) (w : World), T w0 w → relyFacts V a0 a w dp → ∀ K : Act → World → Prop, (∀ v w', T w w' → (∀ k, J k w → J k w') → c.pred v w' → K (a.put o.dst v) w') →
    if relyGuard g a then o.wp P a w K Q else K (a.put o.dst undef) w
  | some k => ∀ (a : Act) (w : World), T w0 w → relyFacts V a0 a w dp → J k w → ∀ K : Act → World → Prop, (∀ v w', T w w' → J (k + 1) w' → c.pred v w' → K (a.put o.dst v) w') →
    if relyGuard g a then o.wp P a w K Q else K (a.put o.dst undef) w
def relyAllP (P : Program) (Q : Exit → Act → World → Prop) (T : World → World → Prop) (V : List (SV T)) (J : Nat → World → Prop) (a0 : Act) (w0 : World) : List Oper → Deps → List (SV T) → List (Option Nat) → Prop
  | [], _, _, _ => True
  | o :: r, (dp, g) :: D, c :: C, s :: S => relyStepP P Q T V J a0 w0 o dp g c s ∧ relyAllP P Q T V J a0 w0 r D C S
  | _, _, _, _ => False
/-- Each of the path's operations waits for the one ahead. -/
def pathB (ops : Array Oper) : List Nat → Bool
  | i :: j :: r => Region.waitsFor .any ops j i && pathB ops (j :: r)
  | _ => true
def placesB (path : List Nat) (S : List (Option Nat)) : Bool := decide path.Nodup && (List.range S.length).all fun i => S.getD i none == path.findIdx? (· == i)
section
variable {P : Program} {ops : Array Oper} {Q : Exit → Act → World → Prop} {T : World → World → Prop} {V : List (SV T)} {J : Nat → World → Prop} {a0 : Act} {w0 : World} {n : Nat} {D : Deps} {S : List (Option Nat)} {path : List Nat} {init : List Oper} {last : Oper}
theorem pathB_at : ∀ (path : List Nat) (j i i' : Nat), pathB ops path = true → path[j]? = some i → path[j + 1]? = some i' → Region.waitsFor .any ops i' i = true
  | [], _, _, _, _, h, _ => by simp at h
  | [x], j, _, _, _, _, h => by simp at h
  | x :: y :: r, 0, i, i', h, h1, h2 => by
    simp only [pathB, Bool.and_eq_true] at h
    simp at h1 h2
    subst h1 h2
    exact h.1
  | x :: y :: r, j + 1, i, i', h, h1, h2 => by
    simp only [pathB, Bool.and_eq_true] at h
    exact pathB_at (y :: r) j i i' h.2 (by simpa using h1) (by simpa using h2)
theorem relyAllP_at : ∀ (l : List Oper) (D : Deps) (C : List (SV T)) (S : List (Option Nat)) (k : Nat) (o : Oper) dp g, relyAllP P Q T V J a0 w0 l D C S → l[k]? = some o → D[k]? = some (dp, g) → relyStepP P Q T V J a0 w0 o dp g (C.getD k SV.any) (S.getD k none)
  | [], _, _, _, _, _, _, _, _, h, _ => by simp at h
  | x :: r, [], _, _, _, _, _, _, h, _, _ => h.elim
  | x :: r, y :: D, [], _, _, _, _, _, h, _, _ => h.elim
  | x :: r, y :: D, c :: C, [], _, _, _, _, h, _, _ => h.elim
  | x :: r, (dp, g) :: D, c :: C, s :: S, 0, o, dp', g', h, ho, hD => by
    simp at ho hD
    obtain ⟨rfl, rfl⟩ := hD
    subst ho
    exact h.1
  | x :: r, (dp, g) :: D, c :: C, s :: S, k + 1, o, dp', g', h, ho, hD => by
    have := relyAllP_at r D C S k o dp' g' h.2 (by simpa using ho) (by simpa using hD)
    simpa using this
/-- So many of the path's operations have come up. -/
structure PhInv (path : List Nat) (J : Nat → World → Prop) (listed : Array Bool) (w : World) (k : Nat) : Prop where
  le : k ≤ path.length
  done : ∀ j i, j < k → path[j]? = some i → listed.getD i false = true
  left : ∀ j i, k ≤ j → path[j]? = some i → listed.getD i false = false
  now : J k w
theorem ph_other {listed : Array Bool} {w w' : World} {k i : Nat} (h : PhInv path J listed w k) (hi : i ∉ path) (hJ : J k w') : PhInv path J (listed.setIfInBounds i true) w' k := by
  have hne : ∀ (j x : Nat), path[j]? = some x → i ≠ x := fun j x hx e => hi (e ▸ List.mem_of_getElem? hx)
  exact ⟨h.le, fun j x hj hx => by rw [getD_set_ne false (hne j x hx)]; exact h.done j x hj hx, fun j x hj hx => by rw [getD_set_ne false (hne j x hx)]; exact h.left j x hj hx, hJ⟩
theorem ph_own (hnd : path.Nodup) {listed : Array Bool} {w w' : World} {k i : Nat} (hlt : i < listed.size) (h : PhInv path J listed w k) (hi : path[k]? = some i) (hJ : J (k + 1) w') : PhInv path J (listed.setIfInBounds i true) w' (k + 1) := by
  have hk : k < path.length := (List.getElem?_eq_some_iff.1 hi).1
  have hinj : ∀ (j x : Nat), path[j]? = some x → j ≠ k → i ≠ x := fun j x hx hjk e => by
    subst e
    obtain ⟨h1, h2⟩ := List.getElem?_eq_some_iff.1 hx
    obtain ⟨h3, h4⟩ := List.getElem?_eq_some_iff.1 hi
    exact hjk ((List.getElem_inj hnd).1 (h2.trans h4.symm))
  refine ⟨hk, fun j x hj hx => ?_, fun j x hj hx => ?_, hJ⟩
  · by_cases e : j = k
    · subst e
      rw [hi] at hx
      cases hx
      simp [hlt]
    · rw [getD_set_ne false (hinj j x hx e)]; exact h.done j x (by omega) hx
  · rw [getD_set_ne false (hinj j x hx (by omega))]; exact h.left j x (by omega) hx
theorem wpAny_relyP {Q2 : Exit → Act → World → Prop} (hQ : ∀ (o : Oper) (a : Act) (w : World) (K : Act → World → Prop), a.defers = a0.defers → o.wp P a w K Q2 → o.wp P a w K Q) (hsplit : ops.toList = init ++ [last]) (hn : a0.tmps.size = n) (hB : relyB ops n 0 init D = true) (hlast : lastB ops last init.length = true) (hg : last.guard = none) (ht : ∀ a b c : World, T a b → T b c → T a c)
    (hpath : pathB ops path = true) (hplace : placesB path S = true) (hSl : S.length = init.length) (hpl : ∀ i ∈ path, i < init.length)
    (hl : init.length ≤ V.length) (hA : relyAllP P Q2 T V J a0 w0 init D V S) (hE : ∀ w, T w0 w → J path.length w → relyEnd (fun _ a w => last.wp P a w (fun a' w' => Q .normal a' w') Q) T init V a0 w) :
    ∀ (fuel : Nat) (listed : Array Bool) (a : Act) (w : World) (k : Nat), (unl ops listed).length = fuel → listed.getD init.length true = false → RelyInv ops T V a0 w0 listed a w → PhInv path J listed w k → wpAny P .any ops Q fuel listed a w := by
  obtain ⟨hlo, hsz, hpre⟩ := last_at hsplit
  simp only [lastB, Bool.and_eq_true] at hlast
  simp only [placesB, Bool.and_eq_true, decide_eq_true_eq] at hplace
  obtain ⟨hnd, hpos⟩ := hplace
  have hS : ∀ i, i < init.length → S.getD i none = path.findIdx? (· == i) := fun i hi => by
    have := List.all_eq_true.1 hpos i (List.mem_range.2 (by omega))
    simpa using this
  have hat : ∀ i o, init[i]? = some o → ∃ dp g, relyOne ops n i o dp g = true ∧ relyStepP P Q2 T V J a0 w0 o dp g (V.getD i SV.any) (path.findIdx? (· == i)) := fun i o hi => by
    obtain ⟨dp, g, hD, h1⟩ := relyB_at init D 0 i o hB hi
    rw [Nat.zero_add] at h1
    refine ⟨dp, g, h1, ?_⟩
    rw [← hS i (List.getElem?_eq_some_iff.1 hi).1]
    exact relyAllP_at _ _ _ _ i o dp g hA hi hD
  intro fuel
  induction fuel with
  | zero =>
    intro listed a w k hu hun inv _
    have : init.length ∈ unl ops listed := by
      unfold unl; rw [List.mem_filter]; exact ⟨List.mem_range.2 (by omega), by rw [hun]; rfl⟩
    rw [List.eq_nil_of_length_eq_zero hu] at this
    cases this
  | succ fuel ih =>
    intro listed a w k hu hun inv ph
    refine ⟨fun hr => ?_, fun i hi => ?_⟩
    · exfalso
      have all : ∀ i, i < init.length → listed.getD i false = true := fun i => by
        induction i using Nat.strongRecOn with
        | _ i ih =>
          intro hi
          cases hli : listed.getD i false with
          | true => rfl
          | false =>
            exfalso
            have hmem : i ∈ Region.ready .any ops listed := by
              rw [mem_ready]
              refine ⟨getD_in (by rw [inv.size]; omega) hli, init[i], hpre i _ (List.getElem?_eq_getElem hi), fun e he hb => ?_⟩
              obtain ⟨dp, g, h1, _⟩ := hat i init[i] (List.getElem?_eq_getElem hi)
              simp only [relyOne, Bool.and_eq_true] at h1
              have h2 := (Array.all_eq_true_iff_forall_mem.1 h1.1.1.2) e he
              simp only [hb, Bool.not_true, Bool.false_or, decide_eq_true_eq] at h2
              exact ih e.on h2 (by omega)
            rw [hr] at hmem
            cases hmem
      have hmem : init.length ∈ Region.ready .any ops listed := by
        rw [mem_ready]
        refine ⟨hun, last, hlo, fun e he hb => ?_⟩
        have h2 := (Array.all_eq_true_iff_forall_mem.1 hlast.2) e he
        simp only [hb, Bool.not_true, Bool.false_or, decide_eq_true_eq] at h2
        exact all e.on h2
      rw [hr] at hmem
      cases hmem
    · obtain ⟨h0, o, ho, hall⟩ := mem_ready.1 hi
      have hilt := (Array.getElem?_eq_some_iff.1 ho).1
      by_cases him : i = init.length
      · subst him
        have hol : o = last := Option.some.inj (ho.symm.trans hlo)
        subst hol
        have hdone : ∀ (d j : Nat), init.length - j = d → j < init.length → listed.getD j false = true := fun d => by
          induction d using Nat.strongRecOn with
          | _ d ihd =>
            intro j hd hj
            have h1 := List.all_eq_true.1 hlast.1 j (List.mem_range.2 hj)
            obtain ⟨t, ht1, ht2⟩ := List.any_eq_true.1 h1
            simp only [Bool.and_eq_true, decide_eq_true_eq] at ht2
            obtain ⟨ot, hot, e, he, hb, hon⟩ := Region.waitsFor_spec ht2.2
            have htle : t ≤ init.length := by have := List.mem_range.1 ht1; omega
            rw [← hon]
            by_cases htm : t = init.length
            · subst htm
              have : ot = o := Option.some.inj (hot.symm.trans ho)
              subst this
              exact hall e he hb
            · exact inv.closed t ot hot (ihd (init.length - t) (by omega) t rfl (by omega)) e he hb
        replace hdone : ∀ j, j < init.length → listed.getD j false = true := fun j hj => hdone _ j rfl hj
        have hk : k = path.length := by
          rcases Nat.lt_or_ge k path.length with h | h
          · exfalso
            have h1 := ph.left k path[k] (Nat.le_refl _) (List.getElem?_eq_getElem h)
            rw [hdone _ (hpl _ (List.getElem_mem h))] at h1
            cases h1
          · have := ph.le; omega
        subst hk
        have hJ := ph.now
        have h1 : o.wp P a w (fun a' w' => Q .normal a' w') Q := rely_all (Q' := fun a w => o.wp P a w (fun a' w' => Q .normal a' w') Q) inv
          (fun k o hk => ⟨hpre k o hk, hdone k (List.getElem?_eq_some_iff.1 hk).1⟩) (fun j hj => by
            rcases Nat.lt_or_ge j init.length with h | h
            · exact h
            · rcases Nat.eq_or_lt_of_le h with h | h
              · subst h; rw [getD_both hun] at hj; cases hj
              · have : listed.getD j false = false := by simp [Array.getElem?_eq_none (show listed.size ≤ j by rw [inv.size]; omega)]
                rw [this] at hj; cases hj) hl (hE w inv.now hJ)
        have hK : ∀ a' w', Q .normal a' w' → wpAny P .any ops Q fuel (listed.setIfInBounds init.length true) a' w' := fun a' w' h => wpAny_done (ready_none fun j hj => by
          by_cases hj2 : j = init.length
          · subst hj2; simp [show init.length < listed.size by rw [inv.size]; exact hj]
          · exact getD_set_true (hdone j (by omega))) h _
        unfold wpOp
        simp only [hlo, Region.wanted, hg, if_true]
        exact .inl (Oper.wp_mono hK h1)
      · have hi' : i < init.length := by omega
        have hio : init[i]? = some o := by
          have := hpre i init[i] (List.getElem?_eq_getElem hi')
          rw [ho] at this
          rw [List.getElem?_eq_getElem hi', Option.some.inj this]
        obtain ⟨dp, g, h1, hstep⟩ := hat i o hio
        obtain ⟨hfacts, hguard, next⟩ := rely_next hn ht ho h1 h0 hall inv
        have i0 : listed.getD i false = false := getD_both h0
        have hs : if relyGuard g a then o.wp P a w (fun a' w' => wpAny P .any ops Q fuel (listed.setIfInBounds i true) a' w') Q2 else wpAny P .any ops Q fuel (listed.setIfInBounds i true) (a.put o.dst undef) w := by
          cases hf : path.findIdx? (· == i) with
          | none =>
            rw [hf] at hstep
            have hni : i ∉ path := fun hm => by
              rw [List.findIdx?_eq_none_iff] at hf
              have := hf i hm
              simp at this
            exact hstep a w inv.now hfacts (fun a' w' => wpAny P .any ops Q fuel (listed.setIfInBounds i true) a' w') (fun v w' hT hJ hv => ih _ _ w' k (by have := unl_set inv.size h0; omega) (by rw [getD_set_ne true him]; exact hun) (next v w' hT hv) (ph_other ph hni (hJ k ph.now)))
          | some j =>
            rw [hf] at hstep
            have hpj : path[j]? = some i := by
              obtain ⟨h1, h2, _⟩ := List.findIdx?_eq_some_iff_getElem.1 hf
              rw [List.getElem?_eq_getElem h1]
              simpa using h2
            have hkj : k = j := by
              rcases Nat.lt_trichotomy j k with h | h | h
              · have := ph.done j i h hpj
                rw [i0] at this; cases this
              · exact h.symm
              · exfalso
                obtain ⟨j', rfl⟩ : ∃ j', j = j' + 1 := ⟨j - 1, by omega⟩
                have hlj : j' < path.length := by have := (List.getElem?_eq_some_iff.1 hpj).1; omega
                have hw := pathB_at path j' path[j'] i hpath (List.getElem?_eq_getElem hlj) hpj
                obtain ⟨oi, hoi, e, he, hb, hon⟩ := Region.waitsFor_spec hw
                have : oi = o := Option.some.inj (hoi.symm.trans ho)
                subst this
                have h2 := hall e he hb
                rw [hon, ph.left j' _ (by omega) (List.getElem?_eq_getElem hlj)] at h2
                cases h2
            subst hkj
            exact hstep a w inv.now hfacts ph.now (fun a' w' => wpAny P .any ops Q fuel (listed.setIfInBounds i true) a' w') (fun v w' hT hJ hv => ih _ _ w' (k + 1) (by have := unl_set inv.size h0; omega) (by rw [getD_set_ne true him]; exact hun) (next v w' hT hv) (ph_own hnd (by rw [inv.size]; exact hilt) ph hpj hJ))
        unfold wpOp
        simp only [ho, hguard]
        split
        · rename_i hw; rw [if_pos hw] at hs; exact .inl (hQ _ _ _ _ inv.defers hs)
        · rename_i hw; rw [if_neg hw] at hs; exact hs
/-- **A region that draws its order and turns a state step by step.** -/
theorem wp_region_relyQ {id : Nat} {Q2 : Exit → Act → World → Prop} (hQ : ∀ (o : Oper) (a : Act) (w : World) (K : Act → World → Prop), a.defers = a0.defers → o.wp P a w K Q2 → o.wp P a w K Q) (T : World → World → Prop) (J : Nat → World → Prop) (V : List (SV T)) (D : Deps) (S : List (Option Nat)) (path : List Nat) (n : Nat) (hla : ops.toList.getLast? = some last) (hm : P.follows .mixedOrders = true) (hn : a0.tmps.size = n) (hB : relyB ops n 0 ops.toList.dropLast D = true)
    (hlast : lastB ops last ops.toList.dropLast.length = true) (hg : last.guard = none) (hpath : (pathB ops path && placesB path S && decide (S.length = ops.toList.dropLast.length) && path.all fun i => decide (i < ops.toList.dropLast.length)) = true)
    (ht : ∀ a b c : World, T a b → T b c → T a c) (hd : T w0 w0.drew) (hJ : J 0 w0.drew) (hl : ops.toList.dropLast.length ≤ V.length)
    (hA : relyAllP P Q2 T V J a0 w0 ops.toList.dropLast D V S) (hE : ∀ w, T w0 w → J path.length w → relyEnd (fun _ a w => last.wp P a w (fun a' w' => Q .normal a' w') Q) T ops.toList.dropLast V a0 w) : (Code.region id ops true).wp P Q a0 w0 := by
  have hsplit := split_last hla
  obtain ⟨_, hsz, _⟩ := last_at hsplit
  simp only [Bool.and_eq_true, decide_eq_true_eq] at hpath
  obtain ⟨⟨⟨h1, h2⟩, h3⟩, h4⟩ := hpath
  refine wp_region_any hm ?_
  exact wpAny_relyP hQ hsplit hn hB hlast hg ht h1 h2 h3 (fun i hi => by simpa using List.all_eq_true.1 h4 i hi) hl hA hE ops.size _ a0 w0.drew 0 unl_start (by
    have hlt : ops.toList.dropLast.length < ops.size := by omega
    generalize ops.toList.dropLast.length = m at hlt
    simp [hlt]) (rely_start hd) ⟨Nat.zero_le _, fun j i hj => by omega, fun j i _ _ => getD_replicate_false .., hJ⟩
theorem wp_region_relyP {id : Nat} (T : World → World → Prop) (J : Nat → World → Prop) (V : List (SV T)) (D : Deps) (S : List (Option Nat)) (path : List Nat) (n : Nat) (hla : ops.toList.getLast? = some last) (hm : P.follows .mixedOrders = true) (hn : a0.tmps.size = n) (hB : relyB ops n 0 ops.toList.dropLast D = true)
    (hlast : lastB ops last ops.toList.dropLast.length = true) (hg : last.guard = none) (hpath : (pathB ops path && placesB path S && decide (S.length = ops.toList.dropLast.length) && path.all fun i => decide (i < ops.toList.dropLast.length)) = true)
    (ht : ∀ a b c : World, T a b → T b c → T a c) (hd : T w0 w0.drew) (hJ : J 0 w0.drew) (hl : ops.toList.dropLast.length ≤ V.length)
    (hA : relyAllP P Q T V J a0 w0 ops.toList.dropLast D V S) (hE : ∀ w, T w0 w → J path.length w → relyEnd (fun _ a w => last.wp P a w (fun a' w' => Q .normal a' w') Q) T ops.toList.dropLast V a0 w) : (Code.region id ops true).wp P Q a0 w0 :=
  wp_region_relyQ (fun _ _ _ _ _ h => h) T J V D S path n hla hm hn hB hlast hg hpath ht hd hJ hl hA hE
end
end Go.Proofs.YtchpmdcacpjojaaDoor
/- Package rec: only. -/
namespace Go.Proofs.YtchpmdcacpjojaaDoor
open Go Go.RowKit
set_option maxRecDepth 8000
set_option linter.all false
set_option maxHeartbeats 8000000 in
theorem only_cv (v : Value) (x : Rc) (w : World) (h : RecV w v x) : Cv 48 #[v] w (svRec (onlyR x)) := by
  obtain ⟨sv, dv, rfl, hs, hd⟩ := h
  unfold Cv
  have oneS := oneP hs
  have oneD := oneR hd
  go_enter Tryd.func48, Tryd.ntmps48
  go_upto_region 1 with fail
  have r1 := (rowIs_box w 51 109 (recF x sv dv)).alloc (.cells (rowA 109 (recF zR (.slice none 0 0) (.slice none 0 0))) 51)
  have r2 := rowIs_box (w.alloc (.cells (rowA 109 (recF x sv dv)) 51)) 51 109 (recF zR (.slice none 0 0) (.slice none 0 0))
  have hN : NewT w ((w.alloc (.cells (rowA 109 (recF x sv dv)) 51)).alloc (.cells (rowA 109 (recF zR (.slice none 0 0) (.slice none 0 0))) 51)) := NewT.trans _ _ _ (NewT.alloc _ _) (NewT.alloc _ _)
  rw [World.size_alloc] at r2
  change Code.wp _ _ _ _ ((w.alloc (.cells (rowA 109 (recF x sv dv)) 51)).alloc (.cells (rowA 109 (recF zR (.slice none 0 0) (.slice none 0 0))) 51))
  generalize hW0 : (w.alloc (.cells (rowA 109 (recF x sv dv)) 51)).alloc (.cells (rowA 109 (recF zR (.slice none 0 0) (.slice none 0 0))) 51) = W0 at r1 r2 hN ⊢
  have R1 := Lib.hid r1
  have hsz : W0.heap.size = w.heap.size + 2 := by rw [← hW0]; simp
  clear hW0
  refine wp_region_steps0 NewT [SV.eq (.pointer (some ⟨w.heap.size, 0, none⟩)), SV.eq (.int .i64 (x.kind)), SV.eq (.agg (rowA 109 (recF ({ zR with kind := x.kind }) (.slice none 0 0) (.slice none 0 0))))] [([(1, none)], none), ([(4, some 0)], none), ([(5, some 1)], none)] 83 3 rfl rfl (by kernel_rfl) NewT.trans (NewT.refl _) (Nat.le_of_ble_eq_true rfl) ⟨?_, ?_, ?_, trivial⟩ ?_
  · exact fun a wx hT hF K hK => rely_wp rfl (opr_fldR (by decide) rfl hF.1 (hK _ _ (NewT.refl _) rfl))
  · exact fun a wx hT hF K hK => rely_wp rfl (opr_ldI (hT.row R1.out) (by decide) rfl rfl hF.1 (hK _ _ (NewT.refl _) rfl))
  · intro a wx hT hF K hK
    obtain ⟨f5, _⟩ := hF
    have f5 : a.tmps.getD 5 undef = .int .i64 (x.kind) := f5
    refine rely_wp rfl ?_
    exact opr_build rfl (by simp only [List.map_toArray, List.map_cons, List.map_nil, eval_tmp, f5]) (build_kind x.kind wx) (hK _ _ (NewT.refl _) rfl)
  · intro wa ha
    iterate 3 (intro u h; obtain rfl := Eq.symm (h (by simp)); clear h)
    refine relyEnd_nil rfl ?_
    simp only [Act.put, List.setIfInBounds_toArray, List.set_cons_zero, List.set_cons_succ]
    refine wpList_new (n := 109) rfl rfl rfl rfl rfl rfl (by simp) run_alloc_rec info_rec (recF_one _ _ _ rfl rfl) rfl ?_
    intro w1 hn1 r3
    refine wpList_end rfl ?_
    simp only [Act.put, List.setIfInBounds_toArray, List.set_cons_zero, List.set_cons_succ]
    go_simp
    have X1 := Lib.hid (hn1.row (ha.row r1))
    have X2 := Lib.hid (hn1.row (ha.row r2))
    have HN := Lib.hid (NewT.trans _ _ _ hN (NewT.trans _ _ _ ha hn1))
    have hR : w.heap.size + 2 ≤ wa.heap.size := by have := ha.out.size; omega
    have hRl : wa.heap.size < w1.heap.size := r3.lt
    have X3 := Lib.hid r3
    clear R1 r1 r2 r3 hN ha hn1 hsz
    generalize wa.heap.size = R at X3 hR hRl ⊢
    have hne1 : w.heap.size ≠ R := by omega
    have hne2 : w.heap.size + 1 ≠ R := by omega
    have c0 : w1.cell? ⟨w.heap.size, 0, none⟩ = some (.int .i64 x.kind) := X1.out.cell (by omega)
    by_cases hk : x.kind = 1
    · rw [hk] at c0
      go_upto_region 9 with fail
      clear c0
      refine wp_region_relyP (RT R) (fun k w => w.rowIs R 51 109 ((fun k => ([recF ({ zR with kind := x.kind }) (.slice none 0 0) (.slice none 0 0), recF ({ zR with kind := x.kind, saga := x.saga }) (.slice none 0 0) (.slice none 0 0)] : List (Nat → Value)).getD k (recF ({ zR with kind := x.kind, saga := x.saga }) (sv) (.slice none 0 0))) k)) [SV.eq (.pointer (some ⟨w.heap.size, 1, none⟩)), SV.eq (.int .i64 (x.saga)), SV.eq (.pointer (some ⟨w.heap.size, 42, none⟩)), SV.eq (sv), SV.eq (.pointer (some ⟨w.heap.size, 76, none⟩)), SV.eq (.bool (x.gone)), SV.eq (.pointer (some ⟨R, 1, none⟩)), SV.any, SV.eq (.pointer (some ⟨R, 42, none⟩)), SV.any, SV.eq (.pointer (some ⟨R, 76, none⟩))] [([(1, none)], none), ([(20, some 0)], none), ([(1, none)], none), ([(22, some 2)], none), ([(1, none)], none), ([(24, some 4)], none), ([(3, none)], none), ([(26, some 6), (21, some 1)], none), ([(3, none)], none), ([(27, some 8), (23, some 3)], none), ([(3, none)], none)] [none, none, none, none, none, none, none, some 0, none, some 1, none] [7, 9] 83 rfl (by kernel_rfl) rfl (by kernel_rfl) (by kernel_rfl) rfl (by kernel_rfl) RT.trans (RT.drew _ _) ((NewT.drew _).row X3.out) (Nat.le_of_ble_eq_true rfl) ⟨?_, ?_, ?_, ?_, ?_, ?_, ?_, ?_, ?_, ?_, ?_, trivial⟩ ?_
      · exact fun a wx hT hF K hK => have hK := fun v w' (hN : NewT wx w') hv => hK v w' (RT.new (Nat.lt_of_lt_of_le hRl hT.size) hN) (fun k h => hN.row h) hv; rely_wp rfl (opr_fldR (by decide) rfl hF.1 (hK _ _ (NewT.refl _) rfl))
      · exact fun a wx hT hF K hK => have hK := fun v w' (hN : NewT wx w') hv => hK v w' (RT.new (Nat.lt_of_lt_of_le hRl hT.size) hN) (fun k h => hN.row h) hv; rely_wp rfl (opr_ldI (hT.row hne1 X1.out) (by decide) rfl rfl hF.1 (hK _ _ (NewT.refl _) rfl))
      · exact fun a wx hT hF K hK => have hK := fun v w' (hN : NewT wx w') hv => hK v w' (RT.new (Nat.lt_of_lt_of_le hRl hT.size) hN) (fun k h => hN.row h) hv; rely_wp rfl (opr_fldR (by decide) rfl hF.1 (hK _ _ (NewT.refl _) rfl))
      · exact fun a wx hT hF K hK => have hK := fun v w' (hN : NewT wx w') hv => hK v w' (RT.new (Nat.lt_of_lt_of_le hRl hT.size) hN) (fun k h => hN.row h) hv; rely_wp rfl (opr_ldS (hT.row hne1 X1.out) (by decide) rfl rfl hF.1 (hK _ _ (NewT.refl _) rfl))
      · exact fun a wx hT hF K hK => have hK := fun v w' (hN : NewT wx w') hv => hK v w' (RT.new (Nat.lt_of_lt_of_le hRl hT.size) hN) (fun k h => hN.row h) hv; rely_wp rfl (opr_fldR (by decide) rfl hF.1 (hK _ _ (NewT.refl _) rfl))
      · exact fun a wx hT hF K hK => have hK := fun v w' (hN : NewT wx w') hv => hK v w' (RT.new (Nat.lt_of_lt_of_le hRl hT.size) hN) (fun k h => hN.row h) hv; rely_wp rfl (opr_ldQ (hT.row hne1 X1.out) (by decide) rfl rfl hF.1 (hK _ _ (NewT.refl _) rfl))
      · exact fun a wx hT hF K hK => have hK := fun v w' (hN : NewT wx w') hv => hK v w' (RT.new (Nat.lt_of_lt_of_le hRl hT.size) hN) (fun k h => hN.row h) hv; rely_wp rfl (opr_fldR (by decide) rfl hF.1 (hK _ _ (NewT.refl _) rfl))
      · intro a wx hT hF hJ K hK
        obtain ⟨f26, f21, _⟩ := hF
        have f26 : a.tmps.getD 26 undef = .pointer (some ⟨R, 1, none⟩) := f26
        have f21 : a.tmps.getD 21 undef = .int .i64 (x.saga) := f21
        refine rely_wp rfl ?_
        refine opr_put1 rfl f26 f21 (show wx.rowIs R 51 109 (recF ({ zR with kind := x.kind }) (.slice none 0 0) (.slice none 0 0)) from hJ) (by decide) info_i1 rfl (fun i _ => rs_saga ({ zR with kind := x.kind }) (.slice none 0 0) (.slice none 0 0) i _) ?_
        intro w' hT' hr'
        exact hK _ _ hT' hr' trivial
      · exact fun a wx hT hF K hK => have hK := fun v w' (hN : NewT wx w') hv => hK v w' (RT.new (Nat.lt_of_lt_of_le hRl hT.size) hN) (fun k h => hN.row h) hv; rely_wp rfl (opr_fldR (by decide) rfl hF.1 (hK _ _ (NewT.refl _) rfl))
      · intro a wx hT hF hJ K hK
        obtain ⟨f27, f23, _⟩ := hF
        have f27 : a.tmps.getD 27 undef = .pointer (some ⟨R, 42, none⟩) := f27
        have f23 : a.tmps.getD 23 undef = sv := f23
        refine rely_wp rfl ?_
        refine opr_put1 rfl f27 f23 (show wx.rowIs R 51 109 (recF ({ zR with kind := x.kind, saga := x.saga }) (.slice none 0 0) (.slice none 0 0)) from hJ) (by decide) info_s1 oneS (fun i _ => rs_steps ({ zR with kind := x.kind, saga := x.saga }) (.slice none 0 0) (.slice none 0 0) i _) ?_
        intro w' hT' hr'
        exact hK _ _ hT' hr' trivial
      · exact fun a wx hT hF K hK => have hK := fun v w' (hN : NewT wx w') hv => hK v w' (RT.new (Nat.lt_of_lt_of_le hRl hT.size) hN) (fun k h => hN.row h) hv; rely_wp rfl (opr_fldR (by decide) rfl hF.1 (hK _ _ (NewT.refl _) rfl))
      · intro e1 h1 hJ
        iterate 7 (intro u h; obtain rfl := Eq.symm (h (by simp)); clear h)
        intro _ _
        intro u h; obtain rfl := Eq.symm (h (by simp)); clear h
        intro _ _
        intro u h; obtain rfl := Eq.symm (h (by simp)); clear h
        refine relyEnd_nil rfl ?_
        simp only [Act.put, List.setIfInBounds_toArray, List.set_cons_zero, List.set_cons_succ]
        refine opr_put1 rfl rfl rfl (show e1.rowIs R 51 109 (recF ({ zR with kind := x.kind, saga := x.saga }) (sv) (.slice none 0 0)) from hJ) (by decide) info_b1 rfl (fun i _ => rs_gone ({ zR with kind := x.kind, saga := x.saga }) (sv) (.slice none 0 0) i _) ?_
        intro e1s hT' hr'
        clear hJ
        go_simp
        have hRT := RT.trans _ _ _ h1 hT'
        have hRl2 : R < e1s.heap.size := hr'.lt
        have c14 : e1s.cell? ⟨w.heap.size, 76, none⟩ = some (.bool x.gone) := (hRT.row hne1 X1.out).cell (i := 76) (by omega)
        cases hg : x.gone
        · have HO : Hid (onlyR x = { zR with kind := x.kind, saga := x.saga, gone := x.gone, salt := x.salt, steps := x.steps, data := x.data }) := Lib.hid (by unfold onlyR; simp only [hk, hg]; simp)
          rw [hg] at c14
          go_upto_region 12 with fail
          clear c14
          refine wp_region_relyP (RT R) (fun k w => w.rowIs R 51 109 ((fun k => ([recF ({ zR with kind := x.kind, saga := x.saga, gone := x.gone }) (sv) (.slice none 0 0)] : List (Nat → Value)).getD k (recF ({ zR with kind := x.kind, saga := x.saga, gone := x.gone }) (sv) (dv))) k)) [SV.eq (.pointer (some ⟨w.heap.size, 43, none⟩)), SV.eq (dv), SV.eq (.pointer (some ⟨w.heap.size, 44, none⟩)), SV.eq (.agg (rowA 32 (bF (x.salt)))), SV.eq (.pointer (some ⟨R, 43, none⟩)), SV.any, SV.eq (.pointer (some ⟨R, 44, none⟩))] [([(1, none)], none), ([(34, some 0)], none), ([(1, none)], none), ([(36, some 2)], none), ([(3, none)], none), ([(38, some 4), (35, some 1)], none), ([(3, none)], none)] [none, none, none, none, none, some 0, none] [5] 83 rfl (by kernel_rfl) rfl (by kernel_rfl) (by kernel_rfl) rfl (by kernel_rfl) RT.trans (RT.drew _ _) ((NewT.drew _).row hr') (Nat.le_of_ble_eq_true rfl) ⟨?_, ?_, ?_, ?_, ?_, ?_, ?_, trivial⟩ ?_
          · exact fun a wx hT hF K hK => have hK := fun v w' (hN : NewT wx w') hv => hK v w' (RT.new (Nat.lt_of_lt_of_le hRl2 hT.size) hN) (fun k h => hN.row h) hv; rely_wp rfl (opr_fldR (by decide) rfl hF.1 (hK _ _ (NewT.refl _) rfl))
          · exact fun a wx hT hF K hK => have hK := fun v w' (hN : NewT wx w') hv => hK v w' (RT.new (Nat.lt_of_lt_of_le hRl2 hT.size) hN) (fun k h => hN.row h) hv; rely_wp rfl (opr_ldB (hT.row hne1 (hRT.row hne1 X1.out)) (by decide) rfl rfl hF.1 (hK _ _ (NewT.refl _) rfl))
          · exact fun a wx hT hF K hK => have hK := fun v w' (hN : NewT wx w') hv => hK v w' (RT.new (Nat.lt_of_lt_of_le hRl2 hT.size) hN) (fun k h => hN.row h) hv; rely_wp rfl (opr_fldR (by decide) rfl hF.1 (hK _ _ (NewT.refl _) rfl))
          · exact fun a wx hT hF K hK => have hK := fun v w' (hN : NewT wx w') hv => hK v w' (RT.new (Nat.lt_of_lt_of_le hRl2 hT.size) hN) (fun k h => hN.row h) hv; rely_wp rfl (opr_ldH (hT.row hne1 (hRT.row hne1 X1.out)) (by decide) (recF_salt x _ _) rfl hF.1 (hK _ _ (NewT.refl _) rfl))
          · exact fun a wx hT hF K hK => have hK := fun v w' (hN : NewT wx w') hv => hK v w' (RT.new (Nat.lt_of_lt_of_le hRl2 hT.size) hN) (fun k h => hN.row h) hv; rely_wp rfl (opr_fldR (by decide) rfl hF.1 (hK _ _ (NewT.refl _) rfl))
          · intro a wx hT hF hJ K hK
            obtain ⟨f38, f35, _⟩ := hF
            have f38 : a.tmps.getD 38 undef = .pointer (some ⟨R, 43, none⟩) := f38
            have f35 : a.tmps.getD 35 undef = dv := f35
            refine rely_wp rfl ?_
            refine opr_put1 rfl f38 f35 (show wx.rowIs R 51 109 (recF ({ zR with kind := x.kind, saga := x.saga, gone := x.gone }) (sv) (.slice none 0 0)) from hJ) (by decide) info_d1 oneD (fun i _ => rs_data ({ zR with kind := x.kind, saga := x.saga, gone := x.gone }) (sv) (.slice none 0 0) i _) ?_
            intro w' hT' hr'
            exact hK _ _ hT' hr' trivial
          · exact fun a wx hT hF K hK => have hK := fun v w' (hN : NewT wx w') hv => hK v w' (RT.new (Nat.lt_of_lt_of_le hRl2 hT.size) hN) (fun k h => hN.row h) hv; rely_wp rfl (opr_fldR (by decide) rfl hF.1 (hK _ _ (NewT.refl _) rfl))
          · intro eb hb hJ
            iterate 5 (intro u h; obtain rfl := Eq.symm (h (by simp)); clear h)
            intro _ _
            intro u h; obtain rfl := Eq.symm (h (by simp)); clear h
            refine relyEnd_nil rfl ?_
            simp only [Act.put, List.setIfInBounds_toArray, List.set_cons_zero, List.set_cons_succ]
            refine opr_putm rfl rfl rfl (show eb.rowIs R 51 109 (recF ({ zR with kind := x.kind, saga := x.saga, gone := x.gone }) (sv) (dv)) from hJ) (by decide) info31 (fun _ => rfl) (fun i hi => rs_salt ({ zR with kind := x.kind, saga := x.saga, gone := x.gone }) (sv) (dv) i _ hi) ?_
            intro ebs hT2 hr2
            clear hJ
            go_simp
            have hRT2 := RT.trans _ _ _ hRT (RT.trans _ _ _ hb hT2)
            go_upto_region 17 with fail
            refine wp_region_steps0 NewT [SV.eq (.agg (rowA 109 (recF ({ zR with kind := x.kind, saga := x.saga, gone := x.gone, salt := x.salt }) (sv) (dv))))] [([(3, none)], none)] 83 1 rfl rfl (by kernel_rfl) NewT.trans (NewT.refl _) (Nat.le_of_ble_eq_true rfl) ⟨?_, trivial⟩ ?_
            · exact fun a wx hT hF K hK => rely_wp rfl (opr_ldR (hT.row hr2) rfl hF.1 (hK _ _ (NewT.refl _) rfl))
            · intro wf hf
              intro u h; obtain rfl := Eq.symm (h (by simp)); clear h
              refine relyEnd_nil rfl ?_
              simp only [Act.put, List.setIfInBounds_toArray, List.set_cons_zero, List.set_cons_succ]
              refine wpList_plain rfl (fun K hK => ?_)
              refine opr_putm rfl rfl rfl (hf.row (hRT2.row hne2 X2.out)) (by decide) info_rec (recF_one _ _ _ oneS oneD) (put_all _ _) ?_
              intro wq hTq rq
              refine hK _ _ ?_
              refine wpList_end rfl ?_
              go_simp
              go_wp2
              have hNq : NewT w wq := (NewT.trans _ _ _ (HN.out.rt hRT2 (by omega)) hf).rt hTq (by omega)
              refine bodyPost_ret (results_agg rfl _ rfl rq Tryd.underlying51 rfl info_rec) rfl ⟨_, rfl, hNq, ?_⟩
              rw [HO.out]
              exact ⟨sv, dv, rfl, hNq.pairs hs, hNq.rd hd⟩
        · have HO : Hid (onlyR x = { zR with kind := x.kind, saga := x.saga, gone := x.gone, com := x.com, steps := x.steps }) := Lib.hid (by unfold onlyR; simp only [hk, hg]; simp)
          rw [hg] at c14
          go_upto_region 11 with fail
          clear c14
          refine wp_region_steps0 NewT [SV.eq (.pointer (some ⟨w.heap.size, 77, none⟩)), SV.eq (.agg (rowA 32 (bF (x.com)))), SV.eq (.pointer (some ⟨R, 77, none⟩))] [([(1, none)], none), ([(31, some 0)], none), ([(3, none)], none)] 83 3 rfl rfl (by kernel_rfl) NewT.trans (NewT.refl _) (Nat.le_of_ble_eq_true rfl) ⟨?_, ?_, ?_, trivial⟩ ?_
          · exact fun a wx hT hF K hK => rely_wp rfl (opr_fldR (by decide) rfl hF.1 (hK _ _ (NewT.refl _) rfl))
          · exact fun a wx hT hF K hK => rely_wp rfl (opr_ldH (hT.row (hRT.row hne1 X1.out)) (by decide) (recF_com x _ _) rfl hF.1 (hK _ _ (NewT.refl _) rfl))
          · exact fun a wx hT hF K hK => rely_wp rfl (opr_fldR (by decide) rfl hF.1 (hK _ _ (NewT.refl _) rfl))
          · intro eb hb
            iterate 3 (intro u h; obtain rfl := Eq.symm (h (by simp)); clear h)
            refine relyEnd_nil rfl ?_
            simp only [Act.put, List.setIfInBounds_toArray, List.set_cons_zero, List.set_cons_succ]
            refine wpList_plain rfl (fun K hK => ?_)
            refine opr_putm rfl rfl rfl (hb.row hr') (by decide) info31 (fun _ => rfl) (fun i hi => rs_com ({ zR with kind := x.kind, saga := x.saga, gone := x.gone }) (sv) (.slice none 0 0) i _ hi) ?_
            intro ebs hT2 hr2
            refine hK _ _ ?_
            refine wpList_end rfl ?_
            go_simp
            have hRT2 := RT.trans _ _ _ hRT (RT.trans _ _ _ (RT.new hRl2 hb) hT2)
            go_upto_region 17 with fail
            refine wp_region_steps0 NewT [SV.eq (.agg (rowA 109 (recF ({ zR with kind := x.kind, saga := x.saga, gone := x.gone, com := x.com }) (sv) (.slice none 0 0))))] [([(3, none)], none)] 83 1 rfl rfl (by kernel_rfl) NewT.trans (NewT.refl _) (Nat.le_of_ble_eq_true rfl) ⟨?_, trivial⟩ ?_
            · exact fun a wx hT hF K hK => rely_wp rfl (opr_ldR (hT.row hr2) rfl hF.1 (hK _ _ (NewT.refl _) rfl))
            · intro wf hf
              intro u h; obtain rfl := Eq.symm (h (by simp)); clear h
              refine relyEnd_nil rfl ?_
              simp only [Act.put, List.setIfInBounds_toArray, List.set_cons_zero, List.set_cons_succ]
              refine wpList_plain rfl (fun K hK => ?_)
              refine opr_putm rfl rfl rfl (hf.row (hRT2.row hne2 X2.out)) (by decide) info_rec (recF_one _ _ _ oneS rfl) (put_all _ _) ?_
              intro wq hTq rq
              refine hK _ _ ?_
              refine wpList_end rfl ?_
              go_simp
              go_wp2
              have hNq : NewT w wq := (NewT.trans _ _ _ (HN.out.rt hRT2 (by omega)) hf).rt hTq (by omega)
              refine bodyPost_ret (results_agg rfl _ rfl rq Tryd.underlying51 rfl info_rec) rfl ⟨_, rfl, hNq, ?_⟩
              rw [HO.out]
              exact ⟨sv, .slice none 0 0, rfl, hNq.pairs hs, rdV_nil _ _⟩
    have k1 := hk
    clear hk
    by_cases hk : x.kind = 3
    · have HO : Hid (onlyR x = { zR with kind := x.kind, good := x.good, part := x.part, epoch := x.epoch, tag := x.tag, saga := x.saga, seq := x.seq, step := x.step, tr := x.tr, back := x.back }) := Lib.hid (by unfold onlyR; simp only [hk]; simp)
      rw [hk] at c0
      go_upto_region 13 with fail
      clear c0
      refine wp_region_relyP (RT R) (fun k w => w.rowIs R 51 109 ((fun k => ([recF ({ zR with kind := x.kind }) (.slice none 0 0) (.slice none 0 0), recF ({ zR with kind := x.kind, good := x.good }) (.slice none 0 0) (.slice none 0 0), recF ({ zR with kind := x.kind, good := x.good, part := x.part }) (.slice none 0 0) (.slice none 0 0)] : List (Nat → Value)).getD k (recF ({ zR with kind := x.kind, good := x.good, part := x.part, epoch := x.epoch }) (.slice none 0 0) (.slice none 0 0))) k)) [SV.eq (.pointer (some ⟨w.heap.size, 6, none⟩)), SV.eq (.bool (x.good)), SV.eq (.pointer (some ⟨w.heap.size, 8, none⟩)), SV.eq (.int .i64 (x.part)), SV.eq (.pointer (some ⟨w.heap.size, 9, none⟩)), SV.eq (.int .i64 (x.epoch)), SV.eq (.pointer (some ⟨w.heap.size, 10, none⟩)), SV.eq (.agg (rowA 32 (bF (x.tag)))), SV.eq (.pointer (some ⟨R, 6, none⟩)), SV.any, SV.eq (.pointer (some ⟨R, 8, none⟩)), SV.any, SV.eq (.pointer (some ⟨R, 9, none⟩)), SV.any, SV.eq (.pointer (some ⟨R, 10, none⟩))] [([(1, none)], none), ([(40, some 0)], none), ([(1, none)], none), ([(42, some 2)], none), ([(1, none)], none), ([(44, some 4)], none), ([(1, none)], none), ([(46, some 6)], none), ([(3, none)], none), ([(48, some 8), (41, some 1)], none), ([(3, none)], none), ([(49, some 10), (43, some 3)], none), ([(3, none)], none), ([(50, some 12), (45, some 5)], none), ([(3, none)], none)] [none, none, none, none, none, none, none, none, none, some 0, none, some 1, none, some 2, none] [9, 11, 13] 83 rfl (by kernel_rfl) rfl (by kernel_rfl) (by kernel_rfl) rfl (by kernel_rfl) RT.trans (RT.drew _ _) ((NewT.drew _).row X3.out) (Nat.le_of_ble_eq_true rfl) ⟨?_, ?_, ?_, ?_, ?_, ?_, ?_, ?_, ?_, ?_, ?_, ?_, ?_, ?_, ?_, trivial⟩ ?_
      · exact fun a wx hT hF K hK => have hK := fun v w' (hN : NewT wx w') hv => hK v w' (RT.new (Nat.lt_of_lt_of_le hRl hT.size) hN) (fun k h => hN.row h) hv; rely_wp rfl (opr_fldR (by decide) rfl hF.1 (hK _ _ (NewT.refl _) rfl))
      · exact fun a wx hT hF K hK => have hK := fun v w' (hN : NewT wx w') hv => hK v w' (RT.new (Nat.lt_of_lt_of_le hRl hT.size) hN) (fun k h => hN.row h) hv; rely_wp rfl (opr_ldQ (hT.row hne1 X1.out) (by decide) rfl rfl hF.1 (hK _ _ (NewT.refl _) rfl))
      · exact fun a wx hT hF K hK => have hK := fun v w' (hN : NewT wx w') hv => hK v w' (RT.new (Nat.lt_of_lt_of_le hRl hT.size) hN) (fun k h => hN.row h) hv; rely_wp rfl (opr_fldR (by decide) rfl hF.1 (hK _ _ (NewT.refl _) rfl))
      · exact fun a wx hT hF K hK => have hK := fun v w' (hN : NewT wx w') hv => hK v w' (RT.new (Nat.lt_of_lt_of_le hRl hT.size) hN) (fun k h => hN.row h) hv; rely_wp rfl (opr_ldI (hT.row hne1 X1.out) (by decide) rfl rfl hF.1 (hK _ _ (NewT.refl _) rfl))
      · exact fun a wx hT hF K hK => have hK := fun v w' (hN : NewT wx w') hv => hK v w' (RT.new (Nat.lt_of_lt_of_le hRl hT.size) hN) (fun k h => hN.row h) hv; rely_wp rfl (opr_fldR (by decide) rfl hF.1 (hK _ _ (NewT.refl _) rfl))
      · exact fun a wx hT hF K hK => have hK := fun v w' (hN : NewT wx w') hv => hK v w' (RT.new (Nat.lt_of_lt_of_le hRl hT.size) hN) (fun k h => hN.row h) hv; rely_wp rfl (opr_ldI (hT.row hne1 X1.out) (by decide) rfl rfl hF.1 (hK _ _ (NewT.refl _) rfl))
      · exact fun a wx hT hF K hK => have hK := fun v w' (hN : NewT wx w') hv => hK v w' (RT.new (Nat.lt_of_lt_of_le hRl hT.size) hN) (fun k h => hN.row h) hv; rely_wp rfl (opr_fldR (by decide) rfl hF.1 (hK _ _ (NewT.refl _) rfl))
      · exact fun a wx hT hF K hK => have hK := fun v w' (hN : NewT wx w') hv => hK v w' (RT.new (Nat.lt_of_lt_of_le hRl hT.size) hN) (fun k h => hN.row h) hv; rely_wp rfl (opr_ldH (hT.row hne1 X1.out) (by decide) (recF_tag x _ _) rfl hF.1 (hK _ _ (NewT.refl _) rfl))
      · exact fun a wx hT hF K hK => have hK := fun v w' (hN : NewT wx w') hv => hK v w' (RT.new (Nat.lt_of_lt_of_le hRl hT.size) hN) (fun k h => hN.row h) hv; rely_wp rfl (opr_fldR (by decide) rfl hF.1 (hK _ _ (NewT.refl _) rfl))
      · intro a wx hT hF hJ K hK
        obtain ⟨f48, f41, _⟩ := hF
        have f48 : a.tmps.getD 48 undef = .pointer (some ⟨R, 6, none⟩) := f48
        have f41 : a.tmps.getD 41 undef = .bool (x.good) := f41
        refine rely_wp rfl ?_
        refine opr_put1 rfl f48 f41 (show wx.rowIs R 51 109 (recF ({ zR with kind := x.kind }) (.slice none 0 0) (.slice none 0 0)) from hJ) (by decide) info_b1 rfl (fun i _ => rs_good ({ zR with kind := x.kind }) (.slice none 0 0) (.slice none 0 0) i _) ?_
        intro w' hT' hr'
        exact hK _ _ hT' hr' trivial
      · exact fun a wx hT hF K hK => have hK := fun v w' (hN : NewT wx w') hv => hK v w' (RT.new (Nat.lt_of_lt_of_le hRl hT.size) hN) (fun k h => hN.row h) hv; rely_wp rfl (opr_fldR (by decide) rfl hF.1 (hK _ _ (NewT.refl _) rfl))
      · intro a wx hT hF hJ K hK
        obtain ⟨f49, f43, _⟩ := hF
        have f49 : a.tmps.getD 49 undef = .pointer (some ⟨R, 8, none⟩) := f49
        have f43 : a.tmps.getD 43 undef = .int .i64 (x.part) := f43
        refine rely_wp rfl ?_
        refine opr_put1 rfl f49 f43 (show wx.rowIs R 51 109 (recF ({ zR with kind := x.kind, good := x.good }) (.slice none 0 0) (.slice none 0 0)) from hJ) (by decide) info_i1 rfl (fun i _ => rs_part ({ zR with kind := x.kind, good := x.good }) (.slice none 0 0) (.slice none 0 0) i _) ?_
        intro w' hT' hr'
        exact hK _ _ hT' hr' trivial
      · exact fun a wx hT hF K hK => have hK := fun v w' (hN : NewT wx w') hv => hK v w' (RT.new (Nat.lt_of_lt_of_le hRl hT.size) hN) (fun k h => hN.row h) hv; rely_wp rfl (opr_fldR (by decide) rfl hF.1 (hK _ _ (NewT.refl _) rfl))
      · intro a wx hT hF hJ K hK
        obtain ⟨f50, f45, _⟩ := hF
        have f50 : a.tmps.getD 50 undef = .pointer (some ⟨R, 9, none⟩) := f50
        have f45 : a.tmps.getD 45 undef = .int .i64 (x.epoch) := f45
        refine rely_wp rfl ?_
        refine opr_put1 rfl f50 f45 (show wx.rowIs R 51 109 (recF ({ zR with kind := x.kind, good := x.good, part := x.part }) (.slice none 0 0) (.slice none 0 0)) from hJ) (by decide) info_i1 rfl (fun i _ => rs_epoch ({ zR with kind := x.kind, good := x.good, part := x.part }) (.slice none 0 0) (.slice none 0 0) i _) ?_
        intro w' hT' hr'
        exact hK _ _ hT' hr' trivial
      · exact fun a wx hT hF K hK => have hK := fun v w' (hN : NewT wx w') hv => hK v w' (RT.new (Nat.lt_of_lt_of_le hRl hT.size) hN) (fun k h => hN.row h) hv; rely_wp rfl (opr_fldR (by decide) rfl hF.1 (hK _ _ (NewT.refl _) rfl))
      · intro e3 h3 hJ
        iterate 9 (intro u h; obtain rfl := Eq.symm (h (by simp)); clear h)
        intro _ _
        intro u h; obtain rfl := Eq.symm (h (by simp)); clear h
        intro _ _
        intro u h; obtain rfl := Eq.symm (h (by simp)); clear h
        intro _ _
        intro u h; obtain rfl := Eq.symm (h (by simp)); clear h
        refine relyEnd_nil rfl ?_
        simp only [Act.put, List.setIfInBounds_toArray, List.set_cons_zero, List.set_cons_succ]
        refine opr_putm rfl rfl rfl (show e3.rowIs R 51 109 (recF ({ zR with kind := x.kind, good := x.good, part := x.part, epoch := x.epoch }) (.slice none 0 0) (.slice none 0 0)) from hJ) (by decide) info31 (fun _ => rfl) (fun i hi => rs_tag ({ zR with kind := x.kind, good := x.good, part := x.part, epoch := x.epoch }) (.slice none 0 0) (.slice none 0 0) i _ hi) ?_
        intro e3s hT' hr'
        clear hJ
        go_simp
        have hRT := RT.trans _ _ _ h3 hT'
        have hRl2 : R < e3s.heap.size := hr'.lt
        go_upto_region 14 with fail
        refine wp_region_relyP (RT R) (fun k w => w.rowIs R 51 109 ((fun k => ([recF ({ zR with kind := x.kind, good := x.good, part := x.part, epoch := x.epoch, tag := x.tag }) (.slice none 0 0) (.slice none 0 0), recF ({ zR with kind := x.kind, good := x.good, part := x.part, epoch := x.epoch, tag := x.tag, saga := x.saga }) (.slice none 0 0) (.slice none 0 0), recF ({ zR with kind := x.kind, good := x.good, part := x.part, epoch := x.epoch, tag := x.tag, saga := x.saga, seq := x.seq }) (.slice none 0 0) (.slice none 0 0), recF ({ zR with kind := x.kind, good := x.good, part := x.part, epoch := x.epoch, tag := x.tag, saga := x.saga, seq := x.seq, step := x.step }) (.slice none 0 0) (.slice none 0 0)] : List (Nat → Value)).getD k (recF ({ zR with kind := x.kind, good := x.good, part := x.part, epoch := x.epoch, tag := x.tag, saga := x.saga, seq := x.seq, step := x.step, tr := x.tr }) (.slice none 0 0) (.slice none 0 0))) k)) [SV.eq (.pointer (some ⟨w.heap.size, 1, none⟩)), SV.eq (.int .i64 (x.saga)), SV.eq (.pointer (some ⟨w.heap.size, 2, none⟩)), SV.eq (.int .i64 (x.seq)), SV.eq (.pointer (some ⟨w.heap.size, 3, none⟩)), SV.eq (.int .i64 (x.step)), SV.eq (.pointer (some ⟨w.heap.size, 4, none⟩)), SV.eq (.int .i64 (x.tr)), SV.eq (.pointer (some ⟨w.heap.size, 5, none⟩)), SV.eq (.bool (x.back)), SV.eq (.pointer (some ⟨R, 1, none⟩)), SV.any, SV.eq (.pointer (some ⟨R, 2, none⟩)), SV.any, SV.eq (.pointer (some ⟨R, 3, none⟩)), SV.any, SV.eq (.pointer (some ⟨R, 4, none⟩)), SV.any, SV.eq (.pointer (some ⟨R, 5, none⟩))] [([(1, none)], none), ([(52, some 0)], none), ([(1, none)], none), ([(54, some 2)], none), ([(1, none)], none), ([(56, some 4)], none), ([(1, none)], none), ([(58, some 6)], none), ([(1, none)], none), ([(60, some 8)], none), ([(3, none)], none), ([(62, some 10), (53, some 1)], none), ([(3, none)], none), ([(63, some 12), (55, some 3)], none), ([(3, none)], none), ([(64, some 14), (57, some 5)], none), ([(3, none)], none), ([(65, some 16), (59, some 7)], none), ([(3, none)], none)] [none, none, none, none, none, none, none, none, none, none, none, some 0, none, some 1, none, some 2, none, some 3, none] [11, 13, 15, 17] 83 rfl (by kernel_rfl) rfl (by kernel_rfl) (by kernel_rfl) rfl (by kernel_rfl) RT.trans (RT.drew _ _) ((NewT.drew _).row hr') (Nat.le_of_ble_eq_true rfl) ⟨?_, ?_, ?_, ?_, ?_, ?_, ?_, ?_, ?_, ?_, ?_, ?_, ?_, ?_, ?_, ?_, ?_, ?_, ?_, trivial⟩ ?_
        · exact fun a wx hT hF K hK => have hK := fun v w' (hN : NewT wx w') hv => hK v w' (RT.new (Nat.lt_of_lt_of_le hRl2 hT.size) hN) (fun k h => hN.row h) hv; rely_wp rfl (opr_fldR (by decide) rfl hF.1 (hK _ _ (NewT.refl _) rfl))
        · exact fun a wx hT hF K hK => have hK := fun v w' (hN : NewT wx w') hv => hK v w' (RT.new (Nat.lt_of_lt_of_le hRl2 hT.size) hN) (fun k h => hN.row h) hv; rely_wp rfl (opr_ldI (hT.row hne1 (hRT.row hne1 X1.out)) (by decide) rfl rfl hF.1 (hK _ _ (NewT.refl _) rfl))
        · exact fun a wx hT hF K hK => have hK := fun v w' (hN : NewT wx w') hv => hK v w' (RT.new (Nat.lt_of_lt_of_le hRl2 hT.size) hN) (fun k h => hN.row h) hv; rely_wp rfl (opr_fldR (by decide) rfl hF.1 (hK _ _ (NewT.refl _) rfl))
        · exact fun a wx hT hF K hK => have hK := fun v w' (hN : NewT wx w') hv => hK v w' (RT.new (Nat.lt_of_lt_of_le hRl2 hT.size) hN) (fun k h => hN.row h) hv; rely_wp rfl (opr_ldI (hT.row hne1 (hRT.row hne1 X1.out)) (by decide) rfl rfl hF.1 (hK _ _ (NewT.refl _) rfl))
        · exact fun a wx hT hF K hK => have hK := fun v w' (hN : NewT wx w') hv => hK v w' (RT.new (Nat.lt_of_lt_of_le hRl2 hT.size) hN) (fun k h => hN.row h) hv; rely_wp rfl (opr_fldR (by decide) rfl hF.1 (hK _ _ (NewT.refl _) rfl))
        · exact fun a wx hT hF K hK => have hK := fun v w' (hN : NewT wx w') hv => hK v w' (RT.new (Nat.lt_of_lt_of_le hRl2 hT.size) hN) (fun k h => hN.row h) hv; rely_wp rfl (opr_ldI (hT.row hne1 (hRT.row hne1 X1.out)) (by decide) rfl rfl hF.1 (hK _ _ (NewT.refl _) rfl))
        · exact fun a wx hT hF K hK => have hK := fun v w' (hN : NewT wx w') hv => hK v w' (RT.new (Nat.lt_of_lt_of_le hRl2 hT.size) hN) (fun k h => hN.row h) hv; rely_wp rfl (opr_fldR (by decide) rfl hF.1 (hK _ _ (NewT.refl _) rfl))
        · exact fun a wx hT hF K hK => have hK := fun v w' (hN : NewT wx w') hv => hK v w' (RT.new (Nat.lt_of_lt_of_le hRl2 hT.size) hN) (fun k h => hN.row h) hv; rely_wp rfl (opr_ldI (hT.row hne1 (hRT.row hne1 X1.out)) (by decide) rfl rfl hF.1 (hK _ _ (NewT.refl _) rfl))
        · exact fun a wx hT hF K hK => have hK := fun v w' (hN : NewT wx w') hv => hK v w' (RT.new (Nat.lt_of_lt_of_le hRl2 hT.size) hN) (fun k h => hN.row h) hv; rely_wp rfl (opr_fldR (by decide) rfl hF.1 (hK _ _ (NewT.refl _) rfl))
        · exact fun a wx hT hF K hK => have hK := fun v w' (hN : NewT wx w') hv => hK v w' (RT.new (Nat.lt_of_lt_of_le hRl2 hT.size) hN) (fun k h => hN.row h) hv; rely_wp rfl (opr_ldQ (hT.row hne1 (hRT.row hne1 X1.out)) (by decide) rfl rfl hF.1 (hK _ _ (NewT.refl _) rfl))
        · exact fun a wx hT hF K hK => have hK := fun v w' (hN : NewT wx w') hv => hK v w' (RT.new (Nat.lt_of_lt_of_le hRl2 hT.size) hN) (fun k h => hN.row h) hv; rely_wp rfl (opr_fldR (by decide) rfl hF.1 (hK _ _ (NewT.refl _) rfl))
        · intro a wx hT hF hJ K hK
          obtain ⟨f62, f53, _⟩ := hF
          have f62 : a.tmps.getD 62 undef = .pointer (some ⟨R, 1, none⟩) := f62
          have f53 : a.tmps.getD 53 undef = .int .i64 (x.saga) := f53
          refine rely_wp rfl ?_
          refine opr_put1 rfl f62 f53 (show wx.rowIs R 51 109 (recF ({ zR with kind := x.kind, good := x.good, part := x.part, epoch := x.epoch, tag := x.tag }) (.slice none 0 0) (.slice none 0 0)) from hJ) (by decide) info_i1 rfl (fun i _ => rs_saga ({ zR with kind := x.kind, good := x.good, part := x.part, epoch := x.epoch, tag := x.tag }) (.slice none 0 0) (.slice none 0 0) i _) ?_
          intro w' hT' hr'
          exact hK _ _ hT' hr' trivial
        · exact fun a wx hT hF K hK => have hK := fun v w' (hN : NewT wx w') hv => hK v w' (RT.new (Nat.lt_of_lt_of_le hRl2 hT.size) hN) (fun k h => hN.row h) hv; rely_wp rfl (opr_fldR (by decide) rfl hF.1 (hK _ _ (NewT.refl _) rfl))
        · intro a wx hT hF hJ K hK
          obtain ⟨f63, f55, _⟩ := hF
          have f63 : a.tmps.getD 63 undef = .pointer (some ⟨R, 2, none⟩) := f63
          have f55 : a.tmps.getD 55 undef = .int .i64 (x.seq) := f55
          refine rely_wp rfl ?_
          refine opr_put1 rfl f63 f55 (show wx.rowIs R 51 109 (recF ({ zR with kind := x.kind, good := x.good, part := x.part, epoch := x.epoch, tag := x.tag, saga := x.saga }) (.slice none 0 0) (.slice none 0 0)) from hJ) (by decide) info_i1 rfl (fun i _ => rs_seq ({ zR with kind := x.kind, good := x.good, part := x.part, epoch := x.epoch, tag := x.tag, saga := x.saga }) (.slice none 0 0) (.slice none 0 0) i _) ?_
          intro w' hT' hr'
          exact hK _ _ hT' hr' trivial
        · exact fun a wx hT hF K hK => have hK := fun v w' (hN : NewT wx w') hv => hK v w' (RT.new (Nat.lt_of_lt_of_le hRl2 hT.size) hN) (fun k h => hN.row h) hv; rely_wp rfl (opr_fldR (by decide) rfl hF.1 (hK _ _ (NewT.refl _) rfl))
        · intro a wx hT hF hJ K hK
          obtain ⟨f64, f57, _⟩ := hF
          have f64 : a.tmps.getD 64 undef = .pointer (some ⟨R, 3, none⟩) := f64
          have f57 : a.tmps.getD 57 undef = .int .i64 (x.step) := f57
          refine rely_wp rfl ?_
          refine opr_put1 rfl f64 f57 (show wx.rowIs R 51 109 (recF ({ zR with kind := x.kind, good := x.good, part := x.part, epoch := x.epoch, tag := x.tag, saga := x.saga, seq := x.seq }) (.slice none 0 0) (.slice none 0 0)) from hJ) (by decide) info_i1 rfl (fun i _ => rs_step ({ zR with kind := x.kind, good := x.good, part := x.part, epoch := x.epoch, tag := x.tag, saga := x.saga, seq := x.seq }) (.slice none 0 0) (.slice none 0 0) i _) ?_
          intro w' hT' hr'
          exact hK _ _ hT' hr' trivial
        · exact fun a wx hT hF K hK => have hK := fun v w' (hN : NewT wx w') hv => hK v w' (RT.new (Nat.lt_of_lt_of_le hRl2 hT.size) hN) (fun k h => hN.row h) hv; rely_wp rfl (opr_fldR (by decide) rfl hF.1 (hK _ _ (NewT.refl _) rfl))
        · intro a wx hT hF hJ K hK
          obtain ⟨f65, f59, _⟩ := hF
          have f65 : a.tmps.getD 65 undef = .pointer (some ⟨R, 4, none⟩) := f65
          have f59 : a.tmps.getD 59 undef = .int .i64 (x.tr) := f59
          refine rely_wp rfl ?_
          refine opr_put1 rfl f65 f59 (show wx.rowIs R 51 109 (recF ({ zR with kind := x.kind, good := x.good, part := x.part, epoch := x.epoch, tag := x.tag, saga := x.saga, seq := x.seq, step := x.step }) (.slice none 0 0) (.slice none 0 0)) from hJ) (by decide) info_i1 rfl (fun i _ => rs_tr ({ zR with kind := x.kind, good := x.good, part := x.part, epoch := x.epoch, tag := x.tag, saga := x.saga, seq := x.seq, step := x.step }) (.slice none 0 0) (.slice none 0 0) i _) ?_
          intro w' hT' hr'
          exact hK _ _ hT' hr' trivial
        · exact fun a wx hT hF K hK => have hK := fun v w' (hN : NewT wx w') hv => hK v w' (RT.new (Nat.lt_of_lt_of_le hRl2 hT.size) hN) (fun k h => hN.row h) hv; rely_wp rfl (opr_fldR (by decide) rfl hF.1 (hK _ _ (NewT.refl _) rfl))
        · intro eb hb hJ
          iterate 11 (intro u h; obtain rfl := Eq.symm (h (by simp)); clear h)
          intro _ _
          intro u h; obtain rfl := Eq.symm (h (by simp)); clear h
          intro _ _
          intro u h; obtain rfl := Eq.symm (h (by simp)); clear h
          intro _ _
          intro u h; obtain rfl := Eq.symm (h (by simp)); clear h
          intro _ _
          intro u h; obtain rfl := Eq.symm (h (by simp)); clear h
          refine relyEnd_nil rfl ?_
          simp only [Act.put, List.setIfInBounds_toArray, List.set_cons_zero, List.set_cons_succ]
          refine opr_put1 rfl rfl rfl (show eb.rowIs R 51 109 (recF ({ zR with kind := x.kind, good := x.good, part := x.part, epoch := x.epoch, tag := x.tag, saga := x.saga, seq := x.seq, step := x.step, tr := x.tr }) (.slice none 0 0) (.slice none 0 0)) from hJ) (by decide) info_b1 rfl (fun i _ => rs_back ({ zR with kind := x.kind, good := x.good, part := x.part, epoch := x.epoch, tag := x.tag, saga := x.saga, seq := x.seq, step := x.step, tr := x.tr }) (.slice none 0 0) (.slice none 0 0) i _) ?_
          intro ebs hT2 hr2
          clear hJ
          go_simp
          have hRT2 := RT.trans _ _ _ hRT (RT.trans _ _ _ hb hT2)
          go_upto_region 17 with fail
          refine wp_region_steps0 NewT [SV.eq (.agg (rowA 109 (recF ({ zR with kind := x.kind, good := x.good, part := x.part, epoch := x.epoch, tag := x.tag, saga := x.saga, seq := x.seq, step := x.step, tr := x.tr, back := x.back }) (.slice none 0 0) (.slice none 0 0))))] [([(3, none)], none)] 83 1 rfl rfl (by kernel_rfl) NewT.trans (NewT.refl _) (Nat.le_of_ble_eq_true rfl) ⟨?_, trivial⟩ ?_
          · exact fun a wx hT hF K hK => rely_wp rfl (opr_ldR (hT.row hr2) rfl hF.1 (hK _ _ (NewT.refl _) rfl))
          · intro wf hf
            intro u h; obtain rfl := Eq.symm (h (by simp)); clear h
            refine relyEnd_nil rfl ?_
            simp only [Act.put, List.setIfInBounds_toArray, List.set_cons_zero, List.set_cons_succ]
            refine wpList_plain rfl (fun K hK => ?_)
            refine opr_putm rfl rfl rfl (hf.row (hRT2.row hne2 X2.out)) (by decide) info_rec (recF_one _ _ _ rfl rfl) (put_all _ _) ?_
            intro wq hTq rq
            refine hK _ _ ?_
            refine wpList_end rfl ?_
            go_simp
            go_wp2
            have hNq : NewT w wq := (NewT.trans _ _ _ (HN.out.rt hRT2 (by omega)) hf).rt hTq (by omega)
            refine bodyPost_ret (results_agg rfl _ rfl rq Tryd.underlying51 rfl info_rec) rfl ⟨_, rfl, hNq, ?_⟩
            rw [HO.out]
            exact ⟨.slice none 0 0, .slice none 0 0, rfl, rdP_nil _, rdV_nil _ _⟩
    have k3 := hk
    clear hk
    by_cases hk : x.kind = 2
    · have HO : Hid (onlyR x = { zR with kind := x.kind, saga := x.saga, seq := x.seq, step := x.step, tr := x.tr, back := x.back }) := Lib.hid (by unfold onlyR; simp only [hk]; simp)
      rw [hk] at c0
      go_upto_region 14 with fail
      clear c0
      refine wp_region_relyP (RT R) (fun k w => w.rowIs R 51 109 ((fun k => ([recF ({ zR with kind := x.kind }) (.slice none 0 0) (.slice none 0 0), recF ({ zR with kind := x.kind, saga := x.saga }) (.slice none 0 0) (.slice none 0 0), recF ({ zR with kind := x.kind, saga := x.saga, seq := x.seq }) (.slice none 0 0) (.slice none 0 0), recF ({ zR with kind := x.kind, saga := x.saga, seq := x.seq, step := x.step }) (.slice none 0 0) (.slice none 0 0)] : List (Nat → Value)).getD k (recF ({ zR with kind := x.kind, saga := x.saga, seq := x.seq, step := x.step, tr := x.tr }) (.slice none 0 0) (.slice none 0 0))) k)) [SV.eq (.pointer (some ⟨w.heap.size, 1, none⟩)), SV.eq (.int .i64 (x.saga)), SV.eq (.pointer (some ⟨w.heap.size, 2, none⟩)), SV.eq (.int .i64 (x.seq)), SV.eq (.pointer (some ⟨w.heap.size, 3, none⟩)), SV.eq (.int .i64 (x.step)), SV.eq (.pointer (some ⟨w.heap.size, 4, none⟩)), SV.eq (.int .i64 (x.tr)), SV.eq (.pointer (some ⟨w.heap.size, 5, none⟩)), SV.eq (.bool (x.back)), SV.eq (.pointer (some ⟨R, 1, none⟩)), SV.any, SV.eq (.pointer (some ⟨R, 2, none⟩)), SV.any, SV.eq (.pointer (some ⟨R, 3, none⟩)), SV.any, SV.eq (.pointer (some ⟨R, 4, none⟩)), SV.any, SV.eq (.pointer (some ⟨R, 5, none⟩))] [([(1, none)], none), ([(52, some 0)], none), ([(1, none)], none), ([(54, some 2)], none), ([(1, none)], none), ([(56, some 4)], none), ([(1, none)], none), ([(58, some 6)], none), ([(1, none)], none), ([(60, some 8)], none), ([(3, none)], none), ([(62, some 10), (53, some 1)], none), ([(3, none)], none), ([(63, some 12), (55, some 3)], none), ([(3, none)], none), ([(64, some 14), (57, some 5)], none), ([(3, none)], none), ([(65, some 16), (59, some 7)], none), ([(3, none)], none)] [none, none, none, none, none, none, none, none, none, none, none, some 0, none, some 1, none, some 2, none, some 3, none] [11, 13, 15, 17] 83 rfl (by kernel_rfl) rfl (by kernel_rfl) (by kernel_rfl) rfl (by kernel_rfl) RT.trans (RT.drew _ _) ((NewT.drew _).row X3.out) (Nat.le_of_ble_eq_true rfl) ⟨?_, ?_, ?_, ?_, ?_, ?_, ?_, ?_, ?_, ?_, ?_, ?_, ?_, ?_, ?_, ?_, ?_, ?_, ?_, trivial⟩ ?_
      · exact fun a wx hT hF K hK => have hK := fun v w' (hN : NewT wx w') hv => hK v w' (RT.new (Nat.lt_of_lt_of_le hRl hT.size) hN) (fun k h => hN.row h) hv; rely_wp rfl (opr_fldR (by decide) rfl hF.1 (hK _ _ (NewT.refl _) rfl))
      · exact fun a wx hT hF K hK => have hK := fun v w' (hN : NewT wx w') hv => hK v w' (RT.new (Nat.lt_of_lt_of_le hRl hT.size) hN) (fun k h => hN.row h) hv; rely_wp rfl (opr_ldI (hT.row hne1 X1.out) (by decide) rfl rfl hF.1 (hK _ _ (NewT.refl _) rfl))
      · exact fun a wx hT hF K hK => have hK := fun v w' (hN : NewT wx w') hv => hK v w' (RT.new (Nat.lt_of_lt_of_le hRl hT.size) hN) (fun k h => hN.row h) hv; rely_wp rfl (opr_fldR (by decide) rfl hF.1 (hK _ _ (NewT.refl _) rfl))
      · exact fun a wx hT hF K hK => have hK := fun v w' (hN : NewT wx w') hv => hK v w' (RT.new (Nat.lt_of_lt_of_le hRl hT.size) hN) (fun k h => hN.row h) hv; rely_wp rfl (opr_ldI (hT.row hne1 X1.out) (by decide) rfl rfl hF.1 (hK _ _ (NewT.refl _) rfl))
      · exact fun a wx hT hF K hK => have hK := fun v w' (hN : NewT wx w') hv => hK v w' (RT.new (Nat.lt_of_lt_of_le hRl hT.size) hN) (fun k h => hN.row h) hv; rely_wp rfl (opr_fldR (by decide) rfl hF.1 (hK _ _ (NewT.refl _) rfl))
      · exact fun a wx hT hF K hK => have hK := fun v w' (hN : NewT wx w') hv => hK v w' (RT.new (Nat.lt_of_lt_of_le hRl hT.size) hN) (fun k h => hN.row h) hv; rely_wp rfl (opr_ldI (hT.row hne1 X1.out) (by decide) rfl rfl hF.1 (hK _ _ (NewT.refl _) rfl))
      · exact fun a wx hT hF K hK => have hK := fun v w' (hN : NewT wx w') hv => hK v w' (RT.new (Nat.lt_of_lt_of_le hRl hT.size) hN) (fun k h => hN.row h) hv; rely_wp rfl (opr_fldR (by decide) rfl hF.1 (hK _ _ (NewT.refl _) rfl))
      · exact fun a wx hT hF K hK => have hK := fun v w' (hN : NewT wx w') hv => hK v w' (RT.new (Nat.lt_of_lt_of_le hRl hT.size) hN) (fun k h => hN.row h) hv; rely_wp rfl (opr_ldI (hT.row hne1 X1.out) (by decide) rfl rfl hF.1 (hK _ _ (NewT.refl _) rfl))
      · exact fun a wx hT hF K hK => have hK := fun v w' (hN : NewT wx w') hv => hK v w' (RT.new (Nat.lt_of_lt_of_le hRl hT.size) hN) (fun k h => hN.row h) hv; rely_wp rfl (opr_fldR (by decide) rfl hF.1 (hK _ _ (NewT.refl _) rfl))
      · exact fun a wx hT hF K hK => have hK := fun v w' (hN : NewT wx w') hv => hK v w' (RT.new (Nat.lt_of_lt_of_le hRl hT.size) hN) (fun k h => hN.row h) hv; rely_wp rfl (opr_ldQ (hT.row hne1 X1.out) (by decide) rfl rfl hF.1 (hK _ _ (NewT.refl _) rfl))
      · exact fun a wx hT hF K hK => have hK := fun v w' (hN : NewT wx w') hv => hK v w' (RT.new (Nat.lt_of_lt_of_le hRl hT.size) hN) (fun k h => hN.row h) hv; rely_wp rfl (opr_fldR (by decide) rfl hF.1 (hK _ _ (NewT.refl _) rfl))
      · intro a wx hT hF hJ K hK
        obtain ⟨f62, f53, _⟩ := hF
        have f62 : a.tmps.getD 62 undef = .pointer (some ⟨R, 1, none⟩) := f62
        have f53 : a.tmps.getD 53 undef = .int .i64 (x.saga) := f53
        refine rely_wp rfl ?_
        refine opr_put1 rfl f62 f53 (show wx.rowIs R 51 109 (recF ({ zR with kind := x.kind }) (.slice none 0 0) (.slice none 0 0)) from hJ) (by decide) info_i1 rfl (fun i _ => rs_saga ({ zR with kind := x.kind }) (.slice none 0 0) (.slice none 0 0) i _) ?_
        intro w' hT' hr'
        exact hK _ _ hT' hr' trivial
      · exact fun a wx hT hF K hK => have hK := fun v w' (hN : NewT wx w') hv => hK v w' (RT.new (Nat.lt_of_lt_of_le hRl hT.size) hN) (fun k h => hN.row h) hv; rely_wp rfl (opr_fldR (by decide) rfl hF.1 (hK _ _ (NewT.refl _) rfl))
      · intro a wx hT hF hJ K hK
        obtain ⟨f63, f55, _⟩ := hF
        have f63 : a.tmps.getD 63 undef = .pointer (some ⟨R, 2, none⟩) := f63
        have f55 : a.tmps.getD 55 undef = .int .i64 (x.seq) := f55
        refine rely_wp rfl ?_
        refine opr_put1 rfl f63 f55 (show wx.rowIs R 51 109 (recF ({ zR with kind := x.kind, saga := x.saga }) (.slice none 0 0) (.slice none 0 0)) from hJ) (by decide) info_i1 rfl (fun i _ => rs_seq ({ zR with kind := x.kind, saga := x.saga }) (.slice none 0 0) (.slice none 0 0) i _) ?_
        intro w' hT' hr'
        exact hK _ _ hT' hr' trivial
      · exact fun a wx hT hF K hK => have hK := fun v w' (hN : NewT wx w') hv => hK v w' (RT.new (Nat.lt_of_lt_of_le hRl hT.size) hN) (fun k h => hN.row h) hv; rely_wp rfl (opr_fldR (by decide) rfl hF.1 (hK _ _ (NewT.refl _) rfl))
      · intro a wx hT hF hJ K hK
        obtain ⟨f64, f57, _⟩ := hF
        have f64 : a.tmps.getD 64 undef = .pointer (some ⟨R, 3, none⟩) := f64
        have f57 : a.tmps.getD 57 undef = .int .i64 (x.step) := f57
        refine rely_wp rfl ?_
        refine opr_put1 rfl f64 f57 (show wx.rowIs R 51 109 (recF ({ zR with kind := x.kind, saga := x.saga, seq := x.seq }) (.slice none 0 0) (.slice none 0 0)) from hJ) (by decide) info_i1 rfl (fun i _ => rs_step ({ zR with kind := x.kind, saga := x.saga, seq := x.seq }) (.slice none 0 0) (.slice none 0 0) i _) ?_
        intro w' hT' hr'
        exact hK _ _ hT' hr' trivial
      · exact fun a wx hT hF K hK => have hK := fun v w' (hN : NewT wx w') hv => hK v w' (RT.new (Nat.lt_of_lt_of_le hRl hT.size) hN) (fun k h => hN.row h) hv; rely_wp rfl (opr_fldR (by decide) rfl hF.1 (hK _ _ (NewT.refl _) rfl))
      · intro a wx hT hF hJ K hK
        obtain ⟨f65, f59, _⟩ := hF
        have f65 : a.tmps.getD 65 undef = .pointer (some ⟨R, 4, none⟩) := f65
        have f59 : a.tmps.getD 59 undef = .int .i64 (x.tr) := f59
        refine rely_wp rfl ?_
        refine opr_put1 rfl f65 f59 (show wx.rowIs R 51 109 (recF ({ zR with kind := x.kind, saga := x.saga, seq := x.seq, step := x.step }) (.slice none 0 0) (.slice none 0 0)) from hJ) (by decide) info_i1 rfl (fun i _ => rs_tr ({ zR with kind := x.kind, saga := x.saga, seq := x.seq, step := x.step }) (.slice none 0 0) (.slice none 0 0) i _) ?_
        intro w' hT' hr'
        exact hK _ _ hT' hr' trivial
      · exact fun a wx hT hF K hK => have hK := fun v w' (hN : NewT wx w') hv => hK v w' (RT.new (Nat.lt_of_lt_of_le hRl hT.size) hN) (fun k h => hN.row h) hv; rely_wp rfl (opr_fldR (by decide) rfl hF.1 (hK _ _ (NewT.refl _) rfl))
      · intro e2 h2 hJ
        iterate 11 (intro u h; obtain rfl := Eq.symm (h (by simp)); clear h)
        intro _ _
        intro u h; obtain rfl := Eq.symm (h (by simp)); clear h
        intro _ _
        intro u h; obtain rfl := Eq.symm (h (by simp)); clear h
        intro _ _
        intro u h; obtain rfl := Eq.symm (h (by simp)); clear h
        intro _ _
        intro u h; obtain rfl := Eq.symm (h (by simp)); clear h
        refine relyEnd_nil rfl ?_
        simp only [Act.put, List.setIfInBounds_toArray, List.set_cons_zero, List.set_cons_succ]
        refine opr_put1 rfl rfl rfl (show e2.rowIs R 51 109 (recF ({ zR with kind := x.kind, saga := x.saga, seq := x.seq, step := x.step, tr := x.tr }) (.slice none 0 0) (.slice none 0 0)) from hJ) (by decide) info_b1 rfl (fun i _ => rs_back ({ zR with kind := x.kind, saga := x.saga, seq := x.seq, step := x.step, tr := x.tr }) (.slice none 0 0) (.slice none 0 0) i _) ?_
        intro e2s hT' hr'
        clear hJ
        go_simp
        have hRT := RT.trans _ _ _ h2 hT'
        go_upto_region 17 with fail
        refine wp_region_steps0 NewT [SV.eq (.agg (rowA 109 (recF ({ zR with kind := x.kind, saga := x.saga, seq := x.seq, step := x.step, tr := x.tr, back := x.back }) (.slice none 0 0) (.slice none 0 0))))] [([(3, none)], none)] 83 1 rfl rfl (by kernel_rfl) NewT.trans (NewT.refl _) (Nat.le_of_ble_eq_true rfl) ⟨?_, trivial⟩ ?_
        · exact fun a wx hT hF K hK => rely_wp rfl (opr_ldR (hT.row hr') rfl hF.1 (hK _ _ (NewT.refl _) rfl))
        · intro wf hf
          intro u h; obtain rfl := Eq.symm (h (by simp)); clear h
          refine relyEnd_nil rfl ?_
          simp only [Act.put, List.setIfInBounds_toArray, List.set_cons_zero, List.set_cons_succ]
          refine wpList_plain rfl (fun K hK => ?_)
          refine opr_putm rfl rfl rfl (hf.row (hRT.row hne2 X2.out)) (by decide) info_rec (recF_one _ _ _ rfl rfl) (put_all _ _) ?_
          intro wq hTq rq
          refine hK _ _ ?_
          refine wpList_end rfl ?_
          go_simp
          go_wp2
          have hNq : NewT w wq := (NewT.trans _ _ _ (HN.out.rt hRT (by omega)) hf).rt hTq (by omega)
          refine bodyPost_ret (results_agg rfl _ rfl rq Tryd.underlying51 rfl info_rec) rfl ⟨_, rfl, hNq, ?_⟩
          rw [HO.out]
          exact ⟨.slice none 0 0, .slice none 0 0, rfl, rdP_nil _, rdV_nil _ _⟩
    have k2 := hk
    clear hk
    by_cases hk : x.kind = 4
    · have HO : Hid (onlyR x = { zR with kind := x.kind, saga := x.saga, seq := x.seq, step := x.step, tr := x.tr, back := x.back }) := Lib.hid (by unfold onlyR; simp only [hk]; simp)
      rw [hk] at c0
      go_upto_region 14 with fail
      clear c0
      refine wp_region_relyP (RT R) (fun k w => w.rowIs R 51 109 ((fun k => ([recF ({ zR with kind := x.kind }) (.slice none 0 0) (.slice none 0 0), recF ({ zR with kind := x.kind, saga := x.saga }) (.slice none 0 0) (.slice none 0 0), recF ({ zR with kind := x.kind, saga := x.saga, seq := x.seq }) (.slice none 0 0) (.slice none 0 0), recF ({ zR with kind := x.kind, saga := x.saga, seq := x.seq, step := x.step }) (.slice none 0 0) (.slice none 0 0)] : List (Nat → Value)).getD k (recF ({ zR with kind := x.kind, saga := x.saga, seq := x.seq, step := x.step, tr := x.tr }) (.slice none 0 0) (.slice none 0 0))) k)) [SV.eq (.pointer (some ⟨w.heap.size, 1, none⟩)), SV.eq (.int .i64 (x.saga)), SV.eq (.pointer (some ⟨w.heap.size, 2, none⟩)), SV.eq (.int .i64 (x.seq)), SV.eq (.pointer (some ⟨w.heap.size, 3, none⟩)), SV.eq (.int .i64 (x.step)), SV.eq (.pointer (some ⟨w.heap.size, 4, none⟩)), SV.eq (.int .i64 (x.tr)), SV.eq (.pointer (some ⟨w.heap.size, 5, none⟩)), SV.eq (.bool (x.back)), SV.eq (.pointer (some ⟨R, 1, none⟩)), SV.any, SV.eq (.pointer (some ⟨R, 2, none⟩)), SV.any, SV.eq (.pointer (some ⟨R, 3, none⟩)), SV.any, SV.eq (.pointer (some ⟨R, 4, none⟩)), SV.any, SV.eq (.pointer (some ⟨R, 5, none⟩))] [([(1, none)], none), ([(52, some 0)], none), ([(1, none)], none), ([(54, some 2)], none), ([(1, none)], none), ([(56, some 4)], none), ([(1, none)], none), ([(58, some 6)], none), ([(1, none)], none), ([(60, some 8)], none), ([(3, none)], none), ([(62, some 10), (53, some 1)], none), ([(3, none)], none), ([(63, some 12), (55, some 3)], none), ([(3, none)], none), ([(64, some 14), (57, some 5)], none), ([(3, none)], none), ([(65, some 16), (59, some 7)], none), ([(3, none)], none)] [none, none, none, none, none, none, none, none, none, none, none, some 0, none, some 1, none, some 2, none, some 3, none] [11, 13, 15, 17] 83 rfl (by kernel_rfl) rfl (by kernel_rfl) (by kernel_rfl) rfl (by kernel_rfl) RT.trans (RT.drew _ _) ((NewT.drew _).row X3.out) (Nat.le_of_ble_eq_true rfl) ⟨?_, ?_, ?_, ?_, ?_, ?_, ?_, ?_, ?_, ?_, ?_, ?_, ?_, ?_, ?_, ?_, ?_, ?_, ?_, trivial⟩ ?_
      · exact fun a wx hT hF K hK => have hK := fun v w' (hN : NewT wx w') hv => hK v w' (RT.new (Nat.lt_of_lt_of_le hRl hT.size) hN) (fun k h => hN.row h) hv; rely_wp rfl (opr_fldR (by decide) rfl hF.1 (hK _ _ (NewT.refl _) rfl))
      · exact fun a wx hT hF K hK => have hK := fun v w' (hN : NewT wx w') hv => hK v w' (RT.new (Nat.lt_of_lt_of_le hRl hT.size) hN) (fun k h => hN.row h) hv; rely_wp rfl (opr_ldI (hT.row hne1 X1.out) (by decide) rfl rfl hF.1 (hK _ _ (NewT.refl _) rfl))
      · exact fun a wx hT hF K hK => have hK := fun v w' (hN : NewT wx w') hv => hK v w' (RT.new (Nat.lt_of_lt_of_le hRl hT.size) hN) (fun k h => hN.row h) hv; rely_wp rfl (opr_fldR (by decide) rfl hF.1 (hK _ _ (NewT.refl _) rfl))
      · exact fun a wx hT hF K hK => have hK := fun v w' (hN : NewT wx w') hv => hK v w' (RT.new (Nat.lt_of_lt_of_le hRl hT.size) hN) (fun k h => hN.row h) hv; rely_wp rfl (opr_ldI (hT.row hne1 X1.out) (by decide) rfl rfl hF.1 (hK _ _ (NewT.refl _) rfl))
      · exact fun a wx hT hF K hK => have hK := fun v w' (hN : NewT wx w') hv => hK v w' (RT.new (Nat.lt_of_lt_of_le hRl hT.size) hN) (fun k h => hN.row h) hv; rely_wp rfl (opr_fldR (by decide) rfl hF.1 (hK _ _ (NewT.refl _) rfl))
      · exact fun a wx hT hF K hK => have hK := fun v w' (hN : NewT wx w') hv => hK v w' (RT.new (Nat.lt_of_lt_of_le hRl hT.size) hN) (fun k h => hN.row h) hv; rely_wp rfl (opr_ldI (hT.row hne1 X1.out) (by decide) rfl rfl hF.1 (hK _ _ (NewT.refl _) rfl))
      · exact fun a wx hT hF K hK => have hK := fun v w' (hN : NewT wx w') hv => hK v w' (RT.new (Nat.lt_of_lt_of_le hRl hT.size) hN) (fun k h => hN.row h) hv; rely_wp rfl (opr_fldR (by decide) rfl hF.1 (hK _ _ (NewT.refl _) rfl))
      · exact fun a wx hT hF K hK => have hK := fun v w' (hN : NewT wx w') hv => hK v w' (RT.new (Nat.lt_of_lt_of_le hRl hT.size) hN) (fun k h => hN.row h) hv; rely_wp rfl (opr_ldI (hT.row hne1 X1.out) (by decide) rfl rfl hF.1 (hK _ _ (NewT.refl _) rfl))
      · exact fun a wx hT hF K hK => have hK := fun v w' (hN : NewT wx w') hv => hK v w' (RT.new (Nat.lt_of_lt_of_le hRl hT.size) hN) (fun k h => hN.row h) hv; rely_wp rfl (opr_fldR (by decide) rfl hF.1 (hK _ _ (NewT.refl _) rfl))
      · exact fun a wx hT hF K hK => have hK := fun v w' (hN : NewT wx w') hv => hK v w' (RT.new (Nat.lt_of_lt_of_le hRl hT.size) hN) (fun k h => hN.row h) hv; rely_wp rfl (opr_ldQ (hT.row hne1 X1.out) (by decide) rfl rfl hF.1 (hK _ _ (NewT.refl _) rfl))
      · exact fun a wx hT hF K hK => have hK := fun v w' (hN : NewT wx w') hv => hK v w' (RT.new (Nat.lt_of_lt_of_le hRl hT.size) hN) (fun k h => hN.row h) hv; rely_wp rfl (opr_fldR (by decide) rfl hF.1 (hK _ _ (NewT.refl _) rfl))
      · intro a wx hT hF hJ K hK
        obtain ⟨f62, f53, _⟩ := hF
        have f62 : a.tmps.getD 62 undef = .pointer (some ⟨R, 1, none⟩) := f62
        have f53 : a.tmps.getD 53 undef = .int .i64 (x.saga) := f53
        refine rely_wp rfl ?_
        refine opr_put1 rfl f62 f53 (show wx.rowIs R 51 109 (recF ({ zR with kind := x.kind }) (.slice none 0 0) (.slice none 0 0)) from hJ) (by decide) info_i1 rfl (fun i _ => rs_saga ({ zR with kind := x.kind }) (.slice none 0 0) (.slice none 0 0) i _) ?_
        intro w' hT' hr'
        exact hK _ _ hT' hr' trivial
      · exact fun a wx hT hF K hK => have hK := fun v w' (hN : NewT wx w') hv => hK v w' (RT.new (Nat.lt_of_lt_of_le hRl hT.size) hN) (fun k h => hN.row h) hv; rely_wp rfl (opr_fldR (by decide) rfl hF.1 (hK _ _ (NewT.refl _) rfl))
      · intro a wx hT hF hJ K hK
        obtain ⟨f63, f55, _⟩ := hF
        have f63 : a.tmps.getD 63 undef = .pointer (some ⟨R, 2, none⟩) := f63
        have f55 : a.tmps.getD 55 undef = .int .i64 (x.seq) := f55
        refine rely_wp rfl ?_
        refine opr_put1 rfl f63 f55 (show wx.rowIs R 51 109 (recF ({ zR with kind := x.kind, saga := x.saga }) (.slice none 0 0) (.slice none 0 0)) from hJ) (by decide) info_i1 rfl (fun i _ => rs_seq ({ zR with kind := x.kind, saga := x.saga }) (.slice none 0 0) (.slice none 0 0) i _) ?_
        intro w' hT' hr'
        exact hK _ _ hT' hr' trivial
      · exact fun a wx hT hF K hK => have hK := fun v w' (hN : NewT wx w') hv => hK v w' (RT.new (Nat.lt_of_lt_of_le hRl hT.size) hN) (fun k h => hN.row h) hv; rely_wp rfl (opr_fldR (by decide) rfl hF.1 (hK _ _ (NewT.refl _) rfl))
      · intro a wx hT hF hJ K hK
        obtain ⟨f64, f57, _⟩ := hF
        have f64 : a.tmps.getD 64 undef = .pointer (some ⟨R, 3, none⟩) := f64
        have f57 : a.tmps.getD 57 undef = .int .i64 (x.step) := f57
        refine rely_wp rfl ?_
        refine opr_put1 rfl f64 f57 (show wx.rowIs R 51 109 (recF ({ zR with kind := x.kind, saga := x.saga, seq := x.seq }) (.slice none 0 0) (.slice none 0 0)) from hJ) (by decide) info_i1 rfl (fun i _ => rs_step ({ zR with kind := x.kind, saga := x.saga, seq := x.seq }) (.slice none 0 0) (.slice none 0 0) i _) ?_
        intro w' hT' hr'
        exact hK _ _ hT' hr' trivial
      · exact fun a wx hT hF K hK => have hK := fun v w' (hN : NewT wx w') hv => hK v w' (RT.new (Nat.lt_of_lt_of_le hRl hT.size) hN) (fun k h => hN.row h) hv; rely_wp rfl (opr_fldR (by decide) rfl hF.1 (hK _ _ (NewT.refl _) rfl))
      · intro a wx hT hF hJ K hK
        obtain ⟨f65, f59, _⟩ := hF
        have f65 : a.tmps.getD 65 undef = .pointer (some ⟨R, 4, none⟩) := f65
        have f59 : a.tmps.getD 59 undef = .int .i64 (x.tr) := f59
        refine rely_wp rfl ?_
        refine opr_put1 rfl f65 f59 (show wx.rowIs R 51 109 (recF ({ zR with kind := x.kind, saga := x.saga, seq := x.seq, step := x.step }) (.slice none 0 0) (.slice none 0 0)) from hJ) (by decide) info_i1 rfl (fun i _ => rs_tr ({ zR with kind := x.kind, saga := x.saga, seq := x.seq, step := x.step }) (.slice none 0 0) (.slice none 0 0) i _) ?_
        intro w' hT' hr'
        exact hK _ _ hT' hr' trivial
      · exact fun a wx hT hF K hK => have hK := fun v w' (hN : NewT wx w') hv => hK v w' (RT.new (Nat.lt_of_lt_of_le hRl hT.size) hN) (fun k h => hN.row h) hv; rely_wp rfl (opr_fldR (by decide) rfl hF.1 (hK _ _ (NewT.refl _) rfl))
      · intro e4 h4 hJ
        iterate 11 (intro u h; obtain rfl := Eq.symm (h (by simp)); clear h)
        intro _ _
        intro u h; obtain rfl := Eq.symm (h (by simp)); clear h
        intro _ _
        intro u h; obtain rfl := Eq.symm (h (by simp)); clear h
        intro _ _
        intro u h; obtain rfl := Eq.symm (h (by simp)); clear h
        intro _ _
        intro u h; obtain rfl := Eq.symm (h (by simp)); clear h
        refine relyEnd_nil rfl ?_
        simp only [Act.put, List.setIfInBounds_toArray, List.set_cons_zero, List.set_cons_succ]
        refine opr_put1 rfl rfl rfl (show e4.rowIs R 51 109 (recF ({ zR with kind := x.kind, saga := x.saga, seq := x.seq, step := x.step, tr := x.tr }) (.slice none 0 0) (.slice none 0 0)) from hJ) (by decide) info_b1 rfl (fun i _ => rs_back ({ zR with kind := x.kind, saga := x.saga, seq := x.seq, step := x.step, tr := x.tr }) (.slice none 0 0) (.slice none 0 0) i _) ?_
        intro e4s hT' hr'
        clear hJ
        go_simp
        have hRT := RT.trans _ _ _ h4 hT'
        go_upto_region 17 with fail
        refine wp_region_steps0 NewT [SV.eq (.agg (rowA 109 (recF ({ zR with kind := x.kind, saga := x.saga, seq := x.seq, step := x.step, tr := x.tr, back := x.back }) (.slice none 0 0) (.slice none 0 0))))] [([(3, none)], none)] 83 1 rfl rfl (by kernel_rfl) NewT.trans (NewT.refl _) (Nat.le_of_ble_eq_true rfl) ⟨?_, trivial⟩ ?_
        · exact fun a wx hT hF K hK => rely_wp rfl (opr_ldR (hT.row hr') rfl hF.1 (hK _ _ (NewT.refl _) rfl))
        · intro wf hf
          intro u h; obtain rfl := Eq.symm (h (by simp)); clear h
          refine relyEnd_nil rfl ?_
          simp only [Act.put, List.setIfInBounds_toArray, List.set_cons_zero, List.set_cons_succ]
          refine wpList_plain rfl (fun K hK => ?_)
          refine opr_putm rfl rfl rfl (hf.row (hRT.row hne2 X2.out)) (by decide) info_rec (recF_one _ _ _ rfl rfl) (put_all _ _) ?_
          intro wq hTq rq
          refine hK _ _ ?_
          refine wpList_end rfl ?_
          go_simp
          go_wp2
          have hNq : NewT w wq := (NewT.trans _ _ _ (HN.out.rt hRT (by omega)) hf).rt hTq (by omega)
          refine bodyPost_ret (results_agg rfl _ rfl rq Tryd.underlying51 rfl info_rec) rfl ⟨_, rfl, hNq, ?_⟩
          rw [HO.out]
          exact ⟨.slice none 0 0, .slice none 0 0, rfl, rdP_nil _, rdV_nil _ _⟩
    have k4 := hk
    clear hk
    by_cases hk : x.kind = 5
    · have HO : Hid (onlyR x = { zR with kind := x.kind, saga := x.saga, seq := x.seq, nd := x.nd }) := Lib.hid (by unfold onlyR; simp only [hk]; simp)
      rw [hk] at c0
      go_upto_region 15 with fail
      clear c0
      refine wp_region_relyP (RT R) (fun k w => w.rowIs R 51 109 ((fun k => ([recF ({ zR with kind := x.kind }) (.slice none 0 0) (.slice none 0 0), recF ({ zR with kind := x.kind, saga := x.saga }) (.slice none 0 0) (.slice none 0 0)] : List (Nat → Value)).getD k (recF ({ zR with kind := x.kind, saga := x.saga, seq := x.seq }) (.slice none 0 0) (.slice none 0 0))) k)) [SV.eq (.pointer (some ⟨w.heap.size, 1, none⟩)), SV.eq (.int .i64 (x.saga)), SV.eq (.pointer (some ⟨w.heap.size, 2, none⟩)), SV.eq (.int .i64 (x.seq)), SV.eq (.pointer (some ⟨w.heap.size, 7, none⟩)), SV.eq (.int .i64 (x.nd)), SV.eq (.pointer (some ⟨R, 1, none⟩)), SV.any, SV.eq (.pointer (some ⟨R, 2, none⟩)), SV.any, SV.eq (.pointer (some ⟨R, 7, none⟩))] [([(1, none)], none), ([(67, some 0)], none), ([(1, none)], none), ([(69, some 2)], none), ([(1, none)], none), ([(71, some 4)], none), ([(3, none)], none), ([(73, some 6), (68, some 1)], none), ([(3, none)], none), ([(74, some 8), (70, some 3)], none), ([(3, none)], none)] [none, none, none, none, none, none, none, some 0, none, some 1, none] [7, 9] 83 rfl (by kernel_rfl) rfl (by kernel_rfl) (by kernel_rfl) rfl (by kernel_rfl) RT.trans (RT.drew _ _) ((NewT.drew _).row X3.out) (Nat.le_of_ble_eq_true rfl) ⟨?_, ?_, ?_, ?_, ?_, ?_, ?_, ?_, ?_, ?_, ?_, trivial⟩ ?_
      · exact fun a wx hT hF K hK => have hK := fun v w' (hN : NewT wx w') hv => hK v w' (RT.new (Nat.lt_of_lt_of_le hRl hT.size) hN) (fun k h => hN.row h) hv; rely_wp rfl (opr_fldR (by decide) rfl hF.1 (hK _ _ (NewT.refl _) rfl))
      · exact fun a wx hT hF K hK => have hK := fun v w' (hN : NewT wx w') hv => hK v w' (RT.new (Nat.lt_of_lt_of_le hRl hT.size) hN) (fun k h => hN.row h) hv; rely_wp rfl (opr_ldI (hT.row hne1 X1.out) (by decide) rfl rfl hF.1 (hK _ _ (NewT.refl _) rfl))
      · exact fun a wx hT hF K hK => have hK := fun v w' (hN : NewT wx w') hv => hK v w' (RT.new (Nat.lt_of_lt_of_le hRl hT.size) hN) (fun k h => hN.row h) hv; rely_wp rfl (opr_fldR (by decide) rfl hF.1 (hK _ _ (NewT.refl _) rfl))
      · exact fun a wx hT hF K hK => have hK := fun v w' (hN : NewT wx w') hv => hK v w' (RT.new (Nat.lt_of_lt_of_le hRl hT.size) hN) (fun k h => hN.row h) hv; rely_wp rfl (opr_ldI (hT.row hne1 X1.out) (by decide) rfl rfl hF.1 (hK _ _ (NewT.refl _) rfl))
      · exact fun a wx hT hF K hK => have hK := fun v w' (hN : NewT wx w') hv => hK v w' (RT.new (Nat.lt_of_lt_of_le hRl hT.size) hN) (fun k h => hN.row h) hv; rely_wp rfl (opr_fldR (by decide) rfl hF.1 (hK _ _ (NewT.refl _) rfl))
      · exact fun a wx hT hF K hK => have hK := fun v w' (hN : NewT wx w') hv => hK v w' (RT.new (Nat.lt_of_lt_of_le hRl hT.size) hN) (fun k h => hN.row h) hv; rely_wp rfl (opr_ldI (hT.row hne1 X1.out) (by decide) rfl rfl hF.1 (hK _ _ (NewT.refl _) rfl))
      · exact fun a wx hT hF K hK => have hK := fun v w' (hN : NewT wx w') hv => hK v w' (RT.new (Nat.lt_of_lt_of_le hRl hT.size) hN) (fun k h => hN.row h) hv; rely_wp rfl (opr_fldR (by decide) rfl hF.1 (hK _ _ (NewT.refl _) rfl))
      · intro a wx hT hF hJ K hK
        obtain ⟨f73, f68, _⟩ := hF
        have f73 : a.tmps.getD 73 undef = .pointer (some ⟨R, 1, none⟩) := f73
        have f68 : a.tmps.getD 68 undef = .int .i64 (x.saga) := f68
        refine rely_wp rfl ?_
        refine opr_put1 rfl f73 f68 (show wx.rowIs R 51 109 (recF ({ zR with kind := x.kind }) (.slice none 0 0) (.slice none 0 0)) from hJ) (by decide) info_i1 rfl (fun i _ => rs_saga ({ zR with kind := x.kind }) (.slice none 0 0) (.slice none 0 0) i _) ?_
        intro w' hT' hr'
        exact hK _ _ hT' hr' trivial
      · exact fun a wx hT hF K hK => have hK := fun v w' (hN : NewT wx w') hv => hK v w' (RT.new (Nat.lt_of_lt_of_le hRl hT.size) hN) (fun k h => hN.row h) hv; rely_wp rfl (opr_fldR (by decide) rfl hF.1 (hK _ _ (NewT.refl _) rfl))
      · intro a wx hT hF hJ K hK
        obtain ⟨f74, f70, _⟩ := hF
        have f74 : a.tmps.getD 74 undef = .pointer (some ⟨R, 2, none⟩) := f74
        have f70 : a.tmps.getD 70 undef = .int .i64 (x.seq) := f70
        refine rely_wp rfl ?_
        refine opr_put1 rfl f74 f70 (show wx.rowIs R 51 109 (recF ({ zR with kind := x.kind, saga := x.saga }) (.slice none 0 0) (.slice none 0 0)) from hJ) (by decide) info_i1 rfl (fun i _ => rs_seq ({ zR with kind := x.kind, saga := x.saga }) (.slice none 0 0) (.slice none 0 0) i _) ?_
        intro w' hT' hr'
        exact hK _ _ hT' hr' trivial
      · exact fun a wx hT hF K hK => have hK := fun v w' (hN : NewT wx w') hv => hK v w' (RT.new (Nat.lt_of_lt_of_le hRl hT.size) hN) (fun k h => hN.row h) hv; rely_wp rfl (opr_fldR (by decide) rfl hF.1 (hK _ _ (NewT.refl _) rfl))
      · intro e5 h5 hJ
        iterate 7 (intro u h; obtain rfl := Eq.symm (h (by simp)); clear h)
        intro _ _
        intro u h; obtain rfl := Eq.symm (h (by simp)); clear h
        intro _ _
        intro u h; obtain rfl := Eq.symm (h (by simp)); clear h
        refine relyEnd_nil rfl ?_
        simp only [Act.put, List.setIfInBounds_toArray, List.set_cons_zero, List.set_cons_succ]
        refine opr_put1 rfl rfl rfl (show e5.rowIs R 51 109 (recF ({ zR with kind := x.kind, saga := x.saga, seq := x.seq }) (.slice none 0 0) (.slice none 0 0)) from hJ) (by decide) info_i1 rfl (fun i _ => rs_nd ({ zR with kind := x.kind, saga := x.saga, seq := x.seq }) (.slice none 0 0) (.slice none 0 0) i _) ?_
        intro e5s hT' hr'
        clear hJ
        go_simp
        have hRT := RT.trans _ _ _ h5 hT'
        go_upto_region 17 with fail
        refine wp_region_steps0 NewT [SV.eq (.agg (rowA 109 (recF ({ zR with kind := x.kind, saga := x.saga, seq := x.seq, nd := x.nd }) (.slice none 0 0) (.slice none 0 0))))] [([(3, none)], none)] 83 1 rfl rfl (by kernel_rfl) NewT.trans (NewT.refl _) (Nat.le_of_ble_eq_true rfl) ⟨?_, trivial⟩ ?_
        · exact fun a wx hT hF K hK => rely_wp rfl (opr_ldR (hT.row hr') rfl hF.1 (hK _ _ (NewT.refl _) rfl))
        · intro wf hf
          intro u h; obtain rfl := Eq.symm (h (by simp)); clear h
          refine relyEnd_nil rfl ?_
          simp only [Act.put, List.setIfInBounds_toArray, List.set_cons_zero, List.set_cons_succ]
          refine wpList_plain rfl (fun K hK => ?_)
          refine opr_putm rfl rfl rfl (hf.row (hRT.row hne2 X2.out)) (by decide) info_rec (recF_one _ _ _ rfl rfl) (put_all _ _) ?_
          intro wq hTq rq
          refine hK _ _ ?_
          refine wpList_end rfl ?_
          go_simp
          go_wp2
          have hNq : NewT w wq := (NewT.trans _ _ _ (HN.out.rt hRT (by omega)) hf).rt hTq (by omega)
          refine bodyPost_ret (results_agg rfl _ rfl rq Tryd.underlying51 rfl info_rec) rfl ⟨_, rfl, hNq, ?_⟩
          rw [HO.out]
          exact ⟨.slice none 0 0, .slice none 0 0, rfl, rdP_nil _, rdV_nil _ _⟩
    have k5 := hk
    clear hk
    by_cases hk : x.kind = 6
    · have HO : Hid (onlyR x = { zR with kind := x.kind, part := x.part, epoch := x.epoch }) := Lib.hid (by unfold onlyR; simp only [hk]; simp)
      rw [hk] at c0
      go_upto_region 16 with fail
      clear c0
      refine wp_region_relyP (RT R) (fun k w => w.rowIs R 51 109 ((fun k => ([recF ({ zR with kind := x.kind }) (.slice none 0 0) (.slice none 0 0)] : List (Nat → Value)).getD k (recF ({ zR with kind := x.kind, part := x.part }) (.slice none 0 0) (.slice none 0 0))) k)) [SV.eq (.pointer (some ⟨w.heap.size, 8, none⟩)), SV.eq (.int .i64 (x.part)), SV.eq (.pointer (some ⟨w.heap.size, 9, none⟩)), SV.eq (.int .i64 (x.epoch)), SV.eq (.pointer (some ⟨R, 8, none⟩)), SV.any, SV.eq (.pointer (some ⟨R, 9, none⟩))] [([(1, none)], none), ([(76, some 0)], none), ([(1, none)], none), ([(78, some 2)], none), ([(3, none)], none), ([(80, some 4), (77, some 1)], none), ([(3, none)], none)] [none, none, none, none, none, some 0, none] [5] 83 rfl (by kernel_rfl) rfl (by kernel_rfl) (by kernel_rfl) rfl (by kernel_rfl) RT.trans (RT.drew _ _) ((NewT.drew _).row X3.out) (Nat.le_of_ble_eq_true rfl) ⟨?_, ?_, ?_, ?_, ?_, ?_, ?_, trivial⟩ ?_
      · exact fun a wx hT hF K hK => have hK := fun v w' (hN : NewT wx w') hv => hK v w' (RT.new (Nat.lt_of_lt_of_le hRl hT.size) hN) (fun k h => hN.row h) hv; rely_wp rfl (opr_fldR (by decide) rfl hF.1 (hK _ _ (NewT.refl _) rfl))
      · exact fun a wx hT hF K hK => have hK := fun v w' (hN : NewT wx w') hv => hK v w' (RT.new (Nat.lt_of_lt_of_le hRl hT.size) hN) (fun k h => hN.row h) hv; rely_wp rfl (opr_ldI (hT.row hne1 X1.out) (by decide) rfl rfl hF.1 (hK _ _ (NewT.refl _) rfl))
      · exact fun a wx hT hF K hK => have hK := fun v w' (hN : NewT wx w') hv => hK v w' (RT.new (Nat.lt_of_lt_of_le hRl hT.size) hN) (fun k h => hN.row h) hv; rely_wp rfl (opr_fldR (by decide) rfl hF.1 (hK _ _ (NewT.refl _) rfl))
      · exact fun a wx hT hF K hK => have hK := fun v w' (hN : NewT wx w') hv => hK v w' (RT.new (Nat.lt_of_lt_of_le hRl hT.size) hN) (fun k h => hN.row h) hv; rely_wp rfl (opr_ldI (hT.row hne1 X1.out) (by decide) rfl rfl hF.1 (hK _ _ (NewT.refl _) rfl))
      · exact fun a wx hT hF K hK => have hK := fun v w' (hN : NewT wx w') hv => hK v w' (RT.new (Nat.lt_of_lt_of_le hRl hT.size) hN) (fun k h => hN.row h) hv; rely_wp rfl (opr_fldR (by decide) rfl hF.1 (hK _ _ (NewT.refl _) rfl))
      · intro a wx hT hF hJ K hK
        obtain ⟨f80, f77, _⟩ := hF
        have f80 : a.tmps.getD 80 undef = .pointer (some ⟨R, 8, none⟩) := f80
        have f77 : a.tmps.getD 77 undef = .int .i64 (x.part) := f77
        refine rely_wp rfl ?_
        refine opr_put1 rfl f80 f77 (show wx.rowIs R 51 109 (recF ({ zR with kind := x.kind }) (.slice none 0 0) (.slice none 0 0)) from hJ) (by decide) info_i1 rfl (fun i _ => rs_part ({ zR with kind := x.kind }) (.slice none 0 0) (.slice none 0 0) i _) ?_
        intro w' hT' hr'
        exact hK _ _ hT' hr' trivial
      · exact fun a wx hT hF K hK => have hK := fun v w' (hN : NewT wx w') hv => hK v w' (RT.new (Nat.lt_of_lt_of_le hRl hT.size) hN) (fun k h => hN.row h) hv; rely_wp rfl (opr_fldR (by decide) rfl hF.1 (hK _ _ (NewT.refl _) rfl))
      · intro e6 h6 hJ
        iterate 5 (intro u h; obtain rfl := Eq.symm (h (by simp)); clear h)
        intro _ _
        intro u h; obtain rfl := Eq.symm (h (by simp)); clear h
        refine relyEnd_nil rfl ?_
        simp only [Act.put, List.setIfInBounds_toArray, List.set_cons_zero, List.set_cons_succ]
        refine opr_put1 rfl rfl rfl (show e6.rowIs R 51 109 (recF ({ zR with kind := x.kind, part := x.part }) (.slice none 0 0) (.slice none 0 0)) from hJ) (by decide) info_i1 rfl (fun i _ => rs_epoch ({ zR with kind := x.kind, part := x.part }) (.slice none 0 0) (.slice none 0 0) i _) ?_
        intro e6s hT' hr'
        clear hJ
        go_simp
        have hRT := RT.trans _ _ _ h6 hT'
        go_upto_region 17 with fail
        refine wp_region_steps0 NewT [SV.eq (.agg (rowA 109 (recF ({ zR with kind := x.kind, part := x.part, epoch := x.epoch }) (.slice none 0 0) (.slice none 0 0))))] [([(3, none)], none)] 83 1 rfl rfl (by kernel_rfl) NewT.trans (NewT.refl _) (Nat.le_of_ble_eq_true rfl) ⟨?_, trivial⟩ ?_
        · exact fun a wx hT hF K hK => rely_wp rfl (opr_ldR (hT.row hr') rfl hF.1 (hK _ _ (NewT.refl _) rfl))
        · intro wf hf
          intro u h; obtain rfl := Eq.symm (h (by simp)); clear h
          refine relyEnd_nil rfl ?_
          simp only [Act.put, List.setIfInBounds_toArray, List.set_cons_zero, List.set_cons_succ]
          refine wpList_plain rfl (fun K hK => ?_)
          refine opr_putm rfl rfl rfl (hf.row (hRT.row hne2 X2.out)) (by decide) info_rec (recF_one _ _ _ rfl rfl) (put_all _ _) ?_
          intro wq hTq rq
          refine hK _ _ ?_
          refine wpList_end rfl ?_
          go_simp
          go_wp2
          have hNq : NewT w wq := (NewT.trans _ _ _ (HN.out.rt hRT (by omega)) hf).rt hTq (by omega)
          refine bodyPost_ret (results_agg rfl _ rfl rq Tryd.underlying51 rfl info_rec) rfl ⟨_, rfl, hNq, ?_⟩
          rw [HO.out]
          exact ⟨.slice none 0 0, .slice none 0 0, rfl, rdP_nil _, rdV_nil _ _⟩
    have k6 := hk
    clear hk
    have HO : Hid (onlyR x = { zR with kind := x.kind }) := Lib.hid (by unfold onlyR; simp [k1, k2, k3, k4, k5, k6])
    have q1 : (x.kind == 1) = false := by simpa using k1
    have q2 : (x.kind == 2) = false := by simpa using k2
    have q3 : (x.kind == 3) = false := by simpa using k3
    have q4 : (x.kind == 4) = false := by simpa using k4
    have q5 : (x.kind == 5) = false := by simpa using k5
    have q6 : (x.kind == 6) = false := by simpa using k6
    clear k1 k2 k3 k4 k5 k6
    go_upto_region 17 with fail
    refine wp_region_steps0 NewT [SV.eq (.agg (rowA 109 (recF ({ zR with kind := x.kind }) (.slice none 0 0) (.slice none 0 0))))] [([(3, none)], none)] 83 1 rfl rfl (by kernel_rfl) NewT.trans (NewT.refl _) (Nat.le_of_ble_eq_true rfl) ⟨?_, trivial⟩ ?_
    · exact fun a wx hT hF K hK => rely_wp rfl (opr_ldR (hT.row X3.out) rfl hF.1 (hK _ _ (NewT.refl _) rfl))
    · intro wf hf
      intro u h; obtain rfl := Eq.symm (h (by simp)); clear h
      refine relyEnd_nil rfl ?_
      simp only [Act.put, List.setIfInBounds_toArray, List.set_cons_zero, List.set_cons_succ]
      refine wpList_plain rfl (fun K hK => ?_)
      refine opr_putm rfl rfl rfl (hf.row X2.out) (by decide) info_rec (recF_one _ _ _ rfl rfl) (put_all _ _) ?_
      intro wq hTq rq
      refine hK _ _ ?_
      refine wpList_end rfl ?_
      go_simp
      go_wp2
      have hNq : NewT w wq := (NewT.trans _ _ _ (HN.out) hf).rt hTq (by omega)
      refine bodyPost_ret (results_agg rfl _ rfl rq Tryd.underlying51 rfl info_rec) rfl ⟨_, rfl, hNq, ?_⟩
      rw [HO.out]
      exact ⟨.slice none 0 0, .slice none 0 0, rfl, rdP_nil _, rdV_nil _ _⟩
end Go.Proofs.YtchpmdcacpjojaaDoor
/- Package rec: Right; commitments. -/
namespace Go.Proofs.YtchpmdcacpjojaaDoor
open Go Go.RowKit
set_option maxRecDepth 8000
set_option linter.all false
set_option maxHeartbeats 1000000 in
theorem Right_cv (v : Value) (x : Rc) (w : World) (h : RecV w v x) : Cv 38 #[v] w (.eq (.bool (rightB x))) := by
  rw [← right_eq]
  obtain ⟨sv, dv, rfl, hs, hd⟩ := h
  unfold Cv
  have HX : Hid (RecV w (.agg (rowA 109 (recF x sv dv))) x) := Lib.hid ⟨sv, dv, rfl, hs, hd⟩
  have HS := Lib.hid hs
  have HD := Lib.hid hd
  clear hs hd
  go_enter Tryd.func38, Tryd.ntmps38
  go_upto_region 1 with fail
  have r1 := rowIs_box w 51 109 (recF x sv dv)
  have hN := NewT.alloc w (.cells (rowA 109 (recF x sv dv)) 51)
  change Code.wp _ _ _ _ (w.alloc (.cells (rowA 109 (recF x sv dv)) 51))
  generalize w.alloc (.cells (rowA 109 (recF x sv dv)) 51) = W0 at r1 hN ⊢
  have R1 := Lib.hid r1
  have HN := Lib.hid hN
  replace HX := Lib.hid (hN.recV HX.out)
  replace HS := Lib.hid (hN.pairs HS.out)
  replace HD := Lib.hid (hN.rd HD.out)
  clear r1 hN
  refine wp_region_rely (NewT) [SV.eq (.agg (rowA 109 (recF x sv dv))), SV.eq (.bool (inRg x)), SV.eq (.bool (inRg x)), svIf (inRg x) (SV.eq (.agg (rowA 109 (recF x sv dv)))), svIf (inRg x) (SV.eq (.agg (rowA 109 (recF x sv dv)))), svIf (inRg x) (svRec (onlyR x)), svIf (inRg x) (SV.eq (.bool (sameB x (onlyR x)))), SV.eq (.bool ((inRg x) && (sameB x (onlyR x))))] [([(1, none)], none), ([(3, some 0)], none), ([(4, some 1)], none), ([(1, none), (5, some 2)], some (5, true)), ([(1, none), (5, some 2)], some (5, true)), ([(7, some 4), (5, some 2)], some (5, true)), ([(6, some 3), (8, some 5), (5, some 2)], some (5, true)), ([(5, some 2), (9, some 6)], none)] 11 rfl (by kernel_rfl) rfl (by kernel_rfl) (by kernel_rfl) rfl NewT.trans (NewT.drew _) (Nat.le_of_ble_eq_true rfl) ⟨?_, ?_, ?_, ?_, ?_, ?_, ?_, ?_, trivial⟩ ?_
  · exact fun a wx hT hF K hK => rely_wp rfl (opr_ldR (hT.row R1.out) rfl hF.1 (hK _ _ (NewT.refl _) rfl))
  · exact fun a wx hT hF K hK => rely_wp rfl (opr_cv (inRange_cv _ x wx (hT.recV HX.out)) rfl Tryd.func46 (by kernel_rfl) (by kernel_rfl) (evs1 hF.1) hK)
  · exact fun a wx hT hF K hK => rely_wp rfl (opr_move (.inl rfl) (hK _ _ (NewT.refl _) hF.1))
  · exact fun a wx hT hF K hK => rely_if (rely_gt hF.2.1) (NewT.refl _) hK fun hE hK => opr_ldR (hT.row R1.out) rfl hF.1 (hK _ _ (NewT.refl _) rfl)
  · exact fun a wx hT hF K hK => rely_if (rely_gt hF.2.1) (NewT.refl _) hK fun hE hK => opr_ldR (hT.row R1.out) rfl hF.1 (hK _ _ (NewT.refl _) rfl)
  · exact fun a wx hT hF K hK => rely_if (rely_gt hF.2.1) (NewT.refl _) hK fun hE hK => opr_cv (only_cv _ x wx (hT.recV HX.out)) rfl Tryd.func48 (by kernel_rfl) (by kernel_rfl) (evs1 (hF.1 hE)) hK
  · exact fun a wx hT hF K hK => rely_if (rely_gt hF.2.2.1) (NewT.refl _) hK fun hE hK => opr_cv (Same_cv _ _ x (onlyR x) wx (hT.recV HX.out) (hF.2.1 hE)) rfl Tryd.func47 (by kernel_rfl) (by kernel_rfl) (evs2 (hF.1 hE) rfl) hK
  · exact fun a wx hT hF K hK => rely_wp rfl (opr_pick_b rfl hF.1 (fun hb => hK _ _ (NewT.refl _) (pk_and1 (hF.2.1 hb) hb)) (fun hb => hK _ _ (NewT.refl _) (pk_and0 hb)))
  · intro wx hT
    iterate 3 (intro u h; obtain rfl := Eq.symm (h (by simp)); clear h)
    iterate 4 (intro _ _)
    intro u h; obtain rfl := Eq.symm (h (by simp)); clear h
    refine relyEnd_nil rfl ?_
    simp only [Act.put, List.setIfInBounds_toArray, List.set_cons_zero, List.set_cons_succ]
    refine opr_move (.inr rfl) ?_
    go_simp
    go_wp2
    go_ret
    exact ⟨_, rfl, NewT.trans _ _ _ HN.out hT, rfl⟩
end Go.Proofs.YtchpmdcacpjojaaDoor
/- Package mac, alone: are two hashes the same: what Equal returns, by a closure over all bytes. -/
namespace Go.Proofs.YtchpmdcacpjojaaDoor
open Go Go.RowKit
set_option maxRecDepth 8000
set_option linter.all false
theorem u8_xorQ (x y : UInt8) : bits .xor .u8 (bN x) (bN y) = bN (x ^^^ y) := by
  have h : ∀ a b : BitVec 8, bits .xor .u8 ((a.toNat : Nat) : Int) ((b.toNat : Nat) : Int) = (((a ^^^ b).toNat : Nat) : Int) := by
    intro a b
    show IntKind.u8.wrap ((BitVec.ofInt 8 ((a.toNat : Nat) : Int) ^^^ BitVec.ofInt 8 ((b.toNat : Nat) : Int)).toNat : Int) = _
    simp only [BitVec.ofInt_natCast, BitVec.ofNat_toNat, BitVec.setWidth_eq]
    rw [wrap_u8]; have := (a ^^^ b).isLt; omega
  exact h x.toBitVec y.toBitVec
theorem u8_or (x y : UInt8) : bits .or .u8 (bN x) (bN y) = bN (x ||| y) := by
  have h : ∀ a b : BitVec 8, bits .or .u8 ((a.toNat : Nat) : Int) ((b.toNat : Nat) : Int) = (((a ||| b).toNat : Nat) : Int) := by
    intro a b
    show IntKind.u8.wrap ((BitVec.ofInt 8 ((a.toNat : Nat) : Int) ||| BitVec.ofInt 8 ((b.toNat : Nat) : Int)).toNat : Int) = _
    simp only [BitVec.ofInt_natCast, BitVec.ofNat_toNat, BitVec.setWidth_eq]
    rw [wrap_u8]; have := (a ||| b).isLt; omega
  exact h x.toBitVec y.toBitVec
attribute [local go_sem] bF_at u8_xorQ u8_or
theorem Eq1_any (x y d : UInt8) (g : Nat) (w : World) (hr : w.rowIs g 5 1 (bF fun _ => d)) :
    Calls Tryd.prog 67 #[.int .u8 (bN x), .int .u8 (bN y), .pointer (some ⟨g, 0, none⟩)] w fun e w' => ∃ v, e = .returned v ∧ w.setCell ⟨g, 0, none⟩ (.int .u8 (bN (d ||| (x ^^^ y)))) = w' := by
  have c0 := hr.cell (i := 0) (by omega)
  have f0 := hr.frozen 0
  go_enter Tryd.func67, Tryd.ntmps67
  go_wp2
  go_end0
  exact ⟨_, rfl, rfl⟩
theorem row1_set {w : World} {g : Nat} {t : TypeId} {d d' : UInt8} (h : w.rowIs g t 1 (bF fun _ => d)) : (w.setCell ⟨g, 0, none⟩ (.int .u8 (bN d'))).rowIs g t 1 (bF fun _ => d') :=
  (h.set 0 _).congr fun i hi => by
    obtain rfl : i = 0 := by omega
    rw [if_pos rfl]; rfl
/-- What the closure has found behind k pairs. -/
def orTo (a b : Nat → UInt8) : Nat → UInt8
  | 0 => 0
  | k + 1 => orTo a b k ||| (a k ^^^ b k)
theorem u8_or_zero (x y : UInt8) : (x ||| y) = 0 ↔ x = 0 ∧ y = 0 := by
  rw [← UInt8.toBitVec_inj, ← UInt8.toBitVec_inj, ← UInt8.toBitVec_inj]
  simp [BitVec.or_eq_zero_iff]
theorem u8_xor_zero (x y : UInt8) : (x ^^^ y) = 0 ↔ x = y := by
  rw [← UInt8.toBitVec_inj, ← UInt8.toBitVec_inj]
  simp [BitVec.xor_eq_zero_iff]
theorem orTo_zero (a b : Nat → UInt8) (k : Nat) : orTo a b k = 0 ↔ ∀ i, i < k → a i = b i := by
  induction k with
  | zero => simp [orTo]
  | succ k ih =>
    rw [orTo, u8_or_zero, ih, u8_xor_zero]
    constructor
    · rintro ⟨h1, h2⟩ i hi
      rcases Nat.lt_succ_iff_lt_or_eq.1 hi with h | rfl
      · exact h1 i h
      · exact h2
    · intro h
      exact ⟨fun i hi => h i (by omega), h k (by omega)⟩
theorem orTo_eqH (a b : Nat → UInt8) : ((bN (orTo a b 32) == 0) : Bool) = eqH a b := by
  rw [Bool.eq_iff_iff, eqH_iff, ← orTo_zero]
  simp only [beq_iff_eq]
  constructor
  · intro h; exact bN_inj (h.trans rfl)
  · intro h; rw [h]; rfl
set_option maxHeartbeats 2000000 in
theorem eachPair_any (a b : Nat → UInt8) (g : Nat) (w : World) (hr : w.rowIs g 5 1 (bF fun _ => 0)) :
    Calls Tryd.prog 66 #[.agg (rowA 32 (bF a)), .agg (rowA 32 (bF b)), .func (.func 67) #[] #[.pointer (some ⟨g, 0, none⟩)]] w fun e w' => ∃ v, e = .returned v ∧ w'.rowIs g 5 1 (bF fun _ => orTo a b 32) ∧ Below g w w' := by
  have hg := hr.lt
  go_enter Tryd.func66, Tryd.ntmps66
  go_upto_region 1 with fail
  have r0 := (rowIs_box w 32 32 (bF a)).alloc (.cells (rowA 32 (bF b)) 32)
  have r1 := rowIs_box (w.alloc (.cells (rowA 32 (bF a)) 32)) 32 32 (bF b)
  rw [World.size_alloc] at r1
  have hB := NewT.trans _ _ _ (NewT.alloc w (.cells (rowA 32 (bF a)) 32)) (NewT.alloc (w.alloc (.cells (rowA 32 (bF a)) 32)) (.cells (rowA 32 (bF b)) 32))
  change Code.wp _ _ _ _ ((w.alloc (.cells (rowA 32 (bF a)) 32)).alloc (.cells (rowA 32 (bF b)) 32))
  generalize ((w.alloc (.cells (rowA 32 (bF a)) 32)).alloc (.cells (rowA 32 (bF b)) 32)) = W0 at r0 r1 hB ⊢
  replace hr := hB.row hr
  have hB0 : Below g w W0 := hB.out.mono (Nat.le_of_lt hg)
  clear hB
  go_wp2
  go_loopw [7] (fun i wr => ∃ k : Nat, k ≤ 32 ∧ i = .int .i64 k ∧ wr.rowIs w.heap.size 32 32 (bF a) ∧ wr.rowIs (w.heap.size + 1) 32 32 (bF b) ∧ wr.rowIs g 5 1 (bF fun _ => orTo a b k) ∧ Below g w wr) (fun i _ => 32 - (intOf i).toNat)
  case atStart => exact ⟨0, by omega, rfl, r0, r1, hr, hB0⟩
  case round =>
    obtain ⟨k, hk, rfl, q0, q1, qr, qB⟩ := hrel
    clear r0 r1 hr hB0
    by_cases hlt : k < 32
    · have hki : (k : Int) < 32 := by omega
      go_upto_region 4 with fail
      refine wp_region_rely NewT [SV.eq (.func (.func 67) #[] #[.pointer (some ⟨g, 0, none⟩)]), SV.eq (.int .i64 (k : Int)), SV.eq (.pointer (some ⟨w.heap.size, k, none⟩)), SV.eq (.int .u8 (bN (a k))), SV.eq (.int .i64 (k : Int)), SV.eq (.pointer (some ⟨w.heap.size + 1, k, none⟩)), SV.eq (.int .u8 (bN (b k)))] [([(2, none)], none), ([(6, none)], none), ([(3, none), (11, some 1)], none), ([(12, some 2)], none), ([(6, none)], none), ([(4, none), (14, some 4)], none), ([(15, some 5)], none)] 19 rfl (by kernel_rfl) rfl (by kernel_rfl) (by kernel_rfl) rfl NewT.trans (NewT.drew _) (Nat.le_of_ble_eq_true rfl) ⟨?_, ?_, ?_, ?_, ?_, ?_, ?_, trivial⟩ ?_
      · -- 0: Op.move t2
        intro a wx hT hF K hK
        obtain ⟨f2, _⟩ := hF
        have f2 : a.tmps.getD 2 undef = .func (.func 67) #[] #[.pointer (some ⟨g, 0, none⟩)] := f2
        refine rely_wp rfl ?_
        exact opr_move (.inl rfl) (hK _ _ (NewT.refl _) f2)
      · -- 1: Op.move t6
        intro a wx hT hF K hK
        obtain ⟨f6, _⟩ := hF
        have f6 : a.tmps.getD 6 undef = .int .i64 (k : Int) := f6
        refine rely_wp rfl ?_
        exact opr_move (.inl rfl) (hK _ _ (NewT.refl _) f6)
      · -- 2: Op.indexAddr 31 t3 t11
        intro a wx hT hF K hK
        obtain ⟨f3, f11, _⟩ := hF
        have f3 : a.tmps.getD 3 undef = .pointer (some ⟨w.heap.size, 0, none⟩) := f3
        have f11 : a.tmps.getD 11 undef = .int .i64 (k : Int) := f11
        refine rely_wp rfl ?_
        simp only [Array.getD_eq_getD_getElem?] at f3
        simp only [Array.getD_eq_getD_getElem?] at f11
        go_simp
        exact hK _ _ (NewT.refl _) rfl
      · -- 3: Op.load 5 t12
        intro a wx hT hF K hK
        obtain ⟨f12, _⟩ := hF
        have f12 : a.tmps.getD 12 undef = .pointer (some ⟨w.heap.size, k, none⟩) := f12
        refine rely_wp rfl ?_
        simp only [Array.getD_eq_getD_getElem?] at f12
        have c := (hT.row q0).cell (i := k) hlt
        rw [bF_at] at c
        go_simp
        exact hK _ _ (NewT.refl _) rfl
      · -- 4: Op.move t6
        intro a wx hT hF K hK
        obtain ⟨f6, _⟩ := hF
        have f6 : a.tmps.getD 6 undef = .int .i64 (k : Int) := f6
        refine rely_wp rfl ?_
        exact opr_move (.inl rfl) (hK _ _ (NewT.refl _) f6)
      · -- 5: Op.indexAddr 31 t4 t14
        intro a wx hT hF K hK
        obtain ⟨f4, f14, _⟩ := hF
        have f4 : a.tmps.getD 4 undef = .pointer (some ⟨w.heap.size + 1, 0, none⟩) := f4
        have f14 : a.tmps.getD 14 undef = .int .i64 (k : Int) := f14
        refine rely_wp rfl ?_
        simp only [Array.getD_eq_getD_getElem?] at f4
        simp only [Array.getD_eq_getD_getElem?] at f14
        go_simp
        exact hK _ _ (NewT.refl _) rfl
      · -- 6: Op.load 5 t15
        intro a wx hT hF K hK
        obtain ⟨f15, _⟩ := hF
        have f15 : a.tmps.getD 15 undef = .pointer (some ⟨w.heap.size + 1, k, none⟩) := f15
        refine rely_wp rfl ?_
        simp only [Array.getD_eq_getD_getElem?] at f15
        have c := (hT.row q1).cell (i := k) hlt
        rw [bF_at] at c
        go_simp
        exact hK _ _ (NewT.refl _) rfl
      · intro wx hT
        intro u h; obtain rfl := h (by simp); clear h
        intro u h; obtain rfl := h (by simp); clear h
        intro u h; obtain rfl := h (by simp); clear h
        intro u h; obtain rfl := h (by simp); clear h
        intro u h; obtain rfl := h (by simp); clear h
        intro u h; obtain rfl := h (by simp); clear h
        intro u h; obtain rfl := h (by simp); clear h
        refine relyEnd_nil rfl ?_
        simp only [Act.put, List.setIfInBounds_toArray, List.set_cons_zero, List.set_cons_succ]
        refine opr_callv rfl rfl Tryd.func67 (by kernel_rfl) (by kernel_rfl) (by simp only [List.map_toArray, List.map_cons, List.map_nil]; rfl) ((Eq1_any (a k) (b k) (orTo a b k) g wx (hT.row qr)).mono ?_)
        rintro e w2 ⟨v, rfl, rfl⟩
        refine ⟨v, rfl, ?_⟩
        have n0 := (hT.row q0).setOther (a := ⟨g, 0, none⟩) (show w.heap.size ≠ g by omega) (.int .u8 (bN (orTo a b k ||| (a k ^^^ b k))))
        have n1 := (hT.row q1).setOther (a := ⟨g, 0, none⟩) (show w.heap.size + 1 ≠ g by omega) (.int .u8 (bN (orTo a b k ||| (a k ^^^ b k))))
        have nr : (wx.setCell ⟨g, 0, none⟩ (.int .u8 (bN (orTo a b k ||| (a k ^^^ b k))))).rowIs g 5 1 (bF fun _ => orTo a b (k + 1)) := row1_set (hT.row qr)
        have nB := (qB.trans (hT.out.mono (by have := qB.size; omega))).setCell (p := ⟨g, 0, none⟩) (Nat.le_refl _) (.int .u8 (bN (orTo a b k ||| (a k ^^^ b k))))
        generalize wx.setCell ⟨g, 0, none⟩ (.int .u8 (bN (orTo a b k ||| (a k ^^^ b k)))) = w3 at n0 n1 nr nB ⊢
        clear q0 q1 qr qB hT
        go_simp
        go_wp2
        go_roundw
        case rel => exact ⟨k + 1, by omega, by go_num, n0, n1, nr, nB⟩
        case measure => simp [intOf]; omega
    · obtain rfl : k = 32 := by omega
      go_wp2
      go_end0
      exact ⟨_, rfl, qr, qB⟩
set_option maxHeartbeats 2000000 in
theorem Equal_cv (a b : Nat → UInt8) (w : World) : Cv 53 #[.agg (rowA 32 (bF a)), .agg (rowA 32 (bF b))] w (.eq (.bool (eqH a b))) := by
  unfold Cv
  go_enter Tryd.func53, Tryd.ntmps53
  go_upto_region 2 with fail
  have hB : NewT w (((w.alloc (.cells (rowA 32 (bF a)) 32)).alloc (.cells (rowA 32 (bF b)) 32)).alloc (.cells #[.int .u8 0] 5)) := NewT.trans _ _ _ (NewT.trans _ _ _ (NewT.alloc w _) (NewT.alloc _ _)) (NewT.alloc _ _)
  have r0 := ((rowIs_box w 32 32 (bF a)).alloc (.cells (rowA 32 (bF b)) 32)).alloc (.cells #[.int .u8 0] 5)
  have r1 := (rowIs_box (w.alloc (.cells (rowA 32 (bF a)) 32)) 32 32 (bF b)).alloc (.cells #[.int .u8 0] 5)
  have r2 := World.rowIs_alloc ((w.alloc (.cells (rowA 32 (bF a)) 32)).alloc (.cells (rowA 32 (bF b)) 32)) #[.int .u8 0] 5 (bF fun _ => 0) (fun i hi => by
    obtain rfl : i = 0 := by simpa using hi
    rfl)
  rw [World.size_alloc] at r1 r2
  rw [World.size_alloc] at r2
  change Code.wp _ _ _ _ (((w.alloc (.cells (rowA 32 (bF a)) 32)).alloc (.cells (rowA 32 (bF b)) 32)).alloc (.cells #[.int .u8 0] 5))
  generalize (((w.alloc (.cells (rowA 32 (bF a)) 32)).alloc (.cells (rowA 32 (bF b)) 32)).alloc (.cells #[.int .u8 0] 5)) = W0 at r0 r1 r2 hB ⊢
  change W0.rowIs (w.heap.size + 1 + 1) 5 1 (bF fun _ => 0) at r2
  refine wp_region_seq NewT [SV.eq (.agg (rowA 32 (bF a))), SV.eq (.agg (rowA 32 (bF b))), SV.eq (.func (.func 67) #[] #[.pointer (some ⟨w.heap.size + 1 + 1, 0, none⟩)])] [([(2, none)], none), ([(3, none)], none), ([(5, none)], none)] 12 rfl rfl (by kernel_rfl) rfl NewT.trans (NewT.refl _) (Nat.le_of_ble_eq_true rfl) ⟨?_, ?_, ?_, trivial⟩ ?_
  · -- 0: Op.load 31 t2
    intro a wx hT hF K hK
    obtain ⟨f2, _⟩ := hF
    have f2 : a.tmps.getD 2 undef = .pointer (some ⟨w.heap.size, 0, none⟩) := f2
    refine rely_wp rfl ?_
    exact opr_load_hash rfl f2 (hT.row r0) (hK _ _ (NewT.refl _) rfl)
  · -- 1: Op.load 31 t3
    intro a wx hT hF K hK
    obtain ⟨f3, _⟩ := hF
    have f3 : a.tmps.getD 3 undef = .pointer (some ⟨w.heap.size + 1, 0, none⟩) := f3
    refine rely_wp rfl ?_
    exact opr_load_hash rfl f3 (hT.row r1) (hK _ _ (NewT.refl _) rfl)
  · -- 2: Op.makeFunc (Fn.func 48) #[] #[t5]
    intro a wx hT hF K hK
    obtain ⟨f5, _⟩ := hF
    have f5 : a.tmps.getD 5 undef = .pointer (some ⟨w.heap.size + 1 + 1, 0, none⟩) := f5
    refine rely_wp rfl ?_
    simp only [Array.getD_eq_getD_getElem?] at f5
    go_simp
    exact hK _ _ (NewT.refl _) rfl
  · intro wx hT
    intro u h; obtain rfl := h (by simp); clear h
    intro u h; obtain rfl := h (by simp); clear h
    intro u h; obtain rfl := h (by simp); clear h
    refine relyEnd_nil rfl ?_
    simp only [Act.put, List.setIfInBounds_toArray, List.set_cons_zero, List.set_cons_succ]
    refine opr_call rfl Tryd.func66 (by kernel_rfl) (by kernel_rfl) (by simp only [List.map_toArray, List.map_cons, List.map_nil]; rfl) ((eachPair_any a b (w.heap.size + 1 + 1) wx (hT.row r2)).mono ?_)
    rintro e w2 ⟨v, rfl, q2, hB2⟩
    refine ⟨v, rfl, ?_⟩
    have hB3 := (NewT.trans _ _ _ hB hT).out.trans (hB2.mono (by omega))
    have c2 := q2.cell (i := 0) (by omega)
    rw [bF_at] at c2
    have he := orTo_eqH a b
    clear hT hB hB2 r0 r1 r2
    generalize bN (orTo a b 32) = z at c2 he
    go_simp
    go_wp2
    go_ret
    exact ⟨_, rfl, hB3, rfl⟩
end Go.Proofs.YtchpmdcacpjojaaDoor
/- Package keys: receipts' tags; whether one holds. -/
namespace Go.Proofs.YtchpmdcacpjojaaDoor
open Go Go.RowKit
set_option maxRecDepth 8000
set_option linter.all false
set_option maxHeartbeats 400000 in
theorem Is_cv (d e : Hs) (w : World) : Cv 41 #[.agg (rowA 32 (bF d)), .agg (rowA 32 (bF e))] w (.eq (.bool (eqH d e))) := by
  unfold Cv
  go_enter Tryd.func41, Tryd.ntmps41
  go_upto_region 1 with fail
  have r0 := (rowIs_box w 82 32 (bF d)).alloc (.cells (rowA 32 (bF e)) 32)
  have r1 := rowIs_box (w.alloc (.cells (rowA 32 (bF d)) 82)) 32 32 (bF e)
  have hN : NewT w ((w.alloc (.cells (rowA 32 (bF d)) 82)).alloc (.cells (rowA 32 (bF e)) 32)) := NewT.trans _ _ _ (NewT.alloc _ _) (NewT.alloc _ _)
  rw [World.size_alloc] at r1
  change Code.wp _ _ _ _ ((w.alloc (.cells (rowA 32 (bF d)) 82)).alloc (.cells (rowA 32 (bF e)) 32))
  generalize (w.alloc (.cells (rowA 32 (bF d)) 82)).alloc (.cells (rowA 32 (bF e)) 32) = W0 at r0 r1 hN ⊢
  have R0 := Lib.hid r0
  have R1 := Lib.hid r1
  have HN := Lib.hid hN
  clear r0 r1 hN
  refine wp_region_steps0 NewT [SV.eq (.agg (rowA 32 (bF (d)))), SV.eq (.agg (rowA 32 (bF (e)))), SV.eq (.bool (eqH (d) (e))), SV.eq (.bool (eqH (d) (e)))] [([(2, none)], none), ([(3, none)], none), ([(5, some 0), (6, some 1)], none), ([(7, some 2)], none)] 8 4 rfl rfl (by kernel_rfl) NewT.trans (NewT.refl _) (Nat.le_of_ble_eq_true rfl) ⟨?_, ?_, ?_, ?_, trivial⟩ ?_
  · exact fun a wx hT hF K hK => rely_wp rfl (opr_ldDue (hT.row R0.out) rfl hF.1 (hK _ _ (NewT.refl _) rfl))
  · exact fun a wx hT hF K hK => rely_wp rfl (opr_load_hash rfl hF.1 (hT.row R1.out) (hK _ _ (NewT.refl _) rfl))
  · exact fun a wx hT hF K hK => rely_wp rfl (opr_cv (Equal_cv (d) (e) wx) rfl Tryd.func53 (by kernel_rfl) (by kernel_rfl) (evs2 hF.1 hF.2.1) hK)
  · exact fun a wx hT hF K hK => rely_wp rfl (opr_move (.inr rfl) (hK _ _ (NewT.refl _) hF.1))
  · intro wx hT
    iterate 4 (intro u h; obtain rfl := Eq.symm (h (by simp)); clear h)
    refine relyEnd_nil rfl ?_
    refine wpList_end rfl ?_
    simp only [Act.put, List.setIfInBounds_toArray, List.set_cons_zero, List.set_cons_succ]
    go_simp
    go_wp2
    go_ret
    exact ⟨_, rfl, NewT.trans _ _ _ HN.out hT, rfl⟩
set_option maxHeartbeats 2000000 in
theorem Receipt_cv {kf : Hs → List Int → Hs} {tg : Hs → Hs → Hs} {pf : Int → Hs → Hs} (hX : KeyH kf tg pf) (v u : Value) (ps ws : List Hs) (need : Int) (x : Rc) (w : World) (hT : Tables w) (hk : KeysV w v ps ws need) (hx : RecV w u x) : Cv 40 #[v, u] w (.eq (.agg (rowA 32 (bF (recpH kf ps ws need x))))) := by
  unfold Cv
  obtain ⟨pv, wv, rfl, hpv, hwv⟩ := hk
  obtain ⟨sv, dv, rfl, hs, hd⟩ := hx
  have HT := Lib.hid hT
  clear hT
  go_enter Tryd.func40, Tryd.ntmps40
  go_upto_region 1 with fail
  have rk := ((rowIs_box w 24 3 (keyF pv wv need)).alloc (.cells (rowA 109 (recF x sv dv)) 51)).alloc (.cells (rowA 32 (bF fun _ => 0)) 32)
  have r1 := (rowIs_box (w.alloc (.cells (rowA 3 (keyF pv wv need)) 24)) 51 109 (recF x sv dv)).alloc (.cells (rowA 32 (bF fun _ => 0)) 32)
  have r0 := rowIs_box ((w.alloc (.cells (rowA 3 (keyF pv wv need)) 24)).alloc (.cells (rowA 109 (recF x sv dv)) 51)) 32 32 (bF fun _ => 0)
  have hN : NewT w (((w.alloc (.cells (rowA 3 (keyF pv wv need)) 24)).alloc (.cells (rowA 109 (recF x sv dv)) 51)).alloc (.cells (rowA 32 (bF fun _ => 0)) 32)) := NewT.trans _ _ _ (NewT.alloc _ _) (NewT.trans _ _ _ (NewT.alloc _ _) (NewT.alloc _ _))
  rw [World.size_alloc] at r1
  rw [World.size_alloc, World.size_alloc] at r0
  change Code.wp _ _ _ _ (((w.alloc (.cells (rowA 3 (keyF pv wv need)) 24)).alloc (.cells (rowA 109 (recF x sv dv)) 51)).alloc (.cells (rowA 32 (bF fun _ => 0)) 32))
  generalize ((w.alloc (.cells (rowA 3 (keyF pv wv need)) 24)).alloc (.cells (rowA 109 (recF x sv dv)) 51)).alloc (.cells (rowA 32 (bF fun _ => 0)) 32) = W0 at rk r1 r0 hN ⊢
  have RK := Lib.hid rk
  have R1 := Lib.hid r1
  have R0 := Lib.hid r0
  have HN := Lib.hid hN
  replace HT := Lib.hid (hN.tables HT.out)
  have HK : Hid (KeysV W0 (.agg (rowA 3 (keyF pv wv need))) ps ws need) := Lib.hid (hN.keysV ⟨pv, wv, rfl, hpv, hwv⟩)
  have HP := Lib.hid (hN.hs hpv)
  have HW := Lib.hid (hN.hs hwv)
  have HX : Hid (RecV W0 (.agg (rowA 109 (recF x sv dv))) x) := Lib.hid (hN.recV ⟨sv, dv, rfl, hs, hd⟩)
  have HS := Lib.hid (hN.pairs hs)
  have HD := Lib.hid (hN.rd hd)
  clear rk r0 r1 hpv hwv hN hs hd
  obtain ⟨q1_1, Q1_1⟩ : ∃ bq_, ((x.kind != 3) || (!(hasB ps ws need x.part x.epoch))) = bq_ := ⟨_, rfl⟩
  refine wp_region_steps0 NewT [SV.eq (.pointer (some ⟨w.heap.size + 1, 0, none⟩)), SV.eq (.int .i64 (x.kind)), SV.eq (.bool (x.kind != 3)), SV.eq (.bool (x.kind != 3)), svIf ((!(x.kind != 3))) (SV.eq (.agg (rowA 3 (keyF pv wv need)))), svIf ((!(x.kind != 3))) (SV.eq (.pointer (some ⟨w.heap.size + 1, 8, none⟩))), svIf ((!(x.kind != 3))) (SV.eq (.int .i64 (x.part))), svIf ((!(x.kind != 3))) (SV.eq (.pointer (some ⟨w.heap.size + 1, 9, none⟩))), svIf ((!(x.kind != 3))) (SV.eq (.int .i64 (x.epoch))), svIf ((!(x.kind != 3))) (SV.eq (.bool (hasB ps ws need x.part x.epoch))), svIf ((!(x.kind != 3))) (SV.eq (.bool (!(hasB ps ws need x.part x.epoch)))), SV.eq (.bool (q1_1))] [([(3, none)], none), ([(5, some 0)], none), ([(6, some 1)], none), ([(7, some 2)], none), ([(2, none), (8, some 3)], some (8, false)), ([(3, none), (8, some 3)], some (8, false)), ([(10, some 5), (8, some 3)], some (8, false)), ([(3, none), (8, some 3)], some (8, false)), ([(12, some 7), (8, some 3)], some (8, false)), ([(9, some 4), (11, some 6), (13, some 8), (8, some 3)], some (8, false)), ([(14, some 9), (8, some 3)], some (8, false)), ([(8, some 3), (15, some 10)], none)] 36 12 rfl rfl (by kernel_rfl) NewT.trans (NewT.refl _) (Nat.le_of_ble_eq_true rfl) ⟨?_, ?_, ?_, ?_, ?_, ?_, ?_, ?_, ?_, ?_, ?_, ?_, trivial⟩ ?_
  · exact fun a wx hT hF K hK => rely_wp rfl (opr_fldR (by decide) rfl hF.1 (hK _ _ (NewT.refl _) rfl))
  · exact fun a wx hT hF K hK => rely_wp rfl (opr_ldI (hT.row R1.out) (by decide) rfl rfl hF.1 (hK _ _ (NewT.refl _) rfl))
  · exact fun a wx hT hF K hK => rely_wp rfl (opr_cmp (b := x.kind != 3) (.inr (.inl ⟨rfl, rfl⟩)) Tryd.underlying3 rfl hF.1 rfl (hK _ _ (NewT.refl _) rfl))
  · exact fun a wx hT hF K hK => rely_wp rfl (opr_move (.inl rfl) (hK _ _ (NewT.refl _) hF.1))
  · exact fun a wx hT hF K hK => rely_if (rely_gf hF.2.1) (NewT.refl _) hK fun hE hK => opr_ldY (hT.row RK.out) rfl hF.1 (hK _ _ (NewT.refl _) rfl)
  · exact fun a wx hT hF K hK => rely_if (rely_gf hF.2.1) (NewT.refl _) hK fun hE hK => opr_fldR (by decide) rfl hF.1 (hK _ _ (NewT.refl _) rfl)
  · exact fun a wx hT hF K hK => rely_if (rely_gf hF.2.1) (NewT.refl _) hK fun hE hK => opr_ldI (hT.row R1.out) (by decide) rfl rfl (hF.1 hE) (hK _ _ (NewT.refl _) rfl)
  · exact fun a wx hT hF K hK => rely_if (rely_gf hF.2.1) (NewT.refl _) hK fun hE hK => opr_fldR (by decide) rfl hF.1 (hK _ _ (NewT.refl _) rfl)
  · exact fun a wx hT hF K hK => rely_if (rely_gf hF.2.1) (NewT.refl _) hK fun hE hK => opr_ldI (hT.row R1.out) (by decide) rfl rfl (hF.1 hE) (hK _ _ (NewT.refl _) rfl)
  · exact fun a wx hT hF K hK => rely_if (rely_gf hF.2.2.2.1) (NewT.refl _) hK fun hE hK => opr_cv (hasKey_cv _ ps ws need x.part x.epoch wx (hT.keysV HK.out)) rfl Tryd.func39 (by kernel_rfl) (by kernel_rfl) (evs3 (hF.1 hE) (hF.2.1 hE) (hF.2.2.1 hE)) hK
  · exact fun a wx hT hF K hK => rely_if (rely_gf hF.2.1) (NewT.refl _) hK fun hE hK => opr_not rfl (hF.1 hE) (hK _ _ (NewT.refl _) rfl)
  · exact fun a wx hT hF K hK => rely_wp rfl (opr_pick_b rfl hF.1 (fun hb => hK _ _ (NewT.refl _) (pn_or1 Q1_1 hb)) (fun hb => hK _ _ (NewT.refl _) (pn_or0 Q1_1 (hF.2.1 (bnot hb)) hb)))
  · intro w1 k1
    iterate 4 (intro u h; obtain rfl := Eq.symm (h (by simp)); clear h)
    iterate 7 (intro _ _)
    intro u h; obtain rfl := Eq.symm (h (by simp)); clear h
    subst Q1_1
    refine relyEnd_nil rfl ?_
    refine wpList_end rfl ?_
    simp only [Act.put, List.setIfInBounds_toArray, List.set_cons_zero, List.set_cons_succ]
    go_simp
    replace RK := Lib.hid (k1.row RK.out)
    replace R1 := Lib.hid (k1.row R1.out)
    replace R0 := Lib.hid (k1.row R0.out)
    replace HK := Lib.hid (k1.keysV HK.out)
    replace HP := Lib.hid (k1.hs HP.out)
    replace HW := Lib.hid (k1.hs HW.out)
    replace HX := Lib.hid (k1.recV HX.out)
    replace HS := Lib.hid (k1.pairs HS.out)
    replace HD := Lib.hid (k1.rd HD.out)
    replace HT := Lib.hid (k1.tables HT.out)
    replace HN := Lib.hid (NewT.trans _ _ _ HN.out k1)
    clear k1
    cases hb : ((x.kind != 3) || !hasB ps ws need x.part x.epoch)
    · have HE : Hid (recpH kf ps ws need x = kf (partH kf ps ws need x.part x.epoch) [2, x.saga, x.step, bI x.back, bI x.good]) := Lib.hid (by unfold recpH; rw [or_not hb]; rfl)
      clear hb
      go_upto_region 3 with fail
      refine wp_region_rely (NewT) [SV.eq (.agg (rowA 3 (keyF pv wv need))), SV.eq (.pointer (some ⟨w.heap.size + 1, 8, none⟩)), SV.eq (.int .i64 (x.part)), SV.eq (.pointer (some ⟨w.heap.size + 1, 9, none⟩)), SV.eq (.int .i64 (x.epoch)), SV.eq (.agg (rowA 32 (bF (partH kf ps ws need x.part x.epoch)))), SV.eq (.pointer (some ⟨w.heap.size + 1, 1, none⟩)), SV.eq (.int .i64 (x.saga)), SV.eq (.pointer (some ⟨w.heap.size + 1, 3, none⟩)), SV.eq (.int .i64 (x.step)), SV.eq (.pointer (some ⟨w.heap.size + 1, 5, none⟩)), SV.eq (.bool (x.back)), SV.eq (.int .i64 (bI x.back)), SV.eq (.pointer (some ⟨w.heap.size + 1, 6, none⟩)), SV.eq (.bool (x.good)), SV.eq (.int .i64 (bI x.good)), svInts [2, x.saga, x.step, bI x.back, bI x.good], SV.eq (.agg (rowA 32 (bF (kf (partH kf ps ws need x.part x.epoch) [2, x.saga, x.step, bI x.back, bI x.good]))))] [([(2, none)], none), ([(3, none)], none), ([(19, some 1)], none), ([(3, none)], none), ([(21, some 3)], none), ([(18, some 0), (20, some 2), (22, some 4)], none), ([(3, none)], none), ([(24, some 6)], none), ([(3, none)], none), ([(26, some 8)], none), ([(3, none)], none), ([(28, some 10)], none), ([(29, some 11)], none), ([(3, none)], none), ([(31, some 13)], none), ([(32, some 14)], none), ([(25, some 7), (27, some 9), (30, some 12), (33, some 15)], none), ([(23, some 5), (34, some 16)], none)] 36 rfl (by kernel_rfl) rfl (by kernel_rfl) (by kernel_rfl) rfl NewT.trans (NewT.drew _) (Nat.le_of_ble_eq_true rfl) ⟨?_, ?_, ?_, ?_, ?_, ?_, ?_, ?_, ?_, ?_, ?_, ?_, ?_, ?_, ?_, ?_, ?_, ?_, trivial⟩ ?_
      · exact fun a wx hT hF K hK => rely_wp rfl (opr_ldY (hT.row RK.out) rfl hF.1 (hK _ _ (NewT.refl _) rfl))
      · exact fun a wx hT hF K hK => rely_wp rfl (opr_fldR (by decide) rfl hF.1 (hK _ _ (NewT.refl _) rfl))
      · exact fun a wx hT hF K hK => rely_wp rfl (opr_ldI (hT.row R1.out) (by decide) rfl rfl hF.1 (hK _ _ (NewT.refl _) rfl))
      · exact fun a wx hT hF K hK => rely_wp rfl (opr_fldR (by decide) rfl hF.1 (hK _ _ (NewT.refl _) rfl))
      · exact fun a wx hT hF K hK => rely_wp rfl (opr_ldI (hT.row R1.out) (by decide) rfl rfl hF.1 (hK _ _ (NewT.refl _) rfl))
      · exact fun a wx hT hF K hK => rely_wp rfl (opr_cv (Part_cv hX _ ps ws need x.part x.epoch wx (hT.tables HT.out) (hT.keysV HK.out)) rfl Tryd.func51 (by kernel_rfl) (by kernel_rfl) (evs3 hF.1 hF.2.1 hF.2.2.1) hK)
      · exact fun a wx hT hF K hK => rely_wp rfl (opr_fldR (by decide) rfl hF.1 (hK _ _ (NewT.refl _) rfl))
      · exact fun a wx hT hF K hK => rely_wp rfl (opr_ldI (hT.row R1.out) (by decide) rfl rfl hF.1 (hK _ _ (NewT.refl _) rfl))
      · exact fun a wx hT hF K hK => rely_wp rfl (opr_fldR (by decide) rfl hF.1 (hK _ _ (NewT.refl _) rfl))
      · exact fun a wx hT hF K hK => rely_wp rfl (opr_ldI (hT.row R1.out) (by decide) rfl rfl hF.1 (hK _ _ (NewT.refl _) rfl))
      · exact fun a wx hT hF K hK => rely_wp rfl (opr_fldR (by decide) rfl hF.1 (hK _ _ (NewT.refl _) rfl))
      · exact fun a wx hT hF K hK => rely_wp rfl (opr_ldQ (hT.row R1.out) (by decide) rfl rfl hF.1 (hK _ _ (NewT.refl _) rfl))
      · exact fun a wx hT hF K hK => rely_wp rfl (opr_cv (kBit_cv x.back wx) rfl Tryd.func52 (by kernel_rfl) (by kernel_rfl) (evs1 hF.1) hK)
      · exact fun a wx hT hF K hK => rely_wp rfl (opr_fldR (by decide) rfl hF.1 (hK _ _ (NewT.refl _) rfl))
      · exact fun a wx hT hF K hK => rely_wp rfl (opr_ldQ (hT.row R1.out) (by decide) rfl rfl hF.1 (hK _ _ (NewT.refl _) rfl))
      · exact fun a wx hT hF K hK => rely_wp rfl (opr_cv (kBit_cv x.good wx) rfl Tryd.func52 (by kernel_rfl) (by kernel_rfl) (evs1 hF.1) hK)
      · exact fun a wx hT hF K hK => rely_wp rfl (opr_bsI5 rfl rfl hF.1 hF.2.1 hF.2.2.1 hF.2.2.2.1 hK)
      · exact fun a wx hT hF K hK => rely_wp rfl (opr_cv (Key_cv (partH kf ps ws need x.part x.epoch) _ [2, x.saga, x.step, bI x.back, bI x.good] _ wx (hT.tables HT.out) hF.2.1 (by simp) (hX.key _ _)) rfl Tryd.func50 (by kernel_rfl) (by kernel_rfl) (evs2 hF.1 rfl) hK)
      · intro wx hT
        iterate 16 (intro u h; obtain rfl := Eq.symm (h (by simp)); clear h)
        intro _ _
        intro u h; obtain rfl := Eq.symm (h (by simp)); clear h
        refine relyEnd_nil rfl ?_
        simp only [Act.put, List.setIfInBounds_toArray, List.set_cons_zero, List.set_cons_succ]
        refine opr_store_new (B := w.heap.size) (W := w) info31 rfl rfl rfl (hT.row R0.out) (NewT.trans _ _ _ HN.out hT) (by omega) ?_
        intro w9 hB9 r9
        go_simp
        go_wp2
        exact bodyPost_ret (results_row rfl _ rfl r9 Tryd.underlying32 info31) rfl ⟨_, rfl, hB9, by rw [HE.out]; rfl⟩
    · have HE : Hid (recpH kf ps ws need x = z32) := Lib.hid (by unfold recpH; rw [or_not hb]; rfl)
      clear hb
      go_upto_region 2 with fail
      refine wp_region_steps0 NewT [SV.eq (.agg (rowA 32 (bF (z32))))] [([], none)] 36 1 rfl rfl (by kernel_rfl) NewT.trans (NewT.refl _) (Nat.le_of_ble_eq_true rfl) ⟨?_, trivial⟩ ?_
      · exact fun a wx hT hF K hK => rely_wp rfl (opr_build (pv := #[]) rfl (by simp) (build_z32 wx) (hK _ _ (NewT.refl _) rfl))
      · intro wx hT
        intro u h; obtain rfl := Eq.symm (h (by simp)); clear h
        refine relyEnd_nil rfl ?_
        simp only [Act.put, List.setIfInBounds_toArray, List.set_cons_zero, List.set_cons_succ]
        refine wpList_plain rfl (fun K hK => ?_)
        refine opr_store_new (B := w.heap.size) (W := w) info31 rfl rfl rfl (hT.row R0.out) (NewT.trans _ _ _ HN.out hT) (by omega) ?_
        intro w9 hB9 r9
        refine hK _ _ ?_
        refine wpList_end rfl ?_
        simp only [Act.put, List.setIfInBounds_toArray, List.set_cons_zero, List.set_cons_succ]
        go_simp
        go_wp2
        exact bodyPost_ret (results_row rfl _ rfl r9 Tryd.underlying32 info31) rfl ⟨_, rfl, hB9, by rw [HE.out]; rfl⟩
set_option maxHeartbeats 2000000 in
theorem Holds_cv {kf : Hs → List Int → Hs} {tg : Hs → Hs → Hs} {pf : Int → Hs → Hs} (hX : KeyH kf tg pf) (v u : Value) (ps ws : List Hs) (need : Int) (x : Rc) (w : World) (hT : Tables w) (hk : KeysV w v ps ws need) (hx : RecV w u x) : Cv 22 #[v, u] w (.eq (.bool (holdsB kf ps ws need x))) := by
  unfold Cv
  obtain ⟨pv, wv, rfl, hpv, hwv⟩ := hk
  obtain ⟨sv, dv, rfl, hs, hd⟩ := hx
  have HT := Lib.hid hT
  clear hT
  go_enter Tryd.func22, Tryd.ntmps22
  go_upto_region 1 with fail
  have rk := (rowIs_box w 24 3 (keyF pv wv need)).alloc (.cells (rowA 109 (recF x sv dv)) 51)
  have r1 := rowIs_box (w.alloc (.cells (rowA 3 (keyF pv wv need)) 24)) 51 109 (recF x sv dv)
  have hN : NewT w ((w.alloc (.cells (rowA 3 (keyF pv wv need)) 24)).alloc (.cells (rowA 109 (recF x sv dv)) 51)) := NewT.trans _ _ _ (NewT.alloc _ _) (NewT.alloc _ _)
  rw [World.size_alloc] at r1
  change Code.wp _ _ _ _ ((w.alloc (.cells (rowA 3 (keyF pv wv need)) 24)).alloc (.cells (rowA 109 (recF x sv dv)) 51))
  generalize (w.alloc (.cells (rowA 3 (keyF pv wv need)) 24)).alloc (.cells (rowA 109 (recF x sv dv)) 51) = W0 at rk r1 hN ⊢
  have RK := Lib.hid rk
  have R1 := Lib.hid r1
  have HN := Lib.hid hN
  replace HT := Lib.hid (hN.tables HT.out)
  have HK : Hid (KeysV W0 (.agg (rowA 3 (keyF pv wv need))) ps ws need) := Lib.hid (hN.keysV ⟨pv, wv, rfl, hpv, hwv⟩)
  have HP := Lib.hid (hN.hs hpv)
  have HW := Lib.hid (hN.hs hwv)
  have HX : Hid (RecV W0 (.agg (rowA 109 (recF x sv dv))) x) := Lib.hid (hN.recV ⟨sv, dv, rfl, hs, hd⟩)
  have HS := Lib.hid (hN.pairs hs)
  have HD := Lib.hid (hN.rd hd)
  clear rk r1 hpv hwv hN hs hd
  obtain ⟨q1_1, Q1_1⟩ : ∃ bq_, (((x.kind != 3) || (!(rightB x))) || (!(hasB ps ws need x.part x.epoch))) = bq_ := ⟨_, rfl⟩
  refine wp_region_steps0 NewT [SV.eq (.pointer (some ⟨w.heap.size + 1, 0, none⟩)), SV.eq (.int .i64 (x.kind)), SV.eq (.bool (x.kind != 3)), SV.eq (.bool (x.kind != 3)), svIf ((!(x.kind != 3))) (SV.eq (.agg (rowA 109 (recF x sv dv)))), svIf ((!(x.kind != 3))) (SV.eq (.bool (rightB x))), svIf ((!(x.kind != 3))) (SV.eq (.bool (!(rightB x)))), SV.eq (.bool ((x.kind != 3) || (!(rightB x)))), SV.eq (.bool ((x.kind != 3) || (!(rightB x)))), svIf ((!((x.kind != 3) || (!(rightB x))))) (SV.eq (.agg (rowA 3 (keyF pv wv need)))), svIf ((!((x.kind != 3) || (!(rightB x))))) (SV.eq (.pointer (some ⟨w.heap.size + 1, 8, none⟩))), svIf ((!((x.kind != 3) || (!(rightB x))))) (SV.eq (.int .i64 (x.part))), svIf ((!((x.kind != 3) || (!(rightB x))))) (SV.eq (.pointer (some ⟨w.heap.size + 1, 9, none⟩))), svIf ((!((x.kind != 3) || (!(rightB x))))) (SV.eq (.int .i64 (x.epoch))), svIf ((!((x.kind != 3) || (!(rightB x))))) (SV.eq (.bool (hasB ps ws need x.part x.epoch))), svIf ((!((x.kind != 3) || (!(rightB x))))) (SV.eq (.bool (!(hasB ps ws need x.part x.epoch)))), SV.eq (.bool (q1_1))] [([(3, none)], none), ([(6, some 0)], none), ([(7, some 1)], none), ([(8, some 2)], none), ([(3, none), (9, some 3)], some (9, false)), ([(10, some 4), (9, some 3)], some (9, false)), ([(11, some 5), (9, some 3)], some (9, false)), ([(9, some 3), (12, some 6)], none), ([(13, some 7)], none), ([(2, none), (14, some 8)], some (14, false)), ([(3, none), (14, some 8)], some (14, false)), ([(16, some 10), (14, some 8)], some (14, false)), ([(3, none), (14, some 8)], some (14, false)), ([(18, some 12), (14, some 8)], some (14, false)), ([(15, some 9), (17, some 11), (19, some 13), (14, some 8)], some (14, false)), ([(20, some 14), (14, some 8)], some (14, false)), ([(14, some 8), (21, some 15)], none)] 31 17 rfl rfl (by kernel_rfl) NewT.trans (NewT.refl _) (Nat.le_of_ble_eq_true rfl) ⟨?_, ?_, ?_, ?_, ?_, ?_, ?_, ?_, ?_, ?_, ?_, ?_, ?_, ?_, ?_, ?_, ?_, trivial⟩ ?_
  · exact fun a wx hT hF K hK => rely_wp rfl (opr_fldR (by decide) rfl hF.1 (hK _ _ (NewT.refl _) rfl))
  · exact fun a wx hT hF K hK => rely_wp rfl (opr_ldI (hT.row R1.out) (by decide) rfl rfl hF.1 (hK _ _ (NewT.refl _) rfl))
  · exact fun a wx hT hF K hK => rely_wp rfl (opr_cmp (b := x.kind != 3) (.inr (.inl ⟨rfl, rfl⟩)) Tryd.underlying3 rfl hF.1 rfl (hK _ _ (NewT.refl _) rfl))
  · exact fun a wx hT hF K hK => rely_wp rfl (opr_move (.inl rfl) (hK _ _ (NewT.refl _) hF.1))
  · exact fun a wx hT hF K hK => rely_if (rely_gf hF.2.1) (NewT.refl _) hK fun hE hK => opr_ldR (hT.row R1.out) rfl hF.1 (hK _ _ (NewT.refl _) rfl)
  · exact fun a wx hT hF K hK => rely_if (rely_gf hF.2.1) (NewT.refl _) hK fun hE hK => opr_cv (Right_cv _ x wx (hT.recV HX.out)) rfl Tryd.func38 (by kernel_rfl) (by kernel_rfl) (evs1 (hF.1 hE)) hK
  · exact fun a wx hT hF K hK => rely_if (rely_gf hF.2.1) (NewT.refl _) hK fun hE hK => opr_not rfl (hF.1 hE) (hK _ _ (NewT.refl _) rfl)
  · exact fun a wx hT hF K hK => rely_wp rfl (opr_pick_b rfl hF.1 (fun hb => hK _ _ (NewT.refl _) (pk_or1 hb)) (fun hb => hK _ _ (NewT.refl _) (pk_or0 (hF.2.1 (bnot hb)) hb)))
  · exact fun a wx hT hF K hK => rely_wp rfl (opr_move (.inl rfl) (hK _ _ (NewT.refl _) hF.1))
  · exact fun a wx hT hF K hK => rely_if (rely_gf hF.2.1) (NewT.refl _) hK fun hE hK => opr_ldY (hT.row RK.out) rfl hF.1 (hK _ _ (NewT.refl _) rfl)
  · exact fun a wx hT hF K hK => rely_if (rely_gf hF.2.1) (NewT.refl _) hK fun hE hK => opr_fldR (by decide) rfl hF.1 (hK _ _ (NewT.refl _) rfl)
  · exact fun a wx hT hF K hK => rely_if (rely_gf hF.2.1) (NewT.refl _) hK fun hE hK => opr_ldI (hT.row R1.out) (by decide) rfl rfl (hF.1 hE) (hK _ _ (NewT.refl _) rfl)
  · exact fun a wx hT hF K hK => rely_if (rely_gf hF.2.1) (NewT.refl _) hK fun hE hK => opr_fldR (by decide) rfl hF.1 (hK _ _ (NewT.refl _) rfl)
  · exact fun a wx hT hF K hK => rely_if (rely_gf hF.2.1) (NewT.refl _) hK fun hE hK => opr_ldI (hT.row R1.out) (by decide) rfl rfl (hF.1 hE) (hK _ _ (NewT.refl _) rfl)
  · exact fun a wx hT hF K hK => rely_if (rely_gf hF.2.2.2.1) (NewT.refl _) hK fun hE hK => opr_cv (hasKey_cv _ ps ws need x.part x.epoch wx (hT.keysV HK.out)) rfl Tryd.func39 (by kernel_rfl) (by kernel_rfl) (evs3 (hF.1 hE) (hF.2.1 hE) (hF.2.2.1 hE)) hK
  · exact fun a wx hT hF K hK => rely_if (rely_gf hF.2.1) (NewT.refl _) hK fun hE hK => opr_not rfl (hF.1 hE) (hK _ _ (NewT.refl _) rfl)
  · exact fun a wx hT hF K hK => rely_wp rfl (opr_pick_b rfl hF.1 (fun hb => hK _ _ (NewT.refl _) (pn_or1 Q1_1 hb)) (fun hb => hK _ _ (NewT.refl _) (pn_or0 Q1_1 (hF.2.1 (bnot hb)) hb)))
  · intro w1 k1
    iterate 4 (intro u h; obtain rfl := Eq.symm (h (by simp)); clear h)
    iterate 3 (intro _ _)
    iterate 2 (intro u h; obtain rfl := Eq.symm (h (by simp)); clear h)
    iterate 7 (intro _ _)
    intro u h; obtain rfl := Eq.symm (h (by simp)); clear h
    subst Q1_1
    refine relyEnd_nil rfl ?_
    refine wpList_end rfl ?_
    simp only [Act.put, List.setIfInBounds_toArray, List.set_cons_zero, List.set_cons_succ]
    go_simp
    replace RK := Lib.hid (k1.row RK.out)
    replace R1 := Lib.hid (k1.row R1.out)
    replace HK := Lib.hid (k1.keysV HK.out)
    replace HP := Lib.hid (k1.hs HP.out)
    replace HW := Lib.hid (k1.hs HW.out)
    replace HX := Lib.hid (k1.recV HX.out)
    replace HS := Lib.hid (k1.pairs HS.out)
    replace HD := Lib.hid (k1.rd HD.out)
    replace HT := Lib.hid (k1.tables HT.out)
    replace HN := Lib.hid (NewT.trans _ _ _ HN.out k1)
    clear k1
    cases hb : (((x.kind != 3) || !rightB x) || !hasB ps ws need x.part x.epoch)
    · have HE : Hid (holdsB kf ps ws need x = eqH (recpH kf ps ws need x) x.tag) := Lib.hid (by unfold holdsB; rw [or_not3 hb]; rfl)
      clear hb
      go_upto_region 3 with fail
      refine wp_region_steps0 NewT [SV.eq (.agg (rowA 3 (keyF pv wv need))), SV.eq (.agg (rowA 109 (recF x sv dv))), SV.eq (.agg (rowA 32 (bF (recpH kf ps ws need x)))), SV.eq ((.func (.func 41) #[.agg (rowA 32 (bF (recpH kf ps ws need x)))] #[])), SV.eq ((.func (.func 41) #[.agg (rowA 32 (bF (recpH kf ps ws need x)))] #[]))] [([(2, none)], none), ([(3, none)], none), ([(23, some 0), (24, some 1)], none), ([(25, some 2)], none), ([(26, some 3)], none)] 31 5 rfl rfl (by kernel_rfl) NewT.trans (NewT.refl _) (Nat.le_of_ble_eq_true rfl) ⟨?_, ?_, ?_, ?_, ?_, trivial⟩ ?_
      · exact fun a wx hT hF K hK => rely_wp rfl (opr_ldY (hT.row RK.out) rfl hF.1 (hK _ _ (NewT.refl _) rfl))
      · exact fun a wx hT hF K hK => rely_wp rfl (opr_ldR (hT.row R1.out) rfl hF.1 (hK _ _ (NewT.refl _) rfl))
      · exact fun a wx hT hF K hK => rely_wp rfl (opr_cv (Receipt_cv hX _ _ ps ws need x wx (hT.tables HT.out) (hT.keysV HK.out) (hT.recV HX.out)) rfl Tryd.func40 (by kernel_rfl) (by kernel_rfl) (evs2 hF.1 hF.2.1) hK)
      · exact fun a wx hT hF K hK => rely_wp rfl (opr_mkm rfl hF.1 (hK _ _ (NewT.refl _) rfl))
      · exact fun a wx hT hF K hK => rely_wp rfl (opr_move (.inr rfl) (hK _ _ (NewT.refl _) hF.1))
      · intro w3 k3
        iterate 5 (intro u h; obtain rfl := Eq.symm (h (by simp)); clear h)
        refine relyEnd_nil rfl ?_
        refine wpList_end rfl ?_
        simp only [Act.put, List.setIfInBounds_toArray, List.set_cons_zero, List.set_cons_succ]
        go_simp
        replace RK := Lib.hid (k3.row RK.out)
        replace R1 := Lib.hid (k3.row R1.out)
        replace HK := Lib.hid (k3.keysV HK.out)
        replace HP := Lib.hid (k3.hs HP.out)
        replace HW := Lib.hid (k3.hs HW.out)
        replace HX := Lib.hid (k3.recV HX.out)
        replace HS := Lib.hid (k3.pairs HS.out)
        replace HD := Lib.hid (k3.rd HD.out)
        replace HT := Lib.hid (k3.tables HT.out)
        replace HN := Lib.hid (NewT.trans _ _ _ HN.out k3)
        clear k3
        go_upto_region 4 with fail
        refine wp_region_steps0 NewT [SV.eq ((.func (.func 41) #[.agg (rowA 32 (bF (recpH kf ps ws need x)))] #[])), SV.eq (.pointer (some ⟨w.heap.size + 1, 10, none⟩)), SV.eq (.agg (rowA 32 (bF (x.tag)))), SV.eq (.bool (eqH (recpH kf ps ws need x) (x.tag))), SV.eq (.bool (eqH (recpH kf ps ws need x) (x.tag)))] [([(5, none)], none), ([(3, none)], none), ([(28, some 1)], none), ([(27, some 0), (29, some 2)], none), ([(30, some 3)], none)] 31 5 rfl rfl (by kernel_rfl) NewT.trans (NewT.refl _) (Nat.le_of_ble_eq_true rfl) ⟨?_, ?_, ?_, ?_, ?_, trivial⟩ ?_
        · exact fun a wx hT hF K hK => rely_wp rfl (opr_move (.inl rfl) (hK _ _ (NewT.refl _) hF.1))
        · exact fun a wx hT hF K hK => rely_wp rfl (opr_fldR (by decide) rfl hF.1 (hK _ _ (NewT.refl _) rfl))
        · exact fun a wx hT hF K hK => rely_wp rfl (opr_ldH (hT.row R1.out) (by decide) (recF_tag x _ _) rfl hF.1 (hK _ _ (NewT.refl _) rfl))
        · intro a wx hT hF K hK
          obtain ⟨f27, f29, _⟩ := hF
          have f27 : a.tmps.getD 27 undef = (.func (.func 41) #[.agg (rowA 32 (bF (recpH kf ps ws need x)))] #[]) := f27
          have f29 : a.tmps.getD 29 undef = .agg (rowA 32 (bF (x.tag))) := f29
          refine rely_wp rfl ?_
          exact opr_cvm (Is_cv (recpH kf ps ws need x) (x.tag) wx) rfl f27 Tryd.func41 (by kernel_rfl) (by kernel_rfl) (by simp only [List.map_toArray, List.map_cons, List.map_nil, List.append_toArray, List.cons_append, List.nil_append, eval_tmp, f29]) hK
        · exact fun a wx hT hF K hK => rely_wp rfl (opr_move (.inr rfl) (hK _ _ (NewT.refl _) hF.1))
        · intro wx hT
          iterate 5 (intro u h; obtain rfl := Eq.symm (h (by simp)); clear h)
          refine relyEnd_nil rfl ?_
          refine wpList_end rfl ?_
          simp only [Act.put, List.setIfInBounds_toArray, List.set_cons_zero, List.set_cons_succ]
          go_simp
          go_wp2
          go_ret
          exact ⟨_, rfl, NewT.trans _ _ _ HN.out hT, by rw [HE.out]; rfl⟩
    · have HE : Hid (holdsB kf ps ws need x = false) := Lib.hid (by unfold holdsB; rw [or_not3 hb]; rfl)
      clear hb
      go_wp2
      go_ret
      exact ⟨_, rfl, HN.out, by rw [HE.out]; rfl⟩
end Go.Proofs.YtchpmdcacpjojaaDoor
/- Package part: ranges, calls that are asked again, receipts. -/
namespace Go.Proofs.YtchpmdcacpjojaaDoor
open Go Go.RowKit
set_option maxRecDepth 8000
set_option linter.all false
set_option maxHeartbeats 400000 in
theorem pWithin_cv (n lo hi : Int) (w : World) : Cv 25 #[.int .i64 n, .int .i64 lo, .int .i64 hi] w (.eq (.bool (inR n lo hi))) := by
  unfold Cv
  go_enter Tryd.func25, Tryd.ntmps25
  go_upto_region 1 with fail
  obtain ⟨q1_1, Q1_1⟩ : ∃ bq_, ((decide (lo ≤ n)) && (decide (n ≤ hi))) = bq_ := ⟨_, rfl⟩
  refine wp_region_steps0 NewT [SV.eq (.int .i64 (lo)), SV.eq (.int .i64 (n)), SV.eq (.bool (decide (lo ≤ n))), SV.eq (.bool (decide (lo ≤ n))), svIf (decide (lo ≤ n)) (SV.eq (.int .i64 (n))), svIf (decide (lo ≤ n)) (SV.eq (.int .i64 (hi))), svIf (decide (lo ≤ n)) (SV.eq (.bool (decide (n ≤ hi)))), SV.eq (.bool (q1_1)), SV.eq (.bool (q1_1))] [([(1, none)], none), ([(0, none)], none), ([(7, some 0), (8, some 1)], none), ([(9, some 2)], none), ([(0, none), (10, some 3)], some (10, true)), ([(2, none), (10, some 3)], some (10, true)), ([(11, some 4), (12, some 5), (10, some 3)], some (10, true)), ([(10, some 3), (13, some 6)], none), ([(14, some 7)], none)] 15 9 rfl rfl (by kernel_rfl) NewT.trans (NewT.refl _) (Nat.le_of_ble_eq_true rfl) ⟨?_, ?_, ?_, ?_, ?_, ?_, ?_, ?_, ?_, trivial⟩ ?_
  · exact fun a wx hT hF K hK => rely_wp rfl (opr_move (.inl rfl) (hK _ _ (NewT.refl _) hF.1))
  · exact fun a wx hT hF K hK => rely_wp rfl (opr_move (.inl rfl) (hK _ _ (NewT.refl _) hF.1))
  · exact fun a wx hT hF K hK => rely_wp rfl (opr_cmp (b := decide (lo ≤ n)) (.inr (.inr (.inl ⟨rfl, rfl⟩))) Tryd.underlying3 rfl hF.1 hF.2.1 (hK _ _ (NewT.refl _) rfl))
  · exact fun a wx hT hF K hK => rely_wp rfl (opr_move (.inl rfl) (hK _ _ (NewT.refl _) hF.1))
  · exact fun a wx hT hF K hK => rely_if (rely_gt hF.2.1) (NewT.refl _) hK fun hE hK => opr_move (.inl rfl) (hK _ _ (NewT.refl _) hF.1)
  · exact fun a wx hT hF K hK => rely_if (rely_gt hF.2.1) (NewT.refl _) hK fun hE hK => opr_move (.inl rfl) (hK _ _ (NewT.refl _) hF.1)
  · exact fun a wx hT hF K hK => rely_if (rely_gt hF.2.2.1) (NewT.refl _) hK fun hE hK => opr_cmp (b := decide (n ≤ hi)) (.inr (.inr (.inl ⟨rfl, rfl⟩))) Tryd.underlying3 rfl (hF.1 hE) (hF.2.1 hE) (hK _ _ (NewT.refl _) rfl)
  · exact fun a wx hT hF K hK => rely_wp rfl (opr_pick_b rfl hF.1 (fun hb => hK _ _ (NewT.refl _) (pn_and1 Q1_1 (hF.2.1 hb) hb)) (fun hb => hK _ _ (NewT.refl _) (pn_and0 Q1_1 hb)))
  · exact fun a wx hT hF K hK => rely_wp rfl (opr_move (.inr rfl) (hK _ _ (NewT.refl _) hF.1))
  · intro wx hT
    iterate 4 (intro u h; obtain rfl := Eq.symm (h (by simp)); clear h)
    iterate 3 (intro _ _)
    iterate 2 (intro u h; obtain rfl := Eq.symm (h (by simp)); clear h)
    subst Q1_1
    refine relyEnd_nil rfl ?_
    refine wpList_end rfl ?_
    simp only [Act.put, List.setIfInBounds_toArray, List.set_cons_zero, List.set_cons_succ]
    go_simp
    go_wp2
    go_ret
    exact ⟨_, rfl, hT, rfl⟩
set_option maxHeartbeats 1000000 in
theorem isAsked_cv (c : Cl) (w : World) : Cv 31 #[.agg (rowA 41 (clF c))] w (.eq (.bool (askB c))) := by
  unfold Cv
  go_enter Tryd.func31, Tryd.ntmps31
  go_upto_region 1 with fail
  have r_g1 := rowIs_box w 34 41 (clF c)
  have hN : NewT w (w.alloc (.cells (rowA 41 (clF c)) 34)) := NewT.alloc _ _
  change Code.wp _ _ _ _ (w.alloc (.cells (rowA 41 (clF c)) 34))
  generalize (w.alloc (.cells (rowA 41 (clF c)) 34)) = W0 at r_g1 hN ⊢
  obtain ⟨g1, h_g1⟩ : ∃ g_, w.heap.size = g_ := ⟨_, rfl⟩
  have HG : Hid (w.heap.size ≤ g1) := Lib.hid (by omega)
  rw [h_g1] at r_g1
  simp only [h_g1]
  have Rg1 := Lib.hid r_g1
  have HM := Lib.hid hN
  clear r_g1 hN h_g1
  go_upto_region 1 with fail
  refine wp_region_steps0 NewT [SV.eq (.pointer (some ⟨g1, 3, none⟩)), SV.eq (.bool (c.back)), SV.eq (.bool (c.back)), svIf ((!c.back)) (SV.eq (.pointer (some ⟨g1, 5, none⟩))), svIf ((!c.back)) (SV.eq (.int .i64 (c.kind))), svIf ((!c.back)) (SV.eq (.bool (c.kind == 3))), SV.eq (.bool (c.back || (c.kind == 3))), SV.eq (.bool (c.back || (c.kind == 3)))] [([(1, none)], none), ([(3, some 0)], none), ([(4, some 1)], none), ([(1, none), (5, some 2)], some (5, false)), ([(6, some 3), (5, some 2)], some (5, false)), ([(7, some 4), (5, some 2)], some (5, false)), ([(5, some 2), (8, some 5)], none), ([(9, some 6)], none)] 10 8 rfl rfl (by kernel_rfl) NewT.trans (NewT.refl _) (Nat.le_of_ble_eq_true rfl) ⟨?_, ?_, ?_, ?_, ?_, ?_, ?_, ?_, trivial⟩ ?_
  · exact fun a wx hT hF K hK => rely_wp rfl (opr_fldCl3 rfl hF.1 (hK _ _ (NewT.refl _) rfl))
  · exact fun a wx hT hF K hK => rely_wp rfl (opr_ldQ (hT.row Rg1.out) (by decide) rfl rfl hF.1 (hK _ _ (NewT.refl _) rfl))
  · exact fun a wx hT hF K hK => rely_wp rfl (opr_move (.inl rfl) (hK _ _ (NewT.refl _) hF.1))
  · exact fun a wx hT hF K hK => rely_if (rely_gf hF.2.1) (NewT.refl _) hK fun hE hK => opr_fldCl5 rfl hF.1 (hK _ _ (NewT.refl _) rfl)
  · exact fun a wx hT hF K hK => rely_if (rely_gf hF.2.1) (NewT.refl _) hK fun hE hK => opr_ldI (hT.row Rg1.out) (by decide) rfl rfl (hF.1 hE) (hK _ _ (NewT.refl _) rfl)
  · exact fun a wx hT hF K hK => rely_if (rely_gf hF.2.1) (NewT.refl _) hK fun hE hK => opr_cmp (b := c.kind == 3) (.inl ⟨rfl, rfl⟩) Tryd.underlying3 rfl (hF.1 hE) rfl (hK _ _ (NewT.refl _) rfl)
  · exact fun a wx hT hF K hK => rely_wp rfl (opr_pick_b rfl hF.1 (fun hb => hK _ _ (NewT.refl _) (pk_or1 hb)) (fun hb => hK _ _ (NewT.refl _) (pk_or0 (hF.2.1 (bnot hb)) hb)))
  · exact fun a wx hT hF K hK => rely_wp rfl (opr_move (.inr rfl) (hK _ _ (NewT.refl _) hF.1))
  · intro w1 k1
    iterate 3 (intro u h; obtain rfl := Eq.symm (h (by simp)); clear h)
    iterate 3 (intro _ _)
    iterate 2 (intro u h; obtain rfl := Eq.symm (h (by simp)); clear h)
    refine relyEnd_nil rfl ?_
    refine wpList_end rfl ?_
    simp only [Act.put, List.setIfInBounds_toArray, List.set_cons_zero, List.set_cons_succ]
    go_simp
    replace Rg1 := Lib.hid (k1.row Rg1.out)
    replace HM := Lib.hid (NewT.trans _ _ _ HM.out k1)
    clear k1
    go_wp2
    go_ret
    exact ⟨_, rfl, HM.out, rfl⟩
theorem build_rec0 (w : World) : (Instr.build 51 #[]).run Tryd.prog w = .ok (.agg (rowA 109 (recF zR (.slice none 0 0) (.slice none 0 0)))) w := by kernel_rfl
theorem build_recC (c : Cl) (seq : Int) (w : World) : (Instr.build 51 #[(0, .int .i64 3), (1, .int .i64 c.saga), (2, .int .i64 seq), (3, .int .i64 c.step), (4, .int .i64 c.tr), (5, .bool c.back), (6, .bool c.good), (8, .int .i64 c.part), (9, .int .i64 c.ep), (10, .agg (rowA 32 (bF c.tag)))]).run Tryd.prog w = .ok (.agg (rowA 109 (recF { zR with kind := 3, saga := c.saga, seq := seq, step := c.step, tr := c.tr, back := c.back, good := c.good, part := c.part, epoch := c.ep, tag := c.tag } (.slice none 0 0) (.slice none 0 0)))) w := by kernel_rfl
set_option maxHeartbeats 1000000 in
theorem pReceipt_cv (c : Cl) (seq : Int) (w : World) : Cv 20 #[.agg (rowA 41 (clF c)), .int .i64 seq] w (svRec (recC c seq)) := by
  unfold Cv
  go_enter Tryd.func20, Tryd.ntmps20
  go_upto_region 1 with fail
  have r_g1 := (rowIs_box w 34 41 (clF c)).alloc (.cells (rowA 109 (recF zR (.slice none 0 0) (.slice none 0 0))) 51)
  have r_g2 := rowIs_box (w.alloc (.cells (rowA 41 (clF c)) 34)) 51 109 (recF zR (.slice none 0 0) (.slice none 0 0))
  rw [World.size_alloc] at r_g2
  have hN : NewT w ((w.alloc (.cells (rowA 41 (clF c)) 34)).alloc (.cells (rowA 109 (recF zR (.slice none 0 0) (.slice none 0 0))) 51)) := (NewT.trans _ _ _ (NewT.alloc _ _) (NewT.alloc _ _))
  change Code.wp _ _ _ _ ((w.alloc (.cells (rowA 41 (clF c)) 34)).alloc (.cells (rowA 109 (recF zR (.slice none 0 0) (.slice none 0 0))) 51))
  generalize ((w.alloc (.cells (rowA 41 (clF c)) 34)).alloc (.cells (rowA 109 (recF zR (.slice none 0 0) (.slice none 0 0))) 51)) = W0 at r_g1 r_g2 hN ⊢
  obtain ⟨g1, h_g1⟩ : ∃ g_, w.heap.size = g_ := ⟨_, rfl⟩
  obtain ⟨g2, h_g2⟩ : ∃ g_, w.heap.size + 1 = g_ := ⟨_, rfl⟩
  have HG : Hid (w.heap.size ≤ g1 ∧ g1 < g2) := Lib.hid (by omega)
  rw [h_g1] at r_g1
  rw [h_g2] at r_g2
  try rw [h_g2]
  simp only [h_g1]
  have Rg1 := Lib.hid r_g1
  have Rg2 := Lib.hid r_g2
  have HM := Lib.hid hN
  clear r_g1 r_g2 hN h_g1 h_g2
  go_upto_region 1 with fail
  refine wp_region_steps0 NewT [SV.eq (.pointer (some ⟨g1, 6, none⟩)), SV.eq (.bool (c.ans)), SV.eq (.bool (!c.ans))] [([(2, none)], none), ([(5, some 0)], none), ([(6, some 1)], none)] 27 3 rfl rfl (by kernel_rfl) NewT.trans (NewT.refl _) (Nat.le_of_ble_eq_true rfl) ⟨?_, ?_, ?_, trivial⟩ ?_
  · exact fun a wx hT hF K hK => rely_wp rfl (opr_fldCl6 rfl hF.1 (hK _ _ (NewT.refl _) rfl))
  · exact fun a wx hT hF K hK => rely_wp rfl (opr_ldQ (hT.row Rg1.out) (by decide) rfl rfl hF.1 (hK _ _ (NewT.refl _) rfl))
  · exact fun a wx hT hF K hK => rely_wp rfl (opr_not rfl hF.1 (hK _ _ (NewT.refl _) rfl))
  · intro w1 k1
    iterate 3 (intro u h; obtain rfl := Eq.symm (h (by simp)); clear h)
    refine relyEnd_nil rfl ?_
    refine wpList_end rfl ?_
    simp only [Act.put, List.setIfInBounds_toArray, List.set_cons_zero, List.set_cons_succ]
    go_simp
    replace Rg1 := Lib.hid (k1.row Rg1.out)
    replace Rg2 := Lib.hid (k1.row Rg2.out)
    replace HM := Lib.hid (NewT.trans _ _ _ HM.out k1)
    clear k1
    cases hb : c.ans
    · have HE : Hid (recC c seq = zR) := Lib.hid (by unfold recC; rw [hb]; rfl)
      go_upto_region 2 with fail
      refine wp_region_steps0 NewT [SV.eq ((.agg (rowA 109 (recF zR (.slice none 0 0) (.slice none 0 0)))))] [([], none)] 27 1 rfl rfl (by kernel_rfl) NewT.trans (NewT.refl _) (Nat.le_of_ble_eq_true rfl) ⟨?_, trivial⟩ ?_
      · intro a wx hT hF K hK
        refine rely_wp rfl ?_
        exact opr_build (pv := #[]) rfl (by simp only [List.map_toArray, List.map_nil]) (build_rec0 wx) (hK _ _ (NewT.refl _) rfl)
      · intro w2 k2
        intro u h; obtain rfl := Eq.symm (h (by simp)); clear h
        refine relyEnd_nil rfl ?_
        simp only [Act.put, List.setIfInBounds_toArray, List.set_cons_zero, List.set_cons_succ]
        refine wpList_plain rfl (fun K hK => ?_)
        refine opr_putm (g := g2) (o0 := 0) (m := 109) (f := recF zR (.slice none 0 0) (.slice none 0 0)) (F := recF zR (.slice none 0 0) (.slice none 0 0)) rfl rfl rfl (k2.row Rg2.out) (by decide) info_rec (recF_one _ _ _ rfl rfl) (put_allN _ _ _) ?_
        intro W9 hR9 rr9
        refine hK _ _ ?_
        clear hK K
        refine wpList_end rfl ?_
        simp only [Act.put, List.setIfInBounds_toArray, List.set_cons_zero, List.set_cons_succ]
        go_simp
        go_wp2
        exact bodyPost_ret (results_agg rfl _ rfl rr9 Tryd.underlying51 rfl info_rec) rfl ⟨_, rfl, NewT.rt (NewT.trans _ _ _ HM.out k2) hR9 (by have := HG.out; omega), by show RecV _ _ _; rw [HE.out]; exact ⟨(.slice none 0 0), (.slice none 0 0), rfl, rdP_nil _, rdV_nil _ _⟩⟩
    · have HE : Hid (recC c seq = { zR with kind := 3, saga := c.saga, seq := seq, step := c.step, tr := c.tr, back := c.back, good := c.good, part := c.part, epoch := c.ep, tag := c.tag }) := Lib.hid (by unfold recC; rw [hb]; rfl)
      go_upto_region 3 with fail
      refine wp_region_steps0 NewT [SV.eq (.pointer (some ⟨g1, 0, none⟩)), SV.eq (.int .i64 (c.saga)), SV.eq (.int .i64 (seq)), SV.eq (.pointer (some ⟨g1, 1, none⟩)), SV.eq (.int .i64 (c.step)), SV.eq (.pointer (some ⟨g1, 2, none⟩)), SV.eq (.int .i64 (c.tr)), SV.eq (.pointer (some ⟨g1, 3, none⟩)), SV.eq (.bool (c.back)), SV.eq (.pointer (some ⟨g1, 7, none⟩)), SV.eq (.bool (c.good)), SV.eq (.pointer (some ⟨g1, 4, none⟩)), SV.eq (.int .i64 (c.part)), SV.eq (.pointer (some ⟨g1, 8, none⟩)), SV.eq (.int .i64 (c.ep)), SV.eq (.pointer (some ⟨g1, 9, none⟩)), SV.eq (.agg (rowA 32 (bF (c.tag)))), SV.eq ((.agg (rowA 109 (recF { zR with kind := 3, saga := c.saga, seq := seq, step := c.step, tr := c.tr, back := c.back, good := c.good, part := c.part, epoch := c.ep, tag := c.tag } (.slice none 0 0) (.slice none 0 0)))))] [([(2, none)], none), ([(9, some 0)], none), ([(1, none)], none), ([(2, none)], none), ([(12, some 3)], none), ([(2, none)], none), ([(14, some 5)], none), ([(2, none)], none), ([(16, some 7)], none), ([(2, none)], none), ([(18, some 9)], none), ([(2, none)], none), ([(20, some 11)], none), ([(2, none)], none), ([(22, some 13)], none), ([(2, none)], none), ([(24, some 15)], none), ([(10, some 1), (11, some 2), (13, some 4), (15, some 6), (17, some 8), (19, some 10), (21, some 12), (23, some 14), (25, some 16)], none)] 27 18 rfl rfl (by kernel_rfl) NewT.trans (NewT.refl _) (Nat.le_of_ble_eq_true rfl) ⟨?_, ?_, ?_, ?_, ?_, ?_, ?_, ?_, ?_, ?_, ?_, ?_, ?_, ?_, ?_, ?_, ?_, ?_, trivial⟩ ?_
      · exact fun a wx hT hF K hK => rely_wp rfl (opr_fldCl0 rfl hF.1 (hK _ _ (NewT.refl _) rfl))
      · exact fun a wx hT hF K hK => rely_wp rfl (opr_ldI (hT.row Rg1.out) (by decide) rfl rfl hF.1 (hK _ _ (NewT.refl _) rfl))
      · exact fun a wx hT hF K hK => rely_wp rfl (opr_move (.inl rfl) (hK _ _ (NewT.refl _) hF.1))
      · exact fun a wx hT hF K hK => rely_wp rfl (opr_fldCl1 rfl hF.1 (hK _ _ (NewT.refl _) rfl))
      · exact fun a wx hT hF K hK => rely_wp rfl (opr_ldI (hT.row Rg1.out) (by decide) rfl rfl hF.1 (hK _ _ (NewT.refl _) rfl))
      · exact fun a wx hT hF K hK => rely_wp rfl (opr_fldCl2 rfl hF.1 (hK _ _ (NewT.refl _) rfl))
      · exact fun a wx hT hF K hK => rely_wp rfl (opr_ldI (hT.row Rg1.out) (by decide) rfl rfl hF.1 (hK _ _ (NewT.refl _) rfl))
      · exact fun a wx hT hF K hK => rely_wp rfl (opr_fldCl3 rfl hF.1 (hK _ _ (NewT.refl _) rfl))
      · exact fun a wx hT hF K hK => rely_wp rfl (opr_ldQ (hT.row Rg1.out) (by decide) rfl rfl hF.1 (hK _ _ (NewT.refl _) rfl))
      · exact fun a wx hT hF K hK => rely_wp rfl (opr_fldCl7 rfl hF.1 (hK _ _ (NewT.refl _) rfl))
      · exact fun a wx hT hF K hK => rely_wp rfl (opr_ldQ (hT.row Rg1.out) (by decide) rfl rfl hF.1 (hK _ _ (NewT.refl _) rfl))
      · exact fun a wx hT hF K hK => rely_wp rfl (opr_fldCl4 rfl hF.1 (hK _ _ (NewT.refl _) rfl))
      · exact fun a wx hT hF K hK => rely_wp rfl (opr_ldI (hT.row Rg1.out) (by decide) rfl rfl hF.1 (hK _ _ (NewT.refl _) rfl))
      · exact fun a wx hT hF K hK => rely_wp rfl (opr_fldCl8 rfl hF.1 (hK _ _ (NewT.refl _) rfl))
      · exact fun a wx hT hF K hK => rely_wp rfl (opr_ldI (hT.row Rg1.out) (by decide) rfl rfl hF.1 (hK _ _ (NewT.refl _) rfl))
      · exact fun a wx hT hF K hK => rely_wp rfl (opr_fldCl9 rfl hF.1 (hK _ _ (NewT.refl _) rfl))
      · exact fun a wx hT hF K hK => rely_wp rfl (opr_ldH (hT.row Rg1.out) (by decide) (clF_tag _) rfl hF.1 (hK _ _ (NewT.refl _) rfl))
      · intro a wx hT hF K hK
        obtain ⟨f10, f11, f13, f15, f17, f19, f21, f23, f25, _⟩ := hF
        have f10 : a.tmps.getD 10 undef = .int .i64 (c.saga) := f10
        have f11 : a.tmps.getD 11 undef = .int .i64 (seq) := f11
        have f13 : a.tmps.getD 13 undef = .int .i64 (c.step) := f13
        have f15 : a.tmps.getD 15 undef = .int .i64 (c.tr) := f15
        have f17 : a.tmps.getD 17 undef = .bool (c.back) := f17
        have f19 : a.tmps.getD 19 undef = .bool (c.good) := f19
        have f21 : a.tmps.getD 21 undef = .int .i64 (c.part) := f21
        have f23 : a.tmps.getD 23 undef = .int .i64 (c.ep) := f23
        have f25 : a.tmps.getD 25 undef = .agg (rowA 32 (bF (c.tag))) := f25
        refine rely_wp rfl ?_
        exact opr_build (pv := #[(0, .int .i64 (3)), (1, .int .i64 (c.saga)), (2, .int .i64 (seq)), (3, .int .i64 (c.step)), (4, .int .i64 (c.tr)), (5, .bool (c.back)), (6, .bool (c.good)), (8, .int .i64 (c.part)), (9, .int .i64 (c.ep)), (10, .agg (rowA 32 (bF (c.tag))))]) rfl (by simp only [List.map_toArray, List.map_cons, List.map_nil, eval_tmp, eval_const, f10, f11, f13, f15, f17, f19, f21, f23, f25]) (build_recC c seq wx) (hK _ _ (NewT.refl _) rfl)
      · intro w3 k3
        iterate 18 (intro u h; obtain rfl := Eq.symm (h (by simp)); clear h)
        refine relyEnd_nil rfl ?_
        simp only [Act.put, List.setIfInBounds_toArray, List.set_cons_zero, List.set_cons_succ]
        refine wpList_plain rfl (fun K hK => ?_)
        refine opr_putm (g := g2) (o0 := 0) (m := 109) (f := recF ({ zR with kind := 3, saga := c.saga, seq := seq, step := c.step, tr := c.tr, back := c.back, good := c.good, part := c.part, epoch := c.ep, tag := c.tag } : Rc) (.slice none 0 0) (.slice none 0 0)) (F := recF ({ zR with kind := 3, saga := c.saga, seq := seq, step := c.step, tr := c.tr, back := c.back, good := c.good, part := c.part, epoch := c.ep, tag := c.tag } : Rc) (.slice none 0 0) (.slice none 0 0)) rfl rfl rfl (k3.row Rg2.out) (by decide) info_rec (recF_one _ _ _ rfl rfl) (put_allN _ _ _) ?_
        intro W9 hR9 rr9
        refine hK _ _ ?_
        clear hK K
        refine wpList_end rfl ?_
        simp only [Act.put, List.setIfInBounds_toArray, List.set_cons_zero, List.set_cons_succ]
        go_simp
        go_wp2
        exact bodyPost_ret (results_agg rfl _ rfl rr9 Tryd.underlying51 rfl info_rec) rfl ⟨_, rfl, NewT.rt (NewT.trans _ _ _ HM.out k3) hR9 (by have := HG.out; omega), by show RecV _ _ _; rw [HE.out]; exact ⟨(.slice none 0 0), (.slice none 0 0), rfl, rdP_nil _, rdV_nil _ _⟩⟩
end Go.Proofs.YtchpmdcacpjojaaDoor
/- Package part: whether a call is its; its epoch; what it answers. -/
namespace Go.Proofs.YtchpmdcacpjojaaDoor
open Go Go.RowKit
set_option maxRecDepth 8000
set_option linter.all false
set_option maxHeartbeats 1000000 in
theorem takes_cv (c : Cl) {g m : Nat} {n need e : Int} {pv wv : Value} (w : World) (hr : w.rowIs g 67 6 (pyF n pv wv need e (.map (some m)))) : Cv 28 #[.pointer (some ⟨g, 0, none⟩), .agg (rowA 41 (clF c))] w (.eq (.bool (itsB n c))) := by
  unfold Cv
  have HR := Lib.hid hr
  clear hr
  go_enter Tryd.func28, Tryd.ntmps28
  go_upto_region 1 with fail
  have r_g1 := rowIs_box w 34 41 (clF c)
  have hN : NewT w (w.alloc (.cells (rowA 41 (clF c)) 34)) := NewT.alloc _ _
  change Code.wp _ _ _ _ (w.alloc (.cells (rowA 41 (clF c)) 34))
  generalize (w.alloc (.cells (rowA 41 (clF c)) 34)) = W0 at r_g1 hN ⊢
  obtain ⟨g1, h_g1⟩ : ∃ g_, w.heap.size = g_ := ⟨_, rfl⟩
  have HG : Hid (w.heap.size ≤ g1) := Lib.hid (by omega)
  rw [h_g1] at r_g1
  simp only [h_g1]
  have Rg1 := Lib.hid r_g1
  have HM := Lib.hid hN
  clear r_g1 hN h_g1
  have Rg := Lib.hid (HM.out.row HR.out)
  go_upto_region 1 with fail
  obtain ⟨q1_1, Q1_1⟩ : ∃ bq_, (((!c.ans) && (c.part == n)) && (inR c.saga 0 11)) = bq_ := ⟨_, rfl⟩
  obtain ⟨q2_1, Q2_1⟩ : ∃ bq_, ((q1_1 && (inR c.step 0 5)) && (inR c.kind 1 3)) = bq_ := ⟨_, rfl⟩
  refine wp_region_rely (NewT) [SV.eq (.pointer (some ⟨g1, 6, none⟩)), SV.eq (.bool (c.ans)), SV.eq (.bool (!c.ans)), SV.eq (.bool (!c.ans)), svIf (!c.ans) (SV.eq (.pointer (some ⟨g1, 4, none⟩))), svIf (!c.ans) (SV.eq (.int .i64 (c.part))), svIf (!c.ans) (SV.eq (.pointer (some ⟨g, 0, none⟩))), svIf (!c.ans) (SV.eq (.pointer (some ⟨g, 0, none⟩))), svIf (!c.ans) (SV.eq (.pointer (some ⟨g, 0, none⟩))), svIf (!c.ans) (SV.eq (.int .i64 (n))), svIf (!c.ans) (SV.eq (.bool (c.part == n))), SV.eq (.bool ((!c.ans) && (c.part == n))), SV.eq (.bool ((!c.ans) && (c.part == n))), svIf ((!c.ans) && (c.part == n)) (SV.eq (.pointer (some ⟨g1, 0, none⟩))), svIf ((!c.ans) && (c.part == n)) (SV.eq (.int .i64 (c.saga))), svIf ((!c.ans) && (c.part == n)) (SV.eq (.bool (inR c.saga 0 11))), SV.eq (.bool (q1_1)), SV.eq (.bool (q1_1)), svIf q1_1 (SV.eq (.pointer (some ⟨g1, 1, none⟩))), svIf q1_1 (SV.eq (.int .i64 (c.step))), svIf q1_1 (SV.eq (.bool (inR c.step 0 5))), SV.eq (.bool (q1_1 && (inR c.step 0 5))), SV.eq (.bool (q1_1 && (inR c.step 0 5))), svIf (q1_1 && (inR c.step 0 5)) (SV.eq (.pointer (some ⟨g1, 5, none⟩))), svIf (q1_1 && (inR c.step 0 5)) (SV.eq (.int .i64 (c.kind))), svIf (q1_1 && (inR c.step 0 5)) (SV.eq (.bool (inR c.kind 1 3))), SV.eq (.bool (q2_1)), SV.eq (.bool (q2_1)), svIf q2_1 (SV.eq (.pointer (some ⟨g1, 2, none⟩))), svIf q2_1 (SV.eq (.int .i64 (c.tr))), svIf q2_1 (SV.eq (.bool (inR c.tr 1 9))), SV.eq (.bool (q2_1 && (inR c.tr 1 9)))] [([(3, none)], none), ([(5, some 0)], none), ([(6, some 1)], none), ([(7, some 2)], none), ([(3, none), (8, some 3)], some (8, true)), ([(9, some 4), (8, some 3)], some (8, true)), ([(0, none), (8, some 3)], some (8, true)), ([(11, some 6), (8, some 3)], some (8, true)), ([(12, some 7), (8, some 3)], some (8, true)), ([(13, some 8), (8, some 3)], some (8, true)), ([(10, some 5), (14, some 9), (8, some 3)], some (8, true)), ([(8, some 3), (15, some 10)], none), ([(16, some 11)], none), ([(3, none), (17, some 12)], some (17, true)), ([(18, some 13), (17, some 12)], some (17, true)), ([(19, some 14), (17, some 12)], some (17, true)), ([(17, some 12), (20, some 15)], none), ([(21, some 16)], none), ([(3, none), (22, some 17)], some (22, true)), ([(23, some 18), (22, some 17)], some (22, true)), ([(24, some 19), (22, some 17)], some (22, true)), ([(22, some 17), (25, some 20)], none), ([(26, some 21)], none), ([(3, none), (27, some 22)], some (27, true)), ([(28, some 23), (27, some 22)], some (27, true)), ([(29, some 24), (27, some 22)], some (27, true)), ([(27, some 22), (30, some 25)], none), ([(31, some 26)], none), ([(3, none), (32, some 27)], some (32, true)), ([(33, some 28), (32, some 27)], some (32, true)), ([(34, some 29), (32, some 27)], some (32, true)), ([(32, some 27), (35, some 30)], none)] 37 rfl (by kernel_rfl) rfl (by kernel_rfl) (by kernel_rfl) rfl NewT.trans (NewT.drew _) (Nat.le_of_ble_eq_true rfl) ⟨?_, ?_, ?_, ?_, ?_, ?_, ?_, ?_, ?_, ?_, ?_, ?_, ?_, ?_, ?_, ?_, ?_, ?_, ?_, ?_, ?_, ?_, ?_, ?_, ?_, ?_, ?_, ?_, ?_, ?_, ?_, ?_, trivial⟩ ?_
  · exact fun a wx hT hF K hK => rely_wp rfl (opr_fldCl6 rfl hF.1 (hK _ _ (NewT.refl _) rfl))
  · exact fun a wx hT hF K hK => rely_wp rfl (opr_ldQ (hT.row Rg1.out) (by decide) rfl rfl hF.1 (hK _ _ (NewT.refl _) rfl))
  · exact fun a wx hT hF K hK => rely_wp rfl (opr_not rfl hF.1 (hK _ _ (NewT.refl _) rfl))
  · exact fun a wx hT hF K hK => rely_wp rfl (opr_move (.inl rfl) (hK _ _ (NewT.refl _) hF.1))
  · exact fun a wx hT hF K hK => rely_if (rely_gt hF.2.1) (NewT.refl _) hK fun hE hK => opr_fldCl4 rfl hF.1 (hK _ _ (NewT.refl _) rfl)
  · exact fun a wx hT hF K hK => rely_if (rely_gt hF.2.1) (NewT.refl _) hK fun hE hK => opr_ldI (hT.row Rg1.out) (by decide) rfl rfl (hF.1 hE) (hK _ _ (NewT.refl _) rfl)
  · exact fun a wx hT hF K hK => rely_if (rely_gt hF.2.1) (NewT.refl _) hK fun hE hK => opr_move (.inl rfl) (hK _ _ (NewT.refl _) hF.1)
  · exact fun a wx hT hF K hK => rely_if (rely_gt hF.2.1) (NewT.refl _) hK fun hE hK => opr_nilc rfl (hF.1 hE) (hK _ _ (NewT.refl _) rfl)
  · exact fun a wx hT hF K hK => rely_if (rely_gt hF.2.1) (NewT.refl _) hK fun hE hK => opr_fldPy0 rfl (hF.1 hE) (hK _ _ (NewT.refl _) rfl)
  · exact fun a wx hT hF K hK => rely_if (rely_gt hF.2.1) (NewT.refl _) hK fun hE hK => opr_ldI (hT.row Rg.out) (by decide) rfl rfl (hF.1 hE) (hK _ _ (NewT.refl _) rfl)
  · exact fun a wx hT hF K hK => rely_if (rely_gt hF.2.2.1) (NewT.refl _) hK fun hE hK => opr_cmp (b := c.part == n) (.inl ⟨rfl, rfl⟩) Tryd.underlying3 rfl (hF.1 hE) (hF.2.1 hE) (hK _ _ (NewT.refl _) rfl)
  · exact fun a wx hT hF K hK => rely_wp rfl (opr_pick_b rfl hF.1 (fun hb => hK _ _ (NewT.refl _) (pk_and1 (hF.2.1 hb) hb)) (fun hb => hK _ _ (NewT.refl _) (pk_and0 hb)))
  · exact fun a wx hT hF K hK => rely_wp rfl (opr_move (.inl rfl) (hK _ _ (NewT.refl _) hF.1))
  · exact fun a wx hT hF K hK => rely_if (rely_gt hF.2.1) (NewT.refl _) hK fun hE hK => opr_fldCl0 rfl hF.1 (hK _ _ (NewT.refl _) rfl)
  · exact fun a wx hT hF K hK => rely_if (rely_gt hF.2.1) (NewT.refl _) hK fun hE hK => opr_ldI (hT.row Rg1.out) (by decide) rfl rfl (hF.1 hE) (hK _ _ (NewT.refl _) rfl)
  · exact fun a wx hT hF K hK => rely_if (rely_gt hF.2.1) (NewT.refl _) hK fun hE hK => opr_cv (pWithin_cv c.saga 0 11 wx) rfl Tryd.func25 (by kernel_rfl) (by kernel_rfl) (evs3 (hF.1 hE) rfl rfl) hK
  · exact fun a wx hT hF K hK => rely_wp rfl (opr_pick_b rfl hF.1 (fun hb => hK _ _ (NewT.refl _) (pn_and1 Q1_1 (hF.2.1 hb) hb)) (fun hb => hK _ _ (NewT.refl _) (pn_and0 Q1_1 hb)))
  · exact fun a wx hT hF K hK => rely_wp rfl (opr_move (.inl rfl) (hK _ _ (NewT.refl _) hF.1))
  · exact fun a wx hT hF K hK => rely_if (rely_gt hF.2.1) (NewT.refl _) hK fun hE hK => opr_fldCl1 rfl hF.1 (hK _ _ (NewT.refl _) rfl)
  · exact fun a wx hT hF K hK => rely_if (rely_gt hF.2.1) (NewT.refl _) hK fun hE hK => opr_ldI (hT.row Rg1.out) (by decide) rfl rfl (hF.1 hE) (hK _ _ (NewT.refl _) rfl)
  · exact fun a wx hT hF K hK => rely_if (rely_gt hF.2.1) (NewT.refl _) hK fun hE hK => opr_cv (pWithin_cv c.step 0 5 wx) rfl Tryd.func25 (by kernel_rfl) (by kernel_rfl) (evs3 (hF.1 hE) rfl rfl) hK
  · exact fun a wx hT hF K hK => rely_wp rfl (opr_pick_b rfl hF.1 (fun hb => hK _ _ (NewT.refl _) (pk_and1 (hF.2.1 hb) hb)) (fun hb => hK _ _ (NewT.refl _) (pk_and0 hb)))
  · exact fun a wx hT hF K hK => rely_wp rfl (opr_move (.inl rfl) (hK _ _ (NewT.refl _) hF.1))
  · exact fun a wx hT hF K hK => rely_if (rely_gt hF.2.1) (NewT.refl _) hK fun hE hK => opr_fldCl5 rfl hF.1 (hK _ _ (NewT.refl _) rfl)
  · exact fun a wx hT hF K hK => rely_if (rely_gt hF.2.1) (NewT.refl _) hK fun hE hK => opr_ldI (hT.row Rg1.out) (by decide) rfl rfl (hF.1 hE) (hK _ _ (NewT.refl _) rfl)
  · exact fun a wx hT hF K hK => rely_if (rely_gt hF.2.1) (NewT.refl _) hK fun hE hK => opr_cv (pWithin_cv c.kind 1 3 wx) rfl Tryd.func25 (by kernel_rfl) (by kernel_rfl) (evs3 (hF.1 hE) rfl rfl) hK
  · exact fun a wx hT hF K hK => rely_wp rfl (opr_pick_b rfl hF.1 (fun hb => hK _ _ (NewT.refl _) (pn_and1 Q2_1 (hF.2.1 hb) hb)) (fun hb => hK _ _ (NewT.refl _) (pn_and0 Q2_1 hb)))
  · exact fun a wx hT hF K hK => rely_wp rfl (opr_move (.inl rfl) (hK _ _ (NewT.refl _) hF.1))
  · exact fun a wx hT hF K hK => rely_if (rely_gt hF.2.1) (NewT.refl _) hK fun hE hK => opr_fldCl2 rfl hF.1 (hK _ _ (NewT.refl _) rfl)
  · exact fun a wx hT hF K hK => rely_if (rely_gt hF.2.1) (NewT.refl _) hK fun hE hK => opr_ldI (hT.row Rg1.out) (by decide) rfl rfl (hF.1 hE) (hK _ _ (NewT.refl _) rfl)
  · exact fun a wx hT hF K hK => rely_if (rely_gt hF.2.1) (NewT.refl _) hK fun hE hK => opr_cv (pWithin_cv c.tr 1 9 wx) rfl Tryd.func25 (by kernel_rfl) (by kernel_rfl) (evs3 (hF.1 hE) rfl rfl) hK
  · exact fun a wx hT hF K hK => rely_wp rfl (opr_pick_b rfl hF.1 (fun hb => hK _ _ (NewT.refl _) (pk_and1 (hF.2.1 hb) hb)) (fun hb => hK _ _ (NewT.refl _) (pk_and0 hb)))
  · intro w1 k1
    iterate 4 (intro u h; obtain rfl := Eq.symm (h (by simp)); clear h)
    iterate 7 (intro _ _)
    iterate 2 (intro u h; obtain rfl := Eq.symm (h (by simp)); clear h)
    iterate 3 (intro _ _)
    iterate 2 (intro u h; obtain rfl := Eq.symm (h (by simp)); clear h)
    iterate 3 (intro _ _)
    iterate 2 (intro u h; obtain rfl := Eq.symm (h (by simp)); clear h)
    iterate 3 (intro _ _)
    iterate 2 (intro u h; obtain rfl := Eq.symm (h (by simp)); clear h)
    iterate 3 (intro _ _)
    intro u h; obtain rfl := Eq.symm (h (by simp)); clear h
    subst Q2_1 Q1_1
    refine relyEnd_nil rfl ?_
    simp only [Act.put, List.setIfInBounds_toArray, List.set_cons_zero, List.set_cons_succ]
    refine opr_move (.inr rfl) ?_
    go_simp
    replace Rg1 := Lib.hid (k1.row Rg1.out)
    replace Rg := Lib.hid (k1.row Rg.out)
    replace HM := Lib.hid (NewT.trans _ _ _ HM.out k1)
    clear k1
    go_wp2
    go_ret
    exact ⟨_, rfl, HM.out, rfl⟩
set_option maxHeartbeats 1000000 in
theorem Epoch_cv {g m : Nat} {n need e : Int} {pv wv : Value} (w : World) (hr : w.rowIs g 67 6 (pyF n pv wv need e (.map (some m)))) : Cv 15 #[.pointer (some ⟨g, 0, none⟩)] w (.eq (.int .i64 e)) := by
  unfold Cv
  go_enter Tryd.func15, Tryd.ntmps15
  have Rg := Lib.hid hr
  have HM := Lib.hid (NewT.refl w)
  clear hr
  go_upto_region 1 with fail
  refine wp_region_steps0 NewT [SV.eq (.pointer (some ⟨g, 0, none⟩)), SV.eq (.bool false)] [([(0, none)], none), ([(3, some 0)], none)] 9 2 rfl rfl (by kernel_rfl) NewT.trans (NewT.refl _) (Nat.le_of_ble_eq_true rfl) ⟨?_, ?_, trivial⟩ ?_
  · exact fun a wx hT hF K hK => rely_wp rfl (opr_move (.inl rfl) (hK _ _ (NewT.refl _) hF.1))
  · exact fun a wx hT hF K hK => rely_wp rfl (opr_eqPn rfl hF.1 (hK _ _ (NewT.refl _) rfl))
  · intro w1 k1
    iterate 2 (intro u h; obtain rfl := Eq.symm (h (by simp)); clear h)
    refine relyEnd_nil rfl ?_
    refine wpList_end rfl ?_
    simp only [Act.put, List.setIfInBounds_toArray, List.set_cons_zero, List.set_cons_succ]
    go_simp
    replace Rg := Lib.hid (k1.row Rg.out)
    replace HM := Lib.hid (NewT.trans _ _ _ HM.out k1)
    clear k1
    go_upto_region 3 with fail
    refine wp_region_steps0 NewT [SV.eq (.pointer (some ⟨g, 0, none⟩)), SV.eq (.pointer (some ⟨g, 0, none⟩)), SV.eq (.pointer (some ⟨g, 4, none⟩)), SV.eq (.int .i64 (e)), SV.eq (.int .i64 (e))] [([(0, none)], none), ([(5, some 0)], none), ([(6, some 1)], none), ([(7, some 2)], none), ([(8, some 3)], none)] 9 5 rfl rfl (by kernel_rfl) NewT.trans (NewT.refl _) (Nat.le_of_ble_eq_true rfl) ⟨?_, ?_, ?_, ?_, ?_, trivial⟩ ?_
    · exact fun a wx hT hF K hK => rely_wp rfl (opr_move (.inl rfl) (hK _ _ (NewT.refl _) hF.1))
    · exact fun a wx hT hF K hK => rely_wp rfl (opr_nilc rfl hF.1 (hK _ _ (NewT.refl _) rfl))
    · exact fun a wx hT hF K hK => rely_wp rfl (opr_fldPy2 rfl hF.1 (hK _ _ (NewT.refl _) rfl))
    · exact fun a wx hT hF K hK => rely_wp rfl (opr_ldI (hT.row Rg.out) (by decide) rfl rfl hF.1 (hK _ _ (NewT.refl _) rfl))
    · exact fun a wx hT hF K hK => rely_wp rfl (opr_move (.inr rfl) (hK _ _ (NewT.refl _) hF.1))
    · intro w2 k2
      iterate 5 (intro u h; obtain rfl := Eq.symm (h (by simp)); clear h)
      refine relyEnd_nil rfl ?_
      refine wpList_end rfl ?_
      simp only [Act.put, List.setIfInBounds_toArray, List.set_cons_zero, List.set_cons_succ]
      go_simp
      replace Rg := Lib.hid (k2.row Rg.out)
      replace HM := Lib.hid (NewT.trans _ _ _ HM.out k2)
      clear k2
      go_wp2
      go_ret
      exact ⟨_, rfl, HM.out, rfl⟩
def ansK (c : Cl) (good : Bool) (k : Nat) : Cl := if k = 0 then c else if k = 1 then { c with ans := true } else { c with ans := true, good := good }
set_option maxHeartbeats 2000000 in
theorem answer_cv {kf : Hs → List Int → Hs} {tg : Hs → Hs → Hs} {pf : Int → Hs → Hs} (hX : KeyH kf tg pf) (c : Cl) (good : Bool) {g m : Nat} {n need e : Int} {pv wv : Value} {ps ws : List Hs} (w : World) (hT : Tables w) (hr : w.rowIs g 67 6 (pyF n pv wv need e (.map (some m)))) (hp : RdH w pv ps) (hw : RdH w wv ws) : Cv 30 #[.pointer (some ⟨g, 0, none⟩), .agg (rowA 41 (clF c)), .bool good] w (.eq (.agg (rowA 41 (clF (ansC kf ps ws need e c good))))) := by
  unfold Cv
  have HR := Lib.hid hr
  have HTT := Lib.hid hT
  have HPP := Lib.hid hp
  have HWW := Lib.hid hw
  clear hr hT hp hw
  go_enter Tryd.func30, Tryd.ntmps30
  go_upto_region 1 with fail
  have r_g1 := (rowIs_box w 34 41 (clF c)).alloc (.cells (rowA 41 (clF zC)) 34)
  have r_g2 := rowIs_box (w.alloc (.cells (rowA 41 (clF c)) 34)) 34 41 (clF zC)
  rw [World.size_alloc] at r_g2
  have hN : NewT w ((w.alloc (.cells (rowA 41 (clF c)) 34)).alloc (.cells (rowA 41 (clF zC)) 34)) := (NewT.trans _ _ _ (NewT.alloc _ _) (NewT.alloc _ _))
  change Code.wp _ _ _ _ ((w.alloc (.cells (rowA 41 (clF c)) 34)).alloc (.cells (rowA 41 (clF zC)) 34))
  generalize ((w.alloc (.cells (rowA 41 (clF c)) 34)).alloc (.cells (rowA 41 (clF zC)) 34)) = W0 at r_g1 r_g2 hN ⊢
  obtain ⟨g1, h_g1⟩ : ∃ g_, w.heap.size = g_ := ⟨_, rfl⟩
  obtain ⟨g2, h_g2⟩ : ∃ g_, w.heap.size + 1 = g_ := ⟨_, rfl⟩
  have HG : Hid (w.heap.size ≤ g1 ∧ g1 < g2) := Lib.hid (by omega)
  rw [h_g1] at r_g1
  rw [h_g2] at r_g2
  try rw [h_g2]
  simp only [h_g1]
  have Rg1 := Lib.hid r_g1
  have Rg2 := Lib.hid r_g2
  have HM := Lib.hid hN
  clear r_g1 r_g2 hN h_g1 h_g2
  have Rg := Lib.hid (HM.out.row HR.out)
  have HNE : Hid (g ≠ g1) := Lib.hid (by have := HR.out.lt; have := HG.out; omega)
  have HT := Lib.hid (HM.out.tables HTT.out)
  have HP := Lib.hid (HM.out.hs HPP.out)
  have HW := Lib.hid (HM.out.hs HWW.out)
  refine wp_region_relyP (RT g1) (fun k w => w.rowIs g1 34 41 (clF (ansK c good k))) [SV.eq (.bool (good)), SV.eq (.pointer (some ⟨g, 0, none⟩)), SV.eq (.pointer (some ⟨g, 0, none⟩)), SV.eq (.pointer (some ⟨g, 4, none⟩)), SV.eq (.int .i64 (e)), SV.eq (.pointer (some ⟨g1, 6, none⟩)), SV.any, SV.eq (.pointer (some ⟨g1, 7, none⟩)), SV.any, SV.eq (.pointer (some ⟨g1, 8, none⟩))] [([(2, none)], none), ([(0, none)], none), ([(8, some 1)], none), ([(9, some 2)], none), ([(10, some 3)], none), ([(4, none)], none), ([(12, some 5)], none), ([(4, none)], none), ([(13, some 7), (7, some 0)], none), ([(4, none)], none)] [none, none, none, none, none, none, some 0, none, some 1, none] [6, 8] 24 rfl (by kernel_rfl) rfl (by kernel_rfl) (by kernel_rfl) rfl (by kernel_rfl) RT.trans (RT.drew _ _) ((NewT.drew _).row Rg1.out) (Nat.le_of_ble_eq_true rfl) ⟨?_, ?_, ?_, ?_, ?_, ?_, ?_, ?_, ?_, ?_, trivial⟩ ?_
  · exact fun a wx hT hF K hK => have hK := fun v w' (hN : NewT wx w') hv => hK v w' (RT.new (Nat.lt_of_lt_of_le Rg1.out.lt hT.size) hN) (fun k h => (fun hj hn => hn.row hj) h hN) hv; rely_wp rfl (opr_move (.inl rfl) (hK _ _ (NewT.refl _) hF.1))
  · exact fun a wx hT hF K hK => have hK := fun v w' (hN : NewT wx w') hv => hK v w' (RT.new (Nat.lt_of_lt_of_le Rg1.out.lt hT.size) hN) (fun k h => (fun hj hn => hn.row hj) h hN) hv; rely_wp rfl (opr_move (.inl rfl) (hK _ _ (NewT.refl _) hF.1))
  · exact fun a wx hT hF K hK => have hK := fun v w' (hN : NewT wx w') hv => hK v w' (RT.new (Nat.lt_of_lt_of_le Rg1.out.lt hT.size) hN) (fun k h => (fun hj hn => hn.row hj) h hN) hv; rely_wp rfl (opr_nilc rfl hF.1 (hK _ _ (NewT.refl _) rfl))
  · exact fun a wx hT hF K hK => have hK := fun v w' (hN : NewT wx w') hv => hK v w' (RT.new (Nat.lt_of_lt_of_le Rg1.out.lt hT.size) hN) (fun k h => (fun hj hn => hn.row hj) h hN) hv; rely_wp rfl (opr_fldPy2 rfl hF.1 (hK _ _ (NewT.refl _) rfl))
  · exact fun a wx hT hF K hK => have hK := fun v w' (hN : NewT wx w') hv => hK v w' (RT.new (Nat.lt_of_lt_of_le Rg1.out.lt hT.size) hN) (fun k h => (fun hj hn => hn.row hj) h hN) hv; rely_wp rfl (opr_ldI (hT.row HNE.out Rg.out) (by decide) rfl rfl hF.1 (hK _ _ (NewT.refl _) rfl))
  · exact fun a wx hT hF K hK => have hK := fun v w' (hN : NewT wx w') hv => hK v w' (RT.new (Nat.lt_of_lt_of_le Rg1.out.lt hT.size) hN) (fun k h => (fun hj hn => hn.row hj) h hN) hv; rely_wp rfl (opr_fldCl6 rfl hF.1 (hK _ _ (NewT.refl _) rfl))
  · intro a wx hT hF hJ K hK
    obtain ⟨f12, _⟩ := hF
    have f12 : a.tmps.getD 12 undef = .pointer (some ⟨g1, 6, none⟩) := f12
    refine rely_wp rfl ?_
    refine opr_put1 (v := .bool true) (F := clF ({ c with ans := true })) rfl f12 rfl (show wx.rowIs g1 34 41 (clF c) from hJ) (by decide) info_bool rfl (cl_ans c true) ?_
    intro w' hT' hr'
    exact hK _ _ hT' hr' trivial
  · exact fun a wx hT hF K hK => have hK := fun v w' (hN : NewT wx w') hv => hK v w' (RT.new (Nat.lt_of_lt_of_le Rg1.out.lt hT.size) hN) (fun k h => (fun hj hn => hn.row hj) h hN) hv; rely_wp rfl (opr_fldCl7 rfl hF.1 (hK _ _ (NewT.refl _) rfl))
  · intro a wx hT hF hJ K hK
    obtain ⟨f13, f7, _⟩ := hF
    have f13 : a.tmps.getD 13 undef = .pointer (some ⟨g1, 7, none⟩) := f13
    have f7 : a.tmps.getD 7 undef = .bool (good) := f7
    refine rely_wp rfl ?_
    refine opr_put1 (v := .bool good) (F := clF ({ c with ans := true, good := good })) rfl f13 f7 (show wx.rowIs g1 34 41 (clF ({ c with ans := true })) from hJ) (by decide) info_bool rfl (cl_good { c with ans := true } good) ?_
    intro w' hT' hr'
    exact hK _ _ hT' hr' trivial
  · exact fun a wx hT hF K hK => have hK := fun v w' (hN : NewT wx w') hv => hK v w' (RT.new (Nat.lt_of_lt_of_le Rg1.out.lt hT.size) hN) (fun k h => (fun hj hn => hn.row hj) h hN) hv; rely_wp rfl (opr_fldCl8 rfl hF.1 (hK _ _ (NewT.refl _) rfl))
  · intro w1 k1 hJ
    iterate 6 (intro u h; obtain rfl := Eq.symm (h (by simp)); clear h)
    intro _ _
    intro u h; obtain rfl := Eq.symm (h (by simp)); clear h
    intro _ _
    intro u h; obtain rfl := Eq.symm (h (by simp)); clear h
    refine relyEnd_nil rfl ?_
    simp only [Act.put, List.setIfInBounds_toArray, List.set_cons_zero, List.set_cons_succ]
    refine opr_put1 (v := .int .i64 e) (F := clF (sayC e c good)) rfl rfl rfl (show World.rowIs _ g1 34 41 (clF ({ c with ans := true, good := good })) from hJ) (by decide) info_i1 rfl (cl_ep { c with ans := true, good := good } e) ?_
    intro w2 hT2 hr2
    go_simp
    have hRT := RT.trans _ _ _ k1 hT2
    clear k1 hT2
    have Rg1 := Lib.hid hr2
    replace Rg := Lib.hid (hRT.row HNE.out Rg.out)
    replace Rg2 := Lib.hid (hRT.row (by have := HG.out; omega) Rg2.out)
    have hN2 := HM.out.rt hRT (by have := HG.out; omega)
    have HT := Lib.hid (hN2.tables HTT.out)
    have HP := Lib.hid (hN2.hs HPP.out)
    have HW := Lib.hid (hN2.hs HWW.out)
    have HK : Hid (KeysV w2 (.agg (rowA 3 (keyF pv wv need))) ps ws need) := Lib.hid ⟨pv, wv, rfl, HP.out, HW.out⟩
    replace HM := Lib.hid hN2
    clear hr2 hRT hN2
    go_upto_region 2 with fail
    refine wp_region_rely (NewT) [SV.eq (.pointer (some ⟨g, 0, none⟩)), SV.eq (.pointer (some ⟨g, 0, none⟩)), SV.eq (.pointer (some ⟨g, 1, none⟩)), SV.eq ((.agg (rowA 3 (keyF pv wv need)))), SV.eq (.agg (rowA 41 (clF (sayC e c good)))), svRec (recC (sayC e c good) 0), SV.eq (.agg (rowA 32 (bF (recpH kf ps ws need (recC (sayC e c good) 0))))), SV.eq (.pointer (some ⟨g1, 9, none⟩))] [([(0, none)], none), ([(15, some 0)], none), ([(16, some 1)], none), ([(17, some 2)], none), ([(4, none)], none), ([(19, some 4)], none), ([(18, some 3), (20, some 5)], none), ([(4, none)], none)] 24 rfl (by kernel_rfl) rfl (by kernel_rfl) (by kernel_rfl) rfl NewT.trans (NewT.drew _) (Nat.le_of_ble_eq_true rfl) ⟨?_, ?_, ?_, ?_, ?_, ?_, ?_, ?_, trivial⟩ ?_
    · exact fun a wx hT hF K hK => rely_wp rfl (opr_move (.inl rfl) (hK _ _ (NewT.refl _) hF.1))
    · exact fun a wx hT hF K hK => rely_wp rfl (opr_nilc rfl hF.1 (hK _ _ (NewT.refl _) rfl))
    · exact fun a wx hT hF K hK => rely_wp rfl (opr_fldPy1 rfl hF.1 (hK _ _ (NewT.refl _) rfl))
    · exact fun a wx hT hF K hK => rely_wp rfl (opr_ldKp (hT.row Rg.out) rfl hF.1 (hK _ _ (NewT.refl _) rfl))
    · exact fun a wx hT hF K hK => rely_wp rfl (opr_ldCl (hT.row Rg1.out) rfl hF.1 (hK _ _ (NewT.refl _) rfl))
    · exact fun a wx hT hF K hK => rely_wp rfl (opr_cv (pReceipt_cv (sayC e c good) 0 wx) rfl Tryd.func20 (by kernel_rfl) (by kernel_rfl) (evs2 hF.1 rfl) hK)
    · exact fun a wx hT hF K hK => rely_wp rfl (opr_cv (Receipt_cv hX _ _ ps ws need (recC (sayC e c good) 0) wx (hT.tables HT.out) (hT.keysV HK.out) hF.2.1) rfl Tryd.func40 (by kernel_rfl) (by kernel_rfl) (evs2 hF.1 rfl) hK)
    · exact fun a wx hT hF K hK => rely_wp rfl (opr_fldCl9 rfl hF.1 (hK _ _ (NewT.refl _) rfl))
    · intro w3 k3
      iterate 5 (intro u h; obtain rfl := Eq.symm (h (by simp)); clear h)
      intro _ _
      iterate 2 (intro u h; obtain rfl := Eq.symm (h (by simp)); clear h)
      refine relyEnd_nil rfl ?_
      simp only [Act.put, List.setIfInBounds_toArray, List.set_cons_zero, List.set_cons_succ]
      refine opr_putm (g := g1) (o0 := 9) (m := 32) (f := bF (recpH kf ps ws need (recC (sayC e c good) 0))) (F := clF (ansC kf ps ws need e c good)) rfl rfl rfl (k3.row Rg1.out) (by decide) info31 (fun _ => rfl) (cl_tag (sayC e c good) _) ?_
      intro W3 hR3 rr3
      go_simp
      replace Rg1 := Lib.hid rr3
      replace Rg2 := Lib.hid (hR3.row (by have := HG.out; omega) (k3.row Rg2.out))
      replace HM := Lib.hid (NewT.rt (NewT.trans _ _ _ HM.out k3) hR3 (by have := HG.out; omega))
      clear hR3 rr3 k3 Rg
      go_upto_region 3 with fail
      refine wp_region_steps0 NewT [SV.eq (.agg (rowA 41 (clF (ansC kf ps ws need e c good))))] [([(4, none)], none)] 24 1 rfl rfl (by kernel_rfl) NewT.trans (NewT.refl _) (Nat.le_of_ble_eq_true rfl) ⟨?_, trivial⟩ ?_
      · exact fun a wx hT hF K hK => rely_wp rfl (opr_ldCl (hT.row Rg1.out) rfl hF.1 (hK _ _ (NewT.refl _) rfl))
      · intro w4 k4
        intro u h; obtain rfl := Eq.symm (h (by simp)); clear h
        refine relyEnd_nil rfl ?_
        simp only [Act.put, List.setIfInBounds_toArray, List.set_cons_zero, List.set_cons_succ]
        refine wpList_plain rfl (fun K hK => ?_)
        refine opr_putm (g := g2) (o0 := 0) (m := 41) (f := clF (ansC kf ps ws need e c good)) (F := clF (ansC kf ps ws need e c good)) rfl rfl rfl (k4.row Rg2.out) (by decide) info_cl (clF_one _) (put_allN _ _ _) ?_
        intro W4 hR4 rr4
        refine hK _ _ ?_
        clear hK K
        refine wpList_end rfl ?_
        simp only [Act.put, List.setIfInBounds_toArray, List.set_cons_zero, List.set_cons_succ]
        go_simp
        replace Rg2 := Lib.hid rr4
        replace Rg1 := Lib.hid (hR4.row (by have h_0 := HG.out; omega) (k4.row Rg1.out))
        replace HM := Lib.hid (NewT.rt (NewT.trans _ _ _ HM.out k4) hR4 (by have h_0 := HG.out; omega))
        clear k4 hR4 rr4
        go_wp2
        exact bodyPost_ret (results_agg rfl _ rfl Rg2.out Tryd.underlying34 rfl info_cl) rfl ⟨_, rfl, HM.out, rfl⟩
end Go.Proofs.YtchpmdcacpjojaaDoor
/- Package part: the closure that tells the answer. -/
namespace Go.Proofs.YtchpmdcacpjojaaDoor
open Go Go.RowKit
set_option maxRecDepth 8000
set_option linter.all false
set_option maxHeartbeats 1000000 in
theorem Take1_c {kf : Hs → List Int → Hs} {tg : Hs → Hs → Hs} {pf : Int → Hs → Hs} (hX : KeyH kf tg pf) {lo hi g gp gc gg ga : Nat} {n e : Int} {ps ws : List Hs} {need : Int} {L : List En} {c x : Cl} {good : Bool} (u : FrameMode) (w : World) (hT : Tables w) (h : PartAt w lo hi g n e ps ws need L) (h1 : w.rowIs gp 28 1 (fun _ => .pointer (some ⟨g, 0, none⟩))) (h2 : w.rowIs gc 34 41 (clF c)) (h3 : w.rowIs gg 4 1 (fun _ => .bool good)) (h4 : w.rowIs ga 34 41 (clF x)) :
    CallsD Tryd.prog 29 #[.pointer (some ⟨gp, 0, none⟩), .pointer (some ⟨gc, 0, none⟩), .pointer (some ⟨gg, 0, none⟩), .pointer (some ⟨ga, 0, none⟩)] u w fun ex u' w' => u' = u ∧ (ex = .returned (.tuple #[]) ∧ RT ga w w' ∧ w'.rowIs ga 34 41 (clF (ansC kf ps ws need e c good))) := by
  obtain ⟨m, pv, wv, hr, hp, hw, _⟩ := h.row
  have HTT := Lib.hid hT
  have Rg := Lib.hid hr
  have HPP := Lib.hid hp
  have HWW := Lib.hid hw
  have Rgp := Lib.hid h1
  have Rgc := Lib.hid h2
  have Rgg := Lib.hid h3
  have Rga := Lib.hid h4
  clear hT h hr hp hw h1 h2 h3 h4
  go_enter_d Tryd.func29, Tryd.ntmps29
  refine wp_region_steps0 NewT [SV.eq (.pointer (some ⟨g, 0, none⟩)), SV.eq (.agg (rowA 41 (clF c))), SV.eq (.bool (good)), SV.eq (.agg (rowA 41 (clF (ansC kf ps ws need e c good))))] [([(0, none)], none), ([(1, none)], none), ([(2, none)], none), ([(4, some 0), (5, some 1), (6, some 2)], none)] 8 4 rfl rfl (by kernel_rfl) NewT.trans (NewT.refl _) (Nat.le_of_ble_eq_true rfl) ⟨?_, ?_, ?_, ?_, trivial⟩ ?_
  · exact fun a wx hT hF K hK => rely_wp rfl (opr_ldPp (hT.row Rgp.out) (by decide) rfl rfl hF.1 (hK _ _ (NewT.refl _) rfl))
  · exact fun a wx hT hF K hK => rely_wp rfl (opr_ldCl (hT.row Rgc.out) rfl hF.1 (hK _ _ (NewT.refl _) rfl))
  · exact fun a wx hT hF K hK => rely_wp rfl (opr_ldQ (hT.row Rgg.out) (by decide) rfl rfl hF.1 (hK _ _ (NewT.refl _) rfl))
  · exact fun a wx hT hF K hK => rely_wp rfl (opr_cv (answer_cv hX c good wx (hT.tables HTT.out) (hT.row Rg.out) (hT.hs HPP.out) (hT.hs HWW.out)) rfl Tryd.func30 (by kernel_rfl) (by kernel_rfl) (evs3 hF.1 hF.2.1 hF.2.2.1) hK)
  · intro w1 k1
    iterate 4 (intro u h; obtain rfl := Eq.symm (h (by simp)); clear h)
    refine relyEnd_nil rfl ?_
    simp only [Act.put, List.setIfInBounds_toArray, List.set_cons_zero, List.set_cons_succ]
    refine wpList_plain rfl (fun K hK => ?_)
    refine opr_putm (g := ga) (o0 := 0) (m := 41) (f := clF (ansC kf ps ws need e c good)) (F := clF (ansC kf ps ws need e c good)) rfl rfl rfl (k1.row Rga.out) (by decide) info_cl (clF_one _) (put_allN _ _ _) ?_
    intro W9 hR9 rr9
    refine hK _ _ ?_
    clear hK K
    refine wpList_end rfl ?_
    simp only [Act.put, List.setIfInBounds_toArray, List.set_cons_zero, List.set_cons_succ]
    go_simp
    go_wp2
    go_end0
    exact ⟨rfl, RT.trans _ _ _ (RT.new Rga.out.lt k1) hR9, rr9⟩
end Go.Proofs.YtchpmdcacpjojaaDoor
/- A variable of one cell made, and stored into. No program is named here. -/
namespace Go.Proofs.YtchpmdcacpjojaaDoor
open Go Go.RowKit
set_option maxRecDepth 8000
set_option linter.all false
theorem wpList_new1 {P : Program} {ops : Array Oper} {rest : List Oper} {a : Act} {w : World} {Q : Exit → Act → World → Prop} {o1 o2 : Oper} {t : TypeId} {d0 : Nat} {y : Operand} {v v0 : Value} (hg1 : o1.guard = none) (hg2 : o2.guard = none) (h1 : o1.op = .alloc t) (hd : o1.dst = some d0) (h2 : o2.op = .store t (.tmp d0) y) (hd2 : o2.dst = none) (hlt : d0 < a.tmps.size)
    (hal : ∀ w : World, (Instr.alloc t true (.tuple #[])).run P w = .ok (.pointer (some ⟨w.heap.size, 0, none⟩)) (w.alloc (.cells (rowA 1 (fun _ => v0)) t))) (hi : (P.info? t).map (·.size) = some 1) (hone : v.oneCell' = true)
    (hy : (a.put (some d0) (.pointer (some ⟨w.heap.size, 0, none⟩))).eval y = v) (h : ∀ w', NewT w w' → w'.rowIs w.heap.size t 1 (fun _ => v) → wpList P ops Q rest (a.put (some d0) (.pointer (some ⟨w.heap.size, 0, none⟩))) w') : wpList P ops Q (o1 :: o2 :: rest) a w := by
  refine wpList_plain hg1 fun K hK => ?_
  obtain ⟨dst, op, type, pos, after, guard⟩ := o1
  simp only at h1 hd
  subst h1 hd
  refine opr_val (s := Instr.alloc t true (.tuple #[])) rfl (hal w) (hK _ _ ?_)
  have hr := rowIs_box w t 1 (fun _ => v0)
  refine wpList_put1 (o0 := 0) (n := 1) (F := fun _ => v) hg2 h2 hd2 (by rw [eval_tmp]; simp [Act.put, hlt]) hy hr (by decide) hi hone (fun i hi => by rw [if_pos (by omega)]) ?_
  intro w' hB hr'
  exact h w' (NewT.of ((NewT.alloc w _).out.trans (hB _ (Nat.le_refl _)))) hr'
end Go.Proofs.YtchpmdcacpjojaaDoor
/- A region that draws its order, some of whose operations turn a state one behind the other; the state may speak of the frame's slots (of variables that the region itself makes). No program is named here. -/
namespace Go.Proofs.YtchpmdcacpjojaaDoor
open Go Go.RowKit
set_option maxRecDepth 8000
set_option linter.all false

/-- One operation: it turns phase k into the next one (some k), or keeps whatever phase there is (none); a phase speaks of the frame too. -/
def relyStepA (P : Program) (Q : Exit → Act → World → Prop) (T : World → World → Prop) (V : List (SV T)) (J : Nat → Act → World → Prop) (a0 : Act) (w0 : World) (o : Oper) (dp : List (Tmp × Option Nat)) (g : Option (Tmp × Bool)) (c : SV T) : Option Nat → Prop
  | none => ∀ (a : Act) (w : World), T w0 w → relyFacts V a0 a w dp → ∀ K : Act → World → Prop, (∀ v w', T w w' → (∀ k, J k a w → J k (a.put o.dst v) w') → c.pred v w' → K (a.put o.dst v) w') →
    if relyGuard g a then o.wp P a w K Q else K (a.put o.dst undef) w
  | some k => ∀ (a : Act) (w : World), T w0 w → relyFacts V a0 a w dp → J k a w → ∀ K : Act → World → Prop, (∀ v w', T w w' → J (k + 1) (a.put o.dst v) w' → c.pred v w' → K (a.put o.dst v) w') →
    if relyGuard g a then o.wp P a w K Q else K (a.put o.dst undef) w
def relyAllA (P : Program) (Q : Exit → Act → World → Prop) (T : World → World → Prop) (V : List (SV T)) (J : Nat → Act → World → Prop) (a0 : Act) (w0 : World) : List Oper → Deps → List (SV T) → List (Option Nat) → Prop
  | [], _, _, _ => True
  | o :: r, (dp, g) :: D, c :: C, s :: S => relyStepA P Q T V J a0 w0 o dp g c s ∧ relyAllA P Q T V J a0 w0 r D C S
  | _, _, _, _ => False
section
variable {P : Program} {ops : Array Oper} {Q : Exit → Act → World → Prop} {T : World → World → Prop} {V : List (SV T)} {J : Nat → Act → World → Prop} {a0 : Act} {w0 : World} {n : Nat} {D : Deps} {S : List (Option Nat)} {path : List Nat} {init : List Oper} {last : Oper}
theorem relyAllA_at : ∀ (l : List Oper) (D : Deps) (C : List (SV T)) (S : List (Option Nat)) (k : Nat) (o : Oper) dp g, relyAllA P Q T V J a0 w0 l D C S → l[k]? = some o → D[k]? = some (dp, g) → relyStepA P Q T V J a0 w0 o dp g (C.getD k SV.any) (S.getD k none)
  | [], _, _, _, _, _, _, _, _, h, _ => by simp at h
  | x :: r, [], _, _, _, _, _, _, h, _, _ => h.elim
  | x :: r, y :: D, [], _, _, _, _, _, h, _, _ => h.elim
  | x :: r, y :: D, c :: C, [], _, _, _, _, h, _, _ => h.elim
  | x :: r, (dp, g) :: D, c :: C, s :: S, 0, o, dp', g', h, ho, hD => by
    simp at ho hD
    obtain ⟨rfl, rfl⟩ := hD
    subst ho
    exact h.1
  | x :: r, (dp, g) :: D, c :: C, s :: S, k + 1, o, dp', g', h, ho, hD => by
    have := relyAllA_at r D C S k o dp' g' h.2 (by simpa using ho) (by simpa using hD)
    simpa using this
/-- So many of the path's operations have come up. -/
structure PhInvA (path : List Nat) (J : Nat → Act → World → Prop) (listed : Array Bool) (a : Act) (w : World) (k : Nat) : Prop where
  le : k ≤ path.length
  done : ∀ j i, j < k → path[j]? = some i → listed.getD i false = true
  left : ∀ j i, k ≤ j → path[j]? = some i → listed.getD i false = false
  now : J k a w
theorem phA_other {listed : Array Bool} {a a' : Act} {w w' : World} {k i : Nat} (h : PhInvA path J listed a w k) (hi : i ∉ path) (hJ : J k a' w') : PhInvA path J (listed.setIfInBounds i true) a' w' k := by
  have hne : ∀ (j x : Nat), path[j]? = some x → i ≠ x := fun j x hx e => hi (e ▸ List.mem_of_getElem? hx)
  exact ⟨h.le, fun j x hj hx => by rw [getD_set_ne false (hne j x hx)]; exact h.done j x hj hx, fun j x hj hx => by rw [getD_set_ne false (hne j x hx)]; exact h.left j x hj hx, hJ⟩
theorem phA_own (hnd : path.Nodup) {listed : Array Bool} {a a' : Act} {w w' : World} {k i : Nat} (hlt : i < listed.size) (h : PhInvA path J listed a w k) (hi : path[k]? = some i) (hJ : J (k + 1) a' w') : PhInvA path J (listed.setIfInBounds i true) a' w' (k + 1) := by
  have hk : k < path.length := (List.getElem?_eq_some_iff.1 hi).1
  have hinj : ∀ (j x : Nat), path[j]? = some x → j ≠ k → i ≠ x := fun j x hx hjk e => by
    subst e
    obtain ⟨h1, h2⟩ := List.getElem?_eq_some_iff.1 hx
    obtain ⟨h3, h4⟩ := List.getElem?_eq_some_iff.1 hi
    exact hjk ((List.getElem_inj hnd).1 (h2.trans h4.symm))
  refine ⟨hk, fun j x hj hx => ?_, fun j x hj hx => ?_, hJ⟩
  · by_cases e : j = k
    · subst e
      rw [hi] at hx
      cases hx
      simp [hlt]
    · rw [getD_set_ne false (hinj j x hx e)]; exact h.done j x (by omega) hx
  · rw [getD_set_ne false (hinj j x hx (by omega))]; exact h.left j x (by omega) hx
theorem wpAny_relyA {Q2 : Exit → Act → World → Prop} (hQ : ∀ (o : Oper) (a : Act) (w : World) (K : Act → World → Prop), a.defers = a0.defers → o.wp P a w K Q2 → o.wp P a w K Q) (hsplit : ops.toList = init ++ [last]) (hn : a0.tmps.size = n) (hB : relyB ops n 0 init D = true) (hlast : lastB ops last init.length = true) (hg : last.guard = none) (ht : ∀ a b c : World, T a b → T b c → T a c)
    (hpath : pathB ops path = true) (hplace : placesB path S = true) (hSl : S.length = init.length) (hpl : ∀ i ∈ path, i < init.length)
    (hl : init.length ≤ V.length) (hA : relyAllA P Q2 T V J a0 w0 init D V S) (hE : ∀ w, T w0 w → relyEnd (fun _ a w => J path.length a w → last.wp P a w (fun a' w' => Q .normal a' w') Q) T init V a0 w) :
    ∀ (fuel : Nat) (listed : Array Bool) (a : Act) (w : World) (k : Nat), (unl ops listed).length = fuel → listed.getD init.length true = false → RelyInv ops T V a0 w0 listed a w → PhInvA path J listed a w k → wpAny P .any ops Q fuel listed a w := by
  obtain ⟨hlo, hsz, hpre⟩ := last_at hsplit
  simp only [lastB, Bool.and_eq_true] at hlast
  simp only [placesB, Bool.and_eq_true, decide_eq_true_eq] at hplace
  obtain ⟨hnd, hpos⟩ := hplace
  have hS : ∀ i, i < init.length → S.getD i none = path.findIdx? (· == i) := fun i hi => by
    have := List.all_eq_true.1 hpos i (List.mem_range.2 (by omega))
    simpa using this
  have hat : ∀ i o, init[i]? = some o → ∃ dp g, relyOne ops n i o dp g = true ∧ relyStepA P Q2 T V J a0 w0 o dp g (V.getD i SV.any) (path.findIdx? (· == i)) := fun i o hi => by
    obtain ⟨dp, g, hD, h1⟩ := relyB_at init D 0 i o hB hi
    rw [Nat.zero_add] at h1
    refine ⟨dp, g, h1, ?_⟩
    rw [← hS i (List.getElem?_eq_some_iff.1 hi).1]
    exact relyAllA_at _ _ _ _ i o dp g hA hi hD
  intro fuel
  induction fuel with
  | zero =>
    intro listed a w k hu hun inv _
    have : init.length ∈ unl ops listed := by
      unfold unl; rw [List.mem_filter]; exact ⟨List.mem_range.2 (by omega), by rw [hun]; rfl⟩
    rw [List.eq_nil_of_length_eq_zero hu] at this
    cases this
  | succ fuel ih =>
    intro listed a w k hu hun inv ph
    refine ⟨fun hr => ?_, fun i hi => ?_⟩
    · exfalso
      have all : ∀ i, i < init.length → listed.getD i false = true := fun i => by
        induction i using Nat.strongRecOn with
        | _ i ih =>
          intro hi
          cases hli : listed.getD i false with
          | true => rfl
          | false =>
            exfalso
            have hmem : i ∈ Region.ready .any ops listed := by
              rw [mem_ready]
              refine ⟨getD_in (by rw [inv.size]; omega) hli, init[i], hpre i _ (List.getElem?_eq_getElem hi), fun e he hb => ?_⟩
              obtain ⟨dp, g, h1, _⟩ := hat i init[i] (List.getElem?_eq_getElem hi)
              simp only [relyOne, Bool.and_eq_true] at h1
              have h2 := (Array.all_eq_true_iff_forall_mem.1 h1.1.1.2) e he
              simp only [hb, Bool.not_true, Bool.false_or, decide_eq_true_eq] at h2
              exact ih e.on h2 (by omega)
            rw [hr] at hmem
            cases hmem
      have hmem : init.length ∈ Region.ready .any ops listed := by
        rw [mem_ready]
        refine ⟨hun, last, hlo, fun e he hb => ?_⟩
        have h2 := (Array.all_eq_true_iff_forall_mem.1 hlast.2) e he
        simp only [hb, Bool.not_true, Bool.false_or, decide_eq_true_eq] at h2
        exact all e.on h2
      rw [hr] at hmem
      cases hmem
    · obtain ⟨h0, o, ho, hall⟩ := mem_ready.1 hi
      have hilt := (Array.getElem?_eq_some_iff.1 ho).1
      by_cases him : i = init.length
      · subst him
        have hol : o = last := Option.some.inj (ho.symm.trans hlo)
        subst hol
        have hdone : ∀ (d j : Nat), init.length - j = d → j < init.length → listed.getD j false = true := fun d => by
          induction d using Nat.strongRecOn with
          | _ d ihd =>
            intro j hd hj
            have h1 := List.all_eq_true.1 hlast.1 j (List.mem_range.2 hj)
            obtain ⟨t, ht1, ht2⟩ := List.any_eq_true.1 h1
            simp only [Bool.and_eq_true, decide_eq_true_eq] at ht2
            obtain ⟨ot, hot, e, he, hb, hon⟩ := Region.waitsFor_spec ht2.2
            have htle : t ≤ init.length := by have := List.mem_range.1 ht1; omega
            rw [← hon]
            by_cases htm : t = init.length
            · subst htm
              have : ot = o := Option.some.inj (hot.symm.trans ho)
              subst this
              exact hall e he hb
            · exact inv.closed t ot hot (ihd (init.length - t) (by omega) t rfl (by omega)) e he hb
        replace hdone : ∀ j, j < init.length → listed.getD j false = true := fun j hj => hdone _ j rfl hj
        have hk : k = path.length := by
          rcases Nat.lt_or_ge k path.length with h | h
          · exfalso
            have h1 := ph.left k path[k] (Nat.le_refl _) (List.getElem?_eq_getElem h)
            rw [hdone _ (hpl _ (List.getElem_mem h))] at h1
            cases h1
          · have := ph.le; omega
        subst hk
        have hJ := ph.now
        have h1 : J path.length a w → o.wp P a w (fun a' w' => Q .normal a' w') Q := rely_all (Q' := fun a w => J path.length a w → o.wp P a w (fun a' w' => Q .normal a' w') Q) inv
          (fun k o hk => ⟨hpre k o hk, hdone k (List.getElem?_eq_some_iff.1 hk).1⟩) (fun j hj => by
            rcases Nat.lt_or_ge j init.length with h | h
            · exact h
            · rcases Nat.eq_or_lt_of_le h with h | h
              · subst h; rw [getD_both hun] at hj; cases hj
              · have : listed.getD j false = false := by simp [Array.getElem?_eq_none (show listed.size ≤ j by rw [inv.size]; omega)]
                rw [this] at hj; cases hj) hl (hE w inv.now)
        have hK : ∀ a' w', Q .normal a' w' → wpAny P .any ops Q fuel (listed.setIfInBounds init.length true) a' w' := fun a' w' h => wpAny_done (ready_none fun j hj => by
          by_cases hj2 : j = init.length
          · subst hj2; simp [show init.length < listed.size by rw [inv.size]; exact hj]
          · exact getD_set_true (hdone j (by omega))) h _
        unfold wpOp
        simp only [hlo, Region.wanted, hg, if_true]
        exact .inl (Oper.wp_mono hK (h1 hJ))
      · have hi' : i < init.length := by omega
        have hio : init[i]? = some o := by
          have := hpre i init[i] (List.getElem?_eq_getElem hi')
          rw [ho] at this
          rw [List.getElem?_eq_getElem hi', Option.some.inj this]
        obtain ⟨dp, g, h1, hstep⟩ := hat i o hio
        obtain ⟨hfacts, hguard, next⟩ := rely_next hn ht ho h1 h0 hall inv
        have i0 : listed.getD i false = false := getD_both h0
        have hs : if relyGuard g a then o.wp P a w (fun a' w' => wpAny P .any ops Q fuel (listed.setIfInBounds i true) a' w') Q2 else wpAny P .any ops Q fuel (listed.setIfInBounds i true) (a.put o.dst undef) w := by
          cases hf : path.findIdx? (· == i) with
          | none =>
            rw [hf] at hstep
            have hni : i ∉ path := fun hm => by
              rw [List.findIdx?_eq_none_iff] at hf
              have := hf i hm
              simp at this
            exact hstep a w inv.now hfacts (fun a' w' => wpAny P .any ops Q fuel (listed.setIfInBounds i true) a' w') (fun v w' hT hJ hv => ih _ _ w' k (by have := unl_set inv.size h0; omega) (by rw [getD_set_ne true him]; exact hun) (next v w' hT hv) (phA_other ph hni (hJ k ph.now)))
          | some j =>
            rw [hf] at hstep
            have hpj : path[j]? = some i := by
              obtain ⟨h1, h2, _⟩ := List.findIdx?_eq_some_iff_getElem.1 hf
              rw [List.getElem?_eq_getElem h1]
              simpa using h2
            have hkj : k = j := by
              rcases Nat.lt_trichotomy j k with h | h | h
              · have := ph.done j i h hpj
                rw [i0] at this; cases this
              · exact h.symm
              · exfalso
                obtain ⟨j', rfl⟩ : ∃ j', j = j' + 1 := ⟨j - 1, by omega⟩
                have hlj : j' < path.length := by have := (List.getElem?_eq_some_iff.1 hpj).1; omega
                have hw := pathB_at path j' path[j'] i hpath (List.getElem?_eq_getElem hlj) hpj
                obtain ⟨oi, hoi, e, he, hb, hon⟩ := Region.waitsFor_spec hw
                have : oi = o := Option.some.inj (hoi.symm.trans ho)
                subst this
                have h2 := hall e he hb
                rw [hon, ph.left j' _ (by omega) (List.getElem?_eq_getElem hlj)] at h2
                cases h2
            subst hkj
            exact hstep a w inv.now hfacts ph.now (fun a' w' => wpAny P .any ops Q fuel (listed.setIfInBounds i true) a' w') (fun v w' hT hJ hv => ih _ _ w' (k + 1) (by have := unl_set inv.size h0; omega) (by rw [getD_set_ne true him]; exact hun) (next v w' hT hv) (phA_own hnd (by rw [inv.size]; exact hilt) ph hpj hJ))
        unfold wpOp
        simp only [ho, hguard]
        split
        · rename_i hw; rw [if_pos hw] at hs; exact .inl (hQ _ _ _ _ inv.defers hs)
        · rename_i hw; rw [if_neg hw] at hs; exact hs
/-- **A region that draws its order and turns a state step by step, of which the frame is part.** -/
theorem wp_region_relyA {id : Nat} {Q2 : Exit → Act → World → Prop} (hQ : ∀ (o : Oper) (a : Act) (w : World) (K : Act → World → Prop), a.defers = a0.defers → o.wp P a w K Q2 → o.wp P a w K Q) (T : World → World → Prop) (J : Nat → Act → World → Prop) (V : List (SV T)) (D : Deps) (S : List (Option Nat)) (path : List Nat) (n : Nat) (hla : ops.toList.getLast? = some last) (hm : P.follows .mixedOrders = true) (hn : a0.tmps.size = n) (hB : relyB ops n 0 ops.toList.dropLast D = true)
    (hlast : lastB ops last ops.toList.dropLast.length = true) (hg : last.guard = none) (hpath : (pathB ops path && placesB path S && decide (S.length = ops.toList.dropLast.length) && path.all fun i => decide (i < ops.toList.dropLast.length)) = true)
    (ht : ∀ a b c : World, T a b → T b c → T a c) (hd : T w0 w0.drew) (hJ : J 0 a0 w0.drew) (hl : ops.toList.dropLast.length ≤ V.length)
    (hA : relyAllA P Q2 T V J a0 w0 ops.toList.dropLast D V S) (hE : ∀ w, T w0 w → relyEnd (fun _ a w => J path.length a w → last.wp P a w (fun a' w' => Q .normal a' w') Q) T ops.toList.dropLast V a0 w) : (Code.region id ops true).wp P Q a0 w0 := by
  have hsplit := split_last hla
  obtain ⟨_, hsz, _⟩ := last_at hsplit
  simp only [Bool.and_eq_true, decide_eq_true_eq] at hpath
  obtain ⟨⟨⟨h1, h2⟩, h3⟩, h4⟩ := hpath
  refine wp_region_any hm ?_
  exact wpAny_relyA hQ hsplit hn hB hlast hg ht h1 h2 h3 (fun i hi => by simpa using List.all_eq_true.1 h4 i hi) hl hA hE ops.size _ a0 w0.drew 0 unl_start (by
    have hlt : ops.toList.dropLast.length < ops.size := by omega
    generalize ops.toList.dropLast.length = m at hlt
    simp [hlt]) (rely_start hd) ⟨Nat.zero_le _, fun j i hj => by omega, fun j i _ _ => getD_replicate_false .., hJ⟩
theorem wp_region_relyA0 {id : Nat} (T : World → World → Prop) (J : Nat → Act → World → Prop) (V : List (SV T)) (D : Deps) (S : List (Option Nat)) (path : List Nat) (n : Nat) (hla : ops.toList.getLast? = some last) (hm : P.follows .mixedOrders = true) (hn : a0.tmps.size = n) (hB : relyB ops n 0 ops.toList.dropLast D = true)
    (hlast : lastB ops last ops.toList.dropLast.length = true) (hg : last.guard = none) (hpath : (pathB ops path && placesB path S && decide (S.length = ops.toList.dropLast.length) && path.all fun i => decide (i < ops.toList.dropLast.length)) = true)
    (ht : ∀ a b c : World, T a b → T b c → T a c) (hd : T w0 w0.drew) (hJ : J 0 a0 w0.drew) (hl : ops.toList.dropLast.length ≤ V.length)
    (hA : relyAllA P Q T V J a0 w0 ops.toList.dropLast D V S) (hE : ∀ w, T w0 w → relyEnd (fun _ a w => J path.length a w → last.wp P a w (fun a' w' => Q .normal a' w') Q) T ops.toList.dropLast V a0 w) : (Code.region id ops true).wp P Q a0 w0 :=
  wp_region_relyA (fun _ _ _ _ _ h => h) T J V D S path n hla hm hn hB hlast hg hpath ht hd hJ hl hA hE
end
end Go.Proofs.YtchpmdcacpjojaaDoor
