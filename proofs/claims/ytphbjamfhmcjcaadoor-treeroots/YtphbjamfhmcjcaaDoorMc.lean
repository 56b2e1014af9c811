/- A region that draws its order, some of whose operations turn a state one behind the other (each waits for the one ahead): beside the conditions of single operations a statement on the world for each phase. No program is named here. -/
import Derived.Test.YtphbjamfhmcjcaaDoorMb
import Derived.Deep.Cut
import Derived.Test.YtphbjamfhmcjcaaDoorMa
import Derived.Sort.CutIn
set_option linter.all false
namespace Go.Proofs.YtphbjamfhmcjcaaDoor
open Go Go.RowKit
set_option maxRecDepth 8000
set_option linter.all false

/-- One operation: it turns phase k into the next one (some k), or keeps whatever phase there is (none). -/
def relyStepP (P : Program) (Q : Exit → Act → World → Prop) (T : World → World → Prop) (V : List (SV T)) (J : Nat → World → Prop) (a0 : Act) (w0 : World) (o : Oper) (dp : List (Tmp × Option Nat)) (g : Option (Tmp × Bool)) (c : SV T) : Option Nat → Prop
  | none => ∀ (a : Act) (w : World), T w0 w → relyFacts V a0 a w dp → ∀ K : Act → World → Prop, (∀ v w', T w w' → (∀ k, J k w → J k w') → c.pred v w' → K (a.put o.dst v) w') →
    if relyGuard g a then o.wp P a w K Q else K (a.put o.dst undef) w
  | some k => ∀ (a : Act) (w : World), T w0 w → relyFacts V a0 a w dp → J k w → ∀ K : Act → World → Prop, (∀ v w', T w w' → J (k + 1) w' → c.pred v w' → K (a.put o.dst v) w') →
    if relyGuard g a then o.wp P a w K Q else K (a.put o.dst undef) w
def relyAllP (P : Program) (Q : Exit → Act → World → Prop) (T : World → World → Prop) (V : List (SV T)) (J : Nat → World → Prop) (a0 : Act) (w0 : World) : List Oper → Deps → List (SV T) → List (Option Nat) → Prop
  | [], _, _, _ => True
  | o :: r, (dp, g) :: D, c :: C, s :: S => relyStepP P Q T V J a0 w0 o dp g c s ∧ relyAllP P Q T V J a0 w0 r D C S
  | _, _, _, _ => False
/-- Each of the path's operations waits for the one ahead. -/
def pathB (ops : Array Oper) : List Nat → Bool
  | i :: j :: r => Region.waitsFor .any ops j i && pathB ops (j :: r)
  | _ => true
def placesB (path : List Nat) (S : List (Option Nat)) : Bool := decide path.Nodup && (List.range S.length).all fun i => S.getD i none == path.findIdx? (· == i)
section
variable {P : Program} {ops : Array Oper} {Q : Exit → Act → World → Prop} {T : World → World → Prop} {V : List (SV T)} {J : Nat → World → Prop} {a0 : Act} {w0 : World} {n : Nat} {D : Deps} {S : List (Option Nat)} {path : List Nat} {init : List Oper} {last : Oper}
theorem pathB_at : ∀ (path : List Nat) (j i i' : Nat), pathB ops path = true → path[j]? = some i → path[j + 1]? = some i' → Region.waitsFor .any ops i' i = true
  | [], _, _, _, _, h, _ => by simp at h
  | [x], j, _, _, _, _, h => by simp at h
  | x :: y :: r, 0, i, i', h, h1, h2 => by
    simp only [pathB, Bool.and_eq_true] at h
    simp at h1 h2
    subst h1 h2
    exact h.1
  | x :: y :: r, j + 1, i, i', h, h1, h2 => by
    simp only [pathB, Bool.and_eq_true] at h
    exact pathB_at (y :: r) j i i' h.2 (by simpa using h1) (by simpa using h2)
theorem relyAllP_at : ∀ (l : List Oper) (D : Deps) (C : List (SV T)) (S : List (Option Nat)) (k : Nat) (o : Oper) dp g, relyAllP P Q T V J a0 w0 l D C S → l[k]? = some o → D[k]? = some (dp, g) → relyStepP P Q T V J a0 w0 o dp g (C.getD k SV.any) (S.getD k none)
  | [], _, _, _, _, _, _, _, _, h, _ => by simp at h
  | x :: r, [], _, _, _, _, _, _, h, _, _ => h.elim
  | x :: r, y :: D, [], _, _, _, _, _, h, _, _ => h.elim
  | x :: r, y :: D, c :: C, [], _, _, _, _, h, _, _ => h.elim
  | x :: r, (dp, g) :: D, c :: C, s :: S, 0, o, dp', g', h, ho, hD => by
    simp at ho hD
    obtain ⟨rfl, rfl⟩ := hD
    subst ho
    exact h.1
  | x :: r, (dp, g) :: D, c :: C, s :: S, k + 1, o, dp', g', h, ho, hD => by
    have := relyAllP_at r D C S k o dp' g' h.2 (by simpa using ho) (by simpa using hD)
    simpa using this
/-- So many of the path's operations have come up. -/
structure PhInv (path : List Nat) (J : Nat → World → Prop) (listed : Array Bool) (w : World) (k : Nat) : Prop where
  le : k ≤ path.length
  done : ∀ j i, j < k → path[j]? = some i → listed.getD i false = true
  left : ∀ j i, k ≤ j → path[j]? = some i → listed.getD i false = false
  now : J k w
theorem ph_other {listed : Array Bool} {w w' : World} {k i : Nat} (h : PhInv path J listed w k) (hi : i ∉ path) (hJ : J k w') : PhInv path J (listed.setIfInBounds i true) w' k := by
  have hne : ∀ (j x : Nat), path[j]? = some x → i ≠ x := fun j x hx e => hi (e ▸ List.mem_of_getElem? hx)
  exact ⟨h.le, fun j x hj hx => by rw [getD_set_ne false (hne j x hx)]; exact h.done j x hj hx, fun j x hj hx => by rw [getD_set_ne false (hne j x hx)]; exact h.left j x hj hx, hJ⟩
theorem ph_own (hnd : path.Nodup) {listed : Array Bool} {w w' : World} {k i : Nat} (hlt : i < listed.size) (h : PhInv path J listed w k) (hi : path[k]? = some i) (hJ : J (k + 1) w') : PhInv path J (listed.setIfInBounds i true) w' (k + 1) := by
  have hk : k < path.length := (List.getElem?_eq_some_iff.1 hi).1
  have hinj : ∀ (j x : Nat), path[j]? = some x → j ≠ k → i ≠ x := fun j x hx hjk e => by
    subst e
    obtain ⟨h1, h2⟩ := List.getElem?_eq_some_iff.1 hx
    obtain ⟨h3, h4⟩ := List.getElem?_eq_some_iff.1 hi
    exact hjk ((List.getElem_inj hnd).1 (h2.trans h4.symm))
  refine ⟨hk, fun j x hj hx => ?_, fun j x hj hx => ?_, hJ⟩
  · by_cases e : j = k
    · subst e
      rw [hi] at hx
      cases hx
      simp [hlt]
    · rw [getD_set_ne false (hinj j x hx e)]; exact h.done j x (by omega) hx
  · rw [getD_set_ne false (hinj j x hx (by omega))]; exact h.left j x (by omega) hx
theorem wpAny_relyP (hsplit : ops.toList = init ++ [last]) (hn : a0.tmps.size = n) (hB : relyB ops n 0 init D = true) (hlast : lastB ops last init.length = true) (hg : last.guard = none) (ht : ∀ a b c : World, T a b → T b c → T a c)
    (hpath : pathB ops path = true) (hplace : placesB path S = true) (hSl : S.length = init.length) (hpl : ∀ i ∈ path, i < init.length)
    (hl : init.length ≤ V.length) (hA : relyAllP P Q T V J a0 w0 init D V S) (hE : ∀ w, T w0 w → J path.length w → relyEnd (fun _ a w => last.wp P a w (fun a' w' => Q .normal a' w') Q) T init V a0 w) :
    ∀ (fuel : Nat) (listed : Array Bool) (a : Act) (w : World) (k : Nat), (unl ops listed).length = fuel → listed.getD init.length true = false → RelyInv ops T V a0 w0 listed a w → PhInv path J listed w k → wpAny P .any ops Q fuel listed a w := by
  obtain ⟨hlo, hsz, hpre⟩ := last_at hsplit
  simp only [lastB, Bool.and_eq_true] at hlast
  simp only [placesB, Bool.and_eq_true, decide_eq_true_eq] at hplace
  obtain ⟨hnd, hpos⟩ := hplace
  have hS : ∀ i, i < init.length → S.getD i none = path.findIdx? (· == i) := fun i hi => by
    have := List.all_eq_true.1 hpos i (List.mem_range.2 (by omega))
    simpa using this
  have hat : ∀ i o, init[i]? = some o → ∃ dp g, relyOne ops n i o dp g = true ∧ relyStepP P Q T V J a0 w0 o dp g (V.getD i SV.any) (path.findIdx? (· == i)) := fun i o hi => by
    obtain ⟨dp, g, hD, h1⟩ := relyB_at init D 0 i o hB hi
    rw [Nat.zero_add] at h1
    refine ⟨dp, g, h1, ?_⟩
    rw [← hS i (List.getElem?_eq_some_iff.1 hi).1]
    exact relyAllP_at _ _ _ _ i o dp g hA hi hD
  intro fuel
  induction fuel with
  | zero =>
    intro listed a w k hu hun inv _
    have : init.length ∈ unl ops listed := by
      unfold unl; rw [List.mem_filter]; exact ⟨List.mem_range.2 (by omega), by rw [hun]; rfl⟩
    rw [List.eq_nil_of_length_eq_zero hu] at this
    cases this
  | succ fuel ih =>
    intro listed a w k hu hun inv ph
    refine ⟨fun hr => ?_, fun i hi => ?_⟩
    · exfalso
      have all : ∀ i, i < init.length → listed.getD i false = true := fun i => by
        induction i using Nat.strongRecOn with
        | _ i ih =>
          intro hi
          cases hli : listed.getD i false with
          | true => rfl
          | false =>
            exfalso
            have hmem : i ∈ Region.ready .any ops listed := by
              rw [mem_ready]
              refine ⟨getD_in (by rw [inv.size]; omega) hli, init[i], hpre i _ (List.getElem?_eq_getElem hi), fun e he hb => ?_⟩
              obtain ⟨dp, g, h1, _⟩ := hat i init[i] (List.getElem?_eq_getElem hi)
              simp only [relyOne, Bool.and_eq_true] at h1
              have h2 := (Array.all_eq_true_iff_forall_mem.1 h1.1.1.2) e he
              simp only [hb, Bool.not_true, Bool.false_or, decide_eq_true_eq] at h2
              exact ih e.on h2 (by omega)
            rw [hr] at hmem
            cases hmem
      have hmem : init.length ∈ Region.ready .any ops listed := by
        rw [mem_ready]
        refine ⟨hun, last, hlo, fun e he hb => ?_⟩
        have h2 := (Array.all_eq_true_iff_forall_mem.1 hlast.2) e he
        simp only [hb, Bool.not_true, Bool.false_or, decide_eq_true_eq] at h2
        exact all e.on h2
      rw [hr] at hmem
      cases hmem
    · obtain ⟨h0, o, ho, hall⟩ := mem_ready.1 hi
      have hilt := (Array.getElem?_eq_some_iff.1 ho).1
      by_cases him : i = init.length
      · subst him
        have hol : o = last := Option.some.inj (ho.symm.trans hlo)
        subst hol
        have hdone : ∀ (d j : Nat), init.length - j = d → j < init.length → listed.getD j false = true := fun d => by
          induction d using Nat.strongRecOn with
          | _ d ihd =>
            intro j hd hj
            have h1 := List.all_eq_true.1 hlast.1 j (List.mem_range.2 hj)
            obtain ⟨t, ht1, ht2⟩ := List.any_eq_true.1 h1
            simp only [Bool.and_eq_true, decide_eq_true_eq] at ht2
            obtain ⟨ot, hot, e, he, hb, hon⟩ := Region.waitsFor_spec ht2.2
            have htle : t ≤ init.length := by have := List.mem_range.1 ht1; omega
            rw [← hon]
            by_cases htm : t = init.length
            · subst htm
              have : ot = o := Option.some.inj (hot.symm.trans ho)
              subst this
              exact hall e he hb
            · exact inv.closed t ot hot (ihd (init.length - t) (by omega) t rfl (by omega)) e he hb
        replace hdone : ∀ j, j < init.length → listed.getD j false = true := fun j hj => hdone _ j rfl hj
        have hk : k = path.length := by
          rcases Nat.lt_or_ge k path.length with h | h
          · exfalso
            have h1 := ph.left k path[k] (Nat.le_refl _) (List.getElem?_eq_getElem h)
            rw [hdone _ (hpl _ (List.getElem_mem h))] at h1
            cases h1
          · have := ph.le; omega
        subst hk
        have hJ := ph.now
        have h1 : o.wp P a w (fun a' w' => Q .normal a' w') Q := rely_all (Q' := fun a w => o.wp P a w (fun a' w' => Q .normal a' w') Q) inv
          (fun k o hk => ⟨hpre k o hk, hdone k (List.getElem?_eq_some_iff.1 hk).1⟩) (fun j hj => by
            rcases Nat.lt_or_ge j init.length with h | h
            · exact h
            · rcases Nat.eq_or_lt_of_le h with h | h
              · subst h; rw [getD_both hun] at hj; cases hj
              · have : listed.getD j false = false := by simp [Array.getElem?_eq_none (show listed.size ≤ j by rw [inv.size]; omega)]
                rw [this] at hj; cases hj) hl (hE w inv.now hJ)
        have hK : ∀ a' w', Q .normal a' w' → wpAny P .any ops Q fuel (listed.setIfInBounds init.length true) a' w' := fun a' w' h => wpAny_done (ready_none fun j hj => by
          by_cases hj2 : j = init.length
          · subst hj2; simp [show init.length < listed.size by rw [inv.size]; exact hj]
          · exact getD_set_true (hdone j (by omega))) h _
        unfold wpOp
        simp only [hlo, Region.wanted, hg, if_true]
        exact .inl (Oper.wp_mono hK h1)
      · have hi' : i < init.length := by omega
        have hio : init[i]? = some o := by
          have := hpre i init[i] (List.getElem?_eq_getElem hi')
          rw [ho] at this
          rw [List.getElem?_eq_getElem hi', Option.some.inj this]
        obtain ⟨dp, g, h1, hstep⟩ := hat i o hio
        obtain ⟨hfacts, hguard, next⟩ := rely_next hn ht ho h1 h0 hall inv
        have i0 : listed.getD i false = false := getD_both h0
        have hs : if relyGuard g a then o.wp P a w (fun a' w' => wpAny P .any ops Q fuel (listed.setIfInBounds i true) a' w') Q else wpAny P .any ops Q fuel (listed.setIfInBounds i true) (a.put o.dst undef) w := by
          cases hf : path.findIdx? (· == i) with
          | none =>
            rw [hf] at hstep
            have hni : i ∉ path := fun hm => by
              rw [List.findIdx?_eq_none_iff] at hf
              have := hf i hm
              simp at this
            exact hstep a w inv.now hfacts (fun a' w' => wpAny P .any ops Q fuel (listed.setIfInBounds i true) a' w') (fun v w' hT hJ hv => ih _ _ w' k (by have := unl_set inv.size h0; omega) (by rw [getD_set_ne true him]; exact hun) (next v w' hT hv) (ph_other ph hni (hJ k ph.now)))
          | some j =>
            rw [hf] at hstep
            have hpj : path[j]? = some i := by
              obtain ⟨h1, h2, _⟩ := List.findIdx?_eq_some_iff_getElem.1 hf
              rw [List.getElem?_eq_getElem h1]
              simpa using h2
            have hkj : k = j := by
              rcases Nat.lt_trichotomy j k with h | h | h
              · have := ph.done j i h hpj
                rw [i0] at this; cases this
              · exact h.symm
              · exfalso
                obtain ⟨j', rfl⟩ : ∃ j', j = j' + 1 := ⟨j - 1, by omega⟩
                have hlj : j' < path.length := by have := (List.getElem?_eq_some_iff.1 hpj).1; omega
                have hw := pathB_at path j' path[j'] i hpath (List.getElem?_eq_getElem hlj) hpj
                obtain ⟨oi, hoi, e, he, hb, hon⟩ := Region.waitsFor_spec hw
                have : oi = o := Option.some.inj (hoi.symm.trans ho)
                subst this
                have h2 := hall e he hb
                rw [hon, ph.left j' _ (by omega) (List.getElem?_eq_getElem hlj)] at h2
                cases h2
            subst hkj
            exact hstep a w inv.now hfacts ph.now (fun a' w' => wpAny P .any ops Q fuel (listed.setIfInBounds i true) a' w') (fun v w' hT hJ hv => ih _ _ w' (k + 1) (by have := unl_set inv.size h0; omega) (by rw [getD_set_ne true him]; exact hun) (next v w' hT hv) (ph_own hnd (by rw [inv.size]; exact hilt) ph hpj hJ))
        unfold wpOp
        simp only [ho, hguard]
        split
        · rename_i hw; rw [if_pos hw] at hs; exact .inl hs
        · rename_i hw; rw [if_neg hw] at hs; exact hs
/-- **A region that draws its order and turns a state step by step.** -/
theorem wp_region_relyP {id : Nat} (T : World → World → Prop) (J : Nat → World → Prop) (V : List (SV T)) (D : Deps) (S : List (Option Nat)) (path : List Nat) (n : Nat) (hla : ops.toList.getLast? = some last) (hm : P.follows .mixedOrders = true) (hn : a0.tmps.size = n) (hB : relyB ops n 0 ops.toList.dropLast D = true)
    (hlast : lastB ops last ops.toList.dropLast.length = true) (hg : last.guard = none) (hpath : (pathB ops path && placesB path S && decide (S.length = ops.toList.dropLast.length) && path.all fun i => decide (i < ops.toList.dropLast.length)) = true)
    (ht : ∀ a b c : World, T a b → T b c → T a c) (hd : T w0 w0.drew) (hJ : J 0 w0.drew) (hl : ops.toList.dropLast.length ≤ V.length)
    (hA : relyAllP P Q T V J a0 w0 ops.toList.dropLast D V S) (hE : ∀ w, T w0 w → J path.length w → relyEnd (fun _ a w => last.wp P a w (fun a' w' => Q .normal a' w') Q) T ops.toList.dropLast V a0 w) : (Code.region id ops true).wp P Q a0 w0 := by
  have hsplit := split_last hla
  obtain ⟨_, hsz, _⟩ := last_at hsplit
  simp only [Bool.and_eq_true, decide_eq_true_eq] at hpath
  obtain ⟨⟨⟨h1, h2⟩, h3⟩, h4⟩ := hpath
  refine wp_region_any hm ?_
  exact wpAny_relyP hsplit hn hB hlast hg ht h1 h2 h3 (fun i hi => by simpa using List.all_eq_true.1 h4 i hi) hl hA hE ops.size _ a0 w0.drew 0 unl_start (by
    have hlt : ops.toList.dropLast.length < ops.size := by omega
    generalize ops.toList.dropLast.length = m at hlt
    simp [hlt]) (rely_start hd) ⟨Nat.zero_le _, fun j i hj => by omega, fun j i _ _ => getD_replicate_false .., hJ⟩
end
end Go.Proofs.YtphbjamfhmcjcaaDoor
/- A frontier takes one more: Add. -/
namespace Go.Proofs.YtphbjamfhmcjcaaDoor
open Go Go.RowKit
set_option maxRecDepth 8000
set_option linter.all false
theorem Tables.rt {g : Nat} {w w' : World} (h : Tables w) (hg : 1 < g) (hR : RT g w w') : Tables w' :=
  ⟨Nat.lt_of_lt_of_le h.size hR.size, fun i hi => hR.keep.cell (a := ⟨1, i, none⟩) (by simp; omega) (h.k i hi), fun i hi => hR.keep.cell (a := ⟨0, i, none⟩) (by simp; omega) (h.f i hi)⟩
/-- How a frontier stands in a region that takes one off. -/
def StJ (g B : Nat) (n : Int) (v v' : Value) (S S' : List Hs) (k : Nat) (w : World) : Prop := (k = 0 → w.rowIs g 35 2 (frF n v) ∧ OwnH w B v S) ∧ (k ≠ 0 → w.rowIs g 35 2 (frF n v') ∧ OwnH w B v' S')
theorem StJ.new {g B : Nat} {n : Int} {v v' : Value} {S S' : List Hs} {k : Nat} {w w' : World} (h : StJ g B n v v' S S' k w) (hN : NewT w w') : StJ g B n v v' S S' k w' :=
  ⟨fun e => ⟨hN.row (h.1 e).1, (h.1 e).2.new hN⟩, fun e => ⟨hN.row (h.2 e).1, (h.2 e).2.new hN⟩⟩
theorem and1 (m : Nat) (h : m ≤ 100000) : bits .and .i64 (m : Int) 1 = ((m % 2 : Nat) : Int) := by
  have h1 : (BitVec.ofInt 64 (m : Int)).toNat = m := by
    rw [BitVec.ofInt_natCast, BitVec.toNat_ofNat]; exact Nat.mod_eq_of_lt (by omega)
  have h2 : (BitVec.ofInt 64 1).toNat = 1 := by decide
  show IntKind.i64.wrap ((BitVec.ofInt 64 (m : Int) &&& BitVec.ofInt 64 1).toNat : Int) = _
  rw [BitVec.toNat_and, h1, h2, Nat.and_one_is_mod, IntKind.wrap_i64]
  omega
set_option maxHeartbeats 400000 in
theorem Add_nil (d : Hs) (w : World) : Calls Tryd.prog 17 #[.pointer none, .agg (rowA 32 (bF d))] w fun e w' => e = .returned (.tuple #[]) ∧ NewT w w' := by
  go_enter Tryd.func17, Tryd.ntmps17
  go_wp2
  exact bodyPost_ret (results_none rfl _ _ _) rfl ⟨rfl, NewT.alloc _ _⟩
theorem own_late {g b B : Nat} {v : Value} {S : List Hs} {w w' : World} {hB : g < B} (h : OwnH w B v S) (hb : ∀ k, v.ownBlock = some k → k < b) (hR : RT b w w') : OwnH w' B v S := by
  refine ⟨h.1, ?_⟩
  rcases h.2 with h2 | ⟨k, cap, cur, hv, hk, hh, r⟩
  · exact .inl h2
  · have := hb k (by rw [hv]; rfl)
    exact .inr ⟨k, cap, cur, hv, hk, hR.keep.2 k _ (by simp; omega) hh rfl, r⟩
set_option maxHeartbeats 4000000 in
theorem Add_c {node : Hs → Hs → Hs} {z : Hs} (hX : TreeH node z) (g B n : Nat) (S : List Hs) (d : Hs) (w : World) (hT : Tables w) (h : FrAt w g B n S) (hg1 : 1 < g) (hn : S.length = onesN n) (hb : n ≤ 100000) :
    Calls Tryd.prog 17 #[.pointer (some ⟨g, 0, none⟩), .agg (rowA 32 (bF d))] w fun e w' => e = .returned (.tuple #[]) ∧ FT g B w w' ∧ FrAt w' g B ((n : Int) + 1) (addT node n d S.reverse).reverse := by
  have HT0 := Lib.hid hT
  obtain ⟨v, hg, ho, hB, hB2⟩ := h
  have c0 : w.cell? ⟨g, 0, none⟩ = some (.int .i64 (n : Int)) := hg.cell (i := 0) (by omega)
  have hgl := hg.lt
  have HG0 := Lib.hid hgl
  have HG1 := Lib.hid hg1
  have HNB := Lib.hid hb
  have HN0 := Lib.hid hn
  have HOB0 : Hid (∀ k, v.ownBlock = some k → k < w.heap.size) := Lib.hid (fun k hk => (ho.lt k hk).2)
  have HO0 := Lib.hid ho
  have HRG0 := Lib.hid hg
  have HB := Lib.hid hB
  have HB20 := Lib.hid hB2
  clear hT ho hB hB2 hg1 hg hb hn
  go_enter Tryd.func17, Tryd.ntmps17
  go_wp2
  clear c0
  go_loopw [4] (fun i wr => ∃ (m : Nat) (h' : Hs) (S' : List Hs), i = .int .i64 (m : Int) ∧ m ≤ 100000 ∧ S'.length = onesN m ∧ addT node m h' S'.reverse = addT node n d S.reverse ∧ RT g w wr ∧ wr.rowIs w.heap.size 24 32 (bF h') ∧ ∃ v', wr.rowIs g 35 2 (frF n v') ∧ OwnH wr B v' S' ∧ ∀ k, v'.ownBlock = some k → k < w.heap.size) (fun i _ => (intOf i).toNat)
  case atStart =>
    exact ⟨n, d, S, rfl, HNB.out, HN0.out, rfl, RT.new hgl (NewT.alloc _ _), rowIs_box w 24 32 (bF d), v, (NewT.alloc w _).row HRG0.out, HO0.out.new (NewT.alloc _ _), HOB0.out⟩
  case round =>
    clear HO0 HRG0 HOB0
    obtain ⟨m, h', S', rfl, hm, hS', hadd, hR, rH, v, rg, ho, hob⟩ := hrel
    have HT := Lib.hid (HT0.out.rt HG1.out hR)
    have hnew : w.heap.size < wr.heap.size := rH.lt
    have HNE : Hid (w.heap.size ≠ g) := Lib.hid (by omega)
    have HGL : Hid (g < wr.heap.size) := Lib.hid (by omega)
    have HB2 : Hid (B ≤ wr.heap.size) := Lib.hid (Nat.le_trans HB20.out (by omega))
    have HM := Lib.hid hm
    have hbit := and1 m hm
    by_cases hodd : m % 2 = 1
    · have HM2 := Lib.hid hodd
      have h1 := onesN_odd m hodd
      obtain ⟨S2, d2, rfl⟩ : ∃ S2 d2, S' = S2 ++ [d2] := by
        rcases List.eq_nil_or_concat S' with e | ⟨S2, d2, e⟩
        · subst e; simp at hS'; omega
        · exact ⟨S2, d2, by rw [e]; simp⟩
      obtain ⟨k, hk⟩ : ∃ k, S2.length = k := ⟨_, rfl⟩
      obtain ⟨A, c, hv, hc⟩ := ho.cap
      have hlen : (S2 ++ [d2]).length = k + 1 := by simp [hk]
      rw [hlen] at hv
      subst hv
      have HOB : Hid (∀ q, (Value.slice A k c).ownBlock = some q → q < w.heap.size) := Lib.hid (fun q hq => hob q (by cases A <;> simpa [Value.ownBlock] using hq))
      have HKB : Hid (k ≤ 100000) := Lib.hid (by have := onesN_le m; omega)
      have HK := Lib.hid hk
      have HS := Lib.hid hS'
      have HA := Lib.hid hadd
      have HR := Lib.hid hR
      have RH := Lib.hid rH
      have RG := Lib.hid rg
      have HO := Lib.hid ho
      rw [hodd] at hbit
      clear hS' hadd hR rH rg ho hob hm hodd h1 hk hlen hc hnew
      go_upto_region 5 with fail
      refine wp_region_relyP (RT g) (StJ g B n (.slice A (k + 1) c) (.slice A k c) (S2 ++ [d2]) S2) [SV.eq (.pointer (some ⟨g, 0, none⟩)), SV.eq (.pointer (some ⟨g, 0, none⟩)), SV.eq (.pointer (some ⟨g, 1, none⟩)), SV.eq (.agg (rowA 32 (bF (d2)))), SV.eq (.agg (rowA 32 (bF (h')))), SV.eq (.agg (rowA 32 (bF (node (d2) (h')))))] [([(0, none)], none), ([(16, some 0)], none), ([(17, some 1)], none), ([(18, some 2)], none), ([(3, none)], none), ([(19, some 3), (20, some 4)], none)] [none, none, none, some 0, none, none] [3] 34 rfl (by kernel_rfl) rfl (by kernel_rfl) (by kernel_rfl) rfl (by kernel_rfl) RT.trans (RT.drew _ _) ⟨fun _ => ⟨RG.out.drew, (HO.out).keep fun _ _ => rfl⟩, fun e => absurd rfl e⟩ (Nat.le_of_ble_eq_true rfl) ⟨?_, ?_, ?_, ?_, ?_, ?_, trivial⟩ ?_
      · intro a wx hT hF K hK
        replace hK := fun v w' (hN : NewT wx w') hv => hK v w' (RT.new (Nat.lt_of_lt_of_le HGL.out hT.size) hN) (fun k h => StJ.new h hN) hv
        obtain ⟨f0, _⟩ := hF
        have f0 : a.tmps.getD 0 undef = .pointer (some ⟨g, 0, none⟩) := f0
        refine rely_wp rfl ?_
        exact opr_move (.inl rfl) (hK _ _ (NewT.refl _) f0)
      · intro a wx hT hF K hK
        replace hK := fun v w' (hN : NewT wx w') hv => hK v w' (RT.new (Nat.lt_of_lt_of_le HGL.out hT.size) hN) (fun k h => StJ.new h hN) hv
        obtain ⟨f16, _⟩ := hF
        have f16 : a.tmps.getD 16 undef = .pointer (some ⟨g, 0, none⟩) := f16
        refine rely_wp rfl ?_
        exact opr_nilc rfl f16 (hK _ _ (NewT.refl _) rfl)
      · intro a wx hT hF K hK
        replace hK := fun v w' (hN : NewT wx w') hv => hK v w' (RT.new (Nat.lt_of_lt_of_le HGL.out hT.size) hN) (fun k h => StJ.new h hN) hv
        obtain ⟨f17, _⟩ := hF
        have f17 : a.tmps.getD 17 undef = .pointer (some ⟨g, 0, none⟩) := f17
        refine rely_wp rfl ?_
        exact opr_fldF1 rfl f17 (hK _ _ (NewT.refl _) rfl)
      · intro a wx hT hF hJ K hK
        obtain ⟨f18, _⟩ := hF
        have f18 : a.tmps.getD 18 undef = .pointer (some ⟨g, 1, none⟩) := f18
        refine rely_wp rfl ?_
        refine opr_call rfl Tryd.func30 (by kernel_rfl) (by kernel_rfl) (by simp only [List.map_toArray, List.map_cons, List.map_nil, eval_tmp, f18]) ((pop_c g B k c n A S2 d2 wx HK.out (by have := HKB.out; omega) (hJ.1 rfl).1 (hJ.1 rfl).2 HB.out).mono ?_)
        rintro e w' ⟨rfl, q1, q2, q3⟩
        exact ⟨_, rfl, hK _ _ q1 ⟨fun e => absurd e (by decide), fun _ => ⟨q2, q3⟩⟩ rfl⟩
      · intro a wx hT hF K hK
        replace hK := fun v w' (hN : NewT wx w') hv => hK v w' (RT.new (Nat.lt_of_lt_of_le HGL.out hT.size) hN) (fun k h => StJ.new h hN) hv
        obtain ⟨f3, _⟩ := hF
        have f3 : a.tmps.getD 3 undef = .pointer (some ⟨w.heap.size, 0, none⟩) := f3
        refine rely_wp rfl ?_
        exact opr_load_hash rfl f3 (hT.row HNE.out RH.out) (hK _ _ (NewT.refl _) rfl)
      · intro a wx hT hF K hK
        replace hK := fun v w' (hN : NewT wx w') hv => hK v w' (RT.new (Nat.lt_of_lt_of_le HGL.out hT.size) hN) (fun k h => StJ.new h hN) hv
        obtain ⟨f19, f20, _⟩ := hF
        have f19 : a.tmps.getD 19 undef = .agg (rowA 32 (bF (d2))) := f19
        have f20 : a.tmps.getD 20 undef = .agg (rowA 32 (bF (h'))) := f20
        refine rely_wp rfl ?_
        exact opr_cv (Node_cv hX (d2) (h') wx (HT.out.rt HG1.out hT)) rfl Tryd.func12 (by kernel_rfl) (by kernel_rfl) (by simp only [List.map_toArray, List.map_cons, List.map_nil, eval_tmp, f19, f20]) hK
      · intro w5 k5 hJ
        intro u h; obtain rfl := Eq.symm (h (by simp)); clear h
        intro u h; obtain rfl := Eq.symm (h (by simp)); clear h
        intro u h; obtain rfl := Eq.symm (h (by simp)); clear h
        intro u h; obtain rfl := Eq.symm (h (by simp)); clear h
        intro u h; obtain rfl := Eq.symm (h (by simp)); clear h
        intro u h; obtain rfl := Eq.symm (h (by simp)); clear h
        refine relyEnd_nil rfl ?_
        simp only [Act.put, List.setIfInBounds_toArray, List.set_cons_zero, List.set_cons_succ]
        refine opr_putm (F := bF (node d2 h')) rfl rfl rfl (k5.row HNE.out RH.out) (by decide) info31 (fun _ => rfl) (fun i hi => by rw [if_pos (by omega), Nat.sub_zero]) ?_
        intro w6 hR6 r6
        go_simp
        go_wp2
        go_roundw
        case rel =>
          refine ⟨m / 2, node d2 h', S2, by go_num, by have := HM.out; omega, ?_, ?_, RT.late2 (RT.trans _ _ _ HR.out k5) (Nat.le_refl _) HG0.out hR6, r6, ?_⟩
          · have e1 := HS.out; have e2 := onesN_odd m HM2.out; simp at e1; omega
          · have e3 := HA.out
            rw [List.reverse_append, List.reverse_cons, List.reverse_nil, List.nil_append, List.singleton_append, addT_odd node m h' d2 _ HM2.out] at e3
            exact e3
          · have q := hJ.2 (by decide)
            exact ⟨_, hR6.row (by have := HG0.out; omega) q.1, own_late (hB := HB.out) q.2 HOB.out hR6, HOB.out⟩
        case measure => simp [intOf]; have := HM2.out; omega
    · have he : m % 2 = 0 := by omega
      have HM2 := Lib.hid he
      rw [he] at hbit
      have HS := Lib.hid hS'
      have HA := Lib.hid hadd
      have HR := Lib.hid hR
      have RH := Lib.hid rH
      have RG := Lib.hid rg
      have HO := Lib.hid ho
      clear hS' hadd hR rH rg ho hob hm hodd he hnew
      go_upto_region 6 with fail
      refine wp_region_rely (NewT) [SV.eq (.pointer (some ⟨g, 0, none⟩)), SV.eq (.pointer (some ⟨g, 0, none⟩)), SV.eq (.pointer (some ⟨g, 1, none⟩)), SV.eq (.agg (rowA 32 (bF (h'))))] [([(0, none)], none), ([(22, some 0)], none), ([(23, some 1)], none), ([(3, none)], none)] 34 rfl (by kernel_rfl) rfl (by kernel_rfl) (by kernel_rfl) rfl NewT.trans (NewT.drew _) (Nat.le_of_ble_eq_true rfl) ⟨?_, ?_, ?_, ?_, trivial⟩ ?_
      · intro a wx hT hF K hK
        obtain ⟨f0, _⟩ := hF
        have f0 : a.tmps.getD 0 undef = .pointer (some ⟨g, 0, none⟩) := f0
        refine rely_wp rfl ?_
        exact opr_move (.inl rfl) (hK _ _ (NewT.refl _) f0)
      · intro a wx hT hF K hK
        obtain ⟨f22, _⟩ := hF
        have f22 : a.tmps.getD 22 undef = .pointer (some ⟨g, 0, none⟩) := f22
        refine rely_wp rfl ?_
        exact opr_nilc rfl f22 (hK _ _ (NewT.refl _) rfl)
      · intro a wx hT hF K hK
        obtain ⟨f23, _⟩ := hF
        have f23 : a.tmps.getD 23 undef = .pointer (some ⟨g, 0, none⟩) := f23
        refine rely_wp rfl ?_
        exact opr_fldF1 rfl f23 (hK _ _ (NewT.refl _) rfl)
      · intro a wx hT hF K hK
        obtain ⟨f3, _⟩ := hF
        have f3 : a.tmps.getD 3 undef = .pointer (some ⟨w.heap.size, 0, none⟩) := f3
        refine rely_wp rfl ?_
        exact opr_load_hash rfl f3 (hT.row RH.out) (hK _ _ (NewT.refl _) rfl)
      · intro w6 k6
        intro u h; obtain rfl := Eq.symm (h (by simp)); clear h
        intro u h; obtain rfl := Eq.symm (h (by simp)); clear h
        intro u h; obtain rfl := Eq.symm (h (by simp)); clear h
        intro u h; obtain rfl := Eq.symm (h (by simp)); clear h
        refine relyEnd_nil rfl ?_
        simp only [Act.put, List.setIfInBounds_toArray, List.set_cons_zero, List.set_cons_succ]
        refine opr_call rfl Tryd.func31 (by kernel_rfl) (by kernel_rfl) (by simp only [List.map_toArray, List.map_cons, List.map_nil, eval_tmp]; rfl) ((push_c g B n v S' h' w6 (k6.row RG.out) (HO.out.new k6) HB.out (Nat.le_trans HB2.out k6.out.size) (by have := HS.out; have := onesN_le m; have := HM.out; omega)).mono ?_)
        rintro e w7 ⟨rfl, q1, v7, q2, q3⟩
        refine ⟨_, rfl, ?_⟩
        have c0 : w7.cell? ⟨g, 0, none⟩ = some (.int .i64 (n : Int)) := q2.cell (i := 0) (by omega)
        have f0 := q2.frozen 0
        simp only [Act.put, List.setIfInBounds_toArray, List.set_cons_zero, List.set_cons_succ]
        go_simp
        go_wp2
        go_end0
        have hRs : RT g w7 (w7.setCell ⟨g, 0, none⟩ (.int .i64 (wrap64 ((n : Int) + 1)))) := RT.setCell w7 0 _
        have e1 : wrap64 ((n : Int) + 1) = (n : Int) + 1 := by unfold wrap64; have := HNB.out; omega
        refine ⟨rfl, ?_, ?_⟩
        · exact (FT.of_rt (RT.trans _ _ _ HR.out (RT.new HGL.out k6))).trans (q1.trans (FT.of_rt hRs))
        · refine ⟨v7, (q2.set 0 _).congr fun i hi => ?_, ?_, HB.out, ?_⟩
          · rw [e1]; exact (frF_set0 n _ v7 i).symm
          · rw [← HA.out, addT_even node m h' _ (by have := HM2.out; omega), List.reverse_cons, List.reverse_reverse]
            exact q3.rt HB.out hRs
          · have := q1.below.size; have := k6.out.size; have := HB2.out; simp; omega
end Go.Proofs.YtphbjamfhmcjcaaDoor
/- A region that draws its order, at the wide fence: all operations but a forced tail read alone. No program is named here. -/
namespace Go.Proofs.YtphbjamfhmcjcaaDoor
open Go.RowKit
set_option maxRecDepth 8000
set_option linter.all false
variable {P : Program} {ops : Array Oper} {md : Region.Mode} {w : World} {n : Nat}

theorem wpOpIn_of_stOp2 (hnd : noDefer ops = true) {i : Nat} {a : Act} {K : Act → Prop} {K' : Act → World → Prop} {Q' : Exit → Act → World → Prop} (h : ∀ a, K a → K' a w) (hh : stOp P ops w i K a) :
    wpOpIn Fence.wide n P ops Q' i K' a w := by
  unfold stOp at hh
  unfold wpOpIn
  cases ho : ops[i]? with
  | none => simp only [ho] at hh ⊢; exact h _ hh
  | some o =>
    simp only [ho] at hh ⊢
    split
    · rename_i hw
      simp only [hw, if_true] at hh
      refine ⟨fun _ _ => trivial, ?_⟩
      rw [Oper.semAt_eq _ _ _ (noDefer_at hnd ho)]
      unfold Oper.still at hh
      generalize (execOp a.eval o).run P w = r at *
      cases r with
      | ok x w' =>
        cases x <;> simp only [Oper.stillUpon] at hh <;> simp only [Oper.uponIn]
        case enter f args =>
          obtain ⟨rfl, v, hc, hn⟩ := hh
          refine ⟨fun hd => by simp [Fence.wide] at hd, ((callsIn_wide.2 hc).mono fun e w'' he => ?_)⟩
          obtain ⟨rfl, rfl⟩ := he
          exact h _ hn
        all_goals (obtain ⟨rfl, h2⟩ := hh; exact h _ h2)
      | halt x w' => simp only [Oper.stillUpon] at hh
    · rename_i hw
      simp only [hw] at hh
      exact ⟨fun _ _ => trivial, h _ hh⟩
theorem wpAnyIn_of_head2 (hnd : noDefer ops = true) {m g : Nat} {L : Array Bool → Act → Prop} {Q' : Exit → Act → World → Prop} (hL : ∀ listed a, L listed a → wpAnyIn Fence.wide n P md ops Q' g listed a w) :
    ∀ (f : Nat) (listed : Array Bool) (a : Act), wpAnyL P md ops w m L f listed a → wpAnyIn Fence.wide n P md ops Q' (f + g) listed a w
  | 0, listed, a, h => by rw [Nat.zero_add]; exact hL _ _ h
  | f + 1, listed, a, h => by
    rw [show f + 1 + g = (f + g) + 1 by omega]
    exact ⟨fun h0 => absurd h0 h.1, fun i hi => wpOpIn_of_stOp2 hnd (fun a' h' => wpAnyIn_of_head2 hnd hL f _ a' h') (h.2 i hi).2⟩
theorem wpAnyIn_of_seq2 {Q' : Exit → Act → World → Prop} : ∀ (l : List Oper) (k : Nat) (listed : Array Bool) (a : Act) (w : World), (∀ j, l[j]? = ops[k + j]?) →
    Region.seqB md ops l.length k listed = true → wpListIn Fence.wide n P ops Q' l a w → wpAnyIn Fence.wide n P md ops Q' l.length listed a w
  | [], _, _, _, _, _, hB, h => ⟨by simpa [Region.seqB] using hB, h⟩
  | o :: l, k, listed, a, w, hl, hB, h => by
    have h0 : ops[k]? = some o := by simpa using (hl 0).symm
    simp only [List.length_cons, Region.seqB, Bool.and_eq_true, decide_eq_true_eq] at hB
    refine ⟨fun h1 => (by rw [hB.1] at h1; cases h1), fun i hi => ?_⟩
    rw [hB.1] at hi
    have hik : i = k := by simpa using hi
    subst hik
    have hw : wpOpIn Fence.wide n P ops Q' i (wpListIn Fence.wide n P ops Q' l) a w := by unfold wpOpIn; simp only [h0]; exact h
    exact wpOpIn_mono (fun a' w' h' => wpAnyIn_of_seq2 l (i + 1) _ a' w' (fun j => by have := hl (j + 1); simpa [Nat.add_assoc, Nat.add_comm 1 j] using this) hB.2 h') hw

/-- All operations but a forced tail read alone: in the text's order, at the wide fence. -/
theorem region_in_tail {id : Nat} {Q : Exit → Act → World → Prop} {a : Act} {w : World} {l : List Oper} (m : Nat) (hm : P.follows .mixedOrders = true) (hB : Region.lexTailB .any l.toArray m = true) (hnd : noDefer l.toArray = true)
    (h : wpStill P l.toArray w.drew (fun a' => wpListIn Fence.wide n P l.toArray Q (l.drop m) a' w.drew) (l.take m) a) : (Code.region id l.toArray true).wpIn Fence.wide n P Q a w := by
  simp only [Region.lexTailB, Bool.and_eq_true, decide_eq_true_eq] at hB
  obtain ⟨⟨⟨⟨hsel, hn⟩, hs⟩, hc⟩, hlex⟩ := hB
  have hn' : m < l.length := by simpa using hn
  have htl : (l.take m).length = m := by simp; omega
  have hdl : (l.drop m).length = l.toArray.size - m := by simp
  have inv0 : HeadInv .any l.toArray m (Array.replicate l.toArray.size false) :=
    ⟨by simp, fun j oj _ hl => (by rw [getD_replicate_false] at hl; cases hl), fun t _ ht => getD_in (by simpa using ht) (getD_replicate_false _ _)⟩
  have H := wpAnyL_lex (md := .any) (g := l.toArray.size - m) hsel hs hc hn (l.take m) 0 _ a (fun j hj => by
    have hj' : j < m := by rw [htl] at hj; exact hj
    simp [hj']) (by simpa using htl) inv0 (by rw [htl]; exact hlex) h
  refine wpIn_region_any hm ?_
  have := wpAnyIn_of_head2 (n := n) hnd (Q' := Q) (g := l.toArray.size - m) (fun listed a' hL => by
    have := wpAnyIn_of_seq2 (n := n) (md := .any) (Q' := Q) (l.drop m) m listed a' w.drew (fun j => by simp [List.getElem?_drop]) (by rw [hdl]; exact hL.1) hL.2
    rwa [hdl] at this) _ _ _ H
  rw [htl, show m + (l.toArray.size - m) = l.toArray.size by omega] at this
  exact this
end Go.Proofs.YtphbjamfhmcjcaaDoor
/- A frontier's stack: its things from the top down, handed on by an iterator. -/
namespace Go.Proofs.YtphbjamfhmcjcaaDoor
open Go Go.RowKit Go.Shelf
attribute [local go_sem] Oper.semAt_some
set_option maxRecDepth 8000
set_option linter.all false
set_option maxHeartbeats 400000 in
theorem Size_cv (g B : Nat) (n : Int) (S : List Hs) (w : World) (h : FrAt w g B n S) : Cv 18 #[.pointer (some ⟨g, 0, none⟩)] w (.eq (.int .i64 n)) := by
  obtain ⟨v, h1, _⟩ := h
  have c0 : w.cell? ⟨g, 0, none⟩ = some (.int .i64 n) := h1.cell (i := 0) (by omega)
  unfold Cv
  go_enter Tryd.func18, Tryd.ntmps18
  go_wp2
  go_ret
  exact ⟨_, rfl, NewT.refl _, rfl⟩
set_option maxHeartbeats 400000 in
theorem Size_nil (w : World) : Cv 18 #[.pointer none] w (.eq (.int .i64 0)) := by
  unfold Cv
  go_enter Tryd.func18, Tryd.ntmps18
  go_wp2
  go_ret
  exact ⟨_, rfl, NewT.refl _, rfl⟩
set_option maxHeartbeats 400000 in
theorem height_cv (g B : Nat) (n : Int) (S : List Hs) (w : World) (h : FrAt w g B n S) : Cv 36 #[.pointer (some ⟨g, 1, none⟩)] w (.eq (.int .i64 (S.length : Int))) := by
  obtain ⟨v, h1, h2, _⟩ := h
  have c1 : w.cell? ⟨g, 1, none⟩ = some v := h1.cell (i := 1) (by omega)
  obtain ⟨A, c, rfl, _⟩ := h2.cap
  unfold Cv
  go_enter Tryd.func36, Tryd.ntmps36
  go_wp2
  go_ret
  exact ⟨_, rfl, NewT.refl _, rfl⟩
set_option maxHeartbeats 400000 in
theorem fromTop_any (a : Addr) (w : World) : Calls Tryd.prog 32 #[.pointer (some a)] w fun e w' => e = .returned (.func (.func 41) #[] #[.pointer (some ⟨w.heap.size, 0, none⟩)]) ∧ w.alloc (.cells #[.pointer (some a)] 69) = w' := by
  go_enter Tryd.func32, Tryd.ntmps32
  go_wp2
  go_ret
  exact ⟨rfl, rfl⟩
theorem still_ldH {a : Act} {w : World} {o : Oper} {K : Act → Prop} {x : Operand} {b off : Nat} {d : Hs} (ho : o.op = .load 24 x) (hx : a.eval x = .pointer (some ⟨b, off, none⟩)) (hc : ∀ j, j < 32 → w.cell? ⟨b, off + j, none⟩ = some (bF d j)) (h : K (a.put o.dst (.agg (rowA 32 (bF d))))) : o.still Tryd.prog a w K := by
  obtain ⟨dst, op, type, pos, after, guard⟩ := o
  simp only at ho
  subst ho
  unfold Oper.still
  have e : (execOp a.eval ({ dst := dst, op := .load 24 x, type := type, pos := pos, after := after, guard := guard } : Oper)).run Tryd.prog w = .ok (.value (.agg (rowA 32 (bF d)))) w := by
    show (do pure (Next.value (← Instr.loadAt 24 (a.eval x)))).run Tryd.prog w = _
    rw [hx, Sem.run_bind, run_ldH_at hc]; rfl
  rw [e]
  exact ⟨rfl, h⟩
/-- What the iterator hands on: each thing behind how many lie above it. -/
def topL (S : List Hs) (k : Nat) : List (Nat × Hs) := (List.range k).map fun i => (i, S.getD (S.length - 1 - i) fun _ => 0)
theorem topL_succ (S : List Hs) (k : Nat) (d : Hs) (hd : S[S.length - 1 - k]? = some d) : topL S (k + 1) = topL S k ++ [(k, d)] := by
  unfold topL
  rw [List.range_succ, List.map_append]
  simp [List.getD, hd]
set_option maxHeartbeats 2000000 in
theorem fromTop1_seq (L : List Nat) (pb g B : Nat) (n : Int) (v : Value) (S : List Hs) (w : World) (hpb : pb ∉ L) (hgL : g ∉ L) (hbox : w.cell? ⟨pb, 0, none⟩ = some (.pointer (some ⟨g, 1, none⟩))) (hg : w.rowIs g 35 2 (frF n v)) (ho : OwnH w B v S) (hno : ∀ k ∈ L, v.ownBlock ≠ some k) (hl : S.length ≤ 100000) :
    SeqG Tryd.prog 41 #[.pointer (some ⟨pb, 0, none⟩)] (fun x : Nat × Hs => #[.int .i64 (x.1 : Int), .agg (rowA 32 (bF x.2))]) (KeepBut L) (fun pre x _ => pre = topL S x.1 ∧ S[S.length - 1 - x.1]? = some x.2 ∧ x.1 < S.length) (fun xs => xs = topL S S.length) (fun _ => True) w := by
  intro l J Jx W hW hJ hJx hY h0
  have hbox' := KeepBut.cell (KeepBut.below hW) hpb hbox
  have hg' := NewT.row (NewT.of hW) hg
  have ho' := ho.new (NewT.of hW)
  have HG := Lib.hid hg'
  have HO := Lib.hid ho'
  have HBX := Lib.hid hbox'
  have c1 : W.cell? ⟨g, 1, none⟩ = some v := hg'.cell (i := 1) (by omega)
  obtain ⟨A, c, hv, hc⟩ := ho'.cap
  subst hv
  clear hg ho hbox hg' ho'
  refine callsIn_of_wp Tryd.func41 rfl trivial ?_ rfl
  simp only [Tryd.ntmps41, List.size_toArray, List.length_cons, List.length_nil, Nat.reduceAdd, Nat.reduceSub, Array.replicate_succ, Array.replicate_zero, List.push_toArray, List.append_toArray, List.nil_append, List.cons_append]
  gi_wp2
  gi_loopw [9] (fun i wr => ∃ k : Nat, k ≤ S.length ∧ i = .int .i64 (k : Int) ∧ J (topL S k) wr ∧ KeepBut L W wr) (fun i _ => S.length - (intOf i).toNat)
  case atStart => exact ⟨0, by omega, rfl, h0, KeepBut.refl _ _⟩
  case round =>
    clear c1
    obtain ⟨k, hk, rfl, hJs, hKs⟩ := hrel
    by_cases hlt : k < S.length
    · have hd0 : S[S.length - 1 - k]? = some S[S.length - 1 - k] := List.getElem?_eq_getElem (by omega)
      obtain ⟨d, hd⟩ : ∃ d, S[S.length - 1 - k]? = some d := ⟨_, hd0⟩
      clear hd0
      have bx : wr.cell? ⟨pb, 0, none⟩ = some (.pointer (some ⟨g, 1, none⟩)) := hKs.cell (a := ⟨pb, 0, none⟩) hpb HBX.out
      have c1 : wr.cell? ⟨g, 1, none⟩ = some (.slice A S.length c) := hKs.cell (a := ⟨g, 1, none⟩) hgL (HG.out.cell (i := 1) (by omega))
      have hrd := HO.out.rd
      obtain ⟨A', c', hv', _, _, h3⟩ := hrd
      cases hv'
      obtain ⟨b, o, rfl, hcell⟩ := h3 (by omega)
      have hbL : b ∉ L := fun hm => hno b hm rfl
      obtain ⟨j, hj⟩ : ∃ j, S.length - 1 - k = j := ⟨_, rfl⟩
      rw [hj] at hd
      have HC : Hid (∀ q, q < 32 → wr.drew.cell? ⟨b, o + j * 32 + q, none⟩ = some (bF d q)) := Lib.hid fun q hq => hKs.cell (a := ⟨b, o + j * 32 + q, none⟩) hbL (hcell j d hd q hq)
      have hidx : ∀ w : World, (Instr.indexAt 31 (.slice (some ⟨b, o, none⟩) S.length c) (.int .i64 (j : Int))).run Tryd.prog w = .ok (.pointer (some ⟨b, o + j * 32, none⟩)) w := fun w => run_idxH w (by omega)
      have hjj : (S.length : Int) - 1 - (k : Int) = (j : Int) := by omega
      have it : (k : Int) < (S.length : Int) := by omega
      have hy0 := hY (topL S k) (k, d) wr.drew (hJ _ _ _ hJs (Below.refl _ _).drew) ⟨rfl, by rw [hj]; exact hd, hlt⟩
      obtain ⟨fn, tmps, assign, body, hy, hR⟩ := hy0
      have HR := Lib.hid hR
      have HD := Lib.hid hd
      clear hR hcell h3 hd
      gi_wp2
      refine region_in_tail 16 (by kernel_rfl) (by kernel_rfl) (by kernel_rfl) ?_
      simp only [List.take_succ_cons, List.take_zero, List.drop_succ_cons, List.drop_zero]
      iterate 15 (refine wpStill_step (fun K hK => ?_); go_simp; (try go_bits); refine hK _ ?_; clear hK K)
      refine wpStill_step (fun K hK => ?_)
      rw [if_pos (show Region.wanted _ _ = true from rfl)]
      refine still_ldH rfl rfl HC.out (hK _ ?_)
      clear hK K hidx bx c1
      simp only [Act.put, List.setIfInBounds_toArray, List.set_cons_zero, List.set_cons_succ]
      refine wpStill_nil ?_
      gi_wp2
      refine ⟨rfl, HR.out.mono ?_⟩
      rintro e W3 (⟨rfl, hJ3, hk3, _⟩ | ⟨rfl, hJx3, _⟩)
      · gi_wp2
        go_roundw
        case rel => exact ⟨k + 1, by omega, by go_num, by rw [topL_succ S k d (by rw [hj]; exact HD.out)]; exact hJ3, hKs.trans (KeepBut.trans (KeepBut.drew _) hk3)⟩
        case measure => simp [intOf]; omega
      · gi_wp2
        refine bodyPost_ret (results_none rfl _ _ _) rfl ?_
        exact ⟨⟨_, rfl⟩, .inr ⟨_, trivial, hJx3⟩⟩
    · obtain rfl : k = S.length := by omega
      gi_wp2
      refine bodyPost_end (results_none rfl _ _ _) rfl ?_
      exact ⟨⟨_, rfl⟩, .inl ⟨_, rfl, hJs⟩⟩
end Go.Proofs.YtphbjamfhmcjcaaDoor
/- A range over a function whose variables are laid into new memory ahead of the body. No program is named here. -/
namespace Go.Proofs.YtphbjamfhmcjcaaDoor
open Go.RowKit
set_option maxRecDepth 8000
set_option linter.all false

/-- **The statement 'for x := range g { .. }' by an iterator's promise; what is handed on may be laid into new memory ahead of the body.** -/
theorem range_law2 {P : Program} {α : Type} {g : Operand} {ps : Array Tmp} {assign body : Code} {Q : Exit → Act → World → Prop} {a : Act} {w : World} {n : Nat}
    {gf : Nat} {lb : Array Value} (hg : a.eval g = .func (.func gf) #[] lb) (eg : ∀ args w, (callFunc gf args).run P w = .ok (.enter gf args) w)
    {encs : α → Array Value} {Kp : World → World → Prop} {G : List α → α → World → Prop} {S Sp : List α → Prop} {w0 : World} (hseq : SeqG P gf lb encs Kp G S Sp w0) (hb0 : Below w0.heap.size w0 w)
    (hKt : ∀ {A B C : World}, Kp A B → Kp B C → Kp A C) (hKb : ∀ (W : World) (l : Nat) (o o' : Obj), w.heap.size ≤ l → W.heap[l]? = some o → o.isCells = false → Kp W (W.putObj l o'))
    (hGb : ∀ (pre : List α) (x : α) (W : World) (l : Nat) (o o' : Obj), w.heap.size ≤ l → W.heap[l]? = some o → o.isCells = false → G pre x W → G pre x (W.putObj l o'))
    (hps : ∀ x, (encs x).size = ps.size)
    (I : List α → World → Prop) (Ix : Code → List α → World → Prop) (hI : ∀ pre A B, I pre A → Below w.heap.size A B → I pre B) (hIx : ∀ c pre A B, Ix c pre A → Below w.heap.size A B → Ix c pre B) (h0 : I [] w) (As : α → Act → World → Prop)
    (hKn : ∀ A B : World, Below A.heap.size A B → Kp A B) (hGn : ∀ pre x A B, G pre x A → Below A.heap.size A B → G pre x B)
    (hAs : ∀ (x : α) (a1 : Act) (W : World) (l : Nat) (o o' : Obj), w.heap.size ≤ l → W.heap[l]? = some o → o.isCells = false → As x a1 W → As x a1 (W.putObj l o'))
    (hassign : ∀ (l : Nat) (x : α) (W : World) (K : Act → World → Prop), (∀ a1 W', Below W.heap.size W W' → As x a1 W' → K a1 W') →
      assign.wpIn (Fence.wide.inRound l) 0 P (Exit.then K (fun _ _ _ => False)) { tmps := (ps.zip (encs x)).foldl (fun t (p, v) => t.setIfInBounds p v) a.tmps, defers := [] } W)
    (hbody : ∀ (l : Nat) (pre : List α) (x : α) (a1 : Act) (W : World), w.heap.size ≤ l → I pre W → G pre x W → As x a1 W → body.wpIn (Fence.wide.inRound l) 0 P (ownPostG w.heap.size Kp I Ix (pre ++ [x]) W) a1 W)
    (hdone : ∀ (D : Nat) (xs : List α) (W : World), w.heap.size ≤ D → S xs → I xs W → W.heap[D]? = some (.deferred (some [])) → Q .normal { a with defers := { target := .collected D, args := #[] } :: a.defers } W)
    (hstop : ∀ (D : Nat) (c : Code) (pre : List α) (W : World), w.heap.size ≤ D → Sp pre → Ix c pre W → W.heap[D]? = some (.deferred (some [])) → c.wpIn Fence.wide n P Q { a with defers := { target := .collected D, args := #[] } :: a.defers } W) :
    (Code.rangeFunc g ps assign body).wpIn Fence.wide n P Q a w := by
  refine wpIn_rangeFunc ?_
  intro fn hfn
  obtain ⟨rec, hrec⟩ : ∃ rec : LoopState → Option Code → Loop, rec = fun st pe => { state := st, pending := pe, fn, tmps := a.tmps, params := ps, assign, body, defers := w.heap.size } := ⟨_, rfl⟩
  obtain ⟨W1, hW1⟩ : ∃ W1, (w.alloc (.deferred (some []))).alloc (.loop (rec .ready none)) = W1 := ⟨_, rfl⟩
  have hsz : W1.heap.size = w.heap.size + 2 := by rw [← hW1]; simp
  have hL1 : W1.heap[w.heap.size + 1]? = some (.loop (rec .ready none)) := by
    rw [← hW1]; have := World.alloc_heap_new (w.alloc (.deferred (some []))) (.loop (rec .ready none)); rwa [World.size_alloc] at this
  have hK1 : W1.heap[w.heap.size]? = some (.deferred (some [])) := by
    rw [← hW1]; exact (Below.heap_alloc _ _ _ (by simp)).trans (World.alloc_heap_new w _)
  have hbw : Below w.heap.size w W1 := by rw [← hW1]; exact ((Below.refl _ w).alloc (Nat.le_refl _) _).alloc (by simp) _
  have put : ∀ (W : World) (l : Nat) (o o' : Obj), w.heap.size ≤ l → W.heap[l]? = some o → Below w.heap.size W (W.putObj l o') := fun W l o o' hl h =>
    ⟨rfl, rfl, rfl, by simp, fun k hk => World.putObj_heap_other (by omega)⟩
  refine ⟨w.heap.size + 1, [{ target := .collected w.heap.size, args := #[] }], W1, { target := .fn (.func gf) lb, args := #[.func (.yield (w.heap.size + 1)) #[] #[]] }, W1, gf,
    #[.func (.yield (w.heap.size + 1)) #[] #[]] ++ lb, W1, ?_, ?_, fun _ _ => trivial, ?_, fun h => by simp [Fence.wide] at h, ?_⟩
  · rw [← hW1, hrec]; exact run_enterLoop_outer _ _ _ _ _
  · simp only [resolve, hg]
    simp [go_sem]
  · simp [invoke, go_sem, eg]
  · have hcall := hseq (w.heap.size + 1)
      (fun pre W => I pre W ∧ W.heap[w.heap.size + 1]? = some (.loop (rec .ready none)) ∧ W.heap[w.heap.size]? = some (.deferred (some [])))
      (fun pre W => ∃ c, Ix c pre W ∧ W.heap[w.heap.size + 1]? = some (.loop (rec .done (some c))) ∧ W.heap[w.heap.size]? = some (.deferred (some [])))
      W1 (hb0.trans (hbw.mono hb0.size))
      (fun pre A B hs hB => ⟨hI pre A B hs.1 (hB.mono (by omega)), (hB.block _ (by omega)).trans hs.2.1, (hB.block _ (by omega)).trans hs.2.2⟩)
      (fun pre A B hs hB => by
        obtain ⟨c, hc, hl, hk⟩ := hs
        exact ⟨c, hIx c pre A B hc (hB.mono (by omega)), (hB.block _ (by omega)).trans hl, (hB.block _ (by omega)).trans hk⟩)
      ?_ ⟨hI _ _ _ h0 hbw, hL1, hK1⟩
    · have hcall' : CallsIn Fence.wide (n - 1) P gf (#[.func (.yield (w.heap.size + 1)) #[] #[]] ++ lb) W1 _ := callsIn_wide.2 (callsIn_wide.1 hcall)
      refine hcall'.mono ?_
      rintro e W2 ⟨⟨v, rfl⟩, (⟨xs, hS, hi, hl, hk⟩ | ⟨pre, hSp, c, hi, hl, hk⟩)⟩
      · exact ⟨none, _, by have := run_endLoop (P := P) hl (by rw [hrec]; simp); rw [hrec] at this; exact this, hdone _ xs _ (Nat.le_refl _) hS (hI _ _ _ hi (put _ _ _ _ (by omega) hl)) ((World.putObj_heap_other (by omega)).trans hk)⟩
      · exact ⟨some c, _, by have := run_endLoop (P := P) hl (by rw [hrec]; simp); rw [hrec] at this; exact this, hstop _ c pre _ (Nat.le_refl _) hSp (hIx _ _ _ _ hi (put _ _ _ _ (by omega) hl)) ((World.putObj_heap_other (by omega)).trans hk)⟩
    · rintro pre x W0 ⟨hi, hl, hk⟩ hG
      have hlt : w.heap.size + 1 < W0.heap.size := (Array.getElem?_eq_some_iff.1 hl).1
      have hy := run_yield (P := P) (args := encs x) hl (by rw [hrec]; exact hps x)
      rw [hrec] at hy
      refine ⟨fn, _, assign, body, hy, roundIn_of_wpIn hfn (hassign _ x W0 _ ?_)⟩
      clear hy
      intro a1 W hB0 hA
      have kp0 := hKn _ _ hB0
      have kf0 : KeepsFrom W1.heap.size W0 W := (keepsOthers_below hB0).from _
      replace hi := hI _ _ _ hi (hB0.mono (by omega))
      replace hl := (hB0.block _ hlt).trans hl
      replace hk := (hB0.block _ (by omega)).trans hk
      replace hG := hGn _ _ _ _ hG hB0
      replace hlt : w.heap.size + 1 < W.heap.size := Nat.lt_of_lt_of_le hlt hB0.size
      clear hB0
      refine ⟨_, run_beginRound hl (by rw [hrec]), ?_⟩
      have hl2 : (W.putObj (w.heap.size + 1) (.loop { rec .ready none with state := .busy })).heap[w.heap.size + 1]? = some (.loop { rec .ready none with state := .busy }) := World.putObj_heap_same hlt
      have hk2 : (W.putObj (w.heap.size + 1) (.loop { rec .ready none with state := .busy })).heap[w.heap.size]? = some (.deferred (some [])) := (World.putObj_heap_other (by omega)).trans hk
      have hw2 : Kp W (W.putObj (w.heap.size + 1) (.loop { rec .ready none with state := .busy })) := hKb _ _ _ _ (by omega) hl rfl
      refine wpIn_mono (hbody _ pre x a1 _ (by omega) (hI _ _ _ hi (put _ _ _ _ (by omega) hl)) (hGb _ _ _ _ _ _ (by omega) hl rfl hG) (hAs _ _ _ _ _ _ (by omega) hl rfl hA)) ?_
      have fin : ∀ (jump : Option Code) (W3 : World), KeepsFrom w.heap.size (W.putObj (w.heap.size + 1) (.loop { rec .ready none with state := .busy })) W3 →
          (Instr.endRound (w.heap.size + 1) jump).run P W3 = .ok (.bool jump.isNone) (W3.putObj (w.heap.size + 1) (.loop (rec (if jump.isNone then .ready else .done) jump))) ∧
          W3.heap[w.heap.size + 1]? = some (.loop { rec .ready none with state := .busy }) ∧
          (W3.putObj (w.heap.size + 1) (.loop (rec (if jump.isNone then .ready else .done) jump))).heap[w.heap.size + 1]? = some (.loop (rec (if jump.isNone then .ready else .done) jump)) ∧
          (W3.putObj (w.heap.size + 1) (.loop (rec (if jump.isNone then .ready else .done) jump))).heap[w.heap.size]? = some (.deferred (some [])) := fun jump W3 hk3 => by
        have hl3 := hk3.same _ _ (by omega) hl2 rfl
        have := run_endRound (P := P) jump hl3
        rw [hrec] at this ⊢
        exact ⟨this, by rw [hrec] at hl3; exact hl3, World.putObj_heap_same (Array.getElem?_eq_some_iff.1 hl3).1, (World.putObj_heap_other (by omega)).trans (hk3.same _ _ (Nat.le_refl _) hk2 rfl)⟩
      have whole : ∀ (W3 : World) (o : Obj), KeepsFrom w.heap.size (W.putObj (w.heap.size + 1) (.loop { rec .ready none with state := .busy })) W3 → KeepsFrom W1.heap.size W (W3.putObj (w.heap.size + 1) o) := fun W3 o hk3 =>
        ((keepsFrom_low _ (by omega)).trans (keepsFrom_mono hk3 (by omega))).trans (keepsFrom_low _ (by omega))
      rintro e a3 W3 hp
      cases e with
      | normal =>
        obtain ⟨hk3, hkp3, hi3⟩ := hp
        obtain ⟨hr, hl3, hl4, hk4⟩ := fin none W3 hk3
        exact ⟨_, _, hr, .inl ⟨rfl, ⟨hI _ _ _ hi3 (put _ _ _ _ (by omega) hl3), hl4, hk4⟩, hKt kp0 (hKt (hKt hw2 hkp3) (hKb _ _ _ _ (by omega) hl3 rfl)), kf0.trans (whole _ _ hk3)⟩⟩
      | ret =>
        obtain ⟨hk3, hi3⟩ := hp
        obtain ⟨hr, hl3, hl4, hk4⟩ := fin (some .ret) W3 hk3
        exact ⟨_, _, hr, .inr ⟨rfl, ⟨.ret, hIx _ _ _ _ hi3 (put _ _ _ _ (by omega) hl3), hl4, hk4⟩, kf0.trans (whole _ _ hk3)⟩⟩
      | exit id =>
        obtain ⟨hk3, hi3⟩ := hp
        obtain ⟨hr, hl3, hl4, hk4⟩ := fin (some (.exit id)) W3 hk3
        exact ⟨_, _, hr, .inr ⟨rfl, ⟨.exit id, hIx _ _ _ _ hi3 (put _ _ _ _ (by omega) hl3), hl4, hk4⟩, kf0.trans (whole _ _ hk3)⟩⟩
      | goto t =>
        obtain ⟨hk3, hi3⟩ := hp
        obtain ⟨hr, hl3, hl4, hk4⟩ := fin (some (.goto t)) W3 hk3
        exact ⟨_, _, hr, .inr ⟨rfl, ⟨.goto t, hIx _ _ _ _ hi3 (put _ _ _ _ (by omega) hl3), hl4, hk4⟩, kf0.trans (whole _ _ hk3)⟩⟩
      | panic ch => exact hp.elim
      | outgrown => exact hp.elim
end Go.Proofs.YtphbjamfhmcjcaaDoor
/- A region in the text's order, within a round of a range over a function: each operation gone through once. No program is named here. -/
namespace Go.Proofs.YtphbjamfhmcjcaaDoor
open Go
set_option maxRecDepth 8000
set_option linter.all false

theorem rowsIn_w {n : Nat} {P : Program} {row : String} {args : Array Value} {w : World} {R : Value → World → Prop} (h : Rows P row args w R) : RowsIn Fence.wide n P row args w R := fun c cs _ => let ⟨v, w', r, s⟩ := h c cs; ⟨v, w', r, stepsIn_wide.2 s⟩
theorem wpIn_of_wp {P : Program} {o : Oper} {a : Act} {w : World} {K : Act → World → Prop} {Q : Exit → Act → World → Prop} {l₀ nn : Nat} (hnd : ∀ c, o.op ≠ .defer c) (h : o.wp P a w K Q) : o.wpIn (Fence.wide.inRound l₀) nn P a w K Q := by
  refine ⟨fun _ _ => trivial, ?_⟩
  rw [Oper.semAt_eq _ _ _ hnd]
  unfold Oper.wp at h
  generalize (execOp a.eval o).run P w = r at *
  cases r with
  | ok x w' =>
    cases x <;> simp only [Oper.upon] at h <;> simp only [Oper.uponIn]
    case enter f args => exact ⟨fun hd => by simp [Fence.inRound, Fence.wide] at hd, CallsIn.inRound l₀ (callsIn_wide.2 h)⟩
    case row r args => exact ⟨fun hd => by simp [Fence.inRound, Fence.wide] at hd, rowsIn_w h⟩
    all_goals exact h
  | halt x w' =>
    cases x <;> simp only [Oper.upon] at h <;> simp only [Oper.uponIn]
    exact h
section
variable {P : Program} {ops : Array Oper} {Q : Exit → Act → World → Prop} {T : World → World → Prop} {V : List (SV T)} {J : Nat → World → Prop} {a0 : Act} {w0 : World} {n m : Nat} {D : Deps} {init tail : List Oper} {l₀ nn : Nat}
theorem seq_opI (hnd : noDefer ops = true) (hn : a0.tmps.size = n) (ht : ∀ a b c : World, T a b → T b c → T a c) {i : Nat} {o : Oper} {dp : List (Tmp × Option Nat)} {g : Option (Tmp × Bool)} {a : Act} {w : World}
    (him : i < m) (ho : ops[i]? = some o) (h1 : seqOne ops n m i o dp g = true) (hstep : seqStep P Q T V J a0 w0 i o dp g (V.getD i SV.any)) (inv : SeqInv ops T V J a0 w0 i a w) :
    wpOpIn (Fence.wide.inRound l₀) nn P ops Q i (fun a' w' => SeqInv ops T V J a0 w0 (i + 1) a' w') a w := by
  simp only [seqOne, Bool.and_eq_true] at h1
  obtain ⟨⟨hdst, hdp⟩, hg⟩ := h1
  have hfacts : relyFacts V a0 a w dp := by
    clear hstep
    induction dp with
    | nil => trivial
    | cons x r ih2 =>
      simp only [List.all_cons, Bool.and_eq_true] at hdp
      obtain ⟨hx, hr⟩ := hdp
      obtain ⟨d, j⟩ := x
      cases j with
      | some j =>
        simp only [Bool.and_eq_true, beq_iff_eq, decide_eq_true_eq] at hx
        exact ⟨inv.new j d hx.2 hx.1, ih2 hr⟩
      | none =>
        refine ⟨inv.old d fun j hj => ?_, ih2 hr⟩
        simpa using List.all_eq_true.1 hx j (List.mem_range.2 hj)
  have hguard : Region.wanted o (yielded ops a.tmps) = relyGuard g a := by
    unfold Region.wanted
    cases hgo : o.guard with
    | none =>
      rw [hgo] at hg
      cases g with
      | none => rfl
      | some x => cases hg
    | some kb =>
      obtain ⟨k, b⟩ := kb
      rw [hgo] at hg
      cases g with
      | none => cases hg
      | some x =>
        obtain ⟨d, b'⟩ := x
        simp only [Bool.and_eq_true, beq_iff_eq, decide_eq_true_eq] at hg
        obtain ⟨⟨rfl, hd⟩, hlt⟩ := hg
        have hlt' : d < a.tmps.size := by rw [inv.slots, hn]; exact hlt
        have hd' : (ops[k]?).bind (·.dst) = some d := hd
        simp only [yielded, hd', Option.bind_some, relyGuard, Array.getD_eq_getD_getElem?, Array.getElem?_eq_getElem hlt', Option.getD_some]
        cases a.tmps[d] <;> simp
        all_goals (rename_i x; cases x <;> cases b <;> rfl)
  have next : ∀ v w', T w w' → J (i + 1) w' → (V.getD i SV.any).pred v w' → SeqInv ops T V J a0 w0 (i + 1) (a.put o.dst v) w' := fun v w' hT hJ hv => by
    refine ⟨ht _ _ _ inv.now hT, hJ, by cases o.dst <;> simp [Act.put, inv.slots], by cases o.dst <;> simp [Act.put, inv.defers], fun j d hji hj => ?_, fun d hno => ?_⟩
    · by_cases hij : i = j
      · subst hij
        have hd : o.dst = some d := by simpa [relyDst, ho] using hj
        rw [hd] at hdst
        simp only [Bool.and_eq_true, decide_eq_true_eq] at hdst
        have hlt : d < a.tmps.size := by rw [inv.slots, hn]; exact hdst.1
        rw [hd]
        simpa [Act.put, hlt] using hv
      · have h3 := (V.getD j SV.any).stable _ _ _ (inv.new j d (by omega) hj) hT
        cases hod : o.dst with
        | none => exact h3
        | some d0 =>
          rw [hod] at hdst
          simp only [Bool.and_eq_true, decide_eq_true_eq] at hdst
          have h4 := List.all_eq_true.1 hdst.2 j (List.mem_range.2 (by omega))
          simp only [Bool.or_eq_true, decide_eq_true_eq, bne_iff_ne, ne_eq] at h4
          have hne : d0 ≠ d := fun e => by
            subst e
            rcases h4 with h4 | h4
            · exact hij h4.symm
            · exact h4 hj
          simpa [Act.put, Array.getElem?_setIfInBounds_ne hne] using h3
    · have hni : o.dst ≠ some d := fun hd => hno i (by omega) (by simp [relyDst, ho, hd])
      have hold := inv.old d fun j hj => hno j (by omega)
      cases hod : o.dst with
      | none => exact hold
      | some d0 =>
        have hne : d0 ≠ d := fun e => hni (by rw [hod, e])
        simpa [Act.put, Array.getElem?_setIfInBounds_ne hne] using hold
  have hs := hstep a w inv.now hfacts inv.at_ _ next
  unfold wpOpIn
  simp only [ho, hguard]
  split
  · rename_i hw; rw [if_pos hw] at hs; exact wpIn_of_wp (noDefer_at hnd ho) hs
  · rename_i hw; rw [if_neg hw] at hs; exact ⟨fun _ _ => trivial, hs⟩
theorem wpOpsIn_tail : ∀ (t : List Oper) (k : Nat) (a : Act) (w : World), (∀ i : Nat, ops[k + i]? = t[i]?) → wpListIn (Fence.wide.inRound l₀) nn P ops Q t a w → wpOpsIn (Fence.wide.inRound l₀) nn P ops Q (List.range' k t.length) a w
  | [], k, a, w, _, h => by simpa [wpOpsIn, wpListIn] using h
  | o :: t, k, a, w, hk, h => by
    have hi : ops[k]? = some o := by simpa using hk 0
    rw [List.length_cons, List.range'_succ, wpOpsIn_cons]
    refine wpOpIn_mono (fun a' w' h' => wpOpsIn_tail t (k + 1) a' w' (fun i => by have := hk (i + 1); rw [show k + 1 + i = k + (i + 1) by omega]; simpa using this) h') ?_
    unfold wpOpIn
    simp only [hi]
    simpa only [wpListIn] using h
theorem wpOpsIn_seq (hnd : noDefer ops = true) (hsplit : ops.toList = init ++ tail) (hn : a0.tmps.size = n) (hB : seqB ops n init.length 0 init D = true) (ht : ∀ a b c : World, T a b → T b c → T a c)
    (hl : init.length ≤ V.length) (hA : seqAll P Q T V J a0 w0 0 init D V) (hE : ∀ w, T w0 w → J init.length w → relyEnd (fun _ a w => wpListIn (Fence.wide.inRound l₀) nn P ops Q tail a w) T init V a0 w) :
    ∀ (f k : Nat) (a : Act) (w : World), k + f = init.length → SeqInv ops T V J a0 w0 k a w → wpOpsIn (Fence.wide.inRound l₀) nn P ops Q (List.range' k (f + tail.length)) a w := by
  obtain ⟨hsz, hpre, htl⟩ := split_at hsplit
  intro f
  induction f with
  | zero =>
    intro k a w hk inv
    obtain rfl : k = init.length := by omega
    rw [Nat.zero_add]
    refine wpOpsIn_tail tail init.length a w htl ?_
    refine relyEnd_of (Q := fun _ a w => wpListIn (Fence.wide.inRound l₀) nn P ops Q tail a w) init V a0 inv.slots.symm inv.defers.symm hl (fun d hnd => ?_) (fun k o d hk hd => ?_) (hE w inv.now inv.at_)
    · refine (inv.old d fun j hj hjd => ?_).symm
      have hj2 := hpre j init[j] (List.getElem?_eq_getElem hj)
      simp [relyDst, hj2] at hjd
      exact hnd init[j] (List.getElem_mem hj) hjd
    · exact inv.new k d (List.getElem?_eq_some_iff.1 hk).1 (by simp [relyDst, hpre k o hk, hd])
  | succ f ih =>
    intro k a w hk inv
    rw [show f + 1 + tail.length = (f + tail.length) + 1 by omega, List.range'_succ, wpOpsIn_cons]
    have hklt : k < init.length := by omega
    have hio : init[k]? = some init[k] := List.getElem?_eq_getElem hklt
    obtain ⟨dp, g, hD, h1⟩ := seqB_at init D 0 k _ hB hio
    have hstep := seqAll_at _ _ _ 0 k _ dp g hA hio hD
    rw [Nat.zero_add] at h1 hstep
    exact wpOpIn_mono (fun a' w' inv' => ih (k + 1) a' w' (by omega) inv') (seq_opI hnd hn ht hklt (hpre k _ hio) h1 hstep inv)
/-- **A region in the text's order; the operations from place m on are left as they stand.** -/
theorem wpIn_region_steps {id : Nat} (T : World → World → Prop) (J : Nat → World → Prop) (V : List (SV T)) (D : Deps) (n m : Nat) (hnd : noDefer ops = true) (hn : a0.tmps.size = n) (hlen : (ops.toList.take m).length = m) (hB : seqB ops n m 0 (ops.toList.take m) D = true)
    (ht : ∀ a b c : World, T a b → T b c → T a c) (hd : T w0 w0) (hJ : J 0 w0) (hl : m ≤ V.length)
    (hA : seqAll P Q T V J a0 w0 0 (ops.toList.take m) D V) (hE : ∀ w, T w0 w → J m w → relyEnd (fun _ a w => wpListIn (Fence.wide.inRound l₀) nn P ops Q (ops.toList.drop m) a w) T (ops.toList.take m) V a0 w) : (Code.region id ops false).wpIn (Fence.wide.inRound l₀) nn P Q a0 w0 := by
  refine wpIn_region ?_
  have hs := split_at (List.take_append_drop m ops.toList).symm
  rw [List.range_eq_range', hs.1]
  exact wpOpsIn_seq hnd (List.take_append_drop m ops.toList).symm hn (by rw [hlen]; exact hB) ht (by rw [hlen]; exact hl) hA (by rw [hlen]; exact hE) _ 0 a0 w0 (by omega) ⟨hd, hJ, rfl, rfl, fun j d hj => absurd hj (by omega), fun _ _ => rfl⟩
theorem wpIn_region_steps0 {id : Nat} (T : World → World → Prop) (V : List (SV T)) (D : Deps) (n m : Nat) (hnd : noDefer ops = true) (hn : a0.tmps.size = n) (hlen : (ops.toList.take m).length = m) (hB : seqB ops n m 0 (ops.toList.take m) D = true)
    (ht : ∀ a b c : World, T a b → T b c → T a c) (hd : T w0 w0) (hl : m ≤ V.length)
    (hA : relyAll P Q T V a0 w0 (ops.toList.take m) D V) (hE : ∀ w, T w0 w → relyEnd (fun _ a w => wpListIn (Fence.wide.inRound l₀) nn P ops Q (ops.toList.drop m) a w) T (ops.toList.take m) V a0 w) : (Code.region id ops false).wpIn (Fence.wide.inRound l₀) nn P Q a0 w0 :=
  wpIn_region_steps T (fun _ _ => True) V D n m hnd hn hlen hB ht hd trivial hl (seqAll_of 0 _ _ _ hA) fun w hT _ => hE w hT
theorem wpListIn_end {a : Act} {w : World} {l : List Oper} (hl : l = []) (h : Q .normal a w) : wpListIn (Fence.wide.inRound l₀) nn P ops Q l a w := by subst hl; exact h
theorem wpListIn_wp {a : Act} {w : World} {o : Oper} {l : List Oper} (hnd : noDefer ops = true) (hm : o ∈ ops) (hg : o.guard = none) (h : ∀ K : Act → World → Prop, (∀ a w, wpListIn (Fence.wide.inRound l₀) nn P ops Q l a w → K a w) → o.wp P a w K Q) : wpListIn (Fence.wide.inRound l₀) nn P ops Q (o :: l) a w :=
  wpListIn_plain hg fun K hK => wpIn_of_wp (fun c e => by
    have := Array.all_eq_true_iff_forall_mem.1 hnd o hm
    rw [e] at this; cases this) (h K hK)
end
end Go.Proofs.YtphbjamfhmcjcaaDoor
/- A frontier's root. -/
namespace Go.Proofs.YtphbjamfhmcjcaaDoor
open Go Go.RowKit Go.Shelf
attribute [local go_sem] Oper.semAt_some
set_option maxRecDepth 8000
set_option linter.all false
set_option maxHeartbeats 400000 in
theorem Size_any (g : Nat) (n : Int) (v : Value) (w : World) (h1 : w.rowIs g 35 2 (frF n v)) : Calls Tryd.prog 18 #[.pointer (some ⟨g, 0, none⟩)] w fun e w' => e = .returned (.int .i64 n) ∧ w = w' := by
  have c0 : w.cell? ⟨g, 0, none⟩ = some (.int .i64 n) := h1.cell (i := 0) (by omega)
  go_enter Tryd.func18, Tryd.ntmps18
  go_wp2
  go_ret
  exact ⟨rfl, rfl⟩
set_option maxHeartbeats 400000 in
theorem Size_none (w : World) : Calls Tryd.prog 18 #[.pointer none] w fun e w' => e = .returned (.int .i64 0) ∧ w = w' := by
  go_enter Tryd.func18, Tryd.ntmps18
  go_wp2
  go_ret
  exact ⟨rfl, rfl⟩
set_option maxHeartbeats 1000000 in
theorem FRoot_0 {node : Hs → Hs → Hs} {z : Hs} (hX : TreeH node z) (g : Nat) (v : Value) (w : World) (hT : Tables w) (hg : w.rowIs g 35 2 (frF 0 v)) : Cv 19 #[.pointer (some ⟨g, 0, none⟩)] w (.eq (.agg (rowA 32 (bF z)))) := by
  unfold Cv
  have HT := Lib.hid hT
  clear hT
  have hg0 := (NewT.alloc w (.cells (rowA 32 (bF fun _ => 0)) 24)).row hg
  go_enter Tryd.func19, Tryd.ntmps19
  go_upto_region 2 with (go_at_call 18; refine (Size_any g 0 v _ hg0).mono ?_; rintro _ _ ⟨rfl, rfl⟩)
  clear hg0 hg
  have r0 := rowIs_box w 24 32 (bF fun _ => 0)
  have hN := NewT.alloc w (.cells (rowA 32 (bF fun _ => 0)) 24)
  change Code.wp _ _ _ _ (w.alloc (.cells (rowA 32 (bF fun _ => 0)) 24))
  generalize w.alloc (.cells (rowA 32 (bF fun _ => 0)) 24) = W0 at r0 hN ⊢
  have R0 := Lib.hid r0
  have HN := Lib.hid hN
  replace HT := Lib.hid (hN.tables HT.out)
  clear r0 hN
  refine wp_region_steps0 NewT [SV.eq (.agg (rowA 32 (bF (z))))] [([], none)] 23 1 rfl rfl (by kernel_rfl) NewT.trans (NewT.refl _) (Nat.le_of_ble_eq_true rfl) ⟨?_, trivial⟩ ?_
  · intro a wx hT hF K hK
    refine rely_wp rfl ?_
    exact opr_cv (Sum_nil hX wx (hT.tables HT.out)) rfl Tryd.func20 (by kernel_rfl) (by kernel_rfl) (by simp only [List.map_toArray, List.map_cons, List.map_nil, eval_const]) hK
  · intro wx hT
    intro u h; obtain rfl := Eq.symm (h (by simp)); clear h
    refine relyEnd_nil rfl ?_
    simp only [Act.put, List.setIfInBounds_toArray, List.set_cons_zero, List.set_cons_succ]
    refine wpList_plain rfl (fun K hK => ?_)
    refine opr_store_new (B := w.heap.size) (W := w) info31 rfl rfl rfl (hT.row R0.out) (NewT.trans _ _ _ HN.out hT) (Nat.le_refl _) ?_
    intro w9 hB9 r9
    refine hK _ _ ?_
    refine wpList_end rfl ?_
    simp only [Act.put]
    go_simp
    go_wp2
    exact bodyPost_ret (results_row rfl _ rfl r9 Tryd.underlying24 info31) rfl ⟨_, rfl, hB9, rfl⟩
set_option maxHeartbeats 1000000 in
theorem FRoot_nil {node : Hs → Hs → Hs} {z : Hs} (hX : TreeH node z) (w : World) (hT : Tables w) : Cv 19 #[.pointer none] w (.eq (.agg (rowA 32 (bF z)))) := by
  unfold Cv
  have HT := Lib.hid hT
  clear hT
  go_enter Tryd.func19, Tryd.ntmps19
  go_upto_region 2 with (go_at_call 18; refine (Size_none _).mono ?_; rintro _ _ ⟨rfl, rfl⟩)

  have r0 := rowIs_box w 24 32 (bF fun _ => 0)
  have hN := NewT.alloc w (.cells (rowA 32 (bF fun _ => 0)) 24)
  change Code.wp _ _ _ _ (w.alloc (.cells (rowA 32 (bF fun _ => 0)) 24))
  generalize w.alloc (.cells (rowA 32 (bF fun _ => 0)) 24) = W0 at r0 hN ⊢
  have R0 := Lib.hid r0
  have HN := Lib.hid hN
  replace HT := Lib.hid (hN.tables HT.out)
  clear r0 hN
  refine wp_region_steps0 NewT [SV.eq (.agg (rowA 32 (bF (z))))] [([], none)] 23 1 rfl rfl (by kernel_rfl) NewT.trans (NewT.refl _) (Nat.le_of_ble_eq_true rfl) ⟨?_, trivial⟩ ?_
  · intro a wx hT hF K hK
    refine rely_wp rfl ?_
    exact opr_cv (Sum_nil hX wx (hT.tables HT.out)) rfl Tryd.func20 (by kernel_rfl) (by kernel_rfl) (by simp only [List.map_toArray, List.map_cons, List.map_nil, eval_const]) hK
  · intro wx hT
    intro u h; obtain rfl := Eq.symm (h (by simp)); clear h
    refine relyEnd_nil rfl ?_
    simp only [Act.put, List.setIfInBounds_toArray, List.set_cons_zero, List.set_cons_succ]
    refine wpList_plain rfl (fun K hK => ?_)
    refine opr_store_new (B := w.heap.size) (W := w) info31 rfl rfl rfl (hT.row R0.out) (NewT.trans _ _ _ HN.out hT) (Nat.le_refl _) ?_
    intro w9 hB9 r9
    refine hK _ _ ?_
    refine wpList_end rfl ?_
    simp only [Act.put]
    go_simp
    go_wp2
    exact bodyPost_ret (results_row rfl _ rfl r9 Tryd.underlying24 info31) rfl ⟨_, rfl, hB9, rfl⟩
/-- What the things from the top down come to. -/
def upF (node : Hs → Hs → Hs) : List Hs → Hs
  | [] => fun _ => 0
  | x :: xs => xs.foldl (fun r t => node t r) x
theorem upF_snoc (node : Hs → Hs → Hs) (x : Hs) (xs : List Hs) (y : Hs) : upF node ((x :: xs) ++ [y]) = node y (upF node (x :: xs)) := by
  simp [upF, List.foldl_append]
theorem upF_rev (node : Hs → Hs → Hs) (z : Hs) : ∀ (S : List Hs), S ≠ [] → upF node S.reverse = rootF node z S
  | [], h => absurd rfl h
  | [x], _ => rfl
  | x :: y :: S, _ => by
    have ih := upF_rev node z (y :: S) (by simp)
    obtain ⟨t, T, e⟩ : ∃ t T, (y :: S).reverse = t :: T := by
      cases h : (y :: S).reverse with
      | nil => simp at h
      | cons t T => exact ⟨t, T, rfl⟩
    rw [List.reverse_cons, e, upF_snoc, ← e, ih]
    rfl
theorem topL_map (S : List Hs) : (topL S S.length).map (·.2) = S.reverse := by
  apply List.ext_getElem?
  intro i
  unfold topL
  rw [List.map_map, List.getElem?_map]
  by_cases h : i < S.length
  · rw [List.getElem?_reverse h]
    simp [h, show S.length - 1 - i < S.length by omega]
  · rw [List.getElem?_eq_none (by simp; omega), List.getElem?_eq_none (by simp; omega)]; rfl
theorem topL_length (S : List Hs) (k : Nat) : (topL S k).length = k := by simp [topL]
def FRInv (node : Hs → Hs → Hs) (w : World) (pre : List (Nat × Hs)) (V : World) : Prop :=
  V.rowIs (w.heap.size + 1) 24 32 (bF (upF node (pre.map (·.2)))) ∧ V.rowIs w.heap.size 24 32 (bF fun _ => 0) ∧ Below w.heap.size w V
theorem opr_putmO {P : Program} {a : Act} {w : World} {o : Oper} {K : Act → World → Prop} {Q : Exit → Act → World → Prop} {t t' : TypeId} {x y : Operand} {g o0 n m : Nat} {f f0 F : Nat → Value} (ho : o.op = .store t x y) (hx : a.eval x = .pointer (some ⟨g, o0, none⟩)) (hy : a.eval y = .agg (rowA m f)) (hr : w.rowIs g t' n f0) (hm : o0 + m ≤ n) (hi : (P.info? t).map (·.size) = some m) (hone : ∀ i, (f i).oneCell' = true)
    (hF : ∀ i, i < n → F i = if o0 ≤ i ∧ i < o0 + m then f (i - o0) else f0 i) (h : ∀ w', RT g w w' → KeepsOthers w w' → w'.rowIs g t' n F → K (a.put o.dst undef) w') : o.wp P a w K Q := by
  refine wp_store_mid t x y ho g o0 (rowA m f) hx hy (by rw [rowA_size]; exact fun j hj => ⟨by simp [hr.cell (i := o0 + j) (by omega)], by simpa using hr.frozen (o0 + j)⟩) (by rw [rowA_size]; exact hi) (rowA_one _ _ hone) ?_
  refine h _ (RT.setCells _ _ _) (keepsOthers_setCells _ _ _ _) ((rowIs_setCells_at hr (rowA m f).toList o0).congr fun i hi => ?_)
  rw [hF i hi, rowA_toList]
  simp only [List.length_map, List.length_range]
  by_cases h : o0 ≤ i ∧ i < o0 + m
  · rw [if_pos h, if_pos h]
    simp [show i - o0 < m by omega]
  · rw [if_neg h, if_neg h]
set_option maxHeartbeats 4000000 in
theorem FRoot_1 {node : Hs → Hs → Hs} {z : Hs} (hX : TreeH node z) (g B : Nat) (n : Int) (v : Value) (S : List Hs) (w : World) (hT : Tables w) (hg : w.rowIs g 35 2 (frF n v)) (ho : OwnH w B v S) (hn : n ≠ 0) (hS : S ≠ []) (hl : S.length ≤ 100000) : Calls Tryd.prog 19 #[.pointer (some ⟨g, 0, none⟩)] w fun e w' => e = .returned (.agg (rowA 32 (bF (rootF node z S)))) ∧ Below w.heap.size w w' := by
  have HT := Lib.hid hT
  have hgl := hg.lt
  have hz : (n == 0) = false := beq_eq_false_iff_ne.2 hn
  have hg0 := (NewT.alloc w (.cells (rowA 32 (bF fun _ => 0)) 24)).row hg
  refine (callsIn_wide (n := 0)).1 ?_
  refine callsIn_of_wp_marks Tryd.func19 rfl trivial ?_ rfl
  simp only [Tryd.ntmps19, List.size_toArray, List.length_cons, List.length_nil, Nat.reduceAdd, Nat.reduceSub, Array.replicate_succ, Array.replicate_zero, List.push_toArray, List.append_toArray, List.nil_append, List.cons_append]
  gi_wp2_with fail
  refine ⟨trivial, rfl, (callsIn_wide.2 (Size_any g n v _ hg0)).mono ?_⟩
  rintro _ _ ⟨rfl, rfl⟩
  clear hg0
  gi_wp2_with fail
  refine ⟨trivial, rfl, (callsIn_wide.2 (fromTop_any ⟨g, 1, none⟩ _)).mono ?_⟩
  rintro e W3 ⟨rfl, hW3⟩
  have hW3' : ((w.alloc (.cells (rowA 32 (bF fun _ => 0)) 24)).alloc (.cells (rowA 32 (bF fun _ => 0)) 24)).alloc (.cells #[.pointer (some ⟨g, 1, none⟩)] 69) = W3 := hW3
  clear hW3
  have bA : W3.rowIs w.heap.size 24 32 (bF fun _ => 0) := by
    rw [← hW3']; exact ((rowIs_box w 24 32 (bF fun _ => 0)).alloc _).alloc _
  have bB : W3.rowIs (w.heap.size + 1) 24 32 (bF fun _ => 0) := by
    rw [← hW3']
    have := (rowIs_box (w.alloc (.cells (rowA 32 (bF fun _ => 0)) 24)) 24 32 (bF fun _ => 0)).alloc (.cells #[.pointer (some ⟨g, 1, none⟩)] 69)
    rwa [World.size_alloc] at this
  have bC : W3.cell? ⟨w.heap.size + 1 + 1, 0, none⟩ = some (.pointer (some ⟨g, 1, none⟩)) := by
    rw [← hW3']
    have := one_cell ((w.alloc (.cells (rowA 32 (bF fun _ => 0)) 24)).alloc (.cells (rowA 32 (bF fun _ => 0)) 24)) (.pointer (some ⟨g, 1, none⟩)) 69 0 _ rfl
    rw [Addr.add_zero', World.size_alloc, World.size_alloc] at this
    exact this
  have hB3 : NewT w W3 := by
    rw [← hW3']; exact NewT.trans _ _ _ (NewT.trans _ _ _ (NewT.alloc _ _) (NewT.alloc _ _)) (NewT.alloc _ _)
  have hs3 : W3.heap.size = w.heap.size + 1 + 1 + 1 := by rw [← hW3']; simp
  clear hW3'
  have seq := fromTop1_seq [w.heap.size + 1] (w.heap.size + 1 + 1) g B n v S W3 (by simp) (by simp; omega) bC (hB3.row hg) (ho.new hB3) (fun k hk e => by simp at hk; have := (ho.lt k e).2; omega) hl
  clear bC
  gi_wp2_with fail
  refine range_law2 (n := 0) (gf := 41) (lb := #[.pointer (some ⟨w.heap.size + 1 + 1, 0, none⟩)]) rfl (enters_of Tryd.func41 (by kernel_rfl) rfl) seq (Below.refl _ _) KeepBut.trans (fun V k o o' _ h hc => KeepBut.putObj h hc)
    (fun _ x V k o o' _ h hc hG => hG) (fun _ => rfl)
    (FRInv node w) (fun _ _ _ => False)
    (fun pre A B h hb => ⟨rowIs_below h.1 hb (by omega), rowIs_below h.2.1 hb (by omega), h.2.2.trans (hb.mono (by omega))⟩)
    (fun _ _ _ _ h _ => h)
    ⟨bB, bA, hB3.out⟩
    (fun x a1 V => ∃ p, a1 = { tmps := #[.pointer (some ⟨g, 0, none⟩), undef, .pointer (some ⟨w.heap.size, 0, none⟩), .pointer (some ⟨w.heap.size + 1, 0, none⟩), .int .i64 (x.1 : Int), .pointer (some ⟨p, 0, none⟩), .pointer (some ⟨g, 0, none⟩), .int .i64 n, .bool false, undef, .pointer (some ⟨g, 0, none⟩), .pointer (some ⟨g, 0, none⟩), .pointer (some ⟨g, 1, none⟩), .func (.func 41) #[] #[.pointer (some ⟨w.heap.size + 1 + 1, 0, none⟩)], .int .i64 (x.1 : Int), .agg (rowA 32 (bF x.2)), undef, undef, undef, undef, undef, undef, undef], defers := [] } ∧ V.rowIs p 24 32 (bF x.2))
    (fun A B h => KeepBut.below h) (fun _ _ _ _ h _ => h) (fun x a1 V k o o' _ h hc hA => by obtain ⟨p, h1, h2⟩ := hA; exact ⟨p, h1, (KeepBut.putObj (L := []) h hc).row (by simp) h2⟩) ?assign ?body ?done ?stop
  case assign =>
    intro l2 x V K hK
    gi_upto_region 6 with fail
    refine wpIn_region_lit ?_
    refine wpListIn_wp (by kernel_rfl) (by simp) rfl (fun K hK => ?_)
    refine opr_alloc_at rfl (hK _ _ ?_)
    clear hK K
    refine wpListIn_wp (by kernel_rfl) (by simp) rfl (fun K hK => ?_)
    refine opr_putmO (F := bF x.2) rfl rfl rfl (rowIs_box V 24 32 (bF fun _ => 0)) (by decide) info31 (fun _ => rfl) (fun i hi => by rw [if_pos (by omega), Nat.sub_zero]) ?_
    intro w9 hR9 hK9 r9
    refine hK _ _ ?_
    clear hK K
    refine wpListIn_end rfl ?_
    simp only [Act.put, List.setIfInBounds_toArray, List.set_cons_zero, List.set_cons_succ]
    go_simp
    exact hK _ _ ((NewT.alloc _ _).out.trans (hR9.below.mono (Nat.le_refl _))) ⟨V.heap.size, rfl, r9⟩
  case body =>
    rintro l2 pre ⟨i, d⟩ a1 V hl2 ⟨hV, hZ, hBw⟩ ⟨hpre, hd, hlt⟩ ⟨p, rfl, hp⟩
    simp only at hpre hd hlt hp ⊢
    have HV0 := Lib.hid hV
    have HZ := Lib.hid hZ
    have HP := Lib.hid hp
    have HBW := Lib.hid hBw
    have HL := Lib.hid (topL_length S i)
    rw [← hpre] at HL
    clear hV hZ hp hBw hd hlt
    by_cases h0 : i = 0
    · subst h0
      obtain rfl : pre = [] := List.eq_nil_of_length_eq_zero HL.out
      obtain ⟨r, hr⟩ : ∃ r, upF node (([] : List (Nat × Hs)).map (·.2)) = r := ⟨_, rfl⟩
      rw [hr] at HV0
      have HV := HV0
      gi_upto_region 8 with fail
      refine wpIn_region_steps0 NewT [SV.eq (.agg (rowA 32 (bF (d))))] [([(5, none)], none)] 23 1 (by kernel_rfl) rfl rfl (by kernel_rfl) NewT.trans (NewT.refl _) (Nat.le_of_ble_eq_true rfl) ⟨?_, trivial⟩ ?_
      · intro a wx hT hF K hK
        obtain ⟨f5, _⟩ := hF
        have f5 : a.tmps.getD 5 undef = .pointer (some ⟨p, 0, none⟩) := f5
        refine rely_wp rfl ?_
        exact opr_load_hash rfl f5 (hT.row HP.out) (hK _ _ (NewT.refl _) rfl)
      · intro wx hT
        intro u h; obtain rfl := Eq.symm (h (by simp)); clear h
        refine relyEnd_nil rfl ?_
        simp only [Act.put, List.setIfInBounds_toArray, List.set_cons_zero, List.set_cons_succ]
        refine wpListIn_wp (by kernel_rfl) (by simp) rfl (fun K hK => ?_)
        refine opr_putmO (F := bF (d)) rfl rfl rfl (hT.row HV.out) (by decide) info31 (fun _ => rfl) (fun i hi => by rw [if_pos (by omega), Nat.sub_zero]) ?_
        intro w9 hR9 hK9 r9
        refine hK _ _ ?_
        refine wpListIn_end rfl ?_
        simp only [Act.put]
        go_simp
        gi_wp2
        refine ⟨((keepsOthers_below hT.out).trans hK9).from _, (KeepBut.below hT.out).trans hR9.keep, ?_, hR9.row (by omega) (hT.row HZ.out), HBW.out.trans ((hT.out.mono HBW.out.size).trans (hR9.below.mono (by omega)))⟩
        rw [List.map_append]
        skip
        exact r9
    · obtain ⟨y, ys, rfl⟩ : ∃ y ys, pre = y :: ys := by
        cases pre with
        | nil => exact absurd HL.out.symm h0
        | cons y ys => exact ⟨y, ys, rfl⟩
      obtain ⟨r, hr⟩ : ∃ r, upF node ((y :: ys).map (·.2)) = r := ⟨_, rfl⟩
      rw [hr] at HV0
      have HV := HV0
      have t0 : ((i : Int) == 0) = false := beq_eq_false_iff_ne.2 (by omega)
      gi_upto_region 9 with fail
      clear t0
      refine wpIn_region_steps0 NewT [SV.eq (.agg (rowA 32 (bF (d)))), SV.eq (.agg (rowA 32 (bF (r)))), SV.eq (.agg (rowA 32 (bF (node (d) (r)))))] [([(5, none)], none), ([(3, none)], none), ([(19, some 0), (20, some 1)], none)] 23 3 (by kernel_rfl) rfl rfl (by kernel_rfl) NewT.trans (NewT.refl _) (Nat.le_of_ble_eq_true rfl) ⟨?_, ?_, ?_, trivial⟩ ?_
      · intro a wx hT hF K hK
        obtain ⟨f5, _⟩ := hF
        have f5 : a.tmps.getD 5 undef = .pointer (some ⟨p, 0, none⟩) := f5
        refine rely_wp rfl ?_
        exact opr_load_hash rfl f5 (hT.row HP.out) (hK _ _ (NewT.refl _) rfl)
      · intro a wx hT hF K hK
        obtain ⟨f3, _⟩ := hF
        have f3 : a.tmps.getD 3 undef = .pointer (some ⟨w.heap.size + 1, 0, none⟩) := f3
        refine rely_wp rfl ?_
        exact opr_load_hash rfl f3 (hT.row HV.out) (hK _ _ (NewT.refl _) rfl)
      · intro a wx hT hF K hK
        obtain ⟨f19, f20, _⟩ := hF
        have f19 : a.tmps.getD 19 undef = .agg (rowA 32 (bF (d))) := f19
        have f20 : a.tmps.getD 20 undef = .agg (rowA 32 (bF (r))) := f20
        refine rely_wp rfl ?_
        exact opr_cv (Node_cv hX (d) (r) wx (HT.out.below (HBW.out.trans (hT.out.mono HBW.out.size)))) rfl Tryd.func12 (by kernel_rfl) (by kernel_rfl) (by simp only [List.map_toArray, List.map_cons, List.map_nil, eval_tmp, f19, f20]) hK
      · intro wx hT
        intro u h; obtain rfl := Eq.symm (h (by simp)); clear h
        intro u h; obtain rfl := Eq.symm (h (by simp)); clear h
        intro u h; obtain rfl := Eq.symm (h (by simp)); clear h
        refine relyEnd_nil rfl ?_
        simp only [Act.put, List.setIfInBounds_toArray, List.set_cons_zero, List.set_cons_succ]
        refine wpListIn_wp (by kernel_rfl) (by simp) rfl (fun K hK => ?_)
        refine opr_putmO (F := bF (node d r)) rfl rfl rfl (hT.row HV.out) (by decide) info31 (fun _ => rfl) (fun i hi => by rw [if_pos (by omega), Nat.sub_zero]) ?_
        intro w9 hR9 hK9 r9
        refine hK _ _ ?_
        refine wpListIn_end rfl ?_
        simp only [Act.put]
        go_simp
        gi_wp2
        refine ⟨((keepsOthers_below hT.out).trans hK9).from _, (KeepBut.below hT.out).trans hR9.keep, ?_, hR9.row (by omega) (hT.row HZ.out), HBW.out.trans ((hT.out.mono HBW.out.size).trans (hR9.below.mono (by omega)))⟩
        rw [List.map_append]
        rw [List.map_cons, List.map_cons, List.map_nil, upF_snoc, ← List.map_cons, hr]
        exact r9
  case done =>
    rintro D xs V hD hS' ⟨hV, hZ, hBw⟩ hK
    obtain ⟨r, hr⟩ : ∃ r, upF node (xs.map (·.2)) = r := ⟨_, rfl⟩
    rw [hr] at hV
    have Hr := Lib.hid hr
    have HS := Lib.hid hS'
    have HV := Lib.hid hV
    have HZ := Lib.hid hZ
    have HBW := Lib.hid hBw
    have HKD := Lib.hid hK
    clear hr hS' hV hZ hBw hK
    gi_upto_region 10 with fail
    refine wpIn_wide.2 ?_
    refine wp_region_steps0 NewT [SV.eq (.agg (rowA 32 (bF (r))))] [([(3, none)], none)] 23 1 rfl rfl (by kernel_rfl) NewT.trans (NewT.refl _) (Nat.le_of_ble_eq_true rfl) ⟨?_, trivial⟩ ?_
    · intro a wx hT hF K hK
      obtain ⟨f3, _⟩ := hF
      have f3 : a.tmps.getD 3 undef = .pointer (some ⟨w.heap.size + 1, 0, none⟩) := f3
      refine rely_wp rfl ?_
      exact opr_load_hash rfl f3 (hT.row HV.out) (hK _ _ (NewT.refl _) rfl)
    · intro wx hT
      intro u h; obtain rfl := Eq.symm (h (by simp)); clear h
      refine relyEnd_nil rfl ?_
      simp only [Act.put, List.setIfInBounds_toArray, List.set_cons_zero, List.set_cons_succ]
      refine wpList_plain rfl (fun K hK => ?_)
      refine opr_putmO (F := bF r) rfl rfl rfl (hT.row HZ.out) (by decide) info31 (fun _ => rfl) (fun i hi => by rw [if_pos (by omega), Nat.sub_zero]) ?_
      intro w9 hR9 hK9 r9
      refine hK _ _ ?_
      refine wpList_end rfl ?_
      simp only [Act.put]
      go_simp
      gi_wp2
      have hK2 := hK9.same D _ ((keepsOthers_below hT.out).same D _ HKD.out rfl) rfl
      refine ⟨by simp, .inl ⟨_, _, rfl, run_takeDeferred hK2, ?_⟩⟩
      refine ⟨_, results_row rfl _ rfl (rowIs_putObj r9 (by omega) _) Tryd.underlying24 info31, ?_, ?_⟩
      · rw [← Hr.out, HS.out, topL_map, upF_rev node z S hS]
      · exact (HBW.out.trans ((hT.out.mono HBW.out.size).trans (hR9.below.mono (Nat.le_refl _)))).trans (below_putObj (by omega) _)
  case stop =>
    rintro D c pre2 V hD _ h hK
    exact h.elim
theorem FRoot_cv {node : Hs → Hs → Hs} {z : Hs} (hX : TreeH node z) (g B : Nat) (n : Int) (S : List Hs) (w : World) (hT : Tables w) (h : FrAt w g B n S) (hn : n = 0 ↔ S = []) (hl : S.length ≤ 100000) : Cv 19 #[.pointer (some ⟨g, 0, none⟩)] w (.eq (.agg (rowA 32 (bF (rootF node z S))))) := by
  obtain ⟨v, hg, ho, _, _⟩ := h
  by_cases h0 : n = 0
  · obtain rfl := hn.1 h0
    subst h0
    exact FRoot_0 hX g v w hT hg
  · exact Cv.of_eq (FRoot_1 hX g B n v S w hT hg ho h0 (fun e => h0 (hn.2 e)) hl)
end Go.Proofs.YtphbjamfhmcjcaaDoor
/- A frontier's whole trees. -/
namespace Go.Proofs.YtphbjamfhmcjcaaDoor
open Go Go.RowKit Go.Shelf
attribute [local go_sem] Oper.semAt_some
set_option maxRecDepth 8000
set_option linter.all false
set_option maxHeartbeats 400000 in
theorem height_any (g : Nat) (n : Int) (A : Option Addr) (m c : Nat) (w : World) (h1 : w.rowIs g 35 2 (frF n (.slice A m c))) : Calls Tryd.prog 36 #[.pointer (some ⟨g, 1, none⟩)] w fun e w' => e = .returned (.int .i64 (m : Int)) ∧ w = w' := by
  have c1 : w.cell? ⟨g, 1, none⟩ = some (.slice A m c) := h1.cell (i := 1) (by omega)
  go_enter Tryd.func36, Tryd.ntmps36
  go_wp2
  go_ret
  exact ⟨rfl, rfl⟩
set_option maxHeartbeats 1000000 in
theorem Trees_0 (g : Nat) (v : Value) (w : World) (hg : w.rowIs g 35 2 (frF 0 v)) : Cv 21 #[.pointer (some ⟨g, 0, none⟩)] w (svH []) := by
  unfold Cv
  go_enter Tryd.func21, Tryd.ntmps21
  go_wp2_with (go_at_call 18; refine (Size_any g 0 v _ hg).mono ?_; rintro _ _ ⟨rfl, rfl⟩)
  go_ret
  exact ⟨_, rfl, NewT.refl _, rdH_nil _⟩
set_option maxHeartbeats 1000000 in
theorem Trees_nil (w : World) : Cv 21 #[.pointer none] w (svH []) := by
  unfold Cv
  go_enter Tryd.func21, Tryd.ntmps21
  go_wp2_with (go_at_call 18; refine (Size_none _).mono ?_; rintro _ _ ⟨rfl, rfl⟩)
  go_ret
  exact ⟨_, rfl, NewT.refl _, rdH_nil _⟩
theorem made_rowH (N : Nat) : madeCells (Value.agg (rowA 32 (bF fun _ => 0))).cells N = rowA N (fun _ => .int .u8 0) := by
  apply Array.ext_getElem?
  intro i
  by_cases h : i < N
  · rw [rowA_at _ _ _ h]
    have hm : i % 32 < 32 := Nat.mod_lt _ (by omega)
    have e : (Value.agg (rowA 32 (bF fun _ => 0))).cells = rowA 32 (bF fun _ => 0) := rfl
    rw [e]
    simp only [madeCells, rowA_size, Array.getElem?_map, Array.getElem?_range, h, if_true, Option.map_some]
    rw [getElem!_def, rowA_at _ _ _ hm]
    rfl
  · rw [Array.getElem?_eq_none (by rw [size_madeCells]; omega), Array.getElem?_eq_none (by rw [rowA_size]; omega)]
theorem run_makeH (m : Nat) (hm : m ≤ 1000000) (W : World) : (Instr.makeSlice 31 (.int .i64 (m : Int)) (.int .i64 (m : Int))).run Tryd.prog W = .ok (.slice (some ⟨W.heap.size, 0, none⟩) m m) (W.alloc (.cells (rowA (m * 32) fun _ => .int .u8 0) 24)) := by
  obtain ⟨i0, hi, hz0, hz1, hz2⟩ := info_parts infoH
  have := run_make (P := Tryd.prog) W 31 24 i0 _ Tryd.underlying31 hi hz0 .i64 .i64 (m : Int) (m : Int) (by omega) (by omega) (by rw [hz2]; omega) (by omega)
  rw [this, hz1, Int.toNat_natCast, made_rowH]
/-- The answer's cells behind k rounds. -/
def trF (S : List Hs) (k q : Nat) : Value := if S.length - k ≤ q / 32 then bF (S.getD (q / 32) fun _ => 0) (q % 32) else .int .u8 0
theorem trF_step (S : List Hs) (k : Nat) (d : Hs) (hk : k < S.length) (hd : S[S.length - 1 - k]? = some d) (i : Nat) : trF S (k + 1) i = if (S.length - 1 - k) * 32 ≤ i ∧ i < (S.length - 1 - k) * 32 + 32 then bF d (i - (S.length - 1 - k) * 32) else trF S k i := by
  unfold trF
  by_cases h : (S.length - 1 - k) * 32 ≤ i ∧ i < (S.length - 1 - k) * 32 + 32
  · have e : i / 32 = S.length - 1 - k := by omega
    rw [if_pos h, if_pos (by omega), e, show i % 32 = i - (S.length - 1 - k) * 32 by omega]
    simp [List.getD, hd]
  · rw [if_neg h]
    by_cases h2 : S.length - k ≤ i / 32
    · rw [if_pos h2, if_pos (by omega)]
    · rw [if_neg h2, if_neg (by omega)]
theorem opr_idxV {a : Act} {w : World} {o : Oper} {K : Act → World → Prop} {Q : Exit → Act → World → Prop} {x y : Operand} {b off n c i : Nat} (hi : i < n) (ho : o.op = .indexAddr 31 x y) (hx : a.eval x = .slice (some ⟨b, off, none⟩) n c) (hy : a.eval y = .int .i64 (i : Int)) (h : K (a.put o.dst (.pointer (some ⟨b, off + i * 32, none⟩))) w) : o.wp Tryd.prog a w K Q := by
  obtain ⟨dst, op, type, pos, after, guard⟩ := o
  simp only at ho
  subst ho
  exact opr_val (s := Instr.indexAt 31 (a.eval x) (a.eval y)) rfl (by rw [hx, hy]; exact run_idxH w hi) h
def TRInv (S : List Hs) (w : World) (pre : List (Nat × Hs)) (V : World) : Prop :=
  V.rowIs w.heap.size 24 (S.length * 32) (trF S pre.length) ∧ V.rowIs (w.heap.size + 1) 31 1 (fun _ => .slice (some ⟨w.heap.size, 0, none⟩) S.length S.length) ∧ Below w.heap.size w V
set_option maxHeartbeats 4000000 in
theorem Trees_1 (g B : Nat) (n : Int) (v : Value) (S : List Hs) (w : World) (hg : w.rowIs g 35 2 (frF n v)) (ho : OwnH w B v S) (hn : n ≠ 0) (hl : S.length ≤ 100000) : Calls Tryd.prog 21 #[.pointer (some ⟨g, 0, none⟩)] w fun e w' => ∃ u, e = .returned u ∧ NewT w w' ∧ RdH w' u S := by
  have hgl := hg.lt
  have hz : (n == 0) = false := beq_eq_false_iff_ne.2 hn
  obtain ⟨A, c, hv, _⟩ := ho.cap
  subst hv
  have hmk := run_makeH S.length (by omega)
  refine (callsIn_wide (n := 0)).1 ?_
  refine callsIn_of_wp_marks Tryd.func21 rfl trivial ?_ rfl
  simp only [Tryd.ntmps21, List.size_toArray, List.length_cons, List.length_nil, Nat.reduceAdd, Nat.reduceSub, Array.replicate_succ, Array.replicate_zero, List.push_toArray, List.append_toArray, List.nil_append, List.cons_append]
  gi_wp2_with fail
  refine ⟨trivial, rfl, (callsIn_wide.2 (Size_any g n _ _ hg)).mono ?_⟩
  rintro _ _ ⟨rfl, rfl⟩
  gi_wp2_with fail
  refine ⟨trivial, rfl, (callsIn_wide.2 (height_any g n A S.length c _ hg)).mono ?_⟩
  rintro _ _ ⟨rfl, rfl⟩
  gi_wp2_with fail
  refine ⟨trivial, rfl, (callsIn_wide.2 (fromTop_any ⟨g, 1, none⟩ _)).mono ?_⟩
  rintro e W3 ⟨rfl, hW3⟩
  have hW3' : ((w.alloc (.cells (rowA (S.length * 32) fun _ => .int .u8 0) 24)).alloc (.cells #[(.slice (some ⟨w.heap.size, 0, none⟩) S.length S.length)] 31)).alloc (.cells #[.pointer (some ⟨g, 1, none⟩)] 69) = W3 := hW3
  clear hW3 hmk
  have bA : W3.rowIs w.heap.size 24 (S.length * 32) (trF S 0) := by
    rw [← hW3']; exact (((rowIs_box w 24 (S.length * 32) (fun _ => .int .u8 0)).alloc _).alloc _).congr fun i hi => by unfold trF; rw [if_neg (by omega)]
  have bB : W3.rowIs (w.heap.size + 1) 31 1 (fun _ => (.slice (some ⟨w.heap.size, 0, none⟩) S.length S.length)) := by
    rw [← hW3']
    have := (rowIs_box (w.alloc (.cells (rowA (S.length * 32) fun _ => .int .u8 0) 24)) 31 1 (fun _ => (.slice (some ⟨w.heap.size, 0, none⟩) S.length S.length))).alloc (.cells #[.pointer (some ⟨g, 1, none⟩)] 69)
    rwa [World.size_alloc] at this
  have bC : W3.cell? ⟨w.heap.size + 1 + 1, 0, none⟩ = some (.pointer (some ⟨g, 1, none⟩)) := by
    rw [← hW3']
    have := one_cell ((w.alloc (.cells (rowA (S.length * 32) fun _ => .int .u8 0) 24)).alloc (.cells #[(.slice (some ⟨w.heap.size, 0, none⟩) S.length S.length)] 31)) (.pointer (some ⟨g, 1, none⟩)) 69 0 _ rfl
    rw [Addr.add_zero', World.size_alloc, World.size_alloc] at this
    exact this
  have hB3 : NewT w W3 := by
    rw [← hW3']; exact NewT.trans _ _ _ (NewT.trans _ _ _ (NewT.alloc _ _) (NewT.alloc _ _)) (NewT.alloc _ _)
  have hs3 : W3.heap.size = w.heap.size + 1 + 1 + 1 := by rw [← hW3']; simp
  clear hW3'
  have seq := fromTop1_seq [w.heap.size] (w.heap.size + 1 + 1) g B n _ S W3 (by simp; omega) (by simp; omega) bC (hB3.row hg) (ho.new hB3) (fun k hk e => by simp at hk; have := (ho.lt k e).2; omega) hl
  clear bC
  have HSL := Lib.hid hl
  gi_wp2_with fail
  refine range_law2 (n := 0) (gf := 41) (lb := #[.pointer (some ⟨w.heap.size + 1 + 1, 0, none⟩)]) rfl (enters_of Tryd.func41 (by kernel_rfl) rfl) seq (Below.refl _ _) KeepBut.trans (fun V k o o' _ h hc => KeepBut.putObj h hc)
    (fun _ x V k o o' _ h hc hG => hG) (fun _ => rfl)
    (TRInv S w) (fun _ _ _ => False)
    (fun pre A B h hb => ⟨rowIs_below h.1 hb (by omega), rowIs_below h.2.1 hb (by omega), h.2.2.trans (hb.mono (by omega))⟩)
    (fun _ _ _ _ h _ => h)
    ⟨bA, bB, hB3.out⟩
    (fun x a1 V => ∃ p, a1 = { tmps := #[.pointer (some ⟨g, 0, none⟩), undef, .slice none 0 0, .pointer (some ⟨w.heap.size + 1, 0, none⟩), .int .i64 (x.1 : Int), .pointer (some ⟨p, 0, none⟩), .pointer (some ⟨g, 0, none⟩), .int .i64 n, .bool false, .pointer (some ⟨g, 0, none⟩), .pointer (some ⟨g, 0, none⟩), .pointer (some ⟨g, 1, none⟩), .int .i64 (S.length : Int), (.slice (some ⟨w.heap.size, 0, none⟩) S.length S.length), .pointer (some ⟨g, 0, none⟩), .pointer (some ⟨g, 0, none⟩), .pointer (some ⟨g, 1, none⟩), .func (.func 41) #[] #[.pointer (some ⟨w.heap.size + 1 + 1, 0, none⟩)], .int .i64 (x.1 : Int), .agg (rowA 32 (bF x.2)), undef, undef, undef, undef, undef, undef, undef, undef, undef], defers := [] } ∧ V.rowIs p 24 32 (bF x.2))
    (fun A B h => KeepBut.below h) (fun _ _ _ _ h _ => h) (fun x a1 V k o o' _ h hc hA => by obtain ⟨p, h1, h2⟩ := hA; exact ⟨p, h1, (KeepBut.putObj (L := []) h hc).row (by simp) h2⟩) ?assign ?body ?done ?stop
  case assign =>
    intro l2 x V K hK
    gi_upto_region 6 with fail
    refine wpIn_region_lit ?_
    refine wpListIn_wp (by kernel_rfl) (by simp) rfl (fun K hK => ?_)
    refine opr_alloc_at rfl (hK _ _ ?_)
    clear hK K
    refine wpListIn_wp (by kernel_rfl) (by simp) rfl (fun K hK => ?_)
    refine opr_putmO (F := bF x.2) rfl rfl rfl (rowIs_box V 24 32 (bF fun _ => 0)) (by decide) info31 (fun _ => rfl) (fun i hi => by rw [if_pos (by omega), Nat.sub_zero]) ?_
    intro w9 hR9 hK9 r9
    refine hK _ _ ?_
    clear hK K
    refine wpListIn_end rfl ?_
    simp only [Act.put, List.setIfInBounds_toArray, List.set_cons_zero, List.set_cons_succ]
    go_simp
    exact hK _ _ ((NewT.alloc _ _).out.trans (hR9.below.mono (Nat.le_refl _))) ⟨V.heap.size, rfl, r9⟩
  case body =>
    rintro l2 pre ⟨i, d⟩ a1 V hl2 ⟨hV, hZ, hBw⟩ ⟨hpre, hd, hlt⟩ ⟨p, rfl, hp⟩
    simp only at hpre hd hlt hp ⊢
    have HL := Lib.hid (topL_length S i)
    rw [← hpre] at HL
    rw [HL.out] at hV
    obtain ⟨j, hj⟩ : ∃ j, S.length - 1 - i = j := ⟨_, rfl⟩
    have HV := Lib.hid hV
    have HBX := Lib.hid hZ
    have HP := Lib.hid hp
    have HBW := Lib.hid hBw
    have HD := Lib.hid hd
    have HI := Lib.hid hlt
    have HJE := Lib.hid hj
    have HJ : Hid (j < S.length) := Lib.hid (by omega)
    have HJI : Hid ((S.length : Int) - 1 - (i : Int) = (j : Int)) := Lib.hid (by omega)
    clear hV hZ hp hBw hd hlt hj hpre
    gi_upto_region 7 with fail
    refine wpIn_region_steps0 NewT [SV.eq ((.slice (some ⟨w.heap.size, 0, none⟩) S.length S.length)), SV.eq ((.slice (some ⟨w.heap.size, 0, none⟩) S.length S.length)), SV.eq (.int .i64 ((S.length : Int))), SV.eq (.int .i64 ((S.length : Int) - 1)), SV.eq (.int .i64 ((i : Int))), SV.eq (.int .i64 ((j : Int))), SV.eq (.agg (rowA 32 (bF (d)))), SV.eq (.pointer (some ⟨w.heap.size, j * 32, none⟩))] [([(3, none)], none), ([(3, none)], none), ([(21, some 1)], none), ([(22, some 2)], none), ([(4, none)], none), ([(23, some 3), (24, some 4)], none), ([(5, none)], none), ([(20, some 0), (25, some 5)], none)] 29 8 (by kernel_rfl) rfl rfl (by kernel_rfl) NewT.trans (NewT.refl _) (Nat.le_of_ble_eq_true rfl) ⟨?_, ?_, ?_, ?_, ?_, ?_, ?_, ?_, trivial⟩ ?_
    · intro a wx hT hF K hK
      obtain ⟨f3, _⟩ := hF
      have f3 : a.tmps.getD 3 undef = .pointer (some ⟨w.heap.size + 1, 0, none⟩) := f3
      refine rely_wp rfl ?_
      exact opr_ldHs (hT.row HBX.out) (by decide) rfl rfl f3 (hK _ _ (NewT.refl _) rfl)
    · intro a wx hT hF K hK
      obtain ⟨f3, _⟩ := hF
      have f3 : a.tmps.getD 3 undef = .pointer (some ⟨w.heap.size + 1, 0, none⟩) := f3
      refine rely_wp rfl ?_
      exact opr_ldHs (hT.row HBX.out) (by decide) rfl rfl f3 (hK _ _ (NewT.refl _) rfl)
    · intro a wx hT hF K hK
      obtain ⟨f21, _⟩ := hF
      have f21 : a.tmps.getD 21 undef = (.slice (some ⟨w.heap.size, 0, none⟩) S.length S.length) := f21
      refine rely_wp rfl ?_
      exact opr_len rfl Tryd.underlying31 f21 (hK _ _ (NewT.refl _) rfl)
    · intro a wx hT hF K hK
      obtain ⟨f22, _⟩ := hF
      have f22 : a.tmps.getD 22 undef = .int .i64 ((S.length : Int)) := f22
      refine rely_wp rfl ?_
      exact opr_sub (r := (S.length : Int) - 1) Tryd.underlying3 (by unfold wrap64; have := HSL.out; omega) rfl f22 rfl (hK _ _ (NewT.refl _) rfl)
    · intro a wx hT hF K hK
      obtain ⟨f4, _⟩ := hF
      have f4 : a.tmps.getD 4 undef = .int .i64 ((i : Int)) := f4
      refine rely_wp rfl ?_
      exact opr_move (.inl rfl) (hK _ _ (NewT.refl _) f4)
    · intro a wx hT hF K hK
      obtain ⟨f23, f24, _⟩ := hF
      have f23 : a.tmps.getD 23 undef = .int .i64 ((S.length : Int) - 1) := f23
      have f24 : a.tmps.getD 24 undef = .int .i64 ((i : Int)) := f24
      refine rely_wp rfl ?_
      exact opr_sub (r := (j : Int)) Tryd.underlying3 (by unfold wrap64; have := HSL.out; have := HJI.out; omega) rfl f23 f24 (hK _ _ (NewT.refl _) rfl)
    · intro a wx hT hF K hK
      obtain ⟨f5, _⟩ := hF
      have f5 : a.tmps.getD 5 undef = .pointer (some ⟨p, 0, none⟩) := f5
      refine rely_wp rfl ?_
      exact opr_load_hash rfl f5 (hT.row HP.out) (hK _ _ (NewT.refl _) rfl)
    · intro a wx hT hF K hK
      obtain ⟨f20, f25, _⟩ := hF
      have f20 : a.tmps.getD 20 undef = (.slice (some ⟨w.heap.size, 0, none⟩) S.length S.length) := f20
      have f25 : a.tmps.getD 25 undef = .int .i64 ((j : Int)) := f25
      refine rely_wp rfl ?_
      exact opr_idxV (i := j) HJ.out rfl f20 f25 (hK _ _ (NewT.refl _) (by rw [Nat.zero_add]; rfl))
    · intro wx hT
      intro u h; obtain rfl := Eq.symm (h (by simp)); clear h
      intro u h; obtain rfl := Eq.symm (h (by simp)); clear h
      intro u h; obtain rfl := Eq.symm (h (by simp)); clear h
      intro u h; obtain rfl := Eq.symm (h (by simp)); clear h
      intro u h; obtain rfl := Eq.symm (h (by simp)); clear h
      intro u h; obtain rfl := Eq.symm (h (by simp)); clear h
      intro u h; obtain rfl := Eq.symm (h (by simp)); clear h
      intro u h; obtain rfl := Eq.symm (h (by simp)); clear h
      refine relyEnd_nil rfl ?_
      simp only [Act.put, List.setIfInBounds_toArray, List.set_cons_zero, List.set_cons_succ]
      refine wpListIn_wp (by kernel_rfl) (by simp) rfl (fun K hK => ?_)
      refine opr_putmO (F := trF S (i + 1)) rfl rfl rfl (hT.row HV.out) (by have := HJ.out; omega) info31 (fun _ => rfl) (fun q hq => by have := trF_step S i d HI.out HD.out q; rw [HJE.out] at this; exact this) ?_
      intro w9 hR9 hK9 r9
      refine hK _ _ ?_
      refine wpListIn_end rfl ?_
      simp only [Act.put]
      go_simp
      gi_wp2
      refine ⟨((keepsOthers_below hT.out).trans hK9).from _, (KeepBut.below hT.out).trans hR9.keep, ?_, hR9.row (by omega) (hT.row HBX.out), HBW.out.trans ((hT.out.mono HBW.out.size).trans (hR9.below.mono (Nat.le_refl _)))⟩
      rw [List.length_append, HL.out]
      exact r9
  case done =>
    rintro D xs V hD hS' ⟨hV, hZ, hBw⟩ hK
    rw [hS', topL_length] at hV
    have HV := Lib.hid hV
    have HBW := Lib.hid hBw
    have HKD := Lib.hid hK
    have cZ := hZ.cell (i := 0) (by omega)
    clear hS' hV hZ hBw hK
    gi_wp2
    refine ⟨by simp, .inl ⟨_, _, rfl, run_takeDeferred HKD.out, ?_⟩⟩
    refine ⟨_, results_tmp rfl _ _ _, _, rfl, NewT.of (HBW.out.trans (below_putObj (by omega) _)), ?_⟩
    refine rdH_row (rowIs_putObj HV.out (by omega) _) (Nat.le_refl _) (by unfold maxLen; omega) fun i d hd j hj => ?_
    unfold trF
    rw [if_pos (by omega), show (i * 32 + j) / 32 = i by omega, show (i * 32 + j) % 32 = j by omega]
    simp [List.getD, hd]
  case stop =>
    rintro D c pre2 V hD _ h hK
    exact h.elim
theorem Trees_cv (g B : Nat) (n : Int) (S : List Hs) (w : World) (h : FrAt w g B n S) (hn : n = 0 ↔ S = []) (hl : S.length ≤ 100000) : Cv 21 #[.pointer (some ⟨g, 0, none⟩)] w (svH S) := by
  obtain ⟨v, hg, ho, _, _⟩ := h
  by_cases h0 : n = 0
  · obtain rfl := hn.1 h0
    subst h0
    exact Trees_0 g v w hg
  · exact Trees_1 g B n v S w hg ho h0 hl
end Go.Proofs.YtphbjamfhmcjcaaDoor
/- Layer 5's own example: the law's function alive returns true. -/
namespace Go.Proofs.YtphbjamfhmcjcaaDoor
open Go Go.RowKit
set_option maxRecDepth 8000
set_option linter.all false
theorem Tables.lowG {g : Nat} {w w' : World} (h : Tables w) (hg : 1 < g) (hb : Below g w w') : Tables w' :=
  ⟨Nat.lt_of_lt_of_le h.size hb.size, fun i hi => (hb.cell (p := ⟨1, i, none⟩) (by simpa using hg)).trans (h.k i hi), fun i hi => (hb.cell (p := ⟨0, i, none⟩) (by show 0 < g; omega)).trans (h.f i hi)⟩
theorem z_hex : (⟨(hexL (shaL Kc Fc []) 32).toArray⟩ : ByteArray) = ⟨#[101, 51, 98, 48, 99, 52, 52, 50, 57, 56, 102, 99, 49, 99, 49, 52, 57, 97, 102, 98, 102, 52, 99, 56, 57, 57, 54, 102, 98, 57, 50, 52, 50, 55, 97, 101, 52, 49, 101, 52, 54, 52, 57, 98, 57, 51, 52, 99, 97, 52, 57, 53, 57, 57, 49, 98, 55, 56, 53, 50, 98, 56, 53, 53]⟩ := by decide +kernel
theorem leaf_ne : eqH (shaL Kc Fc ([0] ++ ([97] ++ []))) (shaL Kc Fc ([0] ++ ([98] ++ []))) = false := by decide +kernel
theorem run_alloc_front (w : World) : (Instr.alloc 35 true (.tuple #[])).run Tryd.prog w = .ok (.pointer (some ⟨w.heap.size, 0, none⟩)) (w.alloc (.cells (rowA 2 (frF 0 (.slice none 0 0))) 35)) := by kernel_rfl
section
variable {a : Act} {w : World} {o : Oper} {K : Act → World → Prop} {Q : Exit → Act → World → Prop} {x y : Operand}
/-- '[]byte("..")' of one letter. -/
theorem wpList_lit1 {P2 : Array Oper} {rest : List Oper} {o1 o2 : Oper} {d1 : Nat} {b : UInt8} (hg1 : o1.guard = none) (hg2 : o2.guard = none) (h1 : o1.op = .buildSlice 22 1 #[(0, .const (.int .u8 (bN b)))]) (hd : o1.dst = some d1) (h2 : o2.op = .convert 22 22 (.tmp d1)) (hlt : d1 < a.tmps.size)
    (h : ∀ v w', NewT w w' → RdV w' [] v [b] → wpList Tryd.prog P2 Q rest ((a.put (some d1) v).put o2.dst v) w') : wpList Tryd.prog P2 Q (o1 :: o2 :: rest) a w := by
  refine wpList_plain hg1 fun K hK => ?_
  obtain ⟨dst, op, type, pos, after, guard⟩ := o1
  simp only at h1 hd
  subst h1 hd
  refine opr_val (s := Instr.buildSlice 22 1 #[(0, .int .u8 (bN b))]) (by simp [execOp, eval_const]) (run_bsb1 _ w) (hK _ _ ?_)
  clear hK K
  refine wpList_plain hg2 fun K2 hK2 => ?_
  obtain ⟨dst2, op2, type2, pos2, after2, guard2⟩ := o2
  simp only at h2
  subst h2
  refine opr_val (s := convert 22 22 (.slice (some ⟨w.heap.size, 0, none⟩) 1 1)) ?_ (conv_bytes w #[.int .u8 (bN b)] w.heap.size 1 1 rfl) (hK2 _ _ ?_)
  · simp [execOp, eval_tmp, Act.put, hlt]
  refine h _ _ (NewT.alloc _ _) (rdV_lit (l := [b]) (by simp) (by decide) fun i hi => ?_)
  obtain rfl : i = 0 := by simpa using hi
  rw [cell_new_fr _ _ _ _ _ _ rfl]; rfl
theorem opr_eqlS {t2 : TypeId} {S1 S2 : ByteArray} {b : Bool} (hb : (S1.toList == S2.toList) = b) (ho : o.op = .binOp .eql 9 x y t2) (hx : a.eval x = .string S1) (hy : a.eval y = .string S2) (h : K (a.put o.dst (.bool b)) w) : o.wp Tryd.prog a w K Q := by
  obtain ⟨dst, op', type, pos, after, guard⟩ := o
  simp only at ho
  subst ho hb
  refine opr_val (s := do eqGuard .eql 9 x y (a.eval x) (a.eval y); binOp .eql 9 (a.eval x) (a.eval y)) rfl ?_ h
  rw [hx, hy]
  simp [go_sem]
end
theorem rootM_two {node : Hs → Hs → Hs} {z : Hs} (p q : Hs) : rootM node z [p, q] = node p q := by
  have := rootM_app node z [p] [q] 0 rfl (by simp) (by simp)
  simpa [rootM_one] using this
attribute [local go_sem] conv_bytes
set_option maxHeartbeats 4000000 in
theorem alive5_any (w : World) (hT : Tables w) : Calls Tryd.prog 9 #[] w fun e w' => e = .returned (.bool true) ∧ Below w.heap.size w w' := by
  obtain ⟨node, z, hX⟩ := tree_ex
  obtain ⟨da, HDA⟩ := hid_ex (shaL Kc Fc ([0] ++ ([97] ++ [])))
  obtain ⟨db, HDB⟩ := hid_ex (shaL Kc Fc ([0] ++ ([98] ++ [])))
  obtain ⟨S0, HS0⟩ := hid_ex (⟨(hexL z 32).toArray⟩ : ByteArray)
  have HS1 : Hid ((S0.toList == (⟨#[101, 51, 98, 48, 99, 52, 52, 50, 57, 56, 102, 99, 49, 99, 49, 52, 57, 97, 102, 98, 102, 52, 99, 56, 57, 57, 54, 102, 98, 57, 50, 52, 50, 55, 97, 101, 52, 49, 101, 52, 54, 52, 57, 98, 57, 51, 52, 99, 97, 52, 57, 53, 57, 57, 49, 98, 55, 56, 53, 50, 98, 56, 53, 53]⟩ : ByteArray).toList) = true) := Lib.hid (by rw [← HS0.out, ← hX.zero, z_hex]; decide +kernel)
  have HNE : Hid (eqH da db = false) := Lib.hid (by rw [← HDA.out, ← HDB.out]; exact leaf_ne)
  have HT := Lib.hid hT
  have HG1 : Hid (1 < w.heap.size) := Lib.hid hT.size
  clear hT
  go_enter Tryd.func9, Tryd.ntmps9
  go_upto_region 2 with fail
  have r0 := rowIs_box w 35 2 (frF 0 (.slice none 0 0))
  have hN := NewT.alloc w (.cells (rowA 2 (frF 0 (.slice none 0 0))) 35)
  change Code.wp _ _ _ _ (w.alloc (.cells (rowA 2 (frF 0 (.slice none 0 0))) 35))
  have hsz : (w.alloc (.cells (rowA 2 (frF 0 (.slice none 0 0))) 35)).heap.size = w.heap.size + 1 := by simp
  generalize w.alloc (.cells (rowA 2 (frF 0 (.slice none 0 0))) 35) = W0 at r0 hN hsz ⊢
  obtain ⟨g, hg⟩ : ∃ g, w.heap.size = g := ⟨_, rfl⟩
  rw [hg] at r0 hsz HG1 ⊢
  have HN := Lib.hid hN
  have RG := Lib.hid r0
  have hgW : g < W0.heap.size := by omega
  replace HT := Lib.hid (hN.tables HT.out)
  clear r0 hN hsz
  refine wp_region_lit ?_
  refine wpList_lit1 (b := 97) rfl rfl rfl rfl rfl (by simp) ?_
  intro v5 w1 n1 q1
  simp only [Act.put, List.setIfInBounds_toArray, List.set_cons_zero, List.set_cons_succ]
  refine wpList_plain rfl (fun K hK => ?_)
  refine opr_cv (Leaf_cv v5 [97] da w1 (n1.tables HT.out) q1 (by simp) HDA.out) rfl Tryd.func10 (by kernel_rfl) (by kernel_rfl) (by simp only [List.map_toArray, List.map_cons, List.map_nil, eval_tmp]; rfl) ?_
  intro v6 w2 n2 e6
  obtain rfl : v6 = .agg (rowA 32 (bF da)) := e6
  refine hK _ _ ?_
  clear hK K
  simp only [Act.put, List.setIfInBounds_toArray, List.set_cons_zero, List.set_cons_succ]
  refine wpList_lit1 (b := 98) rfl rfl rfl rfl rfl (by simp) ?_
  intro v8 w3 n3 q3
  simp only [Act.put, List.setIfInBounds_toArray, List.set_cons_zero, List.set_cons_succ]
  have n03 := NewT.trans _ _ _ (NewT.trans _ _ _ n1 n2) n3
  refine wpList_plain rfl (fun K hK => ?_)
  refine opr_cv (Leaf_cv v8 [98] db w3 (n03.tables HT.out) q3 (by simp) HDB.out) rfl Tryd.func10 (by kernel_rfl) (by kernel_rfl) (by simp only [List.map_toArray, List.map_cons, List.map_nil, eval_tmp]; rfl) ?_
  intro v9 w4 n4 e9
  obtain rfl : v9 = .agg (rowA 32 (bF db)) := e9
  refine hK _ _ ?_
  clear hK K
  simp only [Act.put, List.setIfInBounds_toArray, List.set_cons_zero, List.set_cons_succ]
  have n04 := NewT.trans _ _ _ n03 n4
  refine wpList_plain rfl (fun K hK => ?_)
  refine opr_alloc_at rfl (hK _ _ ?_)
  clear hK K
  refine wpList_plain rfl (fun K hK => ?_)
  refine opr_alloc_at rfl (hK _ _ ?_)
  clear hK K
  have ra := (rowIs_box w4 24 32 (bF fun _ => 0)).alloc (.cells (rowA 32 (bF fun _ => 0)) 24)
  have rb := rowIs_box (w4.alloc (.cells (rowA 32 (bF fun _ => 0)) 24)) 24 32 (bF fun _ => 0)
  have n05 := NewT.trans _ _ _ n04 (NewT.trans _ _ _ (NewT.alloc w4 (.cells (rowA 32 (bF fun _ => 0)) 24)) (NewT.alloc _ (.cells (rowA 32 (bF fun _ => 0)) 24)))
  rw [World.size_alloc] at rb
  simp only [Act.put, List.setIfInBounds_toArray, List.set_cons_zero, List.set_cons_succ, World.size_alloc]
  have hga : g < w4.heap.size := Nat.lt_of_lt_of_le hgW n04.out.size
  generalize (w4.alloc (.cells (rowA 32 (bF fun _ => 0)) 24)).alloc (.cells (rowA 32 (bF fun _ => 0)) 24) = w5 at ra rb n05 ⊢
  obtain ⟨pa, hpa⟩ : ∃ p, w4.heap.size = p := ⟨_, rfl⟩
  rw [hpa] at ra rb hga ⊢
  obtain ⟨pb, hpb⟩ : ∃ p, pa + 1 = p := ⟨_, rfl⟩
  rw [hpb] at rb ⊢
  refine wpList_plain rfl (fun K hK => ?_)
  refine opr_putm (F := bF da) rfl rfl rfl ra (by decide) info31 (fun _ => rfl) (fun i hi => by rw [if_pos (by omega), Nat.sub_zero]) ?_
  intro w6 hR6 ra6
  refine hK _ _ ?_
  clear hK K
  refine wpList_plain rfl (fun K hK => ?_)
  refine opr_putm (F := bF db) rfl rfl rfl (hR6.row (by omega) rb) (by decide) info31 (fun _ => rfl) (fun i hi => by rw [if_pos (by omega), Nat.sub_zero]) ?_
  intro w7 hR7 rb7
  refine hK _ _ ?_
  clear hK K
  refine wpList_end rfl ?_
  simp only [Act.put]
  obtain ⟨B, hB⟩ : ∃ B, w7.heap.size = B := ⟨_, rfl⟩
  have HNW : Hid (Below g w w7) := Lib.hid ((HN.out.out.mono (by omega)).trans ((n05.out.mono (by omega)).trans ((hR6.below.mono (by omega)).trans (hR7.below.mono (by omega)))))
  have HF : Hid (FrAt w7 g B 0 []) := Lib.hid ⟨_, hR7.row (by omega) (hR6.row (by omega) (n05.row RG.out)), ownH_nil _ _, by have := n05.out.size; have := hR6.size; have := hR7.size; omega, by omega⟩
  have RA := Lib.hid (hR7.row (by omega) ra6)
  have RB := Lib.hid rb7
  have HPA : Hid (pa < B ∧ pb < B ∧ pa ≠ g ∧ pb ≠ g) := Lib.hid ⟨by have := RA.out.lt; omega, by have := rb7.lt; omega, by omega, by omega⟩
  replace HT := Lib.hid (HT.out.lowG HG1.out ((n05.out.mono (by omega)).trans ((hR6.below.mono (by omega)).trans (hR7.below.mono (by omega)))))
  clear hR6 hR7 ra rb ra6 rb7 n05 n04 n03 n4 n3 n2 n1 q1 q3 HN RG hga hgW hpa hpb hB
  go_simp
  go_upto_region 3 with fail
  refine wp_region_steps0 NewT [SV.eq (.agg (rowA 32 (bF (da))))] [([(2, none)], none)] 52 1 rfl rfl (by kernel_rfl) NewT.trans (NewT.refl _) (Nat.le_of_ble_eq_true rfl) ⟨?_, trivial⟩ ?_
  · intro a wx hT hF K hK
    obtain ⟨f2, _⟩ := hF
    have f2 : a.tmps.getD 2 undef = .pointer (some ⟨pa, 0, none⟩) := f2
    refine rely_wp rfl ?_
    exact opr_load_hash rfl f2 (hT.row RA.out) (hK _ _ (NewT.refl _) rfl)
  · intro w3 k3
    intro u h; obtain rfl := Eq.symm (h (by simp)); clear h
    refine relyEnd_nil rfl ?_
    simp only [Act.put, List.setIfInBounds_toArray, List.set_cons_zero, List.set_cons_succ]
    refine wpList_plain rfl (fun K hK => ?_)
    refine opr_call rfl Tryd.func17 (by kernel_rfl) (by kernel_rfl) (by simp only [List.map_toArray, List.map_cons, List.map_nil, eval_tmp]; rfl) ((Add_c hX g B 0 ([]) da w3 (k3.tables HT.out) (k3.front HF.out) HG1.out (by rw [onesN_zero]; rfl) (by omega)).mono ?_)
    rintro _ w4 ⟨rfl, ft1, fa1⟩
    refine ⟨_, rfl, hK _ _ ?_⟩
    refine wpList_end rfl ?_
    simp only [Act.put, List.setIfInBounds_toArray, List.set_cons_zero, List.set_cons_succ]
    go_simp
    replace RA := Lib.hid (ft1.row HPA.out.1 HPA.out.2.2.1 (k3.row RA.out))
    replace RB := Lib.hid (ft1.row HPA.out.2.1 HPA.out.2.2.2 (k3.row RB.out))
    replace HT := Lib.hid ((k3.tables HT.out).lowG HG1.out ft1.below)
    replace HNW := Lib.hid (HNW.out.trans ((k3.out.mono (by have := HF.out.lt; omega)).trans ft1.below))
    replace HF := Lib.hid (show FrAt w4 g B 1 [da] from fa1)
    clear ft1 fa1 k3
    go_upto_region 4 with fail
    refine wp_region_steps0 NewT [SV.eq (.agg (rowA 32 (bF (db))))] [([(3, none)], none)] 52 1 rfl rfl (by kernel_rfl) NewT.trans (NewT.refl _) (Nat.le_of_ble_eq_true rfl) ⟨?_, trivial⟩ ?_
    · intro a wx hT hF K hK
      obtain ⟨f3, _⟩ := hF
      have f3 : a.tmps.getD 3 undef = .pointer (some ⟨pb, 0, none⟩) := f3
      refine rely_wp rfl ?_
      exact opr_load_hash rfl f3 (hT.row RB.out) (hK _ _ (NewT.refl _) rfl)
    · intro w5 k5
      intro u h; obtain rfl := Eq.symm (h (by simp)); clear h
      refine relyEnd_nil rfl ?_
      simp only [Act.put, List.setIfInBounds_toArray, List.set_cons_zero, List.set_cons_succ]
      refine wpList_plain rfl (fun K hK => ?_)
      refine opr_call rfl Tryd.func17 (by kernel_rfl) (by kernel_rfl) (by simp only [List.map_toArray, List.map_cons, List.map_nil, eval_tmp]; rfl) ((Add_c hX g B 1 ([da]) db w5 (k5.tables HT.out) (k5.front HF.out) HG1.out (by rw [onesN_step]; simp [onesN_zero]) (by omega)).mono ?_)
      rintro _ w6 ⟨rfl, ft2, fa2⟩
      refine ⟨_, rfl, hK _ _ ?_⟩
      refine wpList_end rfl ?_
      simp only [Act.put, List.setIfInBounds_toArray, List.set_cons_zero, List.set_cons_succ]
      go_simp
      replace RA := Lib.hid (ft2.row HPA.out.1 HPA.out.2.2.1 (k5.row RA.out))
      replace RB := Lib.hid (ft2.row HPA.out.2.1 HPA.out.2.2.2 (k5.row RB.out))
      replace HT := Lib.hid ((k5.tables HT.out).lowG HG1.out ft2.below)
      replace HNW := Lib.hid (HNW.out.trans ((k5.out.mono (by have := HF.out.lt; omega)).trans ft2.below))
      replace HF := Lib.hid (show FrAt w6 g B 2 [node da db] from fa2)
      clear ft2 fa2 k5
      go_upto_region 5 with fail
      refine wp_region_rely (NewT) [SV.eq (.agg (rowA 32 (bF (z)))), SV.eq ((.string S0)), SV.eq (.bool true), SV.eq (.bool true), SV.eq (.int .i64 ((splitN (Int.toNat 5) : Int))), SV.eq (.bool true), SV.eq (.bool true), SV.eq (.bool true), SV.eq (.agg (rowA 32 (bF (da)))), SV.eq (.agg (rowA 32 (bF (db)))), SV.eq (.bool true), SV.eq (.bool true), SV.eq (.bool true), SV.eq (.int .i64 (2)), SV.eq (.bool true), SV.eq (.bool true), SV.eq (.bool true), SV.eq (.agg (rowA 32 (bF (rootF node z ([node da db]))))), SV.eq (.agg (rowA 32 (bF (da)))), SV.eq (.agg (rowA 32 (bF (db)))), SV.eq (.agg (rowA 32 (bF (node (da) (db))))), SV.eq (.bool true), SV.eq (.bool true), SV.eq (.bool true), SV.eq (.agg (rowA 32 (bF (da)))), SV.eq (.agg (rowA 32 (bF (db)))), svH ([da, db]), SV.eq (.agg (rowA 32 (bF (rootM node z ([da, db]))))), SV.eq (.agg (rowA 32 (bF (da)))), SV.eq (.agg (rowA 32 (bF (db)))), SV.eq (.agg (rowA 32 (bF (node (da) (db))))), SV.eq (.bool true), SV.eq (.bool true), SV.eq (.bool true), svH ([node da db]), SV.eq (.int .i64 ((List.length ([node da db]) : Int))), SV.eq (.bool true), SV.eq (.bool true)] [([], none), ([(14, some 0)], none), ([(15, some 1)], none), ([(16, some 2)], none), ([(17, some 3)], some (17, true)), ([(18, some 4), (17, some 3)], some (17, true)), ([(17, some 3), (19, some 5)], none), ([(20, some 6)], none), ([(2, none), (21, some 7)], some (21, true)), ([(3, none), (21, some 7)], some (21, true)), ([(22, some 8), (23, some 9), (21, some 7)], some (21, true)), ([(21, some 7), (24, some 10)], none), ([(25, some 11)], none), ([(1, none), (26, some 12)], some (26, true)), ([(27, some 13), (26, some 12)], some (26, true)), ([(26, some 12), (28, some 14)], none), ([(29, some 15)], none), ([(1, none), (30, some 16)], some (30, true)), ([(2, none), (30, some 16)], some (30, true)), ([(3, none), (30, some 16)], some (30, true)), ([(32, some 18), (33, some 19), (30, some 16)], some (30, true)), ([(31, some 17), (34, some 20), (30, some 16)], some (30, true)), ([(30, some 16), (35, some 21)], none), ([(36, some 22)], none), ([(2, none), (37, some 23)], some (37, true)), ([(3, none), (37, some 23)], some (37, true)), ([(38, some 24), (39, some 25), (37, some 23)], some (37, true)), ([(40, some 26), (37, some 23)], some (37, true)), ([(2, none), (37, some 23)], some (37, true)), ([(3, none), (37, some 23)], some (37, true)), ([(42, some 28), (43, some 29), (37, some 23)], some (37, true)), ([(41, some 27), (44, some 30), (37, some 23)], some (37, true)), ([(37, some 23), (45, some 31)], none), ([(46, some 32)], none), ([(1, none), (47, some 33)], some (47, true)), ([(48, some 34), (47, some 33)], some (47, true)), ([(49, some 35), (47, some 33)], some (47, true)), ([(47, some 33), (50, some 36)], none)] 52 rfl (by kernel_rfl) rfl (by kernel_rfl) (by kernel_rfl) rfl NewT.trans (NewT.drew _) (Nat.le_of_ble_eq_true rfl) ⟨?_, ?_, ?_, ?_, ?_, ?_, ?_, ?_, ?_, ?_, ?_, ?_, ?_, ?_, ?_, ?_, ?_, ?_, ?_, ?_, ?_, ?_, ?_, ?_, ?_, ?_, ?_, ?_, ?_, ?_, ?_, ?_, ?_, ?_, ?_, ?_, ?_, ?_, trivial⟩ ?_
      · intro a wx hT hF K hK
        refine rely_wp rfl ?_
        exact opr_cv (Root_nil hX wx (hT.tables HT.out)) rfl Tryd.func25 (by kernel_rfl) (by kernel_rfl) (by simp only [List.map_toArray, List.map_cons, List.map_nil, eval_const]) hK
      · intro a wx hT hF K hK
        obtain ⟨f14, _⟩ := hF
        have f14 : a.tmps.getD 14 undef = .agg (rowA 32 (bF (z))) := f14
        refine rely_wp rfl ?_
        exact opr_cv (Hex_cv z S0 wx HS0.out) rfl Tryd.func26 (by kernel_rfl) (by kernel_rfl) (by simp only [List.map_toArray, List.map_cons, List.map_nil, eval_tmp, f14]) hK
      · intro a wx hT hF K hK
        obtain ⟨f15, _⟩ := hF
        have f15 : a.tmps.getD 15 undef = (.string S0) := f15
        refine rely_wp rfl ?_
        exact opr_eqlS HS1.out rfl f15 rfl (hK _ _ (NewT.refl _) rfl)
      · intro a wx hT hF K hK
        obtain ⟨f16, _⟩ := hF
        have f16 : a.tmps.getD 16 undef = .bool true := f16
        refine rely_wp rfl ?_
        exact opr_move (.inl rfl) (hK _ _ (NewT.refl _) f16)
      · intro a wx hT hF K hK
        obtain ⟨f17, _⟩ := hF
        have f17 : a.tmps.getD 17 undef = .bool true := f17
        refine rely_wp (rely_guard f17) ?_
        exact opr_cv (Split_cv 5 (by omega) (by omega) wx) rfl Tryd.func15 (by kernel_rfl) (by kernel_rfl) (by simp only [List.map_toArray, List.map_cons, List.map_nil, eval_const]) hK
      · intro a wx hT hF K hK
        obtain ⟨f18, f17, _⟩ := hF
        have f18 : a.tmps.getD 18 undef = .int .i64 ((splitN (Int.toNat 5) : Int)) := f18
        have f17 : a.tmps.getD 17 undef = .bool true := f17
        refine rely_wp (rely_guard f17) ?_
        exact opr_cmp (b := true) (.inl ⟨rfl, (by show (((splitN (Int.toNat 5) : Nat) : Int) == 4) = true; decide +kernel)⟩) Tryd.underlying3 rfl f18 rfl (hK _ _ (NewT.refl _) rfl)
      · intro a wx hT hF K hK
        obtain ⟨f17, f19, _⟩ := hF
        have f17 : a.tmps.getD 17 undef = .bool true := f17
        have f19 : a.tmps.getD 19 undef = .bool true := f19
        refine rely_wp rfl ?_
        exact opr_pick_true rfl f17 (hK _ _ (NewT.refl _) f19)
      · intro a wx hT hF K hK
        obtain ⟨f20, _⟩ := hF
        have f20 : a.tmps.getD 20 undef = .bool true := f20
        refine rely_wp rfl ?_
        exact opr_move (.inl rfl) (hK _ _ (NewT.refl _) f20)
      · intro a wx hT hF K hK
        obtain ⟨f2, f21, _⟩ := hF
        have f2 : a.tmps.getD 2 undef = .pointer (some ⟨pa, 0, none⟩) := f2
        have f21 : a.tmps.getD 21 undef = .bool true := f21
        refine rely_wp (rely_guard f21) ?_
        exact opr_load_hash rfl f2 (hT.row RA.out) (hK _ _ (NewT.refl _) rfl)
      · intro a wx hT hF K hK
        obtain ⟨f3, f21, _⟩ := hF
        have f3 : a.tmps.getD 3 undef = .pointer (some ⟨pb, 0, none⟩) := f3
        have f21 : a.tmps.getD 21 undef = .bool true := f21
        refine rely_wp (rely_guard f21) ?_
        exact opr_load_hash rfl f3 (hT.row RB.out) (hK _ _ (NewT.refl _) rfl)
      · intro a wx hT hF K hK
        obtain ⟨f22, f23, f21, _⟩ := hF
        have f22 : a.tmps.getD 22 undef = .agg (rowA 32 (bF (da))) := f22
        have f23 : a.tmps.getD 23 undef = .agg (rowA 32 (bF (db))) := f23
        have f21 : a.tmps.getD 21 undef = .bool true := f21
        refine rely_wp (rely_guard f21) ?_
        exact opr_neq_hash (b := true) rfl f22 f23 ((by rw [HNE.out]; rfl)) (hK _ _ (NewT.refl _) rfl)
      · intro a wx hT hF K hK
        obtain ⟨f21, f24, _⟩ := hF
        have f21 : a.tmps.getD 21 undef = .bool true := f21
        have f24 : a.tmps.getD 24 undef = .bool true := f24
        refine rely_wp rfl ?_
        exact opr_pick_true rfl f21 (hK _ _ (NewT.refl _) f24)
      · intro a wx hT hF K hK
        obtain ⟨f25, _⟩ := hF
        have f25 : a.tmps.getD 25 undef = .bool true := f25
        refine rely_wp rfl ?_
        exact opr_move (.inl rfl) (hK _ _ (NewT.refl _) f25)
      · intro a wx hT hF K hK
        obtain ⟨f1, f26, _⟩ := hF
        have f1 : a.tmps.getD 1 undef = .pointer (some ⟨g, 0, none⟩) := f1
        have f26 : a.tmps.getD 26 undef = .bool true := f26
        refine rely_wp (rely_guard f26) ?_
        exact opr_cv (Size_cv g B 2 ([node da db]) wx (hT.front HF.out)) rfl Tryd.func18 (by kernel_rfl) (by kernel_rfl) (by simp only [List.map_toArray, List.map_cons, List.map_nil, eval_tmp, f1]) hK
      · intro a wx hT hF K hK
        obtain ⟨f27, f26, _⟩ := hF
        have f27 : a.tmps.getD 27 undef = .int .i64 (2) := f27
        have f26 : a.tmps.getD 26 undef = .bool true := f26
        refine rely_wp (rely_guard f26) ?_
        exact opr_cmp (b := true) (.inl ⟨rfl, (by decide)⟩) Tryd.underlying3 rfl f27 rfl (hK _ _ (NewT.refl _) rfl)
      · intro a wx hT hF K hK
        obtain ⟨f26, f28, _⟩ := hF
        have f26 : a.tmps.getD 26 undef = .bool true := f26
        have f28 : a.tmps.getD 28 undef = .bool true := f28
        refine rely_wp rfl ?_
        exact opr_pick_true rfl f26 (hK _ _ (NewT.refl _) f28)
      · intro a wx hT hF K hK
        obtain ⟨f29, _⟩ := hF
        have f29 : a.tmps.getD 29 undef = .bool true := f29
        refine rely_wp rfl ?_
        exact opr_move (.inl rfl) (hK _ _ (NewT.refl _) f29)
      · intro a wx hT hF K hK
        obtain ⟨f1, f30, _⟩ := hF
        have f1 : a.tmps.getD 1 undef = .pointer (some ⟨g, 0, none⟩) := f1
        have f30 : a.tmps.getD 30 undef = .bool true := f30
        refine rely_wp (rely_guard f30) ?_
        exact opr_cv (FRoot_cv hX g B 2 ([node da db]) wx (hT.tables HT.out) (hT.front HF.out) (by simp) (by simp)) rfl Tryd.func19 (by kernel_rfl) (by kernel_rfl) (by simp only [List.map_toArray, List.map_cons, List.map_nil, eval_tmp, f1]) hK
      · intro a wx hT hF K hK
        obtain ⟨f2, f30, _⟩ := hF
        have f2 : a.tmps.getD 2 undef = .pointer (some ⟨pa, 0, none⟩) := f2
        have f30 : a.tmps.getD 30 undef = .bool true := f30
        refine rely_wp (rely_guard f30) ?_
        exact opr_load_hash rfl f2 (hT.row RA.out) (hK _ _ (NewT.refl _) rfl)
      · intro a wx hT hF K hK
        obtain ⟨f3, f30, _⟩ := hF
        have f3 : a.tmps.getD 3 undef = .pointer (some ⟨pb, 0, none⟩) := f3
        have f30 : a.tmps.getD 30 undef = .bool true := f30
        refine rely_wp (rely_guard f30) ?_
        exact opr_load_hash rfl f3 (hT.row RB.out) (hK _ _ (NewT.refl _) rfl)
      · intro a wx hT hF K hK
        obtain ⟨f32, f33, f30, _⟩ := hF
        have f32 : a.tmps.getD 32 undef = .agg (rowA 32 (bF (da))) := f32
        have f33 : a.tmps.getD 33 undef = .agg (rowA 32 (bF (db))) := f33
        have f30 : a.tmps.getD 30 undef = .bool true := f30
        refine rely_wp (rely_guard f30) ?_
        exact opr_cv (Node_cv hX (da) (db) wx (hT.tables HT.out)) rfl Tryd.func12 (by kernel_rfl) (by kernel_rfl) (by simp only [List.map_toArray, List.map_cons, List.map_nil, eval_tmp, f32, f33]) hK
      · intro a wx hT hF K hK
        obtain ⟨f31, f34, f30, _⟩ := hF
        have f31 : a.tmps.getD 31 undef = .agg (rowA 32 (bF (rootF node z ([node da db])))) := f31
        have f34 : a.tmps.getD 34 undef = .agg (rowA 32 (bF (node (da) (db)))) := f34
        have f30 : a.tmps.getD 30 undef = .bool true := f30
        refine rely_wp (rely_guard f30) ?_
        exact opr_eql_hash (b := true) rfl f31 f34 ((by rw [show rootF node z [node da db] = node da db from rfl]; exact eqH_same _)) (hK _ _ (NewT.refl _) rfl)
      · intro a wx hT hF K hK
        obtain ⟨f30, f35, _⟩ := hF
        have f30 : a.tmps.getD 30 undef = .bool true := f30
        have f35 : a.tmps.getD 35 undef = .bool true := f35
        refine rely_wp rfl ?_
        exact opr_pick_true rfl f30 (hK _ _ (NewT.refl _) f35)
      · intro a wx hT hF K hK
        obtain ⟨f36, _⟩ := hF
        have f36 : a.tmps.getD 36 undef = .bool true := f36
        refine rely_wp rfl ?_
        exact opr_move (.inl rfl) (hK _ _ (NewT.refl _) f36)
      · intro a wx hT hF K hK
        obtain ⟨f2, f37, _⟩ := hF
        have f2 : a.tmps.getD 2 undef = .pointer (some ⟨pa, 0, none⟩) := f2
        have f37 : a.tmps.getD 37 undef = .bool true := f37
        refine rely_wp (rely_guard f37) ?_
        exact opr_load_hash rfl f2 (hT.row RA.out) (hK _ _ (NewT.refl _) rfl)
      · intro a wx hT hF K hK
        obtain ⟨f3, f37, _⟩ := hF
        have f3 : a.tmps.getD 3 undef = .pointer (some ⟨pb, 0, none⟩) := f3
        have f37 : a.tmps.getD 37 undef = .bool true := f37
        refine rely_wp (rely_guard f37) ?_
        exact opr_load_hash rfl f3 (hT.row RB.out) (hK _ _ (NewT.refl _) rfl)
      · intro a wx hT hF K hK
        obtain ⟨f38, f39, f37, _⟩ := hF
        have f38 : a.tmps.getD 38 undef = .agg (rowA 32 (bF (da))) := f38
        have f39 : a.tmps.getD 39 undef = .agg (rowA 32 (bF (db))) := f39
        have f37 : a.tmps.getD 37 undef = .bool true := f37
        refine rely_wp (rely_guard f37) ?_
        exact opr_bsH2 rfl f38 f39 hK
      · intro a wx hT hF K hK
        obtain ⟨f40, f37, _⟩ := hF
        replace f40 := show (svH ([da, db])).pred (a.tmps.getD 40 undef) wx from f40
        have f37 : a.tmps.getD 37 undef = .bool true := f37
        refine rely_wp (rely_guard f37) ?_
        exact opr_cv (Root_cv hX _ _ ([da, db]) wx (hT.tables HT.out) (f40) (Nat.le_refl _) (by simp)) rfl Tryd.func25 (by kernel_rfl) (by kernel_rfl) (by simp only [List.map_toArray, List.map_cons, List.map_nil, eval_tmp]) hK
      · intro a wx hT hF K hK
        obtain ⟨f2, f37, _⟩ := hF
        have f2 : a.tmps.getD 2 undef = .pointer (some ⟨pa, 0, none⟩) := f2
        have f37 : a.tmps.getD 37 undef = .bool true := f37
        refine rely_wp (rely_guard f37) ?_
        exact opr_load_hash rfl f2 (hT.row RA.out) (hK _ _ (NewT.refl _) rfl)
      · intro a wx hT hF K hK
        obtain ⟨f3, f37, _⟩ := hF
        have f3 : a.tmps.getD 3 undef = .pointer (some ⟨pb, 0, none⟩) := f3
        have f37 : a.tmps.getD 37 undef = .bool true := f37
        refine rely_wp (rely_guard f37) ?_
        exact opr_load_hash rfl f3 (hT.row RB.out) (hK _ _ (NewT.refl _) rfl)
      · intro a wx hT hF K hK
        obtain ⟨f42, f43, f37, _⟩ := hF
        have f42 : a.tmps.getD 42 undef = .agg (rowA 32 (bF (da))) := f42
        have f43 : a.tmps.getD 43 undef = .agg (rowA 32 (bF (db))) := f43
        have f37 : a.tmps.getD 37 undef = .bool true := f37
        refine rely_wp (rely_guard f37) ?_
        exact opr_cv (Node_cv hX (da) (db) wx (hT.tables HT.out)) rfl Tryd.func12 (by kernel_rfl) (by kernel_rfl) (by simp only [List.map_toArray, List.map_cons, List.map_nil, eval_tmp, f42, f43]) hK
      · intro a wx hT hF K hK
        obtain ⟨f41, f44, f37, _⟩ := hF
        have f41 : a.tmps.getD 41 undef = .agg (rowA 32 (bF (rootM node z ([da, db])))) := f41
        have f44 : a.tmps.getD 44 undef = .agg (rowA 32 (bF (node (da) (db)))) := f44
        have f37 : a.tmps.getD 37 undef = .bool true := f37
        refine rely_wp (rely_guard f37) ?_
        exact opr_eql_hash (b := true) rfl f41 f44 ((by rw [rootM_two]; exact eqH_same _)) (hK _ _ (NewT.refl _) rfl)
      · intro a wx hT hF K hK
        obtain ⟨f37, f45, _⟩ := hF
        have f37 : a.tmps.getD 37 undef = .bool true := f37
        have f45 : a.tmps.getD 45 undef = .bool true := f45
        refine rely_wp rfl ?_
        exact opr_pick_true rfl f37 (hK _ _ (NewT.refl _) f45)
      · intro a wx hT hF K hK
        obtain ⟨f46, _⟩ := hF
        have f46 : a.tmps.getD 46 undef = .bool true := f46
        refine rely_wp rfl ?_
        exact opr_move (.inl rfl) (hK _ _ (NewT.refl _) f46)
      · intro a wx hT hF K hK
        obtain ⟨f1, f47, _⟩ := hF
        have f1 : a.tmps.getD 1 undef = .pointer (some ⟨g, 0, none⟩) := f1
        have f47 : a.tmps.getD 47 undef = .bool true := f47
        refine rely_wp (rely_guard f47) ?_
        exact opr_cv (Trees_cv g B 2 ([node da db]) wx (hT.front HF.out) (by simp) (by simp)) rfl Tryd.func21 (by kernel_rfl) (by kernel_rfl) (by simp only [List.map_toArray, List.map_cons, List.map_nil, eval_tmp, f1]) hK
      · intro a wx hT hF K hK
        obtain ⟨f48, f47, _⟩ := hF
        replace f48 := show (svH ([node da db])).pred (a.tmps.getD 48 undef) wx from f48
        have f47 : a.tmps.getD 47 undef = .bool true := f47
        refine rely_wp (rely_guard f47) ?_
        exact opr_len_h rfl f48 (hK _ _ (NewT.refl _) rfl)
      · intro a wx hT hF K hK
        obtain ⟨f49, f47, _⟩ := hF
        have f49 : a.tmps.getD 49 undef = .int .i64 ((List.length ([node da db]) : Int)) := f49
        have f47 : a.tmps.getD 47 undef = .bool true := f47
        refine rely_wp (rely_guard f47) ?_
        exact opr_cmp (b := true) (.inl ⟨rfl, (by rfl)⟩) Tryd.underlying3 rfl f49 rfl (hK _ _ (NewT.refl _) rfl)
      · intro a wx hT hF K hK
        obtain ⟨f47, f50, _⟩ := hF
        have f47 : a.tmps.getD 47 undef = .bool true := f47
        have f50 : a.tmps.getD 50 undef = .bool true := f50
        refine rely_wp rfl ?_
        exact opr_pick_true rfl f47 (hK _ _ (NewT.refl _) f50)
      · intro w7 k7
        intro u h; obtain rfl := Eq.symm (h (by simp)); clear h
        intro u h; obtain rfl := Eq.symm (h (by simp)); clear h
        intro u h; obtain rfl := Eq.symm (h (by simp)); clear h
        intro u h; obtain rfl := Eq.symm (h (by simp)); clear h
        intro u h; obtain rfl := Eq.symm (h (by simp)); clear h
        intro u h; obtain rfl := Eq.symm (h (by simp)); clear h
        intro u h; obtain rfl := Eq.symm (h (by simp)); clear h
        intro u h; obtain rfl := Eq.symm (h (by simp)); clear h
        intro u h; obtain rfl := Eq.symm (h (by simp)); clear h
        intro u h; obtain rfl := Eq.symm (h (by simp)); clear h
        intro u h; obtain rfl := Eq.symm (h (by simp)); clear h
        intro u h; obtain rfl := Eq.symm (h (by simp)); clear h
        intro u h; obtain rfl := Eq.symm (h (by simp)); clear h
        intro u h; obtain rfl := Eq.symm (h (by simp)); clear h
        intro u h; obtain rfl := Eq.symm (h (by simp)); clear h
        intro u h; obtain rfl := Eq.symm (h (by simp)); clear h
        intro u h; obtain rfl := Eq.symm (h (by simp)); clear h
        intro u h; obtain rfl := Eq.symm (h (by simp)); clear h
        intro u h; obtain rfl := Eq.symm (h (by simp)); clear h
        intro u h; obtain rfl := Eq.symm (h (by simp)); clear h
        intro u h; obtain rfl := Eq.symm (h (by simp)); clear h
        intro u h; obtain rfl := Eq.symm (h (by simp)); clear h
        intro u h; obtain rfl := Eq.symm (h (by simp)); clear h
        intro u h; obtain rfl := Eq.symm (h (by simp)); clear h
        intro u h; obtain rfl := Eq.symm (h (by simp)); clear h
        intro u h; obtain rfl := Eq.symm (h (by simp)); clear h
        intro _ _
        intro u h; obtain rfl := Eq.symm (h (by simp)); clear h
        intro u h; obtain rfl := Eq.symm (h (by simp)); clear h
        intro u h; obtain rfl := Eq.symm (h (by simp)); clear h
        intro u h; obtain rfl := Eq.symm (h (by simp)); clear h
        intro u h; obtain rfl := Eq.symm (h (by simp)); clear h
        intro u h; obtain rfl := Eq.symm (h (by simp)); clear h
        intro u h; obtain rfl := Eq.symm (h (by simp)); clear h
        intro _ _
        intro u h; obtain rfl := Eq.symm (h (by simp)); clear h
        intro u h; obtain rfl := Eq.symm (h (by simp)); clear h
        intro u h; obtain rfl := Eq.symm (h (by simp)); clear h
        refine relyEnd_nil rfl ?_
        simp only [Act.put, List.setIfInBounds_toArray, List.set_cons_zero, List.set_cons_succ]
        refine opr_move (.inr rfl) ?_
        go_simp
        go_wp2
        go_ret
        exact ⟨rfl, HNW.out.trans (k7.out.mono (by have := HF.out.lt; omega))⟩
theorem alive5_cv (w : World) (hT : Tables w) : Cv 9 #[] w (.eq (.bool true)) := Cv.of_eq (alive5_any w hT)
end Go.Proofs.YtphbjamfhmcjcaaDoor
/- What the laws of layer 5 share: a frontier that takes a list's leaves one by one. -/
namespace Go.Proofs.YtphbjamfhmcjcaaDoor
open Go Go.RowKit
set_option maxRecDepth 8000
set_option linter.all false
theorem fr_next {node : Hs → Hs → Hs} {z : Hs} {l : List Hs} {m : Nat} {d : Hs} {w : World} {g B : Nat} (hd : l[m]? = some d) (h : FrAt w g B ((m : Int) + 1) (addT node m d (treesM node z (l.take m)).reverse).reverse) : FrAt w g B ((m + 1 : Nat) : Int) (treesM node z (l.take (m + 1))) := by
  have hm : m < l.length := (List.getElem?_eq_some_iff.1 hd).1
  have e : l.take (m + 1) = l.take m ++ [d] := by rw [List.take_add_one, hd]; rfl
  have hl : (l.take m).length = m := by rw [List.length_take]; omega
  have e2 := treesM_add (node := node) (z := z) (l.take m) d
  rw [hl] at e2
  rw [e, e2, Int.natCast_add]
  exact h
theorem ft_new {w wr wa wb : World} {g B : Nat} (h : NewT w wr) (ka : NewT wr wa) (ft : FT g B wa wb) (hg : w.heap.size ≤ g) (hlt : g < wr.heap.size) : NewT w wb :=
  NewT.of (h.out.trans ((ka.out.mono h.out.size).trans (ft.below.mono hg)))
theorem fr_zero {node : Hs → Hs → Hs} {z : Hs} (l : List Hs) (n : Nat) (hn : n ≤ l.length) : ((n : Nat) : Int) = 0 ↔ treesM node z (l.take n) = [] := by
  have h := treesM_ones (node := node) (z := z) (l.take n)
  rw [List.length_take, Nat.min_eq_left hn] at h
  constructor
  · intro h0
    obtain rfl : n = 0 := by omega
    rw [List.take_zero, treesM_nil]
  · intro e
    rw [e] at h
    by_cases h0 : n = 0
    · subst h0; rfl
    · have := onesN_pos n (by omega); simp at h; omega
theorem fr_len {node : Hs → Hs → Hs} {z : Hs} (l : List Hs) (n : Nat) (hn : n ≤ l.length) (h : n ≤ 100000) : (treesM node z (l.take n)).length ≤ 100000 := by
  rw [treesM_ones, List.length_take, Nat.min_eq_left hn]
  have := onesN_le n; omega
end Go.Proofs.YtphbjamfhmcjcaaDoor
