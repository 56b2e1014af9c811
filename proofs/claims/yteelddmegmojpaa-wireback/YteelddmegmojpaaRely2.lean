/- A region that draws its order, whose last operations come one behind the other: the rest is gone through once, in the text's order, and the last ones then as they stand. No program is named here. -/
import Derived.Test.YteelddmegmojpaaCore2
namespace Go.Proofs.Yteelddmegmojpaa
open Go

section
variable {P : Program} {ops : Array Oper} {Q : Exit → Act → World → Prop} {T : World → World → Prop} {V : List (SV T)} {a0 : Act} {w0 : World} {n : Nat} {D : Deps} {init tail : List Oper}

theorem split_at (hsplit : ops.toList = init ++ tail) : ops.size = init.length + tail.length ∧ (∀ (k : Nat) (o : Oper), init[k]? = some o → ops[k]? = some o) ∧ ∀ k : Nat, ops[init.length + k]? = tail[k]? := by
  have e : ops = (init ++ tail).toArray := by rw [← hsplit]
  subst e
  refine ⟨by simp, fun k o hk => ?_, fun k => ?_⟩
  · have hlt := (List.getElem?_eq_some_iff.1 hk).1
    simp [List.getElem?_append_left hlt, hk]
  · simp [List.getElem?_append_right]
/-- The last ones look back alone, each waits for the one ahead. -/
def tailB (ops : Array Oper) (tail : List Oper) (m : Nat) : Bool :=
  (List.range tail.length).all fun t => (match tail[t]? with | some o => o.after.all (fun e => !Region.binds .any e || decide (e.on < m + t)) | none => true) && (decide (t = 0) || Region.waitsFor .any ops (m + t) (m + t - 1))

theorem tail_seq (hsplit : ops.toList = init ++ tail) (hB : tailB ops tail init.length = true) : ∀ (f k : Nat) (listed : Array Bool) (a : Act) (w : World), k + f = tail.length → listed.size = ops.size →
    (∀ j, j < init.length + k → listed.getD j false = true) → (∀ j, init.length + k ≤ j → j < ops.size → listed.getD j true = false) → wpList P ops Q (tail.drop k) a w → wpAny P .any ops Q f listed a w := by
  obtain ⟨hsz, _, htl⟩ := split_at hsplit
  have hb : ∀ t, t < tail.length → (∀ o, tail[t]? = some o → ∀ e ∈ o.after, Region.binds .any e = true → e.on < init.length + t) ∧ (t = 0 ∨ Region.waitsFor .any ops (init.length + t) (init.length + t - 1) = true) := fun t ht => by
    have h := List.all_eq_true.1 hB t (List.mem_range.2 ht)
    simp only [Bool.and_eq_true, Bool.or_eq_true, decide_eq_true_eq] at h
    refine ⟨fun o ho e he hbe => ?_, h.2⟩
    have h1 := h.1
    rw [ho] at h1
    have h2 := (Array.all_eq_true_iff_forall_mem.1 h1) e he
    simpa [hbe] using h2
  intro f
  induction f with
  | zero =>
    intro k listed a w hk hs hdone _ h
    obtain rfl : k = tail.length := by omega
    rw [List.drop_length] at h
    exact wpAny_done (ready_none fun i hi => hdone i (by omega)) h 0
  | succ f ih =>
    intro k listed a w hk hs hdone hun h
    have hkl : k < tail.length := by omega
    have ho : ops[init.length + k]? = some tail[k] := by rw [htl, List.getElem?_eq_getElem hkl]
    rw [List.drop_eq_getElem_cons hkl] at h
    have hmem : init.length + k ∈ Region.ready .any ops listed := by
      rw [mem_ready]
      exact ⟨hun _ (Nat.le_refl _) (by omega), tail[k], ho, fun e he hbe => hdone _ ((hb k hkl).1 _ (List.getElem?_eq_getElem hkl) e he hbe)⟩
    refine ⟨fun hr => (by rw [hr] at hmem; cases hmem), fun i hi => ?_⟩
    obtain ⟨h0, o, hoi, hall⟩ := mem_ready.1 hi
    have hilt := (Array.getElem?_eq_some_iff.1 hoi).1
    have hik : i = init.length + k := by
      rcases Nat.lt_trichotomy i (init.length + k) with hlt | rfl | hgt
      · have := hdone i hlt
        rw [getD_both h0] at this; cases this
      · rfl
      · exfalso
        have ht := (hb (i - init.length) (by omega)).2
        rw [show init.length + (i - init.length) = i by omega] at ht
        rcases ht with ht | ht
        · omega
        · obtain ⟨oi, hoi', e, he, hbe, hon⟩ := Region.waitsFor_spec ht
          have : oi = o := Option.some.inj (hoi'.symm.trans hoi)
          subst this
          have h1 := hall e he hbe
          rw [hon, getD_both (hun (i - 1) (by omega) (by omega))] at h1
          cases h1
    subst hik
    have next : ∀ a' w', wpList P ops Q (tail.drop (k + 1)) a' w' → wpAny P .any ops Q f (listed.setIfInBounds (init.length + k) true) a' w' := fun a' w' h' =>
      ih (k + 1) _ a' w' (by omega) (by simp [hs]) (fun j hj => by
        by_cases hjk : init.length + k = j
        · subst hjk; simp [show init.length + k < listed.size by omega]
        · exact getD_set_true (hdone j (by omega))) (fun j hj hj2 => by rw [getD_set_ne true (by omega)]; exact hun j (by omega) hj2) h'
    refine wpOp_mono next ?_
    unfold wpOp
    simp only [ho]
    simpa only [wpList] using h

theorem wpAny_rely_tail (hsplit : ops.toList = init ++ tail) (hpos : 0 < tail.length) (hn : a0.tmps.size = n) (hB : relyB ops n 0 init D = true) (hsink : Region.sinkB .any ops init.length = true) (htb : tailB ops tail init.length = true) (ht : ∀ a b c : World, T a b → T b c → T a c)
    (hl : init.length ≤ V.length) (hA : relyAll P Q T V a0 w0 init D V) (hE : ∀ w, T w0 w → relyEnd (fun _ a w => wpList P ops Q tail a w) T init V a0 w) :
    ∀ (fuel : Nat) (listed : Array Bool) (a : Act) (w : World), (unl ops listed).length = fuel → (∀ j, init.length ≤ j → j < ops.size → listed.getD j true = false) → RelyInv ops T V a0 w0 listed a w → wpAny P .any ops Q fuel listed a w := by
  obtain ⟨hsz, hpre, htl⟩ := split_at hsplit
  have hat : ∀ i o, init[i]? = some o → ∃ dp g, relyOne ops n i o dp g = true ∧ relyStep P Q T V a0 w0 o dp g (V.getD i SV.any) := fun i o hi => by
    obtain ⟨dp, g, hD, h1⟩ := relyB_at init D 0 i o hB hi
    rw [Nat.zero_add] at h1
    exact ⟨dp, g, h1, relyAll_at _ _ _ i o dp g hA hi hD⟩
  -- once all of the first ones have come up
  have fin : ∀ (fuel : Nat) (listed : Array Bool) (a : Act) (w : World), (unl ops listed).length = fuel → (∀ j, init.length ≤ j → j < ops.size → listed.getD j true = false) → RelyInv ops T V a0 w0 listed a w → (∀ j, j < init.length → listed.getD j false = true) → wpAny P .any ops Q fuel listed a w := fun fuel listed a w hu hun inv hdone => by
    have h1 : wpList P ops Q tail a w := rely_all (Q' := fun a w => wpList P ops Q tail a w) inv
      (fun k o hk => ⟨hpre k o hk, hdone k (List.getElem?_eq_some_iff.1 hk).1⟩) (fun j hj => by
        rcases Nat.lt_or_ge j init.length with h | h
        · exact h
        · rcases Nat.lt_or_ge j ops.size with h' | h'
          · rw [getD_both (hun j h h')] at hj; cases hj
          · have : listed.getD j false = false := by simp [Array.getElem?_eq_none (show listed.size ≤ j by rw [inv.size]; omega)]
            rw [this] at hj; cases hj) hl (hE w inv.now)
    have hf : fuel = tail.length := by
      rw [← hu]
      unfold unl
      have e : (List.range ops.size).filter (fun i => !listed.getD i true) = List.range' init.length tail.length := by
        rw [List.range_eq_range', show ops.size = init.length + tail.length from hsz, ← List.range'_append_1, List.filter_append, List.filter_eq_nil_iff.2, List.filter_eq_self.2]
        · simp
        · intro i hi
          simp only [List.mem_range'_1] at hi
          rw [hun i (by omega) (by omega)]; rfl
        · intro i hi
          simp only [List.mem_range'_1] at hi
          have h2 := hdone i (by omega)
          have h3 : listed.getD i true = true := by
            have hlt : i < listed.size := by rw [inv.size]; omega
            simp [hlt] at h2 ⊢; exact h2
          rw [h3]; simp
      rw [e]; simp
    subst hf
    exact tail_seq hsplit htb tail.length 0 listed a w (by omega) inv.size (by simpa using hdone) (by simpa using hun) (by simpa using h1)
  intro fuel
  induction fuel with
  | zero =>
    intro listed a w hu hun inv
    have : init.length ∈ unl ops listed := by
      unfold unl; rw [List.mem_filter]; exact ⟨List.mem_range.2 (by omega), by rw [hun _ (Nat.le_refl _) (by omega)]; rfl⟩
    rw [List.eq_nil_of_length_eq_zero hu] at this
    cases this
  | succ fuel ih =>
    intro listed a w hu hun inv
    by_cases hdone : ∀ j, j < init.length → listed.getD j false = true
    · exact fin _ listed a w hu hun inv hdone
    · -- none of the last ones may come up yet
      have hlow : ∀ i, i ∈ Region.ready .any ops listed → i < init.length := fun i hi => by
        rcases Nat.lt_or_ge i init.length with h | h
        · exact h
        · exfalso
          obtain ⟨h0, o, ho, hall⟩ := mem_ready.1 hi
          have hilt := (Array.getElem?_eq_some_iff.1 ho).1
          by_cases him : i = init.length
          · subst him
            apply hdone
            have hd : ∀ (d j : Nat), init.length - j = d → j < init.length → listed.getD j false = true := fun d => by
              induction d using Nat.strongRecOn with
              | _ d ihd =>
                intro j hd hj
                have h1 := List.all_eq_true.1 hsink j (List.mem_range.2 hj)
                obtain ⟨t, ht1, ht2⟩ := List.any_eq_true.1 h1
                simp only [Bool.and_eq_true, decide_eq_true_eq] at ht2
                obtain ⟨ot, hot, e, he, hb, hon⟩ := Region.waitsFor_spec ht2.2
                have htle : t ≤ init.length := by have := List.mem_range.1 ht1; omega
                rw [← hon]
                by_cases htm : t = init.length
                · subst htm
                  have : ot = o := Option.some.inj (hot.symm.trans ho)
                  subst this
                  exact hall e he hb
                · exact inv.closed t ot hot (ihd (init.length - t) (by omega) t rfl (by omega)) e he hb
            exact fun j hj => hd _ j rfl hj
          · have h := List.all_eq_true.1 htb (i - init.length) (List.mem_range.2 (by omega))
            simp only [Bool.and_eq_true, Bool.or_eq_true, decide_eq_true_eq] at h
            rw [show init.length + (i - init.length) = i by omega] at h
            rcases h.2 with h | h
            · omega
            · obtain ⟨oi, hoi', e, he, hbe, hon⟩ := Region.waitsFor_spec h
              have : oi = o := Option.some.inj (hoi'.symm.trans ho)
              subst this
              have h1 := hall e he hbe
              rw [hon, getD_both (hun (i - 1) (by omega) (by omega))] at h1
              cases h1
      refine ⟨fun hr => ?_, fun i hi => ?_⟩
      · exfalso
        apply hdone
        intro i
        induction i using Nat.strongRecOn with
        | _ i ih =>
          intro hi
          cases hli : listed.getD i false with
          | true => rfl
          | false =>
            exfalso
            have hmem : i ∈ Region.ready .any ops listed := by
              rw [mem_ready]
              refine ⟨getD_in (by rw [inv.size]; omega) hli, init[i], hpre i _ (List.getElem?_eq_getElem hi), fun e he hb => ?_⟩
              obtain ⟨dp, g, h1, _⟩ := hat i init[i] (List.getElem?_eq_getElem hi)
              simp only [relyOne, Bool.and_eq_true] at h1
              have h2 := (Array.all_eq_true_iff_forall_mem.1 h1.1.1.2) e he
              simp only [hb, Bool.not_true, Bool.false_or, decide_eq_true_eq] at h2
              exact ih e.on h2 (by omega)
            rw [hr] at hmem
            cases hmem
      · have hi' := hlow i hi
        obtain ⟨h0, o, ho, hall⟩ := mem_ready.1 hi
        have hio : init[i]? = some o := by
          have := hpre i init[i] (List.getElem?_eq_getElem hi')
          rw [ho] at this
          rw [List.getElem?_eq_getElem hi', Option.some.inj this]
        obtain ⟨dp, g, h1, hstep⟩ := hat i o hio
        refine wpOp_mono (fun a' w' inv' => ih _ a' w' (by have := unl_set inv.size h0; omega) (fun j hj hj2 => by rw [getD_set_ne true (by omega)]; exact hun j hj hj2) inv') (rely_op hn ht ho h1 hstep h0 hall inv)
/-- **A region that draws its order, the last operations (from place m on) one behind the other.** -/
theorem wp_region_rely_tail {id : Nat} (T : World → World → Prop) (V : List (SV T)) (D : Deps) (n m : Nat) (hm : P.follows .mixedOrders = true) (hn : a0.tmps.size = n) (hlen : (ops.toList.take m).length = m) (hpos : 0 < (ops.toList.drop m).length) (hB : relyB ops n 0 (ops.toList.take m) D = true)
    (hsink : Region.sinkB .any ops m = true) (htb : tailB ops (ops.toList.drop m) m = true) (ht : ∀ a b c : World, T a b → T b c → T a c) (hd : T w0 w0.drew) (hl : m ≤ V.length)
    (hA : relyAll P Q T V a0 w0 (ops.toList.take m) D V) (hE : ∀ w, T w0 w → relyEnd (fun _ a w => wpList P ops Q (ops.toList.drop m) a w) T (ops.toList.take m) V a0 w) : (Code.region id ops true).wp P Q a0 w0 := by
  refine wp_region_any hm ?_
  refine wpAny_rely_tail (List.take_append_drop m ops.toList).symm hpos hn hB (by rw [hlen]; exact hsink) (by rw [hlen]; exact htb) ht (by rw [hlen]; exact hl) hA hE ops.size _ a0 w0.drew unl_start (fun j _ hj => by simp [hj]) (rely_start hd)
end
end Go.Proofs.Yteelddmegmojpaa
