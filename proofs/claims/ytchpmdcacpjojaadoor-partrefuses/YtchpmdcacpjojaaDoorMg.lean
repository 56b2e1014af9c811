/- A region that draws its order, with a state that hangs on which of its operations are done, on the frame and on the world. No program is named here. -/
import Derived.Test.YtchpmdcacpjojaaDoorMe
import Derived.Test.YtchpmdcacpjojaaDoorMb
import Derived.Test.YtchpmdcacpjojaaDoorMf
import Derived.Test.YtchpmdcacpjojaaDoorMa
import Derived.Test.YtchpmdcacpjojaaDoorMc
set_option linter.all false
namespace Go.Proofs.YtchpmdcacpjojaaDoor
open Go Go.RowKit
set_option maxRecDepth 8000
set_option linter.all false

/-- Operation i, not done yet, all that it waits for done. -/
structure LNext (ops : Array Oper) (i : Nat) (li : Array Bool) : Prop where
  no : li.getD i false = false
  lt : i < li.size
  waits : ∀ j, Region.waitsFor .any ops i j = true → li.getD j false = true
  closed : ∀ j k, Region.waitsFor .any ops j k = true → li.getD j false = true → li.getD k false = true
def relyStepL (P : Program) (ops : Array Oper) (Q : Exit → Act → World → Prop) (T : World → World → Prop) (V : List (SV T)) (J : Array Bool → Act → World → Prop) (a0 : Act) (w0 : World) (i : Nat) (o : Oper) (dp : List (Tmp × Option Nat)) (g : Option (Tmp × Bool)) (c : SV T) : Prop :=
  ∀ (a : Act) (w : World) (li : Array Bool), T w0 w → relyFacts V a0 a w dp → J li a w → LNext ops i li → ∀ K : Act → World → Prop, (∀ v w', T w w' → J (li.setIfInBounds i true) (a.put o.dst v) w' → c.pred v w' → K (a.put o.dst v) w') →
    if relyGuard g a then o.wp P a w K Q else K (a.put o.dst undef) w
def relyAllL (P : Program) (ops : Array Oper) (Q : Exit → Act → World → Prop) (T : World → World → Prop) (V : List (SV T)) (J : Array Bool → Act → World → Prop) (a0 : Act) (w0 : World) : Nat → List Oper → Deps → List (SV T) → Prop
  | _, [], _, _ => True
  | i, o :: r, (dp, g) :: D, c :: C => relyStepL P ops Q T V J a0 w0 i o dp g c ∧ relyAllL P ops Q T V J a0 w0 (i + 1) r D C
  | _, _, _, _ => False
section
variable {P : Program} {ops : Array Oper} {Q : Exit → Act → World → Prop} {T : World → World → Prop} {V : List (SV T)} {J : Array Bool → Act → World → Prop} {a0 : Act} {w0 : World} {n : Nat} {D : Deps} {init : List Oper} {last : Oper}
theorem relyAllL_at : ∀ (i : Nat) (l : List Oper) (D : Deps) (C : List (SV T)) (k : Nat) (o : Oper) dp g, relyAllL P ops Q T V J a0 w0 i l D C → l[k]? = some o → D[k]? = some (dp, g) → relyStepL P ops Q T V J a0 w0 (i + k) o dp g (C.getD k SV.any)
  | _, [], _, _, _, _, _, _, _, h, _ => by simp at h
  | _, x :: r, [], _, _, _, _, _, h, _, _ => h.elim
  | _, x :: r, y :: D, [], _, _, _, _, h, _, _ => h.elim
  | i, x :: r, (dp, g) :: D, c :: C, 0, o, dp', g', h, ho, hD => by
    simp at ho hD
    obtain ⟨rfl, rfl⟩ := hD
    subst ho
    exact h.1
  | i, x :: r, (dp, g) :: D, c :: C, k + 1, o, dp', g', h, ho, hD => by
    have := relyAllL_at (i + 1) r D C k o dp' g' h.2 (by simpa using ho) (by simpa using hD)
    rw [show i + 1 + k = i + (k + 1) by omega] at this
    simpa using this
theorem wpAny_relyL {Q2 : Exit → Act → World → Prop} (hQ : ∀ (o : Oper) (a : Act) (w : World) (K : Act → World → Prop), a.defers = a0.defers → o.wp P a w K Q2 → o.wp P a w K Q) (hsplit : ops.toList = init ++ [last]) (hn : a0.tmps.size = n) (hB : relyB ops n 0 init D = true) (hlast : lastB ops last init.length = true) (hg : last.guard = none) (ht : ∀ a b c : World, T a b → T b c → T a c)
    (hl : init.length ≤ V.length) (hA : relyAllL P ops Q2 T V J a0 w0 0 init D V) (hE : ∀ w, T w0 w → relyEnd (fun _ a w => (∃ li : Array Bool, (∀ j, j < init.length → li.getD j false = true) ∧ J li a w) → last.wp P a w (fun a' w' => Q .normal a' w') Q) T init V a0 w) :
    ∀ (fuel : Nat) (listed : Array Bool) (a : Act) (w : World), (unl ops listed).length = fuel → listed.getD init.length true = false → RelyInv ops T V a0 w0 listed a w → J listed a w → wpAny P .any ops Q fuel listed a w := by
  obtain ⟨hlo, hsz, hpre⟩ := last_at hsplit
  simp only [lastB, Bool.and_eq_true] at hlast
  have hat : ∀ i o, init[i]? = some o → ∃ dp g, relyOne ops n i o dp g = true ∧ relyStepL P ops Q2 T V J a0 w0 i o dp g (V.getD i SV.any) := fun i o hi => by
    obtain ⟨dp, g, hD, h1⟩ := relyB_at init D 0 i o hB hi
    rw [Nat.zero_add] at h1
    refine ⟨dp, g, h1, ?_⟩
    have := relyAllL_at 0 _ _ _ i o dp g hA hi hD
    rwa [Nat.zero_add] at this
  intro fuel
  induction fuel with
  | zero =>
    intro listed a w hu hun inv _
    have : init.length ∈ unl ops listed := by
      unfold unl; rw [List.mem_filter]; exact ⟨List.mem_range.2 (by omega), by rw [hun]; rfl⟩
    rw [List.eq_nil_of_length_eq_zero hu] at this
    cases this
  | succ fuel ih =>
    intro listed a w hu hun inv ph
    refine ⟨fun hr => ?_, fun i hi => ?_⟩
    · exfalso
      have all : ∀ i, i < init.length → listed.getD i false = true := fun i => by
        induction i using Nat.strongRecOn with
        | _ i ih =>
          intro hi
          cases hli : listed.getD i false with
          | true => rfl
          | false =>
            exfalso
            have hmem : i ∈ Region.ready .any ops listed := by
              rw [mem_ready]
              refine ⟨getD_in (by rw [inv.size]; omega) hli, init[i], hpre i _ (List.getElem?_eq_getElem hi), fun e he hb => ?_⟩
              obtain ⟨dp, g, h1, _⟩ := hat i init[i] (List.getElem?_eq_getElem hi)
              simp only [relyOne, Bool.and_eq_true] at h1
              have h2 := (Array.all_eq_true_iff_forall_mem.1 h1.1.1.2) e he
              simp only [hb, Bool.not_true, Bool.false_or, decide_eq_true_eq] at h2
              exact ih e.on h2 (by omega)
            rw [hr] at hmem
            cases hmem
      have hmem : init.length ∈ Region.ready .any ops listed := by
        rw [mem_ready]
        refine ⟨hun, last, hlo, fun e he hb => ?_⟩
        have h2 := (Array.all_eq_true_iff_forall_mem.1 hlast.2) e he
        simp only [hb, Bool.not_true, Bool.false_or, decide_eq_true_eq] at h2
        exact all e.on h2
      rw [hr] at hmem
      cases hmem
    · obtain ⟨h0, o, ho, hall⟩ := mem_ready.1 hi
      have hilt := (Array.getElem?_eq_some_iff.1 ho).1
      by_cases him : i = init.length
      · subst him
        have hol : o = last := Option.some.inj (ho.symm.trans hlo)
        subst hol
        have hdone : ∀ (d j : Nat), init.length - j = d → j < init.length → listed.getD j false = true := fun d => by
          induction d using Nat.strongRecOn with
          | _ d ihd =>
            intro j hd hj
            have h1 := List.all_eq_true.1 hlast.1 j (List.mem_range.2 hj)
            obtain ⟨t, ht1, ht2⟩ := List.any_eq_true.1 h1
            simp only [Bool.and_eq_true, decide_eq_true_eq] at ht2
            obtain ⟨ot, hot, e, he, hb, hon⟩ := Region.waitsFor_spec ht2.2
            have htle : t ≤ init.length := by have := List.mem_range.1 ht1; omega
            rw [← hon]
            by_cases htm : t = init.length
            · subst htm
              have : ot = o := Option.some.inj (hot.symm.trans ho)
              subst this
              exact hall e he hb
            · exact inv.closed t ot hot (ihd (init.length - t) (by omega) t rfl (by omega)) e he hb
        replace hdone : ∀ j, j < init.length → listed.getD j false = true := fun j hj => hdone _ j rfl hj
        have h1 : (∃ li : Array Bool, (∀ j, j < init.length → li.getD j false = true) ∧ J li a w) → o.wp P a w (fun a' w' => Q .normal a' w') Q := rely_all (Q' := fun a w => (∃ li : Array Bool, (∀ j, j < init.length → li.getD j false = true) ∧ J li a w) → o.wp P a w (fun a' w' => Q .normal a' w') Q) inv
          (fun k o hk => ⟨hpre k o hk, hdone k (List.getElem?_eq_some_iff.1 hk).1⟩) (fun j hj => by
            rcases Nat.lt_or_ge j init.length with h | h
            · exact h
            · rcases Nat.eq_or_lt_of_le h with h | h
              · subst h; rw [getD_both hun] at hj; cases hj
              · have : listed.getD j false = false := by simp [Array.getElem?_eq_none (show listed.size ≤ j by rw [inv.size]; omega)]
                rw [this] at hj; cases hj) hl (hE w inv.now)
        have hK : ∀ a' w', Q .normal a' w' → wpAny P .any ops Q fuel (listed.setIfInBounds init.length true) a' w' := fun a' w' h => wpAny_done (ready_none fun j hj => by
          by_cases hj2 : j = init.length
          · subst hj2; simp [show init.length < listed.size by rw [inv.size]; exact hj]
          · exact getD_set_true (hdone j (by omega))) h _
        unfold wpOp
        simp only [hlo, Region.wanted, hg, if_true]
        exact .inl (Oper.wp_mono hK (h1 ⟨listed, hdone, ph⟩))
      · have hi' : i < init.length := by omega
        have hio : init[i]? = some o := by
          have := hpre i init[i] (List.getElem?_eq_getElem hi')
          rw [ho] at this
          rw [List.getElem?_eq_getElem hi', Option.some.inj this]
        obtain ⟨dp, g, h1, hstep⟩ := hat i o hio
        obtain ⟨hfacts, hguard, next⟩ := rely_next hn ht ho h1 h0 hall inv
        have i0 : listed.getD i false = false := getD_both h0
        have hs : if relyGuard g a then o.wp P a w (fun a' w' => wpAny P .any ops Q fuel (listed.setIfInBounds i true) a' w') Q2 else wpAny P .any ops Q fuel (listed.setIfInBounds i true) (a.put o.dst undef) w := by
          exact hstep a w listed inv.now hfacts ph ⟨i0, by rw [inv.size]; exact hilt, fun j hj => by
            obtain ⟨oi, hoi, e, he, hb, hon⟩ := Region.waitsFor_spec hj
            have : oi = o := Option.some.inj (hoi.symm.trans ho)
            subst this
            rw [← hon]
            exact hall e he hb, fun j k hj hl => by
            obtain ⟨oj, hoj, e, he, hb, hon⟩ := Region.waitsFor_spec hj
            rw [← hon]
            exact inv.closed j oj hoj hl e he hb⟩ (fun a' w' => wpAny P .any ops Q fuel (listed.setIfInBounds i true) a' w') (fun v w' hT hJ hv => ih _ _ w' (by have := unl_set inv.size h0; omega) (by rw [getD_set_ne true him]; exact hun) (next v w' hT hv) hJ)
        unfold wpOp
        simp only [ho, hguard]
        split
        · rename_i hw; rw [if_pos hw] at hs; exact .inl (hQ _ _ _ _ inv.defers hs)
        · rename_i hw; rw [if_neg hw] at hs; exact hs
/-- **A region that draws its order, with a state that hangs on what is done.** -/
theorem wp_region_relyL {id : Nat} (T : World → World → Prop) (J : Array Bool → Act → World → Prop) (V : List (SV T)) (D : Deps) (n : Nat) (hla : ops.toList.getLast? = some last) (hm : P.follows .mixedOrders = true) (hn : a0.tmps.size = n) (hB : relyB ops n 0 ops.toList.dropLast D = true)
    (hlast : lastB ops last ops.toList.dropLast.length = true) (hg : last.guard = none)
    (ht : ∀ a b c : World, T a b → T b c → T a c) (hd : T w0 w0.drew) (hJ : J (Array.replicate ops.size false) a0 w0.drew) (hl : ops.toList.dropLast.length ≤ V.length)
    (hA : relyAllL P ops Q T V J a0 w0 0 ops.toList.dropLast D V) (hE : ∀ w, T w0 w → relyEnd (fun _ a w => (∃ li : Array Bool, (∀ j, j < ops.toList.dropLast.length → li.getD j false = true) ∧ J li a w) → last.wp P a w (fun a' w' => Q .normal a' w') Q) T ops.toList.dropLast V a0 w) : (Code.region id ops true).wp P Q a0 w0 := by
  have hsplit := split_last hla
  obtain ⟨_, hsz, _⟩ := last_at hsplit
  refine wp_region_any hm ?_
  exact wpAny_relyL (fun _ _ _ _ _ h => h) hsplit hn hB hlast hg ht hl hA hE ops.size _ a0 w0.drew unl_start (by
    have hlt : ops.toList.dropLast.length < ops.size := by omega
    generalize ops.toList.dropLast.length = m at hlt
    simp [hlt]) (rely_start hd) hJ
end
end Go.Proofs.YtchpmdcacpjojaaDoor
/- Regions in which a state turns and a variable is made; elements of lists of acts and calls where they lie. -/
namespace Go.Proofs.YtchpmdcacpjojaaDoor
open Go Go.RowKit
set_option maxRecDepth 8000
set_option linter.all false
/-- A step that keeps what was there in W, but blocks from lo to below hi. -/
structure PW (W : World) (lo hi : Nat) (w w' : World) : Prop where
  below : Below lo w w'
  high : ∀ k, hi ≤ k → k < W.heap.size → w'.heap[k]? = w.heap[k]?
section
variable {W : World} {lo hi : Nat}
theorem PW.refl (w : World) : PW W lo hi w w := ⟨Below.refl _ _, fun _ _ _ => rfl⟩
theorem PW.trans (a b c : World) (h : PW W lo hi a b) (k : PW W lo hi b c) : PW W lo hi a c := ⟨h.below.trans k.below, fun i h1 h2 => (k.high i h1 h2).trans (h.high i h1 h2)⟩
theorem PW.drew (w : World) : PW W lo hi w w.drew := ⟨(Below.refl _ _).drew, fun _ _ _ => rfl⟩
theorem PW.new {w w' : World} (h : PW W lo hi W w) (hN : NewT w w') (hl : lo ≤ W.heap.size) : PW W lo hi w w' := ⟨hN.out.mono (Nat.le_trans hl h.below.size), fun k _ h2 => hN.out.block k (Nat.lt_of_lt_of_le h2 h.below.size)⟩
theorem PW.pt {w w' : World} (h : PW W lo hi W w) (hP : PT lo hi w w') : PW W lo hi w w' := ⟨hP.below, fun k h1 h2 => hP.high k (Nat.lt_of_lt_of_le h2 h.below.size) h1⟩
theorem PW.store {w w' : World} (h : PW W lo hi W w) {b : Nat} (hb : W.heap.size ≤ b) (hl : lo ≤ W.heap.size) (hR : RT b w w') : PW W lo hi w w' := ⟨hR.below.mono (by omega), fun k _ h2 => hR.below.block k (by omega)⟩
theorem PW.end {w : World} (h : PW W lo hi W w) : PT lo hi W w := ⟨h.below, fun k h1 h2 => h.high k h2 h1⟩
theorem PW.block {w : World} (h : PW W lo hi W w) {k : Nat} (hk : k < W.heap.size) (hd : k < lo ∨ hi ≤ k) : w.heap[k]? = W.heap[k]? := h.end.block hk hd
theorem PW.row {w : World} (h : PW W lo hi W w) {b n : Nat} {t : TypeId} {F : Nat → Value} (hr : W.rowIs b t n F) (hd : b < lo ∨ hi ≤ b) : w.rowIs b t n F := row_of (h.block hr.lt hd) hr
theorem PW.cell {w : World} (h : PW W lo hi W w) {b o : Nat} {v : Value} (hc : W.cell? ⟨b, o, none⟩ = some v) (hd : b < lo ∨ hi ≤ b) : w.cell? ⟨b, o, none⟩ = some v := (cell_of (h.block (cell_lt hc) hd)).trans hc
theorem PW.tables {w : World} (h : PW W lo hi W w) (hT : Tables W) (hl : 2 ≤ lo) : Tables w := h.end.tables hT hl
end
theorem gset (li : Array Bool) {i j : Nat} (h : i ≠ j) : (li.setIfInBounds i true).getD j false = li.getD j false := getD_set_ne false h
theorem gset_same (li : Array Bool) {i : Nat} (h : i < li.size) : (li.setIfInBounds i true).getD i false = true := by simp [h]
/-- The state: A, and B once operation ic is done; the variable of slot p, once ia is done; what it holds, once 'is' is done. -/
structure JL (ic ia is p : Nat) (A B : World → Prop) (W : World) (t n : Nat) (G : Nat → Value) (li : Array Bool) (a : Act) (w : World) : Prop where
  pre : li.getD ic false = false → A w
  post : li.getD ic false = true → B w
  ord : li.getD is false = true → li.getD ia false = true
  var : li.getD ia false = true → ∀ b, a.tmps.getD p undef = .pointer (some ⟨b, 0, none⟩) → W.heap.size ≤ b ∧ ∃ F, w.rowIs b t n F ∧ (li.getD is false = true → F = G)
section
variable {ic ia is p : Nat} {A B : World → Prop} {W : World} {t n : Nat} {G : Nat → Value} {li : Array Bool} {a : Act} {w w' : World} {d : Option Tmp} {v : Value}
theorem put_ne {a : Act} {d : Option Tmp} {p : Nat} {v : Value} (hd : d ≠ some p) : (a.put d v).tmps.getD p undef = a.tmps.getD p undef := by
  cases d with
  | none => rfl
  | some q =>
    have hne : q ≠ p := fun e => hd (by rw [e])
    simp [Act.put, Array.getElem?_setIfInBounds_ne hne]
theorem JL.start (h : A w) (m : Nat) : JL ic ia is p A B W t n G (Array.replicate m false) a w :=
  ⟨fun _ => h, fun h => (by rw [getD_replicate_false] at h; cases h), fun h => (by rw [getD_replicate_false] at h; cases h), fun h => (by rw [getD_replicate_false] at h; cases h)⟩
theorem JL.other (h : JL ic ia is p A B W t n G li a w) {i : Nat} (hi : i ≠ ic ∧ i ≠ ia ∧ i ≠ is) (hd : d ≠ some p) (hA : A w → A w') (hB : B w → B w') (hr : ∀ b F, W.heap.size ≤ b → w.rowIs b t n F → w'.rowIs b t n F) : JL ic ia is p A B W t n G (li.setIfInBounds i true) (a.put d v) w' := by
  obtain ⟨h1, h2, h3⟩ := hi
  refine ⟨?_, ?_, ?_, ?_⟩
  · rw [gset _ h1]; exact fun k => hA (h.pre k)
  · rw [gset _ h1]; exact fun k => hB (h.post k)
  · rw [gset _ h2, gset _ h3]; exact h.ord
  · rw [gset _ h2, gset _ h3]
    intro k b e1
    obtain ⟨e2, F, e3, e4⟩ := h.var k b ((put_ne hd).symm.trans e1)
    exact ⟨e2, F, hr b F e2 e3, e4⟩
theorem JL.new (h : JL ic ia is p A B W t n G li a w) {i : Nat} (hi : i ≠ ic ∧ i ≠ ia ∧ i ≠ is) (hd : d ≠ some p) (hN : NewT w w') (hA : A w → A w') (hB : B w → B w') : JL ic ia is p A B W t n G (li.setIfInBounds i true) (a.put d v) w' := h.other hi hd hA hB fun _ _ _ hr => hN.row hr
theorem JL.alloc {ops : Array Oper} (h : JL ic ia is p A B W t n G li a w) (hx : LNext ops ia li) (hne : ia ≠ ic ∧ ia ≠ is) {F0 : Nat → Value} (hW : W.heap.size ≤ w.heap.size) (hA : A w → A (w.alloc (.cells (rowA n F0) t))) (hB : B w → B (w.alloc (.cells (rowA n F0) t))) : JL ic ia is p A B W t n G (li.setIfInBounds ia true) (a.put (some p) (.pointer (some ⟨w.heap.size, 0, none⟩))) (w.alloc (.cells (rowA n F0) t)) := by
  have hs : li.getD is false = false := by
    cases hc : li.getD is false with
    | false => rfl
    | true => have := h.ord hc; rw [hx.no] at this; cases this
  refine ⟨?_, ?_, ?_, ?_⟩
  · rw [gset _ hne.1]; exact fun k => hA (h.pre k)
  · rw [gset _ hne.1]; exact fun k => hB (h.post k)
  · rw [gset _ hne.2, hs]; exact fun k => by cases k
  · rw [gset _ hne.2, hs]
    intro _ b hb
    have hs : b = w.heap.size := by
      by_cases hp : p < a.tmps.size
      · simp [Act.put, hp] at hb; exact hb.symm
      · simp [Act.put, hp] at hb; cases hb
    subst hs
    exact ⟨hW, F0, rowIs_box w t n F0, fun k => by cases k⟩
theorem JL.call {ops : Array Oper} (h : JL ic ia is p A B W t n G li a w) (hx : LNext ops ic li) (hne : ic ≠ ia ∧ ic ≠ is) (hd : d ≠ some p) (hB : B w') (hr : ∀ b F, W.heap.size ≤ b → w.rowIs b t n F → w'.rowIs b t n F) : JL ic ia is p A B W t n G (li.setIfInBounds ic true) (a.put d v) w' := by
  refine ⟨?_, fun _ => hB, ?_, ?_⟩
  · rw [gset_same _ hx.lt]; exact fun k => by cases k
  · rw [gset _ hne.1, gset _ hne.2]; exact h.ord
  · rw [gset _ hne.1, gset _ hne.2]
    intro k b e1
    obtain ⟨e2, F, e3, e4⟩ := h.var k b ((put_ne hd).symm.trans e1)
    exact ⟨e2, F, hr b F e2 e3, e4⟩
theorem JL.store {ops : Array Oper} {b : Nat} (h : JL ic ia is p A B W t n G li a w) (hx : LNext ops is li) (hne : is ≠ ic ∧ is ≠ ia) (hia : li.getD ia false = true) (h1 : a.tmps.getD p undef = .pointer (some ⟨b, 0, none⟩)) (h2 : W.heap.size ≤ b) (h3 : w'.rowIs b t n G) (hA : A w → A w') (hB : B w → B w') : JL ic ia is p A B W t n G (li.setIfInBounds is true) (a.put none v) w' := by
  refine ⟨?_, ?_, ?_, ?_⟩
  · rw [gset _ hne.1]; exact fun k => hA (h.pre k)
  · rw [gset _ hne.1]; exact fun k => hB (h.post k)
  · rw [gset _ hne.2]; exact fun _ => hia
  · rw [gset _ hne.2]
    intro _ b' hb'
    have e : a.tmps.getD p undef = .pointer (some ⟨b', 0, none⟩) := hb'
    rw [h1] at e
    cases e
    exact ⟨h2, G, h3, fun _ => rfl⟩
theorem JL.at {g m : Nat} (h : ∃ li : Array Bool, (∀ j, j < m → li.getD j false = true) ∧ JL ic ia is p A B W t n G li a w) (hm : ic < m ∧ ia < m ∧ is < m) (hg : a.tmps.getD p undef = .pointer (some ⟨g, 0, none⟩)) : B w ∧ W.heap.size ≤ g ∧ w.rowIs g t n G := by
  obtain ⟨li, hl, hJ⟩ := h
  obtain ⟨e2, F, e3, e4⟩ := hJ.var (hl _ hm.2.1) g hg
  obtain rfl := e4 (hl _ hm.2.2)
  exact ⟨hJ.post (hl _ hm.1), e2, e3⟩
end
theorem JL.atc {ic ia is p m : Nat} {A B : World → Prop} {W : World} {t n : Nat} {G : Nat → Value} {a : Act} {w : World} (h : ∃ li : Array Bool, (∀ j, j < m → li.getD j false = true) ∧ JL ic ia is p A B W t n G li a w) (hm : ic < m) : B w := by
  obtain ⟨li, hl, hJ⟩ := h
  exact hJ.post (hl _ hm)
theorem acF_c (x : Ac) (j : Nat) (h : j < 41) : acF x (1 + j) = clF x.c j := by unfold acF; rw [if_neg (by omega), if_pos (by omega), show 1 + j - 1 = j by omega]
section
variable {a : Act} {w : World} {o : Oper} {K : Act → World → Prop} {Q : Exit → Act → World → Prop} {x y : Operand} {g o0 : Nat}
theorem opr_idxB {P : Program} {sT eT : TypeId} {n b off m c i : Nat} {z : Int} (T : ElTy P sT eT n) (hi : i < m) (hz : z = (i : Int)) (ho : o.op = .indexAddr sT x y) (hx : a.eval x = .slice (some ⟨b, off, none⟩) m c) (hy : a.eval y = .int .i64 z) (h : K (a.put o.dst (.pointer (some ⟨b, off + i * n, none⟩))) w) : o.wp P a w K Q := by
  subst hz
  obtain ⟨dst, op, type, pos, after, guard⟩ := o
  simp only at ho
  subst ho
  exact opr_val (s := Instr.indexAt sT (a.eval x) (a.eval y)) rfl (by rw [hx, hy, run_idxE T w hi]) h
theorem opr_fldAc0 (ho : o.op = .fieldAddr 44 x 0) (hx : a.eval x = .pointer (some ⟨g, o0, none⟩)) (h : K (a.put o.dst (.pointer (some ⟨g, o0, none⟩))) w) : o.wp Tryd.prog a w K Q :=
  opr_fld Tryd.underlying44 rfl info_int ho hx (by rfl) h
theorem opr_fldAc1 (ho : o.op = .fieldAddr 44 x 1) (hx : a.eval x = .pointer (some ⟨g, o0, none⟩)) (h : K (a.put o.dst (.pointer (some ⟨g, o0 + 1, none⟩))) w) : o.wp Tryd.prog a w K Q :=
  opr_fld Tryd.underlying44 rfl info_cl1 ho hx (by rfl) h
theorem opr_fldAc2 (ho : o.op = .fieldAddr 44 x 2) (hx : a.eval x = .pointer (some ⟨g, o0, none⟩)) (h : K (a.put o.dst (.pointer (some ⟨g, o0 + 42, none⟩))) w) : o.wp Tryd.prog a w K Q :=
  opr_fld Tryd.underlying44 rfl info_bool ho hx (by rfl) h
theorem opr_fldClB0 (ho : o.op = .fieldAddr 34 x 0) (hx : a.eval x = .pointer (some ⟨g, o0, none⟩)) (h : K (a.put o.dst (.pointer (some ⟨g, o0, none⟩))) w) : o.wp Tryd.prog a w K Q :=
  opr_fld Tryd.underlying34 rfl info_int ho hx (by rfl) h
theorem opr_ldClC {c : Cl} (hc : ∀ j, j < 41 → w.cell? ⟨g, o0 + j, none⟩ = some (clF c j)) (ho : o.op = .load 34 x) (hx : a.eval x = .pointer (some ⟨g, o0, none⟩)) (h : K (a.put o.dst (.agg (rowA 41 (clF c)))) w) : o.wp Tryd.prog a w K Q := by
  obtain ⟨dst, op, type, pos, after, guard⟩ := o
  simp only at ho
  subst ho
  exact opr_val (s := Instr.loadAt 34 (a.eval x)) rfl (by rw [hx]; exact run_ldE callEl hc) h
end
/-- A place where a flag lies; a place where a call lies. -/
def svBp (b : Bool) : SV NewT := ⟨fun v w => ∃ g o, v = .pointer (some ⟨g, o, none⟩) ∧ w.cell? ⟨g, o, none⟩ = some (.bool b), fun _ _ _ ⟨g, o, h1, h2⟩ hT => ⟨g, o, h1, (hT.out.cell (p := ⟨g, o, none⟩) (World.block_lt_of_cell? _ _ h2)).trans h2⟩⟩
def svIpD (z : Int) : SV NewT := ⟨fun v w => ∃ g o, v = .pointer (some ⟨g, o, none⟩) ∧ w.cell? ⟨g, o, none⟩ = some (.int .i64 z), fun _ _ _ ⟨g, o, h1, h2⟩ hT => ⟨g, o, h1, (hT.out.cell (p := ⟨g, o, none⟩) (World.block_lt_of_cell? _ _ h2)).trans h2⟩⟩
section
variable {a : Act} {w : World} {o : Oper} {K : Act → World → Prop} {Q : Exit → Act → World → Prop} {x y : Operand}
theorem opr_ldBp {b : Bool} (ho : o.op = .load 4 x) (hx : (svBp b).pred (a.eval x) w) (h : K (a.put o.dst (.bool b)) w) : o.wp Tryd.prog a w K Q := by
  obtain ⟨g, o0, hv, hc⟩ := hx
  exact opr_ld1 Tryd.underlying4 rfl ho hv hc h
theorem opr_ldIpD {z : Int} (ho : o.op = .load 3 x) (hx : (svIpD z).pred (a.eval x) w) (h : K (a.put o.dst (.int .i64 z)) w) : o.wp Tryd.prog a w K Q := by
  obtain ⟨g, o0, hv, hc⟩ := hx
  exact opr_ld1 Tryd.underlying3 rfl ho hv hc h
theorem opr_fldEe0 {e : En} (ho : o.op = .fieldAddr 56 x 0) (hx : (svEl 4 eyE e).pred (a.eval x) w) (h : ∀ v, (svIpD e.saga).pred v w → K (a.put o.dst v) w) : o.wp Tryd.prog a w K Q := by
  obtain ⟨b, o0, f, hv, hc, rfl⟩ := hx
  exact opr_fld Tryd.underlying56 rfl info_int ho hv (by rfl) (h _ ⟨b, o0, rfl, hc (by omega) 0 (by omega)⟩)
theorem opr_fldEe1 {e : En} (ho : o.op = .fieldAddr 56 x 1) (hx : (svEl 4 eyE e).pred (a.eval x) w) (h : ∀ v, (svIpD e.step).pred v w → K (a.put o.dst v) w) : o.wp Tryd.prog a w K Q := by
  obtain ⟨b, o0, f, hv, hc, rfl⟩ := hx
  exact opr_fld Tryd.underlying56 rfl info_int ho hv (by rfl) (h _ ⟨b, o0 + 1, rfl, hc (by omega) 1 (by omega)⟩)
theorem opr_fldEe2 {e : En} (ho : o.op = .fieldAddr 56 x 2) (hx : (svEl 4 eyE e).pred (a.eval x) w) (h : ∀ v, (svBp e.back).pred v w → K (a.put o.dst v) w) : o.wp Tryd.prog a w K Q := by
  obtain ⟨b, o0, f, hv, hc, rfl⟩ := hx
  exact opr_fld Tryd.underlying56 rfl info_bool ho hv (by rfl) (h _ ⟨b, o0 + 2, rfl, hc (by omega) 2 (by omega)⟩)
theorem opr_fldEe3 {e : En} (ho : o.op = .fieldAddr 56 x 3) (hx : (svEl 4 eyE e).pred (a.eval x) w) (h : ∀ v, (svBp e.good).pred v w → K (a.put o.dst v) w) : o.wp Tryd.prog a w K Q := by
  obtain ⟨b, o0, f, hv, hc, rfl⟩ := hx
  exact opr_fld Tryd.underlying56 rfl info_bool ho hv (by rfl) (h _ ⟨b, o0 + 3, rfl, hc (by omega) 3 (by omega)⟩)
theorem opr_ldEe {e : En} (ho : o.op = .load 56 x) (hx : (svEl 4 eyE e).pred (a.eval x) w) (h : K (a.put o.dst (.agg (rowA 4 (eyF e)))) w) : o.wp Tryd.prog a w K Q :=
  opr_ldL entEl ho hx (fun v ⟨f, hv, hf⟩ => by subst hv hf; exact h)
theorem opr_fldAe0 {e : Ac} (ho : o.op = .fieldAddr 44 x 0) (hx : (svEl 43 acE e).pred (a.eval x) w) (h : ∀ v, (svIpD e.kind).pred v w → K (a.put o.dst v) w) : o.wp Tryd.prog a w K Q := by
  obtain ⟨b, o0, f, hv, hc, rfl⟩ := hx
  exact opr_fld Tryd.underlying44 rfl info_int ho hv (by rfl) (h _ ⟨b, o0, rfl, hc (by omega) 0 (by omega)⟩)
def svClP (c : Cl) : SV NewT := svEl 41 clE c
theorem opr_fldAe1 {e : Ac} (ho : o.op = .fieldAddr 44 x 1) (hx : (svEl 43 acE e).pred (a.eval x) w) (h : ∀ v, (svClP e.c).pred v w → K (a.put o.dst v) w) : o.wp Tryd.prog a w K Q := by
  obtain ⟨b, o0, f, hv, hc, rfl⟩ := hx
  refine opr_fldAc1 ho hv (h _ ⟨b, o0 + 1, clF e.c, rfl, fun _ j hj => ?_, rfl⟩)
  rw [Nat.add_assoc, hc (by omega) (1 + j) (by omega), acF_c _ _ hj]
theorem opr_fldAe2 {e : Ac} (ho : o.op = .fieldAddr 44 x 2) (hx : (svEl 43 acE e).pred (a.eval x) w) (h : ∀ v, (svBp e.r).pred v w → K (a.put o.dst v) w) : o.wp Tryd.prog a w K Q := by
  obtain ⟨b, o0, f, hv, hc, rfl⟩ := hx
  exact opr_fldAc2 ho hv (h _ ⟨b, o0 + 42, rfl, hc (by omega) 42 (by omega)⟩)
theorem opr_fldCe0 {c : Cl} (ho : o.op = .fieldAddr 34 x 0) (hx : (svClP c).pred (a.eval x) w) (h : ∀ v, (svIpD c.saga).pred v w → K (a.put o.dst v) w) : o.wp Tryd.prog a w K Q := by
  obtain ⟨b, o0, f, hv, hc, rfl⟩ := hx
  exact opr_fldClB0 ho hv (h _ ⟨b, o0, rfl, hc (by omega) 0 (by omega)⟩)
theorem opr_ldCe {c : Cl} (ho : o.op = .load 34 x) (hx : (svClP c).pred (a.eval x) w) (h : K (a.put o.dst (.agg (rowA 41 (clF c)))) w) : o.wp Tryd.prog a w K Q :=
  opr_ldL callEl ho hx (fun v ⟨f, hv, hf⟩ => by subst hv hf; exact h)
end
/-- Where an act lies. -/
theorem acts_at {w : World} {v : Value} {l : List Ac} (h : RdL 43 acE w v l) {k : Nat} {x : Ac} (hk : l[k]? = some x) : ∃ b o c, v = .slice (some ⟨b, o, none⟩) l.length c ∧ ∀ j, j < 43 → w.cell? ⟨b, o + k * 43 + j, none⟩ = some (acF x j) := by
  obtain ⟨fs, ⟨A, c, hv, h1, h2, h3⟩, h4, h5⟩ := h
  obtain ⟨f, hf, rfl⟩ := h5 k x hk
  obtain ⟨b, o, rfl, hc⟩ := h3 (Nat.lt_of_le_of_lt (Nat.zero_le _) (List.getElem?_eq_some_iff.1 hf).1)
  exact ⟨b, o, c, by rw [hv, h4], fun j hj => hc k _ hf j hj⟩
theorem calls_at {w : World} {v : Value} {l : List Cl} (h : RdL 41 clE w v l) {k : Nat} {x : Cl} (hk : l[k]? = some x) : ∃ b o c, v = .slice (some ⟨b, o, none⟩) l.length c ∧ ∀ j, j < 41 → w.cell? ⟨b, o + k * 41 + j, none⟩ = some (clF x j) := by
  obtain ⟨fs, ⟨A, c, hv, h1, h2, h3⟩, h4, h5⟩ := h
  obtain ⟨f, hf, rfl⟩ := h5 k x hk
  obtain ⟨b, o, rfl, hc⟩ := h3 (Nat.lt_of_le_of_lt (Nat.zero_le _) (List.getElem?_eq_some_iff.1 hf).1)
  exact ⟨b, o, c, by rw [hv, h4], fun j hj => hc k _ hf j hj⟩
end Go.Proofs.YtchpmdcacpjojaaDoor
/- The laws' question whether package keys answers as the document's example. -/
namespace Go.Proofs.YtchpmdcacpjojaaDoor
open Go Go.RowKit
set_option maxRecDepth 8000
set_option linter.all false
set_option maxHeartbeats 1000000 in
theorem Few_cv (w : World) : Cv 23 #[] w (svKeys [oneH 1, oneH 2] [oneH 3, oneH 4, oneH 5] 2) := by
  unfold Cv
  go_enter Tryd.func23, Tryd.ntmps23
  go_upto_region 1 with fail
  have r0 := rowIs_box w 24 3 (keyF (.slice none 0 0) (.slice none 0 0) 0)
  have hN := NewT.alloc w (.cells (rowA 3 (keyF (.slice none 0 0) (.slice none 0 0) 0)) 24)
  change Code.wp _ _ _ _ (w.alloc (.cells (rowA 3 (keyF (.slice none 0 0) (.slice none 0 0) 0)) 24))
  generalize w.alloc (.cells (rowA 3 (keyF (.slice none 0 0) (.slice none 0 0) 0)) 24) = W0 at r0 hN ⊢
  have R0 := Lib.hid r0
  have HN := Lib.hid hN
  clear r0 hN
  refine wp_region_steps0 NewT [SV.eq (.agg (rowA 32 (bF (oneH 1)))), SV.eq (.agg (rowA 32 (bF (oneH 2)))), svH ([oneH 1, oneH 2]), SV.eq (.agg (rowA 32 (bF (oneH 3)))), SV.eq (.agg (rowA 32 (bF (oneH 4)))), SV.eq (.agg (rowA 32 (bF (oneH 5)))), svH ([oneH 3, oneH 4, oneH 5]), svKeys [oneH 1, oneH 2] [oneH 3, oneH 4, oneH 5] 2] [([], none), ([], none), ([(1, some 0), (2, some 1)], none), ([], none), ([], none), ([], none), ([(4, some 3), (5, some 4), (6, some 5)], none), ([(3, some 2), (7, some 6)], none)] 9 8 rfl rfl (by kernel_rfl) NewT.trans (NewT.refl _) (Nat.le_of_ble_eq_true rfl) ⟨?_, ?_, ?_, ?_, ?_, ?_, ?_, ?_, trivial⟩ ?_
  · intro a wx hT hF K hK
    refine rely_wp rfl ?_
    exact opr_build (pv := #[(0, .int .u8 1)]) rfl (by simp only [List.map_toArray, List.map_cons, List.map_nil, eval_const]) (run_bld_one 1 wx) (hK _ _ (NewT.refl _) rfl)
  · intro a wx hT hF K hK
    refine rely_wp rfl ?_
    exact opr_build (pv := #[(0, .int .u8 2)]) rfl (by simp only [List.map_toArray, List.map_cons, List.map_nil, eval_const]) (run_bld_one 2 wx) (hK _ _ (NewT.refl _) rfl)
  · exact fun a wx hT hF K hK => rely_wp rfl (opr_bsH2 rfl hF.1 hF.2.1 hK)
  · intro a wx hT hF K hK
    refine rely_wp rfl ?_
    exact opr_build (pv := #[(0, .int .u8 3)]) rfl (by simp only [List.map_toArray, List.map_cons, List.map_nil, eval_const]) (run_bld_one 3 wx) (hK _ _ (NewT.refl _) rfl)
  · intro a wx hT hF K hK
    refine rely_wp rfl ?_
    exact opr_build (pv := #[(0, .int .u8 4)]) rfl (by simp only [List.map_toArray, List.map_cons, List.map_nil, eval_const]) (run_bld_one 4 wx) (hK _ _ (NewT.refl _) rfl)
  · intro a wx hT hF K hK
    refine rely_wp rfl ?_
    exact opr_build (pv := #[(0, .int .u8 5)]) rfl (by simp only [List.map_toArray, List.map_cons, List.map_nil, eval_const]) (run_bld_one 5 wx) (hK _ _ (NewT.refl _) rfl)
  · exact fun a wx hT hF K hK => rely_wp rfl (opr_bsH3 rfl hF.1 hF.2.1 hF.2.2.1 hK)
  · exact fun a wx hT hF K hK => rely_wp rfl (opr_bldY rfl hF.1 hF.2.1 (fun u hu => hK u _ (NewT.refl _) hu))
  · intro wx hT
    iterate 2 (intro u h; obtain rfl := Eq.symm (h (by simp)); clear h)
    intro _ _
    iterate 3 (intro u h; obtain rfl := Eq.symm (h (by simp)); clear h)
    intro _ _
    intro u8 h; have g8 := h (by simp); clear h; replace g8 := show (svKeys [oneH 1, oneH 2] [oneH 3, oneH 4, oneH 5] 2).pred u8 wx from g8
    refine relyEnd_nil rfl ?_
    simp only [Act.put, List.setIfInBounds_toArray, List.set_cons_zero, List.set_cons_succ]
    obtain ⟨pv, wv, rfl, hpv, hwv⟩ := g8
    have q0 := hT.row R0.out
    refine wpList_plain rfl (fun K hK => ?_)
    refine opr_putm (g := w.heap.size) (o0 := 0) (m := 3) (f := keyF pv wv 2) (F := keyF pv wv 2) rfl rfl rfl q0 (by decide) info_ky (keyF_one hpv hwv) (fun i hi => by rw [if_pos (by omega), Nat.sub_zero]) ?_
    intro w9 hR9 r9
    refine hK _ _ ?_
    refine wpList_end rfl ?_
    simp only [Act.put, List.setIfInBounds_toArray, List.set_cons_zero, List.set_cons_succ]
    go_simp
    go_wp2
    exact bodyPost_ret (results_agg rfl _ rfl r9 Tryd.underlying24 rfl info_ky) rfl ⟨_, rfl, NewT.rt (NewT.trans _ _ _ HN.out hT) hR9 (Nat.le_refl _), pv, wv, rfl, hpv.apart q0 (fun i z => keyF_no _ _ _ _ _ _ _ i z) hR9, hwv.apart q0 (fun i z => keyF_no _ _ _ _ _ _ _ i z) hR9⟩

/-- The receipt of the example. -/
def aX0 : Rc := { zR with kind := 3, seq := 2, tr := 1, good := true, part := 1 }
theorem build_aX (w : World) : (Instr.build 51 #[(0, .int .i64 3), (2, .int .i64 2), (4, .int .i64 1), (6, .bool true), (8, .int .i64 1)]).run Tryd.prog w = .ok (.agg (rowA 109 (recF aX0 (.slice none 0 0) (.slice none 0 0)))) w := by kernel_rfl
theorem ne_good : eqH (tagL (digL (tagL (digL (oneH 2)) (wordsL [1, 0]))) (wordsL [2, 0, 0, 0, 0])) (tagL (digL (tagL (digL (oneH 2)) (wordsL [1, 0]))) (wordsL [2, 0, 0, 0, 1])) = false := by decide +kernel
theorem ne_part : eqH (tagL (digL (oneH 1)) (wordsL [1, 1])) (tagL (digL (oneH 1)) (wordsL [1, 2])) = false := by decide +kernel
theorem check_list {ps ws : List Hs} {need size : Int} {sg : Nat → Hs} {l : List (Int × Hs)} (hm : mayB ps ws need = true) (hs : inR size 0 400 = true) (h1 : ∀ s ∈ l, ∃ i : Nat, i < ws.length ∧ s.1 = (i : Int) ∧ eqH (sg i) s.2 = true) (h2 : (l.map (·.1)).Nodup) : checkI ps ws need size sg l = if need ≤ l.length then 0 else 8 := by
  have hg : okTo ws.length sg l l.length = true := okTo_good (fun s hs => by
    obtain ⟨i, hi, e, q⟩ := h1 s hs
    rw [e, Int.toNat_natCast]
    exact ⟨(inR_iff _ _ _).2 ⟨by omega, by omega⟩, q⟩) h2 _
  unfold checkI
  rw [hm, hs, hg]
  by_cases h : need ≤ l.length
  · rw [if_pos h]; simp [h]
  · rw [if_neg h]; simp [h]
theorem signH_eq (tg : Hs → Hs → Hs) (pf : Int → Hs → Hs) {ps ws : List Hs} {need size : Int} {root : Hs} {i : Nat} (hm : mayB ps ws need = true) (hs : inR size 0 400 = true) (hi : i < ws.length) : signH tg pf ps ws need (i : Int) size root = sgH tg pf ws size root i := by
  unfold signH
  rw [(mayS_iff _ _ _ _ _).2 ⟨hm, ⟨by omega, by omega⟩, (inR_iff _ _ _).1 hs⟩, if_pos rfl, Int.toNat_natCast]
section
variable {kf : Hs → List Int → Hs} {tg : Hs → Hs → Hs} {pf : Int → Hs → Hs}
theorem al_may : mayB [oneH 1, oneH 2] [oneH 3, oneH 4, oneH 5] 2 = true := by kernel_rfl
theorem al_holds : holdsB kf [oneH 1, oneH 2] [oneH 3, oneH 4, oneH 5] 2 { aX0 with tag := recpH kf [oneH 1, oneH 2] [oneH 3, oneH 4, oneH 5] 2 aX0 } = true := by
  unfold holdsB
  rw [show recpH kf [oneH 1, oneH 2] [oneH 3, oneH 4, oneH 5] 2 { aX0 with tag := recpH kf [oneH 1, oneH 2] [oneH 3, oneH 4, oneH 5] 2 aX0 } = recpH kf [oneH 1, oneH 2] [oneH 3, oneH 4, oneH 5] 2 aX0 from rfl, eqH_same, Bool.and_true]
  kernel_rfl
theorem al_not (hX : KeyH kf tg pf) : holdsB kf [oneH 1, oneH 2] [oneH 3, oneH 4, oneH 5] 2 { { aX0 with tag := recpH kf [oneH 1, oneH 2] [oneH 3, oneH 4, oneH 5] 2 aX0 } with good := false } = false := by
  unfold holdsB
  have e1 : recpH kf [oneH 1, oneH 2] [oneH 3, oneH 4, oneH 5] 2 { { aX0 with tag := recpH kf [oneH 1, oneH 2] [oneH 3, oneH 4, oneH 5] 2 aX0 } with good := false } = kf (kf (oneH 2) [1, 0]) [2, 0, 0, 0, 0] := by kernel_rfl
  have e2 : recpH kf [oneH 1, oneH 2] [oneH 3, oneH 4, oneH 5] 2 aX0 = kf (kf (oneH 2) [1, 0]) [2, 0, 0, 0, 1] := by kernel_rfl
  have h : eqH (kf (kf (oneH 2) [1, 0]) [2, 0, 0, 0, 0]) (kf (kf (oneH 2) [1, 0]) [2, 0, 0, 0, 1]) = false := by
    rw [← hX.key, ← hX.key, ← hX.key]; exact ne_good
  rw [e1]
  show (_ && eqH _ (recpH kf [oneH 1, oneH 2] [oneH 3, oneH 4, oneH 5] 2 aX0)) = false
  rw [e2, h, Bool.and_false]
theorem al_ne (hX : KeyH kf tg pf) : (!eqH (partH kf [oneH 1, oneH 2] [oneH 3, oneH 4, oneH 5] 2 0 1) (partH kf [oneH 1, oneH 2] [oneH 3, oneH 4, oneH 5] 2 0 2)) = true := by
  have e1 : partH kf [oneH 1, oneH 2] [oneH 3, oneH 4, oneH 5] 2 0 1 = kf (oneH 1) [1, 1] := by kernel_rfl
  have e2 : partH kf [oneH 1, oneH 2] [oneH 3, oneH 4, oneH 5] 2 0 2 = kf (oneH 1) [1, 2] := by kernel_rfl
  rw [e1, e2, ← hX.key, ← hX.key, ne_part]; rfl
theorem al_none : eqH (partH kf [oneH 1, oneH 2] [oneH 3, oneH 4, oneH 5] 2 2 0) z32 = true := by
  rw [show partH kf [oneH 1, oneH 2] [oneH 3, oneH 4, oneH 5] 2 2 0 = z32 from by kernel_rfl, eqH_same]
theorem al_chk1 (root : Hs) : checkI [oneH 1, oneH 2] [oneH 3, oneH 4, oneH 5] 2 3 (sgH tg pf [oneH 3, oneH 4, oneH 5] 3 root) [(1, signH tg pf [oneH 1, oneH 2] [oneH 3, oneH 4, oneH 5] 2 1 3 root)] = 8 := by
  rw [check_list al_may rfl (fun s hs => by
    simp only [List.mem_singleton] at hs
    subst hs
    exact ⟨1, by simp, rfl, by rw [show ((1 : Int)) = ((1 : Nat) : Int) from rfl, signH_eq tg pf al_may rfl (by simp), eqH_same]⟩) (by simp)]
  rfl
theorem al_chk2 (root : Hs) : checkI [oneH 1, oneH 2] [oneH 3, oneH 4, oneH 5] 2 3 (sgH tg pf [oneH 3, oneH 4, oneH 5] 3 root) [(1, signH tg pf [oneH 1, oneH 2] [oneH 3, oneH 4, oneH 5] 2 1 3 root), (0, signH tg pf [oneH 1, oneH 2] [oneH 3, oneH 4, oneH 5] 2 0 3 root)] = 0 := by
  rw [check_list al_may rfl (fun s hs => by
    simp only [List.mem_cons, List.not_mem_nil, or_false] at hs
    rcases hs with rfl | rfl
    · exact ⟨1, by simp, rfl, by rw [show ((1 : Int)) = ((1 : Nat) : Int) from rfl, signH_eq tg pf al_may rfl (by simp), eqH_same]⟩
    · exact ⟨0, by simp, rfl, by rw [show ((0 : Int)) = ((0 : Nat) : Int) from rfl, signH_eq tg pf al_may rfl (by simp), eqH_same]⟩) (by simp)]
  rfl
end
end Go.Proofs.YtchpmdcacpjojaaDoor
/- What the reference asks of keys is what may be; bytes put behind such as have no room behind them. -/
namespace Go.Proofs.YtchpmdcacpjojaaDoor
open Go Go.RowKit
set_option maxRecDepth 8000
set_option linter.all false
theorem eqH_comm (d e : Hs) : eqH d e = eqH e d := by
  rw [Bool.eq_iff_iff, eqH_iff, eqH_iff]
  exact ⟨fun h i hi => (h i hi).symm, fun h i hi => (h i hi).symm⟩
/-- It reads as l, and there is no room behind it. -/
def svBF (l : List UInt8) : SV NewT := ⟨fun v w => (∃ A, v = .slice A l.length l.length) ∧ RdV w [] v l, fun _ _ _ h hT => ⟨h.1, hT.rd h.2⟩⟩
theorem run_appBF {W : World} {v u : Value} {l m : List UInt8} (h : (svBF l).pred v W) (hl : 0 < l.length) (hr : RdV W [] u m) (hm : 0 < m.length) (hn : l.length + m.length ≤ 900000) (ty : TypeId) :
    ∃ v' w', (Builtin.append_ #[49, 49] ty #[v, u]).run Tryd.prog W = .ok v' w' ∧ NewT W w' ∧ RdV w' [] v' (l ++ m) := by
  obtain ⟨⟨A0, rfl⟩, hx⟩ := h
  obtain ⟨i0, hi, hz0, hz1, hz2⟩ := info_parts info5
  obtain ⟨A1, c1, hv, k1, k2, k3⟩ := hx
  obtain ⟨b1, o1, hA1, _, hc1⟩ := k3 hl
  injection hv with e1 _ e3
  subst e1 hA1
  obtain ⟨A, cap, rfl, j1, j2, j3⟩ := hr
  obtain ⟨b, o, rfl, _, hc⟩ := j3 hm
  have cl : ∀ (l : List UInt8) (j : Nat) (u : Value), (l.map fun b => Value.int .u8 (bN b))[j]? = some u → j < l.length ∧ u = .int .u8 (bN (bAt l j)) := fun l j u hj => by
    rw [List.getElem?_map] at hj
    cases hq : l[j]? with
    | none => rw [hq] at hj; cases hj
    | some x =>
      rw [hq] at hj
      injection hj with hj
      obtain ⟨h1, h2⟩ := List.getElem?_eq_some_iff.1 hq
      exact ⟨h1, by rw [← hj]; simp [bAt, h1, h2]⟩
  have holds : ∀ j u, (l.map fun b => Value.int .u8 (bN b))[j]? = some u → W.cell? ((⟨b1, o1, none⟩ : Addr).add j) = some u := fun j u hj => by
    obtain ⟨h1, rfl⟩ := cl l j u hj
    rw [Addr.add_mid]
    exact hc1 j h1
  have news : ∀ j u, (m.map fun b => Value.int .u8 (bN b))[j]? = some u → W.cell? ((⟨b, o, none⟩ : Addr).add j) = some u := fun j u hj => by
    obtain ⟨h1, rfl⟩ := cl m j u hj
    rw [Addr.add_mid]
    exact hc j h1
  have hrun := run_append_grow (P := Tryd.prog) W 49 ty 5 i0 _ Tryd.underlying49 hi hz0 ⟨b1, o1, none⟩ l.length l.length (l.map fun b => Value.int .u8 (bN b)) (by rw [hz1]; simp) holds ⟨b, o, none⟩ m.length cap (m.map fun b => Value.int .u8 (bN b)) (by rw [hz1]; simp) news (by omega) (by omega) (growslice_fits (by omega) (by rw [hz2]; omega))
  refine ⟨_, _, hrun, NewT.trans _ _ _ (NewT.drew W) (NewT.alloc _ _), ?_⟩
  have hge := grownCap_ge W (l.length + m.length) l.length 5
  have hcm := grownCap_le_maxLen W (l.length + m.length) l.length 5 (by unfold maxLen; omega)
  refine rdV_own (base := 0) (n := l.length + m.length) (L := []) ⟨by simp, .inr ⟨W.heap.size, _, _, rfl, Nat.zero_le _, heap_alloc_new W.drew _, hge, hcm, ?_, ?_⟩⟩ (by simp) (by simp)
  · simp only [Array.size_append, List.size_toArray, size_zeroCells, List.length_map, Value.cells]
    simp; omega
  · simp only [Array.toList_append, List.append_assoc, Nat.mul_one]
    rw [← List.append_assoc, ← List.map_append, List.take_append_of_le_length (by simp), List.take_of_length_le (by simp)]
section
variable {a : Act} {w : World} {o : Oper} {K : Act → World → Prop} {Q : Exit → Act → World → Prop} {x y : Operand}
theorem opr_bsb1F {b : UInt8} (ho : o.op = .buildSlice 49 1 #[(0, x)]) (hx : a.eval x = .int .u8 (bN b)) (h : ∀ v w', NewT w w' → (svBF [b]).pred v w' → K (a.put o.dst v) w') : o.wp Tryd.prog a w K Q := by
  obtain ⟨dst, op, type, pos, after, guard⟩ := o
  simp only at ho
  subst ho
  exact opr_val (s := Instr.buildSlice 49 1 #[(0, a.eval x)]) (by simp [execOp]) (by rw [hx]; exact run_bsb1 _ w) (h _ _ (NewT.alloc _ _) ⟨⟨_, rfl⟩, rd_one b w⟩)
theorem opr_appBF {l m : List UInt8} (hl : 0 < l.length) (hm : 0 < m.length) (hn : l.length + m.length ≤ 900000) (ho : o.op = .call { callee := .builtin .append, args := #[x, y], argTypes := #[49, 49] }) (hx : (svBF l).pred (a.eval x) w) (hy : RdV w [] (a.eval y) m) (h : ∀ v w', NewT w w' → RdV w' [] v (l ++ m) → K (a.put o.dst v) w') : o.wp Tryd.prog a w K Q := by
  obtain ⟨v', w', hrun, hN, hr⟩ := run_appBF hx hl hy hm hn o.type
  exact opr_append ho rfl rfl hrun (h v' w' hN hr)
end
section
variable (ps ws : List Hs) (need part epoch wit size : Int)
theorem may_ref : (((((decide (1 ≤ (List.length ps : Int)) && decide ((List.length ps : Int) ≤ 4)) && decide (1 ≤ (List.length ws : Int))) && decide ((List.length ws : Int) ≤ 4)) && decide (1 ≤ need)) && decide (need ≤ (List.length ws : Int))) = mayB ps ws need := by
  unfold mayB inR; simp only [Bool.and_assoc]
theorem known_ref : ((((mayB ps ws need && decide (0 ≤ part)) && decide (part < (List.length ps : Int))) && decide (0 ≤ epoch)) && decide (epoch ≤ 400)) = hasB ps ws need part epoch := by
  rw [Bool.eq_iff_iff, hasB_iff]
  simp only [Bool.and_eq_true, decide_eq_true_iff]
  constructor
  · rintro ⟨⟨⟨⟨a, b⟩, c⟩, d⟩, e⟩; exact ⟨a, ⟨b, c⟩, d, e⟩
  · rintro ⟨a, ⟨b, c⟩, d, e⟩; exact ⟨⟨⟨⟨a, b⟩, c⟩, d⟩, e⟩
theorem sign_ref : ((((!mayB ps ws need || decide (wit < 0)) || decide ((List.length ws : Int) ≤ wit)) || decide (size < 0)) || decide (400 < size)) = !mayS ps ws need wit size := by
  rw [Bool.eq_iff_iff]
  simp only [Bool.or_eq_true, Bool.not_eq_true', decide_eq_true_iff]
  constructor
  · intro h
    cases hq : mayS ps ws need wit size with
    | false => rfl
    | true =>
      obtain ⟨a, b, c⟩ := (mayS_iff _ _ _ _ _).1 hq
      rw [a] at h
      simp at h
      omega
  · intro h
    cases hm : mayB ps ws need with
    | false => simp
    | true =>
      have h2 : ¬ (mayB ps ws need = true ∧ (0 ≤ wit ∧ wit < ws.length) ∧ 0 ≤ size ∧ size ≤ 400) := fun hh => by rw [(mayS_iff _ _ _ _ _).2 hh] at h; cases h
      simp only [hm, true_and] at h2
      simp
      omega
theorem check_ref : ((!mayB ps ws need || decide (size < 0)) || decide (400 < size)) = !(mayB ps ws need && inR size 0 400) := by
  unfold inR
  cases mayB ps ws need
  · rfl
  · by_cases h1 : size < 0
    · simp [h1]
    · by_cases h2 : 400 < size
      · simp [h1, h2]
      · simp [h1, h2]; omega
theorem okAt_ref (n : Nat) (sg : Nat → Hs) (seen : List (Int × Hs)) (s : Int × Hs) : okAt n sg seen s = (((decide (0 ≤ s.1) && decide (s.1 < (n : Int))) && eqH s.2 (sg s.1.toNat)) && !(seen.any fun q => q.1 == s.1)) := by
  unfold okAt inR
  rw [eqH_comm s.2]
  have e : decide (s.1 ≤ (n : Int) - 1) = decide (s.1 < (n : Int)) := by rw [Bool.eq_iff_iff]; simp; omega
  rw [e]
  cases decide (0 ≤ s.1) <;> cases decide (s.1 < (n : Int)) <;> cases eqH (sg s.1.toNat) s.2 <;> cases (seen.any fun q => q.1 == s.1) <;> rfl
end
end Go.Proofs.YtchpmdcacpjojaaDoor
/- A row of bytes of a call's own, and appends to it. -/
namespace Go.Proofs.YtchpmdcacpjojaaDoor
open Go Go.RowKit
set_option maxRecDepth 8000
set_option linter.all false
/-- A row of bytes of a call's own, from W on. -/
def svOwn (W : World) (l : List UInt8) : SV NewT := ⟨fun v w => w.ownsRow W.heap.size 5 1 v l.length (l.map fun b => .int .u8 (bN b)), fun v w w' h hT => by
  obtain ⟨a, b⟩ := h
  refine ⟨a, ?_⟩
  rcases b with b | ⟨g, cap, cur, rfl, hb, hg, r⟩
  · exact .inl b
  · have hlt : g < w.heap.size := by
      rcases Nat.lt_or_ge g w.heap.size with h | h
      · exact h
      · rw [Array.getElem?_eq_none h] at hg; cases hg
    exact .inr ⟨g, cap, cur, rfl, hb, (hT.out.block g hlt).trans hg, r⟩⟩
/-- Bytes put behind a row of the call's own: the row reads as both, and nothing below turns. -/
theorem run_append_two {W W0 : World} {v u : Value} {l m : List UInt8} (ho : (svOwn W0 l).pred v W) (hW : W0.heap.size ≤ W.heap.size) (hr : RdV W [] u m) (hn : l.length + m.length ≤ 900000) (ty : TypeId) :
    ∃ v' w', (Builtin.append_ #[49, 49] ty #[v, u]).run Tryd.prog W = .ok v' w' ∧ (svOwn W0 (l ++ m)).pred v' w' ∧ RdV w' [] v' (l ++ m) ∧ Below W0.heap.size W w' := by
  obtain ⟨i0, hi, hz0, hz1, hz2⟩ := info_parts info5
  obtain ⟨v', w', h1, h2, h3⟩ := run_append_rd (P := Tryd.prog) (ty := ty) Tryd.underlying49 hi hz0 hz1 hz2 ho hr (by omega) hW
  have e : l.map (fun b => Value.int .u8 (bN b)) ++ m.map (fun b => Value.int .u8 (bN b)) = (l ++ m).map fun b => Value.int .u8 (bN b) := by simp
  rw [e] at h2
  refine ⟨v', w', h1, ?_, rdV_own h2 (by simp) (by simp), (Below.refl _ W).grown h3 hW (fun k hk => (World.ownsRow.lt ho k hk).1)⟩
  show w'.ownsRow W0.heap.size 5 1 v' (l ++ m).length _
  rw [List.length_append]; exact h2
theorem own_from {W W1 : World} {l : List UInt8} {v : Value} {w : World} (hT : NewT W W1) (h : (svOwn W1 l).pred v w) : (svOwn W l).pred v w := by
  obtain ⟨a, b⟩ := h
  refine ⟨a, ?_⟩
  rcases b with b | ⟨g, cap, cur, hv, hb, r⟩
  · exact .inl b
  · exact .inr ⟨g, cap, cur, hv, Nat.le_trans hT.out.size hb, r⟩
theorem own_one (b : UInt8) (w : World) : (svOwn w [b]).pred (.slice (some ⟨w.heap.size, 0, none⟩) 1 1) (w.alloc (.cells #[.int .u8 (bN b)] 5)) :=
  ⟨rfl, .inr ⟨w.heap.size, 1, #[.int .u8 (bN b)], rfl, Nat.le_refl _, World.alloc_heap_new _ _, Nat.le_refl _, by unfold maxLen; omega, rfl, rfl⟩⟩
end Go.Proofs.YtchpmdcacpjojaaDoor
/- Layer 2's statements' own functions and the reference's: great; with (a key's mask). -/
namespace Go.Proofs.YtchpmdcacpjojaaDoor
open Go Go.RowKit
set_option maxRecDepth 8000
set_option linter.all false

/-- How much a list of parts is, as 'great' counts. -/
def gsum (ls : List (List UInt8)) : Nat := (ls.map fun l => 1 + l.length).sum
theorem gsum_take (ls : List (List UInt8)) (k : Nat) : gsum (ls.take k) ≤ gsum ls := by
  have h := congrArg gsum (List.take_append_drop k ls)
  have e : gsum (ls.take k ++ ls.drop k) = gsum (ls.take k) + gsum (ls.drop k) := by unfold gsum; rw [List.map_append, List.sum_append]
  omega
theorem gsum_bounds (ls : List (List UInt8)) : ls.length + ls.flatten.length = gsum ls := by
  unfold gsum
  induction ls with
  | nil => rfl
  | cons x ls ih => simp at ih ⊢; omega
def GreatPost (ls : List (List UInt8)) (w : World) (e : Ending) (w' : World) : Prop := ∃ b, e = .returned (.bool b) ∧ (b = false → gsum ls ≤ 1000) ∧ w = w'
theorem xor_low (x m : UInt8) (hm : m = 54 ∨ m = 92) : IntKind.u8.wrap (bits .xor .i64 (bN x) (bN m)) = bN (x ^^^ m) := by
  have h1 : ∀ n : Fin 256, IntKind.u8.wrap (bits .xor .i64 (bN (UInt8.ofNat n.val)) (bN 54)) = bN (UInt8.ofNat n.val ^^^ 54) := by decide +kernel
  have h2 : ∀ n : Fin 256, IntKind.u8.wrap (bits .xor .i64 (bN (UInt8.ofNat n.val)) (bN 92)) = bN (UInt8.ofNat n.val ^^^ 92) := by decide +kernel
  have e : UInt8.ofNat x.toNat = x := by simp
  rcases hm with rfl | rfl
  · have := h1 ⟨x.toNat, x.toNat_lt⟩; rwa [e] at this
  · have := h2 ⟨x.toNat, x.toNat_lt⟩; rwa [e] at this
theorem bN_wrap (x : UInt8) : IntKind.i64.wrap (bN x) = bN x := by
  have := bN_lt x
  simp [IntKind.wrap, IntKind.bits, IntKind.signed]; omega
set_option maxHeartbeats 1000000 in
theorem with_any (A : Option Addr) (n c : Nat) (l : List UInt8) (m : UInt8) (hm : m = 54 ∨ m = 92) (w : World) (hr : RdV w [] (.slice A n c) l) :
    Cv 69 #[.slice A n c, .int .i64 (bN m)] w (svOwn w (maskL (bAt l) m)) := by
  unfold Cv
  have hn : l.length = n := by obtain ⟨_, _, hv, _⟩ := hr; cases hv; rfl
  subst hn
  obtain ⟨A', c', hv, hlc, hcm, hcell⟩ := hr
  cases hv
  unfold maxLen at hcm
  have HC := Lib.hid hcell
  have HX := Lib.hid (fun x => xor_low x m hm)
  have HW := Lib.hid bN_wrap
  have hmb := bN_lt m
  generalize hM : bN m = M at hmb
  have HM := Lib.hid hM
  clear hcell hM hm
  obtain ⟨i0, hi, hz0, hz1, hz2⟩ := info_parts info5
  go_enter Tryd.func69, Tryd.ntmps69
  go_wp2
  go_loopw [5, 6] (fun v i wr => ∃ k : Nat, k ≤ 64 ∧ i = .int .i64 k ∧ wr.ownsRow w.heap.size 5 1 v k ((List.range k).map (bF fun i => bAt l i ^^^ m)) ∧ Below w.heap.size w wr) (fun _ i _ => 64 - (intOf i).toNat)
  case atStart => exact ⟨0, by omega, rfl, World.ownsRow_nil _ _ _ _, Below.refl _ _⟩
  case round =>
    obtain ⟨k, hk, rfl, hown, qB⟩ := hrel
    by_cases hlt : k < 64
    · by_cases hkl : k < l.length
      · obtain ⟨b, o, rfl, _, hc⟩ := HC.out (by omega)
        have hcl := (qB.cell (p := ⟨b, o + k, none⟩) (World.block_lt_of_cell? _ _ (hc k hkl))).trans (hc k hkl)
        have hx := HX.out (bAt l k)
        rw [HM.out] at hx
        have hwr := HW.out (bAt l k)
        have hbk := bN_lt (bAt l k)
        go_wp2_with (at_builtin; refine wpList_append_own _ rfl (.tmp 21) (.tmp 26) 49 rfl w.heap.size 5 i0 _ 1 1 Tryd.underlying49 hi hz0 hz1 hz2 rfl (by omega) u5 k _ rfl (hown.alloc _) ⟨wr.heap.size, 0, none⟩ 1 1 [bF (fun i => bAt l i ^^^ m) k] rfl rfl (one_cell _ _ _) (by simp [bF, Value.oneCell']) (by unfold maxLen; omega) (by omega) (by have := qB.size; simp; omega) ?_; intro v' w1 hown' hg1 _)
        go_roundw
        case rel =>
          refine ⟨k + 1, by omega, by go_num, ?_, (qB.alloc qB.size _).grown hg1 (by have := qB.size; simp; omega) (fun g e => (hown.lt g e).1)⟩
          rw [List.range_succ, List.map_append]
          exact hown'
        case measure => simp [intOf]; omega
      · have hz : bAt l k = 0 := by simp [bAt, hkl]
        have hx := HX.out 0
        rw [HM.out] at hx
        have hx0 : IntKind.u8.wrap (bits .xor .i64 0 M) = bN (bAt l k ^^^ m) := by rw [hz]; exact hx
        clear hx hz
        go_wp2_with (at_builtin; refine wpList_append_own _ rfl (.tmp 21) (.tmp 26) 49 rfl w.heap.size 5 i0 _ 1 1 Tryd.underlying49 hi hz0 hz1 hz2 rfl (by omega) u5 k _ rfl (hown.alloc _) ⟨wr.heap.size, 0, none⟩ 1 1 [bF (fun i => bAt l i ^^^ m) k] rfl rfl (one_cell _ _ _) (by simp [bF, Value.oneCell']) (by unfold maxLen; omega) (by omega) (by have := qB.size; simp; omega) ?_; intro v' w1 hown' hg1 _)
        go_roundw
        case rel =>
          refine ⟨k + 1, by omega, by go_num, ?_, (qB.alloc qB.size _).grown hg1 (by have := qB.size; simp; omega) (fun g e => (hown.lt g e).1)⟩
          rw [List.range_succ, List.map_append]
          exact hown'
        case measure => simp [intOf]; omega
    · obtain rfl : k = 64 := by omega
      go_wp2
      go_ret
      refine ⟨_, rfl, qB, ?_⟩
      have e : (maskL (bAt l) m).map (fun b => Value.int .u8 (bN b)) = (List.range 64).map (bF fun i => bAt l i ^^^ m) := by
        unfold maskL; rw [List.map_map]; rfl
      show wr.ownsRow w.heap.size 5 1 _ (maskL (bAt l) m).length _
      rw [maskL_length, e]
      exact hown
end Go.Proofs.YtchpmdcacpjojaaDoor
/- The reference's Number: a number's low bytes, so many, the highest first. -/
namespace Go.Proofs.YtchpmdcacpjojaaDoor
open Go Go.RowKit
set_option maxRecDepth 8000
set_option linter.all false

/-- From place q on the bytes stand. -/
def lowTo (f : Nat → UInt8) (q p : Nat) : UInt8 := if q ≤ p then f p else 0
theorem lowTo_set (f : Nat → UInt8) (q p : Nat) (z : Int) (hz : z = bN (f q)) : (if p = q then Value.int .u8 z else bF (lowTo f (q + 1)) p) = bF (lowTo f q) p := by
  subst hz
  simp only [bF, lowTo]
  by_cases h : p = q
  · subst h; simp
  · by_cases h2 : q ≤ p
    · rw [if_neg h, if_pos (by omega), if_pos h2]
    · rw [if_neg h, if_neg (by omega), if_neg h2]
theorem hiB_low (n s q : Nat) (hq : q < s) : ((n / 2 ^ (8 * (s - (q + 1))) : Nat) : Int) % 256 = bN (hiB n s q) := by
  rw [hiB, bN, UInt8.toNat_ofNat', show s - (q + 1) = s - 1 - q by omega]
  omega
theorem div_next (n s q : Nat) (hq : q < s) : ((n / 2 ^ (8 * (s - (q + 1))) : Nat) : Int) / 256 = ((n / 2 ^ (8 * (s - q)) : Nat) : Int) := by
  rw [show 8 * (s - q) = 8 * (s - (q + 1)) + 8 by omega, Nat.pow_add, ← Nat.div_div_eq_div_mul]
  omega
set_option maxHeartbeats 1000000 in
theorem RNumber_any (n : Int) (s : Nat) (hs : 1 ≤ s) (hs2 : s ≤ 8) (w : World) :
    Cv 54 #[.int .i64 n, .int .i64 (s : Int)] w (svRdN w (hiL (wN n) s)) := by
  unfold Cv
  obtain ⟨i0, hi, hz0, hz1, hz2⟩ := info_parts info5
  have hmk : ∀ W : World, (Instr.makeSlice 49 (.int .i64 (s : Int)) (.int .i64 (s : Int))).run Tryd.prog W = .ok (.slice (some ⟨W.heap.size, 0, none⟩) s s) (W.alloc (.cells (rowA s (bF fun _ => 0)) 5)) := make_bytes i0 hi hz0 hz1 hz2 s (by omega)
  have hw : IntKind.u64.wrap n = (wN n : Int) := wN_eq n
  have hwl : wN n < 18446744073709551616 := by unfold wN; omega
  obtain ⟨M, hM⟩ : ∃ M, wN n = M := ⟨_, rfl⟩
  rw [hM] at hw hwl
  rw [hM]
  clear hi hz0 hz1 hz2 hM
  go_enter Tryd.func54, Tryd.ntmps54
  go_wp2
  clear hw
  have r0 := rowIs_box w 5 s (bF fun _ => 0)
  have hB : Below w.heap.size w (w.alloc (.cells (rowA s (bF fun _ => 0)) 5)) := (Below.refl _ w).alloc (Nat.le_refl _) _
  generalize w.alloc (.cells (rowA s (bF fun _ => 0)) 5) = W0 at r0 hB ⊢
  clear hmk
  go_loopw [6, 7] (fun u i wr => ∃ q : Nat, q ≤ s ∧ u = .int .u64 ((M / 2 ^ (8 * (s - q)) : Nat) : Int) ∧ i = .int .i64 ((q : Int) - 1) ∧ wr.rowIs w.heap.size 5 s (bF (lowTo (hiB M s) q)) ∧ Below w.heap.size w wr) (fun _ i _ => (intOf i + 1).toNat)
  case atStart => exact ⟨s, Nat.le_refl _, by simp, rfl, r0.congr fun p hp => by simp only [bF, lowTo]; rw [if_neg (by omega)], hB⟩
  case round =>
    obtain ⟨q, hq, rfl, rfl, q0, qB⟩ := hrel
    clear r0 hB
    cases q with
    | succ q =>
      rw [show ((q + 1 : Nat) : Int) - 1 = (q : Int) by omega]
      have hb1 := hiB_low M s q (by omega)
      have hb2 := div_next M s q (by omega)
      have hle : M / 2 ^ (8 * (s - (q + 1))) < 18446744073709551616 := Nat.lt_of_le_of_lt (Nat.div_le_self _ _) hwl
      generalize M / 2 ^ (8 * (s - (q + 1))) = m1 at hb1 hb2 hle
      generalize hm2 : M / 2 ^ (8 * (s - q)) = m2 at hb2
      have Hb1 := Lib.hid hb1
      have Hb2 := Lib.hid hb2
      have Hm2 := Lib.hid hm2
      clear hb1 hb2 hm2
      have c0 := q0.cell (i := q) (by omega)
      have f0 := q0.frozen q
      go_wp2
      go_roundw
      case rel =>
        refine ⟨q, by omega, ?_, by go_num, (q0.set q _).congr fun p _ => lowTo_set _ q p _ ?_, qB.setCell (by simp) _⟩
        · rw [Hm2.out, ← Hb2.out]
        · exact Hb1.out
      case measure => simp [intOf]
    | zero =>
      go_wp2
      go_ret
      refine ⟨_, rfl, qB, fun L hL => ?_⟩
      have := rd_row (L := L) q0 (fun hm => by have := hL _ hm; omega) (by omega)
      have e : (List.range s).map (lowTo (hiB M s) 0) = hiL M s := List.map_congr_left fun i hi => by simp [lowTo]
      rw [e] at this
      exact this
theorem RNumber_8 (n : Int) (w : World) : Cv 54 #[.int .i64 n, .int .i64 8] w (svRdN w (hiL (wN n) 8)) := RNumber_any n 8 (by omega) (by omega) w
theorem RNumber_4 (n : Int) (w : World) : Cv 54 #[.int .i64 n, .int .i64 4] w (svRdN w (hiL (wN n) 4)) := RNumber_any n 4 (by omega) (by omega) w
theorem RNumber_8s (n : Int) (w : World) : Cv 54 #[.int .i64 n, .int .i64 8] w (svRd (hiL (wN n) 8)) := Calls.mono (RNumber_8 n w) fun _ _ ⟨v, he, hN, h⟩ => ⟨v, he, hN, h [] (by simp)⟩
end Go.Proofs.YtchpmdcacpjojaaDoor
/- The reference's Text: a domain's byte, and of each part how many bytes it has, and these. -/
namespace Go.Proofs.YtchpmdcacpjojaaDoor
open Go Go.RowKit
set_option maxRecDepth 8000
set_option linter.all false
theorem cnt_flat (ls : List (List UInt8)) : ((ls.flatMap cntP).flatten).length = 4 * ls.length + ls.flatten.length := by
  induction ls with
  | nil => rfl
  | cons x ls ih => simp [cntP, hiL_length] at ih ⊢; omega
theorem take_flat (ls : List (List UInt8)) (k : Nat) : (ls.take k).flatten.length ≤ ls.flatten.length := by
  have h1 : ls.flatten = (ls.take k).flatten ++ (ls.drop k).flatten := by rw [← List.flatten_append, List.take_append_drop]
  have h2 := congrArg List.length h1
  rw [List.length_append] at h2
  omega
theorem tk (ls : List (List UInt8)) (k : Nat) (x : List UInt8) (h : ls[k]? = some x) : ls.take (k + 1) = ls.take k ++ [x] := by rw [List.take_add_one, h]; rfl
end Go.Proofs.YtchpmdcacpjojaaDoor
/- The reference's Turn. -/
namespace Go.Proofs.YtchpmdcacpjojaaDoor
open Go.RowKit
set_option maxRecDepth 8000
set_option linter.all false
/-- Numbers of 32 bits in cells of 64. -/
def vF (s : Nat → BitVec 32) : Nat → Value := fun i => .int .u64 (uN (s i))
theorem vF_at (s : Nat → BitVec 32) (i : Nat) : vF s i = .int .u64 (uN (s i)) := rfl
theorem wS_final (l : List UInt8) (n i : Nat) (h : i < 16 + n) (hn : n ≤ 48) : wS l 48 i = wS l n i := by
  obtain ⟨k, hk⟩ : ∃ k, 48 = n + k := ⟨48 - n, by omega⟩
  rw [hk]
  clear hk hn
  induction k with
  | zero => rfl
  | succ k ih => rw [← Nat.add_assoc, wS_old l (n + k) i (by omega), ih]
theorem wS_first (l : List UInt8) (i : Nat) (h : i < 16) : wS l 48 i = wordTo l i 4 := by
  rw [wS_final l 0 i (by omega) (by omega)]; simp [wS, schedL, h]
theorem wS_rec (l : List UInt8) (t : Nat) (h1 : 16 ≤ t) (h2 : t < 64) : wS l 48 t = ss1 (wS l 48 (t - 2)) + wS l 48 (t - 7) + ss0 (wS l 48 (t - 15)) + wS l 48 (t - 16) := by
  obtain ⟨n, rfl⟩ : ∃ n, t = 16 + n := ⟨t - 16, by omega⟩
  rw [wS_final l (n + 1) (16 + n) (by omega) (by omega), wS_new, show 16 + n - 2 = n + 14 by omega, show 16 + n - 7 = n + 9 by omega, show 16 + n - 15 = n + 1 by omega, show 16 + n - 16 = n by omega,
    wS_final l n (n + 14) (by omega) (by omega), wS_final l n (n + 9) (by omega) (by omega), wS_final l n (n + 1) (by omega) (by omega), wS_final l n n (by omega) (by omega)]
theorem word_step (x : BitVec 32) (b : UInt8) (hx : x.toNat < 16777216) : (x <<< 8 ||| b.toBitVec.setWidth 32).toNat = x.toNat * 256 + b.toNat := by
  have hb := b.toNat_lt
  have e1 : (x <<< 8).toNat = x.toNat <<< 8 := by rw [BitVec.toNat_shiftLeft, Nat.mod_eq_of_lt]; rw [Nat.shiftLeft_eq]; omega
  have e2 : (b.toBitVec.setWidth 32).toNat = b.toNat := by rw [BitVec.toNat_setWidth]; show b.toNat % _ = _; omega
  rw [BitVec.toNat_or, e1, e2, ← Nat.shiftLeft_add_eq_or_of_lt (by omega), Nat.shiftLeft_eq]
theorem word_num (l : List UInt8) (t : Nat) : uN (wordTo l t 4) = ((bN (bAt l (4 * t)) * 256 + bN (bAt l (4 * t + 1))) * 256 + bN (bAt l (4 * t + 2))) * 256 + bN (bAt l (4 * t + 3)) := by
  have h0 := (bAt l (4 * t)).toNat_lt
  have h1 := (bAt l (4 * t + 1)).toNat_lt
  have h2 := (bAt l (4 * t + 2)).toNat_lt
  have h3 := (bAt l (4 * t + 3)).toNat_lt
  have e1 : (wordTo l t 1).toNat = (bAt l (4 * t)).toNat := by simp [wordTo]
  have e2 : (wordTo l t 2).toNat = (wordTo l t 1).toNat * 256 + (bAt l (4 * t + 1)).toNat := word_step (wordTo l t 1) _ (by omega)
  have e3 : (wordTo l t 3).toNat = (wordTo l t 2).toNat * 256 + (bAt l (4 * t + 2)).toNat := word_step (wordTo l t 2) _ (by omega)
  have e4 : (wordTo l t 4).toNat = (wordTo l t 3).toNat * 256 + (bAt l (4 * t + 3)).toNat := word_step (wordTo l t 3) _ (by omega)
  unfold uN bN
  omega
/-- The first t numbers of a list, the others 0. -/
def cutT (s : Nat → BitVec 32) (t : Nat) : Nat → BitVec 32 := fun i => if i < t then s i else 0
theorem cutT_at (s : Nat → BitVec 32) (t i : Nat) (h : i < t) : cutT s t i = s i := if_pos h
theorem cutT_set (s : Nat → BitVec 32) (t : Nat) (z : Int) (hz : z = uN (s t)) (i : Nat) : (if i = t then Value.int .u64 z else vF (cutT s t) i) = vF (cutT s (t + 1)) i := by
  subst hz
  simp only [vF, cutT]
  by_cases h : i = t
  · subst h; simp
  · by_cases h2 : i < t
    · rw [if_neg h, if_pos h2, if_pos (by omega)]
    · rw [if_neg h, if_neg h2, if_neg (by omega)]
theorem rowIs_zeros64 (s : Nat → BitVec 32) (w : World) (t : TypeId) (n : Nat) : (w.alloc (.cells (Array.replicate n (.int .u64 0)) t)).rowIs w.heap.size t n (vF (cutT s 0)) := by
  have := World.rowIs_alloc w (Array.replicate n (.int .u64 0)) t (vF (cutT s 0)) (fun i hi => by simp at hi; simp [vF, cutT, hi, uN])
  simpa using this
theorem info47 : (Tryd.prog.info? 125).map (·.size) = some 8 := by kernel_rfl
theorem wrap32_uN (x : BitVec 32) : IntKind.u32.wrap (uN x) = uN x := wrap_uN x

attribute [local go_sem] uF_at
set_option maxRecDepth 20000 in
set_option maxHeartbeats 1000000 in
theorem RTurn_no (s : Nat → BitVec 32) (A : Option Addr) (n cap : Nat) (hn : n ≠ 64) (w : World) :
    Calls Tryd.prog 78 #[.agg (rowA 8 (uF s)), .slice A n cap] w fun e w' => e = .returned (.agg (rowA 8 (uF s))) ∧ Below w.heap.size w w' := by
  have hn2 : ((n : Int) == 64) = false := by simp; omega
  have r0 := (rowIs_box w 117 8 (uF s)).alloc (.cells (rowA 8 fun _ => .int .u32 0) 117)
  have r1 := rowIs_box (w.alloc (.cells (rowA 8 (uF s)) 117)) 117 8 fun _ => .int .u32 0
  have hB : Below w.heap.size w ((w.alloc (.cells (rowA 8 (uF s)) 117)).alloc (.cells (rowA 8 fun _ => .int .u32 0) 117)) :=
    ((Below.refl _ w).alloc (Nat.le_refl _) _).alloc (by simp) _
  rw [World.size_alloc] at r1
  have hR := rangeAt_row r0
  go_enter Tryd.func78, Tryd.ntmps78
  go_wp2_with (first
    | (refine wpList_load_mid rfl 117 (.tmp 2) rfl w.heap.size 0 rfl (rowA 8 (uF s)).toList _ hR Tryd.underlying117 rfl (by rw [rowA_toList]; simpa using info23) ?_)
    | (refine wpList_store_mid rfl 117 (.tmp 4) (.tmp 22) rfl (w.heap.size + 1) 0 (rowA 8 (uF s)) rfl rfl (by rw [rowA_size]; exact there_row r1) (by rw [rowA_size]; exact info23) (rowA_one _ _ fun _ => rfl) ?_))
  exact bodyPost_ret (results_row rfl _ rfl (rowIs_setAll r1 (uF s)) Tryd.underlying117 info23) rfl ⟨rfl, below_setCells _ (by omega) _ _ _ hB⟩
attribute [local go_sem] vF_at wrap64_uN wrap32_uN u64_xor u64_and u64_not u64_add2 u64_add3 u64_add4 u64_add5 mod_t2 mod_t4 mod_t5 tmod_t2 tmod_t4 tmod_t5
def RT1 (s : Nat → BitVec 32) (l : List UInt8) (w : World) (t : Nat) (wr : World) : Prop :=
  wr.rowIs w.heap.size 117 8 (uF s) ∧ wr.rowIs (w.heap.size + 1) 117 8 (fun _ => .int .u32 0) ∧ wr.rowIs (w.heap.size + 1 + 1) 123 64 (vF (cutT (wS l 48) t)) ∧ Below w.heap.size w wr
set_option maxRecDepth 20000 in
set_option maxHeartbeats 4000000 in
theorem RTurn_any (K s : Nat → BitVec 32) (l : List UInt8) (b o cap : Nat) (_ : 64 ≤ cap) (_ : cap ≤ maxLen) (w : World) (hb : b < w.heap.size) (h1 : 1 < w.heap.size)
    (hK : ∀ i, i < 64 → w.cell? ⟨1, i, none⟩ = some (.int .u32 (uN (K i))))
    (hc : ∀ i, i < 64 → w.cell? ⟨b, o + i, none⟩ = some (.int .u8 (bN (bAt l i)))) :
    Calls Tryd.prog 78 #[.agg (rowA 8 (uF s)), .slice (some ⟨b, o, none⟩) 64 cap] w fun e w' => e = .returned (.agg (rowA 8 (uF fun i => s i + (runTo K (wS l 48) (ShSt.of s) 64).get i))) ∧ Below w.heap.size w w' := by
  have HK := Lib.hid hK
  have HC := Lib.hid hc
  clear hK hc
  go_enter Tryd.func78, Tryd.ntmps78
  go_wp2
  have r0 := ((rowIs_box w 117 8 (uF s)).alloc (.cells (rowA 8 fun _ => .int .u32 0) 117)).alloc (.cells (Array.replicate 64 (.int .u64 0)) 123)
  have r1 := (rowIs_box (w.alloc (.cells (rowA 8 (uF s)) 117)) 117 8 fun _ => .int .u32 0).alloc (.cells (Array.replicate 64 (.int .u64 0)) 123)
  have r2 := rowIs_zeros64 (wS l 48) ((w.alloc (.cells (rowA 8 (uF s)) 117)).alloc (.cells (rowA 8 fun _ => .int .u32 0) 117)) 123 64
  have hB : Below w.heap.size w (((w.alloc (.cells (rowA 8 (uF s)) 117)).alloc (.cells (rowA 8 fun _ => .int .u32 0) 117)).alloc (.cells (Array.replicate 64 (.int .u64 0)) 123)) :=
    (((Below.refl _ w).alloc (Nat.le_refl _) _).alloc (by simp) _).alloc (by simp; omega) _
  rw [World.size_alloc] at r1 r2
  rw [World.size_alloc] at r2
  change Code.wp _ _ _ _ (((w.alloc (.cells (rowA 8 (uF s)) 117)).alloc (.cells (rowA 8 fun _ => .int .u32 0) 117)).alloc (.cells (Array.replicate 64 (.int .u64 0)) 123))
  generalize (((w.alloc (.cells (rowA 8 (uF s)) 117)).alloc (.cells (rowA 8 fun _ => .int .u32 0) 117)).alloc (.cells (Array.replicate 64 (.int .u64 0)) 123)) = W0 at r0 r1 r2 hB ⊢
  go_loopw [6] (fun i wr => ∃ t : Nat, t ≤ 64 ∧ i = .int .i64 t ∧ RT1 s l w t wr) (fun i _ => 64 - (intOf i).toNat)
  case atStart => exact ⟨0, by omega, rfl, r0, r1, r2, hB⟩
  case round =>
    obtain ⟨t, ht, rfl, q0, q1, q2, qB⟩ := hrel
    clear r0 r1 r2 hB
    by_cases hlt : t < 64
    · by_cases h16 : t < 16
      · have e0 : wr.cell? ⟨b, o + 4 * t, none⟩ = _ := (qB.cell (p := ⟨b, o + (4 * t), none⟩) hb).trans (HC.out (4 * t) (by omega))
        have e1 : wr.cell? ⟨b, o + (4 * t + 1), none⟩ = _ := (qB.cell (p := ⟨b, o + (4 * t + 1), none⟩) hb).trans (HC.out (4 * t + 1) (by omega))
        have e2 : wr.cell? ⟨b, o + (4 * t + 2), none⟩ = _ := (qB.cell (p := ⟨b, o + (4 * t + 2), none⟩) hb).trans (HC.out (4 * t + 2) (by omega))
        have e3 : wr.cell? ⟨b, o + (4 * t + 3), none⟩ = _ := (qB.cell (p := ⟨b, o + (4 * t + 3), none⟩) hb).trans (HC.out (4 * t + 3) (by omega))
        have hz := word_num l t
        obtain ⟨z0, y0, x0⟩ : ∃ z : Nat, z < 256 ∧ bN (bAt l (4 * t)) = (z : Int) := ⟨(bAt l (4 * t)).toNat, UInt8.toNat_lt _, rfl⟩
        obtain ⟨z1, y1, x1⟩ : ∃ z : Nat, z < 256 ∧ bN (bAt l (4 * t + 1)) = (z : Int) := ⟨(bAt l (4 * t + 1)).toNat, UInt8.toNat_lt _, rfl⟩
        obtain ⟨z2, y2, x2⟩ : ∃ z : Nat, z < 256 ∧ bN (bAt l (4 * t + 2)) = (z : Int) := ⟨(bAt l (4 * t + 2)).toNat, UInt8.toNat_lt _, rfl⟩
        obtain ⟨z3, y3, x3⟩ : ∃ z : Nat, z < 256 ∧ bN (bAt l (4 * t + 3)) = (z : Int) := ⟨(bAt l (4 * t + 3)).toNat, UInt8.toNat_lt _, rfl⟩
        rw [x0] at e0 hz
        rw [x1] at e1 hz
        rw [x2] at e2 hz
        rw [x3] at e3 hz
        clear x0 x1 x2 x3
        have Hz := Lib.hid hz
        clear hz
        have j0 : (0 : Int) ≤ 4 * (t : Int) := by omega
        have j1 : (0 : Int) ≤ 4 * (t : Int) + 1 := by omega
        have j2 : (0 : Int) ≤ 4 * (t : Int) + 2 := by omega
        have j3 : (0 : Int) ≤ 4 * (t : Int) + 3 := by omega
        have i0 : 4 * (t : Int) < 64 := by omega
        have i1 : 4 * (t : Int) + 1 < 64 := by omega
        have i2 : 4 * (t : Int) + 2 < 64 := by omega
        have i3 : 4 * (t : Int) + 3 < 64 := by omega
        have it : (t : Int) < 64 := by omega
        have it2 : (t : Int) < 16 := by omega
        have ct := q2.cell (i := t) hlt
        have cf := q2.frozen t
        go_wp2
        refine wp_region_still_tail 35 (by kernel_rfl) (by kernel_rfl) ?_
        simp only [List.take_succ_cons, List.take_zero, List.drop_succ_cons, List.drop_zero]
        repeat (refine wpStill_step (fun K hK => ?_); go_simp; (try go_bits); refine hK _ ?_; clear hK K)
        refine wpStill_nil ?_
        go_wp2
        go_roundw
        case rel => exact ⟨t + 1, by omega, by go_num, q0.drew.setOther (by simp; omega) _, q1.drew.setOther (by simp) _, (q2.drew.set t _).congr fun i _ => cutT_set (wS l 48) t _ (by rw [wS_first l t h16, Hz.out]) i, (qB.setCell (p := ⟨w.heap.size + 1 + 1, t, none⟩) (by simp; omega) _).drew⟩
        case measure => simp [intOf]; omega
      · have c2 := q2.cell (i := t - 2) (by omega)
        have c7 := q2.cell (i := t - 7) (by omega)
        have c15 := q2.cell (i := t - 15) (by omega)
        have c16 := q2.cell (i := t - 16) (by omega)
        rw [vF_at, cutT_at _ _ _ (by omega)] at c2 c7 c15 c16
        have ct := q2.cell (i := t) hlt
        have cf := q2.frozen t
        have hz := wS_rec l t (by omega) hlt
        have Hz := Lib.hid hz
        clear hz
        generalize wS l 48 (t - 2) = y2 at c2 Hz
        generalize wS l 48 (t - 7) = y7 at c7 Hz
        generalize wS l 48 (t - 15) = y15 at c15 Hz
        generalize wS l 48 (t - 16) = y16 at c16 Hz
        have i2 : (2 : Int) ≤ t := by omega
        have j2 : (t : Int) - 2 < 64 := by omega
        have i7 : (7 : Int) ≤ t := by omega
        have j7 : (t : Int) - 7 < 64 := by omega
        have i15 : (15 : Int) ≤ t := by omega
        have j15 : (t : Int) - 15 < 64 := by omega
        have i16 : (16 : Int) ≤ t := by omega
        have j16 : (t : Int) - 16 < 64 := by omega
        have it : (t : Int) < 64 := by omega
        have it2 : ¬ (t : Int) < 16 := by omega
        go_wp2
        refine wp_region_still_lit (by kernel_rfl) (by kernel_rfl) ?_
        repeat (refine wpStill_step (fun K hK => ?_); go_simp; (try go_bits); refine hK _ ?_; clear hK K)
        refine wpStill_nil ?_
        go_wp2
        change Code.wp _ _ _ _ wr.drew
        replace q0 := q0.drew
        replace q1 := q1.drew
        replace q2 := q2.drew
        replace qB := qB.drew
        replace c2 := cell_drew c2
        replace c7 := cell_drew c7
        replace c15 := cell_drew c15
        replace c16 := cell_drew c16
        replace ct := cell_drew ct
        replace cf : wr.drew.frozen? ⟨w.heap.size + 1 + 1, t, none⟩ = false := cf
        generalize wr.drew = wr2 at q0 q1 q2 qB c2 c7 c15 c16 ct cf ⊢
        refine wp_region_still_tail 30 (by kernel_rfl) (by kernel_rfl) ?_
        simp only [List.take_succ_cons, List.take_zero, List.drop_succ_cons, List.drop_zero]
        repeat (refine wpStill_step (fun K hK => ?_); go_simp; (first
          | (refine ⟨_, ((right_any _ _ (by decide) (by decide) _).mono fun _ _ h => ⟨h.1, h.2.symm⟩), hK _ ?_⟩)
          | (refine ⟨_, ((shift_any _ _ (by decide) (by decide) _).mono fun _ _ h => ⟨h.1, h.2.symm⟩), hK _ ?_⟩)
          | ((try go_bits); refine hK _ ?_)); clear hK K)
        refine wpStill_nil ?_
        go_wp2
        go_roundw
        case rel => exact ⟨t + 1, by omega, by go_num, q0.drew.setOther (by simp; omega) _, q1.drew.setOther (by simp) _, (q2.drew.set t _).congr fun i _ => cutT_set (wS l 48) t _ (by rw [Hz.out]; rfl) i, (qB.setCell (p := ⟨w.heap.size + 1 + 1, t, none⟩) (by simp; omega) _).drew⟩
        case measure => simp [intOf]; omega
    · obtain rfl : t = 64 := by omega
      rw [show ((64 : Nat) : Int) = 64 from rfl]
      have hgB : w.heap.size + 1 + 1 < wr.heap.size := q2.lt
      have q3 := rowIs_zeros64 s wr 125 8
      replace q0 := q0.alloc (.cells (Array.replicate 8 (.int .u64 0)) 125)
      replace q1 := q1.alloc (.cells (Array.replicate 8 (.int .u64 0)) 125)
      replace q2 := q2.alloc (.cells (Array.replicate 8 (.int .u64 0)) 125)
      replace q2 := q2.congr (g := vF (wS l 48)) fun i hi => by rw [vF_at, vF_at, cutT_at _ _ _ hi]
      have qB2 := qB.alloc qB.size (.cells (Array.replicate 8 (.int .u64 0)) 125)
      go_wp2
      change Code.wp _ _ _ _ (wr.alloc (.cells (Array.replicate 8 (.int .u64 0)) 125))
      generalize wr.heap.size = g at hgB q3 ⊢
      generalize wr.alloc (.cells (Array.replicate 8 (.int .u64 0)) 125) = W1 at q0 q1 q2 q3 qB2 ⊢
      clear qB
      go_loopw [10] (fun i wr => ∃ t : Nat, t ≤ 8 ∧ i = .int .i64 t ∧ wr.rowIs w.heap.size 117 8 (uF s) ∧ wr.rowIs (w.heap.size + 1) 117 8 (fun _ => .int .u32 0) ∧ wr.rowIs (w.heap.size + 1 + 1) 123 64 (vF (wS l 48)) ∧ wr.rowIs g 125 8 (vF (cutT s t)) ∧ Below w.heap.size w wr) (fun i _ => 8 - (intOf i).toNat)
      case atStart => exact ⟨0, by omega, rfl, q0, q1, q2, q3, qB2⟩
      case round =>
        clear q0 q1 q2 q3 qB2
        obtain ⟨t, ht, rfl, q0, q1, q2, q3, qB⟩ := hrel
        by_cases hlt : t < 8
        · have c0 := q0.cell (i := t) hlt
          have c3 := q3.cell (i := t) hlt
          have f3 := q3.frozen t
          have it : (t : Int) < 8 := by omega
          go_wp2
          go_roundw
          case rel => exact ⟨t + 1, by omega, by go_num, q0.setOther (by simp; omega) _, q1.setOther (by simp; omega) _, q2.setOther (by simp; omega) _, (q3.set t _).congr fun i _ => cutT_set s t _ rfl i, (qB.setCell (p := ⟨g, t, none⟩) (by simp; omega) _)⟩
          case measure => simp [intOf]; omega
        · obtain rfl : t = 8 := by omega
          rw [show ((8 : Nat) : Int) = 8 from rfl]
          replace q3 := q3.congr (g := vF (ShSt.of s).get) fun i hi => by
            rw [vF_at, vF_at, cutT_at _ _ _ hi]
            match i, hi with
            | 0, _ => rfl | 1, _ => rfl | 2, _ => rfl | 3, _ => rfl | 4, _ => rfl | 5, _ => rfl | 6, _ => rfl | 7, _ => rfl
          go_wp2
          rename_i wr1
          generalize wr = W2 at q0 q1 q2 q3 qB ⊢
          go_loopw [11] (fun i wr => ∃ (t : Nat) (x : ShSt), t ≤ 64 ∧ i = .int .i64 t ∧ Hid (x = runTo K (wS l 48) (ShSt.of s) t) ∧ wr.rowIs w.heap.size 117 8 (uF s) ∧ wr.rowIs (w.heap.size + 1) 117 8 (fun _ => .int .u32 0) ∧ wr.rowIs (w.heap.size + 1 + 1) 123 64 (vF (wS l 48)) ∧ wr.rowIs g 125 8 (vF x.get) ∧ Below w.heap.size w wr) (fun i _ => 64 - (intOf i).toNat)
          case atStart => exact ⟨0, ShSt.of s, by omega, rfl, rfl, q0, q1, q2, q3, qB⟩
          case round =>
            clear q0 q1 q2 q3 qB
            obtain ⟨t, x, ht, rfl, hx, q0, q1, q2, q3, qB⟩ := hrel
            by_cases hlt : t < 64
            · have cK := (qB.cell (p := ⟨1, t, none⟩) h1).trans (HK.out t hlt)
              have cW := q2.cell (i := t) hlt
              rw [vF_at] at cW
              obtain ⟨Wt, HWt⟩ : ∃ Wt, Hid (wS l 48 t = Wt) := ⟨_, Lib.hid rfl⟩
              rw [HWt.out] at cW
              have it : (t : Int) < 64 := by omega
              have c0 : wr.cell? ⟨g, 0, none⟩ = some (.int .u64 (uN x.a)) := q3.cell (i := 0) (by omega)
              have c1 : wr.cell? ⟨g, 1, none⟩ = some (.int .u64 (uN x.b)) := q3.cell (i := 1) (by omega)
              have c2 : wr.cell? ⟨g, 2, none⟩ = some (.int .u64 (uN x.c)) := q3.cell (i := 2) (by omega)
              have c3 : wr.cell? ⟨g, 3, none⟩ = some (.int .u64 (uN x.d)) := q3.cell (i := 3) (by omega)
              have c4 : wr.cell? ⟨g, 4, none⟩ = some (.int .u64 (uN x.e)) := q3.cell (i := 4) (by omega)
              have c5 : wr.cell? ⟨g, 5, none⟩ = some (.int .u64 (uN x.f)) := q3.cell (i := 5) (by omega)
              have c6 : wr.cell? ⟨g, 6, none⟩ = some (.int .u64 (uN x.g)) := q3.cell (i := 6) (by omega)
              have c7 : wr.cell? ⟨g, 7, none⟩ = some (.int .u64 (uN x.h)) := q3.cell (i := 7) (by omega)
              go_wp2
              refine wp_region_still_lit (by kernel_rfl) (by kernel_rfl) ?_
              repeat (refine wpStill_step (fun K hK => ?_); go_simp; (try go_bits); refine hK _ ?_; clear hK K)
              refine wpStill_nil ?_
              go_wp2_with fail
              change Code.wp _ _ _ _ wr.drew
              replace q0 := q0.drew
              replace q1 := q1.drew
              replace q2 := q2.drew
              replace q3 := q3.drew
              replace qB := qB.drew
              replace cK := cell_drew cK
              replace cW := cell_drew cW
              replace c0 := cell_drew c0
              replace c1 := cell_drew c1
              replace c2 := cell_drew c2
              replace c3 := cell_drew c3
              replace c4 := cell_drew c4
              replace c5 := cell_drew c5
              replace c6 := cell_drew c6
              replace c7 := cell_drew c7
              generalize wr.drew = wr2 at q0 q1 q2 q3 qB cK cW c0 c1 c2 c3 c4 c5 c6 c7 ⊢
              refine wp_region_still_lit (by kernel_rfl) (by kernel_rfl) ?_
              repeat (refine wpStill_step (fun K hK => ?_); go_simp; (first
                | (refine ⟨_, ((right_any _ _ (by decide) (by decide) _).mono fun _ _ h => ⟨h.1, h.2.symm⟩), hK _ ?_⟩)
                | ((try go_bits); refine hK _ ?_)); clear hK K)
              refine wpStill_nil ?_
              change Exit.then _ _ _ _ wr2.drew
              replace q0 := q0.drew
              replace q1 := q1.drew
              replace q2 := q2.drew
              replace q3 := q3.drew
              replace qB := qB.drew
              replace c0 := cell_drew c0
              replace c1 := cell_drew c1
              replace c2 := cell_drew c2
              replace c3 := cell_drew c3
              replace c4 := cell_drew c4
              replace c5 := cell_drew c5
              replace c6 := cell_drew c6
              replace c7 := cell_drew c7
              clear cK cW
              generalize wr2.drew = wr3 at q0 q1 q2 q3 qB c0 c1 c2 c3 c4 c5 c6 c7 ⊢
              obtain ⟨o1, Ho1⟩ : ∃ o1, Hid (x.h + (x.e.rotateRight 6 ^^^ x.e.rotateRight 11 ^^^ x.e.rotateRight 25) + (x.e &&& x.f ^^^ ~~~x.e &&& x.g) + K t + Wt = o1) := ⟨_, Lib.hid rfl⟩
              obtain ⟨m1, Hm1⟩ : ∃ m1, Hid (x.a &&& x.b ^^^ x.a &&& x.c ^^^ x.b &&& x.c = m1) := ⟨_, Lib.hid rfl⟩
              rw [Ho1.out, Hm1.out]
              go_wp2_with fail
              refine (right_any _ _ (by decide) (by decide) _).mono ?_
              rintro e w' ⟨rfl, rfl⟩
              go_wp2_with fail
              refine (right_any _ _ (by decide) (by decide) _).mono ?_
              rintro e w' ⟨rfl, rfl⟩
              go_wp2_with fail
              refine (right_any _ _ (by decide) (by decide) _).mono ?_
              rintro e w' ⟨rfl, rfl⟩
              go_upto_region 24 with fail
              obtain ⟨o2, Ho2⟩ : ∃ o2, Hid ((x.a.rotateRight (2 : Int).toNat ^^^ x.a.rotateRight (13 : Int).toNat ^^^ x.a.rotateRight (22 : Int).toNat) + m1 = o2) := ⟨_, Lib.hid rfl⟩
              first | rw [Ho2.out] | (simp only [Int.reduceToNat] at Ho2; rw [Ho2.out])
              refine wp_region_lit ?_
              iterate 22 (refine wpList_plain rfl (fun K hK => ?_); go_simp; (try go_bits); refine hK _ _ ?_; clear hK K)
              have hth := there_row q3
              refine wpList_store_mid rfl 125 (.tmp 9) (.tmp 200) rfl g 0 #[.int .u64 (uN (o1 + o2)), .int .u64 (uN x.a), .int .u64 (uN x.b), .int .u64 (uN x.c), .int .u64 (uN (x.d + o1)), .int .u64 (uN x.e), .int .u64 (uN x.f), .int .u64 (uN x.g)] ?_ ?_ hth info47 ?_ ?_
              · go_simp
              · go_simp
              · simp [Value.oneCell']
              obtain ⟨nx, hnx⟩ : ∃ nx : ShSt, nx = ⟨o1 + o2, x.a, x.b, x.c, x.d + o1, x.e, x.f, x.g⟩ := ⟨_, rfl⟩
              have hL : (#[.int .u64 (uN (o1 + o2)), .int .u64 (uN x.a), .int .u64 (uN x.b), .int .u64 (uN x.c), .int .u64 (uN (x.d + o1)), .int .u64 (uN x.e), .int .u64 (uN x.f), .int .u64 (uN x.g)] : Array Value).toList = (rowA 8 (vF nx.get)).toList := by rw [hnx]; rfl
              rw [hL]
              have Hnx : Hid (nx = runTo K (wS l 48) (ShSt.of s) (t + 1)) := Lib.hid (by
                rw [runTo, ← hx.out, HWt.out, hnx, ← Ho1.out, ← Ho2.out, ← Hm1.out]; rfl)
              clear hL hnx Ho1 Ho2 Hm1 c0 c1 c2 c3 c4 c5 c6 c7 hth
              replace q0 := rowIs_setOther q0 (b' := g) (by omega) (rowA 8 (vF nx.get)).toList 0
              replace q1 := rowIs_setOther q1 (b' := g) (by omega) (rowA 8 (vF nx.get)).toList 0
              replace q2 := rowIs_setOther q2 (b' := g) (by omega) (rowA 8 (vF nx.get)).toList 0
              replace q3 := rowIs_setAll q3 (vF nx.get)
              replace qB := below_setCells g (by omega) (rowA 8 (vF nx.get)).toList 0 _ qB
              generalize wr3.setCells g 0 (rowA 8 (vF nx.get)).toList = wr4 at q0 q1 q2 q3 qB ⊢
              go_wp2
              go_roundw
              case rel => exact ⟨t + 1, nx, by omega, by go_num, Hnx, q0, q1, q2, q3, qB⟩
              case measure => simp [intOf]; omega
            · obtain rfl : t = 64 := by omega
              rw [show ((64 : Nat) : Int) = 64 from rfl]
              obtain ⟨T, HT2⟩ : ∃ T, Hid (x.get = T) := ⟨_, Lib.hid rfl⟩
              rw [HT2.out] at q3
              clear q2
              go_wp2
              generalize wr = W3 at q0 q1 q3 qB ⊢
              go_loopw [18] (fun i wr => ∃ k : Nat, k ≤ 8 ∧ i = .int .i64 k ∧ wr.rowIs w.heap.size 117 8 (uF (mixed s T k)) ∧ wr.rowIs (w.heap.size + 1) 117 8 (fun _ => .int .u32 0) ∧ wr.rowIs g 125 8 (vF T) ∧ Below w.heap.size w wr) (fun i _ => 8 - (intOf i).toNat)
              case atStart => exact ⟨0, by omega, rfl, q0, q1, q3, qB⟩
              case round =>
                clear q0 q1 q3 qB
                obtain ⟨k, hk, rfl, q0, q1, q3, qB⟩ := hrel
                by_cases hlt : k < 8
                · have c0 := q0.cell (i := k) (by omega)
                  rw [uF_at, show mixed s T k k = s k by simp [mixed]] at c0
                  have c3 := q3.cell (i := k) (by omega)
                  have f0 := q0.frozen k
                  have i8 : (k : Int) < 8 := by omega
                  go_wp2
                  refine wp_region_still_tail 12 (by kernel_rfl) (by kernel_rfl) ?_
                  simp only [List.take_succ_cons, List.take_zero, List.drop_succ_cons, List.drop_zero]
                  repeat (refine wpStill_step (fun K hK => ?_); go_simp; (try go_bits); refine hK _ ?_; clear hK K)
                  refine wpStill_nil ?_
                  go_wp2
                  go_roundw
                  case rel => exact ⟨k + 1, by omega, by go_num, ((q0.set k _).congr fun i _ => mixed_set s T k i), q1.setOther (by simp) _, q3.setOther (by simp; omega) _, (qB.setCell (p := ⟨w.heap.size, k, none⟩) (by simp) _).drew⟩
                  case measure => simp [intOf]; omega
                · obtain rfl : k = 8 := by omega
                  have hR := rangeAt_row q0
                  go_wp2_with (first
                    | (refine wpList_load_mid rfl 117 (.tmp 2) rfl w.heap.size 0 rfl (rowA 8 (uF (mixed s T 8))).toList _ hR Tryd.underlying117 rfl (by rw [rowA_toList]; simpa using info23) ?_)
                    | (refine wpList_store_mid rfl 117 (.tmp 4) (.tmp 217) rfl (w.heap.size + 1) 0 (rowA 8 (uF (mixed s T 8))) rfl rfl (by rw [rowA_size]; exact there_row q1) (by rw [rowA_size]; exact info23) (rowA_one _ _ fun _ => rfl) ?_))
                  refine bodyPost_ret (results_row rfl _ rfl (rowIs_setAll q1 (uF (mixed s T 8))) Tryd.underlying117 info23) rfl ⟨?_, below_setCells _ (by omega) _ _ _ qB⟩
                  rw [← hx.out, HT2.out]
                  exact congrArg (fun z => Ending.returned (.agg z)) (rowA_congr fun i hi => by simp [uF, mixed, hi])
end Go.Proofs.YtchpmdcacpjojaaDoor
/- The reference's Fill. -/
namespace Go.Proofs.YtchpmdcacpjojaaDoor
open Go.RowKit
set_option maxRecDepth 8000
set_option linter.all false
attribute [local go_sem] bF_at

theorem fillHead_pos (k : Nat) (h : 1 ≤ k) : bF fillHead k = .int .u8 0 := by
  simp [bF, fillHead, bN, show k ≠ 0 by omega]
theorem step_len (n k p : Nat) (hk : k < 8) (hn : n ≤ 1000000) (hp : p = 72057594037927936 / 256 ^ k) : ((n * 8 / p % 256 : Nat) : Int) = bN (lenByte n k) := by
  have e : 72057594037927936 / 256 ^ k = 2 ^ (56 - 8 * k) := by
    have : ∀ k : Fin 8, 72057594037927936 / 256 ^ k.val = 2 ^ (56 - 8 * k.val) := by decide
    exact this ⟨k, hk⟩
  rw [lenByte, bN, UInt8.toNat_ofNat', hp, e, Nat.mod_eq_of_lt (a := n * 8) (by omega)]

set_option maxHeartbeats 1000000 in
theorem RFill_r (n r : Nat) (hn : n ≤ 1000000) (hr1 : 1 ≤ r) (hr2 : r ≤ 64) (hr3 : (n + r) % 64 = 56) (hr4 : ∀ k, 1 ≤ k → k < r → (n + k) % 64 ≠ 56) (w : World) :
    Calls Tryd.prog 77 #[.int .i64 n] w (FillPost n r w) := by
  obtain ⟨i0, hi, hz0, hz1, hz2⟩ := info_parts info5
  have H4 := Lib.hid hr4
  have H3 := Lib.hid hr3
  clear hr4 hr3
  go_enter Tryd.func77, Tryd.ntmps77
  go_wp2
  have r0 : (w.alloc (.cells #[.int .u8 128] 5)).rowIs w.heap.size 5 1 (bF fillHead) := (rowIs_box w 5 1 fun _ => .int .u8 128).congr fun i hi => by
    obtain rfl : i = 0 := by omega
    rfl
  have hB : Below w.heap.size w (w.alloc (.cells #[.int .u8 128] 5)) := (Below.refl _ w).alloc (Nat.le_refl _) _
  have ho := ownsRow_row r0 w.heap.size 1 (by omega) (by unfold maxLen; omega) (Nat.le_refl _)
  generalize w.alloc (.cells #[.int .u8 128] 5) = W0 at ho hB ⊢
  clear r0
  go_loopw [3] (fun v wr => ∃ k : Nat, 1 ≤ k ∧ k ≤ r ∧ wr.ownsRow w.heap.size 5 1 v k ((List.range k).map (bF fillHead)) ∧ Below w.heap.size w wr) (fun v _ => match v with | .slice _ m _ => r - m | _ => 0)
  case atStart => exact ⟨1, by omega, by omega, ho, hB⟩
  case round =>
    obtain ⟨k, hk1, hk, hown, qB⟩ := hrel
    clear ho hB
    obtain ⟨g, c, rfl, _, _⟩ := hown.form (by omega)
    by_cases hlt : k < r
    · have t1 : (((n : Int) + (k : Int)) % 64 == 56) = false := by
        have := H4.out k hk1 hlt
        simp; omega
      go_wp2_with (at_builtin; refine wpList_append_own _ rfl (.tmp 16) (.tmp 17) 49 rfl w.heap.size 5 i0 _ 1 1 Tryd.underlying49 hi hz0 hz1 hz2 rfl (by omega) _ k _ rfl (hown.alloc _) ⟨wr.heap.size, 0, none⟩ 1 1 [.int .u8 0] rfl rfl (one_cell _ _ _) (by simp [Value.oneCell']) (by unfold maxLen; omega) (by omega) (by have := qB.size; simp; omega) ?_; intro v' w1 hown' hg1 _)
      go_roundw
      case rel =>
        refine ⟨k + 1, by omega, by omega, ?_, (qB.alloc qB.size _).grown hg1 (by have := qB.size; simp; omega) (fun g e => (hown.lt g e).1)⟩
        rw [List.range_succ, List.map_append]
        simp only [List.map_cons, List.map_nil]
        rw [fillHead_pos k hk1]
        exact hown'
      case measure =>
        obtain ⟨g', c', rfl, _, _⟩ := hown'.form (by omega)
        show r - (k + 1) < r - k
        omega
    · obtain rfl : k = r := by omega
      have t1 : (((n : Int) + (k : Int)) % 64 == 56) = true := by
        have := H3.out
        simp; omega
      have t2 : (((n : Int) + (k : Int)) % 64 != 56) = false := by
        have := H3.out
        simp; omega
      have Ht1 := Lib.hid t1
      go_wp2
      clear t1 t2
      go_loopw [3, 5, 6] (fun v st i wr => ∃ j p : Nat, j ≤ 8 ∧ i = .int .i64 j ∧ st = .int .u64 p ∧ Hid (p = 72057594037927936 / 256 ^ j) ∧ wr.ownsRow w.heap.size 5 1 v (k + j) ((List.range k).map (bF fillHead) ++ (List.range j).map (bF (lenByte n))) ∧ Below w.heap.size w wr) (fun _ _ i _ => 8 - (intOf i).toNat)
      case atStart => exact ⟨0, 72057594037927936, by omega, rfl, rfl, Lib.hid (by simp), by simpa using hown, qB⟩
      case round =>
        clear hown qB
        obtain ⟨j, p, hj, rfl, rfl, Hp, hown, qB⟩ := hrel
        by_cases hlt : j < 8
        · have hp0 : 0 < p := by
            have : ∀ k : Fin 8, 0 < 72057594037927936 / 256 ^ k.val := by decide
            rw [Hp.out]; exact this ⟨j, hlt⟩
          have hpz : ((p : Int) == 0) = false := by simp; omega
          have hsl := step_len n j p hlt hn Hp.out
          have Hsl := Lib.hid hsl
          clear hsl
          have hp1 : (p : Int) ≠ 0 := by omega
          have hpb : p ≤ 72057594037927936 := by rw [Hp.out]; exact Nat.div_le_self _ _
          have hpw : IntKind.u64.wrap ((p : Int) / 256) = ((p / 256 : Nat) : Int) := by rw [wrap_u64]; omega
          have hval : ((n : Int) * 8 / (p : Int)).tmod 256 % 256 = bN (lenByte n j) := by
            have h0 : (0 : Int) ≤ (n : Int) * 8 / p := Int.ediv_nonneg (by omega) (by omega)
            rw [Int.tmod_eq_emod_of_nonneg h0, ← Hsl.out]
            have : (n : Int) * 8 / (p : Int) = ((n * 8 / p : Nat) : Int) := by simp
            rw [this]; omega
          go_wp2_with (at_builtin; refine wpList_append_own _ rfl (.tmp 26) (.tmp 32) 49 rfl w.heap.size 5 i0 _ 1 1 Tryd.underlying49 hi hz0 hz1 hz2 rfl (by omega) u3 (k + j) _ rfl (hown.alloc _) ⟨wr.heap.size, 0, none⟩ 1 1 [bF (lenByte n) j] rfl rfl (one_cell _ _ _) (by simp [bF, Value.oneCell']) (by unfold maxLen; omega) (by omega) (by have := qB.size; simp; omega) ?_; intro v' w1 hown' hg1 _)
          go_roundw
          case rel =>
            refine ⟨j + 1, p / 256, by omega, by go_num, rfl, Lib.hid (by rw [Hp.out, Nat.div_div_eq_div_mul, Nat.pow_succ]), ?_, (qB.alloc qB.size _).grown hg1 (by have := qB.size; simp; omega) (fun g e => (hown.lt g e).1)⟩
            rw [List.range_succ, List.map_append, ← List.append_assoc]
            exact hown'
          case measure => simp [intOf]; omega
        · obtain rfl : j = 8 := by omega
          go_wp2
          go_ret
          exact ⟨_, rfl, hown, qB⟩
theorem RFill_any (n : Nat) (hn : n ≤ 1000000) (w : World) : Calls Tryd.prog 77 #[.int .i64 n] w (FillPost n (if n % 64 < 56 then 56 - n % 64 else 120 - n % 64) w) := by
  by_cases h : n % 64 < 56
  · rw [if_pos h]; exact RFill_r n _ hn (by omega) (by omega) (by omega) (fun k _ _ => by omega) w
  · rw [if_neg h]; exact RFill_r n _ hn (by omega) (by omega) (by omega) (fun k _ _ => by omega) w
set_option maxHeartbeats 400000 in
theorem RFill_neg (n : Int) (hn : n < 0) (w : World) : Calls Tryd.prog 77 #[.int .i64 n] w fun e w' => e = .returned (.slice none 0 0) ∧ w = w' := by
  go_enter Tryd.func77, Tryd.ntmps77
  go_wp2
  go_ret
  exact ⟨rfl, rfl⟩
end Go.Proofs.YtchpmdcacpjojaaDoor
/- The reference's Sum. -/
namespace Go.Proofs.YtchpmdcacpjojaaDoor
open Go.RowKit
set_option maxRecDepth 8000
set_option linter.all false
attribute [local go_sem] uF_at bF_at run_storeU run_storeB

theorem ownsRow_belowW {W W' : World} {base : Nat} {e : TypeId} {size : Nat} {v : Value} {n : Nat} {xs : List Value} (h : W.ownsRow base e size v n xs) (hb : Below W.heap.size W W') : W'.ownsRow base e size v n xs :=
  h.kept (row := none) ⟨hb.os, hb.tape, hb.output, hb.size, fun k hk _ => hb.block k hk⟩ (by cases v.ownBlock with | none => exact .inl rfl | some k => exact .inr (by simp))
/-- The digest, written from behind: the numbers before i, and of number i the last j bytes. -/
def outF (S : Nat → BitVec 32) (i j p : Nat) : UInt8 := if p < 4 * i then dig S p else if 4 * i + 4 ≤ p + j ∧ p < 4 * i + 4 then dig S p else 0
theorem outF_set (S : Nat → BitVec 32) (i j : Nat) (hj : j < 4) (z : Int) (hz : z = bN (dig S (4 * i + (3 - j)))) (p : Nat) : (if p = 4 * i + (3 - j) then Value.int .u8 z else bF (outF S i j) p) = bF (outF S i (j + 1)) p := by
  subst hz
  simp only [bF, outF]
  by_cases h : p = 4 * i + (3 - j)
  · subst h; rw [if_pos rfl, if_neg (by omega), if_pos (by omega)]
  · rw [if_neg h]
    by_cases h2 : p < 4 * i
    · rw [if_pos h2, if_pos h2]
    · rw [if_neg h2, if_neg h2]
      by_cases h3 : 4 * i + 4 ≤ p + j ∧ p < 4 * i + 4
      · rw [if_pos h3, if_pos (by omega)]
      · rw [if_neg h3, if_neg (by omega)]
theorem outF_next (S : Nat → BitVec 32) (i p : Nat) : bF (outF S i 4) p = bF (outF S (i + 1) 0) p := by
  simp only [bF, outF]
  by_cases h : p < 4 * i
  · rw [if_pos h, if_pos (by omega)]
  · rw [if_neg h]
    by_cases h2 : p < 4 * i + 4
    · rw [if_pos ⟨by omega, h2⟩, if_pos (by omega)]
    · rw [if_neg (by omega), if_neg (by omega), if_neg (by omega)]
theorem outF_zero (S : Nat → BitVec 32) (p : Nat) : bF (fun _ => 0) p = bF (outF S 0 0) p := by
  simp only [bF, outF]
  rw [if_neg (by omega), if_neg (by omega)]
theorem dig_back (S : Nat → BitVec 32) (i j : Nat) (hj : j < 4) : (uN (S i >>> (8 * j))) % 256 = bN (dig S (4 * i + (3 - j))) := by
  rw [dig, show (4 * i + (3 - j)) / 4 = i by omega, show (4 * i + (3 - j)) % 4 = 3 - j by omega, show 24 - 8 * (3 - j) = 8 * j by omega, ← u32_u8, wrap_u8]
theorem dig_div (x : BitVec 32) (j : Nat) : uN (x >>> (8 * j)) / (256 : Int) = uN (x >>> (8 * (j + 1))) := by
  have := u32_shr (x >>> (8 * j)) 8
  rw [show ((2 : Int) ^ 8) = 256 from rfl] at this
  rw [this, ← BitVec.shiftRight_add]
  rfl
theorem fill_len (n : Nat) : (n + (fillB n).length) % 64 = 0 := by rw [fillB_length]; split <;> omega
theorem sha_all (l : List UInt8) (m : Nat) (h : (l ++ fillB l.length).length = 64 * m) : shaL Kc Fc l = dig (sB (l ++ fillB l.length) m) := by
  have : cks (l ++ fillB l.length) = (List.range m).map (blk (l ++ fillB l.length)) := by unfold cks; rw [h, show 64 * m / 64 = m by omega]; rfl
  rw [shaL, this, sB_fold]
set_option maxHeartbeats 4000000 in
theorem RSum_any (v : Value) (l : List UInt8) (w : World) (hT : Tables w) (hr : RdV w [] v l) (hl : l.length ≤ 900000) :
    Calls Tryd.prog 68 #[v] w fun e w' => e = .returned (.agg (rowA 32 (bF (shaL Kc Fc l)))) ∧ Below w.heap.size w w' := by
  have HT := Lib.hid hT
  have hsz := hT.size
  have Hr := Lib.hid hr
  obtain ⟨A, cap, rfl, _⟩ := hr
  clear hT
  obtain ⟨n, hn⟩ : ∃ n, l.length = n := ⟨_, rfl⟩
  rw [hn] at hl Hr ⊢
  obtain ⟨i0, hi, hz0, hz1, hz2⟩ := info_parts info5
  have hB1 : Below (w.heap.size) w ((w.alloc (.cells (rowA 32 (bF fun _ => 0)) 32)).alloc (.cells #[] 5)) := ((Below.refl _ w).alloc (Nat.le_refl _) _).alloc (by simp) _
  have rz : ((w.alloc (.cells (rowA 32 (bF fun _ => 0)) 32)).alloc (.cells #[] 5)).rowIs w.heap.size 32 32 (bF fun _ => 0) := (rowIs_box w 32 32 (bF fun _ => 0)).alloc _
  have hown0 : ((w.alloc (.cells (rowA 32 (bF fun _ => 0)) 32)).alloc (.cells #[] 5)).ownsRow (w.heap.size + 1) 5 1 (.slice (some ⟨w.heap.size + 1, 0, none⟩) 0 0) 0 [] := by
    have := rowIs_box (w.alloc (.cells (rowA 32 (bF fun _ => 0)) 32)) 5 0 (fun _ => undef)
    rw [World.size_alloc] at this
    exact ownsRow_row this (w.heap.size + 1) 0 (by omega) (by unfold maxLen; omega) (Nat.le_refl _)
  have Hr1 := Lib.hid (Hr.out.keep (KeepBut.below hB1))
  have hs1 : w.heap.size + 1 ≤ ((w.alloc (.cells (rowA 32 (bF fun _ => 0)) 32)).alloc (.cells #[] 5)).heap.size := by simp
  go_enter Tryd.func68, Tryd.ntmps68
  go_wp2_with (at_builtin; first
    | (refine wpList_append_rd rfl (.tmp 10) (.tmp 11) 49 rfl (base := w.heap.size + 1) Tryd.underlying49 hi hz0 hz1 hz2 rfl hown0 rfl Hr1.out (by omega) hs1 ?_; intro v2 w2 o2 grow2
       have b2 := (Below.refl (w.heap.size + 1) ((w.alloc (.cells (rowA 32 (bF fun _ => 0)) 32)).alloc (.cells #[] 5))).grown grow2 hs1 (fun k e => (hown0.lt k e).1)
       have hB2 := hB1.trans (b2.mono (Nat.le_succ _))
       replace rz := rowIs_below rz b2 (by omega)
       clear grow2 hown0 hs1 Hr1 hB1 b2))
  refine (RFill_any n (by omega) _).mono ?_
  rintro e w3 ⟨v3, rfl, ho3, hb3⟩
  have rd3 := Lib.hid (rdV_fill (L := []) (by simp) ho3)
  have o3 := ownsRow_belowW o2 hb3
  replace rz := rowIs_below rz hb3 rz.lt
  have hB3 := hB2.trans (hb3.mono hB2.size)
  clear o2 ho3 hb3 hB2
  have hfl := fill_len n
  have hf2 : (fillB n).length ≤ 72 := by rw [fillB_length]; split <;> omega
  have hf3 : 0 < (fillB n).length := by rw [fillB_length]; omega
  go_upto_region 2 with (at_builtin; refine wpList_append_rd rfl (.tmp 12) (.tmp 15) 49 rfl (base := w.heap.size + 1) Tryd.underlying49 hi hz0 hz1 hz2 rfl o3 rfl rd3.out (by omega) (by have := rz.lt; omega) ?_; intro v4 w4 o4 grow4)
  have hB4 := hB3.grown grow4 hB3.size (fun k e => by have := (o3.lt k e).1; omega)
  replace rz : w4.rowIs w.heap.size 32 32 (bF fun _ => 0) := rowIs_below rz ((Below.refl (w.heap.size + 1) w3).grown grow4 (by have := rz.lt; omega) (fun k e => (o3.lt k e).1)) (by omega)
  obtain ⟨c, hc⟩ : ∃ c, l ++ fillB n = c := ⟨_, rfl⟩
  have Rall : RdV w4 [] v4 c := by rw [← hc]; exact rdV_own (by simpa [List.map_append] using o4) (by simp) (by simp)
  obtain ⟨m, hm⟩ : ∃ m, m = c.length / 64 := ⟨_, rfl⟩
  have hcm : c.length = 64 * m := by rw [hm, ← hc]; simp only [List.length_append]; omega
  have hD : shaL Kc Fc l = dig (sB c m) := by rw [← hc, ← hn]; exact sha_all l m (by rw [hn, hc, hcm])
  have HD := Lib.hid hD
  obtain ⟨A4, c4, rfl, hcap4, hmax4, hA4⟩ := Rall
  obtain ⟨M, hM⟩ : ∃ M, c.length = M := ⟨_, rfl⟩
  rw [hM] at hcap4 hA4 hcm ⊢
  have hM2 : M ≤ 900072 := by rw [← hM, ← hc]; simp only [List.length_append]; omega
  have hM0 : 0 < M := by rw [← hM, ← hc]; simp only [List.length_append]; omega
  obtain ⟨b4, o4', rfl, _, hcell4⟩ := hA4 hM0
  have HC := Lib.hid hcell4
  have HM := Lib.hid hcm
  have hb4 : b4 < w4.heap.size := World.block_lt_of_cell? _ _ (hcell4 0 hM0)
  clear hD hcell4 hcm hM hc hm hA4 o4 o3 grow4 rd3 hfl hf2 hf3 hB3
  have T4 := HT.out.below hB4
  have f0 := T4.f 0 (by omega)
  have f1 := T4.f 1 (by omega)
  have f2 := T4.f 2 (by omega)
  have f3 := T4.f 3 (by omega)
  have f4 := T4.f 4 (by omega)
  have f5 := T4.f 5 (by omega)
  have f6 := T4.f 6 (by omega)
  have f7 := T4.f 7 (by omega)
  have h0 : 0 < w4.heap.size := by have := T4.size; omega
  clear T4
  go_wp2
  clear f0 f1 f2 f3 f4 f5 f6 f7
  have rs := rowIs_box w4 117 8 (uF Fc)
  have hB5 := (Below.refl _ w4).alloc (Nat.le_refl _) (.cells (rowA 8 (uF Fc)) 117)
  change Code.wp _ _ _ _ (w4.alloc (.cells (rowA 8 (uF Fc)) 117))
  generalize w4.alloc (.cells (rowA 8 (uF Fc)) 117) = w5 at rs hB5 ⊢
  go_loopw [5] (fun i wr => ∃ j k : Nat, j = 64 * k ∧ j ≤ M ∧ i = .int .i64 j ∧ wr.rowIs w4.heap.size 117 8 (uF (sB c k)) ∧ Below w4.heap.size w4 wr) (fun i _ => M - (intOf i).toNat)
  case atStart => exact ⟨0, 0, rfl, by omega, rfl, rs, hB5⟩
  case round =>
    obtain ⟨j, k, hjk, hjM, rfl, qs, qB⟩ := hrel
    clear rs hB5
    by_cases hlt : j < M
    · have HM2 := HM.out
      have hsl := slice_blk b4 o4' M c4 j (by omega)
      have hB6 : Below w.heap.size w wr := hB4.trans (qB.mono hB4.size)
      have HC2 : Hid (∀ i, i < 64 → wr.cell? ⟨b4, o4' + j + i, none⟩ = some (.int .u8 (bN (bAt (blk c k) i)))) := Lib.hid fun i hi => by
        rw [Nat.add_assoc]
        refine (qB.cell (p := ⟨b4, o4' + (j + i), none⟩) hb4).trans ?_
        rw [HC.out (j + i) (by omega), bAt_blk c k i hi, ← hjk]
      have HT2 := HT.out.below hB6
      have HTk := Lib.hid HT2.k
      have hs2 := HT2.size
      have hbr : b4 < wr.heap.size := Nat.lt_of_lt_of_le hb4 qB.size
      have d1 : decide ((j : Int) + 64 ≤ (M : Int)) = true := by simp; omega
      have d2 : (j : Int) + 64 ≤ (M : Int) := by omega
      have hcj : 64 ≤ c4 - j := by omega
      have hcj2 : c4 - j ≤ maxLen := by omega
      clear HT2
      have Hjk := Lib.hid hjk
      clear hjk HM2
      obtain ⟨s, Hs⟩ : ∃ s, Hid (sB c k = s) := ⟨_, Lib.hid rfl⟩
      rw [Hs.out] at qs
      have c0 := qs.cell (i := 0) (by omega)
      have c1 := qs.cell (i := 1) (by omega)
      have c2 := qs.cell (i := 2) (by omega)
      have c3 := qs.cell (i := 3) (by omega)
      have c4' := qs.cell (i := 4) (by omega)
      have c5 := qs.cell (i := 5) (by omega)
      have c6 := qs.cell (i := 6) (by omega)
      have c7 := qs.cell (i := 7) (by omega)
      go_wp2
      refine wp_region_still_tail 6 (by kernel_rfl) (by kernel_rfl) ?_
      simp only [List.take_succ_cons, List.take_zero, List.drop_succ_cons, List.drop_zero]
      iterate 6 (refine wpStill_step (fun K hK => ?_); go_simp; (try go_bits); refine hK _ ?_; clear hK K)
      refine wpStill_nil ?_
      go_wp2_with fail
      refine (RTurn_any Kc s (blk c k) b4 (o4' + j) (c4 - j) hcj hcj2 wr.drew hbr hs2 HTk.out HC2.out).mono ?_
      rintro e w6 ⟨rfl, hB7⟩
      replace qs := rowIs_below qs.drew hB7 qs.lt
      have hB8 : Below w4.heap.size w4 w6 := qB.drew.trans (hB7.mono qB.size)
      have rw2 : RowW w6 w4.heap.size 8 := ⟨_, _, qs⟩
      clear c0 c1 c2 c3 c4' c5 c6 c7 hB7 qB
      go_wp2
      go_roundw
      case rel =>
        refine ⟨j + 64, k + 1, by have := Hjk.out; omega, by omega, by go_num, ?_, below_setCells _ (Nat.le_refl _) _ _ _ hB8⟩
        have := rowIs_setAll qs (uF (turnF Kc s (blk c k)))
        rw [sB, Hs.out]
        exact this
      case measure => simp [intOf]; omega
    · obtain rfl : j = M := by omega
      obtain rfl : k = m := by have := HM.out; omega
      obtain ⟨S, HS⟩ : ∃ S, Hid (sB c k = S) := ⟨_, Lib.hid rfl⟩
      rw [HS.out] at qs
      have Hjk := Lib.hid hjk
      clear hjk
      have hg4 : w4.heap.size < wr.heap.size := qs.lt
      have ro := rowIs_box wr 32 32 (bF fun _ => 0)
      replace qs := qs.alloc (.cells (rowA 32 (bF fun _ => 0)) 32)
      have rz2 := (rowIs_below rz qB rz.lt).alloc (.cells (rowA 32 (bF fun _ => 0)) 32)
      have hgw : w.heap.size < wr.heap.size := (rowIs_below rz qB rz.lt).lt
      have qB6 := (hB4.trans (qB.mono hB4.size)).alloc (by omega) (.cells (rowA 32 (bF fun _ => 0)) 32)
      go_wp2
      change Code.wp _ _ _ _ (wr.alloc (.cells (rowA 32 (bF fun _ => 0)) 32))
      generalize wr.heap.size = g at hgw hg4 ro ⊢
      generalize wr.alloc (.cells (rowA 32 (bF fun _ => 0)) 32) = W6 at ro qs rz2 qB6 ⊢
      clear rz qB
      go_loopw [7] (fun i wr => ∃ t : Nat, t ≤ 8 ∧ i = .int .i64 t ∧ wr.rowIs w4.heap.size 117 8 (uF S) ∧ wr.rowIs w.heap.size 32 32 (bF fun _ => 0) ∧ wr.rowIs g 32 32 (bF (outF S t 0)) ∧ Below w.heap.size w wr) (fun i _ => 8 - (intOf i).toNat)
      case atStart => exact ⟨0, by omega, rfl, qs, rz2, ro.congr fun p _ => outF_zero S p, qB6⟩
      case round =>
        clear qs rz2 ro qB6
        obtain ⟨t, ht, rfl, qs, qz, qo, qB⟩ := hrel
        by_cases hlt : t < 8
        · have cs := qs.cell (i := t) hlt
          have it : (t : Int) < 8 := by omega
          go_wp2
          clear cs
          go_loopw [8, 9] (fun x k wr => ∃ j : Nat, j ≤ 4 ∧ k = .int .i64 (3 - (j : Int)) ∧ x = .int .u32 (uN (S t >>> (8 * j))) ∧ wr.rowIs w4.heap.size 117 8 (uF S) ∧ wr.rowIs w.heap.size 32 32 (bF fun _ => 0) ∧ wr.rowIs g 32 32 (bF (outF S t j)) ∧ Below w.heap.size w wr) (fun _ k _ => (intOf k + 1).toNat)
          case atStart => exact ⟨0, by omega, rfl, rfl, qs, qz, qo, qB⟩
          case round =>
            clear qs qz qo qB
            obtain ⟨j, hj, rfl, rfl, qs, qz, qo, qB⟩ := hrel
            by_cases hj4 : j < 4
            · obtain ⟨q, hq⟩ : ∃ q, 3 - j = q := ⟨_, rfl⟩
              have hz := dig_back S t j hj4
              have hd := dig_div (S t) j
              rw [hq] at hz
              obtain ⟨X, hX, hX2⟩ : ∃ X : Nat, X < 4294967296 ∧ uN (S t >>> (8 * j)) = (X : Int) := ⟨(S t >>> (8 * j)).toNat, (S t >>> (8 * j)).isLt, rfl⟩
              rw [hX2] at hz hd ⊢
              have hqi : (3 : Int) - (j : Int) = (q : Int) := by omega
              rw [hqi]
              have Hz := Lib.hid hz
              have Hd := Lib.hid hd
              have Hq := Lib.hid hq
              have Hqi := Lib.hid hqi
              have hq3 : q ≤ 3 := by omega
              clear hz hd hX2 hq hqi
              have co := qo.cell (i := 4 * t + q) (by omega)
              have fo := qo.frozen (4 * t + q)
              have i1 : 4 * (t : Int) + (q : Int) < 32 := by omega
              have i2 : (0 : Int) ≤ 4 * (t : Int) + (q : Int) := by omega
              go_wp2
              go_roundw
              case rel =>
                refine ⟨j + 1, by omega, ?_, by rw [← Hd.out], qs.setOther (by simp; omega) _, qz.setOther (by simp; omega) _, (qo.set (4 * t + q) _).congr fun p _ => ?_, qB.setCell (p := ⟨g, 4 * t + q, none⟩) (by simp; omega) _⟩
                · congr 1
                  have := Hqi.out
                  omega
                · have := outF_set S t j hj4 ((X : Int) % 256) (by rw [Hq.out]; exact Hz.out) p
                  rwa [Hq.out] at this
              case measure => simp only [intOf]; omega
            · obtain rfl : j = 4 := by omega
              go_wp2
              go_roundw
              case rel => exact ⟨t + 1, by omega, by go_num, qs, qz, qo.congr fun p _ => outF_next S t p, qB⟩
              case measure => simp [intOf]; omega
        · obtain rfl : t = 8 := by omega
          have hR := rangeAt_row qo
          go_wp2_with (first
            | (refine wpList_load_mid rfl 32 (.tmp 6) rfl g 0 rfl (rowA 32 (bF (outF S 8 0))).toList _ hR Tryd.underlying32 rfl (by rw [rowA_toList]; simpa using info31) ?_)
            | (refine wpList_store_mid rfl 32 (.tmp 2) (.tmp 53) rfl w.heap.size 0 (rowA 32 (bF (outF S 8 0))) rfl rfl (by rw [rowA_size]; exact there_row qz) (by rw [rowA_size]; exact info31) (rowA_one _ _ fun _ => rfl) ?_))
          refine bodyPost_ret (results_row rfl _ rfl (rowIs_setAll qz (bF (outF S 8 0))) Tryd.underlying32 info31) rfl ⟨?_, below_setCells _ (Nat.le_refl _) _ _ _ qB⟩
          rw [HD.out, HS.out]
          exact congrArg (fun z => Ending.returned (.agg z)) (rowA_congr fun i hi => by simp only [bF, outF]; rw [if_pos (by omega)])
end Go.Proofs.YtchpmdcacpjojaaDoor
/- The reference's Of. -/
namespace Go.Proofs.YtchpmdcacpjojaaDoor
open Go Go.RowKit
set_option maxRecDepth 8000
set_option linter.all false
theorem RSumB_cv (v : Value) (l : List UInt8) (D : Nat → UInt8) (w : World) (hT : Tables w) (hr : RdV w [] v l) (hl : l.length ≤ 900000) (hD : shaL Kc Fc l = D) : Cv 68 #[v] w (.eq (.agg (rowA 32 (bF D)))) := by
  rw [← hD]; exact Cv.of_eq (RSum_any v l w hT hr hl)
end Go.Proofs.YtchpmdcacpjojaaDoor
/- The reference's Tag, by a key of at most 64 bytes. -/
namespace Go.Proofs.YtchpmdcacpjojaaDoor
open Go Go.RowKit
set_option maxRecDepth 8000
set_option linter.all false
theorem with_54 (v : Value) (l : List UInt8) (w : World) (hr : RdV w [] v l) : Cv 69 #[v, .int .i64 54] w (svOwn w (maskL (bAt l) 54)) := by
  have h := hr
  obtain ⟨A, c, rfl, _⟩ := h
  exact with_any A _ c l 54 (.inl rfl) w hr
theorem with_92 (v : Value) (l : List UInt8) (w : World) (hr : RdV w [] v l) : Cv 69 #[v, .int .i64 92] w (svOwn w (maskL (bAt l) 92)) := by
  have h := hr
  obtain ⟨A, c, rfl, _⟩ := h
  exact with_any A _ c l 92 (.inr rfl) w hr
set_option maxHeartbeats 4000000 in
theorem RTag_short (A0 : Option Addr) (c0 : Nat) (vt : Value) (k t : List UInt8) (D : Nat → UInt8) (w : World) (hT : Tables w) (hk : RdV w [] (.slice A0 k.length c0) k) (ht : RdV w [] vt t) (hkl : k.length ≤ 64) (hk2 : k.length ≤ 100000) (htl : t.length ≤ 100000) (hD : tagL k t = D) :
    Cv 55 #[.slice A0 k.length c0, vt] w (.eq (.agg (rowA 32 (bF D)))) := by
  unfold Cv
  obtain ⟨E, HE0⟩ := hid_ex (inL k t)
  have hkb : keyB k = bAt k := by unfold keyB keyOf; rw [if_neg (by omega)]
  have HE : Hid (shaL Kc Fc (maskL (bAt k) 54 ++ t) = E) := Lib.hid (by rw [← HE0.out, inL, hkb])
  have HD : Hid (shaL Kc Fc (maskL (bAt k) 92 ++ digL E) = D) := Lib.hid (by rw [← hD, tagL, hkb, HE0.out])
  have hd : decide ((64 : Int) < (k.length : Int)) = false := by simp; omega
  clear hkb
  have Rk := Lib.hid hk
  have Rt := Lib.hid ht
  have HT := Lib.hid hT
  clear hT hk ht hD HE0
  go_enter Tryd.func55, Tryd.ntmps55
  go_upto_region 1 with fail
  have r0 := rowIs_box w 32 32 (bF fun _ => 0)
  have hN0 := NewT.alloc w (.cells (rowA 32 (bF fun _ => 0)) 32)
  change Code.wp _ _ _ _ (w.alloc (.cells (rowA 32 (bF fun _ => 0)) 32))
  generalize w.alloc (.cells (rowA 32 (bF fun _ => 0)) 32) = W0 at r0 hN0 ⊢
  replace Rk := Lib.hid (hN0.rd Rk.out)
  replace Rt := Lib.hid (hN0.rd Rt.out)
  have hB := hN0.out
  clear hN0
  go_upto_region 4 with fail
  refine wp_region_lit ?_
  iterate 1 (refine wpList_plain rfl (fun K hK => ?_); go_simp; refine hK _ _ ?_; clear hK K)
  refine wpList_plain rfl (fun K hK => ?_)
  refine opr_cv (with_54 _ k W0 Rk.out) rfl Tryd.func69 (by kernel_rfl) (by kernel_rfl) (by simp only [List.map_toArray, List.map_cons, List.map_nil]; rfl) ?_
  intro v14 wa hNa o14
  refine hK _ _ ?_
  clear hK K
  obtain ⟨v16, wb, hrun, _, r16, hBb⟩ := run_append_two o14 hNa.out.size (hNa.rd Rt.out) (by rw [maskL_length]; omega) 49
  have hB1 := hB.trans ((hNa.out.mono hB.size).trans (hBb.mono hB.size))
  have r0b := rowIs_below (hNa.row r0) hBb (by have := r0.lt; omega)
  have rtb := (Rt.out.keep (KeepBut.below (hNa.out.trans hBb)))
  have rkb := (Rk.out).keep (KeepBut.below (hNa.out.trans hBb))
  have Rtb := Lib.hid rtb
  have Rkb := Lib.hid rkb
  have R16 := Lib.hid r16
  have HTb := Lib.hid (HT.out.below hB1)
  clear hBb o14 hNa rtb rkb r16
  iterate 1 (refine wpList_plain rfl (fun K hK => ?_); go_simp; refine hK _ _ ?_; clear hK K)
  refine wpList_plain rfl (fun K hK => ?_)
  refine opr_append rfl rfl rfl hrun (hK _ _ ?_)
  clear hrun hK K
  refine wpList_plain rfl (fun K hK => ?_)
  refine opr_cv (RSumB_cv _ _ E wb HTb.out R16.out (by rw [List.length_append, maskL_length]; omega) HE.out) rfl Tryd.func68 (by kernel_rfl) (by kernel_rfl) (by simp only [List.map_toArray, List.map_cons, List.map_nil]; rfl) ?_
  intro v17 wc hNc he17
  obtain rfl : v17 = .agg (rowA 32 (bF E)) := he17
  refine hK _ _ ?_
  clear hK K
  refine wpList_plain rfl (fun K hK => ?_)
  refine opr_alloc_hash rfl (NewT.refl wc) ?_
  intro v6 wd hNd h6
  obtain ⟨p6, hv, hp6, rr6⟩ := svNew_out h6
  subst hv
  refine hK _ _ ?_
  clear hK K h6
  refine wpList_plain rfl (fun K hK => ?_)
  refine opr_store_new (W := wc) info31 rfl rfl rfl rr6 hNd.out hp6 ?_
  intro we hNe r6
  replace hNe := NewT.trans _ _ _ hNc (NewT.of hNe)
  refine hK _ _ ?_
  clear hK K
  replace r0b := hNe.row r0b
  have hB2 := hB1.trans (hNe.out.mono hB1.size)
  have Rke := Lib.hid (hNe.rd Rkb.out)
  have HTe := Lib.hid (hNe.tables HTb.out)
  clear hNc hNd hNe hp6 rr6 Rkb Rtb R16 HTb hB1
  refine wpList_nil ?_
  go_simp
  go_upto_region 5 with fail
  refine wp_region_rely_tail NewT [svRd k, svOwn we (maskL (bAt k) 92), svRd (digL E)] [([(0, none)], none), ([(18, some 0)], none), ([(6, none)], none)] 23 3 (by kernel_rfl) rfl rfl (Nat.zero_lt_succ _) (by kernel_rfl) (by kernel_rfl) (by kernel_rfl) NewT.trans (NewT.drew _) (Nat.le_of_ble_eq_true rfl) ⟨?_, ?_, ?_, trivial⟩ ?_
  · -- 0: Op.move t0
    intro a wx hT hF K hK
    obtain ⟨f0, _⟩ := hF
    have f0 : a.tmps.getD 0 undef = .slice A0 k.length c0 := f0
    refine rely_wp rfl ?_
    exact opr_move (.inl rfl) (hK _ _ (NewT.refl _) (by rw [eval_tmp, f0]; exact hT.rd Rke.out))
  · -- 1: Op.call ( value (Operand.func 69), args := #[t18, const (92:
    intro a wx hT hF K hK
    obtain ⟨f18, _⟩ := hF
    replace f18 := show (svRd k).pred (a.tmps.getD 18 undef) wx from f18
    refine rely_wp rfl ?_
    refine opr_cv (with_92 _ k wx f18) rfl Tryd.func69 (by kernel_rfl) (by kernel_rfl) (by simp only [List.map_toArray, List.map_cons, List.map_nil, eval_tmp, eval_const]) ?_
    intro v w2 hN2 ho2
    exact hK v w2 hN2 (own_from hT ho2)
  · -- 2: Op.slice 32 t6 none none none
    intro a wx hT hF K hK
    obtain ⟨f6, _⟩ := hF
    have f6 : a.tmps.getD 6 undef = .pointer (some ⟨p6, 0, none⟩) := f6
    refine rely_wp rfl ?_
    exact opr_slice_hash rfl f6 (hK _ _ (NewT.refl _) (rd_row (hT.row r6) (by simp) (by omega)))
  · intro wx hT
    intro u18 h; have g18 := h (by simp); clear h; replace g18 := show (svRd k).pred u18 wx from g18
    intro u19 h; have g19 := h (by simp); clear h; replace g19 := show (svOwn we (maskL (bAt k) 92)).pred u19 wx from g19
    intro u20 h; have g20 := h (by simp); clear h; replace g20 := show (svRd (digL E)).pred u20 wx from g20
    refine relyEnd_nil rfl ?_
    simp only [Act.put, List.setIfInBounds_toArray, List.set_cons_zero, List.set_cons_succ]
    refine wpList_plain rfl (fun K hK => ?_)
    obtain ⟨v21, wg, hrun, _, r21, hBg⟩ := run_append_two g19 hT.out.size g20 (by rw [maskL_length, digL_length]; omega) 49
    refine opr_append rfl rfl rfl hrun (hK _ _ ?_)
    clear hrun hK K
    have hB3 := hB2.trans ((hT.out.mono hB2.size).trans (hBg.mono hB2.size))
    have r0g := rowIs_below (hT.row r0b) hBg r0b.lt
    have HTg := Lib.hid (HTe.out.below (hT.out.trans hBg))
    clear hBg hT g19 g20 g18
    refine wpList_plain rfl (fun K hK => ?_)
    refine opr_cv (RSumB_cv _ _ D wg HTg.out r21 (by rw [List.length_append, maskL_length, digL_length]; omega) HD.out) rfl Tryd.func68 (by kernel_rfl) (by kernel_rfl) (by simp only [List.map_toArray, List.map_cons, List.map_nil]; rfl) ?_
    intro v22 wh hNh he22
    obtain rfl : v22 = .agg (rowA 32 (bF D)) := he22
    refine hK _ _ ?_
    clear hK K
    refine wpList_plain rfl (fun K hK => ?_)
    refine opr_store_new (B := w.heap.size) (W := w) info31 rfl rfl rfl (hNh.row r0g) (hB3.trans (hNh.out.mono hB3.size)) (Nat.le_refl _) ?_
    intro wi hBi ri
    refine hK _ _ ?_
    clear hK K
    refine wpList_nil ?_
    go_simp
    go_wp2
    exact bodyPost_ret (results_row rfl _ rfl ri Tryd.underlying32 info31) rfl ⟨_, rfl, hBi, rfl⟩
theorem RTag_cv (vk vt : Value) (k t : List UInt8) (D : Nat → UInt8) (w : World) (hT : Tables w) (hk : RdV w [] vk k) (ht : RdV w [] vt t) (hk2 : k.length ≤ 64) (htl : t.length ≤ 100000) (hD : tagL k t = D) :
    Cv 55 #[vk, vt] w (.eq (.agg (rowA 32 (bF D)))) := by
  have h := hk
  obtain ⟨A0, c0, rfl, _⟩ := h
  exact RTag_short A0 c0 vt k t D w hT hk ht hk2 (by omega) htl hD
end Go.Proofs.YtchpmdcacpjojaaDoor
/- The reference's Key. -/
namespace Go.Proofs.YtchpmdcacpjojaaDoor
open Go Go.RowKit
set_option maxRecDepth 8000
set_option linter.all false
theorem words_next (is : List Int) (k : Nat) (hk : k < is.length) : wordsL (is.take (k + 1)) = wordsL (is.take k) ++ hiL (wN (is.getD k 0)) 8 := by
  have e : is.take (k + 1) = is.take k ++ [is[k]] := by rw [List.take_add_one, List.getElem?_eq_getElem hk]; rfl
  have e2 : is.getD k 0 = is[k] := by simp [List.getD, hk]
  rw [e, e2]
  unfold wordsL
  rw [List.map_append, List.flatten_append, List.map_cons, List.map_nil, List.flatten_cons, List.flatten_nil, List.append_nil]
set_option maxHeartbeats 1000000 in
theorem RKey_cv (d : Nat → UInt8) (iv : Value) (is : List Int) (D : Nat → UInt8) (w : World) (hT : Tables w) (hp : RdI w iv is) (hlen : is.length ≤ 1000) (hD : tagL (digL d) (wordsL is) = D) :
    Cv 44 #[.agg (rowA 32 (bF d)), iv] w (.eq (.agg (rowA 32 (bF D)))) := by
  unfold Cv
  have HD := Lib.hid hD
  have HT := Lib.hid hT
  obtain ⟨A0, cap, rfl, hpc, hpm, hA⟩ := hp
  unfold maxLen at hpm
  obtain ⟨m, hm⟩ : ∃ m, m = is.length := ⟨_, rfl⟩
  rw [← hm] at hpc hlen ⊢
  have HA := Lib.hid (show 0 < m → ∃ b o, A0 = some ⟨b, o, none⟩ ∧ ∀ i, i < m → w.cell? ⟨b, o + i, none⟩ = some (.int .i64 (is.getD i 0)) from fun h => by
    obtain ⟨b, o, h1, h2⟩ := hA (by omega)
    exact ⟨b, o, h1, fun i hi => h2 i (by omega)⟩)
  have Hm := Lib.hid hm
  clear hT hA hD hm
  go_enter Tryd.func44, Tryd.ntmps44
  go_upto_region 1 with fail
  have rk := (rowIs_box w 32 32 (bF d)).alloc (.cells (rowA 32 (bF fun _ => 0)) 32)
  have r0 := rowIs_box (w.alloc (.cells (rowA 32 (bF d)) 32)) 32 32 (bF fun _ => 0)
  rw [World.size_alloc] at r0
  have hB0 := NewT.trans _ _ _ (NewT.alloc w (.cells (rowA 32 (bF d)) 32)) (NewT.alloc (w.alloc (.cells (rowA 32 (bF d)) 32)) (.cells (rowA 32 (bF fun _ => 0)) 32))
  change Code.wp _ _ _ _ ((w.alloc (.cells (rowA 32 (bF d)) 32)).alloc (.cells (rowA 32 (bF fun _ => 0)) 32))
  generalize ((w.alloc (.cells (rowA 32 (bF d)) 32)).alloc (.cells (rowA 32 (bF fun _ => 0)) 32)) = W0 at rk r0 hB0 ⊢
  replace HT := Lib.hid (hB0.tables HT.out)
  go_wp2
  go_loopw [5, 6] (fun v i wr => ∃ j : Nat, j ≤ m ∧ i = .int .i64 j ∧ (svOwn W0 (wordsL (is.take j))).pred v wr ∧ Below W0.heap.size W0 wr) (fun _ i _ => m - (intOf i).toNat)
  case atStart => exact ⟨0, by omega, rfl, World.ownsRow_nil _ _ _ _, Below.refl _ _⟩
  case round =>
    obtain ⟨j, hj, rfl, hown, qB⟩ := hrel
    by_cases hlt : j < m
    · obtain ⟨b, o, rfl, hcells⟩ := HA.out (by omega)
      have hb0 := World.block_lt_of_cell? _ _ (hcells j hlt)
      have hcell := (qB.cell (p := ⟨b, o + j, none⟩) (Nat.lt_of_lt_of_le hb0 hB0.out.size)).trans ((hB0.out.cell (p := ⟨b, o + j, none⟩) hb0).trans (hcells j hlt))
      have Hnx := Lib.hid (words_next is j (by rw [← Hm.out]; exact hlt))
      have hwl := wordsL_length (is.take j)
      rw [List.length_take] at hwl
      generalize is.getD j 0 = x at hcell Hnx
      have hle : (wordsL (is.take j)).length ≤ 800000 := by omega
      clear hcells hwl
      go_upto_region 5 with fail
      refine wp_region_lit ?_
      iterate 5 (refine wpList_plain rfl (fun K hK => ?_); go_simp; refine hK _ _ ?_; clear hK K)
      refine wpList_plain rfl (fun K hK => ?_)
      refine opr_cv (RNumber_8 x wr) rfl Tryd.func54 (by kernel_rfl) (by kernel_rfl) (by simp only [List.map_toArray, List.map_cons, List.map_nil]; rfl) ?_
      intro v18 wa hNa h18
      refine hK _ _ ?_
      clear hK K
      have owna := (svOwn W0 (wordsL (is.take j))).stable _ _ _ hown hNa
      have hBa := qB.trans (hNa.out.mono qB.size)
      obtain ⟨v19, wb, hrun, ownb, _, hBb⟩ := run_append_two owna hBa.size (h18 [] (by simp)) (by rw [hiL_length]; omega) 49
      have Hown := Lib.hid ownb
      have HBB := Lib.hid (hBa.trans hBb)
      clear owna hBa h18 hown hcell hNa hBb ownb
      refine wpList_plain rfl (fun K hK => ?_)
      refine opr_append rfl rfl rfl hrun (hK _ _ ?_)
      clear hrun hK K
      refine wpList_plain rfl (fun K hK => ?_)
      refine opr_move (.inr rfl) (hK _ _ ?_)
      clear hK K
      refine wpList_nil ?_
      go_simp
      go_wp2
      go_roundw
      case rel => exact ⟨j + 1, by omega, by go_num, by rw [Hnx.out]; exact Hown.out, HBB.out⟩
      case measure => simp [intOf]; omega
    · obtain rfl : j = m := by omega
      have rt : RdV wr [] u5 (wordsL is) := by
        have := rdV_own (L := []) hown rfl (by simp)
        rwa [Hm.out, List.take_length] at this
      have Rt := Lib.hid rt
      have qN := NewT.of qB
      replace rk := qN.row rk
      replace r0 := qN.row r0
      replace HT := Lib.hid (qN.tables HT.out)
      have hB1 := NewT.trans _ _ _ hB0 qN
      have Hwl := Lib.hid (wordsL_length is)
      have hm2 := Hm.out
      clear rt hown qB qN HA hB0
      have hwl2 : (wordsL is).length ≤ 8000 := by rw [Hwl.out]; omega
      clear hm2
      go_upto_region 6 with fail
      refine wp_region_seq NewT [svRd (digL d), svRd (wordsL is), SV.eq (.agg (rowA 32 (bF D)))] [([(2, none)], none), ([(5, none)], none), ([(20, some 0), (21, some 1)], none)] 23 rfl rfl (by kernel_rfl) rfl NewT.trans (NewT.refl _) (Nat.le_of_ble_eq_true rfl) ⟨?_, ?_, ?_, trivial⟩ ?_
      · -- 0: Op.slice 32 t2 none none none
        intro a wx hT hF K hK
        obtain ⟨f2, _⟩ := hF
        have f2 : a.tmps.getD 2 undef = .pointer (some ⟨w.heap.size, 0, none⟩) := f2
        refine rely_wp rfl ?_
        exact opr_slice_hash rfl f2 (hK _ _ (NewT.refl _) (rd_row (hT.row rk) (by simp) (by omega)))
      · -- 1: Op.move t5
        intro a wx hT hF K hK
        obtain ⟨f5, _⟩ := hF
        have f5 : a.tmps.getD 5 undef = u5 := f5
        refine rely_wp rfl ?_
        exact opr_move (.inl rfl) (hK _ _ (NewT.refl _) (by rw [eval_tmp, f5]; exact hT.rd Rt.out))
      · -- 2: Op.call ( value (Operand.func 55), args := #[t20, t21], argT
        intro a wx hT hF K hK
        obtain ⟨f20, f21, _⟩ := hF
        replace f20 := show (svRd (digL d)).pred (a.tmps.getD 20 undef) wx from f20
        replace f21 := show (svRd (wordsL is)).pred (a.tmps.getD 21 undef) wx from f21
        refine rely_wp rfl ?_
        exact opr_cv (RTag_cv _ _ (digL d) (wordsL is) D wx (hT.tables HT.out) f20 f21 (by rw [digL_length]; omega) (by omega) HD.out) rfl Tryd.func55 (by kernel_rfl) (by kernel_rfl) (by simp only [List.map_toArray, List.map_cons, List.map_nil, eval_tmp]) hK
      · intro wx hT
        intro u20 h; have g20 := h (by simp); clear h; replace g20 := show (svRd (digL d)).pred u20 wx from g20
        intro u21 h; have g21 := h (by simp); clear h; replace g21 := show (svRd (wordsL is)).pred u21 wx from g21
        intro u h; obtain rfl := h (by simp); clear h
        refine relyEnd_nil rfl ?_
        simp only [Act.put, List.setIfInBounds_toArray, List.set_cons_zero, List.set_cons_succ]
        refine opr_store_new (B := w.heap.size) (W := w) info31 rfl rfl rfl (hT.row r0) (NewT.trans _ _ _ hB1 hT) (Nat.le_succ _) ?_
        intro w9 hB9 r9
        go_simp
        go_wp2
        exact bodyPost_ret (results_row rfl _ rfl r9 Tryd.underlying32 info31) rfl ⟨_, rfl, hB9, rfl⟩
end Go.Proofs.YtchpmdcacpjojaaDoor
/- The reference's keys and receipts. -/
namespace Go.Proofs.YtchpmdcacpjojaaDoor
open Go Go.RowKit
set_option maxRecDepth 8000
set_option linter.all false
set_option maxHeartbeats 1000000 in
theorem RMay_cv (v : Value) (ps ws : List Hs) (need : Int) (w : World) (hk : KeysV w v ps ws need) : Cv 27 #[v] w (.eq (.bool (mayB ps ws need))) := by
  rw [← may_ref]
  unfold Cv
  obtain ⟨pv, wv, rfl, hpv, hwv⟩ := hk
  go_enter Tryd.func27, Tryd.ntmps27
  go_upto_region 1 with fail
  have rk := rowIs_box w 24 3 (keyF pv wv need)
  have hN := NewT.alloc w (.cells (rowA 3 (keyF pv wv need)) 24)
  change Code.wp _ _ _ _ (w.alloc (.cells (rowA 3 (keyF pv wv need)) 24))
  generalize w.alloc (.cells (rowA 3 (keyF pv wv need)) 24) = W0 at rk hN ⊢
  have RK := Lib.hid rk
  have HN := Lib.hid hN
  have HK : Hid (KeysV W0 (.agg (rowA 3 (keyF pv wv need))) ps ws need) := Lib.hid (hN.keysV ⟨pv, wv, rfl, hpv, hwv⟩)
  have HP := Lib.hid (hN.hs hpv)
  have HW := Lib.hid (hN.hs hwv)
  clear rk hpv hwv hN
  obtain ⟨q1_1, Q1_1⟩ : ∃ bq_, ((decide (1 ≤ ((List.length (ps) : Int)))) && (decide (((List.length (ps) : Int)) ≤ 4))) = bq_ := ⟨_, rfl⟩
  obtain ⟨q2_1, Q2_1⟩ : ∃ bq_, (q1_1 && (decide (1 ≤ ((List.length (ws) : Int))))) = bq_ := ⟨_, rfl⟩
  obtain ⟨q3_1, Q3_1⟩ : ∃ bq_, (q2_1 && (decide (((List.length (ws) : Int)) ≤ 4))) = bq_ := ⟨_, rfl⟩
  obtain ⟨q4_1, Q4_1⟩ : ∃ bq_, ((q3_1 && (decide (1 ≤ need))) && (decide (need ≤ ((List.length (ws) : Int))))) = bq_ := ⟨_, rfl⟩
  refine wp_region_steps0 NewT [SV.eq (.pointer (some ⟨w.heap.size, 0, none⟩)), SV.eq (pv), SV.eq (.int .i64 ((List.length (ps) : Int))), SV.eq (.bool (decide (1 ≤ ((List.length (ps) : Int))))), SV.eq (.bool (decide (1 ≤ ((List.length (ps) : Int))))), svIf (decide (1 ≤ ((List.length (ps) : Int)))) (SV.eq (.pointer (some ⟨w.heap.size, 0, none⟩))), svIf (decide (1 ≤ ((List.length (ps) : Int)))) (SV.eq (pv)), svIf (decide (1 ≤ ((List.length (ps) : Int)))) (SV.eq (.int .i64 ((List.length (ps) : Int)))), svIf (decide (1 ≤ ((List.length (ps) : Int)))) (SV.eq (.bool (decide (((List.length (ps) : Int)) ≤ 4)))), SV.eq (.bool (q1_1)), SV.eq (.bool (q1_1)), svIf q1_1 (SV.eq (.pointer (some ⟨w.heap.size, 1, none⟩))), svIf q1_1 (SV.eq (wv)), svIf q1_1 (SV.eq (.int .i64 ((List.length (ws) : Int)))), svIf q1_1 (SV.eq (.bool (decide (1 ≤ ((List.length (ws) : Int)))))), SV.eq (.bool (q2_1)), SV.eq (.bool (q2_1)), svIf q2_1 (SV.eq (.pointer (some ⟨w.heap.size, 1, none⟩))), svIf q2_1 (SV.eq (wv)), svIf q2_1 (SV.eq (.int .i64 ((List.length (ws) : Int)))), svIf q2_1 (SV.eq (.bool (decide (((List.length (ws) : Int)) ≤ 4)))), SV.eq (.bool (q3_1)), SV.eq (.bool (q3_1)), svIf q3_1 (SV.eq (.pointer (some ⟨w.heap.size, 2, none⟩))), svIf q3_1 (SV.eq (.int .i64 (need))), svIf q3_1 (SV.eq (.bool (decide (1 ≤ need)))), SV.eq (.bool (q3_1 && (decide (1 ≤ need)))), SV.eq (.bool (q3_1 && (decide (1 ≤ need)))), svIf (q3_1 && (decide (1 ≤ need))) (SV.eq (.pointer (some ⟨w.heap.size, 2, none⟩))), svIf (q3_1 && (decide (1 ≤ need))) (SV.eq (.int .i64 (need))), svIf (q3_1 && (decide (1 ≤ need))) (SV.eq (.pointer (some ⟨w.heap.size, 1, none⟩))), svIf (q3_1 && (decide (1 ≤ need))) (SV.eq (wv)), svIf (q3_1 && (decide (1 ≤ need))) (SV.eq (.int .i64 ((List.length (ws) : Int)))), svIf (q3_1 && (decide (1 ≤ need))) (SV.eq (.bool (decide (need ≤ ((List.length (ws) : Int)))))), SV.eq (.bool (q4_1)), SV.eq (.bool (q4_1))] [([(1, none)], none), ([(3, some 0)], none), ([(4, some 1)], none), ([(5, some 2)], none), ([(6, some 3)], none), ([(1, none), (7, some 4)], some (7, true)), ([(8, some 5), (7, some 4)], some (7, true)), ([(9, some 6), (7, some 4)], some (7, true)), ([(10, some 7), (7, some 4)], some (7, true)), ([(7, some 4), (11, some 8)], none), ([(12, some 9)], none), ([(1, none), (13, some 10)], some (13, true)), ([(14, some 11), (13, some 10)], some (13, true)), ([(15, some 12), (13, some 10)], some (13, true)), ([(16, some 13), (13, some 10)], some (13, true)), ([(13, some 10), (17, some 14)], none), ([(18, some 15)], none), ([(1, none), (19, some 16)], some (19, true)), ([(20, some 17), (19, some 16)], some (19, true)), ([(21, some 18), (19, some 16)], some (19, true)), ([(22, some 19), (19, some 16)], some (19, true)), ([(19, some 16), (23, some 20)], none), ([(24, some 21)], none), ([(1, none), (25, some 22)], some (25, true)), ([(26, some 23), (25, some 22)], some (25, true)), ([(27, some 24), (25, some 22)], some (25, true)), ([(25, some 22), (28, some 25)], none), ([(29, some 26)], none), ([(1, none), (30, some 27)], some (30, true)), ([(31, some 28), (30, some 27)], some (30, true)), ([(1, none), (30, some 27)], some (30, true)), ([(33, some 30), (30, some 27)], some (30, true)), ([(34, some 31), (30, some 27)], some (30, true)), ([(32, some 29), (35, some 32), (30, some 27)], some (30, true)), ([(30, some 27), (36, some 33)], none), ([(37, some 34)], none)] 38 36 rfl rfl (by kernel_rfl) NewT.trans (NewT.refl _) (Nat.le_of_ble_eq_true rfl) ⟨?_, ?_, ?_, ?_, ?_, ?_, ?_, ?_, ?_, ?_, ?_, ?_, ?_, ?_, ?_, ?_, ?_, ?_, ?_, ?_, ?_, ?_, ?_, ?_, ?_, ?_, ?_, ?_, ?_, ?_, ?_, ?_, ?_, ?_, ?_, ?_, trivial⟩ ?_
  · exact fun a wx hT hF K hK => rely_wp rfl (opr_fldY0 rfl hF.1 (hK _ _ (NewT.refl _) rfl))
  · exact fun a wx hT hF K hK => rely_wp rfl (opr_ldHs (hT.row RK.out) (by decide) rfl rfl hF.1 (hK _ _ (NewT.refl _) rfl))
  · intro a wx hT hF K hK
    obtain ⟨f4, _⟩ := hF
    have f4 : a.tmps.getD 4 undef = pv := f4
    refine rely_wp rfl ?_
    exact opr_len_h rfl (by rw [eval_tmp, f4]; exact (hT.hs HP.out)) (hK _ _ (NewT.refl _) rfl)
  · exact fun a wx hT hF K hK => rely_wp rfl (opr_cmp (b := decide (1 ≤ ((List.length (ps) : Int)))) (.inr (.inr (.inr (.inr (.inr (⟨rfl, rfl⟩)))))) Tryd.underlying3 rfl hF.1 rfl (hK _ _ (NewT.refl _) rfl))
  · exact fun a wx hT hF K hK => rely_wp rfl (opr_move (.inl rfl) (hK _ _ (NewT.refl _) hF.1))
  · exact fun a wx hT hF K hK => rely_if (rely_gt hF.2.1) (NewT.refl _) hK fun hE hK => opr_fldY0 rfl hF.1 (hK _ _ (NewT.refl _) rfl)
  · exact fun a wx hT hF K hK => rely_if (rely_gt hF.2.1) (NewT.refl _) hK fun hE hK => opr_ldHs (hT.row RK.out) (by decide) rfl rfl (hF.1 hE) (hK _ _ (NewT.refl _) rfl)
  · intro a wx hT hF K hK
    obtain ⟨f9, f7, _⟩ := hF
    have f9 : (decide (1 ≤ ((List.length (ps) : Int)))) = true → a.tmps.getD 9 undef = pv := f9
    have f7 : a.tmps.getD 7 undef = .bool (decide (1 ≤ ((List.length (ps) : Int)))) := f7
    refine rely_if (rely_gt f7) (NewT.refl _) hK (fun hE hK => ?_)
    exact opr_len_h rfl (by rw [eval_tmp, (f9 hE)]; exact (hT.hs HP.out)) (hK _ _ (NewT.refl _) rfl)
  · exact fun a wx hT hF K hK => rely_if (rely_gt hF.2.1) (NewT.refl _) hK fun hE hK => opr_cmp (b := decide (((List.length (ps) : Int)) ≤ 4)) (.inr (.inr (.inl ⟨rfl, rfl⟩))) Tryd.underlying3 rfl (hF.1 hE) rfl (hK _ _ (NewT.refl _) rfl)
  · exact fun a wx hT hF K hK => rely_wp rfl (opr_pick_b rfl hF.1 (fun hb => hK _ _ (NewT.refl _) (pn_and1 Q1_1 (hF.2.1 hb) hb)) (fun hb => hK _ _ (NewT.refl _) (pn_and0 Q1_1 hb)))
  · exact fun a wx hT hF K hK => rely_wp rfl (opr_move (.inl rfl) (hK _ _ (NewT.refl _) hF.1))
  · exact fun a wx hT hF K hK => rely_if (rely_gt hF.2.1) (NewT.refl _) hK fun hE hK => opr_fldY1 rfl hF.1 (hK _ _ (NewT.refl _) rfl)
  · exact fun a wx hT hF K hK => rely_if (rely_gt hF.2.1) (NewT.refl _) hK fun hE hK => opr_ldHs (hT.row RK.out) (by decide) rfl rfl (hF.1 hE) (hK _ _ (NewT.refl _) rfl)
  · intro a wx hT hF K hK
    obtain ⟨f15, f13, _⟩ := hF
    have f15 : q1_1 = true → a.tmps.getD 15 undef = wv := f15
    have f13 : a.tmps.getD 13 undef = .bool (q1_1) := f13
    refine rely_if (rely_gt f13) (NewT.refl _) hK (fun hE hK => ?_)
    exact opr_len_h rfl (by rw [eval_tmp, (f15 hE)]; exact (hT.hs HW.out)) (hK _ _ (NewT.refl _) rfl)
  · exact fun a wx hT hF K hK => rely_if (rely_gt hF.2.1) (NewT.refl _) hK fun hE hK => opr_cmp (b := decide (1 ≤ ((List.length (ws) : Int)))) (.inr (.inr (.inr (.inr (.inr (⟨rfl, rfl⟩)))))) Tryd.underlying3 rfl (hF.1 hE) rfl (hK _ _ (NewT.refl _) rfl)
  · exact fun a wx hT hF K hK => rely_wp rfl (opr_pick_b rfl hF.1 (fun hb => hK _ _ (NewT.refl _) (pn_and1 Q2_1 (hF.2.1 hb) hb)) (fun hb => hK _ _ (NewT.refl _) (pn_and0 Q2_1 hb)))
  · exact fun a wx hT hF K hK => rely_wp rfl (opr_move (.inl rfl) (hK _ _ (NewT.refl _) hF.1))
  · exact fun a wx hT hF K hK => rely_if (rely_gt hF.2.1) (NewT.refl _) hK fun hE hK => opr_fldY1 rfl hF.1 (hK _ _ (NewT.refl _) rfl)
  · exact fun a wx hT hF K hK => rely_if (rely_gt hF.2.1) (NewT.refl _) hK fun hE hK => opr_ldHs (hT.row RK.out) (by decide) rfl rfl (hF.1 hE) (hK _ _ (NewT.refl _) rfl)
  · intro a wx hT hF K hK
    obtain ⟨f21, f19, _⟩ := hF
    have f21 : q2_1 = true → a.tmps.getD 21 undef = wv := f21
    have f19 : a.tmps.getD 19 undef = .bool (q2_1) := f19
    refine rely_if (rely_gt f19) (NewT.refl _) hK (fun hE hK => ?_)
    exact opr_len_h rfl (by rw [eval_tmp, (f21 hE)]; exact (hT.hs HW.out)) (hK _ _ (NewT.refl _) rfl)
  · exact fun a wx hT hF K hK => rely_if (rely_gt hF.2.1) (NewT.refl _) hK fun hE hK => opr_cmp (b := decide (((List.length (ws) : Int)) ≤ 4)) (.inr (.inr (.inl ⟨rfl, rfl⟩))) Tryd.underlying3 rfl (hF.1 hE) rfl (hK _ _ (NewT.refl _) rfl)
  · exact fun a wx hT hF K hK => rely_wp rfl (opr_pick_b rfl hF.1 (fun hb => hK _ _ (NewT.refl _) (pn_and1 Q3_1 (hF.2.1 hb) hb)) (fun hb => hK _ _ (NewT.refl _) (pn_and0 Q3_1 hb)))
  · exact fun a wx hT hF K hK => rely_wp rfl (opr_move (.inl rfl) (hK _ _ (NewT.refl _) hF.1))
  · exact fun a wx hT hF K hK => rely_if (rely_gt hF.2.1) (NewT.refl _) hK fun hE hK => opr_fldY2 rfl hF.1 (hK _ _ (NewT.refl _) rfl)
  · exact fun a wx hT hF K hK => rely_if (rely_gt hF.2.1) (NewT.refl _) hK fun hE hK => opr_ldI (hT.row RK.out) (by decide) rfl rfl (hF.1 hE) (hK _ _ (NewT.refl _) rfl)
  · exact fun a wx hT hF K hK => rely_if (rely_gt hF.2.1) (NewT.refl _) hK fun hE hK => opr_cmp (b := decide (1 ≤ need)) (.inr (.inr (.inr (.inr (.inr (⟨rfl, rfl⟩)))))) Tryd.underlying3 rfl (hF.1 hE) rfl (hK _ _ (NewT.refl _) rfl)
  · exact fun a wx hT hF K hK => rely_wp rfl (opr_pick_b rfl hF.1 (fun hb => hK _ _ (NewT.refl _) (pk_and1 (hF.2.1 hb) hb)) (fun hb => hK _ _ (NewT.refl _) (pk_and0 hb)))
  · exact fun a wx hT hF K hK => rely_wp rfl (opr_move (.inl rfl) (hK _ _ (NewT.refl _) hF.1))
  · exact fun a wx hT hF K hK => rely_if (rely_gt hF.2.1) (NewT.refl _) hK fun hE hK => opr_fldY2 rfl hF.1 (hK _ _ (NewT.refl _) rfl)
  · exact fun a wx hT hF K hK => rely_if (rely_gt hF.2.1) (NewT.refl _) hK fun hE hK => opr_ldI (hT.row RK.out) (by decide) rfl rfl (hF.1 hE) (hK _ _ (NewT.refl _) rfl)
  · exact fun a wx hT hF K hK => rely_if (rely_gt hF.2.1) (NewT.refl _) hK fun hE hK => opr_fldY1 rfl hF.1 (hK _ _ (NewT.refl _) rfl)
  · exact fun a wx hT hF K hK => rely_if (rely_gt hF.2.1) (NewT.refl _) hK fun hE hK => opr_ldHs (hT.row RK.out) (by decide) rfl rfl (hF.1 hE) (hK _ _ (NewT.refl _) rfl)
  · intro a wx hT hF K hK
    obtain ⟨f34, f30, _⟩ := hF
    have f34 : (q3_1 && (decide (1 ≤ need))) = true → a.tmps.getD 34 undef = wv := f34
    have f30 : a.tmps.getD 30 undef = .bool (q3_1 && (decide (1 ≤ need))) := f30
    refine rely_if (rely_gt f30) (NewT.refl _) hK (fun hE hK => ?_)
    exact opr_len_h rfl (by rw [eval_tmp, (f34 hE)]; exact (hT.hs HW.out)) (hK _ _ (NewT.refl _) rfl)
  · exact fun a wx hT hF K hK => rely_if (rely_gt hF.2.2.1) (NewT.refl _) hK fun hE hK => opr_cmp (b := decide (need ≤ ((List.length (ws) : Int)))) (.inr (.inr (.inl ⟨rfl, rfl⟩))) Tryd.underlying3 rfl (hF.1 hE) (hF.2.1 hE) (hK _ _ (NewT.refl _) rfl)
  · exact fun a wx hT hF K hK => rely_wp rfl (opr_pick_b rfl hF.1 (fun hb => hK _ _ (NewT.refl _) (pn_and1 Q4_1 (hF.2.1 hb) hb)) (fun hb => hK _ _ (NewT.refl _) (pn_and0 Q4_1 hb)))
  · exact fun a wx hT hF K hK => rely_wp rfl (opr_move (.inr rfl) (hK _ _ (NewT.refl _) hF.1))
  · intro wx hT
    iterate 5 (intro u h; obtain rfl := Eq.symm (h (by simp)); clear h)
    iterate 4 (intro _ _)
    iterate 2 (intro u h; obtain rfl := Eq.symm (h (by simp)); clear h)
    iterate 4 (intro _ _)
    iterate 2 (intro u h; obtain rfl := Eq.symm (h (by simp)); clear h)
    iterate 4 (intro _ _)
    iterate 2 (intro u h; obtain rfl := Eq.symm (h (by simp)); clear h)
    iterate 3 (intro _ _)
    iterate 2 (intro u h; obtain rfl := Eq.symm (h (by simp)); clear h)
    iterate 6 (intro _ _)
    iterate 2 (intro u h; obtain rfl := Eq.symm (h (by simp)); clear h)
    subst Q4_1 Q3_1 Q2_1 Q1_1
    refine relyEnd_nil rfl ?_
    refine wpList_end rfl ?_
    simp only [Act.put, List.setIfInBounds_toArray, List.set_cons_zero, List.set_cons_succ]
    go_simp
    go_wp2
    go_ret
    exact ⟨_, rfl, NewT.trans _ _ _ HN.out hT, rfl⟩
set_option maxHeartbeats 1000000 in
theorem RKnown_cv (v : Value) (ps ws : List Hs) (need part epoch : Int) (w : World) (hk : KeysV w v ps ws need) : Cv 12 #[v, .int .i64 part, .int .i64 epoch] w (.eq (.bool (hasB ps ws need part epoch))) := by
  rw [← known_ref]
  unfold Cv
  obtain ⟨pv, wv, rfl, hpv, hwv⟩ := hk
  go_enter Tryd.func12, Tryd.ntmps12
  go_upto_region 1 with fail
  have rk := rowIs_box w 24 3 (keyF pv wv need)
  have hN := NewT.alloc w (.cells (rowA 3 (keyF pv wv need)) 24)
  change Code.wp _ _ _ _ (w.alloc (.cells (rowA 3 (keyF pv wv need)) 24))
  generalize w.alloc (.cells (rowA 3 (keyF pv wv need)) 24) = W0 at rk hN ⊢
  have RK := Lib.hid rk
  have HN := Lib.hid hN
  have HK : Hid (KeysV W0 (.agg (rowA 3 (keyF pv wv need))) ps ws need) := Lib.hid (hN.keysV ⟨pv, wv, rfl, hpv, hwv⟩)
  have HP := Lib.hid (hN.hs hpv)
  have HW := Lib.hid (hN.hs hwv)
  clear rk hpv hwv hN
  obtain ⟨q1_1, Q1_1⟩ : ∃ bq_, ((mayB ps ws need) && (decide (0 ≤ part))) = bq_ := ⟨_, rfl⟩
  obtain ⟨q2_1, Q2_1⟩ : ∃ bq_, (q1_1 && (decide (part < ((List.length (ps) : Int))))) = bq_ := ⟨_, rfl⟩
  obtain ⟨q3_1, Q3_1⟩ : ∃ bq_, ((q2_1 && (decide (0 ≤ epoch))) && (decide (epoch ≤ 400))) = bq_ := ⟨_, rfl⟩
  refine wp_region_steps0 NewT [SV.eq (.agg (rowA 3 (keyF pv wv need))), SV.eq (.bool (mayB ps ws need)), SV.eq (.bool (mayB ps ws need)), svIf (mayB ps ws need) (SV.eq (.int .i64 (part))), svIf (mayB ps ws need) (SV.eq (.bool (decide (0 ≤ part)))), SV.eq (.bool (q1_1)), SV.eq (.bool (q1_1)), svIf q1_1 (SV.eq (.int .i64 (part))), svIf q1_1 (SV.eq (.pointer (some ⟨w.heap.size, 0, none⟩))), svIf q1_1 (SV.eq (pv)), svIf q1_1 (SV.eq (.int .i64 ((List.length (ps) : Int)))), svIf q1_1 (SV.eq (.bool (decide (part < ((List.length (ps) : Int)))))), SV.eq (.bool (q2_1)), SV.eq (.bool (q2_1)), svIf q2_1 (SV.eq (.int .i64 (epoch))), svIf q2_1 (SV.eq (.bool (decide (0 ≤ epoch)))), SV.eq (.bool (q2_1 && (decide (0 ≤ epoch)))), SV.eq (.bool (q2_1 && (decide (0 ≤ epoch)))), svIf (q2_1 && (decide (0 ≤ epoch))) (SV.eq (.int .i64 (epoch))), svIf (q2_1 && (decide (0 ≤ epoch))) (SV.eq (.bool (decide (epoch ≤ 400)))), SV.eq (.bool (q3_1)), SV.eq (.bool (q3_1))] [([(3, none)], none), ([(7, some 0)], none), ([(8, some 1)], none), ([(1, none), (9, some 2)], some (9, true)), ([(10, some 3), (9, some 2)], some (9, true)), ([(9, some 2), (11, some 4)], none), ([(12, some 5)], none), ([(1, none), (13, some 6)], some (13, true)), ([(3, none), (13, some 6)], some (13, true)), ([(15, some 8), (13, some 6)], some (13, true)), ([(16, some 9), (13, some 6)], some (13, true)), ([(14, some 7), (17, some 10), (13, some 6)], some (13, true)), ([(13, some 6), (18, some 11)], none), ([(19, some 12)], none), ([(2, none), (20, some 13)], some (20, true)), ([(21, some 14), (20, some 13)], some (20, true)), ([(20, some 13), (22, some 15)], none), ([(23, some 16)], none), ([(2, none), (24, some 17)], some (24, true)), ([(25, some 18), (24, some 17)], some (24, true)), ([(24, some 17), (26, some 19)], none), ([(27, some 20)], none)] 28 22 rfl rfl (by kernel_rfl) NewT.trans (NewT.refl _) (Nat.le_of_ble_eq_true rfl) ⟨?_, ?_, ?_, ?_, ?_, ?_, ?_, ?_, ?_, ?_, ?_, ?_, ?_, ?_, ?_, ?_, ?_, ?_, ?_, ?_, ?_, ?_, trivial⟩ ?_
  · exact fun a wx hT hF K hK => rely_wp rfl (opr_ldY (hT.row RK.out) rfl hF.1 (hK _ _ (NewT.refl _) rfl))
  · exact fun a wx hT hF K hK => rely_wp rfl (opr_cv (RMay_cv _ ps ws need wx (hT.keysV HK.out)) rfl Tryd.func27 (by kernel_rfl) (by kernel_rfl) (evs1 hF.1) hK)
  · exact fun a wx hT hF K hK => rely_wp rfl (opr_move (.inl rfl) (hK _ _ (NewT.refl _) hF.1))
  · exact fun a wx hT hF K hK => rely_if (rely_gt hF.2.1) (NewT.refl _) hK fun hE hK => opr_move (.inl rfl) (hK _ _ (NewT.refl _) hF.1)
  · exact fun a wx hT hF K hK => rely_if (rely_gt hF.2.1) (NewT.refl _) hK fun hE hK => opr_cmp (b := decide (0 ≤ part)) (.inr (.inr (.inr (.inr (.inr (⟨rfl, rfl⟩)))))) Tryd.underlying3 rfl (hF.1 hE) rfl (hK _ _ (NewT.refl _) rfl)
  · exact fun a wx hT hF K hK => rely_wp rfl (opr_pick_b rfl hF.1 (fun hb => hK _ _ (NewT.refl _) (pn_and1 Q1_1 (hF.2.1 hb) hb)) (fun hb => hK _ _ (NewT.refl _) (pn_and0 Q1_1 hb)))
  · exact fun a wx hT hF K hK => rely_wp rfl (opr_move (.inl rfl) (hK _ _ (NewT.refl _) hF.1))
  · exact fun a wx hT hF K hK => rely_if (rely_gt hF.2.1) (NewT.refl _) hK fun hE hK => opr_move (.inl rfl) (hK _ _ (NewT.refl _) hF.1)
  · exact fun a wx hT hF K hK => rely_if (rely_gt hF.2.1) (NewT.refl _) hK fun hE hK => opr_fldY0 rfl hF.1 (hK _ _ (NewT.refl _) rfl)
  · exact fun a wx hT hF K hK => rely_if (rely_gt hF.2.1) (NewT.refl _) hK fun hE hK => opr_ldHs (hT.row RK.out) (by decide) rfl rfl (hF.1 hE) (hK _ _ (NewT.refl _) rfl)
  · intro a wx hT hF K hK
    obtain ⟨f16, f13, _⟩ := hF
    have f16 : q1_1 = true → a.tmps.getD 16 undef = pv := f16
    have f13 : a.tmps.getD 13 undef = .bool (q1_1) := f13
    refine rely_if (rely_gt f13) (NewT.refl _) hK (fun hE hK => ?_)
    exact opr_len_h rfl (by rw [eval_tmp, (f16 hE)]; exact (hT.hs HP.out)) (hK _ _ (NewT.refl _) rfl)
  · exact fun a wx hT hF K hK => rely_if (rely_gt hF.2.2.1) (NewT.refl _) hK fun hE hK => opr_cmp (b := decide (part < ((List.length (ps) : Int)))) (.inr (.inr (.inr (.inl ⟨rfl, rfl⟩)))) Tryd.underlying3 rfl (hF.1 hE) (hF.2.1 hE) (hK _ _ (NewT.refl _) rfl)
  · exact fun a wx hT hF K hK => rely_wp rfl (opr_pick_b rfl hF.1 (fun hb => hK _ _ (NewT.refl _) (pn_and1 Q2_1 (hF.2.1 hb) hb)) (fun hb => hK _ _ (NewT.refl _) (pn_and0 Q2_1 hb)))
  · exact fun a wx hT hF K hK => rely_wp rfl (opr_move (.inl rfl) (hK _ _ (NewT.refl _) hF.1))
  · exact fun a wx hT hF K hK => rely_if (rely_gt hF.2.1) (NewT.refl _) hK fun hE hK => opr_move (.inl rfl) (hK _ _ (NewT.refl _) hF.1)
  · exact fun a wx hT hF K hK => rely_if (rely_gt hF.2.1) (NewT.refl _) hK fun hE hK => opr_cmp (b := decide (0 ≤ epoch)) (.inr (.inr (.inr (.inr (.inr (⟨rfl, rfl⟩)))))) Tryd.underlying3 rfl (hF.1 hE) rfl (hK _ _ (NewT.refl _) rfl)
  · exact fun a wx hT hF K hK => rely_wp rfl (opr_pick_b rfl hF.1 (fun hb => hK _ _ (NewT.refl _) (pk_and1 (hF.2.1 hb) hb)) (fun hb => hK _ _ (NewT.refl _) (pk_and0 hb)))
  · exact fun a wx hT hF K hK => rely_wp rfl (opr_move (.inl rfl) (hK _ _ (NewT.refl _) hF.1))
  · exact fun a wx hT hF K hK => rely_if (rely_gt hF.2.1) (NewT.refl _) hK fun hE hK => opr_move (.inl rfl) (hK _ _ (NewT.refl _) hF.1)
  · exact fun a wx hT hF K hK => rely_if (rely_gt hF.2.1) (NewT.refl _) hK fun hE hK => opr_cmp (b := decide (epoch ≤ 400)) (.inr (.inr (.inl ⟨rfl, rfl⟩))) Tryd.underlying3 rfl (hF.1 hE) rfl (hK _ _ (NewT.refl _) rfl)
  · exact fun a wx hT hF K hK => rely_wp rfl (opr_pick_b rfl hF.1 (fun hb => hK _ _ (NewT.refl _) (pn_and1 Q3_1 (hF.2.1 hb) hb)) (fun hb => hK _ _ (NewT.refl _) (pn_and0 Q3_1 hb)))
  · exact fun a wx hT hF K hK => rely_wp rfl (opr_move (.inr rfl) (hK _ _ (NewT.refl _) hF.1))
  · intro wx hT
    iterate 3 (intro u h; obtain rfl := Eq.symm (h (by simp)); clear h)
    iterate 2 (intro _ _)
    iterate 2 (intro u h; obtain rfl := Eq.symm (h (by simp)); clear h)
    iterate 5 (intro _ _)
    iterate 2 (intro u h; obtain rfl := Eq.symm (h (by simp)); clear h)
    iterate 2 (intro _ _)
    iterate 2 (intro u h; obtain rfl := Eq.symm (h (by simp)); clear h)
    iterate 2 (intro _ _)
    iterate 2 (intro u h; obtain rfl := Eq.symm (h (by simp)); clear h)
    subst Q3_1 Q2_1 Q1_1
    refine relyEnd_nil rfl ?_
    refine wpList_end rfl ?_
    simp only [Act.put, List.setIfInBounds_toArray, List.set_cons_zero, List.set_cons_succ]
    go_simp
    go_wp2
    go_ret
    exact ⟨_, rfl, NewT.trans _ _ _ HN.out hT, rfl⟩
set_option maxHeartbeats 1000000 in
theorem RPart_cv {kf : Hs → List Int → Hs} {tg : Hs → Hs → Hs} {pf : Int → Hs → Hs} (hX : KeyH kf tg pf) (v : Value) (ps ws : List Hs) (need part epoch : Int) (w : World) (hT : Tables w) (hk : KeysV w v ps ws need) : Cv 45 #[v, .int .i64 part, .int .i64 epoch] w (.eq (.agg (rowA 32 (bF (partH kf ps ws need part epoch))))) := by
  unfold Cv
  obtain ⟨pv, wv, rfl, hpv, hwv⟩ := hk
  have HT := Lib.hid hT
  clear hT
  go_enter Tryd.func45, Tryd.ntmps45
  go_upto_region 1 with fail
  have rk := (rowIs_box w 24 3 (keyF pv wv need)).alloc (.cells (rowA 32 (bF fun _ => 0)) 32)
  have r0 := rowIs_box (w.alloc (.cells (rowA 3 (keyF pv wv need)) 24)) 32 32 (bF fun _ => 0)
  have hN : NewT w ((w.alloc (.cells (rowA 3 (keyF pv wv need)) 24)).alloc (.cells (rowA 32 (bF fun _ => 0)) 32)) := NewT.trans _ _ _ (NewT.alloc _ _) (NewT.alloc _ _)
  rw [World.size_alloc] at r0
  change Code.wp _ _ _ _ ((w.alloc (.cells (rowA 3 (keyF pv wv need)) 24)).alloc (.cells (rowA 32 (bF fun _ => 0)) 32))
  generalize (w.alloc (.cells (rowA 3 (keyF pv wv need)) 24)).alloc (.cells (rowA 32 (bF fun _ => 0)) 32) = W0 at rk r0 hN ⊢
  have RK := Lib.hid rk
  have R0 := Lib.hid r0
  have HN := Lib.hid hN
  replace HT := Lib.hid (hN.tables HT.out)
  have HK : Hid (KeysV W0 (.agg (rowA 3 (keyF pv wv need))) ps ws need) := Lib.hid (hN.keysV ⟨pv, wv, rfl, hpv, hwv⟩)
  have HP := Lib.hid (hN.hs hpv)
  have HW := Lib.hid (hN.hs hwv)
  clear rk r0 hpv hwv hN
  refine wp_region_steps0 NewT [SV.eq (.agg (rowA 3 (keyF pv wv need))), SV.eq (.int .i64 (part)), SV.eq (.int .i64 (epoch)), SV.eq (.bool (hasB ps ws need part epoch)), SV.eq (.bool (!(hasB ps ws need part epoch)))] [([(3, none)], none), ([(1, none)], none), ([(2, none)], none), ([(7, some 0), (8, some 1), (9, some 2)], none), ([(10, some 3)], none)] 21 5 rfl rfl (by kernel_rfl) NewT.trans (NewT.refl _) (Nat.le_of_ble_eq_true rfl) ⟨?_, ?_, ?_, ?_, ?_, trivial⟩ ?_
  · exact fun a wx hT hF K hK => rely_wp rfl (opr_ldY (hT.row RK.out) rfl hF.1 (hK _ _ (NewT.refl _) rfl))
  · exact fun a wx hT hF K hK => rely_wp rfl (opr_move (.inl rfl) (hK _ _ (NewT.refl _) hF.1))
  · exact fun a wx hT hF K hK => rely_wp rfl (opr_move (.inl rfl) (hK _ _ (NewT.refl _) hF.1))
  · exact fun a wx hT hF K hK => rely_wp rfl (opr_cv (RKnown_cv _ ps ws need part epoch wx (hT.keysV HK.out)) rfl Tryd.func12 (by kernel_rfl) (by kernel_rfl) (evs3 hF.1 hF.2.1 hF.2.2.1) hK)
  · exact fun a wx hT hF K hK => rely_wp rfl (opr_not rfl hF.1 (hK _ _ (NewT.refl _) rfl))
  · intro w1 k1
    iterate 5 (intro u h; obtain rfl := Eq.symm (h (by simp)); clear h)
    refine relyEnd_nil rfl ?_
    refine wpList_end rfl ?_
    simp only [Act.put, List.setIfInBounds_toArray, List.set_cons_zero, List.set_cons_succ]
    go_simp
    replace RK := Lib.hid (k1.row RK.out)
    replace R0 := Lib.hid (k1.row R0.out)
    replace HK := Lib.hid (k1.keysV HK.out)
    replace HP := Lib.hid (k1.hs HP.out)
    replace HW := Lib.hid (k1.hs HW.out)
    replace HT := Lib.hid (k1.tables HT.out)
    replace HN := Lib.hid (NewT.trans _ _ _ HN.out k1)
    clear k1
    cases hb : hasB ps ws need part epoch
    · have HE : Hid (partH kf ps ws need part epoch = z32) := Lib.hid (by unfold partH; rw [hb]; rfl)
      clear hb
      go_upto_region 2 with fail
      refine wp_region_steps0 NewT [SV.eq (.agg (rowA 32 (bF (z32))))] [([], none)] 21 1 rfl rfl (by kernel_rfl) NewT.trans (NewT.refl _) (Nat.le_of_ble_eq_true rfl) ⟨?_, trivial⟩ ?_
      · exact fun a wx hT hF K hK => rely_wp rfl (opr_build (pv := #[]) rfl (by simp) (build_z32 wx) (hK _ _ (NewT.refl _) rfl))
      · intro wx hT
        intro u h; obtain rfl := Eq.symm (h (by simp)); clear h
        refine relyEnd_nil rfl ?_
        simp only [Act.put, List.setIfInBounds_toArray, List.set_cons_zero, List.set_cons_succ]
        refine wpList_plain rfl (fun K hK => ?_)
        refine opr_store_new (B := w.heap.size) (W := w) info31 rfl rfl rfl (hT.row R0.out) (NewT.trans _ _ _ HN.out hT) (Nat.le_succ _) ?_
        intro w9 hB9 r9
        refine hK _ _ ?_
        refine wpList_end rfl ?_
        simp only [Act.put, List.setIfInBounds_toArray, List.set_cons_zero, List.set_cons_succ]
        go_simp
        go_wp2
        exact bodyPost_ret (results_row rfl _ rfl r9 Tryd.underlying32 info31) rfl ⟨_, rfl, hB9, by rw [HE.out]; rfl⟩
    · obtain ⟨i, rfl, _, hd⟩ := hasB_at hb
      obtain ⟨d, hdd⟩ := hid_ex (ps.getD ((i : Int)).toNat z32)
      have HD : Hid (ps[i]? = some d) := Lib.hid (by rw [hd, hdd.out])
      have HE : Hid (partH kf ps ws need (i : Int) epoch = kf d [1, epoch]) := Lib.hid (by unfold partH; rw [hb, if_pos rfl, hdd.out])
      clear hb hd hdd
      go_upto_region 3 with fail
      refine wp_region_steps0 NewT [SV.eq (.pointer (some ⟨w.heap.size, 0, none⟩)), SV.eq (pv), SV.eq (.int .i64 ((i : Int))), svP (d), SV.eq (.agg (rowA 32 (bF (d)))), SV.eq (.int .i64 (epoch)), svInts [1, epoch], SV.eq (.agg (rowA 32 (bF (kf (d) [1, epoch]))))] [([(3, none)], none), ([(13, some 0)], none), ([(1, none)], none), ([(14, some 1), (15, some 2)], none), ([(16, some 3)], none), ([(2, none)], none), ([(18, some 5)], none), ([(17, some 4), (19, some 6)], none)] 21 8 rfl rfl (by kernel_rfl) NewT.trans (NewT.refl _) (Nat.le_of_ble_eq_true rfl) ⟨?_, ?_, ?_, ?_, ?_, ?_, ?_, ?_, trivial⟩ ?_
      · exact fun a wx hT hF K hK => rely_wp rfl (opr_fldY0 rfl hF.1 (hK _ _ (NewT.refl _) rfl))
      · exact fun a wx hT hF K hK => rely_wp rfl (opr_ldHs (hT.row RK.out) (by decide) rfl rfl hF.1 (hK _ _ (NewT.refl _) rfl))
      · exact fun a wx hT hF K hK => rely_wp rfl (opr_move (.inl rfl) (hK _ _ (NewT.refl _) hF.1))
      · intro a wx hT hF K hK
        obtain ⟨f14, f15, _⟩ := hF
        have f14 : a.tmps.getD 14 undef = pv := f14
        have f15 : a.tmps.getD 15 undef = .int .i64 ((i : Int)) := f15
        refine rely_wp rfl ?_
        exact opr_idxH (i := i) (d := d) (HD.out) (rfl) rfl (by rw [eval_tmp, f14]; exact (hT.hs HP.out)) f15 (fun v hv => hK v _ (NewT.refl _) hv)
      · exact fun a wx hT hF K hK => rely_wp rfl (opr_ldP rfl hF.1 (hK _ _ (NewT.refl _) rfl))
      · exact fun a wx hT hF K hK => rely_wp rfl (opr_move (.inl rfl) (hK _ _ (NewT.refl _) hF.1))
      · exact fun a wx hT hF K hK => rely_wp rfl (opr_bsI2 rfl rfl hF.1 hK)
      · exact fun a wx hT hF K hK => rely_wp rfl (opr_cv (RKey_cv (d) _ [1, epoch] _ wx (hT.tables HT.out) hF.2.1 (by simp) (hX.key _ _)) rfl Tryd.func44 (by kernel_rfl) (by kernel_rfl) (evs2 hF.1 rfl) hK)
      · intro wx hT
        iterate 3 (intro u h; obtain rfl := Eq.symm (h (by simp)); clear h)
        intro _ _
        iterate 2 (intro u h; obtain rfl := Eq.symm (h (by simp)); clear h)
        intro _ _
        intro u h; obtain rfl := Eq.symm (h (by simp)); clear h
        refine relyEnd_nil rfl ?_
        simp only [Act.put, List.setIfInBounds_toArray, List.set_cons_zero, List.set_cons_succ]
        refine wpList_plain rfl (fun K hK => ?_)
        refine opr_store_new (B := w.heap.size) (W := w) info31 rfl rfl rfl (hT.row R0.out) (NewT.trans _ _ _ HN.out hT) (Nat.le_succ _) ?_
        intro w9 hB9 r9
        refine hK _ _ ?_
        refine wpList_end rfl ?_
        simp only [Act.put, List.setIfInBounds_toArray, List.set_cons_zero, List.set_cons_succ]
        go_simp
        go_wp2
        exact bodyPost_ret (results_row rfl _ rfl r9 Tryd.underlying32 info31) rfl ⟨_, rfl, hB9, by rw [HE.out]; rfl⟩
set_option maxHeartbeats 4000000 in
theorem RReceipt_cv {kf : Hs → List Int → Hs} {tg : Hs → Hs → Hs} {pf : Int → Hs → Hs} (hX : KeyH kf tg pf) (v u : Value) (ps ws : List Hs) (need : Int) (x : Rc) (w : World) (hT : Tables w) (hk : KeysV w v ps ws need) (hx : RecV w u x) : Cv 35 #[v, u] w (.eq (.agg (rowA 32 (bF (recpH kf ps ws need x))))) := by
  unfold Cv
  obtain ⟨pv, wv, rfl, hpv, hwv⟩ := hk
  obtain ⟨sv, dv, rfl, hs, hd⟩ := hx
  have HT := Lib.hid hT
  clear hT
  go_enter Tryd.func35, Tryd.ntmps35
  go_upto_region 1 with fail
  have rk := ((rowIs_box w 24 3 (keyF pv wv need)).alloc (.cells (rowA 109 (recF x sv dv)) 51)).alloc (.cells (rowA 32 (bF fun _ => 0)) 32)
  have r1 := (rowIs_box (w.alloc (.cells (rowA 3 (keyF pv wv need)) 24)) 51 109 (recF x sv dv)).alloc (.cells (rowA 32 (bF fun _ => 0)) 32)
  have r0 := rowIs_box ((w.alloc (.cells (rowA 3 (keyF pv wv need)) 24)).alloc (.cells (rowA 109 (recF x sv dv)) 51)) 32 32 (bF fun _ => 0)
  have hN : NewT w (((w.alloc (.cells (rowA 3 (keyF pv wv need)) 24)).alloc (.cells (rowA 109 (recF x sv dv)) 51)).alloc (.cells (rowA 32 (bF fun _ => 0)) 32)) := NewT.trans _ _ _ (NewT.alloc _ _) (NewT.trans _ _ _ (NewT.alloc _ _) (NewT.alloc _ _))
  rw [World.size_alloc] at r1
  rw [World.size_alloc, World.size_alloc] at r0
  change Code.wp _ _ _ _ (((w.alloc (.cells (rowA 3 (keyF pv wv need)) 24)).alloc (.cells (rowA 109 (recF x sv dv)) 51)).alloc (.cells (rowA 32 (bF fun _ => 0)) 32))
  generalize ((w.alloc (.cells (rowA 3 (keyF pv wv need)) 24)).alloc (.cells (rowA 109 (recF x sv dv)) 51)).alloc (.cells (rowA 32 (bF fun _ => 0)) 32) = W0 at rk r1 r0 hN ⊢
  have RK := Lib.hid rk
  have R1 := Lib.hid r1
  have R0 := Lib.hid r0
  have HN := Lib.hid hN
  replace HT := Lib.hid (hN.tables HT.out)
  have HK : Hid (KeysV W0 (.agg (rowA 3 (keyF pv wv need))) ps ws need) := Lib.hid (hN.keysV ⟨pv, wv, rfl, hpv, hwv⟩)
  have HP := Lib.hid (hN.hs hpv)
  have HW := Lib.hid (hN.hs hwv)
  have HX : Hid (RecV W0 (.agg (rowA 109 (recF x sv dv))) x) := Lib.hid (hN.recV ⟨sv, dv, rfl, hs, hd⟩)
  have HS := Lib.hid (hN.pairs hs)
  have HD := Lib.hid (hN.rd hd)
  clear rk r0 r1 hpv hwv hN hs hd
  obtain ⟨q1_1, Q1_1⟩ : ∃ bq_, ((x.kind != 3) || (!(hasB ps ws need x.part x.epoch))) = bq_ := ⟨_, rfl⟩
  refine wp_region_steps0 NewT [SV.eq (.pointer (some ⟨w.heap.size + 1, 0, none⟩)), SV.eq (.int .i64 (x.kind)), SV.eq (.bool (x.kind != 3)), SV.eq (.bool (x.kind != 3)), svIf ((!(x.kind != 3))) (SV.eq (.agg (rowA 3 (keyF pv wv need)))), svIf ((!(x.kind != 3))) (SV.eq (.pointer (some ⟨w.heap.size + 1, 8, none⟩))), svIf ((!(x.kind != 3))) (SV.eq (.int .i64 (x.part))), svIf ((!(x.kind != 3))) (SV.eq (.pointer (some ⟨w.heap.size + 1, 9, none⟩))), svIf ((!(x.kind != 3))) (SV.eq (.int .i64 (x.epoch))), svIf ((!(x.kind != 3))) (SV.eq (.bool (hasB ps ws need x.part x.epoch))), svIf ((!(x.kind != 3))) (SV.eq (.bool (!(hasB ps ws need x.part x.epoch)))), SV.eq (.bool (q1_1))] [([(3, none)], none), ([(7, some 0)], none), ([(8, some 1)], none), ([(9, some 2)], none), ([(2, none), (10, some 3)], some (10, false)), ([(3, none), (10, some 3)], some (10, false)), ([(12, some 5), (10, some 3)], some (10, false)), ([(3, none), (10, some 3)], some (10, false)), ([(14, some 7), (10, some 3)], some (10, false)), ([(11, some 4), (13, some 6), (15, some 8), (10, some 3)], some (10, false)), ([(16, some 9), (10, some 3)], some (10, false)), ([(10, some 3), (17, some 10)], none)] 38 12 rfl rfl (by kernel_rfl) NewT.trans (NewT.refl _) (Nat.le_of_ble_eq_true rfl) ⟨?_, ?_, ?_, ?_, ?_, ?_, ?_, ?_, ?_, ?_, ?_, ?_, trivial⟩ ?_
  · exact fun a wx hT hF K hK => rely_wp rfl (opr_fldR (by decide) rfl hF.1 (hK _ _ (NewT.refl _) rfl))
  · exact fun a wx hT hF K hK => rely_wp rfl (opr_ldI (hT.row R1.out) (by decide) rfl rfl hF.1 (hK _ _ (NewT.refl _) rfl))
  · exact fun a wx hT hF K hK => rely_wp rfl (opr_cmp (b := x.kind != 3) (.inr (.inl ⟨rfl, rfl⟩)) Tryd.underlying3 rfl hF.1 rfl (hK _ _ (NewT.refl _) rfl))
  · exact fun a wx hT hF K hK => rely_wp rfl (opr_move (.inl rfl) (hK _ _ (NewT.refl _) hF.1))
  · exact fun a wx hT hF K hK => rely_if (rely_gf hF.2.1) (NewT.refl _) hK fun hE hK => opr_ldY (hT.row RK.out) rfl hF.1 (hK _ _ (NewT.refl _) rfl)
  · exact fun a wx hT hF K hK => rely_if (rely_gf hF.2.1) (NewT.refl _) hK fun hE hK => opr_fldR (by decide) rfl hF.1 (hK _ _ (NewT.refl _) rfl)
  · exact fun a wx hT hF K hK => rely_if (rely_gf hF.2.1) (NewT.refl _) hK fun hE hK => opr_ldI (hT.row R1.out) (by decide) rfl rfl (hF.1 hE) (hK _ _ (NewT.refl _) rfl)
  · exact fun a wx hT hF K hK => rely_if (rely_gf hF.2.1) (NewT.refl _) hK fun hE hK => opr_fldR (by decide) rfl hF.1 (hK _ _ (NewT.refl _) rfl)
  · exact fun a wx hT hF K hK => rely_if (rely_gf hF.2.1) (NewT.refl _) hK fun hE hK => opr_ldI (hT.row R1.out) (by decide) rfl rfl (hF.1 hE) (hK _ _ (NewT.refl _) rfl)
  · exact fun a wx hT hF K hK => rely_if (rely_gf hF.2.2.2.1) (NewT.refl _) hK fun hE hK => opr_cv (RKnown_cv _ ps ws need x.part x.epoch wx (hT.keysV HK.out)) rfl Tryd.func12 (by kernel_rfl) (by kernel_rfl) (evs3 (hF.1 hE) (hF.2.1 hE) (hF.2.2.1 hE)) hK
  · exact fun a wx hT hF K hK => rely_if (rely_gf hF.2.1) (NewT.refl _) hK fun hE hK => opr_not rfl (hF.1 hE) (hK _ _ (NewT.refl _) rfl)
  · exact fun a wx hT hF K hK => rely_wp rfl (opr_pick_b rfl hF.1 (fun hb => hK _ _ (NewT.refl _) (pn_or1 Q1_1 hb)) (fun hb => hK _ _ (NewT.refl _) (pn_or0 Q1_1 (hF.2.1 (bnot hb)) hb)))
  · intro w1 k1
    iterate 4 (intro u h; obtain rfl := Eq.symm (h (by simp)); clear h)
    iterate 7 (intro _ _)
    intro u h; obtain rfl := Eq.symm (h (by simp)); clear h
    subst Q1_1
    refine relyEnd_nil rfl ?_
    refine wpList_end rfl ?_
    simp only [Act.put, List.setIfInBounds_toArray, List.set_cons_zero, List.set_cons_succ]
    go_simp
    replace RK := Lib.hid (k1.row RK.out)
    replace R1 := Lib.hid (k1.row R1.out)
    replace R0 := Lib.hid (k1.row R0.out)
    replace HK := Lib.hid (k1.keysV HK.out)
    replace HP := Lib.hid (k1.hs HP.out)
    replace HW := Lib.hid (k1.hs HW.out)
    replace HX := Lib.hid (k1.recV HX.out)
    replace HS := Lib.hid (k1.pairs HS.out)
    replace HD := Lib.hid (k1.rd HD.out)
    replace HT := Lib.hid (k1.tables HT.out)
    replace HN := Lib.hid (NewT.trans _ _ _ HN.out k1)
    clear k1
    cases hb : ((x.kind != 3) || !hasB ps ws need x.part x.epoch)
    · have HE0 : Hid (recpH kf ps ws need x = kf (partH kf ps ws need x.part x.epoch) [2, x.saga, x.step, bI x.back, bI x.good]) := Lib.hid (by unfold recpH; rw [or_not hb]; rfl)
      have c5 : w1.cell? ⟨w.heap.size + 1, 5, none⟩ = some (.bool x.back) := R1.out.cell (i := 5) (by omega)
      have c6 : w1.cell? ⟨w.heap.size + 1, 6, none⟩ = some (.bool x.good) := R1.out.cell (i := 6) (by omega)
      clear hb
      cases hbk : x.back <;> cases hgd : x.good
      · rw [hbk] at c5
        rw [hgd] at c6
        have HE : Hid (recpH kf ps ws need x = kf (partH kf ps ws need x.part x.epoch) [2, x.saga, x.step, 0, 0]) := Lib.hid (by rw [HE0.out, hbk, hgd]; rfl)
        clear hbk hgd
        go_upto_region 8 with fail
        clear c5 c6
        refine wp_region_rely (NewT) [SV.eq (.agg (rowA 3 (keyF pv wv need))), SV.eq (.pointer (some ⟨w.heap.size + 1, 8, none⟩)), SV.eq (.int .i64 (x.part)), SV.eq (.pointer (some ⟨w.heap.size + 1, 9, none⟩)), SV.eq (.int .i64 (x.epoch)), SV.eq (.agg (rowA 32 (bF (partH kf ps ws need x.part x.epoch)))), SV.eq (.pointer (some ⟨w.heap.size + 1, 1, none⟩)), SV.eq (.int .i64 (x.saga)), SV.eq (.pointer (some ⟨w.heap.size + 1, 3, none⟩)), SV.eq (.int .i64 (x.step)), SV.eq (.int .i64 (0)), SV.eq (.int .i64 (0)), svInts [2, x.saga, x.step, 0, 0], SV.eq (.agg (rowA 32 (bF (kf (partH kf ps ws need x.part x.epoch) [2, x.saga, x.step, 0, 0]))))] [([(2, none)], none), ([(3, none)], none), ([(25, some 1)], none), ([(3, none)], none), ([(27, some 3)], none), ([(24, some 0), (26, some 2), (28, some 4)], none), ([(3, none)], none), ([(30, some 6)], none), ([(3, none)], none), ([(32, some 8)], none), ([(5, none)], none), ([(6, none)], none), ([(31, some 7), (33, some 9), (34, some 10), (35, some 11)], none), ([(29, some 5), (36, some 12)], none)] 38 rfl (by kernel_rfl) rfl (by kernel_rfl) (by kernel_rfl) rfl NewT.trans (NewT.drew _) (Nat.le_of_ble_eq_true rfl) ⟨?_, ?_, ?_, ?_, ?_, ?_, ?_, ?_, ?_, ?_, ?_, ?_, ?_, ?_, trivial⟩ ?_
        · exact fun a wx hT hF K hK => rely_wp rfl (opr_ldY (hT.row RK.out) rfl hF.1 (hK _ _ (NewT.refl _) rfl))
        · exact fun a wx hT hF K hK => rely_wp rfl (opr_fldR (by decide) rfl hF.1 (hK _ _ (NewT.refl _) rfl))
        · exact fun a wx hT hF K hK => rely_wp rfl (opr_ldI (hT.row R1.out) (by decide) rfl rfl hF.1 (hK _ _ (NewT.refl _) rfl))
        · exact fun a wx hT hF K hK => rely_wp rfl (opr_fldR (by decide) rfl hF.1 (hK _ _ (NewT.refl _) rfl))
        · exact fun a wx hT hF K hK => rely_wp rfl (opr_ldI (hT.row R1.out) (by decide) rfl rfl hF.1 (hK _ _ (NewT.refl _) rfl))
        · exact fun a wx hT hF K hK => rely_wp rfl (opr_cv (RPart_cv hX _ ps ws need x.part x.epoch wx (hT.tables HT.out) (hT.keysV HK.out)) rfl Tryd.func45 (by kernel_rfl) (by kernel_rfl) (evs3 hF.1 hF.2.1 hF.2.2.1) hK)
        · exact fun a wx hT hF K hK => rely_wp rfl (opr_fldR (by decide) rfl hF.1 (hK _ _ (NewT.refl _) rfl))
        · exact fun a wx hT hF K hK => rely_wp rfl (opr_ldI (hT.row R1.out) (by decide) rfl rfl hF.1 (hK _ _ (NewT.refl _) rfl))
        · exact fun a wx hT hF K hK => rely_wp rfl (opr_fldR (by decide) rfl hF.1 (hK _ _ (NewT.refl _) rfl))
        · exact fun a wx hT hF K hK => rely_wp rfl (opr_ldI (hT.row R1.out) (by decide) rfl rfl hF.1 (hK _ _ (NewT.refl _) rfl))
        · exact fun a wx hT hF K hK => rely_wp rfl (opr_move (.inl rfl) (hK _ _ (NewT.refl _) hF.1))
        · exact fun a wx hT hF K hK => rely_wp rfl (opr_move (.inl rfl) (hK _ _ (NewT.refl _) hF.1))
        · exact fun a wx hT hF K hK => rely_wp rfl (opr_bsI5 rfl rfl hF.1 hF.2.1 hF.2.2.1 hF.2.2.2.1 hK)
        · exact fun a wx hT hF K hK => rely_wp rfl (opr_cv (RKey_cv (partH kf ps ws need x.part x.epoch) _ [2, x.saga, x.step, 0, 0] _ wx (hT.tables HT.out) hF.2.1 (by simp) (hX.key _ _)) rfl Tryd.func44 (by kernel_rfl) (by kernel_rfl) (evs2 hF.1 rfl) hK)
        · intro wx hT
          iterate 12 (intro u h; obtain rfl := Eq.symm (h (by simp)); clear h)
          intro _ _
          intro u h; obtain rfl := Eq.symm (h (by simp)); clear h
          refine relyEnd_nil rfl ?_
          simp only [Act.put, List.setIfInBounds_toArray, List.set_cons_zero, List.set_cons_succ]
          refine opr_store_new (B := w.heap.size) (W := w) info31 rfl rfl rfl (hT.row R0.out) (NewT.trans _ _ _ HN.out hT) (by omega) ?_
          intro w9 hB9 r9
          go_simp
          go_wp2
          exact bodyPost_ret (results_row rfl _ rfl r9 Tryd.underlying32 info31) rfl ⟨_, rfl, hB9, by rw [HE.out]; rfl⟩
      · rw [hbk] at c5
        rw [hgd] at c6
        have HE : Hid (recpH kf ps ws need x = kf (partH kf ps ws need x.part x.epoch) [2, x.saga, x.step, 0, 1]) := Lib.hid (by rw [HE0.out, hbk, hgd]; rfl)
        clear hbk hgd
        go_upto_region 8 with fail
        clear c5 c6
        refine wp_region_rely (NewT) [SV.eq (.agg (rowA 3 (keyF pv wv need))), SV.eq (.pointer (some ⟨w.heap.size + 1, 8, none⟩)), SV.eq (.int .i64 (x.part)), SV.eq (.pointer (some ⟨w.heap.size + 1, 9, none⟩)), SV.eq (.int .i64 (x.epoch)), SV.eq (.agg (rowA 32 (bF (partH kf ps ws need x.part x.epoch)))), SV.eq (.pointer (some ⟨w.heap.size + 1, 1, none⟩)), SV.eq (.int .i64 (x.saga)), SV.eq (.pointer (some ⟨w.heap.size + 1, 3, none⟩)), SV.eq (.int .i64 (x.step)), SV.eq (.int .i64 (0)), SV.eq (.int .i64 (1)), svInts [2, x.saga, x.step, 0, 1], SV.eq (.agg (rowA 32 (bF (kf (partH kf ps ws need x.part x.epoch) [2, x.saga, x.step, 0, 1]))))] [([(2, none)], none), ([(3, none)], none), ([(25, some 1)], none), ([(3, none)], none), ([(27, some 3)], none), ([(24, some 0), (26, some 2), (28, some 4)], none), ([(3, none)], none), ([(30, some 6)], none), ([(3, none)], none), ([(32, some 8)], none), ([(5, none)], none), ([(6, none)], none), ([(31, some 7), (33, some 9), (34, some 10), (35, some 11)], none), ([(29, some 5), (36, some 12)], none)] 38 rfl (by kernel_rfl) rfl (by kernel_rfl) (by kernel_rfl) rfl NewT.trans (NewT.drew _) (Nat.le_of_ble_eq_true rfl) ⟨?_, ?_, ?_, ?_, ?_, ?_, ?_, ?_, ?_, ?_, ?_, ?_, ?_, ?_, trivial⟩ ?_
        · exact fun a wx hT hF K hK => rely_wp rfl (opr_ldY (hT.row RK.out) rfl hF.1 (hK _ _ (NewT.refl _) rfl))
        · exact fun a wx hT hF K hK => rely_wp rfl (opr_fldR (by decide) rfl hF.1 (hK _ _ (NewT.refl _) rfl))
        · exact fun a wx hT hF K hK => rely_wp rfl (opr_ldI (hT.row R1.out) (by decide) rfl rfl hF.1 (hK _ _ (NewT.refl _) rfl))
        · exact fun a wx hT hF K hK => rely_wp rfl (opr_fldR (by decide) rfl hF.1 (hK _ _ (NewT.refl _) rfl))
        · exact fun a wx hT hF K hK => rely_wp rfl (opr_ldI (hT.row R1.out) (by decide) rfl rfl hF.1 (hK _ _ (NewT.refl _) rfl))
        · exact fun a wx hT hF K hK => rely_wp rfl (opr_cv (RPart_cv hX _ ps ws need x.part x.epoch wx (hT.tables HT.out) (hT.keysV HK.out)) rfl Tryd.func45 (by kernel_rfl) (by kernel_rfl) (evs3 hF.1 hF.2.1 hF.2.2.1) hK)
        · exact fun a wx hT hF K hK => rely_wp rfl (opr_fldR (by decide) rfl hF.1 (hK _ _ (NewT.refl _) rfl))
        · exact fun a wx hT hF K hK => rely_wp rfl (opr_ldI (hT.row R1.out) (by decide) rfl rfl hF.1 (hK _ _ (NewT.refl _) rfl))
        · exact fun a wx hT hF K hK => rely_wp rfl (opr_fldR (by decide) rfl hF.1 (hK _ _ (NewT.refl _) rfl))
        · exact fun a wx hT hF K hK => rely_wp rfl (opr_ldI (hT.row R1.out) (by decide) rfl rfl hF.1 (hK _ _ (NewT.refl _) rfl))
        · exact fun a wx hT hF K hK => rely_wp rfl (opr_move (.inl rfl) (hK _ _ (NewT.refl _) hF.1))
        · exact fun a wx hT hF K hK => rely_wp rfl (opr_move (.inl rfl) (hK _ _ (NewT.refl _) hF.1))
        · exact fun a wx hT hF K hK => rely_wp rfl (opr_bsI5 rfl rfl hF.1 hF.2.1 hF.2.2.1 hF.2.2.2.1 hK)
        · exact fun a wx hT hF K hK => rely_wp rfl (opr_cv (RKey_cv (partH kf ps ws need x.part x.epoch) _ [2, x.saga, x.step, 0, 1] _ wx (hT.tables HT.out) hF.2.1 (by simp) (hX.key _ _)) rfl Tryd.func44 (by kernel_rfl) (by kernel_rfl) (evs2 hF.1 rfl) hK)
        · intro wx hT
          iterate 12 (intro u h; obtain rfl := Eq.symm (h (by simp)); clear h)
          intro _ _
          intro u h; obtain rfl := Eq.symm (h (by simp)); clear h
          refine relyEnd_nil rfl ?_
          simp only [Act.put, List.setIfInBounds_toArray, List.set_cons_zero, List.set_cons_succ]
          refine opr_store_new (B := w.heap.size) (W := w) info31 rfl rfl rfl (hT.row R0.out) (NewT.trans _ _ _ HN.out hT) (by omega) ?_
          intro w9 hB9 r9
          go_simp
          go_wp2
          exact bodyPost_ret (results_row rfl _ rfl r9 Tryd.underlying32 info31) rfl ⟨_, rfl, hB9, by rw [HE.out]; rfl⟩
      · rw [hbk] at c5
        rw [hgd] at c6
        have HE : Hid (recpH kf ps ws need x = kf (partH kf ps ws need x.part x.epoch) [2, x.saga, x.step, 1, 0]) := Lib.hid (by rw [HE0.out, hbk, hgd]; rfl)
        clear hbk hgd
        go_upto_region 8 with fail
        clear c5 c6
        refine wp_region_rely (NewT) [SV.eq (.agg (rowA 3 (keyF pv wv need))), SV.eq (.pointer (some ⟨w.heap.size + 1, 8, none⟩)), SV.eq (.int .i64 (x.part)), SV.eq (.pointer (some ⟨w.heap.size + 1, 9, none⟩)), SV.eq (.int .i64 (x.epoch)), SV.eq (.agg (rowA 32 (bF (partH kf ps ws need x.part x.epoch)))), SV.eq (.pointer (some ⟨w.heap.size + 1, 1, none⟩)), SV.eq (.int .i64 (x.saga)), SV.eq (.pointer (some ⟨w.heap.size + 1, 3, none⟩)), SV.eq (.int .i64 (x.step)), SV.eq (.int .i64 (1)), SV.eq (.int .i64 (0)), svInts [2, x.saga, x.step, 1, 0], SV.eq (.agg (rowA 32 (bF (kf (partH kf ps ws need x.part x.epoch) [2, x.saga, x.step, 1, 0]))))] [([(2, none)], none), ([(3, none)], none), ([(25, some 1)], none), ([(3, none)], none), ([(27, some 3)], none), ([(24, some 0), (26, some 2), (28, some 4)], none), ([(3, none)], none), ([(30, some 6)], none), ([(3, none)], none), ([(32, some 8)], none), ([(5, none)], none), ([(6, none)], none), ([(31, some 7), (33, some 9), (34, some 10), (35, some 11)], none), ([(29, some 5), (36, some 12)], none)] 38 rfl (by kernel_rfl) rfl (by kernel_rfl) (by kernel_rfl) rfl NewT.trans (NewT.drew _) (Nat.le_of_ble_eq_true rfl) ⟨?_, ?_, ?_, ?_, ?_, ?_, ?_, ?_, ?_, ?_, ?_, ?_, ?_, ?_, trivial⟩ ?_
        · exact fun a wx hT hF K hK => rely_wp rfl (opr_ldY (hT.row RK.out) rfl hF.1 (hK _ _ (NewT.refl _) rfl))
        · exact fun a wx hT hF K hK => rely_wp rfl (opr_fldR (by decide) rfl hF.1 (hK _ _ (NewT.refl _) rfl))
        · exact fun a wx hT hF K hK => rely_wp rfl (opr_ldI (hT.row R1.out) (by decide) rfl rfl hF.1 (hK _ _ (NewT.refl _) rfl))
        · exact fun a wx hT hF K hK => rely_wp rfl (opr_fldR (by decide) rfl hF.1 (hK _ _ (NewT.refl _) rfl))
        · exact fun a wx hT hF K hK => rely_wp rfl (opr_ldI (hT.row R1.out) (by decide) rfl rfl hF.1 (hK _ _ (NewT.refl _) rfl))
        · exact fun a wx hT hF K hK => rely_wp rfl (opr_cv (RPart_cv hX _ ps ws need x.part x.epoch wx (hT.tables HT.out) (hT.keysV HK.out)) rfl Tryd.func45 (by kernel_rfl) (by kernel_rfl) (evs3 hF.1 hF.2.1 hF.2.2.1) hK)
        · exact fun a wx hT hF K hK => rely_wp rfl (opr_fldR (by decide) rfl hF.1 (hK _ _ (NewT.refl _) rfl))
        · exact fun a wx hT hF K hK => rely_wp rfl (opr_ldI (hT.row R1.out) (by decide) rfl rfl hF.1 (hK _ _ (NewT.refl _) rfl))
        · exact fun a wx hT hF K hK => rely_wp rfl (opr_fldR (by decide) rfl hF.1 (hK _ _ (NewT.refl _) rfl))
        · exact fun a wx hT hF K hK => rely_wp rfl (opr_ldI (hT.row R1.out) (by decide) rfl rfl hF.1 (hK _ _ (NewT.refl _) rfl))
        · exact fun a wx hT hF K hK => rely_wp rfl (opr_move (.inl rfl) (hK _ _ (NewT.refl _) hF.1))
        · exact fun a wx hT hF K hK => rely_wp rfl (opr_move (.inl rfl) (hK _ _ (NewT.refl _) hF.1))
        · exact fun a wx hT hF K hK => rely_wp rfl (opr_bsI5 rfl rfl hF.1 hF.2.1 hF.2.2.1 hF.2.2.2.1 hK)
        · exact fun a wx hT hF K hK => rely_wp rfl (opr_cv (RKey_cv (partH kf ps ws need x.part x.epoch) _ [2, x.saga, x.step, 1, 0] _ wx (hT.tables HT.out) hF.2.1 (by simp) (hX.key _ _)) rfl Tryd.func44 (by kernel_rfl) (by kernel_rfl) (evs2 hF.1 rfl) hK)
        · intro wx hT
          iterate 12 (intro u h; obtain rfl := Eq.symm (h (by simp)); clear h)
          intro _ _
          intro u h; obtain rfl := Eq.symm (h (by simp)); clear h
          refine relyEnd_nil rfl ?_
          simp only [Act.put, List.setIfInBounds_toArray, List.set_cons_zero, List.set_cons_succ]
          refine opr_store_new (B := w.heap.size) (W := w) info31 rfl rfl rfl (hT.row R0.out) (NewT.trans _ _ _ HN.out hT) (by omega) ?_
          intro w9 hB9 r9
          go_simp
          go_wp2
          exact bodyPost_ret (results_row rfl _ rfl r9 Tryd.underlying32 info31) rfl ⟨_, rfl, hB9, by rw [HE.out]; rfl⟩
      · rw [hbk] at c5
        rw [hgd] at c6
        have HE : Hid (recpH kf ps ws need x = kf (partH kf ps ws need x.part x.epoch) [2, x.saga, x.step, 1, 1]) := Lib.hid (by rw [HE0.out, hbk, hgd]; rfl)
        clear hbk hgd
        go_upto_region 8 with fail
        clear c5 c6
        refine wp_region_rely (NewT) [SV.eq (.agg (rowA 3 (keyF pv wv need))), SV.eq (.pointer (some ⟨w.heap.size + 1, 8, none⟩)), SV.eq (.int .i64 (x.part)), SV.eq (.pointer (some ⟨w.heap.size + 1, 9, none⟩)), SV.eq (.int .i64 (x.epoch)), SV.eq (.agg (rowA 32 (bF (partH kf ps ws need x.part x.epoch)))), SV.eq (.pointer (some ⟨w.heap.size + 1, 1, none⟩)), SV.eq (.int .i64 (x.saga)), SV.eq (.pointer (some ⟨w.heap.size + 1, 3, none⟩)), SV.eq (.int .i64 (x.step)), SV.eq (.int .i64 (1)), SV.eq (.int .i64 (1)), svInts [2, x.saga, x.step, 1, 1], SV.eq (.agg (rowA 32 (bF (kf (partH kf ps ws need x.part x.epoch) [2, x.saga, x.step, 1, 1]))))] [([(2, none)], none), ([(3, none)], none), ([(25, some 1)], none), ([(3, none)], none), ([(27, some 3)], none), ([(24, some 0), (26, some 2), (28, some 4)], none), ([(3, none)], none), ([(30, some 6)], none), ([(3, none)], none), ([(32, some 8)], none), ([(5, none)], none), ([(6, none)], none), ([(31, some 7), (33, some 9), (34, some 10), (35, some 11)], none), ([(29, some 5), (36, some 12)], none)] 38 rfl (by kernel_rfl) rfl (by kernel_rfl) (by kernel_rfl) rfl NewT.trans (NewT.drew _) (Nat.le_of_ble_eq_true rfl) ⟨?_, ?_, ?_, ?_, ?_, ?_, ?_, ?_, ?_, ?_, ?_, ?_, ?_, ?_, trivial⟩ ?_
        · exact fun a wx hT hF K hK => rely_wp rfl (opr_ldY (hT.row RK.out) rfl hF.1 (hK _ _ (NewT.refl _) rfl))
        · exact fun a wx hT hF K hK => rely_wp rfl (opr_fldR (by decide) rfl hF.1 (hK _ _ (NewT.refl _) rfl))
        · exact fun a wx hT hF K hK => rely_wp rfl (opr_ldI (hT.row R1.out) (by decide) rfl rfl hF.1 (hK _ _ (NewT.refl _) rfl))
        · exact fun a wx hT hF K hK => rely_wp rfl (opr_fldR (by decide) rfl hF.1 (hK _ _ (NewT.refl _) rfl))
        · exact fun a wx hT hF K hK => rely_wp rfl (opr_ldI (hT.row R1.out) (by decide) rfl rfl hF.1 (hK _ _ (NewT.refl _) rfl))
        · exact fun a wx hT hF K hK => rely_wp rfl (opr_cv (RPart_cv hX _ ps ws need x.part x.epoch wx (hT.tables HT.out) (hT.keysV HK.out)) rfl Tryd.func45 (by kernel_rfl) (by kernel_rfl) (evs3 hF.1 hF.2.1 hF.2.2.1) hK)
        · exact fun a wx hT hF K hK => rely_wp rfl (opr_fldR (by decide) rfl hF.1 (hK _ _ (NewT.refl _) rfl))
        · exact fun a wx hT hF K hK => rely_wp rfl (opr_ldI (hT.row R1.out) (by decide) rfl rfl hF.1 (hK _ _ (NewT.refl _) rfl))
        · exact fun a wx hT hF K hK => rely_wp rfl (opr_fldR (by decide) rfl hF.1 (hK _ _ (NewT.refl _) rfl))
        · exact fun a wx hT hF K hK => rely_wp rfl (opr_ldI (hT.row R1.out) (by decide) rfl rfl hF.1 (hK _ _ (NewT.refl _) rfl))
        · exact fun a wx hT hF K hK => rely_wp rfl (opr_move (.inl rfl) (hK _ _ (NewT.refl _) hF.1))
        · exact fun a wx hT hF K hK => rely_wp rfl (opr_move (.inl rfl) (hK _ _ (NewT.refl _) hF.1))
        · exact fun a wx hT hF K hK => rely_wp rfl (opr_bsI5 rfl rfl hF.1 hF.2.1 hF.2.2.1 hF.2.2.2.1 hK)
        · exact fun a wx hT hF K hK => rely_wp rfl (opr_cv (RKey_cv (partH kf ps ws need x.part x.epoch) _ [2, x.saga, x.step, 1, 1] _ wx (hT.tables HT.out) hF.2.1 (by simp) (hX.key _ _)) rfl Tryd.func44 (by kernel_rfl) (by kernel_rfl) (evs2 hF.1 rfl) hK)
        · intro wx hT
          iterate 12 (intro u h; obtain rfl := Eq.symm (h (by simp)); clear h)
          intro _ _
          intro u h; obtain rfl := Eq.symm (h (by simp)); clear h
          refine relyEnd_nil rfl ?_
          simp only [Act.put, List.setIfInBounds_toArray, List.set_cons_zero, List.set_cons_succ]
          refine opr_store_new (B := w.heap.size) (W := w) info31 rfl rfl rfl (hT.row R0.out) (NewT.trans _ _ _ HN.out hT) (by omega) ?_
          intro w9 hB9 r9
          go_simp
          go_wp2
          exact bodyPost_ret (results_row rfl _ rfl r9 Tryd.underlying32 info31) rfl ⟨_, rfl, hB9, by rw [HE.out]; rfl⟩
    · have HE : Hid (recpH kf ps ws need x = z32) := Lib.hid (by unfold recpH; rw [or_not hb]; rfl)
      clear hb
      go_upto_region 2 with fail
      refine wp_region_steps0 NewT [SV.eq (.agg (rowA 32 (bF (z32))))] [([], none)] 38 1 rfl rfl (by kernel_rfl) NewT.trans (NewT.refl _) (Nat.le_of_ble_eq_true rfl) ⟨?_, trivial⟩ ?_
      · exact fun a wx hT hF K hK => rely_wp rfl (opr_build (pv := #[]) rfl (by simp) (build_z32 wx) (hK _ _ (NewT.refl _) rfl))
      · intro wx hT
        intro u h; obtain rfl := Eq.symm (h (by simp)); clear h
        refine relyEnd_nil rfl ?_
        simp only [Act.put, List.setIfInBounds_toArray, List.set_cons_zero, List.set_cons_succ]
        refine wpList_plain rfl (fun K hK => ?_)
        refine opr_store_new (B := w.heap.size) (W := w) info31 rfl rfl rfl (hT.row R0.out) (NewT.trans _ _ _ HN.out hT) (by omega) ?_
        intro w9 hB9 r9
        refine hK _ _ ?_
        refine wpList_end rfl ?_
        simp only [Act.put, List.setIfInBounds_toArray, List.set_cons_zero, List.set_cons_succ]
        go_simp
        go_wp2
        exact bodyPost_ret (results_row rfl _ rfl r9 Tryd.underlying32 info31) rfl ⟨_, rfl, hB9, by rw [HE.out]; rfl⟩
theorem holds_ref (kf : Hs → List Int → Hs) (ps ws : List Hs) (need : Int) (x : Rc) : (((rightB x && (x.kind == 3)) && hasB ps ws need x.part x.epoch) && eqH x.tag (recpH kf ps ws need x)) = holdsB kf ps ws need x := by
  unfold holdsB
  rw [eqH_comm x.tag, Bool.and_comm (rightB x)]
end Go.Proofs.YtchpmdcacpjojaaDoor
/- The laws' bound; Take in short; whether package part answers as the document's example. -/
namespace Go.Proofs.YtchpmdcacpjojaaDoor
open Go Go.RowKit
set_option maxRecDepth 8000
set_option linter.all false
theorem RdHI.mono {lo lo' hi : Nat} {w : World} {v : Value} {l : List Hs} (h : RdHI lo hi w v l) (hl : lo' ≤ lo) : RdHI lo' hi w v l := ⟨h.1, fun k hk => ⟨Nat.le_trans hl (h.2 k hk).1, (h.2 k hk).2⟩⟩
theorem PartAt.mono {w : World} {lo lo' hi g : Nat} {n e : Int} {ps ws : List Hs} {need : Int} {L : List En} (h : PartAt w lo hi g n e ps ws need L) (hl : lo' ≤ lo) : PartAt w lo' hi g n e ps ws need L := by
  obtain ⟨m, pv, wv, r1, r2, r3, r4, h1, h2, h3, h4⟩ := h
  exact ⟨m, pv, wv, r1, r2, r3.mono hl, r4.mono hl, by omega, h2, h3, h4⟩
theorem New_yes (B : Nat) (v : Value) (ps ws : List Hs) (need n : Int) (w : World) (hB : B ≤ w.heap.size) (hk : KeysV w v ps ws need) (hh : hasB ps ws need n 0 = true) : Cv 11 #[v, .int .i64 n] w (svPart B n ps ws need) := by
  have h := New_cv v ps ws need n w hk
  rw [if_pos hh] at h
  exact h.mono fun _ _ ⟨u, e1, hN, g, hi, h1, h2⟩ => ⟨u, e1, hN, g, hi, h1, h2.mono hB⟩
theorem New_no (v : Value) (ps ws : List Hs) (need n : Int) (w : World) (hk : KeysV w v ps ws need) (hh : hasB ps ws need n 0 = false) : Cv 11 #[v, .int .i64 n] w (.eq (.pointer none)) := by
  have h := New_cv v ps ws need n w hk
  rw [if_neg (by rw [hh]; simp)] at h
  exact h
theorem Take_k {kf : Hs → List Int → Hs} {tg : Hs → Hs → Hs} {pf : Int → Hs → Hs} (hX : KeyH kf tg pf) {lo hi g : Nat} {n e : Int} {ps ws : List Hs} {need : Int} {L L2 : List En} {c x : Cl} {r b : Bool} (w : World) (hT : Tables w) (hlo : 2 ≤ lo) (h : PartAt w lo hi g n e ps ws need L) (hb : itsB n c = b) (hx : takeC kf ps ws need n e L c r = x) (hL : takeL n L c r = L2) :
    Calls Tryd.prog 13 #[.pointer (some ⟨g, 0, none⟩), .agg (rowA 41 (clF c)), .bool r] w fun ex w' => ex = .returned (.tuple #[.agg (rowA 41 (clF x)), .bool b]) ∧ PT lo hi w w' ∧ PartAt w' lo hi g n e ps ws need L2 := by
  subst hb hx hL
  exact Take_c hX c r w hT hlo h
theorem Entries_a {lo hi g : Nat} {n e : Int} {ps ws : List Hs} {need : Int} {L : List En} (B : Nat) (w : World) (h : PartAt w lo hi g n e ps ws need L) (hL : L.length ≤ 1000000) (hB : B ≤ w.heap.size) : Cv 16 #[.pointer (some ⟨g, 0, none⟩)] w (svEs B L) := by
  obtain ⟨m, pv, wv, r1, _, _, r4⟩ := h.row
  exact Entries_cv B w r1 r4 hL hB
theorem Entries_L {lo hi g : Nat} {n e : Int} {ps ws : List Hs} {need : Int} {L : List En} (w : World) (h : PartAt w lo hi g n e ps ws need L) (hL : L.length ≤ 1000000) : Cv 16 #[.pointer (some ⟨g, 0, none⟩)] w (svL 4 eyE L) := (Entries_a 0 w h hL (Nat.zero_le _)).mono fun _ _ ⟨u, e1, hN, h1⟩ => ⟨u, e1, hN, h1.1⟩
theorem Epoch_a {lo hi g : Nat} {n e : Int} {ps ws : List Hs} {need : Int} {L : List En} (w : World) (h : PartAt w lo hi g n e ps ws need L) : Cv 15 #[.pointer (some ⟨g, 0, none⟩)] w (.eq (.int .i64 e)) := by
  obtain ⟨m, pv, wv, r1, _⟩ := h.row
  exact Epoch_cv w r1
def svLen {T : World → World → Prop} (n : Nat) : SV T := ⟨fun v _ => ∃ A c, v = .slice A n c, fun _ _ _ h _ => h⟩
theorem Entries_n {lo hi g : Nat} {n e : Int} {ps ws : List Hs} {need : Int} {L : List En} (w : World) (h : PartAt w lo hi g n e ps ws need L) (hL : L.length ≤ 1000000) : Cv 16 #[.pointer (some ⟨g, 0, none⟩)] w (svLen L.length) := (Entries_a 0 w h hL (Nat.zero_le _)).mono fun _ _ ⟨u, e1, hN, h1⟩ => ⟨u, e1, hN, by obtain ⟨A, c, hv, _⟩ := h1.1.form; exact ⟨A, c, hv⟩⟩
theorem recC_nil (c : Cl) (s : Int) : (recC c s).steps = [] ∧ (recC c s).data = [] := by unfold recC; split <;> exact ⟨rfl, rfl⟩
theorem recV_any {w w' : World} {v : Value} {x : Rc} (h : RecV w v x) (hx : x.steps = [] ∧ x.data = []) : RecV w' v x := by
  obtain ⟨sv, dv, hv, ⟨A, c, h1, h2, h3, _⟩, A', c', k1, k2, k3, _⟩ := h
  refine ⟨sv, dv, hv, ⟨A, c, h1, h2, h3, fun h0 => ?_⟩, A', c', k1, k2, k3, fun h0 => ?_⟩
  · rw [hx.1] at h0; cases h0
  · rw [hx.2] at h0; cases h0
def svRecP {T : World → World → Prop} (x : Rc) (h : x.steps = [] ∧ x.data = []) : SV T := ⟨fun v w => RecV w v x, fun _ _ _ k _ => recV_any k h⟩
def fewB (ps ws : List Hs) (m : Nat) : Bool := ((decide ((ps.length : Int) ≤ 20) && decide ((ws.length : Int) ≤ 20)) && decide ((m : Int) ≤ 60))
/-- An answer's receipt holds. -/
theorem holds_ans {kf : Hs → List Int → Hs} {n e : Int} {c : Cl} {g : Bool} {ps ws : List Hs} {need seq : Int} (hi : itsB n c = true) (hk : hasB ps ws need n 0 = true) (he : 0 ≤ e ∧ e ≤ 400) (hs : 1 ≤ seq ∧ seq ≤ 400) : holdsB kf ps ws need (recC (ansC kf ps ws need e c g) seq) = true := by
  obtain ⟨_, hp, h1, h2, h3, h4⟩ := (its_iff n c).1 hi
  obtain ⟨hm, h5, _⟩ := (hasB_iff _ _ _ _ _).1 hk
  have hl := (mayB_iff _ _ _).1 hm
  have ht := ans_tag kf ps ws need e c g seq
  have hkd : hasB ps ws need c.part e = true := (hasB_iff _ _ _ _ _).2 ⟨hm, by rw [hp]; exact h5, he⟩
  have e1 : recC (ansC kf ps ws need e c g) seq = { zR with kind := 3, saga := c.saga, seq := seq, step := c.step, tr := c.tr, back := c.back, good := g, part := c.part, epoch := e, tag := (ansC kf ps ws need e c g).tag } := rfl
  unfold holdsB
  rw [← ht]
  have hr : rightB (recC (ansC kf ps ws need e c g) seq) = true := by
    rw [e1]
    unfold rightB
    rw [if_neg (show ¬ ((3 : Int) = 1) by decide), if_neg (show ¬ ((3 : Int) = 2 ∨ (3 : Int) = 4) by decide), if_pos rfl]
    have k1 : inR c.saga 0 11 = true := (inR_iff _ _ _).2 h1
    have k2 : inR seq 1 400 = true := (inR_iff _ _ _).2 hs
    have k3 : inR c.step 0 5 = true := (inR_iff _ _ _).2 h2
    have k4 : inR c.tr 1 9 = true := (inR_iff _ _ _).2 h4
    have k5 : inR c.part 0 3 = true := (inR_iff _ _ _).2 (by omega)
    have k6 : inR e 0 400 = true := (inR_iff _ _ _).2 he
    simp only [isCall, noBegin, k1, k2, k3, k4, k5, k6, Bool.and_self, Bool.true_and, zR]
    decide
  rw [hr, e1]
  have e2 : hasB ps ws need ({ zR with kind := 3, saga := c.saga, seq := seq, step := c.step, tr := c.tr, back := c.back, good := g, part := c.part, epoch := e, tag := (ansC kf ps ws need e c g).tag } : Rc).part ({ zR with kind := 3, saga := c.saga, seq := seq, step := c.step, tr := c.tr, back := c.back, good := g, part := c.part, epoch := e, tag := (ansC kf ps ws need e c g).tag } : Rc).epoch = true := hkd
  rw [e2]
  simp only [beq_self_eq_true, Bool.and_self, Bool.true_and]
  exact eqH_self _
set_option maxHeartbeats 1000000 in
theorem few_cv (v u : Value) (ps ws : List Hs) (need : Int) (l : List Ac) (w : World) (hk : KeysV w v ps ws need) (hu : RdL 43 acE w u l) : Cv 10 #[v, u] w (.eq (.bool (fewB ps ws l.length))) := by
  unfold Cv
  obtain ⟨pv, wv, rfl, hpv, hwv⟩ := hk
  have HPP := Lib.hid hpv
  have HWW := Lib.hid hwv
  have HU := Lib.hid hu
  clear hpv hwv hu
  go_enter Tryd.func10, Tryd.ntmps10
  go_upto_region 1 with fail
  have r_g1 := rowIs_box w 24 3 (keyF pv wv need)
  have hN : NewT w (w.alloc (.cells (rowA 3 (keyF pv wv need)) 24)) := NewT.alloc _ _
  change Code.wp _ _ _ _ (w.alloc (.cells (rowA 3 (keyF pv wv need)) 24))
  generalize (w.alloc (.cells (rowA 3 (keyF pv wv need)) 24)) = W0 at r_g1 hN ⊢
  obtain ⟨g1, h_g1⟩ : ∃ g_, w.heap.size = g_ := ⟨_, rfl⟩
  have HG : Hid (w.heap.size ≤ g1) := Lib.hid (by omega)
  rw [h_g1] at r_g1
  simp only [h_g1]
  have Rg1 := Lib.hid r_g1
  have HM := Lib.hid hN
  clear r_g1 hN h_g1
  go_upto_region 1 with fail
  obtain ⟨q1_1, Q1_1⟩ : ∃ bq_, ((decide (((List.length (ps) : Int)) ≤ 20)) && (decide (((List.length (ws) : Int)) ≤ 20))) = bq_ := ⟨_, rfl⟩
  obtain ⟨q2_1, Q2_1⟩ : ∃ bq_, (q1_1 && (decide (((List.length (l) : Int)) ≤ 60))) = bq_ := ⟨_, rfl⟩
  refine wp_region_steps0 NewT [SV.eq (.pointer (some ⟨g1, 0, none⟩)), SV.eq (pv), SV.eq (.int .i64 ((List.length (ps) : Int))), SV.eq (.bool (decide (((List.length (ps) : Int)) ≤ 20))), SV.eq (.bool (decide (((List.length (ps) : Int)) ≤ 20))), svIf (decide (((List.length (ps) : Int)) ≤ 20)) (SV.eq (.pointer (some ⟨g1, 1, none⟩))), svIf (decide (((List.length (ps) : Int)) ≤ 20)) (SV.eq (wv)), svIf (decide (((List.length (ps) : Int)) ≤ 20)) (SV.eq (.int .i64 ((List.length (ws) : Int)))), svIf (decide (((List.length (ps) : Int)) ≤ 20)) (SV.eq (.bool (decide (((List.length (ws) : Int)) ≤ 20)))), SV.eq (.bool (q1_1)), SV.eq (.bool (q1_1)), svIf q1_1 (SV.eq (u)), svIf q1_1 (SV.eq (.int .i64 ((List.length (l) : Int)))), svIf q1_1 (SV.eq (.bool (decide (((List.length (l) : Int)) ≤ 60)))), SV.eq (.bool (q2_1)), SV.eq (.bool (q2_1))] [([(2, none)], none), ([(5, some 0)], none), ([(6, some 1)], none), ([(7, some 2)], none), ([(8, some 3)], none), ([(2, none), (9, some 4)], some (9, true)), ([(10, some 5), (9, some 4)], some (9, true)), ([(11, some 6), (9, some 4)], some (9, true)), ([(12, some 7), (9, some 4)], some (9, true)), ([(9, some 4), (13, some 8)], none), ([(14, some 9)], none), ([(1, none), (15, some 10)], some (15, true)), ([(16, some 11), (15, some 10)], some (15, true)), ([(17, some 12), (15, some 10)], some (15, true)), ([(15, some 10), (18, some 13)], none), ([(19, some 14)], none)] 20 16 rfl rfl (by kernel_rfl) NewT.trans (NewT.refl _) (Nat.le_of_ble_eq_true rfl) ⟨?_, ?_, ?_, ?_, ?_, ?_, ?_, ?_, ?_, ?_, ?_, ?_, ?_, ?_, ?_, ?_, trivial⟩ ?_
  · exact fun a wx hT hF K hK => rely_wp rfl (opr_fldY0 rfl hF.1 (hK _ _ (NewT.refl _) rfl))
  · exact fun a wx hT hF K hK => rely_wp rfl (opr_ldHs (hT.row Rg1.out) (by decide) rfl rfl hF.1 (hK _ _ (NewT.refl _) rfl))
  · intro a wx hT hF K hK
    obtain ⟨f6, _⟩ := hF
    have f6 : a.tmps.getD 6 undef = pv := f6
    refine rely_wp rfl ?_
    exact opr_len_h rfl (by rw [eval_tmp, f6]; exact (hT.hs (HM.out.hs HPP.out))) (hK _ _ (NewT.refl _) rfl)
  · exact fun a wx hT hF K hK => rely_wp rfl (opr_cmp (b := decide (((List.length (ps) : Int)) ≤ 20)) (.inr (.inr (.inl ⟨rfl, rfl⟩))) Tryd.underlying3 rfl hF.1 rfl (hK _ _ (NewT.refl _) rfl))
  · exact fun a wx hT hF K hK => rely_wp rfl (opr_move (.inl rfl) (hK _ _ (NewT.refl _) hF.1))
  · exact fun a wx hT hF K hK => rely_if (rely_gt hF.2.1) (NewT.refl _) hK fun hE hK => opr_fldY1 rfl hF.1 (hK _ _ (NewT.refl _) rfl)
  · exact fun a wx hT hF K hK => rely_if (rely_gt hF.2.1) (NewT.refl _) hK fun hE hK => opr_ldHs (hT.row Rg1.out) (by decide) rfl rfl (hF.1 hE) (hK _ _ (NewT.refl _) rfl)
  · intro a wx hT hF K hK
    obtain ⟨f11, f9, _⟩ := hF
    have f11 : (decide (((List.length (ps) : Int)) ≤ 20)) = true → a.tmps.getD 11 undef = wv := f11
    have f9 : a.tmps.getD 9 undef = .bool (decide (((List.length (ps) : Int)) ≤ 20)) := f9
    refine rely_if (rely_gt f9) (NewT.refl _) hK (fun hE hK => ?_)
    exact opr_len_h rfl (by rw [eval_tmp, (f11 hE)]; exact (hT.hs (HM.out.hs HWW.out))) (hK _ _ (NewT.refl _) rfl)
  · exact fun a wx hT hF K hK => rely_if (rely_gt hF.2.1) (NewT.refl _) hK fun hE hK => opr_cmp (b := decide (((List.length (ws) : Int)) ≤ 20)) (.inr (.inr (.inl ⟨rfl, rfl⟩))) Tryd.underlying3 rfl (hF.1 hE) rfl (hK _ _ (NewT.refl _) rfl)
  · exact fun a wx hT hF K hK => rely_wp rfl (opr_pick_b rfl hF.1 (fun hb => hK _ _ (NewT.refl _) (pn_and1 Q1_1 (hF.2.1 hb) hb)) (fun hb => hK _ _ (NewT.refl _) (pn_and0 Q1_1 hb)))
  · exact fun a wx hT hF K hK => rely_wp rfl (opr_move (.inl rfl) (hK _ _ (NewT.refl _) hF.1))
  · exact fun a wx hT hF K hK => rely_if (rely_gt hF.2.1) (NewT.refl _) hK fun hE hK => opr_move (.inl rfl) (hK _ _ (NewT.refl _) hF.1)
  · intro a wx hT hF K hK
    obtain ⟨f16, f15, _⟩ := hF
    have f16 : q1_1 = true → a.tmps.getD 16 undef = u := f16
    have f15 : a.tmps.getD 15 undef = .bool (q1_1) := f15
    refine rely_if (rely_gt f15) (NewT.refl _) hK (fun hE hK => ?_)
    exact opr_lenL rfl actEl (by rw [eval_tmp, (f16 hE)]; exact ((HU.out.new HM.out).new hT)) (hK _ _ (NewT.refl _) rfl)
  · exact fun a wx hT hF K hK => rely_if (rely_gt hF.2.1) (NewT.refl _) hK fun hE hK => opr_cmp (b := decide (((List.length (l) : Int)) ≤ 60)) (.inr (.inr (.inl ⟨rfl, rfl⟩))) Tryd.underlying3 rfl (hF.1 hE) rfl (hK _ _ (NewT.refl _) rfl)
  · exact fun a wx hT hF K hK => rely_wp rfl (opr_pick_b rfl hF.1 (fun hb => hK _ _ (NewT.refl _) (pn_and1 Q2_1 (hF.2.1 hb) hb)) (fun hb => hK _ _ (NewT.refl _) (pn_and0 Q2_1 hb)))
  · exact fun a wx hT hF K hK => rely_wp rfl (opr_move (.inr rfl) (hK _ _ (NewT.refl _) hF.1))
  · intro w1 k1
    iterate 5 (intro u h; obtain rfl := Eq.symm (h (by simp)); clear h)
    iterate 4 (intro _ _)
    iterate 2 (intro u h; obtain rfl := Eq.symm (h (by simp)); clear h)
    iterate 3 (intro _ _)
    iterate 2 (intro u h; obtain rfl := Eq.symm (h (by simp)); clear h)
    subst Q2_1 Q1_1
    refine relyEnd_nil rfl ?_
    refine wpList_end rfl ?_
    simp only [Act.put, List.setIfInBounds_toArray, List.set_cons_zero, List.set_cons_succ]
    go_simp
    replace Rg1 := Lib.hid (k1.row Rg1.out)
    replace HM := Lib.hid (NewT.trans _ _ _ HM.out k1)
    clear k1
    go_wp2
    go_ret
    exact ⟨_, rfl, HM.out, rfl⟩
end Go.Proofs.YtchpmdcacpjojaaDoor
